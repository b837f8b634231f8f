/-
  Superblocks in plain words: when one is fit, its sector, what a sector tells, there and back, which of two counts; torn sectors; no program.
-/
import Derived.Test.YtigiaiddnbpcmaaWirePlain
import Derived.Test.YtigiaiddnbpcmaaStampPlain
set_option linter.unusedVariables false
set_option maxRecDepth 4000
namespace Go.Proofs.Ytigiaiddnbpcmaa.SuperP
open WireP (enc encs text rdInt rdText done St)
open StampP (sl opn Torn)

structure Sup where
  gen : Int
  base : Int
  size : Int
  cg : Int
  chk : List Int
  log : List Int
def most : Int := 1099511627776
def Segs (l : List Int) : Prop := (∀ n ∈ l, 0 ≤ n ∧ n < 63) ∧ l.Nodup
instance (l : List Int) : Decidable (Segs l) := by unfold Segs; exact inferInstance
def Fit (x : Sup) : Prop := x.chk.length ≤ 63 ∧ x.log.length ≤ 63 ∧ (1 ≤ x.gen ∧ x.gen ≤ most ∧ 0 ≤ x.base ∧ x.base ≤ most ∧ 0 ≤ x.cg ∧ x.cg ≤ x.gen ∧ 0 < x.log.length ∧ Segs (x.chk ++ x.log)) ∧
  (if x.chk.length = 0 then x.cg = 0 ∧ x.size = 0 else 0 < x.cg ∧ 0 ≤ x.size ∧ x.size ≤ x.chk.length * 832)
instance (x : Sup) : Decidable (Fit x) := by unfold Fit; exact inferInstance
def octs (l : List Int) : List UInt8 := l.map fun n => UInt8.ofNat n.toNat
def nums (l : List UInt8) : List Int := l.map fun c => (c.toNat : Int)
/-- What stands in its sector. -/
def data (x : Sup) : List UInt8 := encs [x.gen, x.base, x.size, x.cg] ++ (text (octs x.chk) ++ text (octs x.log))
def sect (x : Sup) : List UInt8 := sl x.gen.toNat 0 1 (data x)
/-- What a text is read as, and whether nothing is left. -/
def rd (l : List UInt8) : Sup × Bool :=
  let g := rdInt 0 most (some l)
  let b := rdInt 0 most g.2
  let z := rdInt 0 most b.2
  let c := rdInt 0 most z.2
  let k := rdText 63 c.2
  let o := rdText 63 k.2
  (⟨g.1, b.1, z.1, c.1, nums k.1, nums o.1⟩, done o.2)
/-- What a sector tells. -/
def dec (l : List UInt8) : Option Sup :=
  match opn l with
  | none => none
  | some (_, _, _, s) => if (rd s).2 = true ∧ Fit (rd s).1 ∧ sect (rd s).1 = l then some (rd s).1 else none
/-- Which of two counts: the superblock, and whether it is the second one's. -/
def best (a b : List UInt8) : Option (Sup × Bool) :=
  match dec a, dec b with
  | none, none => none
  | some x, none => some (x, false)
  | none, some y => some (y, true)
  | some x, some y => if x.gen < y.gen then some (y, true) else some (x, false)

theorem nodup_le : ∀ (k : Nat) (l : List Int), (∀ n ∈ l, 0 ≤ n ∧ n < k) → l.Nodup → l.length ≤ k
  | 0, l, h, _ => by
    cases l with
    | nil => exact Nat.le_refl _
    | cons n r => have := h n (by simp); omega
  | k + 1, l, h, hd => by
    by_cases hk : (k : Int) ∈ l
    · have h2 := nodup_le k (l.erase (k : Int)) (fun n hn => by
        have hn2 := hd.mem_erase_iff.1 hn
        have := h n hn2.2
        have h3 := hn2.1
        omega) (hd.erase _)
      rw [List.length_erase_of_mem hk] at h2
      omega
    · have h2 := nodup_le k l (fun n hn => by
        have := h n hn
        have h3 : n ≠ (k : Int) := fun e => hk (e ▸ hn)
        omega) hd
      omega
theorem segs_len {l : List Int} (h : Segs l) : l.length ≤ 63 := nodup_le 63 l h.1 h.2
theorem enc_short {n : Int} {k : Nat} (h0 : 0 ≤ n) (h1 : 2 * n < (256 ^ k : Nat)) : (enc n).length ≤ k + 1 := by
  have hx := WireP.ix_pos h0
  have := WireP.be_len k (WireP.ix n) (by omega)
  show (WireP.be (WireP.ix n)).length + 1 ≤ k + 1
  omega
theorem data_length {x : Sup} (h : Fit x) : (data x).length ≤ 104 := by
  unfold Fit most at h
  obtain ⟨c1, c2, ⟨g1, g2, g3, g4, g5, g6, g7, g8⟩, g9⟩ := h
  have hs := segs_len g8
  rw [List.length_append] at hs
  have hz : 0 ≤ x.size ∧ x.size ≤ 52416 := by
    split at g9
    · omega
    · omega
  have l1 := enc_short (n := x.gen) (k := 6) (by omega) (by rw [show (256 : Nat) ^ 6 = 281474976710656 by decide]; omega)
  have l2 := enc_short (n := x.base) (k := 6) (by omega) (by rw [show (256 : Nat) ^ 6 = 281474976710656 by decide]; omega)
  have l3 := enc_short (n := x.size) (k := 3) (by omega) (by rw [show (256 : Nat) ^ 3 = 16777216 by decide]; omega)
  have l4 := enc_short (n := x.cg) (k := 6) (by omega) (by rw [show (256 : Nat) ^ 6 = 281474976710656 by decide]; omega)
  have l5 := enc_short (n := ((octs x.chk).length : Int)) (k := 1) (by omega) (by simp [octs]; omega)
  have l6 := enc_short (n := ((octs x.log).length : Int)) (k := 1) (by omega) (by simp [octs]; omega)
  have o1 : (octs x.chk).length = x.chk.length := by simp [octs]
  have o2 : (octs x.log).length = x.log.length := by simp [octs]
  simp only [data, encs, List.flatMap_cons, List.flatMap_nil, List.append_nil, List.length_append, text]
  omega
theorem rdInt_back {n lo hi : Int} (h0 : lo ≤ n) (h1 : n ≤ hi) (hl : -9223372036854775808 ≤ lo) (hh : hi ≤ 9223372036854775807) (r : List UInt8) : rdInt lo hi (some (enc n ++ r)) = (n, some r) := by
  have b0 : -9223372036854775808 ≤ n := by omega
  have b1 : n ≤ 9223372036854775807 := by omega
  show ite _ _ _ = _
  rw [if_pos ⟨WireP.ok_enc b0 b1 r, by rw [WireP.num_enc b0 b1]; exact h0, by rw [WireP.num_enc b0 b1]; exact h1⟩, WireP.num_enc b0 b1, WireP.drop_enc b0 b1]
theorem rdText_back {m : Int} (l r : List UInt8) (h : (l.length : Int) ≤ m) (hm : m ≤ 1000000) : rdText m (some (text l ++ r)) = (l, some r) := by
  have h0 : -9223372036854775808 ≤ ((l.length : Nat) : Int) := by omega
  have h1 : ((l.length : Nat) : Int) ≤ 9223372036854775807 := by omega
  have hd := WireP.drop_enc h0 h1 (l ++ r)
  have hlen := congrArg List.length hd
  rw [List.length_drop] at hlen
  have hlr : (l ++ r).length = l.length + r.length := List.length_append
  have e2 : (enc ((l.length : Nat) : Int) ++ (l ++ r)).drop (1 + WireP.nl (enc ((l.length : Nat) : Int) ++ (l ++ r)) + l.length) = r := by rw [← List.drop_drop, hd, List.drop_left]
  have e : text l ++ r = enc ((l.length : Nat) : Int) ++ (l ++ r) := by unfold text; rw [List.append_assoc]
  rw [e]
  have hk : WireP.lenOk m (enc ((l.length : Nat) : Int) ++ (l ++ r)) := by
    refine ⟨WireP.ok_enc h0 h1 _, ?_, ?_, ?_⟩
    · rw [WireP.num_enc h0 h1]; omega
    · rw [WireP.num_enc h0 h1]; exact h
    · rw [WireP.num_enc h0 h1, hlen]; omega
  show ite _ _ _ = _
  rw [if_pos hk, WireP.num_enc h0 h1, Int.toNat_natCast, e2, hd, List.take_left]
theorem nums_octs {l : List Int} (h : ∀ n ∈ l, 0 ≤ n ∧ n < 63) : nums (octs l) = l := by
  induction l with
  | nil => rfl
  | cons n r ih =>
    have hn := h n (by simp)
    show ((UInt8.ofNat n.toNat).toNat : Int) :: nums (octs r) = _
    rw [ih fun m hm => h m (List.mem_cons_of_mem _ hm), UInt8.toNat_ofNat']
    congr 1
    omega
theorem rd_data {x : Sup} (h : Fit x) : rd (data x) = (x, true) := by
  unfold Fit most at h
  obtain ⟨c1, c2, ⟨g1, g2, g3, g4, g5, g6, g7, g8⟩, g9⟩ := h
  have hz : 0 ≤ x.size ∧ x.size ≤ 52416 := by
    split at g9
    · omega
    · omega
  have o1 : (octs x.chk).length = x.chk.length := by simp [octs]
  have o2 : (octs x.log).length = x.log.length := by simp [octs]
  have n1 := nums_octs (l := x.chk) fun n hn => g8.1 n (List.mem_append_left _ hn)
  have n2 := nums_octs (l := x.log) fun n hn => g8.1 n (List.mem_append_right _ hn)
  have e : data x = enc x.gen ++ (enc x.base ++ (enc x.size ++ (enc x.cg ++ (text (octs x.chk) ++ (text (octs x.log) ++ []))))) := by
    simp only [data, encs, List.flatMap_cons, List.flatMap_nil, List.append_nil, List.append_assoc]
  rw [e]
  unfold rd most
  simp only [rdInt_back (n := x.gen) (lo := 0) (hi := 1099511627776) (by omega) (by omega) (by omega) (by omega),
    rdInt_back (n := x.base) (lo := 0) (hi := 1099511627776) (by omega) (by omega) (by omega) (by omega),
    rdInt_back (n := x.size) (lo := 0) (hi := 1099511627776) (by omega) (by omega) (by omega) (by omega),
    rdInt_back (n := x.cg) (lo := 0) (hi := 1099511627776) (by omega) (by omega) (by omega) (by omega),
    rdText_back (m := 63) (octs x.chk) _ (by omega) (by omega), rdText_back (m := 63) (octs x.log) _ (by omega) (by omega), n1, n2]
  rfl
theorem fit_stamp {x : Sup} (h : Fit x) : StampP.fit (x.gen.toNat : Int) ((0 : Nat) : Int) ((1 : Nat) : Int) := by
  unfold Fit most at h
  obtain ⟨_, _, ⟨g1, g2, _⟩, _⟩ := h
  unfold StampP.fit
  omega
theorem opn_sect {x : Sup} (h : Fit x) : opn (sect x) = some (x.gen.toNat, 0, 1, data x) := StampP.opn_sl (fit_stamp h) (data_length h)
/-- What is encoded is decoded. -/
theorem dec_sect {x : Sup} (h : Fit x) : dec (sect x) = some x := by
  unfold dec
  rw [opn_sect h]
  simp only [rd_data h]
  rw [if_pos ⟨trivial, h, trivial⟩]
theorem sect_length {x : Sup} (h : Fit x) : (sect x).length = 128 := StampP.sl_length _ _ _ _ (data_length h)
/-- What is decoded is encoded as it was. -/
theorem dec_some {l : List UInt8} {x : Sup} (h : dec l = some x) : Fit x ∧ l = sect x := by
  unfold dec at h
  split at h
  · cases h
  · rename_i s _
    split at h
    · rename_i hc
      cases h
      exact ⟨hc.2.1, hc.2.2.symm⟩
    · cases h
theorem dec_none {l : List UInt8} (h : opn l = none) : dec l = none := by unfold dec; rw [h]
/-- A torn sector tells what was written, or nothing. -/
theorem dec_torn {x : Sup} {b : List UInt8} (h : Fit x) (ht : Torn (sect x) b) : dec b = none ∨ (b = sect x ∧ dec b = some x) := by
  rcases ho : opn b with _ | ⟨n, i, c, s⟩
  · exact .inl (dec_none ho)
  · have e := StampP.torn_open (fit_stamp h) (data_length h) ht ho
    exact .inr ⟨e, by rw [e]; exact dec_sect h⟩
theorem torn_self {a : List UInt8} (ha : a.length = 128) : Torn a a := by
  refine ⟨ha, ha, 0, 128, fun p => ?_⟩
  by_cases h : p < 128
  · rw [if_pos ⟨Nat.zero_le _, h⟩]
  · rw [if_neg (by omega)]
    simp [List.getD, List.getElem?_eq_none (show a.length ≤ p by omega)]
theorem best_none {a b : List UInt8} (ha : dec a = none) (hb : dec b = none) : best a b = none := by unfold best; rw [ha, hb]
theorem best_left {a b : List UInt8} {x : Sup} (ha : dec a = some x) (hb : dec b = none) : best a b = some (x, false) := by unfold best; rw [ha, hb]
theorem best_right {a b : List UInt8} {y : Sup} (ha : dec a = none) (hb : dec b = some y) : best a b = some (y, true) := by unfold best; rw [ha, hb]
theorem best_both {a b : List UInt8} {x y : Sup} (ha : dec a = some x) (hb : dec b = some y) : best a b = if x.gen < y.gen then some (y, true) else some (x, false) := by unfold best; rw [ha, hb]
/-- Beside a superblock that counts, an elder one's sector, whole or torn, does not count. -/
theorem best_elder {x z : Sup} {b : List UInt8} (hx : Fit x) (hz : Fit z) (hg : z.gen < x.gen) (ht : Torn (sect z) b) : best (sect x) b = some (x, false) := by
  rcases dec_torn hz ht with h | ⟨_, h⟩
  · exact best_left (dec_sect hx) h
  · rw [best_both (dec_sect hx) h, if_neg (by omega)]
/-- Beside it a newer one's sector, whole or torn: one of both counts. -/
theorem best_newer {x y : Sup} {b : List UInt8} (hx : Fit x) (hy : Fit y) (hg : x.gen < y.gen) (ht : Torn (sect y) b) : best (sect x) b = some (x, false) ∨ best (sect x) b = some (y, true) := by
  rcases dec_torn hy ht with h | ⟨_, h⟩
  · exact .inl (best_left (dec_sect hx) h)
  · exact .inr (by rw [best_both (dec_sect hx) h, if_pos hg])
end Go.Proofs.Ytigiaiddnbpcmaa.SuperP
