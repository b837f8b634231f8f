/-
  How items and books stand in memory; rows of items of the call's own; the contracts of strings.Compare, of place's closure, of BinarySearchFunc over it, and of place: items in order; what was there stays as it was.
-/
import Derived.Test.YtjclkiabgemfpaaGreatPdHoldsN
import Derived.Test.YtjclkiabgemfpaaGreatPdLedgerPlain
import Derived.Test.YtjclkiabgemfpaaGreatPdStockD
import Derived.Laws.Externs
import Derived.Lib.Bytealg
set_option linter.unusedVariables false
set_option maxRecDepth 4000
namespace Go.Proofs.YtjclkiabgemfpaaGreat.Ledger
open Go.RowKit LinesP HoldsP LedgerP
open StockP (Sk sk0 fitS Fit fitS_iff)
open Go.Proofs.YtjclkiabgemfpaaGreat.Lines (LsAt Sz SzM ret_bool ret_int below_keep below_drewN owns_form owns_cell owns_below)
open Go.Proofs.YtjclkiabgemfpaaGreat.Holds (HsAt SzH hmf)

def Row6 (w : World) (b o : Nat) (x : Sk) : Prop :=
  w.cell? ⟨b, o, none⟩ = some (.string x.nm) ∧ w.cell? ⟨b, o + 1, none⟩ = some (.int .i64 x.hand) ∧ w.cell? ⟨b, o + 2, none⟩ = some (.int .i64 x.held) ∧
  w.cell? ⟨b, o + 3, none⟩ = some (.int .i64 x.kept) ∧ w.cell? ⟨b, o + 4, none⟩ = some (.int .i64 x.sent) ∧ w.cell? ⟨b, o + 5, none⟩ = some (.int .i64 x.inn)
theorem Row6.keep {w w' : World} {b o : Nat} {x : Sk} (h : Row6 w b o x) (hlt : b < w.heap.size) (hb : Below w.heap.size w w') : Row6 w' b o x := by
  obtain ⟨h0, h1, h2, h3, h4, h5⟩ := h
  exact ⟨(hb.cell (p := ⟨b, o, none⟩) hlt).trans h0, (hb.cell (p := ⟨b, o + 1, none⟩) hlt).trans h1, (hb.cell (p := ⟨b, o + 2, none⟩) hlt).trans h2, (hb.cell (p := ⟨b, o + 3, none⟩) hlt).trans h3, (hb.cell (p := ⟨b, o + 4, none⟩) hlt).trans h4, (hb.cell (p := ⟨b, o + 5, none⟩) hlt).trans h5⟩
def SkAt (w : World) (a : Option Addr) (len : Nat) (l : List Sk) : Prop :=
  l.length = len ∧ len ≤ 1000000000 ∧ (len = 0 ∨ ∃ b off, a = some ⟨b, off, none⟩ ∧ b < w.heap.size ∧ ∀ i, i < len → Row6 w b (off + i * 6) (l.getD i sk0))
theorem SkAt.keep {w w' : World} {a : Option Addr} {len : Nat} {l : List Sk} (h : SkAt w a len l) (hb : Below w.heap.size w w') : SkAt w' a len l :=
  ⟨h.1, h.2.1, h.2.2.imp id (fun ⟨b, off, e, hlt, hc⟩ => ⟨b, off, e, by have := hb.size; omega, fun i hi => (hc i hi).keep hlt hb⟩)⟩
theorem SkAt.nil (w : World) (a : Option Addr) : SkAt w a 0 [] := ⟨rfl, by omega, .inl rfl⟩
theorem SkAt.at {w : World} {a : Option Addr} {len : Nat} {l : List Sk} (h : SkAt w a len l) {k : Nat} (hk : k < len) :
    ∃ b off s x0 x1 x2 x3 x4, a = some ⟨b, off, none⟩ ∧ b < w.heap.size ∧ l.getD k sk0 = ⟨s, x0, x1, x2, x3, x4⟩ ∧ ∀ w', Below w.heap.size w w' →
      w'.cell? ⟨b, off + k * 6, none⟩ = some (.string s) ∧ w'.cell? ⟨b, off + k * 6 + 1, none⟩ = some (.int .i64 x0) ∧ w'.cell? ⟨b, off + k * 6 + 2, none⟩ = some (.int .i64 x1) ∧
      w'.cell? ⟨b, off + k * 6 + 3, none⟩ = some (.int .i64 x2) ∧ w'.cell? ⟨b, off + k * 6 + 4, none⟩ = some (.int .i64 x3) ∧ w'.cell? ⟨b, off + k * 6 + 5, none⟩ = some (.int .i64 x4) := by
  rcases h.2.2 with h0 | ⟨b, off, rfl, hlt, hc⟩
  · omega
  have hr := hc k hk
  obtain ⟨⟨s, x0, x1, x2, x3, x4⟩, hx⟩ : ∃ x, l.getD k sk0 = x := ⟨_, rfl⟩
  rw [hx] at hr
  exact ⟨b, off, s, x0, x1, x2, x3, x4, rfl, hlt, hx, fun w' hb => hr.keep hlt hb⟩
def scell (x : Sk) : List Value := [.string x.nm, .int .i64 x.hand, .int .i64 x.held, .int .i64 x.kept, .int .i64 x.sent, .int .i64 x.inn]
def scells (l : List Sk) : List Value := l.flatMap scell
theorem scells_append (a b : List Sk) : scells (a ++ b) = scells a ++ scells b := by simp [scells]
theorem scells_len (l : List Sk) : (scells l).length = l.length * 6 := by
  induction l with
  | nil => rfl
  | cons z r ih => show (scell z ++ scells r).length = _; rw [List.length_append, ih, List.length_cons]; simp [scell]; omega
theorem scells_one (l : List Sk) : ∀ u ∈ scells l, u.oneCell' = true := by
  intro u hu
  obtain ⟨z, _, hz⟩ := List.mem_flatMap.1 hu
  simp only [scell, List.mem_cons, List.mem_nil_iff, or_false] at hz
  rcases hz with rfl | rfl | rfl | rfl | rfl | rfl <;> rfl
theorem scells_get : ∀ (l : List Sk) (k : Nat) (x : Sk), l[k]? = some x → (scells l)[k * 6]? = some (.string x.nm) ∧ (scells l)[k * 6 + 1]? = some (.int .i64 x.hand) ∧ (scells l)[k * 6 + 2]? = some (.int .i64 x.held) ∧
    (scells l)[k * 6 + 3]? = some (.int .i64 x.kept) ∧ (scells l)[k * 6 + 4]? = some (.int .i64 x.sent) ∧ (scells l)[k * 6 + 5]? = some (.int .i64 x.inn)
  | [], k, x, h => by simp at h
  | y :: l, 0, x, h => by simp at h; subst h; exact ⟨rfl, rfl, rfl, rfl, rfl, rfl⟩
  | y :: l, k + 1, x, h => by
    have h2 := scells_get l k x (by simpa using h)
    rw [show (k + 1) * 6 = k * 6 + 1 + 1 + 1 + 1 + 1 + 1 by omega]
    exact h2
theorem scells_at {w : World} {b off len : Nat} {l : List Sk} (hl : l.length = len) (hc : ∀ i, i < len → Row6 w b (off + i * 6) (l.getD i sk0)) :
    ∀ j u, (scells l)[j]? = some u → w.cell? ⟨b, off + j, none⟩ = some u := by
  intro j u hu
  have hj := (List.getElem?_eq_some_iff.1 hu).1
  rw [scells_len, hl] at hj
  obtain ⟨i, r, hr, rfl⟩ : ∃ i r, r < 6 ∧ j = i * 6 + r := ⟨j / 6, j % 6, by omega, by omega⟩
  have hi : i < len := by omega
  have hiz : i < l.length := by omega
  have hz : l[i]? = some (l.getD i sk0) := by simp [List.getD, hiz]
  obtain ⟨g0, g1, g2, g3, g4, g5⟩ := scells_get l i _ hz
  obtain ⟨c0, c1, c2, c3, c4, c5⟩ := hc i hi
  rcases (by omega : r = 0 ∨ r = 1 ∨ r = 2 ∨ r = 3 ∨ r = 4 ∨ r = 5) with rfl | rfl | rfl | rfl | rfl | rfl
  · rw [Nat.add_zero, g0] at hu; cases hu; exact c0
  · rw [g1] at hu; cases hu; rw [← Nat.add_assoc]; exact c1
  · rw [g2] at hu; cases hu; rw [← Nat.add_assoc]; exact c2
  · rw [g3] at hu; cases hu; rw [← Nat.add_assoc]; exact c3
  · rw [g4] at hu; cases hu; rw [← Nat.add_assoc]; exact c4
  · rw [g5] at hu; cases hu; rw [← Nat.add_assoc]; exact c5
theorem sk_own {w : World} {B n c : Nat} {a : Option Addr} {l : List Sk} (h : w.ownsRow B 41 6 (.slice a n c) n (scells l)) (hn : l.length = n) (hl : n ≤ 1000000000) : SkAt w a n l := by
  rcases owns_form h with ⟨e, h0⟩ | ⟨g, cap, e, _, hlt⟩
  · exact ⟨hn, hl, .inl h0⟩
  · cases e
    refine ⟨hn, hl, .inr ⟨g, 0, rfl, hlt, fun i hi => ?_⟩⟩
    have hi' : i < l.length := by omega
    obtain ⟨h0, h1, h2, h3, h4, h5⟩ := scells_get l i l[i] (List.getElem?_eq_getElem hi')
    have e : l.getD i sk0 = l[i] := by simp [List.getD, hi']
    rw [e, Nat.zero_add]
    exact ⟨owns_cell h rfl h0, owns_cell h rfl h1, owns_cell h rfl h2, owns_cell h rfl h3, owns_cell h rfl h4, owns_cell h rfl h5⟩
def SzS (l : List Sk) : Prop := ∀ x ∈ l, x.nm.size ≤ 300
theorem smem_getD {l : List Sk} {k : Nat} (hk : k < l.length) : l.getD k sk0 ∈ l := by
  rw [show l.getD k sk0 = l[k] by simp [List.getD, hk]]; exact List.getElem_mem hk
/-! ### place -/
theorem cmpb_lt : ∀ (a b : List UInt8), (Lib.compareBytes a b < 0) ↔ a < b
  | [], [] => by simp [Lib.compareBytes]
  | [], _ :: _ => by simp [Lib.compareBytes]
  | _ :: _, [] => by simp [Lib.compareBytes]
  | a :: r, b :: q => by
    rw [Lib.compareBytes, List.cons_lt_cons_iff]
    by_cases h1 : a < b
    · rw [if_pos h1]; simp [h1]
    · rw [if_neg h1]
      by_cases h2 : b < a
      · rw [if_pos h2]
        have : a ≠ b := fun e => by rw [e] at h2; exact absurd h2 (by simp)
        simp [h1, this]
      · rw [if_neg h2, cmpb_lt r q]
        have : a = b := UInt8.le_antisymm (UInt8.not_lt.1 h2) (UInt8.not_lt.1 h1)
        simp [this]
theorem cmpb_eq : ∀ (a b : List UInt8), (Lib.compareBytes a b = 0) ↔ a = b
  | [], [] => by simp [Lib.compareBytes]
  | [], _ :: _ => by simp [Lib.compareBytes]
  | _ :: _, [] => by simp [Lib.compareBytes]
  | a :: r, b :: q => by
    rw [Lib.compareBytes]
    by_cases h1 : a < b
    · rw [if_pos h1]
      have : a ≠ b := fun e => by rw [e] at h1; exact absurd h1 (by simp)
      simp [this]
    · rw [if_neg h1]
      by_cases h2 : b < a
      · rw [if_pos h2]
        have : a ≠ b := fun e => by rw [e] at h2; exact absurd h2 (by simp)
        simp [this]
      · rw [if_neg h2, cmpb_eq r q]
        have : a = b := UInt8.le_antisymm (UInt8.not_lt.1 h2) (UInt8.not_lt.1 h1)
        simp [this]
def cmpS (a b : ByteArray) : Int := Lib.compareBytes a.data.toList b.data.toList
theorem cmpS_lt {a b : ByteArray} : cmpS a b < 0 ↔ lt a b := cmpb_lt _ _
theorem cmpS_eq {a b : ByteArray} : cmpS a b = 0 ↔ a = b := by
  unfold cmpS
  rw [cmpb_eq]
  constructor
  · intro h
    obtain ⟨⟨xa⟩⟩ := a
    obtain ⟨⟨ya⟩⟩ := b
    simp at h
    simp [h]
  · rintro rfl; rfl
theorem cmpstring_any (a b : ByteArray) (v : Int) (hv : cmpS a b = v) (w : World) : Calls Tryz.prog 109 #[.string a, .string b] w fun e w' => e = .returned (.int .i64 v) ∧ w = w' := by
  subst hv
  go_enter Tryz.func109, Tryz.ntmps109
  go_wp2
  rw [run_callFunc_extern Tryz.func119 (by kernel_rfl) (by kernel_rfl) (by kernel_rfl) (e := Extern.BytealgCompare.compare) (by kernel_rfl), Lib.run_compareString]
  simp only [Result.andThen]
  rw [Oper.upon_value]
  go_wp2
  go_ret
  exact ⟨rfl, rfl⟩
theorem compare_any (a b : ByteArray) (v : Int) (hv : cmpS a b = v) (w : World) : Calls Tryz.prog 85 #[.string a, .string b] w fun e w' => e = .returned (.int .i64 v) ∧ w = w' := by
  have C := Lib.hid (fun w => cmpstring_any a b v hv w)
  clear hv
  go_enter Tryz.func85, Tryz.ntmps85
  go_wp2_with fail
  refine (C.out _).mono ?_
  rintro e w1 ⟨rfl, rfl⟩
  go_wp2_with fail
  go_ret
  exact ⟨rfl, rfl⟩
theorem pcmp_any (s t : ByteArray) (x0 x1 x2 x3 x4 : Int) (v : Int) (hv : cmpS s t = v) (w : World) :
    Calls Tryz.prog 84 #[.agg #[.string s, .int .i64 x0, .int .i64 x1, .int .i64 x2, .int .i64 x3, .int .i64 x4], .string t] w fun e w' => e = .returned (.int .i64 v) ∧ Below w.heap.size w w' := by
  have C := Lib.hid (fun w => compare_any s t v hv w)
  have HB := Lib.hid (bx_new w (.string s) (.int .i64 x0) (.int .i64 x1) (.int .i64 x2) (.int .i64 x3) (.int .i64 x4))
  clear hv
  go_enter Tryz.func84, Tryz.ntmps84
  go_wp2_with fail
  refine (C.out _).mono ?_
  rintro e w1 ⟨rfl, rfl⟩
  go_wp2_with fail
  go_ret
  exact ⟨rfl, HB.out.bel⟩
def posS (s : ByteArray) : List Sk → Nat
  | [] => 0
  | x :: r => if lss x.nm s = true then posS s r + 1 else 0
theorem posS_le (s : ByteArray) : ∀ (l : List Sk), posS s l ≤ l.length
  | [] => Nat.le_refl _
  | x :: r => by rw [posS]; split <;> simp [posS_le s r]
theorem posS_iff {s : ByteArray} : ∀ {l : List Sk}, UpS l → ∀ {i : Nat}, i < l.length → (i < posS s l ↔ lt (l.getD i sk0).nm s)
  | x :: r, hp, i, hi => by
    have hp2 := List.pairwise_cons.1 hp
    rw [posS]
    by_cases h : lss x.nm s = true
    · rw [if_pos h]
      cases i with
      | zero => simp only [List.getD_cons_zero]; exact ⟨fun _ => lss_lt.1 h, fun _ => Nat.succ_pos _⟩
      | succ i =>
        rw [List.getD_cons_succ, ← posS_iff hp2.2 (by simpa using hi)]
        omega
    · rw [if_neg h]
      refine ⟨fun k => absurd k (Nat.not_lt_zero _), fun k => ?_⟩
      cases i with
      | zero => exact absurd (lss_lt.2 (by simpa using k)) h
      | succ i =>
        have hi2 : i < r.length := by simpa using hi
        rw [List.getD_cons_succ] at k
        exact absurd (lss_lt.2 (lt_trans (hp2.1 _ (smem_getD hi2)) k)) h
theorem find_posS : ∀ {l : List Sk} {s : ByteArray}, UpS l → findS s l = if posS s l < l.length ∧ (l.getD (posS s l) sk0).nm = s then some (l.getD (posS s l) sk0) else none
  | [], s, _ => by simp [findS]
  | x :: r, s, hp => by
    have hp2 := List.pairwise_cons.1 hp
    rw [findS, posS]
    by_cases h1 : x.nm = s
    · have h2 : ¬ lss x.nm s = true := fun k => lt_ne (lss_lt.1 k) h1
      rw [if_pos h1, if_neg h2, if_pos ⟨by simp, by simpa using h1⟩]; simp
    · rw [if_neg h1]
      by_cases h2 : lss x.nm s = true
      · rw [if_pos h2, find_posS hp2.2]
        simp only [List.length_cons, Nat.add_lt_add_iff_right, List.getD_cons_succ]
      · rw [if_neg h2, if_neg (by intro h; exact h1 (by simpa using h.2))]
        have hlt : lt s x.nm := lt_total (by simpa using h2) h1
        exact findS_none.2 fun y hy e => lt_ne (lt_trans hlt (hp2.1 y hy)) e.symm
theorem placeS_some {l : List Sk} {s : ByteArray} (hf : UpS l) (h1 : posS s l < l.length) (h2 : (l.getD (posS s l) sk0).nm = s) : findS s l = some (l.getD (posS s l) sk0) := by
  rw [find_posS hf, if_pos ⟨h1, h2⟩]
theorem placeS_none {l : List Sk} {s : ByteArray} (hf : UpS l) (h : ¬ (posS s l < l.length ∧ (l.getD (posS s l) sk0).nm = s)) : findS s l = none := by
  rw [find_posS hf, if_neg h]
theorem placeS_found {l : List Sk} {s : ByteArray} {y : Sk} (hf : UpS l) (h : findS s l = some y) : posS s l < l.length ∧ l.getD (posS s l) sk0 = y ∧ y.nm = s := by
  have h2 := find_posS (s := s) hf
  rw [h] at h2
  split at h2
  · rename_i k; cases h2; exact ⟨k.1, rfl, k.2⟩
  · cases h2
theorem ret_two {v : Value} {a b : Bool} (h : a = b) : Ending.returned (.tuple #[v, .bool b]) = .returned (.tuple #[v, .bool a]) := by rw [h]
set_option maxHeartbeats 2000000 in
theorem bsearch_any (a : Option Addr) (len cap : Nat) (l : List Sk) (s : ByteArray) (w : World) (h : SkAt w a len l) (hf : UpS l) :
    Calls Tryz.prog 83 #[.slice a len cap, .string s, .func (.func 84) #[] #[]] w
      fun e w' => e = .returned (.tuple #[.int .i64 ((posS s l : Nat) : Int), .bool (findS s l).isSome]) ∧ Below w.heap.size w w' := by
  have hlen := h.1
  have hbig := h.2.1
  have hpl : posS s l ≤ len := by rw [← hlen]; exact posS_le s l
  have HX := Lib.hid h
  have HP := Lib.hid (fun (m : Nat) (hm : m < len) => posS_iff (s := s) hf (i := m) (by rw [hlen]; exact hm))
  have hps := @placeS_some l s hf
  have hpn := @placeS_none l s hf
  obtain ⟨p, hp⟩ : ∃ p, posS s l = p := ⟨_, rfl⟩
  rw [hp] at hpl HP hps hpn ⊢
  rw [hlen] at hps hpn
  have HPS := Lib.hid hps
  have HPN := Lib.hid hpn
  obtain ⟨v, hv⟩ : ∃ v, (findS s l).isSome = v := ⟨_, rfl⟩
  rw [hv]
  have HV := Lib.hid hv
  clear hp hf h hlen hps hpn hv
  go_enter Tryz.func83, Tryz.ntmps83
  go_wp2_with fail
  go_loopw [9, 10] (fun i j wr => ∃ lo hi : Nat, i = .int .i64 (lo : Int) ∧ j = .int .i64 (hi : Int) ∧ lo ≤ p ∧ p ≤ hi ∧ hi ≤ len ∧ Hid (Below w.heap.size w wr)) (fun i j _ => (intOf j).toNat - (intOf i).toNat)
  case atStart => exact ⟨0, len, rfl, rfl, Nat.zero_le _, hpl, Nat.le_refl _, Below.refl _ w⟩
  case round =>
    obtain ⟨lo, hi, rfl, rfl, hlo, hhi, hhl, hB⟩ := hrel
    by_cases hlt : lo < hi
    · obtain ⟨m, hm⟩ : ∃ m : Nat, m = (lo + hi) / 2 := ⟨_, rfl⟩
      have hm1 : lo ≤ m := by omega
      have hm2 : m < hi := by omega
      have hdiv : ((lo : Int) + (hi : Int)) / 2 = (m : Int) := by omega
      have hml : m < len := by omega
      obtain ⟨b1, o1, t, x0, x1, x2, x3, x4, rfl, g1, hx, hc1⟩ := HX.out.at hml
      obtain ⟨d0, d1, d2, d3, d4, d5⟩ := hc1 wr hB.out
      have hpm := HP.out m hml
      rw [hx] at hpm
      simp only at hpm
      obtain ⟨v1, hv1⟩ : ∃ v1, cmpS t s = v1 := ⟨_, rfl⟩
      have C := Lib.hid (pcmp_any t s x0 x1 x2 x3 x4 v1 hv1 wr)
      by_cases hq : v1 < 0
      · have hq' : m < p := hpm.2 (cmpS_lt.1 (by rw [hv1]; exact hq))
        clear hm hx hc1 hpm hv1
        go_wp2_with fail
        refine C.out.mono ?_
        rintro e w1 ⟨rfl, hb⟩
        have HB1 := Lib.hid (below_keep hB.out hb hB.out.size)
        go_wp2_with fail
        go_roundw
        case rel => exact ⟨m + 1, hi, by go_num, by go_num, by omega, by omega, by omega, HB1⟩
        case measure => simp [intOf]; omega
      · have hq' : ¬ m < p := fun k => hq (by rw [← hv1]; exact cmpS_lt.2 (hpm.1 k))
        clear hm hx hc1 hpm hv1
        go_wp2_with fail
        refine C.out.mono ?_
        rintro e w1 ⟨rfl, hb⟩
        have HB1 := Lib.hid (below_keep hB.out hb hB.out.size)
        go_wp2_with fail
        go_roundw
        case rel => exact ⟨lo, m, by go_num, by go_num, by omega, by omega, by omega, HB1⟩
        case measure => simp [intOf]; omega
    · obtain rfl : lo = hi := by omega
      obtain rfl : lo = p := by omega
      by_cases hin : lo < len
      · obtain ⟨b1, o1, t, x0, x1, x2, x3, x4, rfl, g1, hx, hc1⟩ := HX.out.at hin
        obtain ⟨d0, d1, d2, d3, d4, d5⟩ := hc1 wr hB.out
        obtain ⟨v1, hv1⟩ : ∃ v1, cmpS t s = v1 := ⟨_, rfl⟩
        have C := Lib.hid (pcmp_any t s x0 x1 x2 x3 x4 v1 hv1 wr)
        by_cases hq : v1 = 0
        · have HV2 : Hid (v = true) := by
            show v = true
            rw [← HV.out, HPS.out hin (by rw [hx]; exact cmpS_eq.1 (by rw [hv1]; exact hq))]; rfl
          clear hx hc1 hv1
          subst hq
          go_wp2_with fail
          refine C.out.mono ?_
          rintro e w1 ⟨rfl, hb⟩
          have HB1 := Lib.hid (below_keep hB.out hb hB.out.size)
          go_wp2_with fail
          go_ret2
          exact ⟨ret_two HV2.out, HB1.out⟩
        · have HV2 : Hid (v = (v1 == 0)) := by
            show v = (v1 == 0)
            rw [show (v1 == 0) = false by simpa using hq, ← HV.out, HPN.out (fun k => hq (by have e := k.2; rw [hx] at e; rw [← hv1]; exact cmpS_eq.2 e))]; rfl
          clear hx hc1 hv1
          go_wp2_with fail
          refine C.out.mono ?_
          rintro e w1 ⟨rfl, hb⟩
          have HB1 := Lib.hid (below_keep hB.out hb hB.out.size)
          go_wp2_with fail
          go_ret2
          exact ⟨ret_two HV2.out, HB1.out⟩
      · have HV2 : Hid (v = false) := by
          show v = false
          rw [← HV.out, HPN.out (fun k => hin k.1)]; rfl
        go_wp2_with fail
        go_ret2
        exact ⟨ret_two HV2.out, hB.out⟩
theorem place_any (a : Option Addr) (len cap : Nat) (l : List Sk) (s : ByteArray) (w : World) (h : SkAt w a len l) (hf : UpS l) :
    Calls Tryz.prog 46 #[.slice a len cap, .string s] w fun e w' => e = .returned (.tuple #[.int .i64 ((posS s l : Nat) : Int), .bool (findS s l).isSome]) ∧ Below w.heap.size w w' := by
  have C := Lib.hid (bsearch_any a len cap l s w h hf)
  obtain ⟨p, hp⟩ : ∃ p, posS s l = p := ⟨_, rfl⟩
  obtain ⟨v, hv⟩ : ∃ v, (findS s l).isSome = v := ⟨_, rfl⟩
  rw [hp, hv] at C ⊢
  clear h hf hp hv
  go_enter Tryz.func46, Tryz.ntmps46
  go_wp2_with fail
  refine C.out.mono ?_
  rintro e w1 ⟨rfl, hb⟩
  have HB := Lib.hid hb
  clear hb
  go_wp2_with fail
  go_ret2
  exact ⟨rfl, HB.out⟩
end Go.Proofs.YtjclkiabgemfpaaGreat.Ledger
