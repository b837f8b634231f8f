/-
  What the program's reader of superblocks does, in plain words, and that it decides as the document's decoding does; no program.
-/
import Derived.Test.YtigiaiddnbpcmaaSuperPlain
set_option linter.unusedVariables false
namespace Go.Proofs.Ytigiaiddnbpcmaa.SuperP
open WireP (enc encs text rdInt rdText done St ok num nl nb ok_iff lenOk)
open StampP (sl opn Torn)

theorem ok_split {l : List UInt8} (h : ok l = true) : l = enc (num l) ++ l.drop (1 + nl l) := by
  have ⟨h0, h1, h2, h3⟩ := ok_iff.1 h
  have hnl : nl (l.take (1 + nl l)) = nl l := by
    cases l with
    | nil => exact absurd rfl h0
    | cons c r => rw [Nat.add_comm, List.take_succ_cons]; rfl
  have hnb : nb (l.take (1 + nl l)) = nb l := by
    unfold nb
    rw [hnl, List.drop_take, Nat.add_sub_cancel_left, List.take_take, Nat.min_self]
  have hlen : (l.take (1 + nl l)).length = 1 + nl l := by rw [List.length_take]; omega
  have hok : ok (l.take (1 + nl l)) = true := ok_iff.2 ⟨by intro e; rw [e] at hlen; simp at hlen; omega, by rw [hnl]; exact h1, by rw [hnl, hlen]; omega, by rw [hnb]; exact h3⟩
  have he := WireP.enc_num hok (by rw [hnl]; exact List.drop_of_length_le (by rw [hlen]; exact Nat.le_refl _))
  have hnum : num (l.take (1 + nl l)) = num l := by unfold num; rw [hnb]
  rw [hnum] at he
  rw [he, List.take_append_drop]
theorem rdInt_some {lo hi : Int} {st : St} {r : List UInt8} (h : (rdInt lo hi st).2 = some r) : ∃ l, st = some l ∧ l = enc (rdInt lo hi st).1 ++ r ∧ lo ≤ (rdInt lo hi st).1 ∧ (rdInt lo hi st).1 ≤ hi := by
  cases st with
  | none => cases h
  | some l =>
    by_cases hc : ok l = true ∧ lo ≤ num l ∧ num l ≤ hi
    · have e : rdInt lo hi (some l) = (num l, some (l.drop (1 + nl l))) := by show ite _ _ _ = _; rw [if_pos hc]
      rw [e] at h ⊢
      simp only [Option.some.injEq] at h
      subst h
      exact ⟨l, rfl, ok_split hc.1, hc.2.1, hc.2.2⟩
    · have e : rdInt lo hi (some l) = (0, none) := by show ite _ _ _ = _; rw [if_neg hc]
      rw [e] at h
      cases h
theorem rdText_some {m : Int} {st : St} {r : List UInt8} (h : (rdText m st).2 = some r) : ∃ l, st = some l ∧ l = text (rdText m st).1 ++ r := by
  cases st with
  | none => cases h
  | some l =>
    by_cases hc : lenOk m l
    · have e : rdText m (some l) = ((l.drop (1 + nl l)).take (num l).toNat, some (l.drop (1 + nl l + (num l).toNat))) := by show ite _ _ _ = _; rw [if_pos hc]
      rw [e] at h ⊢
      simp only [Option.some.injEq] at h
      subst h
      obtain ⟨c1, c2, c3, c4⟩ := hc
      refine ⟨l, rfl, ?_⟩
      show l = text ((l.drop (1 + nl l)).take (num l).toNat) ++ _
      unfold text
      have hlen : (((l.drop (1 + nl l)).take (num l).toNat).length : Int) = num l := by rw [List.length_take, List.length_drop]; omega
      have hdd : l.drop (1 + nl l + (num l).toNat) = (l.drop (1 + nl l)).drop (num l).toNat := by rw [List.drop_drop]
      rw [hlen, List.append_assoc, hdd, List.take_append_drop]
      exact ok_split c1
    · have e : rdText m (some l) = ([], none) := by show ite _ _ _ = _; rw [if_neg hc]
      rw [e] at h
      cases h
theorem rdText_len (st : St) : (rdText 63 st).1.length ≤ 63 := by
  cases st with
  | none => exact Nat.zero_le _
  | some l =>
    by_cases hc : lenOk 63 l
    · have e : rdText 63 (some l) = ((l.drop (1 + nl l)).take (num l).toNat, some (l.drop (1 + nl l + (num l).toNat))) := by show ite _ _ _ = _; rw [if_pos hc]
      rw [e]
      show ((l.drop (1 + nl l)).take (num l).toNat).length ≤ 63
      have := hc.2.2.1
      rw [List.length_take]
      omega
    · have e : rdText 63 (some l) = ([], none) := by show ite _ _ _ = _; rw [if_neg hc]
      rw [e]
      exact Nat.zero_le _
theorem octs_nums (l : List UInt8) : octs (nums l) = l := by
  induction l with
  | nil => rfl
  | cons c r ih =>
    show UInt8.ofNat ((c.toNat : Int)).toNat :: octs (nums r) = _
    rw [ih, Int.toNat_natCast, UInt8.ofNat_toNat]
/-- What the reader reads, its first number no less than lo. -/
def rdX (lo : Int) (l : List UInt8) : Sup × Bool :=
  let g := rdInt lo most (some l)
  let b := rdInt 0 most g.2
  let z := rdInt 0 most b.2
  let c := rdInt 0 most z.2
  let k := rdText 63 c.2
  let o := rdText 63 k.2
  (⟨g.1, b.1, z.1, c.1, nums k.1, nums o.1⟩, done o.2)
theorem rdX_zero (l : List UInt8) : rdX 0 l = rd l := rfl
theorem rdX_out {lo : Int} {l : List UInt8} (h : (rdX lo l).2 = true) : l = data (rdX lo l).1 ∧ lo ≤ (rdX lo l).1.gen ∧ (rdX lo l).1.gen ≤ most := by
  have ho : (rdText 63 (rdText 63 (rdInt 0 most (rdInt 0 most (rdInt 0 most (rdInt lo most (some l)).2).2).2).2).2).2 = some [] := of_decide_eq_true h
  obtain ⟨l6, e6, f6⟩ := rdText_some ho
  obtain ⟨l5, e5, f5⟩ := rdText_some e6
  obtain ⟨l4, e4, f4, _⟩ := rdInt_some e5
  obtain ⟨l3, e3, f3, _⟩ := rdInt_some e4
  obtain ⟨l2, e2, f2, _⟩ := rdInt_some e3
  obtain ⟨l1, e1, f1, g1, g2⟩ := rdInt_some e2
  refine ⟨?_, g1, g2⟩
  cases e1
  show l = encs [_, _, _, _] ++ (text (octs (nums _)) ++ text (octs (nums _)))
  rw [octs_nums, octs_nums]
  rw [List.append_nil] at f6
  rw [f2, f3, f4, f5, f6] at f1
  simp only [encs, List.flatMap_cons, List.flatMap_nil, List.append_nil, List.append_assoc]
  exact f1
theorem rdX_data {lo : Int} {x : Sup} (h : Fit x) (hlo : lo ≤ x.gen) (h0 : 0 ≤ lo) : rdX lo (data x) = (x, true) := by
  have h2 := h
  unfold Fit most at h2
  obtain ⟨c1, c2, ⟨g1, g2, g3, g4, g5, g6, g7, g8⟩, g9⟩ := h2
  have hrd := rd_data h
  rw [← rdX_zero] at hrd
  have e : data x = enc x.gen ++ (encs [x.base, x.size, x.cg] ++ (text (octs x.chk) ++ text (octs x.log))) := by
    simp only [data, encs, List.flatMap_cons, List.flatMap_nil, List.append_nil, List.append_assoc]
  have e2 : rdInt lo most (some (data x)) = rdInt 0 most (some (data x)) := by
    rw [e]
    unfold most
    rw [rdInt_back (n := x.gen) (lo := lo) (hi := 1099511627776) hlo (by omega) (by omega) (by omega), rdInt_back (n := x.gen) (lo := 0) (hi := 1099511627776) (by omega) (by omega) (by omega) (by omega)]
  rw [← hrd]
  unfold rdX
  rw [e2]
theorem fit_gen {x : Sup} (h : Fit x) : 1 ≤ x.gen := h.2.2.1.1
/-- The program decides as decoding does. -/
theorem dec_prog {l s : List UInt8} {n i c : Nat} (h : opn l = some (n, i, c, s)) :
    (((rdX 1 s).2 = true ∧ Fit (rdX 1 s).1) ∧ ((n : Int) = (rdX 1 s).1.gen ∧ i = 0 ∧ c = 1) → dec l = some (rdX 1 s).1) ∧
    (¬ (((rdX 1 s).2 = true ∧ Fit (rdX 1 s).1) ∧ ((n : Int) = (rdX 1 s).1.gen ∧ i = 0 ∧ c = 1)) → dec l = none) := by
  obtain ⟨hl, hf, hs⟩ := StampP.opn_some h
  refine ⟨fun ⟨⟨h1, h2⟩, h3, h4, h5⟩ => ?_, fun hn => ?_⟩
  · obtain ⟨e1, _, _⟩ := rdX_out h1
    have e2 : l = sect (rdX 1 s).1 := by
      unfold sect
      rw [← e1, hl, h4, h5, ← h3, Int.toNat_natCast]
    rw [e2]
    exact dec_sect h2
  · rcases hd : dec l with _ | x
    · rfl
    · obtain ⟨f1, f2⟩ := dec_some hd
      have e := opn_sect f1
      rw [← f2, h] at e
      simp only [Option.some.injEq, Prod.mk.injEq] at e
      obtain ⟨e1, e2, e3, e4⟩ := e
      have e5 := rdX_data f1 (fit_gen f1) (by decide)
      rw [← e4] at e5
      refine absurd ⟨⟨by rw [e5], by rw [e5]; exact f1⟩, ?_, e2, e3⟩ hn
      rw [e5]
      show (n : Int) = x.gen
      have := fit_gen f1
      omega
end Go.Proofs.Ytigiaiddnbpcmaa.SuperP
