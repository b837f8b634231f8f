/-
  The contract of Few.
-/
import Derived.Test.YtleopanfggmenaaLinesB
set_option linter.unusedVariables false
set_option maxRecDepth 4000
set_option maxRecDepth 4000
namespace Go.Proofs.Ytleopanfggmenaa.Lines
open Go.RowKit LinesP

/-- Every Sku is as long as a text can be, and every number is one. -/
def SzM (l : List Ln) : Prop := ∀ x ∈ l, x.1.size ≤ 9223372036854775807 ∧ -9223372036854775808 ≤ x.2 ∧ x.2 ≤ 9223372036854775807
def shortL (l : List Ln) : Bool := l.all fun x => decide (x.1.size ≤ 60)
def fewV (l : List Ln) : Bool := shortL (l.take 8) && decide (l.length ≤ 8)
theorem few_sz {l : List Ln} (h : fewV l = true) (hm : SzM l) : l.length ≤ 8 ∧ Sz l := by
  unfold fewV at h
  rw [Bool.and_eq_true, decide_eq_true_eq] at h
  refine ⟨h.2, fun x hx => ?_⟩
  rw [List.take_of_length_le h.2] at h
  have h1 := List.all_eq_true.1 h.1 x hx
  have h2 := hm x hx
  simp only [decide_eq_true_eq] at h1
  exact ⟨by omega, h2.2⟩
theorem take_snoc {l : List Ln} {k : Nat} {x : Ln} (hk : k < l.length) (hx : l.getD k ln0 = x) : l.take (k + 1) = l.take k ++ [x] := by
  rw [List.take_succ_eq_append_getElem hk, ← hx]; simp [List.getD, hk]
theorem short_snoc {l : List Ln} {x : Ln} {k : Nat} (hk : k < l.length) (hx : l.getD k ln0 = x) (h : shortL (l.take k) = true) (hq : x.1.size ≤ 60) : shortL (l.take (k + 1)) = true := by
  unfold shortL at *
  rw [take_snoc hk hx, List.all_append, h]; simpa using hq
theorem few_no {l : List Ln} {x : Ln} {k : Nat} (hk : k < l.length) (h8 : k < 8) (hx : l.getD k ln0 = x) (hq : 60 < x.1.size) : fewV l = false := by
  unfold fewV shortL
  have : (l.take 8).all (fun x => decide (x.1.size ≤ 60)) = false := by
    rw [List.all_eq_false]
    refine ⟨x, ?_, by simpa using hq⟩
    rw [← hx, show l.getD k ln0 = l[k] by simp [List.getD, hk]]
    exact List.mem_take_iff_getElem.2 ⟨k, by omega, rfl⟩
  rw [this]; rfl
theorem few_end {l : List Ln} {k : Nat} (hk : k = l.length ∨ k = 8) (h : shortL (l.take k) = true) : fewV l = decide (l.length ≤ 8) := by
  rcases hk with rfl | rfl
  · unfold fewV
    by_cases h8 : l.length ≤ 8
    · rw [List.take_of_length_le h8]; rw [List.take_length] at h; rw [h]; simp
    · simp [h8]
  · unfold fewV; rw [h]; simp
set_option maxHeartbeats 1000000 in
theorem rfew_any (a : Option Addr) (len cap : Nat) (l : List Ln) (w : World) (h : LsAt w a len l) (hs : SzM l) :
    Calls Try.prog 19 #[.slice a len cap] w fun e w' => e = .returned (.bool (fewV l)) ∧ Below w.heap.size w w' := by
  have HX := Lib.hid h
  have HS := Lib.hid hs
  obtain ⟨v, hv⟩ : ∃ v, fewV l = v := ⟨_, rfl⟩
  rw [hv]
  have HV := Lib.hid hv
  have hl := h.2.1
  clear hv h hs
  go_enter Try.func19, Try.ntmps19
  go_wp2_with fail
  go_loopw [3] (fun i wr => ∃ k : Nat, k ≤ len ∧ k ≤ 8 ∧ i = .int .i64 (k : Int) ∧ Hid (shortL (l.take k) = true) ∧ Hid (Below w.heap.size w wr)) (fun i _ => len - (intOf i).toNat)
  case atStart => exact ⟨0, Nat.zero_le _, Nat.zero_le _, rfl, Lib.hid rfl, Below.refl _ _⟩
  case round =>
    obtain ⟨k, hk, hk8, rfl, hF, hB⟩ := hrel
    by_cases hlk : k < len
    · by_cases h8 : k < 8
      · rcases HX.out.2.2 with h0 | ⟨b1, o1, rfl, g1, hc1⟩
        · omega
        have d1 := (hB.out.cell (p := ⟨b1, o1 + k * 2, none⟩) g1).trans (hc1 k hlk).1
        have hkx : k < l.length := by rw [HX.out.1]; exact hlk
        have hsz := (HS.out (l.getD k ln0) (by rw [show l.getD k ln0 = l[k] by simp [List.getD, hkx]]; exact List.getElem_mem hkx)).1
        obtain ⟨p, hp⟩ : ∃ p, l.getD k ln0 = p := ⟨_, rfl⟩
        rw [hp] at d1 hsz
        obtain ⟨s, n⟩ := p
        simp only at d1 hsz
        clear hc1 g1
        by_cases h60 : 60 < s.size
        · have hi : (60 : Int) < (s.size : Int) := by omega
          have HNO : Hid (v = false) := by show v = _; rw [← HV.out]; exact few_no hkx h8 hp h60
          clear hkx hp hF
          go_wp2_with fail
          go_ret
          exact ⟨ret_bool HNO.out, hB.out⟩
        · have hi : ¬ (60 : Int) < (s.size : Int) := by omega
          have HF2 : Hid (shortL (l.take (k + 1)) = true) := short_snoc hkx hp hF.out (by show s.size ≤ 60; omega)
          clear hkx hp hF
          go_wp2_with fail
          go_roundw
          case rel => exact ⟨k + 1, by omega, by omega, by go_num, HF2, hB⟩
          case measure => simp [intOf]; omega
      · obtain rfl : k = 8 := by omega
        have HNO : Hid (v = false) := by
          show v = _
          rw [← HV.out, few_end (.inr rfl) hF.out, HX.out.1]
          exact decide_eq_false (by omega)
        have HD : Hid (false = decide ((len : Int) ≤ 8)) := (decide_eq_false (by omega)).symm
        go_wp2_with fail
        go_ret
        exact ⟨ret_bool (HNO.out.trans HD.out), hB.out⟩
    · obtain rfl : k = len := by omega
      have HE : Hid (v = true) := by show v = _; rw [← HV.out, few_end (.inl HX.out.1.symm) hF.out, HX.out.1]; exact decide_eq_true hk8
      have HD : Hid (true = decide ((k : Int) ≤ 8)) := (decide_eq_true (by omega)).symm
      go_wp2_with fail
      go_ret
      exact ⟨ret_bool (HE.out.trans HD.out), hB.out⟩

end Go.Proofs.Ytleopanfggmenaa.Lines
