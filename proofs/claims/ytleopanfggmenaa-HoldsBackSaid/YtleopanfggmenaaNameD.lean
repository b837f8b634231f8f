/-
  The contracts of the document's Count and Fit: any text; what was there stays as it was.
-/
import Derived.Test.YtleopanfggmenaaNameC
set_option linter.unusedVariables false
set_option maxRecDepth 4000
namespace Go.Proofs.Ytleopanfggmenaa.Name
open Go.RowKit NameP

theorem ret_i64 {a b : Int} (h : a = b) : Ending.returned (.int .i64 a) = .returned (.int .i64 b) := by rw [h]
theorem allNr_bad {l : List UInt8} (h : (rn l).all good = false) : allNr (vals l) = false := by
  cases hn : allNr (vals l) with
  | false => rfl
  | true => rw [allNr_good l hn] at h; cases h
theorem rfit_any (s : ByteArray) (w : World) (hs : s.size ≤ 4398046511104) :
    Calls Try.prog 46 #[.string s] w fun e w' => e = .returned (.bool (fitV (vals s.data.toList))) ∧ Below w.heap.size w w' := by
  by_cases h48 : 48 < s.size
  · rw [fitV_no (.inr (.inr (.inl (by have := vals_four s.data.toList; rw [len_list] at this; omega))))]
    go_enter Try.func46, Try.ntmps46
    go_wp2
    go_ret
    exact ⟨rfl, Below.refl _ _⟩
  · obtain ⟨xs, hv⟩ : ∃ xs, vals s.data.toList = xs := ⟨_, rfl⟩
    rw [hv]
    have HV := Lib.hid hv; clear hv
    go_enter Try.func46, Try.ntmps46
    go_wp2_with fail
    refine (rrunes_walk s w hs).mono ?_
    rintro e w1 ⟨hb, ⟨hg, rfl⟩ | ⟨hg, a, cap, rfl, hat⟩⟩
    · have HG := Lib.hid hg; clear hg
      go_wp2_with fail
      go_ret
      exact ⟨ret_bool (by rw [← HV.out]; exact (fitV_no (.inl (allNr_bad HG.out))).symm), hb⟩
    · clear hg
      rw [HV.out] at hat ⊢
      obtain ⟨_, hc⟩ := hat
      obtain ⟨n, hn⟩ : ∃ n, xs.length = n := ⟨_, rfl⟩
      rw [hn] at hc ⊢
      have HN := Lib.hid hn; clear hn
      by_cases h0 : n = 0
      · subst h0
        go_wp2_with fail
        go_ret
        exact ⟨ret_bool (fitV_no (.inr (.inl HN.out))).symm, hb⟩
      by_cases h12 : 12 < n
      · clear hc
        go_wp2_with fail
        go_ret
        exact ⟨ret_bool (fitV_no (.inr (.inr (.inl (by rw [HN.out]; exact h12))))).symm, hb⟩
      rcases hc with hc | ⟨b, rfl, hlt, hc⟩
      · exact absurd hc h0
      have hpos : 0 < n := by omega
      have hc0 := hc 0 hpos
      have HC := Lib.hid hc; clear hc
      obtain ⟨x, hx⟩ : ∃ x, xs.getD 0 0 = x := ⟨_, rfl⟩
      rw [hx] at hc0
      by_cases h45 : x = 45
      · subst h45
        have HX := Lib.hid hx; clear hx
        go_wp2_with fail
        go_ret
        exact ⟨ret_bool (fitV_no (.inr (.inr (.inr (by rw [← HX.out]; cases xs <;> rfl))))).symm, hb⟩
      · have hx45 : ((x : Int) == 45) = false := beq_eq_false_iff_ne.2 (by omega)
        have HX : Hid (xs.headD 0 ≠ 45) := by
          have : xs.headD 0 = xs.getD 0 0 := by cases xs <;> rfl
          show xs.headD 0 ≠ 45
          rw [this, hx]; exact h45
        clear hx
        have H45 := Lib.hid h45; clear h45
        go_wp2_with fail
        clear hc0 hx45
        go_loop [5] (fun i => ∃ k : Nat, k ≤ n ∧ i = .int .i64 k ∧ Hid (allNr xs = allNr (xs.drop k))) (fun i => n - (intOf i).toNat)
        case atStart => exact ⟨0, Nat.zero_le _, rfl, rfl⟩
        case round =>
          obtain ⟨k, hk, rfl, hd⟩ := hrel
          by_cases hlk : k < n
          · have hcell := HC.out k hlk
            obtain ⟨y, hy⟩ : ∃ y, xs.getD k 0 = y := ⟨_, rfl⟩
            rw [hy] at hcell
            cases hnr : nr (y : Int) with
            | true =>
              have HD := Lib.hid (hd.out.trans (allNr_drop_step (by rw [HN.out]; exact hlk) (by rw [hy]; exact hnr)))
              have hrr := fun w => rrune_any (y : Int) w
              simp only [hnr] at hrr
              have HR := Lib.hid hrr
              clear hy hd hnr hrr
              go_wp2_with fail
              refine (HR.out _).mono ?_
              rintro e w' ⟨rfl, rfl⟩
              go_wp2_with fail
              go_round
              case rel => exact ⟨k + 1, by omega, by go_num, HD.out⟩
              case measure => simp [intOf]; omega
            | false =>
              have HD := Lib.hid (hd.out.trans (allNr_drop_no (by rw [HN.out]; exact hlk) (by rw [hy]; exact hnr)))
              have hrr := fun w => rrune_any (y : Int) w
              simp only [hnr] at hrr
              have HR := Lib.hid hrr
              clear hy hd hnr hrr
              go_wp2_with fail
              refine (HR.out _).mono ?_
              rintro e w' ⟨rfl, rfl⟩
              go_wp2_with fail
              go_ret
              exact ⟨ret_bool (fitV_no (.inl HD.out)).symm, hb⟩
          · have HD := Lib.hid (hd.out.trans (allNr_drop_done (by rw [HN.out]; exact hlk)))
            clear hd
            go_wp2_with fail
            go_ret
            exact ⟨ret_bool (fitV_iff.2 ⟨HD.out, by rw [HN.out]; omega, by rw [HN.out]; omega, HX.out⟩).symm, hb⟩
end Go.Proofs.Ytleopanfggmenaa.Name
