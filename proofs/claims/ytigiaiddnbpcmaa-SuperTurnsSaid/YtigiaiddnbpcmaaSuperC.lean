/-
  The contracts of the document's apart, and of distinct: whether numbers are segments', none there twice.
-/
import Derived.Test.YtigiaiddnbpcmaaSuperB
import Derived.BigQuiet
set_option linter.unusedVariables false
set_option maxRecDepth 4000
namespace Go.Proofs.Ytigiaiddnbpcmaa
open Go.RowKit SuperP
open Wire (IntsAt getD_mem take_snoc)

theorem segs_nil : Segs [] := ⟨by simp, List.nodup_nil⟩
theorem segs_step {pre : List Int} {n : Int} (h : Segs pre) (h0 : 0 ≤ n) (h1 : n < 63) (hn : ¬ n ∈ pre) : Segs (pre ++ [n]) := by
  refine ⟨fun m hm => ?_, ?_⟩
  · rcases List.mem_append.1 hm with g | g
    · exact h.1 m g
    · rw [List.mem_singleton.1 g]; exact ⟨h0, h1⟩
  · rw [List.nodup_append]
    refine ⟨h.2, by simp, fun a ha b hb e => ?_⟩
    rw [List.mem_singleton.1 hb] at e
    exact hn (e ▸ ha)
theorem segs_stop {pre rest l : List Int} {n : Int} (hl : l = (pre ++ [n]) ++ rest) (h : n < 0 ∨ 63 ≤ n ∨ n ∈ pre) : ¬ Segs l := by
  rintro ⟨h1, h2⟩
  have hm := h1 n (by rw [hl]; simp)
  rcases h with h | h | h
  · omega
  · omega
  · rw [hl, List.nodup_append, List.nodup_append] at h2
    exact h2.1.2.2 n h n (by simp) rfl
theorem quiet_any {f : Nat} {args : Array Value} {w : World} {n : Nat} {v : Value} (h : Calls Try.prog f args (w.drewN n) fun e w' => e = .returned v ∧ w.drewN n = w') : Calls Try.prog f args (w.drewN n) fun e w'' => e = .returned v ∧ ∃ m, w'' = w.drewN m :=
  h.mono fun _ _ ⟨he, hw⟩ => ⟨he, n, hw.symm⟩
theorem ints_take {w : World} {b off len k : Nat} {xs : List Int} (h : IntsAt w (some ⟨b, off, none⟩) len xs) (hk : k ≤ len) : IntsAt w (some ⟨b, off, none⟩) k (xs.take k) := by
  refine ⟨by rw [List.length_take, h.1]; omega, fun x hx => h.2.1 x (List.mem_of_mem_take hx), ?_⟩
  by_cases h0 : k = 0
  · exact .inl h0
  rcases h.2.2 with g | ⟨b2, o2, e, hb, hc⟩
  · omega
  · simp only [Option.some.injEq, Addr.mk.injEq, and_true] at e
    obtain ⟨rfl, rfl⟩ := e
    refine .inr ⟨b, off, rfl, hb, fun i hi => ?_⟩
    rw [hc i (by omega), List.getD_eq_getElem?_getD, List.getD_eq_getElem?_getD, List.getElem?_take_of_lt hi]
theorem whole_at {xs : List Int} {k : Nat} (h : k < xs.length) : xs = (xs.take k ++ [xs.getD k 0]) ++ xs.drop (k + 1) := by
  rw [← take_snoc xs k h, List.take_append_drop]
set_option maxHeartbeats 1000000 in
theorem apart_any (a : Option Addr) (len cap : Nat) (xs : List Int) (w : World) (h : IntsAt w a len xs) (hl : len ≤ 1000000) (hcap : len ≤ cap) :
    Calls Try.prog 40 #[.slice a len cap] w fun e w' => e = .returned (.bool (decide (Segs xs))) ∧ Below w.heap.size w w' := by
  obtain ⟨R, hR⟩ : ∃ R, decide (Segs xs) = R := ⟨_, rfl⟩
  rw [hR]
  have HL := Lib.hid h.1; have HC := Lib.hid h.2.2; have HR := Lib.hid hR; have HI := Lib.hid h
  clear h hR
  go_enter Try.func40, Try.ntmps40
  go_wp2_with fail
  go_loopw [3] (fun i wr => ∃ j : Nat, j ≤ len ∧ i = .int .i64 (j : Int) ∧ Hid (Below w.heap.size w wr) ∧ Hid (Segs (xs.take j))) (fun i _ => len - (intOf i).toNat)
  case atStart => exact ⟨0, Nat.zero_le _, rfl, Below.refl _ w, by show Segs (List.take 0 xs); exact segs_nil⟩
  case round =>
    obtain ⟨j, hj, rfl, hB, hT⟩ := hrel
    by_cases hlt : j < len
    · obtain ⟨b, off, rfl, hb, hd⟩ := HC.out.resolve_left (by omega)
      have hjx : j < xs.length := by rw [HL.out]; exact hlt
      have d1 := (hB.out.cell (p := ⟨b, off + j, none⟩) hb).trans (hd j hlt)
      have hst := fun h0 h1 hn => segs_step hT.out (n := xs.getD j 0) h0 h1 hn
      rw [← take_snoc xs j hjx] at hst
      have hno := segs_stop (whole_at hjx)
      have hjc : (j : Int) ≤ (cap : Int) := by omega
      have hh := fun n => quiet_any (has_any (some ⟨b, off, none⟩) j cap (xs.getD j 0) (xs.take j) (wr.drewN n) (ints_take (HI.out.keep (below_drewN' hB.out n)) (by omega)) (by omega))
      have HB := Lib.hid (fun n => below_drewN' hB.out n)
      obtain ⟨M, hM⟩ : ∃ M, decide (xs.getD j 0 ∈ xs.take j) = M := ⟨_, rfl⟩
      rw [hM] at hh
      generalize xs.getD j 0 = u at *
      clear hd hT hB HC HI
      have HST := Lib.hid hst; have HNO := Lib.hid hno; have HH := Lib.hid hh; have HM := Lib.hid hM
      clear hst hno hh hM hb hjx
      by_cases u0 : u < 0
      · have hRf : R = false := by rw [← HR.out]; exact decide_eq_false (HNO.out (.inl u0))
        have t0 : decide (u < 0) = true := decide_eq_true u0
        have HRF := Lib.hid hRf
        clear hRf
        go_wp2_with fail
        go_quiet (fail)
        go_wp2_with fail
        go_ret
        exact ⟨by rw [HRF.out]; rfl, HB.out _⟩
      have t0 : decide (u < 0) = false := decide_eq_false u0
      by_cases u1 : 63 ≤ u
      · have hRf : R = false := by rw [← HR.out]; exact decide_eq_false (HNO.out (.inr (.inl u1)))
        have t1 : decide (63 ≤ u) = true := decide_eq_true u1
        have HRF := Lib.hid hRf
        clear hRf
        go_wp2_with fail
        go_quiet (fail)
        go_wp2_with fail
        go_ret
        exact ⟨by rw [HRF.out]; rfl, HB.out _⟩
      have t1 : decide (63 ≤ u) = false := decide_eq_false u1
      have HU0 := Lib.hid u0; have HU1 := Lib.hid u1
      clear u0 u1
      cases M
      · have HSEG := Lib.hid (HST.out (by have := HU0.out; omega) (by have := HU1.out; omega) (of_decide_eq_false HM.out))
        clear HNO HST HM
        go_wp2_with fail
        go_quiet (with_reducible exact HH.out _)
        go_wp2_with fail
        go_roundw
        case rel => exact ⟨j + 1, by omega, by go_num, HB.out _, HSEG.out⟩
        case measure => simp [intOf]; omega
      · have hRf : R = false := by rw [← HR.out]; exact decide_eq_false (HNO.out (.inr (.inr (of_decide_eq_true HM.out))))
        have HRF := Lib.hid hRf
        clear hRf HNO HST HM
        go_wp2_with fail
        go_quiet (with_reducible exact HH.out _)
        go_wp2_with fail
        go_ret
        exact ⟨by rw [HRF.out]; rfl, HB.out _⟩
    · have hend : R = true := by
        rw [← HR.out]
        have := hT.out
        rw [List.take_of_length_le (by rw [HL.out]; omega)] at this
        exact decide_eq_true this
      have HE := Lib.hid hend
      clear hend hT
      go_wp2_with fail
      go_ret
      exact ⟨by rw [HE.out]; rfl, hB.out⟩
end Go.Proofs.Ytigiaiddnbpcmaa
