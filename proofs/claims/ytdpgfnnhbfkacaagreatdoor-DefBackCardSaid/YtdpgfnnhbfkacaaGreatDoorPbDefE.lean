/-
  The contracts of the document's classed and Fit, and of both Sames: any definitions; what was there stays as it was.
-/
import Derived.Test.YtdpgfnnhbfkacaaGreatDoorPbDefD
import Derived.Deep.RegionHeld3
import Derived.BigQuiet
set_option linter.unusedVariables false
set_option linter.unusedSimpArgs false
set_option maxRecDepth 4000
namespace Go.Proofs.YtdpgfnnhbfkacaaGreatDoor.Def
open Go.RowKit DefP
open Go.Proofs.YtdpgfnnhbfkacaaGreatDoor.Kt
set_option maxHeartbeats 1000000 in
theorem equal_any (a a2 : Option Addr) (n c m c2 : Nat) (x y : List Step) (v : Bool) (hv : eqSs x y = v) (w : World) (h : StAt w a n x) (h2 : StAt w a2 m y) :
    Calls Tryz.prog 66 #[.slice a n c, .slice a2 m c2] w fun e w' => e = .returned (.bool v) ∧ Below w.heap.size w w' := by
  have hla := h.2.1
  have hlc := h2.2.1
  by_cases hne : n = m
  · subst hne
    have hnn : ((n : Int) != (n : Int)) = false := by simp
    have HX := Lib.hid h; have HY := Lib.hid h2
    have HV : Hid (v = eqSs (x.drop 0) (y.drop 0)) := hv.symm
    clear h h2 hv hlc
    go_enter Tryz.func66, Tryz.ntmps66
    go_wp2_with fail
    go_loopw [13] (fun i wr => ∃ k : Nat, k ≤ n ∧ i = .int .i64 (k : Int) ∧ Hid (v = eqSs (x.drop k) (y.drop k)) ∧ Hid (Below w.heap.size w wr)) (fun i _ => n - (intOf i).toNat)
    case atStart => exact ⟨0, Nat.zero_le _, rfl, HV, Below.refl _ _⟩
    case round =>
      obtain ⟨k, hk, rfl, hd, hB⟩ := hrel
      by_cases hlk : k < n
      · obtain ⟨b1, o1, x0, x1, x2, x3, x4, x5, rfl, g1, hp, hc1⟩ := StAt.at HX.out hlk
        obtain ⟨b2, o2, y0, y1, y2, y3, y4, y5, rfl, g2, hq, hc2⟩ := StAt.at HY.out hlk
        obtain ⟨d0, d1, d2, d3, d4, d5⟩ := hc1 wr hB.out
        obtain ⟨e0, e1, e2, e3, e4, e5⟩ := hc2 wr hB.out
        clear hc1 hc2 g1 g2
        have hneq := fun w => Step.neq_st x0 x1 x2 x3 x4 x5 y0 y1 y2 y3 y4 y5 w
        have hgd := fun p x y w => Step.guard_st p x y x0 x1 x2 x3 x4 x5 y0 y1 y2 y3 y4 y5 w
        cases heq : StP.eqS ⟨x0, x1, x2, x3, x4, x5⟩ ⟨y0, y1, y2, y3, y4, y5⟩ with
        | true =>
          have HD := Lib.hid (hd.out.trans (eqSs_go hp hq heq))
          rw [heq] at hneq
          clear hd hp hq heq
          go_wp2_with fail
          go_quiet (fail)
          go_wp2_with fail
          go_roundw
          case rel => exact ⟨k + 1, by omega, by go_num, HD, below_drewN hB.out _⟩
          case measure => simp [intOf]; omega
        | false =>
          have HD := Lib.hid (hd.out.trans (eqSs_no hp hq heq))
          rw [heq] at hneq
          clear hd hp hq heq
          go_wp2_with fail
          go_quiet (fail)
          go_wp2_with fail
          go_ret
          exact ⟨ret_bool HD.out, below_drewN hB.out _⟩
      · obtain rfl : k = n := by omega
        have HD := Lib.hid (hd.out.trans (eqSs_end (at_len HX.out hlk) (at_len HY.out hlk)))
        clear hd
        go_wp2_with fail
        go_ret
        exact ⟨ret_bool HD.out, hB.out⟩
  · have hn3 : ((n : Int) != (m : Int)) = true := by simp; omega
    have HD : Hid (v = false) := hv.symm.trans (eqSs_len (by rw [h.1, h2.1]; exact hne))
    clear h h2 hv
    go_enter Tryz.func66, Tryz.ntmps66
    go_wp2_with fail
    go_ret
    exact ⟨ret_bool HD.out, Below.refl _ _⟩

theorem eqD_name {x y : Df} (h : (x.name.data.toList == y.name.data.toList) = false) : eqD x y = false := by unfold eqD; rw [h]; rfl
theorem tolist_eq (a b : ByteArray) : (a.toList == b.toList) = (a.data.toList == b.data.toList) := by rw [ByteArray.toList_eq, ByteArray.toList_eq]
set_option maxHeartbeats 1000000 in
theorem same_is (s : ByteArray) (a : Option Addr) (n c : Nat) (l : List Step) (s2 : ByteArray) (a2 : Option Addr) (n2 c2 : Nat) (l2 : List Step) (v : Bool) (hv : eqD ⟨s, l⟩ ⟨s2, l2⟩ = v) (w : World) (h : StAt w a n l) (h2 : StAt w a2 n2 l2) :
    Calls Tryz.prog 18 #[.agg #[.string s, .slice a n c], .agg #[.string s2, .slice a2 n2 c2]] w fun e w' => e = .returned (.bool v) ∧ Below w.heap.size w w' := by
  have h1 : At2 24 ((w.alloc (.cells #[.string s, .slice a n c] 24)).alloc (.cells #[.string s2, .slice a2 n2 c2] 24)) w.heap.size (.string s) (.slice a n c) := (at2_new 24 w (.string s) (.slice a n c)).alloc _
  have h2' : At2 24 ((w.alloc (.cells #[.string s, .slice a n c] 24)).alloc (.cells #[.string s2, .slice a2 n2 c2] 24)) (w.heap.size + 1) (.string s2) (.slice a2 n2 c2) := by
    have := at2_new 24 (w.alloc (.cells #[.string s, .slice a n c] 24)) (.string s2) (.slice a2 n2 c2)
    rw [World.size_alloc] at this
    exact this
  have HB := Lib.hid (((Below.refl _ w).alloc (Nat.le_refl _) (.cells #[.string s, .slice a n c] 24)).alloc (by rw [World.size_alloc]; omega) (.cells #[.string s2, .slice a2 n2 c2] 24))
  obtain ⟨u0, u1⟩ := cells2 h1
  obtain ⟨z0, z1⟩ := cells2 h2'
  cases he : (s.data.toList == s2.data.toList) with
  | false =>
    have HR : Hid (v = false) := by show _ = _; rw [← hv]; exact eqD_name he
    have e1 : (s.toList == s2.toList) = false := by rw [tolist_eq]; exact he
    clear hv h h2 he h1 h2'
    go_enter Tryz.func18, Tryz.ntmps18
    go_wp2_with fail
    go_ret
    exact ⟨ret_bool HR.out, HB.out⟩
  | true =>
    have e1 : (s.toList == s2.toList) = true := by rw [tolist_eq]; exact he
    have HR : eqSs l l2 = v := by rw [← hv]; unfold eqD; rw [he]; rfl
    have C := Lib.hid (equal_any a a2 n c n2 c2 l l2 v HR _ (Rw.At.keep h HB.out) (Rw.At.keep h2 HB.out))
    clear hv h h2 he h1 h2' HR
    go_enter Tryz.func18, Tryz.ntmps18
    go_wp2_with fail
    refine C.out.mono ?_
    rintro e w1 ⟨rfl, hb⟩
    have HB1 := Lib.hid (below_keep HB.out hb HB.out.size)
    clear hb
    go_wp2_with fail
    go_ret
    exact ⟨rfl, HB1.out⟩

end Go.Proofs.YtdpgfnnhbfkacaaGreatDoor.Def
