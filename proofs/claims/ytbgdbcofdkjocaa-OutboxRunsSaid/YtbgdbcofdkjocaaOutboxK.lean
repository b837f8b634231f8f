/-
  OutboxTells; what was there stays as it was.
-/
import Derived.Test.YtbgdbcofdkjocaaOutboxJ
set_option linter.unusedVariables false
set_option linter.unusedSimpArgs false
set_option maxRecDepth 4000
namespace Go.Proofs.Ytbgdbcofdkjocaa.Outbox
open Go.RowKit OutP
open Go.Proofs.Ytbgdbcofdkjocaa.Kt

set_option maxHeartbeats 8000000 in
theorem tells_any (a : Option Addr) (len cap : Nat) (l : List En) (hcap : len ≤ cap) (g : Int) (w : World) (h : EnAt w a len l) :
    Calls Try.prog 3 #[.slice a len cap, .int .i64 g] w fun e w' => e = .returned (.bool true) ∧ Below w.heap.size w w' := by
  have hl := h.2.1
  by_cases h20 : 20 < len
  · have e0 : (20 : Int) < (len : Int) := by omega
    clear h
    go_enter Try.func3, Try.ntmps3
    go_wp2_with fail
    refine (awake_any w).mono ?_
    rintro e w1 ⟨rfl, hb⟩
    have B1 := Lib.hid hb
    clear hb
    go_wp2_with fail
    go_ret
    exact ⟨rfl, B1.out⟩
  have e0 : ¬ (20 : Int) < (len : Int) := by omega
  obtain ⟨z0, z1, z2, z3, z4, z5, z6, hz⟩ := en_split (getE (findE g l))
  obtain ⟨p, hp⟩ : ∃ p, (findE g l).isSome = p := ⟨_, rfl⟩
  obtain ⟨f, hf⟩ : ∃ f, fitB l = f := ⟨_, rfl⟩
  obtain ⟨s, hs⟩ : ∃ s, serviceV g = s := ⟨_, rfl⟩
  obtain ⟨nd, hnd⟩ : ∃ nd, (dropE g l).length = nd := ⟨_, rfl⟩
  obtain ⟨ns, hns⟩ : ∃ ns, (sinceE g l).length = ns := ⟨_, rfl⟩
  have hnd2 : nd ≤ 1000000 := by rw [← hnd]; have := List.length_filter_le (fun x => !(x.saga == g)) l; have := h.1; unfold dropE; omega
  have hns2 : ns ≤ 1000000 := by rw [← hns]; have := List.length_filter_le (fun x => decide (g < x.id)) l; have := h.1; unfold sinceE; omega
  have F1 := Lib.hid (fun W (hW : Below w.heap.size w W) => find_is a len cap l g z0 z1 z2 z3 z4 z5 z6 p hz hp (by omega) W (h.keep hW))
  have F2 := Lib.hid (fun W (hW : Below w.heap.size w W) => rfind_is a len cap l g z0 z1 z2 z3 z4 z5 z6 p hz hp W (h.keep hW))
  have F3 := Lib.hid (fun W (hW : Below w.heap.size w W) => fit_any a len cap l hcap f hf W (h.keep hW))
  have F4 := Lib.hid (fun W (hW : Below w.heap.size w W) => rfit_any a len cap l f hf W (h.keep hW))
  have F5 := Lib.hid (fun W (hW : Below w.heap.size w W) => (drop_any a len cap l g (by omega) W (h.keep hW)).mono fun e w' h => RowP.at h hnd hnd2)
  have F6 := Lib.hid (fun W (hW : Below w.heap.size w W) => (rdrop_any a len cap l g (by omega) W (h.keep hW)).mono fun e w' h => RowP.at h hnd hnd2)
  have F7 := Lib.hid (fun W (hW : Below w.heap.size w W) => (since_any a len cap l g (by omega) W (h.keep hW)).mono fun e w' h => RowP.at h hns hns2)
  have F8 := Lib.hid (fun W (hW : Below w.heap.size w W) => (rsince_any a len cap l g (by omega) W (h.keep hW)).mono fun e w' h => RowP.at h hns hns2)
  have F9 := Lib.hid (service_is g s hs)
  have F10 := Lib.hid (rservice_is g s hs)
  clear h hz hp hf hs hnd hns
  go_enter Try.func3, Try.ntmps3
  go_wp2_with fail
  refine (F1.out w (Below.refl _ _)).mono ?_
  rintro e w1 ⟨rfl, hb⟩
  have hb' := hb.alloc hb.size (.cells #[.int .i64 z0, .int .i64 z1, .int .i64 z2, .bool z3, .int .i64 z4, .int .i64 z5, .bool z6] 25)
  have hz := at7_new 25 w1 (.int .i64 z0) (.int .i64 z1) (.int .i64 z2) (.bool z3) (.int .i64 z4) (.int .i64 z5) (.bool z6)
  obtain ⟨u1, hu⟩ : ∃ u1, w1.alloc (.cells #[.int .i64 z0, .int .i64 z1, .int .i64 z2, .bool z3, .int .i64 z4, .int .i64 z5, .bool z6] 25) = u1 := ⟨_, rfl⟩
  rw [hu] at hb' hz
  obtain ⟨b1, hbx⟩ : ∃ b1, w1.heap.size = b1 := ⟨_, rfl⟩
  rw [hbx] at hz
  have HU := Lib.hid hu
  have HX1 := Lib.hid hbx
  have B1 := Lib.hid (below_keep (Below.refl w.heap.size w) hb' (Nat.le_refl _))
  have Z1_1 := Lib.hid hz
  clear hb hb' hz hu hbx
  go_wp2_with fail
  rw [show w1.alloc (.cells #[.int .i64 z0, .int .i64 z1, .int .i64 z2, .bool z3, .int .i64 z4, .int .i64 z5, .bool z6] 25) = u1 from HU.out]
  rw [show w1.heap.size = b1 from HX1.out]
  go_wp2_with fail
  refine (F2.out u1 B1.out).mono ?_
  rintro e w2 ⟨rfl, hb⟩
  have hb' := hb.alloc hb.size (.cells #[.int .i64 z0, .int .i64 z1, .int .i64 z2, .bool z3, .int .i64 z4, .int .i64 z5, .bool z6] 25)
  have hz := at7_new 25 w2 (.int .i64 z0) (.int .i64 z1) (.int .i64 z2) (.bool z3) (.int .i64 z4) (.int .i64 z5) (.bool z6)
  obtain ⟨u2, hu⟩ : ∃ u2, w2.alloc (.cells #[.int .i64 z0, .int .i64 z1, .int .i64 z2, .bool z3, .int .i64 z4, .int .i64 z5, .bool z6] 25) = u2 := ⟨_, rfl⟩
  rw [hu] at hb' hz
  obtain ⟨b2, hbx⟩ : ∃ b2, w2.heap.size = b2 := ⟨_, rfl⟩
  rw [hbx] at hz
  have HU := Lib.hid hu
  have HX2 := Lib.hid hbx
  have B2 := Lib.hid (below_keep B1.out hb' B1.out.size)
  have Z2_2 := Lib.hid hz
  have Z1_2 := Lib.hid (Z1_1.out.keep hb')
  clear hb hb' hz hu hbx
  go_wp2_with fail
  rw [show w2.alloc (.cells #[.int .i64 z0, .int .i64 z1, .int .i64 z2, .bool z3, .int .i64 z4, .int .i64 z5, .bool z6] 25) = u2 from HU.out]
  rw [show w2.heap.size = b2 from HX2.out]
  go_wp2_with fail
  refine (F3.out u2 B2.out).mono ?_
  rintro e w3 ⟨rfl, hb⟩
  have B3 := Lib.hid (below_keep B2.out hb B2.out.size)
  have Z1_3 := Lib.hid (Z1_2.out.keep hb)
  have Z2_3 := Lib.hid (Z2_2.out.keep hb)
  clear hb
  go_wp2_with fail
  refine (F4.out w3 B3.out).mono ?_
  rintro e w4 ⟨rfl, hb⟩
  have B4 := Lib.hid (below_keep B3.out hb B3.out.size)
  have Z1_4 := Lib.hid (Z1_3.out.keep hb)
  have Z2_4 := Lib.hid (Z2_3.out.keep hb)
  clear hb
  obtain ⟨c10, c11, c12, c13, c14, c15, c16⟩ := cells7 Z1_4.out
  obtain ⟨c20, c21, c22, c23, c24, c25, c26⟩ := cells7 Z2_4.out
  have q1 := fun w => eql_en z0 z1 z2 z3 z4 z5 z6 z0 z1 z2 z3 z4 z5 z6 w
  rw [eqE_self] at q1
  have q3 := fun x y w => guard_en .eql x y z0 z1 z2 z3 z4 z5 z6 z0 z1 z2 z3 z4 z5 z6 w
  have hff : (f == f) = true := by simp
  have hpp : (p == p) = true := by simp
  go_wp2_with fail
  clear q1 q3 c10 c20 c11 c21 c12 c22 c13 c23 c14 c24 c15 c25 c16 c26
  refine (F5.out w4 B4.out).mono ?_
  rintro e w5 ⟨a5, k5, rfl, _, hA, _, hb⟩
  have B5 := Lib.hid (below_keep B4.out hb B4.out.size)
  have A5 := Lib.hid hA
  clear hA hb
  go_wp2_with fail
  refine (F6.out w5 B5.out).mono ?_
  rintro e w6 ⟨a6, k6, rfl, _, hA, _, hb⟩
  have B6 := Lib.hid (below_keep B5.out hb B5.out.size)
  have CS := Lib.hid (rsame_any a5 a6 nd k5 nd k6 _ _ true (eqEs_iff.2 rfl) w6 (A5.out.keep hb) hA)
  clear hA hb
  go_wp2_with fail
  refine CS.out.mono ?_
  rintro e w7 ⟨rfl, hb⟩
  have B7 := Lib.hid (below_keep B6.out hb B6.out.size)
  clear hb CS
  go_wp2_with fail
  refine (F7.out w7 B7.out).mono ?_
  rintro e w8 ⟨a8, k8, rfl, _, hA, _, hb⟩
  have B8 := Lib.hid (below_keep B7.out hb B7.out.size)
  have A8 := Lib.hid hA
  clear hA hb
  go_wp2_with fail
  refine (F8.out w8 B8.out).mono ?_
  rintro e w9 ⟨a9, k9, rfl, _, hA, _, hb⟩
  have B9 := Lib.hid (below_keep B8.out hb B8.out.size)
  have CS := Lib.hid (rsame_any a8 a9 ns k8 ns k9 _ _ true (eqEs_iff.2 rfl) w9 (A8.out.keep hb) hA)
  clear hA hb
  go_wp2_with fail
  refine CS.out.mono ?_
  rintro e w10 ⟨rfl, hb⟩
  have B10 := Lib.hid (below_keep B9.out hb B9.out.size)
  clear hb CS
  go_wp2_with fail
  have hss : (s == s) = true := by simp
  refine (F9.out w10).mono ?_
  rintro e w11 ⟨rfl, rfl⟩
  go_wp2_with fail
  refine (F10.out _).mono ?_
  rintro e w11 ⟨rfl, rfl⟩
  go_wp2_with fail
  refine (awake_any _).mono ?_
  rintro e w12 ⟨rfl, hb⟩
  have B12 := Lib.hid (below_keep B10.out hb B10.out.size)
  clear hb
  go_wp2_with fail
  go_ret
  exact ⟨rfl, B12.out⟩
end Go.Proofs.Ytbgdbcofdkjocaa.Outbox
namespace Go.Proofs.Ytbgdbcofdkjocaa
open Go.RowKit
theorem Contract.outboxTells (a : Option Addr) (len cap : Nat) (x : Int) (W : World) (h : IsEntry W a len cap) (_hx : (Lit.int .i64 x).wf = true) :
    Calls Try.prog 3 #[.slice a len cap, .int .i64 x] W fun e W' => e = .returned (.bool true) ∧ Below W.heap.size W W' := by
  obtain ⟨l, hl, hc⟩ := h
  exact Go.Proofs.Ytbgdbcofdkjocaa.Outbox.tells_any a len cap l hc x W hl
end Go.Proofs.Ytbgdbcofdkjocaa
