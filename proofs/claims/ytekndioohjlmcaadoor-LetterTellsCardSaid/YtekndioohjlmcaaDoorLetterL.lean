/-
  LetterTells; what was there stays as it was.
-/
import Derived.Test.YtekndioohjlmcaaDoorLetterK
set_option linter.unusedVariables false
set_option linter.unusedSimpArgs false
set_option maxRecDepth 4000
namespace Go.Proofs.YtekndioohjlmcaaDoor.Letter
open Go.RowKit LeP
open Go.Proofs.YtekndioohjlmcaaDoor.Kt

set_option maxHeartbeats 8000000 in
theorem tells_any (a : Option Addr) (len cap : Nat) (l : List Lt) (x0 x1 : Int) (x2 : Bool) (x3 x4 : Int) (g : Int) (w : World) (h : LtAt w a len l) (ht : Num.Tab w) :
    Calls Tryd.prog 3 #[.slice a len cap, .agg #[.int .i64 x0, .int .i64 x1, .bool x2, .int .i64 x3, .int .i64 x4], .int .i64 g] w fun e w' => e = .returned (.bool true) ∧ Below w.heap.size w w' := by
  have hB0 := bx5_new 24 w (.int .i64 x0) (.int .i64 x1) (.bool x2) (.int .i64 x3) (.int .i64 x4)
  obtain ⟨w0, hw0⟩ : ∃ w0, w.alloc (.cells #[.int .i64 x0, .int .i64 x1, .bool x2, .int .i64 x3, .int .i64 x4] 24) = w0 := ⟨_, rfl⟩
  rw [hw0] at hB0
  have HW := Lib.hid hw0
  have B0 := Lib.hid hB0
  have HX := Lib.hid h
  have HT := Lib.hid ht
  have hl := h.2.1
  clear hw0 hB0 h ht
  by_cases h20 : 20 < len
  · have e0 : (20 : Int) < (len : Int) := by omega
    have CA := Lib.hid (awake_any w0 (HT.out.keep B0.out.bel))
    go_enter Tryd.func3, Tryd.ntmps3
    go_wp2_with fail
    rw [show w.alloc (.cells #[.int .i64 x0, .int .i64 x1, .bool x2, .int .i64 x3, .int .i64 x4] 24) = w0 from HW.out]
    go_wp2_with fail
    refine CA.out.mono ?_
    rintro e w1 ⟨rfl, hb⟩
    have B1 := Lib.hid (B0.out.keep hb)
    clear hb
    go_wp2_with fail
    go_ret
    exact ⟨rfl, B1.out.bel⟩
  have e0 : ¬ (20 : Int) < (len : Int) := by omega
  obtain ⟨z0, z1, z2, z3, z4, hz⟩ := lt_split (getL (findL g l))
  obtain ⟨p, hp⟩ : ∃ p, (findL g l).isSome = p := ⟨_, rfl⟩
  obtain ⟨f, hf⟩ : ∃ f, fitB l = f := ⟨_, rfl⟩
  obtain ⟨s, hs⟩ : ∃ s, bs (textL ⟨x0, x1, x2, x3, x4⟩) = s := ⟨_, rfl⟩
  have F1 := Lib.hid (fun W (hW : Below w.heap.size w W) => find_is a len cap l g z0 z1 z2 z3 z4 p hz hp W (Rw.At.keep HX.out hW))
  have F2 := Lib.hid (fun W (hW : Below w.heap.size w W) => rfind_is a len cap l g z0 z1 z2 z3 z4 p hz hp W (Rw.At.keep HX.out hW))
  have F3 := Lib.hid (fun W (hW : Below w.heap.size w W) => fit_any a len cap l f hf W (Rw.At.keep HX.out hW))
  have F4 := Lib.hid (fun W (hW : Below w.heap.size w W) => rfit_any a len cap l f hf W (Rw.At.keep HX.out hW))
  have F5 : Hid (∀ W, Below w.heap.size w W → Calls Tryd.prog 11 #[.agg #[.int .i64 x0, .int .i64 x1, .bool x2, .int .i64 x3, .int .i64 x4]] W fun e w' => e = .returned (.string s) ∧ Below W.heap.size W w') := fun W hW => by
    have := text_any x0 x1 x2 x3 x4 W (HT.out.keep hW)
    rw [hs] at this
    exact this
  have F6 : Hid (∀ W, Calls Tryd.prog 12 #[.agg #[.int .i64 x0, .int .i64 x1, .bool x2, .int .i64 x3, .int .i64 x4]] W fun e w' => e = .returned (.string s) ∧ Below W.heap.size W w') := fun W => by
    have := rtext_any x0 x1 x2 x3 x4 W
    rw [hs] at this
    exact this
  clear hz hp hf hs
  go_enter Tryd.func3, Tryd.ntmps3
  go_wp2_with fail
  rw [show w.alloc (.cells #[.int .i64 x0, .int .i64 x1, .bool x2, .int .i64 x3, .int .i64 x4] 24) = w0 from HW.out]
  go_wp2_with fail
  refine (F1.out w0 B0.out.bel).mono ?_
  rintro e w1 ⟨rfl, hb⟩
  have hb' := hb.alloc hb.size (.cells #[.int .i64 z0, .int .i64 z1, .bool z2, .int .i64 z3, .int .i64 z4] 24)
  have hz := at5_new 24 w1 (.int .i64 z0) (.int .i64 z1) (.bool z2) (.int .i64 z3) (.int .i64 z4)
  obtain ⟨u1, hu⟩ : ∃ u1, w1.alloc (.cells #[.int .i64 z0, .int .i64 z1, .bool z2, .int .i64 z3, .int .i64 z4] 24) = u1 := ⟨_, rfl⟩
  rw [hu] at hb' hz
  obtain ⟨b1, hbx⟩ : ∃ b1, w1.heap.size = b1 := ⟨_, rfl⟩
  rw [hbx] at hz
  have HU := Lib.hid hu
  have HX1 := Lib.hid hbx
  have B1 := Lib.hid (below_keep B0.out.bel hb' B0.out.bel.size)
  have X1 := Lib.hid (At5.keep B0.out.box hb')
  have Z1_1 := Lib.hid hz
  clear hb hb' hz hu hbx
  go_wp2_with fail
  rw [show w1.alloc (.cells #[.int .i64 z0, .int .i64 z1, .bool z2, .int .i64 z3, .int .i64 z4] 24) = u1 from HU.out]
  rw [show w1.heap.size = b1 from HX1.out]
  go_wp2_with fail
  refine (F2.out u1 B1.out).mono ?_
  rintro e w2 ⟨rfl, hb⟩
  have hb' := hb.alloc hb.size (.cells #[.int .i64 z0, .int .i64 z1, .bool z2, .int .i64 z3, .int .i64 z4] 24)
  have hz := at5_new 24 w2 (.int .i64 z0) (.int .i64 z1) (.bool z2) (.int .i64 z3) (.int .i64 z4)
  obtain ⟨u2, hu⟩ : ∃ u2, w2.alloc (.cells #[.int .i64 z0, .int .i64 z1, .bool z2, .int .i64 z3, .int .i64 z4] 24) = u2 := ⟨_, rfl⟩
  rw [hu] at hb' hz
  obtain ⟨b2, hbx⟩ : ∃ b2, w2.heap.size = b2 := ⟨_, rfl⟩
  rw [hbx] at hz
  have HU := Lib.hid hu
  have HX2 := Lib.hid hbx
  have B2 := Lib.hid (below_keep B1.out hb' B1.out.size)
  have X2 := Lib.hid (At5.keep X1.out hb')
  have Z2_2 := Lib.hid hz
  have Z1_2 := Lib.hid (Z1_1.out.keep hb')
  clear hb hb' hz hu hbx
  go_wp2_with fail
  rw [show w2.alloc (.cells #[.int .i64 z0, .int .i64 z1, .bool z2, .int .i64 z3, .int .i64 z4] 24) = u2 from HU.out]
  rw [show w2.heap.size = b2 from HX2.out]
  have C3 := Lib.hid (fun d os => Calls.regrown_of (F3.out (Sort.grow (redrawn u2 d) os) (below_keep B2.out (below_regrown u2 d os) B2.out.size)))
  have C4 := Lib.hid (fun d os => Calls.regrown_of (F4.out (Sort.grow (redrawn u2 d) os) (below_keep B2.out (below_regrown u2 d os) B2.out.size)))
  have C5 := Lib.hid (fun d os => Calls.regrown_of (F5.out (Sort.grow (redrawn u2 d) os) (below_keep B2.out (below_regrown u2 d os) B2.out.size)))
  have C6 := Lib.hid (fun d os => Calls.regrown_of (F6.out (Sort.grow (redrawn u2 d) os)))
  have C7 := Lib.hid (fun d os => Calls.regrown_of (awake_any (Sort.grow (redrawn u2 d) os) (HT.out.keep (below_keep B2.out (below_regrown u2 d os) B2.out.size))))
  obtain ⟨k10, k11, k12, k13, k14⟩ := cells5 Z1_2.out
  obtain ⟨k20, k21, k22, k23, k24⟩ := cells5 Z2_2.out
  obtain ⟨k30, k31, k32, k33, k34⟩ := cells5 X2.out
  have c10 := fun d os => cell_regrown k10 d os
  have c11 := fun d os => cell_regrown k11 d os
  have c12 := fun d os => cell_regrown k12 d os
  have c13 := fun d os => cell_regrown k13 d os
  have c14 := fun d os => cell_regrown k14 d os
  have c20 := fun d os => cell_regrown k20 d os
  have c21 := fun d os => cell_regrown k21 d os
  have c22 := fun d os => cell_regrown k22 d os
  have c23 := fun d os => cell_regrown k23 d os
  have c24 := fun d os => cell_regrown k24 d os
  have c30 := fun d os => cell_regrown k30 d os
  have c31 := fun d os => cell_regrown k31 d os
  have c32 := fun d os => cell_regrown k32 d os
  have c33 := fun d os => cell_regrown k33 d os
  have c34 := fun d os => cell_regrown k34 d os
  clear k10 k11 k12 k13 k14 k20 k21 k22 k23 k24 k30 k31 k32 k33 k34
  have q1 := fun w => eql_lt z0 z1 z2 z3 z4 z0 z1 z2 z3 z4 w
  rw [eqL_self] at q1
  have q3 := fun x y w => guard_lt .eql x y z0 z1 z2 z3 z4 z0 z1 z2 z3 z4 w
  have hff : (f == f) = true := by simp
  have hpp : (p == p) = true := by simp
  have hss : (s.toList == s.toList) = true := by simp
  go_wp2_with fail
  refine wp_region_qw (by kernel_rfl) (by kernel_rfl) ?_
  iterate 26 (refine qw_take (by kernel_rfl) (fun K hK => ?_); go_simp; first | (refine hK _ ?_; clear hK K) | (apply Exists.intro; refine ⟨fun _ => ?_, hK _ ?_⟩; (first | with_reducible exact C3.out _ _ | with_reducible exact C4.out _ _ | with_reducible exact C5.out _ _ | with_reducible exact C6.out _ _ | with_reducible exact C7.out _ _); clear hK K))
  refine qw_nil ?_
  intro _ hw'
  obtain ⟨⟨dq, osq⟩, hw''⟩ := hw'
  subst hw''
  have HBL := Lib.hid (below_keep B2.out (below_regrown u2 dq osq) B2.out.size)
  go_wp2_with fail
  go_ret
  exact ⟨rfl, HBL.out⟩
end Go.Proofs.YtekndioohjlmcaaDoor.Letter
namespace Go.Proofs.YtekndioohjlmcaaDoor
open Go.RowKit
theorem Contract.letterTells (a : Option Addr) (len cap : Nat) (x0 x1 : Int) (x2 : Bool) (x3 x4 : Int) (g : Int) (W : World) (h : IsLetter W a len cap) (_hg : (Lit.int .i64 g).wf = true) (ht : Laid W) :
    Calls Tryd.prog 3 #[.slice a len cap, .agg #[.int .i64 x0, .int .i64 x1, .bool x2, .int .i64 x3, .int .i64 x4], .int .i64 g] W fun e W' => e = .returned (.bool true) ∧ Below W.heap.size W W' := by
  obtain ⟨l, hl, hc⟩ := h
  exact Go.Proofs.YtekndioohjlmcaaDoor.Letter.tells_any a len cap l x0 x1 x2 x3 x4 g W hl ht
end Go.Proofs.YtekndioohjlmcaaDoor
