/-
  The laws' awake, and KeyTells; what was there stays as it was.
-/
import Derived.Test.YtcdinaoenhonbaaDoorKeyE
import Derived.Test.YtcdinaoenhonbaaDoorKeyFr
set_option linter.unusedVariables false
set_option linter.unusedSimpArgs false
set_option maxRecDepth 4000
namespace Go.Proofs.YtcdinaoenhonbaaDoor.Key
open Go.RowKit KeyP
open Go.Proofs.YtcdinaoenhonbaaDoor.Kt

theorem aw3 : bs (textK ⟨3, 1, true⟩) = ⟨#[51, 46, 49, 45]⟩ := by rw [ex_text]; rfl
theorem eqK_refl (k : Ky) : eqK k k = true := eqK_iff.2 rfl
set_option maxHeartbeats 2000000 in
theorem awake_any (w : World) (hv : Laid w) : Calls Tryd.prog 6 #[] w fun e w' => e = .returned (.bool true) ∧ Below w.heap.size w w' := by
  have HV := Lib.hid (fun W (hb : Below w.heap.size w W) => hv.keep hb)
  have C1 := Lib.hid (read_is ⟨#[51, 46, 49, 45]⟩ 3 1 true 0 (by rw [show (⟨#[51, 46, 49, 45]⟩ : ByteArray).data.toList = [51, 46, 49, 45] from rfl, ex_read]; rfl) (by rw [show (⟨#[51, 46, 49, 45]⟩ : ByteArray).data.toList = [51, 46, 49, 45] from rfl, ex_read]; rfl) (by decide) w hv.2)
  clear hv
  go_enter Tryd.func6, Tryd.ntmps6
  go_wp2_with fail
  refine C1.out.mono ?_
  rintro e w1 ⟨rfl, hb⟩
  have HB1 := Lib.hid (hb.alloc hb.size (.cells #[.int .i64 3, .int .i64 1, .bool true] 25))
  have HY1 := Lib.hid (at3_new 25 w1 (.int .i64 3) (.int .i64 1) (.bool true))
  obtain ⟨y, hy⟩ : ∃ y, w1.heap.size = y := ⟨_, rfl⟩
  obtain ⟨u1, hu1⟩ : ∃ u1, w1.alloc (.cells #[.int .i64 3, .int .i64 1, .bool true] 25) = u1 := ⟨_, rfl⟩
  rw [hu1] at HB1 HY1
  rw [hy] at HY1
  have HU1 := Lib.hid hu1
  have HYN := Lib.hid hy
  have C2 := Lib.hid (read_is ⟨#[51, 46, 48, 54]⟩ 0 0 false 7 (by rw [show (⟨#[51, 46, 48, 54]⟩ : ByteArray).data.toList = [51, 46, 48, 54] from rfl, ex_none]; rfl) (by rw [show (⟨#[51, 46, 48, 54]⟩ : ByteArray).data.toList = [51, 46, 48, 54] from rfl, ex_none]; rfl) (by decide) u1 (HV.out _ HB1.out).2)
  clear hb hu1 hy C1
  go_wp2_with fail
  rw [show w1.alloc (.cells #[.int .i64 3, .int .i64 1, .bool true] 25) = u1 from HU1.out]
  rw [show w1.heap.size = y from HYN.out]
  refine C2.out.mono ?_
  rintro e w2 ⟨rfl, hb⟩
  have b2 := below_keep HB1.out hb HB1.out.size
  have HB2 := Lib.hid (b2.alloc b2.size (.cells #[.int .i64 0, .int .i64 0, .bool false] 25))
  have HY2 := Lib.hid ((At3.keep HY1.out hb).alloc (.cells #[.int .i64 0, .int .i64 0, .bool false] 25))
  clear hb b2 C2
  go_wp2_with fail
  obtain ⟨u2, hu2⟩ : ∃ u2, w2.alloc (.cells #[.int .i64 0, .int .i64 0, .bool false] 25) = u2 := ⟨_, rfl⟩
  rw [hu2] at HB2 HY2
  rw [hu2]
  have C3 := Lib.hid (text_is 3 1 true _ aw3 u2 (HV.out _ HB2.out).1)
  clear hu2
  refine C3.out.mono ?_
  rintro e w3 ⟨rfl, hb⟩
  have HB3 := Lib.hid (below_keep HB2.out hb HB2.out.size)
  have HY3 := Lib.hid (At3.keep HY2.out hb)
  obtain ⟨d0, d1, d2⟩ := cells3 HY3.out
  have q1 := fun w => eql_ky 3 1 true 3 1 true w
  rw [eqK_refl] at q1
  have q3 := fun x y w => guard_ky .eql x y 3 1 true 3 1 true w
  have C4 := Lib.hid (below_is 1 0 false 1 0 true true (by decide) w3)
  clear hb C3
  go_wp2_with fail
  refine C4.out.mono ?_
  rintro e w4 ⟨rfl, hb⟩
  have HB4 := Lib.hid (below_keep HB3.out hb HB3.out.size)
  clear hb
  go_wp2_with fail
  go_ret
  exact ⟨rfl, HB4.out⟩

set_option maxHeartbeats 16000000 in
theorem tells_any (x0 x1 : Int) (x2 : Bool) (y0 y1 : Int) (y2 : Bool) (s : ByteArray) (w : World) (hk : s.size ≤ 9223372036854775807) (hv : Laid w) : Calls Tryd.prog 3 #[kv x0 x1 x2, kv y0 y1 y2, .string s] w fun e w' => e = .returned (.bool true) ∧ Below w.heap.size w w' := by
  have HV := Lib.hid (fun W (hb : Below w.heap.size w W) => hv.keep hb)
  have hB0 : Below w.heap.size w ((w.alloc (.cells #[.int .i64 x0, .int .i64 x1, .bool x2] 23)).alloc (.cells #[.int .i64 y0, .int .i64 y1, .bool y2] 23)) := ((Below.refl _ w).alloc (Nat.le_refl _) _).alloc (by simp) _
  have hA0 : At3 23 ((w.alloc (.cells #[.int .i64 x0, .int .i64 x1, .bool x2] 23)).alloc (.cells #[.int .i64 y0, .int .i64 y1, .bool y2] 23)) w.heap.size (.int .i64 x0) (.int .i64 x1) (.bool x2) := (at3_new 23 w (.int .i64 x0) (.int .i64 x1) (.bool x2)).alloc _
  have hY0 := at3_new 23 (w.alloc (.cells #[.int .i64 x0, .int .i64 x1, .bool x2] 23)) (.int .i64 y0) (.int .i64 y1) (.bool y2)
  rw [World.size_alloc] at hY0
  obtain ⟨w0, hw0⟩ : ∃ w0, (w.alloc (.cells #[.int .i64 x0, .int .i64 x1, .bool x2] 23)).alloc (.cells #[.int .i64 y0, .int .i64 y1, .bool y2] 23) = w0 := ⟨_, rfl⟩
  rw [hw0] at hB0 hA0 hY0
  have HW := Lib.hid hw0
  have HB0 := Lib.hid hB0
  have HA0 := Lib.hid hA0
  have HY0 := Lib.hid hY0
  clear hw0 hB0 hA0 hY0 hv
  by_cases h60 : 60 < s.size
  · have hi : (60 : Int) < (s.size : Int) := by omega
    have CW := Lib.hid (awake_any w0 (HV.out _ HB0.out))
    go_enter Tryd.func3, Tryd.ntmps3
    go_wp2_with fail
    rw [show (w.alloc (.cells #[.int .i64 x0, .int .i64 x1, .bool x2] 23)).alloc (.cells #[.int .i64 y0, .int .i64 y1, .bool y2] 23) = w0 from HW.out]
    refine CW.out.mono ?_
    rintro e w2 ⟨rfl, hb⟩
    have HB := Lib.hid (below_keep HB0.out hb HB0.out.size)
    clear hb
    go_wp2_with fail
    go_ret
    exact ⟨rfl, HB.out⟩
  have hi : ¬ (60 : Int) < (s.size : Int) := by omega
  obtain ⟨z0, z1, z2, hx⟩ : ∃ z0 z1 z2, gotK (readK s.data.toList) = ⟨z0, z1, z2⟩ := ky_split _
  obtain ⟨er, he⟩ : ∃ er, errK (readK s.data.toList) = er := ⟨_, rfl⟩
  have C1 := Lib.hid (read_is s z0 z1 z2 er hx he (by omega) w0 (HV.out _ HB0.out).2)
  have C2 := Lib.hid (fun W => rread_is s z0 z1 z2 er hx he (by omega) W)
  clear hx he
  go_enter Tryd.func3, Tryd.ntmps3
  go_wp2_with fail
  rw [show (w.alloc (.cells #[.int .i64 x0, .int .i64 x1, .bool x2] 23)).alloc (.cells #[.int .i64 y0, .int .i64 y1, .bool y2] 23) = w0 from HW.out]
  refine C1.out.mono ?_
  rintro e w1 ⟨rfl, hb⟩
  have b1 := below_keep HB0.out hb HB0.out.size
  have HB1 := Lib.hid (b1.alloc b1.size (.cells #[.int .i64 z0, .int .i64 z1, .bool z2] 25))
  have HA1 := Lib.hid ((At3.keep HA0.out hb).alloc (.cells #[.int .i64 z0, .int .i64 z1, .bool z2] 25))
  have HY1 := Lib.hid ((At3.keep HY0.out hb).alloc (.cells #[.int .i64 z0, .int .i64 z1, .bool z2] 25))
  have HZ1 := Lib.hid (at3_new 25 w1 (.int .i64 z0) (.int .i64 z1) (.bool z2))
  obtain ⟨p, hp⟩ : ∃ p, w1.heap.size = p := ⟨_, rfl⟩
  obtain ⟨u1, hu1⟩ : ∃ u1, w1.alloc (.cells #[.int .i64 z0, .int .i64 z1, .bool z2] 25) = u1 := ⟨_, rfl⟩
  rw [hu1] at HB1 HA1 HY1 HZ1
  rw [hp] at HZ1
  have HU1 := Lib.hid hu1
  have HP := Lib.hid hp
  clear hb b1 hu1 hp C1 HA0 HY0 HB0
  go_wp2_with fail
  rw [show w1.alloc (.cells #[.int .i64 z0, .int .i64 z1, .bool z2] 25) = u1 from HU1.out]
  rw [show w1.heap.size = p from HP.out]
  refine (C2.out u1).mono ?_
  rintro e w2 ⟨rfl, hb⟩
  have b2 := below_keep HB1.out hb HB1.out.size
  have HB2 := Lib.hid (b2.alloc b2.size (.cells #[.int .i64 z0, .int .i64 z1, .bool z2] 23))
  have HA2 := (At3.keep HA1.out hb).alloc (.cells #[.int .i64 z0, .int .i64 z1, .bool z2] 23)
  have HY2 := (At3.keep HY1.out hb).alloc (.cells #[.int .i64 z0, .int .i64 z1, .bool z2] 23)
  have HZ2 := (At3.keep HZ1.out hb).alloc (.cells #[.int .i64 z0, .int .i64 z1, .bool z2] 23)
  have HD2 := at3_new 23 w2 (.int .i64 z0) (.int .i64 z1) (.bool z2)
  obtain ⟨q, hq⟩ : ∃ q, w2.heap.size = q := ⟨_, rfl⟩
  obtain ⟨u2, hu2⟩ : ∃ u2, w2.alloc (.cells #[.int .i64 z0, .int .i64 z1, .bool z2] 23) = u2 := ⟨_, rfl⟩
  rw [hu2] at HB2 HA2 HY2 HZ2 HD2
  rw [hq] at HD2
  have HU2 := Lib.hid hu2
  have HQ := Lib.hid hq
  clear hb b2 hu2 hq C2 HA1 HY1 HZ1 HB1
  obtain ⟨f, hf⟩ : ∃ f, fitK ⟨x0, x1, x2⟩ = f := ⟨_, rfl⟩
  obtain ⟨t, ht⟩ : ∃ t, bs (textK ⟨x0, x1, x2⟩) = t := ⟨_, rfl⟩
  obtain ⟨v, hv2⟩ : ∃ v, belowK ⟨x0, x1, x2⟩ ⟨y0, y1, y2⟩ = v := ⟨_, rfl⟩
  have C0 := Lib.hid (fun d os => Calls.regrown_of (of_is x0 x1 x2 (Sort.grow (redrawn u2 d) os)))
  have C1 := Lib.hid (fun d os => Calls.regrown_of (of_is y0 y1 y2 (Sort.grow (redrawn u2 d) os)))
  have C2 := Lib.hid (fun d os => Calls.regrown_of (of_is z0 z1 z2 (Sort.grow (redrawn u2 d) os)))
  have C3 := Lib.hid (fun d os => Calls.regrown_of (fit_is x0 x1 x2 f hf (Sort.grow (redrawn u2 d) os)))
  have C4 := Lib.hid (fun d os => Calls.regrown_of (rfit_is x0 x1 x2 f hf (Sort.grow (redrawn u2 d) os)))
  have C5 := Lib.hid (fun d os => Calls.regrown_of (text_is x0 x1 x2 t ht (Sort.grow (redrawn u2 d) os) (HV.out (Sort.grow (redrawn u2 d) os) (below_keep HB2.out (below_regrown u2 d os) HB2.out.size)).1))
  have C6 := Lib.hid (fun d os => Calls.regrown_of (rtext_is x0 x1 x2 t ht (Sort.grow (redrawn u2 d) os)))
  have C7 := Lib.hid (fun d os => Calls.regrown_of (below_is x0 x1 x2 y0 y1 y2 v hv2 (Sort.grow (redrawn u2 d) os)))
  have C8 := Lib.hid (fun d os => Calls.regrown_of (rbelow_is x0 x1 x2 y0 y1 y2 v hv2 (Sort.grow (redrawn u2 d) os)))
  have C9 := Lib.hid (fun d os => Calls.regrown_of (awake_any (Sort.grow (redrawn u2 d) os) (HV.out (Sort.grow (redrawn u2 d) os) (below_keep HB2.out (below_regrown u2 d os) HB2.out.size))))
  obtain ⟨a0, a1, a2⟩ := cells3 HA2
  obtain ⟨b0, b1, b2⟩ := cells3 HY2
  obtain ⟨c0, c1, c2⟩ := cells3 HZ2
  obtain ⟨d0, d1, d2⟩ := cells3 HD2
  have ra0 := fun d os => cell_regrown a0 d os
  have ra1 := fun d os => cell_regrown a1 d os
  have ra2 := fun d os => cell_regrown a2 d os
  have rb0 := fun d os => cell_regrown b0 d os
  have rb1 := fun d os => cell_regrown b1 d os
  have rb2 := fun d os => cell_regrown b2 d os
  have rc0 := fun d os => cell_regrown c0 d os
  have rc1 := fun d os => cell_regrown c1 d os
  have rc2 := fun d os => cell_regrown c2 d os
  have rd0 := fun d os => cell_regrown d0 d os
  have rd1 := fun d os => cell_regrown d1 d os
  have rd2 := fun d os => cell_regrown d2 d os
  have hff : (f == f) = true := by simp
  have htt : (t.toList == t.toList) = true := by simp
  have hvv : (v == v) = true := by simp
  have hee : (er == er) = true := by simp
  have q1 := fun w => eql_ky z0 z1 z2 z0 z1 z2 w
  rw [eqK_refl] at q1
  have q3 := fun x y w => guard_ky .eql x y z0 z1 z2 z0 z1 z2 w
  clear hf ht hv2 HA2 HY2 HZ2 HD2 a0 a1 a2 b0 b1 b2 c0 c1 c2 d0 d1 d2
  go_wp2_with fail
  rw [show w2.alloc (.cells #[.int .i64 z0, .int .i64 z1, .bool z2] 23) = u2 from HU2.out]
  rw [show w2.heap.size = q from HQ.out]
  refine wp_region_qw (by kernel_rfl) (by kernel_rfl) ?_
  iterate 40 (refine qw_take (by kernel_rfl) (fun K hK => ?_); go_simp; first | (refine hK _ ?_; clear hK K) | (apply Exists.intro; refine ⟨fun _ => ?_, hK _ ?_⟩; (first | with_reducible exact C0.out _ _ | with_reducible exact C1.out _ _ | with_reducible exact C2.out _ _ | with_reducible exact C3.out _ _ | with_reducible exact C4.out _ _ | with_reducible exact C5.out _ _ | with_reducible exact C6.out _ _ | with_reducible exact C7.out _ _ | with_reducible exact C8.out _ _ | with_reducible exact C9.out _ _); clear hK K))
  refine qw_nil ?_
  intro _ hw'
  obtain ⟨⟨dq, osq⟩, hw''⟩ := hw'
  subst hw''
  have HBL := Lib.hid (below_keep HB2.out (below_regrown u2 dq osq) HB2.out.size)
  clear C0 C1 C2 C3 C4 C5 C6 C7 C8 C9 ra0 ra1 ra2 rb0 rb1 rb2 rc0 rc1 rc2 rd0 rd1 rd2
  go_wp2_with fail
  go_ret
  exact ⟨rfl, HBL.out⟩
end Go.Proofs.YtcdinaoenhonbaaDoor.Key
namespace Go.Proofs.YtcdinaoenhonbaaDoor
open Go.RowKit
theorem Contract.keyTells (x0 x1 : Int) (x2 : Bool) (y0 y1 : Int) (y2 : Bool) (s : ByteArray) (W : World) (hk : s.size ≤ maxLen) (ht : Laid W) :
    Calls Tryd.prog 3 #[.agg #[.int .i64 x0, .int .i64 x1, .bool x2], .agg #[.int .i64 y0, .int .i64 y1, .bool y2], .string s] W fun e W' => e = .returned (.bool true) ∧ Below W.heap.size W W' := by
  unfold maxLen at hk
  exact Go.Proofs.YtcdinaoenhonbaaDoor.Key.tells_any x0 x1 x2 y0 y1 y2 s W hk ht
end Go.Proofs.YtcdinaoenhonbaaDoor
