/-
  The laws' awake; what was there stays as it was.
-/
import Derived.Test.YtamcidlkbhanfaaMsgH
import Derived.Test.YtamcidlkbhanfaaMsgI
set_option linter.unusedVariables false
set_option linter.unusedSimpArgs false
set_option maxRecDepth 4000
namespace Go.Proofs.Ytamcidlkbhanfaa.Msg
open Go.RowKit MsgP
open Go.Proofs.Ytamcidlkbhanfaa.Kt

def x0 : Ev := ⟨9, false, 1, ⟨0, 0, 0, false, 0, 0, false⟩, ⟨1, 1, 3, 0, false, 2, 1⟩⟩
theorem x0_fit : fitV x0 = true := by decide
theorem x0_len : (putV x0).length = 17 := by decide +kernel
theorem size_alloc_put (w : World) (o : Obj) (k : Nat) (v0 v1 v2 v3 v4 v5 v6 v7 v8 v9 v10 v11 v12 v13 v14 v15 v16 : Value) : (put17 (w.alloc o) k v0 v1 v2 v3 v4 v5 v6 v7 v8 v9 v10 v11 v12 v13 v14 v15 v16).heap.size = w.heap.size + 1 := by rw [size_put17, World.size_alloc]
/-- A value in a new variable. -/
theorem new_at (w : World) (v0 v1 v2 v3 v4 v5 v6 v7 v8 v9 v10 v11 v12 v13 v14 v15 v16 : Value) : At17 27 (put17 (w.alloc (.cells #[.int .i64 0, .bool false, .int .i64 0, .int .i64 0, .int .i64 0, .int .i64 0, .bool false, .int .i64 0, .int .i64 0, .bool false, .int .i64 0, .int .i64 0, .int .i64 0, .int .i64 0, .bool false, .int .i64 0, .int .i64 0] 27)) w.heap.size v0 v1 v2 v3 v4 v5 v6 v7 v8 v9 v10 v11 v12 v13 v14 v15 v16) w.heap.size v0 v1 v2 v3 v4 v5 v6 v7 v8 v9 v10 v11 v12 v13 v14 v15 v16 := heap_put17 (at17_new 27 w (.int .i64 0) (.bool false) (.int .i64 0) (.int .i64 0) (.int .i64 0) (.int .i64 0) (.bool false) (.int .i64 0) (.int .i64 0) (.bool false) (.int .i64 0) (.int .i64 0) (.int .i64 0) (.int .i64 0) (.bool false) (.int .i64 0) (.int .i64 0)) v0 v1 v2 v3 v4 v5 v6 v7 v8 v9 v10 v11 v12 v13 v14 v15 v16
theorem new_below (w : World) (v0 v1 v2 v3 v4 v5 v6 v7 v8 v9 v10 v11 v12 v13 v14 v15 v16 : Value) : Below w.heap.size w (put17 (w.alloc (.cells #[.int .i64 0, .bool false, .int .i64 0, .int .i64 0, .int .i64 0, .int .i64 0, .bool false, .int .i64 0, .int .i64 0, .bool false, .int .i64 0, .int .i64 0, .int .i64 0, .int .i64 0, .bool false, .int .i64 0, .int .i64 0] 27)) w.heap.size v0 v1 v2 v3 v4 v5 v6 v7 v8 v9 v10 v11 v12 v13 v14 v15 v16) := below_put17 ((Below.refl _ w).alloc (Nat.le_refl _) _) (Nat.le_refl _) v0 v1 v2 v3 v4 v5 v6 v7 v8 v9 v10 v11 v12 v13 v14 v15 v16
set_option maxHeartbeats 2000000 in
theorem awake_any (w : World) : Calls Try.prog 16 #[] w fun e w' => e = .returned (.bool true) ∧ Below w.heap.size w w' := by
  obtain ⟨t, ht⟩ : ∃ t, Bld.bs (putV x0) = t := ⟨_, rfl⟩
  have htl : t.size = 17 := by rw [← ht, Bld.size_bs, x0_len]
  have htk : takeV t.data.toList = some x0 := by rw [← ht, Bld.data_bs]; exact take_back x0_fit
  have hX1 := at17_new 27 w (.int .i64 9) (.bool false) (.int .i64 1) (.int .i64 0) (.int .i64 0) (.int .i64 0) (.bool false) (.int .i64 0) (.int .i64 0) (.bool false) (.int .i64 1) (.int .i64 1) (.int .i64 3) (.int .i64 0) (.bool false) (.int .i64 2) (.int .i64 1)
  have hB1 := (Below.refl w.heap.size w).alloc (Nat.le_refl _) (.cells #[.int .i64 9, .bool false, .int .i64 1, .int .i64 0, .int .i64 0, .int .i64 0, .bool false, .int .i64 0, .int .i64 0, .bool false, .int .i64 1, .int .i64 1, .int .i64 3, .int .i64 0, .bool false, .int .i64 2, .int .i64 1] 27)
  obtain ⟨u1, hu1⟩ : ∃ u, (w.alloc (.cells #[.int .i64 9, .bool false, .int .i64 1, .int .i64 0, .int .i64 0, .int .i64 0, .bool false, .int .i64 0, .int .i64 0, .bool false, .int .i64 1, .int .i64 1, .int .i64 3, .int .i64 0, .bool false, .int .i64 2, .int .i64 1] 27)) = u := ⟨_, rfl⟩
  have HL1 := Lib.hid hX1
  rw [hu1] at hX1 hB1
  have HX1 := Lib.hid hX1
  have HB1 := Lib.hid hB1
  have HU1 := Lib.hid hu1
  have CP := Lib.hid (put_yes 9 false 1 0 0 0 false 0 0 false 1 1 3 0 false 2 1 x0_fit t ht u1)
  have CT := Lib.hid (fun W => take_is t 9 false 1 0 0 0 false 0 0 false 1 1 3 0 false 2 1 0 (by rw [htk]; rfl) (by rw [htk]; rfl) (by omega) W)
  have CN := Lib.hid (fun W => take_is ⟨#[]⟩ 0 false 0 0 0 0 false 0 0 false 0 0 0 0 false 0 0 7 (by rw [show takeV (⟨#[]⟩ : ByteArray).data.toList = none from take_nil]; rfl) (by rw [show takeV (⟨#[]⟩ : ByteArray).data.toList = none from take_nil]; rfl) (by decide) W)
  clear ht htk hX1 hB1 hu1
  have q1 := fun w => eql_v 9 false 1 0 0 0 false 0 0 false 1 1 3 0 false 2 1 9 false 1 0 0 0 false 0 0 false 1 1 3 0 false 2 1 w
  rw [eqV_self] at q1
  have q3 := fun x y u v w => guard_v .eql x y u v w
  go_enter Try.func16, Try.ntmps16
  go_wp2_with (first | (refine ld17 (b := w.heap.size) (v0 := .int .i64 9) (v1 := .bool false) (v2 := .int .i64 1) (v3 := .int .i64 0) (v4 := .int .i64 0) (v5 := .int .i64 0) (v6 := .bool false) (v7 := .int .i64 0) (v8 := .int .i64 0) (v9 := .bool false) (v10 := .int .i64 1) (v11 := .int .i64 1) (v12 := .int .i64 3) (v13 := .int .i64 0) (v14 := .bool false) (v15 := .int .i64 2) (v16 := .int .i64 1) ?_ (.tmp 1) (by kernel_rfl) rfl rfl ?_; · with_reducible exact HL1.out))
  rw [show (w.alloc (.cells #[.int .i64 9, .bool false, .int .i64 1, .int .i64 0, .int .i64 0, .int .i64 0, .bool false, .int .i64 0, .int .i64 0, .bool false, .int .i64 1, .int .i64 1, .int .i64 3, .int .i64 0, .bool false, .int .i64 2, .int .i64 1] 27)) = u1 from HU1.out]
  clear HL1
  refine CP.out.mono ?_
  rintro e w2 ⟨rfl, hb⟩
  have HX2 := Lib.hid (HX1.out.keep hb)
  have HB2 := Lib.hid (below_keep HB1.out hb HB1.out.size)
  clear hb HX1 HB1 CP
  go_wp2_with fail
  refine (CT.out _).mono ?_
  rintro e w3 ⟨rfl, hb⟩
  have b3 := below_keep HB2.out hb HB2.out.size
  have hX3 := (HX2.out.keep hb).keep (new_below w3 (.int .i64 9) (.bool false) (.int .i64 1) (.int .i64 0) (.int .i64 0) (.int .i64 0) (.bool false) (.int .i64 0) (.int .i64 0) (.bool false) (.int .i64 1) (.int .i64 1) (.int .i64 3) (.int .i64 0) (.bool false) (.int .i64 2) (.int .i64 1))
  have hB3 := below_keep b3 (new_below w3 (.int .i64 9) (.bool false) (.int .i64 1) (.int .i64 0) (.int .i64 0) (.int .i64 0) (.bool false) (.int .i64 0) (.int .i64 0) (.bool false) (.int .i64 1) (.int .i64 1) (.int .i64 3) (.int .i64 0) (.bool false) (.int .i64 2) (.int .i64 1)) b3.size
  have hY3 := new_at w3 (.int .i64 9) (.bool false) (.int .i64 1) (.int .i64 0) (.int .i64 0) (.int .i64 0) (.bool false) (.int .i64 0) (.int .i64 0) (.bool false) (.int .i64 1) (.int .i64 1) (.int .i64 3) (.int .i64 0) (.bool false) (.int .i64 2) (.int .i64 1)
  clear hb b3 HX2 HB2 CT
  go_simp
  rename_i K1 hK1
  refine hK1 _ _ ?_
  clear hK1 K1
  iterate 4 (refine wpList_plain rfl fun K hK => ?_; go_simp; refine hK _ _ ?_; clear hK K)
  refine st17 (at17_new 27 w3 (.int .i64 0) (.bool false) (.int .i64 0) (.int .i64 0) (.int .i64 0) (.int .i64 0) (.bool false) (.int .i64 0) (.int .i64 0) (.bool false) (.int .i64 0) (.int .i64 0) (.int .i64 0) (.int .i64 0) (.bool false) (.int .i64 0) (.int .i64 0)) (.tmp 4) (.tmp 18) rfl rfl rfl rfl rfl ?_
  simp only [Act.put, List.setIfInBounds_toArray, List.set_cons_succ, List.set_cons_zero]
  obtain ⟨p3, hp3⟩ : ∃ p, w3.heap.size = p := ⟨_, rfl⟩
  obtain ⟨u3, hu3⟩ : ∃ u, put17 (w3.alloc (.cells #[.int .i64 0, .bool false, .int .i64 0, .int .i64 0, .int .i64 0, .int .i64 0, .bool false, .int .i64 0, .int .i64 0, .bool false, .int .i64 0, .int .i64 0, .int .i64 0, .int .i64 0, .bool false, .int .i64 0, .int .i64 0] 27)) w3.heap.size (.int .i64 9) (.bool false) (.int .i64 1) (.int .i64 0) (.int .i64 0) (.int .i64 0) (.bool false) (.int .i64 0) (.int .i64 0) (.bool false) (.int .i64 1) (.int .i64 1) (.int .i64 3) (.int .i64 0) (.bool false) (.int .i64 2) (.int .i64 1) = u := ⟨_, rfl⟩
  have HU3 := Lib.hid hu3
  have HP3 := Lib.hid hp3
  rw [hu3] at hX3 hB3 hY3
  rw [hp3] at hY3
  rw [show put17 (w3.alloc (.cells #[.int .i64 0, .bool false, .int .i64 0, .int .i64 0, .int .i64 0, .int .i64 0, .bool false, .int .i64 0, .int .i64 0, .bool false, .int .i64 0, .int .i64 0, .int .i64 0, .int .i64 0, .bool false, .int .i64 0, .int .i64 0] 27)) w3.heap.size (.int .i64 9) (.bool false) (.int .i64 1) (.int .i64 0) (.int .i64 0) (.int .i64 0) (.bool false) (.int .i64 0) (.int .i64 0) (.bool false) (.int .i64 1) (.int .i64 1) (.int .i64 3) (.int .i64 0) (.bool false) (.int .i64 2) (.int .i64 1) = u3 from hu3, hp3]
  have HX3 := Lib.hid hX3
  have HB3 := Lib.hid hB3
  have HY3 := Lib.hid hY3
  clear hX3 hB3 hY3 hu3 hp3
  go_wp2_with fail
  refine (CN.out _).mono ?_
  rintro e w4 ⟨rfl, hb⟩
  have b4 := below_keep HB3.out hb HB3.out.size
  have hX4 := (HX3.out.keep hb).keep (new_below w4 (.int .i64 0) (.bool false) (.int .i64 0) (.int .i64 0) (.int .i64 0) (.int .i64 0) (.bool false) (.int .i64 0) (.int .i64 0) (.bool false) (.int .i64 0) (.int .i64 0) (.int .i64 0) (.int .i64 0) (.bool false) (.int .i64 0) (.int .i64 0))
  have hY4 := (HY3.out.keep hb).keep (new_below w4 (.int .i64 0) (.bool false) (.int .i64 0) (.int .i64 0) (.int .i64 0) (.int .i64 0) (.bool false) (.int .i64 0) (.int .i64 0) (.bool false) (.int .i64 0) (.int .i64 0) (.int .i64 0) (.int .i64 0) (.bool false) (.int .i64 0) (.int .i64 0))
  have hB4 := below_keep b4 (new_below w4 (.int .i64 0) (.bool false) (.int .i64 0) (.int .i64 0) (.int .i64 0) (.int .i64 0) (.bool false) (.int .i64 0) (.int .i64 0) (.bool false) (.int .i64 0) (.int .i64 0) (.int .i64 0) (.int .i64 0) (.bool false) (.int .i64 0) (.int .i64 0)) b4.size
  clear hb b4 HX3 HB3 HY3 CN
  go_simp
  rename_i K1 hK1
  refine hK1 _ _ ?_
  clear hK1 K1
  iterate 4 (refine wpList_plain rfl fun K hK => ?_; go_simp; refine hK _ _ ?_; clear hK K)
  refine st17 (at17_new 27 w4 (.int .i64 0) (.bool false) (.int .i64 0) (.int .i64 0) (.int .i64 0) (.int .i64 0) (.bool false) (.int .i64 0) (.int .i64 0) (.bool false) (.int .i64 0) (.int .i64 0) (.int .i64 0) (.int .i64 0) (.bool false) (.int .i64 0) (.int .i64 0)) (.tmp 6) (.tmp 22) rfl rfl rfl rfl rfl ?_
  simp only [Act.put, List.setIfInBounds_toArray, List.set_cons_succ, List.set_cons_zero]
  obtain ⟨p4, hp4⟩ : ∃ p, w4.heap.size = p := ⟨_, rfl⟩
  obtain ⟨u4, hu4⟩ : ∃ u, put17 (w4.alloc (.cells #[.int .i64 0, .bool false, .int .i64 0, .int .i64 0, .int .i64 0, .int .i64 0, .bool false, .int .i64 0, .int .i64 0, .bool false, .int .i64 0, .int .i64 0, .int .i64 0, .int .i64 0, .bool false, .int .i64 0, .int .i64 0] 27)) w4.heap.size (.int .i64 0) (.bool false) (.int .i64 0) (.int .i64 0) (.int .i64 0) (.int .i64 0) (.bool false) (.int .i64 0) (.int .i64 0) (.bool false) (.int .i64 0) (.int .i64 0) (.int .i64 0) (.int .i64 0) (.bool false) (.int .i64 0) (.int .i64 0) = u := ⟨_, rfl⟩
  rw [hu4] at hX4 hB4 hY4
  rw [show put17 (w4.alloc (.cells #[.int .i64 0, .bool false, .int .i64 0, .int .i64 0, .int .i64 0, .int .i64 0, .bool false, .int .i64 0, .int .i64 0, .bool false, .int .i64 0, .int .i64 0, .int .i64 0, .int .i64 0, .bool false, .int .i64 0, .int .i64 0] 27)) w4.heap.size (.int .i64 0) (.bool false) (.int .i64 0) (.int .i64 0) (.int .i64 0) (.int .i64 0) (.bool false) (.int .i64 0) (.int .i64 0) (.bool false) (.int .i64 0) (.int .i64 0) (.int .i64 0) (.int .i64 0) (.bool false) (.int .i64 0) (.int .i64 0) = u4 from hu4, hp4]
  have HX4 := Lib.hid hX4
  have HB4 := Lib.hid hB4
  have HY4 := Lib.hid hY4
  have hi : ((t.size : Nat) : Int) = 17 := by rw [htl]; rfl
  clear hX4 hB4 hY4 hu4 hp4
  go_wp2_with (first | (refine ld17 HY4.out (.tmp 4) (by kernel_rfl) rfl rfl ?_) | (refine ld17 HX4.out (.tmp 1) (by kernel_rfl) rfl rfl ?_))
  go_ret
  exact ⟨rfl, HB4.out⟩
end Go.Proofs.Ytamcidlkbhanfaa.Msg
