/-
  MsgPuts; what was there stays as it was.
-/
import Derived.Test.YtamcidlkbhanfaaMsgK
import Derived.Test.YtamcidlkbhanfaaMsgFr
set_option linter.unusedVariables false
set_option linter.unusedSimpArgs false
set_option maxRecDepth 4000
namespace Go.Proofs.Ytamcidlkbhanfaa.Msg
open Go.RowKit MsgP
open Go.Proofs.Ytamcidlkbhanfaa.Kt

open Bld
open Go.Sort
/-- Both Puts tell the same. -/
theorem both_puts (n0 : Int) (n1 : Bool) (n2 : Int) (x0 : Int) (x1 : Int) (x2 : Int) (x3 : Bool) (x4 : Int) (x5 : Int) (x6 : Bool) (r0 : Int) (r1 : Int) (r2 : Int) (r3 : Int) (r4 : Bool) (r5 : Int) (r6 : Int) : ∃ (t : ByteArray) (er : Int), ∀ W, (Calls Try.prog 6 #[vv n0 n1 n2 x0 x1 x2 x3 x4 x5 x6 r0 r1 r2 r3 r4 r5 r6] W fun e w' => e = .returned (.tuple #[.string t, .int .i64 er]) ∧ Below W.heap.size W w') ∧ (Calls Try.prog 7 #[vv n0 n1 n2 x0 x1 x2 x3 x4 x5 x6 r0 r1 r2 r3 r4 r5 r6] W fun e w' => e = .returned (.tuple #[.string t, .int .i64 er]) ∧ Below W.heap.size W w') := by
  cases h : fitV ⟨n0, n1, n2, ⟨x0, x1, x2, x3, x4, x5, x6⟩, ⟨r0, r1, r2, r3, r4, r5, r6⟩⟩ with
  | false => exact ⟨⟨#[]⟩, 1, fun W => ⟨put_no n0 n1 n2 x0 x1 x2 x3 x4 x5 x6 r0 r1 r2 r3 r4 r5 r6 h W, rput_no n0 n1 n2 x0 x1 x2 x3 x4 x5 x6 r0 r1 r2 r3 r4 r5 r6 h W⟩⟩
  | true => exact ⟨_, 0, fun W => ⟨put_yes n0 n1 n2 x0 x1 x2 x3 x4 x5 x6 r0 r1 r2 r3 r4 r5 r6 h _ rfl W, rput_yes n0 n1 n2 x0 x1 x2 x3 x4 x5 x6 r0 r1 r2 r3 r4 r5 r6 h _ rfl W⟩⟩

set_option maxHeartbeats 8000000 in
theorem puts_any (n0 : Int) (n1 : Bool) (n2 : Int) (x0 : Int) (x1 : Int) (x2 : Int) (x3 : Bool) (x4 : Int) (x5 : Int) (x6 : Bool) (r0 : Int) (r1 : Int) (r2 : Int) (r3 : Int) (r4 : Bool) (r5 : Int) (r6 : Int) (y0 : Int) (y1 : Int) (y2 : Int) (y3 : Bool) (y4 : Int) (y5 : Int) (y6 : Bool) (s0 : Int) (s1 : Int) (s2 : Int) (s3 : Int) (s4 : Bool) (s5 : Int) (s6 : Int) (he : E64 ⟨y0, y1, y2, y3, y4, y5, y6⟩) (hr : R64 ⟨s0, s1, s2, s3, s4, s5, s6⟩) (w : World) : Calls Try.prog 3 #[vv n0 n1 n2 x0 x1 x2 x3 x4 x5 x6 r0 r1 r2 r3 r4 r5 r6, (.agg #[.int .i64 y0, .int .i64 y1, .int .i64 y2, .bool y3, .int .i64 y4, .int .i64 y5, .bool y6]), (.agg #[.int .i64 s0, .int .i64 s1, .int .i64 s2, .int .i64 s3, .bool s4, .int .i64 s5, .int .i64 s6])] w fun e w' => e = .returned (.bool true) ∧ Below w.heap.size w w' := by
  have hB0 : Below w.heap.size w (((w.alloc (.cells #[.int .i64 n0, .bool n1, .int .i64 n2, .int .i64 x0, .int .i64 x1, .int .i64 x2, .bool x3, .int .i64 x4, .int .i64 x5, .bool x6, .int .i64 r0, .int .i64 r1, .int .i64 r2, .int .i64 r3, .bool r4, .int .i64 r5, .int .i64 r6] 27)).alloc (.cells #[.int .i64 y0, .int .i64 y1, .int .i64 y2, .bool y3, .int .i64 y4, .int .i64 y5, .bool y6] 23)).alloc (.cells #[.int .i64 s0, .int .i64 s1, .int .i64 s2, .int .i64 s3, .bool s4, .int .i64 s5, .int .i64 s6] 25)) := (((Below.refl _ w).alloc (Nat.le_refl _) _).alloc (by simp) _).alloc (by rw [World.size_alloc, World.size_alloc]; omega) _
  have hX0 : At17 27 (((w.alloc (.cells #[.int .i64 n0, .bool n1, .int .i64 n2, .int .i64 x0, .int .i64 x1, .int .i64 x2, .bool x3, .int .i64 x4, .int .i64 x5, .bool x6, .int .i64 r0, .int .i64 r1, .int .i64 r2, .int .i64 r3, .bool r4, .int .i64 r5, .int .i64 r6] 27)).alloc (.cells #[.int .i64 y0, .int .i64 y1, .int .i64 y2, .bool y3, .int .i64 y4, .int .i64 y5, .bool y6] 23)).alloc (.cells #[.int .i64 s0, .int .i64 s1, .int .i64 s2, .int .i64 s3, .bool s4, .int .i64 s5, .int .i64 s6] 25)) w.heap.size (.int .i64 n0) (.bool n1) (.int .i64 n2) (.int .i64 x0) (.int .i64 x1) (.int .i64 x2) (.bool x3) (.int .i64 x4) (.int .i64 x5) (.bool x6) (.int .i64 r0) (.int .i64 r1) (.int .i64 r2) (.int .i64 r3) (.bool r4) (.int .i64 r5) (.int .i64 r6) := ((at17_new 27 w (.int .i64 n0) (.bool n1) (.int .i64 n2) (.int .i64 x0) (.int .i64 x1) (.int .i64 x2) (.bool x3) (.int .i64 x4) (.int .i64 x5) (.bool x6) (.int .i64 r0) (.int .i64 r1) (.int .i64 r2) (.int .i64 r3) (.bool r4) (.int .i64 r5) (.int .i64 r6)).alloc _).alloc _
  have hE0 := (at7_new 23 (w.alloc (.cells #[.int .i64 n0, .bool n1, .int .i64 n2, .int .i64 x0, .int .i64 x1, .int .i64 x2, .bool x3, .int .i64 x4, .int .i64 x5, .bool x6, .int .i64 r0, .int .i64 r1, .int .i64 r2, .int .i64 r3, .bool r4, .int .i64 r5, .int .i64 r6] 27)) (.int .i64 y0) (.int .i64 y1) (.int .i64 y2) (.bool y3) (.int .i64 y4) (.int .i64 y5) (.bool y6)).alloc (.cells #[.int .i64 s0, .int .i64 s1, .int .i64 s2, .int .i64 s3, .bool s4, .int .i64 s5, .int .i64 s6] 25)
  have hR0 := at7_new 25 ((w.alloc (.cells #[.int .i64 n0, .bool n1, .int .i64 n2, .int .i64 x0, .int .i64 x1, .int .i64 x2, .bool x3, .int .i64 x4, .int .i64 x5, .bool x6, .int .i64 r0, .int .i64 r1, .int .i64 r2, .int .i64 r3, .bool r4, .int .i64 r5, .int .i64 r6] 27)).alloc (.cells #[.int .i64 y0, .int .i64 y1, .int .i64 y2, .bool y3, .int .i64 y4, .int .i64 y5, .bool y6] 23)) (.int .i64 s0) (.int .i64 s1) (.int .i64 s2) (.int .i64 s3) (.bool s4) (.int .i64 s5) (.int .i64 s6)
  rw [World.size_alloc] at hE0 hR0
  rw [World.size_alloc] at hR0
  obtain ⟨w0, hw0⟩ : ∃ w0, (((w.alloc (.cells #[.int .i64 n0, .bool n1, .int .i64 n2, .int .i64 x0, .int .i64 x1, .int .i64 x2, .bool x3, .int .i64 x4, .int .i64 x5, .bool x6, .int .i64 r0, .int .i64 r1, .int .i64 r2, .int .i64 r3, .bool r4, .int .i64 r5, .int .i64 r6] 27)).alloc (.cells #[.int .i64 y0, .int .i64 y1, .int .i64 y2, .bool y3, .int .i64 y4, .int .i64 y5, .bool y6] 23)).alloc (.cells #[.int .i64 s0, .int .i64 s1, .int .i64 s2, .int .i64 s3, .bool s4, .int .i64 s5, .int .i64 s6] 25)) = w0 := ⟨_, rfl⟩
  have HL0 := Lib.hid hX0
  rw [hw0] at hB0 hX0 hE0 hR0
  have HW := Lib.hid hw0
  have HB0 := Lib.hid hB0
  have HX0 := Lib.hid hX0
  have HE0 := Lib.hid hE0
  have HR0 := Lib.hid hR0
  obtain ⟨t, er, hp⟩ := both_puts n0 n1 n2 x0 x1 x2 x3 x4 x5 x6 r0 r1 r2 r3 r4 r5 r6
  have HP := Lib.hid hp
  clear hw0 hB0 hX0 hE0 hR0 hp
  go_enter Try.func3, Try.ntmps3
  go_wp2_with (refine ld17 (b := w.heap.size) (v0 := .int .i64 n0) (v1 := .bool n1) (v2 := .int .i64 n2) (v3 := .int .i64 x0) (v4 := .int .i64 x1) (v5 := .int .i64 x2) (v6 := .bool x3) (v7 := .int .i64 x4) (v8 := .int .i64 x5) (v9 := .bool x6) (v10 := .int .i64 r0) (v11 := .int .i64 r1) (v12 := .int .i64 r2) (v13 := .int .i64 r3) (v14 := .bool r4) (v15 := .int .i64 r5) (v16 := .int .i64 r6) ?_ (.tmp 3) (by kernel_rfl) rfl rfl ?_; · with_reducible exact HL0.out)
  rw [show (((w.alloc (.cells #[.int .i64 n0, .bool n1, .int .i64 n2, .int .i64 x0, .int .i64 x1, .int .i64 x2, .bool x3, .int .i64 x4, .int .i64 x5, .bool x6, .int .i64 r0, .int .i64 r1, .int .i64 r2, .int .i64 r3, .bool r4, .int .i64 r5, .int .i64 r6] 27)).alloc (.cells #[.int .i64 y0, .int .i64 y1, .int .i64 y2, .bool y3, .int .i64 y4, .int .i64 y5, .bool y6] 23)).alloc (.cells #[.int .i64 s0, .int .i64 s1, .int .i64 s2, .int .i64 s3, .bool s4, .int .i64 s5, .int .i64 s6] 25)) = w0 from HW.out]
  clear HL0
  refine (HP.out _).1.mono ?_
  rintro e w1 ⟨rfl, hb⟩
  have HB1 := Lib.hid (below_keep HB0.out hb HB0.out.size)
  have HX1 := Lib.hid (HX0.out.keep hb)
  have HE1 := Lib.hid (HE0.out.keep hb)
  have HR1 := Lib.hid (HR0.out.keep hb)
  clear hb HB0 HX0 HE0 HR0
  go_wp2_with (refine ld17 HX1.out (.tmp 3) (by kernel_rfl) rfl rfl ?_)
  refine (HP.out _).2.mono ?_
  rintro e w2 ⟨rfl, hb⟩
  have HB2 := Lib.hid (below_keep HB1.out hb HB1.out.size)
  have HX2 := Lib.hid (HX1.out.keep hb)
  have hE2 := HE1.out.keep hb
  have hR2 := HR1.out.keep hb
  clear hb HB1 HX1 HE1 HR1
  obtain ⟨f, hf⟩ : ∃ f, fitV ⟨n0, n1, n2, ⟨x0, x1, x2, x3, x4, x5, x6⟩, ⟨r0, r1, r2, r3, r4, r5, r6⟩⟩ = f := ⟨_, rfl⟩
  obtain ⟨g, hg⟩ : ∃ f, fitR ⟨s0, s1, s2, s3, s4, s5, s6⟩ = f := ⟨_, rfl⟩
  obtain ⟨a, ha⟩ : ∃ a, bs (putE ⟨y0, y1, y2, y3, y4, y5, y6⟩) = a := ⟨_, rfl⟩
  obtain ⟨b, hb⟩ : ∃ a, bs (putR ⟨s0, s1, s2, s3, s4, s5, s6⟩) = a := ⟨_, rfl⟩
  have C0 := Lib.hid (fun d os => Calls.regrown_of (fit_is n0 n1 n2 x0 x1 x2 x3 x4 x5 x6 r0 r1 r2 r3 r4 r5 r6 f hf (Sort.grow (redrawn w2 d) os)))
  have C1 := Lib.hid (fun d os => Calls.regrown_of (rfit_is n0 n1 n2 x0 x1 x2 x3 x4 x5 x6 r0 r1 r2 r3 r4 r5 r6 f hf (Sort.grow (redrawn w2 d) os)))
  have C2 := Lib.hid (fun d os => Calls.regrown_of (fitr_is s0 s1 s2 s3 s4 s5 s6 g hg (Sort.grow (redrawn w2 d) os)))
  have C3 := Lib.hid (fun d os => Calls.regrown_of (rfitr_is s0 s1 s2 s3 s4 s5 s6 g hg (Sort.grow (redrawn w2 d) os)))
  have C4 := Lib.hid (fun d os => Calls.regrown_of (pute_is y0 y1 y2 y3 y4 y5 y6 a ha he (Sort.grow (redrawn w2 d) os)))
  have C5 := Lib.hid (fun d os => Calls.regrown_of (rpute_is y0 y1 y2 y3 y4 y5 y6 a ha he (Sort.grow (redrawn w2 d) os)))
  have C6 := Lib.hid (fun d os => Calls.regrown_of (putr_is s0 s1 s2 s3 s4 s5 s6 b hb hr (Sort.grow (redrawn w2 d) os)))
  have C7 := Lib.hid (fun d os => Calls.regrown_of (rputr_is s0 s1 s2 s3 s4 s5 s6 b hb hr (Sort.grow (redrawn w2 d) os)))
  have C8 := Lib.hid (fun d os => Calls.regrown_of (awake_any (Sort.grow (redrawn w2 d) os)))
  have LQ := Lib.hid (fun (W : World) (hW : ∃ p : Regrown, W = Sort.grow (redrawn w2 p.d) p.os) => (by obtain ⟨p, rfl⟩ := hW; exact HX2.out.keep (below_regrown w2 p.d p.os) : At17 27 W w.heap.size (.int .i64 n0) (.bool n1) (.int .i64 n2) (.int .i64 x0) (.int .i64 x1) (.int .i64 x2) (.bool x3) (.int .i64 x4) (.int .i64 x5) (.bool x6) (.int .i64 r0) (.int .i64 r1) (.int .i64 r2) (.int .i64 r3) (.bool r4) (.int .i64 r5) (.int .i64 r6)))
  obtain ⟨a0, a1, a2, a3, a4, a5, a6⟩ := cells7 hE2
  obtain ⟨b0, b1, b2, b3, b4, b5, b6⟩ := cells7 hR2
  have ra0 := fun d os => cell_regrown a0 d os
  have ra1 := fun d os => cell_regrown a1 d os
  have ra2 := fun d os => cell_regrown a2 d os
  have ra3 := fun d os => cell_regrown a3 d os
  have ra4 := fun d os => cell_regrown a4 d os
  have ra5 := fun d os => cell_regrown a5 d os
  have ra6 := fun d os => cell_regrown a6 d os
  have rb0 := fun d os => cell_regrown b0 d os
  have rb1 := fun d os => cell_regrown b1 d os
  have rb2 := fun d os => cell_regrown b2 d os
  have rb3 := fun d os => cell_regrown b3 d os
  have rb4 := fun d os => cell_regrown b4 d os
  have rb5 := fun d os => cell_regrown b5 d os
  have rb6 := fun d os => cell_regrown b6 d os
  have hff : (f == f) = true := by simp
  have hgg : (g == g) = true := by simp
  have haa : (a.toList == a.toList) = true := by simp
  have hbb : (b.toList == b.toList) = true := by simp
  have htt : (t.toList == t.toList) = true := by simp
  have hee : (er == er) = true := by simp
  clear hf hg ha hb he hr hE2 hR2 a0 a1 a2 a3 a4 a5 a6 b0 b1 b2 b3 b4 b5 b6
  go_wp2_with fail
  refine wp_region_qw (by kernel_rfl) (by kernel_rfl) ?_
  refine qw17 LQ.out (.tmp 3) (by kernel_rfl) rfl rfl ?_
  simp only [Act.put, List.setIfInBounds_toArray, List.set_cons_succ, List.set_cons_zero]
  refine qw_take (by kernel_rfl) (fun K hK => ?_); go_simp; first | (refine hK _ ?_; clear hK K) | (apply Exists.intro; refine ⟨fun _ => ?_, hK _ ?_⟩; (first | with_reducible exact C0.out _ _ | with_reducible exact C1.out _ _ | with_reducible exact C2.out _ _ | with_reducible exact C3.out _ _ | with_reducible exact C4.out _ _ | with_reducible exact C5.out _ _ | with_reducible exact C6.out _ _ | with_reducible exact C7.out _ _ | with_reducible exact C8.out _ _); clear hK K)
  refine qw17 LQ.out (.tmp 3) (by kernel_rfl) rfl rfl ?_
  simp only [Act.put, List.setIfInBounds_toArray, List.set_cons_succ, List.set_cons_zero]
  iterate 37 (refine qw_take (by kernel_rfl) (fun K hK => ?_); go_simp; first | (refine hK _ ?_; clear hK K) | (apply Exists.intro; refine ⟨fun _ => ?_, hK _ ?_⟩; (first | with_reducible exact C0.out _ _ | with_reducible exact C1.out _ _ | with_reducible exact C2.out _ _ | with_reducible exact C3.out _ _ | with_reducible exact C4.out _ _ | with_reducible exact C5.out _ _ | with_reducible exact C6.out _ _ | with_reducible exact C7.out _ _ | with_reducible exact C8.out _ _); clear hK K))
  refine qw_nil ?_
  intro _ hw'
  obtain ⟨⟨dq, osq⟩, hw''⟩ := hw'
  subst hw''
  have HBL := Lib.hid (below_keep HB2.out (below_regrown w2 dq osq) HB2.out.size)
  clear C0 C1 C2 C3 C4 C5 C6 C7 C8 ra0 ra1 ra2 ra3 ra4 ra5 ra6 rb0 rb1 rb2 rb3 rb4 rb5 rb6 LQ
  go_wp2_with fail
  go_ret
  exact ⟨rfl, HBL.out⟩
end Go.Proofs.Ytamcidlkbhanfaa.Msg
namespace Go.Proofs.Ytamcidlkbhanfaa
open Go.RowKit MsgP
theorem Contract.msgPuts (n0 : Int) (n1 : Bool) (n2 : Int) (x0 : Int) (x1 : Int) (x2 : Int) (x3 : Bool) (x4 : Int) (x5 : Int) (x6 : Bool) (r0 : Int) (r1 : Int) (r2 : Int) (r3 : Int) (r4 : Bool) (r5 : Int) (r6 : Int) (y0 : Int) (y1 : Int) (y2 : Int) (y3 : Bool) (y4 : Int) (y5 : Int) (y6 : Bool) (s0 : Int) (s1 : Int) (s2 : Int) (s3 : Int) (s4 : Bool) (s5 : Int) (s6 : Int) (W : World) (_h0 : V64 ⟨n0, n1, n2, ⟨x0, x1, x2, x3, x4, x5, x6⟩, ⟨r0, r1, r2, r3, r4, r5, r6⟩⟩) (he : E64 ⟨y0, y1, y2, y3, y4, y5, y6⟩) (hr : R64 ⟨s0, s1, s2, s3, s4, s5, s6⟩) :
    Calls Try.prog 3 #[(.agg #[.int .i64 n0, .bool n1, .int .i64 n2, .int .i64 x0, .int .i64 x1, .int .i64 x2, .bool x3, .int .i64 x4, .int .i64 x5, .bool x6, .int .i64 r0, .int .i64 r1, .int .i64 r2, .int .i64 r3, .bool r4, .int .i64 r5, .int .i64 r6]), (.agg #[.int .i64 y0, .int .i64 y1, .int .i64 y2, .bool y3, .int .i64 y4, .int .i64 y5, .bool y6]), (.agg #[.int .i64 s0, .int .i64 s1, .int .i64 s2, .int .i64 s3, .bool s4, .int .i64 s5, .int .i64 s6])] W fun e W' => e = .returned (.bool true) ∧ Below W.heap.size W W' :=
  Go.Proofs.Ytamcidlkbhanfaa.Msg.puts_any n0 n1 n2 x0 x1 x2 x3 x4 x5 x6 r0 r1 r2 r3 r4 r5 r6 y0 y1 y2 y3 y4 y5 y6 s0 s1 s2 s3 s4 s5 s6 he hr W
end Go.Proofs.Ytamcidlkbhanfaa
