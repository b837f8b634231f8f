/-
  awake is true; InboxTells is true of any two boxes and any number.
-/
import Derived.Test.YtbnneibceilcjaaInboxF
set_option linter.unusedVariables false
set_option linter.unusedSimpArgs false
set_option maxRecDepth 4000
namespace Go.Proofs.Ytbnneibceilcjaa.Inbox
open Go.RowKit InP
open Go.Proofs.Ytbnneibceilcjaa.Kt
/-- What Mark hands back, told. -/
theorem MarkR.of {b : Bo} {x s l k : Int} {r : List Int} {w w' : World} {e : Ending} (h : markV b x = (⟨s, l, r⟩, k)) (hm : MarkR b x w e w') :
    ∃ a c, e = .returned (.tuple #[.agg #[.int .i64 s, .int .i64 l, .slice a r.length c], .int .i64 k]) ∧ AbAt w' a r.length c r ∧ Below w.heap.size w w' := by
  obtain ⟨a, n, c, rfl, hA, hb⟩ := hm
  rw [h] at hA ⊢
  have hn := hA.len
  dsimp only at hn hA ⊢
  subst hn
  exact ⟨a, c, rfl, hA, hb⟩
set_option maxHeartbeats 2000000 in
theorem awake_any (w : World) : Calls Try.prog 6 #[] w fun e w' => e = .returned (.bool true) ∧ Below w.heap.size w w' := by
  have m1 : markV ⟨1, 0, []⟩ 2 = (⟨1, 0, [2]⟩, 0) := rfl
  have m2 : markV ⟨1, 0, [2]⟩ 1 = (⟨1, 2, []⟩, 0) := rfl
  have m3 : markV ⟨1, 2, []⟩ 2 = (⟨0, 0, []⟩, 14) := rfl
  have f1 : fitB ⟨1, 2, []⟩ = true := rfl
  have M1 := Lib.hid m1; have M2 := Lib.hid m2; have M3 := Lib.hid m3; have F1 := Lib.hid f1
  clear m1 m2 m3 f1
  go_enter Try.func6, Try.ntmps6
  go_wp2_with fail
  refine (new_any 1 w).mono ?_
  rintro e w1 ⟨rfl, hb1⟩
  unfold bxV
  have HB1 := Lib.hid hb1
  clear hb1
  go_wp2_with fail
  refine (mark_any 1 0 none 0 0 [] 2 w1 (AbAt.nil _)).mono ?_
  rintro e w2 hm
  obtain ⟨a, c, rfl, hA, hb2⟩ := MarkR.of M1.out hm
  have HB2 := Lib.hid (below_keep HB1.out hb2 HB1.out.size)
  have HB3 := Lib.hid (HB2.out.alloc HB2.out.size (.cells #[.int .i64 1, .int .i64 0, .slice a 1 c] 24))
  have HX3 := Lib.hid (at3_new 24 w2 (.int .i64 1) (.int .i64 0) (.slice a 1 c))
  have HA3 := Lib.hid (hA.keep ((Below.refl _ w2).alloc (Nat.le_refl _) (.cells #[.int .i64 1, .int .i64 0, .slice a 1 c] 24)))
  obtain ⟨c0, c1, c2⟩ := cells3 HX3.out
  clear hm hA hb2 HB1 M1
  simp only [List.length_singleton] at *
  go_wp2_with fail
  refine (mark_any 1 0 a 1 c [2] 1 _ HA3.out).mono ?_
  rintro e w4 hm
  obtain ⟨a4, c4, rfl, hA, hb4⟩ := MarkR.of M2.out hm
  have HB4 := Lib.hid (below_keep HB3.out hb4 HB3.out.size)
  have HX4 := Lib.hid (HX3.out.keep hb4)
  have HX5 := Lib.hid (HX4.out.alloc (.cells #[.int .i64 1, .int .i64 2, .slice a4 0 c4] 24))
  have HB5 := Lib.hid (HB4.out.alloc HB4.out.size (.cells #[.int .i64 1, .int .i64 2, .slice a4 0 c4] 24))
  have HY5 := Lib.hid (at3_new 24 w4 (.int .i64 1) (.int .i64 2) (.slice a4 0 c4))
  have HA5 := Lib.hid (hA.keep ((Below.refl _ w4).alloc (Nat.le_refl _) (.cells #[.int .i64 1, .int .i64 2, .slice a4 0 c4] 24)))
  clear c0 c1 c2
  obtain ⟨c0, c1, c2⟩ := cells3 HY5.out
  clear hm hA hb4 HB3 HX3 HX4 HA3 M2
  simp only [List.length_nil] at *
  go_wp2_with fail
  refine (mark_any 1 2 a4 0 c4 [] 2 _ HA5.out).mono ?_
  rintro e w6 hm
  obtain ⟨a6, c6, rfl, hA, hb6⟩ := MarkR.of M3.out hm
  have HB6 := Lib.hid (below_keep HB5.out hb6 HB5.out.size)
  have HX6 := Lib.hid (HX5.out.keep hb6)
  have HY6 := Lib.hid (HY5.out.keep hb6)
  have HA6 := Lib.hid (HA5.out.keep hb6)
  simp only [List.length_nil] at *
  have HB7 := Lib.hid (HB6.out.alloc HB6.out.size (.cells #[.int .i64 0, .int .i64 0, .slice a6 0 c6] 24))
  have HX7 := Lib.hid (HX6.out.alloc (.cells #[.int .i64 0, .int .i64 0, .slice a6 0 c6] 24))
  have HY7 := Lib.hid (HY6.out.alloc (.cells #[.int .i64 0, .int .i64 0, .slice a6 0 c6] 24))
  have HA7 := Lib.hid (HA6.out.keep ((Below.refl _ w6).alloc (Nat.le_refl _) (.cells #[.int .i64 0, .int .i64 0, .slice a6 0 c6] 24)))
  clear c0 c1 c2
  obtain ⟨c0, c1, c2⟩ := cells3 HX7.out
  obtain ⟨d0, d1, d2⟩ := cells3 HY7.out
  clear hm hA hb6 HB5 HX5 HX6 HY5 HY6 HA5 HA6 M3 HB6
  go_wp2_with fail
  refine (fit_any 1 2 a4 0 c4 [] true F1.out _ HA7.out.at_).mono ?_
  rintro e w8 ⟨rfl, hb8⟩
  have HB8 := Lib.hid (below_keep HB7.out hb8 HB7.out.size)
  clear hb8 c0 c1 c2 d0 d1 d2
  go_wp2_with fail
  go_ret
  exact ⟨rfl, HB8.out⟩
set_option maxHeartbeats 16000000 in
theorem tells_any (s l : Int) (a : Option Addr) (n c : Nat) (xs : List Int) (s2 l2 : Int) (a2 : Option Addr) (n2 c2 : Nat) (ys : List Int) (id : Int) (w : World) (h : AbAt w a n c xs) (h2 : AbAt w a2 n2 c2 ys) :
    Calls Try.prog 3 #[bxV s l (.slice a n c), bxV s2 l2 (.slice a2 n2 c2), .int .i64 id] w fun e w' => e = .returned (.bool true) ∧ Below w.heap.size w w' := by
  unfold bxV
  have hnb : n ≤ 9223372036854775807 := h.at_.2.1
  have hnb2 : n2 ≤ 9223372036854775807 := h2.at_.2.1
  have HB1 := Lib.hid (((Below.refl w.heap.size w).alloc (Nat.le_refl _) (.cells #[.int .i64 s, .int .i64 l, .slice a n c] 24)).alloc (by simp) (.cells #[.int .i64 s2, .int .i64 l2, .slice a2 n2 c2] 24))
  have HA1 := Lib.hid ((at3_new 24 w (.int .i64 s) (.int .i64 l) (.slice a n c)).alloc (.cells #[.int .i64 s2, .int .i64 l2, .slice a2 n2 c2] 24))
  have HC1 := Lib.hid (at3_new 24 (w.alloc (.cells #[.int .i64 s, .int .i64 l, .slice a n c] 24)) (.int .i64 s2) (.int .i64 l2) (.slice a2 n2 c2))
  have hsz : (w.alloc (.cells #[.int .i64 s, .int .i64 l, .slice a n c] 24)).heap.size = w.heap.size + 1 := World.size_alloc _ _
  rw [hsz] at HC1
  obtain ⟨p0, p1, p2⟩ := cells3 HA1.out
  obtain ⟨q0, q1, q2⟩ := cells3 HC1.out
  by_cases h20 : 20 < n
  · have e0 : (20 : Int) < (n : Int) := by omega
    clear h h2 h20
    go_enter Try.func3, Try.ntmps3
    go_wp2_with fail
    refine (awake_any _).mono ?_
    rintro e w2 ⟨rfl, hb2⟩
    have HB2 := Lib.hid (below_keep HB1.out hb2 HB1.out.size)
    clear hb2
    go_wp2_with fail
    go_ret
    exact ⟨rfl, HB2.out⟩
  have e0 : ¬ ((20 : Int) < (n : Int)) := by omega
  by_cases h21 : 20 < n2
  · have e1 : (20 : Int) < (n2 : Int) := by omega
    clear h h2 h20 h21
    go_enter Try.func3, Try.ntmps3
    go_wp2_with fail
    refine (awake_any _).mono ?_
    rintro e w2 ⟨rfl, hb2⟩
    have HB2 := Lib.hid (below_keep HB1.out hb2 HB1.out.size)
    clear hb2
    go_wp2_with fail
    go_ret
    exact ⟨rfl, HB2.out⟩
  have e1 : ¬ ((20 : Int) < (n2 : Int)) := by omega
  clear h20 h21
  obtain ⟨ms, ml, mr, mk, hM⟩ : ∃ ms ml mr mk, markV ⟨s, l, xs⟩ id = (⟨ms, ml, mr⟩, mk) := ⟨_, _, _, _, rfl⟩
  obtain ⟨k3, hk3⟩ : ∃ k3, mr.length = k3 := ⟨_, rfl⟩
  have HM := Lib.hid hM
  have HK := Lib.hid hk3
  have HH := Lib.hid h
  have HH2 := Lib.hid h2
  clear hM hk3 h h2 hsz
  go_enter Try.func3, Try.ntmps3
  go_wp2_with fail
  refine (mark_any s l a n c xs id _ (HH.out.keep HB1.out)).mono ?_
  rintro e w2 hm
  obtain ⟨a3, c3, rfl, hA, hb2⟩ := MarkR.of HM.out hm
  rw [HK.out] at hA ⊢
  have B2 := Lib.hid (below_keep HB1.out hb2 HB1.out.size)
  have A2 := Lib.hid (HA1.out.keep hb2)
  have C2 := Lib.hid (HC1.out.keep hb2)
  have B3 := Lib.hid (B2.out.alloc B2.out.size (.cells #[.int .i64 ms, .int .i64 ml, .slice a3 k3 c3] 24))
  have A3 := Lib.hid (A2.out.alloc (.cells #[.int .i64 ms, .int .i64 ml, .slice a3 k3 c3] 24))
  have C3 := Lib.hid (C2.out.alloc (.cells #[.int .i64 ms, .int .i64 ml, .slice a3 k3 c3] 24))
  have X3 := Lib.hid (at3_new 24 w2 (.int .i64 ms) (.int .i64 ml) (.slice a3 k3 c3))
  have R3 := Lib.hid (hA.keep ((Below.refl _ w2).alloc (Nat.le_refl _) (.cells #[.int .i64 ms, .int .i64 ml, .slice a3 k3 c3] 24)))
  clear p0 p1 p2 q0 q1 q2 hm hA hb2 A2 C2
  obtain ⟨p0, p1, p2⟩ := cells3 A3.out
  go_wp2_with fail
  refine (rmark_any s l a n c xs id _ (HH.out.keep B3.out)).mono ?_
  rintro e w4 hm
  obtain ⟨a5, c5, rfl, hA, hb4⟩ := MarkR.of HM.out hm
  rw [HK.out] at hA ⊢
  have B4 := Lib.hid (below_keep B3.out hb4 B3.out.size)
  have A4 := Lib.hid (A3.out.keep hb4)
  have C4 := Lib.hid (C3.out.keep hb4)
  have X4 := Lib.hid (X3.out.keep hb4)
  have R4 := Lib.hid (R3.out.keep hb4)
  have B5 := Lib.hid (B4.out.alloc B4.out.size (.cells #[.int .i64 ms, .int .i64 ml, .slice a5 k3 c5] 24))
  have A5 := Lib.hid (A4.out.alloc (.cells #[.int .i64 ms, .int .i64 ml, .slice a5 k3 c5] 24))
  have C5 := Lib.hid (C4.out.alloc (.cells #[.int .i64 ms, .int .i64 ml, .slice a5 k3 c5] 24))
  have X5 := Lib.hid (X4.out.alloc (.cells #[.int .i64 ms, .int .i64 ml, .slice a5 k3 c5] 24))
  have Y5 := Lib.hid (at3_new 24 w4 (.int .i64 ms) (.int .i64 ml) (.slice a5 k3 c5))
  have bw := (Below.refl w4.heap.size w4).alloc (Nat.le_refl _) (.cells #[.int .i64 ms, .int .i64 ml, .slice a5 k3 c5] 24)
  have R5 := Lib.hid (R4.out.keep bw)
  have S5 := Lib.hid (hA.keep bw)
  clear p0 p1 p2 hm hA hb4 A3 A4 C3 C4 X3 X4 R3 R4 bw B2 B3 B4
  obtain ⟨p0, p1, p2⟩ := cells3 A5.out
  obtain ⟨q0, q1, q2⟩ := cells3 C5.out
  obtain ⟨x0, x1, x2⟩ := cells3 X5.out
  obtain ⟨y0, y1, y2⟩ := cells3 Y5.out
  obtain ⟨vf, hvf⟩ : ∃ v, fitB ⟨s, l, xs⟩ = v := ⟨_, rfl⟩
  obtain ⟨vh, hvh⟩ : ∃ v, hadB ⟨s, l, xs⟩ id = v := ⟨_, rfl⟩
  obtain ⟨vs, hvs⟩ : ∃ v, sameB ⟨s, l, xs⟩ ⟨s2, l2, ys⟩ = v := ⟨_, rfl⟩
  have rg := fun d os => below_regrown (w4.alloc (.cells #[.int .i64 ms, .int .i64 ml, .slice a5 k3 c5] 24)) d os
  have ka : ∀ d os, NsAt (Sort.grow (redrawn (w4.alloc (.cells #[.int .i64 ms, .int .i64 ml, .slice a5 k3 c5] 24)) d) os) a n xs := fun d os => Rw.At.keep HH.out.at_ (below_keep B5.out (rg d os) B5.out.size)
  have kb : ∀ d os, NsAt (Sort.grow (redrawn (w4.alloc (.cells #[.int .i64 ms, .int .i64 ml, .slice a5 k3 c5] 24)) d) os) a2 n2 ys := fun d os => Rw.At.keep HH2.out.at_ (below_keep B5.out (rg d os) B5.out.size)
  have kx : ∀ d os, NsAt (Sort.grow (redrawn (w4.alloc (.cells #[.int .i64 ms, .int .i64 ml, .slice a5 k3 c5] 24)) d) os) a3 k3 mr := fun d os => Rw.At.keep R5.out.at_ (rg d os)
  have ky : ∀ d os, NsAt (Sort.grow (redrawn (w4.alloc (.cells #[.int .i64 ms, .int .i64 ml, .slice a5 k3 c5] 24)) d) os) a5 k3 mr := fun d os => Rw.At.keep S5.out.at_ (rg d os)
  have V1 := (fun d os => Calls.regrown_of (fit_any s l a n c xs vf hvf _ (ka d os)))
  have V2 := (fun d os => Calls.regrown_of (rfit_any s l a n c xs vf hvf _ (ka d os)))
  have V3 := (fun d os => Calls.regrown_of (had_any s l a n c xs id vh hvh _ (ka d os)))
  have V4 := (fun d os => Calls.regrown_of (rhad_any s l a n c xs id vh hvh _ (ka d os)))
  have V5 := (fun d os => Calls.regrown_of (rsamebx_any ms ml a3 k3 c3 mr ms ml a5 k3 c5 mr true (sameB_self _) _ (kx d os) (ky d os)))
  have V6 := (fun d os => Calls.regrown_of (same_any s l a n c xs s2 l2 a2 n2 c2 ys vs hvs _ (ka d os) (kb d os)))
  have V7 := (fun d os => Calls.regrown_of (rsamebx_any s l a n c xs s2 l2 a2 n2 c2 ys vs hvs _ (ka d os) (kb d os)))
  have V8 := (fun d os => Calls.regrown_of (new_any id (Sort.grow (redrawn (w4.alloc (.cells #[.int .i64 ms, .int .i64 ml, .slice a5 k3 c5] 24)) d) os)))
  have V9 := (fun d os => Calls.regrown_of (rsamebx_any id 0 none 0 0 [] id 0 none 0 0 [] true (sameB_self _) (Sort.grow (redrawn (w4.alloc (.cells #[.int .i64 ms, .int .i64 ml, .slice a5 k3 c5] 24)) d) os) (Rw.At.nil _ _ _) (Rw.At.nil _ _ _)))
  have V10 := (fun d os => Calls.regrown_of (awake_any (Sort.grow (redrawn (w4.alloc (.cells #[.int .i64 ms, .int .i64 ml, .slice a5 k3 c5] 24)) d) os)))
  unfold bxV at V1 V2 V3 V4 V5 V6 V7 V8 V9
  have W1 := Lib.hid V1
  have W2 := Lib.hid V2
  have W3 := Lib.hid V3
  have W4 := Lib.hid V4
  have W5 := Lib.hid V5
  have W6 := Lib.hid V6
  have W7 := Lib.hid V7
  have W8 := Lib.hid V8
  have W9 := Lib.hid V9
  have W10 := Lib.hid V10
  clear V1 V2 V3 V4 V5 V6 V7 V8 V9 V10 ka kb kx ky rg hvf hvh hvs
  have gp0 := fun d os => cell_regrown p0 d os
  have gp1 := fun d os => cell_regrown p1 d os
  have gp2 := fun d os => cell_regrown p2 d os
  have gq0 := fun d os => cell_regrown q0 d os
  have gq1 := fun d os => cell_regrown q1 d os
  have gq2 := fun d os => cell_regrown q2 d os
  have gx0 := fun d os => cell_regrown x0 d os
  have gx1 := fun d os => cell_regrown x1 d os
  have gx2 := fun d os => cell_regrown x2 d os
  have gy0 := fun d os => cell_regrown y0 d os
  have gy1 := fun d os => cell_regrown y1 d os
  have gy2 := fun d os => cell_regrown y2 d os
  clear p0 p1 p2 q0 q1 q2 x0 x1 x2 y0 y1 y2
  go_wp2_with fail
  refine wp_region_qw (by kernel_rfl) (by kernel_rfl) ?_
  iterate 44 (refine qw_take (by kernel_rfl) (fun K hK => ?_); go_simp; first | (refine hK _ ?_; clear hK K) | (apply Exists.intro; refine ⟨fun _ => ?_, hK _ ?_⟩; (first | with_reducible exact W1.out _ _ | with_reducible exact W2.out _ _ | with_reducible exact W3.out _ _ | with_reducible exact W4.out _ _ | with_reducible exact W5.out _ _ | with_reducible exact W6.out _ _ | with_reducible exact W7.out _ _ | with_reducible exact W8.out _ _ | with_reducible exact W9.out _ _ | with_reducible exact W10.out _ _); clear hK K))
  refine qw_nil ?_
  intro _ hw'
  obtain ⟨⟨dq, osq⟩, hw''⟩ := hw'
  subst hw''
  have HBL := Lib.hid (below_keep B5.out (below_regrown _ dq osq) B5.out.size)
  go_wp2_with fail
  go_ret
  exact ⟨rfl, HBL.out⟩
end Go.Proofs.Ytbnneibceilcjaa.Inbox
