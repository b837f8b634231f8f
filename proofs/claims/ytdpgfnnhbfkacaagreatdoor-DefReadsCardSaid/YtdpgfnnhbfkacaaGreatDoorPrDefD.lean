/-
  The contracts of the program's rules (a closure each) and of its Fit: any definition; what was there stays as it was.
-/
import Derived.Test.YtdpgfnnhbfkacaaGreatDoorPrDefA
import Derived.Test.YtdpgfnnhbfkacaaGreatDoorPrNameG
set_option linter.unusedVariables false
set_option linter.unusedSimpArgs false
set_option maxRecDepth 4000
namespace Go.Proofs.YtdpgfnnhbfkacaaGreatDoor.Def
open Go.RowKit DefP
open Go.Proofs.YtdpgfnnhbfkacaaGreatDoor.Kt
theorem rule1_any (s : ByteArray) (a : Option Addr) (n c : Nat) (l : List Step) (bd : Nat) (v : Bool) (hv : nm s = v) (w : World) (h : StAt w a n l) (hd : At2 24 w bd (.string s) (.slice a n c)) (hs : s.size ≤ 1000) :
    Calls Tryz.prog 30 #[.pointer (some ⟨bd, 0, none⟩)] w fun e w' => e = .returned (.bool v) ∧ Below w.heap.size w w' := by
  obtain ⟨d0, d1⟩ := cells2 hd
  have C := Lib.hid ((by have h := Name.fit_any s w (by omega); rw [show NameP.fitV (NameP.vals s.data.toList) = v from hv] at h; exact h : Calls Tryz.prog 31 #[.string s] w fun e w' => e = .returned (.bool v) ∧ Below w.heap.size w w'))
  clear h hd hv
  go_enter Tryz.func30, Tryz.ntmps30
  go_wp2_with fail
  refine C.out.mono ?_
  rintro e w1 ⟨rfl, hb⟩
  have HB1 := Lib.hid hb
  clear hb
  go_wp2_with fail
  go_ret
  exact ⟨rfl, HB1.out⟩

theorem rule2_any (s : ByteArray) (a : Option Addr) (n c : Nat) (l : List Step) (bd : Nat) (v : Bool) (hv : lenR l = v) (w : World) (h : StAt w a n l) (hd : At2 24 w bd (.string s) (.slice a n c)) :
    Calls Tryz.prog 32 #[.pointer (some ⟨bd, 0, none⟩)] w fun e w' => e = .returned (.bool v) ∧ Below w.heap.size w w' := by
  obtain ⟨d0, d1⟩ := cells2 hd
  have hl := h.1
  have hll := h.2.1
  unfold lenR at hv
  rw [hl] at hv
  by_cases h1 : (1 : Int) ≤ (n : Int)
  · have HR : Hid (v = decide ((n : Int) ≤ 6)) := by show _ = _; rw [← hv, decide_eq_true (show 1 ≤ n by omega), Bool.true_and]; exact decide_eq_decide.2 (by omega)
    clear h hd hv hl
    go_enter Tryz.func32, Tryz.ntmps32
    go_wp2_with fail
    go_ret
    exact ⟨ret_bool HR.out, Below.refl _ _⟩
  · have HR : Hid (v = false) := by show _ = _; rw [← hv, decide_eq_false (show ¬ 1 ≤ n by omega), Bool.false_and]
    clear h hd hv hl
    go_enter Tryz.func32, Tryz.ntmps32
    go_wp2_with fail
    go_ret
    exact ⟨ret_bool HR.out, Below.refl _ _⟩

theorem rule3_any (s : ByteArray) (a : Option Addr) (n c : Nat) (l : List Step) (bd : Nat) (v : Bool) (hv : allR l = v) (w : World) (h : StAt w a n l) (hd : At2 24 w bd (.string s) (.slice a n c)) :
    Calls Tryz.prog 33 #[.pointer (some ⟨bd, 0, none⟩)] w fun e w' => e = .returned (.bool v) ∧ Below w.heap.size w w' := by
  obtain ⟨d0, d1⟩ := cells2 hd
  have C := Lib.hid (each3_any s a n c l v hv w h)
  clear h hd hv
  go_enter Tryz.func33, Tryz.ntmps33
  go_wp2_with fail
  refine C.out.mono ?_
  rintro e w1 ⟨rfl, hb⟩
  have HB1 := Lib.hid hb
  clear hb
  go_wp2_with fail
  go_ret
  exact ⟨rfl, HB1.out⟩

theorem rule4_any (s : ByteArray) (a : Option Addr) (n c : Nat) (l : List Step) (bd : Nat) (v : Bool) (hv : placeR l 0 l = v) (w : World) (h : StAt w a n l) (hd : At2 24 w bd (.string s) (.slice a n c)) :
    Calls Tryz.prog 37 #[.pointer (some ⟨bd, 0, none⟩)] w fun e w' => e = .returned (.bool v) ∧ Below w.heap.size w w' := by
  obtain ⟨d0, d1⟩ := cells2 hd
  have hf := hmf
  have C := Lib.hid (each4_any s a n c l bd v hv w h hd)
  clear h hd hv
  go_enter Tryz.func37, Tryz.ntmps37
  go_wp2_with fail
  refine C.out.mono ?_
  rintro e w1 ⟨rfl, hb⟩
  have HB1 := Lib.hid hb
  clear hb
  go_wp2_with fail
  go_ret
  exact ⟨rfl, HB1.out⟩

theorem rule5_any (s : ByteArray) (a : Option Addr) (n c : Nat) (l : List Step) (bd : Nat) (v : Bool) (hv : sortR l (n - 1) = v) (w : World) (h : StAt w a n l) (hd : At2 24 w bd (.string s) (.slice a n c)) :
    Calls Tryz.prog 39 #[.pointer (some ⟨bd, 0, none⟩)] w fun e w' => e = .returned (.bool v) ∧ Below w.heap.size w w' := by
  obtain ⟨d0, d1⟩ := cells2 hd
  have C := Lib.hid (sorted_any a n c l v hv w h)
  clear h hd hv
  go_enter Tryz.func39, Tryz.ntmps39
  go_wp2_with fail
  refine C.out.mono ?_
  rintro e w1 ⟨rfl, hb⟩
  have HB1 := Lib.hid hb
  clear hb
  go_wp2_with fail
  go_ret
  exact ⟨rfl, HB1.out⟩

theorem rule6_any (s : ByteArray) (a : Option Addr) (n c : Nat) (l : List Step) (bd : Nat) (v : Bool) (hv : decide (manyL 2 l ≤ 1) = v) (w : World) (h : StAt w a n l) (hd : At2 24 w bd (.string s) (.slice a n c)) (hn : n ≤ 1000000) :
    Calls Tryz.prog 42 #[.pointer (some ⟨bd, 0, none⟩)] w fun e w' => e = .returned (.bool v) ∧ Below w.heap.size w w' := by
  obtain ⟨d0, d1⟩ := cells2 hd
  obtain ⟨m, hm⟩ : ∃ m, manyL 2 l = m := ⟨_, rfl⟩
  rw [hm] at hv
  have HR : Hid (v = decide ((m : Int) ≤ 1)) := by show _ = _; rw [← hv]; exact decide_eq_decide.2 (by omega)
  have C := Lib.hid (many_is s a n c l 2 m hm w h hn)
  clear h hd hv
  go_enter Tryz.func42, Tryz.ntmps42
  go_wp2_with fail
  refine C.out.mono ?_
  rintro e w1 ⟨rfl, hb⟩
  have HB1 := Lib.hid hb
  clear hb
  go_wp2_with fail
  go_ret
  exact ⟨ret_bool HR.out, HB1.out⟩

theorem rule7_any (s : ByteArray) (a : Option Addr) (n c : Nat) (l : List Step) (bd : Nat) (v : Bool) (hv : (decide (manyL 3 l = 0) || decide (manyL 2 l = 1)) = v) (w : World) (h : StAt w a n l) (hd : At2 24 w bd (.string s) (.slice a n c)) (hn : n ≤ 1000000) :
    Calls Tryz.prog 44 #[.pointer (some ⟨bd, 0, none⟩)] w fun e w' => e = .returned (.bool v) ∧ Below w.heap.size w w' := by
  obtain ⟨d0, d1⟩ := cells2 hd
  obtain ⟨m, hm⟩ : ∃ m, manyL 3 l = m := ⟨_, rfl⟩
  obtain ⟨p, hp⟩ : ∃ p, manyL 2 l = p := ⟨_, rfl⟩
  have C := Lib.hid (many_is s a n c l 3 m hm w h hn)
  have C2 := Lib.hid (fun W (hb : Below w.heap.size w W) => many_is s a n c l 2 p hp W (Rw.At.keep h hb) hn)
  have HD := Lib.hid (fun W (hb : Below w.heap.size w W) => At2.keep hd hb)
  rw [hm, hp] at hv
  clear hm hp h hd
  by_cases h0 : m = 0
  · subst h0
    have HR : Hid (v = true) := by show _ = _; rw [← hv]; simp
    have e0 : (((0 : Nat) : Int) == 0) = true := rfl
    clear hv
    go_enter Tryz.func44, Tryz.ntmps44
    go_wp2_with fail
    refine C.out.mono ?_
    rintro e w1 ⟨rfl, hb⟩
    have HB1 := Lib.hid hb
    clear hb d0 d1
    go_wp2_with fail
    go_ret
    exact ⟨ret_bool HR.out, HB1.out⟩
  · have HR : Hid (v = ((p : Int) == 1)) := by
      show _ = _
      rw [← hv, decide_eq_false h0, Bool.false_or]
      by_cases hq : p = 1
      · subst hq; rfl
      · rw [decide_eq_false hq]; exact (beq_eq_false_iff_ne.2 (by omega)).symm
    have e0 : ((m : Int) == 0) = false := beq_eq_false_iff_ne.2 (by omega)
    clear hv h0
    go_enter Tryz.func44, Tryz.ntmps44
    go_wp2_with fail
    refine C.out.mono ?_
    rintro e w1 ⟨rfl, hb⟩
    have HB1 := Lib.hid hb
    have C2 := Lib.hid (C2.out w1 hb)
    obtain ⟨f0, f1⟩ := cells2 (HD.out w1 hb)
    clear hb d0 d1
    go_wp2_with fail
    refine C2.out.mono ?_
    rintro e w2 ⟨rfl, hb⟩
    have HB2 := Lib.hid (below_keep HB1.out hb HB1.out.size)
    clear hb f0 f1
    go_wp2_with fail
    go_ret
    exact ⟨ret_bool HR.out, HB2.out⟩

theorem shipped_is (h k s : Int) (v : Bool) (hv : shipR h k s = v) (w : World) : Calls Tryz.prog 46 #[.int .i64 h, .int .i64 k, .int .i64 s] w fun e w' => e = .returned (.bool v) ∧ Below w.heap.size w w' := by
  refine (shipped_any h k s v hv w).mono ?_
  rintro e w' ⟨rfl, rfl⟩
  exact ⟨rfl, Below.refl _ _⟩
theorem captured_is (a t : Int) (v : Bool) (hv : capR a t = v) (w : World) : Calls Tryz.prog 48 #[.int .i64 a, .int .i64 t] w fun e w' => e = .returned (.bool v) ∧ Below w.heap.size w w' := by
  refine (captured_any a t v hv w).mono ?_
  rintro e w' ⟨rfl, rfl⟩
  exact ⟨rfl, Below.refl _ _⟩

theorem rule8_any (s : ByteArray) (a : Option Addr) (n c : Nat) (l : List Step) (bd : Nat) (v : Bool) (hv : shipR (placeL l 1) (placeL l 3) (placeL l 5) = v) (w : World) (h : StAt w a n l) (hd : At2 24 w bd (.string s) (.slice a n c)) :
    Calls Tryz.prog 45 #[.pointer (some ⟨bd, 0, none⟩)] w fun e w' => e = .returned (.bool v) ∧ Below w.heap.size w w' := by
  obtain ⟨d0, d1⟩ := cells2 hd
  obtain ⟨p0, hp0⟩ : ∃ p, placeL l 1 = p := ⟨_, rfl⟩
  have C0 := Lib.hid (fun d os => Calls.regrown_of (place_is s a n c l 1 p0 hp0 (Sort.grow (redrawn w d) os) (Rw.At.keep h (below_regrown w d os))))
  obtain ⟨p1, hp1⟩ : ∃ p, placeL l 3 = p := ⟨_, rfl⟩
  have C1 := Lib.hid (fun d os => Calls.regrown_of (place_is s a n c l 3 p1 hp1 (Sort.grow (redrawn w d) os) (Rw.At.keep h (below_regrown w d os))))
  obtain ⟨p2, hp2⟩ : ∃ p, placeL l 5 = p := ⟨_, rfl⟩
  have C2 := Lib.hid (fun d os => Calls.regrown_of (place_is s a n c l 5 p2 hp2 (Sort.grow (redrawn w d) os) (Rw.At.keep h (below_regrown w d os))))
  rw [hp0, hp1, hp2] at hv
  have CL := Lib.hid (fun d os => Calls.regrown_of (shipped_is p0 p1 p2 v hv (Sort.grow (redrawn w d) os)))
  have r0 := fun d os => cell_regrown d0 d os
  have r1 := fun d os => cell_regrown d1 d os
  clear d0 d1 h hd hv
  go_enter Tryz.func45, Tryz.ntmps45
  go_wp2_with fail
  refine wp_region_qw (by kernel_rfl) (by kernel_rfl) ?_
  iterate 8 (refine qw_take (by kernel_rfl) (fun K hK => ?_); go_simp; first | (refine hK _ ?_; clear hK K) | (apply Exists.intro; refine ⟨fun _ => ?_, hK _ ?_⟩; (first | with_reducible exact C0.out _ _ | with_reducible exact C1.out _ _ | with_reducible exact C2.out _ _ | with_reducible exact CL.out _ _); clear hK K))
  refine qw_nil ?_
  intro _ hw'
  obtain ⟨⟨dq, osq⟩, hw''⟩ := hw'
  subst hw''
  have HB1 := Lib.hid (below_regrown w dq osq)
  go_wp2_with fail
  go_ret
  exact ⟨rfl, HB1.out⟩

theorem rule9_any (s : ByteArray) (a : Option Addr) (n c : Nat) (l : List Step) (bd : Nat) (v : Bool) (hv : capR (placeL l 2) (placeL l 6) = v) (w : World) (h : StAt w a n l) (hd : At2 24 w bd (.string s) (.slice a n c)) :
    Calls Tryz.prog 47 #[.pointer (some ⟨bd, 0, none⟩)] w fun e w' => e = .returned (.bool v) ∧ Below w.heap.size w w' := by
  obtain ⟨d0, d1⟩ := cells2 hd
  obtain ⟨p0, hp0⟩ : ∃ p, placeL l 2 = p := ⟨_, rfl⟩
  have C0 := Lib.hid (fun d os => Calls.regrown_of (place_is s a n c l 2 p0 hp0 (Sort.grow (redrawn w d) os) (Rw.At.keep h (below_regrown w d os))))
  obtain ⟨p1, hp1⟩ : ∃ p, placeL l 6 = p := ⟨_, rfl⟩
  have C1 := Lib.hid (fun d os => Calls.regrown_of (place_is s a n c l 6 p1 hp1 (Sort.grow (redrawn w d) os) (Rw.At.keep h (below_regrown w d os))))
  rw [hp0, hp1] at hv
  have CL := Lib.hid (fun d os => Calls.regrown_of (captured_is p0 p1 v hv (Sort.grow (redrawn w d) os)))
  have r0 := fun d os => cell_regrown d0 d os
  have r1 := fun d os => cell_regrown d1 d os
  clear d0 d1 h hd hv
  go_enter Tryz.func47, Tryz.ntmps47
  go_wp2_with fail
  refine wp_region_qw (by kernel_rfl) (by kernel_rfl) ?_
  iterate 6 (refine qw_take (by kernel_rfl) (fun K hK => ?_); go_simp; first | (refine hK _ ?_; clear hK K) | (apply Exists.intro; refine ⟨fun _ => ?_, hK _ ?_⟩; (first | with_reducible exact C0.out _ _ | with_reducible exact C1.out _ _ | with_reducible exact CL.out _ _); clear hK K))
  refine qw_nil ?_
  intro _ hw'
  obtain ⟨⟨dq, osq⟩, hw''⟩ := hw'
  subst hw''
  have HB1 := Lib.hid (below_regrown w dq osq)
  go_wp2_with fail
  go_ret
  exact ⟨rfl, HB1.out⟩

set_option maxHeartbeats 8000000 in
theorem fit_is (s : ByteArray) (a : Option Addr) (n c : Nat) (l : List Step) (v : Bool) (hv : fitD ⟨s, l⟩ = v) (w : World) (h : StAt w a n l) (hs : s.size ≤ 1000) (hn : n ≤ 1000000) :
    Calls Tryz.prog 8 #[.agg #[.string s, .slice a n c]] w fun e w' => e = .returned (.bool v) ∧ Below w.heap.size w w' := by
  have hf := hmf
  rw [show fitD ⟨s, l⟩ = (nm s && fitL l) from rfl, fitL_eq, h.1] at hv
  obtain ⟨r0, hr0⟩ : ∃ r, nm s = r := ⟨_, rfl⟩
  obtain ⟨r1, hr1⟩ : ∃ r, lenR l = r := ⟨_, rfl⟩
  obtain ⟨r2, hr2⟩ : ∃ r, allR l = r := ⟨_, rfl⟩
  obtain ⟨r3, hr3⟩ : ∃ r, placeR l 0 l = r := ⟨_, rfl⟩
  obtain ⟨r4, hr4⟩ : ∃ r, sortR l (n - 1) = r := ⟨_, rfl⟩
  obtain ⟨r5, hr5⟩ : ∃ r, decide (manyL 2 l ≤ 1) = r := ⟨_, rfl⟩
  obtain ⟨r6, hr6⟩ : ∃ r, (decide (manyL 3 l = 0) || decide (manyL 2 l = 1)) = r := ⟨_, rfl⟩
  obtain ⟨r7, hr7⟩ : ∃ r, shipR (placeL l 1) (placeL l 3) (placeL l 5) = r := ⟨_, rfl⟩
  obtain ⟨r8, hr8⟩ : ∃ r, capR (placeL l 2) (placeL l 6) = r := ⟨_, rfl⟩
  rw [hr0, hr1, hr2, hr3, hr4, hr5, hr6, hr7, hr8] at hv
  have HV : Hid (v = ([r0, r1, r2, r3, r4, r5, r6, r7, r8].drop 0).all id) := by show _ = _; rw [← hv]; simp
  have h1 : At2 24 ((w.alloc (.cells #[.string s, .slice a n c] 24)).alloc (.cells #[.func (.func 30) #[] #[.pointer (some ⟨w.heap.size, 0, none⟩)], .func (.func 32) #[] #[.pointer (some ⟨w.heap.size, 0, none⟩)], .func (.func 33) #[] #[.pointer (some ⟨w.heap.size, 0, none⟩)], .func (.func 37) #[] #[.pointer (some ⟨w.heap.size, 0, none⟩)], .func (.func 39) #[] #[.pointer (some ⟨w.heap.size, 0, none⟩)], .func (.func 42) #[] #[.pointer (some ⟨w.heap.size, 0, none⟩)], .func (.func 44) #[] #[.pointer (some ⟨w.heap.size, 0, none⟩)], .func (.func 45) #[] #[.pointer (some ⟨w.heap.size, 0, none⟩)], .func (.func 47) #[] #[.pointer (some ⟨w.heap.size, 0, none⟩)]] 26)) w.heap.size (.string s) (.slice a n c) := (at2_new 24 w (.string s) (.slice a n c)).alloc _
  have hb1 : Below w.heap.size w ((w.alloc (.cells #[.string s, .slice a n c] 24)).alloc (.cells #[.func (.func 30) #[] #[.pointer (some ⟨w.heap.size, 0, none⟩)], .func (.func 32) #[] #[.pointer (some ⟨w.heap.size, 0, none⟩)], .func (.func 33) #[] #[.pointer (some ⟨w.heap.size, 0, none⟩)], .func (.func 37) #[] #[.pointer (some ⟨w.heap.size, 0, none⟩)], .func (.func 39) #[] #[.pointer (some ⟨w.heap.size, 0, none⟩)], .func (.func 42) #[] #[.pointer (some ⟨w.heap.size, 0, none⟩)], .func (.func 44) #[] #[.pointer (some ⟨w.heap.size, 0, none⟩)], .func (.func 45) #[] #[.pointer (some ⟨w.heap.size, 0, none⟩)], .func (.func 47) #[] #[.pointer (some ⟨w.heap.size, 0, none⟩)]] 26)) := ((Below.refl _ w).alloc (Nat.le_refl _) _).alloc (by rw [World.size_alloc]; omega) _
  have h2 : ((w.alloc (.cells #[.string s, .slice a n c] 24)).alloc (.cells #[.func (.func 30) #[] #[.pointer (some ⟨w.heap.size, 0, none⟩)], .func (.func 32) #[] #[.pointer (some ⟨w.heap.size, 0, none⟩)], .func (.func 33) #[] #[.pointer (some ⟨w.heap.size, 0, none⟩)], .func (.func 37) #[] #[.pointer (some ⟨w.heap.size, 0, none⟩)], .func (.func 39) #[] #[.pointer (some ⟨w.heap.size, 0, none⟩)], .func (.func 42) #[] #[.pointer (some ⟨w.heap.size, 0, none⟩)], .func (.func 44) #[] #[.pointer (some ⟨w.heap.size, 0, none⟩)], .func (.func 45) #[] #[.pointer (some ⟨w.heap.size, 0, none⟩)], .func (.func 47) #[] #[.pointer (some ⟨w.heap.size, 0, none⟩)]] 26)).heap[w.heap.size + 1]? = some (.cells #[.func (.func 30) #[] #[.pointer (some ⟨w.heap.size, 0, none⟩)], .func (.func 32) #[] #[.pointer (some ⟨w.heap.size, 0, none⟩)], .func (.func 33) #[] #[.pointer (some ⟨w.heap.size, 0, none⟩)], .func (.func 37) #[] #[.pointer (some ⟨w.heap.size, 0, none⟩)], .func (.func 39) #[] #[.pointer (some ⟨w.heap.size, 0, none⟩)], .func (.func 42) #[] #[.pointer (some ⟨w.heap.size, 0, none⟩)], .func (.func 44) #[] #[.pointer (some ⟨w.heap.size, 0, none⟩)], .func (.func 45) #[] #[.pointer (some ⟨w.heap.size, 0, none⟩)], .func (.func 47) #[] #[.pointer (some ⟨w.heap.size, 0, none⟩)]] 26 (0, 0)) := by
    have := heap_alloc_new (w.alloc (.cells #[.string s, .slice a n c] 24)) (.cells #[.func (.func 30) #[] #[.pointer (some ⟨w.heap.size, 0, none⟩)], .func (.func 32) #[] #[.pointer (some ⟨w.heap.size, 0, none⟩)], .func (.func 33) #[] #[.pointer (some ⟨w.heap.size, 0, none⟩)], .func (.func 37) #[] #[.pointer (some ⟨w.heap.size, 0, none⟩)], .func (.func 39) #[] #[.pointer (some ⟨w.heap.size, 0, none⟩)], .func (.func 42) #[] #[.pointer (some ⟨w.heap.size, 0, none⟩)], .func (.func 44) #[] #[.pointer (some ⟨w.heap.size, 0, none⟩)], .func (.func 45) #[] #[.pointer (some ⟨w.heap.size, 0, none⟩)], .func (.func 47) #[] #[.pointer (some ⟨w.heap.size, 0, none⟩)]] 26)
    rw [World.size_alloc] at this
    exact this
  obtain ⟨w1, hw1⟩ : ∃ w1, (w.alloc (.cells #[.string s, .slice a n c] 24)).alloc (.cells #[.func (.func 30) #[] #[.pointer (some ⟨w.heap.size, 0, none⟩)], .func (.func 32) #[] #[.pointer (some ⟨w.heap.size, 0, none⟩)], .func (.func 33) #[] #[.pointer (some ⟨w.heap.size, 0, none⟩)], .func (.func 37) #[] #[.pointer (some ⟨w.heap.size, 0, none⟩)], .func (.func 39) #[] #[.pointer (some ⟨w.heap.size, 0, none⟩)], .func (.func 42) #[] #[.pointer (some ⟨w.heap.size, 0, none⟩)], .func (.func 44) #[] #[.pointer (some ⟨w.heap.size, 0, none⟩)], .func (.func 45) #[] #[.pointer (some ⟨w.heap.size, 0, none⟩)], .func (.func 47) #[] #[.pointer (some ⟨w.heap.size, 0, none⟩)]] 26) = w1 := ⟨_, rfl⟩
  obtain ⟨bd, hbd⟩ : ∃ bd, w.heap.size = bd := ⟨_, rfl⟩
  rw [hw1] at h1 h2 hb1
  have HW := Lib.hid hw1
  have HB1 := Lib.hid hb1
  obtain ⟨g, hg⟩ : ∃ g, w.heap.size + 1 = g := ⟨_, rfl⟩
  rw [hg] at h2
  rw [hbd] at h1 h2
  have HF := Lib.hid (fun W (hb : Below w1.heap.size w1 W) => (hb.block g (heap_lt h2)).trans h2)
  have K0 := Lib.hid (fun (v : Bool) (hr : r0 = v) W (hb : Below w1.heap.size w1 W) => rule1_any s a n c l bd v (hr0.trans hr) W (Rw.At.keep h (below_keep hb1 hb hb1.size)) (At2.keep h1 hb) hs)
  have K1 := Lib.hid (fun (v : Bool) (hr : r1 = v) W (hb : Below w1.heap.size w1 W) => rule2_any s a n c l bd v (hr1.trans hr) W (Rw.At.keep h (below_keep hb1 hb hb1.size)) (At2.keep h1 hb))
  have K2 := Lib.hid (fun (v : Bool) (hr : r2 = v) W (hb : Below w1.heap.size w1 W) => rule3_any s a n c l bd v (hr2.trans hr) W (Rw.At.keep h (below_keep hb1 hb hb1.size)) (At2.keep h1 hb))
  have K3 := Lib.hid (fun (v : Bool) (hr : r3 = v) W (hb : Below w1.heap.size w1 W) => rule4_any s a n c l bd v (hr3.trans hr) W (Rw.At.keep h (below_keep hb1 hb hb1.size)) (At2.keep h1 hb))
  have K4 := Lib.hid (fun (v : Bool) (hr : r4 = v) W (hb : Below w1.heap.size w1 W) => rule5_any s a n c l bd v (hr4.trans hr) W (Rw.At.keep h (below_keep hb1 hb hb1.size)) (At2.keep h1 hb))
  have K5 := Lib.hid (fun (v : Bool) (hr : r5 = v) W (hb : Below w1.heap.size w1 W) => rule6_any s a n c l bd v (hr5.trans hr) W (Rw.At.keep h (below_keep hb1 hb hb1.size)) (At2.keep h1 hb) hn)
  have K6 := Lib.hid (fun (v : Bool) (hr : r6 = v) W (hb : Below w1.heap.size w1 W) => rule7_any s a n c l bd v (hr6.trans hr) W (Rw.At.keep h (below_keep hb1 hb hb1.size)) (At2.keep h1 hb) hn)
  have K7 := Lib.hid (fun (v : Bool) (hr : r7 = v) W (hb : Below w1.heap.size w1 W) => rule8_any s a n c l bd v (hr7.trans hr) W (Rw.At.keep h (below_keep hb1 hb hb1.size)) (At2.keep h1 hb))
  have K8 := Lib.hid (fun (v : Bool) (hr : r8 = v) W (hb : Below w1.heap.size w1 W) => rule9_any s a n c l bd v (hr8.trans hr) W (Rw.At.keep h (below_keep hb1 hb hb1.size)) (At2.keep h1 hb))
  have HG := Lib.hid hg
  have HBD := Lib.hid hbd
  clear hr0 hr1 hr2 hr3 hr4 hr5 hr6 hr7 hr8 h h1 h2 hv hw1 hb1 hg hs hn hbd
  go_enter Tryz.func8, Tryz.ntmps8
  go_wp2_with fail
  rw [show (w.alloc (.cells #[.string s, .slice a n c] 24)).alloc (.cells #[.func (.func 30) #[] #[.pointer (some ⟨w.heap.size, 0, none⟩)], .func (.func 32) #[] #[.pointer (some ⟨w.heap.size, 0, none⟩)], .func (.func 33) #[] #[.pointer (some ⟨w.heap.size, 0, none⟩)], .func (.func 37) #[] #[.pointer (some ⟨w.heap.size, 0, none⟩)], .func (.func 39) #[] #[.pointer (some ⟨w.heap.size, 0, none⟩)], .func (.func 42) #[] #[.pointer (some ⟨w.heap.size, 0, none⟩)], .func (.func 44) #[] #[.pointer (some ⟨w.heap.size, 0, none⟩)], .func (.func 45) #[] #[.pointer (some ⟨w.heap.size, 0, none⟩)], .func (.func 47) #[] #[.pointer (some ⟨w.heap.size, 0, none⟩)]] 26) = w1 from HW.out]
  rw [show w.heap.size + 1 = g from HG.out]
  go_loopw [18] (fun i wr => ∃ k : Nat, k ≤ 9 ∧ i = .int .i64 (k : Int) ∧ Hid (v = ([r0, r1, r2, r3, r4, r5, r6, r7, r8].drop k).all id) ∧ Hid (Below w1.heap.size w1 wr)) (fun i _ => 9 - (intOf i).toNat)
  case atStart => exact ⟨0, by omega, rfl, HV, Below.refl _ w1⟩
  case round =>
    obtain ⟨k, hk, rfl, hd, hB⟩ := hrel
    match k, hk, hd with
    | 0, hk, hd =>
      rw [show (((0 : Nat)) : Int) = 0 from rfl]
      have q : wr.cell? ⟨g, 0, none⟩ = some (.func (.func 30) #[] #[.pointer (some ⟨bd, 0, none⟩)]) := by rw [cell_of_heap (HF.out wr hB.out)]; rfl
      cases hr : r0 with
      | false =>
        have HD : Hid (v = false) := by show _ = _; rw [hd.out]; show (r0 && _) = false; rw [hr]; rfl
        have C := Lib.hid (K0.out false hr wr hB.out)
        clear hd hr
        go_wp2_with fail
        refine C.out.mono ?_
        rintro e w3 ⟨rfl, hb⟩
        have HB3 := Lib.hid (below_keep (below_keep HB1.out hB.out HB1.out.size) hb (below_keep HB1.out hB.out HB1.out.size).size)
        clear hb q
        go_wp2_with fail
        go_ret
        exact ⟨ret_bool HD.out, HB3.out⟩
      | true =>
        have HD : Hid (v = ([r0, r1, r2, r3, r4, r5, r6, r7, r8].drop 1).all id) := by show _ = _; rw [hd.out]; show (r0 && _) = _; rw [hr]; rfl
        have C := Lib.hid (K0.out true hr wr hB.out)
        clear hd hr
        go_wp2_with fail
        refine C.out.mono ?_
        rintro e w3 ⟨rfl, hb⟩
        have HB3 := Lib.hid (below_keep hB.out hb hB.out.size)
        clear hb q
        go_wp2_with fail
        go_roundw
        case rel => exact ⟨1, by omega, by first | rfl | go_num, HD, HB3⟩
        case measure => simp [intOf]
    | 1, hk, hd =>
      rw [show (((1 : Nat)) : Int) = 1 from rfl]
      have q : wr.cell? ⟨g, 1, none⟩ = some (.func (.func 32) #[] #[.pointer (some ⟨bd, 0, none⟩)]) := by rw [cell_of_heap (HF.out wr hB.out)]; rfl
      cases hr : r1 with
      | false =>
        have HD : Hid (v = false) := by show _ = _; rw [hd.out]; show (r1 && _) = false; rw [hr]; rfl
        have C := Lib.hid (K1.out false hr wr hB.out)
        clear hd hr
        go_wp2_with fail
        refine C.out.mono ?_
        rintro e w3 ⟨rfl, hb⟩
        have HB3 := Lib.hid (below_keep (below_keep HB1.out hB.out HB1.out.size) hb (below_keep HB1.out hB.out HB1.out.size).size)
        clear hb q
        go_wp2_with fail
        go_ret
        exact ⟨ret_bool HD.out, HB3.out⟩
      | true =>
        have HD : Hid (v = ([r0, r1, r2, r3, r4, r5, r6, r7, r8].drop 2).all id) := by show _ = _; rw [hd.out]; show (r1 && _) = _; rw [hr]; rfl
        have C := Lib.hid (K1.out true hr wr hB.out)
        clear hd hr
        go_wp2_with fail
        refine C.out.mono ?_
        rintro e w3 ⟨rfl, hb⟩
        have HB3 := Lib.hid (below_keep hB.out hb hB.out.size)
        clear hb q
        go_wp2_with fail
        go_roundw
        case rel => exact ⟨2, by omega, by first | rfl | go_num, HD, HB3⟩
        case measure => simp [intOf]
    | 2, hk, hd =>
      rw [show (((2 : Nat)) : Int) = 2 from rfl]
      have q : wr.cell? ⟨g, 2, none⟩ = some (.func (.func 33) #[] #[.pointer (some ⟨bd, 0, none⟩)]) := by rw [cell_of_heap (HF.out wr hB.out)]; rfl
      cases hr : r2 with
      | false =>
        have HD : Hid (v = false) := by show _ = _; rw [hd.out]; show (r2 && _) = false; rw [hr]; rfl
        have C := Lib.hid (K2.out false hr wr hB.out)
        clear hd hr
        go_wp2_with fail
        refine C.out.mono ?_
        rintro e w3 ⟨rfl, hb⟩
        have HB3 := Lib.hid (below_keep (below_keep HB1.out hB.out HB1.out.size) hb (below_keep HB1.out hB.out HB1.out.size).size)
        clear hb q
        go_wp2_with fail
        go_ret
        exact ⟨ret_bool HD.out, HB3.out⟩
      | true =>
        have HD : Hid (v = ([r0, r1, r2, r3, r4, r5, r6, r7, r8].drop 3).all id) := by show _ = _; rw [hd.out]; show (r2 && _) = _; rw [hr]; rfl
        have C := Lib.hid (K2.out true hr wr hB.out)
        clear hd hr
        go_wp2_with fail
        refine C.out.mono ?_
        rintro e w3 ⟨rfl, hb⟩
        have HB3 := Lib.hid (below_keep hB.out hb hB.out.size)
        clear hb q
        go_wp2_with fail
        go_roundw
        case rel => exact ⟨3, by omega, by first | rfl | go_num, HD, HB3⟩
        case measure => simp [intOf]
    | 3, hk, hd =>
      rw [show (((3 : Nat)) : Int) = 3 from rfl]
      have q : wr.cell? ⟨g, 3, none⟩ = some (.func (.func 37) #[] #[.pointer (some ⟨bd, 0, none⟩)]) := by rw [cell_of_heap (HF.out wr hB.out)]; rfl
      cases hr : r3 with
      | false =>
        have HD : Hid (v = false) := by show _ = _; rw [hd.out]; show (r3 && _) = false; rw [hr]; rfl
        have C := Lib.hid (K3.out false hr wr hB.out)
        clear hd hr
        go_wp2_with fail
        refine C.out.mono ?_
        rintro e w3 ⟨rfl, hb⟩
        have HB3 := Lib.hid (below_keep (below_keep HB1.out hB.out HB1.out.size) hb (below_keep HB1.out hB.out HB1.out.size).size)
        clear hb q
        go_wp2_with fail
        go_ret
        exact ⟨ret_bool HD.out, HB3.out⟩
      | true =>
        have HD : Hid (v = ([r0, r1, r2, r3, r4, r5, r6, r7, r8].drop 4).all id) := by show _ = _; rw [hd.out]; show (r3 && _) = _; rw [hr]; rfl
        have C := Lib.hid (K3.out true hr wr hB.out)
        clear hd hr
        go_wp2_with fail
        refine C.out.mono ?_
        rintro e w3 ⟨rfl, hb⟩
        have HB3 := Lib.hid (below_keep hB.out hb hB.out.size)
        clear hb q
        go_wp2_with fail
        go_roundw
        case rel => exact ⟨4, by omega, by first | rfl | go_num, HD, HB3⟩
        case measure => simp [intOf]
    | 4, hk, hd =>
      rw [show (((4 : Nat)) : Int) = 4 from rfl]
      have q : wr.cell? ⟨g, 4, none⟩ = some (.func (.func 39) #[] #[.pointer (some ⟨bd, 0, none⟩)]) := by rw [cell_of_heap (HF.out wr hB.out)]; rfl
      cases hr : r4 with
      | false =>
        have HD : Hid (v = false) := by show _ = _; rw [hd.out]; show (r4 && _) = false; rw [hr]; rfl
        have C := Lib.hid (K4.out false hr wr hB.out)
        clear hd hr
        go_wp2_with fail
        refine C.out.mono ?_
        rintro e w3 ⟨rfl, hb⟩
        have HB3 := Lib.hid (below_keep (below_keep HB1.out hB.out HB1.out.size) hb (below_keep HB1.out hB.out HB1.out.size).size)
        clear hb q
        go_wp2_with fail
        go_ret
        exact ⟨ret_bool HD.out, HB3.out⟩
      | true =>
        have HD : Hid (v = ([r0, r1, r2, r3, r4, r5, r6, r7, r8].drop 5).all id) := by show _ = _; rw [hd.out]; show (r4 && _) = _; rw [hr]; rfl
        have C := Lib.hid (K4.out true hr wr hB.out)
        clear hd hr
        go_wp2_with fail
        refine C.out.mono ?_
        rintro e w3 ⟨rfl, hb⟩
        have HB3 := Lib.hid (below_keep hB.out hb hB.out.size)
        clear hb q
        go_wp2_with fail
        go_roundw
        case rel => exact ⟨5, by omega, by first | rfl | go_num, HD, HB3⟩
        case measure => simp [intOf]
    | 5, hk, hd =>
      rw [show (((5 : Nat)) : Int) = 5 from rfl]
      have q : wr.cell? ⟨g, 5, none⟩ = some (.func (.func 42) #[] #[.pointer (some ⟨bd, 0, none⟩)]) := by rw [cell_of_heap (HF.out wr hB.out)]; rfl
      cases hr : r5 with
      | false =>
        have HD : Hid (v = false) := by show _ = _; rw [hd.out]; show (r5 && _) = false; rw [hr]; rfl
        have C := Lib.hid (K5.out false hr wr hB.out)
        clear hd hr
        go_wp2_with fail
        refine C.out.mono ?_
        rintro e w3 ⟨rfl, hb⟩
        have HB3 := Lib.hid (below_keep (below_keep HB1.out hB.out HB1.out.size) hb (below_keep HB1.out hB.out HB1.out.size).size)
        clear hb q
        go_wp2_with fail
        go_ret
        exact ⟨ret_bool HD.out, HB3.out⟩
      | true =>
        have HD : Hid (v = ([r0, r1, r2, r3, r4, r5, r6, r7, r8].drop 6).all id) := by show _ = _; rw [hd.out]; show (r5 && _) = _; rw [hr]; rfl
        have C := Lib.hid (K5.out true hr wr hB.out)
        clear hd hr
        go_wp2_with fail
        refine C.out.mono ?_
        rintro e w3 ⟨rfl, hb⟩
        have HB3 := Lib.hid (below_keep hB.out hb hB.out.size)
        clear hb q
        go_wp2_with fail
        go_roundw
        case rel => exact ⟨6, by omega, by first | rfl | go_num, HD, HB3⟩
        case measure => simp [intOf]
    | 6, hk, hd =>
      rw [show (((6 : Nat)) : Int) = 6 from rfl]
      have q : wr.cell? ⟨g, 6, none⟩ = some (.func (.func 44) #[] #[.pointer (some ⟨bd, 0, none⟩)]) := by rw [cell_of_heap (HF.out wr hB.out)]; rfl
      cases hr : r6 with
      | false =>
        have HD : Hid (v = false) := by show _ = _; rw [hd.out]; show (r6 && _) = false; rw [hr]; rfl
        have C := Lib.hid (K6.out false hr wr hB.out)
        clear hd hr
        go_wp2_with fail
        refine C.out.mono ?_
        rintro e w3 ⟨rfl, hb⟩
        have HB3 := Lib.hid (below_keep (below_keep HB1.out hB.out HB1.out.size) hb (below_keep HB1.out hB.out HB1.out.size).size)
        clear hb q
        go_wp2_with fail
        go_ret
        exact ⟨ret_bool HD.out, HB3.out⟩
      | true =>
        have HD : Hid (v = ([r0, r1, r2, r3, r4, r5, r6, r7, r8].drop 7).all id) := by show _ = _; rw [hd.out]; show (r6 && _) = _; rw [hr]; rfl
        have C := Lib.hid (K6.out true hr wr hB.out)
        clear hd hr
        go_wp2_with fail
        refine C.out.mono ?_
        rintro e w3 ⟨rfl, hb⟩
        have HB3 := Lib.hid (below_keep hB.out hb hB.out.size)
        clear hb q
        go_wp2_with fail
        go_roundw
        case rel => exact ⟨7, by omega, by first | rfl | go_num, HD, HB3⟩
        case measure => simp [intOf]
    | 7, hk, hd =>
      rw [show (((7 : Nat)) : Int) = 7 from rfl]
      have q : wr.cell? ⟨g, 7, none⟩ = some (.func (.func 45) #[] #[.pointer (some ⟨bd, 0, none⟩)]) := by rw [cell_of_heap (HF.out wr hB.out)]; rfl
      cases hr : r7 with
      | false =>
        have HD : Hid (v = false) := by show _ = _; rw [hd.out]; show (r7 && _) = false; rw [hr]; rfl
        have C := Lib.hid (K7.out false hr wr hB.out)
        clear hd hr
        go_wp2_with fail
        refine C.out.mono ?_
        rintro e w3 ⟨rfl, hb⟩
        have HB3 := Lib.hid (below_keep (below_keep HB1.out hB.out HB1.out.size) hb (below_keep HB1.out hB.out HB1.out.size).size)
        clear hb q
        go_wp2_with fail
        go_ret
        exact ⟨ret_bool HD.out, HB3.out⟩
      | true =>
        have HD : Hid (v = ([r0, r1, r2, r3, r4, r5, r6, r7, r8].drop 8).all id) := by show _ = _; rw [hd.out]; show (r7 && _) = _; rw [hr]; rfl
        have C := Lib.hid (K7.out true hr wr hB.out)
        clear hd hr
        go_wp2_with fail
        refine C.out.mono ?_
        rintro e w3 ⟨rfl, hb⟩
        have HB3 := Lib.hid (below_keep hB.out hb hB.out.size)
        clear hb q
        go_wp2_with fail
        go_roundw
        case rel => exact ⟨8, by omega, by first | rfl | go_num, HD, HB3⟩
        case measure => simp [intOf]
    | 8, hk, hd =>
      rw [show (((8 : Nat)) : Int) = 8 from rfl]
      have q : wr.cell? ⟨g, 8, none⟩ = some (.func (.func 47) #[] #[.pointer (some ⟨bd, 0, none⟩)]) := by rw [cell_of_heap (HF.out wr hB.out)]; rfl
      cases hr : r8 with
      | false =>
        have HD : Hid (v = false) := by show _ = _; rw [hd.out]; show (r8 && _) = false; rw [hr]; rfl
        have C := Lib.hid (K8.out false hr wr hB.out)
        clear hd hr
        go_wp2_with fail
        refine C.out.mono ?_
        rintro e w3 ⟨rfl, hb⟩
        have HB3 := Lib.hid (below_keep (below_keep HB1.out hB.out HB1.out.size) hb (below_keep HB1.out hB.out HB1.out.size).size)
        clear hb q
        go_wp2_with fail
        go_ret
        exact ⟨ret_bool HD.out, HB3.out⟩
      | true =>
        have HD : Hid (v = ([r0, r1, r2, r3, r4, r5, r6, r7, r8].drop 9).all id) := by show _ = _; rw [hd.out]; show (r8 && _) = _; rw [hr]; rfl
        have C := Lib.hid (K8.out true hr wr hB.out)
        clear hd hr
        go_wp2_with fail
        refine C.out.mono ?_
        rintro e w3 ⟨rfl, hb⟩
        have HB3 := Lib.hid (below_keep hB.out hb hB.out.size)
        clear hb q
        go_wp2_with fail
        go_roundw
        case rel => exact ⟨9, by omega, by first | rfl | go_num, HD, HB3⟩
        case measure => simp [intOf]
    | 9, hk, hd =>
      rw [show (((9 : Nat)) : Int) = 9 from rfl]
      have HD : Hid (v = true) := hd.out
      clear hd
      go_wp2_with fail
      go_ret
      exact ⟨ret_bool HD.out, below_keep HB1.out hB.out HB1.out.size⟩
    | k + 10, hk, hd => omega
end Go.Proofs.YtdpgfnnhbfkacaaGreatDoor.Def
