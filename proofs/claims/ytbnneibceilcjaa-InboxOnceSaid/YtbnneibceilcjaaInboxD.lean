/-
  The contract of prune: any box of at most 17 numbers above; what was there stays as it was.
-/
import Derived.Test.YtbnneibceilcjaaInboxC
import Derived.BigRegion
set_option linter.unusedVariables false
set_option linter.unusedSimpArgs false
set_option maxRecDepth 4000
namespace Go.Proofs.Ytbnneibceilcjaa.Inbox
open Go.RowKit InP
open Go.Proofs.Ytbnneibceilcjaa.Kt
/-- A box without what need not stand above. -/
def plI (low : Int) (l : List Int) : Int × List Int := pruneI (cutI low l).1 (cutI low l).2
theorem cut_few {low : Int} {l : List Int} (h : l.length ≤ 16) : cutI low l = (low, l) := by unfold cutI; rw [if_neg (by omega)]
theorem pl_many {low y : Int} {r : List Int} (h : 16 < (y :: r).length) (h2 : (y :: r).length ≤ 17) : plI low (y :: r) = plI y r := by
  rw [List.length_cons] at h2
  unfold plI
  rw [cut_few (low := y) (l := r) (by omega)]
  unfold cutI
  rw [if_pos h]
theorem pl_next {low y : Int} {r : List Int} (h : ¬ 16 < (y :: r).length) (he : y = low + 1) : plI low (y :: r) = plI y r := by
  rw [List.length_cons] at h
  unfold plI
  rw [cut_few (low := y) (l := r) (by omega), cut_few (low := low) (by rw [List.length_cons]; omega)]
  show pruneI low (y :: r) = pruneI y r
  rw [pruneI, if_pos he]
theorem pl_stop {low y : Int} {r : List Int} (h : ¬ 16 < (y :: r).length) (he : ¬ y = low + 1) : plI low (y :: r) = (low, y :: r) := by
  rw [List.length_cons] at h
  unfold plI
  rw [cut_few (low := low) (by rw [List.length_cons]; omega)]
  show pruneI low (y :: r) = _
  rw [pruneI, if_neg he]
theorem pl_nil {low : Int} : plI low [] = (low, []) := rfl
theorem head_of {l : List Int} {m : Nat} (h : l.length = m) (h0 : 0 < m) : ∃ y r, l = y :: r := by
  cases l with
  | nil => simp at h; omega
  | cons y r => exact ⟨y, r, rfl⟩
def slLen : Value → Nat
  | .slice _ n _ => n
  | _ => 0
/-- What prune hands back. -/
def PrR (s : Int) (a : Option Addr) (n : Nat) (xs : List Int) (p : Int × List Int) (w : World) (e : Ending) (w' : World) : Prop := ∃ A m, e = .returned (bxV s p.1 (.slice A m m)) ∧ (∀ W, NsAt W a n xs → NsAt W A m p.2) ∧ Below w.heap.size w w'
theorem pr_ret {s : Int} {a : Option Addr} {n : Nat} {xs : List Int} {p : Int × List Int} {w w' : World} {lo : Int} {r : List Int} {A : Option Addr} {m : Nat} (hp : p = (lo, r)) (h : ∀ W, NsAt W a n xs → NsAt W A m r) (hb : Below w.heap.size w w') : PrR s a n xs p w (.returned (bxV s lo (.slice A m m))) w' := by
  subst hp
  exact ⟨A, m, rfl, h, hb⟩
/-- A slice without its first. -/
theorem tail_at {w : World} {b o m : Nat} {y : Int} {r : List Int} {A2 : Option Addr} (h : NsAt w (some ⟨b, o, none⟩) m (y :: r)) (h0 : 0 < m) (hA : (if m = 1 then some (⟨b, o, none⟩ : Addr) else some ⟨b, o + 1, none⟩) = A2) : NsAt w A2 (m - 1) r := by
  have := Rw.part_drop (S := intS) (p := 1) (cap := m) (A2 := A2) h (by omega) (Nat.le_refl _) (by
    rw [← hA]
    split
    · rfl
    · rw [Option.map_some, Rw.add_at]; rfl)
  exact this
/-- Two boxes, the first of them without what is stored in it. -/
structure Two (w wr : World) (s lo : Int) (r : Value) : Prop where
  bel : Below w.heap.size w wr
  box : At3 24 wr w.heap.size (.int .i64 s) (.int .i64 lo) r
  res : At3 24 wr (w.heap.size + 1) (.int .i64 0) (.int .i64 0) (.slice none 0 0)
theorem Two.low {w wr : World} {s lo : Int} {r : Value} (h : Two w wr s lo r) (y : Int) : Two w (wr.setCell ⟨w.heap.size, 1, none⟩ (.int .i64 y)) s y r := by
  refine ⟨h.bel.setCell (p := ⟨w.heap.size, 1, none⟩) (Nat.le_refl _) _, Lib.heap_setCell_same (i := 1) h.box _, ?_⟩
  show _ = _
  rw [heap_setCell_other _ _ _ _ (by exact (by omega : w.heap.size + 1 ≠ w.heap.size))]
  exact h.res
theorem Two.row {w wr : World} {s lo : Int} {r : Value} (h : Two w wr s lo r) (q : Value) : Two w (wr.setCell ⟨w.heap.size, 2, none⟩ q) s lo q := by
  refine ⟨h.bel.setCell (p := ⟨w.heap.size, 2, none⟩) (Nat.le_refl _) _, Lib.heap_setCell_same (i := 2) h.box _, ?_⟩
  show _ = _
  rw [heap_setCell_other _ _ _ _ (by exact (by omega : w.heap.size + 1 ≠ w.heap.size))]
  exact h.res
theorem Two.regrown {w wr : World} {s lo : Int} {r : Value} (h : Two w wr s lo r) (d : Nat) (os : Array Obj) : Two w (Sort.grow (redrawn wr d) os) s lo r :=
  ⟨below_keep h.bel (below_regrown wr d os) h.bel.size, h.box.keep (below_regrown wr d os), h.res.keep (below_regrown wr d os)⟩
theorem Two.drew {w wr : World} {s lo : Int} {r : Value} (h : Two w wr s lo r) : Two w wr.drew s lo r := ⟨below_drew h.bel, h.box, h.res⟩
theorem two_new (w : World) (s lo : Int) (r : Value) : Two w ((w.alloc (.cells #[.int .i64 s, .int .i64 lo, r] 24)).alloc (.cells #[.int .i64 0, .int .i64 0, .slice none 0 0] 24)) s lo r := by
  refine ⟨((Below.refl w.heap.size w).alloc (Nat.le_refl _) _).alloc (by simp) _, (at3_new _ w _ _ _).alloc _, ?_⟩
  have h := at3_new 24 (w.alloc (.cells #[.int .i64 s, .int .i64 lo, r] 24)) (.int .i64 0) (.int .i64 0) (.slice none 0 0)
  rw [World.size_alloc] at h
  exact h
set_option maxHeartbeats 8000000 in
theorem prune_any (s lo0 : Int) (a : Option Addr) (n c : Nat) (xs : List Int) (w : World) (h : NsAt w a n xs) (hc : n ≤ c) (h17 : xs.length ≤ 17) (hlo : 0 ≤ lo0 ∧ lo0 ≤ 1099511627776) (hab : ∀ x ∈ xs, 0 ≤ x ∧ x ≤ 1099511627776) :
    Calls Try.prog 18 #[bxV s lo0 (.slice a n c)] w (PrR s a n xs (plI lo0 xs) w) := by
  unfold bxV
  have hl := h.2.1
  have hln := h.1
  have e17 : n ≤ 17 := by omega
  have HB0 : Hid ((0 ≤ lo0 ∧ lo0 ≤ 1099511627776) ∧ ∀ x ∈ xs, 0 ≤ x ∧ x ≤ 1099511627776) := ⟨hlo, hab⟩
  have HX0 := Lib.hid h
  have HT0 := Lib.hid (two_new w s lo0 (.slice a n c))
  have hcn := hc
  clear h hlo hab h17 hln
  go_enter Try.func18, Try.ntmps18
  go_wp2_with fail
  go_loopw [3] (fun s3 wr => ∃ (A : Option Addr) (m : Nat) (r : List Int) (lo : Int), s3 = .slice A m m ∧ m ≤ 17 ∧ Hid (∀ W, NsAt W a n xs → NsAt W A m r) ∧ Hid (plI lo0 xs = plI lo r) ∧ Hid ((0 ≤ lo ∧ lo ≤ 1099511627776) ∧ ∀ x ∈ r, 0 ≤ x ∧ x ≤ 1099511627776) ∧ Hid (Two w wr s lo (.slice a n c))) (fun s3 _ => slLen s3)
  case atStart => exact ⟨a, n, xs, lo0, rfl, e17, (fun W hW => hW : ∀ W, NsAt W a n xs → NsAt W a n xs), (rfl : plI lo0 xs = plI lo0 xs), HB0, HT0⟩
  case round =>
    obtain ⟨A, m, l, lo, rfl, hm17, HXA, hd, hr, hT⟩ := hrel
    have HX := Lib.hid (HXA.out w HX0.out)
    obtain ⟨B0, B1, B2⟩ := cells3 hT.out.box
    have hlo0 := hr.out.1.1
    have hlo1 := hr.out.1.2
    obtain ⟨p, hp⟩ : ∃ p, lo + 1 = p := ⟨_, rfl⟩
    have hwp : IntKind.i64.wrap (lo + 1) = p := by rw [IntKind.wrap_i64, ← hp]; omega
    by_cases hm0 : 0 < m
    · obtain ⟨y, r, rfl⟩ := head_of HX.out.1 hm0
      obtain ⟨b1, o1, rfl, g1, hc1⟩ := NsAt.at HX.out hm0
      rw [Nat.add_zero, show (y :: r).getD 0 0 = y from rfl] at hc1
      have d0 := hc1 wr hT.out.bel
      have hmi : (0 : Int) < (m : Int) := by omega
      have hmd : decide ((0 : Int) < (m : Int)) = true := decide_eq_true hmi
      have HR2 : Hid ((0 ≤ y ∧ y ≤ 1099511627776) ∧ ∀ x ∈ r, 0 ≤ x ∧ x ≤ 1099511627776) := ⟨hr.out.2 y List.mem_cons_self, fun x hx => hr.out.2 x (List.mem_cons_of_mem _ hx)⟩
      by_cases h16 : 16 < m
      · have HGO := Lib.hid (hd.out.trans (pl_many (by rw [HX.out.1]; exact h16) (by rw [HX.out.1]; exact hm17)))
        have hki : decide ((16 : Int) < (m : Int)) = true := by simp; omega
        clear hr hd g1
        go_wp2_with fail
        have c0 := fun d os => cell_regrown d0 d os
        have x1 := fun d os => cell_regrown B1 d os
        clear d0 B1 B0 B2
        refine wp_region_qw (by kernel_rfl) (by kernel_rfl) ?_
        iterate 4 (refine qw_take (by kernel_rfl) (fun K hK => ?_); go_simp; refine hK _ ?_; clear hK K)
        iterate 12 (refine qw_skip (by kernel_rfl) ?_; simp only [Act.put, List.setIfInBounds_toArray, List.set_cons_succ, List.set_cons_zero])
        refine qw_take (by kernel_rfl) (fun K hK => ?_); go_simp; refine hK _ ?_; clear hK K
        refine qw_nil ?_
        intro _ hw'
        obtain ⟨⟨dq, osq⟩, hw''⟩ := hw'
        subst hw''
        have HBL := Lib.hid (hT.out.regrown dq osq)
        clear c0 x1 hT
        generalize Sort.grow (redrawn wr dq) osq = wl at *
        obtain ⟨B0, B1, B2⟩ := cells3 HBL.out.box
        obtain ⟨F0, F1, F2⟩ := free3 HBL.out.box
        clear hki hmd
        obtain ⟨A2, hA2⟩ : ∃ A2, (if m = 1 then some (⟨b1, o1, none⟩ : Addr) else some ⟨b1, o1 + 1, none⟩) = A2 := ⟨_, rfl⟩
        have HN : Hid (∀ W, NsAt W a n xs → NsAt W A2 (m - 1) r) := fun W hW => tail_at (HXA.out W hW) hm0 hA2
        have HT2 := Lib.hid (HBL.out.low y).drew
        have d0 := hc1 wl HBL.out.bel
        clear hc1
        go_wp2_with fail
        go_region
        go_wp2_with fail
        go_roundw
        case rel => exact ⟨A2, m - 1, r, y, rfl, by omega, HN, HGO, HR2, HT2⟩
        case measure => simp [slLen]; omega
      · have hki : decide ((16 : Int) < (m : Int)) = false := by simp; omega
        by_cases he : y = p
        · have HGO := Lib.hid (hd.out.trans (pl_next (by rw [HX.out.1]; exact h16) (he.trans hp.symm)))
          have hee : (y == p) = true := beq_iff_eq.2 he
          clear hr hd g1 he hp
          go_wp2_with fail
          have c0 := fun d os => cell_regrown d0 d os
          have x1 := fun d os => cell_regrown B1 d os
          clear d0 B1 B0 B2
          refine wp_region_qw (by kernel_rfl) (by kernel_rfl) ?_
          iterate 17 (refine qw_take (by kernel_rfl) (fun K hK => ?_); go_simp; refine hK _ ?_; clear hK K)
          refine qw_nil ?_
          intro _ hw'
          obtain ⟨⟨dq, osq⟩, hw''⟩ := hw'
          subst hw''
          have HBL := Lib.hid (hT.out.regrown dq osq)
          clear c0 x1 hT
          generalize Sort.grow (redrawn wr dq) osq = wl at *
          obtain ⟨B0, B1, B2⟩ := cells3 HBL.out.box
          obtain ⟨F0, F1, F2⟩ := free3 HBL.out.box
          clear hki hmd hee hwp
          obtain ⟨A2, hA2⟩ : ∃ A2, (if m = 1 then some (⟨b1, o1, none⟩ : Addr) else some ⟨b1, o1 + 1, none⟩) = A2 := ⟨_, rfl⟩
          have HN : Hid (∀ W, NsAt W a n xs → NsAt W A2 (m - 1) r) := fun W hW => tail_at (HXA.out W hW) hm0 hA2
          have HT2 := Lib.hid (HBL.out.low y).drew
          have d0 := hc1 wl HBL.out.bel
          clear hc1
          go_wp2_with fail
          go_region
          go_wp2_with fail
          go_roundw
          case rel => exact ⟨A2, m - 1, r, y, rfl, by omega, HN, HGO, HR2, HT2⟩
          case measure => simp [slLen]; omega
        · have HE := Lib.hid (hd.out.trans (pl_stop (by rw [HX.out.1]; exact h16) (by rw [hp]; exact he)))
          have hee : (y == p) = false := beq_eq_false_iff_ne.2 he
          clear hr hd g1 he hp hc1 HR2
          go_wp2_with fail
          have c0 := fun d os => cell_regrown d0 d os
          have x1 := fun d os => cell_regrown B1 d os
          clear d0 B1 B0 B2
          refine wp_region_qw (by kernel_rfl) (by kernel_rfl) ?_
          iterate 17 (refine qw_take (by kernel_rfl) (fun K hK => ?_); go_simp; refine hK _ ?_; clear hK K)
          refine qw_nil ?_
          intro _ hw'
          obtain ⟨⟨dq, osq⟩, hw''⟩ := hw'
          subst hw''
          have HBL := Lib.hid (hT.out.regrown dq osq)
          clear c0 x1 hT
          generalize Sort.grow (redrawn wr dq) osq = wl at *
          obtain ⟨B0, B1, B2⟩ := cells3 HBL.out.box
          obtain ⟨F0, F1, F2⟩ := free3 HBL.out.box
          clear hki hmd hee hwp B0 B1 B2 F0 F1 F2
          obtain ⟨B0, B1, B2⟩ := cells3 HBL.out.box
          obtain ⟨F0, F1, F2⟩ := free3 HBL.out.box
          have HR := Lib.hid (HBL.out.row (.slice (some ⟨b1, o1, none⟩) m m))
          obtain ⟨E0, E1, E2⟩ := cells3 HR.out.box
          obtain ⟨R0, R1, R2⟩ := cells3 HR.out.res
          obtain ⟨G0, G1, G2⟩ := free3 HR.out.res
          have HQ := Lib.hid (heap_put3 HR.out.res (.int .i64 s) (.int .i64 lo) (.slice (some ⟨b1, o1, none⟩) m m))
          have HBQ := Lib.hid (below_put3 HR.out.bel (by omega : w.heap.size ≤ w.heap.size + 1) (.int .i64 s) (.int .i64 lo) (.slice (some ⟨b1, o1, none⟩) m m))
          clear HBL
          go_wp2_with fail
          exact bodyPost_ret (results_bx1 (j := 2) rfl _ _ (w.heap.size + 1) _ _ _ rfl HQ.out) rfl (pr_ret HE.out HXA.out HBQ.out)
    · obtain rfl : m = 0 := by omega
      have hl0 : l = [] := List.eq_nil_of_length_eq_zero HX.out.1
      subst hl0
      have HE := Lib.hid (hd.out.trans pl_nil)
      have hki : decide ((16 : Int) < (0 : Int)) = false := rfl
      have d0 := B1
      clear hr hd
      go_wp2_with fail
      have c0 := fun d os => cell_regrown d0 d os
      have x1 := fun d os => cell_regrown B1 d os
      clear d0 B1 B0 B2
      refine wp_region_qw (by kernel_rfl) (by kernel_rfl) ?_
      iterate 8 (refine qw_take (by kernel_rfl) (fun K hK => ?_); go_simp; refine hK _ ?_; clear hK K)
      iterate 7 (refine qw_skip (by kernel_rfl) ?_; simp only [Act.put, List.setIfInBounds_toArray, List.set_cons_succ, List.set_cons_zero])
      iterate 2 (refine qw_take (by kernel_rfl) (fun K hK => ?_); go_simp; refine hK _ ?_; clear hK K)
      refine qw_nil ?_
      intro _ hw'
      obtain ⟨⟨dq, osq⟩, hw''⟩ := hw'
      subst hw''
      have HBL := Lib.hid (hT.out.regrown dq osq)
      clear c0 x1 hT
      generalize Sort.grow (redrawn wr dq) osq = wl at *
      obtain ⟨B0, B1, B2⟩ := cells3 HBL.out.box
      obtain ⟨F0, F1, F2⟩ := free3 HBL.out.box
      clear hki hwp B0 B1 B2 F0 F1 F2
      obtain ⟨B0, B1, B2⟩ := cells3 HBL.out.box
      obtain ⟨F0, F1, F2⟩ := free3 HBL.out.box
      have HR := Lib.hid (HBL.out.row (.slice A 0 0))
      obtain ⟨E0, E1, E2⟩ := cells3 HR.out.box
      obtain ⟨R0, R1, R2⟩ := cells3 HR.out.res
      obtain ⟨G0, G1, G2⟩ := free3 HR.out.res
      have HQ := Lib.hid (heap_put3 HR.out.res (.int .i64 s) (.int .i64 lo) (.slice A 0 0))
      have HBQ := Lib.hid (below_put3 HR.out.bel (by omega : w.heap.size ≤ w.heap.size + 1) (.int .i64 s) (.int .i64 lo) (.slice A 0 0))
      clear HBL
      go_wp2_with fail
      exact bodyPost_ret (results_bx1 (j := 2) rfl _ _ (w.heap.size + 1) _ _ _ rfl HQ.out) rfl (pr_ret HE.out HXA.out HBQ.out)
end Go.Proofs.Ytbnneibceilcjaa.Inbox
