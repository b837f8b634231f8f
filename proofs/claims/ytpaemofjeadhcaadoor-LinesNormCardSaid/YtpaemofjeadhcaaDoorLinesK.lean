/-
  The contract of the document's add: a line more among lines in order; what was there stays as it was.
-/
import Derived.Test.YtpaemofjeadhcaaDoorLinesJ
set_option linter.unusedVariables false
set_option maxRecDepth 4000
set_option maxRecDepth 4000
namespace Go.Proofs.YtpaemofjeadhcaaDoor.Lines
open Go.RowKit LinesP

/-- One step of the document's add: what is written so far, and whether the line is among it. -/
def stA (x : Ln) (st : List Ln × Bool) (y : Ln) : List Ln × Bool :=
  let s1 := if (!st.2 && lss x.1 y.1) = true then (st.1 ++ [x], true) else st
  if y.1 = x.1 then (s1.1 ++ [(x.1, y.2 + x.2)], true) else (s1.1 ++ [y], s1.2)
def addA (x : Ln) (l : List Ln) (k : Nat) : List Ln × Bool := (l.take k).foldl (stA x) ([], false)
theorem addA_step (x : Ln) {l : List Ln} {k : Nat} {y : Ln} (hk : k < l.length) (hy : l.getD k ln0 = y) : addA x l (k + 1) = stA x (addA x l k) y := by
  unfold addA; rw [take_snoc hk hy, List.foldl_append]; rfl
theorem stA_len (x : Ln) (st : List Ln × Bool) (y : Ln) : (stA x st y).1.length ≤ st.1.length + 2 := by
  unfold stA
  split <;> split <;> simp
theorem addA_len (x : Ln) (l : List Ln) : ∀ k, (addA x l k).1.length ≤ 2 * l.length := by
  have h : ∀ (r : List Ln) (st : List Ln × Bool), (r.foldl (stA x) st).1.length ≤ st.1.length + 2 * r.length := by
    intro r
    induction r with
    | nil => intro st; simp
    | cons y r ih =>
      intro st
      have h1 := ih (stA x st y)
      have h2 := stA_len x st y
      simp only [List.foldl_cons, List.length_cons]; omega
  intro k
  have := h (l.take k) ([], false)
  have h2 : (l.take k).length ≤ l.length := by rw [List.length_take]; omega
  unfold addA
  simp only [List.length_nil] at this
  omega
theorem fold_done {x : Ln} : ∀ (r acc : List Ln), (∀ y ∈ r, key x < key y) → r.foldl (stA x) (acc, true) = (acc ++ r, true)
  | [], acc, _ => by simp
  | y :: r, acc, h => by
    have hy := h y List.mem_cons_self
    have hne : ¬ y.1 = x.1 := fun e => kirr (key x) (by have : key y = key x := congrArg (fun s : ByteArray => s.data.toList) e; rw [this] at hy; exact hy)
    rw [List.foldl_cons, show stA x (acc, true) y = (acc ++ [y], true) by simp [stA, hne], fold_done r _ (fun z hz => h z (List.mem_cons_of_mem _ hz))]
    simp
def fin (x : Ln) (st : List Ln × Bool) : List Ln := if st.2 = true then st.1 else st.1 ++ [x]
theorem fold_fin {x : Ln} : ∀ (r acc : List Ln), Up r → fin x (r.foldl (stA x) (acc, false)) = acc ++ ins x r
  | [], acc, _ => by simp [fin, ins]
  | y :: r, acc, h => by
    have h1 := List.pairwise_cons.1 h
    rw [List.foldl_cons]
    cases hl : lss x.1 y.1 with
    | true =>
      have hlt : key x < key y := lss_iff.1 hl
      have hne : ¬ y.1 = x.1 := fun e => kirr (key x) (by have : key y = key x := congrArg (fun s : ByteArray => s.data.toList) e; rw [this] at hlt; exact hlt)
      rw [show stA x (acc, false) y = (acc ++ [x] ++ [y], true) by simp [stA, hne, hl], fold_done r _ (fun z hz => ktrans hlt (h1.1 z hz))]
      simp [fin, ins, hl]
    | false =>
      by_cases he : y.1 = x.1
      · have hk : key y = key x := congrArg (fun s : ByteArray => s.data.toList) he
        have hl2 : lss x.1 x.1 = false := by rw [he] at hl; exact hl
        rw [show stA x (acc, false) y = (acc ++ [(x.1, y.2 + x.2)], true) by simp [stA, he, hl2], fold_done r _ (fun z hz => hk ▸ h1.1 z hz)]
        simp [fin, ins, hl2, he]
      · rw [show stA x (acc, false) y = (acc ++ [y], false) by simp [stA, he, hl], fold_fin r _ h1.2]
        simp [ins, hl, he]
theorem addA_end {x : Ln} {l : List Ln} (h : Up l) : fin x (addA x l l.length) = ins x l := by
  unfold addA; rw [List.take_length, fold_fin l [] h]; simp
theorem str_lss (s t : ByteArray) {b : Bool} (h : lss s t = b) : Op.bytesLess s.toList t.toList = b := by
  rw [ByteArray.toList_eq, ByteArray.toList_eq]; exact h
theorem str_same {s t : ByteArray} (h : t = s) : (t.toList == s.toList) = true := by subst h; simp
theorem str_other {s t : ByteArray} (h : ¬ t = s) : (t.toList == s.toList) = false := by
  rw [beq_eq_false_iff_ne, ByteArray.toList_eq, ByteArray.toList_eq]
  exact fun e => h (ext_key e)
/-- What add leaves: lines in new memory. -/
def AddOut (w : World) (m : List Ln) (e : Ending) (w' : World) : Prop :=
  Below w.heap.size w w' ∧ ∃ a cap, e = .returned (.slice a m.length cap) ∧ LsAt w' a m.length m
theorem add_out {w w' : World} {m m' : List Ln} {n : Nat} {a : Option Addr} {cap : Nat} (h : m' = m) (hn : m'.length = n) (hl : LsAt w' a n m') (hb : Below w.heap.size w w') : AddOut w m (.returned (.slice a n cap)) w' := by
  subst h hn; exact ⟨hb, a, cap, rfl, hl⟩
theorem owns_drew {w : World} {B n size : Nat} {e : TypeId} {v : Value} {xs : List Value} (h : w.ownsRow B e size v n xs) : w.drew.ownsRow B e size v n xs := h
set_option maxHeartbeats 4000000 in
theorem radd_any (a : Option Addr) (len cap : Nat) (l : List Ln) (s : ByteArray) (n : Int) (w : World) (h : LsAt w a len l) (h8 : len ≤ 8) (hu : Up l) (hq : ∀ y ∈ l, 0 ≤ y.2 ∧ y.2 ≤ 100000000) (h0 : 0 ≤ n) (h1 : n ≤ 100000000) :
    Calls Tryd.prog 21 #[.slice a len cap, .agg #[.string s, .int .i64 n]] w (AddOut w (ins (s, n) l)) := by
  have HE := Lib.hid (addA_end (x := (s, n)) hu)
  have HX := Lib.hid h
  have HQ := Lib.hid hq
  have HAL := Lib.hid (fun k => addA_len (s, n) l k)
  have HL : l.length ≤ 8 := by rw [h.1]; exact h8
  obtain ⟨m, hm⟩ : ∃ m, ins (s, n) l = m := ⟨_, rfl⟩
  rw [hm] at HE ⊢
  have hc := boxed_cells w s n
  rw [boxed_alloc] at hc
  obtain ⟨W1, hW1⟩ : ∃ W1, w.alloc (.cells #[.string s, .int .i64 n] 30) = W1 := ⟨_, rfl⟩
  have hW := hW1
  rw [hW1] at hc
  have HB1 : Hid (Below w.heap.size w W1) := by show Below _ _ _; rw [← hW1]; exact (Below.refl _ _).alloc (Nat.le_refl _) _
  have hsz1 : W1.heap.size = w.heap.size + 1 := by rw [← hW1]; simp
  have HSZ := Lib.hid hsz1
  have HC := Lib.hid hc
  have HW := Lib.hid hW1
  clear hm h hq hu hW1 hW hc hsz1
  go_enter Tryd.func21, Tryd.ntmps21
  go_wp2_with fail
  rw [show w.alloc (.cells #[.string s, .int .i64 n] 30) = W1 from HW.out]
  go_loopw [5, 6, 7] (fun t d i wr => ∃ k : Nat, k ≤ len ∧ i = .int .i64 (k : Int) ∧ d = .bool (addA (s, n) l k).2 ∧ Hid (wr.ownsRow W1.heap.size 30 2 t (addA (s, n) l k).1.length (lcells (addA (s, n) l k).1)) ∧ Hid (Below W1.heap.size W1 wr)) (fun _ _ i _ => len - (intOf i).toNat)
  case atStart => exact ⟨0, Nat.zero_le _, rfl, rfl, Lib.hid (World.ownsRow_nil _ _ _ _), Lib.hid (Below.refl _ _)⟩
  case round =>
    obtain ⟨k, hk, rfl, rfl, hO, hB⟩ := hrel
    have hal := HAL.out k
    have hbx : w.heap.size < W1.heap.size := by rw [HSZ.out]; exact Nat.lt_succ_self _
    have c0 := (hB.out.cell (p := ⟨w.heap.size, 0, none⟩) hbx).trans HC.out.1
    have c1 := (hB.out.cell (p := ⟨w.heap.size, 1, none⟩) hbx).trans HC.out.2
    by_cases hlk : k < len
    · rcases HX.out.2.2 with h00 | ⟨b1, o1, rfl, g1, hc1⟩
      · omega
      have g2 : b1 < W1.heap.size := by rw [HSZ.out]; omega
      have d1 := (hB.out.cell (p := ⟨b1, o1 + k * 2, none⟩) g2).trans ((HB1.out.cell (p := ⟨b1, o1 + k * 2, none⟩) g1).trans (hc1 k hlk).1)
      have d2 := (hB.out.cell (p := ⟨b1, o1 + k * 2 + 1, none⟩) g2).trans ((HB1.out.cell (p := ⟨b1, o1 + k * 2 + 1, none⟩) g1).trans (hc1 k hlk).2)
      have hkx : k < l.length := by rw [HX.out.1]; exact hlk
      have hyq := HQ.out (l.getD k ln0) (by rw [show l.getD k ln0 = l[k] by simp [List.getD, hkx]]; exact List.getElem_mem hkx)
      obtain ⟨p, hp⟩ : ∃ p, l.getD k ln0 = p := ⟨_, rfl⟩
      rw [hp] at d1 d2 hyq
      have hstep := addA_step (s, n) hkx hp
      obtain ⟨ys, yn⟩ := p
      simp only at d1 d2 hyq
      obtain ⟨st, hst⟩ : ∃ st, addA (s, n) l k = st := ⟨_, rfl⟩
      rw [hst] at hstep hO hal ⊢
      obtain ⟨out, dn⟩ := st
      simp only at hO hal ⊢
      have HST := Lib.hid hstep
      have hw : IntKind.i64.wrap (yn + n) = yn + n := by rw [IntWalk.i64_in] <;> omega
      obtain ⟨L, hL⟩ : ∃ L, out.length = L := ⟨_, rfl⟩
      rw [hL] at hO hal
      have HOL := Lib.hid hL
      clear hstep hp hkx hst hc1 g1 hyq hL
      have HLO : Hid (out.length = L) := HOL
      cases dn with
      | true =>
        have q1 := fun d os => cell_regrown d1 d os
        have q2 := fun d os => cell_regrown d2 d os
        have q3 := fun d os => cell_regrown c0 d os
        have q4 := fun d os => cell_regrown c1 d os
        go_wp2_with fail
        clear d1 d2 c0 c1
        refine wp_region_qw (by kernel_rfl) (by kernel_rfl) ?_
        refine qw_take (by kernel_rfl) (fun K hK => ?_); go_simp; first | (refine hK _ ?_; clear hK K) | (apply Exists.intro; refine ⟨fun _ => ?_, hK _ ?_⟩; (first | fail); clear hK K)
        refine qw_take (by kernel_rfl) (fun K hK => ?_); go_simp; first | (refine hK _ ?_; clear hK K) | (apply Exists.intro; refine ⟨fun _ => ?_, hK _ ?_⟩; (first | fail); clear hK K)
        refine qw_take (by kernel_rfl) (fun K hK => ?_); go_simp; first | (refine hK _ ?_; clear hK K) | (apply Exists.intro; refine ⟨fun _ => ?_, hK _ ?_⟩; (first | fail); clear hK K)
        refine qw_skip (by kernel_rfl) ?_; simp only [Act.put, List.setIfInBounds_toArray, List.set_cons_succ, List.set_cons_zero]
        refine qw_skip (by kernel_rfl) ?_; simp only [Act.put, List.setIfInBounds_toArray, List.set_cons_succ, List.set_cons_zero]
        refine qw_skip (by kernel_rfl) ?_; simp only [Act.put, List.setIfInBounds_toArray, List.set_cons_succ, List.set_cons_zero]
        refine qw_skip (by kernel_rfl) ?_; simp only [Act.put, List.setIfInBounds_toArray, List.set_cons_succ, List.set_cons_zero]
        refine qw_skip (by kernel_rfl) ?_; simp only [Act.put, List.setIfInBounds_toArray, List.set_cons_succ, List.set_cons_zero]
        refine qw_skip (by kernel_rfl) ?_; simp only [Act.put, List.setIfInBounds_toArray, List.set_cons_succ, List.set_cons_zero]
        refine qw_skip (by kernel_rfl) ?_; simp only [Act.put, List.setIfInBounds_toArray, List.set_cons_succ, List.set_cons_zero]
        refine qw_skip (by kernel_rfl) ?_; simp only [Act.put, List.setIfInBounds_toArray, List.set_cons_succ, List.set_cons_zero]
        refine qw_take (by kernel_rfl) (fun K hK => ?_); go_simp; first | (refine hK _ ?_; clear hK K) | (apply Exists.intro; refine ⟨fun _ => ?_, hK _ ?_⟩; (first | fail); clear hK K)
        refine qw_nil ?_
        intro _ hw'
        obtain ⟨⟨dq, osq⟩, hw''⟩ := hw'
        subst hw''
        have d1 := q1 dq osq
        have d2 := q2 dq osq
        have c0 := q3 dq osq
        have c1 := q4 dq osq
        have hbr := below_regrown wr dq osq
        clear q1 q2 q3 q4
        obtain ⟨w3, hwv⟩ : ∃ w, Sort.grow (redrawn wr dq) osq = w := ⟨_, rfl⟩
        rw [hwv] at d1 d2 c0 c1 hbr ⊢
        clear hwv
        have HO := Lib.hid (owns_below hO.out hbr)
        have HB := Lib.hid (below_keep hB.out hbr hB.out.size)
        clear hbr hO hB
        skip
        by_cases hye : ys = s
        · have he2 := str_same hye
          have HNX : Hid (addA (s, n) l (k + 1) = (out ++ [(s, yn + n)], true)) := by
            show _ = _
            rw [HST.out]
            simp [stA, hye]
          clear hye
          have q1 := fun d os => cell_regrown d1 d os
          have q2 := fun d os => cell_regrown d2 d os
          have q3 := fun d os => cell_regrown c0 d os
          have q4 := fun d os => cell_regrown c1 d os
          go_wp2_with fail
          clear d1 d2 c0 c1
          refine wp_region_qw (by kernel_rfl) (by kernel_rfl) ?_
          refine qw_take (by kernel_rfl) (fun K hK => ?_); go_simp; first | (refine hK _ ?_; clear hK K) | (apply Exists.intro; refine ⟨fun _ => ?_, hK _ ?_⟩; (first | fail); clear hK K)
          refine qw_take (by kernel_rfl) (fun K hK => ?_); go_simp; first | (refine hK _ ?_; clear hK K) | (apply Exists.intro; refine ⟨fun _ => ?_, hK _ ?_⟩; (first | fail); clear hK K)
          refine qw_take (by kernel_rfl) (fun K hK => ?_); go_simp; first | (refine hK _ ?_; clear hK K) | (apply Exists.intro; refine ⟨fun _ => ?_, hK _ ?_⟩; (first | fail); clear hK K)
          refine qw_take (by kernel_rfl) (fun K hK => ?_); go_simp; first | (refine hK _ ?_; clear hK K) | (apply Exists.intro; refine ⟨fun _ => ?_, hK _ ?_⟩; (first | fail); clear hK K)
          refine qw_take (by kernel_rfl) (fun K hK => ?_); go_simp; first | (refine hK _ ?_; clear hK K) | (apply Exists.intro; refine ⟨fun _ => ?_, hK _ ?_⟩; (first | fail); clear hK K)
          refine qw_take (by kernel_rfl) (fun K hK => ?_); go_simp; first | (refine hK _ ?_; clear hK K) | (apply Exists.intro; refine ⟨fun _ => ?_, hK _ ?_⟩; (first | fail); clear hK K)
          refine qw_take (by kernel_rfl) (fun K hK => ?_); go_simp; first | (refine hK _ ?_; clear hK K) | (apply Exists.intro; refine ⟨fun _ => ?_, hK _ ?_⟩; (first | fail); clear hK K)
          refine qw_take (by kernel_rfl) (fun K hK => ?_); go_simp; first | (refine hK _ ?_; clear hK K) | (apply Exists.intro; refine ⟨fun _ => ?_, hK _ ?_⟩; (first | fail); clear hK K)
          refine qw_nil ?_
          intro _ hw'
          obtain ⟨⟨dq, osq⟩, hw''⟩ := hw'
          subst hw''
          have d1 := q1 dq osq
          have d2 := q2 dq osq
          have c0 := q3 dq osq
          have c1 := q4 dq osq
          have hbr := below_regrown w3 dq osq
          clear q1 q2 q3 q4
          obtain ⟨w5, hwv⟩ : ∃ w, Sort.grow (redrawn w3 dq) osq = w := ⟨_, rfl⟩
          rw [hwv] at d1 d2 c0 c1 hbr ⊢
          clear hwv
          have HO5 := Lib.hid (owns_below HO.out hbr)
          have HB5 := Lib.hid (below_keep HB.out hbr HB.out.size)
          have hsz5 : W1.heap.size ≤ w5.heap.size := HB5.out.size
          clear hbr HO HB
          have c0 : w5.drew.cell? ⟨w.heap.size, 0, none⟩ = some (.string s) := c0
          have c1 : w5.drew.cell? ⟨w.heap.size, 1, none⟩ = some (.int .i64 n) := c1
          have d2 : w5.drew.cell? ⟨b1, o1 + k * 2 + 1, none⟩ = some (.int .i64 yn) := d2
          go_wp2_with fail
          refine Mix.wp_region_mix [0] [1, 2, 3, 4, 5, 6, 7, 8, 9, 10, 11] [12, 13, 14] 12 (by kernel_rfl) (by kernel_rfl) (fun _ _ d _ _ h => by cases d <;> exact h) ?_
          simp only [Mix.pick, List.filterMap_cons, List.filterMap_nil, List.getElem?_cons_zero, List.getElem?_cons_succ]
          repeat (refine Mix.wpFree_step ?_ (by rfl) ?_ ?_; rotate_left; focus ((intro w'); go_simp; (try with_reducible rfl)))
          refine Mix.wpFree_nil ?_
          repeat still_step
          refine wpStill_nil ?_
          clear c0 c1 d2 d1
          have HO6 := Lib.hid (owns_drew HO5.out)
          have HB6 := Lib.hid (below_drewN HB5.out 1)
          have hsz6 : W1.heap.size ≤ w5.drew.heap.size := hsz5
          obtain ⟨w6, hw6⟩ : ∃ w6, w5.drew = w6 := ⟨_, rfl⟩
          have HB6 : Hid (Below W1.heap.size W1 w6) := by show Below _ _ _; rw [← hw6]; exact HB6.out
          rw [hw6] at HO6 hsz6 ⊢
          clear hw6 HO5 HB5 hsz5
          refine wpList_plain rfl fun K hK => ?_
          go_simp
          refine hK _ _ ?_
          clear hK K
          refine append_line rfl (.tmp 38) (.tmp 50) rfl W1.heap.size w6 _ rfl s (yn + n) _ L (out) rfl HO6.out rfl (by omega) hsz6 ?_
          intro v' w7 hown7 hgrow7
          have HO7 : Hid (w7.ownsRow W1.heap.size 30 2 v' (addA (s, n) l (k + 1)).1.length (lcells (addA (s, n) l (k + 1)).1)) := by
            show w7.ownsRow _ _ _ _ _ _
            rw [HNX.out, List.length_append, HLO.out]
            first | exact hown7 | (dsimp only; rw [List.append_assoc]; exact hown7)
          have HB7 := Lib.hid (below_append HB6.out HB6.out.size HO6.out hgrow7)
          clear hown7 hgrow7
          go_wp2_with fail
          go_roundw
          case rel => exact ⟨k + 1, by omega, by go_num, by rw [HNX.out], HO7, HB7⟩
          case measure => simp [intOf]; omega
        · have he2 := str_other hye
          have HNX : Hid (addA (s, n) l (k + 1) = (out ++ [(ys, yn)], true)) := by show _ = _; rw [HST.out]; simp [stA, hye]
          clear hye
          have q1 := fun d os => cell_regrown d1 d os
          have q2 := fun d os => cell_regrown d2 d os
          have q3 := fun d os => cell_regrown c0 d os
          have q4 := fun d os => cell_regrown c1 d os
          go_wp2_with fail
          clear d1 d2 c0 c1
          refine wp_region_qw (by kernel_rfl) (by kernel_rfl) ?_
          refine qw_take (by kernel_rfl) (fun K hK => ?_); go_simp; first | (refine hK _ ?_; clear hK K) | (apply Exists.intro; refine ⟨fun _ => ?_, hK _ ?_⟩; (first | fail); clear hK K)
          refine qw_take (by kernel_rfl) (fun K hK => ?_); go_simp; first | (refine hK _ ?_; clear hK K) | (apply Exists.intro; refine ⟨fun _ => ?_, hK _ ?_⟩; (first | fail); clear hK K)
          refine qw_take (by kernel_rfl) (fun K hK => ?_); go_simp; first | (refine hK _ ?_; clear hK K) | (apply Exists.intro; refine ⟨fun _ => ?_, hK _ ?_⟩; (first | fail); clear hK K)
          refine qw_take (by kernel_rfl) (fun K hK => ?_); go_simp; first | (refine hK _ ?_; clear hK K) | (apply Exists.intro; refine ⟨fun _ => ?_, hK _ ?_⟩; (first | fail); clear hK K)
          refine qw_take (by kernel_rfl) (fun K hK => ?_); go_simp; first | (refine hK _ ?_; clear hK K) | (apply Exists.intro; refine ⟨fun _ => ?_, hK _ ?_⟩; (first | fail); clear hK K)
          refine qw_take (by kernel_rfl) (fun K hK => ?_); go_simp; first | (refine hK _ ?_; clear hK K) | (apply Exists.intro; refine ⟨fun _ => ?_, hK _ ?_⟩; (first | fail); clear hK K)
          refine qw_take (by kernel_rfl) (fun K hK => ?_); go_simp; first | (refine hK _ ?_; clear hK K) | (apply Exists.intro; refine ⟨fun _ => ?_, hK _ ?_⟩; (first | fail); clear hK K)
          refine qw_take (by kernel_rfl) (fun K hK => ?_); go_simp; first | (refine hK _ ?_; clear hK K) | (apply Exists.intro; refine ⟨fun _ => ?_, hK _ ?_⟩; (first | fail); clear hK K)
          refine qw_nil ?_
          intro _ hw'
          obtain ⟨⟨dq, osq⟩, hw''⟩ := hw'
          subst hw''
          have d1 := q1 dq osq
          have d2 := q2 dq osq
          have c0 := q3 dq osq
          have c1 := q4 dq osq
          have hbr := below_regrown w3 dq osq
          clear q1 q2 q3 q4
          obtain ⟨w5, hwv⟩ : ∃ w, Sort.grow (redrawn w3 dq) osq = w := ⟨_, rfl⟩
          rw [hwv] at d1 d2 c0 c1 hbr ⊢
          clear hwv
          have HO5 := Lib.hid (owns_below HO.out hbr)
          have HB5 := Lib.hid (below_keep HB.out hbr HB.out.size)
          have hsz5 : W1.heap.size ≤ w5.heap.size := HB5.out.size
          clear hbr HO HB
          go_wp2_with (first
            | (at_builtin; refine append_line rfl (.tmp 52) (.tmp 57) rfl W1.heap.size w5 _ rfl ys yn _ L (out) rfl HO5.out rfl (by omega) hsz5 ?_)
            | fail)
          intro v' w7 hown7 hgrow7
          have HO7 : Hid (w7.ownsRow W1.heap.size 30 2 v' (addA (s, n) l (k + 1)).1.length (lcells (addA (s, n) l (k + 1)).1)) := by
            show w7.ownsRow _ _ _ _ _ _
            rw [HNX.out, List.length_append, HLO.out]
            first | exact hown7 | (dsimp only; rw [List.append_assoc]; exact hown7)
          have HB7 := Lib.hid (below_append HB5.out HB5.out.size HO5.out hgrow7)
          clear hown7 hgrow7 d1 d2 c0 c1
          go_wp2_with fail
          go_roundw
          case rel => exact ⟨k + 1, by omega, by go_num, by rw [HNX.out], HO7, HB7⟩
          case measure => simp [intOf]; omega
      | false =>
        cases hls : lss s ys with
        | true =>
          have hl2 := str_lss s ys hls
          have HLS := Lib.hid hls
          clear hls
          have q1 := fun d os => cell_regrown d1 d os
          have q2 := fun d os => cell_regrown d2 d os
          have q3 := fun d os => cell_regrown c0 d os
          have q4 := fun d os => cell_regrown c1 d os
          go_wp2_with fail
          clear d1 d2 c0 c1
          refine wp_region_qw (by kernel_rfl) (by kernel_rfl) ?_
          refine qw_take (by kernel_rfl) (fun K hK => ?_); go_simp; first | (refine hK _ ?_; clear hK K) | (apply Exists.intro; refine ⟨fun _ => ?_, hK _ ?_⟩; (first | fail); clear hK K)
          refine qw_take (by kernel_rfl) (fun K hK => ?_); go_simp; first | (refine hK _ ?_; clear hK K) | (apply Exists.intro; refine ⟨fun _ => ?_, hK _ ?_⟩; (first | fail); clear hK K)
          refine qw_take (by kernel_rfl) (fun K hK => ?_); go_simp; first | (refine hK _ ?_; clear hK K) | (apply Exists.intro; refine ⟨fun _ => ?_, hK _ ?_⟩; (first | fail); clear hK K)
          refine qw_take (by kernel_rfl) (fun K hK => ?_); go_simp; first | (refine hK _ ?_; clear hK K) | (apply Exists.intro; refine ⟨fun _ => ?_, hK _ ?_⟩; (first | fail); clear hK K)
          refine qw_take (by kernel_rfl) (fun K hK => ?_); go_simp; first | (refine hK _ ?_; clear hK K) | (apply Exists.intro; refine ⟨fun _ => ?_, hK _ ?_⟩; (first | fail); clear hK K)
          refine qw_take (by kernel_rfl) (fun K hK => ?_); go_simp; first | (refine hK _ ?_; clear hK K) | (apply Exists.intro; refine ⟨fun _ => ?_, hK _ ?_⟩; (first | fail); clear hK K)
          refine qw_take (by kernel_rfl) (fun K hK => ?_); go_simp; first | (refine hK _ ?_; clear hK K) | (apply Exists.intro; refine ⟨fun _ => ?_, hK _ ?_⟩; (first | fail); clear hK K)
          refine qw_take (by kernel_rfl) (fun K hK => ?_); go_simp; first | (refine hK _ ?_; clear hK K) | (apply Exists.intro; refine ⟨fun _ => ?_, hK _ ?_⟩; (first | fail); clear hK K)
          refine qw_take (by kernel_rfl) (fun K hK => ?_); go_simp; first | (refine hK _ ?_; clear hK K) | (apply Exists.intro; refine ⟨fun _ => ?_, hK _ ?_⟩; (first | fail); clear hK K)
          refine qw_take (by kernel_rfl) (fun K hK => ?_); go_simp; first | (refine hK _ ?_; clear hK K) | (apply Exists.intro; refine ⟨fun _ => ?_, hK _ ?_⟩; (first | fail); clear hK K)
          refine qw_take (by kernel_rfl) (fun K hK => ?_); go_simp; first | (refine hK _ ?_; clear hK K) | (apply Exists.intro; refine ⟨fun _ => ?_, hK _ ?_⟩; (first | fail); clear hK K)
          refine qw_take (by kernel_rfl) (fun K hK => ?_); go_simp; first | (refine hK _ ?_; clear hK K) | (apply Exists.intro; refine ⟨fun _ => ?_, hK _ ?_⟩; (first | fail); clear hK K)
          refine qw_nil ?_
          intro _ hw'
          obtain ⟨⟨dq, osq⟩, hw''⟩ := hw'
          subst hw''
          have d1 := q1 dq osq
          have d2 := q2 dq osq
          have c0 := q3 dq osq
          have c1 := q4 dq osq
          have hbr := below_regrown wr dq osq
          clear q1 q2 q3 q4
          obtain ⟨w3, hwv⟩ : ∃ w, Sort.grow (redrawn wr dq) osq = w := ⟨_, rfl⟩
          rw [hwv] at d1 d2 c0 c1 hbr ⊢
          clear hwv
          have HO3 := Lib.hid (owns_below hO.out hbr)
          have HB3 := Lib.hid (below_keep hB.out hbr hB.out.size)
          have hsz3 : W1.heap.size ≤ w3.heap.size := HB3.out.size
          have hb1w : b1 < W1.heap.size := g2
          clear hbr hO hB hl2
          go_wp2_with (first
            | (at_builtin; refine append_line rfl (.tmp 26) (.tmp 28) rfl W1.heap.size w3 _ rfl s n _ L out rfl HO3.out rfl (by omega) hsz3 ?_)
            | fail)
          intro v4 w4 hown4 hgrow4
          have hb4 := below_append HB3.out hsz3 HO3.out hgrow4
          have d1 : w4.cell? ⟨b1, o1 + k * 2, none⟩ = some (.string ys) := (hb4.cell (p := ⟨b1, o1 + k * 2, none⟩) g2).trans ((HB3.out.cell (p := ⟨b1, o1 + k * 2, none⟩) g2).symm.trans d1)
          have d2 : w4.cell? ⟨b1, o1 + k * 2 + 1, none⟩ = some (.int .i64 yn) := (hb4.cell (p := ⟨b1, o1 + k * 2 + 1, none⟩) g2).trans ((HB3.out.cell (p := ⟨b1, o1 + k * 2 + 1, none⟩) g2).symm.trans d2)
          have c0 : w4.cell? ⟨w.heap.size, 0, none⟩ = some (.string s) := (hb4.cell (p := ⟨w.heap.size, 0, none⟩) hbx).trans HC.out.1
          have c1 : w4.cell? ⟨w.heap.size, 1, none⟩ = some (.int .i64 n) := (hb4.cell (p := ⟨w.heap.size, 1, none⟩) hbx).trans HC.out.2
          have HO : Hid (w4.ownsRow W1.heap.size 30 2 v4 (L + 1) (lcells (out ++ [(s, n)]))) := hown4
          have HB := Lib.hid hb4
          have HLO : Hid ((out ++ [(s, n)]).length = L + 1) := by show _ = _; rw [List.length_append, HOL.out]; rfl
          clear hown4 hgrow4 hb4 HO3 HB3 hsz3 hb1w
          by_cases hye : ys = s
          · have he2 := str_same hye
            have HNX : Hid (addA (s, n) l (k + 1) = (out ++ [(s, n)] ++ [(s, yn + n)], true)) := by
              show _ = _
              rw [HST.out]
              have e := HLS.out
              rw [hye] at e
              simp [stA, hye, e]
            clear hye
            have q1 := fun d os => cell_regrown d1 d os
            have q2 := fun d os => cell_regrown d2 d os
            have q3 := fun d os => cell_regrown c0 d os
            have q4 := fun d os => cell_regrown c1 d os
            go_wp2_with fail
            clear d1 d2 c0 c1
            refine wp_region_qw (by kernel_rfl) (by kernel_rfl) ?_
            refine qw_take (by kernel_rfl) (fun K hK => ?_); go_simp; first | (refine hK _ ?_; clear hK K) | (apply Exists.intro; refine ⟨fun _ => ?_, hK _ ?_⟩; (first | fail); clear hK K)
            refine qw_take (by kernel_rfl) (fun K hK => ?_); go_simp; first | (refine hK _ ?_; clear hK K) | (apply Exists.intro; refine ⟨fun _ => ?_, hK _ ?_⟩; (first | fail); clear hK K)
            refine qw_take (by kernel_rfl) (fun K hK => ?_); go_simp; first | (refine hK _ ?_; clear hK K) | (apply Exists.intro; refine ⟨fun _ => ?_, hK _ ?_⟩; (first | fail); clear hK K)
            refine qw_take (by kernel_rfl) (fun K hK => ?_); go_simp; first | (refine hK _ ?_; clear hK K) | (apply Exists.intro; refine ⟨fun _ => ?_, hK _ ?_⟩; (first | fail); clear hK K)
            refine qw_take (by kernel_rfl) (fun K hK => ?_); go_simp; first | (refine hK _ ?_; clear hK K) | (apply Exists.intro; refine ⟨fun _ => ?_, hK _ ?_⟩; (first | fail); clear hK K)
            refine qw_take (by kernel_rfl) (fun K hK => ?_); go_simp; first | (refine hK _ ?_; clear hK K) | (apply Exists.intro; refine ⟨fun _ => ?_, hK _ ?_⟩; (first | fail); clear hK K)
            refine qw_take (by kernel_rfl) (fun K hK => ?_); go_simp; first | (refine hK _ ?_; clear hK K) | (apply Exists.intro; refine ⟨fun _ => ?_, hK _ ?_⟩; (first | fail); clear hK K)
            refine qw_take (by kernel_rfl) (fun K hK => ?_); go_simp; first | (refine hK _ ?_; clear hK K) | (apply Exists.intro; refine ⟨fun _ => ?_, hK _ ?_⟩; (first | fail); clear hK K)
            refine qw_nil ?_
            intro _ hw'
            obtain ⟨⟨dq, osq⟩, hw''⟩ := hw'
            subst hw''
            have d1 := q1 dq osq
            have d2 := q2 dq osq
            have c0 := q3 dq osq
            have c1 := q4 dq osq
            have hbr := below_regrown w4 dq osq
            clear q1 q2 q3 q4
            obtain ⟨w5, hwv⟩ : ∃ w, Sort.grow (redrawn w4 dq) osq = w := ⟨_, rfl⟩
            rw [hwv] at d1 d2 c0 c1 hbr ⊢
            clear hwv
            have HO5 := Lib.hid (owns_below HO.out hbr)
            have HB5 := Lib.hid (below_keep HB.out hbr HB.out.size)
            have hsz5 : W1.heap.size ≤ w5.heap.size := HB5.out.size
            clear hbr HO HB
            have c0 : w5.drew.cell? ⟨w.heap.size, 0, none⟩ = some (.string s) := c0
            have c1 : w5.drew.cell? ⟨w.heap.size, 1, none⟩ = some (.int .i64 n) := c1
            have d2 : w5.drew.cell? ⟨b1, o1 + k * 2 + 1, none⟩ = some (.int .i64 yn) := d2
            go_wp2_with fail
            refine Mix.wp_region_mix [0] [1, 2, 3, 4, 5, 6, 7, 8, 9, 10, 11] [12, 13, 14] 12 (by kernel_rfl) (by kernel_rfl) (fun _ _ d _ _ h => by cases d <;> exact h) ?_
            simp only [Mix.pick, List.filterMap_cons, List.filterMap_nil, List.getElem?_cons_zero, List.getElem?_cons_succ]
            repeat (refine Mix.wpFree_step ?_ (by rfl) ?_ ?_; rotate_left; focus ((intro w'); go_simp; (try with_reducible rfl)))
            refine Mix.wpFree_nil ?_
            repeat still_step
            refine wpStill_nil ?_
            clear c0 c1 d2 d1
            have HO6 := Lib.hid (owns_drew HO5.out)
            have HB6 := Lib.hid (below_drewN HB5.out 1)
            have hsz6 : W1.heap.size ≤ w5.drew.heap.size := hsz5
            obtain ⟨w6, hw6⟩ : ∃ w6, w5.drew = w6 := ⟨_, rfl⟩
            have HB6 : Hid (Below W1.heap.size W1 w6) := by show Below _ _ _; rw [← hw6]; exact HB6.out
            rw [hw6] at HO6 hsz6 ⊢
            clear hw6 HO5 HB5 hsz5
            refine wpList_plain rfl fun K hK => ?_
            go_simp
            refine hK _ _ ?_
            clear hK K
            refine append_line rfl (.tmp 38) (.tmp 50) rfl W1.heap.size w6 _ rfl s (yn + n) _ (L + 1) (out ++ [(s, n)]) rfl HO6.out rfl (by omega) hsz6 ?_
            intro v' w7 hown7 hgrow7
            have HO7 : Hid (w7.ownsRow W1.heap.size 30 2 v' (addA (s, n) l (k + 1)).1.length (lcells (addA (s, n) l (k + 1)).1)) := by
              show w7.ownsRow _ _ _ _ _ _
              rw [HNX.out, List.length_append, HLO.out]
              first | exact hown7 | (dsimp only; rw [List.append_assoc]; exact hown7)
            have HB7 := Lib.hid (below_append HB6.out HB6.out.size HO6.out hgrow7)
            clear hown7 hgrow7
            go_wp2_with fail
            go_roundw
            case rel => exact ⟨k + 1, by omega, by go_num, by rw [HNX.out], HO7, HB7⟩
            case measure => simp [intOf]; omega
          · have he2 := str_other hye
            have HNX : Hid (addA (s, n) l (k + 1) = (out ++ [(s, n)] ++ [(ys, yn)], true)) := by show _ = _; rw [HST.out]; simp [stA, hye, HLS.out]
            clear hye
            have q1 := fun d os => cell_regrown d1 d os
            have q2 := fun d os => cell_regrown d2 d os
            have q3 := fun d os => cell_regrown c0 d os
            have q4 := fun d os => cell_regrown c1 d os
            go_wp2_with fail
            clear d1 d2 c0 c1
            refine wp_region_qw (by kernel_rfl) (by kernel_rfl) ?_
            refine qw_take (by kernel_rfl) (fun K hK => ?_); go_simp; first | (refine hK _ ?_; clear hK K) | (apply Exists.intro; refine ⟨fun _ => ?_, hK _ ?_⟩; (first | fail); clear hK K)
            refine qw_take (by kernel_rfl) (fun K hK => ?_); go_simp; first | (refine hK _ ?_; clear hK K) | (apply Exists.intro; refine ⟨fun _ => ?_, hK _ ?_⟩; (first | fail); clear hK K)
            refine qw_take (by kernel_rfl) (fun K hK => ?_); go_simp; first | (refine hK _ ?_; clear hK K) | (apply Exists.intro; refine ⟨fun _ => ?_, hK _ ?_⟩; (first | fail); clear hK K)
            refine qw_take (by kernel_rfl) (fun K hK => ?_); go_simp; first | (refine hK _ ?_; clear hK K) | (apply Exists.intro; refine ⟨fun _ => ?_, hK _ ?_⟩; (first | fail); clear hK K)
            refine qw_take (by kernel_rfl) (fun K hK => ?_); go_simp; first | (refine hK _ ?_; clear hK K) | (apply Exists.intro; refine ⟨fun _ => ?_, hK _ ?_⟩; (first | fail); clear hK K)
            refine qw_take (by kernel_rfl) (fun K hK => ?_); go_simp; first | (refine hK _ ?_; clear hK K) | (apply Exists.intro; refine ⟨fun _ => ?_, hK _ ?_⟩; (first | fail); clear hK K)
            refine qw_take (by kernel_rfl) (fun K hK => ?_); go_simp; first | (refine hK _ ?_; clear hK K) | (apply Exists.intro; refine ⟨fun _ => ?_, hK _ ?_⟩; (first | fail); clear hK K)
            refine qw_take (by kernel_rfl) (fun K hK => ?_); go_simp; first | (refine hK _ ?_; clear hK K) | (apply Exists.intro; refine ⟨fun _ => ?_, hK _ ?_⟩; (first | fail); clear hK K)
            refine qw_nil ?_
            intro _ hw'
            obtain ⟨⟨dq, osq⟩, hw''⟩ := hw'
            subst hw''
            have d1 := q1 dq osq
            have d2 := q2 dq osq
            have c0 := q3 dq osq
            have c1 := q4 dq osq
            have hbr := below_regrown w4 dq osq
            clear q1 q2 q3 q4
            obtain ⟨w5, hwv⟩ : ∃ w, Sort.grow (redrawn w4 dq) osq = w := ⟨_, rfl⟩
            rw [hwv] at d1 d2 c0 c1 hbr ⊢
            clear hwv
            have HO5 := Lib.hid (owns_below HO.out hbr)
            have HB5 := Lib.hid (below_keep HB.out hbr HB.out.size)
            have hsz5 : W1.heap.size ≤ w5.heap.size := HB5.out.size
            clear hbr HO HB
            go_wp2_with (first
              | (at_builtin; refine append_line rfl (.tmp 52) (.tmp 57) rfl W1.heap.size w5 _ rfl ys yn _ (L + 1) (out ++ [(s, n)]) rfl HO5.out rfl (by omega) hsz5 ?_)
              | fail)
            intro v' w7 hown7 hgrow7
            have HO7 : Hid (w7.ownsRow W1.heap.size 30 2 v' (addA (s, n) l (k + 1)).1.length (lcells (addA (s, n) l (k + 1)).1)) := by
              show w7.ownsRow _ _ _ _ _ _
              rw [HNX.out, List.length_append, HLO.out]
              first | exact hown7 | (dsimp only; rw [List.append_assoc]; exact hown7)
            have HB7 := Lib.hid (below_append HB5.out HB5.out.size HO5.out hgrow7)
            clear hown7 hgrow7 d1 d2 c0 c1
            go_wp2_with fail
            go_roundw
            case rel => exact ⟨k + 1, by omega, by go_num, by rw [HNX.out], HO7, HB7⟩
            case measure => simp [intOf]; omega
        | false =>
          have hl2 := str_lss s ys hls
          have HLS := Lib.hid hls
          clear hls
          have q1 := fun d os => cell_regrown d1 d os
          have q2 := fun d os => cell_regrown d2 d os
          have q3 := fun d os => cell_regrown c0 d os
          have q4 := fun d os => cell_regrown c1 d os
          go_wp2_with fail
          clear d1 d2 c0 c1
          refine wp_region_qw (by kernel_rfl) (by kernel_rfl) ?_
          refine qw_take (by kernel_rfl) (fun K hK => ?_); go_simp; first | (refine hK _ ?_; clear hK K) | (apply Exists.intro; refine ⟨fun _ => ?_, hK _ ?_⟩; (first | fail); clear hK K)
          refine qw_take (by kernel_rfl) (fun K hK => ?_); go_simp; first | (refine hK _ ?_; clear hK K) | (apply Exists.intro; refine ⟨fun _ => ?_, hK _ ?_⟩; (first | fail); clear hK K)
          refine qw_take (by kernel_rfl) (fun K hK => ?_); go_simp; first | (refine hK _ ?_; clear hK K) | (apply Exists.intro; refine ⟨fun _ => ?_, hK _ ?_⟩; (first | fail); clear hK K)
          refine qw_take (by kernel_rfl) (fun K hK => ?_); go_simp; first | (refine hK _ ?_; clear hK K) | (apply Exists.intro; refine ⟨fun _ => ?_, hK _ ?_⟩; (first | fail); clear hK K)
          refine qw_take (by kernel_rfl) (fun K hK => ?_); go_simp; first | (refine hK _ ?_; clear hK K) | (apply Exists.intro; refine ⟨fun _ => ?_, hK _ ?_⟩; (first | fail); clear hK K)
          refine qw_take (by kernel_rfl) (fun K hK => ?_); go_simp; first | (refine hK _ ?_; clear hK K) | (apply Exists.intro; refine ⟨fun _ => ?_, hK _ ?_⟩; (first | fail); clear hK K)
          refine qw_take (by kernel_rfl) (fun K hK => ?_); go_simp; first | (refine hK _ ?_; clear hK K) | (apply Exists.intro; refine ⟨fun _ => ?_, hK _ ?_⟩; (first | fail); clear hK K)
          refine qw_take (by kernel_rfl) (fun K hK => ?_); go_simp; first | (refine hK _ ?_; clear hK K) | (apply Exists.intro; refine ⟨fun _ => ?_, hK _ ?_⟩; (first | fail); clear hK K)
          refine qw_take (by kernel_rfl) (fun K hK => ?_); go_simp; first | (refine hK _ ?_; clear hK K) | (apply Exists.intro; refine ⟨fun _ => ?_, hK _ ?_⟩; (first | fail); clear hK K)
          refine qw_take (by kernel_rfl) (fun K hK => ?_); go_simp; first | (refine hK _ ?_; clear hK K) | (apply Exists.intro; refine ⟨fun _ => ?_, hK _ ?_⟩; (first | fail); clear hK K)
          refine qw_take (by kernel_rfl) (fun K hK => ?_); go_simp; first | (refine hK _ ?_; clear hK K) | (apply Exists.intro; refine ⟨fun _ => ?_, hK _ ?_⟩; (first | fail); clear hK K)
          refine qw_take (by kernel_rfl) (fun K hK => ?_); go_simp; first | (refine hK _ ?_; clear hK K) | (apply Exists.intro; refine ⟨fun _ => ?_, hK _ ?_⟩; (first | fail); clear hK K)
          refine qw_nil ?_
          intro _ hw'
          obtain ⟨⟨dq, osq⟩, hw''⟩ := hw'
          subst hw''
          have d1 := q1 dq osq
          have d2 := q2 dq osq
          have c0 := q3 dq osq
          have c1 := q4 dq osq
          have hbr := below_regrown wr dq osq
          clear q1 q2 q3 q4
          obtain ⟨w3, hwv⟩ : ∃ w, Sort.grow (redrawn wr dq) osq = w := ⟨_, rfl⟩
          rw [hwv] at d1 d2 c0 c1 hbr ⊢
          clear hwv
          have HO := Lib.hid (owns_below hO.out hbr)
          have HB := Lib.hid (below_keep hB.out hbr hB.out.size)
          clear hbr hO hB hl2
          by_cases hye : ys = s
          · have he2 := str_same hye
            have HNX : Hid (addA (s, n) l (k + 1) = (out ++ [(s, yn + n)], true)) := by
              show _ = _
              rw [HST.out]
              have e := HLS.out
              rw [hye] at e
              simp [stA, hye, e]
            clear hye
            have q1 := fun d os => cell_regrown d1 d os
            have q2 := fun d os => cell_regrown d2 d os
            have q3 := fun d os => cell_regrown c0 d os
            have q4 := fun d os => cell_regrown c1 d os
            go_wp2_with fail
            clear d1 d2 c0 c1
            refine wp_region_qw (by kernel_rfl) (by kernel_rfl) ?_
            refine qw_take (by kernel_rfl) (fun K hK => ?_); go_simp; first | (refine hK _ ?_; clear hK K) | (apply Exists.intro; refine ⟨fun _ => ?_, hK _ ?_⟩; (first | fail); clear hK K)
            refine qw_take (by kernel_rfl) (fun K hK => ?_); go_simp; first | (refine hK _ ?_; clear hK K) | (apply Exists.intro; refine ⟨fun _ => ?_, hK _ ?_⟩; (first | fail); clear hK K)
            refine qw_take (by kernel_rfl) (fun K hK => ?_); go_simp; first | (refine hK _ ?_; clear hK K) | (apply Exists.intro; refine ⟨fun _ => ?_, hK _ ?_⟩; (first | fail); clear hK K)
            refine qw_take (by kernel_rfl) (fun K hK => ?_); go_simp; first | (refine hK _ ?_; clear hK K) | (apply Exists.intro; refine ⟨fun _ => ?_, hK _ ?_⟩; (first | fail); clear hK K)
            refine qw_take (by kernel_rfl) (fun K hK => ?_); go_simp; first | (refine hK _ ?_; clear hK K) | (apply Exists.intro; refine ⟨fun _ => ?_, hK _ ?_⟩; (first | fail); clear hK K)
            refine qw_take (by kernel_rfl) (fun K hK => ?_); go_simp; first | (refine hK _ ?_; clear hK K) | (apply Exists.intro; refine ⟨fun _ => ?_, hK _ ?_⟩; (first | fail); clear hK K)
            refine qw_take (by kernel_rfl) (fun K hK => ?_); go_simp; first | (refine hK _ ?_; clear hK K) | (apply Exists.intro; refine ⟨fun _ => ?_, hK _ ?_⟩; (first | fail); clear hK K)
            refine qw_take (by kernel_rfl) (fun K hK => ?_); go_simp; first | (refine hK _ ?_; clear hK K) | (apply Exists.intro; refine ⟨fun _ => ?_, hK _ ?_⟩; (first | fail); clear hK K)
            refine qw_nil ?_
            intro _ hw'
            obtain ⟨⟨dq, osq⟩, hw''⟩ := hw'
            subst hw''
            have d1 := q1 dq osq
            have d2 := q2 dq osq
            have c0 := q3 dq osq
            have c1 := q4 dq osq
            have hbr := below_regrown w3 dq osq
            clear q1 q2 q3 q4
            obtain ⟨w5, hwv⟩ : ∃ w, Sort.grow (redrawn w3 dq) osq = w := ⟨_, rfl⟩
            rw [hwv] at d1 d2 c0 c1 hbr ⊢
            clear hwv
            have HO5 := Lib.hid (owns_below HO.out hbr)
            have HB5 := Lib.hid (below_keep HB.out hbr HB.out.size)
            have hsz5 : W1.heap.size ≤ w5.heap.size := HB5.out.size
            clear hbr HO HB
            have c0 : w5.drew.cell? ⟨w.heap.size, 0, none⟩ = some (.string s) := c0
            have c1 : w5.drew.cell? ⟨w.heap.size, 1, none⟩ = some (.int .i64 n) := c1
            have d2 : w5.drew.cell? ⟨b1, o1 + k * 2 + 1, none⟩ = some (.int .i64 yn) := d2
            go_wp2_with fail
            refine Mix.wp_region_mix [0] [1, 2, 3, 4, 5, 6, 7, 8, 9, 10, 11] [12, 13, 14] 12 (by kernel_rfl) (by kernel_rfl) (fun _ _ d _ _ h => by cases d <;> exact h) ?_
            simp only [Mix.pick, List.filterMap_cons, List.filterMap_nil, List.getElem?_cons_zero, List.getElem?_cons_succ]
            repeat (refine Mix.wpFree_step ?_ (by rfl) ?_ ?_; rotate_left; focus ((intro w'); go_simp; (try with_reducible rfl)))
            refine Mix.wpFree_nil ?_
            repeat still_step
            refine wpStill_nil ?_
            clear c0 c1 d2 d1
            have HO6 := Lib.hid (owns_drew HO5.out)
            have HB6 := Lib.hid (below_drewN HB5.out 1)
            have hsz6 : W1.heap.size ≤ w5.drew.heap.size := hsz5
            obtain ⟨w6, hw6⟩ : ∃ w6, w5.drew = w6 := ⟨_, rfl⟩
            have HB6 : Hid (Below W1.heap.size W1 w6) := by show Below _ _ _; rw [← hw6]; exact HB6.out
            rw [hw6] at HO6 hsz6 ⊢
            clear hw6 HO5 HB5 hsz5
            refine wpList_plain rfl fun K hK => ?_
            go_simp
            refine hK _ _ ?_
            clear hK K
            refine append_line rfl (.tmp 38) (.tmp 50) rfl W1.heap.size w6 _ rfl s (yn + n) _ L (out) rfl HO6.out rfl (by omega) hsz6 ?_
            intro v' w7 hown7 hgrow7
            have HO7 : Hid (w7.ownsRow W1.heap.size 30 2 v' (addA (s, n) l (k + 1)).1.length (lcells (addA (s, n) l (k + 1)).1)) := by
              show w7.ownsRow _ _ _ _ _ _
              rw [HNX.out, List.length_append, HLO.out]
              first | exact hown7 | (dsimp only; rw [List.append_assoc]; exact hown7)
            have HB7 := Lib.hid (below_append HB6.out HB6.out.size HO6.out hgrow7)
            clear hown7 hgrow7
            go_wp2_with fail
            go_roundw
            case rel => exact ⟨k + 1, by omega, by go_num, by rw [HNX.out], HO7, HB7⟩
            case measure => simp [intOf]; omega
          · have he2 := str_other hye
            have HNX : Hid (addA (s, n) l (k + 1) = (out ++ [(ys, yn)], false)) := by show _ = _; rw [HST.out]; simp [stA, hye, HLS.out]
            clear hye
            have q1 := fun d os => cell_regrown d1 d os
            have q2 := fun d os => cell_regrown d2 d os
            have q3 := fun d os => cell_regrown c0 d os
            have q4 := fun d os => cell_regrown c1 d os
            go_wp2_with fail
            clear d1 d2 c0 c1
            refine wp_region_qw (by kernel_rfl) (by kernel_rfl) ?_
            refine qw_take (by kernel_rfl) (fun K hK => ?_); go_simp; first | (refine hK _ ?_; clear hK K) | (apply Exists.intro; refine ⟨fun _ => ?_, hK _ ?_⟩; (first | fail); clear hK K)
            refine qw_take (by kernel_rfl) (fun K hK => ?_); go_simp; first | (refine hK _ ?_; clear hK K) | (apply Exists.intro; refine ⟨fun _ => ?_, hK _ ?_⟩; (first | fail); clear hK K)
            refine qw_take (by kernel_rfl) (fun K hK => ?_); go_simp; first | (refine hK _ ?_; clear hK K) | (apply Exists.intro; refine ⟨fun _ => ?_, hK _ ?_⟩; (first | fail); clear hK K)
            refine qw_take (by kernel_rfl) (fun K hK => ?_); go_simp; first | (refine hK _ ?_; clear hK K) | (apply Exists.intro; refine ⟨fun _ => ?_, hK _ ?_⟩; (first | fail); clear hK K)
            refine qw_take (by kernel_rfl) (fun K hK => ?_); go_simp; first | (refine hK _ ?_; clear hK K) | (apply Exists.intro; refine ⟨fun _ => ?_, hK _ ?_⟩; (first | fail); clear hK K)
            refine qw_take (by kernel_rfl) (fun K hK => ?_); go_simp; first | (refine hK _ ?_; clear hK K) | (apply Exists.intro; refine ⟨fun _ => ?_, hK _ ?_⟩; (first | fail); clear hK K)
            refine qw_take (by kernel_rfl) (fun K hK => ?_); go_simp; first | (refine hK _ ?_; clear hK K) | (apply Exists.intro; refine ⟨fun _ => ?_, hK _ ?_⟩; (first | fail); clear hK K)
            refine qw_take (by kernel_rfl) (fun K hK => ?_); go_simp; first | (refine hK _ ?_; clear hK K) | (apply Exists.intro; refine ⟨fun _ => ?_, hK _ ?_⟩; (first | fail); clear hK K)
            refine qw_nil ?_
            intro _ hw'
            obtain ⟨⟨dq, osq⟩, hw''⟩ := hw'
            subst hw''
            have d1 := q1 dq osq
            have d2 := q2 dq osq
            have c0 := q3 dq osq
            have c1 := q4 dq osq
            have hbr := below_regrown w3 dq osq
            clear q1 q2 q3 q4
            obtain ⟨w5, hwv⟩ : ∃ w, Sort.grow (redrawn w3 dq) osq = w := ⟨_, rfl⟩
            rw [hwv] at d1 d2 c0 c1 hbr ⊢
            clear hwv
            have HO5 := Lib.hid (owns_below HO.out hbr)
            have HB5 := Lib.hid (below_keep HB.out hbr HB.out.size)
            have hsz5 : W1.heap.size ≤ w5.heap.size := HB5.out.size
            clear hbr HO HB
            go_wp2_with (first
              | (at_builtin; refine append_line rfl (.tmp 52) (.tmp 57) rfl W1.heap.size w5 _ rfl ys yn _ L (out) rfl HO5.out rfl (by omega) hsz5 ?_)
              | fail)
            intro v' w7 hown7 hgrow7
            have HO7 : Hid (w7.ownsRow W1.heap.size 30 2 v' (addA (s, n) l (k + 1)).1.length (lcells (addA (s, n) l (k + 1)).1)) := by
              show w7.ownsRow _ _ _ _ _ _
              rw [HNX.out, List.length_append, HLO.out]
              first | exact hown7 | (dsimp only; rw [List.append_assoc]; exact hown7)
            have HB7 := Lib.hid (below_append HB5.out HB5.out.size HO5.out hgrow7)
            clear hown7 hgrow7 d1 d2 c0 c1
            go_wp2_with fail
            go_roundw
            case rel => exact ⟨k + 1, by omega, by go_num, by rw [HNX.out], HO7, HB7⟩
            case measure => simp [intOf]; omega
    · obtain rfl : k = len := by omega
      have hend := HE.out
      rw [HX.out.1] at hend
      obtain ⟨st, hst⟩ : ∃ st, addA (s, n) l k = st := ⟨_, rfl⟩
      rw [hst] at hend hO hal ⊢
      obtain ⟨out, dn⟩ := st
      simp only at hO hal ⊢
      cases dn with
      | true =>
        have HM : Hid (out = m) := hend
        obtain ⟨L, hL⟩ : ∃ L, out.length = L := ⟨_, rfl⟩
        rw [hL] at hO hal
        obtain ⟨ra, rcap, rfl, hat⟩ := ls_of hO.out hL (by omega)
        have HAT := Lib.hid hat
        have HLN := Lib.hid hL
        have HBZ := Lib.hid (below_keep HB1.out hB.out HB1.out.size)
        clear hat hL hO hend hst c0 c1
        go_wp2_with fail
        go_ret
        exact add_out HM.out HLN.out HAT.out HBZ.out
      | false =>
        have HM : Hid (out ++ [(s, n)] = m) := hend
        obtain ⟨L, hL⟩ : ∃ L, out.length = L := ⟨_, rfl⟩
        rw [hL] at hO hal
        have HLN : Hid ((out ++ [(s, n)]).length = L + 1) := by show _ = _; rw [List.length_append, hL]; rfl
        have hsz5 : W1.heap.size ≤ wr.heap.size := hB.out.size
        clear hL hend hst
        go_wp2_with (first
          | (at_builtin; refine append_line rfl (.tmp 61) (.tmp 63) rfl W1.heap.size wr _ rfl s n _ L out rfl hO.out rfl (by omega) hsz5 ?_)
          | fail)
        intro v' w6 hown6 hgrow6
        have hb6 := below_append hB.out hB.out.size hO.out hgrow6
        obtain ⟨ra, rcap, rfl, hat⟩ := ls_of hown6 HLN.out (by omega)
        have HAT := Lib.hid hat
        have HBZ := Lib.hid (below_keep HB1.out hb6 HB1.out.size)
        clear hat hown6 hgrow6 hb6 hO c0 c1
        go_wp2_with fail
        go_ret
        exact add_out HM.out HLN.out HAT.out HBZ.out
end Go.Proofs.YtpaemofjeadhcaaDoor.Lines
