/-
  The contract of the document's Text: any step; what was there stays as it was.
-/
import Derived.Test.YtdpgfnnhbfkacaaGreatDoorPrShelf
import Derived.Test.YtdpgfnnhbfkacaaGreatDoorPrStepC
import Derived.Test.YtdpgfnnhbfkacaaGreatDoorPrRwName
import Derived.Test.YtdpgfnnhbfkacaaGreatDoorPrNumG
import Derived.Lib.ItoaLen
import Derived.BigRegion
set_option linter.unusedVariables false
set_option linter.unusedSimpArgs false
set_option maxRecDepth 4000
set_option maxRecDepth 4000
namespace Go.Proofs.YtdpgfnnhbfkacaaGreatDoor.Step
open Go.RowKit StP
open Go.Proofs.YtdpgfnnhbfkacaaGreatDoor.Kt
theorem rdigits_say (n : Int) (s : ByteArray) (hs : bs (Lib.itoa n) = s) (h0 : 0 ≤ n) (h1 : n ≤ 100) (w : World) : Calls Tryz.prog 95 #[.int .i64 n] w fun e w' => e = .returned (.string s) ∧ Below w.heap.size w w' := by
  have h := Num.rdigits_any n w (by omega) (by omega)
  refine h.mono ?_
  rintro e w' ⟨rfl, hb⟩
  exact ⟨by rw [← hs]; rfl, hb⟩
theorem rop_below (n : Int) (s : ByteArray) (hs : bs (opL n) = s) (w : World) : Calls Tryz.prog 93 #[.int .i64 n] w fun e w' => e = .returned (.string s) ∧ Below w.heap.size w w' := by
  refine (rop_is n s hs w).mono ?_
  rintro e w' ⟨rfl, rfl⟩
  exact ⟨rfl, Below.refl _ _⟩
theorem rcl_below (n : Int) (s : ByteArray) (hs : bs (clL n) = s) (w : World) : Calls Tryz.prog 94 #[.int .i64 n] w fun e w' => e = .returned (.string s) ∧ Below w.heap.size w w' := by
  refine (rcl_is n s hs w).mono ?_
  rintro e w' ⟨rfl, rfl⟩
  exact ⟨rfl, Below.refl _ _⟩
theorem data_append (a b : ByteArray) : (a ++ b).data.toList = a.data.toList ++ b.data.toList := by
  simp [ByteArray.data_append]
theorem bs_size (l : List UInt8) : (bs l).size = l.length := by simp [bs, ByteArray.size]

set_option maxHeartbeats 8000000 in
theorem rtext_any (x0 x1 x2 x3 x4 x5 : Int) (w : World) :
    Calls Tryz.prog 57 #[.agg #[.int .i64 x0, .int .i64 x1, .int .i64 x2, .int .i64 x3, .int .i64 x4, .int .i64 x5]] w fun e w' => e = .returned (.string (bs (textS ⟨x0, x1, x2, x3, x4, x5⟩))) ∧ Below w.heap.size w w' := by
  have hB0 := bx6_new 49 w (.int .i64 x0) (.int .i64 x1) (.int .i64 x2) (.int .i64 x3) (.int .i64 x4) (.int .i64 x5)
  obtain ⟨w0, hw0⟩ : ∃ w0, w.alloc (.cells #[.int .i64 x0, .int .i64 x1, .int .i64 x2, .int .i64 x3, .int .i64 x4, .int .i64 x5] 49) = w0 := ⟨_, rfl⟩
  rw [hw0] at hB0
  have HW := Lib.hid hw0
  have HB0 := Lib.hid hB0
  obtain ⟨d0, d1, d2, d3, d4, d5⟩ := cells6 hB0.box
  obtain ⟨s, hs⟩ : ∃ s, bs (textS ⟨x0, x1, x2, x3, x4, x5⟩) = s := ⟨_, rfl⟩
  rw [hs]
  have HV := Lib.hid hs
  clear hw0 hB0 hs
  cases h1 : fitS ⟨x0, x1, x2, x3, x4, x5⟩ with
  | false =>
    have CV := Lib.hid (rfit_is x0 x1 x2 x3 x4 x5 false h1)
    have HE : Hid ((⟨#[]⟩ : ByteArray) = s) := by show _ = _; rw [← HV.out, text_no h1]; rfl
    clear h1
    go_enter Tryz.func57, Tryz.ntmps57
    go_wp2_with fail
    rw [show w.alloc (.cells #[.int .i64 x0, .int .i64 x1, .int .i64 x2, .int .i64 x3, .int .i64 x4, .int .i64 x5] 49) = w0 from HW.out]
    go_wp2_with fail
    refine (CV.out w0).mono ?_
    rintro e w1 ⟨rfl, hb⟩
    have HB1 := Lib.hid (HB0.out.keep hb)
    clear hb d0 d1 d2 d3 d4 d5
    go_wp2_with fail
    go_ret
    exact ⟨ret_str HE.out, HB1.out.bel⟩
  | true =>
    have CV := Lib.hid (rfit_is x0 x1 x2 x3 x4 x5 true h1)
    have ho := fitS_of h1
    have HL2 : Hid (0 ≤ x2) := by show _ ≤ _; have := ho.tries0; simp only at this; omega
    have HU2 : Hid (x2 ≤ 100) := by show _ ≤ _; have := ho.tries1; simp only at this; omega
    have HL3 : Hid (0 ≤ x3) := by show _ ≤ _; have := ho.base0; simp only at this; omega
    have HU3 : Hid (x3 ≤ 100) := by show _ ≤ _; have := ho.base1; simp only at this; omega
    have HL4 : Hid (0 ≤ x4) := by show _ ≤ _; have := ho.cap0; simp only at this; omega
    have HU4 : Hid (x4 ≤ 100) := by show _ ≤ _; have := ho.cap1; simp only at this; omega
    have HL5 : Hid (0 ≤ x5) := by show _ ≤ _; have := ho.wait0; simp only at this; omega
    have HU5 : Hid (x5 ≤ 100) := by show _ ≤ _; have := ho.wait1; simp only at this; omega
    obtain ⟨D0, hD0⟩ : ∃ D0, bs (opL x0) = D0 := ⟨_, rfl⟩
    obtain ⟨D1, hD1⟩ : ∃ D1, bs (clL x1) = D1 := ⟨_, rfl⟩
    obtain ⟨D2, hD2⟩ : ∃ D2, bs (Lib.itoa x2) = D2 := ⟨_, rfl⟩
    obtain ⟨D3, hD3⟩ : ∃ D3, bs (Lib.itoa x3) = D3 := ⟨_, rfl⟩
    obtain ⟨D4, hD4⟩ : ∃ D4, bs (Lib.itoa x4) = D4 := ⟨_, rfl⟩
    obtain ⟨D5, hD5⟩ : ∃ D5, bs (Lib.itoa x5) = D5 := ⟨_, rfl⟩
    have hZ0 : D0.size ≤ 21 := by rw [← hD0, bs_size, opL_len]; omega
    have hZ1 : D1.size ≤ 21 := by rw [← hD1, bs_size]; have := clL_len x1; omega
    have hZ2 : D2.size ≤ 21 := by rw [← hD2, bs_size]; exact itoa_fit_len HL2.out HU2.out
    have hZ3 : D3.size ≤ 21 := by rw [← hD3, bs_size]; exact itoa_fit_len HL3.out HU3.out
    have hZ4 : D4.size ≤ 21 := by rw [← hD4, bs_size]; exact itoa_fit_len HL4.out HU4.out
    have hZ5 : D5.size ≤ 21 := by rw [← hD5, bs_size]; exact itoa_fit_len HL5.out HU5.out
    have HD0 := Lib.hid hD0
    have HD1 := Lib.hid hD1
    have HD2 := Lib.hid hD2
    have HD3 := Lib.hid hD3
    have HD4 := Lib.hid hD4
    have HD5 := Lib.hid hD5
    have H1 := Lib.hid h1
    clear h1 ho hD0 hD1 hD2 hD3 hD4 hD5
    obtain ⟨T1, hT1⟩ : ∃ T1 : ByteArray, D0 ++ ⟨#[47]⟩ = T1 := ⟨_, rfl⟩
    have sT1 : T1.size = D0.size + 1 := by rw [← hT1, ByteArray.size_append]; first | done | rfl
    have zT1 : ¬ (9223372036854775807 < D0.size + 1) := by omega
    obtain ⟨T2, hT2⟩ : ∃ T2 : ByteArray, T1 ++ D1 = T2 := ⟨_, rfl⟩
    have sT2 : T2.size = T1.size + D1.size := by rw [← hT2, ByteArray.size_append]; first | done | rfl
    have zT2 : ¬ (9223372036854775807 < T1.size + D1.size) := by omega
    obtain ⟨T3, hT3⟩ : ∃ T3 : ByteArray, T2 ++ ⟨#[47]⟩ = T3 := ⟨_, rfl⟩
    have sT3 : T3.size = T2.size + 1 := by rw [← hT3, ByteArray.size_append]; first | done | rfl
    have zT3 : ¬ (9223372036854775807 < T2.size + 1) := by omega
    obtain ⟨T4, hT4⟩ : ∃ T4 : ByteArray, T3 ++ D2 = T4 := ⟨_, rfl⟩
    have sT4 : T4.size = T3.size + D2.size := by rw [← hT4, ByteArray.size_append]; first | done | rfl
    have zT4 : ¬ (9223372036854775807 < T3.size + D2.size) := by omega
    obtain ⟨T5, hT5⟩ : ∃ T5 : ByteArray, T4 ++ ⟨#[47]⟩ = T5 := ⟨_, rfl⟩
    have sT5 : T5.size = T4.size + 1 := by rw [← hT5, ByteArray.size_append]; first | done | rfl
    have zT5 : ¬ (9223372036854775807 < T4.size + 1) := by omega
    obtain ⟨T6, hT6⟩ : ∃ T6 : ByteArray, T5 ++ D3 = T6 := ⟨_, rfl⟩
    have sT6 : T6.size = T5.size + D3.size := by rw [← hT6, ByteArray.size_append]; first | done | rfl
    have zT6 : ¬ (9223372036854775807 < T5.size + D3.size) := by omega
    obtain ⟨T7, hT7⟩ : ∃ T7 : ByteArray, T6 ++ ⟨#[47]⟩ = T7 := ⟨_, rfl⟩
    have sT7 : T7.size = T6.size + 1 := by rw [← hT7, ByteArray.size_append]; first | done | rfl
    have zT7 : ¬ (9223372036854775807 < T6.size + 1) := by omega
    obtain ⟨T8, hT8⟩ : ∃ T8 : ByteArray, T7 ++ D4 = T8 := ⟨_, rfl⟩
    have sT8 : T8.size = T7.size + D4.size := by rw [← hT8, ByteArray.size_append]; first | done | rfl
    have zT8 : ¬ (9223372036854775807 < T7.size + D4.size) := by omega
    obtain ⟨T9, hT9⟩ : ∃ T9 : ByteArray, T8 ++ ⟨#[47]⟩ = T9 := ⟨_, rfl⟩
    have sT9 : T9.size = T8.size + 1 := by rw [← hT9, ByteArray.size_append]; first | done | rfl
    have zT9 : ¬ (9223372036854775807 < T8.size + 1) := by omega
    obtain ⟨T10, hT10⟩ : ∃ T10 : ByteArray, T9 ++ D5 = T10 := ⟨_, rfl⟩
    have sT10 : T10.size = T9.size + D5.size := by rw [← hT10, ByteArray.size_append]; first | done | rfl
    have zT10 : ¬ (9223372036854775807 < T9.size + D5.size) := by omega
    have HE : Hid (T10 = s) := by
      show _ = _
      rw [← HV.out]
      apply str_eq
      rw [← hT10, data_append, ← hT9, data_append, ← hT8, data_append, ← hT7, data_append, ← hT6, data_append, ← hT5, data_append, ← hT4, data_append, ← hT3, data_append, ← hT2, data_append, ← hT1, data_append, ← HD0.out, ← HD1.out, ← HD2.out, ← HD3.out, ← HD4.out, ← HD5.out]
      show _ = textS _
      unfold textS
      rw [if_pos H1.out]
      unfold partsS
      simp only [join_cons2, Lib.join_one]
      simp [bs]
    clear sT1 sT2 sT3 sT4 sT5 sT6 sT7 sT8 sT9 sT10 hZ0 hZ1 hZ2 hZ3 hZ4 hZ5
    go_enter Tryz.func57, Tryz.ntmps57
    go_wp2_with fail
    rw [show w.alloc (.cells #[.int .i64 x0, .int .i64 x1, .int .i64 x2, .int .i64 x3, .int .i64 x4, .int .i64 x5] 49) = w0 from HW.out]
    go_wp2_with fail
    refine (CV.out w0).mono ?_
    rintro e w1 ⟨rfl, hb⟩
    have HB1 := Lib.hid (HB0.out.keep hb)
    clear hb d0 d1 d2 d3 d4 d5
    have C0 := Lib.hid (fun d os => Calls.regrown_of (rop_below x0 D0 HD0.out (Sort.grow (redrawn w1 d) os)))
    have C1 := Lib.hid (fun d os => Calls.regrown_of (rcl_below x1 D1 HD1.out (Sort.grow (redrawn w1 d) os)))
    have C2 := Lib.hid (fun d os => Calls.regrown_of (rdigits_say x2 D2 HD2.out HL2.out HU2.out (Sort.grow (redrawn w1 d) os)))
    have C3 := Lib.hid (fun d os => Calls.regrown_of (rdigits_say x3 D3 HD3.out HL3.out HU3.out (Sort.grow (redrawn w1 d) os)))
    have C4 := Lib.hid (fun d os => Calls.regrown_of (rdigits_say x4 D4 HD4.out HL4.out HU4.out (Sort.grow (redrawn w1 d) os)))
    have C5 := Lib.hid (fun d os => Calls.regrown_of (rdigits_say x5 D5 HD5.out HL5.out HU5.out (Sort.grow (redrawn w1 d) os)))
    obtain ⟨e0, e1, e2, e3, e4, e5⟩ := cells6 HB1.out.box
    have r0 := fun d os => cell_regrown e0 d os
    have r1 := fun d os => cell_regrown e1 d os
    have r2 := fun d os => cell_regrown e2 d os
    have r3 := fun d os => cell_regrown e3 d os
    have r4 := fun d os => cell_regrown e4 d os
    have r5 := fun d os => cell_regrown e5 d os
    clear e0 e1 e2 e3 e4 e5
    go_wp2_with fail
    refine wp_region_qw (by kernel_rfl) (by kernel_rfl) ?_
    iterate 29 (refine qw_take (by kernel_rfl) (fun K hK => ?_); go_simp; first | (refine hK _ ?_; clear hK K) | (apply Exists.intro; refine ⟨fun _ => ?_, hK _ ?_⟩; (first | with_reducible exact C0.out _ _ | with_reducible exact C1.out _ _ | with_reducible exact C2.out _ _ | with_reducible exact C3.out _ _ | with_reducible exact C4.out _ _ | with_reducible exact C5.out _ _); clear hK K))
    refine qw_nil ?_
    intro _ hw'
    obtain ⟨⟨dq, osq⟩, hw''⟩ := hw'
    subst hw''
    have HBL := Lib.hid (HB1.out.keep (below_regrown w1 dq osq))
    clear r0 r1 r2 r3 r4 r5 C0 C1 C2 C3 C4 C5 HB1
    generalize Sort.grow (redrawn w1 dq) osq = wl at *
    go_wp2_with fail
    go_ret
    exact ⟨ret_str HE.out, HBL.out.bel⟩
end Go.Proofs.YtdpgfnnhbfkacaaGreatDoor.Step

/-
  What the program's Read shares: the library's variables, the parts of a text, what stands while it reads, a store into one cell of its step.
-/
set_option linter.unusedVariables false
set_option linter.unusedSimpArgs false
set_option maxRecDepth 4000
set_option maxRecDepth 4000
namespace Go.Proofs.YtdpgfnnhbfkacaaGreatDoor.Step
open Go.RowKit StP
open Go.Proofs.YtdpgfnnhbfkacaaGreatDoor.Kt
def Vars (w : World) : Prop := ∃ m, w.cell? ⟨0, 0, none⟩ = some (.int .i64 m)
theorem Vars.keep {w w' : World} (h : Vars w) (hb : Below w.heap.size w w') : Vars w' := by
  obtain ⟨m, hm⟩ := h
  refine ⟨m, ?_⟩
  exact (hb.cell (World.block_lt_of_cell? _ _ hm)).trans hm
def prt (s : ByteArray) : List ByteArray := Lib.splitB ⟨#[47]⟩ 0 (min 7 (s.size + 1) - 1) s
theorem size_list (s : ByteArray) : s.size = s.data.toList.length := Array.length_toList.symm
theorem prt_data (s : ByteArray) : (prt s).map (·.data.toList) = partsF 47 (min 7 (s.data.toList.length + 1) - 1) s.data.toList := by
  unfold prt
  rw [Lib.splitB_data, show (⟨#[47]⟩ : ByteArray).data.toList = [47] from rfl, splitK_parts, size_list]
theorem prt_len (s : ByteArray) : (prt s).length ≤ 7 := by
  have := Lib.splitB_length_le ⟨#[47]⟩ 0 (min 7 (s.size + 1) - 1) s
  unfold prt; omega
theorem prt_size (s : ByteArray) : ∀ x ∈ prt s, x.size ≤ s.size := by
  intro x hx
  rw [size_list, size_list]
  refine partsF_small 47 (min 7 (s.data.toList.length + 1) - 1) _ _ ?_
  rw [← prt_data]; exact List.mem_map.2 ⟨x, hx, rfl⟩
theorem prt_read (s : ByteArray) : readQ ((prt s).map (·.data.toList)) = readS s.data.toList := by
  rw [prt_data]; exact read_few _ _ rfl
def PaAt (w : World) (h : Nat) (P : List ByteArray) : Prop := h < w.heap.size ∧ ∀ i x, P[i]? = some x → w.cell? ⟨h, i, none⟩ = some (.string x)
theorem PaAt.keep {w w' : World} {h : Nat} {P : List ByteArray} (p : PaAt w h P) (hb : Below w.heap.size w w') : PaAt w' h P :=
  ⟨by have := p.1; have := hb.size; omega, fun i x hx => (hb.cell (p := ⟨h, i, none⟩) p.1).trans (p.2 i x hx)⟩
theorem PaAt.keepH {w w' : World} {h : Nat} {P : List ByteArray} (p : PaAt w h P) (hs : w.heap.size ≤ w'.heap.size) (hb : w'.heap[h]? = w.heap[h]?) : PaAt w' h P :=
  ⟨by have := p.1; omega, fun i x hx => (World.cell?_of_block (a := ⟨h, i, none⟩) hb).trans (p.2 i x hx)⟩
def SplitR (s : ByteArray) (w : World) (e : Ending) (w' : World) : Prop := ∃ cap, e = .returned (.slice (some ⟨w.heap.size, 0, none⟩) (prt s).length cap) ∧ PaAt w' w.heap.size (prt s) ∧ Below w.heap.size w w'
theorem split_call (s : ByteArray) (w : World) (hs : s.size ≤ 300) (hv : Vars w) :
    Calls Tryz.prog 68 #[.string s, .string ⟨#[47]⟩, .int .i64 7] w (SplitR s w) := by
  obtain ⟨m, hm⟩ := hv
  refine (Tryz.strings_SplitN s ⟨#[47]⟩ 7 m w (by omega) hm (by decide) (by omega) (by omega)).mono ?_
  rintro e w' ⟨he, hw⟩
  refine ⟨min 7 (s.size + 1), he, ⟨by rw [hw]; simp, fun i x hx => ?_⟩, by rw [hw]; exact (Below.refl _ _).alloc (Nat.le_refl _) _⟩
  rw [hw]
  have hi : i < (prt s).length := by
    rcases Nat.lt_or_ge i (prt s).length with h | h
    · exact h
    · rw [List.getElem?_eq_none h] at hx; cases hx
  rw [World.cell?_alloc_at _ _ _ _ rfl]
  unfold Lib.cellsOf
  rw [List.getElem?_toArray, List.getElem?_append_left (by rw [List.length_map]; exact hi), List.getElem?_map]
  rw [show (Lib.splitB ⟨#[47]⟩ 0 (min 7 (s.size + 1) - 1) s)[i]? = some x from hx]
  rfl
structure RS (w W : World) (g h : Nat) (P : List ByteArray) (v0 v1 v2 v3 v4 v5 : Value) : Prop where
  bel : Below w.heap.size w W
  res : At6 49 W w.heap.size (.int .i64 0) (.int .i64 0) (.int .i64 0) (.int .i64 0) (.int .i64 0) (.int .i64 0)
  box : At6 49 W (w.heap.size + 1) v0 v1 v2 v3 v4 v5
  ptr : PtrsAt W g (w.heap.size + 1)
  prt : PaAt W h P
  gne : w.heap.size + 2 ≤ g
  hne : w.heap.size + 2 ≤ h
theorem RS.keep {w W W' : World} {g h : Nat} {P : List ByteArray} {v0 v1 v2 v3 v4 v5 : Value} (r : RS w W g h P v0 v1 v2 v3 v4 v5) (hb : Below W.heap.size W W') : RS w W' g h P v0 v1 v2 v3 v4 v5 :=
  ⟨below_keep r.bel hb r.bel.size, r.res.keep hb, r.box.keep hb, r.ptr.keep hb, r.prt.keep hb, r.gne, r.hne⟩

theorem RS.set0 {w W : World} {g h : Nat} {P : List ByteArray} {v0 v1 v2 v3 v4 v5 : Value} (r : RS w W g h P v0 v1 v2 v3 v4 v5) (u : Value) : RS w (W.setCell ⟨w.heap.size + 1, 0, none⟩ u) g h P u v1 v2 v3 v4 v5 := by
  have hs : (W.setCell ⟨w.heap.size + 1, 0, none⟩ u).heap.size = W.heap.size := by simp
  have ho : ∀ k, k ≠ w.heap.size + 1 → (W.setCell ⟨w.heap.size + 1, 0, none⟩ u).heap[k]? = W.heap[k]? := fun k hk => heap_setCell_other _ _ _ _ (by exact hk)
  have hg := r.gne
  have hh := r.hne
  refine ⟨r.bel.setCell (p := ⟨w.heap.size + 1, 0, none⟩) (Nat.le_succ _) _, (ho _ (by omega)).trans r.res, ?_, (ho _ (by omega)).trans r.ptr, r.prt.keepH (Nat.le_of_eq hs.symm) (ho _ (by omega)), r.gne, r.hne⟩
  have h1 := Lib.heap_setCell_same (i := 0) r.box u
  unfold At6
  rw [h1]
  rfl

theorem RS.set1 {w W : World} {g h : Nat} {P : List ByteArray} {v0 v1 v2 v3 v4 v5 : Value} (r : RS w W g h P v0 v1 v2 v3 v4 v5) (u : Value) : RS w (W.setCell ⟨w.heap.size + 1, 1, none⟩ u) g h P v0 u v2 v3 v4 v5 := by
  have hs : (W.setCell ⟨w.heap.size + 1, 1, none⟩ u).heap.size = W.heap.size := by simp
  have ho : ∀ k, k ≠ w.heap.size + 1 → (W.setCell ⟨w.heap.size + 1, 1, none⟩ u).heap[k]? = W.heap[k]? := fun k hk => heap_setCell_other _ _ _ _ (by exact hk)
  have hg := r.gne
  have hh := r.hne
  refine ⟨r.bel.setCell (p := ⟨w.heap.size + 1, 1, none⟩) (Nat.le_succ _) _, (ho _ (by omega)).trans r.res, ?_, (ho _ (by omega)).trans r.ptr, r.prt.keepH (Nat.le_of_eq hs.symm) (ho _ (by omega)), r.gne, r.hne⟩
  have h1 := Lib.heap_setCell_same (i := 1) r.box u
  unfold At6
  rw [h1]
  rfl

theorem RS.set2 {w W : World} {g h : Nat} {P : List ByteArray} {v0 v1 v2 v3 v4 v5 : Value} (r : RS w W g h P v0 v1 v2 v3 v4 v5) (u : Value) : RS w (W.setCell ⟨w.heap.size + 1, 2, none⟩ u) g h P v0 v1 u v3 v4 v5 := by
  have hs : (W.setCell ⟨w.heap.size + 1, 2, none⟩ u).heap.size = W.heap.size := by simp
  have ho : ∀ k, k ≠ w.heap.size + 1 → (W.setCell ⟨w.heap.size + 1, 2, none⟩ u).heap[k]? = W.heap[k]? := fun k hk => heap_setCell_other _ _ _ _ (by exact hk)
  have hg := r.gne
  have hh := r.hne
  refine ⟨r.bel.setCell (p := ⟨w.heap.size + 1, 2, none⟩) (Nat.le_succ _) _, (ho _ (by omega)).trans r.res, ?_, (ho _ (by omega)).trans r.ptr, r.prt.keepH (Nat.le_of_eq hs.symm) (ho _ (by omega)), r.gne, r.hne⟩
  have h1 := Lib.heap_setCell_same (i := 2) r.box u
  unfold At6
  rw [h1]
  rfl

theorem RS.set3 {w W : World} {g h : Nat} {P : List ByteArray} {v0 v1 v2 v3 v4 v5 : Value} (r : RS w W g h P v0 v1 v2 v3 v4 v5) (u : Value) : RS w (W.setCell ⟨w.heap.size + 1, 3, none⟩ u) g h P v0 v1 v2 u v4 v5 := by
  have hs : (W.setCell ⟨w.heap.size + 1, 3, none⟩ u).heap.size = W.heap.size := by simp
  have ho : ∀ k, k ≠ w.heap.size + 1 → (W.setCell ⟨w.heap.size + 1, 3, none⟩ u).heap[k]? = W.heap[k]? := fun k hk => heap_setCell_other _ _ _ _ (by exact hk)
  have hg := r.gne
  have hh := r.hne
  refine ⟨r.bel.setCell (p := ⟨w.heap.size + 1, 3, none⟩) (Nat.le_succ _) _, (ho _ (by omega)).trans r.res, ?_, (ho _ (by omega)).trans r.ptr, r.prt.keepH (Nat.le_of_eq hs.symm) (ho _ (by omega)), r.gne, r.hne⟩
  have h1 := Lib.heap_setCell_same (i := 3) r.box u
  unfold At6
  rw [h1]
  rfl

theorem RS.set4 {w W : World} {g h : Nat} {P : List ByteArray} {v0 v1 v2 v3 v4 v5 : Value} (r : RS w W g h P v0 v1 v2 v3 v4 v5) (u : Value) : RS w (W.setCell ⟨w.heap.size + 1, 4, none⟩ u) g h P v0 v1 v2 v3 u v5 := by
  have hs : (W.setCell ⟨w.heap.size + 1, 4, none⟩ u).heap.size = W.heap.size := by simp
  have ho : ∀ k, k ≠ w.heap.size + 1 → (W.setCell ⟨w.heap.size + 1, 4, none⟩ u).heap[k]? = W.heap[k]? := fun k hk => heap_setCell_other _ _ _ _ (by exact hk)
  have hg := r.gne
  have hh := r.hne
  refine ⟨r.bel.setCell (p := ⟨w.heap.size + 1, 4, none⟩) (Nat.le_succ _) _, (ho _ (by omega)).trans r.res, ?_, (ho _ (by omega)).trans r.ptr, r.prt.keepH (Nat.le_of_eq hs.symm) (ho _ (by omega)), r.gne, r.hne⟩
  have h1 := Lib.heap_setCell_same (i := 4) r.box u
  unfold At6
  rw [h1]
  rfl

theorem RS.set5 {w W : World} {g h : Nat} {P : List ByteArray} {v0 v1 v2 v3 v4 v5 : Value} (r : RS w W g h P v0 v1 v2 v3 v4 v5) (u : Value) : RS w (W.setCell ⟨w.heap.size + 1, 5, none⟩ u) g h P v0 v1 v2 v3 v4 u := by
  have hs : (W.setCell ⟨w.heap.size + 1, 5, none⟩ u).heap.size = W.heap.size := by simp
  have ho : ∀ k, k ≠ w.heap.size + 1 → (W.setCell ⟨w.heap.size + 1, 5, none⟩ u).heap[k]? = W.heap[k]? := fun k hk => heap_setCell_other _ _ _ _ (by exact hk)
  have hg := r.gne
  have hh := r.hne
  refine ⟨r.bel.setCell (p := ⟨w.heap.size + 1, 5, none⟩) (Nat.le_succ _) _, (ho _ (by omega)).trans r.res, ?_, (ho _ (by omega)).trans r.ptr, r.prt.keepH (Nat.le_of_eq hs.symm) (ho _ (by omega)), r.gne, r.hne⟩
  have h1 := Lib.heap_setCell_same (i := 5) r.box u
  unfold At6
  rw [h1]
  rfl

theorem rs_new {w W1 W2 : World} {g : Nat} {P : List ByteArray} (h1 : PtrsAt W1 g (w.heap.size + 1)) (hb1 : Below ((w.alloc (.cells #[.int .i64 0, .int .i64 0, .int .i64 0, .int .i64 0, .int .i64 0, .int .i64 0] 49)).alloc (.cells #[.int .i64 0, .int .i64 0, .int .i64 0, .int .i64 0, .int .i64 0, .int .i64 0] 49)).heap.size ((w.alloc (.cells #[.int .i64 0, .int .i64 0, .int .i64 0, .int .i64 0, .int .i64 0, .int .i64 0] 49)).alloc (.cells #[.int .i64 0, .int .i64 0, .int .i64 0, .int .i64 0, .int .i64 0, .int .i64 0] 49)) W1) (hg : w.heap.size + 2 ≤ g) (hp : PaAt W2 W1.heap.size P) (hb2 : Below W1.heap.size W1 W2) : RS w W2 g W1.heap.size P (.int .i64 0) (.int .i64 0) (.int .i64 0) (.int .i64 0) (.int .i64 0) (.int .i64 0) := by
  have hz : ((w.alloc (.cells #[.int .i64 0, .int .i64 0, .int .i64 0, .int .i64 0, .int .i64 0, .int .i64 0] 49)).alloc (.cells #[.int .i64 0, .int .i64 0, .int .i64 0, .int .i64 0, .int .i64 0, .int .i64 0] 49)).heap.size = w.heap.size + 2 := by simp
  have a0 : At6 49 ((w.alloc (.cells #[.int .i64 0, .int .i64 0, .int .i64 0, .int .i64 0, .int .i64 0, .int .i64 0] 49)).alloc (.cells #[.int .i64 0, .int .i64 0, .int .i64 0, .int .i64 0, .int .i64 0, .int .i64 0] 49)) w.heap.size (.int .i64 0) (.int .i64 0) (.int .i64 0) (.int .i64 0) (.int .i64 0) (.int .i64 0) := (at6_new 49 w _ _ _ _ _ _).alloc _
  have a1 : At6 49 ((w.alloc (.cells #[.int .i64 0, .int .i64 0, .int .i64 0, .int .i64 0, .int .i64 0, .int .i64 0] 49)).alloc (.cells #[.int .i64 0, .int .i64 0, .int .i64 0, .int .i64 0, .int .i64 0, .int .i64 0] 49)) (w.heap.size + 1) (.int .i64 0) (.int .i64 0) (.int .i64 0) (.int .i64 0) (.int .i64 0) (.int .i64 0) := by
    have := at6_new 49 (w.alloc (.cells #[.int .i64 0, .int .i64 0, .int .i64 0, .int .i64 0, .int .i64 0, .int .i64 0] 49)) (.int .i64 0) (.int .i64 0) (.int .i64 0) (.int .i64 0) (.int .i64 0) (.int .i64 0)
    rw [World.size_alloc] at this
    exact this
  have hb0 : Below w.heap.size w ((w.alloc (.cells #[.int .i64 0, .int .i64 0, .int .i64 0, .int .i64 0, .int .i64 0, .int .i64 0] 49)).alloc (.cells #[.int .i64 0, .int .i64 0, .int .i64 0, .int .i64 0, .int .i64 0, .int .i64 0] 49)) := ((Below.refl _ _).alloc (Nat.le_refl _) _).alloc (by simp) _
  have hs := hb1.size
  rw [hz] at hs
  exact ⟨below_keep (below_keep hb0 hb1 hb0.size) hb2 (by omega), (a0.keep hb1).keep hb2, (a1.keep hb1).keep hb2, h1.keep hb2, hp, hg, hs⟩
end Go.Proofs.YtdpgfnnhbfkacaaGreatDoor.Step
