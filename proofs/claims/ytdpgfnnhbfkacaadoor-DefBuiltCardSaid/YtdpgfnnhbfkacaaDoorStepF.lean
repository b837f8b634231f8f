/-
  What the program's Read shares: the library's variables, the parts of a text, what stands while it reads, a store into one cell of its step.
-/
import Derived.Test.YtdpgfnnhbfkacaaDoorStepE
set_option linter.unusedVariables false
set_option linter.unusedSimpArgs false
set_option maxRecDepth 4000
set_option maxRecDepth 4000
namespace Go.Proofs.YtdpgfnnhbfkacaaDoor.Step
open Go.RowKit StP
open Go.Proofs.YtdpgfnnhbfkacaaDoor.Kt

def Vars (w : World) : Prop := ∃ m, w.cell? ⟨0, 0, none⟩ = some (.int .i64 m)
theorem Vars.keep {w w' : World} (h : Vars w) (hb : Below w.heap.size w w') : Vars w' := by
  obtain ⟨m, hm⟩ := h
  refine ⟨m, ?_⟩
  exact (hb.cell (World.block_lt_of_cell? _ _ hm)).trans hm
/-- The parts that SplitN tells. -/
def prt (s : ByteArray) : List ByteArray := Lib.splitB ⟨#[47]⟩ 0 (min 7 (s.size + 1) - 1) s
theorem size_list (s : ByteArray) : s.size = s.data.toList.length := Array.length_toList.symm
theorem prt_data (s : ByteArray) : (prt s).map (·.data.toList) = partsF 47 (min 7 (s.data.toList.length + 1) - 1) s.data.toList := by
  unfold prt
  rw [Lib.splitB_data, show (⟨#[47]⟩ : ByteArray).data.toList = [47] from rfl, splitK_parts, size_list]
theorem prt_len (s : ByteArray) : (prt s).length ≤ 7 := by
  have := Lib.splitB_length_le ⟨#[47]⟩ 0 (min 7 (s.size + 1) - 1) s
  unfold prt; omega
theorem prt_size (s : ByteArray) : ∀ x ∈ prt s, x.size ≤ s.size := by
  intro x hx
  rw [size_list, size_list]
  refine partsF_small 47 (min 7 (s.data.toList.length + 1) - 1) _ _ ?_
  rw [← prt_data]; exact List.mem_map.2 ⟨x, hx, rfl⟩
theorem prt_read (s : ByteArray) : readQ ((prt s).map (·.data.toList)) = readS s.data.toList := by
  rw [prt_data]; exact read_few _ _ rfl
/-- Texts in a block. -/
def PaAt (w : World) (h : Nat) (P : List ByteArray) : Prop := h < w.heap.size ∧ ∀ i x, P[i]? = some x → w.cell? ⟨h, i, none⟩ = some (.string x)
theorem PaAt.keep {w w' : World} {h : Nat} {P : List ByteArray} (p : PaAt w h P) (hb : Below w.heap.size w w') : PaAt w' h P :=
  ⟨by have := p.1; have := hb.size; omega, fun i x hx => (hb.cell (p := ⟨h, i, none⟩) p.1).trans (p.2 i x hx)⟩
theorem PaAt.keepH {w w' : World} {h : Nat} {P : List ByteArray} (p : PaAt w h P) (hs : w.heap.size ≤ w'.heap.size) (hb : w'.heap[h]? = w.heap[h]?) : PaAt w' h P :=
  ⟨by have := p.1; omega, fun i x hx => (World.cell?_of_block (a := ⟨h, i, none⟩) hb).trans (p.2 i x hx)⟩
def SplitR (s : ByteArray) (w : World) (e : Ending) (w' : World) : Prop := ∃ cap, e = .returned (.slice (some ⟨w.heap.size, 0, none⟩) (prt s).length cap) ∧ PaAt w' w.heap.size (prt s) ∧ Below w.heap.size w w'
theorem split_call (s : ByteArray) (w : World) (hs : s.size ≤ 300) (hv : Vars w) :
    Calls Tryd.prog 45 #[.string s, .string ⟨#[47]⟩, .int .i64 7] w (SplitR s w) := by
  obtain ⟨m, hm⟩ := hv
  refine (Tryd.strings_SplitN s ⟨#[47]⟩ 7 m w (by omega) hm (by decide) (by omega) (by omega)).mono ?_
  rintro e w' ⟨he, hw⟩
  refine ⟨min 7 (s.size + 1), he, ⟨by rw [hw]; simp, fun i x hx => ?_⟩, by rw [hw]; exact (Below.refl _ _).alloc (Nat.le_refl _) _⟩
  rw [hw]
  have hi : i < (prt s).length := by
    rcases Nat.lt_or_ge i (prt s).length with h | h
    · exact h
    · rw [List.getElem?_eq_none h] at hx; cases hx
  rw [World.cell?_alloc_at _ _ _ _ rfl]
  unfold Lib.cellsOf
  rw [List.getElem?_toArray, List.getElem?_append_left (by rw [List.length_map]; exact hi), List.getElem?_map]
  rw [show (Lib.splitB ⟨#[47]⟩ 0 (min 7 (s.size + 1) - 1) s)[i]? = some x from hx]
  rfl
/-- What stands while Read reads: its result's cell and its step in two blocks, the pointers, the parts. -/
structure RS (w W : World) (g h : Nat) (P : List ByteArray) (v0 v1 v2 v3 v4 v5 : Value) : Prop where
  bel : Below w.heap.size w W
  res : At6 29 W w.heap.size (.int .i64 0) (.int .i64 0) (.int .i64 0) (.int .i64 0) (.int .i64 0) (.int .i64 0)
  box : At6 29 W (w.heap.size + 1) v0 v1 v2 v3 v4 v5
  ptr : PtrsAt W g (w.heap.size + 1)
  prt : PaAt W h P
  gne : w.heap.size + 2 ≤ g
  hne : w.heap.size + 2 ≤ h
theorem RS.keep {w W W' : World} {g h : Nat} {P : List ByteArray} {v0 v1 v2 v3 v4 v5 : Value} (r : RS w W g h P v0 v1 v2 v3 v4 v5) (hb : Below W.heap.size W W') : RS w W' g h P v0 v1 v2 v3 v4 v5 :=
  ⟨below_keep r.bel hb r.bel.size, r.res.keep hb, r.box.keep hb, r.ptr.keep hb, r.prt.keep hb, r.gne, r.hne⟩

theorem RS.set0 {w W : World} {g h : Nat} {P : List ByteArray} {v0 v1 v2 v3 v4 v5 : Value} (r : RS w W g h P v0 v1 v2 v3 v4 v5) (u : Value) : RS w (W.setCell ⟨w.heap.size + 1, 0, none⟩ u) g h P u v1 v2 v3 v4 v5 := by
  have hs : (W.setCell ⟨w.heap.size + 1, 0, none⟩ u).heap.size = W.heap.size := by simp
  have ho : ∀ k, k ≠ w.heap.size + 1 → (W.setCell ⟨w.heap.size + 1, 0, none⟩ u).heap[k]? = W.heap[k]? := fun k hk => heap_setCell_other _ _ _ _ (by exact hk)
  have hg := r.gne
  have hh := r.hne
  refine ⟨r.bel.setCell (p := ⟨w.heap.size + 1, 0, none⟩) (Nat.le_succ _) _, (ho _ (by omega)).trans r.res, ?_, (ho _ (by omega)).trans r.ptr, r.prt.keepH (Nat.le_of_eq hs.symm) (ho _ (by omega)), r.gne, r.hne⟩
  have h1 := Lib.heap_setCell_same (i := 0) r.box u
  unfold At6
  rw [h1]
  rfl

theorem RS.set1 {w W : World} {g h : Nat} {P : List ByteArray} {v0 v1 v2 v3 v4 v5 : Value} (r : RS w W g h P v0 v1 v2 v3 v4 v5) (u : Value) : RS w (W.setCell ⟨w.heap.size + 1, 1, none⟩ u) g h P v0 u v2 v3 v4 v5 := by
  have hs : (W.setCell ⟨w.heap.size + 1, 1, none⟩ u).heap.size = W.heap.size := by simp
  have ho : ∀ k, k ≠ w.heap.size + 1 → (W.setCell ⟨w.heap.size + 1, 1, none⟩ u).heap[k]? = W.heap[k]? := fun k hk => heap_setCell_other _ _ _ _ (by exact hk)
  have hg := r.gne
  have hh := r.hne
  refine ⟨r.bel.setCell (p := ⟨w.heap.size + 1, 1, none⟩) (Nat.le_succ _) _, (ho _ (by omega)).trans r.res, ?_, (ho _ (by omega)).trans r.ptr, r.prt.keepH (Nat.le_of_eq hs.symm) (ho _ (by omega)), r.gne, r.hne⟩
  have h1 := Lib.heap_setCell_same (i := 1) r.box u
  unfold At6
  rw [h1]
  rfl

theorem RS.set2 {w W : World} {g h : Nat} {P : List ByteArray} {v0 v1 v2 v3 v4 v5 : Value} (r : RS w W g h P v0 v1 v2 v3 v4 v5) (u : Value) : RS w (W.setCell ⟨w.heap.size + 1, 2, none⟩ u) g h P v0 v1 u v3 v4 v5 := by
  have hs : (W.setCell ⟨w.heap.size + 1, 2, none⟩ u).heap.size = W.heap.size := by simp
  have ho : ∀ k, k ≠ w.heap.size + 1 → (W.setCell ⟨w.heap.size + 1, 2, none⟩ u).heap[k]? = W.heap[k]? := fun k hk => heap_setCell_other _ _ _ _ (by exact hk)
  have hg := r.gne
  have hh := r.hne
  refine ⟨r.bel.setCell (p := ⟨w.heap.size + 1, 2, none⟩) (Nat.le_succ _) _, (ho _ (by omega)).trans r.res, ?_, (ho _ (by omega)).trans r.ptr, r.prt.keepH (Nat.le_of_eq hs.symm) (ho _ (by omega)), r.gne, r.hne⟩
  have h1 := Lib.heap_setCell_same (i := 2) r.box u
  unfold At6
  rw [h1]
  rfl

theorem RS.set3 {w W : World} {g h : Nat} {P : List ByteArray} {v0 v1 v2 v3 v4 v5 : Value} (r : RS w W g h P v0 v1 v2 v3 v4 v5) (u : Value) : RS w (W.setCell ⟨w.heap.size + 1, 3, none⟩ u) g h P v0 v1 v2 u v4 v5 := by
  have hs : (W.setCell ⟨w.heap.size + 1, 3, none⟩ u).heap.size = W.heap.size := by simp
  have ho : ∀ k, k ≠ w.heap.size + 1 → (W.setCell ⟨w.heap.size + 1, 3, none⟩ u).heap[k]? = W.heap[k]? := fun k hk => heap_setCell_other _ _ _ _ (by exact hk)
  have hg := r.gne
  have hh := r.hne
  refine ⟨r.bel.setCell (p := ⟨w.heap.size + 1, 3, none⟩) (Nat.le_succ _) _, (ho _ (by omega)).trans r.res, ?_, (ho _ (by omega)).trans r.ptr, r.prt.keepH (Nat.le_of_eq hs.symm) (ho _ (by omega)), r.gne, r.hne⟩
  have h1 := Lib.heap_setCell_same (i := 3) r.box u
  unfold At6
  rw [h1]
  rfl

theorem RS.set4 {w W : World} {g h : Nat} {P : List ByteArray} {v0 v1 v2 v3 v4 v5 : Value} (r : RS w W g h P v0 v1 v2 v3 v4 v5) (u : Value) : RS w (W.setCell ⟨w.heap.size + 1, 4, none⟩ u) g h P v0 v1 v2 v3 u v5 := by
  have hs : (W.setCell ⟨w.heap.size + 1, 4, none⟩ u).heap.size = W.heap.size := by simp
  have ho : ∀ k, k ≠ w.heap.size + 1 → (W.setCell ⟨w.heap.size + 1, 4, none⟩ u).heap[k]? = W.heap[k]? := fun k hk => heap_setCell_other _ _ _ _ (by exact hk)
  have hg := r.gne
  have hh := r.hne
  refine ⟨r.bel.setCell (p := ⟨w.heap.size + 1, 4, none⟩) (Nat.le_succ _) _, (ho _ (by omega)).trans r.res, ?_, (ho _ (by omega)).trans r.ptr, r.prt.keepH (Nat.le_of_eq hs.symm) (ho _ (by omega)), r.gne, r.hne⟩
  have h1 := Lib.heap_setCell_same (i := 4) r.box u
  unfold At6
  rw [h1]
  rfl

theorem RS.set5 {w W : World} {g h : Nat} {P : List ByteArray} {v0 v1 v2 v3 v4 v5 : Value} (r : RS w W g h P v0 v1 v2 v3 v4 v5) (u : Value) : RS w (W.setCell ⟨w.heap.size + 1, 5, none⟩ u) g h P v0 v1 v2 v3 v4 u := by
  have hs : (W.setCell ⟨w.heap.size + 1, 5, none⟩ u).heap.size = W.heap.size := by simp
  have ho : ∀ k, k ≠ w.heap.size + 1 → (W.setCell ⟨w.heap.size + 1, 5, none⟩ u).heap[k]? = W.heap[k]? := fun k hk => heap_setCell_other _ _ _ _ (by exact hk)
  have hg := r.gne
  have hh := r.hne
  refine ⟨r.bel.setCell (p := ⟨w.heap.size + 1, 5, none⟩) (Nat.le_succ _) _, (ho _ (by omega)).trans r.res, ?_, (ho _ (by omega)).trans r.ptr, r.prt.keepH (Nat.le_of_eq hs.symm) (ho _ (by omega)), r.gne, r.hne⟩
  have h1 := Lib.heap_setCell_same (i := 5) r.box u
  unfold At6
  rw [h1]
  rfl

theorem rs_new {w W1 W2 : World} {g : Nat} {P : List ByteArray} (h1 : PtrsAt W1 g (w.heap.size + 1)) (hb1 : Below ((w.alloc (.cells #[.int .i64 0, .int .i64 0, .int .i64 0, .int .i64 0, .int .i64 0, .int .i64 0] 29)).alloc (.cells #[.int .i64 0, .int .i64 0, .int .i64 0, .int .i64 0, .int .i64 0, .int .i64 0] 29)).heap.size ((w.alloc (.cells #[.int .i64 0, .int .i64 0, .int .i64 0, .int .i64 0, .int .i64 0, .int .i64 0] 29)).alloc (.cells #[.int .i64 0, .int .i64 0, .int .i64 0, .int .i64 0, .int .i64 0, .int .i64 0] 29)) W1) (hg : w.heap.size + 2 ≤ g) (hp : PaAt W2 W1.heap.size P) (hb2 : Below W1.heap.size W1 W2) : RS w W2 g W1.heap.size P (.int .i64 0) (.int .i64 0) (.int .i64 0) (.int .i64 0) (.int .i64 0) (.int .i64 0) := by
  have hz : ((w.alloc (.cells #[.int .i64 0, .int .i64 0, .int .i64 0, .int .i64 0, .int .i64 0, .int .i64 0] 29)).alloc (.cells #[.int .i64 0, .int .i64 0, .int .i64 0, .int .i64 0, .int .i64 0, .int .i64 0] 29)).heap.size = w.heap.size + 2 := by simp
  have a0 : At6 29 ((w.alloc (.cells #[.int .i64 0, .int .i64 0, .int .i64 0, .int .i64 0, .int .i64 0, .int .i64 0] 29)).alloc (.cells #[.int .i64 0, .int .i64 0, .int .i64 0, .int .i64 0, .int .i64 0, .int .i64 0] 29)) w.heap.size (.int .i64 0) (.int .i64 0) (.int .i64 0) (.int .i64 0) (.int .i64 0) (.int .i64 0) := (at6_new 29 w _ _ _ _ _ _).alloc _
  have a1 : At6 29 ((w.alloc (.cells #[.int .i64 0, .int .i64 0, .int .i64 0, .int .i64 0, .int .i64 0, .int .i64 0] 29)).alloc (.cells #[.int .i64 0, .int .i64 0, .int .i64 0, .int .i64 0, .int .i64 0, .int .i64 0] 29)) (w.heap.size + 1) (.int .i64 0) (.int .i64 0) (.int .i64 0) (.int .i64 0) (.int .i64 0) (.int .i64 0) := by
    have := at6_new 29 (w.alloc (.cells #[.int .i64 0, .int .i64 0, .int .i64 0, .int .i64 0, .int .i64 0, .int .i64 0] 29)) (.int .i64 0) (.int .i64 0) (.int .i64 0) (.int .i64 0) (.int .i64 0) (.int .i64 0)
    rw [World.size_alloc] at this
    exact this
  have hb0 : Below w.heap.size w ((w.alloc (.cells #[.int .i64 0, .int .i64 0, .int .i64 0, .int .i64 0, .int .i64 0, .int .i64 0] 29)).alloc (.cells #[.int .i64 0, .int .i64 0, .int .i64 0, .int .i64 0, .int .i64 0, .int .i64 0] 29)) := ((Below.refl _ _).alloc (Nat.le_refl _) _).alloc (by simp) _
  have hs := hb1.size
  rw [hz] at hs
  exact ⟨below_keep (below_keep hb0 hb1 hb0.size) hb2 (by omega), (a0.keep hb1).keep hb2, (a1.keep hb1).keep hb2, h1.keep hb2, hp, hg, hs⟩
end Go.Proofs.YtdpgfnnhbfkacaaDoor.Step
