/-
  The contract of the program's read.
-/
import Derived.Test.YtigiaiddnbpcmaaSuperJ
import Derived.Test.YtigiaiddnbpcmaaSuperRead
set_option linter.unusedVariables false
set_option maxRecDepth 4000
namespace Go.Proofs.Ytigiaiddnbpcmaa
open Go.RowKit SuperP
open Wire (IntsAt getD_mem take_snoc RdAt RqAt RdStep)
open WireP (rdText rdInt St done)

/-- A list is kept by what changes a reader. -/
theorem ints_step {w w' : World} {a : Option Addr} {len b : Nat} {xs : List Int} {st : St} (h : IntsAt w a len xs) (hr : RdAt w b st) (hg : w.grownBy w' (some b)) : IntsAt w' a len xs := by
  refine ⟨h.1, h.2.1, ?_⟩
  rcases h.2.2 with h0 | ⟨bl, off, rfl, hlt, hc⟩
  · exact .inl h0
  · by_cases h0 : len = 0
    · exact .inl h0
    have hne : bl ≠ b := by
      rintro rfl
      obtain ⟨z, hz, _⟩ := hr
      have := hc 0 (by omega)
      rw [Wire.cell_of_heap hz] at this
      rcases off with _ | _ | off <;> simp at this
    exact .inr ⟨bl, off, rfl, Nat.lt_of_lt_of_le hlt hg.size, fun i hi => hg.cell (hc i hi) (fun e => hne (by simpa using e))⟩
/-- The cells of a superblock that is nothing yet. -/
abbrev zsup : Obj := .cells #[.int .i64 0, .int .i64 0, .int .i64 0, .int .i64 0, .slice none 0 0, .slice none 0 0] 24
/-- What stands while a superblock is read: the reader in block b, the struct with its pointer in block rb; perhaps the new superblock in a block X; the lists that were read. -/
structure Rs (w0 w : World) (B b rb : Nat) (X : Option Nat) (L : List (Option Addr × List Int)) (st : St) : Prop where
  below : Below B w0 w
  le : B ≤ b ∧ b ≠ rb ∧ B ≤ rb
  rd : RdAt w b st
  cel : w.heap[rb]? = some (.cells #[.pointer (some ⟨b, 0, none⟩)] 79 (0, 0))
  new : ∀ k, X = some k → w.heap[k]? = some (.cells #[.int .i64 0, .int .i64 0, .int .i64 0, .int .i64 0, .slice none 0 0, .slice none 0 0] 24 (0, 0)) ∧ k ≠ b ∧ k ≠ rb ∧ B ≤ k
  lists : ∀ t ∈ L, IntsAt w t.1 t.2.length t.2 ∧ (∀ k, X = some k → t.2.length = 0 ∨ ∀ ad, t.1 = some ad → ad.block ≠ k) ∧ ∀ ad, t.1 = some ad → B ≤ ad.block
theorem Rs.cell {w0 w : World} {B b rb : Nat} {X : Option Nat} {L : List (Option Addr × List Int)} {st : St} (h : Rs w0 w B b rb X L st) : w.cell? ⟨rb, 0, none⟩ = some (.pointer (some ⟨b, 0, none⟩)) := by rw [Wire.cell_of_heap h.cel]; rfl
theorem Rs.step {w0 w w' : World} {B b rb : Nat} {X : Option Nat} {L : List (Option Addr × List Int)} {st st' : St} (h : Rs w0 w B b rb X L st) (hs : RdStep w b st' w') : Rs w0 w' B b rb X L st' := by
  have h1 := (Array.getElem?_eq_some_iff.1 h.cel).1
  refine ⟨h.below.trans (Wire.below_of_grown hs.2 h.le.1 h.rd.lt), h.le, hs.1, (hs.2.block rb h1 (fun e => h.le.2.1 (by simpa using e.symm))).trans h.cel, fun k hk => ?_, fun t ht => ⟨ints_step (h.lists t ht).1 h.rd hs.2, (h.lists t ht).2⟩⟩
  obtain ⟨g1, g2, g3, g4⟩ := h.new k hk
  exact ⟨(hs.2.block k (Array.getElem?_eq_some_iff.1 g1).1 (fun e => g2 (by simpa using e))).trans g1, g2, g3, g4⟩
theorem Rs.drew {w0 w : World} {B b rb : Nat} {X : Option Nat} {L : List (Option Addr × List Int)} {st : St} (h : Rs w0 w B b rb X L st) : Rs w0 w.drew B b rb X L st := ⟨h.below.drew, h.le, h.rd, h.cel, h.new, h.lists⟩
theorem Rs.alloc {w0 w : World} {B b rb : Nat} {X : Option Nat} {L : List (Option Addr × List Int)} {st : St} (h : Rs w0 w B b rb X L st) : Rs w0 (w.alloc zsup) B b rb (some w.heap.size) L st := by
  have h1 := (Array.getElem?_eq_some_iff.1 h.cel).1
  have h2 := h.rd.lt
  refine ⟨h.below.alloc (by have := h.le; omega) _, h.le, h.rd.keep (Below.heap_alloc w _ _ h2), (Below.heap_alloc w _ _ h1).trans h.cel, fun k hk => ?_, fun t ht => ⟨(h.lists t ht).1.keep ((Below.refl _ w).alloc (Nat.le_refl _) _), fun k hk => ?_, (h.lists t ht).2.2⟩⟩
  · simp only [Option.some.injEq] at hk
    subst hk
    exact ⟨heap_alloc_new w _, by omega, by omega, by have := h.le; omega⟩
  · simp only [Option.some.injEq] at hk
    subst hk
    rcases (h.lists t ht).1.2.2 with h0 | ⟨bl, off, e, hlt, _⟩
    · exact .inl h0
    · refine .inr fun ad he => ?_
      rw [e] at he
      cases he
      exact Nat.ne_of_lt hlt
theorem Rs.list {w0 w w' : World} {B b rb : Nat} {X : Option Nat} {L : List (Option Addr × List Int)} {st st' : St} {a : Option Addr} {xs : List Int} (h : Rs w0 w B b rb X L st) (hl : IntsAt w' a xs.length xs) (hf : ∀ ad, a = some ad → w.heap.size ≤ ad.block) (hs : RdStep w b st' w') : Rs w0 w' B b rb X ((a, xs) :: L) st' := by
  have h2 := h.step hs
  refine ⟨h2.below, h2.le, h2.rd, h2.cel, h2.new, fun t ht => ?_⟩
  rcases List.mem_cons.1 ht with rfl | ht
  · refine ⟨hl, fun k hk => .inr fun ad he => ?_, fun ad he => ?_⟩
    · have h3 := hf ad he
      have h4 := (Array.getElem?_eq_some_iff.1 (h.new k hk).1).1
      omega
    · have h3 := hf ad he
      have h4 := h.rd.lt
      have := h.le
      omega
  · exact h2.lists t ht
theorem Rs.cells {w0 w : World} {B b rb k : Nat} {L : List (Option Addr × List Int)} {st : St} (h : Rs w0 w B b rb (some k) L st) :
    (w.cell? ⟨k, 0, none⟩ = some (.int .i64 0) ∧ w.cell? ⟨k, 1, none⟩ = some (.int .i64 0) ∧ w.cell? ⟨k, 2, none⟩ = some (.int .i64 0) ∧ w.cell? ⟨k, 3, none⟩ = some (.int .i64 0) ∧ w.cell? ⟨k, 4, none⟩ = some (.slice none 0 0) ∧ w.cell? ⟨k, 5, none⟩ = some (.slice none 0 0)) ∧
    w.frozen? ⟨k, 0, none⟩ = false ∧ w.frozen? ⟨k, 1, none⟩ = false ∧ w.frozen? ⟨k, 2, none⟩ = false ∧ w.frozen? ⟨k, 3, none⟩ = false ∧ w.frozen? ⟨k, 4, none⟩ = false ∧ w.frozen? ⟨k, 5, none⟩ = false := by
  have g := (h.new k rfl).1
  exact ⟨six_cells g, Wire.frozen_of_heap g, Wire.frozen_of_heap g, Wire.frozen_of_heap g, Wire.frozen_of_heap g, Wire.frozen_of_heap g, Wire.frozen_of_heap g⟩
/-- A superblock is stored into the new block. -/
abbrev put6 (w : World) (k : Nat) (v0 v1 v2 v3 v4 v5 : Value) : World :=
  (((((w.setCell ⟨k, 0, none⟩ v0).setCell ⟨k, 1, none⟩ v1).setCell ⟨k, 2, none⟩ v2).setCell ⟨k, 3, none⟩ v3).setCell ⟨k, 4, none⟩ v4).setCell ⟨k, 5, none⟩ v5
theorem heap_put6 {w : World} {k : Nat} {x0 x1 x2 x3 x4 x5 : Value} {ty : TypeId} (h : w.heap[k]? = some (.cells #[x0, x1, x2, x3, x4, x5] ty (0, 0))) (v0 v1 v2 v3 v4 v5 : Value) : (put6 w k v0 v1 v2 v3 v4 v5).heap[k]? = some (.cells #[v0, v1, v2, v3, v4, v5] ty (0, 0)) := by
  have h1 := Lib.heap_setCell_same (i := 0) h v0
  have h2 := Lib.heap_setCell_same (i := 1) h1 v1
  have h3 := Lib.heap_setCell_same (i := 2) h2 v2
  have h4 := Lib.heap_setCell_same (i := 3) h3 v3
  have h5 := Lib.heap_setCell_same (i := 4) h4 v4
  exact Lib.heap_setCell_same (i := 5) h5 v5
theorem put6_other {w : World} {k : Nat} (v0 v1 v2 v3 v4 v5 : Value) {j : Nat} (h : j ≠ k) : (put6 w k v0 v1 v2 v3 v4 v5).heap[j]? = w.heap[j]? := by
  unfold put6
  rw [heap_setCell_other _ _ _ _ (by exact h), heap_setCell_other _ _ _ _ (by exact h), heap_setCell_other _ _ _ _ (by exact h), heap_setCell_other _ _ _ _ (by exact h), heap_setCell_other _ _ _ _ (by exact h), heap_setCell_other _ _ _ _ (by exact h)]
theorem cell_set6 {w0 w : World} {B b rb k : Nat} {L : List (Option Addr × List Int)} {st : St} (h : Rs w0 w B b rb (some k) L st) {v0 v1 v2 v3 v4 v5 : Value} : (put6 w k v0 v1 v2 v3 v4 v5).cell? ⟨rb, 0, none⟩ = w.cell? ⟨rb, 0, none⟩ :=
  World.cell?_of_block (put6_other _ _ _ _ _ _ (fun e => (h.new k rfl).2.2.1 e.symm))
theorem ints_other {w w' : World} {k len : Nat} {a : Option Addr} {xs : List Int} (h : IntsAt w a len xs) (hk : len = 0 ∨ ∀ ad, a = some ad → ad.block ≠ k) (hsz : w.heap.size ≤ w'.heap.size) (hb : ∀ j, j ≠ k → w'.heap[j]? = w.heap[j]?) : IntsAt w' a len xs := by
  refine ⟨h.1, h.2.1, ?_⟩
  rcases h.2.2 with h0 | ⟨bl, off, e, hlt, hc⟩
  · exact .inl h0
  rcases hk with h0 | hk
  · exact .inl h0
  exact .inr ⟨bl, off, e, Nat.lt_of_lt_of_le hlt hsz, fun i hi => (World.cell?_of_block (hb bl (hk _ e))).trans (hc i hi)⟩
theorem size_put6 (w : World) (k : Nat) (v0 v1 v2 v3 v4 v5 : Value) : w.heap.size ≤ (put6 w k v0 v1 v2 v3 v4 v5).heap.size := by simp [put6]
/-- What stands when a superblock was read: the reader, and the superblock in block bx. -/
structure Rw (w0 w : World) (B b rb bx : Nat) (box : Array Value) (a1 : Option Addr) (ck : List Int) (a2 : Option Addr) (co : List Int) (st : St) : Prop where
  below : Below B w0 w
  rd : RdAt w b st
  cel : w.heap[rb]? = some (.cells #[.pointer (some ⟨b, 0, none⟩)] 79 (0, 0))
  bxc : w.heap[bx]? = some (.cells box 24 (0, 0))
  l1 : IntsAt w a1 ck.length ck
  l2 : IntsAt w a2 co.length co
  le : B ≤ b ∧ B ≤ rb ∧ B ≤ bx
  f1 : ∀ ad, a1 = some ad → B ≤ ad.block
  f2 : ∀ ad, a2 = some ad → B ≤ ad.block
theorem Rs.put {w0 w : World} {B b rb k : Nat} {a1 a2 : Option Addr} {ck co : List Int} {st : St} (h : Rs w0 w B b rb (some k) [(a2, co), (a1, ck)] st) (v0 v1 v2 v3 v4 v5 : Value) : Rw w0 (put6 w k v0 v1 v2 v3 v4 v5) B b rb k #[v0, v1, v2, v3, v4, v5] a1 ck a2 co st := by
  obtain ⟨g1, g2, g3, g4⟩ := h.new k rfl
  have i1 := h.lists (a1, ck) (by simp)
  have i2 := h.lists (a2, co) (by simp)
  exact ⟨(((((h.below.setCell (p := ⟨k, 0, none⟩) g4 _).setCell (p := ⟨k, 1, none⟩) g4 _).setCell (p := ⟨k, 2, none⟩) g4 _).setCell (p := ⟨k, 3, none⟩) g4 _).setCell (p := ⟨k, 4, none⟩) g4 _).setCell (p := ⟨k, 5, none⟩) g4 _,
    h.rd.keep (put6_other _ _ _ _ _ _ (fun e => g2 e.symm)), (put6_other _ _ _ _ _ _ (fun e => g3 e.symm)).trans h.cel, heap_put6 g1 _ _ _ _ _ _, ints_other i1.1 (i1.2.1 k rfl) (size_put6 _ _ _ _ _ _ _ _) (fun j hj => put6_other _ _ _ _ _ _ hj), ints_other i2.1 (i2.2.1 k rfl) (size_put6 _ _ _ _ _ _ _ _) (fun j hj => put6_other _ _ _ _ _ _ hj), ⟨h.le.1, h.le.2.2, g4⟩, i1.2.2, i2.2.2⟩
theorem Rs.made {w0 w : World} {B b rb : Nat} {X : Option Nat} {a1 a2 : Option Addr} {ck co : List Int} {st : St} (h : Rs w0 w B b rb X [(a2, co), (a1, ck)] st) (v0 v1 v2 v3 v4 v5 : Value) : Rw w0 (w.alloc (.cells #[v0, v1, v2, v3, v4, v5] 24)) B b rb w.heap.size #[v0, v1, v2, v3, v4, v5] a1 ck a2 co st := by
  have i1 := h.lists (a1, ck) (by simp)
  have i2 := h.lists (a2, co) (by simp)
  have h1 := (Array.getElem?_eq_some_iff.1 h.cel).1
  have h2 := h.rd.lt
  have hb : Below w.heap.size w (w.alloc (.cells #[v0, v1, v2, v3, v4, v5] 24)) := (Below.refl _ w).alloc (Nat.le_refl _) _
  exact ⟨h.below.alloc (by have := h.le; omega) _, h.rd.keep (hb.block b h2), (hb.block rb h1).trans h.cel, heap_alloc_new w _, i1.1.keep hb, i2.1.keep hb, ⟨h.le.1, h.le.2.2, by have := h.le; omega⟩, i1.2.2, i2.2.2⟩
theorem Rw.keep {w0 w w' : World} {B b rb bx : Nat} {box : Array Value} {a1 a2 : Option Addr} {ck co : List Int} {st : St} (h : Rw w0 w B b rb bx box a1 ck a2 co st) (hb : Below w.heap.size w w') : Rw w0 w' B b rb bx box a1 ck a2 co st := by
  have n1 := (Array.getElem?_eq_some_iff.1 h.cel).1
  have n2 := (Array.getElem?_eq_some_iff.1 h.bxc).1
  have n3 := h.rd.lt
  exact ⟨h.below.trans (hb.mono (by have := h.le; omega)), h.rd.keep (hb.block b n3), (hb.block rb n1).trans h.cel, (hb.block bx n2).trans h.bxc, h.l1.keep hb, h.l2.keep hb, h.le, h.f1, h.f2⟩
theorem results_two {fn : Func} {k : Nat} (h : fn.results = #[.cell 2 24, .tmp k]) (tmps : Array Value) (w : World) (b : Nat) (x0 x1 x2 x3 x4 x5 : Value) (hp : tmps.getD 2 undef = .pointer (some ⟨b, 0, none⟩))
    (c : w.cell? ⟨b, 0, none⟩ = some x0 ∧ w.cell? ⟨b, 1, none⟩ = some x1 ∧ w.cell? ⟨b, 2, none⟩ = some x2 ∧ w.cell? ⟨b, 3, none⟩ = some x3 ∧ w.cell? ⟨b, 4, none⟩ = some x4 ∧ w.cell? ⟨b, 5, none⟩ = some x5) :
    (results fn tmps).run Try.prog w = .ok (.tuple #[.agg #[x0, x1, x2, x3, x4, x5], tmps.getD k undef]) w := by
  have hp' : tmps[2]?.getD undef = .pointer (some ⟨b, 0, none⟩) := by rw [← hp]; simp
  obtain ⟨c0, c1, c2, c3, c4, c5⟩ := c
  simp only [results, h]
  go_simp
/-- A superblock made of the call's own, and what stands beside it. -/
structure SupMade (w : World) (y : Sup) (v : Value) (e : Ending) (w' : World) : Prop where
  out : ∃ a1 c1 a2 c2, e = .returned (.tuple #[supV y (.slice a1 y.chk.length c1) (.slice a2 y.log.length c2), v]) ∧ SupAt w' y a1 y.chk.length a2 y.log.length ∧ (a1 = none → c1 = 0) ∧ (a2 = none → c2 = 0) ∧ (∀ ad, a1 = some ad → w.heap.size ≤ ad.block) ∧ ∀ ad, a2 = some ad → w.heap.size ≤ ad.block
  below : Below w.heap.size w w'
theorem zero_cells6 {w : World} {k : Nat} (g : w.heap[k]? = some (.cells #[.int .i64 0, .int .i64 0, .int .i64 0, .int .i64 0, .slice none 0 0, .slice none 0 0] 24 (0, 0))) :
    (w.cell? ⟨k, 0, none⟩ = some (.int .i64 0) ∧ w.cell? ⟨k, 1, none⟩ = some (.int .i64 0) ∧ w.cell? ⟨k, 2, none⟩ = some (.int .i64 0) ∧ w.cell? ⟨k, 3, none⟩ = some (.int .i64 0) ∧ w.cell? ⟨k, 4, none⟩ = some (.slice none 0 0) ∧ w.cell? ⟨k, 5, none⟩ = some (.slice none 0 0)) ∧
    w.frozen? ⟨k, 0, none⟩ = false ∧ w.frozen? ⟨k, 1, none⟩ = false ∧ w.frozen? ⟨k, 2, none⟩ = false ∧ w.frozen? ⟨k, 3, none⟩ = false ∧ w.frozen? ⟨k, 4, none⟩ = false ∧ w.frozen? ⟨k, 5, none⟩ = false :=
  ⟨six_cells g, Wire.frozen_of_heap g, Wire.frozen_of_heap g, Wire.frozen_of_heap g, Wire.frozen_of_heap g, Wire.frozen_of_heap g, Wire.frozen_of_heap g⟩
theorem below_put6 {B : Nat} {w0 w : World} {k : Nat} (h : Below B w0 w) (hk : B ≤ k) (v0 v1 v2 v3 v4 v5 : Value) : Below B w0 (put6 w k v0 v1 v2 v3 v4 v5) :=
  (((((h.setCell (p := ⟨k, 0, none⟩) hk _).setCell (p := ⟨k, 1, none⟩) hk _).setCell (p := ⟨k, 2, none⟩) hk _).setCell (p := ⟨k, 3, none⟩) hk _).setCell (p := ⟨k, 4, none⟩) hk _).setCell (p := ⟨k, 5, none⟩) hk _
theorem read_done {w wA W : World} {b rb bx : Nat} {box : Array Value} {a1 a2 : Option Addr} {d1 c2 : Nat} {y : Sup} {st : St} {v : Value} (h : Rw wA W (w.heap.size + 1) b rb bx box a1 y.chk a2 y.log st) (hba : Below w.heap.size w wA)
    (k1 : y.chk.length ≤ 63) (k2 : y.log.length ≤ 63) (n1 : a1 = none → d1 = 0) (n2 : a2 = none → c2 = 0) (v0 v1 v2 v3 v4 v5 : Value) : SupMade w y v (.returned (.tuple #[supV y (.slice a1 y.chk.length d1) (.slice a2 y.log.length c2), v])) (put6 W w.heap.size v0 v1 v2 v3 v4 v5) :=
  ⟨⟨a1, d1, a2, c2, rfl, ⟨ints_other h.l1 (.inr fun ad he => by have := h.f1 ad he; omega) (size_put6 _ _ _ _ _ _ _ _) (fun j hj => put6_other _ _ _ _ _ _ hj), ints_other h.l2 (.inr fun ad he => by have := h.f2 ad he; omega) (size_put6 _ _ _ _ _ _ _ _) (fun j hj => put6_other _ _ _ _ _ _ hj), by omega, by omega⟩, n1, n2, fun ad he => by (have := h.f1 ad he; omega), fun ad he => by (have := h.f2 ad he; omega)⟩,
    below_put6 (hba.trans (h.below.mono (Nat.le_succ _))) (Nat.le_refl _) _ _ _ _ _ _⟩
theorem Rw.res {w wA W : World} {b rb bx : Nat} {box : Array Value} {a1 a2 : Option Addr} {ck co : List Int} {st : St} (h : Rw wA W (w.heap.size + 1) b rb bx box a1 ck a2 co st) (hz : wA.heap[w.heap.size]? = some (.cells #[.int .i64 0, .int .i64 0, .int .i64 0, .int .i64 0, .slice none 0 0, .slice none 0 0] 24 (0, 0))) :
    W.heap[w.heap.size]? = some (.cells #[.int .i64 0, .int .i64 0, .int .i64 0, .int .i64 0, .slice none 0 0, .slice none 0 0] 24 (0, 0)) := (h.below.block w.heap.size (Nat.lt_succ_self _)).trans hz
theorem Rw.drew {w0 w : World} {B b rb bx : Nat} {box : Array Value} {a1 a2 : Option Addr} {ck co : List Int} {st : St} (h : Rw w0 w B b rb bx box a1 ck a2 co st) : Rw w0 w.drew B b rb bx box a1 ck a2 co st := ⟨h.below.drew, h.rd, h.cel, h.bxc, h.l1, h.l2, h.le, h.f1, h.f2⟩
set_option maxHeartbeats 8000000 in
theorem read_any (s : ByteArray) (w : World) (hs : s.size ≤ 1000000) :
    Calls Try.prog 31 #[.string s] w (SupMade w (rdX 1 s.data.toList).1 (.bool ((rdX 1 s.data.toList).2 && decide (Fit (rdX 1 s.data.toList).1)))) := by
  have hN := fun w => Wire.new_any s w (by omega)
  obtain ⟨g, hg⟩ : ∃ g, rdInt 1 most (some s.data.toList) = g := ⟨_, rfl⟩
  obtain ⟨bb, hbb⟩ : ∃ bb, rdInt 0 most g.2 = bb := ⟨_, rfl⟩
  obtain ⟨zz, hzz⟩ : ∃ zz, rdInt 0 most bb.2 = zz := ⟨_, rfl⟩
  obtain ⟨cc, hcc⟩ : ∃ cc, rdInt 0 most zz.2 = cc := ⟨_, rfl⟩
  obtain ⟨kk, hkk⟩ : ∃ kk, rdText 63 cc.2 = kk := ⟨_, rfl⟩
  obtain ⟨oo, hoo⟩ : ∃ oo, rdText 63 kk.2 = oo := ⟨_, rfl⟩
  have hX : rdX 1 s.data.toList = (⟨g.1, bb.1, zz.1, cc.1, nums kk.1, nums oo.1⟩, done oo.2) := by
    unfold rdX
    simp only [hg, hbb, hzz, hcc, hkk, hoo]
  rw [hX]
  have lk : (nums kk.1).length ≤ 63 := by rw [nums_len, ← hkk]; exact rdText_len _
  have lo : (nums oo.1).length ≤ 63 := by rw [nums_len, ← hoo]; exact rdText_len _
  obtain ⟨zk, hzk⟩ : ∃ zk : ByteArray, zk.data.toList = kk.1 := ⟨⟨kk.1.toArray⟩, by simp⟩
  obtain ⟨zo, hzo⟩ : ∃ zo : ByteArray, zo.data.toList = oo.1 := ⟨⟨oo.1.toArray⟩, by simp⟩
  have lzk : zk.size ≤ 1000000 := by rw [← Wire.len_list, hzk]; rw [nums_len] at lk; omega
  have lzo : zo.size ≤ 1000000 := by rw [← Wire.len_list, hzo]; rw [nums_len] at lo; omega
  unfold most at hg hbb hzz hcc
  obtain ⟨g1, gs⟩ := g
  obtain ⟨b1, bs⟩ := bb
  obtain ⟨z1, zs⟩ := zz
  obtain ⟨c1, cs⟩ := cc
  obtain ⟨k1, ks⟩ := kk
  obtain ⟨o1, os⟩ := oo
  simp only at hg hbb hzz hcc hkk hoo hzk hzo lk lo ⊢
  subst hzk hzo
  have i1 := fun (b : Nat) (w : World) (h : RdAt w b (some s.data.toList)) => Wire.rdint_is b _ _ 1 1099511627776 g1 w h hg
  have i2 := fun (b : Nat) (w : World) (h : RdAt w b gs) => Wire.rdint_is b _ _ 0 1099511627776 b1 w h hbb
  have i3 := fun (b : Nat) (w : World) (h : RdAt w b bs) => Wire.rdint_is b _ _ 0 1099511627776 z1 w h hzz
  have i4 := fun (b : Nat) (w : World) (h : RdAt w b zs) => Wire.rdint_is b _ _ 0 1099511627776 c1 w h hcc
  have i5 := fun (b : Nat) (w : World) (h : RdAt w b cs) => numbers_any b _ _ zk w h hkk lzk
  have i6 := fun (b : Nat) (w : World) (h : RdAt w b ks) => numbers_any b _ _ zo w h hoo lzo
  have HN := Lib.hid hN; have I1 := Lib.hid i1; have I2 := Lib.hid i2; have I3 := Lib.hid i3; have I4 := Lib.hid i4; have I5 := Lib.hid i5; have I6 := Lib.hid i6
  clear hN i1 i2 i3 i4 i5 i6 hg hbb hzz hcc hkk hoo hX lzk lzo
  generalize nums zk.data.toList = ck at *
  generalize nums zo.data.toList = co at *
  go_enter Try.func31, Try.ntmps31
  go_wp2_with fail
  refine (HN.out _).mono ?_
  rintro e w1 ⟨rfl, hr1, hb1⟩
  have hr1' := hr1
  have hb1' := hb1
  rw [World.size_alloc] at hr1' hb1'
  have hlt1 : w.heap.size + 1 < w1.heap.size := hr1'.lt
  have h0 : Rs (w.alloc (.cells #[.int .i64 0, .int .i64 0, .int .i64 0, .int .i64 0, .slice none 0 0, .slice none 0 0] 24)) (w1.alloc (.cells #[.pointer (some ⟨w.heap.size + 1, 0, none⟩)] 79)) (w.heap.size + 1) (w.heap.size + 1) w1.heap.size none [] (some s.data.toList) :=
    ⟨hb1'.alloc (by omega) _, ⟨Nat.le_refl _, Nat.ne_of_lt hlt1, by omega⟩, hr1'.keep (Below.heap_alloc w1 _ _ hlt1), heap_alloc_new w1 _, fun k hk => (by cases hk), fun t ht => (by cases ht)⟩
  have hz0 := heap_alloc_new w (.cells #[.int .i64 0, .int .i64 0, .int .i64 0, .int .i64 0, .slice none 0 0, .slice none 0 0] 24)
  have hba : Below w.heap.size w (w.alloc (.cells #[.int .i64 0, .int .i64 0, .int .i64 0, .int .i64 0, .slice none 0 0, .slice none 0 0] 24)) := (Below.refl _ w).alloc (Nat.le_refl _) _
  have HR := Lib.hid h0; have HZ := Lib.hid hz0; have HBA := Lib.hid hba
  clear h0 hb1 hr1 hz0 hr1' hb1' hba
  go_wp2_with fail
  generalize w1.alloc (.cells #[.pointer (some ⟨w.heap.size + 1, 0, none⟩)] 79) = w2 at *
  generalize w1.heap.size = rb at *
  generalize w.alloc (.cells #[.int .i64 0, .int .i64 0, .int .i64 0, .int .i64 0, .slice none 0 0, .slice none 0 0] 24) = wA at *
  have p0 := HR.out.cell
  have h0 := HR.out.drew
  have e0 := h0.cell
  have h00 := HR.out.alloc.drew
  have e00 := h00.cell
  go_region_held3 (fun w' => w'.cell? ⟨rb, 0, none⟩ = some (.pointer (some ⟨w.heap.size + 1, 0, none⟩)))
    (first | with_reducible exact e0 | with_reducible exact e00 | with_reducible exact Lib.cell?_alloc_some _ e0 | with_reducible exact e1 | with_reducible exact Lib.cell?_alloc_some _ e1 | with_reducible exact e2 | with_reducible exact Lib.cell?_alloc_some _ e2 | with_reducible exact e3 | with_reducible exact Lib.cell?_alloc_some _ e3 | with_reducible exact e4 | with_reducible exact Lib.cell?_alloc_some _ e4 | with_reducible exact e5 | with_reducible exact Lib.cell?_alloc_some _ e5 | with_reducible exact e6 | with_reducible exact Lib.cell?_alloc_some _ e6 | with_reducible exact (cell_set6 h6).trans e6 | with_reducible exact (cell_set6 h6.alloc).trans (Lib.cell?_alloc_some _ e6))
    (first
      | (go_at_call 58; with_reducible refine (I6.out _ _ h5.rd).mono ?_; rintro e w8 ⟨⟨a2, c2, rfl, li2, lc2, ln2, lf2⟩, hs8⟩; have h6 := h5.list li2 lf2 hs8; have e6 := h6.cell; (try obtain ⟨⟨q0, q1, q2, q3, q4, q5⟩, r0, r1, r2, r3, r4, r5⟩ := h6.cells))
      | (go_at_call 58; with_reducible refine (I6.out _ _ h5.alloc.rd).mono ?_; rintro e w8 ⟨⟨a2, c2, rfl, li2, lc2, ln2, lf2⟩, hs8⟩; have h6 := h5.alloc.list li2 lf2 hs8; have e6 := h6.cell; (try obtain ⟨⟨q0, q1, q2, q3, q4, q5⟩, r0, r1, r2, r3, r4, r5⟩ := h6.cells))
      | (go_at_call 58; with_reducible refine (I5.out _ _ h4.rd).mono ?_; rintro e w7 ⟨⟨a1, d1, rfl, li1, lc1, ln1, lf1⟩, hs7⟩; have h5 := h4.list li1 lf1 hs7; have e5 := h5.cell)
      | (go_at_call 58; with_reducible refine (I5.out _ _ h4.alloc.rd).mono ?_; rintro e w7 ⟨⟨a1, d1, rfl, li1, lc1, ln1, lf1⟩, hs7⟩; have h5 := h4.alloc.list li1 lf1 hs7; have e5 := h5.cell)
      | (go_at_call 57; with_reducible refine (I4.out _ _ h3.rd).mono ?_; rintro e w6 ⟨rfl, hs6⟩; have h4 := h3.step hs6; have e4 := h4.cell)
      | (go_at_call 57; with_reducible refine (I4.out _ _ h3.alloc.rd).mono ?_; rintro e w6 ⟨rfl, hs6⟩; have h4 := h3.alloc.step hs6; have e4 := h4.cell)
      | (go_at_call 57; with_reducible refine (I3.out _ _ h2.rd).mono ?_; rintro e w5 ⟨rfl, hs5⟩; have h3 := h2.step hs5; have e3 := h3.cell)
      | (go_at_call 57; with_reducible refine (I3.out _ _ h2.alloc.rd).mono ?_; rintro e w5 ⟨rfl, hs5⟩; have h3 := h2.alloc.step hs5; have e3 := h3.cell)
      | (go_at_call 57; with_reducible refine (I2.out _ _ h1.rd).mono ?_; rintro e w4 ⟨rfl, hs4⟩; have h2 := h1.step hs4; have e2 := h2.cell)
      | (go_at_call 57; with_reducible refine (I2.out _ _ h1.alloc.rd).mono ?_; rintro e w4 ⟨rfl, hs4⟩; have h2 := h1.alloc.step hs4; have e2 := h2.cell)
      | (go_at_call 57; with_reducible refine (I1.out _ _ h0.rd).mono ?_; rintro e w3 ⟨rfl, hs3⟩; have h1 := h0.step hs3; have e1 := h1.cell)
      | (go_at_call 57; with_reducible refine (I1.out _ _ h00.rd).mono ?_; rintro e w3 ⟨rfl, hs3⟩; have h1 := h00.step hs3; have e1 := h1.cell))
  all_goals
    first
      | (have hR := h6.made (.int .i64 g1) (.int .i64 b1) (.int .i64 z1) (.int .i64 c1) (.slice a1 ck.length d1) (.slice a2 co.length c2); obtain ⟨W, hW⟩ : ∃ W, w8.alloc (.cells #[.int .i64 g1, .int .i64 b1, .int .i64 z1, .int .i64 c1, .slice a1 ck.length d1, .slice a2 co.length c2] 24) = W := ⟨_, rfl⟩; rw [hW] at hR ⊢; clear hW; generalize w8.heap.size = bx at hR ⊢)
      | (have hR := h6.put (.int .i64 g1) (.int .i64 b1) (.int .i64 z1) (.int .i64 c1) (.slice a1 ck.length d1) (.slice a2 co.length c2); unfold put6 at hR; obtain ⟨W, hW⟩ : ∃ W, ((((((w8).setCell ⟨w7.heap.size, 0, none⟩ (.int .i64 g1)).setCell ⟨w7.heap.size, 1, none⟩ (.int .i64 b1)).setCell ⟨w7.heap.size, 2, none⟩ (.int .i64 z1)).setCell ⟨w7.heap.size, 3, none⟩ (.int .i64 c1)).setCell ⟨w7.heap.size, 4, none⟩ (.slice a1 ck.length d1)).setCell ⟨w7.heap.size, 5, none⟩ (.slice a2 co.length c2) = W := ⟨_, rfl⟩; rw [hW] at hR ⊢; clear hW; generalize w7.heap.size = bx at hR ⊢)
      | (have hR := h6.put (.int .i64 g1) (.int .i64 b1) (.int .i64 z1) (.int .i64 c1) (.slice a1 ck.length d1) (.slice a2 co.length c2); unfold put6 at hR; obtain ⟨W, hW⟩ : ∃ W, ((((((w8).setCell ⟨w6.heap.size, 0, none⟩ (.int .i64 g1)).setCell ⟨w6.heap.size, 1, none⟩ (.int .i64 b1)).setCell ⟨w6.heap.size, 2, none⟩ (.int .i64 z1)).setCell ⟨w6.heap.size, 3, none⟩ (.int .i64 c1)).setCell ⟨w6.heap.size, 4, none⟩ (.slice a1 ck.length d1)).setCell ⟨w6.heap.size, 5, none⟩ (.slice a2 co.length c2) = W := ⟨_, rfl⟩; rw [hW] at hR ⊢; clear hW; generalize w6.heap.size = bx at hR ⊢)
      | (have hR := h6.put (.int .i64 g1) (.int .i64 b1) (.int .i64 z1) (.int .i64 c1) (.slice a1 ck.length d1) (.slice a2 co.length c2); unfold put6 at hR; obtain ⟨W, hW⟩ : ∃ W, ((((((w8).setCell ⟨w5.heap.size, 0, none⟩ (.int .i64 g1)).setCell ⟨w5.heap.size, 1, none⟩ (.int .i64 b1)).setCell ⟨w5.heap.size, 2, none⟩ (.int .i64 z1)).setCell ⟨w5.heap.size, 3, none⟩ (.int .i64 c1)).setCell ⟨w5.heap.size, 4, none⟩ (.slice a1 ck.length d1)).setCell ⟨w5.heap.size, 5, none⟩ (.slice a2 co.length c2) = W := ⟨_, rfl⟩; rw [hW] at hR ⊢; clear hW; generalize w5.heap.size = bx at hR ⊢)
      | (have hR := h6.put (.int .i64 g1) (.int .i64 b1) (.int .i64 z1) (.int .i64 c1) (.slice a1 ck.length d1) (.slice a2 co.length c2); unfold put6 at hR; obtain ⟨W, hW⟩ : ∃ W, ((((((w8).setCell ⟨w4.heap.size, 0, none⟩ (.int .i64 g1)).setCell ⟨w4.heap.size, 1, none⟩ (.int .i64 b1)).setCell ⟨w4.heap.size, 2, none⟩ (.int .i64 z1)).setCell ⟨w4.heap.size, 3, none⟩ (.int .i64 c1)).setCell ⟨w4.heap.size, 4, none⟩ (.slice a1 ck.length d1)).setCell ⟨w4.heap.size, 5, none⟩ (.slice a2 co.length c2) = W := ⟨_, rfl⟩; rw [hW] at hR ⊢; clear hW; generalize w4.heap.size = bx at hR ⊢)
      | (have hR := h6.put (.int .i64 g1) (.int .i64 b1) (.int .i64 z1) (.int .i64 c1) (.slice a1 ck.length d1) (.slice a2 co.length c2); unfold put6 at hR; obtain ⟨W, hW⟩ : ∃ W, ((((((w8).setCell ⟨w3.heap.size, 0, none⟩ (.int .i64 g1)).setCell ⟨w3.heap.size, 1, none⟩ (.int .i64 b1)).setCell ⟨w3.heap.size, 2, none⟩ (.int .i64 z1)).setCell ⟨w3.heap.size, 3, none⟩ (.int .i64 c1)).setCell ⟨w3.heap.size, 4, none⟩ (.slice a1 ck.length d1)).setCell ⟨w3.heap.size, 5, none⟩ (.slice a2 co.length c2) = W := ⟨_, rfl⟩; rw [hW] at hR ⊢; clear hW; generalize w3.heap.size = bx at hR ⊢)
      | (have hR := h6.put (.int .i64 g1) (.int .i64 b1) (.int .i64 z1) (.int .i64 c1) (.slice a1 ck.length d1) (.slice a2 co.length c2); unfold put6 at hR; obtain ⟨W, hW⟩ : ∃ W, ((((((w8).setCell ⟨w2.heap.size, 0, none⟩ (.int .i64 g1)).setCell ⟨w2.heap.size, 1, none⟩ (.int .i64 b1)).setCell ⟨w2.heap.size, 2, none⟩ (.int .i64 z1)).setCell ⟨w2.heap.size, 3, none⟩ (.int .i64 c1)).setCell ⟨w2.heap.size, 4, none⟩ (.slice a1 ck.length d1)).setCell ⟨w2.heap.size, 5, none⟩ (.slice a2 co.length c2) = W := ⟨_, rfl⟩; rw [hW] at hR ⊢; clear hW; generalize w2.heap.size = bx at hR ⊢)
  all_goals
    have HW := Lib.hid hR
    clear hR h00 e00 p0 h0 e0 e1 e2 e3 e4 e5 e6 h1 h2 h3 h4 h5 h6 hs3 hs4 hs5 hs6 hs7 hs8 li1 li2 lc1 lc2 lf1 lf2 I1 I2 I3 I4 I5 I6 HN
    (try clear q0 q1 q2 q3 q4 q5 r0 r1 r2 r3 r4 r5)
  all_goals
    have HD := HW.out.drew
    have hDn := fun v hv => Wire.rddone_is (w.heap.size + 1) os v _ HD.rd hv
    have hFt := fun (w' : World) (hs : SupAt w' ⟨g1, b1, z1, c1, ck, co⟩ a1 ck.length a2 co.length) => supfit_any ⟨g1, b1, z1, c1, ck, co⟩ a1 a2 ck.length d1 co.length c2 w' hs (by omega) (by omega)
    unfold supV at hFt
    have HDn := Lib.hid hDn; have HFt := Lib.hid hFt
    have qb := six_cells HD.bxc
    have qr : W.drew.cell? ⟨rb, 0, none⟩ = some (.pointer (some ⟨w.heap.size + 1, 0, none⟩)) := by rw [Wire.cell_of_heap HD.cel]; rfl
    clear hDn hFt
    go_wp2_with fail
    have nbx : bx ≠ w.heap.size := by have := HW.out.le.2.2; omega
    have nrb : rb ≠ w.heap.size := by have := HW.out.le.2.1; omega
    cases hv : done os
    · refine wp_region_noPanic ?_
      refine wp_region_held_drew (S := (fun w' => (w'.cell? ⟨bx, 0, none⟩ = some (.int .i64 g1) ∧ w'.cell? ⟨bx, 1, none⟩ = some (.int .i64 b1) ∧ w'.cell? ⟨bx, 2, none⟩ = some (.int .i64 z1) ∧ w'.cell? ⟨bx, 3, none⟩ = some (.int .i64 c1) ∧ w'.cell? ⟨bx, 4, none⟩ = some (.slice a1 ck.length d1) ∧ w'.cell? ⟨bx, 5, none⟩ = some (.slice a2 co.length c2)) ∧ w'.cell? ⟨rb, 0, none⟩ = some (.pointer (some ⟨w.heap.size + 1, 0, none⟩)))) (by kernel_rfl) ⟨qb, qr⟩ (fun hHeld => ?_)
      refine wpAnyH_take (i := 0) (v := ?_) rfl (by kernel_rfl) (by kernel_rfl) (by kernel_rfl) (fun _ _ _ h => h) (Or.inl ⟨by kernel_rfl, ?_⟩) hHeld ?_; rotate_left; focus ((intro w' hSw; (try dsimp only at hSw); go_simp; (try with_reducible rfl)))
      refine wpAnyH_take (i := 1) (v := ?_) rfl (by kernel_rfl) (by kernel_rfl) (by kernel_rfl) (fun _ _ _ h => h) (Or.inl ⟨by kernel_rfl, ?_⟩) hHeld ?_; rotate_left; focus ((intro w' hSw; (try dsimp only at hSw); go_simp; (try with_reducible rfl)))
      refine wpAnyH_take (i := 2) (v := ?_) rfl (by kernel_rfl) (by kernel_rfl) (by kernel_rfl) (fun _ _ _ h => h) (Or.inl ⟨by kernel_rfl, ?_⟩) hHeld ?_; rotate_left; focus ((intro w' hSw; (try dsimp only at hSw); go_simp; (try with_reducible rfl)))
      refine wpAnyH_ready (rs := [3]) (by kernel_rfl) (by simp) ?_
      refine AllReadyH.cons rfl (fun K hK => ?_) AllReadyH.nil
      go_simp
      refine (HDn.out false hv).mono ?_
      rintro e w9 ⟨rfl, hb9⟩
      have h9 := HD.keep hb9
      have qr9 : w9.cell? ⟨rb, 0, none⟩ = some (.pointer (some ⟨w.heap.size + 1, 0, none⟩)) := (Wire.cell_of_heap h9.cel).trans rfl
      obtain ⟨⟨q0, q1, q2, q3, q4, q5⟩, r0, r1, r2, r3, r4, r5⟩ := zero_cells6 (h9.res HZ.out)
      refine hK.out _ _ ⟨six_cells h9.bxc, qr9⟩ (fun hHeld9 => ?_)
      clear hK K hHeld
      refine wpAnyH_take (i := 4) (v := ?_) rfl (by kernel_rfl) (by kernel_rfl) (by kernel_rfl) (fun _ _ _ h => h) (Or.inl ⟨by kernel_rfl, ?_⟩) hHeld9 ?_; rotate_left; focus ((intro w' hSw; (try dsimp only at hSw); go_simp; (try with_reducible rfl)))
      refine wpAnyH_take (i := 5) (v := undef) rfl (by kernel_rfl) (by kernel_rfl) (by kernel_rfl) (fun _ _ _ h => h) (Or.inr ⟨by kernel_rfl, rfl⟩) hHeld9 ?_
      refine wpAnyH_take (i := 6) (v := undef) rfl (by kernel_rfl) (by kernel_rfl) (by kernel_rfl) (fun _ _ _ h => h) (Or.inr ⟨by kernel_rfl, rfl⟩) hHeld9 ?_
      refine wpAnyH_take (i := 7) (v := ?_) rfl (by kernel_rfl) (by kernel_rfl) (by kernel_rfl) (fun _ _ _ h => h) (Or.inl ⟨by kernel_rfl, ?_⟩) hHeld9 ?_; rotate_left; focus ((intro w' hSw; (try dsimp only at hSw); go_simp; (try with_reducible rfl)))
      refine wpAnyH_ready (rs := [8]) (by kernel_rfl) (by simp) ?_
      refine AllReadyH.cons rfl (fun K hK => ?_) AllReadyH.nil
      go_simp
      refine hK.out _ _ ⟨six_cells ((put6_other _ _ _ _ _ _ nbx).trans h9.bxc), (World.cell?_of_block (put6_other _ _ _ _ _ _ nrb)).trans qr9⟩ (fun hHeldA => ?_)
      clear hK K hHeld9
      refine wpAnyH_take (i := 9) (v := ?_) rfl (by kernel_rfl) (by kernel_rfl) (by kernel_rfl) (fun _ _ _ h => h) (Or.inl ⟨by kernel_rfl, ?_⟩) hHeldA ?_; rotate_left; focus ((intro w' hSw; (try dsimp only at hSw); go_simp; (try with_reducible rfl)))
      refine wpAnyH_done (by kernel_rfl) ?_ _
      refine NoPanic.normal ?_
      have hz9 := h9.res HZ.out
      have HF := Lib.hid (read_done (y := ⟨g1, b1, z1, c1, ck, co⟩) (v := .bool false) (d1 := d1) (c2 := c2) h9 HBA.out lk lo ln1 ln2 (.int .i64 g1) (.int .i64 b1) (.int .i64 z1) (.int .i64 c1) (.slice a1 ck.length d1) (.slice a2 co.length c2))
      have HRS := Lib.hid (six_cells (heap_put6 hz9 (.int .i64 g1) (.int .i64 b1) (.int .i64 z1) (.int .i64 c1) (.slice a1 ck.length d1) (.slice a2 co.length c2)))
      clear hHeldA q0 q1 q2 q3 q4 q5 r0 r1 r2 r3 r4 r5 hz9 h9 qr9 hb9 qb qr HD HDn HFt HW
      go_wp2_with fail
      refine bodyPost_ret (results_two rfl _ _ w.heap.size _ _ _ _ _ _ rfl HRS.out) rfl ?_
      first
        | exact HF.out
        | (rw [hv]; exact HF.out)
    · go_region_held3 (fun w' => (w'.cell? ⟨bx, 0, none⟩ = some (.int .i64 g1) ∧ w'.cell? ⟨bx, 1, none⟩ = some (.int .i64 b1) ∧ w'.cell? ⟨bx, 2, none⟩ = some (.int .i64 z1) ∧ w'.cell? ⟨bx, 3, none⟩ = some (.int .i64 c1) ∧ w'.cell? ⟨bx, 4, none⟩ = some (.slice a1 ck.length d1) ∧ w'.cell? ⟨bx, 5, none⟩ = some (.slice a2 co.length c2)) ∧ w'.cell? ⟨rb, 0, none⟩ = some (.pointer (some ⟨w.heap.size + 1, 0, none⟩)))
        (first | with_reducible exact ⟨qb, qr⟩ | with_reducible exact ⟨qb9, qr9⟩ | with_reducible exact ⟨qb10, qr10⟩ | with_reducible exact ⟨six_cells ((put6_other _ _ _ _ _ _ nbx).trans h10.bxc), (World.cell?_of_block (put6_other _ _ _ _ _ _ nrb)).trans qr10⟩)
        (first
          | (go_at_call 14; refine (HFt.out _ ⟨h9.l1, h9.l2, by omega, by omega⟩).mono ?_; rintro e w10 ⟨rfl, hb10⟩; have h10 := h9.keep hb10; have qb10 := six_cells h10.bxc; have qr10 : w10.cell? ⟨rb, 0, none⟩ = some (.pointer (some ⟨w.heap.size + 1, 0, none⟩)) := (Wire.cell_of_heap h10.cel).trans rfl; obtain ⟨⟨q0, q1, q2, q3, q4, q5⟩, r0, r1, r2, r3, r4, r5⟩ := zero_cells6 (h10.res HZ.out))
          | (go_at_call 59; refine (HDn.out true hv).mono ?_; rintro e w9 ⟨rfl, hb9⟩; have h9 := HD.keep hb9; have qb9 := six_cells h9.bxc; have qr9 : w9.cell? ⟨rb, 0, none⟩ = some (.pointer (some ⟨w.heap.size + 1, 0, none⟩)) := (Wire.cell_of_heap h9.cel).trans rfl))
      have hz9 := h10.res HZ.out
      have HF := Lib.hid (read_done (y := ⟨g1, b1, z1, c1, ck, co⟩) (v := .bool (decide (Fit ⟨g1, b1, z1, c1, ck, co⟩))) (d1 := d1) (c2 := c2) h10 HBA.out lk lo ln1 ln2 (.int .i64 g1) (.int .i64 b1) (.int .i64 z1) (.int .i64 c1) (.slice a1 ck.length d1) (.slice a2 co.length c2))
      have HRS := Lib.hid (six_cells (heap_put6 hz9 (.int .i64 g1) (.int .i64 b1) (.int .i64 z1) (.int .i64 c1) (.slice a1 ck.length d1) (.slice a2 co.length c2)))
      clear q0 q1 q2 q3 q4 q5 r0 r1 r2 r3 r4 r5 hz9 h9 h10 qr9 qr10 qb9 qb10 hb9 hb10 qb qr HD HDn HFt HW
      go_wp2_with fail
      refine bodyPost_ret (results_two rfl _ _ w.heap.size _ _ _ _ _ _ rfl HRS.out) rfl ?_
      first
        | exact HF.out
        | (rw [hv]; exact HF.out)
end Go.Proofs.Ytigiaiddnbpcmaa
