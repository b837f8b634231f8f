/-
  KeyBack; what was there stays as it was.
-/
import Derived.Test.YtcdinaoenhonbaaDoorKeyG
import Derived.Test.YtcdinaoenhonbaaDoorInv
set_option linter.unusedVariables false
set_option linter.unusedSimpArgs false
set_option maxRecDepth 4000
namespace Go.Proofs.YtcdinaoenhonbaaDoor.Key
open Go.RowKit KeyP
open Go.Proofs.YtcdinaoenhonbaaDoor.Kt

/-- What stands while x, y, z := of(a), of(b), of(c) runs: what has come up so far. -/
structure KB (w0 W : World) (x0 x1 : Int) (x2 : Bool) (y0 y1 : Int) (y2 : Bool) (z0 z1 : Int) (z2 : Bool) (L : Nat → Bool) (s9 s10 s11 s21 s22 s23 s24 s25 s26 : Value) : Prop where
  bel : Below w0.heap.size w0 W
  v0 : L 0 = true → s21 = kv x0 x1 x2
  v1 : L 1 = true → s22 = kv x0 x1 x2
  v2 : L 2 = true → s23 = kv y0 y1 y2
  v3 : L 3 = true → s24 = kv y0 y1 y2
  v4 : L 4 = true → s25 = kv z0 z1 z2
  v5 : L 5 = true → s26 = kv z0 z1 z2
  p6 : L 6 = true → ∃ p, s9 = .pointer (some ⟨p, 0, none⟩) ∧ w0.heap.size ≤ p ∧ (if L 9 = true then At3 25 W p (.int .i64 x0) (.int .i64 x1) (.bool x2) else At3 25 W p (.int .i64 0) (.int .i64 0) (.bool false))
  p7 : L 7 = true → ∃ p, s10 = .pointer (some ⟨p, 0, none⟩) ∧ w0.heap.size ≤ p ∧ (if L 10 = true then At3 25 W p (.int .i64 y0) (.int .i64 y1) (.bool y2) else At3 25 W p (.int .i64 0) (.int .i64 0) (.bool false))
  p8 : L 8 = true → ∃ p, s11 = .pointer (some ⟨p, 0, none⟩) ∧ w0.heap.size ≤ p ∧ (if L 11 = true then At3 25 W p (.int .i64 z0) (.int .i64 z1) (.bool z2) else At3 25 W p (.int .i64 0) (.int .i64 0) (.bool false))
  n67 : L 6 = true → L 7 = true → s9 ≠ s10
  n68 : L 6 = true → L 8 = true → s9 ≠ s11
  n78 : L 7 = true → L 8 = true → s10 ≠ s11
  k6 : L 9 = true → L 6 = true
  k7 : L 10 = true → L 7 = true
  k8 : L 11 = true → L 8 = true
theorem at_if {W W' : World} {b : Bool} {p : Nat} {u0 u1 u2 v0 v1 v2 : Value} (h : if b = true then At3 25 W p u0 u1 u2 else At3 25 W p v0 v1 v2) (k : ∀ {a0 a1 a2 : Value}, At3 25 W p a0 a1 a2 → At3 25 W' p a0 a1 a2) : if b = true then At3 25 W' p u0 u1 u2 else At3 25 W' p v0 v1 v2 := by
  cases b with
  | true => exact k h
  | false => exact k h
theorem lt_if {W : World} {b : Bool} {p : Nat} {u0 u1 u2 v0 v1 v2 : Value} (h : if b = true then At3 25 W p u0 u1 u2 else At3 25 W p v0 v1 v2) : p < W.heap.size := by
  cases b with
  | true => exact heap_lt h
  | false => exact heap_lt h
theorem ptr_ne {p q : Nat} (h : p ≠ q) : Value.pointer (some ⟨p, 0, none⟩) ≠ .pointer (some ⟨q, 0, none⟩) := fun e => h (by injection e with e; injection e with e; injection e)
variable {w0 W W' : World} {x0 x1 : Int} {x2 : Bool} {y0 y1 : Int} {y2 : Bool} {z0 z1 : Int} {z2 : Bool} {L : Nat → Bool} {s9 s10 s11 s21 s22 s23 s24 s25 s26 : Value}
theorem KB.start (w : World) : KB w w.drew x0 x1 x2 y0 y1 y2 z0 z1 z2 (fun _ => false) undef undef undef undef undef undef undef undef undef where
  bel := (Below.refl _ _).drew
  v0 := fun e => by cases e
  v1 := fun e => by cases e
  v2 := fun e => by cases e
  v3 := fun e => by cases e
  v4 := fun e => by cases e
  v5 := fun e => by cases e
  p6 := fun e => by cases e
  p7 := fun e => by cases e
  p8 := fun e => by cases e
  n67 := fun e => by cases e
  n68 := fun e => by cases e
  n78 := fun e => by cases e
  k6 := fun e => by cases e
  k7 := fun e => by cases e
  k8 := fun e => by cases e

theorem KB.val0 (h : KB w0 W x0 x1 x2 y0 y1 y2 z0 z1 z2 L s9 s10 s11 s21 s22 s23 s24 s25 s26) (hb : Below W.heap.size W W') : KB w0 W' x0 x1 x2 y0 y1 y2 z0 z1 z2 (fun j => j == 0 || L j) s9 s10 s11 (kv x0 x1 x2) s22 s23 s24 s25 s26 where
  bel := below_keep h.bel hb h.bel.size
  v0 := fun _ => rfl
  v1 := h.v1
  v2 := h.v2
  v3 := h.v3
  v4 := h.v4
  v5 := h.v5
  p6 := fun e => by
    obtain ⟨p, h1, h2, h3⟩ := h.p6 e
    exact ⟨p, h1, h2, at_if h3 fun k => k.keep hb⟩
  p7 := fun e => by
    obtain ⟨p, h1, h2, h3⟩ := h.p7 e
    exact ⟨p, h1, h2, at_if h3 fun k => k.keep hb⟩
  p8 := fun e => by
    obtain ⟨p, h1, h2, h3⟩ := h.p8 e
    exact ⟨p, h1, h2, at_if h3 fun k => k.keep hb⟩
  n67 := h.n67
  n68 := h.n68
  n78 := h.n78
  k6 := h.k6
  k7 := h.k7
  k8 := h.k8

theorem KB.val1 (h : KB w0 W x0 x1 x2 y0 y1 y2 z0 z1 z2 L s9 s10 s11 s21 s22 s23 s24 s25 s26) (hb : Below W.heap.size W W') : KB w0 W' x0 x1 x2 y0 y1 y2 z0 z1 z2 (fun j => j == 1 || L j) s9 s10 s11 s21 (kv x0 x1 x2) s23 s24 s25 s26 where
  bel := below_keep h.bel hb h.bel.size
  v0 := h.v0
  v1 := fun _ => rfl
  v2 := h.v2
  v3 := h.v3
  v4 := h.v4
  v5 := h.v5
  p6 := fun e => by
    obtain ⟨p, h1, h2, h3⟩ := h.p6 e
    exact ⟨p, h1, h2, at_if h3 fun k => k.keep hb⟩
  p7 := fun e => by
    obtain ⟨p, h1, h2, h3⟩ := h.p7 e
    exact ⟨p, h1, h2, at_if h3 fun k => k.keep hb⟩
  p8 := fun e => by
    obtain ⟨p, h1, h2, h3⟩ := h.p8 e
    exact ⟨p, h1, h2, at_if h3 fun k => k.keep hb⟩
  n67 := h.n67
  n68 := h.n68
  n78 := h.n78
  k6 := h.k6
  k7 := h.k7
  k8 := h.k8

theorem KB.val2 (h : KB w0 W x0 x1 x2 y0 y1 y2 z0 z1 z2 L s9 s10 s11 s21 s22 s23 s24 s25 s26) (hb : Below W.heap.size W W') : KB w0 W' x0 x1 x2 y0 y1 y2 z0 z1 z2 (fun j => j == 2 || L j) s9 s10 s11 s21 s22 (kv y0 y1 y2) s24 s25 s26 where
  bel := below_keep h.bel hb h.bel.size
  v0 := h.v0
  v1 := h.v1
  v2 := fun _ => rfl
  v3 := h.v3
  v4 := h.v4
  v5 := h.v5
  p6 := fun e => by
    obtain ⟨p, h1, h2, h3⟩ := h.p6 e
    exact ⟨p, h1, h2, at_if h3 fun k => k.keep hb⟩
  p7 := fun e => by
    obtain ⟨p, h1, h2, h3⟩ := h.p7 e
    exact ⟨p, h1, h2, at_if h3 fun k => k.keep hb⟩
  p8 := fun e => by
    obtain ⟨p, h1, h2, h3⟩ := h.p8 e
    exact ⟨p, h1, h2, at_if h3 fun k => k.keep hb⟩
  n67 := h.n67
  n68 := h.n68
  n78 := h.n78
  k6 := h.k6
  k7 := h.k7
  k8 := h.k8

theorem KB.val3 (h : KB w0 W x0 x1 x2 y0 y1 y2 z0 z1 z2 L s9 s10 s11 s21 s22 s23 s24 s25 s26) (hb : Below W.heap.size W W') : KB w0 W' x0 x1 x2 y0 y1 y2 z0 z1 z2 (fun j => j == 3 || L j) s9 s10 s11 s21 s22 s23 (kv y0 y1 y2) s25 s26 where
  bel := below_keep h.bel hb h.bel.size
  v0 := h.v0
  v1 := h.v1
  v2 := h.v2
  v3 := fun _ => rfl
  v4 := h.v4
  v5 := h.v5
  p6 := fun e => by
    obtain ⟨p, h1, h2, h3⟩ := h.p6 e
    exact ⟨p, h1, h2, at_if h3 fun k => k.keep hb⟩
  p7 := fun e => by
    obtain ⟨p, h1, h2, h3⟩ := h.p7 e
    exact ⟨p, h1, h2, at_if h3 fun k => k.keep hb⟩
  p8 := fun e => by
    obtain ⟨p, h1, h2, h3⟩ := h.p8 e
    exact ⟨p, h1, h2, at_if h3 fun k => k.keep hb⟩
  n67 := h.n67
  n68 := h.n68
  n78 := h.n78
  k6 := h.k6
  k7 := h.k7
  k8 := h.k8

theorem KB.val4 (h : KB w0 W x0 x1 x2 y0 y1 y2 z0 z1 z2 L s9 s10 s11 s21 s22 s23 s24 s25 s26) (hb : Below W.heap.size W W') : KB w0 W' x0 x1 x2 y0 y1 y2 z0 z1 z2 (fun j => j == 4 || L j) s9 s10 s11 s21 s22 s23 s24 (kv z0 z1 z2) s26 where
  bel := below_keep h.bel hb h.bel.size
  v0 := h.v0
  v1 := h.v1
  v2 := h.v2
  v3 := h.v3
  v4 := fun _ => rfl
  v5 := h.v5
  p6 := fun e => by
    obtain ⟨p, h1, h2, h3⟩ := h.p6 e
    exact ⟨p, h1, h2, at_if h3 fun k => k.keep hb⟩
  p7 := fun e => by
    obtain ⟨p, h1, h2, h3⟩ := h.p7 e
    exact ⟨p, h1, h2, at_if h3 fun k => k.keep hb⟩
  p8 := fun e => by
    obtain ⟨p, h1, h2, h3⟩ := h.p8 e
    exact ⟨p, h1, h2, at_if h3 fun k => k.keep hb⟩
  n67 := h.n67
  n68 := h.n68
  n78 := h.n78
  k6 := h.k6
  k7 := h.k7
  k8 := h.k8

theorem KB.val5 (h : KB w0 W x0 x1 x2 y0 y1 y2 z0 z1 z2 L s9 s10 s11 s21 s22 s23 s24 s25 s26) (hb : Below W.heap.size W W') : KB w0 W' x0 x1 x2 y0 y1 y2 z0 z1 z2 (fun j => j == 5 || L j) s9 s10 s11 s21 s22 s23 s24 s25 (kv z0 z1 z2) where
  bel := below_keep h.bel hb h.bel.size
  v0 := h.v0
  v1 := h.v1
  v2 := h.v2
  v3 := h.v3
  v4 := h.v4
  v5 := fun _ => rfl
  p6 := fun e => by
    obtain ⟨p, h1, h2, h3⟩ := h.p6 e
    exact ⟨p, h1, h2, at_if h3 fun k => k.keep hb⟩
  p7 := fun e => by
    obtain ⟨p, h1, h2, h3⟩ := h.p7 e
    exact ⟨p, h1, h2, at_if h3 fun k => k.keep hb⟩
  p8 := fun e => by
    obtain ⟨p, h1, h2, h3⟩ := h.p8 e
    exact ⟨p, h1, h2, at_if h3 fun k => k.keep hb⟩
  n67 := h.n67
  n68 := h.n68
  n78 := h.n78
  k6 := h.k6
  k7 := h.k7
  k8 := h.k8

theorem KB.new6 (h : KB w0 W x0 x1 x2 y0 y1 y2 z0 z1 z2 L s9 s10 s11 s21 s22 s23 s24 s25 s26) (hl : L 9 = false) : KB w0 (W.alloc (.cells #[.int .i64 0, .int .i64 0, .bool false] 25)) x0 x1 x2 y0 y1 y2 z0 z1 z2 (fun j => j == 6 || L j) (.pointer (some ⟨W.heap.size, 0, none⟩)) s10 s11 s21 s22 s23 s24 s25 s26 where
  bel := h.bel.alloc h.bel.size _
  v0 := h.v0
  v1 := h.v1
  v2 := h.v2
  v3 := h.v3
  v4 := h.v4
  v5 := h.v5
  p6 := fun _ => ⟨W.heap.size, rfl, h.bel.size, by
    show (if L 9 = true then _ else _)
    rw [hl]
    exact at3_new 25 W _ _ _⟩
  p7 := fun e => by
    obtain ⟨p, h1, h2, h3⟩ := h.p7 e
    exact ⟨p, h1, h2, at_if h3 fun k => k.alloc _⟩
  p8 := fun e => by
    obtain ⟨p, h1, h2, h3⟩ := h.p8 e
    exact ⟨p, h1, h2, at_if h3 fun k => k.alloc _⟩
  n67 := fun _ e => by
    obtain ⟨p, h1, h2, h3⟩ := h.p7 e
    rw [h1]
    exact ptr_ne (by have := lt_if h3; omega)
  n68 := fun _ e => by
    obtain ⟨p, h1, h2, h3⟩ := h.p8 e
    rw [h1]
    exact ptr_ne (by have := lt_if h3; omega)
  n78 := h.n78
  k6 := fun _ => rfl
  k7 := h.k7
  k8 := h.k8

theorem KB.new7 (h : KB w0 W x0 x1 x2 y0 y1 y2 z0 z1 z2 L s9 s10 s11 s21 s22 s23 s24 s25 s26) (hl : L 10 = false) : KB w0 (W.alloc (.cells #[.int .i64 0, .int .i64 0, .bool false] 25)) x0 x1 x2 y0 y1 y2 z0 z1 z2 (fun j => j == 7 || L j) s9 (.pointer (some ⟨W.heap.size, 0, none⟩)) s11 s21 s22 s23 s24 s25 s26 where
  bel := h.bel.alloc h.bel.size _
  v0 := h.v0
  v1 := h.v1
  v2 := h.v2
  v3 := h.v3
  v4 := h.v4
  v5 := h.v5
  p6 := fun e => by
    obtain ⟨p, h1, h2, h3⟩ := h.p6 e
    exact ⟨p, h1, h2, at_if h3 fun k => k.alloc _⟩
  p7 := fun _ => ⟨W.heap.size, rfl, h.bel.size, by
    show (if L 10 = true then _ else _)
    rw [hl]
    exact at3_new 25 W _ _ _⟩
  p8 := fun e => by
    obtain ⟨p, h1, h2, h3⟩ := h.p8 e
    exact ⟨p, h1, h2, at_if h3 fun k => k.alloc _⟩
  n67 := fun e _ => by
    obtain ⟨p, h1, h2, h3⟩ := h.p6 e
    rw [h1]
    exact ptr_ne (by have := lt_if h3; omega)
  n68 := h.n68
  n78 := fun _ e => by
    obtain ⟨p, h1, h2, h3⟩ := h.p8 e
    rw [h1]
    exact ptr_ne (by have := lt_if h3; omega)
  k6 := h.k6
  k7 := fun _ => rfl
  k8 := h.k8

theorem KB.new8 (h : KB w0 W x0 x1 x2 y0 y1 y2 z0 z1 z2 L s9 s10 s11 s21 s22 s23 s24 s25 s26) (hl : L 11 = false) : KB w0 (W.alloc (.cells #[.int .i64 0, .int .i64 0, .bool false] 25)) x0 x1 x2 y0 y1 y2 z0 z1 z2 (fun j => j == 8 || L j) s9 s10 (.pointer (some ⟨W.heap.size, 0, none⟩)) s21 s22 s23 s24 s25 s26 where
  bel := h.bel.alloc h.bel.size _
  v0 := h.v0
  v1 := h.v1
  v2 := h.v2
  v3 := h.v3
  v4 := h.v4
  v5 := h.v5
  p6 := fun e => by
    obtain ⟨p, h1, h2, h3⟩ := h.p6 e
    exact ⟨p, h1, h2, at_if h3 fun k => k.alloc _⟩
  p7 := fun e => by
    obtain ⟨p, h1, h2, h3⟩ := h.p7 e
    exact ⟨p, h1, h2, at_if h3 fun k => k.alloc _⟩
  p8 := fun _ => ⟨W.heap.size, rfl, h.bel.size, by
    show (if L 11 = true then _ else _)
    rw [hl]
    exact at3_new 25 W _ _ _⟩
  n67 := h.n67
  n68 := fun e _ => by
    obtain ⟨p, h1, h2, h3⟩ := h.p6 e
    rw [h1]
    exact ptr_ne (by have := lt_if h3; omega)
  n78 := fun e _ => by
    obtain ⟨p, h1, h2, h3⟩ := h.p7 e
    rw [h1]
    exact ptr_ne (by have := lt_if h3; omega)
  k6 := h.k6
  k7 := h.k7
  k8 := fun _ => rfl

theorem KB.put9 {p : Nat} (h : KB w0 W x0 x1 x2 y0 y1 y2 z0 z1 z2 L (.pointer (some ⟨p, 0, none⟩)) s10 s11 s21 s22 s23 s24 s25 s26) (h6 : L 6 = true) (hl : L 9 = false) : KB w0 (put3 W p (.int .i64 x0) (.int .i64 x1) (.bool x2)) x0 x1 x2 y0 y1 y2 z0 z1 z2 (fun j => j == 9 || L j) (.pointer (some ⟨p, 0, none⟩)) s10 s11 s21 s22 s23 s24 s25 s26 := by
  obtain ⟨p', e, hp, hq⟩ := h.p6 h6
  have hpp : p = p' := by injection e with e; injection e with e; injection e
  subst hpp
  rw [hl] at hq
  have hz : At3 25 W p (.int .i64 0) (.int .i64 0) (.bool false) := hq
  exact {
    bel := below_put3 h.bel hp _ _ _
    v0 := h.v0
    v1 := h.v1
    v2 := h.v2
    v3 := h.v3
    v4 := h.v4
    v5 := h.v5
    p6 := fun _ => ⟨p, rfl, hp, heap_put3 hz _ _ _⟩
    p7 := fun e => by
      obtain ⟨q, h1, h2, h3⟩ := h.p7 e
      have hne := (h.n67 h6 e).symm
      rw [h1] at hne
      exact ⟨q, h1, h2, at_if h3 fun k => (put3_other _ _ _ fun e => hne (by rw [e])).trans k⟩
    p8 := fun e => by
      obtain ⟨q, h1, h2, h3⟩ := h.p8 e
      have hne := (h.n68 h6 e).symm
      rw [h1] at hne
      exact ⟨q, h1, h2, at_if h3 fun k => (put3_other _ _ _ fun e => hne (by rw [e])).trans k⟩
    n67 := h.n67
    n68 := h.n68
    n78 := h.n78
    k6 := fun _ => h6
    k7 := h.k7
    k8 := h.k8
  }

theorem KB.put10 {p : Nat} (h : KB w0 W x0 x1 x2 y0 y1 y2 z0 z1 z2 L s9 (.pointer (some ⟨p, 0, none⟩)) s11 s21 s22 s23 s24 s25 s26) (h6 : L 7 = true) (hl : L 10 = false) : KB w0 (put3 W p (.int .i64 y0) (.int .i64 y1) (.bool y2)) x0 x1 x2 y0 y1 y2 z0 z1 z2 (fun j => j == 10 || L j) s9 (.pointer (some ⟨p, 0, none⟩)) s11 s21 s22 s23 s24 s25 s26 := by
  obtain ⟨p', e, hp, hq⟩ := h.p7 h6
  have hpp : p = p' := by injection e with e; injection e with e; injection e
  subst hpp
  rw [hl] at hq
  have hz : At3 25 W p (.int .i64 0) (.int .i64 0) (.bool false) := hq
  exact {
    bel := below_put3 h.bel hp _ _ _
    v0 := h.v0
    v1 := h.v1
    v2 := h.v2
    v3 := h.v3
    v4 := h.v4
    v5 := h.v5
    p6 := fun e => by
      obtain ⟨q, h1, h2, h3⟩ := h.p6 e
      have hne := h.n67 e h6
      rw [h1] at hne
      exact ⟨q, h1, h2, at_if h3 fun k => (put3_other _ _ _ fun e => hne (by rw [e])).trans k⟩
    p7 := fun _ => ⟨p, rfl, hp, heap_put3 hz _ _ _⟩
    p8 := fun e => by
      obtain ⟨q, h1, h2, h3⟩ := h.p8 e
      have hne := (h.n78 h6 e).symm
      rw [h1] at hne
      exact ⟨q, h1, h2, at_if h3 fun k => (put3_other _ _ _ fun e => hne (by rw [e])).trans k⟩
    n67 := h.n67
    n68 := h.n68
    n78 := h.n78
    k6 := h.k6
    k7 := fun _ => h6
    k8 := h.k8
  }

theorem KB.put11 {p : Nat} (h : KB w0 W x0 x1 x2 y0 y1 y2 z0 z1 z2 L s9 s10 (.pointer (some ⟨p, 0, none⟩)) s21 s22 s23 s24 s25 s26) (h6 : L 8 = true) (hl : L 11 = false) : KB w0 (put3 W p (.int .i64 z0) (.int .i64 z1) (.bool z2)) x0 x1 x2 y0 y1 y2 z0 z1 z2 (fun j => j == 11 || L j) s9 s10 (.pointer (some ⟨p, 0, none⟩)) s21 s22 s23 s24 s25 s26 := by
  obtain ⟨p', e, hp, hq⟩ := h.p8 h6
  have hpp : p = p' := by injection e with e; injection e with e; injection e
  subst hpp
  rw [hl] at hq
  have hz : At3 25 W p (.int .i64 0) (.int .i64 0) (.bool false) := hq
  exact {
    bel := below_put3 h.bel hp _ _ _
    v0 := h.v0
    v1 := h.v1
    v2 := h.v2
    v3 := h.v3
    v4 := h.v4
    v5 := h.v5
    p6 := fun e => by
      obtain ⟨q, h1, h2, h3⟩ := h.p6 e
      have hne := h.n68 e h6
      rw [h1] at hne
      exact ⟨q, h1, h2, at_if h3 fun k => (put3_other _ _ _ fun e => hne (by rw [e])).trans k⟩
    p7 := fun e => by
      obtain ⟨q, h1, h2, h3⟩ := h.p7 e
      have hne := h.n78 e h6
      rw [h1] at hne
      exact ⟨q, h1, h2, at_if h3 fun k => (put3_other _ _ _ fun e => hne (by rw [e])).trans k⟩
    p8 := fun _ => ⟨p, rfl, hp, heap_put3 hz _ _ _⟩
    n67 := h.n67
    n68 := h.n68
    n78 := h.n78
    k6 := h.k6
    k7 := h.k7
    k8 := fun _ => h6
  }

theorem text_len (k : Ky) : (bs (textK k)).size ≤ 300 := by
  rw [bs_size]
  cases h : fitK k with
  | false => rw [text_no h]; exact Nat.zero_le _
  | true =>
    have f := fitK_iff.1 h
    have h0 := f.saga0; have h1 := f.saga1; have h2 := f.step0; have h3 := f.step1
    rw [text_yes h]
    have a := Lib.itoa_length_le k.saga (by omega) (by omega)
    have b := Lib.itoa_length_le k.step (by omega) (by omega)
    have c : (tailK k).length ≤ 1 := by unfold tailK; split <;> simp
    unfold coreK
    rw [List.length_append, List.length_append, List.length_cons]
    omega

set_option maxHeartbeats 32000000 in
theorem back_any (x0 x1 : Int) (x2 : Bool) (y0 y1 : Int) (y2 : Bool) (z0 z1 : Int) (z2 : Bool) (s : ByteArray) (w : World) (hk : s.size ≤ 9223372036854775807) (hv : Laid w) : Calls Tryd.prog 5 #[kv x0 x1 x2, kv y0 y1 y2, kv z0 z1 z2, .string s] w fun e w' => e = .returned (.bool true) ∧ Below w.heap.size w w' := by
  have HV := Lib.hid (fun W (hb : Below w.heap.size w W) => hv.keep hb)
  have hB0 : Below w.heap.size w (((w.alloc (.cells #[.int .i64 x0, .int .i64 x1, .bool x2] 23)).alloc (.cells #[.int .i64 y0, .int .i64 y1, .bool y2] 23)).alloc (.cells #[.int .i64 z0, .int .i64 z1, .bool z2] 23)) := (((Below.refl _ w).alloc (Nat.le_refl _) _).alloc (by simp) _).alloc (by simp; omega) _
  have hA0 : At3 23 (((w.alloc (.cells #[.int .i64 x0, .int .i64 x1, .bool x2] 23)).alloc (.cells #[.int .i64 y0, .int .i64 y1, .bool y2] 23)).alloc (.cells #[.int .i64 z0, .int .i64 z1, .bool z2] 23)) w.heap.size (.int .i64 x0) (.int .i64 x1) (.bool x2) := ((at3_new 23 w (.int .i64 x0) (.int .i64 x1) (.bool x2)).alloc _).alloc _
  have hY0 := (at3_new 23 (w.alloc (.cells #[.int .i64 x0, .int .i64 x1, .bool x2] 23)) (.int .i64 y0) (.int .i64 y1) (.bool y2)).alloc (.cells #[.int .i64 z0, .int .i64 z1, .bool z2] 23)
  rw [World.size_alloc] at hY0
  have hZ0 := at3_new 23 ((w.alloc (.cells #[.int .i64 x0, .int .i64 x1, .bool x2] 23)).alloc (.cells #[.int .i64 y0, .int .i64 y1, .bool y2] 23)) (.int .i64 z0) (.int .i64 z1) (.bool z2)
  rw [World.size_alloc, World.size_alloc] at hZ0
  obtain ⟨w0, hw0⟩ : ∃ w0, (((w.alloc (.cells #[.int .i64 x0, .int .i64 x1, .bool x2] 23)).alloc (.cells #[.int .i64 y0, .int .i64 y1, .bool y2] 23)).alloc (.cells #[.int .i64 z0, .int .i64 z1, .bool z2] 23)) = w0 := ⟨_, rfl⟩
  rw [hw0] at hB0 hA0 hY0 hZ0
  have HW := Lib.hid hw0
  have HB0 := Lib.hid hB0
  have HA0 := Lib.hid hA0
  have HY0 := Lib.hid hY0
  have HZ0 := Lib.hid hZ0
  clear hw0 hB0 hA0 hY0 hZ0 hv
  by_cases h60 : 60 < s.size
  · have hi : (60 : Int) < (s.size : Int) := by omega
    have CW := Lib.hid (awake_any w0 (HV.out _ HB0.out))
    go_enter Tryd.func5, Tryd.ntmps5
    go_wp2_with fail
    rw [show (((w.alloc (.cells #[.int .i64 x0, .int .i64 x1, .bool x2] 23)).alloc (.cells #[.int .i64 y0, .int .i64 y1, .bool y2] 23)).alloc (.cells #[.int .i64 z0, .int .i64 z1, .bool z2] 23)) = w0 from HW.out]
    refine CW.out.mono ?_
    rintro e w2 ⟨rfl, hb⟩
    have HB := Lib.hid (below_keep HB0.out hb HB0.out.size)
    clear hb
    go_wp2_with fail
    go_ret
    exact ⟨rfl, HB.out⟩
  have hi : ¬ (60 : Int) < (s.size : Int) := by omega
  have HS3 : Hid (s.size ≤ 300) := by show _ ≤ _; omega
  clear h60
  go_enter Tryd.func5, Tryd.ntmps5
  go_wp2_with fail
  rw [show (((w.alloc (.cells #[.int .i64 x0, .int .i64 x1, .bool x2] 23)).alloc (.cells #[.int .i64 y0, .int .i64 y1, .bool y2] 23)).alloc (.cells #[.int .i64 z0, .int .i64 z1, .bool z2] 23)) = w0 from HW.out]
  refine Inv.wp_region_inv (fun L a W => ∃ s9 s10 s11 s21 s22 s23 s24 s25 s26 : Value, a = ⟨#[kv x0 x1 x2, kv y0 y1 y2, kv z0 z1 z2, .string s, .pointer (some ⟨w.heap.size, 0, none⟩), .pointer (some ⟨(w.heap.size + 1), 0, none⟩), .pointer (some ⟨(w.heap.size + 2), 0, none⟩), undef, .bool false, s9, s10, s11, undef, undef, undef, undef, undef, .string s, .int .i64 (s.size : Int), .bool false, undef, s21, s22, s23, s24, s25, s26, undef, undef, undef, undef, undef, undef, undef, undef, undef, undef, undef, undef, undef, undef, undef, undef, undef, undef, undef, undef, undef, undef, undef, undef, undef, undef, undef, undef, undef, undef, undef, undef, undef, undef, undef, undef, undef, undef, undef, undef, undef, undef, undef, undef, undef, undef, undef, undef, undef, undef, undef, undef, undef, undef, undef, undef, undef, undef, undef, undef, undef, undef, undef, undef, undef], []⟩ ∧ KB w0 W x0 x1 x2 y0 y1 y2 z0 z1 z2 L s9 s10 s11 s21 s22 s23 s24 s25 s26) (by kernel_rfl) (by kernel_rfl) ⟨undef, undef, undef, undef, undef, undef, undef, undef, undef, rfl, KB.start w0⟩ (Inv.AllFrom.cons ?_ (Inv.AllFrom.cons ?_ (Inv.AllFrom.cons ?_ (Inv.AllFrom.cons ?_ (Inv.AllFrom.cons ?_ (Inv.AllFrom.cons ?_ (Inv.AllFrom.cons ?_ (Inv.AllFrom.cons ?_ (Inv.AllFrom.cons ?_ (Inv.AllFrom.cons ?_ (Inv.AllFrom.cons ?_ (Inv.AllFrom.cons ?_ (Inv.AllFrom.nil (by kernel_rfl)))))))))))))) ?_
  · refine Inv.StepOk.mk rfl [] (by kernel_rfl) ?_
    rintro L a W ⟨s9, s10, s11, s21, s22, s23, s24, s25, s26, rfl, h⟩ hL hd K hK
    obtain ⟨q0, q1, q2⟩ := cells3 ((HA0.out).keep h.bel)
    clear hd
    go_simp
    exact hK _ _ ⟨s9, s10, s11, _, s22, s23, s24, s25, s26, rfl, h.val0 (Below.refl _ _)⟩
  · refine Inv.StepOk.mk rfl [0] (by kernel_rfl) ?_
    rintro L a W ⟨s9, s10, s11, s21, s22, s23, s24, s25, s26, rfl, h⟩ hL hd K hK
    obtain rfl := h.v0 (hd 0 (by simp))
    clear hd
    go_simp
    refine (of_is x0 x1 x2 _).mono ?_
    rintro e w' ⟨rfl, hb⟩
    exact hK _ _ ⟨s9, s10, s11, _, _, s23, s24, s25, s26, rfl, h.val1 hb⟩
  · refine Inv.StepOk.mk rfl [] (by kernel_rfl) ?_
    rintro L a W ⟨s9, s10, s11, s21, s22, s23, s24, s25, s26, rfl, h⟩ hL hd K hK
    obtain ⟨q0, q1, q2⟩ := cells3 ((HY0.out).keep h.bel)
    clear hd
    go_simp
    exact hK _ _ ⟨s9, s10, s11, s21, s22, _, s24, s25, s26, rfl, h.val2 (Below.refl _ _)⟩
  · refine Inv.StepOk.mk rfl [2] (by kernel_rfl) ?_
    rintro L a W ⟨s9, s10, s11, s21, s22, s23, s24, s25, s26, rfl, h⟩ hL hd K hK
    obtain rfl := h.v2 (hd 2 (by simp))
    clear hd
    go_simp
    refine (of_is y0 y1 y2 _).mono ?_
    rintro e w' ⟨rfl, hb⟩
    exact hK _ _ ⟨s9, s10, s11, s21, s22, _, _, s25, s26, rfl, h.val3 hb⟩
  · refine Inv.StepOk.mk rfl [] (by kernel_rfl) ?_
    rintro L a W ⟨s9, s10, s11, s21, s22, s23, s24, s25, s26, rfl, h⟩ hL hd K hK
    obtain ⟨q0, q1, q2⟩ := cells3 ((HZ0.out).keep h.bel)
    clear hd
    go_simp
    exact hK _ _ ⟨s9, s10, s11, s21, s22, s23, s24, _, s26, rfl, h.val4 (Below.refl _ _)⟩
  · refine Inv.StepOk.mk rfl [4] (by kernel_rfl) ?_
    rintro L a W ⟨s9, s10, s11, s21, s22, s23, s24, s25, s26, rfl, h⟩ hL hd K hK
    obtain rfl := h.v4 (hd 4 (by simp))
    clear hd
    go_simp
    refine (of_is z0 z1 z2 _).mono ?_
    rintro e w' ⟨rfl, hb⟩
    exact hK _ _ ⟨s9, s10, s11, s21, s22, s23, s24, _, _, rfl, h.val5 hb⟩
  · refine Inv.StepOk.mk rfl [] (by kernel_rfl) ?_
    rintro L a W ⟨s9, s10, s11, s21, s22, s23, s24, s25, s26, rfl, h⟩ hL hd K hK
    have hl : L 9 = false := by
      cases e : L 9 with
      | false => rfl
      | true => have := h.k6 e; rw [hL] at this; cases this
    clear hd
    go_simp
    exact hK _ _ ⟨_, s10, s11, s21, s22, s23, s24, s25, s26, rfl, h.new6 hl⟩
  · refine Inv.StepOk.mk rfl [] (by kernel_rfl) ?_
    rintro L a W ⟨s9, s10, s11, s21, s22, s23, s24, s25, s26, rfl, h⟩ hL hd K hK
    have hl : L 10 = false := by
      cases e : L 10 with
      | false => rfl
      | true => have := h.k7 e; rw [hL] at this; cases this
    clear hd
    go_simp
    exact hK _ _ ⟨s9, _, s11, s21, s22, s23, s24, s25, s26, rfl, h.new7 hl⟩
  · refine Inv.StepOk.mk rfl [] (by kernel_rfl) ?_
    rintro L a W ⟨s9, s10, s11, s21, s22, s23, s24, s25, s26, rfl, h⟩ hL hd K hK
    have hl : L 11 = false := by
      cases e : L 11 with
      | false => rfl
      | true => have := h.k8 e; rw [hL] at this; cases this
    clear hd
    go_simp
    exact hK _ _ ⟨s9, s10, _, s21, s22, s23, s24, s25, s26, rfl, h.new8 hl⟩
  · refine Inv.StepOk.mk rfl [6, 1] (by kernel_rfl) ?_
    rintro L a W ⟨s9, s10, s11, s21, s22, s23, s24, s25, s26, rfl, h⟩ hL hd K hK
    obtain rfl := h.v1 (hd 1 (by simp))
    have h6 := hd 6 (by simp)
    obtain ⟨p, rfl, _, hp⟩ := h.p6 h6
    rw [hL] at hp
    have hp : At3 25 W p (.int .i64 0) (.int .i64 0) (.bool false) := hp
    obtain ⟨q0, q1, q2⟩ := cells3 hp
    obtain ⟨f0, f1, f2⟩ := free3 hp
    clear hd
    go_simp
    exact hK _ _ ⟨_, s10, s11, s21, _, s23, s24, s25, s26, rfl, h.put9 h6 hL⟩
  · refine Inv.StepOk.mk rfl [7, 3] (by kernel_rfl) ?_
    rintro L a W ⟨s9, s10, s11, s21, s22, s23, s24, s25, s26, rfl, h⟩ hL hd K hK
    obtain rfl := h.v3 (hd 3 (by simp))
    have h6 := hd 7 (by simp)
    obtain ⟨p, rfl, _, hp⟩ := h.p7 h6
    rw [hL] at hp
    have hp : At3 25 W p (.int .i64 0) (.int .i64 0) (.bool false) := hp
    obtain ⟨q0, q1, q2⟩ := cells3 hp
    obtain ⟨f0, f1, f2⟩ := free3 hp
    clear hd
    go_simp
    exact hK _ _ ⟨s9, _, s11, s21, s22, s23, _, s25, s26, rfl, h.put10 h6 hL⟩
  · refine Inv.StepOk.mk rfl [8, 5] (by kernel_rfl) ?_
    rintro L a W ⟨s9, s10, s11, s21, s22, s23, s24, s25, s26, rfl, h⟩ hL hd K hK
    obtain rfl := h.v5 (hd 5 (by simp))
    have h6 := hd 8 (by simp)
    obtain ⟨p, rfl, _, hp⟩ := h.p8 h6
    rw [hL] at hp
    have hp : At3 25 W p (.int .i64 0) (.int .i64 0) (.bool false) := hp
    obtain ⟨q0, q1, q2⟩ := cells3 hp
    obtain ⟨f0, f1, f2⟩ := free3 hp
    clear hd
    go_simp
    exact hK _ _ ⟨s9, s10, _, s21, s22, s23, s24, s25, _, rfl, h.put11 h6 hL⟩
  rintro L a W ⟨s9, s10, s11, s21, s22, s23, s24, s25, s26, rfl, h⟩ hall
  obtain ⟨p, rfl, hp0, hp⟩ := h.p6 (hall 6 (by decide))
  obtain ⟨q, rfl, hq0, hq⟩ := h.p7 (hall 7 (by decide))
  obtain ⟨r, rfl, hr0, hr⟩ := h.p8 (hall 8 (by decide))
  rw [hall 9 (by decide)] at hp
  rw [hall 10 (by decide)] at hq
  rw [hall 11 (by decide)] at hr
  have HB0' := Lib.hid (below_keep HB0.out h.bel HB0.out.size)
  have HCp0 : Hid (At3 25 W p (.int .i64 x0) (.int .i64 x1) (.bool x2)) := hp
  have HCq0 : Hid (At3 25 W q (.int .i64 y0) (.int .i64 y1) (.bool y2)) := hq
  have HCr0 : Hid (At3 25 W r (.int .i64 z0) (.int .i64 z1) (.bool z2)) := hr
  clear h hall hp hq hr hp0 hq0 hr0 HA0 HY0 HZ0 HB0
  have HB0 := HB0'
  clear HB0'
  cases hr : readK s.data.toList with
  | none =>
    have HX : Hid (gotK (readK s.data.toList) = ⟨0, 0, false⟩) := by show _ = _; rw [hr]; rfl
    have HE : Hid (errK (readK s.data.toList) = 7) := by show _ = _; rw [hr]; rfl
    clear hr
    cases hf : fitK ⟨x0, x1, x2⟩ with
    | false =>
      have HF := Lib.hid hf
      clear hf
      rcases below_one ⟨x0, x1, x2⟩ ⟨y0, y1, y2⟩ with ⟨h1, h2, h3⟩ | ⟨h1, h2, h3⟩ | ⟨h1, h2, h3⟩
      · have HV1 := Lib.hid h1
        have HV2 := Lib.hid h2
        have HQ := Lib.hid h3
        cases h4 : belowK ⟨y0, y1, y2⟩ ⟨z0, z1, z2⟩ with
        | false =>
          have HV3 := Lib.hid h4
          clear h1 h2 h3 h4
          have qe := fun w => eql_ky x0 x1 x2 y0 y1 y2 w
          rw [HQ.out] at qe
          have qg := fun a b w => guard_ky .eql a b x0 x1 x2 y0 y1 y2 w
          obtain ⟨p0, p1, p2⟩ := cells3 HCp0.out
          obtain ⟨q0, q1, q2⟩ := cells3 HCq0.out
          obtain ⟨r0, r1, r2⟩ := cells3 HCr0.out
          have C := Lib.hid (read_is s 0 0 false 7 HX.out HE.out HS3.out W (HV.out W HB0.out).2)
          go_wp2_with fail
          refine C.out.mono ?_
          rintro e w1 ⟨rfl, hb⟩
          have hb2 := below_keep HB0.out hb HB0.out.size
          have HB1 := Lib.hid (hb2.alloc hb2.size (.cells #[.int .i64 0, .int .i64 0, .bool false] 25))
          have HCp1 := Lib.hid ((At3.keep HCp0.out hb).alloc (.cells #[.int .i64 0, .int .i64 0, .bool false] 25))
          have HCq1 := Lib.hid ((At3.keep HCq0.out hb).alloc (.cells #[.int .i64 0, .int .i64 0, .bool false] 25))
          have HCr1 := Lib.hid ((At3.keep HCr0.out hb).alloc (.cells #[.int .i64 0, .int .i64 0, .bool false] 25))
          have HCkk1 := Lib.hid (at3_new 25 w1 (.int .i64 0) (.int .i64 0) (.bool false))
          obtain ⟨kk, hkk⟩ : ∃ kk, w1.heap.size = kk := ⟨_, rfl⟩
          obtain ⟨u1, hu1⟩ : ∃ u1, w1.alloc (.cells #[.int .i64 0, .int .i64 0, .bool false] 25) = u1 := ⟨_, rfl⟩
          clear p0 p1 p2 q0 q1 q2 r0 r1 r2
          rw [hu1] at HB1 HCp1 HCq1 HCr1 HCkk1
          rw [hkk] at HCkk1
          have HU1 := Lib.hid hu1
          have HNkk := Lib.hid hkk
          clear hb hb2 hu1 hkk C
          obtain ⟨p0, p1, p2⟩ := cells3 HCp1.out
          obtain ⟨q0, q1, q2⟩ := cells3 HCq1.out
          obtain ⟨r0, r1, r2⟩ := cells3 HCr1.out
          obtain ⟨kk0, kk1, kk2⟩ := cells3 HCkk1.out
          rw [← show w1.alloc (.cells #[.int .i64 0, .int .i64 0, .bool false] 25) = u1 from HU1.out] at p0 p1 p2 q0 q1 q2 r0 r1 r2 kk0 kk1 kk2
          rw [← show w1.heap.size = kk from HNkk.out] at kk0 kk1 kk2
          have C := Lib.hid (fit_is x0 x1 x2 false HF.out u1)
          go_wp2_with fail
          rw [show w1.alloc (.cells #[.int .i64 0, .int .i64 0, .bool false] 25) = u1 from HU1.out]
          rw [show w1.heap.size = kk from HNkk.out]
          refine C.out.mono ?_
          rintro e w2 ⟨rfl, hb⟩
          have HB2 := Lib.hid (below_keep HB1.out hb HB1.out.size)
          have HCp2 := Lib.hid (At3.keep HCp1.out hb)
          have HCq2 := Lib.hid (At3.keep HCq1.out hb)
          have HCr2 := Lib.hid (At3.keep HCr1.out hb)
          have HCkk2 := Lib.hid (At3.keep HCkk1.out hb)
          clear hb C
          clear p0 p1 p2 q0 q1 q2 r0 r1 r2 kk0 kk1 kk2
          obtain ⟨p0, p1, p2⟩ := cells3 HCp2.out
          obtain ⟨q0, q1, q2⟩ := cells3 HCq2.out
          obtain ⟨r0, r1, r2⟩ := cells3 HCr2.out
          obtain ⟨kk0, kk1, kk2⟩ := cells3 HCkk2.out
          have C := Lib.hid (below_is x0 x1 x2 y0 y1 y2 true HV1.out w2)
          go_wp2_with fail
          refine C.out.mono ?_
          rintro e w3 ⟨rfl, hb⟩
          have HB3 := Lib.hid (below_keep HB2.out hb HB2.out.size)
          have HCp3 := Lib.hid (At3.keep HCp2.out hb)
          have HCq3 := Lib.hid (At3.keep HCq2.out hb)
          have HCr3 := Lib.hid (At3.keep HCr2.out hb)
          have HCkk3 := Lib.hid (At3.keep HCkk2.out hb)
          clear hb C
          clear p0 p1 p2 q0 q1 q2 r0 r1 r2 kk0 kk1 kk2
          obtain ⟨p0, p1, p2⟩ := cells3 HCp3.out
          obtain ⟨q0, q1, q2⟩ := cells3 HCq3.out
          obtain ⟨r0, r1, r2⟩ := cells3 HCr3.out
          obtain ⟨kk0, kk1, kk2⟩ := cells3 HCkk3.out
          have C := Lib.hid (below_is y0 y1 y2 x0 x1 x2 false HV2.out w3)
          go_wp2_with fail
          refine C.out.mono ?_
          rintro e w4 ⟨rfl, hb⟩
          have HB4 := Lib.hid (below_keep HB3.out hb HB3.out.size)
          have HCp4 := Lib.hid (At3.keep HCp3.out hb)
          have HCq4 := Lib.hid (At3.keep HCq3.out hb)
          have HCr4 := Lib.hid (At3.keep HCr3.out hb)
          have HCkk4 := Lib.hid (At3.keep HCkk3.out hb)
          clear hb C
          clear p0 p1 p2 q0 q1 q2 r0 r1 r2 kk0 kk1 kk2
          obtain ⟨p0, p1, p2⟩ := cells3 HCp4.out
          obtain ⟨q0, q1, q2⟩ := cells3 HCq4.out
          obtain ⟨r0, r1, r2⟩ := cells3 HCr4.out
          obtain ⟨kk0, kk1, kk2⟩ := cells3 HCkk4.out
          have C := Lib.hid (below_is x0 x1 x2 y0 y1 y2 true HV1.out w4)
          go_wp2_with fail
          refine C.out.mono ?_
          rintro e w5 ⟨rfl, hb⟩
          have HB5 := Lib.hid (below_keep HB4.out hb HB4.out.size)
          have HCp5 := Lib.hid (At3.keep HCp4.out hb)
          have HCq5 := Lib.hid (At3.keep HCq4.out hb)
          have HCr5 := Lib.hid (At3.keep HCr4.out hb)
          have HCkk5 := Lib.hid (At3.keep HCkk4.out hb)
          clear hb C
          clear p0 p1 p2 q0 q1 q2 r0 r1 r2 kk0 kk1 kk2
          obtain ⟨p0, p1, p2⟩ := cells3 HCp5.out
          obtain ⟨q0, q1, q2⟩ := cells3 HCq5.out
          obtain ⟨r0, r1, r2⟩ := cells3 HCr5.out
          obtain ⟨kk0, kk1, kk2⟩ := cells3 HCkk5.out
          have C := Lib.hid (below_is y0 y1 y2 z0 z1 z2 false HV3.out w5)
          go_wp2_with fail
          refine C.out.mono ?_
          rintro e w6 ⟨rfl, hb⟩
          have HB6 := Lib.hid (below_keep HB5.out hb HB5.out.size)
          have HCp6 := Lib.hid (At3.keep HCp5.out hb)
          have HCq6 := Lib.hid (At3.keep HCq5.out hb)
          have HCr6 := Lib.hid (At3.keep HCr5.out hb)
          have HCkk6 := Lib.hid (At3.keep HCkk5.out hb)
          clear hb C
          clear p0 p1 p2 q0 q1 q2 r0 r1 r2 kk0 kk1 kk2
          obtain ⟨p0, p1, p2⟩ := cells3 HCp6.out
          obtain ⟨q0, q1, q2⟩ := cells3 HCq6.out
          obtain ⟨r0, r1, r2⟩ := cells3 HCr6.out
          obtain ⟨kk0, kk1, kk2⟩ := cells3 HCkk6.out
          have C := Lib.hid (awake_any w6 (HV.out w6 HB6.out))
          go_wp2_with fail
          refine C.out.mono ?_
          rintro e w7 ⟨rfl, hb⟩
          have HB7 := Lib.hid (below_keep HB6.out hb HB6.out.size)
          have HCp7 := Lib.hid (At3.keep HCp6.out hb)
          have HCq7 := Lib.hid (At3.keep HCq6.out hb)
          have HCr7 := Lib.hid (At3.keep HCr6.out hb)
          have HCkk7 := Lib.hid (At3.keep HCkk6.out hb)
          clear hb C
          clear p0 p1 p2 q0 q1 q2 r0 r1 r2 kk0 kk1 kk2
          obtain ⟨p0, p1, p2⟩ := cells3 HCp7.out
          obtain ⟨q0, q1, q2⟩ := cells3 HCq7.out
          obtain ⟨r0, r1, r2⟩ := cells3 HCr7.out
          obtain ⟨kk0, kk1, kk2⟩ := cells3 HCkk7.out
          go_wp2_with fail
          go_ret
          exact ⟨rfl, HB7.out⟩
        | true =>
          have HV3 := Lib.hid h4
          have HV4 := Lib.hid (below_trans h1 h4)
          clear h1 h2 h3 h4
          have qe := fun w => eql_ky x0 x1 x2 y0 y1 y2 w
          rw [HQ.out] at qe
          have qg := fun a b w => guard_ky .eql a b x0 x1 x2 y0 y1 y2 w
          obtain ⟨p0, p1, p2⟩ := cells3 HCp0.out
          obtain ⟨q0, q1, q2⟩ := cells3 HCq0.out
          obtain ⟨r0, r1, r2⟩ := cells3 HCr0.out
          have C := Lib.hid (read_is s 0 0 false 7 HX.out HE.out HS3.out W (HV.out W HB0.out).2)
          go_wp2_with fail
          refine C.out.mono ?_
          rintro e w1 ⟨rfl, hb⟩
          have hb2 := below_keep HB0.out hb HB0.out.size
          have HB1 := Lib.hid (hb2.alloc hb2.size (.cells #[.int .i64 0, .int .i64 0, .bool false] 25))
          have HCp1 := Lib.hid ((At3.keep HCp0.out hb).alloc (.cells #[.int .i64 0, .int .i64 0, .bool false] 25))
          have HCq1 := Lib.hid ((At3.keep HCq0.out hb).alloc (.cells #[.int .i64 0, .int .i64 0, .bool false] 25))
          have HCr1 := Lib.hid ((At3.keep HCr0.out hb).alloc (.cells #[.int .i64 0, .int .i64 0, .bool false] 25))
          have HCkk1 := Lib.hid (at3_new 25 w1 (.int .i64 0) (.int .i64 0) (.bool false))
          obtain ⟨kk, hkk⟩ : ∃ kk, w1.heap.size = kk := ⟨_, rfl⟩
          obtain ⟨u1, hu1⟩ : ∃ u1, w1.alloc (.cells #[.int .i64 0, .int .i64 0, .bool false] 25) = u1 := ⟨_, rfl⟩
          clear p0 p1 p2 q0 q1 q2 r0 r1 r2
          rw [hu1] at HB1 HCp1 HCq1 HCr1 HCkk1
          rw [hkk] at HCkk1
          have HU1 := Lib.hid hu1
          have HNkk := Lib.hid hkk
          clear hb hb2 hu1 hkk C
          obtain ⟨p0, p1, p2⟩ := cells3 HCp1.out
          obtain ⟨q0, q1, q2⟩ := cells3 HCq1.out
          obtain ⟨r0, r1, r2⟩ := cells3 HCr1.out
          obtain ⟨kk0, kk1, kk2⟩ := cells3 HCkk1.out
          rw [← show w1.alloc (.cells #[.int .i64 0, .int .i64 0, .bool false] 25) = u1 from HU1.out] at p0 p1 p2 q0 q1 q2 r0 r1 r2 kk0 kk1 kk2
          rw [← show w1.heap.size = kk from HNkk.out] at kk0 kk1 kk2
          have C := Lib.hid (fit_is x0 x1 x2 false HF.out u1)
          go_wp2_with fail
          rw [show w1.alloc (.cells #[.int .i64 0, .int .i64 0, .bool false] 25) = u1 from HU1.out]
          rw [show w1.heap.size = kk from HNkk.out]
          refine C.out.mono ?_
          rintro e w2 ⟨rfl, hb⟩
          have HB2 := Lib.hid (below_keep HB1.out hb HB1.out.size)
          have HCp2 := Lib.hid (At3.keep HCp1.out hb)
          have HCq2 := Lib.hid (At3.keep HCq1.out hb)
          have HCr2 := Lib.hid (At3.keep HCr1.out hb)
          have HCkk2 := Lib.hid (At3.keep HCkk1.out hb)
          clear hb C
          clear p0 p1 p2 q0 q1 q2 r0 r1 r2 kk0 kk1 kk2
          obtain ⟨p0, p1, p2⟩ := cells3 HCp2.out
          obtain ⟨q0, q1, q2⟩ := cells3 HCq2.out
          obtain ⟨r0, r1, r2⟩ := cells3 HCr2.out
          obtain ⟨kk0, kk1, kk2⟩ := cells3 HCkk2.out
          have C := Lib.hid (below_is x0 x1 x2 y0 y1 y2 true HV1.out w2)
          go_wp2_with fail
          refine C.out.mono ?_
          rintro e w3 ⟨rfl, hb⟩
          have HB3 := Lib.hid (below_keep HB2.out hb HB2.out.size)
          have HCp3 := Lib.hid (At3.keep HCp2.out hb)
          have HCq3 := Lib.hid (At3.keep HCq2.out hb)
          have HCr3 := Lib.hid (At3.keep HCr2.out hb)
          have HCkk3 := Lib.hid (At3.keep HCkk2.out hb)
          clear hb C
          clear p0 p1 p2 q0 q1 q2 r0 r1 r2 kk0 kk1 kk2
          obtain ⟨p0, p1, p2⟩ := cells3 HCp3.out
          obtain ⟨q0, q1, q2⟩ := cells3 HCq3.out
          obtain ⟨r0, r1, r2⟩ := cells3 HCr3.out
          obtain ⟨kk0, kk1, kk2⟩ := cells3 HCkk3.out
          have C := Lib.hid (below_is y0 y1 y2 x0 x1 x2 false HV2.out w3)
          go_wp2_with fail
          refine C.out.mono ?_
          rintro e w4 ⟨rfl, hb⟩
          have HB4 := Lib.hid (below_keep HB3.out hb HB3.out.size)
          have HCp4 := Lib.hid (At3.keep HCp3.out hb)
          have HCq4 := Lib.hid (At3.keep HCq3.out hb)
          have HCr4 := Lib.hid (At3.keep HCr3.out hb)
          have HCkk4 := Lib.hid (At3.keep HCkk3.out hb)
          clear hb C
          clear p0 p1 p2 q0 q1 q2 r0 r1 r2 kk0 kk1 kk2
          obtain ⟨p0, p1, p2⟩ := cells3 HCp4.out
          obtain ⟨q0, q1, q2⟩ := cells3 HCq4.out
          obtain ⟨r0, r1, r2⟩ := cells3 HCr4.out
          obtain ⟨kk0, kk1, kk2⟩ := cells3 HCkk4.out
          have C := Lib.hid (below_is x0 x1 x2 y0 y1 y2 true HV1.out w4)
          go_wp2_with fail
          refine C.out.mono ?_
          rintro e w5 ⟨rfl, hb⟩
          have HB5 := Lib.hid (below_keep HB4.out hb HB4.out.size)
          have HCp5 := Lib.hid (At3.keep HCp4.out hb)
          have HCq5 := Lib.hid (At3.keep HCq4.out hb)
          have HCr5 := Lib.hid (At3.keep HCr4.out hb)
          have HCkk5 := Lib.hid (At3.keep HCkk4.out hb)
          clear hb C
          clear p0 p1 p2 q0 q1 q2 r0 r1 r2 kk0 kk1 kk2
          obtain ⟨p0, p1, p2⟩ := cells3 HCp5.out
          obtain ⟨q0, q1, q2⟩ := cells3 HCq5.out
          obtain ⟨r0, r1, r2⟩ := cells3 HCr5.out
          obtain ⟨kk0, kk1, kk2⟩ := cells3 HCkk5.out
          have C := Lib.hid (below_is y0 y1 y2 z0 z1 z2 true HV3.out w5)
          go_wp2_with fail
          refine C.out.mono ?_
          rintro e w6 ⟨rfl, hb⟩
          have HB6 := Lib.hid (below_keep HB5.out hb HB5.out.size)
          have HCp6 := Lib.hid (At3.keep HCp5.out hb)
          have HCq6 := Lib.hid (At3.keep HCq5.out hb)
          have HCr6 := Lib.hid (At3.keep HCr5.out hb)
          have HCkk6 := Lib.hid (At3.keep HCkk5.out hb)
          clear hb C
          clear p0 p1 p2 q0 q1 q2 r0 r1 r2 kk0 kk1 kk2
          obtain ⟨p0, p1, p2⟩ := cells3 HCp6.out
          obtain ⟨q0, q1, q2⟩ := cells3 HCq6.out
          obtain ⟨r0, r1, r2⟩ := cells3 HCr6.out
          obtain ⟨kk0, kk1, kk2⟩ := cells3 HCkk6.out
          have C := Lib.hid (below_is x0 x1 x2 z0 z1 z2 true HV4.out w6)
          go_wp2_with fail
          refine C.out.mono ?_
          rintro e w7 ⟨rfl, hb⟩
          have HB7 := Lib.hid (below_keep HB6.out hb HB6.out.size)
          have HCp7 := Lib.hid (At3.keep HCp6.out hb)
          have HCq7 := Lib.hid (At3.keep HCq6.out hb)
          have HCr7 := Lib.hid (At3.keep HCr6.out hb)
          have HCkk7 := Lib.hid (At3.keep HCkk6.out hb)
          clear hb C
          clear p0 p1 p2 q0 q1 q2 r0 r1 r2 kk0 kk1 kk2
          obtain ⟨p0, p1, p2⟩ := cells3 HCp7.out
          obtain ⟨q0, q1, q2⟩ := cells3 HCq7.out
          obtain ⟨r0, r1, r2⟩ := cells3 HCr7.out
          obtain ⟨kk0, kk1, kk2⟩ := cells3 HCkk7.out
          have C := Lib.hid (awake_any w7 (HV.out w7 HB7.out))
          go_wp2_with fail
          refine C.out.mono ?_
          rintro e w8 ⟨rfl, hb⟩
          have HB8 := Lib.hid (below_keep HB7.out hb HB7.out.size)
          have HCp8 := Lib.hid (At3.keep HCp7.out hb)
          have HCq8 := Lib.hid (At3.keep HCq7.out hb)
          have HCr8 := Lib.hid (At3.keep HCr7.out hb)
          have HCkk8 := Lib.hid (At3.keep HCkk7.out hb)
          clear hb C
          clear p0 p1 p2 q0 q1 q2 r0 r1 r2 kk0 kk1 kk2
          obtain ⟨p0, p1, p2⟩ := cells3 HCp8.out
          obtain ⟨q0, q1, q2⟩ := cells3 HCq8.out
          obtain ⟨r0, r1, r2⟩ := cells3 HCr8.out
          obtain ⟨kk0, kk1, kk2⟩ := cells3 HCkk8.out
          go_wp2_with fail
          go_ret
          exact ⟨rfl, HB8.out⟩
      · have HV1 := Lib.hid h1
        have HV2 := Lib.hid h2
        have HQ := Lib.hid h3
        clear h1 h2 h3
        have qe := fun w => eql_ky x0 x1 x2 y0 y1 y2 w
        rw [HQ.out] at qe
        have qg := fun a b w => guard_ky .eql a b x0 x1 x2 y0 y1 y2 w
        obtain ⟨p0, p1, p2⟩ := cells3 HCp0.out
        obtain ⟨q0, q1, q2⟩ := cells3 HCq0.out
        obtain ⟨r0, r1, r2⟩ := cells3 HCr0.out
        have C := Lib.hid (read_is s 0 0 false 7 HX.out HE.out HS3.out W (HV.out W HB0.out).2)
        go_wp2_with fail
        refine C.out.mono ?_
        rintro e w1 ⟨rfl, hb⟩
        have hb2 := below_keep HB0.out hb HB0.out.size
        have HB1 := Lib.hid (hb2.alloc hb2.size (.cells #[.int .i64 0, .int .i64 0, .bool false] 25))
        have HCp1 := Lib.hid ((At3.keep HCp0.out hb).alloc (.cells #[.int .i64 0, .int .i64 0, .bool false] 25))
        have HCq1 := Lib.hid ((At3.keep HCq0.out hb).alloc (.cells #[.int .i64 0, .int .i64 0, .bool false] 25))
        have HCr1 := Lib.hid ((At3.keep HCr0.out hb).alloc (.cells #[.int .i64 0, .int .i64 0, .bool false] 25))
        have HCkk1 := Lib.hid (at3_new 25 w1 (.int .i64 0) (.int .i64 0) (.bool false))
        obtain ⟨kk, hkk⟩ : ∃ kk, w1.heap.size = kk := ⟨_, rfl⟩
        obtain ⟨u1, hu1⟩ : ∃ u1, w1.alloc (.cells #[.int .i64 0, .int .i64 0, .bool false] 25) = u1 := ⟨_, rfl⟩
        clear p0 p1 p2 q0 q1 q2 r0 r1 r2
        rw [hu1] at HB1 HCp1 HCq1 HCr1 HCkk1
        rw [hkk] at HCkk1
        have HU1 := Lib.hid hu1
        have HNkk := Lib.hid hkk
        clear hb hb2 hu1 hkk C
        obtain ⟨p0, p1, p2⟩ := cells3 HCp1.out
        obtain ⟨q0, q1, q2⟩ := cells3 HCq1.out
        obtain ⟨r0, r1, r2⟩ := cells3 HCr1.out
        obtain ⟨kk0, kk1, kk2⟩ := cells3 HCkk1.out
        rw [← show w1.alloc (.cells #[.int .i64 0, .int .i64 0, .bool false] 25) = u1 from HU1.out] at p0 p1 p2 q0 q1 q2 r0 r1 r2 kk0 kk1 kk2
        rw [← show w1.heap.size = kk from HNkk.out] at kk0 kk1 kk2
        have C := Lib.hid (fit_is x0 x1 x2 false HF.out u1)
        go_wp2_with fail
        rw [show w1.alloc (.cells #[.int .i64 0, .int .i64 0, .bool false] 25) = u1 from HU1.out]
        rw [show w1.heap.size = kk from HNkk.out]
        refine C.out.mono ?_
        rintro e w2 ⟨rfl, hb⟩
        have HB2 := Lib.hid (below_keep HB1.out hb HB1.out.size)
        have HCp2 := Lib.hid (At3.keep HCp1.out hb)
        have HCq2 := Lib.hid (At3.keep HCq1.out hb)
        have HCr2 := Lib.hid (At3.keep HCr1.out hb)
        have HCkk2 := Lib.hid (At3.keep HCkk1.out hb)
        clear hb C
        clear p0 p1 p2 q0 q1 q2 r0 r1 r2 kk0 kk1 kk2
        obtain ⟨p0, p1, p2⟩ := cells3 HCp2.out
        obtain ⟨q0, q1, q2⟩ := cells3 HCq2.out
        obtain ⟨r0, r1, r2⟩ := cells3 HCr2.out
        obtain ⟨kk0, kk1, kk2⟩ := cells3 HCkk2.out
        have C := Lib.hid (below_is x0 x1 x2 y0 y1 y2 false HV1.out w2)
        go_wp2_with fail
        refine C.out.mono ?_
        rintro e w3 ⟨rfl, hb⟩
        have HB3 := Lib.hid (below_keep HB2.out hb HB2.out.size)
        have HCp3 := Lib.hid (At3.keep HCp2.out hb)
        have HCq3 := Lib.hid (At3.keep HCq2.out hb)
        have HCr3 := Lib.hid (At3.keep HCr2.out hb)
        have HCkk3 := Lib.hid (At3.keep HCkk2.out hb)
        clear hb C
        clear p0 p1 p2 q0 q1 q2 r0 r1 r2 kk0 kk1 kk2
        obtain ⟨p0, p1, p2⟩ := cells3 HCp3.out
        obtain ⟨q0, q1, q2⟩ := cells3 HCq3.out
        obtain ⟨r0, r1, r2⟩ := cells3 HCr3.out
        obtain ⟨kk0, kk1, kk2⟩ := cells3 HCkk3.out
        have C := Lib.hid (below_is y0 y1 y2 x0 x1 x2 true HV2.out w3)
        go_wp2_with fail
        refine C.out.mono ?_
        rintro e w4 ⟨rfl, hb⟩
        have HB4 := Lib.hid (below_keep HB3.out hb HB3.out.size)
        have HCp4 := Lib.hid (At3.keep HCp3.out hb)
        have HCq4 := Lib.hid (At3.keep HCq3.out hb)
        have HCr4 := Lib.hid (At3.keep HCr3.out hb)
        have HCkk4 := Lib.hid (At3.keep HCkk3.out hb)
        clear hb C
        clear p0 p1 p2 q0 q1 q2 r0 r1 r2 kk0 kk1 kk2
        obtain ⟨p0, p1, p2⟩ := cells3 HCp4.out
        obtain ⟨q0, q1, q2⟩ := cells3 HCq4.out
        obtain ⟨r0, r1, r2⟩ := cells3 HCr4.out
        obtain ⟨kk0, kk1, kk2⟩ := cells3 HCkk4.out
        have C := Lib.hid (below_is x0 x1 x2 y0 y1 y2 false HV1.out w4)
        go_wp2_with fail
        refine C.out.mono ?_
        rintro e w5 ⟨rfl, hb⟩
        have HB5 := Lib.hid (below_keep HB4.out hb HB4.out.size)
        have HCp5 := Lib.hid (At3.keep HCp4.out hb)
        have HCq5 := Lib.hid (At3.keep HCq4.out hb)
        have HCr5 := Lib.hid (At3.keep HCr4.out hb)
        have HCkk5 := Lib.hid (At3.keep HCkk4.out hb)
        clear hb C
        clear p0 p1 p2 q0 q1 q2 r0 r1 r2 kk0 kk1 kk2
        obtain ⟨p0, p1, p2⟩ := cells3 HCp5.out
        obtain ⟨q0, q1, q2⟩ := cells3 HCq5.out
        obtain ⟨r0, r1, r2⟩ := cells3 HCr5.out
        obtain ⟨kk0, kk1, kk2⟩ := cells3 HCkk5.out
        have C := Lib.hid (awake_any w5 (HV.out w5 HB5.out))
        go_wp2_with fail
        refine C.out.mono ?_
        rintro e w6 ⟨rfl, hb⟩
        have HB6 := Lib.hid (below_keep HB5.out hb HB5.out.size)
        have HCp6 := Lib.hid (At3.keep HCp5.out hb)
        have HCq6 := Lib.hid (At3.keep HCq5.out hb)
        have HCr6 := Lib.hid (At3.keep HCr5.out hb)
        have HCkk6 := Lib.hid (At3.keep HCkk5.out hb)
        clear hb C
        clear p0 p1 p2 q0 q1 q2 r0 r1 r2 kk0 kk1 kk2
        obtain ⟨p0, p1, p2⟩ := cells3 HCp6.out
        obtain ⟨q0, q1, q2⟩ := cells3 HCq6.out
        obtain ⟨r0, r1, r2⟩ := cells3 HCr6.out
        obtain ⟨kk0, kk1, kk2⟩ := cells3 HCkk6.out
        go_wp2_with fail
        go_ret
        exact ⟨rfl, HB6.out⟩
      · have HV1 := Lib.hid h1
        have HV2 := Lib.hid h2
        have HQ := Lib.hid h3
        clear h1 h2 h3
        have qe := fun w => eql_ky x0 x1 x2 y0 y1 y2 w
        rw [HQ.out] at qe
        have qg := fun a b w => guard_ky .eql a b x0 x1 x2 y0 y1 y2 w
        obtain ⟨p0, p1, p2⟩ := cells3 HCp0.out
        obtain ⟨q0, q1, q2⟩ := cells3 HCq0.out
        obtain ⟨r0, r1, r2⟩ := cells3 HCr0.out
        have C := Lib.hid (read_is s 0 0 false 7 HX.out HE.out HS3.out W (HV.out W HB0.out).2)
        go_wp2_with fail
        refine C.out.mono ?_
        rintro e w1 ⟨rfl, hb⟩
        have hb2 := below_keep HB0.out hb HB0.out.size
        have HB1 := Lib.hid (hb2.alloc hb2.size (.cells #[.int .i64 0, .int .i64 0, .bool false] 25))
        have HCp1 := Lib.hid ((At3.keep HCp0.out hb).alloc (.cells #[.int .i64 0, .int .i64 0, .bool false] 25))
        have HCq1 := Lib.hid ((At3.keep HCq0.out hb).alloc (.cells #[.int .i64 0, .int .i64 0, .bool false] 25))
        have HCr1 := Lib.hid ((At3.keep HCr0.out hb).alloc (.cells #[.int .i64 0, .int .i64 0, .bool false] 25))
        have HCkk1 := Lib.hid (at3_new 25 w1 (.int .i64 0) (.int .i64 0) (.bool false))
        obtain ⟨kk, hkk⟩ : ∃ kk, w1.heap.size = kk := ⟨_, rfl⟩
        obtain ⟨u1, hu1⟩ : ∃ u1, w1.alloc (.cells #[.int .i64 0, .int .i64 0, .bool false] 25) = u1 := ⟨_, rfl⟩
        clear p0 p1 p2 q0 q1 q2 r0 r1 r2
        rw [hu1] at HB1 HCp1 HCq1 HCr1 HCkk1
        rw [hkk] at HCkk1
        have HU1 := Lib.hid hu1
        have HNkk := Lib.hid hkk
        clear hb hb2 hu1 hkk C
        obtain ⟨p0, p1, p2⟩ := cells3 HCp1.out
        obtain ⟨q0, q1, q2⟩ := cells3 HCq1.out
        obtain ⟨r0, r1, r2⟩ := cells3 HCr1.out
        obtain ⟨kk0, kk1, kk2⟩ := cells3 HCkk1.out
        rw [← show w1.alloc (.cells #[.int .i64 0, .int .i64 0, .bool false] 25) = u1 from HU1.out] at p0 p1 p2 q0 q1 q2 r0 r1 r2 kk0 kk1 kk2
        rw [← show w1.heap.size = kk from HNkk.out] at kk0 kk1 kk2
        have C := Lib.hid (fit_is x0 x1 x2 false HF.out u1)
        go_wp2_with fail
        rw [show w1.alloc (.cells #[.int .i64 0, .int .i64 0, .bool false] 25) = u1 from HU1.out]
        rw [show w1.heap.size = kk from HNkk.out]
        refine C.out.mono ?_
        rintro e w2 ⟨rfl, hb⟩
        have HB2 := Lib.hid (below_keep HB1.out hb HB1.out.size)
        have HCp2 := Lib.hid (At3.keep HCp1.out hb)
        have HCq2 := Lib.hid (At3.keep HCq1.out hb)
        have HCr2 := Lib.hid (At3.keep HCr1.out hb)
        have HCkk2 := Lib.hid (At3.keep HCkk1.out hb)
        clear hb C
        clear p0 p1 p2 q0 q1 q2 r0 r1 r2 kk0 kk1 kk2
        obtain ⟨p0, p1, p2⟩ := cells3 HCp2.out
        obtain ⟨q0, q1, q2⟩ := cells3 HCq2.out
        obtain ⟨r0, r1, r2⟩ := cells3 HCr2.out
        obtain ⟨kk0, kk1, kk2⟩ := cells3 HCkk2.out
        have C := Lib.hid (below_is x0 x1 x2 y0 y1 y2 false HV1.out w2)
        go_wp2_with fail
        refine C.out.mono ?_
        rintro e w3 ⟨rfl, hb⟩
        have HB3 := Lib.hid (below_keep HB2.out hb HB2.out.size)
        have HCp3 := Lib.hid (At3.keep HCp2.out hb)
        have HCq3 := Lib.hid (At3.keep HCq2.out hb)
        have HCr3 := Lib.hid (At3.keep HCr2.out hb)
        have HCkk3 := Lib.hid (At3.keep HCkk2.out hb)
        clear hb C
        clear p0 p1 p2 q0 q1 q2 r0 r1 r2 kk0 kk1 kk2
        obtain ⟨p0, p1, p2⟩ := cells3 HCp3.out
        obtain ⟨q0, q1, q2⟩ := cells3 HCq3.out
        obtain ⟨r0, r1, r2⟩ := cells3 HCr3.out
        obtain ⟨kk0, kk1, kk2⟩ := cells3 HCkk3.out
        have C := Lib.hid (below_is y0 y1 y2 x0 x1 x2 false HV2.out w3)
        go_wp2_with fail
        refine C.out.mono ?_
        rintro e w4 ⟨rfl, hb⟩
        have HB4 := Lib.hid (below_keep HB3.out hb HB3.out.size)
        have HCp4 := Lib.hid (At3.keep HCp3.out hb)
        have HCq4 := Lib.hid (At3.keep HCq3.out hb)
        have HCr4 := Lib.hid (At3.keep HCr3.out hb)
        have HCkk4 := Lib.hid (At3.keep HCkk3.out hb)
        clear hb C
        clear p0 p1 p2 q0 q1 q2 r0 r1 r2 kk0 kk1 kk2
        obtain ⟨p0, p1, p2⟩ := cells3 HCp4.out
        obtain ⟨q0, q1, q2⟩ := cells3 HCq4.out
        obtain ⟨r0, r1, r2⟩ := cells3 HCr4.out
        obtain ⟨kk0, kk1, kk2⟩ := cells3 HCkk4.out
        have C := Lib.hid (below_is x0 x1 x2 y0 y1 y2 false HV1.out w4)
        go_wp2_with fail
        refine C.out.mono ?_
        rintro e w5 ⟨rfl, hb⟩
        have HB5 := Lib.hid (below_keep HB4.out hb HB4.out.size)
        have HCp5 := Lib.hid (At3.keep HCp4.out hb)
        have HCq5 := Lib.hid (At3.keep HCq4.out hb)
        have HCr5 := Lib.hid (At3.keep HCr4.out hb)
        have HCkk5 := Lib.hid (At3.keep HCkk4.out hb)
        clear hb C
        clear p0 p1 p2 q0 q1 q2 r0 r1 r2 kk0 kk1 kk2
        obtain ⟨p0, p1, p2⟩ := cells3 HCp5.out
        obtain ⟨q0, q1, q2⟩ := cells3 HCq5.out
        obtain ⟨r0, r1, r2⟩ := cells3 HCr5.out
        obtain ⟨kk0, kk1, kk2⟩ := cells3 HCkk5.out
        have C := Lib.hid (awake_any w5 (HV.out w5 HB5.out))
        go_wp2_with fail
        refine C.out.mono ?_
        rintro e w6 ⟨rfl, hb⟩
        have HB6 := Lib.hid (below_keep HB5.out hb HB5.out.size)
        have HCp6 := Lib.hid (At3.keep HCp5.out hb)
        have HCq6 := Lib.hid (At3.keep HCq5.out hb)
        have HCr6 := Lib.hid (At3.keep HCr5.out hb)
        have HCkk6 := Lib.hid (At3.keep HCkk5.out hb)
        clear hb C
        clear p0 p1 p2 q0 q1 q2 r0 r1 r2 kk0 kk1 kk2
        obtain ⟨p0, p1, p2⟩ := cells3 HCp6.out
        obtain ⟨q0, q1, q2⟩ := cells3 HCq6.out
        obtain ⟨r0, r1, r2⟩ := cells3 HCr6.out
        obtain ⟨kk0, kk1, kk2⟩ := cells3 HCkk6.out
        go_wp2_with fail
        go_ret
        exact ⟨rfl, HB6.out⟩
    | true =>
      have HF := Lib.hid hf
      obtain ⟨t, ht⟩ : ∃ t, bs (textK ⟨x0, x1, x2⟩) = t := ⟨_, rfl⟩
      have HTX := Lib.hid ht
      have HTS : Hid (t.size ≤ 300) := by show _ ≤ _; rw [← ht]; exact text_len _
      have HRX : Hid (gotK (readK t.data.toList) = ⟨x0, x1, x2⟩) := by show _ = _; rw [← ht, data_bs, read_back hf]; rfl
      have HRE : Hid (errK (readK t.data.toList) = 0) := by show _ = _; rw [← ht, data_bs, read_back hf]; rfl
      clear hf ht
      rcases below_one ⟨x0, x1, x2⟩ ⟨y0, y1, y2⟩ with ⟨h1, h2, h3⟩ | ⟨h1, h2, h3⟩ | ⟨h1, h2, h3⟩
      · have HV1 := Lib.hid h1
        have HV2 := Lib.hid h2
        have HQ := Lib.hid h3
        cases h4 : belowK ⟨y0, y1, y2⟩ ⟨z0, z1, z2⟩ with
        | false =>
          have HV3 := Lib.hid h4
          clear h1 h2 h3 h4
          have qe := fun w => eql_ky x0 x1 x2 y0 y1 y2 w
          rw [HQ.out] at qe
          have qg := fun a b w => guard_ky .eql a b x0 x1 x2 y0 y1 y2 w
          have qn : ∀ w, (binOp .neq 25 (kv x0 x1 x2) (kv x0 x1 x2)).run Tryd.prog w = .ok (.bool false) w := fun w => by rw [neq_ky, eqK_refl]; rfl
          have qh := fun a b w => guard_ky .neq a b x0 x1 x2 x0 x1 x2 w
          obtain ⟨p0, p1, p2⟩ := cells3 HCp0.out
          obtain ⟨q0, q1, q2⟩ := cells3 HCq0.out
          obtain ⟨r0, r1, r2⟩ := cells3 HCr0.out
          have C := Lib.hid (read_is s 0 0 false 7 HX.out HE.out HS3.out W (HV.out W HB0.out).2)
          go_wp2_with fail
          refine C.out.mono ?_
          rintro e w1 ⟨rfl, hb⟩
          have hb2 := below_keep HB0.out hb HB0.out.size
          have HB1 := Lib.hid (hb2.alloc hb2.size (.cells #[.int .i64 0, .int .i64 0, .bool false] 25))
          have HCp1 := Lib.hid ((At3.keep HCp0.out hb).alloc (.cells #[.int .i64 0, .int .i64 0, .bool false] 25))
          have HCq1 := Lib.hid ((At3.keep HCq0.out hb).alloc (.cells #[.int .i64 0, .int .i64 0, .bool false] 25))
          have HCr1 := Lib.hid ((At3.keep HCr0.out hb).alloc (.cells #[.int .i64 0, .int .i64 0, .bool false] 25))
          have HCkk1 := Lib.hid (at3_new 25 w1 (.int .i64 0) (.int .i64 0) (.bool false))
          obtain ⟨kk, hkk⟩ : ∃ kk, w1.heap.size = kk := ⟨_, rfl⟩
          obtain ⟨u1, hu1⟩ : ∃ u1, w1.alloc (.cells #[.int .i64 0, .int .i64 0, .bool false] 25) = u1 := ⟨_, rfl⟩
          clear p0 p1 p2 q0 q1 q2 r0 r1 r2
          rw [hu1] at HB1 HCp1 HCq1 HCr1 HCkk1
          rw [hkk] at HCkk1
          have HU1 := Lib.hid hu1
          have HNkk := Lib.hid hkk
          clear hb hb2 hu1 hkk C
          obtain ⟨p0, p1, p2⟩ := cells3 HCp1.out
          obtain ⟨q0, q1, q2⟩ := cells3 HCq1.out
          obtain ⟨r0, r1, r2⟩ := cells3 HCr1.out
          obtain ⟨kk0, kk1, kk2⟩ := cells3 HCkk1.out
          rw [← show w1.alloc (.cells #[.int .i64 0, .int .i64 0, .bool false] 25) = u1 from HU1.out] at p0 p1 p2 q0 q1 q2 r0 r1 r2 kk0 kk1 kk2
          rw [← show w1.heap.size = kk from HNkk.out] at kk0 kk1 kk2
          have C := Lib.hid (fit_is x0 x1 x2 true HF.out u1)
          go_wp2_with fail
          rw [show w1.alloc (.cells #[.int .i64 0, .int .i64 0, .bool false] 25) = u1 from HU1.out]
          rw [show w1.heap.size = kk from HNkk.out]
          refine C.out.mono ?_
          rintro e w2 ⟨rfl, hb⟩
          have HB2 := Lib.hid (below_keep HB1.out hb HB1.out.size)
          have HCp2 := Lib.hid (At3.keep HCp1.out hb)
          have HCq2 := Lib.hid (At3.keep HCq1.out hb)
          have HCr2 := Lib.hid (At3.keep HCr1.out hb)
          have HCkk2 := Lib.hid (At3.keep HCkk1.out hb)
          clear hb C
          clear p0 p1 p2 q0 q1 q2 r0 r1 r2 kk0 kk1 kk2
          obtain ⟨p0, p1, p2⟩ := cells3 HCp2.out
          obtain ⟨q0, q1, q2⟩ := cells3 HCq2.out
          obtain ⟨r0, r1, r2⟩ := cells3 HCr2.out
          obtain ⟨kk0, kk1, kk2⟩ := cells3 HCkk2.out
          have C := Lib.hid (text_is x0 x1 x2 t HTX.out w2 (HV.out w2 HB2.out).1)
          go_wp2_with fail
          refine C.out.mono ?_
          rintro e w3 ⟨rfl, hb⟩
          have HB3 := Lib.hid (below_keep HB2.out hb HB2.out.size)
          have HCp3 := Lib.hid (At3.keep HCp2.out hb)
          have HCq3 := Lib.hid (At3.keep HCq2.out hb)
          have HCr3 := Lib.hid (At3.keep HCr2.out hb)
          have HCkk3 := Lib.hid (At3.keep HCkk2.out hb)
          clear hb C
          clear p0 p1 p2 q0 q1 q2 r0 r1 r2 kk0 kk1 kk2
          obtain ⟨p0, p1, p2⟩ := cells3 HCp3.out
          obtain ⟨q0, q1, q2⟩ := cells3 HCq3.out
          obtain ⟨r0, r1, r2⟩ := cells3 HCr3.out
          obtain ⟨kk0, kk1, kk2⟩ := cells3 HCkk3.out
          have C := Lib.hid (read_is t x0 x1 x2 0 HRX.out HRE.out HTS.out w3 (HV.out w3 HB3.out).2)
          go_wp2_with fail
          refine C.out.mono ?_
          rintro e w4 ⟨rfl, hb⟩
          have hb2 := below_keep HB3.out hb HB3.out.size
          have HB4 := Lib.hid (hb2.alloc hb2.size (.cells #[.int .i64 x0, .int .i64 x1, .bool x2] 25))
          have HCp4 := Lib.hid ((At3.keep HCp3.out hb).alloc (.cells #[.int .i64 x0, .int .i64 x1, .bool x2] 25))
          have HCq4 := Lib.hid ((At3.keep HCq3.out hb).alloc (.cells #[.int .i64 x0, .int .i64 x1, .bool x2] 25))
          have HCr4 := Lib.hid ((At3.keep HCr3.out hb).alloc (.cells #[.int .i64 x0, .int .i64 x1, .bool x2] 25))
          have HCkk4 := Lib.hid ((At3.keep HCkk3.out hb).alloc (.cells #[.int .i64 x0, .int .i64 x1, .bool x2] 25))
          have HCmm4 := Lib.hid (at3_new 25 w4 (.int .i64 x0) (.int .i64 x1) (.bool x2))
          obtain ⟨mm, hmm⟩ : ∃ mm, w4.heap.size = mm := ⟨_, rfl⟩
          obtain ⟨u4, hu4⟩ : ∃ u4, w4.alloc (.cells #[.int .i64 x0, .int .i64 x1, .bool x2] 25) = u4 := ⟨_, rfl⟩
          clear p0 p1 p2 q0 q1 q2 r0 r1 r2 kk0 kk1 kk2
          rw [hu4] at HB4 HCp4 HCq4 HCr4 HCkk4 HCmm4
          rw [hmm] at HCmm4
          have HU4 := Lib.hid hu4
          have HNmm := Lib.hid hmm
          clear hb hb2 hu4 hmm C
          obtain ⟨p0, p1, p2⟩ := cells3 HCp4.out
          obtain ⟨q0, q1, q2⟩ := cells3 HCq4.out
          obtain ⟨r0, r1, r2⟩ := cells3 HCr4.out
          obtain ⟨kk0, kk1, kk2⟩ := cells3 HCkk4.out
          obtain ⟨mm0, mm1, mm2⟩ := cells3 HCmm4.out
          rw [← show w4.alloc (.cells #[.int .i64 x0, .int .i64 x1, .bool x2] 25) = u4 from HU4.out] at p0 p1 p2 q0 q1 q2 r0 r1 r2 kk0 kk1 kk2 mm0 mm1 mm2
          rw [← show w4.heap.size = mm from HNmm.out] at mm0 mm1 mm2
          have C := Lib.hid (below_is x0 x1 x2 y0 y1 y2 true HV1.out u4)
          go_wp2_with fail
          rw [show w4.alloc (.cells #[.int .i64 x0, .int .i64 x1, .bool x2] 25) = u4 from HU4.out]
          rw [show w4.heap.size = mm from HNmm.out]
          refine C.out.mono ?_
          rintro e w5 ⟨rfl, hb⟩
          have HB5 := Lib.hid (below_keep HB4.out hb HB4.out.size)
          have HCp5 := Lib.hid (At3.keep HCp4.out hb)
          have HCq5 := Lib.hid (At3.keep HCq4.out hb)
          have HCr5 := Lib.hid (At3.keep HCr4.out hb)
          have HCkk5 := Lib.hid (At3.keep HCkk4.out hb)
          have HCmm5 := Lib.hid (At3.keep HCmm4.out hb)
          clear hb C
          clear p0 p1 p2 q0 q1 q2 r0 r1 r2 kk0 kk1 kk2 mm0 mm1 mm2
          obtain ⟨p0, p1, p2⟩ := cells3 HCp5.out
          obtain ⟨q0, q1, q2⟩ := cells3 HCq5.out
          obtain ⟨r0, r1, r2⟩ := cells3 HCr5.out
          obtain ⟨kk0, kk1, kk2⟩ := cells3 HCkk5.out
          obtain ⟨mm0, mm1, mm2⟩ := cells3 HCmm5.out
          have C := Lib.hid (below_is y0 y1 y2 x0 x1 x2 false HV2.out w5)
          go_wp2_with fail
          refine C.out.mono ?_
          rintro e w6 ⟨rfl, hb⟩
          have HB6 := Lib.hid (below_keep HB5.out hb HB5.out.size)
          have HCp6 := Lib.hid (At3.keep HCp5.out hb)
          have HCq6 := Lib.hid (At3.keep HCq5.out hb)
          have HCr6 := Lib.hid (At3.keep HCr5.out hb)
          have HCkk6 := Lib.hid (At3.keep HCkk5.out hb)
          have HCmm6 := Lib.hid (At3.keep HCmm5.out hb)
          clear hb C
          clear p0 p1 p2 q0 q1 q2 r0 r1 r2 kk0 kk1 kk2 mm0 mm1 mm2
          obtain ⟨p0, p1, p2⟩ := cells3 HCp6.out
          obtain ⟨q0, q1, q2⟩ := cells3 HCq6.out
          obtain ⟨r0, r1, r2⟩ := cells3 HCr6.out
          obtain ⟨kk0, kk1, kk2⟩ := cells3 HCkk6.out
          obtain ⟨mm0, mm1, mm2⟩ := cells3 HCmm6.out
          have C := Lib.hid (below_is x0 x1 x2 y0 y1 y2 true HV1.out w6)
          go_wp2_with fail
          refine C.out.mono ?_
          rintro e w7 ⟨rfl, hb⟩
          have HB7 := Lib.hid (below_keep HB6.out hb HB6.out.size)
          have HCp7 := Lib.hid (At3.keep HCp6.out hb)
          have HCq7 := Lib.hid (At3.keep HCq6.out hb)
          have HCr7 := Lib.hid (At3.keep HCr6.out hb)
          have HCkk7 := Lib.hid (At3.keep HCkk6.out hb)
          have HCmm7 := Lib.hid (At3.keep HCmm6.out hb)
          clear hb C
          clear p0 p1 p2 q0 q1 q2 r0 r1 r2 kk0 kk1 kk2 mm0 mm1 mm2
          obtain ⟨p0, p1, p2⟩ := cells3 HCp7.out
          obtain ⟨q0, q1, q2⟩ := cells3 HCq7.out
          obtain ⟨r0, r1, r2⟩ := cells3 HCr7.out
          obtain ⟨kk0, kk1, kk2⟩ := cells3 HCkk7.out
          obtain ⟨mm0, mm1, mm2⟩ := cells3 HCmm7.out
          have C := Lib.hid (below_is y0 y1 y2 z0 z1 z2 false HV3.out w7)
          go_wp2_with fail
          refine C.out.mono ?_
          rintro e w8 ⟨rfl, hb⟩
          have HB8 := Lib.hid (below_keep HB7.out hb HB7.out.size)
          have HCp8 := Lib.hid (At3.keep HCp7.out hb)
          have HCq8 := Lib.hid (At3.keep HCq7.out hb)
          have HCr8 := Lib.hid (At3.keep HCr7.out hb)
          have HCkk8 := Lib.hid (At3.keep HCkk7.out hb)
          have HCmm8 := Lib.hid (At3.keep HCmm7.out hb)
          clear hb C
          clear p0 p1 p2 q0 q1 q2 r0 r1 r2 kk0 kk1 kk2 mm0 mm1 mm2
          obtain ⟨p0, p1, p2⟩ := cells3 HCp8.out
          obtain ⟨q0, q1, q2⟩ := cells3 HCq8.out
          obtain ⟨r0, r1, r2⟩ := cells3 HCr8.out
          obtain ⟨kk0, kk1, kk2⟩ := cells3 HCkk8.out
          obtain ⟨mm0, mm1, mm2⟩ := cells3 HCmm8.out
          have C := Lib.hid (awake_any w8 (HV.out w8 HB8.out))
          go_wp2_with fail
          refine C.out.mono ?_
          rintro e w9 ⟨rfl, hb⟩
          have HB9 := Lib.hid (below_keep HB8.out hb HB8.out.size)
          have HCp9 := Lib.hid (At3.keep HCp8.out hb)
          have HCq9 := Lib.hid (At3.keep HCq8.out hb)
          have HCr9 := Lib.hid (At3.keep HCr8.out hb)
          have HCkk9 := Lib.hid (At3.keep HCkk8.out hb)
          have HCmm9 := Lib.hid (At3.keep HCmm8.out hb)
          clear hb C
          clear p0 p1 p2 q0 q1 q2 r0 r1 r2 kk0 kk1 kk2 mm0 mm1 mm2
          obtain ⟨p0, p1, p2⟩ := cells3 HCp9.out
          obtain ⟨q0, q1, q2⟩ := cells3 HCq9.out
          obtain ⟨r0, r1, r2⟩ := cells3 HCr9.out
          obtain ⟨kk0, kk1, kk2⟩ := cells3 HCkk9.out
          obtain ⟨mm0, mm1, mm2⟩ := cells3 HCmm9.out
          go_wp2_with fail
          go_ret
          exact ⟨rfl, HB9.out⟩
        | true =>
          have HV3 := Lib.hid h4
          have HV4 := Lib.hid (below_trans h1 h4)
          clear h1 h2 h3 h4
          have qe := fun w => eql_ky x0 x1 x2 y0 y1 y2 w
          rw [HQ.out] at qe
          have qg := fun a b w => guard_ky .eql a b x0 x1 x2 y0 y1 y2 w
          have qn : ∀ w, (binOp .neq 25 (kv x0 x1 x2) (kv x0 x1 x2)).run Tryd.prog w = .ok (.bool false) w := fun w => by rw [neq_ky, eqK_refl]; rfl
          have qh := fun a b w => guard_ky .neq a b x0 x1 x2 x0 x1 x2 w
          obtain ⟨p0, p1, p2⟩ := cells3 HCp0.out
          obtain ⟨q0, q1, q2⟩ := cells3 HCq0.out
          obtain ⟨r0, r1, r2⟩ := cells3 HCr0.out
          have C := Lib.hid (read_is s 0 0 false 7 HX.out HE.out HS3.out W (HV.out W HB0.out).2)
          go_wp2_with fail
          refine C.out.mono ?_
          rintro e w1 ⟨rfl, hb⟩
          have hb2 := below_keep HB0.out hb HB0.out.size
          have HB1 := Lib.hid (hb2.alloc hb2.size (.cells #[.int .i64 0, .int .i64 0, .bool false] 25))
          have HCp1 := Lib.hid ((At3.keep HCp0.out hb).alloc (.cells #[.int .i64 0, .int .i64 0, .bool false] 25))
          have HCq1 := Lib.hid ((At3.keep HCq0.out hb).alloc (.cells #[.int .i64 0, .int .i64 0, .bool false] 25))
          have HCr1 := Lib.hid ((At3.keep HCr0.out hb).alloc (.cells #[.int .i64 0, .int .i64 0, .bool false] 25))
          have HCkk1 := Lib.hid (at3_new 25 w1 (.int .i64 0) (.int .i64 0) (.bool false))
          obtain ⟨kk, hkk⟩ : ∃ kk, w1.heap.size = kk := ⟨_, rfl⟩
          obtain ⟨u1, hu1⟩ : ∃ u1, w1.alloc (.cells #[.int .i64 0, .int .i64 0, .bool false] 25) = u1 := ⟨_, rfl⟩
          clear p0 p1 p2 q0 q1 q2 r0 r1 r2
          rw [hu1] at HB1 HCp1 HCq1 HCr1 HCkk1
          rw [hkk] at HCkk1
          have HU1 := Lib.hid hu1
          have HNkk := Lib.hid hkk
          clear hb hb2 hu1 hkk C
          obtain ⟨p0, p1, p2⟩ := cells3 HCp1.out
          obtain ⟨q0, q1, q2⟩ := cells3 HCq1.out
          obtain ⟨r0, r1, r2⟩ := cells3 HCr1.out
          obtain ⟨kk0, kk1, kk2⟩ := cells3 HCkk1.out
          rw [← show w1.alloc (.cells #[.int .i64 0, .int .i64 0, .bool false] 25) = u1 from HU1.out] at p0 p1 p2 q0 q1 q2 r0 r1 r2 kk0 kk1 kk2
          rw [← show w1.heap.size = kk from HNkk.out] at kk0 kk1 kk2
          have C := Lib.hid (fit_is x0 x1 x2 true HF.out u1)
          go_wp2_with fail
          rw [show w1.alloc (.cells #[.int .i64 0, .int .i64 0, .bool false] 25) = u1 from HU1.out]
          rw [show w1.heap.size = kk from HNkk.out]
          refine C.out.mono ?_
          rintro e w2 ⟨rfl, hb⟩
          have HB2 := Lib.hid (below_keep HB1.out hb HB1.out.size)
          have HCp2 := Lib.hid (At3.keep HCp1.out hb)
          have HCq2 := Lib.hid (At3.keep HCq1.out hb)
          have HCr2 := Lib.hid (At3.keep HCr1.out hb)
          have HCkk2 := Lib.hid (At3.keep HCkk1.out hb)
          clear hb C
          clear p0 p1 p2 q0 q1 q2 r0 r1 r2 kk0 kk1 kk2
          obtain ⟨p0, p1, p2⟩ := cells3 HCp2.out
          obtain ⟨q0, q1, q2⟩ := cells3 HCq2.out
          obtain ⟨r0, r1, r2⟩ := cells3 HCr2.out
          obtain ⟨kk0, kk1, kk2⟩ := cells3 HCkk2.out
          have C := Lib.hid (text_is x0 x1 x2 t HTX.out w2 (HV.out w2 HB2.out).1)
          go_wp2_with fail
          refine C.out.mono ?_
          rintro e w3 ⟨rfl, hb⟩
          have HB3 := Lib.hid (below_keep HB2.out hb HB2.out.size)
          have HCp3 := Lib.hid (At3.keep HCp2.out hb)
          have HCq3 := Lib.hid (At3.keep HCq2.out hb)
          have HCr3 := Lib.hid (At3.keep HCr2.out hb)
          have HCkk3 := Lib.hid (At3.keep HCkk2.out hb)
          clear hb C
          clear p0 p1 p2 q0 q1 q2 r0 r1 r2 kk0 kk1 kk2
          obtain ⟨p0, p1, p2⟩ := cells3 HCp3.out
          obtain ⟨q0, q1, q2⟩ := cells3 HCq3.out
          obtain ⟨r0, r1, r2⟩ := cells3 HCr3.out
          obtain ⟨kk0, kk1, kk2⟩ := cells3 HCkk3.out
          have C := Lib.hid (read_is t x0 x1 x2 0 HRX.out HRE.out HTS.out w3 (HV.out w3 HB3.out).2)
          go_wp2_with fail
          refine C.out.mono ?_
          rintro e w4 ⟨rfl, hb⟩
          have hb2 := below_keep HB3.out hb HB3.out.size
          have HB4 := Lib.hid (hb2.alloc hb2.size (.cells #[.int .i64 x0, .int .i64 x1, .bool x2] 25))
          have HCp4 := Lib.hid ((At3.keep HCp3.out hb).alloc (.cells #[.int .i64 x0, .int .i64 x1, .bool x2] 25))
          have HCq4 := Lib.hid ((At3.keep HCq3.out hb).alloc (.cells #[.int .i64 x0, .int .i64 x1, .bool x2] 25))
          have HCr4 := Lib.hid ((At3.keep HCr3.out hb).alloc (.cells #[.int .i64 x0, .int .i64 x1, .bool x2] 25))
          have HCkk4 := Lib.hid ((At3.keep HCkk3.out hb).alloc (.cells #[.int .i64 x0, .int .i64 x1, .bool x2] 25))
          have HCmm4 := Lib.hid (at3_new 25 w4 (.int .i64 x0) (.int .i64 x1) (.bool x2))
          obtain ⟨mm, hmm⟩ : ∃ mm, w4.heap.size = mm := ⟨_, rfl⟩
          obtain ⟨u4, hu4⟩ : ∃ u4, w4.alloc (.cells #[.int .i64 x0, .int .i64 x1, .bool x2] 25) = u4 := ⟨_, rfl⟩
          clear p0 p1 p2 q0 q1 q2 r0 r1 r2 kk0 kk1 kk2
          rw [hu4] at HB4 HCp4 HCq4 HCr4 HCkk4 HCmm4
          rw [hmm] at HCmm4
          have HU4 := Lib.hid hu4
          have HNmm := Lib.hid hmm
          clear hb hb2 hu4 hmm C
          obtain ⟨p0, p1, p2⟩ := cells3 HCp4.out
          obtain ⟨q0, q1, q2⟩ := cells3 HCq4.out
          obtain ⟨r0, r1, r2⟩ := cells3 HCr4.out
          obtain ⟨kk0, kk1, kk2⟩ := cells3 HCkk4.out
          obtain ⟨mm0, mm1, mm2⟩ := cells3 HCmm4.out
          rw [← show w4.alloc (.cells #[.int .i64 x0, .int .i64 x1, .bool x2] 25) = u4 from HU4.out] at p0 p1 p2 q0 q1 q2 r0 r1 r2 kk0 kk1 kk2 mm0 mm1 mm2
          rw [← show w4.heap.size = mm from HNmm.out] at mm0 mm1 mm2
          have C := Lib.hid (below_is x0 x1 x2 y0 y1 y2 true HV1.out u4)
          go_wp2_with fail
          rw [show w4.alloc (.cells #[.int .i64 x0, .int .i64 x1, .bool x2] 25) = u4 from HU4.out]
          rw [show w4.heap.size = mm from HNmm.out]
          refine C.out.mono ?_
          rintro e w5 ⟨rfl, hb⟩
          have HB5 := Lib.hid (below_keep HB4.out hb HB4.out.size)
          have HCp5 := Lib.hid (At3.keep HCp4.out hb)
          have HCq5 := Lib.hid (At3.keep HCq4.out hb)
          have HCr5 := Lib.hid (At3.keep HCr4.out hb)
          have HCkk5 := Lib.hid (At3.keep HCkk4.out hb)
          have HCmm5 := Lib.hid (At3.keep HCmm4.out hb)
          clear hb C
          clear p0 p1 p2 q0 q1 q2 r0 r1 r2 kk0 kk1 kk2 mm0 mm1 mm2
          obtain ⟨p0, p1, p2⟩ := cells3 HCp5.out
          obtain ⟨q0, q1, q2⟩ := cells3 HCq5.out
          obtain ⟨r0, r1, r2⟩ := cells3 HCr5.out
          obtain ⟨kk0, kk1, kk2⟩ := cells3 HCkk5.out
          obtain ⟨mm0, mm1, mm2⟩ := cells3 HCmm5.out
          have C := Lib.hid (below_is y0 y1 y2 x0 x1 x2 false HV2.out w5)
          go_wp2_with fail
          refine C.out.mono ?_
          rintro e w6 ⟨rfl, hb⟩
          have HB6 := Lib.hid (below_keep HB5.out hb HB5.out.size)
          have HCp6 := Lib.hid (At3.keep HCp5.out hb)
          have HCq6 := Lib.hid (At3.keep HCq5.out hb)
          have HCr6 := Lib.hid (At3.keep HCr5.out hb)
          have HCkk6 := Lib.hid (At3.keep HCkk5.out hb)
          have HCmm6 := Lib.hid (At3.keep HCmm5.out hb)
          clear hb C
          clear p0 p1 p2 q0 q1 q2 r0 r1 r2 kk0 kk1 kk2 mm0 mm1 mm2
          obtain ⟨p0, p1, p2⟩ := cells3 HCp6.out
          obtain ⟨q0, q1, q2⟩ := cells3 HCq6.out
          obtain ⟨r0, r1, r2⟩ := cells3 HCr6.out
          obtain ⟨kk0, kk1, kk2⟩ := cells3 HCkk6.out
          obtain ⟨mm0, mm1, mm2⟩ := cells3 HCmm6.out
          have C := Lib.hid (below_is x0 x1 x2 y0 y1 y2 true HV1.out w6)
          go_wp2_with fail
          refine C.out.mono ?_
          rintro e w7 ⟨rfl, hb⟩
          have HB7 := Lib.hid (below_keep HB6.out hb HB6.out.size)
          have HCp7 := Lib.hid (At3.keep HCp6.out hb)
          have HCq7 := Lib.hid (At3.keep HCq6.out hb)
          have HCr7 := Lib.hid (At3.keep HCr6.out hb)
          have HCkk7 := Lib.hid (At3.keep HCkk6.out hb)
          have HCmm7 := Lib.hid (At3.keep HCmm6.out hb)
          clear hb C
          clear p0 p1 p2 q0 q1 q2 r0 r1 r2 kk0 kk1 kk2 mm0 mm1 mm2
          obtain ⟨p0, p1, p2⟩ := cells3 HCp7.out
          obtain ⟨q0, q1, q2⟩ := cells3 HCq7.out
          obtain ⟨r0, r1, r2⟩ := cells3 HCr7.out
          obtain ⟨kk0, kk1, kk2⟩ := cells3 HCkk7.out
          obtain ⟨mm0, mm1, mm2⟩ := cells3 HCmm7.out
          have C := Lib.hid (below_is y0 y1 y2 z0 z1 z2 true HV3.out w7)
          go_wp2_with fail
          refine C.out.mono ?_
          rintro e w8 ⟨rfl, hb⟩
          have HB8 := Lib.hid (below_keep HB7.out hb HB7.out.size)
          have HCp8 := Lib.hid (At3.keep HCp7.out hb)
          have HCq8 := Lib.hid (At3.keep HCq7.out hb)
          have HCr8 := Lib.hid (At3.keep HCr7.out hb)
          have HCkk8 := Lib.hid (At3.keep HCkk7.out hb)
          have HCmm8 := Lib.hid (At3.keep HCmm7.out hb)
          clear hb C
          clear p0 p1 p2 q0 q1 q2 r0 r1 r2 kk0 kk1 kk2 mm0 mm1 mm2
          obtain ⟨p0, p1, p2⟩ := cells3 HCp8.out
          obtain ⟨q0, q1, q2⟩ := cells3 HCq8.out
          obtain ⟨r0, r1, r2⟩ := cells3 HCr8.out
          obtain ⟨kk0, kk1, kk2⟩ := cells3 HCkk8.out
          obtain ⟨mm0, mm1, mm2⟩ := cells3 HCmm8.out
          have C := Lib.hid (below_is x0 x1 x2 z0 z1 z2 true HV4.out w8)
          go_wp2_with fail
          refine C.out.mono ?_
          rintro e w9 ⟨rfl, hb⟩
          have HB9 := Lib.hid (below_keep HB8.out hb HB8.out.size)
          have HCp9 := Lib.hid (At3.keep HCp8.out hb)
          have HCq9 := Lib.hid (At3.keep HCq8.out hb)
          have HCr9 := Lib.hid (At3.keep HCr8.out hb)
          have HCkk9 := Lib.hid (At3.keep HCkk8.out hb)
          have HCmm9 := Lib.hid (At3.keep HCmm8.out hb)
          clear hb C
          clear p0 p1 p2 q0 q1 q2 r0 r1 r2 kk0 kk1 kk2 mm0 mm1 mm2
          obtain ⟨p0, p1, p2⟩ := cells3 HCp9.out
          obtain ⟨q0, q1, q2⟩ := cells3 HCq9.out
          obtain ⟨r0, r1, r2⟩ := cells3 HCr9.out
          obtain ⟨kk0, kk1, kk2⟩ := cells3 HCkk9.out
          obtain ⟨mm0, mm1, mm2⟩ := cells3 HCmm9.out
          have C := Lib.hid (awake_any w9 (HV.out w9 HB9.out))
          go_wp2_with fail
          refine C.out.mono ?_
          rintro e w10 ⟨rfl, hb⟩
          have HB10 := Lib.hid (below_keep HB9.out hb HB9.out.size)
          have HCp10 := Lib.hid (At3.keep HCp9.out hb)
          have HCq10 := Lib.hid (At3.keep HCq9.out hb)
          have HCr10 := Lib.hid (At3.keep HCr9.out hb)
          have HCkk10 := Lib.hid (At3.keep HCkk9.out hb)
          have HCmm10 := Lib.hid (At3.keep HCmm9.out hb)
          clear hb C
          clear p0 p1 p2 q0 q1 q2 r0 r1 r2 kk0 kk1 kk2 mm0 mm1 mm2
          obtain ⟨p0, p1, p2⟩ := cells3 HCp10.out
          obtain ⟨q0, q1, q2⟩ := cells3 HCq10.out
          obtain ⟨r0, r1, r2⟩ := cells3 HCr10.out
          obtain ⟨kk0, kk1, kk2⟩ := cells3 HCkk10.out
          obtain ⟨mm0, mm1, mm2⟩ := cells3 HCmm10.out
          go_wp2_with fail
          go_ret
          exact ⟨rfl, HB10.out⟩
      · have HV1 := Lib.hid h1
        have HV2 := Lib.hid h2
        have HQ := Lib.hid h3
        clear h1 h2 h3
        have qe := fun w => eql_ky x0 x1 x2 y0 y1 y2 w
        rw [HQ.out] at qe
        have qg := fun a b w => guard_ky .eql a b x0 x1 x2 y0 y1 y2 w
        have qn : ∀ w, (binOp .neq 25 (kv x0 x1 x2) (kv x0 x1 x2)).run Tryd.prog w = .ok (.bool false) w := fun w => by rw [neq_ky, eqK_refl]; rfl
        have qh := fun a b w => guard_ky .neq a b x0 x1 x2 x0 x1 x2 w
        obtain ⟨p0, p1, p2⟩ := cells3 HCp0.out
        obtain ⟨q0, q1, q2⟩ := cells3 HCq0.out
        obtain ⟨r0, r1, r2⟩ := cells3 HCr0.out
        have C := Lib.hid (read_is s 0 0 false 7 HX.out HE.out HS3.out W (HV.out W HB0.out).2)
        go_wp2_with fail
        refine C.out.mono ?_
        rintro e w1 ⟨rfl, hb⟩
        have hb2 := below_keep HB0.out hb HB0.out.size
        have HB1 := Lib.hid (hb2.alloc hb2.size (.cells #[.int .i64 0, .int .i64 0, .bool false] 25))
        have HCp1 := Lib.hid ((At3.keep HCp0.out hb).alloc (.cells #[.int .i64 0, .int .i64 0, .bool false] 25))
        have HCq1 := Lib.hid ((At3.keep HCq0.out hb).alloc (.cells #[.int .i64 0, .int .i64 0, .bool false] 25))
        have HCr1 := Lib.hid ((At3.keep HCr0.out hb).alloc (.cells #[.int .i64 0, .int .i64 0, .bool false] 25))
        have HCkk1 := Lib.hid (at3_new 25 w1 (.int .i64 0) (.int .i64 0) (.bool false))
        obtain ⟨kk, hkk⟩ : ∃ kk, w1.heap.size = kk := ⟨_, rfl⟩
        obtain ⟨u1, hu1⟩ : ∃ u1, w1.alloc (.cells #[.int .i64 0, .int .i64 0, .bool false] 25) = u1 := ⟨_, rfl⟩
        clear p0 p1 p2 q0 q1 q2 r0 r1 r2
        rw [hu1] at HB1 HCp1 HCq1 HCr1 HCkk1
        rw [hkk] at HCkk1
        have HU1 := Lib.hid hu1
        have HNkk := Lib.hid hkk
        clear hb hb2 hu1 hkk C
        obtain ⟨p0, p1, p2⟩ := cells3 HCp1.out
        obtain ⟨q0, q1, q2⟩ := cells3 HCq1.out
        obtain ⟨r0, r1, r2⟩ := cells3 HCr1.out
        obtain ⟨kk0, kk1, kk2⟩ := cells3 HCkk1.out
        rw [← show w1.alloc (.cells #[.int .i64 0, .int .i64 0, .bool false] 25) = u1 from HU1.out] at p0 p1 p2 q0 q1 q2 r0 r1 r2 kk0 kk1 kk2
        rw [← show w1.heap.size = kk from HNkk.out] at kk0 kk1 kk2
        have C := Lib.hid (fit_is x0 x1 x2 true HF.out u1)
        go_wp2_with fail
        rw [show w1.alloc (.cells #[.int .i64 0, .int .i64 0, .bool false] 25) = u1 from HU1.out]
        rw [show w1.heap.size = kk from HNkk.out]
        refine C.out.mono ?_
        rintro e w2 ⟨rfl, hb⟩
        have HB2 := Lib.hid (below_keep HB1.out hb HB1.out.size)
        have HCp2 := Lib.hid (At3.keep HCp1.out hb)
        have HCq2 := Lib.hid (At3.keep HCq1.out hb)
        have HCr2 := Lib.hid (At3.keep HCr1.out hb)
        have HCkk2 := Lib.hid (At3.keep HCkk1.out hb)
        clear hb C
        clear p0 p1 p2 q0 q1 q2 r0 r1 r2 kk0 kk1 kk2
        obtain ⟨p0, p1, p2⟩ := cells3 HCp2.out
        obtain ⟨q0, q1, q2⟩ := cells3 HCq2.out
        obtain ⟨r0, r1, r2⟩ := cells3 HCr2.out
        obtain ⟨kk0, kk1, kk2⟩ := cells3 HCkk2.out
        have C := Lib.hid (text_is x0 x1 x2 t HTX.out w2 (HV.out w2 HB2.out).1)
        go_wp2_with fail
        refine C.out.mono ?_
        rintro e w3 ⟨rfl, hb⟩
        have HB3 := Lib.hid (below_keep HB2.out hb HB2.out.size)
        have HCp3 := Lib.hid (At3.keep HCp2.out hb)
        have HCq3 := Lib.hid (At3.keep HCq2.out hb)
        have HCr3 := Lib.hid (At3.keep HCr2.out hb)
        have HCkk3 := Lib.hid (At3.keep HCkk2.out hb)
        clear hb C
        clear p0 p1 p2 q0 q1 q2 r0 r1 r2 kk0 kk1 kk2
        obtain ⟨p0, p1, p2⟩ := cells3 HCp3.out
        obtain ⟨q0, q1, q2⟩ := cells3 HCq3.out
        obtain ⟨r0, r1, r2⟩ := cells3 HCr3.out
        obtain ⟨kk0, kk1, kk2⟩ := cells3 HCkk3.out
        have C := Lib.hid (read_is t x0 x1 x2 0 HRX.out HRE.out HTS.out w3 (HV.out w3 HB3.out).2)
        go_wp2_with fail
        refine C.out.mono ?_
        rintro e w4 ⟨rfl, hb⟩
        have hb2 := below_keep HB3.out hb HB3.out.size
        have HB4 := Lib.hid (hb2.alloc hb2.size (.cells #[.int .i64 x0, .int .i64 x1, .bool x2] 25))
        have HCp4 := Lib.hid ((At3.keep HCp3.out hb).alloc (.cells #[.int .i64 x0, .int .i64 x1, .bool x2] 25))
        have HCq4 := Lib.hid ((At3.keep HCq3.out hb).alloc (.cells #[.int .i64 x0, .int .i64 x1, .bool x2] 25))
        have HCr4 := Lib.hid ((At3.keep HCr3.out hb).alloc (.cells #[.int .i64 x0, .int .i64 x1, .bool x2] 25))
        have HCkk4 := Lib.hid ((At3.keep HCkk3.out hb).alloc (.cells #[.int .i64 x0, .int .i64 x1, .bool x2] 25))
        have HCmm4 := Lib.hid (at3_new 25 w4 (.int .i64 x0) (.int .i64 x1) (.bool x2))
        obtain ⟨mm, hmm⟩ : ∃ mm, w4.heap.size = mm := ⟨_, rfl⟩
        obtain ⟨u4, hu4⟩ : ∃ u4, w4.alloc (.cells #[.int .i64 x0, .int .i64 x1, .bool x2] 25) = u4 := ⟨_, rfl⟩
        clear p0 p1 p2 q0 q1 q2 r0 r1 r2 kk0 kk1 kk2
        rw [hu4] at HB4 HCp4 HCq4 HCr4 HCkk4 HCmm4
        rw [hmm] at HCmm4
        have HU4 := Lib.hid hu4
        have HNmm := Lib.hid hmm
        clear hb hb2 hu4 hmm C
        obtain ⟨p0, p1, p2⟩ := cells3 HCp4.out
        obtain ⟨q0, q1, q2⟩ := cells3 HCq4.out
        obtain ⟨r0, r1, r2⟩ := cells3 HCr4.out
        obtain ⟨kk0, kk1, kk2⟩ := cells3 HCkk4.out
        obtain ⟨mm0, mm1, mm2⟩ := cells3 HCmm4.out
        rw [← show w4.alloc (.cells #[.int .i64 x0, .int .i64 x1, .bool x2] 25) = u4 from HU4.out] at p0 p1 p2 q0 q1 q2 r0 r1 r2 kk0 kk1 kk2 mm0 mm1 mm2
        rw [← show w4.heap.size = mm from HNmm.out] at mm0 mm1 mm2
        have C := Lib.hid (below_is x0 x1 x2 y0 y1 y2 false HV1.out u4)
        go_wp2_with fail
        rw [show w4.alloc (.cells #[.int .i64 x0, .int .i64 x1, .bool x2] 25) = u4 from HU4.out]
        rw [show w4.heap.size = mm from HNmm.out]
        refine C.out.mono ?_
        rintro e w5 ⟨rfl, hb⟩
        have HB5 := Lib.hid (below_keep HB4.out hb HB4.out.size)
        have HCp5 := Lib.hid (At3.keep HCp4.out hb)
        have HCq5 := Lib.hid (At3.keep HCq4.out hb)
        have HCr5 := Lib.hid (At3.keep HCr4.out hb)
        have HCkk5 := Lib.hid (At3.keep HCkk4.out hb)
        have HCmm5 := Lib.hid (At3.keep HCmm4.out hb)
        clear hb C
        clear p0 p1 p2 q0 q1 q2 r0 r1 r2 kk0 kk1 kk2 mm0 mm1 mm2
        obtain ⟨p0, p1, p2⟩ := cells3 HCp5.out
        obtain ⟨q0, q1, q2⟩ := cells3 HCq5.out
        obtain ⟨r0, r1, r2⟩ := cells3 HCr5.out
        obtain ⟨kk0, kk1, kk2⟩ := cells3 HCkk5.out
        obtain ⟨mm0, mm1, mm2⟩ := cells3 HCmm5.out
        have C := Lib.hid (below_is y0 y1 y2 x0 x1 x2 true HV2.out w5)
        go_wp2_with fail
        refine C.out.mono ?_
        rintro e w6 ⟨rfl, hb⟩
        have HB6 := Lib.hid (below_keep HB5.out hb HB5.out.size)
        have HCp6 := Lib.hid (At3.keep HCp5.out hb)
        have HCq6 := Lib.hid (At3.keep HCq5.out hb)
        have HCr6 := Lib.hid (At3.keep HCr5.out hb)
        have HCkk6 := Lib.hid (At3.keep HCkk5.out hb)
        have HCmm6 := Lib.hid (At3.keep HCmm5.out hb)
        clear hb C
        clear p0 p1 p2 q0 q1 q2 r0 r1 r2 kk0 kk1 kk2 mm0 mm1 mm2
        obtain ⟨p0, p1, p2⟩ := cells3 HCp6.out
        obtain ⟨q0, q1, q2⟩ := cells3 HCq6.out
        obtain ⟨r0, r1, r2⟩ := cells3 HCr6.out
        obtain ⟨kk0, kk1, kk2⟩ := cells3 HCkk6.out
        obtain ⟨mm0, mm1, mm2⟩ := cells3 HCmm6.out
        have C := Lib.hid (below_is x0 x1 x2 y0 y1 y2 false HV1.out w6)
        go_wp2_with fail
        refine C.out.mono ?_
        rintro e w7 ⟨rfl, hb⟩
        have HB7 := Lib.hid (below_keep HB6.out hb HB6.out.size)
        have HCp7 := Lib.hid (At3.keep HCp6.out hb)
        have HCq7 := Lib.hid (At3.keep HCq6.out hb)
        have HCr7 := Lib.hid (At3.keep HCr6.out hb)
        have HCkk7 := Lib.hid (At3.keep HCkk6.out hb)
        have HCmm7 := Lib.hid (At3.keep HCmm6.out hb)
        clear hb C
        clear p0 p1 p2 q0 q1 q2 r0 r1 r2 kk0 kk1 kk2 mm0 mm1 mm2
        obtain ⟨p0, p1, p2⟩ := cells3 HCp7.out
        obtain ⟨q0, q1, q2⟩ := cells3 HCq7.out
        obtain ⟨r0, r1, r2⟩ := cells3 HCr7.out
        obtain ⟨kk0, kk1, kk2⟩ := cells3 HCkk7.out
        obtain ⟨mm0, mm1, mm2⟩ := cells3 HCmm7.out
        have C := Lib.hid (awake_any w7 (HV.out w7 HB7.out))
        go_wp2_with fail
        refine C.out.mono ?_
        rintro e w8 ⟨rfl, hb⟩
        have HB8 := Lib.hid (below_keep HB7.out hb HB7.out.size)
        have HCp8 := Lib.hid (At3.keep HCp7.out hb)
        have HCq8 := Lib.hid (At3.keep HCq7.out hb)
        have HCr8 := Lib.hid (At3.keep HCr7.out hb)
        have HCkk8 := Lib.hid (At3.keep HCkk7.out hb)
        have HCmm8 := Lib.hid (At3.keep HCmm7.out hb)
        clear hb C
        clear p0 p1 p2 q0 q1 q2 r0 r1 r2 kk0 kk1 kk2 mm0 mm1 mm2
        obtain ⟨p0, p1, p2⟩ := cells3 HCp8.out
        obtain ⟨q0, q1, q2⟩ := cells3 HCq8.out
        obtain ⟨r0, r1, r2⟩ := cells3 HCr8.out
        obtain ⟨kk0, kk1, kk2⟩ := cells3 HCkk8.out
        obtain ⟨mm0, mm1, mm2⟩ := cells3 HCmm8.out
        go_wp2_with fail
        go_ret
        exact ⟨rfl, HB8.out⟩
      · have HV1 := Lib.hid h1
        have HV2 := Lib.hid h2
        have HQ := Lib.hid h3
        clear h1 h2 h3
        have qe := fun w => eql_ky x0 x1 x2 y0 y1 y2 w
        rw [HQ.out] at qe
        have qg := fun a b w => guard_ky .eql a b x0 x1 x2 y0 y1 y2 w
        have qn : ∀ w, (binOp .neq 25 (kv x0 x1 x2) (kv x0 x1 x2)).run Tryd.prog w = .ok (.bool false) w := fun w => by rw [neq_ky, eqK_refl]; rfl
        have qh := fun a b w => guard_ky .neq a b x0 x1 x2 x0 x1 x2 w
        obtain ⟨p0, p1, p2⟩ := cells3 HCp0.out
        obtain ⟨q0, q1, q2⟩ := cells3 HCq0.out
        obtain ⟨r0, r1, r2⟩ := cells3 HCr0.out
        have C := Lib.hid (read_is s 0 0 false 7 HX.out HE.out HS3.out W (HV.out W HB0.out).2)
        go_wp2_with fail
        refine C.out.mono ?_
        rintro e w1 ⟨rfl, hb⟩
        have hb2 := below_keep HB0.out hb HB0.out.size
        have HB1 := Lib.hid (hb2.alloc hb2.size (.cells #[.int .i64 0, .int .i64 0, .bool false] 25))
        have HCp1 := Lib.hid ((At3.keep HCp0.out hb).alloc (.cells #[.int .i64 0, .int .i64 0, .bool false] 25))
        have HCq1 := Lib.hid ((At3.keep HCq0.out hb).alloc (.cells #[.int .i64 0, .int .i64 0, .bool false] 25))
        have HCr1 := Lib.hid ((At3.keep HCr0.out hb).alloc (.cells #[.int .i64 0, .int .i64 0, .bool false] 25))
        have HCkk1 := Lib.hid (at3_new 25 w1 (.int .i64 0) (.int .i64 0) (.bool false))
        obtain ⟨kk, hkk⟩ : ∃ kk, w1.heap.size = kk := ⟨_, rfl⟩
        obtain ⟨u1, hu1⟩ : ∃ u1, w1.alloc (.cells #[.int .i64 0, .int .i64 0, .bool false] 25) = u1 := ⟨_, rfl⟩
        clear p0 p1 p2 q0 q1 q2 r0 r1 r2
        rw [hu1] at HB1 HCp1 HCq1 HCr1 HCkk1
        rw [hkk] at HCkk1
        have HU1 := Lib.hid hu1
        have HNkk := Lib.hid hkk
        clear hb hb2 hu1 hkk C
        obtain ⟨p0, p1, p2⟩ := cells3 HCp1.out
        obtain ⟨q0, q1, q2⟩ := cells3 HCq1.out
        obtain ⟨r0, r1, r2⟩ := cells3 HCr1.out
        obtain ⟨kk0, kk1, kk2⟩ := cells3 HCkk1.out
        rw [← show w1.alloc (.cells #[.int .i64 0, .int .i64 0, .bool false] 25) = u1 from HU1.out] at p0 p1 p2 q0 q1 q2 r0 r1 r2 kk0 kk1 kk2
        rw [← show w1.heap.size = kk from HNkk.out] at kk0 kk1 kk2
        have C := Lib.hid (fit_is x0 x1 x2 true HF.out u1)
        go_wp2_with fail
        rw [show w1.alloc (.cells #[.int .i64 0, .int .i64 0, .bool false] 25) = u1 from HU1.out]
        rw [show w1.heap.size = kk from HNkk.out]
        refine C.out.mono ?_
        rintro e w2 ⟨rfl, hb⟩
        have HB2 := Lib.hid (below_keep HB1.out hb HB1.out.size)
        have HCp2 := Lib.hid (At3.keep HCp1.out hb)
        have HCq2 := Lib.hid (At3.keep HCq1.out hb)
        have HCr2 := Lib.hid (At3.keep HCr1.out hb)
        have HCkk2 := Lib.hid (At3.keep HCkk1.out hb)
        clear hb C
        clear p0 p1 p2 q0 q1 q2 r0 r1 r2 kk0 kk1 kk2
        obtain ⟨p0, p1, p2⟩ := cells3 HCp2.out
        obtain ⟨q0, q1, q2⟩ := cells3 HCq2.out
        obtain ⟨r0, r1, r2⟩ := cells3 HCr2.out
        obtain ⟨kk0, kk1, kk2⟩ := cells3 HCkk2.out
        have C := Lib.hid (text_is x0 x1 x2 t HTX.out w2 (HV.out w2 HB2.out).1)
        go_wp2_with fail
        refine C.out.mono ?_
        rintro e w3 ⟨rfl, hb⟩
        have HB3 := Lib.hid (below_keep HB2.out hb HB2.out.size)
        have HCp3 := Lib.hid (At3.keep HCp2.out hb)
        have HCq3 := Lib.hid (At3.keep HCq2.out hb)
        have HCr3 := Lib.hid (At3.keep HCr2.out hb)
        have HCkk3 := Lib.hid (At3.keep HCkk2.out hb)
        clear hb C
        clear p0 p1 p2 q0 q1 q2 r0 r1 r2 kk0 kk1 kk2
        obtain ⟨p0, p1, p2⟩ := cells3 HCp3.out
        obtain ⟨q0, q1, q2⟩ := cells3 HCq3.out
        obtain ⟨r0, r1, r2⟩ := cells3 HCr3.out
        obtain ⟨kk0, kk1, kk2⟩ := cells3 HCkk3.out
        have C := Lib.hid (read_is t x0 x1 x2 0 HRX.out HRE.out HTS.out w3 (HV.out w3 HB3.out).2)
        go_wp2_with fail
        refine C.out.mono ?_
        rintro e w4 ⟨rfl, hb⟩
        have hb2 := below_keep HB3.out hb HB3.out.size
        have HB4 := Lib.hid (hb2.alloc hb2.size (.cells #[.int .i64 x0, .int .i64 x1, .bool x2] 25))
        have HCp4 := Lib.hid ((At3.keep HCp3.out hb).alloc (.cells #[.int .i64 x0, .int .i64 x1, .bool x2] 25))
        have HCq4 := Lib.hid ((At3.keep HCq3.out hb).alloc (.cells #[.int .i64 x0, .int .i64 x1, .bool x2] 25))
        have HCr4 := Lib.hid ((At3.keep HCr3.out hb).alloc (.cells #[.int .i64 x0, .int .i64 x1, .bool x2] 25))
        have HCkk4 := Lib.hid ((At3.keep HCkk3.out hb).alloc (.cells #[.int .i64 x0, .int .i64 x1, .bool x2] 25))
        have HCmm4 := Lib.hid (at3_new 25 w4 (.int .i64 x0) (.int .i64 x1) (.bool x2))
        obtain ⟨mm, hmm⟩ : ∃ mm, w4.heap.size = mm := ⟨_, rfl⟩
        obtain ⟨u4, hu4⟩ : ∃ u4, w4.alloc (.cells #[.int .i64 x0, .int .i64 x1, .bool x2] 25) = u4 := ⟨_, rfl⟩
        clear p0 p1 p2 q0 q1 q2 r0 r1 r2 kk0 kk1 kk2
        rw [hu4] at HB4 HCp4 HCq4 HCr4 HCkk4 HCmm4
        rw [hmm] at HCmm4
        have HU4 := Lib.hid hu4
        have HNmm := Lib.hid hmm
        clear hb hb2 hu4 hmm C
        obtain ⟨p0, p1, p2⟩ := cells3 HCp4.out
        obtain ⟨q0, q1, q2⟩ := cells3 HCq4.out
        obtain ⟨r0, r1, r2⟩ := cells3 HCr4.out
        obtain ⟨kk0, kk1, kk2⟩ := cells3 HCkk4.out
        obtain ⟨mm0, mm1, mm2⟩ := cells3 HCmm4.out
        rw [← show w4.alloc (.cells #[.int .i64 x0, .int .i64 x1, .bool x2] 25) = u4 from HU4.out] at p0 p1 p2 q0 q1 q2 r0 r1 r2 kk0 kk1 kk2 mm0 mm1 mm2
        rw [← show w4.heap.size = mm from HNmm.out] at mm0 mm1 mm2
        have C := Lib.hid (below_is x0 x1 x2 y0 y1 y2 false HV1.out u4)
        go_wp2_with fail
        rw [show w4.alloc (.cells #[.int .i64 x0, .int .i64 x1, .bool x2] 25) = u4 from HU4.out]
        rw [show w4.heap.size = mm from HNmm.out]
        refine C.out.mono ?_
        rintro e w5 ⟨rfl, hb⟩
        have HB5 := Lib.hid (below_keep HB4.out hb HB4.out.size)
        have HCp5 := Lib.hid (At3.keep HCp4.out hb)
        have HCq5 := Lib.hid (At3.keep HCq4.out hb)
        have HCr5 := Lib.hid (At3.keep HCr4.out hb)
        have HCkk5 := Lib.hid (At3.keep HCkk4.out hb)
        have HCmm5 := Lib.hid (At3.keep HCmm4.out hb)
        clear hb C
        clear p0 p1 p2 q0 q1 q2 r0 r1 r2 kk0 kk1 kk2 mm0 mm1 mm2
        obtain ⟨p0, p1, p2⟩ := cells3 HCp5.out
        obtain ⟨q0, q1, q2⟩ := cells3 HCq5.out
        obtain ⟨r0, r1, r2⟩ := cells3 HCr5.out
        obtain ⟨kk0, kk1, kk2⟩ := cells3 HCkk5.out
        obtain ⟨mm0, mm1, mm2⟩ := cells3 HCmm5.out
        have C := Lib.hid (below_is y0 y1 y2 x0 x1 x2 false HV2.out w5)
        go_wp2_with fail
        refine C.out.mono ?_
        rintro e w6 ⟨rfl, hb⟩
        have HB6 := Lib.hid (below_keep HB5.out hb HB5.out.size)
        have HCp6 := Lib.hid (At3.keep HCp5.out hb)
        have HCq6 := Lib.hid (At3.keep HCq5.out hb)
        have HCr6 := Lib.hid (At3.keep HCr5.out hb)
        have HCkk6 := Lib.hid (At3.keep HCkk5.out hb)
        have HCmm6 := Lib.hid (At3.keep HCmm5.out hb)
        clear hb C
        clear p0 p1 p2 q0 q1 q2 r0 r1 r2 kk0 kk1 kk2 mm0 mm1 mm2
        obtain ⟨p0, p1, p2⟩ := cells3 HCp6.out
        obtain ⟨q0, q1, q2⟩ := cells3 HCq6.out
        obtain ⟨r0, r1, r2⟩ := cells3 HCr6.out
        obtain ⟨kk0, kk1, kk2⟩ := cells3 HCkk6.out
        obtain ⟨mm0, mm1, mm2⟩ := cells3 HCmm6.out
        have C := Lib.hid (below_is x0 x1 x2 y0 y1 y2 false HV1.out w6)
        go_wp2_with fail
        refine C.out.mono ?_
        rintro e w7 ⟨rfl, hb⟩
        have HB7 := Lib.hid (below_keep HB6.out hb HB6.out.size)
        have HCp7 := Lib.hid (At3.keep HCp6.out hb)
        have HCq7 := Lib.hid (At3.keep HCq6.out hb)
        have HCr7 := Lib.hid (At3.keep HCr6.out hb)
        have HCkk7 := Lib.hid (At3.keep HCkk6.out hb)
        have HCmm7 := Lib.hid (At3.keep HCmm6.out hb)
        clear hb C
        clear p0 p1 p2 q0 q1 q2 r0 r1 r2 kk0 kk1 kk2 mm0 mm1 mm2
        obtain ⟨p0, p1, p2⟩ := cells3 HCp7.out
        obtain ⟨q0, q1, q2⟩ := cells3 HCq7.out
        obtain ⟨r0, r1, r2⟩ := cells3 HCr7.out
        obtain ⟨kk0, kk1, kk2⟩ := cells3 HCkk7.out
        obtain ⟨mm0, mm1, mm2⟩ := cells3 HCmm7.out
        have C := Lib.hid (awake_any w7 (HV.out w7 HB7.out))
        go_wp2_with fail
        refine C.out.mono ?_
        rintro e w8 ⟨rfl, hb⟩
        have HB8 := Lib.hid (below_keep HB7.out hb HB7.out.size)
        have HCp8 := Lib.hid (At3.keep HCp7.out hb)
        have HCq8 := Lib.hid (At3.keep HCq7.out hb)
        have HCr8 := Lib.hid (At3.keep HCr7.out hb)
        have HCkk8 := Lib.hid (At3.keep HCkk7.out hb)
        have HCmm8 := Lib.hid (At3.keep HCmm7.out hb)
        clear hb C
        clear p0 p1 p2 q0 q1 q2 r0 r1 r2 kk0 kk1 kk2 mm0 mm1 mm2
        obtain ⟨p0, p1, p2⟩ := cells3 HCp8.out
        obtain ⟨q0, q1, q2⟩ := cells3 HCq8.out
        obtain ⟨r0, r1, r2⟩ := cells3 HCr8.out
        obtain ⟨kk0, kk1, kk2⟩ := cells3 HCkk8.out
        obtain ⟨mm0, mm1, mm2⟩ := cells3 HCmm8.out
        go_wp2_with fail
        go_ret
        exact ⟨rfl, HB8.out⟩
  | some k =>
    obtain ⟨k0, k1, k2, rfl⟩ := ky_split k
    have HX : Hid (gotK (readK s.data.toList) = ⟨k0, k1, k2⟩) := by show _ = _; rw [hr]; rfl
    have HE : Hid (errK (readK s.data.toList) = 0) := by show _ = _; rw [hr]; rfl
    have HTK : Hid (bs (textK ⟨k0, k1, k2⟩) = s) := by show _ = _; rw [(read_some hr).2]; exact bs_data s
    clear hr
    cases hf : fitK ⟨x0, x1, x2⟩ with
    | false =>
      have HF := Lib.hid hf
      clear hf
      rcases below_one ⟨x0, x1, x2⟩ ⟨y0, y1, y2⟩ with ⟨h1, h2, h3⟩ | ⟨h1, h2, h3⟩ | ⟨h1, h2, h3⟩
      · have HV1 := Lib.hid h1
        have HV2 := Lib.hid h2
        have HQ := Lib.hid h3
        cases h4 : belowK ⟨y0, y1, y2⟩ ⟨z0, z1, z2⟩ with
        | false =>
          have HV3 := Lib.hid h4
          clear h1 h2 h3 h4
          have qe := fun w => eql_ky x0 x1 x2 y0 y1 y2 w
          rw [HQ.out] at qe
          have qg := fun a b w => guard_ky .eql a b x0 x1 x2 y0 y1 y2 w
          have hss : (s.toList == s.toList) = true := by simp
          obtain ⟨p0, p1, p2⟩ := cells3 HCp0.out
          obtain ⟨q0, q1, q2⟩ := cells3 HCq0.out
          obtain ⟨r0, r1, r2⟩ := cells3 HCr0.out
          have C := Lib.hid (read_is s k0 k1 k2 0 HX.out HE.out HS3.out W (HV.out W HB0.out).2)
          go_wp2_with fail
          refine C.out.mono ?_
          rintro e w1 ⟨rfl, hb⟩
          have hb2 := below_keep HB0.out hb HB0.out.size
          have HB1 := Lib.hid (hb2.alloc hb2.size (.cells #[.int .i64 k0, .int .i64 k1, .bool k2] 25))
          have HCp1 := Lib.hid ((At3.keep HCp0.out hb).alloc (.cells #[.int .i64 k0, .int .i64 k1, .bool k2] 25))
          have HCq1 := Lib.hid ((At3.keep HCq0.out hb).alloc (.cells #[.int .i64 k0, .int .i64 k1, .bool k2] 25))
          have HCr1 := Lib.hid ((At3.keep HCr0.out hb).alloc (.cells #[.int .i64 k0, .int .i64 k1, .bool k2] 25))
          have HCkk1 := Lib.hid (at3_new 25 w1 (.int .i64 k0) (.int .i64 k1) (.bool k2))
          obtain ⟨kk, hkk⟩ : ∃ kk, w1.heap.size = kk := ⟨_, rfl⟩
          obtain ⟨u1, hu1⟩ : ∃ u1, w1.alloc (.cells #[.int .i64 k0, .int .i64 k1, .bool k2] 25) = u1 := ⟨_, rfl⟩
          clear p0 p1 p2 q0 q1 q2 r0 r1 r2
          rw [hu1] at HB1 HCp1 HCq1 HCr1 HCkk1
          rw [hkk] at HCkk1
          have HU1 := Lib.hid hu1
          have HNkk := Lib.hid hkk
          clear hb hb2 hu1 hkk C
          obtain ⟨p0, p1, p2⟩ := cells3 HCp1.out
          obtain ⟨q0, q1, q2⟩ := cells3 HCq1.out
          obtain ⟨r0, r1, r2⟩ := cells3 HCr1.out
          obtain ⟨kk0, kk1, kk2⟩ := cells3 HCkk1.out
          rw [← show w1.alloc (.cells #[.int .i64 k0, .int .i64 k1, .bool k2] 25) = u1 from HU1.out] at p0 p1 p2 q0 q1 q2 r0 r1 r2 kk0 kk1 kk2
          rw [← show w1.heap.size = kk from HNkk.out] at kk0 kk1 kk2
          have C := Lib.hid (text_is k0 k1 k2 s HTK.out u1 (HV.out u1 HB1.out).1)
          go_wp2_with fail
          rw [show w1.alloc (.cells #[.int .i64 k0, .int .i64 k1, .bool k2] 25) = u1 from HU1.out]
          rw [show w1.heap.size = kk from HNkk.out]
          refine C.out.mono ?_
          rintro e w2 ⟨rfl, hb⟩
          have HB2 := Lib.hid (below_keep HB1.out hb HB1.out.size)
          have HCp2 := Lib.hid (At3.keep HCp1.out hb)
          have HCq2 := Lib.hid (At3.keep HCq1.out hb)
          have HCr2 := Lib.hid (At3.keep HCr1.out hb)
          have HCkk2 := Lib.hid (At3.keep HCkk1.out hb)
          clear hb C
          clear p0 p1 p2 q0 q1 q2 r0 r1 r2 kk0 kk1 kk2
          obtain ⟨p0, p1, p2⟩ := cells3 HCp2.out
          obtain ⟨q0, q1, q2⟩ := cells3 HCq2.out
          obtain ⟨r0, r1, r2⟩ := cells3 HCr2.out
          obtain ⟨kk0, kk1, kk2⟩ := cells3 HCkk2.out
          have C := Lib.hid (fit_is x0 x1 x2 false HF.out w2)
          go_wp2_with fail
          refine C.out.mono ?_
          rintro e w3 ⟨rfl, hb⟩
          have HB3 := Lib.hid (below_keep HB2.out hb HB2.out.size)
          have HCp3 := Lib.hid (At3.keep HCp2.out hb)
          have HCq3 := Lib.hid (At3.keep HCq2.out hb)
          have HCr3 := Lib.hid (At3.keep HCr2.out hb)
          have HCkk3 := Lib.hid (At3.keep HCkk2.out hb)
          clear hb C
          clear p0 p1 p2 q0 q1 q2 r0 r1 r2 kk0 kk1 kk2
          obtain ⟨p0, p1, p2⟩ := cells3 HCp3.out
          obtain ⟨q0, q1, q2⟩ := cells3 HCq3.out
          obtain ⟨r0, r1, r2⟩ := cells3 HCr3.out
          obtain ⟨kk0, kk1, kk2⟩ := cells3 HCkk3.out
          have C := Lib.hid (below_is x0 x1 x2 y0 y1 y2 true HV1.out w3)
          go_wp2_with fail
          refine C.out.mono ?_
          rintro e w4 ⟨rfl, hb⟩
          have HB4 := Lib.hid (below_keep HB3.out hb HB3.out.size)
          have HCp4 := Lib.hid (At3.keep HCp3.out hb)
          have HCq4 := Lib.hid (At3.keep HCq3.out hb)
          have HCr4 := Lib.hid (At3.keep HCr3.out hb)
          have HCkk4 := Lib.hid (At3.keep HCkk3.out hb)
          clear hb C
          clear p0 p1 p2 q0 q1 q2 r0 r1 r2 kk0 kk1 kk2
          obtain ⟨p0, p1, p2⟩ := cells3 HCp4.out
          obtain ⟨q0, q1, q2⟩ := cells3 HCq4.out
          obtain ⟨r0, r1, r2⟩ := cells3 HCr4.out
          obtain ⟨kk0, kk1, kk2⟩ := cells3 HCkk4.out
          have C := Lib.hid (below_is y0 y1 y2 x0 x1 x2 false HV2.out w4)
          go_wp2_with fail
          refine C.out.mono ?_
          rintro e w5 ⟨rfl, hb⟩
          have HB5 := Lib.hid (below_keep HB4.out hb HB4.out.size)
          have HCp5 := Lib.hid (At3.keep HCp4.out hb)
          have HCq5 := Lib.hid (At3.keep HCq4.out hb)
          have HCr5 := Lib.hid (At3.keep HCr4.out hb)
          have HCkk5 := Lib.hid (At3.keep HCkk4.out hb)
          clear hb C
          clear p0 p1 p2 q0 q1 q2 r0 r1 r2 kk0 kk1 kk2
          obtain ⟨p0, p1, p2⟩ := cells3 HCp5.out
          obtain ⟨q0, q1, q2⟩ := cells3 HCq5.out
          obtain ⟨r0, r1, r2⟩ := cells3 HCr5.out
          obtain ⟨kk0, kk1, kk2⟩ := cells3 HCkk5.out
          have C := Lib.hid (below_is x0 x1 x2 y0 y1 y2 true HV1.out w5)
          go_wp2_with fail
          refine C.out.mono ?_
          rintro e w6 ⟨rfl, hb⟩
          have HB6 := Lib.hid (below_keep HB5.out hb HB5.out.size)
          have HCp6 := Lib.hid (At3.keep HCp5.out hb)
          have HCq6 := Lib.hid (At3.keep HCq5.out hb)
          have HCr6 := Lib.hid (At3.keep HCr5.out hb)
          have HCkk6 := Lib.hid (At3.keep HCkk5.out hb)
          clear hb C
          clear p0 p1 p2 q0 q1 q2 r0 r1 r2 kk0 kk1 kk2
          obtain ⟨p0, p1, p2⟩ := cells3 HCp6.out
          obtain ⟨q0, q1, q2⟩ := cells3 HCq6.out
          obtain ⟨r0, r1, r2⟩ := cells3 HCr6.out
          obtain ⟨kk0, kk1, kk2⟩ := cells3 HCkk6.out
          have C := Lib.hid (below_is y0 y1 y2 z0 z1 z2 false HV3.out w6)
          go_wp2_with fail
          refine C.out.mono ?_
          rintro e w7 ⟨rfl, hb⟩
          have HB7 := Lib.hid (below_keep HB6.out hb HB6.out.size)
          have HCp7 := Lib.hid (At3.keep HCp6.out hb)
          have HCq7 := Lib.hid (At3.keep HCq6.out hb)
          have HCr7 := Lib.hid (At3.keep HCr6.out hb)
          have HCkk7 := Lib.hid (At3.keep HCkk6.out hb)
          clear hb C
          clear p0 p1 p2 q0 q1 q2 r0 r1 r2 kk0 kk1 kk2
          obtain ⟨p0, p1, p2⟩ := cells3 HCp7.out
          obtain ⟨q0, q1, q2⟩ := cells3 HCq7.out
          obtain ⟨r0, r1, r2⟩ := cells3 HCr7.out
          obtain ⟨kk0, kk1, kk2⟩ := cells3 HCkk7.out
          have C := Lib.hid (awake_any w7 (HV.out w7 HB7.out))
          go_wp2_with fail
          refine C.out.mono ?_
          rintro e w8 ⟨rfl, hb⟩
          have HB8 := Lib.hid (below_keep HB7.out hb HB7.out.size)
          have HCp8 := Lib.hid (At3.keep HCp7.out hb)
          have HCq8 := Lib.hid (At3.keep HCq7.out hb)
          have HCr8 := Lib.hid (At3.keep HCr7.out hb)
          have HCkk8 := Lib.hid (At3.keep HCkk7.out hb)
          clear hb C
          clear p0 p1 p2 q0 q1 q2 r0 r1 r2 kk0 kk1 kk2
          obtain ⟨p0, p1, p2⟩ := cells3 HCp8.out
          obtain ⟨q0, q1, q2⟩ := cells3 HCq8.out
          obtain ⟨r0, r1, r2⟩ := cells3 HCr8.out
          obtain ⟨kk0, kk1, kk2⟩ := cells3 HCkk8.out
          go_wp2_with fail
          go_ret
          exact ⟨rfl, HB8.out⟩
        | true =>
          have HV3 := Lib.hid h4
          have HV4 := Lib.hid (below_trans h1 h4)
          clear h1 h2 h3 h4
          have qe := fun w => eql_ky x0 x1 x2 y0 y1 y2 w
          rw [HQ.out] at qe
          have qg := fun a b w => guard_ky .eql a b x0 x1 x2 y0 y1 y2 w
          have hss : (s.toList == s.toList) = true := by simp
          obtain ⟨p0, p1, p2⟩ := cells3 HCp0.out
          obtain ⟨q0, q1, q2⟩ := cells3 HCq0.out
          obtain ⟨r0, r1, r2⟩ := cells3 HCr0.out
          have C := Lib.hid (read_is s k0 k1 k2 0 HX.out HE.out HS3.out W (HV.out W HB0.out).2)
          go_wp2_with fail
          refine C.out.mono ?_
          rintro e w1 ⟨rfl, hb⟩
          have hb2 := below_keep HB0.out hb HB0.out.size
          have HB1 := Lib.hid (hb2.alloc hb2.size (.cells #[.int .i64 k0, .int .i64 k1, .bool k2] 25))
          have HCp1 := Lib.hid ((At3.keep HCp0.out hb).alloc (.cells #[.int .i64 k0, .int .i64 k1, .bool k2] 25))
          have HCq1 := Lib.hid ((At3.keep HCq0.out hb).alloc (.cells #[.int .i64 k0, .int .i64 k1, .bool k2] 25))
          have HCr1 := Lib.hid ((At3.keep HCr0.out hb).alloc (.cells #[.int .i64 k0, .int .i64 k1, .bool k2] 25))
          have HCkk1 := Lib.hid (at3_new 25 w1 (.int .i64 k0) (.int .i64 k1) (.bool k2))
          obtain ⟨kk, hkk⟩ : ∃ kk, w1.heap.size = kk := ⟨_, rfl⟩
          obtain ⟨u1, hu1⟩ : ∃ u1, w1.alloc (.cells #[.int .i64 k0, .int .i64 k1, .bool k2] 25) = u1 := ⟨_, rfl⟩
          clear p0 p1 p2 q0 q1 q2 r0 r1 r2
          rw [hu1] at HB1 HCp1 HCq1 HCr1 HCkk1
          rw [hkk] at HCkk1
          have HU1 := Lib.hid hu1
          have HNkk := Lib.hid hkk
          clear hb hb2 hu1 hkk C
          obtain ⟨p0, p1, p2⟩ := cells3 HCp1.out
          obtain ⟨q0, q1, q2⟩ := cells3 HCq1.out
          obtain ⟨r0, r1, r2⟩ := cells3 HCr1.out
          obtain ⟨kk0, kk1, kk2⟩ := cells3 HCkk1.out
          rw [← show w1.alloc (.cells #[.int .i64 k0, .int .i64 k1, .bool k2] 25) = u1 from HU1.out] at p0 p1 p2 q0 q1 q2 r0 r1 r2 kk0 kk1 kk2
          rw [← show w1.heap.size = kk from HNkk.out] at kk0 kk1 kk2
          have C := Lib.hid (text_is k0 k1 k2 s HTK.out u1 (HV.out u1 HB1.out).1)
          go_wp2_with fail
          rw [show w1.alloc (.cells #[.int .i64 k0, .int .i64 k1, .bool k2] 25) = u1 from HU1.out]
          rw [show w1.heap.size = kk from HNkk.out]
          refine C.out.mono ?_
          rintro e w2 ⟨rfl, hb⟩
          have HB2 := Lib.hid (below_keep HB1.out hb HB1.out.size)
          have HCp2 := Lib.hid (At3.keep HCp1.out hb)
          have HCq2 := Lib.hid (At3.keep HCq1.out hb)
          have HCr2 := Lib.hid (At3.keep HCr1.out hb)
          have HCkk2 := Lib.hid (At3.keep HCkk1.out hb)
          clear hb C
          clear p0 p1 p2 q0 q1 q2 r0 r1 r2 kk0 kk1 kk2
          obtain ⟨p0, p1, p2⟩ := cells3 HCp2.out
          obtain ⟨q0, q1, q2⟩ := cells3 HCq2.out
          obtain ⟨r0, r1, r2⟩ := cells3 HCr2.out
          obtain ⟨kk0, kk1, kk2⟩ := cells3 HCkk2.out
          have C := Lib.hid (fit_is x0 x1 x2 false HF.out w2)
          go_wp2_with fail
          refine C.out.mono ?_
          rintro e w3 ⟨rfl, hb⟩
          have HB3 := Lib.hid (below_keep HB2.out hb HB2.out.size)
          have HCp3 := Lib.hid (At3.keep HCp2.out hb)
          have HCq3 := Lib.hid (At3.keep HCq2.out hb)
          have HCr3 := Lib.hid (At3.keep HCr2.out hb)
          have HCkk3 := Lib.hid (At3.keep HCkk2.out hb)
          clear hb C
          clear p0 p1 p2 q0 q1 q2 r0 r1 r2 kk0 kk1 kk2
          obtain ⟨p0, p1, p2⟩ := cells3 HCp3.out
          obtain ⟨q0, q1, q2⟩ := cells3 HCq3.out
          obtain ⟨r0, r1, r2⟩ := cells3 HCr3.out
          obtain ⟨kk0, kk1, kk2⟩ := cells3 HCkk3.out
          have C := Lib.hid (below_is x0 x1 x2 y0 y1 y2 true HV1.out w3)
          go_wp2_with fail
          refine C.out.mono ?_
          rintro e w4 ⟨rfl, hb⟩
          have HB4 := Lib.hid (below_keep HB3.out hb HB3.out.size)
          have HCp4 := Lib.hid (At3.keep HCp3.out hb)
          have HCq4 := Lib.hid (At3.keep HCq3.out hb)
          have HCr4 := Lib.hid (At3.keep HCr3.out hb)
          have HCkk4 := Lib.hid (At3.keep HCkk3.out hb)
          clear hb C
          clear p0 p1 p2 q0 q1 q2 r0 r1 r2 kk0 kk1 kk2
          obtain ⟨p0, p1, p2⟩ := cells3 HCp4.out
          obtain ⟨q0, q1, q2⟩ := cells3 HCq4.out
          obtain ⟨r0, r1, r2⟩ := cells3 HCr4.out
          obtain ⟨kk0, kk1, kk2⟩ := cells3 HCkk4.out
          have C := Lib.hid (below_is y0 y1 y2 x0 x1 x2 false HV2.out w4)
          go_wp2_with fail
          refine C.out.mono ?_
          rintro e w5 ⟨rfl, hb⟩
          have HB5 := Lib.hid (below_keep HB4.out hb HB4.out.size)
          have HCp5 := Lib.hid (At3.keep HCp4.out hb)
          have HCq5 := Lib.hid (At3.keep HCq4.out hb)
          have HCr5 := Lib.hid (At3.keep HCr4.out hb)
          have HCkk5 := Lib.hid (At3.keep HCkk4.out hb)
          clear hb C
          clear p0 p1 p2 q0 q1 q2 r0 r1 r2 kk0 kk1 kk2
          obtain ⟨p0, p1, p2⟩ := cells3 HCp5.out
          obtain ⟨q0, q1, q2⟩ := cells3 HCq5.out
          obtain ⟨r0, r1, r2⟩ := cells3 HCr5.out
          obtain ⟨kk0, kk1, kk2⟩ := cells3 HCkk5.out
          have C := Lib.hid (below_is x0 x1 x2 y0 y1 y2 true HV1.out w5)
          go_wp2_with fail
          refine C.out.mono ?_
          rintro e w6 ⟨rfl, hb⟩
          have HB6 := Lib.hid (below_keep HB5.out hb HB5.out.size)
          have HCp6 := Lib.hid (At3.keep HCp5.out hb)
          have HCq6 := Lib.hid (At3.keep HCq5.out hb)
          have HCr6 := Lib.hid (At3.keep HCr5.out hb)
          have HCkk6 := Lib.hid (At3.keep HCkk5.out hb)
          clear hb C
          clear p0 p1 p2 q0 q1 q2 r0 r1 r2 kk0 kk1 kk2
          obtain ⟨p0, p1, p2⟩ := cells3 HCp6.out
          obtain ⟨q0, q1, q2⟩ := cells3 HCq6.out
          obtain ⟨r0, r1, r2⟩ := cells3 HCr6.out
          obtain ⟨kk0, kk1, kk2⟩ := cells3 HCkk6.out
          have C := Lib.hid (below_is y0 y1 y2 z0 z1 z2 true HV3.out w6)
          go_wp2_with fail
          refine C.out.mono ?_
          rintro e w7 ⟨rfl, hb⟩
          have HB7 := Lib.hid (below_keep HB6.out hb HB6.out.size)
          have HCp7 := Lib.hid (At3.keep HCp6.out hb)
          have HCq7 := Lib.hid (At3.keep HCq6.out hb)
          have HCr7 := Lib.hid (At3.keep HCr6.out hb)
          have HCkk7 := Lib.hid (At3.keep HCkk6.out hb)
          clear hb C
          clear p0 p1 p2 q0 q1 q2 r0 r1 r2 kk0 kk1 kk2
          obtain ⟨p0, p1, p2⟩ := cells3 HCp7.out
          obtain ⟨q0, q1, q2⟩ := cells3 HCq7.out
          obtain ⟨r0, r1, r2⟩ := cells3 HCr7.out
          obtain ⟨kk0, kk1, kk2⟩ := cells3 HCkk7.out
          have C := Lib.hid (below_is x0 x1 x2 z0 z1 z2 true HV4.out w7)
          go_wp2_with fail
          refine C.out.mono ?_
          rintro e w8 ⟨rfl, hb⟩
          have HB8 := Lib.hid (below_keep HB7.out hb HB7.out.size)
          have HCp8 := Lib.hid (At3.keep HCp7.out hb)
          have HCq8 := Lib.hid (At3.keep HCq7.out hb)
          have HCr8 := Lib.hid (At3.keep HCr7.out hb)
          have HCkk8 := Lib.hid (At3.keep HCkk7.out hb)
          clear hb C
          clear p0 p1 p2 q0 q1 q2 r0 r1 r2 kk0 kk1 kk2
          obtain ⟨p0, p1, p2⟩ := cells3 HCp8.out
          obtain ⟨q0, q1, q2⟩ := cells3 HCq8.out
          obtain ⟨r0, r1, r2⟩ := cells3 HCr8.out
          obtain ⟨kk0, kk1, kk2⟩ := cells3 HCkk8.out
          have C := Lib.hid (awake_any w8 (HV.out w8 HB8.out))
          go_wp2_with fail
          refine C.out.mono ?_
          rintro e w9 ⟨rfl, hb⟩
          have HB9 := Lib.hid (below_keep HB8.out hb HB8.out.size)
          have HCp9 := Lib.hid (At3.keep HCp8.out hb)
          have HCq9 := Lib.hid (At3.keep HCq8.out hb)
          have HCr9 := Lib.hid (At3.keep HCr8.out hb)
          have HCkk9 := Lib.hid (At3.keep HCkk8.out hb)
          clear hb C
          clear p0 p1 p2 q0 q1 q2 r0 r1 r2 kk0 kk1 kk2
          obtain ⟨p0, p1, p2⟩ := cells3 HCp9.out
          obtain ⟨q0, q1, q2⟩ := cells3 HCq9.out
          obtain ⟨r0, r1, r2⟩ := cells3 HCr9.out
          obtain ⟨kk0, kk1, kk2⟩ := cells3 HCkk9.out
          go_wp2_with fail
          go_ret
          exact ⟨rfl, HB9.out⟩
      · have HV1 := Lib.hid h1
        have HV2 := Lib.hid h2
        have HQ := Lib.hid h3
        clear h1 h2 h3
        have qe := fun w => eql_ky x0 x1 x2 y0 y1 y2 w
        rw [HQ.out] at qe
        have qg := fun a b w => guard_ky .eql a b x0 x1 x2 y0 y1 y2 w
        have hss : (s.toList == s.toList) = true := by simp
        obtain ⟨p0, p1, p2⟩ := cells3 HCp0.out
        obtain ⟨q0, q1, q2⟩ := cells3 HCq0.out
        obtain ⟨r0, r1, r2⟩ := cells3 HCr0.out
        have C := Lib.hid (read_is s k0 k1 k2 0 HX.out HE.out HS3.out W (HV.out W HB0.out).2)
        go_wp2_with fail
        refine C.out.mono ?_
        rintro e w1 ⟨rfl, hb⟩
        have hb2 := below_keep HB0.out hb HB0.out.size
        have HB1 := Lib.hid (hb2.alloc hb2.size (.cells #[.int .i64 k0, .int .i64 k1, .bool k2] 25))
        have HCp1 := Lib.hid ((At3.keep HCp0.out hb).alloc (.cells #[.int .i64 k0, .int .i64 k1, .bool k2] 25))
        have HCq1 := Lib.hid ((At3.keep HCq0.out hb).alloc (.cells #[.int .i64 k0, .int .i64 k1, .bool k2] 25))
        have HCr1 := Lib.hid ((At3.keep HCr0.out hb).alloc (.cells #[.int .i64 k0, .int .i64 k1, .bool k2] 25))
        have HCkk1 := Lib.hid (at3_new 25 w1 (.int .i64 k0) (.int .i64 k1) (.bool k2))
        obtain ⟨kk, hkk⟩ : ∃ kk, w1.heap.size = kk := ⟨_, rfl⟩
        obtain ⟨u1, hu1⟩ : ∃ u1, w1.alloc (.cells #[.int .i64 k0, .int .i64 k1, .bool k2] 25) = u1 := ⟨_, rfl⟩
        clear p0 p1 p2 q0 q1 q2 r0 r1 r2
        rw [hu1] at HB1 HCp1 HCq1 HCr1 HCkk1
        rw [hkk] at HCkk1
        have HU1 := Lib.hid hu1
        have HNkk := Lib.hid hkk
        clear hb hb2 hu1 hkk C
        obtain ⟨p0, p1, p2⟩ := cells3 HCp1.out
        obtain ⟨q0, q1, q2⟩ := cells3 HCq1.out
        obtain ⟨r0, r1, r2⟩ := cells3 HCr1.out
        obtain ⟨kk0, kk1, kk2⟩ := cells3 HCkk1.out
        rw [← show w1.alloc (.cells #[.int .i64 k0, .int .i64 k1, .bool k2] 25) = u1 from HU1.out] at p0 p1 p2 q0 q1 q2 r0 r1 r2 kk0 kk1 kk2
        rw [← show w1.heap.size = kk from HNkk.out] at kk0 kk1 kk2
        have C := Lib.hid (text_is k0 k1 k2 s HTK.out u1 (HV.out u1 HB1.out).1)
        go_wp2_with fail
        rw [show w1.alloc (.cells #[.int .i64 k0, .int .i64 k1, .bool k2] 25) = u1 from HU1.out]
        rw [show w1.heap.size = kk from HNkk.out]
        refine C.out.mono ?_
        rintro e w2 ⟨rfl, hb⟩
        have HB2 := Lib.hid (below_keep HB1.out hb HB1.out.size)
        have HCp2 := Lib.hid (At3.keep HCp1.out hb)
        have HCq2 := Lib.hid (At3.keep HCq1.out hb)
        have HCr2 := Lib.hid (At3.keep HCr1.out hb)
        have HCkk2 := Lib.hid (At3.keep HCkk1.out hb)
        clear hb C
        clear p0 p1 p2 q0 q1 q2 r0 r1 r2 kk0 kk1 kk2
        obtain ⟨p0, p1, p2⟩ := cells3 HCp2.out
        obtain ⟨q0, q1, q2⟩ := cells3 HCq2.out
        obtain ⟨r0, r1, r2⟩ := cells3 HCr2.out
        obtain ⟨kk0, kk1, kk2⟩ := cells3 HCkk2.out
        have C := Lib.hid (fit_is x0 x1 x2 false HF.out w2)
        go_wp2_with fail
        refine C.out.mono ?_
        rintro e w3 ⟨rfl, hb⟩
        have HB3 := Lib.hid (below_keep HB2.out hb HB2.out.size)
        have HCp3 := Lib.hid (At3.keep HCp2.out hb)
        have HCq3 := Lib.hid (At3.keep HCq2.out hb)
        have HCr3 := Lib.hid (At3.keep HCr2.out hb)
        have HCkk3 := Lib.hid (At3.keep HCkk2.out hb)
        clear hb C
        clear p0 p1 p2 q0 q1 q2 r0 r1 r2 kk0 kk1 kk2
        obtain ⟨p0, p1, p2⟩ := cells3 HCp3.out
        obtain ⟨q0, q1, q2⟩ := cells3 HCq3.out
        obtain ⟨r0, r1, r2⟩ := cells3 HCr3.out
        obtain ⟨kk0, kk1, kk2⟩ := cells3 HCkk3.out
        have C := Lib.hid (below_is x0 x1 x2 y0 y1 y2 false HV1.out w3)
        go_wp2_with fail
        refine C.out.mono ?_
        rintro e w4 ⟨rfl, hb⟩
        have HB4 := Lib.hid (below_keep HB3.out hb HB3.out.size)
        have HCp4 := Lib.hid (At3.keep HCp3.out hb)
        have HCq4 := Lib.hid (At3.keep HCq3.out hb)
        have HCr4 := Lib.hid (At3.keep HCr3.out hb)
        have HCkk4 := Lib.hid (At3.keep HCkk3.out hb)
        clear hb C
        clear p0 p1 p2 q0 q1 q2 r0 r1 r2 kk0 kk1 kk2
        obtain ⟨p0, p1, p2⟩ := cells3 HCp4.out
        obtain ⟨q0, q1, q2⟩ := cells3 HCq4.out
        obtain ⟨r0, r1, r2⟩ := cells3 HCr4.out
        obtain ⟨kk0, kk1, kk2⟩ := cells3 HCkk4.out
        have C := Lib.hid (below_is y0 y1 y2 x0 x1 x2 true HV2.out w4)
        go_wp2_with fail
        refine C.out.mono ?_
        rintro e w5 ⟨rfl, hb⟩
        have HB5 := Lib.hid (below_keep HB4.out hb HB4.out.size)
        have HCp5 := Lib.hid (At3.keep HCp4.out hb)
        have HCq5 := Lib.hid (At3.keep HCq4.out hb)
        have HCr5 := Lib.hid (At3.keep HCr4.out hb)
        have HCkk5 := Lib.hid (At3.keep HCkk4.out hb)
        clear hb C
        clear p0 p1 p2 q0 q1 q2 r0 r1 r2 kk0 kk1 kk2
        obtain ⟨p0, p1, p2⟩ := cells3 HCp5.out
        obtain ⟨q0, q1, q2⟩ := cells3 HCq5.out
        obtain ⟨r0, r1, r2⟩ := cells3 HCr5.out
        obtain ⟨kk0, kk1, kk2⟩ := cells3 HCkk5.out
        have C := Lib.hid (below_is x0 x1 x2 y0 y1 y2 false HV1.out w5)
        go_wp2_with fail
        refine C.out.mono ?_
        rintro e w6 ⟨rfl, hb⟩
        have HB6 := Lib.hid (below_keep HB5.out hb HB5.out.size)
        have HCp6 := Lib.hid (At3.keep HCp5.out hb)
        have HCq6 := Lib.hid (At3.keep HCq5.out hb)
        have HCr6 := Lib.hid (At3.keep HCr5.out hb)
        have HCkk6 := Lib.hid (At3.keep HCkk5.out hb)
        clear hb C
        clear p0 p1 p2 q0 q1 q2 r0 r1 r2 kk0 kk1 kk2
        obtain ⟨p0, p1, p2⟩ := cells3 HCp6.out
        obtain ⟨q0, q1, q2⟩ := cells3 HCq6.out
        obtain ⟨r0, r1, r2⟩ := cells3 HCr6.out
        obtain ⟨kk0, kk1, kk2⟩ := cells3 HCkk6.out
        have C := Lib.hid (awake_any w6 (HV.out w6 HB6.out))
        go_wp2_with fail
        refine C.out.mono ?_
        rintro e w7 ⟨rfl, hb⟩
        have HB7 := Lib.hid (below_keep HB6.out hb HB6.out.size)
        have HCp7 := Lib.hid (At3.keep HCp6.out hb)
        have HCq7 := Lib.hid (At3.keep HCq6.out hb)
        have HCr7 := Lib.hid (At3.keep HCr6.out hb)
        have HCkk7 := Lib.hid (At3.keep HCkk6.out hb)
        clear hb C
        clear p0 p1 p2 q0 q1 q2 r0 r1 r2 kk0 kk1 kk2
        obtain ⟨p0, p1, p2⟩ := cells3 HCp7.out
        obtain ⟨q0, q1, q2⟩ := cells3 HCq7.out
        obtain ⟨r0, r1, r2⟩ := cells3 HCr7.out
        obtain ⟨kk0, kk1, kk2⟩ := cells3 HCkk7.out
        go_wp2_with fail
        go_ret
        exact ⟨rfl, HB7.out⟩
      · have HV1 := Lib.hid h1
        have HV2 := Lib.hid h2
        have HQ := Lib.hid h3
        clear h1 h2 h3
        have qe := fun w => eql_ky x0 x1 x2 y0 y1 y2 w
        rw [HQ.out] at qe
        have qg := fun a b w => guard_ky .eql a b x0 x1 x2 y0 y1 y2 w
        have hss : (s.toList == s.toList) = true := by simp
        obtain ⟨p0, p1, p2⟩ := cells3 HCp0.out
        obtain ⟨q0, q1, q2⟩ := cells3 HCq0.out
        obtain ⟨r0, r1, r2⟩ := cells3 HCr0.out
        have C := Lib.hid (read_is s k0 k1 k2 0 HX.out HE.out HS3.out W (HV.out W HB0.out).2)
        go_wp2_with fail
        refine C.out.mono ?_
        rintro e w1 ⟨rfl, hb⟩
        have hb2 := below_keep HB0.out hb HB0.out.size
        have HB1 := Lib.hid (hb2.alloc hb2.size (.cells #[.int .i64 k0, .int .i64 k1, .bool k2] 25))
        have HCp1 := Lib.hid ((At3.keep HCp0.out hb).alloc (.cells #[.int .i64 k0, .int .i64 k1, .bool k2] 25))
        have HCq1 := Lib.hid ((At3.keep HCq0.out hb).alloc (.cells #[.int .i64 k0, .int .i64 k1, .bool k2] 25))
        have HCr1 := Lib.hid ((At3.keep HCr0.out hb).alloc (.cells #[.int .i64 k0, .int .i64 k1, .bool k2] 25))
        have HCkk1 := Lib.hid (at3_new 25 w1 (.int .i64 k0) (.int .i64 k1) (.bool k2))
        obtain ⟨kk, hkk⟩ : ∃ kk, w1.heap.size = kk := ⟨_, rfl⟩
        obtain ⟨u1, hu1⟩ : ∃ u1, w1.alloc (.cells #[.int .i64 k0, .int .i64 k1, .bool k2] 25) = u1 := ⟨_, rfl⟩
        clear p0 p1 p2 q0 q1 q2 r0 r1 r2
        rw [hu1] at HB1 HCp1 HCq1 HCr1 HCkk1
        rw [hkk] at HCkk1
        have HU1 := Lib.hid hu1
        have HNkk := Lib.hid hkk
        clear hb hb2 hu1 hkk C
        obtain ⟨p0, p1, p2⟩ := cells3 HCp1.out
        obtain ⟨q0, q1, q2⟩ := cells3 HCq1.out
        obtain ⟨r0, r1, r2⟩ := cells3 HCr1.out
        obtain ⟨kk0, kk1, kk2⟩ := cells3 HCkk1.out
        rw [← show w1.alloc (.cells #[.int .i64 k0, .int .i64 k1, .bool k2] 25) = u1 from HU1.out] at p0 p1 p2 q0 q1 q2 r0 r1 r2 kk0 kk1 kk2
        rw [← show w1.heap.size = kk from HNkk.out] at kk0 kk1 kk2
        have C := Lib.hid (text_is k0 k1 k2 s HTK.out u1 (HV.out u1 HB1.out).1)
        go_wp2_with fail
        rw [show w1.alloc (.cells #[.int .i64 k0, .int .i64 k1, .bool k2] 25) = u1 from HU1.out]
        rw [show w1.heap.size = kk from HNkk.out]
        refine C.out.mono ?_
        rintro e w2 ⟨rfl, hb⟩
        have HB2 := Lib.hid (below_keep HB1.out hb HB1.out.size)
        have HCp2 := Lib.hid (At3.keep HCp1.out hb)
        have HCq2 := Lib.hid (At3.keep HCq1.out hb)
        have HCr2 := Lib.hid (At3.keep HCr1.out hb)
        have HCkk2 := Lib.hid (At3.keep HCkk1.out hb)
        clear hb C
        clear p0 p1 p2 q0 q1 q2 r0 r1 r2 kk0 kk1 kk2
        obtain ⟨p0, p1, p2⟩ := cells3 HCp2.out
        obtain ⟨q0, q1, q2⟩ := cells3 HCq2.out
        obtain ⟨r0, r1, r2⟩ := cells3 HCr2.out
        obtain ⟨kk0, kk1, kk2⟩ := cells3 HCkk2.out
        have C := Lib.hid (fit_is x0 x1 x2 false HF.out w2)
        go_wp2_with fail
        refine C.out.mono ?_
        rintro e w3 ⟨rfl, hb⟩
        have HB3 := Lib.hid (below_keep HB2.out hb HB2.out.size)
        have HCp3 := Lib.hid (At3.keep HCp2.out hb)
        have HCq3 := Lib.hid (At3.keep HCq2.out hb)
        have HCr3 := Lib.hid (At3.keep HCr2.out hb)
        have HCkk3 := Lib.hid (At3.keep HCkk2.out hb)
        clear hb C
        clear p0 p1 p2 q0 q1 q2 r0 r1 r2 kk0 kk1 kk2
        obtain ⟨p0, p1, p2⟩ := cells3 HCp3.out
        obtain ⟨q0, q1, q2⟩ := cells3 HCq3.out
        obtain ⟨r0, r1, r2⟩ := cells3 HCr3.out
        obtain ⟨kk0, kk1, kk2⟩ := cells3 HCkk3.out
        have C := Lib.hid (below_is x0 x1 x2 y0 y1 y2 false HV1.out w3)
        go_wp2_with fail
        refine C.out.mono ?_
        rintro e w4 ⟨rfl, hb⟩
        have HB4 := Lib.hid (below_keep HB3.out hb HB3.out.size)
        have HCp4 := Lib.hid (At3.keep HCp3.out hb)
        have HCq4 := Lib.hid (At3.keep HCq3.out hb)
        have HCr4 := Lib.hid (At3.keep HCr3.out hb)
        have HCkk4 := Lib.hid (At3.keep HCkk3.out hb)
        clear hb C
        clear p0 p1 p2 q0 q1 q2 r0 r1 r2 kk0 kk1 kk2
        obtain ⟨p0, p1, p2⟩ := cells3 HCp4.out
        obtain ⟨q0, q1, q2⟩ := cells3 HCq4.out
        obtain ⟨r0, r1, r2⟩ := cells3 HCr4.out
        obtain ⟨kk0, kk1, kk2⟩ := cells3 HCkk4.out
        have C := Lib.hid (below_is y0 y1 y2 x0 x1 x2 false HV2.out w4)
        go_wp2_with fail
        refine C.out.mono ?_
        rintro e w5 ⟨rfl, hb⟩
        have HB5 := Lib.hid (below_keep HB4.out hb HB4.out.size)
        have HCp5 := Lib.hid (At3.keep HCp4.out hb)
        have HCq5 := Lib.hid (At3.keep HCq4.out hb)
        have HCr5 := Lib.hid (At3.keep HCr4.out hb)
        have HCkk5 := Lib.hid (At3.keep HCkk4.out hb)
        clear hb C
        clear p0 p1 p2 q0 q1 q2 r0 r1 r2 kk0 kk1 kk2
        obtain ⟨p0, p1, p2⟩ := cells3 HCp5.out
        obtain ⟨q0, q1, q2⟩ := cells3 HCq5.out
        obtain ⟨r0, r1, r2⟩ := cells3 HCr5.out
        obtain ⟨kk0, kk1, kk2⟩ := cells3 HCkk5.out
        have C := Lib.hid (below_is x0 x1 x2 y0 y1 y2 false HV1.out w5)
        go_wp2_with fail
        refine C.out.mono ?_
        rintro e w6 ⟨rfl, hb⟩
        have HB6 := Lib.hid (below_keep HB5.out hb HB5.out.size)
        have HCp6 := Lib.hid (At3.keep HCp5.out hb)
        have HCq6 := Lib.hid (At3.keep HCq5.out hb)
        have HCr6 := Lib.hid (At3.keep HCr5.out hb)
        have HCkk6 := Lib.hid (At3.keep HCkk5.out hb)
        clear hb C
        clear p0 p1 p2 q0 q1 q2 r0 r1 r2 kk0 kk1 kk2
        obtain ⟨p0, p1, p2⟩ := cells3 HCp6.out
        obtain ⟨q0, q1, q2⟩ := cells3 HCq6.out
        obtain ⟨r0, r1, r2⟩ := cells3 HCr6.out
        obtain ⟨kk0, kk1, kk2⟩ := cells3 HCkk6.out
        have C := Lib.hid (awake_any w6 (HV.out w6 HB6.out))
        go_wp2_with fail
        refine C.out.mono ?_
        rintro e w7 ⟨rfl, hb⟩
        have HB7 := Lib.hid (below_keep HB6.out hb HB6.out.size)
        have HCp7 := Lib.hid (At3.keep HCp6.out hb)
        have HCq7 := Lib.hid (At3.keep HCq6.out hb)
        have HCr7 := Lib.hid (At3.keep HCr6.out hb)
        have HCkk7 := Lib.hid (At3.keep HCkk6.out hb)
        clear hb C
        clear p0 p1 p2 q0 q1 q2 r0 r1 r2 kk0 kk1 kk2
        obtain ⟨p0, p1, p2⟩ := cells3 HCp7.out
        obtain ⟨q0, q1, q2⟩ := cells3 HCq7.out
        obtain ⟨r0, r1, r2⟩ := cells3 HCr7.out
        obtain ⟨kk0, kk1, kk2⟩ := cells3 HCkk7.out
        go_wp2_with fail
        go_ret
        exact ⟨rfl, HB7.out⟩
    | true =>
      have HF := Lib.hid hf
      obtain ⟨t, ht⟩ : ∃ t, bs (textK ⟨x0, x1, x2⟩) = t := ⟨_, rfl⟩
      have HTX := Lib.hid ht
      have HTS : Hid (t.size ≤ 300) := by show _ ≤ _; rw [← ht]; exact text_len _
      have HRX : Hid (gotK (readK t.data.toList) = ⟨x0, x1, x2⟩) := by show _ = _; rw [← ht, data_bs, read_back hf]; rfl
      have HRE : Hid (errK (readK t.data.toList) = 0) := by show _ = _; rw [← ht, data_bs, read_back hf]; rfl
      clear hf ht
      rcases below_one ⟨x0, x1, x2⟩ ⟨y0, y1, y2⟩ with ⟨h1, h2, h3⟩ | ⟨h1, h2, h3⟩ | ⟨h1, h2, h3⟩
      · have HV1 := Lib.hid h1
        have HV2 := Lib.hid h2
        have HQ := Lib.hid h3
        cases h4 : belowK ⟨y0, y1, y2⟩ ⟨z0, z1, z2⟩ with
        | false =>
          have HV3 := Lib.hid h4
          clear h1 h2 h3 h4
          have qe := fun w => eql_ky x0 x1 x2 y0 y1 y2 w
          rw [HQ.out] at qe
          have qg := fun a b w => guard_ky .eql a b x0 x1 x2 y0 y1 y2 w
          have qn : ∀ w, (binOp .neq 25 (kv x0 x1 x2) (kv x0 x1 x2)).run Tryd.prog w = .ok (.bool false) w := fun w => by rw [neq_ky, eqK_refl]; rfl
          have qh := fun a b w => guard_ky .neq a b x0 x1 x2 x0 x1 x2 w
          have hss : (s.toList == s.toList) = true := by simp
          obtain ⟨p0, p1, p2⟩ := cells3 HCp0.out
          obtain ⟨q0, q1, q2⟩ := cells3 HCq0.out
          obtain ⟨r0, r1, r2⟩ := cells3 HCr0.out
          have C := Lib.hid (read_is s k0 k1 k2 0 HX.out HE.out HS3.out W (HV.out W HB0.out).2)
          go_wp2_with fail
          refine C.out.mono ?_
          rintro e w1 ⟨rfl, hb⟩
          have hb2 := below_keep HB0.out hb HB0.out.size
          have HB1 := Lib.hid (hb2.alloc hb2.size (.cells #[.int .i64 k0, .int .i64 k1, .bool k2] 25))
          have HCp1 := Lib.hid ((At3.keep HCp0.out hb).alloc (.cells #[.int .i64 k0, .int .i64 k1, .bool k2] 25))
          have HCq1 := Lib.hid ((At3.keep HCq0.out hb).alloc (.cells #[.int .i64 k0, .int .i64 k1, .bool k2] 25))
          have HCr1 := Lib.hid ((At3.keep HCr0.out hb).alloc (.cells #[.int .i64 k0, .int .i64 k1, .bool k2] 25))
          have HCkk1 := Lib.hid (at3_new 25 w1 (.int .i64 k0) (.int .i64 k1) (.bool k2))
          obtain ⟨kk, hkk⟩ : ∃ kk, w1.heap.size = kk := ⟨_, rfl⟩
          obtain ⟨u1, hu1⟩ : ∃ u1, w1.alloc (.cells #[.int .i64 k0, .int .i64 k1, .bool k2] 25) = u1 := ⟨_, rfl⟩
          clear p0 p1 p2 q0 q1 q2 r0 r1 r2
          rw [hu1] at HB1 HCp1 HCq1 HCr1 HCkk1
          rw [hkk] at HCkk1
          have HU1 := Lib.hid hu1
          have HNkk := Lib.hid hkk
          clear hb hb2 hu1 hkk C
          obtain ⟨p0, p1, p2⟩ := cells3 HCp1.out
          obtain ⟨q0, q1, q2⟩ := cells3 HCq1.out
          obtain ⟨r0, r1, r2⟩ := cells3 HCr1.out
          obtain ⟨kk0, kk1, kk2⟩ := cells3 HCkk1.out
          rw [← show w1.alloc (.cells #[.int .i64 k0, .int .i64 k1, .bool k2] 25) = u1 from HU1.out] at p0 p1 p2 q0 q1 q2 r0 r1 r2 kk0 kk1 kk2
          rw [← show w1.heap.size = kk from HNkk.out] at kk0 kk1 kk2
          have C := Lib.hid (text_is k0 k1 k2 s HTK.out u1 (HV.out u1 HB1.out).1)
          go_wp2_with fail
          rw [show w1.alloc (.cells #[.int .i64 k0, .int .i64 k1, .bool k2] 25) = u1 from HU1.out]
          rw [show w1.heap.size = kk from HNkk.out]
          refine C.out.mono ?_
          rintro e w2 ⟨rfl, hb⟩
          have HB2 := Lib.hid (below_keep HB1.out hb HB1.out.size)
          have HCp2 := Lib.hid (At3.keep HCp1.out hb)
          have HCq2 := Lib.hid (At3.keep HCq1.out hb)
          have HCr2 := Lib.hid (At3.keep HCr1.out hb)
          have HCkk2 := Lib.hid (At3.keep HCkk1.out hb)
          clear hb C
          clear p0 p1 p2 q0 q1 q2 r0 r1 r2 kk0 kk1 kk2
          obtain ⟨p0, p1, p2⟩ := cells3 HCp2.out
          obtain ⟨q0, q1, q2⟩ := cells3 HCq2.out
          obtain ⟨r0, r1, r2⟩ := cells3 HCr2.out
          obtain ⟨kk0, kk1, kk2⟩ := cells3 HCkk2.out
          have C := Lib.hid (fit_is x0 x1 x2 true HF.out w2)
          go_wp2_with fail
          refine C.out.mono ?_
          rintro e w3 ⟨rfl, hb⟩
          have HB3 := Lib.hid (below_keep HB2.out hb HB2.out.size)
          have HCp3 := Lib.hid (At3.keep HCp2.out hb)
          have HCq3 := Lib.hid (At3.keep HCq2.out hb)
          have HCr3 := Lib.hid (At3.keep HCr2.out hb)
          have HCkk3 := Lib.hid (At3.keep HCkk2.out hb)
          clear hb C
          clear p0 p1 p2 q0 q1 q2 r0 r1 r2 kk0 kk1 kk2
          obtain ⟨p0, p1, p2⟩ := cells3 HCp3.out
          obtain ⟨q0, q1, q2⟩ := cells3 HCq3.out
          obtain ⟨r0, r1, r2⟩ := cells3 HCr3.out
          obtain ⟨kk0, kk1, kk2⟩ := cells3 HCkk3.out
          have C := Lib.hid (text_is x0 x1 x2 t HTX.out w3 (HV.out w3 HB3.out).1)
          go_wp2_with fail
          refine C.out.mono ?_
          rintro e w4 ⟨rfl, hb⟩
          have HB4 := Lib.hid (below_keep HB3.out hb HB3.out.size)
          have HCp4 := Lib.hid (At3.keep HCp3.out hb)
          have HCq4 := Lib.hid (At3.keep HCq3.out hb)
          have HCr4 := Lib.hid (At3.keep HCr3.out hb)
          have HCkk4 := Lib.hid (At3.keep HCkk3.out hb)
          clear hb C
          clear p0 p1 p2 q0 q1 q2 r0 r1 r2 kk0 kk1 kk2
          obtain ⟨p0, p1, p2⟩ := cells3 HCp4.out
          obtain ⟨q0, q1, q2⟩ := cells3 HCq4.out
          obtain ⟨r0, r1, r2⟩ := cells3 HCr4.out
          obtain ⟨kk0, kk1, kk2⟩ := cells3 HCkk4.out
          have C := Lib.hid (read_is t x0 x1 x2 0 HRX.out HRE.out HTS.out w4 (HV.out w4 HB4.out).2)
          go_wp2_with fail
          refine C.out.mono ?_
          rintro e w5 ⟨rfl, hb⟩
          have hb2 := below_keep HB4.out hb HB4.out.size
          have HB5 := Lib.hid (hb2.alloc hb2.size (.cells #[.int .i64 x0, .int .i64 x1, .bool x2] 25))
          have HCp5 := Lib.hid ((At3.keep HCp4.out hb).alloc (.cells #[.int .i64 x0, .int .i64 x1, .bool x2] 25))
          have HCq5 := Lib.hid ((At3.keep HCq4.out hb).alloc (.cells #[.int .i64 x0, .int .i64 x1, .bool x2] 25))
          have HCr5 := Lib.hid ((At3.keep HCr4.out hb).alloc (.cells #[.int .i64 x0, .int .i64 x1, .bool x2] 25))
          have HCkk5 := Lib.hid ((At3.keep HCkk4.out hb).alloc (.cells #[.int .i64 x0, .int .i64 x1, .bool x2] 25))
          have HCmm5 := Lib.hid (at3_new 25 w5 (.int .i64 x0) (.int .i64 x1) (.bool x2))
          obtain ⟨mm, hmm⟩ : ∃ mm, w5.heap.size = mm := ⟨_, rfl⟩
          obtain ⟨u5, hu5⟩ : ∃ u5, w5.alloc (.cells #[.int .i64 x0, .int .i64 x1, .bool x2] 25) = u5 := ⟨_, rfl⟩
          clear p0 p1 p2 q0 q1 q2 r0 r1 r2 kk0 kk1 kk2
          rw [hu5] at HB5 HCp5 HCq5 HCr5 HCkk5 HCmm5
          rw [hmm] at HCmm5
          have HU5 := Lib.hid hu5
          have HNmm := Lib.hid hmm
          clear hb hb2 hu5 hmm C
          obtain ⟨p0, p1, p2⟩ := cells3 HCp5.out
          obtain ⟨q0, q1, q2⟩ := cells3 HCq5.out
          obtain ⟨r0, r1, r2⟩ := cells3 HCr5.out
          obtain ⟨kk0, kk1, kk2⟩ := cells3 HCkk5.out
          obtain ⟨mm0, mm1, mm2⟩ := cells3 HCmm5.out
          rw [← show w5.alloc (.cells #[.int .i64 x0, .int .i64 x1, .bool x2] 25) = u5 from HU5.out] at p0 p1 p2 q0 q1 q2 r0 r1 r2 kk0 kk1 kk2 mm0 mm1 mm2
          rw [← show w5.heap.size = mm from HNmm.out] at mm0 mm1 mm2
          have C := Lib.hid (below_is x0 x1 x2 y0 y1 y2 true HV1.out u5)
          go_wp2_with fail
          rw [show w5.alloc (.cells #[.int .i64 x0, .int .i64 x1, .bool x2] 25) = u5 from HU5.out]
          rw [show w5.heap.size = mm from HNmm.out]
          refine C.out.mono ?_
          rintro e w6 ⟨rfl, hb⟩
          have HB6 := Lib.hid (below_keep HB5.out hb HB5.out.size)
          have HCp6 := Lib.hid (At3.keep HCp5.out hb)
          have HCq6 := Lib.hid (At3.keep HCq5.out hb)
          have HCr6 := Lib.hid (At3.keep HCr5.out hb)
          have HCkk6 := Lib.hid (At3.keep HCkk5.out hb)
          have HCmm6 := Lib.hid (At3.keep HCmm5.out hb)
          clear hb C
          clear p0 p1 p2 q0 q1 q2 r0 r1 r2 kk0 kk1 kk2 mm0 mm1 mm2
          obtain ⟨p0, p1, p2⟩ := cells3 HCp6.out
          obtain ⟨q0, q1, q2⟩ := cells3 HCq6.out
          obtain ⟨r0, r1, r2⟩ := cells3 HCr6.out
          obtain ⟨kk0, kk1, kk2⟩ := cells3 HCkk6.out
          obtain ⟨mm0, mm1, mm2⟩ := cells3 HCmm6.out
          have C := Lib.hid (below_is y0 y1 y2 x0 x1 x2 false HV2.out w6)
          go_wp2_with fail
          refine C.out.mono ?_
          rintro e w7 ⟨rfl, hb⟩
          have HB7 := Lib.hid (below_keep HB6.out hb HB6.out.size)
          have HCp7 := Lib.hid (At3.keep HCp6.out hb)
          have HCq7 := Lib.hid (At3.keep HCq6.out hb)
          have HCr7 := Lib.hid (At3.keep HCr6.out hb)
          have HCkk7 := Lib.hid (At3.keep HCkk6.out hb)
          have HCmm7 := Lib.hid (At3.keep HCmm6.out hb)
          clear hb C
          clear p0 p1 p2 q0 q1 q2 r0 r1 r2 kk0 kk1 kk2 mm0 mm1 mm2
          obtain ⟨p0, p1, p2⟩ := cells3 HCp7.out
          obtain ⟨q0, q1, q2⟩ := cells3 HCq7.out
          obtain ⟨r0, r1, r2⟩ := cells3 HCr7.out
          obtain ⟨kk0, kk1, kk2⟩ := cells3 HCkk7.out
          obtain ⟨mm0, mm1, mm2⟩ := cells3 HCmm7.out
          have C := Lib.hid (below_is x0 x1 x2 y0 y1 y2 true HV1.out w7)
          go_wp2_with fail
          refine C.out.mono ?_
          rintro e w8 ⟨rfl, hb⟩
          have HB8 := Lib.hid (below_keep HB7.out hb HB7.out.size)
          have HCp8 := Lib.hid (At3.keep HCp7.out hb)
          have HCq8 := Lib.hid (At3.keep HCq7.out hb)
          have HCr8 := Lib.hid (At3.keep HCr7.out hb)
          have HCkk8 := Lib.hid (At3.keep HCkk7.out hb)
          have HCmm8 := Lib.hid (At3.keep HCmm7.out hb)
          clear hb C
          clear p0 p1 p2 q0 q1 q2 r0 r1 r2 kk0 kk1 kk2 mm0 mm1 mm2
          obtain ⟨p0, p1, p2⟩ := cells3 HCp8.out
          obtain ⟨q0, q1, q2⟩ := cells3 HCq8.out
          obtain ⟨r0, r1, r2⟩ := cells3 HCr8.out
          obtain ⟨kk0, kk1, kk2⟩ := cells3 HCkk8.out
          obtain ⟨mm0, mm1, mm2⟩ := cells3 HCmm8.out
          have C := Lib.hid (below_is y0 y1 y2 z0 z1 z2 false HV3.out w8)
          go_wp2_with fail
          refine C.out.mono ?_
          rintro e w9 ⟨rfl, hb⟩
          have HB9 := Lib.hid (below_keep HB8.out hb HB8.out.size)
          have HCp9 := Lib.hid (At3.keep HCp8.out hb)
          have HCq9 := Lib.hid (At3.keep HCq8.out hb)
          have HCr9 := Lib.hid (At3.keep HCr8.out hb)
          have HCkk9 := Lib.hid (At3.keep HCkk8.out hb)
          have HCmm9 := Lib.hid (At3.keep HCmm8.out hb)
          clear hb C
          clear p0 p1 p2 q0 q1 q2 r0 r1 r2 kk0 kk1 kk2 mm0 mm1 mm2
          obtain ⟨p0, p1, p2⟩ := cells3 HCp9.out
          obtain ⟨q0, q1, q2⟩ := cells3 HCq9.out
          obtain ⟨r0, r1, r2⟩ := cells3 HCr9.out
          obtain ⟨kk0, kk1, kk2⟩ := cells3 HCkk9.out
          obtain ⟨mm0, mm1, mm2⟩ := cells3 HCmm9.out
          have C := Lib.hid (awake_any w9 (HV.out w9 HB9.out))
          go_wp2_with fail
          refine C.out.mono ?_
          rintro e w10 ⟨rfl, hb⟩
          have HB10 := Lib.hid (below_keep HB9.out hb HB9.out.size)
          have HCp10 := Lib.hid (At3.keep HCp9.out hb)
          have HCq10 := Lib.hid (At3.keep HCq9.out hb)
          have HCr10 := Lib.hid (At3.keep HCr9.out hb)
          have HCkk10 := Lib.hid (At3.keep HCkk9.out hb)
          have HCmm10 := Lib.hid (At3.keep HCmm9.out hb)
          clear hb C
          clear p0 p1 p2 q0 q1 q2 r0 r1 r2 kk0 kk1 kk2 mm0 mm1 mm2
          obtain ⟨p0, p1, p2⟩ := cells3 HCp10.out
          obtain ⟨q0, q1, q2⟩ := cells3 HCq10.out
          obtain ⟨r0, r1, r2⟩ := cells3 HCr10.out
          obtain ⟨kk0, kk1, kk2⟩ := cells3 HCkk10.out
          obtain ⟨mm0, mm1, mm2⟩ := cells3 HCmm10.out
          go_wp2_with fail
          go_ret
          exact ⟨rfl, HB10.out⟩
        | true =>
          have HV3 := Lib.hid h4
          have HV4 := Lib.hid (below_trans h1 h4)
          clear h1 h2 h3 h4
          have qe := fun w => eql_ky x0 x1 x2 y0 y1 y2 w
          rw [HQ.out] at qe
          have qg := fun a b w => guard_ky .eql a b x0 x1 x2 y0 y1 y2 w
          have qn : ∀ w, (binOp .neq 25 (kv x0 x1 x2) (kv x0 x1 x2)).run Tryd.prog w = .ok (.bool false) w := fun w => by rw [neq_ky, eqK_refl]; rfl
          have qh := fun a b w => guard_ky .neq a b x0 x1 x2 x0 x1 x2 w
          have hss : (s.toList == s.toList) = true := by simp
          obtain ⟨p0, p1, p2⟩ := cells3 HCp0.out
          obtain ⟨q0, q1, q2⟩ := cells3 HCq0.out
          obtain ⟨r0, r1, r2⟩ := cells3 HCr0.out
          have C := Lib.hid (read_is s k0 k1 k2 0 HX.out HE.out HS3.out W (HV.out W HB0.out).2)
          go_wp2_with fail
          refine C.out.mono ?_
          rintro e w1 ⟨rfl, hb⟩
          have hb2 := below_keep HB0.out hb HB0.out.size
          have HB1 := Lib.hid (hb2.alloc hb2.size (.cells #[.int .i64 k0, .int .i64 k1, .bool k2] 25))
          have HCp1 := Lib.hid ((At3.keep HCp0.out hb).alloc (.cells #[.int .i64 k0, .int .i64 k1, .bool k2] 25))
          have HCq1 := Lib.hid ((At3.keep HCq0.out hb).alloc (.cells #[.int .i64 k0, .int .i64 k1, .bool k2] 25))
          have HCr1 := Lib.hid ((At3.keep HCr0.out hb).alloc (.cells #[.int .i64 k0, .int .i64 k1, .bool k2] 25))
          have HCkk1 := Lib.hid (at3_new 25 w1 (.int .i64 k0) (.int .i64 k1) (.bool k2))
          obtain ⟨kk, hkk⟩ : ∃ kk, w1.heap.size = kk := ⟨_, rfl⟩
          obtain ⟨u1, hu1⟩ : ∃ u1, w1.alloc (.cells #[.int .i64 k0, .int .i64 k1, .bool k2] 25) = u1 := ⟨_, rfl⟩
          clear p0 p1 p2 q0 q1 q2 r0 r1 r2
          rw [hu1] at HB1 HCp1 HCq1 HCr1 HCkk1
          rw [hkk] at HCkk1
          have HU1 := Lib.hid hu1
          have HNkk := Lib.hid hkk
          clear hb hb2 hu1 hkk C
          obtain ⟨p0, p1, p2⟩ := cells3 HCp1.out
          obtain ⟨q0, q1, q2⟩ := cells3 HCq1.out
          obtain ⟨r0, r1, r2⟩ := cells3 HCr1.out
          obtain ⟨kk0, kk1, kk2⟩ := cells3 HCkk1.out
          rw [← show w1.alloc (.cells #[.int .i64 k0, .int .i64 k1, .bool k2] 25) = u1 from HU1.out] at p0 p1 p2 q0 q1 q2 r0 r1 r2 kk0 kk1 kk2
          rw [← show w1.heap.size = kk from HNkk.out] at kk0 kk1 kk2
          have C := Lib.hid (text_is k0 k1 k2 s HTK.out u1 (HV.out u1 HB1.out).1)
          go_wp2_with fail
          rw [show w1.alloc (.cells #[.int .i64 k0, .int .i64 k1, .bool k2] 25) = u1 from HU1.out]
          rw [show w1.heap.size = kk from HNkk.out]
          refine C.out.mono ?_
          rintro e w2 ⟨rfl, hb⟩
          have HB2 := Lib.hid (below_keep HB1.out hb HB1.out.size)
          have HCp2 := Lib.hid (At3.keep HCp1.out hb)
          have HCq2 := Lib.hid (At3.keep HCq1.out hb)
          have HCr2 := Lib.hid (At3.keep HCr1.out hb)
          have HCkk2 := Lib.hid (At3.keep HCkk1.out hb)
          clear hb C
          clear p0 p1 p2 q0 q1 q2 r0 r1 r2 kk0 kk1 kk2
          obtain ⟨p0, p1, p2⟩ := cells3 HCp2.out
          obtain ⟨q0, q1, q2⟩ := cells3 HCq2.out
          obtain ⟨r0, r1, r2⟩ := cells3 HCr2.out
          obtain ⟨kk0, kk1, kk2⟩ := cells3 HCkk2.out
          have C := Lib.hid (fit_is x0 x1 x2 true HF.out w2)
          go_wp2_with fail
          refine C.out.mono ?_
          rintro e w3 ⟨rfl, hb⟩
          have HB3 := Lib.hid (below_keep HB2.out hb HB2.out.size)
          have HCp3 := Lib.hid (At3.keep HCp2.out hb)
          have HCq3 := Lib.hid (At3.keep HCq2.out hb)
          have HCr3 := Lib.hid (At3.keep HCr2.out hb)
          have HCkk3 := Lib.hid (At3.keep HCkk2.out hb)
          clear hb C
          clear p0 p1 p2 q0 q1 q2 r0 r1 r2 kk0 kk1 kk2
          obtain ⟨p0, p1, p2⟩ := cells3 HCp3.out
          obtain ⟨q0, q1, q2⟩ := cells3 HCq3.out
          obtain ⟨r0, r1, r2⟩ := cells3 HCr3.out
          obtain ⟨kk0, kk1, kk2⟩ := cells3 HCkk3.out
          have C := Lib.hid (text_is x0 x1 x2 t HTX.out w3 (HV.out w3 HB3.out).1)
          go_wp2_with fail
          refine C.out.mono ?_
          rintro e w4 ⟨rfl, hb⟩
          have HB4 := Lib.hid (below_keep HB3.out hb HB3.out.size)
          have HCp4 := Lib.hid (At3.keep HCp3.out hb)
          have HCq4 := Lib.hid (At3.keep HCq3.out hb)
          have HCr4 := Lib.hid (At3.keep HCr3.out hb)
          have HCkk4 := Lib.hid (At3.keep HCkk3.out hb)
          clear hb C
          clear p0 p1 p2 q0 q1 q2 r0 r1 r2 kk0 kk1 kk2
          obtain ⟨p0, p1, p2⟩ := cells3 HCp4.out
          obtain ⟨q0, q1, q2⟩ := cells3 HCq4.out
          obtain ⟨r0, r1, r2⟩ := cells3 HCr4.out
          obtain ⟨kk0, kk1, kk2⟩ := cells3 HCkk4.out
          have C := Lib.hid (read_is t x0 x1 x2 0 HRX.out HRE.out HTS.out w4 (HV.out w4 HB4.out).2)
          go_wp2_with fail
          refine C.out.mono ?_
          rintro e w5 ⟨rfl, hb⟩
          have hb2 := below_keep HB4.out hb HB4.out.size
          have HB5 := Lib.hid (hb2.alloc hb2.size (.cells #[.int .i64 x0, .int .i64 x1, .bool x2] 25))
          have HCp5 := Lib.hid ((At3.keep HCp4.out hb).alloc (.cells #[.int .i64 x0, .int .i64 x1, .bool x2] 25))
          have HCq5 := Lib.hid ((At3.keep HCq4.out hb).alloc (.cells #[.int .i64 x0, .int .i64 x1, .bool x2] 25))
          have HCr5 := Lib.hid ((At3.keep HCr4.out hb).alloc (.cells #[.int .i64 x0, .int .i64 x1, .bool x2] 25))
          have HCkk5 := Lib.hid ((At3.keep HCkk4.out hb).alloc (.cells #[.int .i64 x0, .int .i64 x1, .bool x2] 25))
          have HCmm5 := Lib.hid (at3_new 25 w5 (.int .i64 x0) (.int .i64 x1) (.bool x2))
          obtain ⟨mm, hmm⟩ : ∃ mm, w5.heap.size = mm := ⟨_, rfl⟩
          obtain ⟨u5, hu5⟩ : ∃ u5, w5.alloc (.cells #[.int .i64 x0, .int .i64 x1, .bool x2] 25) = u5 := ⟨_, rfl⟩
          clear p0 p1 p2 q0 q1 q2 r0 r1 r2 kk0 kk1 kk2
          rw [hu5] at HB5 HCp5 HCq5 HCr5 HCkk5 HCmm5
          rw [hmm] at HCmm5
          have HU5 := Lib.hid hu5
          have HNmm := Lib.hid hmm
          clear hb hb2 hu5 hmm C
          obtain ⟨p0, p1, p2⟩ := cells3 HCp5.out
          obtain ⟨q0, q1, q2⟩ := cells3 HCq5.out
          obtain ⟨r0, r1, r2⟩ := cells3 HCr5.out
          obtain ⟨kk0, kk1, kk2⟩ := cells3 HCkk5.out
          obtain ⟨mm0, mm1, mm2⟩ := cells3 HCmm5.out
          rw [← show w5.alloc (.cells #[.int .i64 x0, .int .i64 x1, .bool x2] 25) = u5 from HU5.out] at p0 p1 p2 q0 q1 q2 r0 r1 r2 kk0 kk1 kk2 mm0 mm1 mm2
          rw [← show w5.heap.size = mm from HNmm.out] at mm0 mm1 mm2
          have C := Lib.hid (below_is x0 x1 x2 y0 y1 y2 true HV1.out u5)
          go_wp2_with fail
          rw [show w5.alloc (.cells #[.int .i64 x0, .int .i64 x1, .bool x2] 25) = u5 from HU5.out]
          rw [show w5.heap.size = mm from HNmm.out]
          refine C.out.mono ?_
          rintro e w6 ⟨rfl, hb⟩
          have HB6 := Lib.hid (below_keep HB5.out hb HB5.out.size)
          have HCp6 := Lib.hid (At3.keep HCp5.out hb)
          have HCq6 := Lib.hid (At3.keep HCq5.out hb)
          have HCr6 := Lib.hid (At3.keep HCr5.out hb)
          have HCkk6 := Lib.hid (At3.keep HCkk5.out hb)
          have HCmm6 := Lib.hid (At3.keep HCmm5.out hb)
          clear hb C
          clear p0 p1 p2 q0 q1 q2 r0 r1 r2 kk0 kk1 kk2 mm0 mm1 mm2
          obtain ⟨p0, p1, p2⟩ := cells3 HCp6.out
          obtain ⟨q0, q1, q2⟩ := cells3 HCq6.out
          obtain ⟨r0, r1, r2⟩ := cells3 HCr6.out
          obtain ⟨kk0, kk1, kk2⟩ := cells3 HCkk6.out
          obtain ⟨mm0, mm1, mm2⟩ := cells3 HCmm6.out
          have C := Lib.hid (below_is y0 y1 y2 x0 x1 x2 false HV2.out w6)
          go_wp2_with fail
          refine C.out.mono ?_
          rintro e w7 ⟨rfl, hb⟩
          have HB7 := Lib.hid (below_keep HB6.out hb HB6.out.size)
          have HCp7 := Lib.hid (At3.keep HCp6.out hb)
          have HCq7 := Lib.hid (At3.keep HCq6.out hb)
          have HCr7 := Lib.hid (At3.keep HCr6.out hb)
          have HCkk7 := Lib.hid (At3.keep HCkk6.out hb)
          have HCmm7 := Lib.hid (At3.keep HCmm6.out hb)
          clear hb C
          clear p0 p1 p2 q0 q1 q2 r0 r1 r2 kk0 kk1 kk2 mm0 mm1 mm2
          obtain ⟨p0, p1, p2⟩ := cells3 HCp7.out
          obtain ⟨q0, q1, q2⟩ := cells3 HCq7.out
          obtain ⟨r0, r1, r2⟩ := cells3 HCr7.out
          obtain ⟨kk0, kk1, kk2⟩ := cells3 HCkk7.out
          obtain ⟨mm0, mm1, mm2⟩ := cells3 HCmm7.out
          have C := Lib.hid (below_is x0 x1 x2 y0 y1 y2 true HV1.out w7)
          go_wp2_with fail
          refine C.out.mono ?_
          rintro e w8 ⟨rfl, hb⟩
          have HB8 := Lib.hid (below_keep HB7.out hb HB7.out.size)
          have HCp8 := Lib.hid (At3.keep HCp7.out hb)
          have HCq8 := Lib.hid (At3.keep HCq7.out hb)
          have HCr8 := Lib.hid (At3.keep HCr7.out hb)
          have HCkk8 := Lib.hid (At3.keep HCkk7.out hb)
          have HCmm8 := Lib.hid (At3.keep HCmm7.out hb)
          clear hb C
          clear p0 p1 p2 q0 q1 q2 r0 r1 r2 kk0 kk1 kk2 mm0 mm1 mm2
          obtain ⟨p0, p1, p2⟩ := cells3 HCp8.out
          obtain ⟨q0, q1, q2⟩ := cells3 HCq8.out
          obtain ⟨r0, r1, r2⟩ := cells3 HCr8.out
          obtain ⟨kk0, kk1, kk2⟩ := cells3 HCkk8.out
          obtain ⟨mm0, mm1, mm2⟩ := cells3 HCmm8.out
          have C := Lib.hid (below_is y0 y1 y2 z0 z1 z2 true HV3.out w8)
          go_wp2_with fail
          refine C.out.mono ?_
          rintro e w9 ⟨rfl, hb⟩
          have HB9 := Lib.hid (below_keep HB8.out hb HB8.out.size)
          have HCp9 := Lib.hid (At3.keep HCp8.out hb)
          have HCq9 := Lib.hid (At3.keep HCq8.out hb)
          have HCr9 := Lib.hid (At3.keep HCr8.out hb)
          have HCkk9 := Lib.hid (At3.keep HCkk8.out hb)
          have HCmm9 := Lib.hid (At3.keep HCmm8.out hb)
          clear hb C
          clear p0 p1 p2 q0 q1 q2 r0 r1 r2 kk0 kk1 kk2 mm0 mm1 mm2
          obtain ⟨p0, p1, p2⟩ := cells3 HCp9.out
          obtain ⟨q0, q1, q2⟩ := cells3 HCq9.out
          obtain ⟨r0, r1, r2⟩ := cells3 HCr9.out
          obtain ⟨kk0, kk1, kk2⟩ := cells3 HCkk9.out
          obtain ⟨mm0, mm1, mm2⟩ := cells3 HCmm9.out
          have C := Lib.hid (below_is x0 x1 x2 z0 z1 z2 true HV4.out w9)
          go_wp2_with fail
          refine C.out.mono ?_
          rintro e w10 ⟨rfl, hb⟩
          have HB10 := Lib.hid (below_keep HB9.out hb HB9.out.size)
          have HCp10 := Lib.hid (At3.keep HCp9.out hb)
          have HCq10 := Lib.hid (At3.keep HCq9.out hb)
          have HCr10 := Lib.hid (At3.keep HCr9.out hb)
          have HCkk10 := Lib.hid (At3.keep HCkk9.out hb)
          have HCmm10 := Lib.hid (At3.keep HCmm9.out hb)
          clear hb C
          clear p0 p1 p2 q0 q1 q2 r0 r1 r2 kk0 kk1 kk2 mm0 mm1 mm2
          obtain ⟨p0, p1, p2⟩ := cells3 HCp10.out
          obtain ⟨q0, q1, q2⟩ := cells3 HCq10.out
          obtain ⟨r0, r1, r2⟩ := cells3 HCr10.out
          obtain ⟨kk0, kk1, kk2⟩ := cells3 HCkk10.out
          obtain ⟨mm0, mm1, mm2⟩ := cells3 HCmm10.out
          have C := Lib.hid (awake_any w10 (HV.out w10 HB10.out))
          go_wp2_with fail
          refine C.out.mono ?_
          rintro e w11 ⟨rfl, hb⟩
          have HB11 := Lib.hid (below_keep HB10.out hb HB10.out.size)
          have HCp11 := Lib.hid (At3.keep HCp10.out hb)
          have HCq11 := Lib.hid (At3.keep HCq10.out hb)
          have HCr11 := Lib.hid (At3.keep HCr10.out hb)
          have HCkk11 := Lib.hid (At3.keep HCkk10.out hb)
          have HCmm11 := Lib.hid (At3.keep HCmm10.out hb)
          clear hb C
          clear p0 p1 p2 q0 q1 q2 r0 r1 r2 kk0 kk1 kk2 mm0 mm1 mm2
          obtain ⟨p0, p1, p2⟩ := cells3 HCp11.out
          obtain ⟨q0, q1, q2⟩ := cells3 HCq11.out
          obtain ⟨r0, r1, r2⟩ := cells3 HCr11.out
          obtain ⟨kk0, kk1, kk2⟩ := cells3 HCkk11.out
          obtain ⟨mm0, mm1, mm2⟩ := cells3 HCmm11.out
          go_wp2_with fail
          go_ret
          exact ⟨rfl, HB11.out⟩
      · have HV1 := Lib.hid h1
        have HV2 := Lib.hid h2
        have HQ := Lib.hid h3
        clear h1 h2 h3
        have qe := fun w => eql_ky x0 x1 x2 y0 y1 y2 w
        rw [HQ.out] at qe
        have qg := fun a b w => guard_ky .eql a b x0 x1 x2 y0 y1 y2 w
        have qn : ∀ w, (binOp .neq 25 (kv x0 x1 x2) (kv x0 x1 x2)).run Tryd.prog w = .ok (.bool false) w := fun w => by rw [neq_ky, eqK_refl]; rfl
        have qh := fun a b w => guard_ky .neq a b x0 x1 x2 x0 x1 x2 w
        have hss : (s.toList == s.toList) = true := by simp
        obtain ⟨p0, p1, p2⟩ := cells3 HCp0.out
        obtain ⟨q0, q1, q2⟩ := cells3 HCq0.out
        obtain ⟨r0, r1, r2⟩ := cells3 HCr0.out
        have C := Lib.hid (read_is s k0 k1 k2 0 HX.out HE.out HS3.out W (HV.out W HB0.out).2)
        go_wp2_with fail
        refine C.out.mono ?_
        rintro e w1 ⟨rfl, hb⟩
        have hb2 := below_keep HB0.out hb HB0.out.size
        have HB1 := Lib.hid (hb2.alloc hb2.size (.cells #[.int .i64 k0, .int .i64 k1, .bool k2] 25))
        have HCp1 := Lib.hid ((At3.keep HCp0.out hb).alloc (.cells #[.int .i64 k0, .int .i64 k1, .bool k2] 25))
        have HCq1 := Lib.hid ((At3.keep HCq0.out hb).alloc (.cells #[.int .i64 k0, .int .i64 k1, .bool k2] 25))
        have HCr1 := Lib.hid ((At3.keep HCr0.out hb).alloc (.cells #[.int .i64 k0, .int .i64 k1, .bool k2] 25))
        have HCkk1 := Lib.hid (at3_new 25 w1 (.int .i64 k0) (.int .i64 k1) (.bool k2))
        obtain ⟨kk, hkk⟩ : ∃ kk, w1.heap.size = kk := ⟨_, rfl⟩
        obtain ⟨u1, hu1⟩ : ∃ u1, w1.alloc (.cells #[.int .i64 k0, .int .i64 k1, .bool k2] 25) = u1 := ⟨_, rfl⟩
        clear p0 p1 p2 q0 q1 q2 r0 r1 r2
        rw [hu1] at HB1 HCp1 HCq1 HCr1 HCkk1
        rw [hkk] at HCkk1
        have HU1 := Lib.hid hu1
        have HNkk := Lib.hid hkk
        clear hb hb2 hu1 hkk C
        obtain ⟨p0, p1, p2⟩ := cells3 HCp1.out
        obtain ⟨q0, q1, q2⟩ := cells3 HCq1.out
        obtain ⟨r0, r1, r2⟩ := cells3 HCr1.out
        obtain ⟨kk0, kk1, kk2⟩ := cells3 HCkk1.out
        rw [← show w1.alloc (.cells #[.int .i64 k0, .int .i64 k1, .bool k2] 25) = u1 from HU1.out] at p0 p1 p2 q0 q1 q2 r0 r1 r2 kk0 kk1 kk2
        rw [← show w1.heap.size = kk from HNkk.out] at kk0 kk1 kk2
        have C := Lib.hid (text_is k0 k1 k2 s HTK.out u1 (HV.out u1 HB1.out).1)
        go_wp2_with fail
        rw [show w1.alloc (.cells #[.int .i64 k0, .int .i64 k1, .bool k2] 25) = u1 from HU1.out]
        rw [show w1.heap.size = kk from HNkk.out]
        refine C.out.mono ?_
        rintro e w2 ⟨rfl, hb⟩
        have HB2 := Lib.hid (below_keep HB1.out hb HB1.out.size)
        have HCp2 := Lib.hid (At3.keep HCp1.out hb)
        have HCq2 := Lib.hid (At3.keep HCq1.out hb)
        have HCr2 := Lib.hid (At3.keep HCr1.out hb)
        have HCkk2 := Lib.hid (At3.keep HCkk1.out hb)
        clear hb C
        clear p0 p1 p2 q0 q1 q2 r0 r1 r2 kk0 kk1 kk2
        obtain ⟨p0, p1, p2⟩ := cells3 HCp2.out
        obtain ⟨q0, q1, q2⟩ := cells3 HCq2.out
        obtain ⟨r0, r1, r2⟩ := cells3 HCr2.out
        obtain ⟨kk0, kk1, kk2⟩ := cells3 HCkk2.out
        have C := Lib.hid (fit_is x0 x1 x2 true HF.out w2)
        go_wp2_with fail
        refine C.out.mono ?_
        rintro e w3 ⟨rfl, hb⟩
        have HB3 := Lib.hid (below_keep HB2.out hb HB2.out.size)
        have HCp3 := Lib.hid (At3.keep HCp2.out hb)
        have HCq3 := Lib.hid (At3.keep HCq2.out hb)
        have HCr3 := Lib.hid (At3.keep HCr2.out hb)
        have HCkk3 := Lib.hid (At3.keep HCkk2.out hb)
        clear hb C
        clear p0 p1 p2 q0 q1 q2 r0 r1 r2 kk0 kk1 kk2
        obtain ⟨p0, p1, p2⟩ := cells3 HCp3.out
        obtain ⟨q0, q1, q2⟩ := cells3 HCq3.out
        obtain ⟨r0, r1, r2⟩ := cells3 HCr3.out
        obtain ⟨kk0, kk1, kk2⟩ := cells3 HCkk3.out
        have C := Lib.hid (text_is x0 x1 x2 t HTX.out w3 (HV.out w3 HB3.out).1)
        go_wp2_with fail
        refine C.out.mono ?_
        rintro e w4 ⟨rfl, hb⟩
        have HB4 := Lib.hid (below_keep HB3.out hb HB3.out.size)
        have HCp4 := Lib.hid (At3.keep HCp3.out hb)
        have HCq4 := Lib.hid (At3.keep HCq3.out hb)
        have HCr4 := Lib.hid (At3.keep HCr3.out hb)
        have HCkk4 := Lib.hid (At3.keep HCkk3.out hb)
        clear hb C
        clear p0 p1 p2 q0 q1 q2 r0 r1 r2 kk0 kk1 kk2
        obtain ⟨p0, p1, p2⟩ := cells3 HCp4.out
        obtain ⟨q0, q1, q2⟩ := cells3 HCq4.out
        obtain ⟨r0, r1, r2⟩ := cells3 HCr4.out
        obtain ⟨kk0, kk1, kk2⟩ := cells3 HCkk4.out
        have C := Lib.hid (read_is t x0 x1 x2 0 HRX.out HRE.out HTS.out w4 (HV.out w4 HB4.out).2)
        go_wp2_with fail
        refine C.out.mono ?_
        rintro e w5 ⟨rfl, hb⟩
        have hb2 := below_keep HB4.out hb HB4.out.size
        have HB5 := Lib.hid (hb2.alloc hb2.size (.cells #[.int .i64 x0, .int .i64 x1, .bool x2] 25))
        have HCp5 := Lib.hid ((At3.keep HCp4.out hb).alloc (.cells #[.int .i64 x0, .int .i64 x1, .bool x2] 25))
        have HCq5 := Lib.hid ((At3.keep HCq4.out hb).alloc (.cells #[.int .i64 x0, .int .i64 x1, .bool x2] 25))
        have HCr5 := Lib.hid ((At3.keep HCr4.out hb).alloc (.cells #[.int .i64 x0, .int .i64 x1, .bool x2] 25))
        have HCkk5 := Lib.hid ((At3.keep HCkk4.out hb).alloc (.cells #[.int .i64 x0, .int .i64 x1, .bool x2] 25))
        have HCmm5 := Lib.hid (at3_new 25 w5 (.int .i64 x0) (.int .i64 x1) (.bool x2))
        obtain ⟨mm, hmm⟩ : ∃ mm, w5.heap.size = mm := ⟨_, rfl⟩
        obtain ⟨u5, hu5⟩ : ∃ u5, w5.alloc (.cells #[.int .i64 x0, .int .i64 x1, .bool x2] 25) = u5 := ⟨_, rfl⟩
        clear p0 p1 p2 q0 q1 q2 r0 r1 r2 kk0 kk1 kk2
        rw [hu5] at HB5 HCp5 HCq5 HCr5 HCkk5 HCmm5
        rw [hmm] at HCmm5
        have HU5 := Lib.hid hu5
        have HNmm := Lib.hid hmm
        clear hb hb2 hu5 hmm C
        obtain ⟨p0, p1, p2⟩ := cells3 HCp5.out
        obtain ⟨q0, q1, q2⟩ := cells3 HCq5.out
        obtain ⟨r0, r1, r2⟩ := cells3 HCr5.out
        obtain ⟨kk0, kk1, kk2⟩ := cells3 HCkk5.out
        obtain ⟨mm0, mm1, mm2⟩ := cells3 HCmm5.out
        rw [← show w5.alloc (.cells #[.int .i64 x0, .int .i64 x1, .bool x2] 25) = u5 from HU5.out] at p0 p1 p2 q0 q1 q2 r0 r1 r2 kk0 kk1 kk2 mm0 mm1 mm2
        rw [← show w5.heap.size = mm from HNmm.out] at mm0 mm1 mm2
        have C := Lib.hid (below_is x0 x1 x2 y0 y1 y2 false HV1.out u5)
        go_wp2_with fail
        rw [show w5.alloc (.cells #[.int .i64 x0, .int .i64 x1, .bool x2] 25) = u5 from HU5.out]
        rw [show w5.heap.size = mm from HNmm.out]
        refine C.out.mono ?_
        rintro e w6 ⟨rfl, hb⟩
        have HB6 := Lib.hid (below_keep HB5.out hb HB5.out.size)
        have HCp6 := Lib.hid (At3.keep HCp5.out hb)
        have HCq6 := Lib.hid (At3.keep HCq5.out hb)
        have HCr6 := Lib.hid (At3.keep HCr5.out hb)
        have HCkk6 := Lib.hid (At3.keep HCkk5.out hb)
        have HCmm6 := Lib.hid (At3.keep HCmm5.out hb)
        clear hb C
        clear p0 p1 p2 q0 q1 q2 r0 r1 r2 kk0 kk1 kk2 mm0 mm1 mm2
        obtain ⟨p0, p1, p2⟩ := cells3 HCp6.out
        obtain ⟨q0, q1, q2⟩ := cells3 HCq6.out
        obtain ⟨r0, r1, r2⟩ := cells3 HCr6.out
        obtain ⟨kk0, kk1, kk2⟩ := cells3 HCkk6.out
        obtain ⟨mm0, mm1, mm2⟩ := cells3 HCmm6.out
        have C := Lib.hid (below_is y0 y1 y2 x0 x1 x2 true HV2.out w6)
        go_wp2_with fail
        refine C.out.mono ?_
        rintro e w7 ⟨rfl, hb⟩
        have HB7 := Lib.hid (below_keep HB6.out hb HB6.out.size)
        have HCp7 := Lib.hid (At3.keep HCp6.out hb)
        have HCq7 := Lib.hid (At3.keep HCq6.out hb)
        have HCr7 := Lib.hid (At3.keep HCr6.out hb)
        have HCkk7 := Lib.hid (At3.keep HCkk6.out hb)
        have HCmm7 := Lib.hid (At3.keep HCmm6.out hb)
        clear hb C
        clear p0 p1 p2 q0 q1 q2 r0 r1 r2 kk0 kk1 kk2 mm0 mm1 mm2
        obtain ⟨p0, p1, p2⟩ := cells3 HCp7.out
        obtain ⟨q0, q1, q2⟩ := cells3 HCq7.out
        obtain ⟨r0, r1, r2⟩ := cells3 HCr7.out
        obtain ⟨kk0, kk1, kk2⟩ := cells3 HCkk7.out
        obtain ⟨mm0, mm1, mm2⟩ := cells3 HCmm7.out
        have C := Lib.hid (below_is x0 x1 x2 y0 y1 y2 false HV1.out w7)
        go_wp2_with fail
        refine C.out.mono ?_
        rintro e w8 ⟨rfl, hb⟩
        have HB8 := Lib.hid (below_keep HB7.out hb HB7.out.size)
        have HCp8 := Lib.hid (At3.keep HCp7.out hb)
        have HCq8 := Lib.hid (At3.keep HCq7.out hb)
        have HCr8 := Lib.hid (At3.keep HCr7.out hb)
        have HCkk8 := Lib.hid (At3.keep HCkk7.out hb)
        have HCmm8 := Lib.hid (At3.keep HCmm7.out hb)
        clear hb C
        clear p0 p1 p2 q0 q1 q2 r0 r1 r2 kk0 kk1 kk2 mm0 mm1 mm2
        obtain ⟨p0, p1, p2⟩ := cells3 HCp8.out
        obtain ⟨q0, q1, q2⟩ := cells3 HCq8.out
        obtain ⟨r0, r1, r2⟩ := cells3 HCr8.out
        obtain ⟨kk0, kk1, kk2⟩ := cells3 HCkk8.out
        obtain ⟨mm0, mm1, mm2⟩ := cells3 HCmm8.out
        have C := Lib.hid (awake_any w8 (HV.out w8 HB8.out))
        go_wp2_with fail
        refine C.out.mono ?_
        rintro e w9 ⟨rfl, hb⟩
        have HB9 := Lib.hid (below_keep HB8.out hb HB8.out.size)
        have HCp9 := Lib.hid (At3.keep HCp8.out hb)
        have HCq9 := Lib.hid (At3.keep HCq8.out hb)
        have HCr9 := Lib.hid (At3.keep HCr8.out hb)
        have HCkk9 := Lib.hid (At3.keep HCkk8.out hb)
        have HCmm9 := Lib.hid (At3.keep HCmm8.out hb)
        clear hb C
        clear p0 p1 p2 q0 q1 q2 r0 r1 r2 kk0 kk1 kk2 mm0 mm1 mm2
        obtain ⟨p0, p1, p2⟩ := cells3 HCp9.out
        obtain ⟨q0, q1, q2⟩ := cells3 HCq9.out
        obtain ⟨r0, r1, r2⟩ := cells3 HCr9.out
        obtain ⟨kk0, kk1, kk2⟩ := cells3 HCkk9.out
        obtain ⟨mm0, mm1, mm2⟩ := cells3 HCmm9.out
        go_wp2_with fail
        go_ret
        exact ⟨rfl, HB9.out⟩
      · have HV1 := Lib.hid h1
        have HV2 := Lib.hid h2
        have HQ := Lib.hid h3
        clear h1 h2 h3
        have qe := fun w => eql_ky x0 x1 x2 y0 y1 y2 w
        rw [HQ.out] at qe
        have qg := fun a b w => guard_ky .eql a b x0 x1 x2 y0 y1 y2 w
        have qn : ∀ w, (binOp .neq 25 (kv x0 x1 x2) (kv x0 x1 x2)).run Tryd.prog w = .ok (.bool false) w := fun w => by rw [neq_ky, eqK_refl]; rfl
        have qh := fun a b w => guard_ky .neq a b x0 x1 x2 x0 x1 x2 w
        have hss : (s.toList == s.toList) = true := by simp
        obtain ⟨p0, p1, p2⟩ := cells3 HCp0.out
        obtain ⟨q0, q1, q2⟩ := cells3 HCq0.out
        obtain ⟨r0, r1, r2⟩ := cells3 HCr0.out
        have C := Lib.hid (read_is s k0 k1 k2 0 HX.out HE.out HS3.out W (HV.out W HB0.out).2)
        go_wp2_with fail
        refine C.out.mono ?_
        rintro e w1 ⟨rfl, hb⟩
        have hb2 := below_keep HB0.out hb HB0.out.size
        have HB1 := Lib.hid (hb2.alloc hb2.size (.cells #[.int .i64 k0, .int .i64 k1, .bool k2] 25))
        have HCp1 := Lib.hid ((At3.keep HCp0.out hb).alloc (.cells #[.int .i64 k0, .int .i64 k1, .bool k2] 25))
        have HCq1 := Lib.hid ((At3.keep HCq0.out hb).alloc (.cells #[.int .i64 k0, .int .i64 k1, .bool k2] 25))
        have HCr1 := Lib.hid ((At3.keep HCr0.out hb).alloc (.cells #[.int .i64 k0, .int .i64 k1, .bool k2] 25))
        have HCkk1 := Lib.hid (at3_new 25 w1 (.int .i64 k0) (.int .i64 k1) (.bool k2))
        obtain ⟨kk, hkk⟩ : ∃ kk, w1.heap.size = kk := ⟨_, rfl⟩
        obtain ⟨u1, hu1⟩ : ∃ u1, w1.alloc (.cells #[.int .i64 k0, .int .i64 k1, .bool k2] 25) = u1 := ⟨_, rfl⟩
        clear p0 p1 p2 q0 q1 q2 r0 r1 r2
        rw [hu1] at HB1 HCp1 HCq1 HCr1 HCkk1
        rw [hkk] at HCkk1
        have HU1 := Lib.hid hu1
        have HNkk := Lib.hid hkk
        clear hb hb2 hu1 hkk C
        obtain ⟨p0, p1, p2⟩ := cells3 HCp1.out
        obtain ⟨q0, q1, q2⟩ := cells3 HCq1.out
        obtain ⟨r0, r1, r2⟩ := cells3 HCr1.out
        obtain ⟨kk0, kk1, kk2⟩ := cells3 HCkk1.out
        rw [← show w1.alloc (.cells #[.int .i64 k0, .int .i64 k1, .bool k2] 25) = u1 from HU1.out] at p0 p1 p2 q0 q1 q2 r0 r1 r2 kk0 kk1 kk2
        rw [← show w1.heap.size = kk from HNkk.out] at kk0 kk1 kk2
        have C := Lib.hid (text_is k0 k1 k2 s HTK.out u1 (HV.out u1 HB1.out).1)
        go_wp2_with fail
        rw [show w1.alloc (.cells #[.int .i64 k0, .int .i64 k1, .bool k2] 25) = u1 from HU1.out]
        rw [show w1.heap.size = kk from HNkk.out]
        refine C.out.mono ?_
        rintro e w2 ⟨rfl, hb⟩
        have HB2 := Lib.hid (below_keep HB1.out hb HB1.out.size)
        have HCp2 := Lib.hid (At3.keep HCp1.out hb)
        have HCq2 := Lib.hid (At3.keep HCq1.out hb)
        have HCr2 := Lib.hid (At3.keep HCr1.out hb)
        have HCkk2 := Lib.hid (At3.keep HCkk1.out hb)
        clear hb C
        clear p0 p1 p2 q0 q1 q2 r0 r1 r2 kk0 kk1 kk2
        obtain ⟨p0, p1, p2⟩ := cells3 HCp2.out
        obtain ⟨q0, q1, q2⟩ := cells3 HCq2.out
        obtain ⟨r0, r1, r2⟩ := cells3 HCr2.out
        obtain ⟨kk0, kk1, kk2⟩ := cells3 HCkk2.out
        have C := Lib.hid (fit_is x0 x1 x2 true HF.out w2)
        go_wp2_with fail
        refine C.out.mono ?_
        rintro e w3 ⟨rfl, hb⟩
        have HB3 := Lib.hid (below_keep HB2.out hb HB2.out.size)
        have HCp3 := Lib.hid (At3.keep HCp2.out hb)
        have HCq3 := Lib.hid (At3.keep HCq2.out hb)
        have HCr3 := Lib.hid (At3.keep HCr2.out hb)
        have HCkk3 := Lib.hid (At3.keep HCkk2.out hb)
        clear hb C
        clear p0 p1 p2 q0 q1 q2 r0 r1 r2 kk0 kk1 kk2
        obtain ⟨p0, p1, p2⟩ := cells3 HCp3.out
        obtain ⟨q0, q1, q2⟩ := cells3 HCq3.out
        obtain ⟨r0, r1, r2⟩ := cells3 HCr3.out
        obtain ⟨kk0, kk1, kk2⟩ := cells3 HCkk3.out
        have C := Lib.hid (text_is x0 x1 x2 t HTX.out w3 (HV.out w3 HB3.out).1)
        go_wp2_with fail
        refine C.out.mono ?_
        rintro e w4 ⟨rfl, hb⟩
        have HB4 := Lib.hid (below_keep HB3.out hb HB3.out.size)
        have HCp4 := Lib.hid (At3.keep HCp3.out hb)
        have HCq4 := Lib.hid (At3.keep HCq3.out hb)
        have HCr4 := Lib.hid (At3.keep HCr3.out hb)
        have HCkk4 := Lib.hid (At3.keep HCkk3.out hb)
        clear hb C
        clear p0 p1 p2 q0 q1 q2 r0 r1 r2 kk0 kk1 kk2
        obtain ⟨p0, p1, p2⟩ := cells3 HCp4.out
        obtain ⟨q0, q1, q2⟩ := cells3 HCq4.out
        obtain ⟨r0, r1, r2⟩ := cells3 HCr4.out
        obtain ⟨kk0, kk1, kk2⟩ := cells3 HCkk4.out
        have C := Lib.hid (read_is t x0 x1 x2 0 HRX.out HRE.out HTS.out w4 (HV.out w4 HB4.out).2)
        go_wp2_with fail
        refine C.out.mono ?_
        rintro e w5 ⟨rfl, hb⟩
        have hb2 := below_keep HB4.out hb HB4.out.size
        have HB5 := Lib.hid (hb2.alloc hb2.size (.cells #[.int .i64 x0, .int .i64 x1, .bool x2] 25))
        have HCp5 := Lib.hid ((At3.keep HCp4.out hb).alloc (.cells #[.int .i64 x0, .int .i64 x1, .bool x2] 25))
        have HCq5 := Lib.hid ((At3.keep HCq4.out hb).alloc (.cells #[.int .i64 x0, .int .i64 x1, .bool x2] 25))
        have HCr5 := Lib.hid ((At3.keep HCr4.out hb).alloc (.cells #[.int .i64 x0, .int .i64 x1, .bool x2] 25))
        have HCkk5 := Lib.hid ((At3.keep HCkk4.out hb).alloc (.cells #[.int .i64 x0, .int .i64 x1, .bool x2] 25))
        have HCmm5 := Lib.hid (at3_new 25 w5 (.int .i64 x0) (.int .i64 x1) (.bool x2))
        obtain ⟨mm, hmm⟩ : ∃ mm, w5.heap.size = mm := ⟨_, rfl⟩
        obtain ⟨u5, hu5⟩ : ∃ u5, w5.alloc (.cells #[.int .i64 x0, .int .i64 x1, .bool x2] 25) = u5 := ⟨_, rfl⟩
        clear p0 p1 p2 q0 q1 q2 r0 r1 r2 kk0 kk1 kk2
        rw [hu5] at HB5 HCp5 HCq5 HCr5 HCkk5 HCmm5
        rw [hmm] at HCmm5
        have HU5 := Lib.hid hu5
        have HNmm := Lib.hid hmm
        clear hb hb2 hu5 hmm C
        obtain ⟨p0, p1, p2⟩ := cells3 HCp5.out
        obtain ⟨q0, q1, q2⟩ := cells3 HCq5.out
        obtain ⟨r0, r1, r2⟩ := cells3 HCr5.out
        obtain ⟨kk0, kk1, kk2⟩ := cells3 HCkk5.out
        obtain ⟨mm0, mm1, mm2⟩ := cells3 HCmm5.out
        rw [← show w5.alloc (.cells #[.int .i64 x0, .int .i64 x1, .bool x2] 25) = u5 from HU5.out] at p0 p1 p2 q0 q1 q2 r0 r1 r2 kk0 kk1 kk2 mm0 mm1 mm2
        rw [← show w5.heap.size = mm from HNmm.out] at mm0 mm1 mm2
        have C := Lib.hid (below_is x0 x1 x2 y0 y1 y2 false HV1.out u5)
        go_wp2_with fail
        rw [show w5.alloc (.cells #[.int .i64 x0, .int .i64 x1, .bool x2] 25) = u5 from HU5.out]
        rw [show w5.heap.size = mm from HNmm.out]
        refine C.out.mono ?_
        rintro e w6 ⟨rfl, hb⟩
        have HB6 := Lib.hid (below_keep HB5.out hb HB5.out.size)
        have HCp6 := Lib.hid (At3.keep HCp5.out hb)
        have HCq6 := Lib.hid (At3.keep HCq5.out hb)
        have HCr6 := Lib.hid (At3.keep HCr5.out hb)
        have HCkk6 := Lib.hid (At3.keep HCkk5.out hb)
        have HCmm6 := Lib.hid (At3.keep HCmm5.out hb)
        clear hb C
        clear p0 p1 p2 q0 q1 q2 r0 r1 r2 kk0 kk1 kk2 mm0 mm1 mm2
        obtain ⟨p0, p1, p2⟩ := cells3 HCp6.out
        obtain ⟨q0, q1, q2⟩ := cells3 HCq6.out
        obtain ⟨r0, r1, r2⟩ := cells3 HCr6.out
        obtain ⟨kk0, kk1, kk2⟩ := cells3 HCkk6.out
        obtain ⟨mm0, mm1, mm2⟩ := cells3 HCmm6.out
        have C := Lib.hid (below_is y0 y1 y2 x0 x1 x2 false HV2.out w6)
        go_wp2_with fail
        refine C.out.mono ?_
        rintro e w7 ⟨rfl, hb⟩
        have HB7 := Lib.hid (below_keep HB6.out hb HB6.out.size)
        have HCp7 := Lib.hid (At3.keep HCp6.out hb)
        have HCq7 := Lib.hid (At3.keep HCq6.out hb)
        have HCr7 := Lib.hid (At3.keep HCr6.out hb)
        have HCkk7 := Lib.hid (At3.keep HCkk6.out hb)
        have HCmm7 := Lib.hid (At3.keep HCmm6.out hb)
        clear hb C
        clear p0 p1 p2 q0 q1 q2 r0 r1 r2 kk0 kk1 kk2 mm0 mm1 mm2
        obtain ⟨p0, p1, p2⟩ := cells3 HCp7.out
        obtain ⟨q0, q1, q2⟩ := cells3 HCq7.out
        obtain ⟨r0, r1, r2⟩ := cells3 HCr7.out
        obtain ⟨kk0, kk1, kk2⟩ := cells3 HCkk7.out
        obtain ⟨mm0, mm1, mm2⟩ := cells3 HCmm7.out
        have C := Lib.hid (below_is x0 x1 x2 y0 y1 y2 false HV1.out w7)
        go_wp2_with fail
        refine C.out.mono ?_
        rintro e w8 ⟨rfl, hb⟩
        have HB8 := Lib.hid (below_keep HB7.out hb HB7.out.size)
        have HCp8 := Lib.hid (At3.keep HCp7.out hb)
        have HCq8 := Lib.hid (At3.keep HCq7.out hb)
        have HCr8 := Lib.hid (At3.keep HCr7.out hb)
        have HCkk8 := Lib.hid (At3.keep HCkk7.out hb)
        have HCmm8 := Lib.hid (At3.keep HCmm7.out hb)
        clear hb C
        clear p0 p1 p2 q0 q1 q2 r0 r1 r2 kk0 kk1 kk2 mm0 mm1 mm2
        obtain ⟨p0, p1, p2⟩ := cells3 HCp8.out
        obtain ⟨q0, q1, q2⟩ := cells3 HCq8.out
        obtain ⟨r0, r1, r2⟩ := cells3 HCr8.out
        obtain ⟨kk0, kk1, kk2⟩ := cells3 HCkk8.out
        obtain ⟨mm0, mm1, mm2⟩ := cells3 HCmm8.out
        have C := Lib.hid (awake_any w8 (HV.out w8 HB8.out))
        go_wp2_with fail
        refine C.out.mono ?_
        rintro e w9 ⟨rfl, hb⟩
        have HB9 := Lib.hid (below_keep HB8.out hb HB8.out.size)
        have HCp9 := Lib.hid (At3.keep HCp8.out hb)
        have HCq9 := Lib.hid (At3.keep HCq8.out hb)
        have HCr9 := Lib.hid (At3.keep HCr8.out hb)
        have HCkk9 := Lib.hid (At3.keep HCkk8.out hb)
        have HCmm9 := Lib.hid (At3.keep HCmm8.out hb)
        clear hb C
        clear p0 p1 p2 q0 q1 q2 r0 r1 r2 kk0 kk1 kk2 mm0 mm1 mm2
        obtain ⟨p0, p1, p2⟩ := cells3 HCp9.out
        obtain ⟨q0, q1, q2⟩ := cells3 HCq9.out
        obtain ⟨r0, r1, r2⟩ := cells3 HCr9.out
        obtain ⟨kk0, kk1, kk2⟩ := cells3 HCkk9.out
        obtain ⟨mm0, mm1, mm2⟩ := cells3 HCmm9.out
        go_wp2_with fail
        go_ret
        exact ⟨rfl, HB9.out⟩
end Go.Proofs.YtcdinaoenhonbaaDoor.Key
namespace Go.Proofs.YtcdinaoenhonbaaDoor
open Go.RowKit
theorem Contract.keyBack (x0 x1 : Int) (x2 : Bool) (y0 y1 : Int) (y2 : Bool) (z0 z1 : Int) (z2 : Bool) (s : ByteArray) (W : World) (hk : s.size ≤ maxLen) (ht : Laid W) :
    Calls Tryd.prog 5 #[.agg #[.int .i64 x0, .int .i64 x1, .bool x2], .agg #[.int .i64 y0, .int .i64 y1, .bool y2], .agg #[.int .i64 z0, .int .i64 z1, .bool z2], .string s] W fun e W' => e = .returned (.bool true) ∧ Below W.heap.size W W' := by
  unfold maxLen at hk
  exact Go.Proofs.YtcdinaoenhonbaaDoor.Key.back_any x0 x1 x2 y0 y1 y2 z0 z1 z2 s W hk ht
end Go.Proofs.YtcdinaoenhonbaaDoor
