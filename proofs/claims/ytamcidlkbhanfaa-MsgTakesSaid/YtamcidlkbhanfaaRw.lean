/-
  Slices of structs told of their cells, for any type whose elements are told by a list of cells each: how they stand in memory, rows of the call's own, what appends to them, parts of them, what the frame tells of such a slice that came in.
-/
import Derived.Test.YtamcidlkbhanfaaChecked
import Derived.WalkKit
import Derived.Lib.Hide
import Derived.Below
import Derived.Lib.BufferWrite
import Derived.WalkLawsBesides
import Derived.WalkSpells
import Derived.Laws.AppendOwn
import Derived.Laws.AppendOwnNone
import Derived.OwnWalk
import Derived.Deep.Upon
import Derived.ArgAppend
import Derived.Deep.Slices
import Derived.OpenShut
import Derived.WideShapes
set_option linter.unusedVariables false
namespace Go.Proofs.Ytamcidlkbhanfaa.Rw
open Go.RowKit

/-- A type of elements: its cells, its zero, the types' numbers. -/
structure Sh (T : Type) where
  c : T → List Value
  z : T
  zv : Value
  ts : TypeId
  te : TypeId
  k : Nat
  bytes : Nat
  pos : 0 < k
  small : bytes ≤ 4096
  len : ∀ t, (c t).length = k
  one : ∀ t, ∀ u ∈ c t, u.oneCell' = true
  zcells : zv.cells.size = k
  und : Try.prog.underlying ts = some (.slice te)
  info : (Try.prog.info? te).map (fun i => (i.zero, i.size, i.bytes)) = some (some zv, k, bytes)
variable {T : Type} {S : Sh T}
def cells (S : Sh T) (l : List T) : List Value := l.flatMap S.c
theorem cells_append (S : Sh T) (a b : List T) : cells S (a ++ b) = cells S a ++ cells S b := by simp [cells]
theorem cells_len (S : Sh T) (l : List T) : (cells S l).length = l.length * S.k := by
  induction l with
  | nil => simp [cells]
  | cons x r ih => show (S.c x ++ cells S r).length = _; rw [List.length_append, ih, S.len, List.length_cons, Nat.add_mul, Nat.one_mul, Nat.add_comm]
theorem cells_one (S : Sh T) (l : List T) : ∀ u ∈ cells S l, u.oneCell' = true := by
  intro u hu
  obtain ⟨x, _, hx⟩ := List.mem_flatMap.1 hu
  exact S.one x u hx
theorem cells_single (S : Sh T) (x : T) : cells S [x] = S.c x := by simp [cells]
theorem cells_get (S : Sh T) : ∀ (l : List T) (i : Nat) (x : T), l[i]? = some x → ∀ r u, (S.c x)[r]? = some u → (cells S l)[i * S.k + r]? = some u
  | [], i, x, h, r, u, hu => by simp at h
  | y :: l, 0, x, h, r, u, hu => by
    simp at h
    subst h
    have hr := (List.getElem?_eq_some_iff.1 hu).1
    show (S.c y ++ cells S l)[0 * S.k + r]? = some u
    rw [Nat.zero_mul, Nat.zero_add, List.getElem?_append_left hr, hu]
  | y :: l, i + 1, x, h, r, u, hu => by
    have h2 := cells_get S l i x (by simpa using h) r u hu
    show (S.c y ++ cells S l)[(i + 1) * S.k + r]? = some u
    rw [List.getElem?_append_right (by rw [S.len, Nat.add_mul]; omega), S.len, show (i + 1) * S.k + r - S.k = i * S.k + r by rw [Nat.add_mul]; omega, h2]
theorem cells_take (S : Sh T) (l : List T) (p : Nat) : cells S (l.take p) = (cells S l).take (p * S.k) := by
  induction l generalizing p with
  | nil => simp [cells]
  | cons y r ih =>
    cases p with
    | zero => simp [cells]
    | succ p =>
      show S.c y ++ cells S (r.take p) = (S.c y ++ cells S r).take ((p + 1) * S.k)
      rw [ih, List.take_append, S.len, List.take_of_length_le (l := S.c y) (by rw [S.len, Nat.add_mul]; omega), show (p + 1) * S.k - S.k = p * S.k by rw [Nat.add_mul]; omega]
theorem cells_drop (S : Sh T) (l : List T) (p : Nat) : cells S (l.drop p) = (cells S l).drop (p * S.k) := by
  induction l generalizing p with
  | nil => simp [cells]
  | cons y r ih =>
    cases p with
    | zero => simp
    | succ p =>
      show cells S (r.drop p) = (S.c y ++ cells S r).drop ((p + 1) * S.k)
      rw [ih, List.drop_append, S.len, (List.drop_eq_nil_iff.2 (by rw [S.len, Nat.add_mul]; omega) : (S.c y).drop ((p + 1) * S.k) = []), show (p + 1) * S.k - S.k = p * S.k by rw [Nat.add_mul]; omega, List.nil_append]
/-- A slice told of its elements. -/
def At (S : Sh T) (w : World) (a : Option Addr) (len : Nat) (l : List T) : Prop :=
  l.length = len ∧ len ≤ 9223372036854775807 ∧ (len = 0 ∨ ∃ b off, a = some ⟨b, off, none⟩ ∧ b < w.heap.size ∧ ∀ j u, (cells S l)[j]? = some u → w.cell? ⟨b, off + j, none⟩ = some u)
theorem At.keep {w w' : World} {a : Option Addr} {len : Nat} {l : List T} (h : At S w a len l) (hb : Below w.heap.size w w') : At S w' a len l :=
  ⟨h.1, h.2.1, h.2.2.imp id fun ⟨b, off, e, hlt, hc⟩ => ⟨b, off, e, by have := hb.size; omega, fun j u hu => (hb.cell (p := ⟨b, off + j, none⟩) hlt).trans (hc j u hu)⟩⟩
theorem At.nil (S : Sh T) (w : World) (a : Option Addr) : At S w a 0 [] := ⟨rfl, by omega, .inl rfl⟩
theorem getD_mem {l : List T} {z : T} {k : Nat} (hk : k < l.length) : l.getD k z ∈ l := by
  rw [show l.getD k z = l[k] by simp [List.getD, hk]]; exact List.getElem_mem hk
theorem take_snoc {l : List T} {z x : T} {k : Nat} (hk : k < l.length) (hx : l.getD k z = x) : l.take (k + 1) = l.take k ++ [x] := by
  rw [List.take_succ_eq_append_getElem hk, ← hx]; simp [List.getD, hk]
theorem drop_cons {l : List T} {z x : T} {k : Nat} (hk : k < l.length) (hx : l.getD k z = x) : l.drop k = x :: l.drop (k + 1) := by
  rw [List.drop_eq_getElem_cons hk, ← hx]; simp [List.getD, hk]
theorem getD_some {l : List T} {z x : T} {k : Nat} (hk : k < l.length) (hx : l.getD k z = x) : l[k]? = some x := by
  rw [← hx]; simp [List.getD, hk]
/-- The element at a place: its cells in every world that keeps what was there. -/
theorem At.at {w : World} {a : Option Addr} {len : Nat} {l : List T} (h : At S w a len l) {i : Nat} (hi : i < len) {x : T} (hx : l.getD i S.z = x) :
    ∃ b off, a = some ⟨b, off, none⟩ ∧ b < w.heap.size ∧ x ∈ l ∧ ∀ w', Below w.heap.size w w' → ∀ r u, (S.c x)[r]? = some u → w'.cell? ⟨b, off + i * S.k + r, none⟩ = some u := by
  rcases h.2.2 with h0 | ⟨b, off, rfl, hlt, hc⟩
  · omega
  have hil : i < l.length := by rw [h.1]; exact hi
  refine ⟨b, off, rfl, hlt, by rw [← hx]; exact getD_mem hil, fun w' hb r u hu => ?_⟩
  rw [Nat.add_assoc]
  exact (hb.cell (p := ⟨b, off + (i * S.k + r), none⟩) hlt).trans (hc _ u (cells_get S l i x (getD_some hil hx) r u hu))
/-! ### rows of the call's own -/
theorem owns_cell {w : World} {B n size g j : Nat} {e : TypeId} {v u : Value} {xs : List Value} (h : w.ownsRow B e size v n xs) (hg : v.ownBlock = some g) (hu : xs[j]? = some u) : w.cell? ⟨g, j, none⟩ = some u := by
  have h2 := h.cells hg j u hu
  rw [Addr.add_lit, Nat.zero_add] at h2
  exact h2
theorem owns_below {w w' : World} {B n size : Nat} {e : TypeId} {v : Value} {xs : List Value} (h : w.ownsRow B e size v n xs) (hb : Below w.heap.size w w') : w'.ownsRow B e size v n xs := by
  refine ⟨h.1, ?_⟩
  rcases h.2 with hn | ⟨g, cap, cur, hv, hbg, hg, rest⟩
  · exact .inl hn
  · exact .inr ⟨g, cap, cur, hv, hbg, (hb.block g (Array.getElem?_eq_some_iff.1 hg).1).trans hg, rest⟩
theorem owns_heap {w w' : World} {B n size : Nat} {e : TypeId} {v : Value} {xs : List Value} (h : w.ownsRow B e size v n xs) (hb : ∀ g, v.ownBlock = some g → w'.heap[g]? = w.heap[g]?) : w'.ownsRow B e size v n xs := by
  refine ⟨h.1, ?_⟩
  rcases h.2 with hn | ⟨g, cap, cur, rfl, hbg, hg, rest⟩
  · exact .inl hn
  · exact .inr ⟨g, cap, cur, rfl, hbg, (hb g rfl).trans hg, rest⟩
theorem owns_base {w : World} {B C n size : Nat} {e : TypeId} {v : Value} {xs : List Value} (h : w.ownsRow B e size v n xs) (hc : C ≤ B) : w.ownsRow C e size v n xs :=
  ⟨h.1, h.2.imp id (fun ⟨g, cap, cur, h1, h2, h3⟩ => ⟨g, cap, cur, h1, Nat.le_trans hc h2, h3⟩)⟩
theorem owns_room {w : World} {B n c size : Nat} {e : TypeId} {a : Option Addr} {xs : List Value} (h : w.ownsRow B e size (.slice a n c) n xs) : n ≤ c := by
  rcases h.2 with ⟨e, h0⟩ | ⟨g, cap, cur, hv, _, _, h1, _⟩
  · omega
  · cases hv; exact h1
theorem owns_form {w : World} {B n size : Nat} {e : TypeId} {v : Value} {xs : List Value} (h : w.ownsRow B e size v n xs) : (v = .slice none 0 0 ∧ n = 0) ∨ ∃ g cap, v = .slice (some ⟨g, 0, none⟩) n cap ∧ B ≤ g ∧ g < w.heap.size := by
  rcases h.2 with ⟨rfl, h0⟩ | ⟨g, cap, cur, hv, hb, hg, _⟩
  · exact .inl ⟨rfl, h0⟩
  · exact .inr ⟨g, cap, hv, hb, (Array.getElem?_eq_some_iff.1 hg).1⟩
theorem owns_slice {w : World} {B n size : Nat} {e : TypeId} {v : Value} {xs : List Value} (h : w.ownsRow B e size v n xs) : ∃ a cap, v = .slice a n cap ∧ n ≤ cap := by
  rcases owns_form h with ⟨rfl, rfl⟩ | ⟨g, cap, rfl, _⟩
  · exact ⟨none, 0, rfl, Nat.le_refl _⟩
  · exact ⟨_, cap, rfl, owns_room h⟩
/-- A row of the call's own is a slice of its elements. -/
theorem own_at {w : World} {B n c : Nat} {a : Option Addr} {l : List T} (h : w.ownsRow B S.te S.k (.slice a n c) n (cells S l)) (hn : l.length = n) (hl : n ≤ 9223372036854775807) : At S w a n l := by
  rcases owns_form h with ⟨e, h0⟩ | ⟨g, cap, e, _, hlt⟩
  · exact ⟨hn, hl, .inl h0⟩
  · cases e
    exact ⟨hn, hl, .inr ⟨g, 0, rfl, hlt, fun j u hu => by rw [Nat.zero_add]; exact owns_cell h rfl hu⟩⟩
theorem add_at (g j i : Nat) : (⟨g, j, none⟩ : Addr).add i = ⟨g, j + i, none⟩ := by unfold Addr.add; split <;> simp_all
theorem cells_new (w : World) (cs : List Value) (e : TypeId) : ∀ (j : Nat) u, cs[j]? = some u → (w.alloc (.cells cs.toArray e)).cell? ((⟨w.heap.size, 0, none⟩ : Addr).add j) = some u := by
  intro j u hu
  rw [Addr.add_lit, Nat.zero_add, World.cell?_alloc_new]
  simpa using hu
/-- A new block of one element is a slice of it. -/
theorem one_at (S : Sh T) (w : World) (x : T) : At S (w.alloc (.cells (S.c x).toArray S.te)) (some ⟨w.heap.size, 0, none⟩) 1 [x] := by
  refine ⟨rfl, by omega, .inr ⟨_, 0, rfl, by rw [World.size_alloc]; omega, fun j u hu => ?_⟩⟩
  rw [cells_single] at hu
  have := cells_new w (S.c x) S.te j u hu
  rw [Addr.add_lit] at this
  exact this
/-- One element more behind a row of the call's own. -/
theorem append_one (S : Sh T) {ops : Array Oper} {rest : List Oper} {o : Oper} {a : Act} {Q : Exit → Act → World → Prop} (hgd : o.guard = none) (s x : Operand)
    (ho : o.op = .call { callee := .builtin .append, args := #[s, x], argTypes := #[S.ts, S.ts] }) (base : Nat) (w : World) (k : Nat) (hk : w.heap.size = k) (y : T) (cs : Array Value) (hcs : (S.c y).toArray = cs)
    (v : Value) (n : Nat) (xs : List T) (hs : a.eval s = v) (hown : w.ownsRow base S.te S.k v n (cells S xs)) (hx : a.eval x = .slice (some ⟨k, 0, none⟩) 1 1)
    (hn : n ≤ 4000000) (hbase : base ≤ w.heap.size)
    (h : ∀ v' w', w'.ownsRow base S.te S.k v' (n + 1) (cells S (xs ++ [y])) → (w.alloc (.cells cs S.te)).grownBy w' v.ownBlock → wpList Try.prog ops Q rest (a.put o.dst v') w') :
    wpList Try.prog ops Q (o :: rest) a (w.alloc (.cells cs S.te)) := by
  subst hk
  subst hcs
  obtain ⟨i0, hi, hz0, hz1, hz2⟩ := info_parts S.info
  refine wpList_append_own _ hgd s x S.ts ho base S.te i0 S.zv S.k S.bytes S.und hi hz0 hz1 hz2 S.zcells S.pos v n (cells S xs) hs (hown.alloc _) ⟨w.heap.size, 0, none⟩ 1 1 (S.c y) hx (by rw [S.len, Nat.one_mul]) (cells_new w (S.c y) S.te) (S.one y) ?_ ?_ ?_ fun v' w' h1 h2 _ => h v' w' (by rw [cells_append, cells_single]; exact h1) h2
  · unfold maxLen; omega
  · have := Nat.mul_le_mul (show n + 1 ≤ 4000001 by omega) S.small; omega
  · rw [World.size_alloc]; omega
/-- Nothing is appended: the slice and the world are as they were. -/
theorem append_nothing (S : Sh T) {ops : Array Oper} {rest : List Oper} {o : Oper} {a : Act} {Q : Exit → Act → World → Prop} {w : World} (hgd : o.guard = none) (s x : Operand)
    (ho : o.op = .call { callee := .builtin .append, args := #[s, x], argTypes := #[S.ts, S.ts] })
    (base : Option Addr) (sLen sCap : Nat) (hle : sLen ≤ sCap) (hs : a.eval s = .slice base sLen sCap) (la : Option Addr) (c : Nat) (hx : a.eval x = .slice la 0 c)
    (h : wpList Try.prog ops Q rest (a.put o.dst (.slice base sLen sCap)) w) : wpList Try.prog ops Q (o :: rest) a w := by
  obtain ⟨i0, hi, hz0, hz1, hz2⟩ := info_parts S.info
  refine wpList_plain hgd fun K hK => ?_
  have hrun := run_append_nothing (P := Try.prog) w S.ts S.ts o.type S.te i0 S.und hi base sLen sCap hle (.slice la 0 c) (by
    cases la with
    | none => exact Src.ofNil _ S.und c
    | some ad => exact Src.ofSlice _ S.und ad 0 c [] (by simp) (fun j u hu => by simp at hu) (fun u hu => by simp at hu))
  unfold Oper.wp
  simp [execOp, ho, resolve, invoke, builtin, hs, hx, hrun, Result.andThen]
  exact hK _ _ h
/-- Some elements more behind a row of the call's own. -/
theorem append_more (S : Sh T) {ops : Array Oper} {rest : List Oper} {o : Oper} {a : Act} {Q : Exit → Act → World → Prop} {w : World} (hgd : o.guard = none) (s x : Operand)
    (ho : o.op = .call { callee := .builtin .append, args := #[s, x], argTypes := #[S.ts, S.ts] }) (base : Nat)
    (v : Value) (n : Nat) (xs ys : List T) (a1 : Option Addr) (l1 c1 : Nat) (hs : a.eval s = v) (hown : w.ownsRow base S.te S.k v n (cells S xs)) (hx : a.eval x = .slice a1 l1 c1)
    (hI : At S w a1 l1 ys) (hn : n + l1 ≤ 4000000) (hbase : base ≤ w.heap.size)
    (h : ∀ v' w', w'.ownsRow base S.te S.k v' (n + l1) (cells S (xs ++ ys)) → w.grownBy w' v.ownBlock → wpList Try.prog ops Q rest (a.put o.dst v') w') :
    wpList Try.prog ops Q (o :: rest) a w := by
  obtain ⟨i0, hi, hz0, hz1, hz2⟩ := info_parts S.info
  by_cases h0 : l1 = 0
  · subst h0
    have hy : ys = [] := List.eq_nil_of_length_eq_zero hI.1
    subst hy
    obtain ⟨ad, c, rfl, hle⟩ := owns_slice hown
    refine append_nothing S hgd s x ho ad n c hle hs a1 c1 hx (h _ w ?_ ⟨rfl, rfl, rfl, Nat.le_refl _, fun _ _ _ => rfl⟩)
    rw [List.append_nil]
    exact hown
  · rcases hI.2.2 with h1 | ⟨b, off, rfl, _, hc⟩
    · exact absurd h1 h0
    refine wpList_append_own _ hgd s x S.ts ho base S.te i0 S.zv S.k S.bytes S.und hi hz0 hz1 hz2 S.zcells S.pos v n (cells S xs) hs hown ⟨b, off, none⟩ l1 c1 (cells S ys) hx ?_ (fun j u hu => by rw [add_at]; exact hc j u hu) (cells_one S ys) ?_ ?_ hbase fun v' w' h1 h2 _ => h v' w' (by rw [cells_append]; exact h1) h2
    · rw [cells_len, hI.1]
    · unfold maxLen; omega
    · have := Nat.mul_le_mul (show n + l1 ≤ 4000000 by omega) S.small; omega
/-- Some elements behind a part of a slice whose capacity is its length: a new row. -/
theorem append_part (S : Sh T) {ops : Array Oper} {rest : List Oper} {o : Oper} {a : Act} {Q : Exit → Act → World → Prop} {w : World} (hgd : o.guard = none) (s x : Operand)
    (ho : o.op = .call { callee := .builtin .append, args := #[s, x], argTypes := #[S.ts, S.ts] })
    (a0 : Option Addr) (n : Nat) (xs ys : List T) (a1 : Option Addr) (l1 c1 : Nat) (hs : a.eval s = .slice a0 n n) (hR : At S w a0 n xs) (hx : a.eval x = .slice a1 l1 c1)
    (hI : At S w a1 l1 ys) (hpos : 0 < l1) (hn : n + l1 ≤ 4000000)
    (h : ∀ v' w', w'.ownsRow w.heap.size S.te S.k v' (n + l1) (cells S (xs ++ ys)) → w.grownBy w' none → wpList Try.prog ops Q rest (a.put o.dst v') w') :
    wpList Try.prog ops Q (o :: rest) a w := by
  obtain ⟨i0, hi, hz0, hz1, hz2⟩ := info_parts S.info
  rcases hI.2.2 with h1 | ⟨b, off, rfl, _, hc⟩
  · omega
  refine wpList_append_grows w hgd s x S.ts ho S.te i0 S.zv S.k S.bytes S.und hi hz0 hz1 hz2 S.zcells S.pos a0 n n (cells S xs) hs ?_ ?_ ?_ ⟨b, off, none⟩ l1 c1 (cells S ys) hx ?_ (fun j u hu => by rw [add_at]; exact hc j u hu) (cells_one S ys) ?_ ?_ ?_ fun v' w' h1 h2 => h v' w' (by rw [cells_append]; exact h1) h2
  · intro e
    rcases hR.2.2 with h0 | ⟨_, _, e2, _⟩
    · exact ⟨h0, h0⟩
    · rw [e] at e2; cases e2
  · rw [cells_len, hR.1]
  · intro ad e j u hu
    rcases hR.2.2 with h0 | ⟨b2, off2, e2, _, hc2⟩
    · have := (List.getElem?_eq_some_iff.1 hu).1
      rw [cells_len, hR.1, h0] at this
      omega
    · rw [e] at e2; cases e2
      rw [add_at]; exact hc2 j u hu
  · rw [cells_len, hI.1]
  · omega
  · unfold maxLen; omega
  · have := Nat.mul_le_mul (show n + l1 ≤ 4000000 by omega) S.small; omega
theorem below_append {B n size : Nat} {w wr w' : World} {e : TypeId} {v : Value} {xs : List Value} {o : Obj} (hb : Below B w wr) (hB : B ≤ wr.heap.size) (hown : wr.ownsRow B e size v n xs) (hg : (wr.alloc o).grownBy w' v.ownBlock) : Below B w w' :=
  (hb.alloc hB o).grown hg (by simp; omega) (fun k hk => (hown.lt k hk).1)
theorem below_more {B n size : Nat} {w wr w' : World} {e : TypeId} {v : Value} {xs : List Value} (hb : Below B w wr) (hB : B ≤ wr.heap.size) (hown : wr.ownsRow B e size v n xs) (hg : wr.grownBy w' v.ownBlock) : Below B w w' :=
  hb.grown hg hB (fun k hk => (hown.lt k hk).1)
/-! ### parts -/
theorem part_take {w : World} {a : Option Addr} {len p : Nat} {l : List T} (h : At S w a len l) (hp : p ≤ len) : At S w a p (l.take p) := by
  refine ⟨by rw [List.length_take, h.1]; omega, by have := h.2.1; omega, ?_⟩
  by_cases h0 : p = 0
  · exact .inl h0
  rcases h.2.2 with h1 | ⟨b, off, e, hlt, hc⟩
  · omega
  · refine .inr ⟨b, off, e, hlt, fun j u hu => hc j u ?_⟩
    rw [cells_take, List.getElem?_take] at hu
    split at hu
    · exact hu
    · cases hu
theorem part_drop {w : World} {a A2 : Option Addr} {len cap p : Nat} {l : List T} (h : At S w a len l) (hp : p ≤ len) (hc : len ≤ cap) (hA : (if cap = p then a else Option.map (fun x => x.add (p * S.k)) a) = A2) : At S w A2 (len - p) (l.drop p) := by
  refine ⟨by rw [List.length_drop, h.1], by have := h.2.1; omega, ?_⟩
  by_cases h0 : len - p = 0
  · exact .inl h0
  rcases h.2.2 with h1 | ⟨b, off, e, hlt, hcc⟩
  · omega
  · subst e
    rw [if_neg (by omega)] at hA
    refine .inr ⟨b, off + p * S.k, by rw [← hA]; simp only [Option.map_some, add_at], hlt, fun j u hu => ?_⟩
    rw [Nat.add_assoc]
    refine hcc _ u ?_
    rw [cells_drop, List.getElem?_drop] at hu
    exact hu
/-! ### a slice that came in -/
theorem is_of {H : Type} {enc : TypeId × Value → H} {w : World} {base : Nat} {spare : Nat → Bool} {held : Bool} {fuel : Nat} {cs : List Value} {x : DataW H × List MemPlace} {a : Option Addr} {len cap : Nat} {Q : T → Prop}
    (S : Sh T) (hce : Try.prog.cellsOf S.te = S.k)
    (hop : ∀ n cs' y, cs'.length = S.k → DataW.trod enc Try.prog w base spare held n S.te cs' = some y → ∃ t, cs' = S.c t ∧ Q t)
    (h : DataW.trod enc Try.prog w base spare held fuel S.ts cs = some x) (hcs : cs = [.slice a len cap]) : ∃ l, At S w a len l ∧ (∀ t ∈ l, Q t) ∧ len ≤ cap := by
  rcases Go.Deep.open_slice S.und h with ⟨h0, _⟩ | ⟨a1, len1, cap1, m, n, D, Pl, h1, _, hl, hm, hmm, _, hi⟩
  · rw [hcs] at h0
    simp only [List.cons.injEq, Value.slice.injEq, and_true] at h0
    obtain ⟨rfl, rfl, rfl⟩ := h0
    exact ⟨[], At.nil _ _ _, (fun t ht => by cases ht), Nat.le_refl _⟩
  · rw [hcs] at h1
    simp only [List.cons.injEq, Value.slice.injEq, and_true] at h1
    obtain ⟨rfl, rfl, rfl⟩ := h1
    unfold maxLen at hm
    by_cases h0 : len = 0
    · subst h0
      exact ⟨[], At.nil _ _ _, (fun t ht => by cases ht), hl⟩
    have hlm : len ≤ m := by rw [hmm]; split <;> omega
    have each : ∀ i, i < len → ∃ t, Q t ∧ ∀ r u, (S.c t)[r]? = some u → w.cell? ((a1.add (i * S.k)).add r) = some u := by
      intro i hlt
      obtain ⟨cs', hc, ht⟩ := hi i (by omega)
      rw [hce] at hc
      obtain ⟨_, hcl, hat⟩ := World.cells?_some hc
      obtain ⟨t, ht1, ht2⟩ := hop n cs' _ hcl ht
      refine ⟨t, ht2, fun r u hu => ?_⟩
      have hr := (List.getElem?_eq_some_iff.1 hu).1
      rw [S.len] at hr
      refine (hat r hr).trans ?_
      rw [ht1]; exact hu
    obtain ⟨b, off, spot⟩ := a1
    obtain ⟨t0, _, h00⟩ := each 0 (by omega)
    obtain ⟨u0, hu0⟩ : ∃ u, (S.c t0)[0]? = some u := ⟨_, List.getElem?_eq_getElem (by rw [S.len]; exact S.pos)⟩
    have hc0 := h00 0 u0 hu0
    have hspot : spot = none := by simpa [Addr.add] using World.cell?_spot hc0
    subst hspot
    have hlt := World.block_lt_of_cell? w _ hc0
    rw [add_at, add_at] at hlt
    have build : ∀ k, k ≤ len → ∃ l : List T, l.length = k ∧ (∀ t ∈ l, Q t) ∧ ∀ j u, (cells S l)[j]? = some u → w.cell? ⟨b, off + j, none⟩ = some u := by
      intro k
      induction k with
      | zero => exact fun _ => ⟨[], rfl, (fun t ht => by cases ht), fun j u hu => by simp [cells] at hu⟩
      | succ k ih =>
        intro hk
        obtain ⟨l, hl', hall, hcell⟩ := ih (by omega)
        obtain ⟨t, hq, hc⟩ := each k (by omega)
        refine ⟨l ++ [t], by simp [hl'], fun y hy => ?_, fun j u hu => ?_⟩
        · rcases List.mem_append.1 hy with hy | hy
          · exact hall y hy
          · rw [List.mem_singleton.1 hy]; exact hq
        · rw [cells_append, cells_single] at hu
          by_cases hj : j < (cells S l).length
          · rw [List.getElem?_append_left hj] at hu
            exact hcell j u hu
          · rw [List.getElem?_append_right (by omega)] at hu
            have h2 := hc _ u hu
            rw [add_at, add_at, cells_len, hl'] at h2
            rw [cells_len, hl'] at hj
            rw [show off + k * S.k + (j - k * S.k) = off + j by omega] at h2
            exact h2
    obtain ⟨l, hll, hall, hcell⟩ := build len (Nat.le_refl _)
    exact ⟨l, ⟨hll, by omega, .inr ⟨b, off, rfl, hlt, hcell⟩⟩, hall, hl⟩
end Go.Proofs.Ytamcidlkbhanfaa.Rw
