/-
  Slices of structs told of their cells, for any type whose elements are told by a list of cells each: how they stand in memory, rows of the call's own, what appends to them, parts of them, what the frame tells of such a slice that came in.
-/
import Derived.Test.YtdpgfnnhbfkacaaGreatDoorChecked
import Derived.WalkKit
import Derived.Lib.Hide
import Derived.Below
import Derived.Lib.BufferWrite
import Derived.WalkLawsBesides
import Derived.WalkSpells
import Derived.Laws.AppendOwn
import Derived.Laws.AppendOwnNone
import Derived.OwnWalk
import Derived.Deep.Upon
import Derived.ArgAppend
import Derived.Deep.Slices
import Derived.OpenShut
import Derived.WideShapes
set_option linter.unusedVariables false
namespace Go.Proofs.YtdpgfnnhbfkacaaGreatDoor.Rw
open Go.RowKit
structure Sh (T : Type) where
  c : T → List Value
  z : T
  zv : Value
  ts : TypeId
  te : TypeId
  k : Nat
  bytes : Nat
  pos : 0 < k
  small : bytes ≤ 4096
  len : ∀ t, (c t).length = k
  one : ∀ t, ∀ u ∈ c t, u.oneCell' = true
  zcells : zv.cells.size = k
  und : Tryz.prog.underlying ts = some (.slice te)
  info : (Tryz.prog.info? te).map (fun i => (i.zero, i.size, i.bytes)) = some (some zv, k, bytes)
variable {T : Type} {S : Sh T}
def cells (S : Sh T) (l : List T) : List Value := l.flatMap S.c
theorem cells_append (S : Sh T) (a b : List T) : cells S (a ++ b) = cells S a ++ cells S b := by simp [cells]
theorem cells_single (S : Sh T) (x : T) : cells S [x] = S.c x := by simp [cells]
theorem cells_get (S : Sh T) : ∀ (l : List T) (i : Nat) (x : T), l[i]? = some x → ∀ r u, (S.c x)[r]? = some u → (cells S l)[i * S.k + r]? = some u
  | [], i, x, h, r, u, hu => by simp at h
  | y :: l, 0, x, h, r, u, hu => by
    simp at h
    subst h
    have hr := (List.getElem?_eq_some_iff.1 hu).1
    show (S.c y ++ cells S l)[0 * S.k + r]? = some u
    rw [Nat.zero_mul, Nat.zero_add, List.getElem?_append_left hr, hu]
  | y :: l, i + 1, x, h, r, u, hu => by
    have h2 := cells_get S l i x (by simpa using h) r u hu
    show (S.c y ++ cells S l)[(i + 1) * S.k + r]? = some u
    rw [List.getElem?_append_right (by rw [S.len, Nat.add_mul]; omega), S.len, show (i + 1) * S.k + r - S.k = i * S.k + r by rw [Nat.add_mul]; omega, h2]
def At (S : Sh T) (w : World) (a : Option Addr) (len : Nat) (l : List T) : Prop :=
  l.length = len ∧ len ≤ 9223372036854775807 ∧ (len = 0 ∨ ∃ b off, a = some ⟨b, off, none⟩ ∧ b < w.heap.size ∧ ∀ j u, (cells S l)[j]? = some u → w.cell? ⟨b, off + j, none⟩ = some u)
theorem At.keep {w w' : World} {a : Option Addr} {len : Nat} {l : List T} (h : At S w a len l) (hb : Below w.heap.size w w') : At S w' a len l :=
  ⟨h.1, h.2.1, h.2.2.imp id fun ⟨b, off, e, hlt, hc⟩ => ⟨b, off, e, by have := hb.size; omega, fun j u hu => (hb.cell (p := ⟨b, off + j, none⟩) hlt).trans (hc j u hu)⟩⟩
theorem At.nil (S : Sh T) (w : World) (a : Option Addr) : At S w a 0 [] := ⟨rfl, by omega, .inl rfl⟩
theorem getD_mem {l : List T} {z : T} {k : Nat} (hk : k < l.length) : l.getD k z ∈ l := by
  rw [show l.getD k z = l[k] by simp [List.getD, hk]]; exact List.getElem_mem hk
theorem getD_some {l : List T} {z x : T} {k : Nat} (hk : k < l.length) (hx : l.getD k z = x) : l[k]? = some x := by
  rw [← hx]; simp [List.getD, hk]
theorem At.at {w : World} {a : Option Addr} {len : Nat} {l : List T} (h : At S w a len l) {i : Nat} (hi : i < len) {x : T} (hx : l.getD i S.z = x) :
    ∃ b off, a = some ⟨b, off, none⟩ ∧ b < w.heap.size ∧ x ∈ l ∧ ∀ w', Below w.heap.size w w' → ∀ r u, (S.c x)[r]? = some u → w'.cell? ⟨b, off + i * S.k + r, none⟩ = some u := by
  rcases h.2.2 with h0 | ⟨b, off, rfl, hlt, hc⟩
  · omega
  have hil : i < l.length := by rw [h.1]; exact hi
  refine ⟨b, off, rfl, hlt, by rw [← hx]; exact getD_mem hil, fun w' hb r u hu => ?_⟩
  rw [Nat.add_assoc]
  exact (hb.cell (p := ⟨b, off + (i * S.k + r), none⟩) hlt).trans (hc _ u (cells_get S l i x (getD_some hil hx) r u hu))
/-! ### rows of the call's own -/
theorem owns_cell {w : World} {B n size g j : Nat} {e : TypeId} {v u : Value} {xs : List Value} (h : w.ownsRow B e size v n xs) (hg : v.ownBlock = some g) (hu : xs[j]? = some u) : w.cell? ⟨g, j, none⟩ = some u := by
  have h2 := h.cells hg j u hu
  rw [Addr.add_lit, Nat.zero_add] at h2
  exact h2
theorem owns_below {w w' : World} {B n size : Nat} {e : TypeId} {v : Value} {xs : List Value} (h : w.ownsRow B e size v n xs) (hb : Below w.heap.size w w') : w'.ownsRow B e size v n xs := by
  refine ⟨h.1, ?_⟩
  rcases h.2 with hn | ⟨g, cap, cur, hv, hbg, hg, rest⟩
  · exact .inl hn
  · exact .inr ⟨g, cap, cur, hv, hbg, (hb.block g (Array.getElem?_eq_some_iff.1 hg).1).trans hg, rest⟩
theorem owns_heap {w w' : World} {B n size : Nat} {e : TypeId} {v : Value} {xs : List Value} (h : w.ownsRow B e size v n xs) (hb : ∀ g, v.ownBlock = some g → w'.heap[g]? = w.heap[g]?) : w'.ownsRow B e size v n xs := by
  refine ⟨h.1, ?_⟩
  rcases h.2 with hn | ⟨g, cap, cur, rfl, hbg, hg, rest⟩
  · exact .inl hn
  · exact .inr ⟨g, cap, cur, rfl, hbg, (hb g rfl).trans hg, rest⟩
theorem owns_room {w : World} {B n c size : Nat} {e : TypeId} {a : Option Addr} {xs : List Value} (h : w.ownsRow B e size (.slice a n c) n xs) : n ≤ c := by
  rcases h.2 with ⟨e, h0⟩ | ⟨g, cap, cur, hv, _, _, h1, _⟩
  · omega
  · cases hv; exact h1
theorem owns_form {w : World} {B n size : Nat} {e : TypeId} {v : Value} {xs : List Value} (h : w.ownsRow B e size v n xs) : (v = .slice none 0 0 ∧ n = 0) ∨ ∃ g cap, v = .slice (some ⟨g, 0, none⟩) n cap ∧ B ≤ g ∧ g < w.heap.size := by
  rcases h.2 with ⟨rfl, h0⟩ | ⟨g, cap, cur, hv, hb, hg, _⟩
  · exact .inl ⟨rfl, h0⟩
  · exact .inr ⟨g, cap, hv, hb, (Array.getElem?_eq_some_iff.1 hg).1⟩
theorem owns_slice {w : World} {B n size : Nat} {e : TypeId} {v : Value} {xs : List Value} (h : w.ownsRow B e size v n xs) : ∃ a cap, v = .slice a n cap ∧ n ≤ cap := by
  rcases owns_form h with ⟨rfl, rfl⟩ | ⟨g, cap, rfl, _⟩
  · exact ⟨none, 0, rfl, Nat.le_refl _⟩
  · exact ⟨_, cap, rfl, owns_room h⟩
theorem own_at {w : World} {B n c : Nat} {a : Option Addr} {l : List T} (h : w.ownsRow B S.te S.k (.slice a n c) n (cells S l)) (hn : l.length = n) (hl : n ≤ 9223372036854775807) : At S w a n l := by
  rcases owns_form h with ⟨e, h0⟩ | ⟨g, cap, e, _, hlt⟩
  · exact ⟨hn, hl, .inl h0⟩
  · cases e
    exact ⟨hn, hl, .inr ⟨g, 0, rfl, hlt, fun j u hu => by rw [Nat.zero_add]; exact owns_cell h rfl hu⟩⟩
theorem cells_new (w : World) (cs : List Value) (e : TypeId) : ∀ (j : Nat) u, cs[j]? = some u → (w.alloc (.cells cs.toArray e)).cell? ((⟨w.heap.size, 0, none⟩ : Addr).add j) = some u := by
  intro j u hu
  rw [Addr.add_lit, Nat.zero_add, World.cell?_alloc_new]
  simpa using hu
theorem append_one (S : Sh T) {ops : Array Oper} {rest : List Oper} {o : Oper} {a : Act} {Q : Exit → Act → World → Prop} (hgd : o.guard = none) (s x : Operand)
    (ho : o.op = .call { callee := .builtin .append, args := #[s, x], argTypes := #[S.ts, S.ts] }) (base : Nat) (w : World) (k : Nat) (hk : w.heap.size = k) (y : T) (cs : Array Value) (hcs : (S.c y).toArray = cs)
    (v : Value) (n : Nat) (xs : List T) (hs : a.eval s = v) (hown : w.ownsRow base S.te S.k v n (cells S xs)) (hx : a.eval x = .slice (some ⟨k, 0, none⟩) 1 1)
    (hn : n ≤ 4000000) (hbase : base ≤ w.heap.size)
    (h : ∀ v' w', w'.ownsRow base S.te S.k v' (n + 1) (cells S (xs ++ [y])) → (w.alloc (.cells cs S.te)).grownBy w' v.ownBlock → wpList Tryz.prog ops Q rest (a.put o.dst v') w') :
    wpList Tryz.prog ops Q (o :: rest) a (w.alloc (.cells cs S.te)) := by
  subst hk
  subst hcs
  obtain ⟨i0, hi, hz0, hz1, hz2⟩ := info_parts S.info
  refine wpList_append_own _ hgd s x S.ts ho base S.te i0 S.zv S.k S.bytes S.und hi hz0 hz1 hz2 S.zcells S.pos v n (cells S xs) hs (hown.alloc _) ⟨w.heap.size, 0, none⟩ 1 1 (S.c y) hx (by rw [S.len, Nat.one_mul]) (cells_new w (S.c y) S.te) (S.one y) ?_ ?_ ?_ fun v' w' h1 h2 _ => h v' w' (by rw [cells_append, cells_single]; exact h1) h2
  · unfold maxLen; omega
  · have := Nat.mul_le_mul (show n + 1 ≤ 4000001 by omega) S.small; omega
  · rw [World.size_alloc]; omega
theorem below_append {B n size : Nat} {w wr w' : World} {e : TypeId} {v : Value} {xs : List Value} {o : Obj} (hb : Below B w wr) (hB : B ≤ wr.heap.size) (hown : wr.ownsRow B e size v n xs) (hg : (wr.alloc o).grownBy w' v.ownBlock) : Below B w w' :=
  (hb.alloc hB o).grown hg (by simp; omega) (fun k hk => (hown.lt k hk).1)
/-! ### parts -/
/-! ### a slice that came in -/
end Go.Proofs.YtdpgfnnhbfkacaaGreatDoor.Rw
