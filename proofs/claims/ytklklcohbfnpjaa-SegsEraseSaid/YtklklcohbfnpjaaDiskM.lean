/-
  The contract of Crash: any disk, whatever is kept, any tear.
-/
import Derived.Test.YtklklcohbfnpjaaDiskG
import Derived.Test.YtklklcohbfnpjaaDiskL
set_option linter.unusedVariables false
set_option maxRecDepth 4000
namespace Go.Proofs.Ytklklcohbfnpjaa
open Go.RowKit Go.Shelf DiskP

theorem bools_but {w w' : World} {n0 len : Nat} {a : Option Addr} {ks : List Bool} (h : BoolsAt w a len ks) (hb : But n0 [] w w') (hn : w.heap.size ≤ n0) : BoolsAt w' a len ks :=
  ⟨h.1, h.2.imp id (fun ⟨b, off, e, hlt, hc⟩ => ⟨b, off, e, by have := hb.size; omega, fun i hi => (hb.cell (by omega) (by simp)).trans (hc i hi)⟩)⟩
theorem bools_below {w w' : World} {len : Nat} {a : Option Addr} {ks : List Bool} (h : BoolsAt w a len ks) (hb : Below w.heap.size w w') : BoolsAt w' a len ks :=
  ⟨h.1, h.2.imp id (fun ⟨b, off, e, hlt, hc⟩ => ⟨b, off, e, by have := hb.size; omega, fun i hi => (hb.cell (p := ⟨b, off + i, none⟩) hlt).trans (hc i hi)⟩)⟩
theorem dk_renew {w w' : World} {b g cap : Nat} {st : St} {z : Int} {wv : Value} (h : DkAt w b st z g cap wv)
    (hb : w'.heap[b]? = some (.cells #[.int .i64 (st.ops : Int), .int .i64 0, .bool false, .slice (some ⟨g, 0, none⟩) st.S.length cap, wv] 72 (0, 0))) (hg : w.grownBy w' (some b)) : DkAt w' b { st with left := 0, dead := false } 0 g cap wv :=
  ⟨hb, ⟨rfl, by decide, by decide⟩, owns_heap h.sec (fun j e => hg.block j (owns_lt h.sec e) (fun e2 => h.bg (by cases e2; simpa [Value.ownBlock] using e.symm))),
    owns_heap h.wts (fun j e => hg.block j (owns_lt h.wts e) (fun e2 => h.bw e (by cases e2; rfl)))⟩
theorem Upd.fresh {L L' : List Nat} {w a c : World} {B : Nat} (h : Upd L w a L') (hg : a.grownBy c (some B)) (hB : w.heap.size ≤ B) : Upd L w c L' :=
  ⟨hg.os.trans h.os, hg.tape.trans h.tape, hg.output.trans h.output, Nat.le_trans h.size hg.size, fun k hk hn => (hg.block k (by have := h.size; omega) (fun e => by cases e; omega)).trans (h.block k hk hn), h.sub⟩
theorem drop_one {V : List Wr} {j x : Nat} {y : ByteArray} (hj : j < V.length) (hx : V[j].1 = x) (hy : V[j].2 = y) : V.drop j = (x, y) :: V.drop (j + 1) := by
  rw [List.drop_eq_getElem_cons hj]; subst hx hy; rfl
end Go.Proofs.Ytklklcohbfnpjaa
