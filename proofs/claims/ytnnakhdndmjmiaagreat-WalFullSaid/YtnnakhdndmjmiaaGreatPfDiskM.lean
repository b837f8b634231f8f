/-
  The contract of Crash: any disk, whatever is kept, any tear.
-/
import Derived.Test.YtnnakhdndmjmiaaGreatPfDiskF
import Derived.Test.YtnnakhdndmjmiaaGreatPfDiskK
set_option linter.unusedVariables false
set_option maxRecDepth 4000
namespace Go.Proofs.YtnnakhdndmjmiaaGreat.Disk
open Go.RowKit Go.Shelf DiskP

theorem bools_below {w w' : World} {len : Nat} {a : Option Addr} {ks : List Bool} (h : BoolsAt w a len ks) (hb : Below w.heap.size w w') : BoolsAt w' a len ks :=
  ⟨h.1, h.2.imp id (fun ⟨b, off, e, hlt, hc⟩ => ⟨b, off, e, by have := hb.size; omega, fun i hi => (hb.cell (p := ⟨b, off + i, none⟩) hlt).trans (hc i hi)⟩)⟩
theorem Upd.fresh {L L' : List Nat} {w a c : World} {B : Nat} (h : Upd L w a L') (hg : a.grownBy c (some B)) (hB : w.heap.size ≤ B) : Upd L w c L' :=
  ⟨hg.os.trans h.os, hg.tape.trans h.tape, hg.output.trans h.output, Nat.le_trans h.size hg.size, fun k hk hn => (hg.block k (by have := h.size; omega) (fun e => by cases e; omega)).trans (h.block k hk hn), h.sub⟩
end Go.Proofs.YtnnakhdndmjmiaaGreat.Disk
