import Derived.Test.YtnnakhdndmjmiaaGreatPuDiskN
import Derived.Lib.QuietBelow
set_option linter.unusedVariables false
set_option maxRecDepth 4000
namespace Go.Proofs.YtnnakhdndmjmiaaGreat.Disk
open Go.RowKit DiskP
def Both (w0 w : World) (d x : Nat) (st sr : St) : Prop := ∃ L M,Dk w L d st ∧ Rk w M x sr ∧ (∀ k ∈ L,w0.heap.size ≤ k ∧ k ∉ M) ∧ (∀ k ∈ M,w0.heap.size ≤ k) ∧ Below w0.heap.size w0 w
theorem Both.bel {w0 w : World} {d x : Nat} {st sr : St} (h : Both w0 w d x st sr) : Below w0.heap.size w0 w:=by obtain ⟨L,M,_,_,_,_,hB⟩:=h;exact hB
theorem Both.below {w0 w w' : World} {d x : Nat} {st sr : St} (h : Both w0 w d x st sr) (hb : Below w.heap.size w w') : Both w0 w' d x st sr:=by
 obtain ⟨L,M,hD,hR,hL,hM,hB⟩:=h
 exact ⟨L,M,dk_below hD hb,rk_below hR hb,hL,hM,hB.trans (hb.mono hB.size)⟩
theorem Both.drew {w0 w : World} {d x : Nat} {st sr : St} (h : Both w0 w d x st sr) : Both w0 w.drew d x st sr:=by
 obtain ⟨L,M,hD,hR,hL,hM,hB⟩:=h
 exact ⟨L,M,hD.keep fun _ _=>rfl,hR.keep fun _ _=>rfl,hL,hM,hB.drew⟩
theorem ActAt.below {w w' : World} {b off : Nat} {x : AVal} (h : ActAt w b off x) (hb : Below w.heap.size w w') : ActAt w' b off x:=by
 have hlt:=World.block_lt_of_cell? w _ h.c0
 exact ⟨(hb.cell (p:=⟨b,off,none⟩) hlt).trans h.c0,(hb.cell (p:=⟨b,off + 1,none⟩) hlt).trans h.c1,(hb.cell (p:=⟨b,off + 2,none⟩) hlt).trans h.c2,(hb.cell (p:=⟨b,off + 3,none⟩) hlt).trans h.c3,(hb.cell (p:=⟨b,off + 4,none⟩) hlt).trans h.c4,
  h.lo,h.hi,h.kl,bools_below h.kb hb,fun h0 y hy=>Nat.lt_of_lt_of_le (h.kn h0 y hy) hb.size⟩
theorem ActAt.fit {w : World} {b off : Nat} {x : AVal} (h : ActAt w b off x) (hk : x.kl ≤ 100) : x.Fit:=⟨h.lo,h.hi,by omega⟩
end Go.Proofs.YtnnakhdndmjmiaaGreat.Disk
