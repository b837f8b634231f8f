import Derived.Test.YtnnakhdndmjmiaaGreatPuDiskE
import Derived.Test.YtnnakhdndmjmiaaGreatPuMix
import Derived.StillTactics
set_option linter.unusedVariables false
set_option maxRecDepth 4000
namespace Go.Proofs.YtnnakhdndmjmiaaGreat.Disk
open Go.RowKit DiskP
theorem RkAt.drew {w : World} {b g cap : Nat} {st : St} {wv : Value} (h : RkAt w b st g cap wv) : RkAt w.drew b st g cap wv:=⟨h.blk,h.sec,h.wts⟩
end Go.Proofs.YtnnakhdndmjmiaaGreat.Disk
/-
 The contract of the document's Crash: any disk,whatever is kept,any tear.
-/
set_option linter.unusedVariables false
set_option maxRecDepth 4000
namespace Go.Proofs.YtnnakhdndmjmiaaGreat.Disk
open Go.RowKit DiskP
def BoolsAt (w : World) (a : Option Addr) (len : Nat) (ks : List Bool) : Prop :=
 ks.length = len ∧ (len = 0 ∨ ∃ b off,a = some ⟨b,off,none⟩ ∧ b < w.heap.size ∧ ∀ i,i < len → w.cell? ⟨b,off + i,none⟩ = some (.bool (keeps ks i)))
theorem BoolsAt.keep {w w' : World} {a : Option Addr} {len : Nat} {ks : List Bool} {L : List Nat} (h : BoolsAt w a len ks) (hf : 0 < len → ∀ x,a = some x → x.block ∉ L) (hu : ∀ k,k < w.heap.size → k ∉ L → w'.heap[k]? = w.heap[k]?) (hs : w.heap.size ≤ w'.heap.size) : BoolsAt w' a len ks:=by
 refine ⟨h.1,?_⟩
 rcases Nat.eq_zero_or_pos len with h0 | h0
 ·exact .inl h0
 rcases h.2 with h1 | ⟨b,off,rfl,hb,hc⟩
 ·exact .inl h1
 ·exact .inr ⟨b,off,rfl,by omega,fun i hi=>(World.cell?_of_block (a:=⟨b,off + i,none⟩) (hu b hb (hf h0 _ rfl))).trans (hc i hi)⟩
theorem set_shape {S : List ByteArray} {n k : Nat} {y : ByteArray} (h : S.length = n ∧ ∀ s ∈ S,s.size = 128) (hy : y.size = 128) : (S.set k y).length = n ∧ ∀ s ∈ S.set k y,s.size = 128 :=
 ⟨by rw [List.length_set];exact h.1,fun s hs=>by
  rcases mem_set hs with hs | rfl
  ·exact h.2 s hs
  ·exact hy⟩
end Go.Proofs.YtnnakhdndmjmiaaGreat.Disk
