import Derived.Test.YtnnakhdndmjmiaaGreatPuDiskX
import Derived.Test.YtnnakhdndmjmiaaGreatRows
import Derived.OpenShut
import Derived.Deep.Slices
import Derived.ChangeOld
set_option linter.unusedVariables false
set_option maxRecDepth 4000
namespace Go.Proofs.YtnnakhdndmjmiaaGreat.Disk
open Go.RowKit DiskP
theorem add_at (g j i : Nat) : (⟨g,j,none⟩ : Addr).add i = ⟨g,j + i,none⟩:=by unfold Addr.add;split <;> simp_all
theorem field_int {H : Type} {enc : TypeId × Value → H} {w : World} {base : Nat} {spare : Nat → Bool} {held : Bool} {n j : Nat} {ti : TypeId} {k : IntKind} {cs : List Value} {y : Option (DataW H × List MemPlace)}
  (hti : Tryz.prog.underlying ti = some (.int k)) (hj : j < cs.length) (hy : y.isSome = true) (h : DataW.trod enc Tryz.prog w base spare held n ti ((cs.drop j).take 1) = y) : ∃ q : Int,cs[j]? = some (.int k q) ∧ (Lit.int k q).wf = true:=by
 obtain ⟨x,rfl⟩:=Option.isSome_iff_exists.1 hy
 obtain ⟨q,hq,_,hw⟩:=DataW.trod_int hti h
 refine ⟨q,?_,hw⟩
 rw [List.drop_eq_getElem_cons hj,List.take_succ_cons,List.take_zero] at hq
 rw [List.getElem?_eq_getElem hj,(List.cons.inj hq).1]
theorem cells_int : Tryz.prog.cellsOf 3 = 1:=by kernel_rfl
theorem cells_bool : Tryz.prog.cellsOf 4 = 1:=by kernel_rfl
theorem cells_bools : Tryz.prog.cellsOf 39 = 1:=by kernel_rfl
structure IsBools (w : World) (a : Option Addr) (len : Nat) : Prop where
 lo : len ≤ 9223372036854775807
 at_ : ∃ ks,BoolsAt w a len ks
 new : 0 < len → ∀ y,a = some y → y.block < w.heap.size
def boolOf : Value → Bool
 | .bool b=>b
 | _=>false
theorem isBools_of {H : Type} {enc : TypeId × Value → H} {w : World} {base : Nat} {spare : Nat → Bool} {held : Bool} {fuel : Nat} {cs : List Value} {x : DataW H × List MemPlace} {a : Option Addr} {len cap : Nat}
  (h : DataW.trod enc Tryz.prog w base spare held fuel 39 cs = some x) (hcs : cs = [.slice a len cap]) : IsBools w a len:=by
 rcases Go.Deep.open_slice1 Tryz.underlying39 cells_bool h with ⟨h0,_⟩ | ⟨a1,len1,cap1,m,n,V,D,Pl,h1,_,hl,hm,hmm,_,hi⟩
 ·rw [hcs] at h0
  simp only [List.cons.injEq,Value.slice.injEq,and_true] at h0
  obtain ⟨rfl,rfl,rfl⟩:=h0
  exact ⟨by omega,⟨[],rfl,.inl rfl⟩,fun h=>absurd h (Nat.lt_irrefl _)⟩
 ·rw [hcs] at h1
  simp only [List.cons.injEq,Value.slice.injEq,and_true] at h1
  obtain ⟨rfl,rfl,rfl⟩:=h1
  unfold maxLen at hm
  have hlm : len ≤ m:=by rw [hmm];split <;> omega
  have each : ∀ i,i < len → w.cell? (a1.add i) = some (.bool (boolOf (V i))):=fun i hlt=>by
   obtain ⟨hc,ht⟩:=hi i (by omega)
   obtain ⟨b,hb,_⟩:=DataW.trod_bool Tryz.underlying4 ht
   rw [(List.cons.inj hb).1] at hc ⊢
   exact hc
  by_cases h0 : len = 0
  ·subst h0
   exact ⟨by omega,⟨[],rfl,.inl rfl⟩,fun h=>absurd h (Nat.lt_irrefl _)⟩
  ·obtain ⟨b,off,spot⟩:=a1
   have h00:=each 0 (by omega)
   have hspot : spot = none:=by simpa [Addr.add] using World.cell?_spot h00
   subst hspot
   have hlt:=World.block_lt_of_cell? w _ h00
   rw [add_at] at hlt
   refine ⟨by omega,⟨(List.range len).map fun i=>boolOf (V i),by simp,.inr ⟨b,off,rfl,hlt,fun i hi2=>?_⟩⟩,fun _ y hy=>by cases hy;exact hlt⟩
   have:=each i hi2
   rw [add_at] at this
   rw [this]
   simp [keeps,List.getD,hi2]
def IsAct (w : World) (a : Option Addr) (len cap : Nat) : Prop := ∃ f,ActsAt w a len f
end Go.Proofs.YtnnakhdndmjmiaaGreat.Disk
