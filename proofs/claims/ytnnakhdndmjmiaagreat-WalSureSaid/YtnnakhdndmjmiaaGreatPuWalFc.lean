import Derived.Test.YtnnakhdndmjmiaaGreatPuWalW
import Derived.Test.YtnnakhdndmjmiaaGreatPuWalAg
import Derived.Test.YtnnakhdndmjmiaaGreatRows
import Derived.OpenShut
import Derived.Deep.Slices
import Derived.ChangeOld
import Derived.SliceStrings
set_option linter.unusedVariables false
namespace Go.Proofs.YtnnakhdndmjmiaaGreat
open Go.RowKit DiskP Go.ChangeShapes Go.WideShapes Go.ChangeAt
open Disk (add_at field_int cells_int cells_bools isBools_of IsBools BoolsAt)
theorem cells_wact : Tryz.prog.cellsOf 41 = 6:=by kernel_rfl
theorem cells_strs : Tryz.prog.cellsOf 22 = 1:=by kernel_rfl
theorem cells_str : Tryz.prog.cellsOf 9 = 1:=by kernel_rfl
theorem field_strs {H : Type} {enc : TypeId × Value → H} {w : World} {base : Nat} {spare : Nat → Bool} {held : Bool} {fuel : Nat} {v : Value} {x : DataW H × List MemPlace} (h : DataW.trod enc Tryz.prog w base spare held fuel 22 [v] = some x) :
  ∃ a len cap ss,v = .slice a len cap ∧ StrsAt w a len ss ∧ (∀ t ∈ ss,t.size ≤ 9223372036854775807) ∧ (a = none → cap = 0):=by
 rcases Go.ChangeShapes.open_strings Tryz.underlying22 Tryz.underlying9 cells_str h with ⟨hcs,_⟩ | ⟨a,len,cap,ss,hcs,_,hl,hm,hz,_,hcell,hws⟩
 ·obtain ⟨rfl,_⟩:=List.cons.inj hcs
  exact ⟨none,0,0,[],rfl,⟨rfl,by omega,.inl rfl⟩,(fun t ht=>by cases ht),fun _=>rfl⟩
 ·obtain ⟨rfl,_⟩:=List.cons.inj hcs
  unfold maxLen at hm hws
  have hlm : len ≤ ss.length:=by rw [hz];split <;> omega
  refine ⟨some a,len,cap,ss.take len,rfl,⟨by rw [List.length_take];omega,by omega,?_⟩,fun t ht=>by have:=hws t (List.mem_of_mem_take ht);omega,fun e=>by cases e⟩
  by_cases h0 : len = 0
  ·exact .inl h0
  right
  obtain ⟨b,off,spot⟩:=a
  have h00:=hcell 0 (by omega)
  have hspot : spot = none:=by simpa [Addr.add] using World.cell?_spot h00
  subst hspot
  have hlt:=World.block_lt_of_cell? w _ h00
  rw [add_at] at hlt
  exact ⟨b,off,rfl,hlt,fun i hi=>by
   have h9:=hcell i (by omega)
   rw [add_at] at h9
   rw [h9]
   simp [List.getD,hi]⟩
def IsAct (w : World) (a : Option Addr) (len cap : Nat) : Prop := ∃ f,Wal.WActsAt w a len f
theorem isAct_of {H : Type} {enc : TypeId × Value → H} {w : World} {base : Nat} {spare : Nat → Bool} {held : Bool} {fuel : Nat} {cs : List Value} {x : DataW H × List MemPlace} {a : Option Addr} {len cap : Nat}
  (h : DataW.trod enc Tryz.prog w base spare held fuel 23 cs = some x) (hcs : cs = [.slice a len cap]) : IsAct w a len cap:=by
 have none_ : ∀ a,IsAct w a 0 cap:=fun a=>⟨fun _=>⟨0,0,none,0,0,[],⟨#[]⟩,none,0,0,[],0⟩,Nat.zero_le _,.inl rfl⟩
 rcases Go.Deep.open_slice Tryz.underlying23 h with ⟨h0,_⟩ | ⟨a1,len1,cap1,m,n,D,Pl,h1,_,hl,hm,hmm,_,hi⟩
 ·rw [hcs] at h0
  simp only [List.cons.injEq,Value.slice.injEq,and_true] at h0
  obtain ⟨rfl,rfl,rfl⟩:=h0
  exact none_ none
 ·rw [hcs] at h1
  simp only [List.cons.injEq,Value.slice.injEq,and_true] at h1
  obtain ⟨rfl,rfl,rfl⟩:=h1
  unfold maxLen at hm
  by_cases h0 : len = 0
  ·subst h0;exact none_ _
  have hlm : len ≤ m:=by rw [hmm];split <;> omega
  have each : ∀ i,i < len → ∃ y : Wal.WAct,w.cell? ((a1.add (i * 6)).add 0) = some (.int .i64 y.kind) ∧ w.cell? ((a1.add (i * 6)).add 1) = some (.int .i64 y.n) ∧ w.cell? ((a1.add (i * 6)).add 2) = some (.slice y.ra y.rn y.rc) ∧ w.cell? ((a1.add (i * 6)).add 3) = some (.string y.tx) ∧ w.cell? ((a1.add (i * 6)).add 4) = some (.slice y.ka y.kn y.kc) ∧ w.cell? ((a1.add (i * 6)).add 5) = some (.int .i64 y.tear) ∧
    (Lit.int .i64 y.n).wf = true ∧ (Lit.int .i64 y.tear).wf = true ∧ StrsAt w y.ra y.rn y.rs ∧ (∀ t ∈ y.rs,t.size ≤ 9223372036854775807) ∧ (y.ra = none → y.rc = 0) ∧ y.kn ≤ 9223372036854775807 ∧ BoolsAt w y.ka y.kn y.kb ∧ (0 < y.kn → ∀ z,y.ka = some z → z.block < w.heap.size) ∧ y.tx.size ≤ 9223372036854775807:=by
   intro i hlt
   obtain ⟨cs',hc,ht⟩:=hi i (by omega)
   rw [cells_wact] at hc
   obtain ⟨_,hcl,hat⟩:=World.cells?_some hc
   obtain ⟨ys,n',_,_,_,hyl,hf⟩:=DataW.trod_struct Tryz.underlying41 ht
   have hys : ys.length = 6:=hyl
   have g0 : DataW.trod enc Tryz.prog w base spare held n' 3 ((cs'.drop 0).take 1) = ys[0]?:=by
    have h:=hf 0 _ rfl
    change DataW.trod enc Tryz.prog w base spare held n' 3 ((cs'.drop 0).take (Tryz.prog.cellsOf 3)) = ys[0]? at h
    rw [cells_int] at h;exact h
   have g1 : DataW.trod enc Tryz.prog w base spare held n' 3 ((cs'.drop 1).take 1) = ys[1]?:=by
    have h:=hf 1 _ rfl
    change DataW.trod enc Tryz.prog w base spare held n' 3 ((cs'.drop 1).take (Tryz.prog.cellsOf 3)) = ys[1]? at h
    rw [cells_int] at h;exact h
   have g2 : DataW.trod enc Tryz.prog w base spare held n' 22 ((cs'.drop 2).take 1) = ys[2]?:=by
    have h:=hf 2 _ rfl
    change DataW.trod enc Tryz.prog w base spare held n' 22 ((cs'.drop 2).take (Tryz.prog.cellsOf 22)) = ys[2]? at h
    rw [cells_strs] at h;exact h
   have g3 : DataW.trod enc Tryz.prog w base spare held n' 9 ((cs'.drop 3).take 1) = ys[3]?:=by
    have h:=hf 3 _ rfl
    change DataW.trod enc Tryz.prog w base spare held n' 9 ((cs'.drop 3).take (Tryz.prog.cellsOf 9)) = ys[3]? at h
    rw [cells_str] at h;exact h
   have g4 : DataW.trod enc Tryz.prog w base spare held n' 39 ((cs'.drop 4).take 1) = ys[4]?:=by
    have h:=hf 4 _ rfl
    change DataW.trod enc Tryz.prog w base spare held n' 39 ((cs'.drop 4).take (Tryz.prog.cellsOf 39)) = ys[4]? at h
    rw [cells_bools] at h;exact h
   have g5 : DataW.trod enc Tryz.prog w base spare held n' 3 ((cs'.drop 5).take 1) = ys[5]?:=by
    have h:=hf 5 _ rfl
    change DataW.trod enc Tryz.prog w base spare held n' 3 ((cs'.drop 5).take (Tryz.prog.cellsOf 3)) = ys[5]? at h
    rw [cells_int] at h;exact h
   obtain ⟨k0,v0,_⟩:=field_int Tryz.underlying3 (show 0 < cs'.length by omega) (show (ys[0]?).isSome = true by simp [hys]) g0
   obtain ⟨k1,v1,w1⟩:=field_int Tryz.underlying3 (show 1 < cs'.length by omega) (show (ys[1]?).isSome = true by simp [hys]) g1
   obtain ⟨k5,v5,w5⟩:=field_int Tryz.underlying3 (show 5 < cs'.length by omega) (show (ys[5]?).isSome = true by simp [hys]) g5
   have one : ∀ (j : Nat) (hj : j < cs'.length),(cs'.drop j).take 1 = [cs'[j]]:=fun j hj=>by rw [List.drop_eq_getElem_cons hj,List.take_succ_cons,List.take_zero]
   have l2 : 2 < cs'.length:=by omega
   have l3 : 3 < cs'.length:=by omega
   have l4 : 4 < cs'.length:=by omega
   rw [one 2 l2] at g2
   rw [one 3 l3] at g3
   rw [one 4 l4] at g4
   obtain ⟨y2,hy2⟩ : ∃ y2,ys[2]? = some y2:=⟨_,List.getElem?_eq_getElem (by omega)⟩
   obtain ⟨y3,hy3⟩ : ∃ y3,ys[3]? = some y3:=⟨_,List.getElem?_eq_getElem (by omega)⟩
   obtain ⟨y4,hy4⟩ : ∃ y4,ys[4]? = some y4:=⟨_,List.getElem?_eq_getElem (by omega)⟩
   rw [hy2] at g2
   rw [hy3] at g3
   rw [hy4] at g4
   obtain ⟨ra,rn,rc,rs,e2,s1,s2,s3⟩:=field_strs g2
   obtain ⟨tx,e3,_,hts⟩:=DataW.trod_string Tryz.underlying9 g3
   have hv4 : ∃ ka kl kc,cs'[4] = .slice ka kl kc:=by
    rcases Go.Deep.open_slice Tryz.underlying39 g4 with ⟨h5,_⟩ | ⟨a5,l5,c5,_,_,_,_,h5,_⟩
    ·exact ⟨none,0,0,(List.cons.inj h5).1⟩
    ·exact ⟨some a5,l5,c5,(List.cons.inj h5).1⟩
   obtain ⟨ka,kl,kc,e4⟩:=hv4
   obtain ⟨b1,⟨ks,b2⟩,b3⟩:=isBools_of g4 (by rw [e4])
   unfold maxLen at hts
   exact ⟨⟨k0,k1,ra,rn,rc,rs,tx,ka,kl,kc,ks,k5⟩,(hat 0 (by omega)).trans v0,(hat 1 (by omega)).trans v1,(hat 2 (by omega)).trans (by rw [List.getElem?_eq_getElem l2,e2]),(hat 3 (by omega)).trans (by rw [List.getElem?_eq_getElem l3,(List.cons.inj e3).1]),(hat 4 (by omega)).trans (by rw [List.getElem?_eq_getElem l4,e4]),(hat 5 (by omega)).trans v5,w1,w5,s1,s2,s3,b1,b2,b3,by omega⟩
  obtain ⟨b,off,spot⟩:=a1
  obtain ⟨_,h00,_⟩:=each 0 (by omega)
  have hspot : spot = none:=by simpa [Addr.add] using World.cell?_spot h00
  subst hspot
  have hlt:=World.block_lt_of_cell? w _ h00
  rw [add_at,add_at] at hlt
  have all : ∀ i,∃ y : Wal.WAct,i < len → Wal.WActAt w b (off + i * 6) y:=fun i=>by
   by_cases hi2 : i < len
   ·obtain ⟨y,c0,c1,c2,c3,c4,c5,hw,hw5,s1,s2,s3,p1,p2,p3,p4⟩:=each i hi2
    rw [add_at,add_at] at c0 c1 c2 c3 c4 c5
    have hb:=bounds_i64 hw
    have hb5:=bounds_i64 hw5
    exact ⟨y,fun _=>⟨c0,c1,c2,c3,c4,c5,hb.1,hb.2,hb5.1,hb5.2,s1,s2,s3,p2,p1,p3,p4⟩⟩
   ·exact ⟨⟨0,0,none,0,0,[],⟨#[]⟩,none,0,0,[],0⟩,fun h=>absurd h hi2⟩
  obtain ⟨f,hf⟩:=Classical.axiomOfChoice all
  exact ⟨f,by omega,.inr ⟨b,off,rfl,hlt,hf⟩⟩
namespace Contract
end Contract
end Go.Proofs.YtnnakhdndmjmiaaGreat
/-
 The contract of WalSure in the frame's form: it returns true;what was there stays as it was;nothing is asked.
-/
set_option linter.unusedVariables false
namespace Go.Proofs.YtnnakhdndmjmiaaGreat
open Go.RowKit DiskP
namespace Contract
theorem walSure (a0 : Option Addr) (len0 cap0 : Nat) (W : World) (w0 : IsAct W a0 len0 cap0) :
  Calls Tryz.prog 4 #[.slice a0 len0 cap0] W fun e w'=>e = .returned (.bool true) ∧ Below W.heap.size W w':=by
 obtain ⟨f,hA⟩:=w0
 exact Wal.walSure_walk a0 len0 cap0 f W hA
end Contract
end Go.Proofs.YtnnakhdndmjmiaaGreat
