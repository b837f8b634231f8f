import Derived.Test.YtnnakhdndmjmiaaGreatPuDiskC
import Derived.Lib.Hide
import Derived.RangeFuncNested
import Derived.RangeFuncBound
import Derived.RangeFuncCalls
import Derived.RangeFuncLeaves
import Derived.Shelf.Abstract
import Derived.Shelf.RegionOpen
import Derived.OwnWalkIn
import Derived.TacticsInMore
import Derived.LoopNIn
import Derived.LoopIn
import Derived.RangeFuncBox
set_option linter.unusedVariables false
set_option maxRecDepth 4000
namespace Go.Proofs.YtnnakhdndmjmiaaGreat.Disk
open Go.RowKit Go.Shelf DiskP
attribute [local go_sem] Oper.semAt_some
structure But (n0 : Nat) (gs : List Nat) (w w' : World) : Prop where
 os : w'.os = w.os
 tape : w'.tape = w.tape
 output : w'.output = w.output
 size : w.heap.size ≤ w'.heap.size
 block : ∀ k,k < n0 → k ∉ gs → w'.heap[k]? = w.heap[k]?
theorem But.refl (n0 : Nat) (gs : List Nat) (w : World) : But n0 gs w w:=⟨rfl,rfl,rfl,Nat.le_refl _,fun _ _ _=>rfl⟩
theorem But.trans {n0 : Nat} {gs : List Nat} {a b c : World} (h : But n0 gs a b) (k : But n0 gs b c) : But n0 gs a c :=
 ⟨k.os.trans h.os,k.tape.trans h.tape,k.output.trans h.output,Nat.le_trans h.size k.size,fun i hi hn=>(k.block i hi hn).trans (h.block i hi hn)⟩
theorem But.of_below {n0 : Nat} {gs : List Nat} {w w' : World} (h : Below n0 w w') : But n0 gs w w':=⟨h.os,h.tape,h.output,h.size,fun k hk _=>h.block k hk⟩
theorem But.of_grown {n0 : Nat} {gs : List Nat} {w w' : World} {row : Option Nat} (h : w.grownBy w' row) (hn : n0 ≤ w.heap.size) (hr : ∀ k,row = some k → n0 ≤ k ∨ k ∈ gs) : But n0 gs w w' :=
 ⟨h.os,h.tape,h.output,h.size,fun k hk hg=>h.block k (by omega) (fun e=>(hr k e.symm).elim (by omega) hg)⟩
theorem But.cell {n0 : Nat} {gs : List Nat} {w w' : World} (h : But n0 gs w w') {b o : Nat} (hb : b < n0) (hg : b ∉ gs) : w'.cell? ⟨b,o,none⟩ = w.cell? ⟨b,o,none⟩:=World.cell?_of_block (a:=⟨b,o,none⟩) (h.block b hb hg)
theorem but_b {n0 : Nat} {gs : List Nat} {w : World} (hn : n0 ≤ w.heap.size) (W : World) (l : Nat) (o o' : Obj) (hl : w.heap.size ≤ l) (h : W.heap[l]? = some o) (_ : o.isCells = false) (_ : o.isWalk = false) : But n0 gs W (W.putObj l o') :=
 But.of_grown (grownBy_putObj' W l o') (by have:=(Array.getElem?_eq_some_iff.1 h).1;omega) (fun k e=>by cases e;left;omega)
def selT (q : Nat → Bool) (W : List Wr) : Nat → List Wr
 | 0=>[]
 | k + 1=>selT q W k ++ (if q k then [W.getD k (0,ByteArray.empty)] else [])
theorem selT_length (q : Nat → Bool) (W : List Wr) : ∀ k,(selT q W k).length ≤ k
 | 0=>Nat.le_refl _
 | k + 1=>by
  have h:=selT_length q W k
  show (selT q W k ++ (if q k then [W.getD k (0,ByteArray.empty)] else [])).length ≤ _
  rw [List.length_append]
  cases q k
  ·rw [if_neg (by decide)];simp;omega
  ·rw [if_pos rfl];simp;omega
theorem selT_yes {q : Nat → Bool} {W : List Wr} {k : Nat} (hk : k < W.length) (hq : q k = true) : selT q W (k + 1) = selT q W k ++ [W[k]]:=by
 show selT q W k ++ (if q k then [W.getD k (0,ByteArray.empty)] else []) = _
 rw [if_pos hq];simp [List.getD,hk]
theorem selT_no {q : Nat → Bool} {W : List Wr} {k : Nat} (hq : q k = false) : selT q W (k + 1) = selT q W k:=by
 show selT q W k ++ (if q k then [W.getD k (0,ByteArray.empty)] else []) = _
 rw [hq,if_neg (by decide),List.append_nil]
theorem selT_all (W : List Wr) : ∀ k,k ≤ W.length → selT (fun _=>true) W k = W.take k
 | 0,_=>by simp [selT]
 | k + 1,h=>by rw [selT_yes h rfl,selT_all W k (by omega),List.take_succ_eq_append_getElem h]
theorem selT_kept (W : List Wr) (ks : List Bool) : ∀ k,k ≤ W.length → selT (keeps ks) W k ++ kept (W.drop k) (ks.drop k) = kept W ks
 | 0,_=>by simp [selT]
 | k + 1,h=>by
  rw [← selT_kept W ks k (by omega),kept_drop h]
  cases hk : keeps ks k with
  | true=>rw [selT_yes h hk,if_pos rfl,List.append_assoc];rfl
  | false=>rw [selT_no hk,if_neg Bool.false_ne_true]
theorem selT_kept_all (W : List Wr) (ks : List Bool) : selT (keeps ks) W W.length = kept W ks:=by
 have h:=selT_kept W ks W.length (Nat.le_refl _)
 rw [List.drop_length,kept_nil,List.append_nil] at h
 exact h
abbrev wval (x : Wr) : Value:=.agg #[.int .i64 (x.1 : Int),.string x.2]
theorem wts_nil_or {w : World} {wv : Value} {W : List Wr} (h : w.ownsRow 0 107 2 wv W.length (wcells W)) : (wv = .slice none 0 0 ∧ W = []) ∨ ∃ q cap,wv = .slice (some ⟨q,0,none⟩) W.length cap:=by
 rcases h.2 with ⟨h1,h2⟩ | ⟨q,cap,cur,h1,_⟩
 ·exact .inl ⟨h1,List.eq_nil_of_length_eq_zero h2⟩
 ·exact .inr ⟨q,cap,h1⟩
theorem wts_at {w : World} {q cap k : Nat} {W : List Wr} (h : w.ownsRow 0 107 2 (.slice (some ⟨q,0,none⟩) W.length cap) W.length (wcells W)) (hk : k < W.length) :
  w.cell? ⟨q,k * 2,none⟩ = some (.int .i64 (W[k].1 : Int)) ∧ w.cell? ⟨q,k * 2 + 1,none⟩ = some (.string W[k].2):=by
 obtain ⟨h1,h2⟩:=wcells_get W k W[k] (List.getElem?_eq_getElem hk)
 exact ⟨owns_cell h rfl h1,owns_cell h rfl h2⟩
set_option maxRecDepth 100000 in
set_option maxHeartbeats 4000000 in
theorem pend1_in (gA : Nat) (lbA : Array Value) (q : Nat → Bool) (eA : ∀ args w,(callFunc gA args).run Tryz.prog w = .ok (.enter gA args) w)
  (l Bd Ba b n0 n : Nat) (gs : List Nat) (W : List Wr) (wv : Value) (hn : 2 ≤ n) (J Jx : List Wr → World → Prop) (w : World)
  (hA : ∀ (i : Nat) (W' : World),i < W.length → But n0 gs w W' → CallsIn Fence.wide (n - 1) Tryz.prog gA (#[.int .i64 (i : Int)] ++ lbA) W' fun e W''=>e = .returned (.bool (q i)) ∧ W' = W'')
  (hJ : AbidesFrom w.heap.size J)
  (hY : ∀ pre x W1,x ∈ W → J pre W1 → pre.length < W.length → YieldAt Fence.wide (n - 1) Tryz.prog l #[wval x] W1 fun e W' =>
   (e = .returned (.bool true) ∧ J (pre ++ [x]) W' ∧ But n0 gs W1 W') ∨ (e = .returned (.bool false) ∧ Jx (pre ++ [x]) W'))
  (hBd : w.cell? ⟨Bd,0,none⟩ = some (.pointer (some ⟨b,0,none⟩))) (hBa : w.cell? ⟨Ba,0,none⟩ = some (.func (.func gA) #[] lbA)) (hBan : Ba < n0 ∧ Ba ∉ gs)
  (hb4 : w.cell? ⟨b,4,none⟩ = some wv) (hw : w.ownsRow 0 107 2 wv W.length (wcells W)) (hwn : ∀ k,wv.ownBlock = some k → k < n0 ∧ k ∉ gs) (hlen : W.length ≤ 1000000000) (hn0 : n0 ≤ w.heap.size) (h0 : J [] w) :
  CallsIn Fence.wide n Tryz.prog 116 #[.func (.yield l) #[] #[],.pointer (some ⟨Bd,0,none⟩),.pointer (some ⟨Ba,0,none⟩)] w fun e W'=>(∃ v,e = .returned v) ∧ ((∃ xs,xs = selT q W W.length ∧ J xs W') ∨ (∃ pre,True ∧ Jx pre W')):=by
 have HA:=Lib.hid hA;have HJ:=Lib.hid hJ;have HY:=Lib.hid hY;have HBA:=Lib.hid hBa;have HW:=Lib.hid hw;have HWN:=Lib.hid hwn;have H0:=Lib.hid h0
 clear hA hJ hY hBa hw hwn h0
 rcases wts_nil_or HW.out with ⟨rfl,rfl⟩ | ⟨qb,qc,rfl⟩
 ·refine callsIn_of_wp Tryz.func116 rfl trivial ?_ rfl
  simp only [Tryz.ntmps116,List.size_toArray,List.length_cons,List.length_nil,Nat.reduceAdd,Nat.reduceSub,Array.replicate_succ,Array.replicate_zero,List.push_toArray,List.append_toArray,List.nil_append,List.cons_append]
  gi_wp2
  gi_loopw [11] (fun i wr=>i = .int .i64 0 ∧ wr = w) (fun _ _=>0)
  case atStart=>exact ⟨rfl,rfl⟩
  case round =>
   obtain ⟨rfl,rfl⟩:=hrel
   gi_wp2
   go_end0
   exact ⟨⟨_,rfl⟩,.inl ⟨_,rfl,H0.out⟩⟩
 ·refine callsIn_of_wp Tryz.func116 rfl trivial ?_ rfl
  simp only [Tryz.ntmps116,List.size_toArray,List.length_cons,List.length_nil,Nat.reduceAdd,Nat.reduceSub,Array.replicate_succ,Array.replicate_zero,List.push_toArray,List.append_toArray,List.nil_append,List.cons_append]
  gi_wp2
  gi_loopw [11] (fun i wr => ∃ k : Nat,k ≤ W.length ∧ i = .int .i64 (k : Int) ∧ Hid (J (selT q W k) wr) ∧ Hid (But n0 gs w wr)) (fun i _=>W.length - (intOf i).toNat)
  case atStart=>exact ⟨0,Nat.zero_le _,rfl,H0,But.refl _ _ _⟩
  case round =>
   obtain ⟨k,hk,rfl,hJs,hB⟩:=hrel
   by_cases hlt : k < W.length
   ·obtain ⟨d0,d1⟩:=wts_at HW.out hlt
    obtain ⟨hq1,hq2⟩:=HWN.out qb rfl
    rw [← hB.out.cell hq1 hq2] at d0 d1
    have hba : wr.cell? ⟨Ba,0,none⟩ = some (.func (.func gA) #[] lbA):=(hB.out.cell hBan.1 hBan.2).trans HBA.out
    have hsz : w.heap.size ≤ wr.heap.size:=hB.out.size
    have hsz2 : n0 ≤ wr.heap.size:=by omega
    have hba2 : ∀ o,(wr.alloc o).cell? ⟨Ba,0,none⟩ = some (.func (.func gA) #[] lbA):=fun o=>Lib.cell?_alloc_some _ hba
    clear hq1 hq2
    have HBW:=Lib.hid (hB.out.trans (But.of_below (gs:=gs) ((Below.refl n0 wr).alloc (by omega) (.cells #[.int .i64 (W[k].1 : Int),.string W[k].2] 107))))
    have HJ1:=Lib.hid (HJ.out _ wr (wr.alloc (.cells #[.int .i64 (W[k].1 : Int),.string W[k].2] 107)) none hJs.out (World.grownBy_alloc _ _ none) (fun r e=>by cases e))
    gi_wp2_with fail
    refine ⟨trivial,fun _=>by omega,?_⟩
    refine (HA.out k _ hlt HBW.out).mono ?_
    rintro e w2 ⟨rfl,hw⟩
    have hx0 : w2.cell? ⟨wr.heap.size,0,none⟩ = some (.int .i64 (W[k].1 : Int)):=by rw [← hw,World.cell?_alloc_new];rfl
    have hx1 : w2.cell? ⟨wr.heap.size,1,none⟩ = some (.string W[k].2):=by rw [← hw,World.cell?_alloc_new];rfl
    have HB2 : Hid (But n0 gs w w2):=by rw [← hw];exact HBW.out
    have HJ2 : Hid (J (selT q W k) w2):=by rw [← hw];exact HJ1.out
    have HSZ : Hid (wr.heap.size < w2.heap.size):=by rw [← hw];show _ < _;simp
    clear hw HBW HJ1 hba hba2 d0 d1 hJs hB
    cases hq : q k with
    | true =>
     have HSEL:=Lib.hid (selT_yes hlt hq)
     obtain ⟨x,hx⟩ : ∃ x,W[k] = x:=⟨_,rfl⟩
     have hxm : x ∈ W:=by rw [← hx];exact List.getElem_mem hlt
     rw [hx] at HSEL hx0 hx1
     obtain ⟨fn,tmps,assign,body,hy,hR⟩:=HY.out _ x w2 hxm HJ2.out (by have:=selT_length q W k;omega)
     have HR:=Lib.hid hR
     clear hq hx hR hxm
     dsimp only [wval] at hy
     gi_wp2_with fail
     refine ⟨fun _=>by omega,?_⟩
     refine HR.out.mono ?_
     rintro e w3 (⟨rfl,hJ3,hk3⟩ | ⟨rfl,hJx⟩)
     ·have HJ3:=Lib.hid hJ3;have HB3:=Lib.hid (HB2.out.trans hk3)
      clear hJ3 hk3 hx0 hx1 hy
      gi_wp2_with fail
      go_roundw
      case rel=>exact ⟨k + 1,by omega,by go_num,by show J _ _;rw [HSEL.out];exact HJ3.out,HB3⟩
      case measure=>simp [intOf];omega
     ·have HJX:=Lib.hid hJx
      clear hJx hx0 hx1 hy
      gi_wp2_with fail
      refine bodyPost_ret (results_none rfl _ _ _) rfl ?_
      exact ⟨⟨_,rfl⟩,.inr ⟨_,trivial,HJX.out⟩⟩
    | false =>
     have HSEL:=Lib.hid (selT_no (W:=W) hq)
     clear hq hx0 hx1
     gi_wp2_with fail
     refine ⟨fun _ h=>(by cases h),?_⟩
     gi_wp2_with fail
     go_roundw
     case rel=>exact ⟨k + 1,by omega,by go_num,by show J _ _;rw [HSEL.out];exact HJ2.out,HB2⟩
     case measure=>simp [intOf];omega
   ·obtain rfl : k = W.length:=by omega
    gi_wp2
    go_end0
    exact ⟨⟨_,rfl⟩,.inl ⟨_,rfl,hJs.out⟩⟩
theorem pend_stops (gA : Nat) (lbA : Array Value) (q : Nat → Bool) (eA : ∀ args w,(callFunc gA args).run Tryz.prog w = .ok (.enter gA args) w)
  (Bd Ba b n0 n : Nat) (gs : List Nat) (W : List Wr) (wv : Value) (hn : 2 ≤ n) (w : World)
  (hA : ∀ (i : Nat) (W' : World),i < W.length → But n0 gs w W' → CallsIn Fence.wide (n - 1) Tryz.prog gA (#[.int .i64 (i : Int)] ++ lbA) W' fun e W''=>e = .returned (.bool (q i)) ∧ W' = W'')
  (hBd : w.cell? ⟨Bd,0,none⟩ = some (.pointer (some ⟨b,0,none⟩))) (hBa : w.cell? ⟨Ba,0,none⟩ = some (.func (.func gA) #[] lbA)) (hBan : Ba < n0 ∧ Ba ∉ gs)
  (hb4 : w.cell? ⟨b,4,none⟩ = some wv) (hw : w.ownsRow 0 107 2 wv W.length (wcells W)) (hwn : ∀ k,wv.ownBlock = some k → k < n0 ∧ k ∉ gs) (hlen : W.length ≤ 1000000000) (hn0 : n0 ≤ w.heap.size) :
  SeqStopsK Fence.wide n Tryz.prog 116 #[.pointer (some ⟨Bd,0,none⟩),.pointer (some ⟨Ba,0,none⟩)] (fun x : Wr=>#[wval x]) (But n0 gs) (fun xs=>xs = selT q W W.length) (fun _=>True) W.length w:=by
 intro l J Jx W1 hW hJ _ hY h0
 have hBu : But n0 gs w W1:=But.of_below (hW.mono hn0)
 have old : ∀ {bb oo : Nat} {v : Value},w.cell? ⟨bb,oo,none⟩ = some v → W1.cell? ⟨bb,oo,none⟩ = some v:=fun h=>(hW.cell (p:=⟨_,_,none⟩) (World.block_lt_of_cell? w _ h)).trans h
 exact pend1_in gA lbA q eA l Bd Ba b n0 n gs W wv hn J Jx W1 (fun i W' hi hb=>hA i W' hi (hBu.trans hb)) hJ (fun pre x W1 _=>hY pre x W1) (old hBd) (old hBa) hBan (old hb4)
  (owns_heap hw (fun k e=>hW.block k (owns_lt hw e))) hwn hlen (Nat.le_trans hn0 hW.size) h0
theorem pend_stops_sub (gA : Nat) (lbA : Array Value) (q : Nat → Bool) (eA : ∀ args w,(callFunc gA args).run Tryz.prog w = .ok (.enter gA args) w)
  (Bd Ba b n0 n : Nat) (gs : List Nat) (W : List Wr) (wv : Value) (hn : 2 ≤ n) (w : World)
  (hA : ∀ (i : Nat) (W' : World),i < W.length → But n0 gs w W' → CallsIn Fence.wide (n - 1) Tryz.prog gA (#[.int .i64 (i : Int)] ++ lbA) W' fun e W''=>e = .returned (.bool (q i)) ∧ W' = W'')
  (hBd : w.cell? ⟨Bd,0,none⟩ = some (.pointer (some ⟨b,0,none⟩))) (hBa : w.cell? ⟨Ba,0,none⟩ = some (.func (.func gA) #[] lbA)) (hBan : Ba < n0 ∧ Ba ∉ gs)
  (hb4 : w.cell? ⟨b,4,none⟩ = some wv) (hw : w.ownsRow 0 107 2 wv W.length (wcells W)) (hwn : ∀ k,wv.ownBlock = some k → k < n0 ∧ k ∉ gs) (hlen : W.length ≤ 1000000000) (hn0 : n0 ≤ w.heap.size) :
  SeqStopsK Fence.wide n Tryz.prog 116 #[.pointer (some ⟨Bd,0,none⟩),.pointer (some ⟨Ba,0,none⟩)] (fun x : { x : Wr // x ∈ W }=>#[wval x.1]) (But n0 gs) (fun xs=>xs.map (·.1) = selT q W W.length) (fun _=>True) W.length w:=by
 intro l J Jx W1 hW hJ _ hY h0
 have hBu : But n0 gs w W1:=But.of_below (hW.mono hn0)
 have old : ∀ {bb oo : Nat} {v : Value},w.cell? ⟨bb,oo,none⟩ = some v → W1.cell? ⟨bb,oo,none⟩ = some v:=fun h=>(hW.cell (p:=⟨_,_,none⟩) (World.block_lt_of_cell? w _ h)).trans h
 refine (pend1_in gA lbA q eA l Bd Ba b n0 n gs W wv hn (fun pre X => ∃ p : List { x : Wr // x ∈ W },p.map (·.1) = pre ∧ J p X) (fun pre X => ∃ p : List { x : Wr // x ∈ W },p.map (·.1) = pre ∧ Jx p X) W1
  (fun i W' hi hb=>hA i W' hi (hBu.trans hb)) (fun pre X Y row hs hg hr=>by obtain ⟨p,hp,hj⟩:=hs;exact ⟨p,hp,hJ p X Y row hj hg hr⟩) ?_ (old hBd) (old hBa) hBan (old hb4)
  (owns_heap hw (fun k e=>hW.block k (owns_lt hw e))) hwn hlen (Nat.le_trans hn0 hW.size) ⟨[],rfl,h0⟩).mono ?_
 ·rintro pre x X hx ⟨p,rfl,hj⟩ hlt
  refine (hY p ⟨x,hx⟩ X hj (by simpa using hlt)).mono ?_
  rintro e X' (⟨he,hj2,hk⟩ | ⟨he,hj2⟩)
  ·exact .inl ⟨he,⟨_,by simp,hj2⟩,hk⟩
  ·exact .inr ⟨he,_,by simp,hj2⟩
 ·rintro e X ⟨he,⟨xs,hxs,p,hp,hj⟩ | ⟨pre,_,p,hp,hj⟩⟩
  ·exact ⟨he,.inl ⟨p,hp.trans hxs,hj⟩⟩
  ·exact ⟨he,.inr ⟨p,trivial,hj⟩⟩
theorem pending_any (b k : Nat) (lb : Array Value) (w : World) :
  Calls Tryz.prog 66 #[.pointer (some ⟨b,0,none⟩),.func (.func k) #[] lb] w fun e w'=>e = .returned (.func (.func 116) #[] #[.pointer (some ⟨w.heap.size,0,none⟩),.pointer (some ⟨w.heap.size + 1,0,none⟩)]) ∧
   w' = (w.alloc (.cells #[.pointer (some ⟨b,0,none⟩)] 26)).alloc (.cells #[.func (.func k) #[] lb] 75):=by
 go_enter Tryz.func66,Tryz.ntmps66
 go_wp2
 go_ret
 exact ⟨rfl,rfl⟩
end Go.Proofs.YtnnakhdndmjmiaaGreat.Disk
/-
 The contracts of slices.AppendSeq and slices.Collect at pending writes: whatever iterator hands them out.
-/
set_option linter.unusedVariables false
set_option maxRecDepth 4000
namespace Go.Proofs.YtnnakhdndmjmiaaGreat.Disk
open Go.RowKit Go.Shelf DiskP
attribute [local go_sem] Oper.semAt_some
def WBox (W : World) (B : Nat) (x : Wr) : Prop:=W.heap[B]? = some (.cells #[.int .i64 (x.1 : Int),.string x.2] 107 (0,0))
theorem WBox.c0 {W : World} {B : Nat} {x : Wr} (h : WBox W B x) : W.cell? ⟨B,0,none⟩ = some (.int .i64 (x.1 : Int)):=cell_of_heap h
theorem WBox.c1 {W : World} {B : Nat} {x : Wr} (h : WBox W B x) : W.cell? ⟨B,1,none⟩ = some (.string x.2):=cell_of_heap h
theorem wbox_own {β : Type} (B C : Nat) (f : β → Wr) : OwnFrom C (fun s W=>WBox W B (f s)):=fun s X Y row hs hg hr =>
 (hg.block B (heap_lt hs) (fun e=>by obtain ⟨_,o,ho,hc⟩:=hr B e.symm;rw [show X.heap[B]? = _ from hs] at ho;cases ho;cases hc)).trans hs
def Gathers (w : World) (V : List Wr) (e : Ending) (w' : World) : Prop := ∃ v,e = .returned v ∧ w'.ownsRow w.heap.size 107 2 v V.length (wcells V) ∧ Below w.heap.size w w'
set_option maxRecDepth 100000 in
set_option maxHeartbeats 4000000 in
theorem appendSeq_any (g : Nat) (lb : Array Value) (eg : ∀ args w,(callFunc g args).run Tryz.prog w = .ok (.enter g args) w) (V : List Wr) (N : Nat) (gs : List Nat) (w : World)
  (hseq : SeqStopsK Fence.wide 4 Tryz.prog g lb (fun x : Wr=>#[wval x]) (But w.heap.size gs) (fun xs=>xs = V) (fun _=>True) N w) (hN : N ≤ 1000000000) :
  Calls Tryz.prog 115 #[.slice none 0 0,.func (.func g) #[] lb] w (Gathers w V):=by
 refine (callsIn_wide (n:=5)).1 ?_
 obtain ⟨i0,hi,hz0,hz1,hz2⟩:=info_parts info_write
 have HI:=Lib.hid hi;have HZ0:=Lib.hid hz0;have HZ1:=Lib.hid hz1;have HZ2:=Lib.hid hz2
 have HSEQ:=Lib.hid hseq
 clear hi hz0 hz1 hz2 hseq
 refine callsIn_of_wp_marks Tryz.func115 rfl trivial ?_ rfl
 simp only [Tryz.ntmps115,List.size_toArray,List.length_cons,List.length_nil,Nat.reduceAdd,Nat.reduceSub,Array.replicate_succ,Array.replicate_zero,List.push_toArray,List.append_toArray,List.nil_append,List.cons_append]
 gi_wp2
 have bO:=Boxed.new w 44 (.slice none 0 0)
 have hB0 : Below w.heap.size w (w.alloc (.cells #[.slice none 0 0] 44)):=(Below.refl _ w).alloc (Nat.le_refl _) _
 refine wpIn_rangeFunc_ownH rfl (by omega) (gf:=g) (lb:=lb) rfl trivial eg HSEQ.out But.trans (but_b (by simp)) hB0 (fun _=>rfl)
  (fun pre W=>(∃ v,Boxed W w.heap.size 44 v ∧ W.ownsRow w.heap.size 107 2 v pre.length (wcells pre) ∧ True) ∧ Below w.heap.size w W)
  (fun _ _ _=>False)
  (OwnFrom.and (Own.from (holdsRow_own w.heap.size w.heap.size 44 107 2 (fun pre=>pre.length) (fun pre=>wcells pre) (fun pre v=>True)) _) (ownFrom_below (Nat.le_refl _) (by simp)))
  (fun _ _ _ _ _ hs _ _=>hs)
  ⟨⟨_,bO,World.ownsRow_nil _ _ _ _,trivial⟩,hB0⟩
  (fun x a' W => ∃ Bx,w.heap.size < Bx ∧ WBox W Bx x ∧ a' = { tmps:=#[.slice none 0 0,.func (.func g) #[] lb,.pointer (some ⟨w.heap.size,0,none⟩),undef,.slice none 0 0,.pointer (some ⟨Bx,0,none⟩),.func (.func g) #[] lb,wval x,undef,undef,undef,undef,undef],defers:=[] })
  ?hax ?assign ?body ?done ?stop
 case hax =>
  rintro x a' s X Y row ⟨Bx,h1,h2,h3⟩ hg hr
  exact ⟨Bx,h1,wbox_own Bx _ (fun _ : Unit=>x) () X Y row h2 hg hr,h3⟩
 case assign =>
  rintro l pre x W K ⟨⟨v,hv,hrow,_⟩,hB⟩ hK
  have hBW : Below w.heap.size W (W.alloc (.cells #[.int .i64 (x.1 : Int),.string x.2] 107)):=(Below.refl _ W).alloc hB.size _
  have hlt : w.heap.size < W.heap.size:=hv.lt
  gi_wp2
  exact hK _ _ ((KeepsOthers.alloc _ _).from _) (But.of_below hBW) ⟨⟨v,hv.alloc _,hrow.alloc _,trivial⟩,hB.trans hBW⟩ ⟨W.heap.size,hlt,World.alloc_heap_new W _,rfl⟩
 case body =>
  rintro l pre x a' W hl hr ⟨⟨v,hv,hrow,_⟩,hB⟩ ⟨Bx,hBx,hxb,rfl⟩ hlt
  have hc:=hv.cell
  have x0:=hxb.c0
  have x1:=hxb.c1
  gi_wp2_with (gi_at_builtin;refine wpListIn_append_own _ rfl (.tmp 8) (.tmp 10) 44 rfl w.heap.size 107 i0 _ 2 24 Tryz.underlying44 HI.out HZ0.out HZ1.out HZ2.out rfl (by decide) v pre.length (wcells pre) rfl (hrow.alloc _) ⟨W.heap.size,0,none⟩ 1 1 [.int .i64 (x.1 : Int),.string x.2] rfl rfl (cell_two_new _ _ _ _) (by simp [Value.oneCell']) (by unfold maxLen;omega) (by omega) (by have:=hB.size;simp;omega) ?_;intro v' w1 hown' hgrow _;obtain ⟨g',cap',rfl⟩:=ownsRow_succ hown';obtain ⟨hv1,hv2,hr2,hk2,hb2⟩:=hv.appended (by decide) hrow hB.size (Nat.le_refl _) hown' hgrow;have hc1:=hv1.cell;have hf1:=hv1.frozen)
  exact ⟨hk2.from _,But.of_below hb2,⟨⟨_,hv2,by rw [wcells_append,List.length_append];exact hr2,trivial⟩,hB.trans hb2⟩⟩
 case done =>
  rintro D ys W hD rfl ⟨⟨v,hv,hrow,_⟩,hB⟩ hK
  have hc:=hv.cell
  gi_wp2
  refine ⟨by simp,.inl ⟨_,_,rfl,run_takeDeferred hK,?_⟩⟩
  exact ⟨_,results_tmp rfl _ _ _,v,rfl,ownsRow_putObj hrow _ hK rfl,hB.trans (belowK_b (w:=w) (Nat.le_refl _) W D _ _ (by simp at hD;omega) hK rfl rfl)⟩
 case stop =>
  rintro D c pre W _ _ h _
  exact h.elim
theorem collect_any (g : Nat) (lb : Array Value) (eg : ∀ args w,(callFunc g args).run Tryz.prog w = .ok (.enter g args) w) (V : List Wr) (N : Nat) (gs : List Nat) (w : World)
  (hseq : SeqStopsK Fence.wide 4 Tryz.prog g lb (fun x : Wr=>#[wval x]) (But w.heap.size gs) (fun xs=>xs = V) (fun _=>True) N w) (hN : N ≤ 1000000000) :
  Calls Tryz.prog 65 #[.func (.func g) #[] lb] w (Gathers w V):=by
 have HA:=Lib.hid (appendSeq_any g lb eg V N gs w hseq hN)
 clear hseq
 go_enter Tryz.func65,Tryz.ntmps65
 go_wp2_with fail
 refine HA.out.mono ?_
 rintro e w1 ⟨v,rfl,hown,hb⟩
 have HO:=Lib.hid hown;have HB:=Lib.hid hb
 clear hown hb
 go_wp2_with fail
 go_ret
 exact ⟨v,rfl,HO.out,HB.out⟩
end Go.Proofs.YtnnakhdndmjmiaaGreat.Disk
/-
 The contract of Waits: any disk.
-/
set_option linter.unusedVariables false
set_option maxRecDepth 4000
namespace Go.Proofs.YtnnakhdndmjmiaaGreat.Disk
open Go.RowKit Go.Shelf DiskP
theorem owns_mono {w : World} {B B' n size : Nat} {e : TypeId} {v : Value} {xs : List Value} (h : w.ownsRow B e size v n xs) (hB : B' ≤ B) : w.ownsRow B' e size v n xs:=by
 refine ⟨h.1,?_⟩
 rcases h.2 with hn | ⟨g,cap,cur,hv,hbg,rest⟩
 ·exact .inl hn
 ·exact .inr ⟨g,cap,cur,hv,Nat.le_trans hB hbg,rest⟩
theorem each_in (i : Nat) (n : Nat) (w : World) : CallsIn Fence.wide n Tryz.prog 145 (#[.int .i64 (i : Int)] ++ #[]) w fun e w'=>e = .returned (.bool true) ∧ w = w':=callsIn_wide.2 (each_any (i : Int) w)
theorem cell_two {w : World} {v1 v2 : Value} {t1 t2 : TypeId} :
  ((w.alloc (.cells #[v1] t1)).alloc (.cells #[v2] t2)).cell? ⟨w.heap.size,0,none⟩ = some v1 ∧ ((w.alloc (.cells #[v1] t1)).alloc (.cells #[v2] t2)).cell? ⟨w.heap.size + 1,0,none⟩ = some v2:=by
 have h1 : (w.alloc (.cells #[v1] t1)).heap[w.heap.size]? = some (.cells #[v1] t1):=heap_alloc_new w _
 have h2 : ((w.alloc (.cells #[v1] t1)).alloc (.cells #[v2] t2)).heap[w.heap.size + 1]? = some (.cells #[v2] t2):=by
  have:=heap_alloc_new (w.alloc (.cells #[v1] t1)) (.cells #[v2] t2)
  simpa using this
 refine ⟨?_,cell_of_heap h2⟩
 exact cell_of_heap (i:=0) ((Below.heap_alloc _ _ _ (by simp)).trans h1)
end Go.Proofs.YtnnakhdndmjmiaaGreat.Disk
