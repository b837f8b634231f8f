import Derived.Test.YtnnakhdndmjmiaaGreatPuDiskN
import Derived.Test.YtnnakhdndmjmiaaGreatPuDiskAct
import Derived.Test.YtnnakhdndmjmiaaGreatPuSuperPlain
import Derived.Test.YtnnakhdndmjmiaaGreatPuWalC
import Derived.Test.YtnnakhdndmjmiaaGreatPuWalG
import Derived.Test.YtnnakhdndmjmiaaGreatPuWalI
import Derived.ArgAppend
import Derived.Laws.AppendOwnNone
import Derived.Maps.AppendAt
set_option linter.unusedVariables false
set_option maxRecDepth 4000
namespace Go.Proofs.YtnnakhdndmjmiaaGreat.Wal
open Go.RowKit DiskP SegsP WalP Disk
open Ints (IntsAt IntsAt.keep)
theorem setCells_grown (b : Nat) : ∀ (vs : List Value) (o : Nat) (w : World),w.grownBy (w.setCells b o vs) (some b)
 | [],o,w=>⟨rfl,rfl,rfl,Nat.le_refl _,fun _ _ _=>rfl⟩
 | v :: r,o,w=>by
  have h1:=Lib.grownBy_setCell (w:=w) (b:=b) (i:=o) (v:=v)
  have h2:=setCells_grown b r (o + 1) (w.setCell ⟨b,o,none⟩ v)
  exact ⟨h2.os.trans h1.os,h2.tape.trans h1.tape,h2.output.trans h1.output,Nat.le_trans h1.size h2.size,fun k hk hn=>(h2.block k (by have:=h1.size;omega) hn).trans (h1.block k hk hn)⟩
def LeftAt (w : World) (a : Option Addr) (c : Nat) (R : List Int) (p : Nat) : Prop := ∃ g cg cur,a = cutA (some ⟨g,0,none⟩) cg p ∧ c = cg - p ∧ w.heap[g]? = some (.cells cur 3 (0,0)) ∧ R.length ≤ cg ∧ cg ≤ maxLen ∧ cur.size = cg ∧ cur.toList.take R.length = Ints.cellsI R
theorem cutA_some {g c p : Nat} : ∃ o,cutA (some ⟨g,0,none⟩) c p = some ⟨g,o,none⟩:=by
 unfold cutA
 split
 ·exact ⟨0,rfl⟩
 ·exact ⟨0 + p,by show some (Addr.add _ _) = _;rw [Addr.add_lit]⟩
theorem LeftAt.block {w w' : World} {a : Option Addr} {c : Nat} {R : List Int} {p : Nat} (h : LeftAt w a c R p) (hb : ∀ y,a = some y → w'.heap[y.block]? = w.heap[y.block]?) : LeftAt w' a c R p:=by
 obtain ⟨g,cg,cur,h1,h2,h3,h4⟩:=h
 obtain ⟨o,ho⟩:=cutA_some (g:=g) (c:=cg) (p:=p)
 exact ⟨g,cg,cur,h1,h2,(hb ⟨g,o,none⟩ (h1.trans ho)).trans h3,h4⟩
theorem left_lt {w : World} {a : Option Addr} {c : Nat} {R : List Int} {p : Nat} (h : LeftAt w a c R p) : ∀ y,a = some y → y.block < w.heap.size:=by
 obtain ⟨g,cg,cur,h1,h2,h3,h4⟩:=h
 intro y hy
 obtain ⟨x,hx,he⟩:=cutA_block (h1.symm.trans hy)
 cases hx
 rw [he]
 exact heap_lt h3
theorem LeftAt.keep {w w' : World} {a : Option Addr} {c : Nat} {R : List Int} {p : Nat} (h : LeftAt w a c R p) (hb : Below w.heap.size w w') : LeftAt w' a c R p :=
 h.block fun y hy=>hb.block _ (left_lt h y hy)
theorem left_upd {w w' : World} {a : Option Addr} {c : Nat} {R : List Int} {p : Nat} {L L' : List Nat} (h : LeftAt w a c R p) (ha : ∀ y,a = some y → y.block ∉ L) (hU : Upd L w w' L') : LeftAt w' a c R p :=
 h.block fun y hy=>hU.block _ (left_lt h y hy) (ha y hy)
theorem left_row (L : List Nat) (b d : Nat) (lg : Lg) (st : St) (w : World) (h : LS w L b d lg st) (hll : lg.x.log.length ≤ 80) (h0 : 0 < (secs lg.x.log).length) (hp : lg.pos ≤ (secs lg.x.log).length) :
  Calls Tryz.prog 53 #[.pointer (some ⟨b,0,none⟩)] w fun e w' => ∃ a c,e = .returned (.slice a ((secs lg.x.log).length - lg.pos) c) ∧ LeftAt w' a c (secs lg.x.log) lg.pos ∧ (secs lg.x.log).length - lg.pos ≤ c ∧ (a = none → c = 0) ∧ Below w.heap.size w w' ∧ ∀ y,a = some y → w.heap.size ≤ y.block:=by
 refine (left_own L b d lg st w h hll h0 hp).mono ?_
 rintro e w' ⟨g,c,rfl,hO,hB⟩
 have hcap:=ints_row_cap hO h0
 rcases hO.2 with ⟨hv,h1⟩ | ⟨g',cap,cur,hv,hg,hc,h2,h3,h4,h5⟩
 ·cases hv
 ·cases hv
  refine ⟨_,_,rfl,⟨g,c,cur,rfl,rfl,hc,hcap,h3,by omega,by rw [← h5,Nat.mul_one]⟩,by omega,fun e=>cutA_none (fun h=>by cases h) e,hB,fun y hy=>?_⟩
  obtain ⟨x,hx,he⟩:=cutA_block hy
  cases hx
  rw [he];exact hg
theorem append_left {ops : Array Oper} {rest : List Oper} {o : Oper} {a : Act} {Q : Exit → Act → World → Prop} (hgd : o.guard = none) (s x : Operand)
  (ho : o.op = .call { callee:=.builtin .append,args:=#[s,x],argTypes:=#[67,67] }) (w : World) (a1 : Option Addr) (c1 : Nat) (p : Nat) (R ys : List Int) (a2 : Addr) (n l2 c2 : Nat)
  (hs : a.eval s = .slice a1 n c1) (hx : a.eval x = .slice (some a2) l2 c2) (hn : n = R.length - p)
  (hO : LeftAt w a1 c1 R p) (hI : IntsAt w (some a2) l2 ys) (hp : p ≤ R.length) (hl1 : R.length ≤ 100000) (hl : l2 ≤ 100000) (h0 : 0 < l2) (hr : ∀ x ∈ R,-9223372036854775808 ≤ x ∧ x ≤ 9223372036854775807) (hne : ∀ y,a1 = some y → y.block ≠ a2.block)
  (h : ∀ a' c' w',IntsAt w' a' (n + l2) (R.drop p ++ ys) → n + l2 ≤ c' → (a' = none → c' = 0) → (∀ y,a' = some y → (∃ z,a1 = some z ∧ y.block = z.block) ∨ w.heap.size ≤ y.block) → (∀ M : List Nat,(∀ y,a1 = some y → y.block ∈ M) → Upd M w w' M) → wpList Tryz.prog ops Q rest (a.put o.dst (.slice a' (n + l2) c')) w') :
  wpList Tryz.prog ops Q (o :: rest) a w:=by
 obtain ⟨i0,hi,hz0,hz1,hz2⟩:=info_parts Ints.info_int
 obtain ⟨g,c,cur,rfl,rfl,hcur,hc1,hc2,hc3,hc4⟩:=hO
 have hml : maxLen = 140737488355328 ∨ 1000000 ≤ maxLen:=.inr (by unfold maxLen;omega)
 have hdl : (R.drop p).length = n:=by rw [List.length_drop,hn]
 have hfit : ∀ x ∈ R.drop p ++ ys,-9223372036854775808 ≤ x ∧ x ≤ 9223372036854775807:=fun x hx=>(List.mem_append.1 hx).elim (fun h=>hr x (List.mem_of_mem_drop h)) (hI.2.1 x)
 have hcell : ∀ j u,(Ints.cellsI (R.drop p))[j]? = some u → w.cell? ⟨g,p + j,none⟩ = some u:=fun j u hu=>by
  rw [cell_of_heap hcur]
  have hj : j < (R.drop p).length:=by rw [← Ints.cellsI_len];exact (List.getElem?_eq_some_iff.1 hu).1
  rw [hdl] at hj
  have h9 : (Ints.cellsI R)[p + j]? = some u:=by
   rw [← hu];unfold Ints.cellsI;rw [List.map_drop,List.getElem?_drop]
  rw [← hc4,List.getElem?_take] at h9
  rw [if_pos (by omega)] at h9
  rw [← h9];simp
 have hgw:=heap_lt hcur
 have hgr : ∀ v' w',w'.ownsRow w.heap.size 3 1 v' (n + l2) (Ints.cellsI (R.drop p) ++ Ints.cellsI ys) → w.grownBy w' none → wpList Tryz.prog ops Q rest (a.put o.dst v') w':=by
  intro v' w' hown hgrow
  rw [← Ints.cellsI_app] at hown
  obtain ⟨a',c',rfl⟩:=Ints.owns_slice' hown
  obtain ⟨k1,k2,k3⟩:=Ints.ints_of_owns hown (by rw [List.length_append,hdl,hI.1]) hfit
  refine h a' c' w' k1 k2 k3 (fun y hy=>.inr ?_) fun M _=>⟨hgrow.os,hgrow.tape,hgrow.output,hgrow.size,fun k hk _=>hgrow.block k hk (by simp),fun k hk=>.inl hk⟩
  rcases hown.2 with ⟨hv,_⟩ | ⟨g',cap,cur',hv,hbg,_⟩
  ·omega
  ·cases hv;cases hy;exact hbg
 by_cases hcp : c = p
 ·have hn0 : n = 0:=by omega
  have ha1 : cutA (some ⟨g,0,none⟩) c p = some ⟨g,0,none⟩:=by unfold cutA;rw [if_pos hcp]
  rw [ha1] at hs
  refine wpList_append_grows w hgd s x 67 ho 3 i0 (.int .i64 0) 1 8 Tryz.underlying67 hi hz0 hz1 hz2 rfl (by decide) (some ⟨g,0,none⟩) n (c - p) (Ints.cellsI (R.drop p)) hs (fun h=>by cases h) (by rw [Ints.cellsI_len,hdl];omega) ?_ a2 l2 c2 (Ints.cellsI ys) hx (by rw [Ints.cellsI_len,hI.1];omega) ?_ (Ints.cellsI_one ys) (by omega) (by omega) (by omega) hgr
  ·intro b hb j u hu
   have hj : j < (R.drop p).length:=by rw [← Ints.cellsI_len];exact (List.getElem?_eq_some_iff.1 hu).1
   omega
  ·rcases hI.2.2 with e | ⟨b2,o2,e,_⟩
   ·omega
   ·cases e;exact Ints.ints_cells hI
 ·have ha1 : cutA (some ⟨g,0,none⟩) c p = some ⟨g,p,none⟩:=by unfold cutA;rw [if_neg hcp];show some (Addr.add _ _) = _;rw [Addr.add_lit,Nat.zero_add]
  rw [ha1] at hs hne h
  have hin : ∀ j,j < l2 → n + l2 ≤ c - p → (w.cell? ⟨g,p + n * 1 + j,none⟩).isSome = true:=fun j hj hle=>by
   rw [cell_of_heap hcur,Array.getElem?_eq_getElem (by omega)];rfl
  refine wpList_append_arg w hgd s x 67 ho 3 i0 (.int .i64 0) 1 8 Tryz.underlying67 hi hz0 hz1 hz2 rfl (by decide) g p n (c - p) (Ints.cellsI (R.drop p)) hs (by rw [Ints.cellsI_len,hdl];omega) hcell a2 l2 c2 (Ints.cellsI ys) hx (by rw [Ints.cellsI_len,hI.1];omega) ?_ (Ints.cellsI_one ys) (fun hle j hj=>⟨hin j (by rw [Ints.cellsI_len,hI.1] at hj;exact hj) hle,frozen_of_heap hcur⟩) (by omega) (by omega) (fun hle=>?_) (fun _=>hgr)
  ·rcases hI.2.2 with e | ⟨b2,o2,e,_⟩
   ·omega
   ·cases e;exact Ints.ints_cells hI
  ·have hg2:=setCells_grown g (Ints.cellsI ys) (p + n * 1) w
   refine h (some ⟨g,p,none⟩) (c - p) _ ⟨by rw [List.length_append,hdl,hI.1],hfit,.inr ⟨g,p,rfl,by have:=hg2.size;omega,fun i hi=>?_⟩⟩ hle (fun e=>by cases e) (fun y hy=>.inl ⟨y,hy,rfl⟩) fun M hM=>⟨hg2.os,hg2.tape,hg2.output,hg2.size,fun k hk hkM=>hg2.block k hk (fun e=>by cases e;exact hkM (hM ⟨g,p,none⟩ rfl)),fun k hk=>.inl hk⟩
   by_cases h7 : i < n
   ·rw [World.cell?_setCells_out _ _ _ _ _ (fun _ _=>.inl (by show p + i < p + n * 1;omega))]
    refine hcell i _ ?_
    have : i < (R.drop p).length:=by omega
    unfold Ints.cellsI
    rw [List.getElem?_map,List.getElem?_eq_getElem this]
    simp [List.getD,List.getElem?_append_left this,List.getElem?_eq_getElem this]
   ·have hj : i - n < ys.length:=by rw [hI.1];omega
    have h8:=World.cell?_setCells_in g (Ints.cellsI ys) (p + n * 1) w (fun j hj=>hin j (by rw [Ints.cellsI_len,hI.1] at hj;exact hj) hle) (i - n) (by rw [Ints.cellsI_len];exact hj)
    rw [show p + i = p + n * 1 + (i - n) by omega,h8]
    have h9 : (R.drop p ++ ys)[i]? = ys[i - n]?:=by rw [List.getElem?_append_right (by omega),hdl]
    simp [Ints.cellsI,List.getD,h9,List.getElem?_eq_getElem hj]
end Go.Proofs.YtnnakhdndmjmiaaGreat.Wal
/-
 The contract of Append: a log that goes on,where it has to grow and does: the superblock that is stored,the batch behind it.
-/
set_option linter.unusedVariables false
set_option maxRecDepth 4000
namespace Go.Proofs.YtnnakhdndmjmiaaGreat.Wal
open Go.RowKit DiskP SegsP WalP Disk
open Ints (IntsAt IntsAt.keep cellsI)
open SuperP (Sup)
open FrameP (frs sz Rec tk)
theorem upd_new {w w1 w2 : World} {M M1 : List Nat} {k : Nat} (hU : Upd M w w1 M1) (h : Upd [k] w1 w2 [k]) (hk : w.heap.size ≤ k) : Upd M w w2 M1 :=
 ⟨h.os.trans hU.os,h.tape.trans hU.tape,h.output.trans hU.output,Nat.le_trans hU.size h.size,fun j hj hn=>(h.block j (by have:=hU.size;omega) (fun g=>by have:=List.mem_singleton.1 g;omega)).trans (hU.block j hj hn),hU.sub⟩
theorem left_some {w : World} {a : Option Addr} {c : Nat} {R : List Int} {p : Nat} (h : LeftAt w a c R p) : ∃ g o,a = some ⟨g,o,none⟩:=by
 obtain ⟨g,cg,cur,h1,_⟩:=h
 obtain ⟨o,ho⟩:=cutA_some (g:=g) (c:=cg) (p:=p)
 exact ⟨g,o,h1.trans ho⟩
theorem left_strs {w : World} {g7 g8 o8 n c p : Nat} {ss : List ByteArray} {R : List Int} (h : StrsAt w (some ⟨g7,0,none⟩) n ss) (h0 : 0 < n) (k : LeftAt w (some ⟨g8,o8,none⟩) c R p) (k0 : 0 < R.length) : g7 ≠ g8:=by
 rintro rfl
 obtain ⟨g,cg,cur,h1,h2,h3,h4,h5,h6,h7⟩:=k
 obtain ⟨o,ho⟩:=cutA_some (g:=g) (c:=cg) (p:=p)
 rw [ho] at h1
 cases h1
 rcases h.2.2 with e | ⟨b2,o2,e,_,hc⟩
 ·omega
 ·cases e
  have h9:=hc 0 h0
  rw [cell_of_heap h3] at h9
  have h8 : cur.toList[0]? = some (.int .i64 (R.getD 0 0)):=by
   have h10 : (Ints.cellsI R)[0]? = some (.int .i64 (R.getD 0 0)):=by unfold Ints.cellsI;rw [List.getElem?_map,List.getElem?_eq_getElem k0];simp [List.getD,List.getElem?_eq_getElem k0]
   rw [← h7,List.getElem?_take,if_pos k0] at h10
   exact h10
  rw [Array.getElem?_toList] at h8
  rw [show 0 + 0 = 0 from rfl,h8] at h9
  cases h9
theorem lay_ok {st : St} {x : Sup} {n : Nat} (h : Ok n st) : Ok (n + 10) (lay st x).2:=by
 unfold lay
 split
 ·exact (er_ok _ _ _ _ h).mono (by simp)
 ·exact (puts_ok _ _ _ (er_ok _ _ _ _ h)).mono (by simp)
theorem app_end2 {w w5 wq : World} {L L5 : List Nat} {b d : Nat} {lg' : Lg} {st1 : St} {ca la : Option Addr} {cc lc : Nat} (hUw : Upd L w w5 L5) (hU8 : Upd [b] w5 wq [b]) (hbq : wq.heap[b]? = some (lgObj d lg' ca cc la lc)) (hD5 : Dk w5 L5 d st1) (hbn5 : b ∉ L5) (hw5 : w.heap.size ∉ L5) (hb : b < w.heap.size) (hlt : w.heap.size < w5.heap.size)
  (hI1 : IntsAt w5 ca lg'.x.chk.length lg'.x.chk) (hI2 : IntsAt w5 la lg'.x.log.length lg'.x.log) (n1 : ca = none → cc = 0) (n2 : la = none → lc = 0)
  (hf1 : 0 < lg'.x.chk.length → ∀ y,ca = some y → y.block ∉ b :: L5 ∧ y.block ≠ w.heap.size) (hf2 : 0 < lg'.x.log.length → ∀ y,la = some y → y.block ∉ b :: L5 ∧ y.block ≠ w.heap.size) :
  LS ((wq.setCell ⟨w.heap.size,0,none⟩ (.int .i64 0)).drew.setCell ⟨w.heap.size,0,none⟩ (.int .i64 0)) L5 b d lg' st1 ∧ Upd (b :: L) w ((wq.setCell ⟨w.heap.size,0,none⟩ (.int .i64 0)).drew.setCell ⟨w.heap.size,0,none⟩ (.int .i64 0)) (b :: L5):=by
 have hUq : Upd (b :: L) w wq (b :: L5):=(Upd.wide hUw).trans ⟨hU8.os,hU8.tape,hU8.output,hU8.size,fun k hk hn=>hU8.block k hk (fun g=>hn (by rw [List.mem_singleton.1 g];simp)),fun k hk=>.inl hk⟩
 have hU2:=upd_own (upd_own hUq 0 (.int .i64 0)).drew 0 (.int .i64 0)
 have hqs:=hU8.size
 have hs8 : wq.heap.size ≤ (wq.setCell ⟨w.heap.size,0,none⟩ (.int .i64 0)).heap.size:=(Lib.grownBy_setCell (w:=wq) (b:=w.heap.size) (i:=0) (v:=.int .i64 0)).size
 have keep : ∀ j,j < wq.heap.size → j ≠ w.heap.size → ((wq.setCell ⟨w.heap.size,0,none⟩ (.int .i64 0)).drew.setCell ⟨w.heap.size,0,none⟩ (.int .i64 0)).heap[j]? = wq.heap[j]?:=fun j hj hne =>
  (own_block (w1:=(wq.setCell ⟨w.heap.size,0,none⟩ (.int .i64 0)).drew) 0 _ (by show j < (wq.setCell ⟨w.heap.size,0,none⟩ (.int .i64 0)).heap.size;omega) hne).trans (own_block 0 _ hj hne)
 have hUo : Upd [b,w.heap.size] w5 ((wq.setCell ⟨w.heap.size,0,none⟩ (.int .i64 0)).drew.setCell ⟨w.heap.size,0,none⟩ (.int .i64 0)) [b,w.heap.size]:=by
  have h1 : Upd [b,w.heap.size] w5 wq [b,w.heap.size]:=upd_more hU8 (fun k hk=>by rw [List.mem_singleton.1 hk];simp)
  have h2 : Upd [b,w.heap.size] wq (wq.setCell ⟨w.heap.size,0,none⟩ (.int .i64 0)).drew [b,w.heap.size]:=(upd_more (upd_set wq w.heap.size 0 (.int .i64 0)) (fun k hk=>by rw [List.mem_singleton.1 hk];simp)).drew
  exact (h1.trans h2).trans (upd_more (upd_set _ w.heap.size 0 (.int .i64 0)) (fun k hk=>by rw [List.mem_singleton.1 hk];simp))
 have out : ∀ (y : Addr),y.block ∉ b :: L5 ∧ y.block ≠ w.heap.size → y.block ∉ [b,w.heap.size]:=fun y h hm=>by
  rcases List.mem_cons.1 hm with g | g
  ·exact h.1 (by rw [g];simp)
  ·exact h.2 (List.mem_singleton.1 g)
 refine ⟨⟨hD5.keep fun k hk=>?_,ca,cc,la,lc,⟨(keep b (by omega) (by omega)).trans hbq,ints_other hI1 (fun h0 y hy=>out y (hf1 h0 y hy)) hUo,ints_other hI2 (fun h0 y hy=>out y (hf2 h0 y hy)) hUo,n1,n2⟩,hbn5,fun h0 y hy=>(hf1 h0 y hy).1,fun h0 y hy=>(hf2 h0 y hy).1⟩,hU2⟩
 have hkl:=hD5.lt k hk
 exact (keep k (by omega) (fun e=>hw5 (by rw [← e];exact hk))).trans (hU8.block k hkl (fun g=>hbn5 (by rw [← List.mem_singleton.1 g];exact hk)))
set_option maxHeartbeats 4000000 in
theorem append_store (L : List Nat) (b d n : Nat) (lg : Lg) (st : St) (w : World) (h : LS w L b d lg st) (hv : Lv lg st n) (recs : List (List UInt8)) (a : Option Addr) (nr cap : Nat) (hS : StrsAt w a nr (recs.map bs)) (ht : Takes recs) (hf : recs.length ≤ 100)
  (mm : Nat) (hmm : SegsP.need ((pc (frs recs).length : Int) - (((secs lg.x.log).length - lg.pos : Nat) : Int)) = (mm : Int)) (hmp : 0 < mm) (hmh : mm ≤ 64)
  (more : List Int) (hmo : (WalP.free lg st.S.length).take mm = more) (hfu : mm ≤ (WalP.free lg st.S.length).length) (s1 : St) (he : er st false (secs more) = (0,s1)) (s2 : St) (hfit : SuperP.Fit (grow lg.x more)) (c1 : Int) (hl : lay s1 (grow lg.x more) = (c1,s2)) (hc1 : c1 ≠ 0) :
  Calls Tryz.prog 19 #[.pointer (some ⟨b,0,none⟩),.slice a nr cap] w (Told w L b d c1 { lg with dead:=true } s2):=by
 have hf1:=hmf
 obtain ⟨hll,h0,hsl⟩:=hv.logs
 have hal:=hv.alive;have hrn:=hv.run;have hnum:=hv.num;have hpos:=hv.pos
 have hnr : nr = recs.length:=by rw [← hS.1,List.length_map]
 have hnr0 : ((nr : Int) == 0) = false:=beq_eq_false_iff_ne.2 (by
  have h9:=ht.1
  intro h8
  exact h9 (List.length_eq_zero_iff.1 (by omega)))
 have hszf : (bs (frs recs)).size ≤ 16384:=by rw [bs_size,FrameP.frs_length];exact ht.2.2
 have hfits : Fits (lg.num + 1).toNat (frs recs):=takes_fits ht (by omega) (by omega)
 have hpcs : pc (frs recs).length ≤ 512:=hfits.2.2
 have hkp1 : 1 ≤ pc (frs recs).length:=pc_pos _
 have hkp1 : 1 ≤ pc (frs recs).length:=pc_pos _
 have hkp1 : 1 ≤ pc (frs recs).length:=pc_pos _
 have hkp1 : 1 ≤ pc (frs recs).length:=pc_pos _
 have hkp1 : 1 ≤ pc (frs recs).length:=pc_pos _
 have hkp1 : 1 ≤ pc (frs recs).length:=pc_pos _
 have hb0 : Below w.heap.size w (w.alloc (.cells #[.int .i64 0] 27)):=(Below.refl _ w).alloc (Nat.le_refl _) _
 have hn0:=heap_alloc_new w (.cells #[.int .i64 0] 27)
 have HS0:=Lib.hid (show (w.alloc (.cells #[.int .i64 0] 27)).heap.size = w.heap.size + 1 by simp)
 have HRY:=Lib.hid (ready_yes L b d lg st _ (h.below hb0) hal hrn)
 have HPT:=Lib.hid (fun w1 (hb : Below w.heap.size w w1)=>put_takes recs a nr cap w1 (hS.keep hb) ht hf)
 have hsp:=fun w1=>split_any (bs (frs recs)) w1 (by omega)
 rw [parts_bs] at hsp
 unfold SplitMade at hsp
 rw [List.length_map,pts_length] at hsp
 have HSP:=Lib.hid hsp
 have hlf:=fun w1 (h1 : LS w1 L b d lg st)=>left_row L b d lg st w1 h1 (by omega) h0 hpos
 have hrl : ((secs lg.x.log).drop lg.pos).length = (secs lg.x.log).length - lg.pos:=List.length_drop
 have HLF:=Lib.hid hlf
 have HLS:=Lib.hid (fun w1 (hb : Below w.heap.size w w1)=>h.below hb)
 have HSPT:=Lib.hid (seal_parts hfits)
 have hbb:=h.lk.lt
 have HLT:=Lib.hid h.dk.lt
 have H:=Lib.hid h
 have hh:=h
 obtain ⟨hD,ca,cc,la,lc,hk,k1,k2,k3⟩:=hh
 obtain ⟨z0,z1,z2,z3,z4,z5,z6,z7,z8,z9⟩:=lk_cells hk
 have hsix : sixAt w b lg.x ca cc la lc:=⟨z1,z2,z3,z4,z5,z6⟩
 have H6:=Lib.hid hsix;have H0:=Lib.hid z0;have H7:=Lib.hid z7;have H8:=Lib.hid z8
 have HK:=Lib.hid hk;have HK1:=Lib.hid k1;have HK2:=Lib.hid k2;have HK3:=Lib.hid k3;have HD:=Lib.hid hD
 have hnm : (lg.num == 1099511627776) = false:=beq_eq_false_iff_ne.2 (by omega)
 have HB0:=Lib.hid hb0;have HN0:=Lib.hid hn0;have HV:=Lib.hid hv
 have hrb : (((secs lg.x.log).length - lg.pos : Nat) : Int) = ((secs lg.x.log).length : Int) - lg.pos:=by omega
 have hR8 : (secs lg.x.log).length ≤ 504:=by omega
 have hbL : b ∉ L:=k1
 have HBL:=Lib.hid hbL
 obtain ⟨nn,hnn⟩ : ∃ nn : Nat,(lg.num + 1).toNat = nn:=⟨_,rfl⟩
 rw [hnn] at HSPT
 obtain ⟨kp,hkp⟩ : ∃ kp,pc (frs recs).length = kp:=⟨_,rfl⟩
 obtain ⟨lr,hlr⟩ : ∃ lr,(secs lg.x.log).length - lg.pos = lr:=⟨_,rfl⟩
 rw [hkp] at HSP HSPT hpcs hkp1
 rw [hlr] at HLF hrb hrl
 have HRL:=Lib.hid hrl
 have hlr5 : lr ≤ 504:=by omega
 have hps5 : lg.pos ≤ 504:=by omega
 have HLRE:=Lib.hid hlr
 rw [hkp,hlr] at hmm
 have hnx:=fun w1=>need_any ((kp : Int) - lr) w1 (by omega) (by omega)
 rw [hmm] at hnx
 have HNEED:=Lib.hid hnx
 have hroom : kp ≤ lr + 8 * mm:=by
  have h9:=WalP.need_room (m:=((kp : Int) - lr))
  rw [hmm] at h9
  omega
 have HTK:=Lib.hid (fun w1 (h1 : LS w1 L b d lg st)=>by
  have h9:=take_yes L b d n mm lg st w1 h1 hv.tk (by omega) (by have:=hv.gen;omega) hfu 0 s1 (by rw [hmo];exact he) rfl
  rw [hmo] at h9
  exact h9)
 have hng:=fit_nums hv.fit
 have hgw : IntKind.i64.wrap (lg.x.gen + 1) = lg.x.gen + 1:=by have:=hv.gen;rw [IntWalk.i64_in] <;> omega
 have hmlen : more.length = mm:=by rw [← hmo,List.length_take];omega
 have hsm : (secs more).length = 8 * mm:=by
  rw [secs_length (l:=more) (fun k hk=>fit_range hfit k (List.mem_append_right _ (List.mem_append_right _ hk))),hmlen]
 have hok1 : Ok (n + 600) s1:=by
  have h9:=er_ok (secs more) st false n hv.ok
  rw [he] at h9
  exact h9.mono (by omega)
 have hok2 : Ok (n + 610) s2:=by
  have h9:=lay_ok (x:=grow lg.x more) hok1
  rw [hl] at h9
  exact h9
 have hdr : (secs (lg.x.log ++ more)).drop lg.pos = (secs lg.x.log).drop lg.pos ++ secs more:=by
  rw [secs_app,List.drop_append,Nat.sub_eq_zero_of_le hpos,List.drop_zero]
 have HDR:=Lib.hid hdr
 have hlogn : (secs lg.x.log).length ≤ 504:=hR8
 have HLOGN:=Lib.hid hlogn;have HPOS:=Lib.hid hpos
 have HMO:=Lib.hid hmlen;have HSM:=Lib.hid hsm;have HOK1:=Lib.hid hok1;have HOK2:=Lib.hid hok2;have HL:=Lib.hid hl;have HFIT:=Lib.hid hfit
 have hchk80 : lg.x.chk.length ≤ 80:=by have h9:=hv.tk.len;rw [List.length_append] at h9;omega
 have HNN:=Lib.hid (show ((nn : Nat) : Int) = lg.num + 1 by omega)
 clear hnn hbL hmm hnx hmlen hsm hok1 hok2 hl hfit he hmo hdr hlogn
 clear hv hS ht hsp hlf h hD hk k1 k2 k3 z0 z1 z2 z3 z4 z5 z6 z7 z8 z9 hsix hb0 hn0 hfits hrl hnr hrb hsl hlr hR8 hpos
 generalize bs (frs recs) = fb at *
 obtain ⟨nm,hnmn⟩ : ∃ nm,lg.num = nm:=⟨_,rfl⟩
 have HNM:=Lib.hid hnmn
 rw [hnmn] at hnm hnum H7 HNN
 clear hnmn
 go_enter_defers Tryz.func19,Tryz.ntmps19
 go_wp2_with fail
 refine HRY.out.mono ?_
 rintro e w1 ⟨rfl,rfl⟩
 go_wp2_with fail
 refine (HPT.out _ HB0.out).mono ?_
 rintro e w1 ⟨rfl,hb1⟩
 have hB1:=HB0.out.trans (hb1.mono HB0.out.size)
 have HB1:=Lib.hid hB1
 have HN1:=Lib.hid ((hb1.block w.heap.size (by rw [HS0.out];omega)).trans HN0.out)
 have d7 : w1.cell? ⟨b,7,none⟩ = some (.int .i64 nm):=(hB1.cell (p:=⟨b,7,none⟩) hbb).trans H7.out
 have hw1 : w.heap.size < w1.heap.size:=by have h9:=hb1.size;rw [HS0.out] at h9;omega
 clear hb1 hB1 HB0 HN0 HRY HPT
 go_wp2_with fail
 refine (raise_no w1).mono ?_
 rintro e w2 ⟨rfl,rfl⟩
 go_wp2_with fail
 apply join6 (F:=fun wz g7 c7 a8 c8 k9=>Hid (Below w1.heap.size w1 wz ∧ StrsAt wz (some ⟨g7,0,none⟩) kp ((pts (frs recs)).map bs) ∧ w1.heap.size ≤ g7 ∧ LeftAt wz a8 c8 (secs lg.x.log) lg.pos ∧ lr ≤ c8 ∧ (a8 = none → c8 = 0) ∧ (∀ y,a8 = some y → w1.heap.size ≤ y.block) ∧
  wz.heap[k9]? = some (.cells #[.int .i64 lg.x.gen,.int .i64 lg.x.base,.int .i64 lg.x.size,.int .i64 lg.x.cg,.slice ca lg.x.chk.length cc,.slice la lg.x.log.length lc] 69 (0,0)) ∧ w1.heap.size ≤ k9 ∧ k9 ≠ g7 ∧ (∀ y,a8 = some y → y.block ≠ k9)))
 ·intro hG
  have hb1w : b < w1.heap.size:=by omega
  have h61:=six_keep H6.out hbb HB1.out
  have H6b:=Lib.hid h61.1
  have t0 : Below w1.heap.size w1 w1.drew:=(Below.refl _ w1).drew
  have s0 : sixAt w1.drew b lg.x ca cc la lc:=h61.1
  clear h61
  refine wp_region_noPanic ?_
  refine wp_region_held_drew (S:=(fun w'=>(w'.cell? ⟨b,1,none⟩ = some (.int .i64 lg.x.gen) ∧ w'.cell? ⟨b,2,none⟩ = some (.int .i64 lg.x.base) ∧ w'.cell? ⟨b,3,none⟩ = some (.int .i64 lg.x.size) ∧ w'.cell? ⟨b,4,none⟩ = some (.int .i64 lg.x.cg) ∧ w'.cell? ⟨b,5,none⟩ = some (.slice ca lg.x.chk.length cc) ∧ w'.cell? ⟨b,6,none⟩ = some (.slice la lg.x.log.length lc)) ∧ Below w1.heap.size w1 w')) (by kernel_rfl) (by first | exact ⟨s0,t0⟩) (fun hHeld=>?_)
  refine wpAnyH_take (i:=0) (v:=?v1) rfl ?s1 ?f1 ?r1 ?q1 (Or.inl ⟨?y1,?z1⟩) ?h1 ?k1
  case s1 | f1 | r1 | y1=>kernel_rfl
  case q1=>exact fun _ _ _ h=>h
  case z1=>(intro w' hSw;(try dsimp only at hSw);go_simp;(try with_reducible rfl))
  case h1=>exact hHeld
  refine wpAnyH_take (i:=2) (v:=?v2) rfl ?s2 ?f2 ?r2 ?q2 (Or.inl ⟨?y2,?z2⟩) ?h2 ?k2
  case s2 | f2 | r2 | y2=>kernel_rfl
  case q2=>exact fun _ _ _ h=>h
  case z2=>(intro w' hSw;(try dsimp only at hSw);go_simp;(try with_reducible rfl))
  case h2=>exact hHeld
  refine wpAnyH_take (i:=4) (v:=?v3) rfl ?s3 ?f3 ?r3 ?q3 (Or.inl ⟨?y3,?z3⟩) ?h3 ?k3
  case s3 | f3 | r3 | y3=>kernel_rfl
  case q3=>exact fun _ _ _ h=>h
  case z3=>(intro w' hSw;(try dsimp only at hSw);go_simp;(try with_reducible rfl))
  case h3=>exact hHeld
  refine wpAnyH_take (i:=5) (v:=?v4) rfl ?s4 ?f4 ?r4 ?q4 (Or.inl ⟨?y4,?z4⟩) ?h4 ?k4
  case s4 | f4 | r4 | y4=>kernel_rfl
  case q4=>exact fun _ _ _ h=>h
  case z4=>(intro w' hSw;(try dsimp only at hSw);go_simp;(try with_reducible rfl))
  case h4=>exact hHeld
  refine wpAnyH_take (i:=6) (v:=?v5) rfl ?s5 ?f5 ?r5 ?q5 (Or.inl ⟨?y5,?z5⟩) ?h5 ?k5
  case s5 | f5 | r5 | y5=>kernel_rfl
  case q5=>exact fun _ _ _ h=>h
  case z5=>(intro w' hSw;(try dsimp only at hSw);go_simp;(try with_reducible rfl))
  case h5=>exact hHeld
  refine wpAnyH_take (i:=7) (v:=?v6) rfl ?s6 ?f6 ?r6 ?q6 (Or.inl ⟨?y6,?z6⟩) ?h6 ?k6
  case s6 | f6 | r6 | y6=>kernel_rfl
  case q6=>exact fun _ _ _ h=>h
  case z6=>(intro w' hSw;(try dsimp only at hSw);go_simp;(try with_reducible rfl))
  case h6=>exact hHeld
  refine wpAnyH_ready (rs:=[1,8]) (by kernel_rfl) (by simp) ?_
  refine AllReadyH.cons rfl (fun K hK=>?_) (AllReadyH.cons rfl (fun K hK=>?_) AllReadyH.nil)
  ·go_simp
   refine (HSP.out _).mono ?_
   rintro e v1 ⟨gS,cS,rfl,hSS,hgS0,hb1⟩
   have hgS : w1.heap.size ≤ gS:=Nat.le_trans t0.size hgS0
   have q1:=six_next s0 hb1w t0 hb1
   have hgLt : gS ≠ v1.heap.size:=by have h5:=ints_lt2 hSS (by omega) ⟨gS,0,none⟩ rfl;have h6 : gS < v1.heap.size:=h5;omega
   refine hK.out _ _ q1 (fun hHeld1=>?_)
   clear hK K hHeld
   obtain ⟨s1,t1⟩:=q1
   refine wpAnyH_ready (rs:=[3,8]) (by kernel_rfl) (by simp) ?_
   refine AllReadyH.cons rfl (fun K hK=>?_) (AllReadyH.cons rfl (fun K hK=>?_) AllReadyH.nil)
   ·go_simp
    refine (HLF.out _ (HLS.out _ (HB1.out.trans (t1.mono HB1.out.size)))).mono ?_
    rintro e v2 ⟨aL,cL,rfl,hIL,hcL,hnL,hb2,hwL0⟩
    have hwL : ∀ y,aL = some y → w1.heap.size ≤ y.block:=fun y hy=>Nat.le_trans t1.size (hwL0 y hy)
    have hSS:=hSS.keep hb2
    have q2:=six_next s1 hb1w t1 hb2
    have hgLt : gS ≠ v2.heap.size:=by have h5:=ints_lt2 hSS (by omega) ⟨gS,0,none⟩ rfl;have h6 : gS < v2.heap.size:=h5;omega
    have hyLt : ∀ y,aL = some y → y.block ≠ v2.heap.size:=fun y hy=>by have:=left_lt hIL y hy;omega
    refine hK.out _ _ q2 (fun hHeld2=>?_)
    clear hK K hHeld1
    obtain ⟨s2,t2⟩:=q2
    refine wpAnyH_ready (rs:=[8]) (by kernel_rfl) (by simp) ?_
    refine AllReadyH.cons rfl (fun K hK=>?_) AllReadyH.nil
    ·go_simp
     have hb3a:=(Below.refl _ v2).alloc (Nat.le_refl _) zsup
     have hb3 : Below (v2).heap.size (v2) ((v2).alloc zsup):=⟨hb3a.os,hb3a.tape,hb3a.output,hb3a.size,hb3a.block⟩
     have hZ : ((v2).alloc zsup).heap[(v2).heap.size]? = some zsup:=heap_alloc_new (v2) zsup
     obtain ⟨k9,hk9e⟩ : ∃ k9,(v2).heap.size = k9:=⟨_,rfl⟩
     rw [hk9e] at hZ
     have hk9 : w1.heap.size ≤ k9:=by rw [← hk9e];exact t2.size
     have hk9l : k9 < ((v2).alloc zsup).heap.size:=by show k9 < ((v2).alloc zsup).heap.size;rw [World.size_alloc,hk9e];omega
     have hSS:=hSS.keep hb3
     have hIL:=hIL.keep hb3
     have hgk : gS ≠ k9:=by rw [← hk9e];exact hgLt
     have hyk : ∀ y,aL = some y → y.block ≠ k9:=by rw [← hk9e];exact hyLt
     have q3:=six_next s2 hb1w t2 hb3
     clear hb3a
     generalize hA3 : (v2).alloc zsup = v3 at *
     try rw [hk9e]
     have hgLt : gS ≠ v3.heap.size:=by have h5:=ints_lt2 hSS (by omega) ⟨gS,0,none⟩ rfl;have h6 : gS < v3.heap.size:=h5;omega
     have hyLt : ∀ y,aL = some y → y.block ≠ v3.heap.size:=fun y hy=>by have:=left_lt hIL y hy;omega
     refine hK.out _ _ q3 (fun hHeld3=>?_)
     clear hK K hHeld2
     obtain ⟨s3,t3⟩:=q3
     refine wpAnyH_take (i:=9) (v:=?v7) rfl ?s7 ?f7 ?r7 ?q7 (Or.inl ⟨?y7,?z7⟩) ?h7 ?k7
     case s7 | f7 | r7 | y7=>kernel_rfl
     case q7=>exact fun _ _ _ h=>h
     case z7=>(intro w' hSw;(try dsimp only at hSw);go_simp;(try with_reducible rfl))
     case h7=>exact hHeld3
     refine wpAnyH_take (i:=10) (v:=?v8) rfl ?s8 ?f8 ?r8 ?q8 (Or.inl ⟨?y8,?z8⟩) ?h8 ?k8
     case s8 | f8 | r8 | y8=>kernel_rfl
     case q8=>exact fun _ _ _ h=>h
     case z8=>(intro w' hSw;(try dsimp only at hSw);go_simp;(try with_reducible rfl))
     case h8=>exact hHeld3
     obtain ⟨wz4,hwz⟩ : ∃ wz,put6 v3 k9 (.int .i64 lg.x.gen) (.int .i64 lg.x.base) (.int .i64 lg.x.size) (.int .i64 lg.x.cg) (.slice ca lg.x.chk.length cc) (.slice la lg.x.log.length lc) = wz:=⟨_,rfl⟩
     have hu6:=upd_put6 v3 k9 (.int .i64 lg.x.gen) (.int .i64 lg.x.base) (.int .i64 lg.x.size) (.int .i64 lg.x.cg) (.slice ca lg.x.chk.length cc) (.slice la lg.x.log.length lc)
     have hz6:=heap_put6 hZ (.int .i64 lg.x.gen) (.int .i64 lg.x.base) (.int .i64 lg.x.size) (.int .i64 lg.x.cg) (.slice ca lg.x.chk.length cc) (.slice la lg.x.log.length lc)
     rw [hwz] at hu6 hz6
     have hq6 : Below w1.heap.size w1 wz4:=by rw [← hwz];exact below_put6 t3 hk9 _ _ _ _ _ _
     obtain ⟨y0,y1,y2,y3,y4,y5⟩:=zero_cells6 hZ |>.1
     obtain ⟨r0,r1,r2,r3,r4,r5⟩:=(zero_cells6 hZ).2
     have hwz' : ((((((v3.setCell ⟨k9,0,none⟩ (.int .i64 lg.x.gen)).setCell ⟨k9,1,none⟩ (.int .i64 lg.x.base)).setCell ⟨k9,2,none⟩ (.int .i64 lg.x.size)).setCell ⟨k9,3,none⟩ (.int .i64 lg.x.cg)).setCell ⟨k9,4,none⟩ (.slice ca lg.x.chk.length cc)).setCell ⟨k9,5,none⟩ (.slice la lg.x.log.length lc)) = wz4:=hwz
     have qz:=six_keep H6b.out hb1w hq6
     refine wpAnyH_ready (rs:=[11]) (by kernel_rfl) (by simp) ?_
     refine AllReadyH.cons rfl (fun K hK=>?_) AllReadyH.nil
     go_simp
     try rw [hwz']
     refine hK.out _ _ qz (fun hHeldZ=>?_)
     clear hK K
     refine wpAnyH_done (by kernel_rfl) ?_ _
     refine NoPanic.normal ?_
     exact hG wz4 gS cS aL cL k9 (Lib.hid ⟨hq6,strs_upd hSS (fun _ y hy=>by cases hy;simpa using hgk) hu6,hgS,left_upd hIL (fun y hy=>by have:=hyk y hy;simpa using this) hu6,hcL,hnL,hwL,hz6,hk9,hgk.symm,hyk⟩)
   ·go_simp
    have hb5a:=(Below.refl _ v1).alloc (Nat.le_refl _) zsup
    have hb5 : Below (v1).heap.size (v1) ((v1).alloc zsup):=⟨hb5a.os,hb5a.tape,hb5a.output,hb5a.size,hb5a.block⟩
    have hZ : ((v1).alloc zsup).heap[(v1).heap.size]? = some zsup:=heap_alloc_new (v1) zsup
    obtain ⟨k9,hk9e⟩ : ∃ k9,(v1).heap.size = k9:=⟨_,rfl⟩
    rw [hk9e] at hZ
    have hk9 : w1.heap.size ≤ k9:=by rw [← hk9e];exact t1.size
    have hk9l : k9 < ((v1).alloc zsup).heap.size:=by show k9 < ((v1).alloc zsup).heap.size;rw [World.size_alloc,hk9e];omega
    have hSS:=hSS.keep hb5
    have hgk : gS ≠ k9:=by rw [← hk9e];exact hgLt
    have q5:=six_next s1 hb1w t1 hb5
    clear hb5a
    generalize hA5 : (v1).alloc zsup = v5 at *
    try rw [hk9e]
    have hgLt : gS ≠ v5.heap.size:=by have h5:=ints_lt2 hSS (by omega) ⟨gS,0,none⟩ rfl;have h6 : gS < v5.heap.size:=h5;omega
    refine hK.out _ _ q5 (fun hHeld5=>?_)
    clear hK K hHeld1
    obtain ⟨s5,t5⟩:=q5
    refine wpAnyH_ready (rs:=[3]) (by kernel_rfl) (by simp) ?_
    refine AllReadyH.cons rfl (fun K hK=>?_) AllReadyH.nil
    ·go_simp
     refine (HLF.out _ (HLS.out _ (HB1.out.trans (t5.mono HB1.out.size)))).mono ?_
     rintro e v6 ⟨aL,cL,rfl,hIL,hcL,hnL,hb6,hwL0⟩
     have hwL : ∀ y,aL = some y → w1.heap.size ≤ y.block:=fun y hy=>Nat.le_trans t5.size (hwL0 y hy)
     have hSS:=hSS.keep hb6
     have hZ:=(hb6.block k9 hk9l).trans hZ
     have hk9l:=Nat.lt_of_lt_of_le hk9l hb6.size
     have hyk : ∀ y,aL = some y → y.block ≠ k9:=fun y hy=>by have:=hwL0 y hy;omega
     have q6:=six_next s5 hb1w t5 hb6
     have hgLt : gS ≠ v6.heap.size:=by have h5:=ints_lt2 hSS (by omega) ⟨gS,0,none⟩ rfl;have h6 : gS < v6.heap.size:=h5;omega
     have hyLt : ∀ y,aL = some y → y.block ≠ v6.heap.size:=fun y hy=>by have:=left_lt hIL y hy;omega
     refine hK.out _ _ q6 (fun hHeld6=>?_)
     clear hK K hHeld5
     obtain ⟨s6,t6⟩:=q6
     refine wpAnyH_take (i:=9) (v:=?v9) rfl ?s9 ?f9 ?r9 ?q9 (Or.inl ⟨?y9,?z9⟩) ?h9 ?k9
     case s9 | f9 | r9 | y9=>kernel_rfl
     case q9=>exact fun _ _ _ h=>h
     case z9=>(intro w' hSw;(try dsimp only at hSw);go_simp;(try with_reducible rfl))
     case h9=>exact hHeld6
     refine wpAnyH_take (i:=10) (v:=?v10) rfl ?s10 ?f10 ?r10 ?q10 (Or.inl ⟨?y10,?z10⟩) ?h10 ?k10
     case s10 | f10 | r10 | y10=>kernel_rfl
     case q10=>exact fun _ _ _ h=>h
     case z10=>(intro w' hSw;(try dsimp only at hSw);go_simp;(try with_reducible rfl))
     case h10=>exact hHeld6
     obtain ⟨wz7,hwz⟩ : ∃ wz,put6 v6 k9 (.int .i64 lg.x.gen) (.int .i64 lg.x.base) (.int .i64 lg.x.size) (.int .i64 lg.x.cg) (.slice ca lg.x.chk.length cc) (.slice la lg.x.log.length lc) = wz:=⟨_,rfl⟩
     have hu6:=upd_put6 v6 k9 (.int .i64 lg.x.gen) (.int .i64 lg.x.base) (.int .i64 lg.x.size) (.int .i64 lg.x.cg) (.slice ca lg.x.chk.length cc) (.slice la lg.x.log.length lc)
     have hz6:=heap_put6 hZ (.int .i64 lg.x.gen) (.int .i64 lg.x.base) (.int .i64 lg.x.size) (.int .i64 lg.x.cg) (.slice ca lg.x.chk.length cc) (.slice la lg.x.log.length lc)
     rw [hwz] at hu6 hz6
     have hq6 : Below w1.heap.size w1 wz7:=by rw [← hwz];exact below_put6 t6 hk9 _ _ _ _ _ _
     obtain ⟨y0,y1,y2,y3,y4,y5⟩:=zero_cells6 hZ |>.1
     obtain ⟨r0,r1,r2,r3,r4,r5⟩:=(zero_cells6 hZ).2
     have hwz' : ((((((v6.setCell ⟨k9,0,none⟩ (.int .i64 lg.x.gen)).setCell ⟨k9,1,none⟩ (.int .i64 lg.x.base)).setCell ⟨k9,2,none⟩ (.int .i64 lg.x.size)).setCell ⟨k9,3,none⟩ (.int .i64 lg.x.cg)).setCell ⟨k9,4,none⟩ (.slice ca lg.x.chk.length cc)).setCell ⟨k9,5,none⟩ (.slice la lg.x.log.length lc)) = wz7:=hwz
     have qz:=six_keep H6b.out hb1w hq6
     refine wpAnyH_ready (rs:=[11]) (by kernel_rfl) (by simp) ?_
     refine AllReadyH.cons rfl (fun K hK=>?_) AllReadyH.nil
     go_simp
     try rw [hwz']
     refine hK.out _ _ qz (fun hHeldZ=>?_)
     clear hK K
     refine wpAnyH_done (by kernel_rfl) ?_ _
     refine NoPanic.normal ?_
     exact hG wz7 gS cS aL cL k9 (Lib.hid ⟨hq6,strs_upd hSS (fun _ y hy=>by cases hy;simpa using hgk) hu6,hgS,left_upd hIL (fun y hy=>by have:=hyk y hy;simpa using this) hu6,hcL,hnL,hwL,hz6,hk9,hgk.symm,hyk⟩)
  ·go_simp
   have hb8a:=(Below.refl _ w1).alloc (Nat.le_refl _) zsup
   have hb8 : Below (w1).heap.size (w1.drew) ((w1.alloc zsup).drew):=⟨hb8a.os,hb8a.tape,hb8a.output,hb8a.size,hb8a.block⟩
   have hZ : ((w1.alloc zsup).drew).heap[(w1).heap.size]? = some zsup:=heap_alloc_new (w1) zsup
   obtain ⟨k9,hk9e⟩ : ∃ k9,(w1).heap.size = k9:=⟨_,rfl⟩
   rw [hk9e] at hZ
   have hk9 : w1.heap.size ≤ k9:=by rw [← hk9e];exact t0.size
   have hk9l : k9 < ((w1.alloc zsup).drew).heap.size:=by show k9 < ((w1).alloc zsup).heap.size;rw [World.size_alloc,hk9e];omega
   have q8:=six_next s0 hb1w t0 hb8
   clear hb8a
   generalize hA8 : (w1.alloc zsup).drew = v8 at *
   try rw [hk9e]
   refine hK.out _ _ q8 (fun hHeld8=>?_)
   clear hK K hHeld
   obtain ⟨s8,t8⟩:=q8
   refine wpAnyH_ready (rs:=[1]) (by kernel_rfl) (by simp) ?_
   refine AllReadyH.cons rfl (fun K hK=>?_) AllReadyH.nil
   ·go_simp
    refine (HSP.out _).mono ?_
    rintro e v9 ⟨gS,cS,rfl,hSS,hgS0,hb9⟩
    have hgS : w1.heap.size ≤ gS:=Nat.le_trans t8.size hgS0
    have hZ:=(hb9.block k9 hk9l).trans hZ
    have hk9l:=Nat.lt_of_lt_of_le hk9l hb9.size
    have hgk : gS ≠ k9:=by omega
    have q9:=six_next s8 hb1w t8 hb9
    have hgLt : gS ≠ v9.heap.size:=by have h5:=ints_lt2 hSS (by omega) ⟨gS,0,none⟩ rfl;have h6 : gS < v9.heap.size:=h5;omega
    refine hK.out _ _ q9 (fun hHeld9=>?_)
    clear hK K hHeld8
    obtain ⟨s9,t9⟩:=q9
    refine wpAnyH_ready (rs:=[3]) (by kernel_rfl) (by simp) ?_
    refine AllReadyH.cons rfl (fun K hK=>?_) AllReadyH.nil
    ·go_simp
     refine (HLF.out _ (HLS.out _ (HB1.out.trans (t9.mono HB1.out.size)))).mono ?_
     rintro e v10 ⟨aL,cL,rfl,hIL,hcL,hnL,hb10,hwL0⟩
     have hwL : ∀ y,aL = some y → w1.heap.size ≤ y.block:=fun y hy=>Nat.le_trans t9.size (hwL0 y hy)
     have hSS:=hSS.keep hb10
     have hZ:=(hb10.block k9 hk9l).trans hZ
     have hk9l:=Nat.lt_of_lt_of_le hk9l hb10.size
     have hyk : ∀ y,aL = some y → y.block ≠ k9:=fun y hy=>by have:=hwL0 y hy;omega
     have q10:=six_next s9 hb1w t9 hb10
     have hgLt : gS ≠ v10.heap.size:=by have h5:=ints_lt2 hSS (by omega) ⟨gS,0,none⟩ rfl;have h6 : gS < v10.heap.size:=h5;omega
     have hyLt : ∀ y,aL = some y → y.block ≠ v10.heap.size:=fun y hy=>by have:=left_lt hIL y hy;omega
     refine hK.out _ _ q10 (fun hHeld10=>?_)
     clear hK K hHeld9
     obtain ⟨s10,t10⟩:=q10
     refine wpAnyH_take (i:=9) (v:=?v11) rfl ?s11 ?f11 ?r11 ?q11 (Or.inl ⟨?y11,?z11⟩) ?h11 ?k11
     case s11 | f11 | r11 | y11=>kernel_rfl
     case q11=>exact fun _ _ _ h=>h
     case z11=>(intro w' hSw;(try dsimp only at hSw);go_simp;(try with_reducible rfl))
     case h11=>exact hHeld10
     refine wpAnyH_take (i:=10) (v:=?v12) rfl ?s12 ?f12 ?r12 ?q12 (Or.inl ⟨?y12,?z12⟩) ?h12 ?k12
     case s12 | f12 | r12 | y12=>kernel_rfl
     case q12=>exact fun _ _ _ h=>h
     case z12=>(intro w' hSw;(try dsimp only at hSw);go_simp;(try with_reducible rfl))
     case h12=>exact hHeld10
     obtain ⟨wz11,hwz⟩ : ∃ wz,put6 v10 k9 (.int .i64 lg.x.gen) (.int .i64 lg.x.base) (.int .i64 lg.x.size) (.int .i64 lg.x.cg) (.slice ca lg.x.chk.length cc) (.slice la lg.x.log.length lc) = wz:=⟨_,rfl⟩
     have hu6:=upd_put6 v10 k9 (.int .i64 lg.x.gen) (.int .i64 lg.x.base) (.int .i64 lg.x.size) (.int .i64 lg.x.cg) (.slice ca lg.x.chk.length cc) (.slice la lg.x.log.length lc)
     have hz6:=heap_put6 hZ (.int .i64 lg.x.gen) (.int .i64 lg.x.base) (.int .i64 lg.x.size) (.int .i64 lg.x.cg) (.slice ca lg.x.chk.length cc) (.slice la lg.x.log.length lc)
     rw [hwz] at hu6 hz6
     have hq6 : Below w1.heap.size w1 wz11:=by rw [← hwz];exact below_put6 t10 hk9 _ _ _ _ _ _
     obtain ⟨y0,y1,y2,y3,y4,y5⟩:=zero_cells6 hZ |>.1
     obtain ⟨r0,r1,r2,r3,r4,r5⟩:=(zero_cells6 hZ).2
     have hwz' : ((((((v10.setCell ⟨k9,0,none⟩ (.int .i64 lg.x.gen)).setCell ⟨k9,1,none⟩ (.int .i64 lg.x.base)).setCell ⟨k9,2,none⟩ (.int .i64 lg.x.size)).setCell ⟨k9,3,none⟩ (.int .i64 lg.x.cg)).setCell ⟨k9,4,none⟩ (.slice ca lg.x.chk.length cc)).setCell ⟨k9,5,none⟩ (.slice la lg.x.log.length lc)) = wz11:=hwz
     have qz:=six_keep H6b.out hb1w hq6
     refine wpAnyH_ready (rs:=[11]) (by kernel_rfl) (by simp) ?_
     refine AllReadyH.cons rfl (fun K hK=>?_) AllReadyH.nil
     go_simp
     try rw [hwz']
     refine hK.out _ _ qz (fun hHeldZ=>?_)
     clear hK K
     refine wpAnyH_done (by kernel_rfl) ?_ _
     refine NoPanic.normal ?_
     exact hG wz11 gS cS aL cL k9 (Lib.hid ⟨hq6,strs_upd hSS (fun _ y hy=>by cases hy;simpa using hgk) hu6,hgS,left_upd hIL (fun y hy=>by have:=hyk y hy;simpa using this) hu6,hcL,hnL,hwL,hz6,hk9,hgk.symm,hyk⟩)
 ·intro wz g7 c7 a8 c8 k9 hF
  obtain ⟨hBz,hSz,hg7,hIz,hc8,hn8,hw8,hz9,hk9,hgk,hyk⟩:=hF.out
  have hBw : Below w.heap.size w wz:=HB1.out.trans (hBz.mono HB1.out.size)
  have hwr : IntKind.i64.wrap ((kp : Int) - (lr : Int)) = (kp : Int) - lr:=by rw [IntWalk.i64_in] <;> omega
  have hnp : (0 : Int) < (mm : Int):=by omega
  have HB4:=Lib.hid ((hBz.block w.heap.size (by omega)).trans HN1.out)
  have hwz : w.heap.size < wz.heap.size:=heap_lt HB4.out
  have HND:=Lib.hid (HNEED.out wz)
  have HTW:=Lib.hid (HTK.out wz (HLS.out wz hBw))
  have HBW:=Lib.hid hBw
  have hg7z : g7 < wz.heap.size:=ints_lt2 hSz (by omega) ⟨g7,0,none⟩ rfl
  have hk9z:=heap_lt hz9
  obtain ⟨g8,o8,rfl⟩:=left_some hIz
  have h8z : g8 < wz.heap.size:=left_lt hIz _ rfl
  have h81 : w1.heap.size ≤ g8:=hw8 _ rfl
  have h89 : g8 ≠ k9:=hyk _ rfl
  have HSZ:=Lib.hid hSz;have HIZ:=Lib.hid hIz;have HZ9:=Lib.hid hz9
  clear hF hSz hIz hn8 hw8 hz9 hyk hBz hBw HSP HLF HN1 HB1 H6 HNEED HTK
  go_wp2_with fail
  refine HND.out.mono ?_
  rintro e w4 ⟨rfl,rfl⟩
  clear HND hwr
  go_wp2_with fail
  refine HTW.out.mono ?_
  rintro e w5 ⟨a5,c5,L5,rfl,hI5,hc5,hn5,hf5,hL5,hU5⟩
  have hlw : ∀ k,w1.heap.size ≤ k → k ∉ L:=fun k hk hm=>by have:=HLT.out _ hm;omega
  have hwL : w.heap.size ∉ L:=fun hm=>Nat.lt_irrefl _ (HLT.out _ hm)
  have hUw : Upd L w w5 L5:=(Upd.of_below HBW.out).trans hU5
  have hz5:=(hU5.block k9 hk9z (hlw k9 hk9)).trans HZ9.out
  have hN5:=(hU5.block w.heap.size hwz hwL).trans HB4.out
  have hS5:=strs_upd HSZ.out (fun _ y hy=>by cases hy;exact hlw g7 hg7) hU5
  have hLf5:=left_upd HIZ.out (fun y hy=>by cases hy;exact hlw g8 h81) hU5
  have hk9L5:=upd_out hU5 hk9z (hlw k9 hk9)
  have hg7L5:=upd_out hU5 hg7z (hlw g7 hg7)
  have hg8L5:=upd_out hU5 h8z (hlw g8 h81)
  have hwL5:=upd_out hU5 hwz hwL
  have hb5 : w5.heap[b]? = some (lgObj d lg ca cc la lc):=(hUw.block b hbb HBL.out).trans HK.out.blk
  have hbL5 : b ∉ L5:=by obtain ⟨_,_,_,_,_,_,g,_⟩:=hL5;exact g
  have hs5:=hU5.size
  have hf5' : ∀ y,a5 = some y → wz.heap.size ≤ y.block ∧ y.block ∉ b :: L5:=hf5 (by omega)
  have hI5l : ∀ y,a5 = some y → y.block < w5.heap.size:=ints_lt hI5 (by omega)
  have hlog5 : IntsAt w5 la lg.x.log.length lg.x.log:=ints_upd HK.out.log (fun h0 y hy hm=>HK3.out h0 y hy (List.mem_cons_of_mem _ hm)) hUw
  have hchk5 : IntsAt w5 ca lg.x.chk.length lg.x.chk:=ints_upd HK.out.chk (fun h0 y hy hm=>HK2.out h0 y hy (List.mem_cons_of_mem _ hm)) hUw
  have hlogw : 0 < lg.x.log.length → ∀ y,la = some y → y.block < w.heap.size:=fun h0=>ints_lt HK.out.log h0
  have hchkw : 0 < lg.x.chk.length → ∀ y,ca = some y → y.block < w.heap.size:=fun h0=>ints_lt HK.out.chk h0
  have hchkL5 : 0 < lg.x.chk.length → ∀ y,ca = some y → y.block ∉ b :: L5:=fun h0 y hy=>upd_out (Upd.wide (b:=b) hUw) (hchkw h0 y hy) (HK2.out h0 y hy)
  -- the superblock's Gen
  obtain ⟨w6,hw6⟩ : ∃ w6,w5.setCell ⟨k9,0,none⟩ (.int .i64 (lg.x.gen + 1)) = w6:=⟨_,rfl⟩
  have hU6 : Upd [k9] w5 w6 [k9]:=by rw [← hw6];exact upd_set w5 k9 0 _
  have hz6 : w6.heap[k9]? = some (.cells #[.int .i64 (lg.x.gen + 1),.int .i64 lg.x.base,.int .i64 lg.x.size,.int .i64 lg.x.cg,.slice ca lg.x.chk.length cc,.slice la lg.x.log.length lc] 69 (0,0)):=by
   rw [← hw6];exact Lib.heap_setCell_same (i:=0) hz5 _
  have hU6w:=upd_new hUw hU6 (by omega)
  have hs6:=hU6.size
  have hlog6:=ints_other hlog5 (fun h0 y hy g=>by have:=hlogw h0 y hy;have:=List.mem_singleton.1 g;omega) hU6
  have hmor6:=ints_other hI5 (fun _ y hy g=>by have:=(hf5' y hy).1;have:=List.mem_singleton.1 g;omega) hU6
  have hb7 : Below w6.heap.size w6 (w6.alloc (.cells #[.slice la lg.x.log.length lc,.slice a5 mm c5] 67)):=(Below.refl _ w6).alloc (Nat.le_refl _) _
  have r1 : (w6.alloc (.cells #[.slice la lg.x.log.length lc,.slice a5 mm c5] 67)).cell? ⟨w6.heap.size,0,none⟩ = some (.slice la lg.x.log.length lc):=cell_of_heap (heap_alloc_new w6 _)
  have r2 : (w6.alloc (.cells #[.slice la lg.x.log.length lc,.slice a5 mm c5] 67)).cell? ⟨w6.heap.size,1,none⟩ = some (.slice a5 mm c5):=cell_of_heap (heap_alloc_new w6 _)
  have HCC:=Lib.hid (concat_at w6.heap.size la a5 lg.x.log.length lc mm c5 lg.x.log more _ (hlog6.keep hb7) (hmor6.keep hb7) HK.out.ln hn5 r1 r2 (by omega) (by omega) (by omega))
  have HB7:=Lib.hid hb7
  obtain ⟨x0,x1,x2,x3,x4,x5⟩:=six_cells hz5
  have f0 : w5.frozen? ⟨k9,0,none⟩ = false:=frozen_of_heap hz5
  obtain ⟨y0,y1,y2,y3,y4,y5⟩:=six_cells hz6
  have HZ6:=Lib.hid hz6;have HU6:=Lib.hid hU6;have HU6W:=Lib.hid hU6w;have HI5:=Lib.hid hI5;have HN5:=Lib.hid hn5;have HF5:=Lib.hid hf5';have HI5L:=Lib.hid hI5l;have HL5:=Lib.hid hL5;have HUW:=Lib.hid hUw;have HE5:=Lib.hid hN5;have HS5:=Lib.hid hS5;have HLF5:=Lib.hid hLf5;have HBB5:=Lib.hid hb5;have HCHK5:=Lib.hid hchk5;have HCHKW:=Lib.hid hchkw;have HCHKL5:=Lib.hid hchkL5;have HC5:=Lib.hid hc5
  clear hz6 hU6 hU6w hI5 hn5 hf5' hf5 hI5l hL5 hUw hN5 hS5 hLf5 hb5 hchk5 hchkw hchkL5 hlog5 hlog6 hmor6 hlogw hb7 r1 r2 hU5 hz5 HTW HZ9 HSZ HIZ hc5
  go_wp2_with fail
  refine HCC.out.mono ?_
  rintro e w8 ⟨g9,c9,rfl,hI9,hc9,hB9,hg9⟩
  have hs7 : w6.heap.size < (w6.alloc (.cells #[.slice la lg.x.log.length lc,.slice a5 mm c5] 67)).heap.size:=by rw [World.size_alloc];omega
  have hB68 : Below w6.heap.size w6 w8:=HB7.out.trans (hB9.mono (by omega))
  have hz8:=(hB68.block k9 (heap_lt HZ6.out)).trans HZ6.out
  have hg68 : w6.heap.size < g9:=by omega
  have hg98 : g9 < w8.heap.size:=ints_lt hI9 (by omega) ⟨g9,0,none⟩ rfl
  have hk9e : k9 < w6.heap.size:=heap_lt HZ6.out
  obtain ⟨w9,hw9⟩ : ∃ w9,w8.setCell ⟨k9,5,none⟩ (.slice (some ⟨g9,0,none⟩) (lg.x.log.length + mm) c9) = w9:=⟨_,rfl⟩
  have hU9 : Upd [k9] w8 w9 [k9]:=by rw [← hw9];exact upd_set w8 k9 5 _
  have hz9 : w9.heap[k9]? = some (.cells #[.int .i64 (lg.x.gen + 1),.int .i64 lg.x.base,.int .i64 lg.x.size,.int .i64 lg.x.cg,.slice ca lg.x.chk.length cc,.slice (some ⟨g9,0,none⟩) (lg.x.log.length + mm) c9] 69 (0,0)):=by
   rw [← hw9];exact Lib.heap_setCell_same (i:=5) hz8 _
  have hU59 : Upd [k9] w5 w9 [k9]:=(HU6.out.trans (Upd.of_below hB68)).trans hU9
  have hU9w : Upd L w w9 L5:=upd_new HUW.out hU59 (by omega)
  have hs9:=hU9.size
  have hs59:=hU59.size
  have ne9 : ∀ k,k ≠ k9 → k ∉ [k9]:=fun k hk g=>hk (List.mem_singleton.1 g)
  have hb9 : w9.heap[b]? = some (lgObj d lg ca cc la lc):=(hU9w.block b hbb HBL.out).trans HK.out.blk
  have hD9 : Dk w9 L5 d s1:=HL5.out.dk.keep fun k hk=>hU59.block k (HL5.out.dk.lt k hk) (ne9 k (fun e=>hk9L5 (by rw [← e];exact hk)))
  have hL9 : LS w9 L5 b d lg s1:=ls_gen HK.out HK2.out HK3.out rfl (Upd.wide hU9w) hb9 hD9 hbL5
  have hN9:=(hU59.block w.heap.size (by omega) (ne9 _ (by omega))).trans HE5.out
  have hS9:=strs_upd HS5.out (fun _ y hy=>by cases hy;exact ne9 g7 hgk.symm) hU59
  have hLf9:=left_upd HLF5.out (fun y hy=>by cases hy;exact ne9 g8 h89) hU59
  have hmor9:=ints_upd HI5.out (fun _ y hy=>ne9 _ (by have:=(HF5.out y hy).1;omega)) hU59
  have hchk9:=ints_upd HCHK5.out (fun h0 y hy=>ne9 _ (by have:=HCHKW.out h0 y hy;omega)) hU59
  have hlog9 : IntsAt w9 (some ⟨g9,0,none⟩) (lg.x.log.length + mm) (lg.x.log ++ more):=ints_upd hI9 (fun _ y hy=>by cases hy;exact ne9 g9 (by omega)) hU9
  have hsup : SupAt w9 (grow lg.x more) ca lg.x.chk.length (some ⟨g9,0,none⟩) (lg.x.log.length + mm):=⟨hchk9,hlog9,by omega,by omega⟩
  have hst:=store_ls L5 b d (n + 600) lg s1 w9 hL9 HOK1.out (by have:=HV.out.nn;omega) (grow lg.x more) ca (some ⟨g9,0,none⟩) lg.x.chk.length cc (lg.x.log.length + mm) c9 hsup (by omega) (by omega) HFIT.out c1 s2 HL.out
  simp only [supV,grow] at hst
  have HST:=Lib.hid hst
  have x5' : w8.cell? ⟨k9,5,none⟩ = some (.slice la lg.x.log.length lc):=cell_of_heap hz8
  have f5 : w8.frozen? ⟨k9,5,none⟩ = false:=frozen_of_heap hz8
  obtain ⟨v0,v1,v2,v3,v4,v5⟩:=six_cells hz9
  have HU9W:=Lib.hid hU9w;have HE9:=Lib.hid hN9;have HBB9:=Lib.hid hb9;have HL9:=Lib.hid hL9;have HS9:=Lib.hid hS9;have HLF9:=Lib.hid hLf9;have HMOR9:=Lib.hid hmor9;have HCHK9:=Lib.hid hchk9;have HLOG9:=Lib.hid hlog9;have HK9:=Lib.hid hz9;have HC9:=Lib.hid hc9
  have hg9L5 : g9 ∉ L5:=fun hm=>by have:=HL5.out.dk.lt _ hm;omega
  have hl9 : w9.heap.size = w9.heap.size:=rfl
  have hg9w : w.heap.size < g9:=by omega
  clear hI9 hc9 hB9 hB68 hz8 hU9 hz9 hU59 hU9w hb9 hD9 hL9 hN9 hS9 hLf9 hmor9 hchk9 hlog9 hsup hst hl9 HCC HB7 HZ6 HU6 HU6W HI5 HL5 HUW HE5 HS5 HLF5 HBB5 HCHK5 x0 x1 x2 x3 x4 x5 y0 y1 y2 y3 y4 y5 f0 hg9 HC5
  go_wp2_with fail
  refine HST.out.mono ?_
  rintro e w10 hrz
  clear v0 v1 v2 v3 v4 v5 x5' f5 hw6 hw9
  have h95 : w5.heap.size ≤ w9.heap.size:=by omega
  have hwL5c : w.heap.size ∉ b :: L5:=fun hm=>by
   rcases List.mem_cons.1 hm with g | g
   ·omega
   ·exact hwL5 g
  obtain ⟨rfl,⟨L10,hL10,hU10⟩,hDT⟩:=hrz.2 hc1
  have hlp : w.heap.size < w9.heap.size:=heap_lt HE9.out
  have hUx:=(Upd.wide (b:=b) HU9W.out).trans hU10
  have hNx:=(hU10.block w.heap.size hlp hwL5c).trans HE9.out
  have hwx:=upd_out hU10 hlp hwL5c
  have hbx:=hDT ca cc la lc HBB9.out
  have hbnx : b ∉ L10:=by obtain ⟨_,_,_,_,_,_,g,_⟩:=hL10;exact g
  have hltx : b < w10.heap.size:=by have:=hUx.size;omega
  have hend:=ls_gen (lg':={ lg with dead:=true }) HK.out HK2.out HK3.out rfl (upd_own hUx 0 (.int .i64 c1)) ((own_block 0 _ hltx (by omega)).trans hbx) (hL10.dk.keep fun k hk=>own_block 0 _ (hL10.dk.lt k hk) (fun e=>hwx (by rw [← e];exact List.mem_cons_of_mem _ hk))) hbnx
  have HEND:=Lib.hid (show Told w L b d c1 { lg with dead:=true } s2 (.returned (.int .i64 c1)) (w10.setCell ⟨w.heap.size,0,none⟩ (.int .i64 c1)) from ⟨rfl,L10,hend,upd_own hUx 0 (.int .i64 c1)⟩)
  have HC:=Lib.hid (acatch_yes ⟨w.heap.size,0,none⟩ c1 0 w10 (cell_of_heap hNx) (frozen_of_heap hNx))
  have HRES:=Lib.hid (cell_of_heap (i:=0) (Lib.heap_setCell_same (i:=0) hNx (.int .i64 c1)))
  clear hUx hNx hwx hbx hbnx hltx hend hL10 hU10 hDT
  refine leaves_cons (f:=54) (args:=#[.pointer (some ⟨w.heap.size,0,none⟩)]) (by simp) (by simp [go_sem]) ?_
  refine HC.out.mono ?_
  rintro e u' w9 ⟨rfl,rfl,hw9⟩
  have hres:=HRES.out
  rw [← hw9] at hres HEND
  clear hw9 HC HRES
  simp [Leaves,settle,results,Tryz.results19]
  go_simp
  exact HEND.out
end Go.Proofs.YtnnakhdndmjmiaaGreat.Wal
/-
 The contract of Append: a log that goes on,where it grows: the batch is written behind the new superblock.
-/
set_option linter.unusedVariables false
set_option maxRecDepth 4000
namespace Go.Proofs.YtnnakhdndmjmiaaGreat.Wal
open Go.RowKit DiskP SegsP WalP Disk
open Ints (IntsAt IntsAt.keep cellsI)
open SuperP (Sup)
open FrameP (frs sz Rec tk)
set_option maxHeartbeats 4000000 in
theorem append_grow (L : List Nat) (b d n : Nat) (lg : Lg) (st : St) (w : World) (h : LS w L b d lg st) (hv : Lv lg st n) (recs : List (List UInt8)) (a : Option Addr) (nr cap : Nat) (hS : StrsAt w a nr (recs.map bs)) (ht : Takes recs) (hf : recs.length ≤ 100)
  (mm : Nat) (hmm : SegsP.need ((pc (frs recs).length : Int) - (((secs lg.x.log).length - lg.pos : Nat) : Int)) = (mm : Int)) (hmp : 0 < mm) (hmh : mm ≤ 64)
  (more : List Int) (hmo : (WalP.free lg st.S.length).take mm = more) (hfu : mm ≤ (WalP.free lg st.S.length).length) (s1 : St) (he : er st false (secs more) = (0,s1)) (s2 : St) (hfit : SuperP.Fit (grow lg.x more)) (hl : lay s1 (grow lg.x more) = (0,s2)) (c : Int) (s3 : St) (hr : puts s2 (((secs (grow lg.x more).log).drop lg.pos).zip (seald (lg.num + 1).toNat (frs recs))) = (c,s3)) :
  Calls Tryz.prog 19 #[.pointer (some ⟨b,0,none⟩),.slice a nr cap] w (fun e w'=>(c = 0 → Told w L b d 0 { x:=grow lg.x more,pos:=lg.pos + pc (frs recs).length,num:=lg.num + 1,dead:=false } s3 e w') ∧ (c ≠ 0 → Told w L b d c { lg with dead:=true } s3 e w')):=by
 have hf1:=hmf
 obtain ⟨hll,h0,hsl⟩:=hv.logs
 have hal:=hv.alive;have hrn:=hv.run;have hnum:=hv.num;have hpos:=hv.pos
 have hnr : nr = recs.length:=by rw [← hS.1,List.length_map]
 have hnr0 : ((nr : Int) == 0) = false:=beq_eq_false_iff_ne.2 (by
  have h9:=ht.1
  intro h8
  exact h9 (List.length_eq_zero_iff.1 (by omega)))
 have hszf : (bs (frs recs)).size ≤ 16384:=by rw [bs_size,FrameP.frs_length];exact ht.2.2
 have hfits : Fits (lg.num + 1).toNat (frs recs):=takes_fits ht (by omega) (by omega)
 have hpcs : pc (frs recs).length ≤ 512:=hfits.2.2
 have hkp1 : 1 ≤ pc (frs recs).length:=pc_pos _
 have hkp1 : 1 ≤ pc (frs recs).length:=pc_pos _
 have hkp1 : 1 ≤ pc (frs recs).length:=pc_pos _
 have hkp1 : 1 ≤ pc (frs recs).length:=pc_pos _
 have hkp1 : 1 ≤ pc (frs recs).length:=pc_pos _
 have hkp1 : 1 ≤ pc (frs recs).length:=pc_pos _
 have hb0 : Below w.heap.size w (w.alloc (.cells #[.int .i64 0] 27)):=(Below.refl _ w).alloc (Nat.le_refl _) _
 have hn0:=heap_alloc_new w (.cells #[.int .i64 0] 27)
 have HS0:=Lib.hid (show (w.alloc (.cells #[.int .i64 0] 27)).heap.size = w.heap.size + 1 by simp)
 have HRY:=Lib.hid (ready_yes L b d lg st _ (h.below hb0) hal hrn)
 have HPT:=Lib.hid (fun w1 (hb : Below w.heap.size w w1)=>put_takes recs a nr cap w1 (hS.keep hb) ht hf)
 have hsp:=fun w1=>split_any (bs (frs recs)) w1 (by omega)
 rw [parts_bs] at hsp
 unfold SplitMade at hsp
 rw [List.length_map,pts_length] at hsp
 have HSP:=Lib.hid hsp
 have hlf:=fun w1 (h1 : LS w1 L b d lg st)=>left_row L b d lg st w1 h1 (by omega) h0 hpos
 have hrl : ((secs lg.x.log).drop lg.pos).length = (secs lg.x.log).length - lg.pos:=List.length_drop
 have HLF:=Lib.hid hlf
 have HLS:=Lib.hid (fun w1 (hb : Below w.heap.size w w1)=>h.below hb)
 have HSPT:=Lib.hid (seal_parts hfits)
 have hbb:=h.lk.lt
 have HLT:=Lib.hid h.dk.lt
 have H:=Lib.hid h
 have hh:=h
 obtain ⟨hD,ca,cc,la,lc,hk,k1,k2,k3⟩:=hh
 obtain ⟨z0,z1,z2,z3,z4,z5,z6,z7,z8,z9⟩:=lk_cells hk
 have hsix : sixAt w b lg.x ca cc la lc:=⟨z1,z2,z3,z4,z5,z6⟩
 have H6:=Lib.hid hsix;have H0:=Lib.hid z0;have H7:=Lib.hid z7;have H8:=Lib.hid z8
 have HK:=Lib.hid hk;have HK1:=Lib.hid k1;have HK2:=Lib.hid k2;have HK3:=Lib.hid k3;have HD:=Lib.hid hD
 have hnm : (lg.num == 1099511627776) = false:=beq_eq_false_iff_ne.2 (by omega)
 have HB0:=Lib.hid hb0;have HN0:=Lib.hid hn0;have HV:=Lib.hid hv
 have hrb : (((secs lg.x.log).length - lg.pos : Nat) : Int) = ((secs lg.x.log).length : Int) - lg.pos:=by omega
 have hR8 : (secs lg.x.log).length ≤ 504:=by omega
 have hbL : b ∉ L:=k1
 have HBL:=Lib.hid hbL
 obtain ⟨nn,hnn⟩ : ∃ nn : Nat,(lg.num + 1).toNat = nn:=⟨_,rfl⟩
 rw [hnn] at HSPT
 obtain ⟨kp,hkp⟩ : ∃ kp,pc (frs recs).length = kp:=⟨_,rfl⟩
 obtain ⟨lr,hlr⟩ : ∃ lr,(secs lg.x.log).length - lg.pos = lr:=⟨_,rfl⟩
 rw [hkp] at HSP HSPT hpcs hkp1
 rw [hlr] at HLF hrb hrl
 have HRL:=Lib.hid hrl
 have hlr5 : lr ≤ 504:=by omega
 have hps5 : lg.pos ≤ 504:=by omega
 have HLRE:=Lib.hid hlr
 rw [hkp,hlr] at hmm
 have hnx:=fun w1=>need_any ((kp : Int) - lr) w1 (by omega) (by omega)
 rw [hmm] at hnx
 have HNEED:=Lib.hid hnx
 have hroom : kp ≤ lr + 8 * mm:=by
  have h9:=WalP.need_room (m:=((kp : Int) - lr))
  rw [hmm] at h9
  omega
 have HTK:=Lib.hid (fun w1 (h1 : LS w1 L b d lg st)=>by
  have h9:=take_yes L b d n mm lg st w1 h1 hv.tk (by omega) (by have:=hv.gen;omega) hfu 0 s1 (by rw [hmo];exact he) rfl
  rw [hmo] at h9
  exact h9)
 have hng:=fit_nums hv.fit
 have hgw : IntKind.i64.wrap (lg.x.gen + 1) = lg.x.gen + 1:=by have:=hv.gen;rw [IntWalk.i64_in] <;> omega
 have hmlen : more.length = mm:=by rw [← hmo,List.length_take];omega
 have hsm : (secs more).length = 8 * mm:=by
  rw [secs_length (l:=more) (fun k hk=>fit_range hfit k (List.mem_append_right _ (List.mem_append_right _ hk))),hmlen]
 have hok1 : Ok (n + 600) s1:=by
  have h9:=er_ok (secs more) st false n hv.ok
  rw [he] at h9
  exact h9.mono (by omega)
 have hok2 : Ok (n + 610) s2:=by
  have h9:=lay_ok (x:=grow lg.x more) hok1
  rw [hl] at h9
  exact h9
 have hdr : (secs (lg.x.log ++ more)).drop lg.pos = (secs lg.x.log).drop lg.pos ++ secs more:=by
  rw [secs_app,List.drop_append,Nat.sub_eq_zero_of_le hpos,List.drop_zero]
 have HDR:=Lib.hid hdr
 have hlogn : (secs lg.x.log).length ≤ 504:=hR8
 have HLOGN:=Lib.hid hlogn;have HPOS:=Lib.hid hpos
 have HMO:=Lib.hid hmlen;have HSM:=Lib.hid hsm;have HOK1:=Lib.hid hok1;have HOK2:=Lib.hid hok2;have HL:=Lib.hid hl;have HFIT:=Lib.hid hfit
 have hchk80 : lg.x.chk.length ≤ 80:=by have h9:=hv.tk.len;rw [List.length_append] at h9;omega
 have hr2 : puts s2 (((secs lg.x.log).drop lg.pos ++ secs more).zip (seald nn (frs recs))) = (c,s3):=by rw [← hdr,← hnn];exact hr
 have HR:=Lib.hid hr2
 clear hr hr2
 have HNN:=Lib.hid (show ((nn : Nat) : Int) = lg.num + 1 by omega)
 clear hnn hbL hmm hnx hmlen hsm hok1 hok2 hl hfit he hmo hdr hlogn
 clear hv hS ht hsp hlf h hD hk k1 k2 k3 z0 z1 z2 z3 z4 z5 z6 z7 z8 z9 hsix hb0 hn0 hfits hrl hnr hrb hsl hlr hR8 hpos
 generalize bs (frs recs) = fb at *
 obtain ⟨nm,hnmn⟩ : ∃ nm,lg.num = nm:=⟨_,rfl⟩
 have HNM:=Lib.hid hnmn
 rw [hnmn] at hnm hnum H7 HNN
 clear hnmn
 go_enter_defers Tryz.func19,Tryz.ntmps19
 go_wp2_with fail
 refine HRY.out.mono ?_
 rintro e w1 ⟨rfl,rfl⟩
 go_wp2_with fail
 refine (HPT.out _ HB0.out).mono ?_
 rintro e w1 ⟨rfl,hb1⟩
 have hB1:=HB0.out.trans (hb1.mono HB0.out.size)
 have HB1:=Lib.hid hB1
 have HN1:=Lib.hid ((hb1.block w.heap.size (by rw [HS0.out];omega)).trans HN0.out)
 have d7 : w1.cell? ⟨b,7,none⟩ = some (.int .i64 nm):=(hB1.cell (p:=⟨b,7,none⟩) hbb).trans H7.out
 have hw1 : w.heap.size < w1.heap.size:=by have h9:=hb1.size;rw [HS0.out] at h9;omega
 clear hb1 hB1 HB0 HN0 HRY HPT
 go_wp2_with fail
 refine (raise_no w1).mono ?_
 rintro e w2 ⟨rfl,rfl⟩
 go_wp2_with fail
 apply join6 (F:=fun wz g7 c7 a8 c8 k9=>Hid (Below w1.heap.size w1 wz ∧ StrsAt wz (some ⟨g7,0,none⟩) kp ((pts (frs recs)).map bs) ∧ w1.heap.size ≤ g7 ∧ LeftAt wz a8 c8 (secs lg.x.log) lg.pos ∧ lr ≤ c8 ∧ (a8 = none → c8 = 0) ∧ (∀ y,a8 = some y → w1.heap.size ≤ y.block) ∧
  wz.heap[k9]? = some (.cells #[.int .i64 lg.x.gen,.int .i64 lg.x.base,.int .i64 lg.x.size,.int .i64 lg.x.cg,.slice ca lg.x.chk.length cc,.slice la lg.x.log.length lc] 69 (0,0)) ∧ w1.heap.size ≤ k9 ∧ k9 ≠ g7 ∧ (∀ y,a8 = some y → y.block ≠ k9)))
 ·intro hG
  have hb1w : b < w1.heap.size:=by omega
  have h61:=six_keep H6.out hbb HB1.out
  have H6b:=Lib.hid h61.1
  have t0 : Below w1.heap.size w1 w1.drew:=(Below.refl _ w1).drew
  have s0 : sixAt w1.drew b lg.x ca cc la lc:=h61.1
  clear h61
  refine wp_region_noPanic ?_
  refine wp_region_held_drew (S:=(fun w'=>(w'.cell? ⟨b,1,none⟩ = some (.int .i64 lg.x.gen) ∧ w'.cell? ⟨b,2,none⟩ = some (.int .i64 lg.x.base) ∧ w'.cell? ⟨b,3,none⟩ = some (.int .i64 lg.x.size) ∧ w'.cell? ⟨b,4,none⟩ = some (.int .i64 lg.x.cg) ∧ w'.cell? ⟨b,5,none⟩ = some (.slice ca lg.x.chk.length cc) ∧ w'.cell? ⟨b,6,none⟩ = some (.slice la lg.x.log.length lc)) ∧ Below w1.heap.size w1 w')) (by kernel_rfl) (by first | exact ⟨s0,t0⟩) (fun hHeld=>?_)
  refine wpAnyH_take (i:=0) (v:=?v1) rfl ?s1 ?f1 ?r1 ?q1 (Or.inl ⟨?y1,?z1⟩) ?h1 ?k1
  case s1 | f1 | r1 | y1=>kernel_rfl
  case q1=>exact fun _ _ _ h=>h
  case z1=>(intro w' hSw;(try dsimp only at hSw);go_simp;(try with_reducible rfl))
  case h1=>exact hHeld
  refine wpAnyH_take (i:=2) (v:=?v2) rfl ?s2 ?f2 ?r2 ?q2 (Or.inl ⟨?y2,?z2⟩) ?h2 ?k2
  case s2 | f2 | r2 | y2=>kernel_rfl
  case q2=>exact fun _ _ _ h=>h
  case z2=>(intro w' hSw;(try dsimp only at hSw);go_simp;(try with_reducible rfl))
  case h2=>exact hHeld
  refine wpAnyH_take (i:=4) (v:=?v3) rfl ?s3 ?f3 ?r3 ?q3 (Or.inl ⟨?y3,?z3⟩) ?h3 ?k3
  case s3 | f3 | r3 | y3=>kernel_rfl
  case q3=>exact fun _ _ _ h=>h
  case z3=>(intro w' hSw;(try dsimp only at hSw);go_simp;(try with_reducible rfl))
  case h3=>exact hHeld
  refine wpAnyH_take (i:=5) (v:=?v4) rfl ?s4 ?f4 ?r4 ?q4 (Or.inl ⟨?y4,?z4⟩) ?h4 ?k4
  case s4 | f4 | r4 | y4=>kernel_rfl
  case q4=>exact fun _ _ _ h=>h
  case z4=>(intro w' hSw;(try dsimp only at hSw);go_simp;(try with_reducible rfl))
  case h4=>exact hHeld
  refine wpAnyH_take (i:=6) (v:=?v5) rfl ?s5 ?f5 ?r5 ?q5 (Or.inl ⟨?y5,?z5⟩) ?h5 ?k5
  case s5 | f5 | r5 | y5=>kernel_rfl
  case q5=>exact fun _ _ _ h=>h
  case z5=>(intro w' hSw;(try dsimp only at hSw);go_simp;(try with_reducible rfl))
  case h5=>exact hHeld
  refine wpAnyH_take (i:=7) (v:=?v6) rfl ?s6 ?f6 ?r6 ?q6 (Or.inl ⟨?y6,?z6⟩) ?h6 ?k6
  case s6 | f6 | r6 | y6=>kernel_rfl
  case q6=>exact fun _ _ _ h=>h
  case z6=>(intro w' hSw;(try dsimp only at hSw);go_simp;(try with_reducible rfl))
  case h6=>exact hHeld
  refine wpAnyH_ready (rs:=[1,8]) (by kernel_rfl) (by simp) ?_
  refine AllReadyH.cons rfl (fun K hK=>?_) (AllReadyH.cons rfl (fun K hK=>?_) AllReadyH.nil)
  ·go_simp
   refine (HSP.out _).mono ?_
   rintro e v1 ⟨gS,cS,rfl,hSS,hgS0,hb1⟩
   have hgS : w1.heap.size ≤ gS:=Nat.le_trans t0.size hgS0
   have q1:=six_next s0 hb1w t0 hb1
   have hgLt : gS ≠ v1.heap.size:=by have h5:=ints_lt2 hSS (by omega) ⟨gS,0,none⟩ rfl;have h6 : gS < v1.heap.size:=h5;omega
   refine hK.out _ _ q1 (fun hHeld1=>?_)
   clear hK K hHeld
   obtain ⟨s1,t1⟩:=q1
   refine wpAnyH_ready (rs:=[3,8]) (by kernel_rfl) (by simp) ?_
   refine AllReadyH.cons rfl (fun K hK=>?_) (AllReadyH.cons rfl (fun K hK=>?_) AllReadyH.nil)
   ·go_simp
    refine (HLF.out _ (HLS.out _ (HB1.out.trans (t1.mono HB1.out.size)))).mono ?_
    rintro e v2 ⟨aL,cL,rfl,hIL,hcL,hnL,hb2,hwL0⟩
    have hwL : ∀ y,aL = some y → w1.heap.size ≤ y.block:=fun y hy=>Nat.le_trans t1.size (hwL0 y hy)
    have hSS:=hSS.keep hb2
    have q2:=six_next s1 hb1w t1 hb2
    have hgLt : gS ≠ v2.heap.size:=by have h5:=ints_lt2 hSS (by omega) ⟨gS,0,none⟩ rfl;have h6 : gS < v2.heap.size:=h5;omega
    have hyLt : ∀ y,aL = some y → y.block ≠ v2.heap.size:=fun y hy=>by have:=left_lt hIL y hy;omega
    refine hK.out _ _ q2 (fun hHeld2=>?_)
    clear hK K hHeld1
    obtain ⟨s2,t2⟩:=q2
    refine wpAnyH_ready (rs:=[8]) (by kernel_rfl) (by simp) ?_
    refine AllReadyH.cons rfl (fun K hK=>?_) AllReadyH.nil
    ·go_simp
     have hb3a:=(Below.refl _ v2).alloc (Nat.le_refl _) zsup
     have hb3 : Below (v2).heap.size (v2) ((v2).alloc zsup):=⟨hb3a.os,hb3a.tape,hb3a.output,hb3a.size,hb3a.block⟩
     have hZ : ((v2).alloc zsup).heap[(v2).heap.size]? = some zsup:=heap_alloc_new (v2) zsup
     obtain ⟨k9,hk9e⟩ : ∃ k9,(v2).heap.size = k9:=⟨_,rfl⟩
     rw [hk9e] at hZ
     have hk9 : w1.heap.size ≤ k9:=by rw [← hk9e];exact t2.size
     have hk9l : k9 < ((v2).alloc zsup).heap.size:=by show k9 < ((v2).alloc zsup).heap.size;rw [World.size_alloc,hk9e];omega
     have hSS:=hSS.keep hb3
     have hIL:=hIL.keep hb3
     have hgk : gS ≠ k9:=by rw [← hk9e];exact hgLt
     have hyk : ∀ y,aL = some y → y.block ≠ k9:=by rw [← hk9e];exact hyLt
     have q3:=six_next s2 hb1w t2 hb3
     clear hb3a
     generalize hA3 : (v2).alloc zsup = v3 at *
     try rw [hk9e]
     have hgLt : gS ≠ v3.heap.size:=by have h5:=ints_lt2 hSS (by omega) ⟨gS,0,none⟩ rfl;have h6 : gS < v3.heap.size:=h5;omega
     have hyLt : ∀ y,aL = some y → y.block ≠ v3.heap.size:=fun y hy=>by have:=left_lt hIL y hy;omega
     refine hK.out _ _ q3 (fun hHeld3=>?_)
     clear hK K hHeld2
     obtain ⟨s3,t3⟩:=q3
     refine wpAnyH_take (i:=9) (v:=?v7) rfl ?s7 ?f7 ?r7 ?q7 (Or.inl ⟨?y7,?z7⟩) ?h7 ?k7
     case s7 | f7 | r7 | y7=>kernel_rfl
     case q7=>exact fun _ _ _ h=>h
     case z7=>(intro w' hSw;(try dsimp only at hSw);go_simp;(try with_reducible rfl))
     case h7=>exact hHeld3
     refine wpAnyH_take (i:=10) (v:=?v8) rfl ?s8 ?f8 ?r8 ?q8 (Or.inl ⟨?y8,?z8⟩) ?h8 ?k8
     case s8 | f8 | r8 | y8=>kernel_rfl
     case q8=>exact fun _ _ _ h=>h
     case z8=>(intro w' hSw;(try dsimp only at hSw);go_simp;(try with_reducible rfl))
     case h8=>exact hHeld3
     obtain ⟨wz4,hwz⟩ : ∃ wz,put6 v3 k9 (.int .i64 lg.x.gen) (.int .i64 lg.x.base) (.int .i64 lg.x.size) (.int .i64 lg.x.cg) (.slice ca lg.x.chk.length cc) (.slice la lg.x.log.length lc) = wz:=⟨_,rfl⟩
     have hu6:=upd_put6 v3 k9 (.int .i64 lg.x.gen) (.int .i64 lg.x.base) (.int .i64 lg.x.size) (.int .i64 lg.x.cg) (.slice ca lg.x.chk.length cc) (.slice la lg.x.log.length lc)
     have hz6:=heap_put6 hZ (.int .i64 lg.x.gen) (.int .i64 lg.x.base) (.int .i64 lg.x.size) (.int .i64 lg.x.cg) (.slice ca lg.x.chk.length cc) (.slice la lg.x.log.length lc)
     rw [hwz] at hu6 hz6
     have hq6 : Below w1.heap.size w1 wz4:=by rw [← hwz];exact below_put6 t3 hk9 _ _ _ _ _ _
     obtain ⟨y0,y1,y2,y3,y4,y5⟩:=zero_cells6 hZ |>.1
     obtain ⟨r0,r1,r2,r3,r4,r5⟩:=(zero_cells6 hZ).2
     have hwz' : ((((((v3.setCell ⟨k9,0,none⟩ (.int .i64 lg.x.gen)).setCell ⟨k9,1,none⟩ (.int .i64 lg.x.base)).setCell ⟨k9,2,none⟩ (.int .i64 lg.x.size)).setCell ⟨k9,3,none⟩ (.int .i64 lg.x.cg)).setCell ⟨k9,4,none⟩ (.slice ca lg.x.chk.length cc)).setCell ⟨k9,5,none⟩ (.slice la lg.x.log.length lc)) = wz4:=hwz
     have qz:=six_keep H6b.out hb1w hq6
     refine wpAnyH_ready (rs:=[11]) (by kernel_rfl) (by simp) ?_
     refine AllReadyH.cons rfl (fun K hK=>?_) AllReadyH.nil
     go_simp
     try rw [hwz']
     refine hK.out _ _ qz (fun hHeldZ=>?_)
     clear hK K
     refine wpAnyH_done (by kernel_rfl) ?_ _
     refine NoPanic.normal ?_
     exact hG wz4 gS cS aL cL k9 (Lib.hid ⟨hq6,strs_upd hSS (fun _ y hy=>by cases hy;simpa using hgk) hu6,hgS,left_upd hIL (fun y hy=>by have:=hyk y hy;simpa using this) hu6,hcL,hnL,hwL,hz6,hk9,hgk.symm,hyk⟩)
   ·go_simp
    have hb5a:=(Below.refl _ v1).alloc (Nat.le_refl _) zsup
    have hb5 : Below (v1).heap.size (v1) ((v1).alloc zsup):=⟨hb5a.os,hb5a.tape,hb5a.output,hb5a.size,hb5a.block⟩
    have hZ : ((v1).alloc zsup).heap[(v1).heap.size]? = some zsup:=heap_alloc_new (v1) zsup
    obtain ⟨k9,hk9e⟩ : ∃ k9,(v1).heap.size = k9:=⟨_,rfl⟩
    rw [hk9e] at hZ
    have hk9 : w1.heap.size ≤ k9:=by rw [← hk9e];exact t1.size
    have hk9l : k9 < ((v1).alloc zsup).heap.size:=by show k9 < ((v1).alloc zsup).heap.size;rw [World.size_alloc,hk9e];omega
    have hSS:=hSS.keep hb5
    have hgk : gS ≠ k9:=by rw [← hk9e];exact hgLt
    have q5:=six_next s1 hb1w t1 hb5
    clear hb5a
    generalize hA5 : (v1).alloc zsup = v5 at *
    try rw [hk9e]
    have hgLt : gS ≠ v5.heap.size:=by have h5:=ints_lt2 hSS (by omega) ⟨gS,0,none⟩ rfl;have h6 : gS < v5.heap.size:=h5;omega
    refine hK.out _ _ q5 (fun hHeld5=>?_)
    clear hK K hHeld1
    obtain ⟨s5,t5⟩:=q5
    refine wpAnyH_ready (rs:=[3]) (by kernel_rfl) (by simp) ?_
    refine AllReadyH.cons rfl (fun K hK=>?_) AllReadyH.nil
    ·go_simp
     refine (HLF.out _ (HLS.out _ (HB1.out.trans (t5.mono HB1.out.size)))).mono ?_
     rintro e v6 ⟨aL,cL,rfl,hIL,hcL,hnL,hb6,hwL0⟩
     have hwL : ∀ y,aL = some y → w1.heap.size ≤ y.block:=fun y hy=>Nat.le_trans t5.size (hwL0 y hy)
     have hSS:=hSS.keep hb6
     have hZ:=(hb6.block k9 hk9l).trans hZ
     have hk9l:=Nat.lt_of_lt_of_le hk9l hb6.size
     have hyk : ∀ y,aL = some y → y.block ≠ k9:=fun y hy=>by have:=hwL0 y hy;omega
     have q6:=six_next s5 hb1w t5 hb6
     have hgLt : gS ≠ v6.heap.size:=by have h5:=ints_lt2 hSS (by omega) ⟨gS,0,none⟩ rfl;have h6 : gS < v6.heap.size:=h5;omega
     have hyLt : ∀ y,aL = some y → y.block ≠ v6.heap.size:=fun y hy=>by have:=left_lt hIL y hy;omega
     refine hK.out _ _ q6 (fun hHeld6=>?_)
     clear hK K hHeld5
     obtain ⟨s6,t6⟩:=q6
     refine wpAnyH_take (i:=9) (v:=?v9) rfl ?s9 ?f9 ?r9 ?q9 (Or.inl ⟨?y9,?z9⟩) ?h9 ?k9
     case s9 | f9 | r9 | y9=>kernel_rfl
     case q9=>exact fun _ _ _ h=>h
     case z9=>(intro w' hSw;(try dsimp only at hSw);go_simp;(try with_reducible rfl))
     case h9=>exact hHeld6
     refine wpAnyH_take (i:=10) (v:=?v10) rfl ?s10 ?f10 ?r10 ?q10 (Or.inl ⟨?y10,?z10⟩) ?h10 ?k10
     case s10 | f10 | r10 | y10=>kernel_rfl
     case q10=>exact fun _ _ _ h=>h
     case z10=>(intro w' hSw;(try dsimp only at hSw);go_simp;(try with_reducible rfl))
     case h10=>exact hHeld6
     obtain ⟨wz7,hwz⟩ : ∃ wz,put6 v6 k9 (.int .i64 lg.x.gen) (.int .i64 lg.x.base) (.int .i64 lg.x.size) (.int .i64 lg.x.cg) (.slice ca lg.x.chk.length cc) (.slice la lg.x.log.length lc) = wz:=⟨_,rfl⟩
     have hu6:=upd_put6 v6 k9 (.int .i64 lg.x.gen) (.int .i64 lg.x.base) (.int .i64 lg.x.size) (.int .i64 lg.x.cg) (.slice ca lg.x.chk.length cc) (.slice la lg.x.log.length lc)
     have hz6:=heap_put6 hZ (.int .i64 lg.x.gen) (.int .i64 lg.x.base) (.int .i64 lg.x.size) (.int .i64 lg.x.cg) (.slice ca lg.x.chk.length cc) (.slice la lg.x.log.length lc)
     rw [hwz] at hu6 hz6
     have hq6 : Below w1.heap.size w1 wz7:=by rw [← hwz];exact below_put6 t6 hk9 _ _ _ _ _ _
     obtain ⟨y0,y1,y2,y3,y4,y5⟩:=zero_cells6 hZ |>.1
     obtain ⟨r0,r1,r2,r3,r4,r5⟩:=(zero_cells6 hZ).2
     have hwz' : ((((((v6.setCell ⟨k9,0,none⟩ (.int .i64 lg.x.gen)).setCell ⟨k9,1,none⟩ (.int .i64 lg.x.base)).setCell ⟨k9,2,none⟩ (.int .i64 lg.x.size)).setCell ⟨k9,3,none⟩ (.int .i64 lg.x.cg)).setCell ⟨k9,4,none⟩ (.slice ca lg.x.chk.length cc)).setCell ⟨k9,5,none⟩ (.slice la lg.x.log.length lc)) = wz7:=hwz
     have qz:=six_keep H6b.out hb1w hq6
     refine wpAnyH_ready (rs:=[11]) (by kernel_rfl) (by simp) ?_
     refine AllReadyH.cons rfl (fun K hK=>?_) AllReadyH.nil
     go_simp
     try rw [hwz']
     refine hK.out _ _ qz (fun hHeldZ=>?_)
     clear hK K
     refine wpAnyH_done (by kernel_rfl) ?_ _
     refine NoPanic.normal ?_
     exact hG wz7 gS cS aL cL k9 (Lib.hid ⟨hq6,strs_upd hSS (fun _ y hy=>by cases hy;simpa using hgk) hu6,hgS,left_upd hIL (fun y hy=>by have:=hyk y hy;simpa using this) hu6,hcL,hnL,hwL,hz6,hk9,hgk.symm,hyk⟩)
  ·go_simp
   have hb8a:=(Below.refl _ w1).alloc (Nat.le_refl _) zsup
   have hb8 : Below (w1).heap.size (w1.drew) ((w1.alloc zsup).drew):=⟨hb8a.os,hb8a.tape,hb8a.output,hb8a.size,hb8a.block⟩
   have hZ : ((w1.alloc zsup).drew).heap[(w1).heap.size]? = some zsup:=heap_alloc_new (w1) zsup
   obtain ⟨k9,hk9e⟩ : ∃ k9,(w1).heap.size = k9:=⟨_,rfl⟩
   rw [hk9e] at hZ
   have hk9 : w1.heap.size ≤ k9:=by rw [← hk9e];exact t0.size
   have hk9l : k9 < ((w1.alloc zsup).drew).heap.size:=by show k9 < ((w1).alloc zsup).heap.size;rw [World.size_alloc,hk9e];omega
   have q8:=six_next s0 hb1w t0 hb8
   clear hb8a
   generalize hA8 : (w1.alloc zsup).drew = v8 at *
   try rw [hk9e]
   refine hK.out _ _ q8 (fun hHeld8=>?_)
   clear hK K hHeld
   obtain ⟨s8,t8⟩:=q8
   refine wpAnyH_ready (rs:=[1]) (by kernel_rfl) (by simp) ?_
   refine AllReadyH.cons rfl (fun K hK=>?_) AllReadyH.nil
   ·go_simp
    refine (HSP.out _).mono ?_
    rintro e v9 ⟨gS,cS,rfl,hSS,hgS0,hb9⟩
    have hgS : w1.heap.size ≤ gS:=Nat.le_trans t8.size hgS0
    have hZ:=(hb9.block k9 hk9l).trans hZ
    have hk9l:=Nat.lt_of_lt_of_le hk9l hb9.size
    have hgk : gS ≠ k9:=by omega
    have q9:=six_next s8 hb1w t8 hb9
    have hgLt : gS ≠ v9.heap.size:=by have h5:=ints_lt2 hSS (by omega) ⟨gS,0,none⟩ rfl;have h6 : gS < v9.heap.size:=h5;omega
    refine hK.out _ _ q9 (fun hHeld9=>?_)
    clear hK K hHeld8
    obtain ⟨s9,t9⟩:=q9
    refine wpAnyH_ready (rs:=[3]) (by kernel_rfl) (by simp) ?_
    refine AllReadyH.cons rfl (fun K hK=>?_) AllReadyH.nil
    ·go_simp
     refine (HLF.out _ (HLS.out _ (HB1.out.trans (t9.mono HB1.out.size)))).mono ?_
     rintro e v10 ⟨aL,cL,rfl,hIL,hcL,hnL,hb10,hwL0⟩
     have hwL : ∀ y,aL = some y → w1.heap.size ≤ y.block:=fun y hy=>Nat.le_trans t9.size (hwL0 y hy)
     have hSS:=hSS.keep hb10
     have hZ:=(hb10.block k9 hk9l).trans hZ
     have hk9l:=Nat.lt_of_lt_of_le hk9l hb10.size
     have hyk : ∀ y,aL = some y → y.block ≠ k9:=fun y hy=>by have:=hwL0 y hy;omega
     have q10:=six_next s9 hb1w t9 hb10
     have hgLt : gS ≠ v10.heap.size:=by have h5:=ints_lt2 hSS (by omega) ⟨gS,0,none⟩ rfl;have h6 : gS < v10.heap.size:=h5;omega
     have hyLt : ∀ y,aL = some y → y.block ≠ v10.heap.size:=fun y hy=>by have:=left_lt hIL y hy;omega
     refine hK.out _ _ q10 (fun hHeld10=>?_)
     clear hK K hHeld9
     obtain ⟨s10,t10⟩:=q10
     refine wpAnyH_take (i:=9) (v:=?v11) rfl ?s11 ?f11 ?r11 ?q11 (Or.inl ⟨?y11,?z11⟩) ?h11 ?k11
     case s11 | f11 | r11 | y11=>kernel_rfl
     case q11=>exact fun _ _ _ h=>h
     case z11=>(intro w' hSw;(try dsimp only at hSw);go_simp;(try with_reducible rfl))
     case h11=>exact hHeld10
     refine wpAnyH_take (i:=10) (v:=?v12) rfl ?s12 ?f12 ?r12 ?q12 (Or.inl ⟨?y12,?z12⟩) ?h12 ?k12
     case s12 | f12 | r12 | y12=>kernel_rfl
     case q12=>exact fun _ _ _ h=>h
     case z12=>(intro w' hSw;(try dsimp only at hSw);go_simp;(try with_reducible rfl))
     case h12=>exact hHeld10
     obtain ⟨wz11,hwz⟩ : ∃ wz,put6 v10 k9 (.int .i64 lg.x.gen) (.int .i64 lg.x.base) (.int .i64 lg.x.size) (.int .i64 lg.x.cg) (.slice ca lg.x.chk.length cc) (.slice la lg.x.log.length lc) = wz:=⟨_,rfl⟩
     have hu6:=upd_put6 v10 k9 (.int .i64 lg.x.gen) (.int .i64 lg.x.base) (.int .i64 lg.x.size) (.int .i64 lg.x.cg) (.slice ca lg.x.chk.length cc) (.slice la lg.x.log.length lc)
     have hz6:=heap_put6 hZ (.int .i64 lg.x.gen) (.int .i64 lg.x.base) (.int .i64 lg.x.size) (.int .i64 lg.x.cg) (.slice ca lg.x.chk.length cc) (.slice la lg.x.log.length lc)
     rw [hwz] at hu6 hz6
     have hq6 : Below w1.heap.size w1 wz11:=by rw [← hwz];exact below_put6 t10 hk9 _ _ _ _ _ _
     obtain ⟨y0,y1,y2,y3,y4,y5⟩:=zero_cells6 hZ |>.1
     obtain ⟨r0,r1,r2,r3,r4,r5⟩:=(zero_cells6 hZ).2
     have hwz' : ((((((v10.setCell ⟨k9,0,none⟩ (.int .i64 lg.x.gen)).setCell ⟨k9,1,none⟩ (.int .i64 lg.x.base)).setCell ⟨k9,2,none⟩ (.int .i64 lg.x.size)).setCell ⟨k9,3,none⟩ (.int .i64 lg.x.cg)).setCell ⟨k9,4,none⟩ (.slice ca lg.x.chk.length cc)).setCell ⟨k9,5,none⟩ (.slice la lg.x.log.length lc)) = wz11:=hwz
     have qz:=six_keep H6b.out hb1w hq6
     refine wpAnyH_ready (rs:=[11]) (by kernel_rfl) (by simp) ?_
     refine AllReadyH.cons rfl (fun K hK=>?_) AllReadyH.nil
     go_simp
     try rw [hwz']
     refine hK.out _ _ qz (fun hHeldZ=>?_)
     clear hK K
     refine wpAnyH_done (by kernel_rfl) ?_ _
     refine NoPanic.normal ?_
     exact hG wz11 gS cS aL cL k9 (Lib.hid ⟨hq6,strs_upd hSS (fun _ y hy=>by cases hy;simpa using hgk) hu6,hgS,left_upd hIL (fun y hy=>by have:=hyk y hy;simpa using this) hu6,hcL,hnL,hwL,hz6,hk9,hgk.symm,hyk⟩)
 ·intro wz g7 c7 a8 c8 k9 hF
  obtain ⟨hBz,hSz,hg7,hIz,hc8,hn8,hw8,hz9,hk9,hgk,hyk⟩:=hF.out
  have hBw : Below w.heap.size w wz:=HB1.out.trans (hBz.mono HB1.out.size)
  have hwr : IntKind.i64.wrap ((kp : Int) - (lr : Int)) = (kp : Int) - lr:=by rw [IntWalk.i64_in] <;> omega
  have hnp : (0 : Int) < (mm : Int):=by omega
  have HB4:=Lib.hid ((hBz.block w.heap.size (by omega)).trans HN1.out)
  have hwz : w.heap.size < wz.heap.size:=heap_lt HB4.out
  have HND:=Lib.hid (HNEED.out wz)
  have HTW:=Lib.hid (HTK.out wz (HLS.out wz hBw))
  have HBW:=Lib.hid hBw
  have hg7z : g7 < wz.heap.size:=ints_lt2 hSz (by omega) ⟨g7,0,none⟩ rfl
  have hk9z:=heap_lt hz9
  obtain ⟨g8,o8,rfl⟩:=left_some hIz
  have h8z : g8 < wz.heap.size:=left_lt hIz _ rfl
  have h81 : w1.heap.size ≤ g8:=hw8 _ rfl
  have h89 : g8 ≠ k9:=hyk _ rfl
  have HSZ:=Lib.hid hSz;have HIZ:=Lib.hid hIz;have HZ9:=Lib.hid hz9
  clear hF hSz hIz hn8 hw8 hz9 hyk hBz hBw HSP HLF HN1 HB1 H6 HNEED HTK
  go_wp2_with fail
  refine HND.out.mono ?_
  rintro e w4 ⟨rfl,rfl⟩
  clear HND hwr
  go_wp2_with fail
  refine HTW.out.mono ?_
  rintro e w5 ⟨a5,c5,L5,rfl,hI5,hc5,hn5,hf5,hL5,hU5⟩
  have hlw : ∀ k,w1.heap.size ≤ k → k ∉ L:=fun k hk hm=>by have:=HLT.out _ hm;omega
  have hwL : w.heap.size ∉ L:=fun hm=>Nat.lt_irrefl _ (HLT.out _ hm)
  have hUw : Upd L w w5 L5:=(Upd.of_below HBW.out).trans hU5
  have hz5:=(hU5.block k9 hk9z (hlw k9 hk9)).trans HZ9.out
  have hN5:=(hU5.block w.heap.size hwz hwL).trans HB4.out
  have hS5:=strs_upd HSZ.out (fun _ y hy=>by cases hy;exact hlw g7 hg7) hU5
  have hLf5:=left_upd HIZ.out (fun y hy=>by cases hy;exact hlw g8 h81) hU5
  have hk9L5:=upd_out hU5 hk9z (hlw k9 hk9)
  have hg7L5:=upd_out hU5 hg7z (hlw g7 hg7)
  have hg8L5:=upd_out hU5 h8z (hlw g8 h81)
  have hwL5:=upd_out hU5 hwz hwL
  have hb5 : w5.heap[b]? = some (lgObj d lg ca cc la lc):=(hUw.block b hbb HBL.out).trans HK.out.blk
  have hbL5 : b ∉ L5:=by obtain ⟨_,_,_,_,_,_,g,_⟩:=hL5;exact g
  have hs5:=hU5.size
  have hf5' : ∀ y,a5 = some y → wz.heap.size ≤ y.block ∧ y.block ∉ b :: L5:=hf5 (by omega)
  have hI5l : ∀ y,a5 = some y → y.block < w5.heap.size:=ints_lt hI5 (by omega)
  have hlog5 : IntsAt w5 la lg.x.log.length lg.x.log:=ints_upd HK.out.log (fun h0 y hy hm=>HK3.out h0 y hy (List.mem_cons_of_mem _ hm)) hUw
  have hchk5 : IntsAt w5 ca lg.x.chk.length lg.x.chk:=ints_upd HK.out.chk (fun h0 y hy hm=>HK2.out h0 y hy (List.mem_cons_of_mem _ hm)) hUw
  have hlogw : 0 < lg.x.log.length → ∀ y,la = some y → y.block < w.heap.size:=fun h0=>ints_lt HK.out.log h0
  have hchkw : 0 < lg.x.chk.length → ∀ y,ca = some y → y.block < w.heap.size:=fun h0=>ints_lt HK.out.chk h0
  have hchkL5 : 0 < lg.x.chk.length → ∀ y,ca = some y → y.block ∉ b :: L5:=fun h0 y hy=>upd_out (Upd.wide (b:=b) hUw) (hchkw h0 y hy) (HK2.out h0 y hy)
  -- the superblock's Gen
  obtain ⟨w6,hw6⟩ : ∃ w6,w5.setCell ⟨k9,0,none⟩ (.int .i64 (lg.x.gen + 1)) = w6:=⟨_,rfl⟩
  have hU6 : Upd [k9] w5 w6 [k9]:=by rw [← hw6];exact upd_set w5 k9 0 _
  have hz6 : w6.heap[k9]? = some (.cells #[.int .i64 (lg.x.gen + 1),.int .i64 lg.x.base,.int .i64 lg.x.size,.int .i64 lg.x.cg,.slice ca lg.x.chk.length cc,.slice la lg.x.log.length lc] 69 (0,0)):=by
   rw [← hw6];exact Lib.heap_setCell_same (i:=0) hz5 _
  have hU6w:=upd_new hUw hU6 (by omega)
  have hs6:=hU6.size
  have hlog6:=ints_other hlog5 (fun h0 y hy g=>by have:=hlogw h0 y hy;have:=List.mem_singleton.1 g;omega) hU6
  have hmor6:=ints_other hI5 (fun _ y hy g=>by have:=(hf5' y hy).1;have:=List.mem_singleton.1 g;omega) hU6
  have hb7 : Below w6.heap.size w6 (w6.alloc (.cells #[.slice la lg.x.log.length lc,.slice a5 mm c5] 67)):=(Below.refl _ w6).alloc (Nat.le_refl _) _
  have r1 : (w6.alloc (.cells #[.slice la lg.x.log.length lc,.slice a5 mm c5] 67)).cell? ⟨w6.heap.size,0,none⟩ = some (.slice la lg.x.log.length lc):=cell_of_heap (heap_alloc_new w6 _)
  have r2 : (w6.alloc (.cells #[.slice la lg.x.log.length lc,.slice a5 mm c5] 67)).cell? ⟨w6.heap.size,1,none⟩ = some (.slice a5 mm c5):=cell_of_heap (heap_alloc_new w6 _)
  have HCC:=Lib.hid (concat_at w6.heap.size la a5 lg.x.log.length lc mm c5 lg.x.log more _ (hlog6.keep hb7) (hmor6.keep hb7) HK.out.ln hn5 r1 r2 (by omega) (by omega) (by omega))
  have HB7:=Lib.hid hb7
  obtain ⟨x0,x1,x2,x3,x4,x5⟩:=six_cells hz5
  have f0 : w5.frozen? ⟨k9,0,none⟩ = false:=frozen_of_heap hz5
  obtain ⟨y0,y1,y2,y3,y4,y5⟩:=six_cells hz6
  have HZ6:=Lib.hid hz6;have HU6:=Lib.hid hU6;have HU6W:=Lib.hid hU6w;have HI5:=Lib.hid hI5;have HN5:=Lib.hid hn5;have HF5:=Lib.hid hf5';have HI5L:=Lib.hid hI5l;have HL5:=Lib.hid hL5;have HUW:=Lib.hid hUw;have HE5:=Lib.hid hN5;have HS5:=Lib.hid hS5;have HLF5:=Lib.hid hLf5;have HBB5:=Lib.hid hb5;have HCHK5:=Lib.hid hchk5;have HCHKW:=Lib.hid hchkw;have HCHKL5:=Lib.hid hchkL5;have HC5:=Lib.hid hc5
  clear hz6 hU6 hU6w hI5 hn5 hf5' hf5 hI5l hL5 hUw hN5 hS5 hLf5 hb5 hchk5 hchkw hchkL5 hlog5 hlog6 hmor6 hlogw hb7 r1 r2 hU5 hz5 HTW HZ9 HSZ HIZ hc5
  go_wp2_with fail
  refine HCC.out.mono ?_
  rintro e w8 ⟨g9,c9,rfl,hI9,hc9,hB9,hg9⟩
  have hs7 : w6.heap.size < (w6.alloc (.cells #[.slice la lg.x.log.length lc,.slice a5 mm c5] 67)).heap.size:=by rw [World.size_alloc];omega
  have hB68 : Below w6.heap.size w6 w8:=HB7.out.trans (hB9.mono (by omega))
  have hz8:=(hB68.block k9 (heap_lt HZ6.out)).trans HZ6.out
  have hg68 : w6.heap.size < g9:=by omega
  have hg98 : g9 < w8.heap.size:=ints_lt hI9 (by omega) ⟨g9,0,none⟩ rfl
  have hk9e : k9 < w6.heap.size:=heap_lt HZ6.out
  obtain ⟨w9,hw9⟩ : ∃ w9,w8.setCell ⟨k9,5,none⟩ (.slice (some ⟨g9,0,none⟩) (lg.x.log.length + mm) c9) = w9:=⟨_,rfl⟩
  have hU9 : Upd [k9] w8 w9 [k9]:=by rw [← hw9];exact upd_set w8 k9 5 _
  have hz9 : w9.heap[k9]? = some (.cells #[.int .i64 (lg.x.gen + 1),.int .i64 lg.x.base,.int .i64 lg.x.size,.int .i64 lg.x.cg,.slice ca lg.x.chk.length cc,.slice (some ⟨g9,0,none⟩) (lg.x.log.length + mm) c9] 69 (0,0)):=by
   rw [← hw9];exact Lib.heap_setCell_same (i:=5) hz8 _
  have hU59 : Upd [k9] w5 w9 [k9]:=(HU6.out.trans (Upd.of_below hB68)).trans hU9
  have hU9w : Upd L w w9 L5:=upd_new HUW.out hU59 (by omega)
  have hs9:=hU9.size
  have hs59:=hU59.size
  have ne9 : ∀ k,k ≠ k9 → k ∉ [k9]:=fun k hk g=>hk (List.mem_singleton.1 g)
  have hb9 : w9.heap[b]? = some (lgObj d lg ca cc la lc):=(hU9w.block b hbb HBL.out).trans HK.out.blk
  have hD9 : Dk w9 L5 d s1:=HL5.out.dk.keep fun k hk=>hU59.block k (HL5.out.dk.lt k hk) (ne9 k (fun e=>hk9L5 (by rw [← e];exact hk)))
  have hL9 : LS w9 L5 b d lg s1:=ls_gen HK.out HK2.out HK3.out rfl (Upd.wide hU9w) hb9 hD9 hbL5
  have hN9:=(hU59.block w.heap.size (by omega) (ne9 _ (by omega))).trans HE5.out
  have hS9:=strs_upd HS5.out (fun _ y hy=>by cases hy;exact ne9 g7 hgk.symm) hU59
  have hLf9:=left_upd HLF5.out (fun y hy=>by cases hy;exact ne9 g8 h89) hU59
  have hmor9:=ints_upd HI5.out (fun _ y hy=>ne9 _ (by have:=(HF5.out y hy).1;omega)) hU59
  have hchk9:=ints_upd HCHK5.out (fun h0 y hy=>ne9 _ (by have:=HCHKW.out h0 y hy;omega)) hU59
  have hlog9 : IntsAt w9 (some ⟨g9,0,none⟩) (lg.x.log.length + mm) (lg.x.log ++ more):=ints_upd hI9 (fun _ y hy=>by cases hy;exact ne9 g9 (by omega)) hU9
  have hsup : SupAt w9 (grow lg.x more) ca lg.x.chk.length (some ⟨g9,0,none⟩) (lg.x.log.length + mm):=⟨hchk9,hlog9,by omega,by omega⟩
  have hst:=store_ls L5 b d (n + 600) lg s1 w9 hL9 HOK1.out (by have:=HV.out.nn;omega) (grow lg.x more) ca (some ⟨g9,0,none⟩) lg.x.chk.length cc (lg.x.log.length + mm) c9 hsup (by omega) (by omega) HFIT.out 0 s2 HL.out
  simp only [supV,grow] at hst
  have HST:=Lib.hid hst
  have x5' : w8.cell? ⟨k9,5,none⟩ = some (.slice la lg.x.log.length lc):=cell_of_heap hz8
  have f5 : w8.frozen? ⟨k9,5,none⟩ = false:=frozen_of_heap hz8
  obtain ⟨v0,v1,v2,v3,v4,v5⟩:=six_cells hz9
  have HU9W:=Lib.hid hU9w;have HE9:=Lib.hid hN9;have HBB9:=Lib.hid hb9;have HL9:=Lib.hid hL9;have HS9:=Lib.hid hS9;have HLF9:=Lib.hid hLf9;have HMOR9:=Lib.hid hmor9;have HCHK9:=Lib.hid hchk9;have HLOG9:=Lib.hid hlog9;have HK9:=Lib.hid hz9;have HC9:=Lib.hid hc9
  have hg9L5 : g9 ∉ L5:=fun hm=>by have:=HL5.out.dk.lt _ hm;omega
  have hl9 : w9.heap.size = w9.heap.size:=rfl
  have hg9w : w.heap.size < g9:=by omega
  clear hI9 hc9 hB9 hB68 hz8 hU9 hz9 hU59 hU9w hb9 hD9 hL9 hN9 hS9 hLf9 hmor9 hchk9 hlog9 hsup hst hl9 HCC HB7 HZ6 HU6 HU6W HI5 HL5 HUW HE5 HS5 HLF5 HBB5 HCHK5 x0 x1 x2 x3 x4 x5 y0 y1 y2 y3 y4 y5 f0 hg9 HC5
  go_wp2_with fail
  refine HST.out.mono ?_
  rintro e w10 hrz
  clear v0 v1 v2 v3 v4 v5 x5' f5 hw6 hw9
  have h95 : w5.heap.size ≤ w9.heap.size:=by omega
  have hwL5c : w.heap.size ∉ b :: L5:=fun hm=>by
   rcases List.mem_cons.1 hm with g | g
   ·omega
   ·exact hwL5 g
  obtain ⟨rfl,L10,hL10,hU10⟩:=hrz.1 rfl
  have hbl9 : b < w9.heap.size:=heap_lt HBB9.out
  have hk9l : k9 < w9.heap.size:=heap_lt HK9.out
  have hwl9 : w.heap.size < w9.heap.size:=heap_lt HE9.out
  have hg7l : g7 < w9.heap.size:=ints_lt2 HS9.out (by omega) ⟨g7,0,none⟩ rfl
  have hg8l : g8 < w9.heap.size:=left_lt HLF9.out _ rfl
  have hg9l : g9 < w9.heap.size:=ints_lt HLOG9.out (by omega) ⟨g9,0,none⟩ rfl
  have h78 : g7 ≠ g8:=left_strs HS9.out (by omega) HLF9.out (by omega)
  have ha5L : ∀ y,a5 = some y → y.block ∉ L5:=fun y hy hm=>(HF5.out y hy).2 (List.mem_cons_of_mem _ hm)
  have hUw10 : Upd L w w10 L10:=HU9W.out.trans hU10
  have hz10:=(hU10.block k9 hk9l hk9L5).trans HK9.out
  have hN10:=(hU10.block w.heap.size hwl9 hwL5).trans HE9.out
  have hS10:=strs_upd HS9.out (fun _ y hy=>by cases hy;exact hg7L5) hU10
  have hLf10:=left_upd HLF9.out (fun y hy=>by cases hy;exact hg8L5) hU10
  have hmor10:=ints_upd HMOR9.out (fun _ y hy=>ha5L y hy) hU10
  have hchk10:=ints_upd HCHK9.out (fun h0 y hy hm=>HCHKL5.out h0 y hy (List.mem_cons_of_mem _ hm)) hU10
  have hlog10:=ints_upd HLOG9.out (fun _ y hy=>by cases hy;exact hg9L5) hU10
  have hbn10 : b ∉ L10:=upd_out hU10 hbl9 hbL5
  have hw10:=upd_out hU10 hwl9 hwL5
  have hk910:=upd_out hU10 hk9l hk9L5
  have hg710:=upd_out hU10 hg7l hg7L5
  have hg810:=upd_out hU10 hg8l hg8L5
  have hg910:=upd_out hU10 hg9l hg9L5
  have hs10:=hU10.size
  have hsc:=sectors_any a5 mm c5 more w10 hmor10 (by omega)
  unfold IntsOut at hsc
  rw [HSM.out] at hsc
  have HSC:=Lib.hid hsc
  have HUW10:=Lib.hid hUw10;have HK10:=Lib.hid hz10;have HE10:=Lib.hid hN10;have HS10:=Lib.hid hS10;have HLF10:=Lib.hid hLf10;have HCHK10:=Lib.hid hchk10;have HLOG10:=Lib.hid hlog10;have HL10:=Lib.hid hL10
  clear hrz hUw10 hz10 hN10 hS10 hLf10 hmor10 hchk10 hlog10 hL10 hU10 hsc ha5L HU9W HE9 HBB9 HL9 HS9 HLF9 HMOR9 HCHK9 HLOG9 HK9 HST HF5 HI5L HN5 HL HFIT HOK1
  go_wp2_with fail
  refine HSC.out.mono ?_
  rintro e w11 ⟨a11,c11,rfl,hI11,hc11,hn11,hB11,hw11⟩
  obtain ⟨ad,rfl⟩ : ∃ ad,a11 = some ad:=by
   rcases hI11.2.2 with e | ⟨b2,o2,e,_⟩
   ·omega
   ·exact ⟨_,e⟩
  have hadb : w10.heap.size ≤ ad.block:=hw11 ad rfl
  have hB11s:=hB11.size
  have HI11:=Lib.hid hI11;have HLF11:=Lib.hid (HLF10.out.keep hB11);have HB11:=Lib.hid hB11
  have hne8 : g8 ≠ ad.block:=by omega
  clear hI11 hc11 hn11 hB11 hw11 HSC HLF10
  go_wp2_with (at_builtin;refine append_left rfl (.tmp 64) (.tmp 66) rfl w11 (some ⟨g8,o8,none⟩) c8 lg.pos (secs lg.x.log) (secs more) ad lr (8 * mm) c11 rfl rfl HLRE.out.symm HLF11.out HI11.out HPOS.out (by have:=HLOGN.out;omega) (by omega) (by omega) (secs_fit _) (fun y hy=>by cases hy;exact hne8) ?_)
  intro a12 c12 w12 hI12 hc12 hn12 hf12 hU12
  have hU12':=hU12 [g8] (by simp)
  have hU02 : Upd [g8] w10 w12 [g8]:=(Upd.of_below HB11.out).trans hU12'
  have hUw12 : Upd L w w12 L10:=upd_new HUW10.out hU02 (by omega)
  have ne8 : ∀ k,k ≠ g8 → k ∉ [g8]:=fun k hk g=>hk (List.mem_singleton.1 g)
  have hs12:=hU02.size
  have hk9l' : k9 < w10.heap.size:=by omega
  have hb12 : w12.heap[b]? = some (lgObj d lg ca cc la lc):=(hUw12.block b hbb HBL.out).trans HK.out.blk
  have hD12 : Dk w12 L10 d s2:=HL10.out.dk.keep fun k hk=>hU02.block k (HL10.out.dk.lt k hk) (ne8 k (fun e=>hg810 (by rw [← e];exact hk)))
  have hL12 : LS w12 L10 b d lg s2:=ls_gen HK.out HK2.out HK3.out rfl (Upd.wide hUw12) hb12 hD12 hbn10
  have hN12:=(hU02.block w.heap.size (by omega) (ne8 _ (by omega))).trans HE10.out
  have hz12:=(hU02.block k9 hk9l' (ne8 _ (fun e=>h89 e.symm))).trans HK10.out
  have hS12:=strs_upd HS10.out (fun _ y hy=>by cases hy;exact ne8 g7 h78) hU02
  have hchk12:=ints_upd HCHK10.out (fun h0 y hy=>ne8 _ (by have:=HCHKW.out h0 y hy;omega)) hU02
  have hlog12:=ints_upd HLOG10.out (fun _ y hy=>by cases hy;exact ne8 g9 (by omega)) hU02
  have hf12' : ∀ y,a12 = some y → y.block ∉ b :: L10:=fun y hy hm=>by
   rcases hf12 y hy with he | h
   ·rcases List.mem_cons.1 hm with g | g
    ·omega
    ·exact hg810 (by rw [← he];exact g)
   ·rcases List.mem_cons.1 hm with g | g
    ·omega
    ·have:=HL10.out.dk.lt _ g;omega
  have hbg7 : g7 ∉ b :: L10:=fun hm=>by
   rcases List.mem_cons.1 hm with g | g
   ·omega
   ·exact hg710 g
  have hwr:=write_ls L10 b d (n + 610) lg s2 w12 hL12 HOK2.out a12 (lr + 8 * mm) c12 ((secs lg.x.log).drop lg.pos ++ secs more) hI12 (fun _ y hy=>hf12' y hy) (some ⟨g7,0,none⟩) kp c7 ((pts (frs recs)).map bs) (seald nn (frs recs)) hS12 (fun _ y hy=>by cases hy;exact hbg7) (by omega) (by have:=HV.out.nn;omega) (nn : Int) HSPT.out.1 HSPT.out.2.1 HSPT.out.2.2.1 HSPT.out.2.2.2 c s3 HR.out
  have HW:=Lib.hid hwr
  have d7 : w12.cell? ⟨b,7,none⟩ = some (.int .i64 nm):=by rw [← HNM.out];exact cell_of_heap hb12
  have hnn' : IntKind.i64.wrap (nm + 1) = ((nn : Nat) : Int):=by have:=HNN.out;rw [IntWalk.i64_in] <;> omega
  have HUW12:=Lib.hid hUw12;have HE12:=Lib.hid hN12;have HBB12:=Lib.hid hb12;have HK12:=Lib.hid hz12;have HCHK12:=Lib.hid hchk12;have HLOG12:=Lib.hid hlog12
  have hwL12 : w.heap.size ∉ b :: L10:=fun hm=>by
   rcases List.mem_cons.1 hm with g | g
   ·omega
   ·exact hw10 g
  clear hI12 hc12 hn12 hf12 hU12 hU12' hU02 hUw12 hb12 hD12 hL12 hN12 hz12 hS12 hchk12 hlog12 hf12' hwr HUW10 HK10 HE10 HS10 HLF11 HCHK10 HLOG10 HL10 HI11 HB11 HR HSPT
  go_wp2_with fail
  refine HW.out.mono ?_
  rintro e w13 hrz
  clear HW d7
  by_cases hc0 : c = 0
  rotate_left
  ·obtain ⟨rfl,⟨L13,hL13,hU13⟩,hDT⟩:=hrz.2 hc0
   have hlp : w.heap.size < w12.heap.size:=heap_lt HE12.out
   have hUx:=(Upd.wide (b:=b) HUW12.out).trans hU13
   have hNx:=(hU13.block w.heap.size hlp hwL12).trans HE12.out
   have hwx:=upd_out hU13 hlp hwL12
   have hbx:=hDT ca cc la lc HBB12.out
   have hbnx : b ∉ L13:=by obtain ⟨_,_,_,_,_,_,g,_⟩:=hL13;exact g
   have hltx : b < w13.heap.size:=by have:=hUx.size;omega
   have hend:=ls_gen (lg':={ lg with dead:=true }) HK.out HK2.out HK3.out rfl (upd_own hUx 0 (.int .i64 c)) ((own_block 0 _ hltx (by omega)).trans hbx) (hL13.dk.keep fun k hk=>own_block 0 _ (hL13.dk.lt k hk) (fun e=>hwx (by rw [← e];exact List.mem_cons_of_mem _ hk))) hbnx
   have HEND:=Lib.hid (show Told w L b d c { lg with dead:=true } s3 (.returned (.int .i64 c)) (w13.setCell ⟨w.heap.size,0,none⟩ (.int .i64 c)) from ⟨rfl,L13,hend,upd_own hUx 0 (.int .i64 c)⟩)
   have HC:=Lib.hid (acatch_yes ⟨w.heap.size,0,none⟩ c 0 w13 (cell_of_heap hNx) (frozen_of_heap hNx))
   have HRES:=Lib.hid (cell_of_heap (i:=0) (Lib.heap_setCell_same (i:=0) hNx (.int .i64 c)))
   clear hUx hNx hwx hbx hbnx hltx hend hL13 hU13 hDT
   refine leaves_cons (f:=54) (args:=#[.pointer (some ⟨w.heap.size,0,none⟩)]) (by simp) (by simp [go_sem]) ?_
   refine HC.out.mono ?_
   rintro e u' w9 ⟨rfl,rfl,hw9⟩
   have hres:=HRES.out
   rw [← hw9] at hres HEND
   clear hw9 HC HRES
   simp [Leaves,settle,results,Tryz.results19]
   go_simp
   exact HEND.out
  subst hc0
  obtain ⟨rfl,L13,hL13,hU13⟩:=hrz.1 rfl
  have hbl12 : b < w12.heap.size:=heap_lt HBB12.out
  have hk9l12 : k9 < w12.heap.size:=heap_lt HK12.out
  have hwl12 : w.heap.size < w12.heap.size:=heap_lt HE12.out
  have hg9l12 : g9 < w12.heap.size:=ints_lt HLOG12.out (by omega) ⟨g9,0,none⟩ rfl
  have hUw13 : Upd L w w13 L13:=HUW12.out.trans hU13
  have hb13 : w13.heap[b]? = some (lgObj d lg ca cc la lc):=(hU13.block b hbl12 hbn10).trans HBB12.out
  have hz13:=(hU13.block k9 hk9l12 hk910).trans HK12.out
  have hN13:=(hU13.block w.heap.size hwl12 hw10).trans HE12.out
  have hw13:=upd_out hU13 hwl12 hw10
  have hbn13:=upd_out hU13 hbl12 hbn10
  have hg913:=upd_out hU13 hg9l12 hg910
  have hchk13:=ints_upd HCHK12.out (fun h0 y hy hm=>upd_out (Upd.wide (b:=b) HUW12.out) (HCHKW.out h0 y hy) (HK2.out h0 y hy) (List.mem_cons_of_mem _ hm)) hU13
  have hlog13:=ints_upd HLOG12.out (fun _ y hy=>by cases hy;exact hg910) hU13
  obtain ⟨c0,c1,c2,c3,c4,c5,c6,c7,c8,c9'⟩ : w13.cell? ⟨b,0,none⟩ = some (.pointer (some ⟨d,0,none⟩)) ∧ w13.cell? ⟨b,1,none⟩ = some (.int .i64 lg.x.gen) ∧ w13.cell? ⟨b,2,none⟩ = some (.int .i64 lg.x.base) ∧ w13.cell? ⟨b,3,none⟩ = some (.int .i64 lg.x.size) ∧ w13.cell? ⟨b,4,none⟩ = some (.int .i64 lg.x.cg) ∧
   w13.cell? ⟨b,5,none⟩ = some (.slice ca lg.x.chk.length cc) ∧ w13.cell? ⟨b,6,none⟩ = some (.slice la lg.x.log.length lc) ∧ w13.cell? ⟨b,7,none⟩ = some (.int .i64 lg.num) ∧ w13.cell? ⟨b,8,none⟩ = some (.int .i64 (lg.pos : Int)) ∧ w13.cell? ⟨b,9,none⟩ = some (.bool lg.dead) :=
   ⟨cell_of_heap hb13,cell_of_heap hb13,cell_of_heap hb13,cell_of_heap hb13,cell_of_heap hb13,cell_of_heap hb13,cell_of_heap hb13,cell_of_heap hb13,cell_of_heap hb13,cell_of_heap hb13⟩
  rw [HNM.out] at c7
  obtain ⟨x0,x1,x2,x3,x4,x5⟩:=six_cells hz13
  have f1 : w13.frozen? ⟨b,1,none⟩ = false:=frozen_of_heap hb13
  have f2 : w13.frozen? ⟨b,2,none⟩ = false:=frozen_of_heap hb13
  have f3 : w13.frozen? ⟨b,3,none⟩ = false:=frozen_of_heap hb13
  have f4 : w13.frozen? ⟨b,4,none⟩ = false:=frozen_of_heap hb13
  have f5 : w13.frozen? ⟨b,5,none⟩ = false:=frozen_of_heap hb13
  have f6 : w13.frozen? ⟨b,6,none⟩ = false:=frozen_of_heap hb13
  have f7 : w13.frozen? ⟨b,7,none⟩ = false:=frozen_of_heap hb13
  have f8 : w13.frozen? ⟨b,8,none⟩ = false:=frozen_of_heap hb13
  have hps : IntKind.i64.wrap ((lg.pos : Int) + (kp : Int)) = (lg.pos : Int) + kp:=by rw [IntWalk.i64_in] <;> omega
  have hlt5 : w.heap.size < w13.heap.size:=heap_lt hN13
  have hu8:=upd_put8 w13 b (.int .i64 (lg.x.gen + 1)) (.int .i64 lg.x.base) (.int .i64 lg.x.size) (.int .i64 lg.x.cg) (.slice ca lg.x.chk.length cc) (.slice (some ⟨g9,0,none⟩) (lg.x.log.length + mm) c9) (.int .i64 (nn : Int)) (.int .i64 ((lg.pos : Int) + (kp : Int)))
  have hq8:=heap_put8 hb13 (.int .i64 (lg.x.gen + 1)) (.int .i64 lg.x.base) (.int .i64 lg.x.size) (.int .i64 lg.x.cg) (.slice ca lg.x.chk.length cc) (.slice (some ⟨g9,0,none⟩) (lg.x.log.length + mm) c9) (.int .i64 (nn : Int)) (.int .i64 ((lg.pos : Int) + (kp : Int)))
  obtain ⟨wq,hwq⟩ : ∃ wq,put8 w13 b (.int .i64 (lg.x.gen + 1)) (.int .i64 lg.x.base) (.int .i64 lg.x.size) (.int .i64 lg.x.cg) (.slice ca lg.x.chk.length cc) (.slice (some ⟨g9,0,none⟩) (lg.x.log.length + mm) c9) (.int .i64 (nn : Int)) (.int .i64 ((lg.pos : Int) + (kp : Int))) = wq:=⟨_,rfl⟩
  rw [hwq] at hu8 hq8
  have hnne : ((nn : Nat) : Int) = lg.num + 1:=HNN.out.trans (by rw [HNM.out])
  have hpe : (lg.pos : Int) + (kp : Int) = ((lg.pos + kp : Nat) : Int):=by omega
  have hll2 : (lg.x.log ++ more).length = lg.x.log.length + mm:=by rw [List.length_append,HMO.out]
  have hobj : lgObj d { x:=grow lg.x more,pos:=lg.pos + kp,num:=lg.num + 1,dead:=false } ca cc (some ⟨g9,0,none⟩) c9 = .cells #[.pointer (some ⟨d,0,none⟩),.int .i64 (lg.x.gen + 1),.int .i64 lg.x.base,.int .i64 lg.x.size,.int .i64 lg.x.cg,.slice ca lg.x.chk.length cc,.slice (some ⟨g9,0,none⟩) (lg.x.log.length + mm) c9,.int .i64 (lg.num + 1),.int .i64 ((lg.pos + kp : Nat) : Int),.bool false] 71 (0,0):=by
   unfold lgObj grow
   simp only [hll2]
  rw [hnne,hpe,hal] at hq8
  have HEND:=Lib.hid (app_end2 (lg':={ x:=grow lg.x more,pos:=lg.pos + kp,num:=lg.num + 1,dead:=false }) hUw13 hu8 (hq8.trans (congrArg some hobj.symm)) hL13.dk hbn13 hw13 hbb hlt5 hchk13 (by show IntsAt w13 (some ⟨g9,0,none⟩) (lg.x.log ++ more).length (lg.x.log ++ more);rw [hll2];exact hlog13) HK.out.cn (fun e=>by cases e)
   (fun h0 y hy=>⟨upd_out (Upd.wide (b:=b) hUw13) (HCHKW.out h0 y hy) (HK2.out h0 y hy),by have:=HCHKW.out h0 y hy;omega⟩)
   (fun _ y hy=>by
    cases hy
    refine ⟨fun hm=>?_,by show g9 ≠ _;omega⟩
    rcases List.mem_cons.1 hm with g | g
    ·have g' : g9 = b:=g;omega
    ·exact hg913 g))
  have hNq:=(hu8.block w.heap.size hlt5 (fun g=>by have:=List.mem_singleton.1 g;omega)).trans hN13
  have hN7:=Lib.heap_setCell_same (i:=0) hNq (.int .i64 0)
  have HNQ:=Lib.hid hNq
  have HN7 : Hid ((wq.setCell ⟨w.heap.size,0,none⟩ (.int .i64 0)).drew.heap[w.heap.size]? = some (.cells #[.int .i64 0] 27 (0,0))):=Lib.hid hN7
  have HCN:=Lib.hid (acatch_no ⟨w.heap.size,0,none⟩ 0 ((wq.setCell ⟨w.heap.size,0,none⟩ (.int .i64 0)).drew) (cell_of_heap HN7.out) (frozen_of_heap HN7.out))
  have HRES:=Lib.hid (cell_of_heap (i:=0) (Lib.heap_setCell_same (i:=0) HN7.out (.int .i64 0)))
  have hwq' : ((((((((w13.setCell ⟨b,1,none⟩ (.int .i64 (lg.x.gen + 1))).setCell ⟨b,2,none⟩ (.int .i64 lg.x.base)).setCell ⟨b,3,none⟩ (.int .i64 lg.x.size)).setCell ⟨b,4,none⟩ (.int .i64 lg.x.cg)).setCell ⟨b,5,none⟩ (.slice ca lg.x.chk.length cc)).setCell ⟨b,6,none⟩ (.slice (some ⟨g9,0,none⟩) (lg.x.log.length + mm) c9)).setCell ⟨b,7,none⟩ (.int .i64 (nn : Int))).setCell ⟨b,8,none⟩ (.int .i64 ((lg.pos : Int) + (kp : Int)))) = wq:=hwq
  have HWQ:=Lib.hid hwq'
  have hkb : ¬ k9 = b:=by omega
  clear hu8 hq8 hnne hpe hNq hN7 hwq hwq' hbn13 hw13 hUw13 hb13 hz13 hN13 hL13 hU13 hrz hobj hll2 hchk13 hlog13 hg913 HNN HUW12 HE12 HBB12 HK12 HCHK12 HLOG12
  go_wp2_with fail
  refine wp_region_noPanic ?_
  refine wp_region_any (by kernel_rfl) ?_
  change wpAny _ _ _ _ _ _ _ (World.drew _)
  refine wpAny_take (i:=0) (v:=?tv1) rfl (by kernel_rfl) (by kernel_rfl) (by kernel_rfl) (fun _ _ _ h=>h) (Or.inl ⟨by kernel_rfl,?ty1⟩) ?tk1
  case ty1=>(intro w';go_simp;(try with_reducible rfl))
  refine wpAny_take (i:=1) (v:=?tv2) rfl (by kernel_rfl) (by kernel_rfl) (by kernel_rfl) (fun _ _ _ h=>h) (Or.inl ⟨by kernel_rfl,?ty2⟩) ?tk2
  case ty2=>(intro w';go_simp;(try with_reducible rfl))
  refine wpAny_take (i:=2) (v:=?tv3) rfl (by kernel_rfl) (by kernel_rfl) (by kernel_rfl) (fun _ _ _ h=>h) (Or.inl ⟨by kernel_rfl,?ty3⟩) ?tk3
  case ty3=>(intro w';go_simp;(try with_reducible rfl))
  refine wpAny_take (i:=4) (v:=?tv4) rfl (by kernel_rfl) (by kernel_rfl) (by kernel_rfl) (fun _ _ _ h=>h) (Or.inl ⟨by kernel_rfl,?ty4⟩) ?tk4
  case ty4=>(intro w';go_simp;(try with_reducible rfl))
  refine wpAny_take (i:=5) (v:=?tv5) rfl (by kernel_rfl) (by kernel_rfl) (by kernel_rfl) (fun _ _ _ h=>h) (Or.inl ⟨by kernel_rfl,?ty5⟩) ?tk5
  case ty5=>(intro w';go_simp;(try with_reducible rfl))
  refine wpAny_take (i:=6) (v:=?tv6) rfl (by kernel_rfl) (by kernel_rfl) (by kernel_rfl) (fun _ _ _ h=>h) (Or.inl ⟨by kernel_rfl,?ty6⟩) ?tk6
  case ty6=>(intro w';go_simp;(try with_reducible rfl))
  refine wpAny_take (i:=9) (v:=?tv7) rfl (by kernel_rfl) (by kernel_rfl) (by kernel_rfl) (fun _ _ _ h=>h) (Or.inl ⟨by kernel_rfl,?ty7⟩) ?tk7
  case ty7=>(intro w';go_simp;(try with_reducible rfl))
  refine wpAny_take (i:=10) (v:=?tv8) rfl (by kernel_rfl) (by kernel_rfl) (by kernel_rfl) (fun _ _ _ h=>h) (Or.inl ⟨by kernel_rfl,?ty8⟩) ?tk8
  case ty8=>(intro w';go_simp;(try with_reducible rfl))
  refine wpAny_take (i:=11) (v:=?tv9) rfl (by kernel_rfl) (by kernel_rfl) (by kernel_rfl) (fun _ _ _ h=>h) (Or.inl ⟨by kernel_rfl,?ty9⟩) ?tk9
  case ty9=>(intro w';go_simp;(try with_reducible rfl))
  refine wpAny_take (i:=13) (v:=?tv10) rfl (by kernel_rfl) (by kernel_rfl) (by kernel_rfl) (fun _ _ _ h=>h) (Or.inl ⟨by kernel_rfl,?ty10⟩) ?tk10
  case ty10=>(intro w';go_simp;(try with_reducible rfl))
  refine wpAny_take (i:=14) (v:=?tv11) rfl (by kernel_rfl) (by kernel_rfl) (by kernel_rfl) (fun _ _ _ h=>h) (Or.inl ⟨by kernel_rfl,?ty11⟩) ?tk11
  case ty11=>(intro w';go_simp;(try with_reducible rfl))
  refine wpAny_ready (rs:=[3,7,12]) (by kernel_rfl) (by simp) ?_
  refine AllReady.cons rfl (fun K hK=>?_) (AllReady.cons rfl (fun K hK=>?_) (AllReady.cons rfl (fun K hK=>?_) AllReady.nil))
  ·go_simp
   refine hK _ _ ?_
   clear hK K
   refine wpAny_ready (rs:=[7,12]) (by kernel_rfl) (by simp) ?_
   refine AllReady.cons rfl (fun K hK=>?_) (AllReady.cons rfl (fun K hK=>?_) AllReady.nil)
   ·go_simp
    refine hK _ _ ?_
    clear hK K
    refine wpAny_take (i:=8) (v:=?tv12) rfl (by kernel_rfl) (by kernel_rfl) (by kernel_rfl) (fun _ _ _ h=>h) (Or.inl ⟨by kernel_rfl,?ty12⟩) ?tk12
    case ty12=>(intro w';go_simp;(try with_reducible rfl))
    refine wpAny_ready (rs:=[12]) (by kernel_rfl) (by simp) ?_
    refine AllReady.cons rfl (fun K hK=>?_) AllReady.nil
    ·go_simp
     refine hK _ _ ?_
     clear hK K
     refine wpAny_take (i:=15) (v:=?tv13) rfl (by kernel_rfl) (by kernel_rfl) (by kernel_rfl) (fun _ _ _ h=>h) (Or.inl ⟨by kernel_rfl,?ty13⟩) ?tk13
     case ty13=>(intro w';go_simp;(try with_reducible rfl))
     refine wpAny_take (i:=16) (v:=?tv14) rfl (by kernel_rfl) (by kernel_rfl) (by kernel_rfl) (fun _ _ _ h=>h) (Or.inl ⟨by kernel_rfl,?ty14⟩) ?tk14
     case ty14=>(intro w';go_simp;(try with_reducible rfl))
     refine wpAny_take (i:=17) (v:=?tv15) rfl (by kernel_rfl) (by kernel_rfl) (by kernel_rfl) (fun _ _ _ h=>h) (Or.inl ⟨by kernel_rfl,?ty15⟩) ?tk15
     case ty15=>(intro w';go_simp;(try with_reducible rfl))
     refine wpAny_ready (rs:=[18]) (by kernel_rfl) (by simp) ?_
     refine AllReady.cons rfl (fun K hK=>?_) AllReady.nil
     go_simp
     refine hK _ _ ?_
     clear hK K
     refine wpAny_take (i:=19) (v:=?tv16) rfl (by kernel_rfl) (by kernel_rfl) (by kernel_rfl) (fun _ _ _ h=>h) (Or.inl ⟨by kernel_rfl,?ty16⟩) ?tk16
     case ty16=>(intro w';go_simp;(try with_reducible rfl))
     refine wpAny_take (i:=20) (v:=?tv17) rfl (by kernel_rfl) (by kernel_rfl) (by kernel_rfl) (fun _ _ _ h=>h) (Or.inl ⟨by kernel_rfl,?ty17⟩) ?tk17
     case ty17=>(intro w';go_simp;(try with_reducible rfl))
     refine wpAny_ready (rs:=[21]) (by kernel_rfl) (by simp) ?_
     refine AllReady.cons rfl (fun K hK=>?_) AllReady.nil
     go_simp
     refine hK _ _ ?_
     clear hK K
     refine wpAny_take (i:=22) (v:=?tv18) rfl (by kernel_rfl) (by kernel_rfl) (by kernel_rfl) (fun _ _ _ h=>h) (Or.inl ⟨by kernel_rfl,?ty18⟩) ?tk18
     case ty18=>(intro w';go_simp;(try with_reducible rfl))
     refine wpAny_take (i:=23) (v:=?tv19) rfl (by kernel_rfl) (by kernel_rfl) (by kernel_rfl) (fun _ _ _ h=>h) (Or.inl ⟨by kernel_rfl,?ty19⟩) ?tk19
     case ty19=>(intro w';go_simp;(try with_reducible rfl))
     refine wpAny_ready (rs:=[24]) (by kernel_rfl) (by simp) ?_
     refine AllReady.cons rfl (fun K hK=>?_) AllReady.nil
     go_simp
     refine hK _ _ ?_
     clear hK K
     refine wpAny_done (by kernel_rfl) ?_ _
     refine NoPanic.normal ?_
     rw [HWQ.out]
     have qc:=cell_of_heap (i:=0) HNQ.out
     have qz:=frozen_of_heap (i:=0) HNQ.out
     clear c0 c1 c2 c3 c4 c5 c6 c7 c8 c9' f1 f2 f3 f4 f5 f6 f7 f8 x0 x1 x2 x3 x4 x5
     go_wp2_with fail
     refine leaves_cons (f:=54) (args:=#[.pointer (some ⟨w.heap.size,0,none⟩)]) (by simp) (by simp [go_sem]) ?_
     refine HCN.out.mono ?_
     rintro e u' w9 ⟨rfl,rfl,hw9⟩
     have hres:=HRES.out
     rw [← hw9] at hres HEND
     clear hw9 HCN HRES qc qz
     simp [Leaves,settle,results,Tryz.results19]
     go_simp
     exact ⟨rfl,L13,HEND.out.1,HEND.out.2⟩
   ·go_simp
    refine hK _ _ ?_
    clear hK K
    refine wpAny_take (i:=15) (v:=?tv20) rfl (by kernel_rfl) (by kernel_rfl) (by kernel_rfl) (fun _ _ _ h=>h) (Or.inl ⟨by kernel_rfl,?ty20⟩) ?tk20
    case ty20=>(intro w';go_simp;(try with_reducible rfl))
    refine wpAny_ready (rs:=[7]) (by kernel_rfl) (by simp) ?_
    refine AllReady.cons rfl (fun K hK=>?_) AllReady.nil
    ·go_simp
     refine hK _ _ ?_
     clear hK K
     refine wpAny_take (i:=8) (v:=?tv21) rfl (by kernel_rfl) (by kernel_rfl) (by kernel_rfl) (fun _ _ _ h=>h) (Or.inl ⟨by kernel_rfl,?ty21⟩) ?tk21
     case ty21=>(intro w';go_simp;(try with_reducible rfl))
     refine wpAny_take (i:=16) (v:=?tv22) rfl (by kernel_rfl) (by kernel_rfl) (by kernel_rfl) (fun _ _ _ h=>h) (Or.inl ⟨by kernel_rfl,?ty22⟩) ?tk22
     case ty22=>(intro w';go_simp;(try with_reducible rfl))
     refine wpAny_take (i:=17) (v:=?tv23) rfl (by kernel_rfl) (by kernel_rfl) (by kernel_rfl) (fun _ _ _ h=>h) (Or.inl ⟨by kernel_rfl,?ty23⟩) ?tk23
     case ty23=>(intro w';go_simp;(try with_reducible rfl))
     refine wpAny_ready (rs:=[18]) (by kernel_rfl) (by simp) ?_
     refine AllReady.cons rfl (fun K hK=>?_) AllReady.nil
     go_simp
     refine hK _ _ ?_
     clear hK K
     refine wpAny_take (i:=19) (v:=?tv24) rfl (by kernel_rfl) (by kernel_rfl) (by kernel_rfl) (fun _ _ _ h=>h) (Or.inl ⟨by kernel_rfl,?ty24⟩) ?tk24
     case ty24=>(intro w';go_simp;(try with_reducible rfl))
     refine wpAny_take (i:=20) (v:=?tv25) rfl (by kernel_rfl) (by kernel_rfl) (by kernel_rfl) (fun _ _ _ h=>h) (Or.inl ⟨by kernel_rfl,?ty25⟩) ?tk25
     case ty25=>(intro w';go_simp;(try with_reducible rfl))
     refine wpAny_ready (rs:=[21]) (by kernel_rfl) (by simp) ?_
     refine AllReady.cons rfl (fun K hK=>?_) AllReady.nil
     go_simp
     refine hK _ _ ?_
     clear hK K
     refine wpAny_take (i:=22) (v:=?tv26) rfl (by kernel_rfl) (by kernel_rfl) (by kernel_rfl) (fun _ _ _ h=>h) (Or.inl ⟨by kernel_rfl,?ty26⟩) ?tk26
     case ty26=>(intro w';go_simp;(try with_reducible rfl))
     refine wpAny_take (i:=23) (v:=?tv27) rfl (by kernel_rfl) (by kernel_rfl) (by kernel_rfl) (fun _ _ _ h=>h) (Or.inl ⟨by kernel_rfl,?ty27⟩) ?tk27
     case ty27=>(intro w';go_simp;(try with_reducible rfl))
     refine wpAny_ready (rs:=[24]) (by kernel_rfl) (by simp) ?_
     refine AllReady.cons rfl (fun K hK=>?_) AllReady.nil
     go_simp
     refine hK _ _ ?_
     clear hK K
     refine wpAny_done (by kernel_rfl) ?_ _
     refine NoPanic.normal ?_
     rw [HWQ.out]
     have qc:=cell_of_heap (i:=0) HNQ.out
     have qz:=frozen_of_heap (i:=0) HNQ.out
     clear c0 c1 c2 c3 c4 c5 c6 c7 c8 c9' f1 f2 f3 f4 f5 f6 f7 f8 x0 x1 x2 x3 x4 x5
     go_wp2_with fail
     refine leaves_cons (f:=54) (args:=#[.pointer (some ⟨w.heap.size,0,none⟩)]) (by simp) (by simp [go_sem]) ?_
     refine HCN.out.mono ?_
     rintro e u' w9 ⟨rfl,rfl,hw9⟩
     have hres:=HRES.out
     rw [← hw9] at hres HEND
     clear hw9 HCN HRES qc qz
     simp [Leaves,settle,results,Tryz.results19]
     go_simp
     exact ⟨rfl,L13,HEND.out.1,HEND.out.2⟩
  ·go_simp
   refine hK _ _ ?_
   clear hK K
   refine wpAny_take (i:=8) (v:=?tv28) rfl (by kernel_rfl) (by kernel_rfl) (by kernel_rfl) (fun _ _ _ h=>h) (Or.inl ⟨by kernel_rfl,?ty28⟩) ?tk28
   case ty28=>(intro w';go_simp;(try with_reducible rfl))
   refine wpAny_ready (rs:=[3,12]) (by kernel_rfl) (by simp) ?_
   refine AllReady.cons rfl (fun K hK=>?_) (AllReady.cons rfl (fun K hK=>?_) AllReady.nil)
   ·go_simp
    refine hK _ _ ?_
    clear hK K
    refine wpAny_ready (rs:=[12]) (by kernel_rfl) (by simp) ?_
    refine AllReady.cons rfl (fun K hK=>?_) AllReady.nil
    ·go_simp
     refine hK _ _ ?_
     clear hK K
     refine wpAny_take (i:=15) (v:=?tv29) rfl (by kernel_rfl) (by kernel_rfl) (by kernel_rfl) (fun _ _ _ h=>h) (Or.inl ⟨by kernel_rfl,?ty29⟩) ?tk29
     case ty29=>(intro w';go_simp;(try with_reducible rfl))
     refine wpAny_take (i:=16) (v:=?tv30) rfl (by kernel_rfl) (by kernel_rfl) (by kernel_rfl) (fun _ _ _ h=>h) (Or.inl ⟨by kernel_rfl,?ty30⟩) ?tk30
     case ty30=>(intro w';go_simp;(try with_reducible rfl))
     refine wpAny_take (i:=17) (v:=?tv31) rfl (by kernel_rfl) (by kernel_rfl) (by kernel_rfl) (fun _ _ _ h=>h) (Or.inl ⟨by kernel_rfl,?ty31⟩) ?tk31
     case ty31=>(intro w';go_simp;(try with_reducible rfl))
     refine wpAny_ready (rs:=[18]) (by kernel_rfl) (by simp) ?_
     refine AllReady.cons rfl (fun K hK=>?_) AllReady.nil
     go_simp
     refine hK _ _ ?_
     clear hK K
     refine wpAny_take (i:=19) (v:=?tv32) rfl (by kernel_rfl) (by kernel_rfl) (by kernel_rfl) (fun _ _ _ h=>h) (Or.inl ⟨by kernel_rfl,?ty32⟩) ?tk32
     case ty32=>(intro w';go_simp;(try with_reducible rfl))
     refine wpAny_take (i:=20) (v:=?tv33) rfl (by kernel_rfl) (by kernel_rfl) (by kernel_rfl) (fun _ _ _ h=>h) (Or.inl ⟨by kernel_rfl,?ty33⟩) ?tk33
     case ty33=>(intro w';go_simp;(try with_reducible rfl))
     refine wpAny_ready (rs:=[21]) (by kernel_rfl) (by simp) ?_
     refine AllReady.cons rfl (fun K hK=>?_) AllReady.nil
     go_simp
     refine hK _ _ ?_
     clear hK K
     refine wpAny_take (i:=22) (v:=?tv34) rfl (by kernel_rfl) (by kernel_rfl) (by kernel_rfl) (fun _ _ _ h=>h) (Or.inl ⟨by kernel_rfl,?ty34⟩) ?tk34
     case ty34=>(intro w';go_simp;(try with_reducible rfl))
     refine wpAny_take (i:=23) (v:=?tv35) rfl (by kernel_rfl) (by kernel_rfl) (by kernel_rfl) (fun _ _ _ h=>h) (Or.inl ⟨by kernel_rfl,?ty35⟩) ?tk35
     case ty35=>(intro w';go_simp;(try with_reducible rfl))
     refine wpAny_ready (rs:=[24]) (by kernel_rfl) (by simp) ?_
     refine AllReady.cons rfl (fun K hK=>?_) AllReady.nil
     go_simp
     refine hK _ _ ?_
     clear hK K
     refine wpAny_done (by kernel_rfl) ?_ _
     refine NoPanic.normal ?_
     rw [HWQ.out]
     have qc:=cell_of_heap (i:=0) HNQ.out
     have qz:=frozen_of_heap (i:=0) HNQ.out
     clear c0 c1 c2 c3 c4 c5 c6 c7 c8 c9' f1 f2 f3 f4 f5 f6 f7 f8 x0 x1 x2 x3 x4 x5
     go_wp2_with fail
     refine leaves_cons (f:=54) (args:=#[.pointer (some ⟨w.heap.size,0,none⟩)]) (by simp) (by simp [go_sem]) ?_
     refine HCN.out.mono ?_
     rintro e u' w9 ⟨rfl,rfl,hw9⟩
     have hres:=HRES.out
     rw [← hw9] at hres HEND
     clear hw9 HCN HRES qc qz
     simp [Leaves,settle,results,Tryz.results19]
     go_simp
     exact ⟨rfl,L13,HEND.out.1,HEND.out.2⟩
   ·go_simp
    refine hK _ _ ?_
    clear hK K
    refine wpAny_take (i:=15) (v:=?tv36) rfl (by kernel_rfl) (by kernel_rfl) (by kernel_rfl) (fun _ _ _ h=>h) (Or.inl ⟨by kernel_rfl,?ty36⟩) ?tk36
    case ty36=>(intro w';go_simp;(try with_reducible rfl))
    refine wpAny_ready (rs:=[3]) (by kernel_rfl) (by simp) ?_
    refine AllReady.cons rfl (fun K hK=>?_) AllReady.nil
    ·go_simp
     refine hK _ _ ?_
     clear hK K
     refine wpAny_take (i:=16) (v:=?tv37) rfl (by kernel_rfl) (by kernel_rfl) (by kernel_rfl) (fun _ _ _ h=>h) (Or.inl ⟨by kernel_rfl,?ty37⟩) ?tk37
     case ty37=>(intro w';go_simp;(try with_reducible rfl))
     refine wpAny_take (i:=17) (v:=?tv38) rfl (by kernel_rfl) (by kernel_rfl) (by kernel_rfl) (fun _ _ _ h=>h) (Or.inl ⟨by kernel_rfl,?ty38⟩) ?tk38
     case ty38=>(intro w';go_simp;(try with_reducible rfl))
     refine wpAny_ready (rs:=[18]) (by kernel_rfl) (by simp) ?_
     refine AllReady.cons rfl (fun K hK=>?_) AllReady.nil
     go_simp
     refine hK _ _ ?_
     clear hK K
     refine wpAny_take (i:=19) (v:=?tv39) rfl (by kernel_rfl) (by kernel_rfl) (by kernel_rfl) (fun _ _ _ h=>h) (Or.inl ⟨by kernel_rfl,?ty39⟩) ?tk39
     case ty39=>(intro w';go_simp;(try with_reducible rfl))
     refine wpAny_take (i:=20) (v:=?tv40) rfl (by kernel_rfl) (by kernel_rfl) (by kernel_rfl) (fun _ _ _ h=>h) (Or.inl ⟨by kernel_rfl,?ty40⟩) ?tk40
     case ty40=>(intro w';go_simp;(try with_reducible rfl))
     refine wpAny_ready (rs:=[21]) (by kernel_rfl) (by simp) ?_
     refine AllReady.cons rfl (fun K hK=>?_) AllReady.nil
     go_simp
     refine hK _ _ ?_
     clear hK K
     refine wpAny_take (i:=22) (v:=?tv41) rfl (by kernel_rfl) (by kernel_rfl) (by kernel_rfl) (fun _ _ _ h=>h) (Or.inl ⟨by kernel_rfl,?ty41⟩) ?tk41
     case ty41=>(intro w';go_simp;(try with_reducible rfl))
     refine wpAny_take (i:=23) (v:=?tv42) rfl (by kernel_rfl) (by kernel_rfl) (by kernel_rfl) (fun _ _ _ h=>h) (Or.inl ⟨by kernel_rfl,?ty42⟩) ?tk42
     case ty42=>(intro w';go_simp;(try with_reducible rfl))
     refine wpAny_ready (rs:=[24]) (by kernel_rfl) (by simp) ?_
     refine AllReady.cons rfl (fun K hK=>?_) AllReady.nil
     go_simp
     refine hK _ _ ?_
     clear hK K
     refine wpAny_done (by kernel_rfl) ?_ _
     refine NoPanic.normal ?_
     rw [HWQ.out]
     have qc:=cell_of_heap (i:=0) HNQ.out
     have qz:=frozen_of_heap (i:=0) HNQ.out
     clear c0 c1 c2 c3 c4 c5 c6 c7 c8 c9' f1 f2 f3 f4 f5 f6 f7 f8 x0 x1 x2 x3 x4 x5
     go_wp2_with fail
     refine leaves_cons (f:=54) (args:=#[.pointer (some ⟨w.heap.size,0,none⟩)]) (by simp) (by simp [go_sem]) ?_
     refine HCN.out.mono ?_
     rintro e u' w9 ⟨rfl,rfl,hw9⟩
     have hres:=HRES.out
     rw [← hw9] at hres HEND
     clear hw9 HCN HRES qc qz
     simp [Leaves,settle,results,Tryz.results19]
     go_simp
     exact ⟨rfl,L13,HEND.out.1,HEND.out.2⟩
  ·go_simp
   refine hK _ _ ?_
   clear hK K
   refine wpAny_take (i:=15) (v:=?tv43) rfl (by kernel_rfl) (by kernel_rfl) (by kernel_rfl) (fun _ _ _ h=>h) (Or.inl ⟨by kernel_rfl,?ty43⟩) ?tk43
   case ty43=>(intro w';go_simp;(try with_reducible rfl))
   refine wpAny_ready (rs:=[3,7]) (by kernel_rfl) (by simp) ?_
   refine AllReady.cons rfl (fun K hK=>?_) (AllReady.cons rfl (fun K hK=>?_) AllReady.nil)
   ·go_simp
    refine hK _ _ ?_
    clear hK K
    refine wpAny_ready (rs:=[7]) (by kernel_rfl) (by simp) ?_
    refine AllReady.cons rfl (fun K hK=>?_) AllReady.nil
    ·go_simp
     refine hK _ _ ?_
     clear hK K
     refine wpAny_take (i:=8) (v:=?tv44) rfl (by kernel_rfl) (by kernel_rfl) (by kernel_rfl) (fun _ _ _ h=>h) (Or.inl ⟨by kernel_rfl,?ty44⟩) ?tk44
     case ty44=>(intro w';go_simp;(try with_reducible rfl))
     refine wpAny_take (i:=16) (v:=?tv45) rfl (by kernel_rfl) (by kernel_rfl) (by kernel_rfl) (fun _ _ _ h=>h) (Or.inl ⟨by kernel_rfl,?ty45⟩) ?tk45
     case ty45=>(intro w';go_simp;(try with_reducible rfl))
     refine wpAny_take (i:=17) (v:=?tv46) rfl (by kernel_rfl) (by kernel_rfl) (by kernel_rfl) (fun _ _ _ h=>h) (Or.inl ⟨by kernel_rfl,?ty46⟩) ?tk46
     case ty46=>(intro w';go_simp;(try with_reducible rfl))
     refine wpAny_ready (rs:=[18]) (by kernel_rfl) (by simp) ?_
     refine AllReady.cons rfl (fun K hK=>?_) AllReady.nil
     go_simp
     refine hK _ _ ?_
     clear hK K
     refine wpAny_take (i:=19) (v:=?tv47) rfl (by kernel_rfl) (by kernel_rfl) (by kernel_rfl) (fun _ _ _ h=>h) (Or.inl ⟨by kernel_rfl,?ty47⟩) ?tk47
     case ty47=>(intro w';go_simp;(try with_reducible rfl))
     refine wpAny_take (i:=20) (v:=?tv48) rfl (by kernel_rfl) (by kernel_rfl) (by kernel_rfl) (fun _ _ _ h=>h) (Or.inl ⟨by kernel_rfl,?ty48⟩) ?tk48
     case ty48=>(intro w';go_simp;(try with_reducible rfl))
     refine wpAny_ready (rs:=[21]) (by kernel_rfl) (by simp) ?_
     refine AllReady.cons rfl (fun K hK=>?_) AllReady.nil
     go_simp
     refine hK _ _ ?_
     clear hK K
     refine wpAny_take (i:=22) (v:=?tv49) rfl (by kernel_rfl) (by kernel_rfl) (by kernel_rfl) (fun _ _ _ h=>h) (Or.inl ⟨by kernel_rfl,?ty49⟩) ?tk49
     case ty49=>(intro w';go_simp;(try with_reducible rfl))
     refine wpAny_take (i:=23) (v:=?tv50) rfl (by kernel_rfl) (by kernel_rfl) (by kernel_rfl) (fun _ _ _ h=>h) (Or.inl ⟨by kernel_rfl,?ty50⟩) ?tk50
     case ty50=>(intro w';go_simp;(try with_reducible rfl))
     refine wpAny_ready (rs:=[24]) (by kernel_rfl) (by simp) ?_
     refine AllReady.cons rfl (fun K hK=>?_) AllReady.nil
     go_simp
     refine hK _ _ ?_
     clear hK K
     refine wpAny_done (by kernel_rfl) ?_ _
     refine NoPanic.normal ?_
     rw [HWQ.out]
     have qc:=cell_of_heap (i:=0) HNQ.out
     have qz:=frozen_of_heap (i:=0) HNQ.out
     clear c0 c1 c2 c3 c4 c5 c6 c7 c8 c9' f1 f2 f3 f4 f5 f6 f7 f8 x0 x1 x2 x3 x4 x5
     go_wp2_with fail
     refine leaves_cons (f:=54) (args:=#[.pointer (some ⟨w.heap.size,0,none⟩)]) (by simp) (by simp [go_sem]) ?_
     refine HCN.out.mono ?_
     rintro e u' w9 ⟨rfl,rfl,hw9⟩
     have hres:=HRES.out
     rw [← hw9] at hres HEND
     clear hw9 HCN HRES qc qz
     simp [Leaves,settle,results,Tryz.results19]
     go_simp
     exact ⟨rfl,L13,HEND.out.1,HEND.out.2⟩
   ·go_simp
    refine hK _ _ ?_
    clear hK K
    refine wpAny_take (i:=8) (v:=?tv51) rfl (by kernel_rfl) (by kernel_rfl) (by kernel_rfl) (fun _ _ _ h=>h) (Or.inl ⟨by kernel_rfl,?ty51⟩) ?tk51
    case ty51=>(intro w';go_simp;(try with_reducible rfl))
    refine wpAny_ready (rs:=[3]) (by kernel_rfl) (by simp) ?_
    refine AllReady.cons rfl (fun K hK=>?_) AllReady.nil
    ·go_simp
     refine hK _ _ ?_
     clear hK K
     refine wpAny_take (i:=16) (v:=?tv52) rfl (by kernel_rfl) (by kernel_rfl) (by kernel_rfl) (fun _ _ _ h=>h) (Or.inl ⟨by kernel_rfl,?ty52⟩) ?tk52
     case ty52=>(intro w';go_simp;(try with_reducible rfl))
     refine wpAny_take (i:=17) (v:=?tv53) rfl (by kernel_rfl) (by kernel_rfl) (by kernel_rfl) (fun _ _ _ h=>h) (Or.inl ⟨by kernel_rfl,?ty53⟩) ?tk53
     case ty53=>(intro w';go_simp;(try with_reducible rfl))
     refine wpAny_ready (rs:=[18]) (by kernel_rfl) (by simp) ?_
     refine AllReady.cons rfl (fun K hK=>?_) AllReady.nil
     go_simp
     refine hK _ _ ?_
     clear hK K
     refine wpAny_take (i:=19) (v:=?tv54) rfl (by kernel_rfl) (by kernel_rfl) (by kernel_rfl) (fun _ _ _ h=>h) (Or.inl ⟨by kernel_rfl,?ty54⟩) ?tk54
     case ty54=>(intro w';go_simp;(try with_reducible rfl))
     refine wpAny_take (i:=20) (v:=?tv55) rfl (by kernel_rfl) (by kernel_rfl) (by kernel_rfl) (fun _ _ _ h=>h) (Or.inl ⟨by kernel_rfl,?ty55⟩) ?tk55
     case ty55=>(intro w';go_simp;(try with_reducible rfl))
     refine wpAny_ready (rs:=[21]) (by kernel_rfl) (by simp) ?_
     refine AllReady.cons rfl (fun K hK=>?_) AllReady.nil
     go_simp
     refine hK _ _ ?_
     clear hK K
     refine wpAny_take (i:=22) (v:=?tv56) rfl (by kernel_rfl) (by kernel_rfl) (by kernel_rfl) (fun _ _ _ h=>h) (Or.inl ⟨by kernel_rfl,?ty56⟩) ?tk56
     case ty56=>(intro w';go_simp;(try with_reducible rfl))
     refine wpAny_take (i:=23) (v:=?tv57) rfl (by kernel_rfl) (by kernel_rfl) (by kernel_rfl) (fun _ _ _ h=>h) (Or.inl ⟨by kernel_rfl,?ty57⟩) ?tk57
     case ty57=>(intro w';go_simp;(try with_reducible rfl))
     refine wpAny_ready (rs:=[24]) (by kernel_rfl) (by simp) ?_
     refine AllReady.cons rfl (fun K hK=>?_) AllReady.nil
     go_simp
     refine hK _ _ ?_
     clear hK K
     refine wpAny_done (by kernel_rfl) ?_ _
     refine NoPanic.normal ?_
     rw [HWQ.out]
     have qc:=cell_of_heap (i:=0) HNQ.out
     have qz:=frozen_of_heap (i:=0) HNQ.out
     clear c0 c1 c2 c3 c4 c5 c6 c7 c8 c9' f1 f2 f3 f4 f5 f6 f7 f8 x0 x1 x2 x3 x4 x5
     go_wp2_with fail
     refine leaves_cons (f:=54) (args:=#[.pointer (some ⟨w.heap.size,0,none⟩)]) (by simp) (by simp [go_sem]) ?_
     refine HCN.out.mono ?_
     rintro e u' w9 ⟨rfl,rfl,hw9⟩
     have hres:=HRES.out
     rw [← hw9] at hres HEND
     clear hw9 HCN HRES qc qz
     simp [Leaves,settle,results,Tryz.results19]
     go_simp
     exact ⟨rfl,L13,HEND.out.1,HEND.out.2⟩
end Go.Proofs.YtnnakhdndmjmiaaGreat.Wal
/-
 The contracts of Open,in the laws' form: a new disk,a disk that keeps something,a log at rest.
-/
set_option linter.unusedVariables false
set_option maxRecDepth 4000
namespace Go.Proofs.YtnnakhdndmjmiaaGreat.Wal
open Go.RowKit DiskP SegsP WalP Disk
open Ints (IntsAt IntsAt.keep)
open SuperP (Sup)
theorem rests_eta {lg : Lg} {st : St} {K : Kept} (h : Rests lg st K) : lg = ⟨lg.x,atn lg.x (octs K.bats),lg.x.base + K.bats.length,false⟩:=by
 obtain ⟨x,p,n,d⟩:=lg
 have h1:=h.pos;have h2:=h.num;have h3:=h.alive
 simp only at h1 h2 h3
 rw [h1,h2,h3]
theorem good_cnt {S : List ByteArray} {x : Sup} {B : Option (List UInt8)} {l : List (List UInt8)} (h : WalP.Good S x B l) : 0 < SegsP.cnt (S.length : Int):=by
 have hlog : 0 < x.log.length:=h.fit.2.2.1.2.2.2.2.2.2.1
 have hm : x.log[0] ∈ x.chk ++ x.log:=List.mem_append_right _ (List.getElem_mem _)
 have h1:=h.named _ hm
 have h2:=fit_range h.fit _ hm
 omega
theorem cur_is_good (L : List Nat) (B d n : Nat) (st : St) (w : World) (h : LS w L B d lgz st) (hok : Ok n st) (hn : n ≤ 900000) (hi : Idle st) (x : Sup) (K : Option (List UInt8)) (l : List (List UInt8)) (hg : WalP.Good st.S x K l) :
  Calls Tryz.prog 48 #[.pointer (some ⟨B,0,none⟩)] w (CurOut L B d x st w):=by
 have h2:=hg.two
 obtain ⟨bb,hbb⟩:=good_best hi hg
 have r0:=rd_idle hi (p:=0) ⟨by omega,by omega⟩
 have r1:=rd_idle hi (p:=1) ⟨by omega,by omega⟩
 have hs:=SuperP.segs_len (fit_segs hg.fit)
 have hlog : 0 < x.log.length:=hg.fit.2.2.1.2.2.2.2.2.2.1
 have s0 : (sec st.S (0 : Int).toNat).size = 128:=sec_size hok (by show (0 : Int).toNat < _;omega)
 have s1 : (sec st.S (1 : Int).toNat).size = 128:=sec_size hok (by show (1 : Int).toNat < _;omega)
 have hhi:=hok.hi
 refine (cur_good L B d n lgz st w h hok hn x bb (by rw [r0]) (by rw [r1]) ⟨by rw [r0,s0];decide,by rw [r1,s1];decide⟩ hbb (by rw [List.length_append];omega) (by omega) hg.named (by omega)).mono ?_
 rintro e w' ⟨⟨a1,c1,a2,c2,rfl,hS,n1,n2,b1,b2⟩,hB⟩
 have hBl:=h.lk.lt
 have out : ∀ y : Addr,w.heap.size ≤ y.block → y.block ∉ B :: L:=fun y hy hm=>by
  rcases List.mem_cons.1 hm with g | g
  ·omega
  ·have:=h.dk.lt _ g;omega
 exact ⟨a1,c1,a2,c2,L,rfl,hS.chk,hS.log,n1,n2,fun _ y hy=>out y (b1 y hy),fun _ y hy=>out y (b2 y hy),h.below hB,Upd.of_below hB⟩
theorem open_keeps (L : List Nat) (d n : Nat) (st : St) (w : World) (h : Dk w L d st) (hok : Ok n st) (hn : n ≤ 700000) (hi : Idle st) (K : Kept) (G : Int) (hk : KeepsB G st.S K) :
  Calls Tryz.prog 17 #[.pointer (some ⟨d,0,none⟩)] w fun e w' => ∃ st',st'.S.length = st.S.length ∧ Ok (n + 600) st' ∧ (Unfused st → Unfused st') ∧
   ((∃ lg,OpenOk w L d lg st' K e w' ∧ Rests lg st' K ∧ lg.x.gen ≤ G ∧ lg.num ≤ G) ∨ (OpenBad w L d 13 st' e w' ∧ st'.dead = true ∧ Img st' fun S=>S.length = st.S.length ∧ KeepsB G S K)):=by
 obtain ⟨x,hg,ht,b1,b2,hph⟩:=phase_keeps hi hok.sec hk
 have h2:=hg.two
 have hhi:=hok.hi
 have hw:=open_walk L d n st w h hi.2 (good_cnt hg) (by omega) (by omega) x K st hi hg ht hok (by omega) (fun w1 B hl=>cur_is_good L B d n st w1 hl hok (by omega) hi x K.base _ hg) _ _ rfl
 have hlen : (behind x (octs K.bats)).length ≤ 504:=by
  have h9:=secs_length (l:=x.log) fun k hk=>fit_range hg.fit k (List.mem_append_right _ hk)
  have h8:=SuperP.segs_len (fit_segs hg.fit)
  rw [List.length_append] at h8
  unfold behind
  rw [List.length_drop];omega
 have hok2 : Ok (n + 600) (er st false (behind x (octs K.bats))).2:=(er_ok _ st false n hok).mono (by omega)
 have hunf:=fun hu=>unf_er (behind x (octs K.bats)) st false hu
 refine hw.mono ?_
 rintro e w' ⟨g1,g2⟩
 refine ⟨(er st false (behind x (octs K.bats))).2,?_,hok2,hunf,?_⟩
 ·rcases hph with ⟨_,_,a3⟩ | ⟨_,_,a3⟩
  ·exact a3
  ·exact er_len _ st false
 ·rcases hph with ⟨a1,a2,a3⟩ | ⟨a1,a2,a3⟩
  ·exact .inl ⟨_,g1 a1,a2,b1,b2⟩
  ·have g3:=g2 (by rw [a1];decide)
   rw [a1] at g3
   exact .inr ⟨g3,a2,a3⟩
theorem open_rests (L : List Nat) (d n : Nat) (lg : Lg) (st : St) (w : World) (h : Dk w L d st) (hok : Ok n st) (hn : n ≤ 700000) (K : Kept) (hr : Rests lg st K) :
  Calls Tryz.prog 17 #[.pointer (some ⟨d,0,none⟩)] w fun e w'=>OpenOk w L d lg st K e w':=by
 have hg:=hr.live.good
 have hi:=hr.live.idle
 have h2:=hg.two
 have hhi:=hok.hi
 refine (open_walk L d n st w h hi.2 (good_cnt hg) (by omega) (by omega) lg.x K st hi hg hr.takes hok (by omega) (fun w1 B hl=>cur_is_good L B d n st w1 hl hok (by omega) hi lg.x K.base _ hg) 0 st (open_live hr.live)).mono ?_
 rintro e w' ⟨g1,_⟩
 have g:=g1 rfl
 rw [← rests_eta hr] at g
 exact g
theorem open_new (L : List Nat) (d m : Nat) (w : World) (hm : 10 ≤ m) (hm2 : m ≤ 512) (h : Dk w L d (DiskP.fresh (List.replicate m DiskP.blank))) :
  Calls Tryz.prog 17 #[.pointer (some ⟨d,0,none⟩)] w fun e w' => ∃ st',OpenOk w L d ⟨sup0,0,0,false⟩ st' ⟨none,[]⟩ e w' ∧ Rests ⟨sup0,0,0,false⟩ st' ⟨none,[]⟩ ∧ st'.S.length = m ∧ Unfused st' ∧ Ok 10 st':=by
 obtain ⟨s3,he,hl,hb,hc,hr,hlen,hu⟩:=blank_new hm hm2
 have hl0 : (DiskP.fresh (List.replicate m DiskP.blank)).S.length = m:=by simp [DiskP.fresh]
 have hbs : ∀ s ∈ List.replicate m DiskP.blank,s.size = 128:=fun s hs=>by rw [List.eq_of_mem_replicate hs];exact blank_size
 have hok : Ok 0 (DiskP.fresh (List.replicate m DiskP.blank)):=fresh_ok (by rw [List.length_replicate];omega) (by rw [List.length_replicate];omega) hbs
 have hok3 : Ok 10 s3:=by
  have h9:=lay_ok (x:=sup0) hok
  rw [hl] at h9
  exact h9
 have hi : Idle (DiskP.fresh (List.replicate m DiskP.blank)):=⟨rfl,rfl⟩
 have r0:=rd_idle hi (p:=0) ⟨by omega,by omega⟩
 have r1:=rd_idle hi (p:=1) ⟨by omega,by omega⟩
 have s0 : (sec (DiskP.fresh (List.replicate m DiskP.blank)).S (0 : Int).toNat).size = 128:=sec_size hok (by show (0 : Int).toNat < _;omega)
 have s1 : (sec (DiskP.fresh (List.replicate m DiskP.blank)).S (1 : Int).toNat).size = 128:=sec_size hok (by show (1 : Int).toNat < _;omega)
 generalize DiskP.fresh (List.replicate m DiskP.blank) = st at *
 have hcur : ∀ w1 B,LS w1 L B d lgz st → Calls Tryz.prog 48 #[.pointer (some ⟨B,0,none⟩)] w1 (CurOut L B d sup0 s3 w1):=fun w1 B hls=>by
  refine (cur_new L B d 0 lgz st w1 hls hok (by omega) (by rw [r0]) (by rw [r1]) ⟨by rw [r0,s0];decide,by rw [r1,s1];decide⟩ hb (by rw [hl0];exact hc) st s3 he hl (by omega) (by omega)).mono ?_
  rintro e w' ⟨a2,L',rfl,hI,hnb,hls',hU⟩
  exact ⟨none,0,some a2,1,L',rfl,⟨rfl,(fun x hx=>by cases hx),.inl rfl⟩,hI,fun _=>rfl,(fun h=>by cases h),(fun h0=>by cases h0),fun _ y hy=>by cases hy;exact hnb,hls',hU⟩
 refine (open_walk L d 10 st w h hi.2 (by rw [hl0];exact hc) (by omega) (by omega) sup0 ⟨none,[]⟩ s3 hr.live.idle hr.live.good hr.takes hok3 (by omega) hcur 0 s3 (open_live hr.live)).mono ?_
 rintro e w' ⟨g1,_⟩
 have g:=g1 rfl
 exact ⟨s3,by rw [rests_eta hr];exact g,hr,hlen,hu,hok3⟩
end Go.Proofs.YtnnakhdndmjmiaaGreat.Wal
/-
 The contracts of Append and Check,in the laws' form: a log at rest,a log that is dead.
-/
set_option linter.unusedVariables false
set_option maxRecDepth 4000
namespace Go.Proofs.YtnnakhdndmjmiaaGreat.Wal
open Go.RowKit DiskP SegsP WalP Disk
open Ints (IntsAt IntsAt.keep)
open SuperP (Sup)
open FrameP (frs sz Rec tk)
theorem first_bad (p : Nat → Prop) [DecidablePred p] : ∀ n,∃ m,m ≤ n ∧ (∀ i,i < m → p i) ∧ (m < n → ¬ p m)
 | 0=>⟨0,Nat.le_refl _,fun i h=>absurd h (Nat.not_lt_zero _),fun h=>absurd h (Nat.lt_irrefl _)⟩
 | n + 1=>by
  obtain ⟨m,h1,h2,h3⟩:=first_bad p n
  by_cases hm : m < n
  ·exact ⟨m,by omega,h2,fun _=>h3 hm⟩
  ·obtain rfl : m = n:=by omega
   by_cases hp : p m
   ·exact ⟨m + 1,Nat.le_refl _,fun i hi=>if e : i = m then e ▸ hp else h2 i (by omega),fun h=>absurd h (Nat.lt_irrefl _)⟩
   ·exact ⟨m,Nat.le_succ _,h2,fun _=>hp⟩
theorem rests_lv {lg : Lg} {st : St} {K : Kept} {n : Nat} (hr : Rests lg st K) (hg : lg.x.gen < 1099511627776) (hN : lg.num < 1099511627776) (hok : Ok n st) (hn : n ≤ 700000) : Lv lg st n :=
 ⟨hr.live.good.fit,hr.live.good.named,by rw [hr.pos];exact hr.live.good.split.1,⟨(rests_num hr).1,hN⟩,hg,hok,by omega,hr.alive,hr.live.idle.2⟩
def Went (w : World) (L : List Nat) (b d n : Nat) (lg : Lg) (st : St) (K K' : Kept) (G : Int) (ok : Prop) (e : Ending) (w' : World) : Prop :=
 (∃ lg' st',ok ∧ Told w L b d 0 lg' st' e w' ∧ Rests lg' st' K' ∧ st'.S.length = st.S.length ∧ lg'.num ≤ G + 1 ∧ lg'.x.gen ≤ G + 1 ∧ Ok (n + 2000) st' ∧ (Unfused st → Unfused st')) ∨
 (∃ lg' st',ok ∧ Told w L b d 13 lg' st' e w' ∧ lg'.dead = true ∧ st'.dead = true ∧ (Img st' fun S=>S.length = st.S.length ∧ (KeepsB (G + 1) S K ∨ KeepsB (G + 1) S K')) ∧ Ok (n + 2000) st' ∧ (Unfused st → Unfused st')) ∨
 (∃ c,(c = 1 ∨ c = 4) ∧ Told w L b d c lg st e w')
def Gone (w : World) (L : List Nat) (b d n : Nat) (lg : Lg) (st : St) (r : Int × Lg × St) (e : Ending) (w' : World) : Prop :=
 Ok (n + 2000) r.2.2 ∧ ((r.1 = 0 ∧ Told w L b d 0 r.2.1 r.2.2 e w') ∨ (r.1 ≠ 0 ∧ r.2.1.dead = true ∧ Told w L b d r.1 { lg with dead:=true } r.2.2 e w') ∨ (r.1 ≠ 0 ∧ r.2 = (lg,st) ∧ Told w L b d r.1 lg st e w'))
theorem gone_went {w : World} {L : List Nat} {b d n : Nat} {lg : Lg} {st : St} {r : Int × Lg × St} {K K' : Kept} {G : Int} {ok : Prop} {e : Ending} {w' : World} (hal : lg.dead = false) (hrun : st.dead = false) (hok : ok) (hg : Gone w L b d n lg st r e w') (hu : Unfused st → Unfused r.2.2)
  (h : (∃ lg' st',r = (0,lg',st') ∧ Rests lg' st' K' ∧ st'.S.length = st.S.length ∧ lg'.num ≤ G + 1 ∧ lg'.x.gen ≤ G + 1) ∨ StoppedB (G + 1) r st.S.length K K' ∨ r = (4,lg,st)) : Went w L b d n lg st K K' G ok e w':=by
 obtain ⟨g0,g⟩:=hg
 rcases h with ⟨lg',st',rfl,h1,h2,h3,h4⟩ | h | rfl
 ·rcases g with ⟨_,g⟩ | ⟨g,_⟩ | ⟨g,_⟩
  ·exact .inl ⟨lg',st',hok,g,h1,h2,h3,h4,g0,hu⟩
  ·exact absurd rfl g
  ·exact absurd rfl g
 ·obtain ⟨h1,h2,h3⟩:=h
  rcases g with ⟨g,_⟩ | ⟨_,_,g⟩ | ⟨_,g,_⟩
  ·rw [h1] at g;cases g
  ·rw [h1] at g
   exact .inr (.inl ⟨_,_,hok,g,rfl,h2,h3,g0,hu⟩)
  ·rw [g] at h2
   have h2 : st.dead = true:=h2
   rw [hrun] at h2;cases h2
 ·rcases g with ⟨g,_⟩ | ⟨_,g,_⟩ | ⟨_,_,g⟩
  ·cases g
  ·have g : lg.dead = true:=g
   rw [hal] at g;cases g
  ·exact .inr (.inr ⟨4,.inr rfl,g⟩)
theorem append_gone (L : List Nat) (b d n : Nat) (lg : Lg) (st : St) (w : World) (h : LS w L b d lg st) (hv : Lv lg st n) (recs : List (List UInt8)) (a : Option Addr) (nr cap : Nat) (hS : StrsAt w a nr (recs.map bs)) (ht : Takes recs) (hf : recs.length ≤ 100) :
  Calls Tryz.prog 19 #[.pointer (some ⟨b,0,none⟩),.slice a nr cap] w (Gone w L b d n lg st (add lg st recs)):=by
 have hal:=hv.alive;have hrn:=hv.run;have hpos:=hv.pos
 have hfits : Fits (lg.num + 1).toNat (frs recs):=takes_fits ht (by have:=hv.num;omega) (by have:=hv.num;omega)
 have hpc:=hfits.2.2
 have hsl : (seald (lg.num + 1).toNat (frs recs)).length ≤ 512:=by rw [seald_length];exact hpc
 have hadd : add lg st recs = addS lg st (frs recs):=by
  unfold add
  rw [if_neg (by rw [hal,hrn];simp),if_neg ht.1,if_neg (fun g=>g ht.2.1),if_neg (by have:=ht.2.2;omega)]
 have hok0 : Ok (n + 2000) st:=hv.ok.mono (by omega)
 have hzl : ∀ (P : List Int),(P.zip (seald (lg.num + 1).toNat (frs recs))).length ≤ 512:=fun P=>by rw [List.length_zip];omega
 rw [hadd]
 unfold addS
 simp only
 rw [if_neg (by have:=hv.num;have:=hv.gen;omega)]
 have em : ((lg.pos : Int) + (pc (frs recs).length : Nat) - ((secs lg.x.log).length : Nat)) = ((pc (frs recs).length : Int) - (((secs lg.x.log).length - lg.pos : Nat) : Int)):=by omega
 rw [em]
 obtain ⟨m,hm⟩ : ∃ m,SegsP.need ((pc (frs recs).length : Int) - (((secs lg.x.log).length - lg.pos : Nat) : Int)) = m:=⟨_,rfl⟩
 have hnz:=fun (g : m ≤ 0)=>WalP.need_zero (m:=((pc (frs recs).length : Int) - (((secs lg.x.log).length - lg.pos : Nat) : Int))) (by rw [hm];exact g)
 have hnl:=fun g=>WalP.need_le (m:=((pc (frs recs).length : Int) - (((secs lg.x.log).length - lg.pos : Nat) : Int))) g
 rw [hm] at hnl ⊢
 by_cases hm0 : m ≤ 0
 ·rw [if_neg (by omega),if_pos hm0]
  have hz:=hnz hm0
  obtain ⟨c,st1,hp⟩ : ∃ c st1,puts st (((secs lg.x.log).drop lg.pos).zip (seald (lg.num + 1).toNat (frs recs))) = (c,st1):=⟨_,_,rfl⟩
  have ho:=puts_ok (((secs lg.x.log).drop lg.pos).zip (seald (lg.num + 1).toNat (frs recs))) st n hv.ok
  rw [hp] at ho ⊢
  have ho : Ok (n + 2000) st1:=ho.mono (by have:=hzl ((secs lg.x.log).drop lg.pos);omega)
  refine (append_room L b d n lg st w h hv recs a nr cap hS ht hf c st1 (by omega) hp).mono ?_
  rintro e w' ⟨g1,g2⟩
  by_cases hc : c = 0
  ·rw [if_pos hc]
   exact ⟨ho,.inl ⟨rfl,g1 hc⟩⟩
  ·rw [if_neg hc]
   exact ⟨ho,.inr (.inl ⟨hc,rfl,g2 hc⟩)⟩
 ·obtain ⟨mm,rfl⟩ : ∃ mm : Nat,m = (mm : Int):=⟨m.toNat,by omega⟩
  have hmp : 0 < mm:=by omega
  have hpo:=(WalP.need_pos (m:=((pc (frs recs).length : Int) - (((secs lg.x.log).length - lg.pos : Nat) : Int)))).1 (by rw [hm];omega)
  have hmh : mm ≤ 64:=by have:=hnl (by omega);omega
  by_cases hfu : (WalP.free lg st.S.length).length < mm
  ·rw [if_pos (by omega)]
   refine (append_full L b d n lg st w h hv recs a nr cap hS ht hf mm hm hmp hmh hfu).mono ?_
   rintro e w' g
   exact ⟨hok0,.inr (.inr ⟨by show (4 : Int) ≠ 0;decide,rfl,g⟩)⟩
  rw [if_neg (by omega),if_neg hm0,Int.toNat_natCast]
  have hfu' : mm ≤ (WalP.free lg st.S.length).length:=by omega
  have hspa:=spare_take st.S.length lg.x mm
  obtain ⟨more,hmo⟩ : ∃ more,(WalP.free lg st.S.length).take mm = more:=⟨_,rfl⟩
  rw [show (fre (SegsP.cnt st.S.length) (lg.x.chk ++ lg.x.log)).take mm = more from hmo] at hspa
  have hfit : SuperP.Fit (grow lg.x more):=grow_fit hv.fit hv.gen hspa
  have hsm : (secs more).length ≤ 512:=by
   have h9:=secs_len more
   have h8 : more.length ≤ mm:=by rw [← hmo,List.length_take];omega
   omega
  rw [hmo]
  obtain ⟨c1,s1,he⟩ : ∃ c1 s1,er st false (secs more) = (c1,s1):=⟨_,_,rfl⟩
  have ho1:=er_ok (secs more) st false n hv.ok
  rw [he] at ho1 ⊢
  have ho1 : Ok (n + 600) s1:=ho1.mono (by omega)
  by_cases hc1 : c1 = 0
  rotate_left
  ·rw [if_pos (by exact hc1)]
   refine (append_erase L b d n lg st w h hv recs a nr cap hS ht hf mm hm hmp hmh hfu' c1 s1 (by rw [hmo];exact he) hc1).mono ?_
   rintro e w' g
   exact ⟨ho1.mono (by omega),.inr (.inl ⟨hc1,rfl,g⟩)⟩
  subst hc1
  rw [if_neg (by show ¬ (0 : Int) ≠ 0;decide)]
  obtain ⟨c2,s2,hl⟩ : ∃ c2 s2,lay s1 (grow lg.x more) = (c2,s2):=⟨_,_,rfl⟩
  have ho2:=lay_ok (x:=grow lg.x more) ho1
  simp only
  rw [hl] at ho2 ⊢
  have ho2 : Ok (n + 600 + 10) s2:=ho2.mono (by omega)
  by_cases hc2 : c2 = 0
  rotate_left
  ·rw [if_pos (by exact hc2)]
   refine (append_store L b d n lg st w h hv recs a nr cap hS ht hf mm hm hmp hmh more hmo hfu' s1 he s2 hfit c2 hl hc2).mono ?_
   rintro e w' g
   exact ⟨ho2.mono (by omega),.inr (.inl ⟨hc2,rfl,g⟩)⟩
  subst hc2
  rw [if_neg (by show ¬ (0 : Int) ≠ 0;decide)]
  obtain ⟨c3,s3,hp⟩ : ∃ c3 s3,puts s2 (((secs (grow lg.x more).log).drop lg.pos).zip (seald (lg.num + 1).toNat (frs recs))) = (c3,s3):=⟨_,_,rfl⟩
  have ho3:=puts_ok (((secs (grow lg.x more).log).drop lg.pos).zip (seald (lg.num + 1).toNat (frs recs))) s2 _ ho2
  simp only
  rw [hp] at ho3 ⊢
  have ho3 : Ok (n + 2000) s3:=ho3.mono (by have:=hzl ((secs (grow lg.x more).log).drop lg.pos);omega)
  refine (append_grow L b d n lg st w h hv recs a nr cap hS ht hf mm hm hmp hmh more hmo hfu' s1 he s2 hfit hl c3 s3 hp).mono ?_
  rintro e w' ⟨g1,g2⟩
  by_cases hc : c3 = 0
  ·rw [if_pos hc]
   exact ⟨ho3,.inl ⟨rfl,g1 hc⟩⟩
  ·rw [if_neg hc]
   exact ⟨ho3,.inr (.inl ⟨hc,rfl,g2 hc⟩)⟩
theorem append_rests (L : List Nat) (b d n : Nat) (lg : Lg) (st : St) (w : World) (h : LS w L b d lg st) (hok : Ok n st) (hn : n ≤ 700000) (K : Kept) (G : Int) (hr : Rests lg st K) (hG : lg.x.gen ≤ G) (hN : lg.num ≤ G) (hG2 : G < 1099511627776)
  (recs : List (List UInt8)) (a : Option Addr) (nr cap : Nat) (hS : StrsAt w a nr (recs.map bs)) (hf : recs.length ≤ 6) (hz : ∀ r ∈ recs,r.length ≤ 300) :
  Calls Tryz.prog 19 #[.pointer (some ⟨b,0,none⟩),.slice a nr cap] w (Went w L b d n lg st K ⟨K.base,K.bats ++ [recs]⟩ G (Takes recs)):=by
 have hv:=rests_lv hr (by omega) (by omega) hok hn
 have hal:=hr.alive;have hrn:=hr.live.idle.2
 have hszr : sz recs ≤ 16384:=by have:=FrameP.sz_le recs 300 hz;have:=Nat.mul_le_mul_right (6 + 300) hf;omega
 have hlen : nr = recs.length:=by rw [← hS.1,List.length_map]
 by_cases ht : Takes recs
 ·refine (append_gone L b d n lg st w h hv recs a nr cap hS ht (by omega)).mono ?_
  intro e w' hgo
  refine gone_went hal hrn ht hgo (fun hu=>unf_add hu recs) ?_
  rcases add_rests_b hr hG hN (by omega) (by omega) (recs:=recs) with ⟨_,lg',st',h1,h2,h3,h4,h5⟩ | ⟨_,h1⟩ | ⟨_,h1⟩ | ⟨h1,_⟩
  ·exact .inl ⟨lg',st',h1,h2,h3,by omega,by omega⟩
  ·exact .inr (.inl h1)
  ·exact .inr (.inr h1)
  ·exact absurd ht h1
 ·by_cases h0 : recs = []
  ·subst h0
   have hlen : nr = 0:=hlen
   subst hlen
   exact (append_none L b d lg st w h hal hrn a cap).mono fun e w' g=>.inr (.inr ⟨1,.inl rfl,g⟩)
  ·have hl0 : 0 < recs.length:=List.length_pos_iff.2 h0
   obtain ⟨m,hm1,hm2,hm3⟩:=first_bad (fun i=>1 ≤ (((recs.map bs).getD i ByteArray.empty)).size ∧ ((recs.map bs).getD i ByteArray.empty).size ≤ 4096) nr
   have hget : ∀ i,i < nr → ((recs.map bs).getD i ByteArray.empty).size = (recs.getD i []).length:=fun i hi=>by
    have hi' : i < recs.length:=by omega
    simp [List.getD,hi',bs_size]
   have hmn : m < nr:=by
    refine Classical.byContradiction fun g=>ht ⟨h0,fun r hr=>?_,hszr⟩
    obtain ⟨i,hi,rfl⟩:=List.getElem_of_mem hr
    have h9:=hm2 i (by omega)
    rw [hget i (by omega)] at h9
    have h8 : recs.getD i [] = recs[i]:=by simp [List.getD,hi]
    rw [h8] at h9
    exact h9
   refine (append_wrong L b d lg st w h hal hrn a nr cap (by omega) 1 (by decide) ⟨#[]⟩ fun w1 hb=>?_).mono fun e w' g=>.inr (.inr ⟨1,.inl rfl,g⟩)
   refine (Frame.put_bad a nr cap m (recs.map bs) w1 (hS.keep hb) ⟨by rw [List.length_map];omega,fun t ht=>?_⟩ hmn hm2 (hm3 hmn)).mono fun e w' g=>⟨g.1,g.2 ▸ Below.refl _ _⟩
   obtain ⟨r,hr,rfl⟩:=List.mem_map.1 ht
   rw [bs_size]
   have:=hz r hr
   omega
theorem check_gone (L : List Nat) (b d n : Nat) (lg : Lg) (st : St) (w : World) (h : LS w L b d lg st) (hv : Lv lg st n) (s : List UInt8) (hs : s.length ≤ 52416) :
  Calls Tryz.prog 21 #[.pointer (some ⟨b,0,none⟩),.string (bs s)] w (Gone w L b d n lg st (chk lg st s)):=by
 have hal:=hv.alive;have hrn:=hv.run
 have hok0 : Ok (n + 2000) st:=hv.ok.mono (by omega)
 have hp:=pc_pos s.length
 have hpl : pc s.length ≤ 504:=by unfold pc;omega
 have hnl:=WalP.need_le (m:=(pc s.length : Int)) (by omega)
 have hnr:=WalP.need_room (m:=(pc s.length : Int))
 have hn0 : 0 < SegsP.need (pc s.length : Int):=WalP.need_pos.2 (by omega)
 unfold chk
 simp only
 rw [if_neg (by rw [hal,hrn];simp),if_neg (by omega),if_neg (by have:=hv.gen;omega)]
 obtain ⟨m,hm⟩ : ∃ m : Nat,SegsP.need (pc s.length : Int) = (m : Int):=⟨(SegsP.need (pc s.length : Int)).toNat,by omega⟩
 rw [hm] at hnl hnr hn0 ⊢
 rw [Int.toNat_natCast]
 have hm2 : m ≤ 64:=by omega
 by_cases hf : (WalP.free lg st.S.length).length < m + 1
 ·rw [if_pos hf]
  refine (check_full L b d n m (m + 1) lg st w h hv s hs hm rfl hm2 hf).mono ?_
  rintro e w' g
  exact ⟨hok0,.inr (.inr ⟨by show (4 : Int) ≠ 0;decide,rfl,g⟩)⟩
 rw [if_neg hf]
 have hf' : m + 1 ≤ (WalP.free lg st.S.length).length:=by omega
 have hto:=take_one (WalP.free lg st.S.length) m (by omega)
 obtain ⟨c1,s1,he⟩ : ∃ c1 s1,er st false (secs ((WalP.free lg st.S.length).take (m + 1))) = (c1,s1):=⟨_,_,rfl⟩
 obtain ⟨c2,s2,hw2⟩ : ∃ c2 s2,puts s1 ((secs ((WalP.free lg st.S.length).take m)).zip (seald (lg.x.gen + 1).toNat s)) = (c2,s2):=⟨_,_,rfl⟩
 obtain ⟨c3,s3,hl⟩ : ∃ c3 s3,lay s2 (based lg.x lg.num s.length ((WalP.free lg st.S.length).take m) ((WalP.free lg st.S.length).getD m 0)) = (c3,s3):=⟨_,_,rfl⟩
 have hbl : baseLay st lg.x lg.num s ((WalP.free lg st.S.length).take m) ((WalP.free lg st.S.length).getD m 0) = if c1 ≠ 0 then (c1,s1) else if c2 ≠ 0 then (c2,s2) else (c3,s3):=by
  unfold baseLay
  rw [hto,he]
  simp only
  rw [hw2]
  simp only
  rw [hl]
 have hsm : (secs ((WalP.free lg st.S.length).take (m + 1))).length ≤ 520:=by
  have h9:=secs_len ((WalP.free lg st.S.length).take (m + 1))
  rw [List.length_take] at h9
  omega
 have ho1:=er_ok (secs ((WalP.free lg st.S.length).take (m + 1))) st false n hv.ok
 rw [he] at ho1
 have ho1 : Ok (n + 600) s1:=ho1.mono (by omega)
 have hfn:=fit_nums hv.fit
 have hgn:=hv.gen
 have hsl : (seald (lg.x.gen + 1).toNat s).length ≤ 504:=by rw [seald_length];exact hpl
 have ho2:=puts_ok ((secs ((WalP.free lg st.S.length).take m)).zip (seald (lg.x.gen + 1).toNat s)) s1 _ ho1
 rw [hw2] at ho2
 have ho2 : Ok (n + 1200) s2:=ho2.mono (by rw [List.length_zip];omega)
 have ho3:=lay_ok (x:=based lg.x lg.num s.length ((WalP.free lg st.S.length).take m) ((WalP.free lg st.S.length).getD m 0)) ho2
 rw [hl] at ho3
 have ho3 : Ok (n + 2000) s3:=ho3.mono (by omega)
 rw [hbl]
 by_cases hc1 : c1 = 0
 rotate_left
 ·rw [if_pos (show c1 ≠ 0 from hc1),if_neg (show ¬ (c1,s1).1 = 0 from hc1)]
  refine (check_erase L b d n m (m + 1) lg st w h hv s hs hm rfl hm2 hf' c1 s1 he hc1).mono ?_
  rintro e w' g
  exact ⟨ho1.mono (by omega),.inr (.inl ⟨hc1,rfl,g⟩)⟩
 rw [if_neg (show ¬ c1 ≠ 0 from fun g=>g hc1)]
 rw [hc1] at he
 have hsp : Spare st.S.length lg.x ((WalP.free lg st.S.length).take m ++ [(WalP.free lg st.S.length).getD m 0]):=by
  rw [hto];exact spare_take _ _ _
 have hfl : ((WalP.free lg st.S.length).take m).length = m:=by rw [List.length_take];omega
 have hfit : SuperP.Fit (based lg.x lg.num s.length ((WalP.free lg st.S.length).take m) ((WalP.free lg st.S.length).getD m 0)):=based_fit hv.fit hgn hsp ⟨hv.num.1,by have:=hv.num.2;omega⟩ (by rw [hfl];omega)
 refine (check_main L b d n m (m + 1) lg st w h hv s hs hm rfl hm2 hf' s1 he c2 s2 hw2 c3 s3 hl hfit).mono ?_
 rintro e w' ⟨g1,g2,g3⟩
 by_cases hc2 : c2 = 0
 rotate_left
 ·rw [if_pos (show c2 ≠ 0 from hc2),if_neg (show ¬ (c2,s2).1 = 0 from hc2)]
  exact ⟨ho2.mono (by omega),.inr (.inl ⟨hc2,rfl,g1 hc2⟩)⟩
 ·rw [if_neg (show ¬ c2 ≠ 0 from fun g=>g hc2)]
  by_cases hc3 : c3 = 0
  ·rw [if_pos (show (c3,s3).1 = 0 from hc3)]
   exact ⟨ho3,.inl ⟨rfl,g3 hc2 hc3⟩⟩
  ·rw [if_neg (show ¬ (c3,s3).1 = 0 from hc3)]
   exact ⟨ho3,.inr (.inl ⟨hc3,rfl,g2 hc2 hc3⟩)⟩
theorem check_rests (L : List Nat) (b d n : Nat) (lg : Lg) (st : St) (w : World) (h : LS w L b d lg st) (hok : Ok n st) (hn : n ≤ 700000) (K : Kept) (G : Int) (hr : Rests lg st K) (hG : lg.x.gen ≤ G) (hN : lg.num ≤ G) (hG2 : G < 1099511627776) (s : List UInt8) (hs : s.length ≤ 52416) :
  Calls Tryz.prog 21 #[.pointer (some ⟨b,0,none⟩),.string (bs s)] w (Went w L b d n lg st K ⟨some s,[]⟩ G True):=by
 have hv:=rests_lv hr (by omega) (by omega) hok hn
 refine (check_gone L b d n lg st w h hv s hs).mono ?_
 intro e w' hgo
 refine gone_went hr.alive hr.live.idle.2 trivial hgo (fun hu=>unf_chk hu s) ?_
 rcases chk_rests_b hr hG hN (by omega) hs with ⟨lg',st',h1,h2,h3,h4,h5⟩ | h1 | h1
 ·exact .inl ⟨lg',st',h1,h2,h3,by omega,by omega⟩
 ·exact .inr (.inl h1)
 ·exact .inr (.inr h1)
end Go.Proofs.YtnnakhdndmjmiaaGreat.Wal
/-
 The contracts of what the statements of stage 10 compare and make: Same,SameKept,Long,any values.
-/
set_option linter.unusedVariables false
set_option maxRecDepth 4000
namespace Go.Proofs.YtnnakhdndmjmiaaGreat.Wal
open Go.RowKit DiskP SegsP WalP Disk
open Ints (IntsAt IntsAt.keep)
def SameP (w : World) (P : Prop) (e : Ending) (w' : World) : Prop := ∃ r : Bool,e = .returned (.bool r) ∧ (P → r = true) ∧ Below w.heap.size w w'
theorem sameP_no {w w' : World} {P : Prop} (h : ¬ P) (hb : Below w.heap.size w w') : SameP w P (.returned (.bool false)) w':=⟨false,rfl,fun g=>absurd g h,hb⟩
theorem sameP_yes {w w' : World} {P : Prop} (hb : Below w.heap.size w w') : SameP w P (.returned (.bool true)) w':=⟨true,rfl,fun _=>rfl,hb⟩
theorem strs_len {w : World} {a : Option Addr} {n : Nat} {ss : List ByteArray} (h : StrsAt w a n ss) : n ≤ 9223372036854775807:=h.2.1
set_option maxHeartbeats 1000000 in
theorem dsame_any (a c : Option Addr) (la ca lc cc : Nat) (ss ts : List ByteArray) (w : World) (h1 : StrsAt w a la ss) (h2 : StrsAt w c lc ts) :
  Calls Tryz.prog 14 #[.slice a la ca,.slice c lc cc] w (SameP w (ss = ts)):=by
 have hl1:=strs_len h1;have hl2:=strs_len h2
 have e1:=h1.1;have e2:=h2.1
 by_cases hl : la = lc
 ·subst hl
  have HC1:=Lib.hid h1.2.2;have HC2:=Lib.hid h2.2.2
  clear h1 h2 e1 e2
  go_enter Tryz.func14,Tryz.ntmps14
  go_wp2_with fail
  go_loopw [5] (fun i wr => ∃ j : Nat,j ≤ la ∧ i = .int .i64 (j : Int) ∧ Hid (Below w.heap.size w wr)) (fun i _=>la - (intOf i).toNat)
  case atStart=>exact ⟨0,Nat.zero_le _,rfl,Below.refl _ w⟩
  case round =>
   obtain ⟨j,hj,rfl,hB⟩:=hrel
   by_cases hlt : j < la
   ·obtain ⟨b1,o1,rfl,g1,k1⟩:=HC1.out.resolve_left (by omega)
    obtain ⟨b2,o2,rfl,g2,k2⟩:=HC2.out.resolve_left (by omega)
    have d1:=(hB.out.cell (p:=⟨b1,o1 + j,none⟩) g1).trans (k1 j hlt)
    have d2:=(hB.out.cell (p:=⟨b2,o2 + j,none⟩) g2).trans (k2 j hlt)
    have HB:=Lib.hid hB.out.drew
    have hne : (ss.getD j ByteArray.empty) ≠ (ts.getD j ByteArray.empty) → ¬ ss = ts:=fun e g=>e (by rw [g])
    clear hB k1 k2 HC1 HC2
    generalize ss.getD j ByteArray.empty = s at *
    generalize ts.getD j ByteArray.empty = t at *
    have HNE:=Lib.hid hne
    clear hne
    cases hq : (s.toList == t.toList) with
    | true =>
     go_wp2_with fail
     go_region
     all_goals
      go_wp2_with fail
      go_roundw
      case rel=>exact ⟨j + 1,by omega,by go_num,HB⟩
      case measure=>simp [intOf];omega
    | false =>
     have hst : ¬ s = t:=fun e=>by rw [e,beq_self_eq_true] at hq;cases hq
     have HEND:=Lib.hid (sameP_no (HNE.out hst) HB.out)
     clear hst
     go_wp2_with fail
     go_region
     all_goals
      go_wp2_with fail
      go_ret
      exact HEND.out
   ·have HEND:=Lib.hid (sameP_yes (P:=ss = ts) hB.out)
    clear hB
    go_wp2_with fail
    go_ret
    exact HEND.out
 ·have hn : ¬ ss = ts:=fun g=>hl (by rw [← e1,← e2,g])
  have HEND:=Lib.hid (sameP_no (P:=ss = ts) hn (Below.refl _ w))
  have hne : ((la : Int) != (lc : Int)) = true:=by simp;omega
  clear h1 h2 e1 e2 hn
  go_enter Tryz.func14,Tryz.ntmps14
  go_wp2_with fail
  go_ret
  exact HEND.out
theorem boxes_two (w : World) (A B : Array Value) (TA TB : TypeId) : Below w.heap.size w ((w.alloc (.cells A TA)).alloc (.cells B TB)) ∧
  ((w.alloc (.cells A TA)).alloc (.cells B TB)).heap[w.heap.size]? = some (.cells A TA (0,0)) ∧ ((w.alloc (.cells A TA)).alloc (.cells B TB)).heap[w.heap.size + 1]? = some (.cells B TB (0,0)):=by
 have hA:=heap_alloc_new w (.cells A TA)
 have sA : (w.alloc (.cells A TA)).heap.size = w.heap.size + 1:=by simp
 have bA : Below w.heap.size w (w.alloc (.cells A TA)):=(Below.refl _ w).alloc (Nat.le_refl _) _
 generalize w.alloc (.cells A TA) = u at *
 have hB:=heap_alloc_new u (.cells B TB)
 have bB : Below u.heap.size u (u.alloc (.cells B TB)):=(Below.refl _ u).alloc (Nat.le_refl _) _
 rw [sA] at hB bB
 generalize u.alloc (.cells B TB) = v at *
 exact ⟨bA.trans (bB.mono (by omega)),(bB.block _ (by omega)).trans hA,hB⟩
def BatsAt (w : World) (a : Option Addr) (n : Nat) (B : List (List (List UInt8))) : Prop :=
 n = B.length ∧ (n = 0 ∨ ∃ b off,a = some ⟨b,off,none⟩ ∧ b < w.heap.size ∧ ∀ i,i < n → ∃ a' n' c',w.cell? ⟨b,off + i,none⟩ = some (.slice a' n' c') ∧ StrsAt w a' n' ((B.getD i []).map bs))
theorem BatsF.at {w : World} {F : List Nat} {a : Option Addr} {n : Nat} {B : List (List (List UInt8))} (h : BatsF w F a n B) : BatsAt w a n B:=by
 refine ⟨h.1,h.2.imp id ?_⟩
 rintro ⟨b,off,rfl,hb,hF,hc⟩
 refine ⟨b,off,rfl,hb,fun i hi=>?_⟩
 obtain ⟨a',n',c',h1,h2,h3⟩:=hc i hi
 exact ⟨a',n',c',h1,h3.1⟩
theorem BatsAt.keep {w w' : World} {a : Option Addr} {n : Nat} {B : List (List (List UInt8))} (h : BatsAt w a n B) (hb : Below w.heap.size w w') : BatsAt w' a n B:=by
 refine ⟨h.1,h.2.imp id ?_⟩
 rintro ⟨b,off,rfl,hlt,hc⟩
 refine ⟨b,off,rfl,by have:=hb.size;omega,fun i hi=>?_⟩
 obtain ⟨a',n',c',h1,h3⟩:=hc i hi
 exact ⟨a',n',c',(hb.cell (p:=⟨b,off + i,none⟩) hlt).trans h1,h3.keep hb⟩
theorem bats_ne {B1 B2 : List (List (List UInt8))} {j : Nat} (h : ¬ (B1.getD j []).map bs = (B2.getD j []).map bs) : ¬ B1 = B2:=fun e=>h (by rw [e])
set_option maxHeartbeats 2000000 in
theorem sameKept_any (h1 h2 : Bool) (s1 s2 : ByteArray) (a1 a2 : Option Addr) (n1 c1 n2 c2 : Nat) (B1 B2 : List (List (List UInt8))) (w : World) (hb1 : BatsAt w a1 n1 B1) (hb2 : BatsAt w a2 n2 B2) (hn1 : n1 ≤ 1000000000) (hn2 : n2 ≤ 1000000000) (P : Prop) (hP : P → h1 = h2 ∧ s1 = s2 ∧ B1 = B2) :
  Calls Tryz.prog 26 #[.agg #[.bool h1,.string s1,.slice a1 n1 c1],.agg #[.bool h2,.string s2,.slice a2 n2 c2]] w (SameP w P):=by
 have HP:=Lib.hid hP
 clear hP
 obtain ⟨hB2,hA,hB⟩:=boxes_two w #[.bool h1,.string s1,.slice a1 n1 c1] #[.bool h2,.string s2,.slice a2 n2 c2] 51 51
 obtain ⟨w2,hw2⟩ : ∃ w2,(w.alloc (.cells #[.bool h1,.string s1,.slice a1 n1 c1] 51)).alloc (.cells #[.bool h2,.string s2,.slice a2 n2 c2] 51) = w2:=⟨_,rfl⟩
 rw [hw2] at hB2 hA hB
 have p0 : w2.cell? ⟨w.heap.size,0,none⟩ = some (.bool h1):=cell_of_heap hA
 have p1 : w2.cell? ⟨w.heap.size,1,none⟩ = some (.string s1):=cell_of_heap hA
 have p2 : w2.cell? ⟨w.heap.size,2,none⟩ = some (.slice a1 n1 c1):=cell_of_heap hA
 have q0 : w2.cell? ⟨w.heap.size + 1,0,none⟩ = some (.bool h2):=cell_of_heap hB
 have q1 : w2.cell? ⟨w.heap.size + 1,1,none⟩ = some (.string s2):=cell_of_heap hB
 have q2 : w2.cell? ⟨w.heap.size + 1,2,none⟩ = some (.slice a2 n2 c2):=cell_of_heap hB
 have HB2:=Lib.hid hB2
 have hs2 : w.heap.size + 1 < w2.heap.size:=heap_lt hB
 clear hB2 hA hB
 by_cases hh : h1 = h2
 rotate_left
 ·have hne : (h1 != h2) = true:=by simpa using hh
  have HEND:=Lib.hid (sameP_no (P:=P) (fun g=>hh (HP.out g).1) HB2.out)
  clear hb1 hb2
  go_enter Tryz.func26,Tryz.ntmps26
  go_wp2_with fail
  go_ret
  exact HEND.out
 subst hh
 cases hq : (s1.toList == s2.toList) with
 | false =>
  have hst : ¬ s1 = s2:=fun e=>by rw [e,beq_self_eq_true] at hq;cases hq
  have HEND:=Lib.hid (sameP_no (P:=P) (fun g=>hst (HP.out g).2.1) HB2.out)
  clear hb1 hb2 hst
  go_enter Tryz.func26,Tryz.ntmps26
  go_wp2_with fail
  go_ret
  exact HEND.out
 | true =>
  by_cases hn : n1 = n2
  rotate_left
  ·have hne : ((n1 : Int) != (n2 : Int)) = true:=by simp;omega
   have HEND:=Lib.hid (sameP_no (P:=P) (fun g=>hn (by rw [hb1.1,hb2.1,(HP.out g).2.2])) HB2.out)
   clear hb1 hb2 hn
   go_enter Tryz.func26,Tryz.ntmps26
   go_wp2_with fail
   go_ret
   exact HEND.out
  subst hn
  have HP1:=Lib.hid (hb1.keep HB2.out);have HP2:=Lib.hid (hb2.keep HB2.out)
  clear hb1 hb2 hn2
  go_enter Tryz.func26,Tryz.ntmps26
  go_wp2_with fail
  clear hw2
  go_loopw [5] (fun i wr => ∃ j : Nat,j ≤ n1 ∧ i = .int .i64 (j : Int) ∧ Hid (Below w2.heap.size w2 wr)) (fun i _=>n1 - (intOf i).toNat)
  case atStart=>exact ⟨0,Nat.zero_le _,rfl,Below.refl _ w2⟩
  case round =>
   obtain ⟨j,hj,rfl,hB⟩:=hrel
   have u2:=(hB.out.cell (p:=⟨w.heap.size,2,none⟩) (by show w.heap.size < _;omega)).trans p2
   have v2:=(hB.out.cell (p:=⟨w.heap.size + 1,2,none⟩) hs2).trans q2
   by_cases hlt : j < n1
   ·obtain ⟨b1,o1,rfl,g1,k1⟩:=(HP1.out.keep hB.out).2.resolve_left (by omega)
    obtain ⟨b2,o2,rfl,g2,k2⟩:=(HP2.out.keep hB.out).2.resolve_left (by omega)
    obtain ⟨x1,m1,z1,d1,S1⟩:=k1 j hlt
    obtain ⟨x2,m2,z2,d2,S2⟩:=k2 j hlt
    have HS:=Lib.hid (dsame_any x1 x2 m1 z1 m2 z2 _ _ wr.drew (S1.keep (Below.refl _ wr).drew) (S2.keep (Below.refl _ wr).drew))
    have HNE:=Lib.hid (fun h=>bats_ne (B1:=B1) (B2:=B2) (j:=j) h)
    have HBW:=Lib.hid (HB2.out.trans (hB.out.mono HB2.out.size))
    have u2' : wr.drew.cell? ⟨w.heap.size,2,none⟩ = some (.slice (some ⟨b1,o1,none⟩) n1 c1):=u2
    have v2' : wr.drew.cell? ⟨w.heap.size + 1,2,none⟩ = some (.slice (some ⟨b2,o2,none⟩) n1 c2):=v2
    have d1' : wr.drew.cell? ⟨b1,o1 + j,none⟩ = some (.slice x1 m1 z1):=d1
    have d2' : wr.drew.cell? ⟨b2,o2 + j,none⟩ = some (.slice x2 m2 z2):=d2
    clear k1 k2 S1 S2 HP1 HP2 p0 p1 p2 q0 q1 q2
    go_wp2_with fail
    refine wp_region_held_drew (S:=(fun w'=>w'.cell? ⟨w.heap.size,2,none⟩ = some (.slice (some ⟨b1,o1,none⟩) n1 c1) ∧ w'.cell? ⟨w.heap.size + 1,2,none⟩ = some (.slice (some ⟨b2,o2,none⟩) n1 c2) ∧ w'.cell? ⟨b1,o1 + j,none⟩ = some (.slice x1 m1 z1) ∧ w'.cell? ⟨b2,o2 + j,none⟩ = some (.slice x2 m2 z2))) (by kernel_rfl) (by first | exact ⟨u2',v2',d1',d2'⟩) (fun hH0=>?_)
    refine wpAnyH_take (i:=0) (v:=?v1) rfl ?s1 ?f1 ?r1 ?q1 (Or.inl ⟨?y1,?z1⟩) ?h1 ?k1
    case s1 | f1 | r1 | y1=>kernel_rfl
    case q1=>exact fun _ _ _ h=>h
    case z1=>(intro w' hSw;(try dsimp only at hSw);go_simp;(try with_reducible rfl))
    case h1=>exact hH0
    refine wpAnyH_take (i:=1) (v:=?v2) rfl ?s2 ?f2 ?r2 ?q2 (Or.inl ⟨?y2,?z2⟩) ?h2 ?k2
    case s2 | f2 | r2 | y2=>kernel_rfl
    case q2=>exact fun _ _ _ h=>h
    case z2=>(intro w' hSw;(try dsimp only at hSw);go_simp;(try with_reducible rfl))
    case h2=>exact hH0
    refine wpAnyH_take (i:=2) (v:=?v3) rfl ?s3 ?f3 ?r3 ?q3 (Or.inl ⟨?y3,?z3⟩) ?h3 ?k3
    case s3 | f3 | r3 | y3=>kernel_rfl
    case q3=>exact fun _ _ _ h=>h
    case z3=>(intro w' hSw;(try dsimp only at hSw);go_simp;(try with_reducible rfl))
    case h3=>exact hH0
    refine wpAnyH_take (i:=3) (v:=?v4) rfl ?s4 ?f4 ?r4 ?q4 (Or.inl ⟨?y4,?z4⟩) ?h4 ?k4
    case s4 | f4 | r4 | y4=>kernel_rfl
    case q4=>exact fun _ _ _ h=>h
    case z4=>(intro w' hSw;(try dsimp only at hSw);go_simp;(try with_reducible rfl))
    case h4=>exact hH0
    refine wpAnyH_take (i:=4) (v:=?v5) rfl ?s5 ?f5 ?r5 ?q5 (Or.inl ⟨?y5,?z5⟩) ?h5 ?k5
    case s5 | f5 | r5 | y5=>kernel_rfl
    case q5=>exact fun _ _ _ h=>h
    case z5=>(intro w' hSw;(try dsimp only at hSw);go_simp;(try with_reducible rfl))
    case h5=>exact hH0
    refine wpAnyH_take (i:=5) (v:=?v6) rfl ?s6 ?f6 ?r6 ?q6 (Or.inl ⟨?y6,?z6⟩) ?h6 ?k6
    case s6 | f6 | r6 | y6=>kernel_rfl
    case q6=>exact fun _ _ _ h=>h
    case z6=>(intro w' hSw;(try dsimp only at hSw);go_simp;(try with_reducible rfl))
    case h6=>exact hH0
    refine wpAnyH_take (i:=6) (v:=?v7) rfl ?s7 ?f7 ?r7 ?q7 (Or.inl ⟨?y7,?z7⟩) ?h7 ?k7
    case s7 | f7 | r7 | y7=>kernel_rfl
    case q7=>exact fun _ _ _ h=>h
    case z7=>(intro w' hSw;(try dsimp only at hSw);go_simp;(try with_reducible rfl))
    case h7=>exact hH0
    refine wpAnyH_take (i:=7) (v:=?v8) rfl ?s8 ?f8 ?r8 ?q8 (Or.inl ⟨?y8,?z8⟩) ?h8 ?k8
    case s8 | f8 | r8 | y8=>kernel_rfl
    case q8=>exact fun _ _ _ h=>h
    case z8=>(intro w' hSw;(try dsimp only at hSw);go_simp;(try with_reducible rfl))
    case h8=>exact hH0
    refine wpAnyH_take (i:=8) (v:=?v9) rfl ?s9 ?f9 ?r9 ?q9 (Or.inl ⟨?y9,?z9⟩) ?h9 ?k9
    case s9 | f9 | r9 | y9=>kernel_rfl
    case q9=>exact fun _ _ _ h=>h
    case z9=>(intro w' hSw;(try dsimp only at hSw);go_simp;(try with_reducible rfl))
    case h9=>exact hH0
    refine wpAnyH_take (i:=9) (v:=?v10) rfl ?s10 ?f10 ?r10 ?q10 (Or.inl ⟨?y10,?z10⟩) ?h10 ?k10
    case s10 | f10 | r10 | y10=>kernel_rfl
    case q10=>exact fun _ _ _ h=>h
    case z10=>(intro w' hSw;(try dsimp only at hSw);go_simp;(try with_reducible rfl))
    case h10=>exact hH0
    refine wpAnyH_ready (rs:=[10]) (by kernel_rfl) (by simp) ?_
    refine AllReadyH.cons rfl (fun K hK=>?_) AllReadyH.nil
    go_simp
    refine HS.out.mono ?_
    rintro e w5 ⟨r,rfl,hr,hb5⟩
    have hBw5 : Below wr.heap.size wr w5:=(Below.refl _ wr).drew.trans hb5
    have HB5:=Lib.hid (hB.out.trans (hBw5.mono hB.out.size) : Below w2.heap.size w2 w5)
    refine hK.out _ _ ⟨(hBw5.cell (p:=⟨w.heap.size,2,none⟩) (by have:=hB.out.size;show w.heap.size < _;omega)).trans u2,(hBw5.cell (p:=⟨w.heap.size + 1,2,none⟩) (by have:=hB.out.size;show w.heap.size + 1 < _;omega)).trans v2,(hBw5.cell (p:=⟨b1,o1 + j,none⟩) g1).trans d1,(hBw5.cell (p:=⟨b2,o2 + j,none⟩) g2).trans d2⟩ (fun hH1=>?_)
    clear hK K hH0
    refine wpAnyH_take (i:=11) (v:=?v11) rfl ?s11 ?f11 ?r11 ?q11 (Or.inl ⟨?y11,?z11⟩) ?h11 ?k11
    case s11 | f11 | r11 | y11=>kernel_rfl
    case q11=>exact fun _ _ _ h=>h
    case z11=>(intro w' hSw;(try dsimp only at hSw);go_simp;(try with_reducible rfl))
    case h11=>exact hH1
    refine wpAnyH_done (by kernel_rfl) ?_ _
    have HR:=Lib.hid hr
    have HBE:=Lib.hid (HB2.out.trans (HB5.out.mono HB2.out.size))
    clear hr hb5 hBw5 hH1 u2 v2 d1 d2 u2' v2' d1' d2' hB HS
    cases r with
    | true =>
     go_wp2_with fail
     go_roundw
     case rel=>exact ⟨j + 1,by omega,by go_num,HB5⟩
     case measure=>simp [intOf];omega
    | false =>
     have HEND:=Lib.hid (sameP_no (P:=P) (fun g=>HNE.out (fun e=>by have:=HR.out e;cases this) (HP.out g).2.2) HBE.out)
     go_wp2_with fail
     go_ret
     exact HEND.out
   ·have HEND:=Lib.hid (sameP_yes (P:=P) (HB2.out.trans (hB.out.mono HB2.out.size)))
    clear hB HP1 HP2
    go_wp2_with fail
    go_ret
    exact HEND.out
end Go.Proofs.YtnnakhdndmjmiaaGreat.Wal
/-
 Append and Check where there is room and no fuse,told exactly;a log of the call's own.
-/
set_option linter.unusedVariables false
set_option maxRecDepth 4000
namespace Go.Proofs.YtnnakhdndmjmiaaGreat.Wal
open Go.RowKit DiskP SegsP WalP Disk
open Ints (IntsAt IntsAt.keep)
open SuperP (Sup)
open FrameP (frs sz Rec tk)
theorem append_roomy (L : List Nat) (b d n : Nat) (lg : Lg) (st : St) (w : World) (h : LS w L b d lg st) (hok : Ok n st) (hn : n ≤ 700000) (K : Kept) (hr : Rests lg st K) (hG : lg.x.gen ≤ 100) (hN : lg.num ≤ 100) (hu : Unfused st) (recs : List (List UInt8)) (a : Option Addr) (nr cap : Nat) (hS : StrsAt w a nr (recs.map bs)) (ht : Takes recs) (hf : recs.length ≤ 100)
  (hroom : lg.pos + pc (frs recs).length ≤ (secs lg.x.log).length) :
  Calls Tryz.prog 19 #[.pointer (some ⟨b,0,none⟩),.slice a nr cap] w fun e w' => ∃ st',Told w L b d 0 { lg with num:=lg.num + 1,pos:=lg.pos + pc (frs recs).length } st' e w' ∧
   Rests { lg with num:=lg.num + 1,pos:=lg.pos + pc (frs recs).length } st' ⟨K.base,K.bats ++ [recs]⟩ ∧ Unfused st' ∧ Ok (n + 2000) st' ∧ st'.S.length = st.S.length:=by
 have hv:=rests_lv hr (by omega) (by omega) hok hn
 have hal:=hr.alive;have hrn:=hr.live.idle.2
 have hadd : add lg st recs = addS lg st (frs recs):=by
  unfold add
  rw [if_neg (by rw [hal,hrn];simp),if_neg ht.1,if_neg (fun g=>g ht.2.1),if_neg (by have:=ht.2.2;omega)]
 have hnd : SegsP.need ((lg.pos : Int) + (pc (frs recs).length : Nat) - ((secs lg.x.log).length : Nat)) = 0:=by unfold SegsP.need;rw [if_pos (by omega)]
 obtain ⟨c,st1,hp⟩ : ∃ c st1,puts st (((secs lg.x.log).drop lg.pos).zip (seald (lg.num + 1).toNat (frs recs))) = (c,st1):=⟨_,_,rfl⟩
 have hval : add lg st recs = if c = 0 then (0,{ lg with num:=lg.num + 1,pos:=lg.pos + pc (frs recs).length },st1) else (c,{ lg with dead:=true },st1):=by
  rw [hadd]
  unfold addS
  simp only
  rw [hnd,if_neg (by have:=hv.num;have:=hv.gen;omega),if_neg (by omega),if_pos (Int.le_refl _),hp]
 have hun:=unf_add hu recs (lg:=lg)
 have hc : c = 0:=by
  refine Classical.byContradiction fun hc=>?_
  rw [if_neg hc] at hval
  rcases add_rests_b hr hG hN (by omega) (by omega) (recs:=recs) with ⟨_,lg',st',h1,_⟩ | ⟨_,_,h2,_⟩ | ⟨_,h1⟩ | ⟨h1,_⟩
  ·rw [hval] at h1;exact hc (Prod.mk.inj h1).1
  ·rw [hun.2] at h2;cases h2
  ·rw [hval] at h1
   have h3:=(Prod.mk.inj (Prod.mk.inj h1).2).1
   have h4 : lg.dead = true:=by rw [← h3]
   rw [hal] at h4;cases h4
  ·exact h1 ht
 subst hc
 rw [if_pos rfl] at hval
 rw [hval] at hun
 have ho:=puts_ok (((secs lg.x.log).drop lg.pos).zip (seald (lg.num + 1).toNat (frs recs))) st n hok
 rw [hp] at ho
 have hfits : Fits (lg.num + 1).toNat (frs recs):=takes_fits ht (by have:=hv.num;omega) (by have:=hv.num;omega)
 have hzl : (((secs lg.x.log).drop lg.pos).zip (seald (lg.num + 1).toNat (frs recs))).length ≤ 512:=by rw [List.length_zip,seald_length];have:=hfits.2.2;omega
 rcases add_rests_b hr hG hN (by omega) (by omega) (recs:=recs) with ⟨_,lg',st',h1,h2,h3,_⟩ | ⟨_,_,h2,_⟩ | ⟨_,h1⟩ | ⟨h1,_⟩
 ·rw [hval] at h1
  obtain ⟨_,h1⟩:=Prod.mk.inj h1
  obtain ⟨rfl,rfl⟩:=Prod.mk.inj h1
  refine (append_room L b d n lg st w h hv recs a nr cap hS ht hf 0 st1 (by omega) hp).mono ?_
  rintro e w' ⟨g1,_⟩
  exact ⟨st1,g1 rfl,h2,hun,ho.mono (by omega),h3⟩
 ·rw [hval,hun.2] at h2;cases h2
 ·rw [hval] at h1;cases (Prod.mk.inj h1).1
 ·exact absurd ht h1
theorem check_roomy (L : List Nat) (b d n : Nat) (lg : Lg) (st : St) (w : World) (h : LS w L b d lg st) (hok : Ok n st) (hn : n ≤ 700000) (K : Kept) (hr : Rests lg st K) (hG : lg.x.gen ≤ 100) (hN : lg.num ≤ 100) (hu : Unfused st) (s : List UInt8) (hs : s.length ≤ 52416)
  (m : Nat) (hm : (SegsP.need (pc s.length : Int)).toNat = m) (hf : m + 1 ≤ (WalP.free lg st.S.length).length) :
  Calls Tryz.prog 21 #[.pointer (some ⟨b,0,none⟩),.string (bs s)] w fun e w' => ∃ st',Told w L b d 0 { lg with x:=based lg.x lg.num s.length ((WalP.free lg st.S.length).take m) ((WalP.free lg st.S.length).getD m 0),pos:=0 } st' e w' ∧
   Rests { lg with x:=based lg.x lg.num s.length ((WalP.free lg st.S.length).take m) ((WalP.free lg st.S.length).getD m 0),pos:=0 } st' ⟨some s,[]⟩ ∧ Unfused st' ∧ Ok (n + 2000) st' ∧ st'.S.length = st.S.length:=by
 have hv:=rests_lv hr (by omega) (by omega) hok hn
 have hal:=hr.alive;have hrn:=hr.live.idle.2
 obtain ⟨c,st1,hp⟩ : ∃ c st1,baseLay st lg.x lg.num s ((WalP.free lg st.S.length).take m) ((WalP.free lg st.S.length).getD m 0) = (c,st1):=⟨_,_,rfl⟩
 have hval : chk lg st s = if c = 0 then (0,{ lg with x:=based lg.x lg.num s.length ((WalP.free lg st.S.length).take m) ((WalP.free lg st.S.length).getD m 0),pos:=0 },st1) else (c,{ lg with dead:=true },st1):=by
  unfold chk
  simp only
  rw [hm,if_neg (by rw [hal,hrn];simp),if_neg (by omega),if_neg (by have:=hv.gen;omega),if_neg (by omega),hp]
 have hun:=unf_chk hu s (lg:=lg)
 have hd:=chk_rests_b hr hG hN (by omega) hs
 have hc : c = 0:=by
  refine Classical.byContradiction fun hc=>?_
  rw [if_neg hc] at hval
  rcases hd with ⟨lg',st',h1,_⟩ | ⟨_,h2,_⟩ | h1
  ·rw [hval] at h1;exact hc (Prod.mk.inj h1).1
  ·rw [hun.2] at h2;cases h2
  ·rw [hval] at h1
   have h3:=(Prod.mk.inj (Prod.mk.inj h1).2).1
   have h4 : lg.dead = true:=by rw [← h3]
   rw [hal] at h4;cases h4
 subst hc
 rw [if_pos rfl] at hval
 rcases hd with ⟨lg',st',h1,h2,h3,_⟩ | ⟨_,h2,_⟩ | h1
 ·have hgo:=check_gone L b d n lg st w h hv s hs
  rw [hval] at h1 hun hgo
  obtain ⟨_,h1⟩:=Prod.mk.inj h1
  obtain ⟨rfl,rfl⟩:=Prod.mk.inj h1
  refine hgo.mono ?_
  rintro e w' ⟨g0,g⟩
  rcases g with ⟨_,g⟩ | ⟨g,_⟩ | ⟨g,_⟩
  ·exact ⟨st1,g,h2,hun,g0,h3⟩
  ·exact absurd rfl g
  ·exact absurd rfl g
 ·rw [hun.2] at h2;cases h2
 ·rw [hval] at h1;cases (Prod.mk.inj h1).1
def OwnL (w0 w : World) (F : List Nat) (b d : Nat) (lg : Lg) (st : St) : Prop := ∃ L,LS w L b d lg st ∧ (∀ k ∈ b :: L,w0.heap.size ≤ k) ∧ Below w0.heap.size w0 w ∧ ∀ k ∈ F,k ∉ b :: L ∧ k < w.heap.size
theorem OwnL.below {w0 w w' : World} {F : List Nat} {b d : Nat} {lg : Lg} {st : St} (h : OwnL w0 w F b d lg st) (hb : Below w.heap.size w w') : OwnL w0 w' F b d lg st:=by
 obtain ⟨L,h1,h2,h3,h4⟩:=h
 exact ⟨L,h1.below hb,h2,h3.trans (hb.mono h3.size),fun k hk=>⟨(h4 k hk).1,by have:=(h4 k hk).2;have:=hb.size;omega⟩⟩
theorem OwnL.more {w0 w : World} {F : List Nat} {b d : Nat} {lg : Lg} {st : St} (h : OwnL w0 w F b d lg st) {k : Nat} (hk : w.heap.size ≤ k) {w' : World} (hb : Below w.heap.size w w') (hk2 : k < w'.heap.size) : OwnL w0 w' (k :: F) b d lg st:=by
 obtain ⟨L,h1,h2,h3,h4⟩:=h
 refine ⟨L,h1.below hb,h2,h3.trans (hb.mono h3.size),fun j hj=>?_⟩
 rcases List.mem_cons.1 hj with e | hj
 ·refine ⟨fun hm=>?_,by omega⟩
  rcases List.mem_cons.1 hm with g | g
  ·have:=h1.lk.lt;omega
  ·have:=h1.dk.lt _ g;omega
 ·exact ⟨(h4 j hj).1,by have:=(h4 j hj).2;have:=hb.size;omega⟩
theorem OwnL.less {w0 w : World} {F G : List Nat} {b d : Nat} {lg : Lg} {st : St} (h : OwnL w0 w F b d lg st) (hs : ∀ k ∈ G,k ∈ F) : OwnL w0 w G b d lg st:=by
 obtain ⟨L,h1,h2,h3,h4⟩:=h
 exact ⟨L,h1,h2,h3,fun k hk=>h4 k (hs k hk)⟩
theorem OwnL.bel {w0 w : World} {F : List Nat} {b d : Nat} {lg : Lg} {st : St} (h : OwnL w0 w F b d lg st) : Below w0.heap.size w0 w:=h.choose_spec.2.2.1
theorem told_own {w0 w w' : World} {F L : List Nat} {b d : Nat} {lg lg' : Lg} {st st' : St} {c : Int} {e : Ending} (hL : LS w L b d lg st) (h2 : ∀ k ∈ b :: L,w0.heap.size ≤ k) (h3 : Below w0.heap.size w0 w) (h4 : ∀ k ∈ F,k ∉ b :: L ∧ k < w.heap.size) (ht : Told w L b d c lg' st' e w') :
  e = .returned (.int .i64 c) ∧ OwnL w0 w' F b d lg' st' ∧ ∀ k ∈ F,w'.heap[k]? = w.heap[k]?:=by
 obtain ⟨rfl,L',hl,hU⟩:=ht
 refine ⟨rfl,⟨L',hl,fun k hk=>(hU.sub k hk).elim (h2 k) (fun g=>by have:=h3.size;omega),h3.trans (hU.below h2 h3.size),fun k hk=>⟨upd_out hU (h4 k hk).2 (h4 k hk).1,by have:=(h4 k hk).2;have:=hU.size;omega⟩⟩,fun k hk=>hU.block k (h4 k hk).2 (h4 k hk).1⟩
def OpenBy (w0 w : World) (F : List Nat) (b d : Nat) (lg lg2 : Lg) (st' : St) (K : Kept) (e : Ending) (w' : World) : Prop :=
 ∃ B a c,e = .returned (.tuple #[.pointer (some ⟨B,0,none⟩),keptV K a c,.int .i64 0]) ∧ OwnL w0 w' F B d lg2 st' ∧ OwnL w0 w' F b d lg st' ∧ (∀ k ∈ F,w'.heap[k]? = w.heap[k]?) ∧ BatsF w' (List.range w.heap.size) a K.bats.length K.bats ∧ w.heap.size ≤ B
theorem open_own {w0 w w' : World} {F L : List Nat} {b d : Nat} {lg lg2 : Lg} {st st' : St} {K : Kept} {e : Ending} (hL : LS w L b d lg st) (h2 : ∀ k ∈ b :: L,w0.heap.size ≤ k) (h3 : Below w0.heap.size w0 w) (h4 : ∀ k ∈ F,k ∉ b :: L ∧ k < w.heap.size) (ho : OpenOk w L d lg2 st' K e w') : OpenBy w0 w F b d lg lg2 st' K e w':=by
 obtain ⟨B,L',a,c,rfl,hn,hb,hl,hU,hB⟩:=ho
 have hs:=h3.size
 have hlow : ∀ k ∈ L',w0.heap.size ≤ k:=fun k hk=>(hU.sub k hk).elim (fun g=>h2 k (List.mem_cons_of_mem _ g)) (fun g=>by omega)
 have hbel : Below w0.heap.size w0 w':=h3.trans (hU.below (fun k hk=>h2 k (List.mem_cons_of_mem _ hk)) hs)
 have hf : ∀ k ∈ F,k ∉ L:=fun k hk g=>(h4 k hk).1 (List.mem_cons_of_mem _ g)
 have hus:=hU.size
 refine ⟨B,a,c,rfl,⟨L',hl,fun k hk=>?_,hbel,fun k hk=>⟨fun hm=>?_,by have:=(h4 k hk).2;omega⟩⟩,⟨L',⟨hl.dk,hL.lk.upd hU⟩,fun k hk=>?_,hbel,fun k hk=>⟨fun hm=>?_,by have:=(h4 k hk).2;omega⟩⟩,fun k hk=>hU.block k (h4 k hk).2 (hf k hk),hb.less (fun k hk=>List.mem_append_left _ hk),hB⟩
 ·rcases List.mem_cons.1 hk with g | g
  ·omega
  ·exact hlow k g
 ·rcases List.mem_cons.1 hm with g | g
  ·have:=(h4 k hk).2;omega
  ·exact upd_out hU (h4 k hk).2 (hf k hk) g
 ·rcases List.mem_cons.1 hk with g | g
  ·exact h2 k (by rw [g];simp)
  ·exact hlow k g
 ·rcases List.mem_cons.1 hm with g | g
  ·exact (h4 k hk).1 (by rw [g];simp)
  ·exact upd_out hU (h4 k hk).2 (hf k hk) g
def OpenFirst (w0 : World) (d : Nat) (lg2 : Lg) (st' : St) (K : Kept) (e : Ending) (w' : World) : Prop :=
 ∃ B a c,e = .returned (.tuple #[.pointer (some ⟨B,0,none⟩),keptV K a c,.int .i64 0]) ∧ OwnL w0 w' [] B d lg2 st'
theorem open_first {w0 w w' : World} {L : List Nat} {d : Nat} {lg2 : Lg} {st' : St} {K : Kept} {e : Ending} (h2 : ∀ k ∈ L,w0.heap.size ≤ k) (h3 : Below w0.heap.size w0 w) (ho : OpenOk w L d lg2 st' K e w') : OpenFirst w0 d lg2 st' K e w':=by
 obtain ⟨B,L',a,c,rfl,hn,hb,hl,hU,hB⟩:=ho
 have hs:=h3.size
 refine ⟨B,a,c,rfl,⟨L',hl,fun k hk=>?_,h3.trans (hU.below h2 hs),fun k hk=>(by cases hk)⟩⟩
 rcases List.mem_cons.1 hk with g | g
 ·omega
 ·exact (hU.sub k g).elim (h2 k) (fun g=>by omega)
theorem OwnL.kept {w0 w w' : World} {F : List Nat} {b d k : Nat} {lg : Lg} {st : St} {b1 : Bool} {s2 : ByteArray} {a3 : Option Addr} {n3 c3 : Nat} {T : TypeId} (h : OwnL w0 w F b d lg st) (hk : k ∈ F) (hk0 : w0.heap.size ≤ k) (hq : w.heap[k]? = some (.cells #[.bool b1,.string s2,.slice a3 n3 c3] T (0,0))) (hU : Upd [k] w w' [k]) : OwnL w0 w' F b d lg st:=by
 obtain ⟨L,⟨hD,ca,cc,la,lc,hl,g1,g2,g3⟩,h2,h3,h4⟩:=h
 have hkn:=(h4 k hk).1
 have hs:=hU.size
 have ne : ∀ j,j ≠ k → j ∉ [k]:=fun j h1 hm=>h1 (List.mem_singleton.1 hm)
 refine ⟨L,⟨hD.keep fun j hj=>hU.block j (hD.lt j hj) (ne j (fun e=>hkn (by rw [← e];exact List.mem_cons_of_mem _ hj))),ca,cc,la,lc,⟨(hU.block b (heap_lt hl.blk) (ne b (fun e=>hkn (by rw [← e];simp)))).trans hl.blk,ints_other hl.chk (fun h0 y hy=>ne _ (ints_notQ hl.chk h0 hq y hy)) hU,ints_other hl.log (fun h0 y hy=>ne _ (ints_notQ hl.log h0 hq y hy)) hU,hl.cn,hl.ln⟩,g1,g2,g3⟩,h2,h3.trans (hU.below (fun j hj=>by rw [List.mem_singleton.1 hj];exact hk0) h3.size),fun j hj=>⟨(h4 j hj).1,by have:=(h4 j hj).2;omega⟩⟩
def putK (w : World) (k : Nat) (v0 v1 v2 : Value) : World:=((w.setCell ⟨k,0,none⟩ v0).setCell ⟨k,1,none⟩ v1).setCell ⟨k,2,none⟩ v2
theorem heap_putK {w : World} {k : Nat} {x0 x1 x2 : Value} {T : TypeId} (h : w.heap[k]? = some (.cells #[x0,x1,x2] T (0,0))) (v0 v1 v2 : Value) : (putK w k v0 v1 v2).heap[k]? = some (.cells #[v0,v1,v2] T (0,0)):=by
 unfold putK
 have h1:=Lib.heap_setCell_same (i:=0) h v0
 have h2:=Lib.heap_setCell_same (i:=1) h1 v1
 have h3:=Lib.heap_setCell_same (i:=2) h2 v2
 rw [h3];rfl
theorem upd_putK (w : World) (k : Nat) (v0 v1 v2 : Value) : Upd [k] w (putK w k v0 v1 v2) [k]:=by
 have h1:=upd_set w k 0 v0
 have h2:=h1.trans (upd_set _ k 1 v1)
 exact h2.trans (upd_set _ k 2 v2)
theorem takes_one (x : UInt8) : Takes [[x]]:=⟨by simp,fun r hr=>by rw [List.mem_singleton.1 hr];exact ⟨Nat.le_refl 1,by show 1 ≤ 4096;decide⟩,by rw [FrameP.sz_one];show 6 + 1 ≤ 16384;decide⟩
theorem pc_one (x : UInt8) : pc (frs [[x]]).length = 1:=by rw [FrameP.frs_length,FrameP.sz_one,List.length_singleton];unfold pc;omega
theorem strs_lit (w : World) (t : ByteArray) (ht : t.size ≤ 1000) : StrsAt (w.alloc (.cells #[.string t] 9)) (some ⟨w.heap.size,0,none⟩) 1 [t]:=by
 refine ⟨rfl,by decide,.inr ⟨w.heap.size,0,rfl,by simp,fun i hi=>?_⟩⟩
 obtain rfl : i = 0:=by omega
 rw [cell_of_heap (heap_alloc_new w _)];rfl
end Go.Proofs.YtnnakhdndmjmiaaGreat.Wal
/-
 The contracts of with and Long: what is kept,with a batch more;a text so often.
-/
set_option linter.unusedVariables false
set_option maxRecDepth 4000
namespace Go.Proofs.YtnnakhdndmjmiaaGreat.Wal
open Go.RowKit DiskP SegsP WalP Disk
open Ints (IntsAt IntsAt.keep)
theorem bats_rows {w : World} {F : List Nat} {a : Option Addr} {n : Nat} {B : List (List (List UInt8))} (h : BatsF w F a n B) : ∃ rows : List Value,rows.length = n ∧ RowsF w F rows n B ∧ (∀ u ∈ rows,u.oneCell' = true) ∧ (n = 0 ∨ ∃ b off,a = some ⟨b,off,none⟩ ∧ b < w.heap.size ∧ ∀ j u,rows[j]? = some u → w.cell? ((⟨b,off,none⟩ : Addr).add j) = some u):=by
 rcases h.2 with rfl | ⟨b,off,rfl,hb,hF,hc⟩
 ·exact ⟨[],rfl,fun j hj=>absurd hj (Nat.not_lt_zero _),fun u hu=>(by cases hu),.inl rfl⟩
 ·have hall : ∀ i,∃ t : Option Addr × Nat × Nat,i < n → w.cell? ⟨b,off + i,none⟩ = some (.slice t.1 t.2.1 t.2.2) ∧ (t.1 = none → t.2.2 = 0) ∧ StrsF w F t.1 t.2.1 ((B.getD i []).map bs):=fun i=>by
   by_cases hi : i < n
   ·obtain ⟨a',n',c',h1,h2,h3⟩:=hc i hi
    exact ⟨(a',n',c'),fun _=>⟨h1,h2,h3⟩⟩
   ·exact ⟨(none,0,0),fun g=>absurd g hi⟩
  obtain ⟨f,hf⟩:=Classical.axiomOfChoice hall
  have hget : ∀ j,j < n → ((List.range n).map fun i=>Value.slice (f i).1 (f i).2.1 (f i).2.2)[j]? = some (.slice (f j).1 (f j).2.1 (f j).2.2):=fun j hj=>by simp [hj]
  refine ⟨(List.range n).map fun i=>.slice (f i).1 (f i).2.1 (f i).2.2,by simp,fun j hj=>⟨_,_,_,hget j hj,(hf j hj).2.1,(hf j hj).2.2⟩,fun u hu=>?_,.inr ⟨b,off,rfl,hb,fun j u hu=>?_⟩⟩
  ·obtain ⟨i,_,rfl⟩:=List.mem_map.1 hu
   rfl
  ·have hj : j < n:=by
    have:=(List.getElem?_eq_some_iff.1 hu).1
    simpa using this
   rw [hget j hj] at hu
   rw [Addr.add_lit,(hf j hj).1];exact hu
theorem append_sls {ops : Array Oper} {rest : List Oper} {o : Oper} {a : Act} {Q : Exit → Act → World → Prop} (hgd : o.guard = none) (s x : Operand)
  (ho : o.op = .call { callee:=.builtin .append,args:=#[s,x],argTypes:=#[49,49] }) (w : World) (a1 : Option Addr) (n c1 : Nat) (rows : List Value)
  (hs : a.eval s = .slice none 0 0) (hx : a.eval x = .slice a1 n c1) (hn1 : a1 = none → c1 = 0) (h1 : rows.length = n) (h3 : ∀ u ∈ rows,u.oneCell' = true) (h4 : n = 0 ∨ ∃ b off,a1 = some ⟨b,off,none⟩ ∧ b < w.heap.size ∧ ∀ j u,rows[j]? = some u → w.cell? ((⟨b,off,none⟩ : Addr).add j) = some u) (hl : n ≤ 4000000)
  (h : ∀ v' w',w'.ownsRow w.heap.size 22 1 v' n rows → Below w.heap.size w w' → wpList Tryz.prog ops Q rest (a.put o.dst v') w') :
  wpList Tryz.prog ops Q (o :: rest) a w:=by
 obtain ⟨i0,hi,hz0,hz1,hz2⟩:=info_parts info_strs
 cases a1 with
 | none =>
  obtain rfl : n = 0:=h4.elim id (fun ⟨_,_,e,_⟩=>by cases e)
  obtain rfl:=hn1 rfl
  obtain rfl:=List.eq_nil_of_length_eq_zero h1
  exact wpList_append_own_none hgd s x 49 ho w.heap.size 22 i0 1 Tryz.underlying49 hi (.slice none 0 0) 0 [] hs (World.ownsRow_nil _ _ _ _) hx (h _ w (World.ownsRow_nil _ _ _ _) (Below.refl _ w))
 | some ad =>
  have hc : ∀ j u,rows[j]? = some u → w.cell? (ad.add j) = some u:=fun j u hu=>by
   rcases h4 with rfl | ⟨b,off,e,_,hc⟩
   ·rw [List.eq_nil_of_length_eq_zero h1] at hu;cases hu
   ·cases e;exact hc j u hu
  refine wpList_append_own _ hgd s x 49 ho w.heap.size 22 i0 _ 1 24 Tryz.underlying49 hi hz0 hz1 hz2 rfl (by decide) (.slice none 0 0) 0 [] hs (World.ownsRow_nil _ _ _ _) ad n c1 rows hx (by rw [h1];omega) hc h3 (by unfold maxLen;omega) (by omega) (Nat.le_refl _) fun v' w' g1 g2 _=>?_
  rw [Nat.zero_add,List.nil_append] at g1
  exact h v' w' g1 ((Below.refl _ w).grown g2 (Nat.le_refl _) (fun k e=>by cases e))
theorem step_sl {ops : Array Oper} {o : Oper} {a : Act} {w : World} {K : Act → World → Prop} {Q : Exit → Act → World → Prop} {E : Prop} (hg : o.guard = none) (s x : Operand)
  (hop : o.op = Op.call { callee:=Callee.builtin Builtin.append,args:=#[s,x],argTypes:=#[49,49] }) (base : Nat) (a1 : Option Addr) (n1 c1 k : Nat) (v : Value) (n : Nat) (xs : List Value) (hs : a.eval s = v) (hx : a.eval x = .slice (some ⟨k,0,none⟩) 1 1)
  (hown : w.ownsRow base 22 1 v n xs) (hk : w.heap[k]? = some (.cells #[.slice a1 n1 c1] 22 (0,0))) (hn : n ≤ 4000000) (hbase : base ≤ w.heap.size)
  (hK : ∀ v' w',w'.ownsRow base 22 1 v' (n + 1) (xs ++ [.slice a1 n1 c1]) → w.grownBy w' v.ownBlock → K (a.put o.dst v') w') : if Region.wanted o (yielded ops a.tmps) = true then Oper.wp Tryz.prog o a w K Q else E:=by
 have hw : Region.wanted o (yielded ops a.tmps) = true:=by simp [Region.wanted,hg]
 rw [if_pos hw]
 obtain ⟨i0,hi,hz0,hz1,hz2⟩:=info_parts info_strs
 obtain ⟨v',w',hrun,r1,r2,_⟩:=run_append_own (P:=Tryz.prog) w base 49 o.type 22 i0 _ 1 24 Tryz.underlying49 hi hz0 hz1 hz2 rfl (by decide) v n xs hown ⟨k,0,none⟩ 1 1 [.slice a1 n1 c1] rfl (fun j u h=>by
   have hj : j = 0:=by
    have:=(List.getElem?_eq_some_iff.1 h).1
    simp at this;omega
   subst hj
   rw [Addr.add_lit,cell_of_heap hk];exact h) (by simp [Value.oneCell']) (by unfold maxLen;omega) (by omega) hbase
 unfold Oper.wp
 simp [execOp,hop,resolve,invoke,builtin,hs,hx,hrun,Result.andThen]
 exact hK v' w' r1 r2
theorem results_kept {fn : Func} (h : fn.results = #[.cell 4 51]) (tmps : Array Value) (w : World) (b : Nat) (x0 x1 x2 : Value) (hp : tmps.getD 4 undef = .pointer (some ⟨b,0,none⟩))
  (c : w.heap[b]? = some (.cells #[x0,x1,x2] 51 (0,0))) : (results fn tmps).run Tryz.prog w = .ok (.agg #[x0,x1,x2]) w:=by
 have hp' : tmps[4]?.getD undef = .pointer (some ⟨b,0,none⟩):=by rw [← hp];simp
 have c0 : w.cell? ⟨b,0,none⟩ = some x0:=cell_of_heap c
 have c1 : w.cell? ⟨b,1,none⟩ = some x1:=cell_of_heap c
 have c2 : w.cell? ⟨b,2,none⟩ = some x2:=cell_of_heap c
 simp only [results,h]
 go_simp
theorem getD_app_end {B : List (List (List UInt8))} (R : List (List UInt8)) {n : Nat} (h : B.length = n) : (B ++ [R]).getD n [] = R:=by subst h;simp [List.getD]
theorem rows_app {w : World} {F : List Nat} {rows : List Value} {n : Nat} {B : List (List (List UInt8))} (h : RowsF w F rows n B) (R : List (List UInt8)) (hn : B.length = n) : RowsF w F rows n (B ++ [R]):=fun j hj=>by
 obtain ⟨a',n',c',h1,h2,h3⟩:=h j hj
 refine ⟨a',n',c',h1,h2,?_⟩
 rw [show (B ++ [R]).getD j [] = B.getD j [] by simp [List.getD,List.getElem?_append_left (show j < B.length by omega)]]
 exact h3
set_option maxHeartbeats 2000000 in
theorem with_any (h1 : Bool) (s1 : ByteArray) (a1 : Option Addr) (n1 c1 : Nat) (B1 : List (List (List UInt8))) (a2 : Option Addr) (n2 c2 : Nat) (R : List (List UInt8)) (F : List Nat) (w : World) (hn1 : a1 = none → c1 = 0) (hb1 : BatsF w F a1 n1 B1) (hn2 : a2 = none → c2 = 0) (hs2 : StrsF w F a2 n2 (R.map bs)) (hF : ∀ k ∈ F,k < w.heap.size) (hl : n1 ≤ 1000000) :
  Calls Tryz.prog 18 #[.agg #[.bool h1,.string s1,.slice a1 n1 c1],.slice a2 n2 c2] w fun e w' => ∃ a c,e = .returned (.agg #[.bool h1,.string s1,.slice a (n1 + 1) c]) ∧ (a = none → c = 0) ∧ BatsF w' F a (n1 + 1) (B1 ++ [R]) ∧ Below w.heap.size w w':=by
 obtain ⟨hB2,hA,hZ⟩:=boxes_two w #[.bool h1,.string s1,.slice a1 n1 c1] #[.bool false,.string ⟨#[]⟩,.slice none 0 0] 51 51
 obtain ⟨w2,hw2⟩ : ∃ w2,(w.alloc (.cells #[.bool h1,.string s1,.slice a1 n1 c1] 51)).alloc (.cells #[.bool false,.string ⟨#[]⟩,.slice none 0 0] 51) = w2:=⟨_,rfl⟩
 rw [hw2] at hB2 hA hZ
 have p2 : w2.cell? ⟨w.heap.size,2,none⟩ = some (.slice a1 n1 c1):=cell_of_heap hA
 have hBn:=hb1.1
 have HB2:=Lib.hid hB2;have HA:=Lib.hid hA;have HZ:=Lib.hid hZ;have HBW:=Lib.hid hb1;have HS:=Lib.hid hs2;have HF:=Lib.hid hF;have HN2:=Lib.hid hn2;have HBN:=Lib.hid hBn
 have hs2w : w.heap.size + 1 < w2.heap.size:=heap_lt hZ
 obtain ⟨rows,hrl,hrw,hrc,hrx⟩:=bats_rows hb1
 have hrx2 : n1 = 0 ∨ ∃ b off,a1 = some ⟨b,off,none⟩ ∧ b < w2.heap.size ∧ ∀ j u,rows[j]? = some u → w2.cell? ((⟨b,off,none⟩ : Addr).add j) = some u:=by
  rcases hrx with e | ⟨b,off,e,hlt,hc⟩
  ·exact .inl e
  ·refine .inr ⟨b,off,e,by omega,fun j u hu=>?_⟩
   have h9:=hc j u hu
   rw [Addr.add_lit] at h9 ⊢
   exact (hB2.cell (p:=⟨b,off + j,none⟩) hlt).trans h9
 have HRX:=Lib.hid hrx2
 clear hrx2
 have HRL:=Lib.hid hrl;have HRW:=Lib.hid hrw;have HRC:=Lib.hid hrc
 have HN1:=Lib.hid hn1
 clear hB2 hA hZ hb1 hs2 hF hn2 hBn hn1 hrl hrw hrc hrx
 go_enter Tryz.func18,Tryz.ntmps18
 go_wp2_with (at_builtin;refine append_sls rfl (.tmp 6) (.tmp 8) rfl w2 a1 n1 c1 rows rfl rfl HN1.out HRL.out HRC.out HRX.out (by omega) ?_)
 intro v3 w3 hO hb3
 clear hw2 p2
 have HO:=Lib.hid hO;have HB3:=Lib.hid hb3
 clear hO hb3
 go_wp2_with fail
 have HA3:=Lib.hid ((HB3.out.block w.heap.size (by omega)).trans HA.out)
 have HZ3:=Lib.hid ((HB3.out.block (w.heap.size + 1) hs2w).trans HZ.out)
 have p0 : w3.drew.cell? ⟨w.heap.size,0,none⟩ = some (.bool h1):=cell_of_heap HA3.out
 have p1 : w3.drew.cell? ⟨w.heap.size,1,none⟩ = some (.string s1):=cell_of_heap HA3.out
 have hO4 : w3.drew.ownsRow w2.heap.size 22 1 v3 n1 rows:=HO.out
 have hb4 : Below w2.heap.size w2 w3.drew:=HB3.out.drew
 have hA4 : w3.drew.heap[w.heap.size]? = some (.cells #[.bool h1,.string s1,.slice a1 n1 c1] 51 (0,0)):=HA3.out
 have hZ4 : w3.drew.heap[w.heap.size + 1]? = some (.cells #[.bool false,.string ⟨#[]⟩,.slice none 0 0] 51 (0,0)):=HZ3.out
 obtain ⟨w4,hw4⟩ : ∃ w4,w3.drew = w4:=⟨_,rfl⟩
 rw [hw4] at p0 p1 hO4 hb4 hA4 hZ4
 have HP:=Lib.hid (And.intro p0 p1)
 refine wp_region_held_drew (S:=(fun w'=>w'.cell? ⟨w.heap.size,0,none⟩ = some (.bool h1) ∧ w'.cell? ⟨w.heap.size,1,none⟩ = some (.string s1))) (by kernel_rfl) (by rw [hw4];exact HP.out) (fun hH0=>?_)
 rw [hw4] at hH0 ⊢
 clear hw4 HO HB3 HA3 HZ3
 refine wpAnyH_take (i:=0) (v:=?v1) rfl ?s1 ?f1 ?r1 ?q1 (Or.inl ⟨?y1,?z1⟩) ?h1 ?k1
 case s1 | f1 | r1 | y1=>kernel_rfl
 case q1=>exact fun _ _ _ h=>h
 case z1=>(intro w' hSw;(try dsimp only at hSw);go_simp;(try with_reducible rfl))
 case h1=>exact hH0
 refine wpAnyH_take (i:=1) (v:=?v2) rfl ?s2 ?f2 ?r2 ?q2 (Or.inl ⟨?y2,?z2⟩) ?h2 ?k2
 case s2 | f2 | r2 | y2=>kernel_rfl
 case q2=>exact fun _ _ _ h=>h
 case z2=>(intro w' hSw;(try dsimp only at hSw);go_simp;(try with_reducible rfl))
 case h2=>exact hH0
 refine wpAnyH_take (i:=2) (v:=?v3) rfl ?s3 ?f3 ?r3 ?q3 (Or.inl ⟨?y3,?z3⟩) ?h3 ?k3
 case s3 | f3 | r3 | y3=>kernel_rfl
 case q3=>exact fun _ _ _ h=>h
 case z3=>(intro w' hSw;(try dsimp only at hSw);go_simp;(try with_reducible rfl))
 case h3=>exact hH0
 refine wpAnyH_take (i:=3) (v:=?v4) rfl ?s4 ?f4 ?r4 ?q4 (Or.inl ⟨?y4,?z4⟩) ?h4 ?k4
 case s4 | f4 | r4 | y4=>kernel_rfl
 case q4=>exact fun _ _ _ h=>h
 case z4=>(intro w' hSw;(try dsimp only at hSw);go_simp;(try with_reducible rfl))
 case h4=>exact hH0
 refine wpAnyH_take (i:=4) (v:=?v5) rfl ?s5 ?f5 ?r5 ?q5 (Or.inl ⟨?y5,?z5⟩) ?h5 ?k5
 case s5 | f5 | r5 | y5=>kernel_rfl
 case q5=>exact fun _ _ _ h=>h
 case z5=>(intro w' hSw;(try dsimp only at hSw);go_simp;(try with_reducible rfl))
 case h5=>exact hH0
 refine wpAnyH_take (i:=5) (v:=?v6) rfl ?s6 ?f6 ?r6 ?q6 (Or.inl ⟨?y6,?z6⟩) ?h6 ?k6
 case s6 | f6 | r6 | y6=>kernel_rfl
 case q6=>exact fun _ _ _ h=>h
 case z6=>(intro w' hSw;(try dsimp only at hSw);go_simp;(try with_reducible rfl))
 case h6=>exact hH0
 have hb5 : Below w4.heap.size w4 (w4.alloc (.cells #[.slice a2 n2 c2] 22)):=(Below.refl _ w4).alloc (Nat.le_refl _) _
 have hk5:=heap_alloc_new w4 (.cells #[.slice a2 n2 c2] 22)
 have hs24 : w2.heap.size ≤ w4.heap.size:=hb4.size
 have q0 : (w4.alloc (.cells #[.slice a2 n2 c2] 22)).cell? ⟨w.heap.size,0,none⟩ = some (.bool h1):=(hb5.cell (p:=⟨w.heap.size,0,none⟩) (by show w.heap.size < _;omega)).trans p0
 have q1 : (w4.alloc (.cells #[.slice a2 n2 c2] 22)).cell? ⟨w.heap.size,1,none⟩ = some (.string s1):=(hb5.cell (p:=⟨w.heap.size,1,none⟩) (by show w.heap.size < _;omega)).trans p1
 refine wpAnyH_ready (rs:=[6]) (by kernel_rfl) (by simp) ?_
 refine AllReadyH.cons rfl (fun K hK=>?_) AllReadyH.nil
 go_simp
 refine hK.out _ _ ⟨q0,q1⟩ (fun hH1=>?_)
 clear hK K hH0
 refine wpAnyH_ready (rs:=[7]) (by kernel_rfl) (by simp) ?_
 refine AllReadyH.cons rfl (fun K hK=>?_) AllReadyH.nil
 refine step_sl rfl (.tmp 14) (.tmp 16) rfl w2.heap.size a2 n2 c2 w4.heap.size v3 n1 rows rfl rfl (hO4.alloc _) hk5 (by omega) (by have:=hb5.size;omega) ?_
 intro v5 w5 hO5 hg5
 obtain ⟨a5,c5,rfl⟩:=Ints.owns_slice' hO5
 have hlt4:=hO4.lt
 have hbe5 : Below w2.heap.size w2 w5:=hb4.trans ((hb5.mono hs24).trans ((Below.refl _ _).mono (by have:=hb5.size;omega) |>.grown hg5 (by have:=hb5.size;omega) (fun k hk=>(hlt4 k hk).1)))
 have hA5:=(hbe5.block w.heap.size (by omega)).trans HA.out
 have hZ5:=(hbe5.block (w.heap.size + 1) hs2w).trans HZ.out
 refine hK.out _ _ ⟨cell_of_heap hA5,cell_of_heap hA5⟩ (fun hH2=>?_)
 clear hK K hH1
 refine wpAnyH_take (i:=8) (v:=?v7) rfl ?s7 ?f7 ?r7 ?q7 (Or.inl ⟨?y7,?z7⟩) ?h7 ?k7
 case s7 | f7 | r7 | y7=>kernel_rfl
 case q7=>exact fun _ _ _ h=>h
 case z7=>(intro w' hSw;(try dsimp only at hSw);go_simp;(try with_reducible rfl))
 case h7=>exact hH2
 have hU6:=upd_putK w5 (w.heap.size + 1) (.bool h1) (.string s1) (.slice a5 (n1 + 1) c5)
 have hk6:=heap_putK hZ5 (.bool h1) (.string s1) (.slice a5 (n1 + 1) c5)
 obtain ⟨w6,hw6⟩ : ∃ w6,putK w5 (w.heap.size + 1) (.bool h1) (.string s1) (.slice a5 (n1 + 1) c5) = w6:=⟨_,rfl⟩
 rw [hw6] at hU6 hk6
 have hw6' : ((w5.setCell ⟨w.heap.size + 1,0,none⟩ (.bool h1)).setCell ⟨w.heap.size + 1,1,none⟩ (.string s1)).setCell ⟨w.heap.size + 1,2,none⟩ (.slice a5 (n1 + 1) c5) = w6:=hw6
 have hBw6 : Below w.heap.size w w6:=(HB2.out.trans (hbe5.mono HB2.out.size)).trans (hU6.below (fun k hk=>by rw [List.mem_singleton.1 hk];omega) (by have:=hbe5.size;omega))
 have hO6:=owns_heap hO5 fun k hk=>hU6.block k (owns_lt hO5 hk) (fun hm=>by have:=(hO5.lt k hk).1;have:=List.mem_singleton.1 hm;omega)
 have hR6:=((rows_app HRW.out R HBN.out.symm).upd (Upd.of_below hBw6)).snoc HRL.out HN2.out (by rw [getD_app_end R HBN.out.symm];exact HS.out.upd (Upd.of_below hBw6))
 have hfin:=bats_of hO6 hR6 (by rw [List.length_append,← HBN.out];rfl) (fun k hk=>by have:=HF.out k hk;omega)
 have x0 : w5.cell? ⟨w.heap.size + 1,0,none⟩ = some (.bool false):=cell_of_heap hZ5
 have x1 : w5.cell? ⟨w.heap.size + 1,1,none⟩ = some (.string ⟨#[]⟩):=cell_of_heap hZ5
 have x2 : w5.cell? ⟨w.heap.size + 1,2,none⟩ = some (.slice none 0 0):=cell_of_heap hZ5
 have z0 : w5.frozen? ⟨w.heap.size + 1,0,none⟩ = false:=frozen_of_heap hZ5
 have z1 : w5.frozen? ⟨w.heap.size + 1,1,none⟩ = false:=frozen_of_heap hZ5
 have z2 : w5.frozen? ⟨w.heap.size + 1,2,none⟩ = false:=frozen_of_heap hZ5
 have hA6:=(hU6.block w.heap.size (by have:=hbe5.size;omega) (fun hm=>by have:=List.mem_singleton.1 hm;omega)).trans hA5
 have HFIN:=Lib.hid hfin;have HBW6:=Lib.hid hBw6;have HK6:=Lib.hid hk6
 have qq0 : w6.cell? ⟨w.heap.size,0,none⟩ = some (.bool h1):=cell_of_heap hA6
 have qq1 : w6.cell? ⟨w.heap.size,1,none⟩ = some (.string s1):=cell_of_heap hA6
 clear hO6 hR6 hfin hBw6 hk6 hU6 hw6 hA6 hA5 hZ5 hO5 hg5 hbe5 hO4 hb4 hA4 hZ4 hb5 hk5 p0 p1 q0 q1
 refine wpAnyH_ready (rs:=[9]) (by kernel_rfl) (by simp) ?_
 refine AllReadyH.cons rfl (fun K hK=>?_) AllReadyH.nil
 go_simp
 try rw [hw6']
 refine hK.out _ _ ⟨qq0,qq1⟩ (fun hH3=>?_)
 clear hK K hH2
 refine wpAnyH_done (by kernel_rfl) ?_ _
 clear x0 x1 x2 z0 z1 z2 hw6' qq0 qq1 hH3
 go_wp2_with fail
 refine bodyPost_ret (results_kept rfl _ _ (w.heap.size + 1) _ _ _ rfl HK6.out) rfl ?_
 exact ⟨a5,c5,rfl,HFIN.out.1,HFIN.out.2,HBW6.out⟩
end Go.Proofs.YtnnakhdndmjmiaaGreat.Wal
/-
 The contracts of Long (a text so often) and of Few (acts),any.
-/
set_option linter.unusedVariables false
set_option maxRecDepth 4000
namespace Go.Proofs.YtnnakhdndmjmiaaGreat.Wal
open Go.RowKit DiskP SegsP WalP Disk
open Ints (IntsAt IntsAt.keep)
theorem long_any (s : ByteArray) (n : Int) (w : World) (hs : s.size ≤ 60) (h0 : -9223372036854775808 ≤ n) (h1 : n ≤ 9223372036854775807) :
  Calls Tryz.prog 20 #[.string s,.int .i64 n] w fun e w' => ∃ t : ByteArray,e = .returned (.string t) ∧ t.size ≤ 2400 ∧ w = w':=by
 go_enter Tryz.func20,Tryz.ntmps20
 go_wp2_with fail
 go_loopw [5,6] (fun o i wr => ∃ (j : Nat) (t : ByteArray),j ≤ 40 ∧ i = .int .i64 (j : Int) ∧ o = .string t ∧ t.size ≤ j * 60 ∧ w = wr) (fun _ i _=>40 - (intOf i).toNat)
 case atStart=>exact ⟨0,⟨#[]⟩,by omega,rfl,rfl,by decide,rfl⟩
 case round =>
  obtain ⟨j,t,hj,rfl,rfl,ht,rfl⟩:=hrel
  by_cases hn : (j : Int) < n
  ·by_cases h40 : j < 40
   ·have hsz : ¬ (9223372036854775807 < t.size + s.size):=by omega
    have hsz2 : (t ++ s).size = t.size + s.size:=by simp
    have H2:=Lib.hid hsz2
    clear hsz2
    go_wp2_with fail
    go_roundw
    case rel=>exact ⟨j + 1,t ++ s,by omega,by go_num,rfl,by rw [H2.out];omega,by trivial⟩
    case measure=>simp [intOf];omega
   ·go_wp2_with fail
    go_ret
    exact ⟨t,rfl,by omega,rfl⟩
  ·go_wp2_with fail
   go_ret
   exact ⟨t,rfl,by omega,rfl⟩
structure WAct where
 kind : Int
 n : Int
 ra : Option Addr
 rn : Nat
 rc : Nat
 rs : List ByteArray
 tx : ByteArray
 ka : Option Addr
 kn : Nat
 kc : Nat
 kb : List Bool
 tear : Int
structure WActAt (w : World) (b off : Nat) (x : WAct) : Prop where
 c0 : w.cell? ⟨b,off,none⟩ = some (.int .i64 x.kind)
 c1 : w.cell? ⟨b,off + 1,none⟩ = some (.int .i64 x.n)
 c2 : w.cell? ⟨b,off + 2,none⟩ = some (.slice x.ra x.rn x.rc)
 c3 : w.cell? ⟨b,off + 3,none⟩ = some (.string x.tx)
 c4 : w.cell? ⟨b,off + 4,none⟩ = some (.slice x.ka x.kn x.kc)
 c5 : w.cell? ⟨b,off + 5,none⟩ = some (.int .i64 x.tear)
 nlo : -9223372036854775808 ≤ x.n
 nhi : x.n ≤ 9223372036854775807
 tlo : -9223372036854775808 ≤ x.tear
 thi : x.tear ≤ 9223372036854775807
 rs : StrsAt w x.ra x.rn x.rs
 rz : ∀ t ∈ x.rs,t.size ≤ 9223372036854775807
 rnn : x.ra = none → x.rc = 0
 kb : BoolsAt w x.ka x.kn x.kb
 kn : x.kn ≤ 9223372036854775807
 knew : 0 < x.kn → ∀ y,x.ka = some y → y.block < w.heap.size
 txs : x.tx.size ≤ 9223372036854775807
def WActsAt (w : World) (a : Option Addr) (len : Nat) (f : Nat → WAct) : Prop:=len ≤ 9223372036854775807 ∧ (len = 0 ∨ ∃ b off,a = some ⟨b,off,none⟩ ∧ b < w.heap.size ∧ ∀ i,i < len → WActAt w b (off + i * 6) (f i))
structure WFew (x : WAct) : Prop where
 rn : x.rn ≤ 6
 rz : ∀ t ∈ x.rs,t.size ≤ 300
 tx : x.tx.size ≤ 60
 kn : x.kn ≤ 60
def WFewP (w : World) (k len : Nat) (f : Nat → WAct) (e : Ending) (w' : World) : Prop := ∃ r,e = .returned (.bool r) ∧ (r = true → len ≤ k ∧ ∀ i,i < len → WFew (f i)) ∧ w = w'
theorem wfew_ret {w : World} {k len : Nat} {f : Nat → WAct} (r : Bool) (h : r = true → len ≤ k ∧ ∀ i,i < len → WFew (f i)) : WFewP w k len f (.returned (.bool r)) w:=⟨r,rfl,h,rfl⟩
set_option maxHeartbeats 1000000 in
theorem wfew_any (a : Option Addr) (len cap k : Nat) (f : Nat → WAct) (w : World) (h : WActsAt w a len f) (hk : k ≤ 100) :
  Calls Tryz.prog 8 #[.slice a len cap,.int .i64 (k : Int)] w (WFewP w k len f):=by
 have hl : len ≤ 9223372036854775807:=h.1
 have HC:=Lib.hid h.2
 clear h
 go_enter Tryz.func8,Tryz.ntmps8
 go_wp2_with fail
 go_loopw [5] (fun i wr => ∃ j : Nat,j ≤ len ∧ j ≤ k ∧ i = .int .i64 (j : Int) ∧ Hid (∀ i,i < j → WFew (f i)) ∧ w = wr) (fun i _=>len - (intOf i).toNat)
 case atStart=>exact ⟨0,Nat.zero_le _,Nat.zero_le _,rfl,fun i hi=>absurd hi (Nat.not_lt_zero _),rfl⟩
 case round =>
  obtain ⟨j,hj,hjk,rfl,hD,rfl⟩:=hrel
  by_cases hlt : j < len
  ·by_cases hlk : j < k
   ·obtain ⟨b,off,rfl,hb,hc⟩:=HC.out.resolve_left (by omega)
    have hA:=hc j hlt
    have d2:=hA.c2
    have d3:=hA.c3
    have d4:=hA.c4
    have y3:=hA.txs
    have y4:=hA.kn
    have HFW:=Lib.hid (Frame.few_any (f j).ra (f j).rn (f j).rc 6 300 (f j).rs w hA.rs (by decide) (by decide) hA.rz)
    have HRL:=Lib.hid hA.rs.1
    have HNX:=Lib.hid (show WFew (f j) → ∀ i,i < j + 1 → WFew (f i) from fun g i hi=>(Nat.lt_succ_iff_lt_or_eq.1 hi).elim (hD.out i) (fun e=>e ▸ g))
    have HMK:=Lib.hid (show Frame.Few 6 300 (f j).rs → (f j).tx.size ≤ 60 → (f j).kn ≤ 60 → WFew (f j) from fun g1 g2 g3=>⟨by rw [← HRL.out];exact g1.1,g1.2,g2,g3⟩)
    clear hc hA HC hD
    generalize (f j).ra = ra at *
    generalize (f j).rn = rn at *
    generalize (f j).rc = rc at *
    generalize (f j).rs = rs at *
    generalize (f j).tx = tx at *
    generalize (f j).ka = ka at *
    generalize (f j).kn = kn at *
    generalize (f j).kc = kc at *
    go_wp2_with fail
    refine HFW.out.mono ?_
    rintro e w' ⟨r,rfl,hr1,hr2,rfl⟩
    have HR1:=Lib.hid hr1
    clear hr1 hr2 HFW HRL
    cases r with
    | false =>
     go_wp2_with fail
     go_ret
     exact wfew_ret false (fun h=>by cases h)
    | true =>
     by_cases h60 : tx.size ≤ 60
     ·by_cases h61 : kn ≤ 60
      ·have HN:=Lib.hid (HNX.out (HMK.out (HR1.out rfl) h60 h61))
       clear HNX HMK HR1
       go_wp2_with fail
       go_roundw
       case rel=>exact ⟨j + 1,by omega,by omega,by go_num,HN,by trivial⟩
       case measure=>simp [intOf];omega
      ·clear HNX HMK HR1
       go_wp2_with fail
       go_ret
       exact wfew_ret false (fun h=>by cases h)
     ·clear HNX HMK HR1
      go_wp2_with fail
      go_ret
      exact wfew_ret false (fun h=>by cases h)
   ·have HFF:=Lib.hid (show decide (len ≤ k) = false by simp;omega)
    clear hD HC
    go_wp2_with fail
    go_ret
    show WFewP w k len f (.returned (.bool (decide (len ≤ k)))) w
    rw [HFF.out]
    exact wfew_ret false (fun h=>by cases h)
  ·obtain rfl : j = len:=by omega
   have HY:=Lib.hid (show true = true → j ≤ k ∧ ∀ i,i < j → WFew (f i) from fun _=>⟨hjk,hD.out⟩)
   have HFF:=Lib.hid (show decide (j ≤ k) = true by simp;omega)
   clear hD HC
   go_wp2_with fail
   go_ret
   exact wfew_ret true (fun _=>HY.out trivial)
end Go.Proofs.YtnnakhdndmjmiaaGreat.Wal
/-
 The steps of the chapter's example (awake),at a log of the call's own.
-/
set_option linter.unusedVariables false
set_option maxRecDepth 4000
namespace Go.Proofs.YtnnakhdndmjmiaaGreat.Wal
open Go.RowKit DiskP SegsP WalP Disk
open Ints (IntsAt IntsAt.keep)
open SuperP (Sup)
open FrameP (frs sz Rec tk)
structure Fine (lg : Lg) (st : St) (K : Kept) (n N : Nat) : Prop where
 rests : Rests lg st K
 ok : Ok n st
 unf : Unfused st
 len : st.S.length = N
 nn : n ≤ 700000
 gen : lg.x.gen ≤ 100
 num : lg.num ≤ 100
theorem step_append {w0 w : World} {F : List Nat} {b d n N p : Nat} {x : Sup} {m : Int} {st : St} {K : Kept} (h : OwnL w0 w F b d ⟨x,p,m,false⟩ st) (hf : Fine ⟨x,p,m,false⟩ st K n N) (c : UInt8) (a : Option Addr) (cap : Nat) (hS : StrsAt w a 1 [⟨#[c]⟩]) (hroom : p + 1 ≤ (secs x.log).length) :
  Calls Tryz.prog 19 #[.pointer (some ⟨b,0,none⟩),.slice a 1 cap] w fun e w'=>e = .returned (.int .i64 0) ∧ ∃ st',OwnL w0 w' F b d ⟨x,p + 1,m + 1,false⟩ st' ∧
   Rests ⟨x,p + 1,m + 1,false⟩ st' ⟨K.base,K.bats ++ [[[c]]]⟩ ∧ Unfused st' ∧ Ok (n + 2000) st' ∧ st'.S.length = N ∧ ∀ k ∈ F,w'.heap[k]? = w.heap[k]?:=by
 obtain ⟨L,h1,h2,h3,h4⟩:=h
 have hc:=append_roomy L b d n ⟨x,p,m,false⟩ st w h1 hf.ok hf.nn K hf.rests hf.gen hf.num hf.unf [[c]] a 1 cap hS (takes_one c) (by rw [List.length_singleton];decide) (by rw [pc_one];exact hroom)
 rw [pc_one] at hc
 refine hc.mono ?_
 rintro e w' ⟨st',ht,hr,hu,ho,hl⟩
 obtain ⟨g1,g2,g3⟩:=told_own (F:=F) h1 h2 h3 h4 ht
 exact ⟨g1,st',g2,hr,hu,ho,hl.trans hf.len,g3⟩
theorem step_none {w0 w : World} {F : List Nat} {b d n N : Nat} {lg : Lg} {st : St} {K : Kept} (h : OwnL w0 w F b d lg st) (hf : Fine lg st K n N) (a : Option Addr) (cap : Nat) :
  Calls Tryz.prog 19 #[.pointer (some ⟨b,0,none⟩),.slice a 0 cap] w fun e w'=>e = .returned (.int .i64 1) ∧ OwnL w0 w' F b d lg st ∧ ∀ k ∈ F,w'.heap[k]? = w.heap[k]?:=by
 obtain ⟨L,h1,h2,h3,h4⟩:=h
 refine (append_none L b d lg st w h1 hf.rests.alive hf.rests.live.idle.2 a cap).mono ?_
 intro e w' ht
 exact told_own (F:=F) h1 h2 h3 h4 ht
theorem step_check {w0 w : World} {F : List Nat} {b d n N p : Nat} {x : Sup} {m : Int} {st : St} {K : Kept} (h : OwnL w0 w F b d ⟨x,p,m,false⟩ st) (hf : Fine ⟨x,p,m,false⟩ st K n N) (c : UInt8) (ch : List Int) (lo : Int) (hfr : fre (SegsP.cnt N) (x.chk ++ x.log) = ch ++ [lo]) (hch : ch.length = 1) :
  Calls Tryz.prog 21 #[.pointer (some ⟨b,0,none⟩),.string ⟨#[c]⟩] w fun e w'=>e = .returned (.int .i64 0) ∧ ∃ st',OwnL w0 w' F b d ⟨based x m 1 ch lo,0,m,false⟩ st' ∧
   Rests ⟨based x m 1 ch lo,0,m,false⟩ st' ⟨some [c],[]⟩ ∧ Unfused st' ∧ Ok (n + 2000) st' ∧ st'.S.length = N ∧ ∀ k ∈ F,w'.heap[k]? = w.heap[k]?:=by
 obtain ⟨L,h1,h2,h3,h4⟩:=h
 have hfree : WalP.free ⟨x,p,m,false⟩ st.S.length = ch ++ [lo]:=by rw [hf.len];exact hfr
 have e1 : (ch ++ [lo]).take 1 = ch:=by rw [← hch,List.take_left]
 have e2 : (ch ++ [lo]).getD 1 0 = lo:=by rw [← hch];simp [List.getD]
 have hc:=check_roomy L b d n ⟨x,p,m,false⟩ st w h1 hf.ok hf.nn K hf.rests hf.gen hf.num hf.unf [c] (by rw [List.length_singleton];decide) 1 (by rw [List.length_singleton];rfl) (by rw [hfree,List.length_append];simp [hch])
 rw [hfree,e1,e2] at hc
 refine hc.mono ?_
 rintro e w' ⟨st',ht,hr,hu,ho,hl⟩
 obtain ⟨g1,g2,g3⟩:=told_own (F:=F) h1 h2 h3 h4 ht
 exact ⟨g1,st',g2,hr,hu,ho,hl.trans hf.len,g3⟩
theorem step_open {w0 w : World} {F : List Nat} {b d n N : Nat} {lg : Lg} {st : St} {K : Kept} (h : OwnL w0 w F b d lg st) (hf : Fine lg st K n N) :
  Calls Tryz.prog 17 #[.pointer (some ⟨d,0,none⟩)] w (OpenBy w0 w F b d lg lg st K):=by
 obtain ⟨L,h1,h2,h3,h4⟩:=h
 refine (open_rests L d n lg st w h1.dk hf.ok hf.nn K hf.rests).mono ?_
 intro e w' ho
 exact open_own (F:=F) h1 h2 h3 h4 ho
theorem step_num {w0 w : World} {F : List Nat} {b d : Nat} {lg : Lg} {st : St} (h : OwnL w0 w F b d lg st) : Calls Tryz.prog 27 #[.pointer (some ⟨b,0,none⟩)] w fun e w'=>e = .returned (.int .i64 lg.num) ∧ w = w':=by
 obtain ⟨L,h1,_⟩:=h
 exact num_yes L b d lg w h1.lk
theorem step_gen {w0 w : World} {F : List Nat} {b d : Nat} {lg : Lg} {st : St} (h : OwnL w0 w F b d lg st) : Calls Tryz.prog 28 #[.pointer (some ⟨b,0,none⟩)] w fun e w'=>e = .returned (.int .i64 lg.x.gen) ∧ w = w':=by
 obtain ⟨L,h1,_⟩:=h
 exact gen_yes L b d lg w h1.lk
theorem step_free {w0 w : World} {F : List Nat} {b d n N : Nat} {lg : Lg} {st : St} {K : Kept} (h : OwnL w0 w F b d lg st) (hf : Fine lg st K n N) (k : Nat) (hk : (fre (SegsP.cnt N) (lg.x.chk ++ lg.x.log)).length = k) : Calls Tryz.prog 29 #[.pointer (some ⟨b,0,none⟩)] w fun e w'=>e = .returned (.int .i64 (k : Int)) ∧ Below w.heap.size w w':=by
 obtain ⟨L,h1,_⟩:=h
 have hg:=hf.rests.live.good
 have h9:=SuperP.segs_len (fit_segs hg.fit)
 have h8 : 0 < lg.x.log.length:=hg.fit.2.2.1.2.2.2.2.2.2.1
 have hhi:=hf.ok.hi
 have hc:=gfree_yes L b d lg st w h1 (by omega) (by rw [List.length_append];omega) (by omega)
 rw [show WalP.free lg st.S.length = fre (SegsP.cnt N) (lg.x.chk ++ lg.x.log) by rw [hf.len];rfl,hk] at hc
 exact hc
theorem step_first {w0 w : World} {L : List Nat} {d N : Nat} (h : Dk w L d (DiskP.fresh (List.replicate N DiskP.blank))) (h2 : ∀ k ∈ L,w0.heap.size ≤ k) (h3 : Below w0.heap.size w0 w) (hN : 10 ≤ N) (hN2 : N ≤ 512) :
  Calls Tryz.prog 17 #[.pointer (some ⟨d,0,none⟩)] w fun e w' => ∃ st',OpenFirst w0 d ⟨sup0,0,0,false⟩ st' ⟨none,[]⟩ e w' ∧ Rests ⟨sup0,0,0,false⟩ st' ⟨none,[]⟩ ∧ Unfused st' ∧ Ok 10 st' ∧ st'.S.length = N:=by
 refine (open_new L d N w hN hN2 h).mono ?_
 rintro e w' ⟨st',ho,hr,hl,hu,hok⟩
 exact ⟨st',open_first h2 h3 ho,hr,hu,hok,hl⟩
theorem lit_two (w : World) (s t : UInt8) : Below w.heap.size w (((w.alloc (.cells #[.string ⟨#[s]⟩] 9)).alloc (.cells #[.string ⟨#[t]⟩] 9)).alloc (.cells #[.slice (some ⟨w.heap.size,0,none⟩) 1 1,.slice (some ⟨w.heap.size + 1,0,none⟩) 1 1] 22)) ∧
  BatsAt (((w.alloc (.cells #[.string ⟨#[s]⟩] 9)).alloc (.cells #[.string ⟨#[t]⟩] 9)).alloc (.cells #[.slice (some ⟨w.heap.size,0,none⟩) 1 1,.slice (some ⟨w.heap.size + 1,0,none⟩) 1 1] 22)) (some ⟨w.heap.size + 1 + 1,0,none⟩) 2 [[[s]],[[t]]]:=by
 obtain ⟨hb,h1,h2,h3⟩:=three_new w #[.string ⟨#[s]⟩] #[.string ⟨#[t]⟩] #[.slice (some ⟨w.heap.size,0,none⟩) 1 1,.slice (some ⟨w.heap.size + 1,0,none⟩) 1 1] 9 9 22
 generalize ((w.alloc (.cells #[.string ⟨#[s]⟩] 9)).alloc (.cells #[.string ⟨#[t]⟩] 9)).alloc (.cells #[.slice (some ⟨w.heap.size,0,none⟩) 1 1,.slice (some ⟨w.heap.size + 1,0,none⟩) 1 1] 22) = v at *
 refine ⟨hb,rfl,.inr ⟨w.heap.size + 1 + 1,0,rfl,heap_lt h3,fun i hi=>?_⟩⟩
 rcases (show i = 0 ∨ i = 1 by omega) with rfl | rfl
 ·refine ⟨some ⟨w.heap.size,0,none⟩,1,1,cell_of_heap h3,rfl,by decide,.inr ⟨w.heap.size,0,rfl,heap_lt h1,fun i hi=>?_⟩⟩
  obtain rfl : i = 0:=by omega
  rw [cell_of_heap h1];rfl
 ·refine ⟨some ⟨w.heap.size + 1,0,none⟩,1,1,cell_of_heap h3,rfl,by decide,.inr ⟨w.heap.size + 1,0,rfl,heap_lt h2,fun i hi=>?_⟩⟩
  obtain rfl : i = 0:=by omega
  rw [cell_of_heap h2];rfl
theorem lit_one (w : World) (s : UInt8) : Below w.heap.size w ((w.alloc (.cells #[.string ⟨#[s]⟩] 9)).alloc (.cells #[.slice (some ⟨w.heap.size,0,none⟩) 1 1] 22)) ∧
  BatsAt ((w.alloc (.cells #[.string ⟨#[s]⟩] 9)).alloc (.cells #[.slice (some ⟨w.heap.size,0,none⟩) 1 1] 22)) (some ⟨w.heap.size + 1,0,none⟩) 1 [[[s]]]:=by
 obtain ⟨hb,h1,h2⟩:=boxes_two w #[.string ⟨#[s]⟩] #[.slice (some ⟨w.heap.size,0,none⟩) 1 1] 9 22
 generalize (w.alloc (.cells #[.string ⟨#[s]⟩] 9)).alloc (.cells #[.slice (some ⟨w.heap.size,0,none⟩) 1 1] 22) = v at *
 refine ⟨hb,rfl,.inr ⟨w.heap.size + 1,0,rfl,heap_lt h2,fun i hi=>?_⟩⟩
 obtain rfl : i = 0:=by omega
 refine ⟨some ⟨w.heap.size,0,none⟩,1,1,cell_of_heap h2,rfl,by decide,.inr ⟨w.heap.size,0,rfl,heap_lt h1,fun i hi=>?_⟩⟩
 obtain rfl : i = 0:=by omega
 rw [cell_of_heap h1];rfl
theorem free_0 : fre (SegsP.cnt 26) (sup0.chk ++ sup0.log) = [1] ++ [2]:=by decide
theorem free_1 : (fre (SegsP.cnt 26) ((based sup0 2 1 [1] 2).chk ++ (based sup0 2 1 [1] 2).log)).length = 1:=by decide
theorem room_0 : (secs sup0.log).length = 8:=by decide
theorem room_1 : (secs (based sup0 2 1 [1] 2).log).length = 8:=by decide
end Go.Proofs.YtnnakhdndmjmiaaGreat.Wal
/-
 The chapter's example: awake tells true.
-/
set_option linter.unusedVariables false
set_option maxRecDepth 4000
namespace Go.Proofs.YtnnakhdndmjmiaaGreat.Wal
open Go.RowKit DiskP SegsP WalP Disk
open Ints (IntsAt IntsAt.keep)
open SuperP (Sup)
set_option maxHeartbeats 4000000 in
theorem awake_any (w : World) : Calls Tryz.prog 9 #[] w fun e w'=>e = .returned (.bool true) ∧ Below w.heap.size w w':=by
 have HN:=Lib.hid (new_yes 26 w (by decide) (by decide))
 have HR0:=Lib.hid room_0;have HR1:=Lib.hid room_1;have HF0:=Lib.hid free_0;have HF1:=Lib.hid free_1
 go_enter Tryz.func9,Tryz.ntmps9
 go_wp2_with fail
 refine HN.out.mono ?_
 rintro e w1 ⟨d,L,rfl,hD,hL,hb⟩
 have HO:=Lib.hid (step_first (w0:=w) hD hL hb (by decide) (by decide))
 clear hD hL hb HN
 go_wp2_with fail
 refine HO.out.mono ?_
 rintro e w2 ⟨st1,⟨B,a1,c1,rfl,ho⟩,hr1,hu1,hk1,hl1⟩
 clear HO
 rw [show keptV ⟨none,[]⟩ a1 c1 = .agg #[.bool false,.string ⟨#[]⟩,.slice a1 0 c1] from rfl]
 have hb3 : Below w2.heap.size w2 (w2.alloc (.cells #[.bool false,.string ⟨#[]⟩,.slice a1 0 c1] 51)):=(Below.refl _ w2).alloc (Nat.le_refl _) _
 have hs3 : (w2.alloc (.cells #[.bool false,.string ⟨#[]⟩,.slice a1 0 c1] 51)).heap.size = w2.heap.size + 1:=by simp
 have hS4:=strs_lit (w2.alloc (.cells #[.bool false,.string ⟨#[]⟩,.slice a1 0 c1] 51)) ⟨#[97]⟩ (by decide)
 have hb4 : Below (w2.alloc (.cells #[.bool false,.string ⟨#[]⟩,.slice a1 0 c1] 51)).heap.size (w2.alloc (.cells #[.bool false,.string ⟨#[]⟩,.slice a1 0 c1] 51)) ((w2.alloc (.cells #[.bool false,.string ⟨#[]⟩,.slice a1 0 c1] 51)).alloc (.cells #[.string ⟨#[97]⟩] 9)):=(Below.refl _ _).alloc (Nat.le_refl _) _
 have F1 : Fine ⟨sup0,0,0,false⟩ st1 ⟨none,[]⟩ 10 26:=⟨hr1,hk1,hu1,hl1,by decide,by decide,by decide⟩
 rw [hs3] at hS4
 have HA:=Lib.hid (step_append (F:=[]) ((ho.below hb3).below hb4) F1 97 _ 1 hS4 (by rw [HR0.out];decide))
 clear ho hr1 hu1 hk1 hl1 hb3 hb4 hs3 hS4 F1
 go_wp2_with fail
 refine HA.out.mono ?_
 rintro e w5 ⟨rfl,st2,ho,hr,hu,hk,hl,_⟩
 have F2 : Fine ⟨sup0,0 + 1,0 + 1,false⟩ st2 ⟨none,[[[97]]]⟩ (10 + 2000) 26:=⟨hr,hk,hu,hl,by decide,by decide,by decide⟩
 have hb6 : Below w5.heap.size w5 (w5.alloc (.cells #[.string ⟨#[98]⟩] 9)):=(Below.refl _ w5).alloc (Nat.le_refl _) _
 have HB:=Lib.hid (step_append (F:=[]) (ho.below hb6) F2 98 _ 1 (strs_lit w5 ⟨#[98]⟩ (by decide)) (by rw [HR0.out];decide))
 clear ho hr hu hk hl F2 hb6 HA
 go_wp2_with fail
 refine HB.out.mono ?_
 rintro e w6 ⟨rfl,st3,ho,hr,hu,hk,hl,_⟩
 have F3 : Fine ⟨sup0,0 + 1 + 1,0 + 1 + 1,false⟩ st3 ⟨none,[[[97]],[[98]]]⟩ (10 + 2000 + 2000) 26:=⟨hr,hk,hu,hl,by decide,by decide,by decide⟩
 have HC:=Lib.hid (step_none (F:=[]) ho F3 none 0)
 have HF3:=Lib.hid F3
 clear ho hr hu hk hl F3 HB
 go_wp2_with fail
 refine HC.out.mono ?_
 rintro e w7 ⟨rfl,ho,_⟩
 have HO:=Lib.hid (step_open (F:=[]) ho HF3.out)
 clear ho HC
 go_wp2_with fail
 refine HO.out.mono ?_
 rintro e w8 ⟨B2,a2,c2,rfl,_,ho,_,hbt,_⟩
 clear HO
 rw [show keptV ⟨none,[[[97]],[[98]]]⟩ a2 c2 = .agg #[.bool false,.string ⟨#[]⟩,.slice a2 2 c2] from rfl]
 have hbt : BatsAt w8 a2 2 [[[97]],[[98]]]:=hbt.at
 obtain ⟨w9,hw9⟩ : ∃ w9,w8.alloc (.cells #[.bool false,.string ⟨#[]⟩,.slice a2 2 c2] 51) = w9:=⟨_,rfl⟩
 have hs9 : w9.heap.size = w8.heap.size + 1:=by rw [← hw9];simp
 have hb9 : Below w8.heap.size w8 w9:=by rw [← hw9];exact (Below.refl _ w8).alloc (Nat.le_refl _) _
 have hk9 : w9.heap[w8.heap.size]? = some (.cells #[.bool false,.string ⟨#[]⟩,.slice a2 2 c2] 51 (0,0)):=by rw [← hw9];exact heap_alloc_new w8 _
 have HB8:=Lib.hid (show w.heap.size ≤ w8.heap.size from ho.bel.size)
 have ho9:=ho.more (k:=w8.heap.size) (Nat.le_refl _) hb9 (by omega)
 have p0 : w9.cell? ⟨w8.heap.size,0,none⟩ = some (.bool false):=cell_of_heap hk9
 have p1 : w9.cell? ⟨w8.heap.size,1,none⟩ = some (.string ⟨#[]⟩):=cell_of_heap hk9
 have p2 : w9.cell? ⟨w8.heap.size,2,none⟩ = some (.slice a2 2 c2):=cell_of_heap hk9
 have HO9:=Lib.hid ho9;have HK9:=Lib.hid hk9;have HBT:=Lib.hid (hbt.keep hb9)
 clear ho ho9 hbt hk9 hb9
 go_wp2_with fail
 obtain ⟨hbl,hlt⟩:=lit_two w9 97 98
 rw [hs9] at hbl hlt
 have hbl' : Below w9.heap.size w9 (((w9.alloc (.cells #[.string ⟨#[97]⟩] 9)).alloc (.cells #[.string ⟨#[98]⟩] 9)).alloc (.cells #[.slice (some ⟨w8.heap.size + 1,0,none⟩) 1 1,.slice (some ⟨w8.heap.size + 1 + 1,0,none⟩) 1 1] 22)):=by rw [hs9];exact hbl
 have HSK:=Lib.hid (sameKept_any false false ⟨#[]⟩ ⟨#[]⟩ a2 (some ⟨w8.heap.size + 1 + 1 + 1,0,none⟩) 2 c2 2 2 _ _ _ (HBT.out.keep hbl') hlt (by decide) (by decide) True (fun _=>⟨rfl,rfl,rfl⟩))
 have HOL:=Lib.hid (HO9.out.below hbl')
 have HKL:=Lib.hid ((hbl'.block w8.heap.size (by omega)).trans HK9.out)
 clear hbl hlt hbl' HO9 HK9 HBT p0 p1 p2 hw9
 refine HSK.out.mono ?_
 rintro e w10 ⟨r,rfl,hr,hb10⟩
 have hr:=hr trivial
 subst hr
 have ho10:=HOL.out.below hb10
 have hk10:=(hb10.block w8.heap.size (heap_lt HKL.out)).trans HKL.out
 have HCHK:=Lib.hid (step_check (F:=[w8.heap.size]) ho10 HF3.out 120 [1] 2 HF0.out rfl)
 have HK10:=Lib.hid hk10
 clear HSK hb10 HOL HKL ho10 hk10 hs9
 go_wp2_with fail
 refine HCHK.out.mono ?_
 rintro e w11 ⟨rfl,st4,ho,hr,hu,hk,hl,hkeep⟩
 have F4 : Fine ⟨based sup0 2 1 [1] 2,0,2,false⟩ st4 ⟨some [120],[]⟩ (10 + 2000 + 2000 + 2000) 26:=⟨hr,hk,hu,hl,by decide,by decide,by decide⟩
 have ho : OwnL w w11 [w8.heap.size] B d ⟨based sup0 2 1 [1] 2,0,2,false⟩ st4:=ho
 have HK11:=Lib.hid ((hkeep w8.heap.size (by simp)).trans HK10.out)
 have hb12 : Below w11.heap.size w11 (w11.alloc (.cells #[.string ⟨#[99]⟩] 9)):=(Below.refl _ w11).alloc (Nat.le_refl _) _
 have HAP:=Lib.hid (step_append (F:=[w8.heap.size]) (ho.below hb12) F4 99 _ 1 (strs_lit w11 ⟨#[99]⟩ (by decide)) (by rw [HR1.out];decide))
 have HK12:=Lib.hid ((hb12.block w8.heap.size (heap_lt HK11.out)).trans HK11.out)
 clear ho hr hu hk hl hkeep F4 hb12 HCHK HK10 HK11 HF3
 go_wp2_with fail
 refine HAP.out.mono ?_
 rintro e w13 ⟨rfl,st5,ho,hr,hu,hk,hl,hkeep⟩
 have F5 : Fine ⟨based sup0 2 1 [1] 2,1,3,false⟩ st5 ⟨some [120],[[[99]]]⟩ (10 + 2000 + 2000 + 2000 + 2000) 26:=⟨hr,hk,hu,hl,by decide,by decide,by decide⟩
 have ho : OwnL w w13 [w8.heap.size] B d ⟨based sup0 2 1 [1] 2,1,3,false⟩ st5:=ho
 have hk13:=(hkeep w8.heap.size (by simp)).trans HK12.out
 have HO:=Lib.hid (step_open (F:=[w8.heap.size]) ho F5)
 have HF5:=Lib.hid F5;have HK13:=Lib.hid hk13
 clear ho hr hu hk hl hkeep F5 hk13 HAP HK12
 go_wp2_with fail
 refine HO.out.mono ?_
 rintro e w14 ⟨B3,a3,c3,rfl,ho,_,hkeep,hbt,_⟩
 rw [show keptV ⟨some [120],[[[99]]]⟩ a3 c3 = .agg #[.bool true,.string ⟨#[120]⟩,.slice a3 1 c3] from rfl]
 have hbt : BatsF w14 (List.range w13.heap.size) a3 1 [[[99]]]:=hbt
 have hk14:=(hkeep w8.heap.size (by simp)).trans HK13.out
 have hlt8 : w8.heap.size < w13.heap.size:=heap_lt HK13.out
 obtain ⟨w15,hw15⟩ : ∃ w15,putK w14 w8.heap.size (.bool true) (.string ⟨#[120]⟩) (.slice a3 1 c3) = w15:=⟨_,rfl⟩
 have hU15:=upd_putK w14 w8.heap.size (.bool true) (.string ⟨#[120]⟩) (.slice a3 1 c3)
 have hk15:=heap_putK hk14 (.bool true) (.string ⟨#[120]⟩) (.slice a3 1 c3)
 rw [hw15] at hU15 hk15
 have hbw : w.heap.size ≤ w8.heap.size:=HB8.out
 have ho15:=ho.kept (by simp) hbw hk14 hU15
 have hbt15:=(hbt.upd (upd_more hU15 (N:=List.range w13.heap.size) (fun k hk=>by rw [List.mem_singleton.1 hk];exact List.mem_range.2 hlt8))).at
 have hw15' : ((w14.setCell ⟨w8.heap.size,0,none⟩ (.bool true)).setCell ⟨w8.heap.size,1,none⟩ (.string ⟨#[120]⟩)).setCell ⟨w8.heap.size,2,none⟩ (.slice a3 1 c3) = w15:=hw15
 have x0 : w14.cell? ⟨w8.heap.size,0,none⟩ = some (.bool false):=cell_of_heap hk14
 have x1 : w14.cell? ⟨w8.heap.size,1,none⟩ = some (.string ⟨#[]⟩):=cell_of_heap hk14
 have x2 : w14.cell? ⟨w8.heap.size,2,none⟩ = some (.slice a2 2 c2):=cell_of_heap hk14
 have y0 : w14.frozen? ⟨w8.heap.size,0,none⟩ = false:=frozen_of_heap hk14
 have y1 : w14.frozen? ⟨w8.heap.size,1,none⟩ = false:=frozen_of_heap hk14
 have y2 : w14.frozen? ⟨w8.heap.size,2,none⟩ = false:=frozen_of_heap hk14
 have p0 : w15.cell? ⟨w8.heap.size,0,none⟩ = some (.bool true):=cell_of_heap hk15
 have p1 : w15.cell? ⟨w8.heap.size,1,none⟩ = some (.string ⟨#[120]⟩):=cell_of_heap hk15
 have p2 : w15.cell? ⟨w8.heap.size,2,none⟩ = some (.slice a3 1 c3):=cell_of_heap hk15
 have HO15:=Lib.hid ho15;have HBT:=Lib.hid hbt15
 clear ho hkeep hbt hk14 hk15 hw15 hU15 ho15 hbt15 HO HK13 hbw
 go_wp2_with fail
 clear x0 x1 x2 y0 y1 y2 hw15'
 obtain ⟨hbl,hlt⟩:=lit_one w15 99
 have HSK:=Lib.hid (sameKept_any true true ⟨#[120]⟩ ⟨#[120]⟩ a3 (some ⟨w15.heap.size + 1,0,none⟩) 1 c3 1 1 _ _ _ (HBT.out.keep hbl) hlt (by decide) (by decide) True (fun _=>⟨rfl,rfl,rfl⟩))
 have HOL:=Lib.hid (HO15.out.below hbl)
 clear hbl hlt HO15 HBT p0 p1 p2
 refine HSK.out.mono ?_
 rintro e w16 ⟨r,rfl,hr,hb16⟩
 have hr:=hr trivial
 subst hr
 have ho16:=HOL.out.below hb16
 have HNM:=Lib.hid (step_num ho16);have HGN:=Lib.hid (step_gen ho16);have HFR:=Lib.hid (step_free ho16 HF5.out 1 HF1.out)
 have HBW:=Lib.hid ho16.bel
 clear HSK hb16 HOL ho16
 go_wp2_with fail
 refine HNM.out.mono ?_
 rintro e w17 ⟨rfl,rfl⟩
 go_wp2_with fail
 refine HGN.out.mono ?_
 rintro e w17 ⟨rfl,rfl⟩
 go_wp2_with fail
 refine HFR.out.mono ?_
 rintro e w17 ⟨rfl,hb17⟩
 have HEND:=Lib.hid (HBW.out.trans (hb17.mono HBW.out.size))
 clear hb17
 go_wp2_with fail
 go_ret
 exact ⟨rfl,HEND.out⟩
end Go.Proofs.YtnnakhdndmjmiaaGreat.Wal
/-
 The walk of WalNobody: any records,any base.
-/
set_option linter.unusedVariables false
set_option maxRecDepth 4000
namespace Go.Proofs.YtnnakhdndmjmiaaGreat.Wal
open Go.RowKit DiskP SegsP WalP Disk
open Ints (IntsAt IntsAt.keep)
theorem awake_in {w w' : World} (hb : Below w.heap.size w w') : Calls Tryz.prog 9 #[] w' fun e w''=>e = .returned (.bool true) ∧ Below w.heap.size w w'' :=
 (awake_any w').mono fun e w'' h=>⟨h.1,hb.trans (h.2.mono hb.size)⟩
end Go.Proofs.YtnnakhdndmjmiaaGreat.Wal
/-
 What stands while a law runs: a log on its disk,the law's own cells,what is kept in them.
-/
set_option linter.unusedVariables false
set_option maxRecDepth 4000
namespace Go.Proofs.YtnnakhdndmjmiaaGreat.Wal
open Go.RowKit DiskP SegsP WalP Disk
open Ints (IntsAt IntsAt.keep)
structure Env (w wr : World) (b d : Nat) (L : List Nat) (lg : Lg) (st : St) (F : List Nat) : Prop where
 ls : LS wr L b d lg st
 low : ∀ k ∈ b :: L,w.heap.size ≤ k
 bel : Below w.heap.size w wr
 own : ∀ k ∈ F,k ∉ b :: L ∧ w.heap.size ≤ k ∧ k < wr.heap.size
structure VarAt (w : World) (G : List Nat) (k : Nat) (K : Kept) (a : Option Addr) (c : Nat) : Prop where
 cell : w.heap[k]? = some (.cells #[.bool K.base.isSome,.string (bs (K.base.getD [])),.slice a K.bats.length c] 51 (0,0))
 nn : a = none → c = 0
 bats : BatsF w G a K.bats.length K.bats
section
variable {w wr w' : World} {b d : Nat} {L L' F G G' : List Nat} {lg lg' : Lg} {st st' : St} {k : Nat} {K : Kept} {a : Option Addr} {c : Nat}
theorem VarAt.step (h : VarAt wr G k K a c) (hk : w'.heap[k]? = wr.heap[k]?) (hU : Upd G wr w' G') : VarAt w' G' k K a c:=⟨hk.trans h.cell,h.nn,h.bats.upd hU⟩
theorem VarAt.below (h : VarAt wr G k K a c) (hb : Below wr.heap.size wr w') : VarAt w' G k K a c:=h.step (hb.block k (heap_lt h.cell)) (Upd.of_below hb)
theorem bats_new {w : World} {G : List Nat} {a : Option Addr} {n : Nat} {B : List (List (List UInt8))} (h : BatsF w G a n B) {k : Nat} (hk : w.heap.size ≤ k) : BatsF w (k :: G) a n B:=by
 have ne : ∀ j,j < w.heap.size → j ∉ G → j ∉ k :: G:=fun j h1 h2 hm=>by
  rcases List.mem_cons.1 hm with g | g
  ·omega
  ·exact h2 g
 refine ⟨h.1,h.2.imp id ?_⟩
 rintro ⟨b,off,rfl,hb,hF,hc⟩
 refine ⟨b,off,rfl,hb,ne b hb hF,fun i hi=>?_⟩
 obtain ⟨a',n',c',h1,h2,h3⟩:=hc i hi
 exact ⟨a',n',c',h1,h2,h3.1,fun h0 y hy=>ne _ (ints_lt2 h3.1 h0 y hy) (h3.2 h0 y hy)⟩
theorem VarAt.new (h : VarAt wr G k K a c) {j : Nat} (hj : wr.heap.size ≤ j) : VarAt wr (j :: G) k K a c:=⟨h.cell,h.nn,bats_new h.bats hj⟩
theorem VarAt.less (h : VarAt wr G k K a c) (hs : ∀ j ∈ G',j ∈ G) : VarAt wr G' k K a c:=⟨h.cell,h.nn,h.bats.less hs⟩
theorem VarAt.three (h : VarAt wr G k K a c) : wr.cell? ⟨k,0,none⟩ = some (.bool K.base.isSome) ∧ wr.cell? ⟨k,1,none⟩ = some (.string (bs (K.base.getD []))) ∧ wr.cell? ⟨k,2,none⟩ = some (.slice a K.bats.length c):=⟨cell_of_heap h.cell,cell_of_heap h.cell,cell_of_heap h.cell⟩
theorem Env.below (h : Env w wr b d L lg st F) (hb : Below wr.heap.size wr w') : Env w w' b d L lg st F :=
 ⟨h.ls.below hb,h.low,h.bel.trans (hb.mono h.bel.size),fun k hk=>⟨(h.own k hk).1,(h.own k hk).2.1,by have:=(h.own k hk).2.2;have:=hb.size;omega⟩⟩
theorem Env.drew (h : Env w wr b d L lg st F) : Env w wr.drew b d L lg st F:=h.below (Below.refl _ wr).drew
theorem Env.new (h : Env w wr b d L lg st F) (hb : Below wr.heap.size wr w') (hk : wr.heap.size ≤ k) (hk2 : k < w'.heap.size) : Env w w' b d L lg st (k :: F):=by
 have h1:=h.below hb
 refine ⟨h1.ls,h1.low,h1.bel,fun j hj=>?_⟩
 rcases List.mem_cons.1 hj with e | hj
 ·refine ⟨fun hm=>?_,by have:=h.bel.size;omega,by omega⟩
  rcases List.mem_cons.1 hm with g | g
  ·have:=h.ls.lk.lt;omega
  ·have:=h.ls.dk.lt _ g;omega
 ·exact h1.own j hj
theorem Env.less (h : Env w wr b d L lg st F) (hs : ∀ j ∈ G,j ∈ F) : Env w wr b d L lg st G:=⟨h.ls,h.low,h.bel,fun k hk=>h.own k (hs k hk)⟩
theorem Env.upd (h : Env w wr b d L lg st F) (hl : LS w' L' b d lg' st') (hU : Upd (b :: L) wr w' (b :: L')) : Env w w' b d L' lg' st' F ∧ (∀ k ∈ F,w'.heap[k]? = wr.heap[k]?) ∧ Upd (F ++ b :: L) wr w' (F ++ b :: L'):=by
 have hs:=h.bel.size
 refine ⟨⟨hl,fun k hk=>(hU.sub k hk).elim (h.low k) (fun g=>by omega),h.bel.trans (hU.below h.low hs),fun k hk=>⟨upd_out hU (h.own k hk).2.2 (h.own k hk).1,(h.own k hk).2.1,by have:=(h.own k hk).2.2;have:=hU.size;omega⟩⟩,fun k hk=>hU.block k (h.own k hk).2.2 (h.own k hk).1,upd_wider hU F⟩
theorem Env.told {e : Ending} {r : Int} (h : Env w wr b d L lg st F) (ht : Told wr L b d r lg' st' e w') : e = .returned (.int .i64 r) ∧ ∃ L',Env w w' b d L' lg' st' F ∧ (∀ k ∈ F,w'.heap[k]? = wr.heap[k]?) ∧ Upd (F ++ b :: L) wr w' (F ++ b :: L'):=by
 obtain ⟨rfl,L',hl,hU⟩:=ht
 exact ⟨rfl,L',h.upd hl hU⟩
theorem Env.put {b1 : Bool} {s2 : ByteArray} {a3 : Option Addr} {n3 c3 : Nat} {T : TypeId} (h : Env w wr b d L lg st F) (hk : k ∈ F) (hq : wr.heap[k]? = some (.cells #[.bool b1,.string s2,.slice a3 n3 c3] T (0,0))) (hU : Upd [k] wr w' [k]) : Env w w' b d L lg st F ∧ Upd (F ++ b :: L) wr w' (F ++ b :: L):=by
 obtain ⟨⟨hD,ca,cc,la,lc,hl,g1,g2,g3⟩,h2,h3,h4⟩:=h
 have hkn:=(h4 k hk).1
 have hk0:=(h4 k hk).2.1
 have hs:=hU.size
 have ne : ∀ j,j ≠ k → j ∉ [k]:=fun j h1 hm=>h1 (List.mem_singleton.1 hm)
 exact ⟨⟨⟨hD.keep fun j hj=>hU.block j (hD.lt j hj) (ne j (fun e=>hkn (by rw [← e];exact List.mem_cons_of_mem _ hj))),ca,cc,la,lc,⟨(hU.block b (heap_lt hl.blk) (ne b (fun e=>hkn (by rw [← e];simp)))).trans hl.blk,ints_other hl.chk (fun h0 y hy=>ne _ (ints_notQ hl.chk h0 hq y hy)) hU,ints_other hl.log (fun h0 y hy=>ne _ (ints_notQ hl.log h0 hq y hy)) hU,hl.cn,hl.ln⟩,g1,g2,g3⟩,h2,h3.trans (hU.below (fun j hj=>by rw [List.mem_singleton.1 hj];exact hk0) h3.size),fun j hj=>⟨(h4 j hj).1,(h4 j hj).2.1,by have:=(h4 j hj).2.2;omega⟩⟩,
  upd_more hU fun j hj=>by rw [List.mem_singleton.1 hj];exact List.mem_append_left _ hk⟩
theorem act_strs {w wr : World} {ra : Option Addr} {rn : Nat} {rs : List ByteArray} (h : StrsAt w ra rn rs) (hb : Below w.heap.size w wr) (hG : ∀ k ∈ G,w.heap.size ≤ k) : StrsF wr G ra rn ((rs.map tl).map bs):=by
 have e : (rs.map tl).map bs = rs:=by
  rw [List.map_map]
  conv=>rhs;rw [← List.map_id rs]
  exact List.map_congr_left fun t _=>bs_tl t
 rw [e]
 exact ⟨h.keep hb,fun h0 y hy hm=>by have:=ints_lt2 h h0 y hy;have:=hG _ hm;omega⟩
theorem act_few {x : WAct} (h : WFew x) (hs : x.rs.length = x.rn) : (x.rs.map tl).length ≤ 6 ∧ ∀ r ∈ x.rs.map tl,r.length ≤ 300:=by
 refine ⟨by rw [List.length_map,hs];exact h.rn,fun r hr=>?_⟩
 obtain ⟨t,ht,rfl⟩:=List.mem_map.1 hr
 rw [tl_length];exact h.rz t ht
end
end Go.Proofs.YtnnakhdndmjmiaaGreat.Wal
/-
 A log in a situation: at rest,or stopped;what Append and Check make of it,a fuse,a crash.
-/
set_option linter.unusedVariables false
set_option maxRecDepth 4000
namespace Go.Proofs.YtnnakhdndmjmiaaGreat.Wal
open Go.RowKit DiskP SegsP WalP Disk
open Ints (IntsAt IntsAt.keep)
structure Sit (D : Bool) (G : Int) (m n : Nat) (lg : Lg) (st : St) (K K' : Kept) : Prop where
 ok : Ok n st
 len : st.S.length = m
 run : D = false → Rests lg st K ∧ lg.x.gen ≤ G ∧ lg.num ≤ G
 halt : D = true → lg.dead = true ∧ st.dead = true ∧ Img st fun S=>S.length = m ∧ (KeepsB G S K ∨ KeepsB G S K')
section
variable {D : Bool} {G : Int} {m n : Nat} {lg : Lg} {st : St} {K K' : Kept}
theorem img_mono {st : St} {P Q : List ByteArray → Prop} (h : Img st P) (hq : ∀ S,P S → Q S) : Img st Q:=fun ks t=>hq _ (h ks t)
theorem Sit.mono (h : Sit D G m n lg st K K') {G' : Int} {n' : Nat} (hG : G ≤ G') (hn : n ≤ n') : Sit D G' m n' lg st K K' :=
 ⟨h.ok.mono hn,h.len,fun e=>⟨(h.run e).1,by have:=(h.run e).2.1;omega,by have:=(h.run e).2.2;omega⟩,fun e=>⟨(h.halt e).1,(h.halt e).2.1,img_mono (h.halt e).2.2 fun S g=>⟨g.1,g.2.imp (fun q=>q.mono hG) (fun q=>q.mono hG)⟩⟩⟩
theorem rests_fuse (h : Rests lg st K) (k : Int) : Rests lg (fu st k) K:=⟨⟨⟨h.live.idle.1,h.live.idle.2⟩,h.live.sz,h.live.good,h.live.blk⟩,h.pos,h.num,h.alive,h.takes⟩
theorem Sit.fuse (h : Sit D G m n lg st K K') {k : Int} (hk : k ≤ 9223372036854775807) : Sit D G m n lg (fu st k) K K' :=
 ⟨fu_ok h.ok hk,h.len,fun e=>⟨rests_fuse (h.run e).1 k,(h.run e).2⟩,fun e=>⟨(h.halt e).1,(h.halt e).2.1,(h.halt e).2.2⟩⟩
theorem Sit.img (h : Sit D G m n lg st K K') : Img st fun S=>S.length = m ∧ (KeepsB G S K ∨ KeepsB G S K'):=by
 cases D with
 | true=>exact (h.halt rfl).2.2
 | false =>
  obtain ⟨h1,h2,h3⟩:=h.run rfl
  rw [← h.len]
  exact rests_img_b h1 h2 h3 K'
end
def Sat (w : World) (L : List Nat) (b d : Nat) (D : Bool) (G : Int) (m n : Nat) (lg : Lg) (st : St) (K K' K2 : Kept) (e : Ending) (w' : World) : Prop :=
 ∃ c lg2 st2 D2 A A',Told w L b d c lg2 st2 e w' ∧ Sit D2 (G + 1) m (n + 2000) lg2 st2 A A' ∧ (D = D2 ∨ D = false) ∧
  ((c = 0 ∧ D2 = false ∧ A = K2 ∧ A' = K2) ∨ (c = 13 ∧ D2 = true ∧ A = K ∧ ((D = false ∧ A' = K2) ∨ (D = true ∧ A' = K'))) ∨ ((c = 1 ∨ c = 4) ∧ D2 = false ∧ A = K ∧ A' = K'))
theorem went_sat {w w' : World} {L : List Nat} {b d : Nat} {G : Int} {m n : Nat} {lg : Lg} {st : St} {K K' K2 : Kept} {ok : Prop} {e : Ending} (h : Sit false G m n lg st K K') (g : Went w L b d n lg st K K2 G ok e w') : Sat w L b d false G m n lg st K K' K2 e w':=by
 have hl:=h.len
 rcases g with ⟨lg2,st2,_,ht,hr2,hl2,hn2,hg2,ho2,_⟩ | ⟨lg2,st2,_,ht,h1,h2,h3,ho2,_⟩ | ⟨c,hc,ht⟩
 ·exact ⟨0,lg2,st2,false,K2,K2,ht,⟨ho2,hl2.trans hl,fun _=>⟨hr2,hg2,hn2⟩,fun e=>by cases e⟩,.inl rfl,.inl ⟨rfl,rfl,rfl,rfl⟩⟩
 ·rw [hl] at h3
  have hlen : st2.S.length = m:=by
   have:=(h3 [] 0).1
   rw [crS_length] at this;exact this
  exact ⟨13,lg2,st2,true,K,K2,ht,⟨ho2,hlen,(fun e=>by cases e),fun _=>⟨h1,h2,h3⟩⟩,.inr rfl,.inr (.inl ⟨rfl,rfl,rfl,.inl ⟨rfl,rfl⟩⟩)⟩
 ·exact ⟨c,lg,st,false,K,K',ht,h.mono (by omega) (by omega),.inl rfl,.inr (.inr ⟨hc,rfl,rfl,rfl⟩)⟩
theorem told_stay {w w' : World} {L : List Nat} {b d : Nat} {lg : Lg} {st : St} {c : Int} {e : Ending} (h : LS w L b d lg st) (he : e = .returned (.int .i64 c)) (hb : Below w.heap.size w w') : Told w L b d c lg st e w':=⟨he,L,h.below hb,Upd.of_below hb⟩
theorem append_sat (L : List Nat) (b d : Nat) (D : Bool) (G : Int) (m n : Nat) (lg : Lg) (st : St) (K K' : Kept) (w : World) (h : LS w L b d lg st) (hs : Sit D G m n lg st K K') (hn : n ≤ 700000) (hG : G < 1099511627776)
  (recs : List (List UInt8)) (a : Option Addr) (nr cap : Nat) (hS : StrsAt w a nr (recs.map bs)) (hf : recs.length ≤ 6) (hz : ∀ r ∈ recs,r.length ≤ 300) :
  Calls Tryz.prog 19 #[.pointer (some ⟨b,0,none⟩),.slice a nr cap] w (Sat w L b d D G m n lg st K K' ⟨K.base,K.bats ++ [recs]⟩):=by
 cases D with
 | false =>
  obtain ⟨h1,h2,h3⟩:=hs.run rfl
  exact (append_rests L b d n lg st w h hs.ok hn K G h1 h2 h3 hG recs a nr cap hS hf hz).mono fun e w' g=>went_sat hs g
 | true =>
  obtain ⟨h1,h2,h3⟩:=hs.halt rfl
  exact (append_early 13 _ a nr cap w fun w1 hb=>ready_dead L b d lg st w1 (h.below hb) (.inl h1)).mono fun e w' g =>
   ⟨13,lg,st,true,K,K',told_stay h g.1 g.2,hs.mono (by omega) (by omega),.inl rfl,.inr (.inl ⟨rfl,rfl,rfl,.inr ⟨rfl,rfl⟩⟩)⟩
theorem check_sat (L : List Nat) (b d : Nat) (D : Bool) (G : Int) (m n : Nat) (lg : Lg) (st : St) (K K' : Kept) (w : World) (h : LS w L b d lg st) (hs : Sit D G m n lg st K K') (hn : n ≤ 700000) (hG : G < 1099511627776) (t : ByteArray) (ht : t.size ≤ 52416) :
  Calls Tryz.prog 21 #[.pointer (some ⟨b,0,none⟩),.string t] w (Sat w L b d D G m n lg st K K' ⟨some (tl t),[]⟩):=by
 cases D with
 | false =>
  obtain ⟨h1,h2,h3⟩:=hs.run rfl
  have hc:=check_rests L b d n lg st w h hs.ok hn K G h1 h2 h3 hG (tl t) (by rw [tl_length];exact ht)
  rw [bs_tl] at hc
  exact hc.mono fun e w' g=>went_sat hs g
 | true =>
  obtain ⟨h1,h2,h3⟩:=hs.halt rfl
  exact (check_early 13 _ t w fun w1 hb=>ready_dead L b d lg st w1 (h.below hb) (.inl h1)).mono fun e w' g =>
   ⟨13,lg,st,true,K,K',told_stay h g.1 g.2,hs.mono (by omega) (by omega),.inl rfl,.inr (.inl ⟨rfl,rfl,rfl,.inr ⟨rfl,rfl⟩⟩)⟩
theorem Env.did {w wr w' : World} {b d : Nat} {L F : List Nat} {lg : Lg} {st st' : St} {v : Value} {e : Ending} (h : Env w wr b d L lg st F) (hd : Did wr L d st' v e w') :
  e = .returned v ∧ ∃ L',Env w w' b d L' lg st' F ∧ (∀ k ∈ F,w'.heap[k]? = wr.heap[k]?) ∧ Upd (F ++ b :: L) wr w' (F ++ b :: L'):=by
 obtain ⟨rfl,L',hD,hU⟩:=hd
 exact ⟨rfl,L',h.upd (h.ls.step hD hU) (Upd.wide hU)⟩
end Go.Proofs.YtnnakhdndmjmiaaGreat.Wal
/-
 The walk of WalFull: any number,any acts.
-/
set_option linter.unusedVariables false
set_option maxRecDepth 4000
namespace Go.Proofs.YtnnakhdndmjmiaaGreat.Wal
open Go.RowKit DiskP SegsP WalP Disk
open Ints (IntsAt IntsAt.keep)
theorem acts_keep {w wz : World} {a : Option Addr} {len : Nat} {f : Nat → WAct} (h : WActsAt w a len f) (hb : Below w.heap.size w wz) : WActsAt wz a len f:=by
 refine ⟨h.1,h.2.imp id ?_⟩
 rintro ⟨b,off,rfl,hlt,hc⟩
 have hs:=hb.size
 have hk : ∀ i v,w.cell? ⟨b,i,none⟩ = some v → wz.cell? ⟨b,i,none⟩ = some v:=fun i v hv=>(hb.cell (p:=⟨b,i,none⟩) hlt).trans hv
 refine ⟨b,off,rfl,by omega,fun i hi=>?_⟩
 have g:=hc i hi
 exact ⟨hk _ _ g.c0,hk _ _ g.c1,hk _ _ g.c2,hk _ _ g.c3,hk _ _ g.c4,hk _ _ g.c5,g.nlo,g.nhi,g.tlo,g.thi,g.rs.keep hb,g.rz,g.rnn,g.kb.keep (L:=[]) (fun _ _ _ hm=>by cases hm) (fun k hk _=>hb.block k hk) hs,g.kn,fun h0 y hy=>by have:=g.knew h0 y hy;omega,g.txs⟩
end Go.Proofs.YtnnakhdndmjmiaaGreat.Wal
/-
 The walk of WalTwice: any acts,any crash.
-/
set_option linter.unusedVariables false
set_option maxRecDepth 4000
namespace Go.Proofs.YtnnakhdndmjmiaaGreat.Wal
open Go.RowKit DiskP SegsP WalP Disk
open Ints (IntsAt IntsAt.keep)
theorem open_calm (L : List Nat) (d n : Nat) (st : St) (w : World) (h : Dk w L d st) (hok : Ok n st) (hn : n ≤ 700000) (hi : Idle st) (hu : Unfused st) (K : Kept) (G : Int) (hk : KeepsB G st.S K) :
  Calls Tryz.prog 17 #[.pointer (some ⟨d,0,none⟩)] w fun e w' => ∃ st' lg,st'.S.length = st.S.length ∧ Ok (n + 600) st' ∧ Unfused st' ∧ OpenOk w L d lg st' K e w' ∧ Rests lg st' K ∧ lg.x.gen ≤ G ∧ lg.num ≤ G:=by
 refine (open_keeps L d n st w h hok hn hi K G hk).mono ?_
 rintro e w' ⟨st',h1,h2,h3,g⟩
 rcases g with ⟨lg,g1,g2⟩ | ⟨_,g2,_⟩
 ·exact ⟨st',lg,h1,h2,h3 hu,g1,g2⟩
 ·have:=(h3 hu).2
  rw [g2] at this;cases this
end Go.Proofs.YtnnakhdndmjmiaaGreat.Wal
