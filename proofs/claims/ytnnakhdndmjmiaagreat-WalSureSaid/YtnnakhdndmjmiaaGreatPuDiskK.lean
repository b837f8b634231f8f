import Derived.Test.YtnnakhdndmjmiaaGreatPuDiskH
import Derived.Test.YtnnakhdndmjmiaaGreatPuMixIn
set_option linter.unusedVariables false
set_option maxRecDepth 4000
namespace Go.Proofs.YtnnakhdndmjmiaaGreat.Disk
open Go.RowKit Go.Shelf DiskP
attribute [local go_sem] Oper.semAt_some
theorem fp_dead {st : St} (h : st.dead = true) : fl st = (13,st):=by unfold fl;rw [if_pos h]
theorem fp_stop {st : St} (h : st.dead = false) (hp : opd st = true) : fl st = (13,op st):=by unfold fl;rw [if_neg (by simp [h]),if_pos hp]
theorem fp_yes {st : St} (h : st.dead = false) (hp : opd st = false) : fl st = (0,{ op st with S:=play st.S st.W,W:=[] }):=by unfold fl;rw [if_neg (by simp [h]),if_neg (by simp [hp])]
theorem dk_own {X Y : World} {row : Option Nat} {b g cap : Nat} {st : St} {z : Int} {wv : Value} (h : DkAt X b st z g cap wv) (hg : X.grownBy Y row) (hr : ∀ r,row = some r → ∃ o : Obj,X.heap[r]? = some o ∧ o.isCells = false) : DkAt Y b st z g cap wv:=by
 have no : ∀ k cs t f,X.heap[k]? = some (.cells cs t f) → some k ≠ row:=fun k cs t f hk e=>by
  obtain ⟨o,ho,hc⟩:=hr k e.symm
  rw [hk] at ho;cases ho;cases hc
 refine h.keep (fun k hk=>hg.block k (h.lt k hk) ?_)
 rcases mem_foot.1 hk with rfl | rfl | e
 ·exact no _ _ _ _ h.blk
 ·obtain ⟨cur,hc⟩:=owns_type h.sec rfl
  exact no _ _ _ _ hc
 ·obtain ⟨cur,hc⟩:=owns_type h.wts e
  exact no _ _ _ _ hc
theorem Upd.of_but {L : List Nat} {w w' : World} (h : But w.heap.size L w w') : Upd L w w' L:=⟨h.os,h.tape,h.output,h.size,fun k hk hn=>h.block k hk hn,fun k hk=>.inl hk⟩
theorem But.mono {n0 : Nat} {gs gs' : List Nat} {w w' : World} (h : But n0 gs w w') (hg : ∀ k ∈ gs,k ∈ gs') : But n0 gs' w w':=⟨h.os,h.tape,h.output,h.size,fun k hk hn=>h.block k hk (fun hm=>hn (hg k hm))⟩
theorem dk_store {w : World} {b g cap k : Nat} {st : St} {z : Int} {wv : Value} (h : DkAt w b st z g cap wv) (y : ByteArray) :
  DkAt (w.setCell ⟨g,k,none⟩ (.string y)) b { st with S:=st.S.set k y } z g cap wv ∧ w.grownBy (w.setCell ⟨g,k,none⟩ (.string y)) (some g):=by
 obtain ⟨h1,h2⟩:=World.ownsRow.stored h.sec k (.string y)
 refine ⟨⟨?_,h.zr,?_,?_⟩,h2⟩
 ·rw [List.length_set]
  exact (h2.block b (heap_lt h.blk) (fun e=>h.bg (by cases e;rfl))).trans h.blk
 ·rw [List.length_set,List.map_set];exact h1
 ·exact owns_heap h.wts (fun j e=>h2.block j (owns_lt h.wts e) (fun e2=>h.gw e (by cases e2;rfl)))
theorem But.drew {n0 : Nat} {gs : List Nat} {a w : World} (h : But n0 gs a w) : But n0 gs a w.drew:=⟨h.os,h.tape,h.output,h.size,h.block⟩
theorem DkAt.drew {w : World} {b g cap : Nat} {st : St} {z : Int} {wv : Value} (h : DkAt w b st z g cap wv) : DkAt w.drew b st z g cap wv:=⟨h.blk,h.zr,h.sec,h.wts⟩
theorem Upd.less {L L' L'' : List Nat} {w w' : World} (h : Upd L w w' L') (hl : ∀ k ∈ L'',k ∈ L') : Upd L w w' L'':=⟨h.os,h.tape,h.output,h.size,h.block,fun k hk=>h.sub k (hl k hk)⟩
theorem dk_done {w : World} {b g cap : Nat} {st : St} {z : Int} {wv : Value} (h : DkAt w b st z g cap wv) : DkAt (w.setCell ⟨b,4,none⟩ (.slice none 0 0)) b { st with W:=[] } z g cap (.slice none 0 0):=by
 have hs2:=Lib.grownBy_setCell w b 4 (.slice none 0 0)
 refine ⟨?_,h.zr,?_,World.ownsRow_nil _ _ _ _⟩
 ·exact Lib.heap_setCell_same (i:=4) h.blk _
 ·exact owns_heap h.sec (fun j e=>hs2.block j (owns_lt h.sec e) (fun e2=>h.bg (by cases e2;simpa [Value.ownBlock] using e.symm)))
theorem sec_at {w : World} {g cap k n : Nat} {S : List ByteArray} (h : w.ownsRow 0 9 1 (.slice (some ⟨g,0,none⟩) n cap) n (S.map Value.string)) (hk : k < S.length) :
  w.cell? ⟨g,k,none⟩ = some (.string (S.getD k ByteArray.empty)) ∧ w.frozen? ⟨g,k,none⟩ = false :=
 ⟨owns_cell h rfl (by simp [List.getD,hk]),owns_frozen h rfl⟩
theorem pend_each_sub (b : Nat) (st : St) (g cap : Nat) (z : Int) (wv : Value) (n : Nat) (w : World) (h : DkAt w b st z g cap wv) (hn : st.W.length ≤ 1000000000) (h2 : 2 ≤ n) :
  SeqStopsK Fence.wide n Tryz.prog 116 #[.pointer (some ⟨w.heap.size,0,none⟩),.pointer (some ⟨w.heap.size + 1,0,none⟩)] (fun x : { x : Wr // x ∈ st.W }=>#[wval x.1]) (But (w.heap.size + 2) [g]) (fun xs=>xs.map (·.1) = st.W) (fun _=>True) st.W.length
   ((w.alloc (.cells #[.pointer (some ⟨b,0,none⟩)] 26)).alloc (.cells #[.func (.func 145) #[] #[]] 75)):=by
 have hc:=cell_two (w:=w) (v1:=.pointer (some ⟨b,0,none⟩)) (v2:=.func (.func 145) #[] #[]) (t1:=26) (t2:=75)
 have hb : Below w.heap.size w ((w.alloc (.cells #[.pointer (some ⟨b,0,none⟩)] 26)).alloc (.cells #[.func (.func 145) #[] #[]] 75)):=((Below.refl _ w).alloc (Nat.le_refl _) _).alloc (by simp) _
 have hg : g < w.heap.size:=owns_lt h.sec rfl
 have hs:=pend_stops_sub 145 #[] (fun _=>true) (enters_of Tryz.func145 (by kernel_rfl) rfl) w.heap.size (w.heap.size + 1) b (w.heap.size + 2) n [g] st.W wv h2 _
  (fun i W' _ _=>each_in i _ W') hc.1 hc.2 ⟨by omega,by simp;omega⟩ ((hb.cell (p:=⟨b,4,none⟩) (heap_lt h.blk)).trans (cell_of_heap h.blk)) (owns_heap h.wts (fun k e=>hb.block k (owns_lt h.wts e)))
  (fun k e=>⟨by have:=owns_lt h.wts e;omega,by simp;exact fun e2=>h.gw e e2.symm⟩) hn (by simp)
 rw [selT_all _ _ (Nat.le_refl _),List.take_length] at hs
 exact hs
theorem boxed_cell {w : World} {t : TypeId} {v : Value} : (w.alloc (.cells #[v] t)).heap[w.heap.size]? = some (.cells #[v] t (0,0)):=heap_alloc_new w _
set_option maxRecDepth 100000 in
set_option maxHeartbeats 4000000 in
theorem flush_dk (b n : Nat) (st : St) (L : List Nat) (w : World) (h : Dk w L b st) (hok : Ok n st) (hn : n ≤ 1000000000) :
  Calls Tryz.prog 106 #[.pointer (some ⟨b,0,none⟩)] w (Did w L b (fl st).2 (.int .i64 (fl st).1)):=by
 obtain ⟨z,g,cap,wv,h,rfl⟩:=h
 have hsl:=hok.hi
 have hwn : st.W.length ≤ 1000000000:=by have:=hok.wn;omega
 have hbel : Below w.heap.size w (w.alloc (.cells #[.pointer (some ⟨b,0,none⟩)] 26)):=(Below.refl _ w).alloc (Nat.le_refl _) _
 have h1 : DkAt (w.alloc (.cells #[.pointer (some ⟨b,0,none⟩)] 26)) b st z g cap wv:=h.keep (fun k hk=>hbel.block k (h.lt k hk))
 have hr:=ready_dk b st _ _ ⟨z,g,cap,wv,h1,rfl⟩
 have hbx : (w.alloc (.cells #[.pointer (some ⟨b,0,none⟩)] 26)).heap[w.heap.size]? = some (.cells #[.pointer (some ⟨b,0,none⟩)] 26 (0,0)):=boxed_cell
 have hw1 : ∃ w1,w.alloc (.cells #[.pointer (some ⟨b,0,none⟩)] 26) = w1:=⟨_,rfl⟩
 have hlt : ∀ k ∈ foot b g wv,k < w.heap.size:=h.lt
 have HU0:=Lib.hid (show ∀ w1,w.alloc (.cells #[.pointer (some ⟨b,0,none⟩)] 26) = w1 → Upd (foot b g wv) w w1 (foot b g wv) from fun w1 e=>by rw [← e];exact Upd.of_below hbel)
 have HLT:=Lib.hid hlt
 cases hd : st.dead with
 | true =>
  rw [fp_dead hd]
  rw [hd] at hr
  have HD:=Lib.hid (show Did w (foot b g wv) b st (.int .i64 13) (.returned (.int .i64 13)) (w.alloc (.cells #[.pointer (some ⟨b,0,none⟩)] 26)) from ⟨rfl,_,⟨z,g,cap,wv,h1,rfl⟩,Upd.of_below hbel⟩)
  have HR:=Lib.hid hr
  clear h h1 hr hbx hw1 hok hd hbel hlt
  go_enter Tryz.func106,Tryz.ntmps106
  go_wp2_with fail
  refine HR.out.mono ?_
  rintro e w' ⟨rfl,rfl⟩
  go_wp2_with fail
  go_ret
  exact HD.out
 | false =>
 rw [hd] at hr
 have hop:=operate_any b st z _ _ _ h1.blk h1.zr (by have:=hok.ops;omega)
 cases hp : opd st with
 | true =>
  rw [fp_stop hd hp]
  rw [hp] at hop
  have HR:=Lib.hid hr;have HO:=Lib.hid hop;have H1:=Lib.hid h1;have HBEL:=Lib.hid hbel
  have c1 : (w.alloc (.cells #[.pointer (some ⟨b,0,none⟩)] 26)).cell? ⟨w.heap.size,0,none⟩ = some (.pointer (some ⟨b,0,none⟩)):=cell_of_heap hbx
  clear h h1 hr hop hbx hw1 hok hd hp hbel hlt
  go_enter Tryz.func106,Tryz.ntmps106
  go_wp2_with fail
  refine HR.out.mono ?_
  rintro e w' ⟨rfl,rfl⟩
  go_wp2_with fail
  refine HO.out.mono ?_
  rintro e w2 ⟨rfl,⟨z',hb,hz⟩,hg⟩
  have HD:=Lib.hid (show Did w (foot b g wv) b (op st) (.int .i64 13) (.returned (.int .i64 13)) w2 from ⟨rfl,_,⟨z',g,cap,wv,dk_op H1.out hb hz hg,rfl⟩,(Upd.of_below HBEL.out).trans (Upd.of_grown hg (by simp [foot]))⟩)
  clear hb hz hg c1
  go_wp2_with fail
  go_ret
  exact HD.out
 | false =>
  rw [fp_yes hd hp]
  rw [hp] at hop
  have HAT:=Lib.hid (fun x hx=>hok.wat x hx)
  have HR:=Lib.hid hr;have HO:=Lib.hid hop;have H1:=Lib.hid h1;have HBX:=Lib.hid hbx
  clear h h1 hr hop hbx hok hd hp hbel hlt
  refine (callsIn_wide (n:=6)).1 ?_
  refine callsIn_of_wp_marks Tryz.func106 rfl trivial ?_ rfl
  simp only [Tryz.ntmps106,List.size_toArray,List.length_cons,List.length_nil,Nat.reduceAdd,Nat.reduceSub,Array.replicate_succ,Array.replicate_zero,List.push_toArray,List.append_toArray,List.nil_append,List.cons_append]
  obtain ⟨w1,hw1⟩:=hw1
  rw [hw1] at HR HO H1 HBX
  have HUU:=Lib.hid (HU0.out w1 hw1)
  have e1 : w1.cell? ⟨w.heap.size,0,none⟩ = some (.pointer (some ⟨b,0,none⟩)):=cell_of_heap HBX.out
  have HS1 : Hid (w1.heap.size = w.heap.size + 1):=by rw [← hw1];show _ = _;simp
  clear HU0
  gi_wp2_with fail
  refine ⟨trivial,?_⟩
  refine (callsIn_wide.2 HR.out).mono ?_
  rintro e w' ⟨rfl,rfl⟩
  gi_wp2_with fail
  refine ⟨trivial,?_⟩
  refine (callsIn_wide.2 HO.out).mono ?_
  rintro e w2 ⟨rfl,⟨z',hb,hz⟩,hg⟩
  have hbw : b < w.heap.size:=HLT.out b (by simp [foot])
  have hD2:=dk_op H1.out hb hz hg
  have hbx2 : w2.heap[w.heap.size]? = some (.cells #[.pointer (some ⟨b,0,none⟩)] 26 (0,0)):=(hg.block w.heap.size (by have:=HS1.out;omega) (fun e=>by cases e;omega)).trans HBX.out
  have e2 : w2.cell? ⟨w.heap.size,0,none⟩ = some (.pointer (some ⟨b,0,none⟩)):=cell_of_heap hbx2
  have hU2:=HUU.out.trans (Upd.of_grown (L:=foot b g wv) hg (by simp [foot]))
  have hsz2 : w.heap.size < w2.heap.size:=heap_lt hbx2
  have hseq:=pend_each_sub b (op st) g cap z' wv 5 w2 hD2 hwn (by omega)
  obtain ⟨w3,hw3⟩ : ∃ w3,(w2.alloc (.cells #[.pointer (some ⟨b,0,none⟩)] 26)).alloc (.cells #[.func (.func 145) #[] #[]] 75) = w3:=⟨_,rfl⟩
  have hs3 : w3.heap.size = w2.heap.size + 2:=by rw [← hw3];show _ = _;simp
  have hb3 : Below w2.heap.size w2 w3:=by rw [← hw3];exact ((Below.refl _ w2).alloc (Nat.le_refl _) _).alloc (by simp) _
  rw [hw3,← hs3] at hseq
  have hD3 : DkAt w3 b (op st) z' g cap wv:=hD2.keep (fun k hk=>hb3.block k (hD2.lt k hk))
  have hbx3 : w3.heap[w.heap.size]? = some (.cells #[.pointer (some ⟨b,0,none⟩)] 26 (0,0)):=(hb3.block _ hsz2).trans hbx2
  have HSEQ:=Lib.hid hseq;have HD3:=Lib.hid hD3;have HBX3:=Lib.hid hbx3;have HU3:=Lib.hid (hU2.trans (Upd.of_below hb3));have HW3:=Lib.hid hw3;have HSZ:=Lib.hid (show w.heap.size < w3.heap.size by omega)
  clear hb hz hg hD2 hbx2 hU2 hseq hs3 hb3 hD3 hbx3 hw3 e1 hw1
  gi_wp2_with fail
  refine ⟨trivial,?_⟩
  refine (callsIn_wide.2 (pending_any b 145 #[] w2)).mono ?_
  rintro e w3' ⟨rfl,hw3'⟩
  obtain rfl : w3' = w3:=hw3'.trans HW3.out
  clear hw3' HW3 e2 hsz2
  gi_wp2_with fail
  refine wpIn_rangeFunc_ownH rfl (by omega) (gf:=116) (lb:=#[.pointer (some ⟨w2.heap.size,0,none⟩),.pointer (some ⟨w2.heap.size + 1,0,none⟩)]) rfl trivial (enters_of Tryz.func116 (by kernel_rfl) rfl) HSEQ.out But.trans (but_b (Nat.le_refl _)) (Below.refl _ _) (fun _=>rfl)
   (fun pre W=>(DkAt W b { op st with S:=play st.S (pre.map (·.1)) } z' g cap wv ∧ Boxed W w.heap.size 26 (.pointer (some ⟨b,0,none⟩))) ∧ But w3'.heap.size [g] w3' W)
   (fun _ _ _=>False)
   ?hi
   (fun _ _ _ _ _ hs _ _=>hs)
   ⟨⟨HD3.out,HBX3.out⟩,But.refl _ _ _⟩
   (fun x a' W => ∃ Bx,w3'.heap.size ≤ Bx ∧ WBox W Bx x.1 ∧ a' = { tmps:=#[.pointer (some ⟨b,0,none⟩),.pointer (some ⟨w.heap.size,0,none⟩),.int .i64 0,.int .i64 0,.pointer (some ⟨Bx,0,none⟩),.pointer (some ⟨b,0,none⟩),.int .i64 0,.int .i64 0,.bool false,undef,.pointer (some ⟨b,0,none⟩),.pointer (some ⟨b,0,none⟩),.pointer (some ⟨b,0,none⟩),.bool true,.bool false,.pointer (some ⟨b,0,none⟩),.func (.func 116) #[] #[.pointer (some ⟨w2.heap.size,0,none⟩),.pointer (some ⟨w2.heap.size + 1,0,none⟩)],wval x.1,undef,undef,undef,undef,undef,undef,undef,undef,undef,undef,undef,undef],defers:=[] })
   ?hax ?assign ?body ?done ?stop
  case hi =>
   rintro pre X Y row ⟨⟨hd,hx⟩,hB⟩ hg hr
   have hr2 : ∀ r,row = some r → ∃ o : Obj,X.heap[r]? = some o ∧ o.isCells = false:=fun r e=>(hr r e).2
   exact ⟨⟨dk_own hd hg hr2,hx.kept hg (fun e=>by obtain ⟨o,ho,hc⟩:=hr2 _ e.symm;rw [show X.heap[w.heap.size]? = _ from hx] at ho;cases ho;cases hc)⟩,hB.trans (But.of_grown hg hB.size (fun k e=>.inl (hr k e).1))⟩
  case hax =>
   rintro x a' s X Y row ⟨Bx,h1,h2,h3⟩ hg hr
   exact ⟨Bx,h1,wbox_own Bx _ (fun _ : Unit=>x.1) () X Y row h2 hg hr,h3⟩
  case assign =>
   rintro l pre x W K ⟨⟨hd,hx⟩,hB⟩ hK
   have hBW : Below W.heap.size W (W.alloc (.cells #[.int .i64 (x.1.1 : Int),.string x.1.2] 107)):=(Below.refl _ W).alloc (Nat.le_refl _) _
   have HD:=Lib.hid (hd.keep (fun k hk=>hBW.block k (hd.lt k hk)))
   have hsz:=hB.size
   have HB:=Lib.hid (hB.trans (But.of_below (gs:=[g]) (hBW.mono hsz)))
   have HBB:=Lib.hid (But.of_below (gs:=[g]) (hBW.mono hsz))
   have HX:=Lib.hid (hx.alloc (.cells #[.int .i64 (x.1.1 : Int),.string x.1.2] 107))
   clear hd hx hB hBW
   gi_wp2_with fail
   exact hK _ _ ((KeepsOthers.alloc _ _).from _) HBB.out ⟨⟨HD.out,HX.out⟩,HB.out⟩ ⟨W.heap.size,hsz,World.alloc_heap_new W _,rfl⟩
  case body =>
   rintro l pre x a' W hl hr ⟨⟨hd,hx⟩,hB⟩ ⟨Bx,hBx,hxb,rfl⟩ hlt
   have hc:=hx.cell
   have x0:=hxb.c0
   have x1:=hxb.c1
   have hlen:=play_length st.S (pre.map (·.1))
   have hk:=HAT.out x.1 x.2
   obtain ⟨hsc,hsf⟩:=sec_at hd.sec (show x.1.1 < (play st.S (pre.map (·.1))).length by rw [hlen];exact hk)
   have c3 : W.cell? ⟨b,3,none⟩ = some (.slice (some ⟨g,0,none⟩) st.S.length cap):=by rw [cell_of_heap hd.blk,← hlen];rfl
   obtain ⟨hst,hgr⟩:=dk_store (k:=x.1.1) hd x.1.2
   have HST:=Lib.hid hst;have HGR:=Lib.hid hgr;have HB:=Lib.hid hB;have HX:=Lib.hid hx;have HD:=Lib.hid hd;have HLEN:=Lib.hid hlen
   clear hst hgr hB hx hd hlen
   have hmx : Tryz.prog.follows .mixedOrders = true:=by kernel_rfl
   gi_wp2_with fail
   refine Mix.wpIn_region_mix (Mix.open_round l) [0,1,2,3,4,5,6,7,8] [9] 9 (by kernel_rfl) (by kernel_rfl) ?_
   simp only [Mix.pick,List.filterMap_cons,List.filterMap_nil,List.getElem?_cons_zero,List.getElem?_cons_succ]
   repeat still_step
   refine wpStill_nil ?_
   gi_wp2_with fail
   have hgw : g < w.heap.size:=HLT.out g (by simp [foot])
   have hkp : But w3'.heap.size [g] W (W.setCell ⟨g,x.1.1,none⟩ (.string x.1.2)).drew:=(But.of_grown HGR.out HB.out.size (fun k e=>.inr (by cases e;simp))).drew
   refine ⟨((KeepsOthers.setCell _ _ _).trans (KeepsOthers.drew _)).from _,hkp,⟨⟨?_,?_⟩,HB.out.trans hkp⟩⟩
   ·rw [List.map_append,List.map_cons,List.map_nil,play_snoc]
    exact HST.out.drew
   ·have hkx : Boxed (W.setCell ⟨g,x.1.1,none⟩ (.string x.1.2)) w.heap.size 26 (.pointer (some ⟨b,0,none⟩)):=HX.out.kept HGR.out (fun e=>by cases e;omega)
    exact hkx
  case done =>
   rintro D ys W hD hys ⟨⟨hd,hx⟩,hB⟩ hK
   rw [hys] at hd
   have hc:=hx.cell
   have c4 : W.cell? ⟨b,4,none⟩ = some wv:=cell_of_heap hd.blk
   have f4 : W.frozen? ⟨b,4,none⟩ = false:=frozen_of_heap hd.blk
   have hK':=(KeepsOthers.setCell W ⟨b,4,none⟩ (.slice none 0 0)).same D _ hK rfl
   have hd2:=dk_done hd
   have hd3:=dk_own hd2 (grownBy_putObj' _ D (.deferred none)) (fun r e=>by cases e;exact ⟨_,hK',rfl⟩)
   have hbf : b ∈ foot b g wv:=by simp [foot]
   have hu : But w3'.heap.size (foot b g wv) w3' ((W.setCell ⟨b,4,none⟩ (.slice none 0 0)).putObj D (.deferred none)) :=
    ((hB.mono (fun k hk=>by simp at hk;subst hk;simp [foot])).trans (But.of_grown (Lib.grownBy_setCell W b 4 (.slice none 0 0)) hB.size (fun k e=>by cases e;exact .inr hbf))).trans
     (But.of_grown (grownBy_putObj' _ D (.deferred none)) (Nat.le_trans hB.size (by simp [World.setCell])) (fun k e=>by cases e;exact .inl hD))
   have HK:=Lib.hid hK'
   have HDID:=Lib.hid (show Did w (foot b g wv) b { op st with S:=play st.S st.W,W:=[] } (.int .i64 0) (.returned (.int .i64 0)) ((W.setCell ⟨b,4,none⟩ (.slice none 0 0)).putObj D (.deferred none)) from
    ⟨rfl,foot b g (.slice none 0 0),⟨z',g,cap,.slice none 0 0,hd3,rfl⟩,(HU3.out.trans (Upd.of_but hu)).less (fun k hk=>by simp [foot,Value.ownBlock] at hk ⊢;rcases hk with e | e;exact .inl e;exact .inr (.inl e))⟩)
   clear hd hx hB hK hK' hd2 hd3 hu
   gi_wp2_with fail
   refine ⟨by simp,.inl ⟨_,_,rfl,run_takeDeferred HK.out,?_⟩⟩
   exact ⟨_,results_tmp rfl _ _ _,rfl,HDID.out.2⟩
  case stop =>
   rintro D c pre W _ _ h _
   exact h.elim
end Go.Proofs.YtnnakhdndmjmiaaGreat.Disk
/-
 The contract of Read: any disk;the iterator that goes backward.
-/
set_option linter.unusedVariables false
set_option maxRecDepth 4000
namespace Go.Proofs.YtnnakhdndmjmiaaGreat.Disk
open Go.RowKit Go.Shelf DiskP
attribute [local go_sem] Oper.semAt_some
def revT (W : List Wr) : Nat → List (Nat × Wr)
 | 0=>[]
 | k + 1=>revT W k ++ [(W.length - 1 - k,W.getD (W.length - 1 - k) (0,ByteArray.empty))]
theorem revT_length (W : List Wr) : ∀ k,(revT W k).length = k
 | 0=>rfl
 | k + 1=>by show (revT W k ++ [_]).length = _;rw [List.length_append,revT_length W k];rfl
theorem revT_snd (W : List Wr) : ∀ k,k ≤ W.length → (revT W k).map (·.2) = W.reverse.take k
 | 0,_=>by simp [revT]
 | k + 1,h=>by
  show (revT W k ++ [(W.length - 1 - k,W.getD (W.length - 1 - k) (0,ByteArray.empty))]).map (·.2) = _
  have hlt : k < W.reverse.length:=by simp;omega
  have h2 : W.length - 1 - k < W.length:=by omega
  rw [List.map_append,revT_snd W k (by omega),List.take_succ_eq_append_getElem hlt]
  simp [List.getD,h2]
theorem backward_any (a : Option Addr) (len cap : Nat) (w : World) :
  Calls Tryz.prog 142 #[.slice a len cap] w fun e w'=>e = .returned (.func (.func 172) #[] #[.pointer (some ⟨w.heap.size,0,none⟩)]) ∧
   w' = w.alloc (.cells #[.slice a len cap] 44):=by
 go_enter Tryz.func142,Tryz.ntmps142
 go_wp2
 go_ret
 exact ⟨rfl,rfl⟩
set_option maxRecDepth 100000 in
set_option maxHeartbeats 4000000 in
theorem back1_in (l Bs n0 n : Nat) (gs : List Nat) (W : List Wr) (wv : Value) (hn : 2 ≤ n) (J Jx : List (Nat × Wr) → World → Prop) (w : World)
  (hY : ∀ pre x W1,J pre W1 → pre.length < W.length → YieldAt Fence.wide (n - 1) Tryz.prog l #[.int .i64 (x.1 : Int),wval x.2] W1 fun e W' =>
   (e = .returned (.bool true) ∧ J (pre ++ [x]) W' ∧ But n0 gs W1 W') ∨ (e = .returned (.bool false) ∧ Jx (pre ++ [x]) W'))
  (hBs : w.cell? ⟨Bs,0,none⟩ = some wv) (hBn : Bs < n0 ∧ Bs ∉ gs)
  (hw : w.ownsRow 0 107 2 wv W.length (wcells W)) (hwn : ∀ k,wv.ownBlock = some k → k < n0 ∧ k ∉ gs) (hlen : W.length ≤ 1000000000) (h0 : J [] w) :
  CallsIn Fence.wide n Tryz.prog 172 #[.func (.yield l) #[] #[],.pointer (some ⟨Bs,0,none⟩)] w fun e W'=>(∃ v,e = .returned v) ∧
   ((∃ xs,xs = revT W W.length ∧ J xs W') ∨ (∃ pre,(∃ k,k ≤ W.length ∧ pre = revT W k) ∧ Jx pre W')):=by
 have HY:=Lib.hid hY;have HW:=Lib.hid hw;have HWN:=Lib.hid hwn;have H0:=Lib.hid h0;have HBS:=Lib.hid hBs
 clear hY hw hwn h0
 rcases wts_nil_or HW.out with ⟨rfl,rfl⟩ | ⟨qb,qc,rfl⟩
 ·refine callsIn_of_wp Tryz.func172 rfl trivial ?_ rfl
  simp only [Tryz.ntmps172,List.size_toArray,List.length_cons,List.length_nil,Nat.reduceAdd,Nat.reduceSub,Array.replicate_succ,Array.replicate_zero,List.push_toArray,List.append_toArray,List.nil_append,List.cons_append]
  gi_wp2
  gi_loopw [3] (fun i wr=>i = .int .i64 (-1) ∧ wr = w) (fun _ _=>0)
  case atStart=>exact ⟨rfl,rfl⟩
  case round =>
   obtain ⟨rfl,rfl⟩:=hrel
   gi_wp2
   go_end0
   exact ⟨⟨_,rfl⟩,.inl ⟨_,rfl,H0.out⟩⟩
 ·refine callsIn_of_wp Tryz.func172 rfl trivial ?_ rfl
  simp only [Tryz.ntmps172,List.size_toArray,List.length_cons,List.length_nil,Nat.reduceAdd,Nat.reduceSub,Array.replicate_succ,Array.replicate_zero,List.push_toArray,List.append_toArray,List.nil_append,List.cons_append]
  gi_wp2
  gi_loopw [3] (fun i wr => ∃ m : Nat,m ≤ W.length ∧ i = .int .i64 ((m : Int) - 1) ∧ Hid (J (revT W (W.length - m)) wr) ∧ Hid (But n0 gs w wr)) (fun i _=>(intOf i + 1).toNat)
  case atStart=>exact ⟨W.length,Nat.le_refl _,rfl,by show J _ _;rw [Nat.sub_self];exact H0.out,But.refl _ _ _⟩
  case round =>
   obtain ⟨m,hm,rfl,hJs,hB⟩:=hrel
   by_cases hlt : 1 ≤ m
   ·obtain ⟨k,rfl⟩ : ∃ k,m = k + 1:=⟨m - 1,by omega⟩
    have e1 : ((k + 1 : Nat) : Int) - 1 = (k : Int):=by omega
    rw [e1]
    have hk : k < W.length:=by omega
    have hrk : revT W (W.length - k) = revT W (W.length - (k + 1)) ++ [(k,W[k])]:=by
     have e2 : W.length - k = W.length - (k + 1) + 1:=by omega
     have e3 : W.length - 1 - (W.length - (k + 1)) = k:=by omega
     rw [e2]
     show revT W (W.length - (k + 1)) ++ [_] = _
     rw [e3];simp [List.getD,hk]
    obtain ⟨d0,d1⟩:=wts_at HW.out hk
    obtain ⟨hq1,hq2⟩:=HWN.out qb rfl
    rw [← hB.out.cell hq1 hq2] at d0 d1
    have hbs : wr.cell? ⟨Bs,0,none⟩ = some (.slice (some ⟨qb,0,none⟩) W.length qc):=(hB.out.cell hBn.1 hBn.2).trans HBS.out
    obtain ⟨x,hx⟩ : ∃ x,W[k] = x:=⟨_,rfl⟩
    rw [hx] at hrk d0 d1
    obtain ⟨fn,tmps,assign,body,hy,hR⟩:=HY.out _ (k,x) wr hJs.out (by rw [revT_length];omega)
    have HR:=Lib.hid hR;have HRK:=Lib.hid hrk
    clear hR hrk e1 hq1 hq2 hx hlt
    dsimp only [wval] at hy
    gi_wp2_with fail
    refine ⟨fun _=>by omega,?_⟩
    refine HR.out.mono ?_
    rintro e w3 (⟨rfl,hJ3,hk3⟩ | ⟨rfl,hJx⟩)
    ·have HJ3:=Lib.hid hJ3;have HB3:=Lib.hid (hB.out.trans hk3)
     clear hJ3 hk3 hy d0 d1 hbs hJs hB
     gi_wp2_with fail
     go_roundw
     case rel=>exact ⟨k,by omega,by go_num,by show J _ _;rw [HRK.out];exact HJ3.out,HB3⟩
     case measure=>simp [intOf]
    ·have HJX:=Lib.hid hJx
     clear hJx hy d0 d1 hbs hJs hB
     gi_wp2_with fail
     refine bodyPost_ret (results_none rfl _ _ _) rfl ?_
     exact ⟨⟨_,rfl⟩,.inr ⟨_,⟨W.length - k,by omega,rfl⟩,by rw [HRK.out];exact HJX.out⟩⟩
   ·obtain rfl : m = 0:=by omega
    have HJ0:=hJs
    clear hJs hB
    gi_wp2
    go_end0
    exact ⟨⟨_,rfl⟩,.inl ⟨_,rfl,HJ0.out⟩⟩
theorem back_stops (Bs n0 n : Nat) (gs : List Nat) (W : List Wr) (wv : Value) (hn : 2 ≤ n) (w : World) (hBs : w.cell? ⟨Bs,0,none⟩ = some wv) (hBn : Bs < n0 ∧ Bs ∉ gs)
  (hw : w.ownsRow 0 107 2 wv W.length (wcells W)) (hwn : ∀ k,wv.ownBlock = some k → k < n0 ∧ k ∉ gs) (hlen : W.length ≤ 1000000000) :
  SeqStopsK Fence.wide n Tryz.prog 172 #[.pointer (some ⟨Bs,0,none⟩)] (fun x : Nat × Wr=>#[.int .i64 (x.1 : Int),wval x.2]) (But n0 gs) (fun xs=>xs = revT W W.length) (fun pre => ∃ k,k ≤ W.length ∧ pre = revT W k) W.length w:=by
 intro l J Jx W1 hW hJ _ hY h0
 have old : ∀ {bb oo : Nat} {v : Value},w.cell? ⟨bb,oo,none⟩ = some v → W1.cell? ⟨bb,oo,none⟩ = some v:=fun h=>(hW.cell (p:=⟨_,_,none⟩) (World.block_lt_of_cell? w _ h)).trans h
 exact back1_in l Bs n0 n gs W wv hn J Jx W1 hY (old hBs) hBn (owns_heap hw (fun k e=>hW.block k (owns_lt hw e))) hwn hlen h0
theorem read_no (p : Option Addr) (at_ : Int) (w : World) (h : NoDisk w p) : Calls Tryz.prog 103 #[.pointer p,.int .i64 at_] w fun e w'=>e = .returned (.tuple #[.string ⟨#[]⟩,.int .i64 1]) ∧ Below w.heap.size w w':=by
 have hB:=((Below.refl w.heap.size w).alloc (Nat.le_refl _) (.cells #[.int .i64 at_] 3)).alloc (by simp) (.cells #[.string ⟨#[]⟩] 9) |>.alloc (by simp;omega) (.cells #[.int .i64 0] 27)
 have h2 : NoDisk (((w.alloc (.cells #[.int .i64 at_] 3)).alloc (.cells #[.string ⟨#[]⟩] 9)).alloc (.cells #[.int .i64 0] 27)) p:=by
  rcases h with rfl | ⟨b,rfl,hc⟩
  ·exact .inl rfl
  ·exact .inr ⟨b,rfl,Lib.cell?_alloc_some _ (Lib.cell?_alloc_some _ (Lib.cell?_alloc_some _ hc))⟩
 go_enter Tryz.func103,Tryz.ntmps103
 go_wp2_with fail
 refine (reach_no p at_ _ h2).mono ?_
 rintro e w' ⟨rfl,rfl⟩
 have HB : Hid (Below w.heap.size w (((w.alloc (.cells #[.int .i64 at_] 3)).alloc (.cells #[.string ⟨#[]⟩] 9)).alloc (.cells #[.int .i64 1] 27))):=(((Below.refl w.heap.size w).alloc (Nat.le_refl _) _).alloc (by simp) _).alloc (by simp;omega) _
 clear hB h2 h
 go_wp2_with fail
 exact bodyPost_ret (v:=.tuple #[.string ⟨#[]⟩,.int .i64 1]) (by simp [results,Tryz.f103,go_sem]) rfl ⟨rfl,HB.out⟩
theorem rp_dead {st : St} (h : st.dead = true) (at_ : Int) : rd st at_ = (ByteArray.empty,13):=by unfold rd;rw [if_pos h]
theorem rp_out {st : St} (h : st.dead = false) {at_ : Int} (ho : out st.S.length at_ = true) : rd st at_ = (ByteArray.empty,11):=by unfold rd;rw [if_neg (by simp [h]),if_pos ho]
theorem rp_ok {st : St} (h : st.dead = false) {k : Nat} (ho : out st.S.length (k : Int) = false) : rd st k = (over (st.S.getD k ByteArray.empty) st.W k,0):=by unfold rd;rw [if_neg (by simp [h]),if_neg (by simp [ho])];rfl
abbrev rdW (w : World) (at_ : Int) : World:=((w.alloc (.cells #[.int .i64 at_] 3)).alloc (.cells #[.string ⟨#[]⟩] 9)).alloc (.cells #[.int .i64 0] 27)
theorem read_err (b : Nat) (at_ r : Int) (w : World) (hr : Calls Tryz.prog 141 #[.pointer (some ⟨b,0,none⟩),.int .i64 at_] (rdW w at_) fun e w'=>e = .returned (.int .i64 r) ∧ rdW w at_ = w') (h0 : (r == 0) = false) (h1 : (r != 0) = true) :
  Calls Tryz.prog 103 #[.pointer (some ⟨b,0,none⟩),.int .i64 at_] w fun e w'=>e = .returned (.tuple #[.string ByteArray.empty,.int .i64 r]) ∧ Below w.heap.size w w':=by
 have HB : Hid (Below w.heap.size w (((w.alloc (.cells #[.int .i64 at_] 3)).alloc (.cells #[.string ⟨#[]⟩] 9)).alloc (.cells #[.int .i64 r] 27))):=(((Below.refl w.heap.size w).alloc (Nat.le_refl _) _).alloc (by simp) _).alloc (by simp;omega) _
 have HR:=Lib.hid hr
 clear hr
 go_enter Tryz.func103,Tryz.ntmps103
 go_wp2_with fail
 refine HR.out.mono ?_
 rintro e w' ⟨rfl,rfl⟩
 go_wp2_with fail
 exact bodyPost_ret (v:=.tuple #[.string ⟨#[]⟩,.int .i64 r]) (by simp [results,Tryz.f103,go_sem]) rfl ⟨rfl,HB.out⟩
theorem But.below {n0 B : Nat} {gs : List Nat} {w w' : World} (h : But n0 gs w w') (hB : B ≤ n0) (hg : ∀ k ∈ gs,B ≤ k) : Below B w w':=⟨h.os,h.tape,h.output,h.size,fun k hk=>h.block k (by omega) (fun hm=>by have:=hg k hm;omega)⟩
set_option maxRecDepth 100000 in
set_option maxHeartbeats 4000000 in
theorem read_dk (b n : Nat) (st : St) (L : List Nat) (at_ : Int) (w : World) (h : Dk w L b st) (hok : Ok n st) (hn : n ≤ 1000000000) :
  Calls Tryz.prog 103 #[.pointer (some ⟨b,0,none⟩),.int .i64 at_] w fun e w'=>e = .returned (.tuple #[.string (rd st at_).1,.int .i64 (rd st at_).2]) ∧ Below w.heap.size w w':=by
 obtain ⟨z,g,cap,wv,h,rfl⟩:=h
 have hb3 : Below w.heap.size w (rdW w at_):=(((Below.refl w.heap.size w).alloc (Nat.le_refl _) _).alloc (by simp) _).alloc (by simp;omega) _
 have h3 : DkAt (rdW w at_) b st z g cap wv:=h.keep (fun k hk=>hb3.block k (h.lt k hk))
 have hr:=reach_dk b st _ at_ _ ⟨z,g,cap,wv,h3,rfl⟩ hok.hi
 have hsl:=hok.hi
 have hwn : st.W.length ≤ 1000000000:=by have:=hok.wn;omega
 cases hd : st.dead with
 | true =>
  rw [rp_dead hd]
  rw [hd] at hr
  exact read_err b at_ 13 w hr rfl rfl
 | false =>
 rw [hd] at hr
 cases ho : out st.S.length at_ with
 | true =>
  rw [rp_out hd ho]
  rw [ho] at hr
  exact read_err b at_ 11 w hr rfl rfl
 | false =>
 rw [ho] at hr
 obtain ⟨k,rfl⟩ : ∃ k : Nat,at_ = k:=⟨at_.toNat,by have:=of_out ho;omega⟩
 have hk2 : k < st.S.length:=by have:=of_out ho;omega
 rw [rp_ok hd ho]
 obtain ⟨s0,hs0⟩ : ∃ s0,st.S.getD k ByteArray.empty = s0:=⟨_,rfl⟩
 have hcs:=(sec_at h3.sec hk2).1
 rw [hs0] at hcs ⊢
 obtain ⟨w3,hw3⟩ : ∃ w3,rdW w k = w3:=⟨_,rfl⟩
 have hwt:=wts_nil_or h3.wts
 have b0 : (rdW w k).heap[w.heap.size]? = some (.cells #[.int .i64 (k : Int)] 3 (0,0)):=by
  rw [Below.heap_alloc _ _ _ (by simp;omega),Below.heap_alloc _ _ _ (by simp)];exact heap_alloc_new w _
 have b1 : (rdW w k).heap[w.heap.size + 1]? = some (.cells #[.string ⟨#[]⟩] 9 (0,0)):=by
  rw [Below.heap_alloc _ _ _ (by simp)]
  have:=heap_alloc_new (w.alloc (.cells #[.int .i64 (k : Int)] 3)) (.cells #[.string ⟨#[]⟩] 9)
  simpa using this
 have b2 : (rdW w k).heap[w.heap.size + 1 + 1]? = some (.cells #[.int .i64 0] 27 (0,0)):=by
  have:=heap_alloc_new ((w.alloc (.cells #[.int .i64 (k : Int)] 3)).alloc (.cells #[.string ⟨#[]⟩] 9)) (.cells #[.int .i64 0] 27)
  simpa using this
 have hz3 : (rdW w k).heap.size = w.heap.size + 3:=by simp
 have HLT:=Lib.hid (show ∀ j ∈ foot b g wv,j < w.heap.size from h.lt)
 have hws:=h3.wts
 rw [hw3] at h3 hr hb3 hcs b0 b1 b2 hz3 hws
 have HR:=Lib.hid hr;have HB3:=Lib.hid hb3;have H3:=Lib.hid h3;have HWT:=Lib.hid hwt;have HB0:=Lib.hid b0;have HB1:=Lib.hid b1;have HB2:=Lib.hid b2;have HZ3:=Lib.hid hz3;have HS0:=Lib.hid hs0;have HWS:=Lib.hid hws
 have c4 : w3.cell? ⟨b,4,none⟩ = some wv:=cell_of_heap h3.blk
 have a0 : w3.cell? ⟨w.heap.size,0,none⟩ = some (.int .i64 (k : Int)):=cell_of_heap b0
 clear h h3 hr hb3 hwt ho hd hok hcs hs0 b0 b1 b2 hz3 hws
 refine (callsIn_wide (n:=6)).1 ?_
 refine callsIn_of_wp_marks Tryz.func103 rfl trivial ?_ rfl
 simp only [Tryz.ntmps103,List.size_toArray,List.length_cons,List.length_nil,Nat.reduceAdd,Nat.reduceSub,Array.replicate_succ,Array.replicate_zero,List.push_toArray,List.append_toArray,List.nil_append,List.cons_append]
 gi_wp2_with fail
 refine ⟨trivial,?_⟩
 refine (callsIn_wide.2 HR.out).mono ?_
 rintro e w' ⟨rfl,rfl⟩
 obtain ⟨ao,al,ac,rfl⟩ : ∃ ao al ac,wv = .slice ao al ac:=by
  rcases HWT.out with ⟨h,_⟩ | ⟨q,qc,h⟩
  ·exact ⟨_,_,_,h⟩
  ·exact ⟨_,_,_,h⟩
 have hb4 : Below w3.heap.size w3 (w3.alloc (.cells #[.slice ao al ac] 44)):=(Below.refl _ w3).alloc (Nat.le_refl _) _
 obtain ⟨w4,hw4⟩ : ∃ w4,w3.alloc (.cells #[.slice ao al ac] 44) = w4:=⟨_,rfl⟩
 have hs4 : w4.heap.size = w3.heap.size + 1:=by rw [← hw4];show _ = _;simp
 have hbs : w4.cell? ⟨w3.heap.size,0,none⟩ = some (.slice ao al ac):=by rw [← hw4,World.cell?_alloc_new];rfl
 rw [hw4] at hb4
 have hseq:=back_stops w3.heap.size w4.heap.size 5 [] st.W (.slice ao al ac) (by omega) w4 hbs ⟨by omega,by simp⟩ (owns_heap HWS.out (fun k e=>hb4.block k (owns_lt HWS.out e))) (fun k e=>⟨by have:=owns_lt HWS.out e;omega,by simp⟩) hwn
 have h4 : DkAt w4 b st z g cap (.slice ao al ac):=H3.out.keep (fun k hk=>hb4.block k (H3.out.lt k hk))
 have hz:=HZ3.out
 have HSEQ:=Lib.hid hseq;have HW4:=Lib.hid hw4;have H4:=Lib.hid h4
 have HC0:=Lib.hid ((hb4.block _ (by omega)).trans HB0.out);have HC1:=Lib.hid ((hb4.block _ (by omega)).trans HB1.out);have HC2:=Lib.hid ((hb4.block _ (by omega)).trans HB2.out)
 have HB4:=Lib.hid (HB3.out.trans (hb4.mono (by omega)));have HSZ:=Lib.hid (show w.heap.size + 4 ≤ w4.heap.size by omega)
 clear hb4 hs4 hbs hseq h4 hw4 hz
 gi_wp2_with fail
 refine ⟨trivial,?_⟩
 refine (callsIn_wide.2 (backward_any ao al ac w3)).mono ?_
 rintro e w4' ⟨rfl,hw4'⟩
 obtain rfl : w4' = w4:=hw4'.trans HW4.out
 clear hw4' HW4 c4 a0
 gi_wp2_with fail
 refine wpIn_rangeFunc_ownH rfl (by omega) (gf:=172) (lb:=#[.pointer (some ⟨w3.heap.size,0,none⟩)]) rfl trivial (enters_of Tryz.func172 (by kernel_rfl) rfl) HSEQ.out But.trans (but_b (Nat.le_refl _)) (Below.refl _ _) (fun _=>rfl)
  (fun pre W=>((Boxed W w.heap.size 3 (.int .i64 (k : Int)) ∧ Boxed W (w.heap.size + 1) 9 (.string ⟨#[]⟩) ∧ Boxed W (w.heap.size + 1 + 1) 27 (.int .i64 0)) ∧ DkAt W b st z g cap (.slice ao al ac) ∧ (∀ p ∈ pre,p.2.1 ≠ k)) ∧ But w4'.heap.size [] w4' W)
  (fun c pre W=>((∃ ini x,pre = ini ++ [x] ∧ (∀ p ∈ ini,p.2.1 ≠ k) ∧ x.2.1 = k ∧ Boxed W (w.heap.size + 1) 9 (.string x.2.2) ∧ Boxed W (w.heap.size + 1 + 1) 27 (.int .i64 0)) ∧ c = .ret) ∧ But w4'.heap.size [w.heap.size + 1,w.heap.size + 1 + 1] w4' W)
  ?hi ?hix
  ⟨⟨⟨HC0.out,HC1.out,HC2.out⟩,H4.out,fun p hp=>by simp at hp⟩,But.refl _ _ _⟩
  (fun x a' W => ∃ Bx,w4'.heap.size ≤ Bx ∧ WBox W Bx x.2 ∧ a' = { tmps:=#[.pointer (some ⟨b,0,none⟩),.int .i64 (k : Int),undef,.pointer (some ⟨w.heap.size,0,none⟩),.pointer (some ⟨w.heap.size + 1,0,none⟩),.pointer (some ⟨w.heap.size + 1 + 1,0,none⟩),.int .i64 0,undef,.pointer (some ⟨Bx,0,none⟩),.pointer (some ⟨b,0,none⟩),.int .i64 (k : Int),.int .i64 0,.int .i64 0,.bool false,undef,.pointer (some ⟨b,0,none⟩),.pointer (some ⟨b,0,none⟩),.pointer (some ⟨b,4,none⟩),.slice ao al ac,.func (.func 172) #[] #[.pointer (some ⟨w3.heap.size,0,none⟩)],.int .i64 (x.1 : Int),wval x.2,undef,undef,undef,undef,undef,undef,undef,undef,undef,undef,undef,undef,undef],defers:=[] })
  ?hax ?assign ?body ?done ?stop
 case hi =>
  rintro pre X Y row ⟨⟨⟨h0,h1,h2⟩,hd,hp⟩,hB⟩ hg hr
  have hr2 : ∀ r,row = some r → ∃ o : Obj,X.heap[r]? = some o ∧ o.isCells = false:=fun r e=>(hr r e).2
  have bk : ∀ {B : Nat} {t : TypeId} {v : Value},Boxed X B t v → Boxed Y B t v:=fun hx=>hx.kept hg (fun e=>by obtain ⟨o,ho,hc⟩:=hr2 _ e.symm;rw [show X.heap[_]? = _ from hx] at ho;cases ho;cases hc)
  exact ⟨⟨⟨bk h0,bk h1,bk h2⟩,dk_own hd hg hr2,hp⟩,hB.trans (But.of_grown hg hB.size (fun k e=>.inl (hr k e).1))⟩
 case hix =>
  rintro c pre X Y row ⟨⟨⟨ini,x,h0,h1,h2,h3,h4⟩,hc⟩,hB⟩ hg hr
  have hr2 : ∀ r,row = some r → ∃ o : Obj,X.heap[r]? = some o ∧ o.isCells = false:=fun r e=>(hr r e).2
  have bk : ∀ {B : Nat} {t : TypeId} {v : Value},Boxed X B t v → Boxed Y B t v:=fun hx=>hx.kept hg (fun e=>by obtain ⟨o,ho,hc⟩:=hr2 _ e.symm;rw [show X.heap[_]? = _ from hx] at ho;cases ho;cases hc)
  exact ⟨⟨⟨ini,x,h0,h1,h2,bk h3,bk h4⟩,hc⟩,hB.trans (But.of_grown hg hB.size (fun k e=>.inl (hr k e).1))⟩
 case hax =>
  rintro x a' s X Y row ⟨Bx,h1,h2,h3⟩ hg hr
  exact ⟨Bx,h1,wbox_own Bx _ (fun _ : Unit=>x.2) () X Y row h2 hg hr,h3⟩
 case assign =>
  rintro l pre x W K ⟨⟨⟨h0,h1,h2⟩,hd,hp⟩,hB⟩ hK
  have hBW : Below W.heap.size W (W.alloc (.cells #[.int .i64 (x.2.1 : Int),.string x.2.2] 107)):=(Below.refl _ W).alloc (Nat.le_refl _) _
  have hsz:=hB.size
  have HD:=Lib.hid (hd.keep (fun k hk=>hBW.block k (hd.lt k hk)))
  have HBB:=Lib.hid (But.of_below (gs:=[]) (hBW.mono hsz))
  have HB:=Lib.hid (hB.trans HBB.out)
  have HX0:=Lib.hid (h0.alloc (.cells #[.int .i64 (x.2.1 : Int),.string x.2.2] 107));have HX1:=Lib.hid (h1.alloc (.cells #[.int .i64 (x.2.1 : Int),.string x.2.2] 107));have HX2:=Lib.hid (h2.alloc (.cells #[.int .i64 (x.2.1 : Int),.string x.2.2] 107))
  have HP:=Lib.hid hp
  clear hd h0 h1 h2 hB hBW hp
  gi_wp2_with fail
  exact hK _ _ ((KeepsOthers.alloc _ _).from _) HBB.out ⟨⟨⟨HX0.out,HX1.out,HX2.out⟩,HD.out,HP.out⟩,HB.out⟩ ⟨W.heap.size,hsz,World.alloc_heap_new W _,rfl⟩
 case body =>
  rintro l pre x a' W hl hr ⟨⟨⟨h0,h1,h2⟩,hd,hp⟩,hB⟩ ⟨Bx,hBx,hxb,rfl⟩ hlt
  have c0:=h0.cell
  have c1:=h1.cell
  have c2:=h2.cell
  have f1:=h1.frozen
  have f2:=h2.frozen
  have x0:=hxb.c0
  have x1:=hxb.c1
  have HP:=Lib.hid hp;have HB:=Lib.hid hB;have HD:=Lib.hid hd;have HX0:=Lib.hid h0;have HX1:=Lib.hid h1;have HX2:=Lib.hid h2
  clear hp hB hd h0 h1 h2
  by_cases he : x.2.1 = k
  ·have he2 : (((x.2.1 : Nat) : Int) == (k : Int)) = true:=by rw [he];simp
   have he3 : (x.2.1 == k) = true:=by rw [he];simp
   have HE:=Lib.hid he
   clear he
   gi_wp2_with fail
   refine ⟨((KeepsOthers.setCell _ _ _).trans (KeepsOthers.setCell _ _ _)).from _,⟨⟨pre,x,rfl,HP.out,HE.out,?_,?_⟩,rfl⟩,?_⟩
   ·exact (HX1.out.set (.string x.2.2)).other (by omega) _
   ·exact (HX2.out.other (by omega) _).set _
   ·have hs:=HB.out.size
    have g1:=Lib.grownBy_setCell W (w.heap.size + 1) 0 (.string x.2.2)
    exact ((HB.out.mono (fun k hk=>by simp at hk)).trans (But.of_grown g1 hs (fun k e=>by cases e;exact .inr (by simp)))).trans (But.of_grown (Lib.grownBy_setCell _ (w.heap.size + 1 + 1) 0 (.int .i64 0)) (Nat.le_trans hs g1.size) (fun k e=>by cases e;exact .inr (by simp)))
  ·have he2 : (((x.2.1 : Nat) : Int) == (k : Int)) = false:=beq_eq_false_iff_ne.2 (by omega)
   have he3 : (x.2.1 == k) = false:=beq_eq_false_iff_ne.2 he
   have HE:=Lib.hid he
   clear he
   gi_wp2_with fail
   exact ⟨KeepsFrom.refl _ _,But.refl _ _ _,⟨⟨HX0.out,HX1.out,HX2.out⟩,HD.out,fun p hp=>by
    rcases List.mem_append.1 hp with hp | hp
    ·exact HP.out p hp
    ·obtain rfl:=List.mem_singleton.1 hp;exact HE.out⟩,HB.out⟩
 case done =>
  rintro D ys W hD hys ⟨⟨⟨h0,h1,h2⟩,hd,hp⟩,hB⟩ hK
  have c0:=h0.cell
  have c1:=h1.cell
  have c2:=h2.cell
  have f1:=h1.frozen
  have f2:=h2.frozen
  have c3 : W.cell? ⟨b,3,none⟩ = some (.slice (some ⟨g,0,none⟩) st.S.length cap):=cell_of_heap hd.blk
  have hcs:=(sec_at hd.sec hk2).1
  rw [HS0.out] at hcs
  have HX1:=Lib.hid h1;have HX2:=Lib.hid h2;have HB:=Lib.hid hB;have HP:=Lib.hid hp;have HK:=Lib.hid hK;have HYS:=Lib.hid hys
  clear h0 h1 h2 hd hp hB hK hys
  gi_wp2_with fail
  refine Mix.wpIn_region_mix Mix.open_wide [0,1,2,3,4,5,6] [7,8] 7 (by kernel_rfl) (by kernel_rfl) ?_
  simp only [Mix.pick,List.filterMap_cons,List.filterMap_nil,List.getElem?_cons_zero,List.getElem?_cons_succ]
  repeat still_step
  refine wpStill_nil ?_
  gi_wp2_with fail
  have hK2:=((KeepsOthers.setCell W ⟨w.heap.size + 1,0,none⟩ (.string s0)).trans (KeepsOthers.setCell _ ⟨w.heap.size + 1 + 1,0,none⟩ (.int .i64 0))).same D _ HK.out rfl
  have b1 : Boxed ((W.setCell ⟨w.heap.size + 1,0,none⟩ (.string s0)).setCell ⟨w.heap.size + 1 + 1,0,none⟩ (.int .i64 0)) (w.heap.size + 1) 9 (.string s0):=(HX1.out.set (.string s0)).other (by omega) _
  have b2 : Boxed ((W.setCell ⟨w.heap.size + 1,0,none⟩ (.string s0)).setCell ⟨w.heap.size + 1 + 1,0,none⟩ (.int .i64 0)) (w.heap.size + 1 + 1) 27 (.int .i64 0):=(HX2.out.other (by omega) _).set _
  have hz:=HSZ.out
  have b1' : Boxed ((W.setCell ⟨w.heap.size + 1,0,none⟩ (.string s0)).setCell ⟨w.heap.size + 1 + 1,0,none⟩ (.int .i64 0)).drew (w.heap.size + 1) 9 (.string s0):=b1
  have b2' : Boxed ((W.setCell ⟨w.heap.size + 1,0,none⟩ (.string s0)).setCell ⟨w.heap.size + 1 + 1,0,none⟩ (.int .i64 0)).drew (w.heap.size + 1 + 1) 27 (.int .i64 0):=b2
  have q1:=(b1'.kept (grownBy_putObj' _ D (.deferred none)) (fun e=>by cases e;omega)).cell
  have q2:=(b2'.kept (grownBy_putObj' _ D (.deferred none)) (fun e=>by cases e;omega)).cell
  have hs:=HB.out.size
  have g1:=Lib.grownBy_setCell W (w.heap.size + 1) 0 (.string s0)
  have g2:=Lib.grownBy_setCell (W.setCell ⟨w.heap.size + 1,0,none⟩ (.string s0)) (w.heap.size + 1 + 1) 0 (.int .i64 0)
  have hbe : Below w.heap.size w (((W.setCell ⟨w.heap.size + 1,0,none⟩ (.string s0)).setCell ⟨w.heap.size + 1 + 1,0,none⟩ (.int .i64 0)).drew.putObj D (.deferred none)) :=
   (((HB4.out.trans (HB.out.below (B:=w.heap.size) (by omega) (fun k hk=>by simp at hk))).grown g1 (by omega) (fun k e=>by cases e;omega)).grown g2 (Nat.le_trans (by omega) g1.size) (fun k e=>by cases e;omega)).drew.grown (grownBy_putObj' _ D _) (Nat.le_trans (Nat.le_trans (by omega) g1.size) g2.size) (fun k e=>by cases e;omega)
  have hov : over s0 st.W k = s0:=over_none _ _ _ (fun x hx=>by
   have hm : x ∈ (revT st.W st.W.length).map (·.2):=by rw [revT_snd _ _ (Nat.le_refl _),List.take_of_length_le (by simp)];simpa using hx
   obtain ⟨p,hp,rfl⟩:=List.mem_map.1 hm
   exact HP.out p (by rw [HYS.out];exact hp))
  refine ⟨by simp,.inl ⟨_,_,rfl,run_takeDeferred hK2,?_⟩⟩
  refine ⟨.tuple #[.string s0,.int .i64 0],?_,by rw [hov],hbe⟩
  simp [results,Tryz.f103,go_sem,q1,q2]
 case stop =>
  rintro D c pre W hD hpre ⟨⟨⟨ini,x,h0,h1,h2,h3,h4⟩,hc⟩,hB⟩ hK
  subst hc
  have HX1:=Lib.hid h3;have HX2:=Lib.hid h4;have HB:=Lib.hid hB;have HK:=Lib.hid hK;have HINI:=Lib.hid h0;have HP:=Lib.hid h1;have HE:=Lib.hid h2;have HPRE:=Lib.hid hpre
  clear h0 h1 h2 h3 h4 hB hK hpre
  gi_wp2_with fail
  have hz:=HSZ.out
  have q1:=(HX1.out.kept (grownBy_putObj' _ D (.deferred none)) (fun e=>by cases e;omega)).cell
  have q2:=(HX2.out.kept (grownBy_putObj' _ D (.deferred none)) (fun e=>by cases e;omega)).cell
  have hs:=HB.out.size
  have hbe : Below w.heap.size w (W.putObj D (.deferred none)) :=
   (HB4.out.trans (HB.out.below (B:=w.heap.size) (by omega) (fun k hk=>by simp at hk;omega))).grown (grownBy_putObj' _ D _) (by omega) (fun k e=>by cases e;omega)
  have hov : over s0 st.W k = x.2.2:=by
   obtain ⟨j,hj,hpj⟩:=HPRE.out
   have h1:=revT_snd st.W j hj
   rw [← hpj,HINI.out,List.map_append] at h1
   have h2 : st.W.reverse = ini.map (·.2) ++ x.2 :: st.W.reverse.drop j:=by
    have h3:=(List.take_append_drop j st.W.reverse).symm
    rw [← h1] at h3
    exact h3.trans (by simp)
   exact over_found h2 HE.out (fun y hy=>by obtain ⟨p,hp,rfl⟩:=List.mem_map.1 hy;exact HP.out p hp)
  refine ⟨by simp,.inl ⟨_,_,rfl,run_takeDeferred HK.out,?_⟩⟩
  refine ⟨.tuple #[.string x.2.2,.int .i64 0],?_,by rw [hov],hbe⟩
  simp [results,Tryz.f103,go_sem,q1,q2]
end Go.Proofs.YtnnakhdndmjmiaaGreat.Disk
