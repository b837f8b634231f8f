import Derived.Test.YtnnakhdndmjmiaaGreatPuDiskF
import Derived.Test.YtnnakhdndmjmiaaGreatPuDiskK
set_option linter.unusedVariables false
set_option maxRecDepth 4000
namespace Go.Proofs.YtnnakhdndmjmiaaGreat.Disk
open Go.RowKit Go.Shelf DiskP
theorem asked_any (Bk : Nat) (ka : Option Addr) (klen kcap : Nat) (ks : List Bool) (i : Nat) (w : World) (hc : w.cell? ⟨Bk,0,none⟩ = some (.slice ka klen kcap)) (hk : BoolsAt w ka klen ks) (hl : klen ≤ 1000000000) (hi : i ≤ 1000000000) :
  Calls Tryz.prog 67 #[.int .i64 (i : Int),.pointer (some ⟨Bk,0,none⟩)] w fun e w'=>e = .returned (.bool (keeps ks i)) ∧ w = w':=by
 by_cases h : i < klen
 ·rcases hk.2 with h0 | ⟨kb,koff,rfl,hb,hcs⟩
  ·omega
  have d0:=hcs i h
  obtain ⟨r,hr⟩ : ∃ r,keeps ks i = r:=⟨_,rfl⟩
  rw [hr] at d0 ⊢
  clear hcs hk hr
  go_enter Tryz.func67,Tryz.ntmps67
  go_wp2
  go_ret
  exact ⟨rfl,rfl⟩
 ·have hr : keeps ks i = false:=by simp [keeps,List.getD,List.getElem?_eq_none (by rw [hk.1];omega : ks.length ≤ i)]
  rw [hr]
  have h' : klen ≤ i:=by omega
  clear hk hr h
  go_enter Tryz.func67,Tryz.ntmps67
  go_wp2
  go_ret
  exact ⟨rfl,rfl⟩
theorem bools_but {w w' : World} {n0 len : Nat} {a : Option Addr} {ks : List Bool} (h : BoolsAt w a len ks) (hb : But n0 [] w w') (hn : w.heap.size ≤ n0) : BoolsAt w' a len ks :=
 ⟨h.1,h.2.imp id (fun ⟨b,off,e,hlt,hc⟩=>⟨b,off,e,by have:=hb.size;omega,fun i hi=>(hb.cell (by omega) (by simp)).trans (hc i hi)⟩)⟩
theorem bools_below {w w' : World} {len : Nat} {a : Option Addr} {ks : List Bool} (h : BoolsAt w a len ks) (hb : Below w.heap.size w w') : BoolsAt w' a len ks :=
 ⟨h.1,h.2.imp id (fun ⟨b,off,e,hlt,hc⟩=>⟨b,off,e,by have:=hb.size;omega,fun i hi=>(hb.cell (p:=⟨b,off + i,none⟩) hlt).trans (hc i hi)⟩)⟩
theorem pend_kept (b : Nat) (st : St) (g cap : Nat) (z : Int) (wv : Value) (n : Nat) (Bk : Nat) (ka : Option Addr) (klen kcap : Nat) (ks : List Bool) (w : World) (h : DkAt w b st z g cap wv) (hn : st.W.length ≤ 1000000000) (h2 : 2 ≤ n)
  (hBk : w.cell? ⟨Bk,0,none⟩ = some (.slice ka klen kcap)) (hk : BoolsAt w ka klen ks) (hkl : klen ≤ 1000000000) :
  SeqStopsK Fence.wide n Tryz.prog 116 #[.pointer (some ⟨w.heap.size,0,none⟩),.pointer (some ⟨w.heap.size + 1,0,none⟩)] (fun x : Wr=>#[wval x]) (But (w.heap.size + 2) []) (fun xs=>xs = kept st.W ks) (fun _=>True) st.W.length
   ((w.alloc (.cells #[.pointer (some ⟨b,0,none⟩)] 26)).alloc (.cells #[.func (.func 67) #[] #[.pointer (some ⟨Bk,0,none⟩)]] 75)):=by
 have hc:=cell_two (w:=w) (v1:=.pointer (some ⟨b,0,none⟩)) (v2:=.func (.func 67) #[] #[.pointer (some ⟨Bk,0,none⟩)]) (t1:=26) (t2:=75)
 have hb : Below w.heap.size w ((w.alloc (.cells #[.pointer (some ⟨b,0,none⟩)] 26)).alloc (.cells #[.func (.func 67) #[] #[.pointer (some ⟨Bk,0,none⟩)]] 75)):=((Below.refl _ w).alloc (Nat.le_refl _) _).alloc (by simp) _
 have hBl : Bk < w.heap.size:=World.block_lt_of_cell? w _ hBk
 have hs:=pend_stops 67 #[.pointer (some ⟨Bk,0,none⟩)] (keeps ks) (enters_of Tryz.func67 (by kernel_rfl) rfl) w.heap.size (w.heap.size + 1) b (w.heap.size + 2) n [] st.W wv h2 _
  (fun i W' hi hB=>callsIn_wide.2 (asked_any Bk ka klen kcap ks i W' ((hB.cell (by omega) (by simp)).trans ((hb.cell (p:=⟨Bk,0,none⟩) hBl).trans hBk)) (bools_but (bools_below hk hb) hB (by simp)) hkl (by omega)))
  hc.1 hc.2 ⟨by omega,by simp⟩ ((hb.cell (p:=⟨b,4,none⟩) (heap_lt h.blk)).trans (cell_of_heap h.blk)) (owns_heap h.wts (fun k e=>hb.block k (owns_lt h.wts e)))
  (fun k e=>⟨by have:=owns_lt h.wts e;omega,by simp⟩) hn (by simp)
 rw [selT_kept_all] at hs
 exact hs
theorem dk_renew {w w' : World} {b g cap : Nat} {st : St} {z : Int} {wv : Value} (h : DkAt w b st z g cap wv)
  (hb : w'.heap[b]? = some (.cells #[.int .i64 (st.ops : Int),.int .i64 0,.bool false,.slice (some ⟨g,0,none⟩) st.S.length cap,wv] 80 (0,0))) (hg : w.grownBy w' (some b)) : DkAt w' b { st with left:=0,dead:=false } 0 g cap wv :=
 ⟨hb,⟨rfl,by decide,by decide⟩,owns_heap h.sec (fun j e=>hg.block j (owns_lt h.sec e) (fun e2=>h.bg (by cases e2;simpa [Value.ownBlock] using e.symm))),
  owns_heap h.wts (fun j e=>hg.block j (owns_lt h.wts e) (fun e2=>h.bw e (by cases e2;rfl)))⟩
theorem Upd.fresh {L L' : List Nat} {w a c : World} {B : Nat} (h : Upd L w a L') (hg : a.grownBy c (some B)) (hB : w.heap.size ≤ B) : Upd L w c L' :=
 ⟨hg.os.trans h.os,hg.tape.trans h.tape,hg.output.trans h.output,Nat.le_trans h.size hg.size,fun k hk hn=>(hg.block k (by have:=h.size;omega) (fun e=>by cases e;omega)).trans (h.block k hk hn),h.sub⟩
theorem drop_one {V : List Wr} {j x : Nat} {y : ByteArray} (hj : j < V.length) (hx : V[j].1 = x) (hy : V[j].2 = y) : V.drop j = (x,y) :: V.drop (j + 1):=by
 rw [List.drop_eq_getElem_cons hj];subst hx hy;rfl
set_option maxRecDepth 100000 in
set_option maxHeartbeats 4000000 in
theorem crash_dk (b n : Nat) (st : St) (L : List Nat) (ka : Option Addr) (klen kcap : Nat) (ks : List Bool) (t : Int) (w : World) (h : Dk w L b st) (hok : Ok n st) (hn : n ≤ 1000000000)
  (hk : BoolsAt w ka klen ks) (hkl : klen ≤ 1000000000) :
  Calls Tryz.prog 24 #[.pointer (some ⟨b,0,none⟩),.slice ka klen kcap,.int .i64 t] w (Did w L b (cr st ks t) (.int .i64 0)):=by
 obtain ⟨z,g,cap,wv,h,rfl⟩:=h
 have hsl:=hok.hi
 have hwn : st.W.length ≤ 1000000000:=by have:=hok.wn;omega
 have hbel : Below w.heap.size w (w.alloc (.cells #[.slice ka klen kcap] 39)):=(Below.refl _ w).alloc (Nat.le_refl _) _
 have h1 : DkAt (w.alloc (.cells #[.slice ka klen kcap] 39)) b st z g cap wv:=h.keep (fun k hk=>hbel.block k (h.lt k hk))
 have hm:=made_dk b st _ _ ⟨z,g,cap,wv,h1,rfl⟩
 have hkc : (w.alloc (.cells #[.slice ka klen kcap] 39)).cell? ⟨w.heap.size,0,none⟩ = some (.slice ka klen kcap):=by rw [World.cell?_alloc_new];rfl
 have hp:=pend_kept b st g cap z wv 4 w.heap.size ka klen kcap ks _ h1 hwn (by omega) hkc (bools_below hk hbel) hkl
 obtain ⟨V,hV⟩ : ∃ V,kept st.W ks = V:=⟨_,rfl⟩
 have hvl : V.length ≤ 1000000000:=by
  have h1:=selT_length (keeps ks) st.W st.W.length
  rw [selT_kept_all,hV] at h1
  omega
 have HMEM:=Lib.hid (show ∀ x ∈ V,x.1 < st.S.length ∧ x.2.size = 128 from fun x hx=>by rw [← hV] at hx;exact ⟨hok.wat x (kept_sub _ _ x hx),hok.wsz x (kept_sub _ _ x hx)⟩)
 have HCR : Hid (cr st ks t = { S:=crS st.S t V,W:=[],left:=0,ops:=st.ops,dead:=false }):=by show cr st ks t = _;unfold cr;rw [hV]
 have HSEC:=Lib.hid (show ∀ s ∈ st.S,s.size = 128 from hok.sec)
 have HLT:=Lib.hid (show ∀ j ∈ foot b g wv,j < w.heap.size from h.lt)
 rw [hV] at hp
 rw [HCR.out]
 have HM:=Lib.hid hm;have HP:=Lib.hid hp;have H1:=Lib.hid h1;have HBEL:=Lib.hid hbel
 clear h h1 hm hp hV hok hk hkc hbel
 go_enter Tryz.func24,Tryz.ntmps24
 go_wp2_with fail
 refine HM.out.mono ?_
 rintro e w1 ⟨rfl,hw1⟩
 rw [hw1] at HM HP H1 HBEL
 have HS1 : Hid (w1.heap.size = w.heap.size + 1):=by rw [← hw1];show _ = _;simp
 clear hw1
 go_wp2_with fail
 refine (pending_any b 67 #[.pointer (some ⟨w.heap.size,0,none⟩)] w1).mono ?_
 rintro e w2 ⟨rfl,hw2⟩
 have hs2 : w2.heap.size = w1.heap.size + 2:=by rw [hw2];simp
 have hb2 : Below w1.heap.size w1 w2:=by rw [hw2];exact ((Below.refl _ w1).alloc (Nat.le_refl _) _).alloc (by simp) _
 have hp:=HP.out
 rw [← hw2,← hs2] at hp
 have hC:=collect_any _ _ (enters_of Tryz.func116 (by kernel_rfl) rfl) V _ [] w2 hp hwn
 have hle : w1.heap.size ≤ w2.heap.size:=by omega
 have hle0 : w.heap.size ≤ w1.heap.size:=by rw [HS1.out];omega
 have HC:=Lib.hid hC;have HB2:=Lib.hid (HBEL.out.trans (hb2.mono hle0));have H2:=Lib.hid (H1.out.keep (fun k hk=>hb2.block k (H1.out.lt k hk)));have HLE:=Lib.hid (Nat.le_trans hle0 hle)
 clear hp hw2 hs2 hb2 hC hle hle0
 go_wp2_with fail
 refine HC.out.mono ?_
 rintro e w3 ⟨v,rfl,hown,hb⟩
 have HV:=Lib.hid (owns_mono hown HLE.out);have HU:=Lib.hid (Upd.of_below (L:=foot b g wv) (HB2.out.trans (hb.mono HLE.out)));have H3:=Lib.hid (H2.out.keep (fun k hk=>hb.block k (H2.out.lt k hk)))
 obtain ⟨va,vl,vc,hv⟩ : ∃ va vl vc,v = .slice va vl vc ∧ vl = V.length ∧ (V.length = 0 ∨ ∃ q,va = some ⟨q,0,none⟩):=by
  rcases hown.2 with ⟨h1,h2⟩ | ⟨q,qc,cur,h1,_⟩
  ·exact ⟨none,0,0,h1,h2.symm,.inl h2⟩
  ·exact ⟨_,_,_,h1,rfl,.inr ⟨q,rfl⟩⟩
 obtain ⟨hv,rfl,hva⟩:=hv
 clear hown hb
 have hvs:=hv
 subst hv
 obtain ⟨v,hvv⟩ : ∃ v : Value,v = .slice va V.length vc:=⟨_,rfl⟩
 rw [← hvv] at HV
 have HVV:=Lib.hid hvv
 clear hvv hvs
 go_wp2_with fail
 go_loopw [19] (fun i wr => ∃ (j : Nat) (S : List ByteArray),j ≤ V.length ∧ i = .int .i64 (j : Int) ∧ Hid (S.length = st.S.length ∧ ∀ s ∈ S,s.size = 128) ∧ Hid (crS S t (V.drop j) = crS st.S t V) ∧ Hid (DkAt wr b { st with S:=S } z g cap wv) ∧ Hid (wr.ownsRow w.heap.size 107 2 v V.length (wcells V)) ∧ Hid (Upd (foot b g wv) w wr (foot b g wv))) (fun i _=>V.length - (intOf i).toNat)
 case atStart=>exact ⟨0,st.S,Nat.zero_le _,rfl,⟨rfl,HSEC.out⟩,rfl,H3,HV,HU⟩
 case round =>
  obtain ⟨j,S,hj,rfl,HS,HE,HD,HVR,HUR⟩:=hrel
  by_cases hlt : j < V.length
  ·rcases hva with h0 | ⟨q,rfl⟩
   ·omega
   have hvo:=HVR.out
   rw [HVV.out] at hvo
   obtain ⟨d0,d1⟩:=wts_at (owns_mono hvo (Nat.zero_le _)) hlt
   obtain ⟨hx,hy⟩:=HMEM.out V[j] (List.getElem_mem hlt)
   obtain ⟨x,hxe⟩ : ∃ x,V[j].1 = x:=⟨_,rfl⟩
   obtain ⟨y,hye⟩ : ∃ y,V[j].2 = y:=⟨_,rfl⟩
   have HDR:=Lib.hid (drop_one hlt hxe hye)
   rw [hxe] at hx d0
   rw [hye] at hy d1
   have hba : Below wr.heap.size wr (wr.alloc (.cells #[.int .i64 (x : Int),.string y] 107)):=(Below.refl _ wr).alloc (Nat.le_refl _) _
   have HDA:=Lib.hid (HD.out.keep (fun k hk=>hba.block k (HD.out.lt k hk)))
   have HVA:=Lib.hid (owns_heap HVR.out (fun k e=>hba.block k (owns_lt HVR.out e)))
   have HUA:=Lib.hid (HUR.out.trans (Upd.of_below hba))
   have HBA:=Lib.hid (heap_alloc_new wr (.cells #[.int .i64 (x : Int),.string y] 107))
   have HY:=Lib.hid hy
   clear hvo hxe hye hy hba
   by_cases hl : j + 1 = V.length
   ·have hle : (V.length : Int) - 1 = (j : Int):=by omega
    have hne : V.drop (j + 1) = []:=List.drop_of_length_le (by omega)
    have HQ : Hid (crS (S.set x (torn y (S.getD x ByteArray.empty) t)) t (V.drop (j + 1)) = crS S t (V.drop j)):=by show _ = _;rw [HDR.out,crS_last _ _ _ hne,hne];rfl
    have HNE:=Lib.hid hne
    clear hl hne
    go_wp2_with fail
    generalize wr.alloc (.cells #[.int .i64 (x : Int),.string y] 107) = wa at *
    have a0 : wa.cell? ⟨wr.heap.size,0,none⟩ = some (.int .i64 (x : Int)):=cell_of_heap HBA.out
    have a1 : wa.cell? ⟨wr.heap.size,1,none⟩ = some (.string y):=cell_of_heap HBA.out
    have c3 : wa.cell? ⟨b,3,none⟩ = some (.slice (some ⟨g,0,none⟩) st.S.length cap):=by rw [cell_of_heap HDA.out.blk,← HS.out.1];rfl
    obtain ⟨sc,_⟩:=sec_at HDA.out.sec (show x < S.length by rw [HS.out.1];exact hx)
    have hzs:=HS.out.2 _ (getD_mem (show x < S.length by rw [HS.out.1];exact hx))
    obtain ⟨zz,hzz⟩ : ∃ zz,S.getD x ByteArray.empty = zz:=⟨_,rfl⟩
    rw [hzz] at sc HQ hzs
    have HZ:=Lib.hid hzs
    have HDB:=Lib.hid HDA.out.drew
    have HVB : Hid (wa.drew.ownsRow w.heap.size 107 2 v V.length (wcells V)):=HVA.out
    have HUB:=Lib.hid HUA.out.drew
    have HBB : Hid (wa.drew.heap[wr.heap.size]? = some (.cells #[.int .i64 (x : Int),.string y] 107 (0,0))):=HBA.out
    have hwz : w.heap.size ≤ wr.heap.size:=HUR.out.size
    have HLV:=Lib.hid (fun k (e : v.ownBlock = some k)=>owns_lt HVR.out e)
    clear hzz hzs
    refine Mix.wp_region_mix [] [0,1,2,3,4,5,6,7,8,9,10] [11,12,13] 11 (by kernel_rfl) (by kernel_rfl) (fun _ _ d _ _ h=>by cases d <;> exact h) ?_
    simp only [Mix.pick,List.filterMap_cons,List.filterMap_nil,List.getElem?_cons_zero,List.getElem?_cons_succ]
    refine Mix.wpFree_nil ?_
    repeat still_step
    refine wpStill_nil ?_
    clear a0 a1 c3 sc
    generalize wa.drew = wb at *
    go_wp2_with fail
    refine (torn_any y zz t wb HY.out HZ.out).mono ?_
    rintro e wc ⟨rfl,hbc⟩
    have hbx:=(hbc.block _ (heap_lt HBB.out)).trans HBB.out
    have a1 : wc.cell? ⟨wr.heap.size,1,none⟩ = some (.string y):=cell_of_heap hbx
    have f1 : wc.frozen? ⟨wr.heap.size,1,none⟩ = false:=frozen_of_heap hbx
    obtain ⟨y2,hy2⟩ : ∃ y2,torn y zz t = y2:=⟨_,rfl⟩
    have HYS:=Lib.hid (torn_size HY.out HZ.out t)
    rw [hy2] at HQ HYS ⊢
    have hg:=Lib.grownBy_setCell wc wr.heap.size 1 (.string y2)
    have hdc:=HDB.out.keep (fun k hk=>hbc.block k (HDB.out.lt k hk))
    have HDQ:=Lib.hid (hdc.keep (fun k hk=>hg.block k (hdc.lt k hk) (fun e=>by cases e;have:=HLT.out _ hk;omega)))
    have hvc:=owns_heap HVB.out (fun k e=>hbc.block k (owns_lt HVB.out e))
    have HVQ:=Lib.hid (owns_heap hvc (fun k e=>hg.block k (owns_lt hvc e) (fun e2=>by cases e2;have:=HLV.out _ e;omega)))
    have HUQ:=Lib.hid (((HUB.out.trans (Upd.of_below hbc))).fresh hg hwz)
    have HBQ:=Lib.hid (Lib.heap_setCell_same (i:=1) hbx (.string y2))
    clear hbc hbx hg hdc hvc hy2
    go_wp2_with fail
    clear a1 f1
    generalize wc.setCell ⟨wr.heap.size,1,none⟩ (.string y2) = wq at *
    have q0 : wq.cell? ⟨wr.heap.size,0,none⟩ = some (.int .i64 (x : Int)):=cell_of_heap HBQ.out
    have q1 : wq.cell? ⟨wr.heap.size,1,none⟩ = some (.string y2):=cell_of_heap HBQ.out
    have c3 : wq.cell? ⟨b,3,none⟩ = some (.slice (some ⟨g,0,none⟩) st.S.length cap):=by rw [cell_of_heap HDQ.out.blk,← HS.out.1];rfl
    obtain ⟨sc,sf⟩:=sec_at HDQ.out.sec (show x < S.length by rw [HS.out.1];exact hx)
    obtain ⟨hst,hgr⟩:=dk_store (k:=x) HDQ.out y2
    have HST:=Lib.hid hst.drew
    have HU3:=Lib.hid (HUQ.out.trans (Upd.of_grown (L:=foot b g wv) hgr (by simp [foot]))).drew
    have hgw : g < w.heap.size:=HLT.out g (by simp [foot])
    have HV3 : Hid ((wq.setCell ⟨g,x,none⟩ (.string y2)).drew.ownsRow w.heap.size 107 2 v V.length (wcells V)):=owns_heap HVQ.out (fun k e=>hgr.block k (owns_lt HVQ.out e) (fun e2=>by cases e2;have:=(HVQ.out.lt _ e).1;omega))
    clear hst hgr
    refine Mix.wp_region_mix [] [0,1,2,3,4,5,6,7,8] [9] 9 (by kernel_rfl) (by kernel_rfl) (fun _ _ d _ _ h=>by cases d <;> exact h) ?_
    simp only [Mix.pick,List.filterMap_cons,List.filterMap_nil,List.getElem?_cons_zero,List.getElem?_cons_succ]
    refine Mix.wpFree_nil ?_
    repeat still_step
    refine wpStill_nil ?_
    go_wp2_with fail
    go_roundw
    case rel=>exact ⟨j + 1,S.set x y2,by omega,by go_num,set_shape HS.out HYS.out,HQ.out.trans HE.out,HST,HV3,HU3⟩
    case measure=>simp [intOf];omega
   ·have hle : ((j : Int) == (V.length : Int) - 1) = false:=beq_eq_false_iff_ne.2 (by omega)
    have hne : V.drop (j + 1) ≠ []:=fun h=>by have h2:=congrArg List.length h;rw [List.length_drop] at h2;simp at h2;omega
    have HQ : Hid (crS (S.set x y) t (V.drop (j + 1)) = crS S t (V.drop j)):=by show _ = _;rw [HDR.out,crS_more _ _ _ hne]
    clear hl hne
    have HYS:=HY
    have HDQ:=HDA;have HVQ:=HVA;have HUQ:=HUA;have HBQ:=HBA
    go_wp2_with fail
    generalize wr.alloc (.cells #[.int .i64 (x : Int),.string y] 107) = wq at *
    have q0 : wq.cell? ⟨wr.heap.size,0,none⟩ = some (.int .i64 (x : Int)):=cell_of_heap HBQ.out
    have q1 : wq.cell? ⟨wr.heap.size,1,none⟩ = some (.string y):=cell_of_heap HBQ.out
    have c3 : wq.cell? ⟨b,3,none⟩ = some (.slice (some ⟨g,0,none⟩) st.S.length cap):=by rw [cell_of_heap HDQ.out.blk,← HS.out.1];rfl
    obtain ⟨sc,sf⟩:=sec_at HDQ.out.sec (show x < S.length by rw [HS.out.1];exact hx)
    obtain ⟨hst,hgr⟩:=dk_store (k:=x) HDQ.out y
    have HST:=Lib.hid hst.drew
    have HU3:=Lib.hid (HUQ.out.trans (Upd.of_grown (L:=foot b g wv) hgr (by simp [foot]))).drew
    have hgw : g < w.heap.size:=HLT.out g (by simp [foot])
    have HV3 : Hid ((wq.setCell ⟨g,x,none⟩ (.string y)).drew.ownsRow w.heap.size 107 2 v V.length (wcells V)):=owns_heap HVQ.out (fun k e=>hgr.block k (owns_lt HVQ.out e) (fun e2=>by cases e2;have:=(HVQ.out.lt _ e).1;omega))
    clear hst hgr
    refine Mix.wp_region_mix [] [0,1,2,3,4,5,6,7,8] [9] 9 (by kernel_rfl) (by kernel_rfl) (fun _ _ d _ _ h=>by cases d <;> exact h) ?_
    simp only [Mix.pick,List.filterMap_cons,List.filterMap_nil,List.getElem?_cons_zero,List.getElem?_cons_succ]
    refine Mix.wpFree_nil ?_
    repeat still_step
    refine wpStill_nil ?_
    go_wp2_with fail
    go_roundw
    case rel=>exact ⟨j + 1,S.set x y,by omega,by go_num,set_shape HS.out HYS.out,HQ.out.trans HE.out,HST,HV3,HU3⟩
    case measure=>simp [intOf];omega
  ·obtain rfl : j = V.length:=by omega
   have hSe : S = crS st.S t V:=by
    have h:=HE.out
    rw [List.drop_length] at h
    exact h
   have hd:=HD.out
   have c4 : wr.cell? ⟨b,4,none⟩ = some wv:=cell_of_heap hd.blk
   have f4 : wr.frozen? ⟨b,4,none⟩ = false:=frozen_of_heap hd.blk
   have hd2:=dk_done hd
   have hr:=renew_any b _ z _ _ _ _ hd2.blk
   have hu2:=Lib.grownBy_setCell wr b 4 (.slice none 0 0)
   have HR:=Lib.hid hr;have HD2:=Lib.hid hd2;have HU2:=Lib.hid (HUR.out.trans (Upd.of_grown (L:=foot b g wv) hu2 (by simp [foot])));have HSE:=Lib.hid hSe
   clear hSe hd hd2 hr hu2 HD HUR HVR hlt
   go_wp2_with fail
   refine HR.out.mono ?_
   rintro e w9 ⟨rfl,hb9,hg9⟩
   have HDID : Hid (Did w (foot b g wv) b { S:=crS st.S t V,W:=[],left:=0,ops:=st.ops,dead:=false } (.int .i64 0) (.returned (.int .i64 0)) w9):=by
    refine ⟨rfl,foot b g (.slice none 0 0),⟨0,g,cap,.slice none 0 0,?_,rfl⟩,(HU2.out.trans (Upd.of_grown hg9 (by simp [foot]))).less (fun k hk=>by simp [foot,Value.ownBlock] at hk ⊢;rcases hk with e | e;exact .inl e;exact .inr (.inl e))⟩
    rw [← HSE.out]
    exact dk_renew HD2.out hb9 hg9
   clear hb9 hg9
   go_wp2_with fail
   go_ret
   exact HDID.out
end Go.Proofs.YtnnakhdndmjmiaaGreat.Disk
