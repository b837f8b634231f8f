import Derived.Test.YtnnakhdndmjmiaaGreatPuWalW
set_option linter.unusedVariables false
set_option maxRecDepth 4000
namespace Go.Proofs.YtnnakhdndmjmiaaGreat.Wal
open Go.RowKit DiskP SegsP WalP Disk
open Ints (IntsAt IntsAt.keep)
theorem and7 (x : Int) : 0 ≤ bits .and .i64 x 7 ∧ bits .and .i64 x 7 ≤ 7:=by
 have h1 : (BitVec.ofInt 64 x &&& BitVec.ofInt 64 7).toNat ≤ 7:=by
  rw [BitVec.toNat_and,show (BitVec.ofInt 64 7).toNat = 7 from by decide]
  exact Nat.and_le_right
 show 0 ≤ IntKind.i64.wrap ((BitVec.ofInt 64 x &&& BitVec.ofInt 64 7).toNat : Int) ∧ IntKind.i64.wrap ((BitVec.ofInt 64 x &&& BitVec.ofInt 64 7).toNat : Int) ≤ 7
 generalize (BitVec.ofInt 64 x &&& BitVec.ofInt 64 7).toNat = k at *
 rw [IntWalk.i64_in] <;> omega
structure AgI (w4 : World) (L : List Nat) (d m n : Nat) (G : Int) (K K' : Kept) (wr : World) (Lr : List Nat) (str : St) (j : Nat) : Prop where
 dk : Dk wr Lr d str
 upd : Upd L w4 wr Lr
 ok : Ok (n + 600 * j) str
 img : Img str fun S=>S.length = m ∧ (KeepsB G S K ∨ KeepsB G S K')
theorem upd_blk {L L' : List Nat} {w w' : World} (hU : Upd L w w' L') {k : Nat} {o : Option Obj} (h : w.heap[k]? = o) (hk : k < w.heap.size) (hn : k ∉ L) : w'.heap[k]? = o:=(hU.block k hk hn).trans h
theorem ag_crash {st : St} {m n : Nat} {G : Int} {K K' : Kept} (h : Img st fun S=>S.length = m ∧ (KeepsB G S K ∨ KeepsB G S K')) (hok : Ok n st) (ks : List Bool) (t : Int) : Ok n (cr st ks t) ∧ Idle (cr st ks t) ∧ Unfused (cr st ks t) ∧ (cr st ks t).S.length = m ∧ ∃ A,(A = K ∨ A = K') ∧ KeepsB G (cr st ks t).S A:=by
 obtain ⟨h1,h2,h3,h4⟩:=crash_keeps_b h ks t
 refine ⟨cr_ok hok ks t,h1,h2,h3,?_⟩
 rcases h4 with g | g
 ·exact ⟨K,.inl rfl,g⟩
 ·exact ⟨K',.inr rfl,g⟩
def AgOk (w : World) (L : List Nat) (d m n : Nat) (G : Int) (K K' : Kept) (e : Ending) (w' : World) : Prop :=
 ∃ B L' a c lg st A,e = .returned (.tuple #[.pointer (some ⟨B,0,none⟩),keptV A a c,.bool true]) ∧ (A = K ∨ A = K') ∧ (a = none → c = 0) ∧ BatsF w' (List.range w.heap.size ++ B :: L') a A.bats.length A.bats ∧ LS w' L' B d lg st ∧ Upd L w w' L' ∧ w.heap.size ≤ B ∧
  Rests lg st A ∧ lg.x.gen ≤ G ∧ lg.num ≤ G ∧ st.S.length = m ∧ Ok (n + 3000) st
theorem boxes_four (w : World) (A B C E : Array Value) (TA TB TC TE : TypeId) : ∃ w4,(((w.alloc (.cells A TA)).alloc (.cells B TB)).alloc (.cells C TC)).alloc (.cells E TE) = w4 ∧ Below w.heap.size w w4 ∧ w4.heap.size = w.heap.size + 4 ∧
  w4.heap[w.heap.size]? = some (.cells A TA (0,0)) ∧ w4.heap[w.heap.size + 1]? = some (.cells B TB (0,0)) ∧ w4.heap[w.heap.size + 2]? = some (.cells C TC (0,0)) ∧ w4.heap[w.heap.size + 3]? = some (.cells E TE (0,0)):=by
 refine ⟨_,rfl,?_⟩
 obtain ⟨h1,h2,h3⟩:=boxes_two w A B TA TB
 have hs : ((w.alloc (.cells A TA)).alloc (.cells B TB)).heap.size = w.heap.size + 2:=by simp
 generalize (w.alloc (.cells A TA)).alloc (.cells B TB) = u at *
 obtain ⟨g1,g2,g3⟩:=boxes_two u C E TC TE
 have ht : ((u.alloc (.cells C TC)).alloc (.cells E TE)).heap.size = u.heap.size + 2:=by simp
 generalize (u.alloc (.cells C TC)).alloc (.cells E TE) = v at *
 rw [hs] at g2 g3 ht
 exact ⟨h1.trans (g1.mono h1.size),by omega,(g1.block _ (by omega)).trans h2,(g1.block _ (by omega)).trans h3,g2,g3⟩
theorem ls_put {w w' : World} {b d k : Nat} {L : List Nat} {lg : Lg} {st : St} {b1 : Bool} {s2 : ByteArray} {a3 : Option Addr} {n3 c3 : Nat} {T : TypeId} (h : LS w L b d lg st) (hkn : k ∉ b :: L) (hq : w.heap[k]? = some (.cells #[.bool b1,.string s2,.slice a3 n3 c3] T (0,0))) (hU : Upd [k] w w' [k]) : LS w' L b d lg st:=by
 obtain ⟨hD,ca,cc,la,lc,hl,g1,g2,g3⟩:=h
 have ne : ∀ j,j ≠ k → j ∉ [k]:=fun j h1 hm=>h1 (List.mem_singleton.1 hm)
 exact ⟨hD.keep fun j hj=>hU.block j (hD.lt j hj) (ne j (fun e=>hkn (by rw [← e];exact List.mem_cons_of_mem _ hj))),ca,cc,la,lc,⟨(hU.block b (heap_lt hl.blk) (ne b (fun e=>hkn (by rw [← e];simp)))).trans hl.blk,ints_other hl.chk (fun h0 y hy=>ne _ (ints_notQ hl.chk h0 hq y hy)) hU,ints_other hl.log (fun h0 y hy=>ne _ (ints_notQ hl.log h0 hq y hy)) hU,hl.cn,hl.ln⟩,g1,g2,g3⟩
theorem upd_fresh_put {L L' : List Nat} {w a : World} {k : Nat} (h : Upd L w a L') (hk : w.heap.size ≤ k) (v0 v1 v2 : Value) : Upd L w (putK a k v0 v1 v2) L' :=
 ((h.fresh (Lib.grownBy_setCell a k 0 v0) hk).fresh (Lib.grownBy_setCell _ k 1 v1) hk).fresh (Lib.grownBy_setCell _ k 2 v2) hk
theorem three_of {w : World} {k : Nat} {K : Kept} {a : Option Addr} {c : Nat} (h : w.heap[k]? = some (.cells #[.bool K.base.isSome,.string (bs (K.base.getD [])),.slice a K.bats.length c] 51 (0,0))) :
  w.cell? ⟨k,0,none⟩ = some (.bool K.base.isSome) ∧ w.cell? ⟨k,1,none⟩ = some (.string (bs (K.base.getD []))) ∧ w.cell? ⟨k,2,none⟩ = some (.slice a K.bats.length c):=⟨cell_of_heap h,cell_of_heap h,cell_of_heap h⟩
theorem results_again {fn : Func} (h : fn.results = #[.tmp 8,.cell 9 51,.tmp 10]) (tmps : Array Value) (w : World) (b : Nat) (x0 x1 x2 : Value) (hp : tmps.getD 9 undef = .pointer (some ⟨b,0,none⟩))
  (c : w.cell? ⟨b,0,none⟩ = some x0 ∧ w.cell? ⟨b,1,none⟩ = some x1 ∧ w.cell? ⟨b,2,none⟩ = some x2) : (results fn tmps).run Tryz.prog w = .ok (.tuple #[tmps.getD 8 undef,.agg #[x0,x1,x2],tmps.getD 10 undef]) w:=by
 have hp' : tmps[9]?.getD undef = .pointer (some ⟨b,0,none⟩):=by rw [← hp];simp
 obtain ⟨c0,c1,c2⟩:=c
 simp only [results,h]
 go_simp
theorem ag_end {L L7 : List Nat} {w w4 w6 w7 w10 : World} {d m n b7 : Nat} {G : Int} {K K' A : Kept} {lg7 : Lg} {st7 : St} {a7 : Option Addr} {c7 : Nat} {b1 : Bool} {s2 : ByteArray} {a3 : Option Addr} {n3 c3 : Nat} {T : TypeId} (hb4 : Below w.heap.size w w4) (hs4 : w4.heap.size = w.heap.size + 4) (hL : ∀ k ∈ L,k < w.heap.size)
  (hU : Upd L w4 w7 L7) (h46 : w4.heap.size ≤ w6.heap.size) (h67 : w6.heap.size ≤ w7.heap.size) (hb : Below w7.heap.size w7 w10) (hbt : BatsF w7 (List.range w6.heap.size ++ b7 :: L7) a7 A.bats.length A.bats) (hls : LS w7 L7 b7 d lg7 st7) (hbig : w6.heap.size ≤ b7) (hq : w10.heap[w.heap.size + 3]? = some (.cells #[.bool b1,.string s2,.slice a3 n3 c3] T (0,0)))
  (hA : A = K ∨ A = K') (hn : a7 = none → c7 = 0) (hr : Rests lg7 st7 A) (hg : lg7.x.gen ≤ G) (hm : lg7.num ≤ G) (hl : st7.S.length = m) (hok : Ok (n + 3000) st7) (v0 v1 v2 : Value) :
  AgOk w L d m n G K K' (.returned (.tuple #[.pointer (some ⟨b7,0,none⟩),keptV A a7 c7,.bool true])) (putK w10 (w.heap.size + 3) v0 v1 v2):=by
 have hput:=upd_putK w10 (w.heap.size + 3) v0 v1 v2
 have hU2 : Upd L w w7 L7:=(Upd.of_below hb4).trans hU
 have hkn : w.heap.size + 3 ∉ b7 :: L7:=fun h=>by
  rcases List.mem_cons.1 h with g | g
  ·omega
  ·rcases hU.sub _ g with q | q
   ·have:=hL _ q;omega
   ·omega
 have hbt2:=(hbt.upd (Upd.of_below hb)).upd (upd_more hput fun j hj=>by
  rw [List.mem_singleton.1 hj]
  exact List.mem_append_left _ (List.mem_range.2 (by omega)))
 exact ⟨b7,L7,a7,c7,lg7,st7,A,rfl,hA,hn,hbt2.less (fun q hq=>by
  rcases List.mem_append.1 hq with g | g
  ·exact List.mem_append_left _ (List.mem_range.2 (by have:=List.mem_range.1 g;omega))
  ·exact List.mem_append_right _ g),ls_put (hls.below hb) hkn hq hput,upd_fresh_put (hU2.trans (Upd.of_below hb)) (by omega) v0 v1 v2,by omega,hr,hg,hm,hl,hok⟩
set_option maxHeartbeats 8000000 in
theorem again_any (L : List Nat) (d m n : Nat) (G : Int) (st : St) (K K' : Kept) (w : World) (hD : Dk w L d st) (hok : Ok n st) (hn : n ≤ 600000) (hG : G ≤ 1000000) (hi : Img st fun S=>S.length = m ∧ (KeepsB G S K ∨ KeepsB G S K'))
  (kd nn : Int) (ra : Option Addr) (rn rc : Nat) (tx : ByteArray) (ka : Option Addr) (kn kc : Nat) (ks : List Bool) (tear : Int) (hk : BoolsAt w ka kn ks) (hkn : kn ≤ 60) (hkf : 0 < kn → ∀ y,ka = some y → y.block ∉ L)
  (a1 a2 : Option Addr) (c1 c2 : Nat) (hb1 : BatsF w L a1 K.bats.length K.bats) (hb2 : BatsF w L a2 K'.bats.length K'.bats) (hl1 : K.bats.length ≤ 1000000) (hl2 : K'.bats.length ≤ 1000000) :
  Calls Tryz.prog 23 #[.pointer (some ⟨d,0,none⟩),.agg #[.int .i64 kd,.int .i64 nn,.slice ra rn rc,.string tx,.slice ka kn kc,.int .i64 tear],.agg #[.bool K.base.isSome,.string (bs (K.base.getD [])),.slice a1 K.bats.length c1],.agg #[.bool K'.base.isSome,.string (bs (K'.base.getD [])),.slice a2 K'.bats.length c2]] w (AgOk w L d m n G K K'):=by
 obtain ⟨w4,hw4,hb4,hs4,hA,hN,hM,hR⟩:=boxes_four w #[.int .i64 kd,.int .i64 nn,.slice ra rn rc,.string tx,.slice ka kn kc,.int .i64 tear] #[.bool K.base.isSome,.string (bs (K.base.getD [])),.slice a1 K.bats.length c1] #[.bool K'.base.isSome,.string (bs (K'.base.getD [])),.slice a2 K'.bats.length c2] #[.bool false,.string ⟨#[]⟩,.slice none 0 0] 41 51 51 51
 have hLlt : ∀ k ∈ L,k < w.heap.size:=fun k hk=>hD.lt k hk
 have HLT:=Lib.hid hLlt
 have HI:=Lib.hid (show AgI w4 L d m n G K K' w4 L st 0 from ⟨hD.keep fun k hk=>hb4.block k (hD.lt k hk),Upd.refl L w4,hok.mono (by omega),hi⟩)
 have HA:=Lib.hid hA;have HNW:=Lib.hid hN;have HMB:=Lib.hid hM;have HRC:=Lib.hid hR;have HB4:=Lib.hid hb4
 have HKS:=Lib.hid (bools_below hk hb4);have HKF:=Lib.hid hkf
 have HB1:=Lib.hid (hb1.upd (Upd.of_below hb4));have HB2:=Lib.hid (hb2.upd (Upd.of_below hb4))
 clear hD hok hi hA hN hM hR hk hkf hb1 hb2 hb4 hLlt
 go_enter Tryz.func23,Tryz.ntmps23
 go_wp2_with fail
 try rw [hw4]
 clear hw4
 go_loopw [11] (fun i wr => ∃ (j : Nat) (Lr : List Nat) (str : St),j ≤ 4 ∧ i = .int .i64 (j : Int) ∧ Hid (AgI w4 L d m n G K K' wr Lr str j)) (fun i _=>5 - (intOf i).toNat)
 case atStart=>exact ⟨0,L,st,by omega,rfl,HI⟩
 case round =>
  clear HI
  obtain ⟨j,Lr,str,hj,rfl,HI⟩:=hrel
  have hnL : ∀ i,w.heap.size + i ∉ L:=fun i hm=>by have:=HLT.out _ hm;omega
  have HNL:=Lib.hid hnL
  have hA:=upd_blk HI.out.upd HA.out (by omega) (HNL.out 0)
  have x1:=cell_of_heap (i:=1) hA;have x4:=cell_of_heap (i:=4) hA;have x5:=cell_of_heap (i:=5) hA
  have HCR:=Lib.hid (crash_dk d (n + 600 * j) str Lr ka kn kc ks tear wr HI.out.dk HI.out.ok (by omega) (HKS.out.keep (L:=L) HKF.out (fun k h1 h2=>HI.out.upd.block k h1 h2) HI.out.upd.size) (by omega))
  obtain ⟨q1,q2,q3,q4,A,hAK,q5⟩:=ag_crash HI.out.img HI.out.ok ks tear
  have Q1:=Lib.hid q1;have Q2:=Lib.hid q2;have Q3:=Lib.hid q3;have Q4:=Lib.hid q4;have Q5:=Lib.hid q5;have QA:=Lib.hid hAK
  have HU:=Lib.hid HI.out.upd
  clear hnL hA HI q1 q2 q3 q4 q5 hAK
  go_wp2_with fail
  refine HCR.out.mono ?_
  rintro e w5 ⟨rfl,L5,hD5,hU5⟩
  have HU5:=Lib.hid (HU.out.trans hU5)
  have HD5:=Lib.hid hD5
  clear x1 x4 x5 HCR HU hD5 hU5
  by_cases hj4 : j < 4
  ·have x1:=cell_of_heap (i:=1) (upd_blk HU5.out HA.out (by omega) (HNL.out 0))
   obtain ⟨v,hv⟩ : ∃ v,bits .and .i64 (nn / 2 ^ (3 * j)) 7 = v:=⟨_,rfl⟩
   have hv7:=and7 (nn / 2 ^ (3 * j))
   rw [hv] at hv7
   have HV:=Lib.hid hv
   have HF:=Lib.hid (fuse_dk d (cr str ks tear) L5 v w5 HD5.out (by omega) (by omega))
   clear HD5 hv
   go_wp2_with fail
   rw [HV.out]
   refine HF.out.mono ?_
   rintro e w6 ⟨rfl,L6,hD6,hU6⟩
   have HU6:=Lib.hid (HU5.out.trans hU6)
   have HOP:=Lib.hid (open_keeps L6 d (n + 600 * j) (fu (cr str ks tear) v) w6 hD6 (fu_ok Q1.out (by omega)) (by omega) ⟨Q2.out.1,Q2.out.2⟩ A G Q5.out)
   clear x1 HF HV hD6 hU6 HU5 hv7
   go_wp2_with fail
   refine HOP.out.mono ?_
   rintro e w7 ⟨st7,hs7,hok7,hu7,g7⟩
   have hs7 : st7.S.length = m:=hs7.trans Q4.out
   rcases g7 with ⟨lg7,⟨b7,L7,a7,c7,rfl,hn7,hbt7,hls7,hU7,hbig7⟩,hr7,hg7,hm7⟩ | ⟨⟨rfl,L7,hD7,hU7⟩,hd7,hi7⟩
   ·simp only [keptV]
    have hb8 : Below w7.heap.size w7 (w7.alloc (.cells #[.bool A.base.isSome,.string (bs (A.base.getD [])),.slice a7 A.bats.length c7] 51)):=(Below.refl _ w7).alloc (Nat.le_refl _) _
    have hx8:=heap_alloc_new w7 (.cells #[.bool A.base.isSome,.string (bs (A.base.getD [])),.slice a7 A.bats.length c7] 51)
    obtain ⟨w8,hw8⟩ : ∃ w8,w7.alloc (.cells #[.bool A.base.isSome,.string (bs (A.base.getD [])),.slice a7 A.bats.length c7] 51) = w8:=⟨_,rfl⟩
    rw [hw8] at hb8 hx8
    have hU7a:=HU6.out.trans hU7
    have hU8:=hU7a.trans (Upd.of_below hb8)
    have hy8:=upd_blk hU8 HNW.out (by omega) (HNL.out 1)
    have hz8:=upd_blk hU8 HMB.out (by omega) (HNL.out 2)
    have hr8:=upd_blk hU8 HRC.out (by omega) (HNL.out 3)
    have h47:=hU7a.size
    have h46:=HU6.out.size
    have h67:=hU7.size
    have h78:=hb8.size
    have l7:=heap_lt hx8
    have l1:=heap_lt hy8
    have l2:=heap_lt hz8
    have l3:=heap_lt hr8
    have HX8:=Lib.hid hx8;have HY8:=Lib.hid hy8;have HZ8:=Lib.hid hz8;have HR8:=Lib.hid hr8
    have HQ1:=Lib.hid ((HB1.out.upd hU8).at);have HQ2:=Lib.hid ((HB2.out.upd hU8).at)
    have HQA:=Lib.hid ((hbt7.upd (Upd.of_below hb8)).at)
    have hcnt : A.bats.length ≤ 1000000000:=by
     have:=hr7.num
     have:=(fit_nums hr7.live.good.fit).2.2.1
     omega
    have HAL:=Lib.hid (fun (wz : World) (hb : Below w7.heap.size w7 wz) (b1 : Bool) (s2 : ByteArray) (a3 : Option Addr) (n3 c3 : Nat) (T : TypeId) hq v0 v1 v2=>ag_end (n:=n) (K:=K) (K':=K') (b1:=b1) (s2:=s2) (a3:=a3) (n3:=n3) (c3:=c3) (T:=T) HB4.out hs4 HLT.out hU7a h46 h67 hb hbt7 hls7 hbig7 hq QA.out hn7 hr7 hg7 hm7 hs7 (hok7.mono (by omega)) v0 v1 v2)
    have HB8:=Lib.hid hb8
    clear hn7 hbt7 hls7 hU7 hbig7 hr7 hg7 hm7 hok7 hu7 hb8 hx8 hy8 hz8 hr8 hU8 hU7a HOP HU6 Q1 Q2 Q3 Q4 Q5 h47 hs7 HLT HB4 HNW HMB HRC HNL HA HKS HKF HB1 HB2
    obtain ⟨wd,hwd⟩ : ∃ wd,w8.drew = wd:=⟨_,rfl⟩
    have hbd : Below w8.heap.size w8 w8.drew:=(Below.refl _ w8).drew
    have hsd : w8.drew.heap.size = w8.heap.size:=rfl
    rw [hwd] at hbd hsd
    have HBD:=Lib.hid hbd
    have HSS:=Lib.hid (show ∀ wz,Below wd.heap.size wd wz → ((wz.cell? ⟨w7.heap.size,0,none⟩ = some (.bool A.base.isSome) ∧ wz.cell? ⟨w7.heap.size,1,none⟩ = some (.string (bs (A.base.getD []))) ∧ wz.cell? ⟨w7.heap.size,2,none⟩ = some (.slice a7 A.bats.length c7)) ∧ (wz.cell? ⟨(w.heap.size + 1),0,none⟩ = some (.bool K.base.isSome) ∧ wz.cell? ⟨(w.heap.size + 1),1,none⟩ = some (.string (bs (K.base.getD []))) ∧ wz.cell? ⟨(w.heap.size + 1),2,none⟩ = some (.slice a1 K.bats.length c1)) ∧ (wz.cell? ⟨(w.heap.size + 2),0,none⟩ = some (.bool K'.base.isSome) ∧ wz.cell? ⟨(w.heap.size + 2),1,none⟩ = some (.string (bs (K'.base.getD []))) ∧ wz.cell? ⟨(w.heap.size + 2),2,none⟩ = some (.slice a2 K'.bats.length c2))) from fun wz hb=>by
     have hb2 : Below w8.heap.size w8 wz:=HBD.out.trans (hb.mono HBD.out.size)
     exact ⟨three_of ((hb2.block _ l7).trans HX8.out),three_of ((hb2.block _ l1).trans HY8.out),three_of ((hb2.block _ l2).trans HZ8.out)⟩)
    have HK1:=Lib.hid (sameKept_any A.base.isSome K.base.isSome (bs (A.base.getD [])) (bs (K.base.getD [])) a7 a1 A.bats.length c7 K.bats.length c1 A.bats K.bats wd (HQA.out.keep HBD.out) (HQ1.out.keep HBD.out) (by omega) (by omega) (A = K) (fun e=>by subst e;exact ⟨rfl,rfl,rfl⟩))
    have HK2:=Lib.hid (fun wz (hb : Below wd.heap.size wd wz)=>sameKept_any A.base.isSome K'.base.isSome (bs (A.base.getD [])) (bs (K'.base.getD [])) a7 a2 A.bats.length c7 K'.bats.length c2 A.bats K'.bats wz ((HQA.out.keep HBD.out).keep hb) ((HQ2.out.keep HBD.out).keep hb) (by omega) (by omega) (A = K') (fun e=>by subst e;exact ⟨rfl,rfl,rfl⟩))
    have hS0:=HSS.out wd (Below.refl _ wd)
    clear HQ1 HQ2 HQA hbd
    go_wp2_with fail
    try rw [hw8]
    clear hw8
    refine wp_region_held_drew (S:=(fun w'=>(w'.cell? ⟨w7.heap.size,0,none⟩ = some (.bool A.base.isSome) ∧ w'.cell? ⟨w7.heap.size,1,none⟩ = some (.string (bs (A.base.getD []))) ∧ w'.cell? ⟨w7.heap.size,2,none⟩ = some (.slice a7 A.bats.length c7)) ∧ (w'.cell? ⟨(w.heap.size + 1),0,none⟩ = some (.bool K.base.isSome) ∧ w'.cell? ⟨(w.heap.size + 1),1,none⟩ = some (.string (bs (K.base.getD []))) ∧ w'.cell? ⟨(w.heap.size + 1),2,none⟩ = some (.slice a1 K.bats.length c1)) ∧ (w'.cell? ⟨(w.heap.size + 2),0,none⟩ = some (.bool K'.base.isSome) ∧ w'.cell? ⟨(w.heap.size + 2),1,none⟩ = some (.string (bs (K'.base.getD []))) ∧ w'.cell? ⟨(w.heap.size + 2),2,none⟩ = some (.slice a2 K'.bats.length c2)))) (by kernel_rfl) (by rw [hwd];exact hS0) (fun hH0=>?_)
    rw [hwd] at hH0 ⊢
    clear hwd hS0
    refine wpAnyH_take (i:=0) (v:=?v1) rfl ?s1 ?f1 ?r1 ?q1 (Or.inl ⟨?y1,?z1⟩) ?h1 ?k1
    case s1 | f1 | r1 | y1=>kernel_rfl
    case q1=>exact fun _ _ _ h=>h
    case z1=>(intro w' hSw;(try dsimp only at hSw);go_simp;(try with_reducible rfl))
    case h1=>exact hH0
    refine wpAnyH_take (i:=1) (v:=?v2) rfl ?s2 ?f2 ?r2 ?q2 (Or.inl ⟨?y2,?z2⟩) ?h2 ?k2
    case s2 | f2 | r2 | y2=>kernel_rfl
    case q2=>exact fun _ _ _ h=>h
    case z2=>(intro w' hSw;(try dsimp only at hSw);go_simp;(try with_reducible rfl))
    case h2=>exact hH0
    refine wpAnyH_take (i:=2) (v:=?v3) rfl ?s3 ?f3 ?r3 ?q3 (Or.inl ⟨?y3,?z3⟩) ?h3 ?k3
    case s3 | f3 | r3 | y3=>kernel_rfl
    case q3=>exact fun _ _ _ h=>h
    case z3=>(intro w' hSw;(try dsimp only at hSw);go_simp;(try with_reducible rfl))
    case h3=>exact hH0
    refine wpAnyH_take (i:=3) (v:=?v4) rfl ?s4 ?f4 ?r4 ?q4 (Or.inl ⟨?y4,?z4⟩) ?h4 ?k4
    case s4 | f4 | r4 | y4=>kernel_rfl
    case q4=>exact fun _ _ _ h=>h
    case z4=>(intro w' hSw;(try dsimp only at hSw);go_simp;(try with_reducible rfl))
    case h4=>exact hH0
    refine wpAnyH_take (i:=4) (v:=?v5) rfl ?s5 ?f5 ?r5 ?q5 (Or.inl ⟨?y5,?z5⟩) ?h5 ?k5
    case s5 | f5 | r5 | y5=>kernel_rfl
    case q5=>exact fun _ _ _ h=>h
    case z5=>(intro w' hSw;(try dsimp only at hSw);go_simp;(try with_reducible rfl))
    case h5=>exact hH0
    refine wpAnyH_take (i:=5) (v:=?v6) rfl ?s6 ?f6 ?r6 ?q6 (Or.inl ⟨?y6,?z6⟩) ?h6 ?k6
    case s6 | f6 | r6 | y6=>kernel_rfl
    case q6=>exact fun _ _ _ h=>h
    case z6=>(intro w' hSw;(try dsimp only at hSw);go_simp;(try with_reducible rfl))
    case h6=>exact hH0
    refine wpAnyH_take (i:=6) (v:=?v7) rfl ?s7 ?f7 ?r7 ?q7 (Or.inl ⟨?y7,?z7⟩) ?h7 ?k7
    case s7 | f7 | r7 | y7=>kernel_rfl
    case q7=>exact fun _ _ _ h=>h
    case z7=>(intro w' hSw;(try dsimp only at hSw);go_simp;(try with_reducible rfl))
    case h7=>exact hH0
    refine wpAnyH_ready (rs:=[7]) (by kernel_rfl) (by simp) ?_
    refine AllReadyH.cons rfl (fun KK hK=>?_) AllReadyH.nil
    go_simp
    refine HK1.out.mono ?_
    rintro e w9 ⟨r1,rfl,hr1,hb9⟩
    have HB9:=Lib.hid hb9
    have HR1:=Lib.hid hr1
    have hS1:=HSS.out w9 hb9
    refine hK.out _ _ hS1 (fun hH1=>?_)
    clear hK KK hH0 HK1 hb9 hr1
    cases r1 with
    | true =>
     clear HK2
     refine wpAnyH_take (i:=8) (v:=?v8) rfl ?s8 ?f8 ?r8 ?q8 (Or.inl ⟨?y8,?z8⟩) ?h8 ?k8
     case s8 | f8 | r8 | y8=>kernel_rfl
     case q8=>exact fun _ _ _ h=>h
     case z8=>(intro w' hSw;(try dsimp only at hSw);go_simp;(try with_reducible rfl))
     case h8=>exact hH1
     refine wpAnyH_take (i:=9) (v:=undef) rfl ?s9 ?f9 ?r9 ?q9 (Or.inr ⟨?y9,rfl⟩) ?h9 ?k9
     case s9 | f9 | r9 | y9=>kernel_rfl
     case q9=>exact fun _ _ _ h=>h
     case h9=>exact hH1
     refine wpAnyH_take (i:=10) (v:=undef) rfl ?s10 ?f10 ?r10 ?q10 (Or.inr ⟨?y10,rfl⟩) ?h10 ?k10
     case s10 | f10 | r10 | y10=>kernel_rfl
     case q10=>exact fun _ _ _ h=>h
     case h10=>exact hH1
     refine wpAnyH_take (i:=11) (v:=undef) rfl ?s11 ?f11 ?r11 ?q11 (Or.inr ⟨?y11,rfl⟩) ?h11 ?k11
     case s11 | f11 | r11 | y11=>kernel_rfl
     case q11=>exact fun _ _ _ h=>h
     case h11=>exact hH1
     refine wpAnyH_take (i:=12) (v:=?v12) rfl ?s12 ?f12 ?r12 ?q12 (Or.inl ⟨?y12,?z12⟩) ?h12 ?k12
     case s12 | f12 | r12 | y12=>kernel_rfl
     case q12=>exact fun _ _ _ h=>h
     case z12=>(intro w' hSw;(try dsimp only at hSw);go_simp;(try with_reducible rfl))
     case h12=>exact hH1
     refine wpAnyH_take (i:=13) (v:=?v13) rfl ?s13 ?f13 ?r13 ?q13 (Or.inl ⟨?y13,?z13⟩) ?h13 ?k13
     case s13 | f13 | r13 | y13=>kernel_rfl
     case q13=>exact fun _ _ _ h=>h
     case z13=>(intro w' hSw;(try dsimp only at hSw);go_simp;(try with_reducible rfl))
     case h13=>exact hH1
     refine wpAnyH_take (i:=14) (v:=?v14) rfl ?s14 ?f14 ?r14 ?q14 (Or.inl ⟨?y14,?z14⟩) ?h14 ?k14
     case s14 | f14 | r14 | y14=>kernel_rfl
     case q14=>exact fun _ _ _ h=>h
     case z14=>(intro w' hSw;(try dsimp only at hSw);go_simp;(try with_reducible rfl))
     case h14=>exact hH1
     have hq10:=((HBD.out.trans ((HB9.out).mono HBD.out.size)).block _ l3).trans HR8.out
     have o0:=cell_of_heap (i:=0) hq10
     have o1:=cell_of_heap (i:=1) hq10
     have o2:=cell_of_heap (i:=2) hq10
     have oz0 : w9.frozen? ⟨(w.heap.size + 3),0,none⟩ = false:=frozen_of_heap hq10
     have oz1 : w9.frozen? ⟨(w.heap.size + 3),1,none⟩ = false:=frozen_of_heap hq10
     have oz2 : w9.frozen? ⟨(w.heap.size + 3),2,none⟩ = false:=frozen_of_heap hq10
     have hU12:=upd_putK w9 (w.heap.size + 3) (.bool A.base.isSome) (.string (bs (A.base.getD []))) (.slice a7 A.bats.length c7)
     have hk12:=heap_putK hq10 (.bool A.base.isSome) (.string (bs (A.base.getD []))) (.slice a7 A.bats.length c7)
     obtain ⟨w12,hw120⟩ : ∃ w12,putK w9 (w.heap.size + 3) (.bool A.base.isSome) (.string (bs (A.base.getD []))) (.slice a7 A.bats.length c7) = w12:=⟨_,rfl⟩
     rw [hw120] at hU12 hk12
     have hw12 : ((w9.setCell ⟨(w.heap.size + 3),0,none⟩ (.bool A.base.isSome)).setCell ⟨(w.heap.size + 3),1,none⟩ (.string (bs (A.base.getD [])))).setCell ⟨(w.heap.size + 3),2,none⟩ (.slice a7 A.bats.length c7) = w12:=hw120
     clear hw120
     have hS2 : ((w12.cell? ⟨w7.heap.size,0,none⟩ = some (.bool A.base.isSome) ∧ w12.cell? ⟨w7.heap.size,1,none⟩ = some (.string (bs (A.base.getD []))) ∧ w12.cell? ⟨w7.heap.size,2,none⟩ = some (.slice a7 A.bats.length c7)) ∧ (w12.cell? ⟨(w.heap.size + 1),0,none⟩ = some (.bool K.base.isSome) ∧ w12.cell? ⟨(w.heap.size + 1),1,none⟩ = some (.string (bs (K.base.getD []))) ∧ w12.cell? ⟨(w.heap.size + 1),2,none⟩ = some (.slice a1 K.bats.length c1)) ∧ (w12.cell? ⟨(w.heap.size + 2),0,none⟩ = some (.bool K'.base.isSome) ∧ w12.cell? ⟨(w.heap.size + 2),1,none⟩ = some (.string (bs (K'.base.getD []))) ∧ w12.cell? ⟨(w.heap.size + 2),2,none⟩ = some (.slice a2 K'.bats.length c2))):=by
      have h12:=fun k (hk : k < w9.heap.size) (hn : k ≠ w.heap.size + 3)=>hU12.block k hk (fun hm=>hn (List.mem_singleton.1 hm))
      have hb2 : Below w8.heap.size w8 w9:=HBD.out.trans ((HB9.out).mono HBD.out.size)
      have hz2:=hb2.size
      exact ⟨three_of ((h12 _ (by omega) (by omega)).trans ((hb2.block _ l7).trans HX8.out)),three_of ((h12 _ (by omega) (by omega)).trans ((hb2.block _ l1).trans HY8.out)),three_of ((h12 _ (by omega) (by omega)).trans ((hb2.block _ l2).trans HZ8.out))⟩
     refine wpAnyH_ready (rs:=[15]) (by kernel_rfl) (by simp) ?_
     refine AllReadyH.cons rfl (fun KK hK=>?_) AllReadyH.nil
     go_simp
     try rw [hw12]
     refine hK.out _ _ hS2 (fun hH3=>?_)
     clear hK KK hH1
     refine wpAnyH_take (i:=16) (v:=?v15) rfl ?s15 ?f15 ?r15 ?q15 (Or.inl ⟨?y15,?z15⟩) ?h15 ?k15
     case s15 | f15 | r15 | y15=>kernel_rfl
     case q15=>exact fun _ _ _ h=>h
     case z15=>(intro w' hSw;(try dsimp only at hSw);go_simp;(try with_reducible rfl))
     case h15=>exact hH3
     refine wpAnyH_done (by kernel_rfl) ?_ _
     have hEND:=HAL.out w9 (HB8.out.trans ((HBD.out.trans ((HB9.out).mono HBD.out.size)).mono HB8.out.size)) _ _ _ _ _ _ hq10 (.bool A.base.isSome) (.string (bs (A.base.getD []))) (.slice a7 A.bats.length c7)
     rw [show putK w9 (w.heap.size + 3) (.bool A.base.isSome) (.string (bs (A.base.getD []))) (.slice a7 A.bats.length c7) = w12 from hw12] at hEND
     have HEND:=Lib.hid hEND
     have HRS:=Lib.hid (three_of hk12)
     clear o0 oz0 o1 oz1 o2 oz2
     clear hEND hU12 hk12 hw12 hS2 hH3 hq10 HAL HSS HX8 HY8 HZ8 HR8
     go_wp2_with fail
     refine bodyPost_ret (results_again rfl _ _ (w.heap.size + 3) _ _ _ rfl HRS.out) rfl ?_
     exact HEND.out
    | false =>
     refine wpAnyH_take (i:=8) (v:=?v16) rfl ?s16 ?f16 ?r16 ?q16 (Or.inl ⟨?y16,?z16⟩) ?h16 ?k16
     case s16 | f16 | r16 | y16=>kernel_rfl
     case q16=>exact fun _ _ _ h=>h
     case z16=>(intro w' hSw;(try dsimp only at hSw);go_simp;(try with_reducible rfl))
     case h16=>exact hH1
     refine wpAnyH_take (i:=9) (v:=?v17) rfl ?s17 ?f17 ?r17 ?q17 (Or.inl ⟨?y17,?z17⟩) ?h17 ?k17
     case s17 | f17 | r17 | y17=>kernel_rfl
     case q17=>exact fun _ _ _ h=>h
     case z17=>(intro w' hSw;(try dsimp only at hSw);go_simp;(try with_reducible rfl))
     case h17=>exact hH1
     refine wpAnyH_take (i:=10) (v:=?v18) rfl ?s18 ?f18 ?r18 ?q18 (Or.inl ⟨?y18,?z18⟩) ?h18 ?k18
     case s18 | f18 | r18 | y18=>kernel_rfl
     case q18=>exact fun _ _ _ h=>h
     case z18=>(intro w' hSw;(try dsimp only at hSw);go_simp;(try with_reducible rfl))
     case h18=>exact hH1
     refine wpAnyH_ready (rs:=[11]) (by kernel_rfl) (by simp) ?_
     refine AllReadyH.cons rfl (fun KK hK=>?_) AllReadyH.nil
     go_simp
     refine (HK2.out w9 HB9.out).mono ?_
     rintro e w10 ⟨r2,rfl,hr2,hb10⟩
     have HB10:=Lib.hid (HB9.out.trans (hb10.mono HB9.out.size))
     have hr2 : r2 = true:=hr2 (QA.out.resolve_left fun e=>by have:=HR1.out e;cases this)
     subst hr2
     have hS3:=HSS.out w10 HB10.out
     refine hK.out _ _ hS3 (fun hH2=>?_)
     clear hK KK hH1 HK2 hb10
     refine wpAnyH_take (i:=12) (v:=?v19) rfl ?s19 ?f19 ?r19 ?q19 (Or.inl ⟨?y19,?z19⟩) ?h19 ?k19
     case s19 | f19 | r19 | y19=>kernel_rfl
     case q19=>exact fun _ _ _ h=>h
     case z19=>(intro w' hSw;(try dsimp only at hSw);go_simp;(try with_reducible rfl))
     case h19=>exact hH2
     refine wpAnyH_take (i:=13) (v:=?v20) rfl ?s20 ?f20 ?r20 ?q20 (Or.inl ⟨?y20,?z20⟩) ?h20 ?k20
     case s20 | f20 | r20 | y20=>kernel_rfl
     case q20=>exact fun _ _ _ h=>h
     case z20=>(intro w' hSw;(try dsimp only at hSw);go_simp;(try with_reducible rfl))
     case h20=>exact hH2
     refine wpAnyH_take (i:=14) (v:=?v21) rfl ?s21 ?f21 ?r21 ?q21 (Or.inl ⟨?y21,?z21⟩) ?h21 ?k21
     case s21 | f21 | r21 | y21=>kernel_rfl
     case q21=>exact fun _ _ _ h=>h
     case z21=>(intro w' hSw;(try dsimp only at hSw);go_simp;(try with_reducible rfl))
     case h21=>exact hH2
     have hq10:=((HBD.out.trans ((HB10.out).mono HBD.out.size)).block _ l3).trans HR8.out
     have o0:=cell_of_heap (i:=0) hq10
     have o1:=cell_of_heap (i:=1) hq10
     have o2:=cell_of_heap (i:=2) hq10
     have oz0 : w10.frozen? ⟨(w.heap.size + 3),0,none⟩ = false:=frozen_of_heap hq10
     have oz1 : w10.frozen? ⟨(w.heap.size + 3),1,none⟩ = false:=frozen_of_heap hq10
     have oz2 : w10.frozen? ⟨(w.heap.size + 3),2,none⟩ = false:=frozen_of_heap hq10
     have hU12:=upd_putK w10 (w.heap.size + 3) (.bool A.base.isSome) (.string (bs (A.base.getD []))) (.slice a7 A.bats.length c7)
     have hk12:=heap_putK hq10 (.bool A.base.isSome) (.string (bs (A.base.getD []))) (.slice a7 A.bats.length c7)
     obtain ⟨w12,hw120⟩ : ∃ w12,putK w10 (w.heap.size + 3) (.bool A.base.isSome) (.string (bs (A.base.getD []))) (.slice a7 A.bats.length c7) = w12:=⟨_,rfl⟩
     rw [hw120] at hU12 hk12
     have hw12 : ((w10.setCell ⟨(w.heap.size + 3),0,none⟩ (.bool A.base.isSome)).setCell ⟨(w.heap.size + 3),1,none⟩ (.string (bs (A.base.getD [])))).setCell ⟨(w.heap.size + 3),2,none⟩ (.slice a7 A.bats.length c7) = w12:=hw120
     clear hw120
     have hS2 : ((w12.cell? ⟨w7.heap.size,0,none⟩ = some (.bool A.base.isSome) ∧ w12.cell? ⟨w7.heap.size,1,none⟩ = some (.string (bs (A.base.getD []))) ∧ w12.cell? ⟨w7.heap.size,2,none⟩ = some (.slice a7 A.bats.length c7)) ∧ (w12.cell? ⟨(w.heap.size + 1),0,none⟩ = some (.bool K.base.isSome) ∧ w12.cell? ⟨(w.heap.size + 1),1,none⟩ = some (.string (bs (K.base.getD []))) ∧ w12.cell? ⟨(w.heap.size + 1),2,none⟩ = some (.slice a1 K.bats.length c1)) ∧ (w12.cell? ⟨(w.heap.size + 2),0,none⟩ = some (.bool K'.base.isSome) ∧ w12.cell? ⟨(w.heap.size + 2),1,none⟩ = some (.string (bs (K'.base.getD []))) ∧ w12.cell? ⟨(w.heap.size + 2),2,none⟩ = some (.slice a2 K'.bats.length c2))):=by
      have h12:=fun k (hk : k < w10.heap.size) (hn : k ≠ w.heap.size + 3)=>hU12.block k hk (fun hm=>hn (List.mem_singleton.1 hm))
      have hb2 : Below w8.heap.size w8 w10:=HBD.out.trans ((HB10.out).mono HBD.out.size)
      have hz2:=hb2.size
      exact ⟨three_of ((h12 _ (by omega) (by omega)).trans ((hb2.block _ l7).trans HX8.out)),three_of ((h12 _ (by omega) (by omega)).trans ((hb2.block _ l1).trans HY8.out)),three_of ((h12 _ (by omega) (by omega)).trans ((hb2.block _ l2).trans HZ8.out))⟩
     refine wpAnyH_ready (rs:=[15]) (by kernel_rfl) (by simp) ?_
     refine AllReadyH.cons rfl (fun KK hK=>?_) AllReadyH.nil
     go_simp
     try rw [hw12]
     refine hK.out _ _ hS2 (fun hH3=>?_)
     clear hK KK hH2
     refine wpAnyH_take (i:=16) (v:=?v22) rfl ?s22 ?f22 ?r22 ?q22 (Or.inl ⟨?y22,?z22⟩) ?h22 ?k22
     case s22 | f22 | r22 | y22=>kernel_rfl
     case q22=>exact fun _ _ _ h=>h
     case z22=>(intro w' hSw;(try dsimp only at hSw);go_simp;(try with_reducible rfl))
     case h22=>exact hH3
     refine wpAnyH_done (by kernel_rfl) ?_ _
     have hEND:=HAL.out w10 (HB8.out.trans ((HBD.out.trans ((HB10.out).mono HBD.out.size)).mono HB8.out.size)) _ _ _ _ _ _ hq10 (.bool A.base.isSome) (.string (bs (A.base.getD []))) (.slice a7 A.bats.length c7)
     rw [show putK w10 (w.heap.size + 3) (.bool A.base.isSome) (.string (bs (A.base.getD []))) (.slice a7 A.bats.length c7) = w12 from hw12] at hEND
     have HEND:=Lib.hid hEND
     have HRS:=Lib.hid (three_of hk12)
     clear o0 oz0 o1 oz1 o2 oz2
     clear hEND hU12 hk12 hw12 hS2 hH3 hq10 HAL HSS HX8 HY8 HZ8 HR8
     go_wp2_with fail
     refine bodyPost_ret (results_again rfl _ _ (w.heap.size + 3) _ _ _ rfl HRS.out) rfl ?_
     exact HEND.out
   ·have hb8 : Below w7.heap.size w7 (w7.alloc (.cells #[.bool false,.string ⟨#[]⟩,.slice none 0 0] 51)):=(Below.refl _ w7).alloc (Nat.le_refl _) _
    have HI8:=Lib.hid (show AgI w4 L d m n G K K' (w7.alloc (.cells #[.bool false,.string ⟨#[]⟩,.slice none 0 0] 51)) L7 st7 (j + 1) from ⟨hD7.keep fun k hk=>hb8.block k (hD7.lt k hk),(HU6.out.trans hU7).trans (Upd.of_below hb8),hok7.mono (by omega),fun ks' t'=>⟨(hi7 ks' t').1.trans Q4.out,by
     rcases QA.out with e | e
     ·rw [← e];exact .inl (hi7 ks' t').2
     ·rw [← e];exact .inr (hi7 ks' t').2⟩⟩)
    clear hb8 hD7 hU7 hi7 hok7 hu7 HOP HU6 Q1 Q2 Q3 Q4 Q5 QA
    go_wp2_with fail
    go_roundw
    case rel=>exact ⟨j + 1,L7,st7,by omega,by go_num,HI8⟩
    case measure=>simp [intOf];omega
  ·have HOP:=Lib.hid (open_calm L5 d (n + 600 * j) (cr str ks tear) w5 HD5.out Q1.out (by omega) Q2.out Q3.out A G Q5.out)
   have HU6:=HU5
   clear HD5 HU5
   go_wp2_with fail
   refine HOP.out.mono ?_
   rintro e w7 ⟨st7,lg7,hs7,hok7,hu7,⟨b7,L7,a7,c7,rfl,hn7,hbt7,hls7,hU7,hbig7⟩,hr7,hg7,hm7⟩
   have hs7 : st7.S.length = m:=hs7.trans Q4.out
   obtain ⟨w6,hw6⟩ : ∃ w6,w5 = w6:=⟨_,rfl⟩
   subst hw6
   simp only [keptV]
   have hb8 : Below w7.heap.size w7 (w7.alloc (.cells #[.bool A.base.isSome,.string (bs (A.base.getD [])),.slice a7 A.bats.length c7] 51)):=(Below.refl _ w7).alloc (Nat.le_refl _) _
   have hx8:=heap_alloc_new w7 (.cells #[.bool A.base.isSome,.string (bs (A.base.getD [])),.slice a7 A.bats.length c7] 51)
   obtain ⟨w8,hw8⟩ : ∃ w8,w7.alloc (.cells #[.bool A.base.isSome,.string (bs (A.base.getD [])),.slice a7 A.bats.length c7] 51) = w8:=⟨_,rfl⟩
   rw [hw8] at hb8 hx8
   have hU7a:=HU6.out.trans hU7
   have hU8:=hU7a.trans (Upd.of_below hb8)
   have hy8:=upd_blk hU8 HNW.out (by omega) (HNL.out 1)
   have hz8:=upd_blk hU8 HMB.out (by omega) (HNL.out 2)
   have hr8:=upd_blk hU8 HRC.out (by omega) (HNL.out 3)
   have h47:=hU7a.size
   have h46:=HU6.out.size
   have h67:=hU7.size
   have h78:=hb8.size
   have l7:=heap_lt hx8
   have l1:=heap_lt hy8
   have l2:=heap_lt hz8
   have l3:=heap_lt hr8
   have HX8:=Lib.hid hx8;have HY8:=Lib.hid hy8;have HZ8:=Lib.hid hz8;have HR8:=Lib.hid hr8
   have HQ1:=Lib.hid ((HB1.out.upd hU8).at);have HQ2:=Lib.hid ((HB2.out.upd hU8).at)
   have HQA:=Lib.hid ((hbt7.upd (Upd.of_below hb8)).at)
   have hcnt : A.bats.length ≤ 1000000000:=by
    have:=hr7.num
    have:=(fit_nums hr7.live.good.fit).2.2.1
    omega
   have HAL:=Lib.hid (fun (wz : World) (hb : Below w7.heap.size w7 wz) (b1 : Bool) (s2 : ByteArray) (a3 : Option Addr) (n3 c3 : Nat) (T : TypeId) hq v0 v1 v2=>ag_end (n:=n) (K:=K) (K':=K') (b1:=b1) (s2:=s2) (a3:=a3) (n3:=n3) (c3:=c3) (T:=T) HB4.out hs4 HLT.out hU7a h46 h67 hb hbt7 hls7 hbig7 hq QA.out hn7 hr7 hg7 hm7 hs7 (hok7.mono (by omega)) v0 v1 v2)
   have HB8:=Lib.hid hb8
   clear hn7 hbt7 hls7 hU7 hbig7 hr7 hg7 hm7 hok7 hu7 hb8 hx8 hy8 hz8 hr8 hU8 hU7a HOP HU6 Q1 Q2 Q3 Q4 Q5 h47 hs7 HLT HB4 HNW HMB HRC HNL HA HKS HKF HB1 HB2
   obtain ⟨wd,hwd⟩ : ∃ wd,w8.drew = wd:=⟨_,rfl⟩
   have hbd : Below w8.heap.size w8 w8.drew:=(Below.refl _ w8).drew
   have hsd : w8.drew.heap.size = w8.heap.size:=rfl
   rw [hwd] at hbd hsd
   have HBD:=Lib.hid hbd
   have HSS:=Lib.hid (show ∀ wz,Below wd.heap.size wd wz → ((wz.cell? ⟨w7.heap.size,0,none⟩ = some (.bool A.base.isSome) ∧ wz.cell? ⟨w7.heap.size,1,none⟩ = some (.string (bs (A.base.getD []))) ∧ wz.cell? ⟨w7.heap.size,2,none⟩ = some (.slice a7 A.bats.length c7)) ∧ (wz.cell? ⟨(w.heap.size + 1),0,none⟩ = some (.bool K.base.isSome) ∧ wz.cell? ⟨(w.heap.size + 1),1,none⟩ = some (.string (bs (K.base.getD []))) ∧ wz.cell? ⟨(w.heap.size + 1),2,none⟩ = some (.slice a1 K.bats.length c1)) ∧ (wz.cell? ⟨(w.heap.size + 2),0,none⟩ = some (.bool K'.base.isSome) ∧ wz.cell? ⟨(w.heap.size + 2),1,none⟩ = some (.string (bs (K'.base.getD []))) ∧ wz.cell? ⟨(w.heap.size + 2),2,none⟩ = some (.slice a2 K'.bats.length c2))) from fun wz hb=>by
    have hb2 : Below w8.heap.size w8 wz:=HBD.out.trans (hb.mono HBD.out.size)
    exact ⟨three_of ((hb2.block _ l7).trans HX8.out),three_of ((hb2.block _ l1).trans HY8.out),three_of ((hb2.block _ l2).trans HZ8.out)⟩)
   have HK1:=Lib.hid (sameKept_any A.base.isSome K.base.isSome (bs (A.base.getD [])) (bs (K.base.getD [])) a7 a1 A.bats.length c7 K.bats.length c1 A.bats K.bats wd (HQA.out.keep HBD.out) (HQ1.out.keep HBD.out) (by omega) (by omega) (A = K) (fun e=>by subst e;exact ⟨rfl,rfl,rfl⟩))
   have HK2:=Lib.hid (fun wz (hb : Below wd.heap.size wd wz)=>sameKept_any A.base.isSome K'.base.isSome (bs (A.base.getD [])) (bs (K'.base.getD [])) a7 a2 A.bats.length c7 K'.bats.length c2 A.bats K'.bats wz ((HQA.out.keep HBD.out).keep hb) ((HQ2.out.keep HBD.out).keep hb) (by omega) (by omega) (A = K') (fun e=>by subst e;exact ⟨rfl,rfl,rfl⟩))
   have hS0:=HSS.out wd (Below.refl _ wd)
   clear HQ1 HQ2 HQA hbd
   go_wp2_with fail
   try rw [hw8]
   clear hw8
   refine wp_region_held_drew (S:=(fun w'=>(w'.cell? ⟨w7.heap.size,0,none⟩ = some (.bool A.base.isSome) ∧ w'.cell? ⟨w7.heap.size,1,none⟩ = some (.string (bs (A.base.getD []))) ∧ w'.cell? ⟨w7.heap.size,2,none⟩ = some (.slice a7 A.bats.length c7)) ∧ (w'.cell? ⟨(w.heap.size + 1),0,none⟩ = some (.bool K.base.isSome) ∧ w'.cell? ⟨(w.heap.size + 1),1,none⟩ = some (.string (bs (K.base.getD []))) ∧ w'.cell? ⟨(w.heap.size + 1),2,none⟩ = some (.slice a1 K.bats.length c1)) ∧ (w'.cell? ⟨(w.heap.size + 2),0,none⟩ = some (.bool K'.base.isSome) ∧ w'.cell? ⟨(w.heap.size + 2),1,none⟩ = some (.string (bs (K'.base.getD []))) ∧ w'.cell? ⟨(w.heap.size + 2),2,none⟩ = some (.slice a2 K'.bats.length c2)))) (by kernel_rfl) (by rw [hwd];exact hS0) (fun hH0=>?_)
   rw [hwd] at hH0 ⊢
   clear hwd hS0
   refine wpAnyH_take (i:=0) (v:=?v23) rfl ?s23 ?f23 ?r23 ?q23 (Or.inl ⟨?y23,?z23⟩) ?h23 ?k23
   case s23 | f23 | r23 | y23=>kernel_rfl
   case q23=>exact fun _ _ _ h=>h
   case z23=>(intro w' hSw;(try dsimp only at hSw);go_simp;(try with_reducible rfl))
   case h23=>exact hH0
   refine wpAnyH_take (i:=1) (v:=?v24) rfl ?s24 ?f24 ?r24 ?q24 (Or.inl ⟨?y24,?z24⟩) ?h24 ?k24
   case s24 | f24 | r24 | y24=>kernel_rfl
   case q24=>exact fun _ _ _ h=>h
   case z24=>(intro w' hSw;(try dsimp only at hSw);go_simp;(try with_reducible rfl))
   case h24=>exact hH0
   refine wpAnyH_take (i:=2) (v:=?v25) rfl ?s25 ?f25 ?r25 ?q25 (Or.inl ⟨?y25,?z25⟩) ?h25 ?k25
   case s25 | f25 | r25 | y25=>kernel_rfl
   case q25=>exact fun _ _ _ h=>h
   case z25=>(intro w' hSw;(try dsimp only at hSw);go_simp;(try with_reducible rfl))
   case h25=>exact hH0
   refine wpAnyH_take (i:=3) (v:=?v26) rfl ?s26 ?f26 ?r26 ?q26 (Or.inl ⟨?y26,?z26⟩) ?h26 ?k26
   case s26 | f26 | r26 | y26=>kernel_rfl
   case q26=>exact fun _ _ _ h=>h
   case z26=>(intro w' hSw;(try dsimp only at hSw);go_simp;(try with_reducible rfl))
   case h26=>exact hH0
   refine wpAnyH_take (i:=4) (v:=?v27) rfl ?s27 ?f27 ?r27 ?q27 (Or.inl ⟨?y27,?z27⟩) ?h27 ?k27
   case s27 | f27 | r27 | y27=>kernel_rfl
   case q27=>exact fun _ _ _ h=>h
   case z27=>(intro w' hSw;(try dsimp only at hSw);go_simp;(try with_reducible rfl))
   case h27=>exact hH0
   refine wpAnyH_take (i:=5) (v:=?v28) rfl ?s28 ?f28 ?r28 ?q28 (Or.inl ⟨?y28,?z28⟩) ?h28 ?k28
   case s28 | f28 | r28 | y28=>kernel_rfl
   case q28=>exact fun _ _ _ h=>h
   case z28=>(intro w' hSw;(try dsimp only at hSw);go_simp;(try with_reducible rfl))
   case h28=>exact hH0
   refine wpAnyH_take (i:=6) (v:=?v29) rfl ?s29 ?f29 ?r29 ?q29 (Or.inl ⟨?y29,?z29⟩) ?h29 ?k29
   case s29 | f29 | r29 | y29=>kernel_rfl
   case q29=>exact fun _ _ _ h=>h
   case z29=>(intro w' hSw;(try dsimp only at hSw);go_simp;(try with_reducible rfl))
   case h29=>exact hH0
   refine wpAnyH_ready (rs:=[7]) (by kernel_rfl) (by simp) ?_
   refine AllReadyH.cons rfl (fun KK hK=>?_) AllReadyH.nil
   go_simp
   refine HK1.out.mono ?_
   rintro e w9 ⟨r1,rfl,hr1,hb9⟩
   have HB9:=Lib.hid hb9
   have HR1:=Lib.hid hr1
   have hS1:=HSS.out w9 hb9
   refine hK.out _ _ hS1 (fun hH1=>?_)
   clear hK KK hH0 HK1 hb9 hr1
   cases r1 with
   | true =>
    clear HK2
    refine wpAnyH_take (i:=8) (v:=?v30) rfl ?s30 ?f30 ?r30 ?q30 (Or.inl ⟨?y30,?z30⟩) ?h30 ?k30
    case s30 | f30 | r30 | y30=>kernel_rfl
    case q30=>exact fun _ _ _ h=>h
    case z30=>(intro w' hSw;(try dsimp only at hSw);go_simp;(try with_reducible rfl))
    case h30=>exact hH1
    refine wpAnyH_take (i:=9) (v:=undef) rfl ?s31 ?f31 ?r31 ?q31 (Or.inr ⟨?y31,rfl⟩) ?h31 ?k31
    case s31 | f31 | r31 | y31=>kernel_rfl
    case q31=>exact fun _ _ _ h=>h
    case h31=>exact hH1
    refine wpAnyH_take (i:=10) (v:=undef) rfl ?s32 ?f32 ?r32 ?q32 (Or.inr ⟨?y32,rfl⟩) ?h32 ?k32
    case s32 | f32 | r32 | y32=>kernel_rfl
    case q32=>exact fun _ _ _ h=>h
    case h32=>exact hH1
    refine wpAnyH_take (i:=11) (v:=undef) rfl ?s33 ?f33 ?r33 ?q33 (Or.inr ⟨?y33,rfl⟩) ?h33 ?k33
    case s33 | f33 | r33 | y33=>kernel_rfl
    case q33=>exact fun _ _ _ h=>h
    case h33=>exact hH1
    refine wpAnyH_take (i:=12) (v:=?v34) rfl ?s34 ?f34 ?r34 ?q34 (Or.inl ⟨?y34,?z34⟩) ?h34 ?k34
    case s34 | f34 | r34 | y34=>kernel_rfl
    case q34=>exact fun _ _ _ h=>h
    case z34=>(intro w' hSw;(try dsimp only at hSw);go_simp;(try with_reducible rfl))
    case h34=>exact hH1
    refine wpAnyH_take (i:=13) (v:=?v35) rfl ?s35 ?f35 ?r35 ?q35 (Or.inl ⟨?y35,?z35⟩) ?h35 ?k35
    case s35 | f35 | r35 | y35=>kernel_rfl
    case q35=>exact fun _ _ _ h=>h
    case z35=>(intro w' hSw;(try dsimp only at hSw);go_simp;(try with_reducible rfl))
    case h35=>exact hH1
    refine wpAnyH_take (i:=14) (v:=?v36) rfl ?s36 ?f36 ?r36 ?q36 (Or.inl ⟨?y36,?z36⟩) ?h36 ?k36
    case s36 | f36 | r36 | y36=>kernel_rfl
    case q36=>exact fun _ _ _ h=>h
    case z36=>(intro w' hSw;(try dsimp only at hSw);go_simp;(try with_reducible rfl))
    case h36=>exact hH1
    have hq10:=((HBD.out.trans ((HB9.out).mono HBD.out.size)).block _ l3).trans HR8.out
    have o0:=cell_of_heap (i:=0) hq10
    have o1:=cell_of_heap (i:=1) hq10
    have o2:=cell_of_heap (i:=2) hq10
    have oz0 : w9.frozen? ⟨(w.heap.size + 3),0,none⟩ = false:=frozen_of_heap hq10
    have oz1 : w9.frozen? ⟨(w.heap.size + 3),1,none⟩ = false:=frozen_of_heap hq10
    have oz2 : w9.frozen? ⟨(w.heap.size + 3),2,none⟩ = false:=frozen_of_heap hq10
    have hU12:=upd_putK w9 (w.heap.size + 3) (.bool A.base.isSome) (.string (bs (A.base.getD []))) (.slice a7 A.bats.length c7)
    have hk12:=heap_putK hq10 (.bool A.base.isSome) (.string (bs (A.base.getD []))) (.slice a7 A.bats.length c7)
    obtain ⟨w12,hw120⟩ : ∃ w12,putK w9 (w.heap.size + 3) (.bool A.base.isSome) (.string (bs (A.base.getD []))) (.slice a7 A.bats.length c7) = w12:=⟨_,rfl⟩
    rw [hw120] at hU12 hk12
    have hw12 : ((w9.setCell ⟨(w.heap.size + 3),0,none⟩ (.bool A.base.isSome)).setCell ⟨(w.heap.size + 3),1,none⟩ (.string (bs (A.base.getD [])))).setCell ⟨(w.heap.size + 3),2,none⟩ (.slice a7 A.bats.length c7) = w12:=hw120
    clear hw120
    have hS2 : ((w12.cell? ⟨w7.heap.size,0,none⟩ = some (.bool A.base.isSome) ∧ w12.cell? ⟨w7.heap.size,1,none⟩ = some (.string (bs (A.base.getD []))) ∧ w12.cell? ⟨w7.heap.size,2,none⟩ = some (.slice a7 A.bats.length c7)) ∧ (w12.cell? ⟨(w.heap.size + 1),0,none⟩ = some (.bool K.base.isSome) ∧ w12.cell? ⟨(w.heap.size + 1),1,none⟩ = some (.string (bs (K.base.getD []))) ∧ w12.cell? ⟨(w.heap.size + 1),2,none⟩ = some (.slice a1 K.bats.length c1)) ∧ (w12.cell? ⟨(w.heap.size + 2),0,none⟩ = some (.bool K'.base.isSome) ∧ w12.cell? ⟨(w.heap.size + 2),1,none⟩ = some (.string (bs (K'.base.getD []))) ∧ w12.cell? ⟨(w.heap.size + 2),2,none⟩ = some (.slice a2 K'.bats.length c2))):=by
     have h12:=fun k (hk : k < w9.heap.size) (hn : k ≠ w.heap.size + 3)=>hU12.block k hk (fun hm=>hn (List.mem_singleton.1 hm))
     have hb2 : Below w8.heap.size w8 w9:=HBD.out.trans ((HB9.out).mono HBD.out.size)
     have hz2:=hb2.size
     exact ⟨three_of ((h12 _ (by omega) (by omega)).trans ((hb2.block _ l7).trans HX8.out)),three_of ((h12 _ (by omega) (by omega)).trans ((hb2.block _ l1).trans HY8.out)),three_of ((h12 _ (by omega) (by omega)).trans ((hb2.block _ l2).trans HZ8.out))⟩
    refine wpAnyH_ready (rs:=[15]) (by kernel_rfl) (by simp) ?_
    refine AllReadyH.cons rfl (fun KK hK=>?_) AllReadyH.nil
    go_simp
    try rw [hw12]
    refine hK.out _ _ hS2 (fun hH3=>?_)
    clear hK KK hH1
    refine wpAnyH_take (i:=16) (v:=?v37) rfl ?s37 ?f37 ?r37 ?q37 (Or.inl ⟨?y37,?z37⟩) ?h37 ?k37
    case s37 | f37 | r37 | y37=>kernel_rfl
    case q37=>exact fun _ _ _ h=>h
    case z37=>(intro w' hSw;(try dsimp only at hSw);go_simp;(try with_reducible rfl))
    case h37=>exact hH3
    refine wpAnyH_done (by kernel_rfl) ?_ _
    have hEND:=HAL.out w9 (HB8.out.trans ((HBD.out.trans ((HB9.out).mono HBD.out.size)).mono HB8.out.size)) _ _ _ _ _ _ hq10 (.bool A.base.isSome) (.string (bs (A.base.getD []))) (.slice a7 A.bats.length c7)
    rw [show putK w9 (w.heap.size + 3) (.bool A.base.isSome) (.string (bs (A.base.getD []))) (.slice a7 A.bats.length c7) = w12 from hw12] at hEND
    have HEND:=Lib.hid hEND
    have HRS:=Lib.hid (three_of hk12)
    clear o0 oz0 o1 oz1 o2 oz2
    clear hEND hU12 hk12 hw12 hS2 hH3 hq10 HAL HSS HX8 HY8 HZ8 HR8
    go_wp2_with fail
    refine bodyPost_ret (results_again rfl _ _ (w.heap.size + 3) _ _ _ rfl HRS.out) rfl ?_
    exact HEND.out
   | false =>
    refine wpAnyH_take (i:=8) (v:=?v38) rfl ?s38 ?f38 ?r38 ?q38 (Or.inl ⟨?y38,?z38⟩) ?h38 ?k38
    case s38 | f38 | r38 | y38=>kernel_rfl
    case q38=>exact fun _ _ _ h=>h
    case z38=>(intro w' hSw;(try dsimp only at hSw);go_simp;(try with_reducible rfl))
    case h38=>exact hH1
    refine wpAnyH_take (i:=9) (v:=?v39) rfl ?s39 ?f39 ?r39 ?q39 (Or.inl ⟨?y39,?z39⟩) ?h39 ?k39
    case s39 | f39 | r39 | y39=>kernel_rfl
    case q39=>exact fun _ _ _ h=>h
    case z39=>(intro w' hSw;(try dsimp only at hSw);go_simp;(try with_reducible rfl))
    case h39=>exact hH1
    refine wpAnyH_take (i:=10) (v:=?v40) rfl ?s40 ?f40 ?r40 ?q40 (Or.inl ⟨?y40,?z40⟩) ?h40 ?k40
    case s40 | f40 | r40 | y40=>kernel_rfl
    case q40=>exact fun _ _ _ h=>h
    case z40=>(intro w' hSw;(try dsimp only at hSw);go_simp;(try with_reducible rfl))
    case h40=>exact hH1
    refine wpAnyH_ready (rs:=[11]) (by kernel_rfl) (by simp) ?_
    refine AllReadyH.cons rfl (fun KK hK=>?_) AllReadyH.nil
    go_simp
    refine (HK2.out w9 HB9.out).mono ?_
    rintro e w10 ⟨r2,rfl,hr2,hb10⟩
    have HB10:=Lib.hid (HB9.out.trans (hb10.mono HB9.out.size))
    have hr2 : r2 = true:=hr2 (QA.out.resolve_left fun e=>by have:=HR1.out e;cases this)
    subst hr2
    have hS3:=HSS.out w10 HB10.out
    refine hK.out _ _ hS3 (fun hH2=>?_)
    clear hK KK hH1 HK2 hb10
    refine wpAnyH_take (i:=12) (v:=?v41) rfl ?s41 ?f41 ?r41 ?q41 (Or.inl ⟨?y41,?z41⟩) ?h41 ?k41
    case s41 | f41 | r41 | y41=>kernel_rfl
    case q41=>exact fun _ _ _ h=>h
    case z41=>(intro w' hSw;(try dsimp only at hSw);go_simp;(try with_reducible rfl))
    case h41=>exact hH2
    refine wpAnyH_take (i:=13) (v:=?v42) rfl ?s42 ?f42 ?r42 ?q42 (Or.inl ⟨?y42,?z42⟩) ?h42 ?k42
    case s42 | f42 | r42 | y42=>kernel_rfl
    case q42=>exact fun _ _ _ h=>h
    case z42=>(intro w' hSw;(try dsimp only at hSw);go_simp;(try with_reducible rfl))
    case h42=>exact hH2
    refine wpAnyH_take (i:=14) (v:=?v43) rfl ?s43 ?f43 ?r43 ?q43 (Or.inl ⟨?y43,?z43⟩) ?h43 ?k43
    case s43 | f43 | r43 | y43=>kernel_rfl
    case q43=>exact fun _ _ _ h=>h
    case z43=>(intro w' hSw;(try dsimp only at hSw);go_simp;(try with_reducible rfl))
    case h43=>exact hH2
    have hq10:=((HBD.out.trans ((HB10.out).mono HBD.out.size)).block _ l3).trans HR8.out
    have o0:=cell_of_heap (i:=0) hq10
    have o1:=cell_of_heap (i:=1) hq10
    have o2:=cell_of_heap (i:=2) hq10
    have oz0 : w10.frozen? ⟨(w.heap.size + 3),0,none⟩ = false:=frozen_of_heap hq10
    have oz1 : w10.frozen? ⟨(w.heap.size + 3),1,none⟩ = false:=frozen_of_heap hq10
    have oz2 : w10.frozen? ⟨(w.heap.size + 3),2,none⟩ = false:=frozen_of_heap hq10
    have hU12:=upd_putK w10 (w.heap.size + 3) (.bool A.base.isSome) (.string (bs (A.base.getD []))) (.slice a7 A.bats.length c7)
    have hk12:=heap_putK hq10 (.bool A.base.isSome) (.string (bs (A.base.getD []))) (.slice a7 A.bats.length c7)
    obtain ⟨w12,hw120⟩ : ∃ w12,putK w10 (w.heap.size + 3) (.bool A.base.isSome) (.string (bs (A.base.getD []))) (.slice a7 A.bats.length c7) = w12:=⟨_,rfl⟩
    rw [hw120] at hU12 hk12
    have hw12 : ((w10.setCell ⟨(w.heap.size + 3),0,none⟩ (.bool A.base.isSome)).setCell ⟨(w.heap.size + 3),1,none⟩ (.string (bs (A.base.getD [])))).setCell ⟨(w.heap.size + 3),2,none⟩ (.slice a7 A.bats.length c7) = w12:=hw120
    clear hw120
    have hS2 : ((w12.cell? ⟨w7.heap.size,0,none⟩ = some (.bool A.base.isSome) ∧ w12.cell? ⟨w7.heap.size,1,none⟩ = some (.string (bs (A.base.getD []))) ∧ w12.cell? ⟨w7.heap.size,2,none⟩ = some (.slice a7 A.bats.length c7)) ∧ (w12.cell? ⟨(w.heap.size + 1),0,none⟩ = some (.bool K.base.isSome) ∧ w12.cell? ⟨(w.heap.size + 1),1,none⟩ = some (.string (bs (K.base.getD []))) ∧ w12.cell? ⟨(w.heap.size + 1),2,none⟩ = some (.slice a1 K.bats.length c1)) ∧ (w12.cell? ⟨(w.heap.size + 2),0,none⟩ = some (.bool K'.base.isSome) ∧ w12.cell? ⟨(w.heap.size + 2),1,none⟩ = some (.string (bs (K'.base.getD []))) ∧ w12.cell? ⟨(w.heap.size + 2),2,none⟩ = some (.slice a2 K'.bats.length c2))):=by
     have h12:=fun k (hk : k < w10.heap.size) (hn : k ≠ w.heap.size + 3)=>hU12.block k hk (fun hm=>hn (List.mem_singleton.1 hm))
     have hb2 : Below w8.heap.size w8 w10:=HBD.out.trans ((HB10.out).mono HBD.out.size)
     have hz2:=hb2.size
     exact ⟨three_of ((h12 _ (by omega) (by omega)).trans ((hb2.block _ l7).trans HX8.out)),three_of ((h12 _ (by omega) (by omega)).trans ((hb2.block _ l1).trans HY8.out)),three_of ((h12 _ (by omega) (by omega)).trans ((hb2.block _ l2).trans HZ8.out))⟩
    refine wpAnyH_ready (rs:=[15]) (by kernel_rfl) (by simp) ?_
    refine AllReadyH.cons rfl (fun KK hK=>?_) AllReadyH.nil
    go_simp
    try rw [hw12]
    refine hK.out _ _ hS2 (fun hH3=>?_)
    clear hK KK hH2
    refine wpAnyH_take (i:=16) (v:=?v44) rfl ?s44 ?f44 ?r44 ?q44 (Or.inl ⟨?y44,?z44⟩) ?h44 ?k44
    case s44 | f44 | r44 | y44=>kernel_rfl
    case q44=>exact fun _ _ _ h=>h
    case z44=>(intro w' hSw;(try dsimp only at hSw);go_simp;(try with_reducible rfl))
    case h44=>exact hH3
    refine wpAnyH_done (by kernel_rfl) ?_ _
    have hEND:=HAL.out w10 (HB8.out.trans ((HBD.out.trans ((HB10.out).mono HBD.out.size)).mono HB8.out.size)) _ _ _ _ _ _ hq10 (.bool A.base.isSome) (.string (bs (A.base.getD []))) (.slice a7 A.bats.length c7)
    rw [show putK w10 (w.heap.size + 3) (.bool A.base.isSome) (.string (bs (A.base.getD []))) (.slice a7 A.bats.length c7) = w12 from hw12] at hEND
    have HEND:=Lib.hid hEND
    have HRS:=Lib.hid (three_of hk12)
    clear o0 oz0 o1 oz1 o2 oz2
    clear hEND hU12 hk12 hw12 hS2 hH3 hq10 HAL HSS HX8 HY8 HZ8 HR8
    go_wp2_with fail
    refine bodyPost_ret (results_again rfl _ _ (w.heap.size + 3) _ _ _ rfl HRS.out) rfl ?_
    exact HEND.out
end Go.Proofs.YtnnakhdndmjmiaaGreat.Wal
/-
 The walk of WalSure: any acts.
-/
set_option linter.unusedVariables false
set_option maxRecDepth 4000
namespace Go.Proofs.YtnnakhdndmjmiaaGreat.Wal
open Go.RowKit DiskP SegsP WalP Disk
open Ints (IntsAt IntsAt.keep)
theorem Sat.env2 {w wr w' : World} {b d : Nat} {L F : List Nat} {lg : Lg} {st : St} {D : Bool} {G : Int} {m n : Nat} {K K' K2 : Kept} {e : Ending} (h : Env w wr b d L lg st F) (g : Sat wr L b d D G m n lg st K K' K2 e w') :
  ∃ c lg2 st2 A A' D2 L',e = .returned (.int .i64 c) ∧ Env w w' b d L' lg2 st2 F ∧ (∀ k ∈ F,w'.heap[k]? = wr.heap[k]?) ∧ Upd (F ++ b :: L) wr w' (F ++ b :: L') ∧ Sit D2 (G + 1) m (n + 2000) lg2 st2 A A' ∧
  ((c = 0 ∧ D = false ∧ D2 = false ∧ A = K2 ∧ A' = K2) ∨ (c = 13 ∧ D = false ∧ D2 = true ∧ A = K ∧ A' = K2) ∨ (c = 13 ∧ D = true ∧ D2 = true ∧ A = K ∧ A' = K') ∨ (c = 1 ∧ D = false ∧ D2 = false ∧ A = K ∧ A' = K') ∨ (c = 4 ∧ D = false ∧ D2 = false ∧ A = K ∧ A' = K')):=by
 obtain ⟨c,lg2,st2,D2,A,A',ht,hs,hd,hk⟩:=g
 obtain ⟨rfl,L',h1,h2,h3⟩:=h.told ht
 refine ⟨c,lg2,st2,A,A',D2,L',rfl,h1,h2,h3,hs,?_⟩
 have hF : D2 = false → D = false:=fun e=>hd.elim (fun g=>g.trans e) id
 rcases hk with ⟨q1,q2,q3⟩ | ⟨q1,q2,q3,q4 | q4⟩ | ⟨q1,q2,q3⟩
 ·exact .inl ⟨q1,hF q2,q2,q3⟩
 ·exact .inr (.inl ⟨q1,q4.1,q2,q3,q4.2⟩)
 ·exact .inr (.inr (.inl ⟨q1,q4.1,q2,q3,q4.2⟩))
 ·rcases q1 with q1 | q1
  ·exact .inr (.inr (.inr (.inl ⟨q1,hF q2,q2,q3⟩)))
  ·exact .inr (.inr (.inr (.inr ⟨q1,hF q2,q2,q3⟩)))
theorem sub_two {k12 k11 k8 k6 B : Nat} {L : List Nat} : ∀ q ∈ k8 :: k6 :: B :: L,q ∈ [k12,k11,k8,k6] ++ B :: L:=fun q hq=>by
 show q ∈ k12 :: k11 :: k8 :: k6 :: B :: L
 exact List.mem_cons_of_mem _ (List.mem_cons_of_mem _ hq)
theorem sub_own {k12 k11 k8 k6 : Nat} : ∀ q ∈ [k8,k6],q ∈ [k12,k11,k8,k6]:=fun q hq=>List.mem_cons_of_mem _ (List.mem_cons_of_mem _ hq)
theorem Env.again {w wr w' : World} {b B d : Nat} {L L' F : List Nat} {lg lg' : Lg} {st st' : St} (h : Env w wr b d L lg st F) (hls : LS w' L' B d lg' st') (hU : Upd L wr w' L') (hB : wr.heap.size ≤ B) :
  Env w w' B d L' lg' st' F ∧ (∀ k ∈ F,w'.heap[k]? = wr.heap[k]?):=by
 have hs:=h.bel.size
 have hlow : ∀ k ∈ L,w.heap.size ≤ k:=fun k hk=>h.low k (List.mem_cons_of_mem _ hk)
 refine ⟨⟨hls,fun k hk=>?_,h.bel.trans (hU.below hlow hs),fun k hk=>⟨fun hm=>?_,(h.own k hk).2.1,by have:=(h.own k hk).2.2;have:=hU.size;omega⟩⟩,fun k hk=>hU.block k (h.own k hk).2.2 (fun hm=>(h.own k hk).1 (List.mem_cons_of_mem _ hm))⟩
 ·rcases List.mem_cons.1 hk with g | g
  ·omega
  ·exact (hU.sub k g).elim (hlow k) (fun g=>by omega)
 ·have:=(h.own k hk).2.2
  rcases List.mem_cons.1 hm with g | g
  ·omega
  ·rcases hU.sub k g with q | q
   ·exact (h.own k hk).1 (List.mem_cons_of_mem _ q)
   ·omega
theorem bats_again {w' : World} {B n : Nat} {L' F : List Nat} {a : Option Addr} {A : Kept} (h : BatsF w' (List.range n ++ B :: L') a A.bats.length A.bats) (hF : ∀ k ∈ F,k < n) : BatsF w' (F ++ B :: L') a A.bats.length A.bats :=
 h.less fun q hq=>by
  rcases List.mem_append.1 hq with g | g
  ·exact List.mem_append_left _ (List.mem_range.2 (hF q g))
  ·exact List.mem_append_right _ g
set_option maxHeartbeats 16000000 in
theorem walSure_walk (a : Option Addr) (len cap : Nat) (f : Nat → WAct) (w : World) (h : WActsAt w a len f) :
  Calls Tryz.prog 4 #[.slice a len cap] w fun e w'=>e = .returned (.bool true) ∧ Below w.heap.size w w':=by
 have HN:=Lib.hid (new_yes 42 w (by decide) (by decide))
 have HFEW:=Lib.hid (fun wz (hb : Below w.heap.size w wz)=>wfew_any a len cap 20 f wz (acts_keep h hb) (by decide))
 have HAW:=Lib.hid (fun wz (hb : Below w.heap.size w wz)=>awake_in hb)
 have HC:=Lib.hid h.2
 have hl:=h.1
 clear h
 go_enter Tryz.func4,Tryz.ntmps4
 go_wp2_with fail
 refine HN.out.mono ?_
 rintro e w1 ⟨d,L0,rfl,hD,hL0,hb1⟩
 have HB1:=Lib.hid hb1
 have HO:=Lib.hid (open_new L0 d 42 w1 (by omega) (by omega) hD)
 have HL0:=Lib.hid hL0
 clear HN hD hL0 hb1
 go_wp2_with fail
 refine (HFEW.out w1 HB1.out).mono ?_
 rintro e w1' ⟨r,rfl,hr,hw1'⟩
 subst hw1'
 have HFW:=Lib.hid hr
 clear hr HFEW
 cases r with
 | false =>
  go_wp2_with fail
  refine (HAW.out w1 HB1.out).mono ?_
  rintro e w2 ⟨rfl,hb2⟩
  have HB2:=Lib.hid hb2
  clear hb2 HAW
  go_wp2_with fail
  go_ret
  exact ⟨rfl,HB2.out⟩
 | true =>
  obtain ⟨hl25,hfw⟩:=HFW.out rfl
  have HFX:=Lib.hid hfw
  clear hfw HFW
  go_wp2_with fail
  refine HO.out.mono ?_
  rintro e w2 ⟨st0,⟨b,L,a1,c1,rfl,hn1,hbt1,hls1,hU1,hbig1⟩,hr1,hlen1,hu1,hok1⟩
  rw [show keptV ⟨none,[]⟩ a1 c1 = .agg #[.bool false,.string ⟨#[]⟩,.slice a1 0 c1] from rfl]
  have hs1:=HB1.out.size
  have e2 : Env w w2 b d L ⟨sup0,0,0,false⟩ st0 []:=⟨hls1,fun k hk=>by
   rcases List.mem_cons.1 hk with g | g
   ·omega
   ·exact (hU1.sub k g).elim (fun q=>by have:=HL0.out k q;omega) (fun q=>by omega),HB1.out.trans (hU1.below (fun k hk=>HL0.out k hk) hs1),fun k hk=>(by cases hk)⟩
  have hb3 : Below w2.heap.size w2 (w2.alloc (.cells #[.bool false,.string ⟨#[]⟩,.slice a1 0 c1] 51)):=(Below.refl _ w2).alloc (Nat.le_refl _) _
  have hk3:=heap_alloc_new w2 (.cells #[.bool false,.string ⟨#[]⟩,.slice a1 0 c1] 51)
  have hs3 : (w2.alloc (.cells #[.bool false,.string ⟨#[]⟩,.slice a1 0 c1] 51)).heap.size = w2.heap.size + 1:=by simp
  obtain ⟨w3,hw3⟩ : ∃ w3,w2.alloc (.cells #[.bool false,.string ⟨#[]⟩,.slice a1 0 c1] 51) = w3:=⟨_,rfl⟩
  rw [hw3] at hb3 hk3 hs3
  have e3:=e2.new (k:=w2.heap.size) hb3 (Nat.le_refl _) (by omega)
  have n3 : VarAt w3 (w2.heap.size :: b :: L) w2.heap.size ⟨none,[]⟩ a1 c1:=⟨hk3,hn1,⟨rfl,.inl rfl⟩⟩
  have hb4 : Below w3.heap.size w3 (w3.alloc (.cells #[.bool false,.string ⟨#[]⟩,.slice a1 0 c1] 51)):=(Below.refl _ w3).alloc (Nat.le_refl _) _
  have hk4:=heap_alloc_new w3 (.cells #[.bool false,.string ⟨#[]⟩,.slice a1 0 c1] 51)
  have hs4 : (w3.alloc (.cells #[.bool false,.string ⟨#[]⟩,.slice a1 0 c1] 51)).heap.size = w3.heap.size + 1:=by simp
  rw [hs3] at hk4
  obtain ⟨w4,hw4⟩ : ∃ w4,w3.alloc (.cells #[.bool false,.string ⟨#[]⟩,.slice a1 0 c1] 51) = w4:=⟨_,rfl⟩
  rw [hw4] at hb4 hk4 hs4
  have HE4:=Lib.hid (e3.new (k:=w2.heap.size + 1) hb4 (by omega) (by omega))
  have HN4:=Lib.hid ((n3.new (j:=w2.heap.size + 1) (by omega)).below hb4)
  have HM4:=Lib.hid (show VarAt w4 ((w2.heap.size + 1) :: w2.heap.size :: b :: L) (w2.heap.size + 1) ⟨none,[]⟩ a1 c1 from ⟨hk4,hn1,⟨rfl,.inl rfl⟩⟩)
  have HS4:=Lib.hid (show Sit false 1 42 10 ⟨sup0,0,0,false⟩ st0 ⟨none,[]⟩ ⟨none,[]⟩ from ⟨hok1,hlen1,fun _=>⟨hr1,by decide,by decide⟩,fun e=>by cases e⟩)
  have hne0 : w2.heap.size ≠ w2.heap.size + 1:=by omega
  have z0:=cell_of_heap (i:=0) hk3;have z1:=cell_of_heap (i:=1) hk3;have z2:=cell_of_heap (i:=2) hk3
  clear hn1 hbt1 hls1 hU1 hbig1 hr1 hlen1 hu1 hok1 e2 e3 n3 hb3 hb4 hk3 hk4 HO HB1 HL0 hs1
  go_wp2_with fail
  try rw [hw3]
  try rw [hw4]
  clear hw3 hw4 hs3 hs4 z0 z1 z2
  generalize w2.heap.size + 1 = k8 at *
  generalize w2.heap.size = k6 at *
  have HNE:=Lib.hid hne0
  clear hne0
  go_loopw [5,9,10] (fun l dd i wr => ∃ (j b : Nat) (L : List Nat) (lg : Lg) (st : St) (D : Bool) (K K' : Kept) (a3 : Option Addr) (c3 : Nat) (a4 : Option Addr) (c4 : Nat),j ≤ len ∧ l = .pointer (some ⟨b,0,none⟩) ∧ dd = .bool D ∧ i = .int .i64 (j : Int) ∧ Hid (Env w wr b d L lg st [k8,k6]) ∧ Hid (VarAt wr (k8 :: k6 :: b :: L) k6 K a3 c3) ∧ Hid (VarAt wr (k8 :: k6 :: b :: L) k8 K' a4 c4) ∧ Hid (Sit D ((j : Int) + 1) 42 (10 + 5000 * j) lg st K K') ∧ Hid (K.bats.length ≤ j ∧ K'.bats.length ≤ j)) (fun _ _ i _=>len - (intOf i).toNat)
  case atStart=>exact ⟨0,b,L,⟨sup0,0,0,false⟩,st0,false,⟨none,[]⟩,⟨none,[]⟩,a1,c1,a1,c1,Nat.zero_le _,rfl,rfl,rfl,HE4,HN4,HM4,HS4,⟨Nat.zero_le _,Nat.zero_le _⟩⟩
  case round =>
   clear HE4 HN4 HM4 HS4
   obtain ⟨j,b,L,lg,st,D,K,K',a3,c3,a4,c4,hj,rfl,rfl,rfl,HE,HN,HM,HS,HCN⟩:=hrel
   by_cases hlt : j < len
   rotate_left
   ·obtain rfl : j = len:=by omega
    have HAG:=Lib.hid (again_any L d 42 (10 + 5000 * j) ((j : Int) + 1) st K K' wr HE.out.ls.dk HS.out.ok (by omega) (by omega) HS.out.img 0 0 none 0 0 ⟨#[]⟩ none 0 0 [] 0 ⟨rfl,.inl rfl⟩ (by omega) (fun h=>absurd h (by omega)) a3 a4 c3 c4 (HN.out.bats.less (fun q hq=>by simp [hq])) (HM.out.bats.less (fun q hq=>by simp [hq])) (by have:=HCN.out.1;omega) (by have:=HCN.out.2;omega))
    obtain ⟨x0,x1,x2⟩:=HN.out.three
    obtain ⟨y0,y1,y2⟩:=HM.out.three
    have HLOW:=Lib.hid (fun k (hk : k ∈ L)=>HE.out.low k (List.mem_cons_of_mem _ hk))
    have HBEL:=Lib.hid HE.out.bel
    clear HE HN HM HS HFX HC
    go_wp2_with fail
    refine HAG.out.mono ?_
    rintro e w5 ⟨B,L5,a5,c5,lg5,st5,A,rfl,hAK,hn5,hbt5,hls5,hU5,hB5,hr5,hg5,hm5,hl5,hok5⟩
    simp only [keptV]
    have HB6:=Lib.hid (HBEL.out.trans (hU5.below HLOW.out HBEL.out.size))
    have HB7:=Lib.hid (HB6.out.trans (((Below.refl _ w5).alloc (Nat.le_refl _) (.cells #[.bool A.base.isSome,.string (bs (A.base.getD [])),.slice a5 A.bats.length c5] 51) : Below w5.heap.size w5 _).mono HB6.out.size))
    clear hAK hn5 hbt5 hls5 hU5 hB5 hr5 hg5 hm5 hl5 hok5 HAG HBEL HLOW x0 x1 x2 y0 y1 y2
    go_wp2_with fail
    refine (HAW.out _ HB7.out).mono ?_
    rintro e w6 ⟨rfl,hb6⟩
    have HB8:=Lib.hid hb6
    clear hb6 HAW
    go_wp2_with fail
    go_ret
    exact ⟨rfl,HB8.out⟩
   ·obtain ⟨b0,o0,rfl,hb0,hc⟩:=HC.out.resolve_left (by omega)
    have HA:=Lib.hid (hc j hlt)
    have HX:=Lib.hid (HFX.out j hlt)
    have HKA:=Lib.hid (fun (wz : World) (hb : Below w.heap.size w wz) (i : Nat) (v : Value) (hv : w.cell? ⟨b0,i,none⟩ = some v)=>(hb.cell (p:=⟨b0,i,none⟩) hb0).trans hv)
    clear hc HC HFX HAW
    generalize f j = x at *
    have HC:=HCN
    have d0:=HKA.out wr HE.out.bel _ _ HA.out.c0;have d1:=HKA.out wr HE.out.bel _ _ HA.out.c1;have d2:=HKA.out wr HE.out.bel _ _ HA.out.c2
    have d3:=HKA.out wr HE.out.bel _ _ HA.out.c3;have d4:=HKA.out wr HE.out.bel _ _ HA.out.c4;have d5:=HKA.out wr HE.out.bel _ _ HA.out.c5
    have hbA : Below wr.heap.size wr (wr.alloc (.cells #[.int .i64 x.kind,.int .i64 x.n,.slice x.ra x.rn x.rc,.string x.tx,.slice x.ka x.kn x.kc,.int .i64 x.tear] 41)):=(Below.refl _ wr).alloc (Nat.le_refl _) _
    have hkA:=heap_alloc_new wr (.cells #[.int .i64 x.kind,.int .i64 x.n,.slice x.ra x.rn x.rc,.string x.tx,.slice x.ka x.kn x.kc,.int .i64 x.tear] 41)
    have hsA : (wr.alloc (.cells #[.int .i64 x.kind,.int .i64 x.n,.slice x.ra x.rn x.rc,.string x.tx,.slice x.ka x.kn x.kc,.int .i64 x.tear] 41)).heap.size = wr.heap.size + 1:=by simp
    obtain ⟨wa,hwa⟩ : ∃ wa,wr.alloc (.cells #[.int .i64 x.kind,.int .i64 x.n,.slice x.ra x.rn x.rc,.string x.tx,.slice x.ka x.kn x.kc,.int .i64 x.tear] 41) = wa:=⟨_,rfl⟩
    rw [hwa] at hbA hkA hsA
    have EA:=HE.out.new (k:=wr.heap.size) hbA (Nat.le_refl _) (by omega)
    have NA:=(HN.out.new (j:=wr.heap.size) (Nat.le_refl _)).below hbA
    have MA:=(HM.out.new (j:=wr.heap.size) (Nat.le_refl _)).below hbA
    have hbB : Below wa.heap.size wa (wa.alloc (.cells #[.bool K.base.isSome,.string (bs (K.base.getD [])),.slice a3 K.bats.length c3] 51)):=(Below.refl _ wa).alloc (Nat.le_refl _) _
    have hkB:=heap_alloc_new wa (.cells #[.bool K.base.isSome,.string (bs (K.base.getD [])),.slice a3 K.bats.length c3] 51)
    have hsB : (wa.alloc (.cells #[.bool K.base.isSome,.string (bs (K.base.getD [])),.slice a3 K.bats.length c3] 51)).heap.size = wa.heap.size + 1:=by simp
    obtain ⟨wb,hwb⟩ : ∃ wb,wa.alloc (.cells #[.bool K.base.isSome,.string (bs (K.base.getD [])),.slice a3 K.bats.length c3] 51) = wb:=⟨_,rfl⟩
    rw [hwb] at hbB hkB hsB
    rw [hsA] at hkB
    have EB:=EA.new (k:=wr.heap.size + 1) hbB (by omega) (by omega)
    have NB:=(NA.new (j:=wr.heap.size + 1) (by omega)).below hbB
    have MB:=(MA.new (j:=wr.heap.size + 1) (by omega)).below hbB
    have XB : VarAt wb ((wr.heap.size + 1) :: wr.heap.size :: k8 :: k6 :: b :: L) (wr.heap.size + 1) K a3 c3:=⟨hkB,NB.nn,NB.bats⟩
    have hact:=(hbB.block wr.heap.size (by omega)).trans hkA
    have m8 : k8 < wr.heap.size:=(HE.out.own k8 (by simp)).2.2
    have m6 : k6 < wr.heap.size:=(HE.out.own k6 (by simp)).2.2
    obtain ⟨hx0,hx1,hx2⟩:=NA.three
    obtain ⟨y0,y1,y2⟩:=NB.three
    have e0:=cell_of_heap (i:=0) hact;have e1:=cell_of_heap (i:=1) hact;have e2:=cell_of_heap (i:=2) hact
    have e3:=cell_of_heap (i:=3) hact;have e4:=cell_of_heap (i:=4) hact;have e5:=cell_of_heap (i:=5) hact
    have p0:=cell_of_heap (i:=0) hkA
    have HEB:=Lib.hid EB;have HNB:=Lib.hid NB;have HMB:=Lib.hid MB;have HXB:=Lib.hid XB
    have HACT:=Lib.hid hact
    have HO1:=Lib.hid (show k8 < wr.heap.size ∧ k6 < wr.heap.size ∧ wr.heap.size < wr.heap.size + 1 by omega)
    clear hbA hkA EA NA MA hbB hkB EB NB MB XB hact HE HN HM
    by_cases hk1 : x.kind = 1
    ·rw [hk1] at hwa
     have hgo : ∀ q ∈ ((wr.heap.size + 1) :: wr.heap.size :: k8 :: k6 :: b :: L),w.heap.size ≤ q ∧ q < wb.heap.size:=fun q hq=>by
      have hown:=HEB.out.own
      rcases List.mem_cons.1 hq with g | hq
      ·rw [g];exact (hown _ (by simp)).2
      rcases List.mem_cons.1 hq with g | hq
      ·rw [g];exact (hown _ (by simp)).2
      rcases List.mem_cons.1 hq with g | hq
      ·rw [g];exact (hown _ (by simp)).2
      rcases List.mem_cons.1 hq with g | hq
      ·rw [g];exact (hown _ (by simp)).2
      ·refine ⟨HEB.out.low q hq,?_⟩
       rcases List.mem_cons.1 hq with g | g
       ·rw [g];exact HEB.out.ls.lk.lt
       ·exact HEB.out.ls.dk.lt q g
     have HWI:=Lib.hid (with_any K.base.isSome (bs (K.base.getD [])) a3 K.bats.length c3 K.bats x.ra x.rn x.rc (x.rs.map tl) ((wr.heap.size + 1) :: wr.heap.size :: k8 :: k6 :: b :: L) wb HNB.out.nn HNB.out.bats HA.out.rnn (act_strs HA.out.rs HEB.out.bel (fun q hq=>(hgo q hq).1)) (fun q hq=>(hgo q hq).2) (by have:=HC.out.1;omega))
     have HGO:=Lib.hid (fun q hq=>(hgo q hq).1)
     clear hgo
     go_wp2_with fail
     refine HWI.out.mono ?_
     rintro e w3 ⟨a5,c5,rfl,hn5,hbt5,hb3⟩
     clear d0 d1 d2 d3 d4 d5 e0 e1 e2 e3 e4 e5 p0 hx0 hx1 hx2 y0 y1 y2 hwa hwb HWI
     clear hsA hsB m8 m6
     generalize wr.heap.size + 1 = k12 at *
     generalize wr.heap.size = k11 at *
     have E3:=HEB.out.below hb3
     have N3:=HNB.out.below hb3
     have M3:=HMB.out.below hb3
     have X3:=HXB.out.below hb3
     have A3:=(hb3.block k11 (heap_lt HACT.out)).trans HACT.out
     have n3c:=X3.cell
     have o0:=cell_of_heap (i:=0) n3c
     have o1:=cell_of_heap (i:=1) n3c
     have o2:=cell_of_heap (i:=2) n3c
     have oz0 : w3.frozen? ⟨k12,0,none⟩ = false:=frozen_of_heap n3c
     have oz1 : w3.frozen? ⟨k12,1,none⟩ = false:=frozen_of_heap n3c
     have oz2 : w3.frozen? ⟨k12,2,none⟩ = false:=frozen_of_heap n3c
     have hU4:=upd_putK w3 k12 (.bool K.base.isSome) (.string (bs (K.base.getD []))) (.slice a5 (K.bats.length + 1) c5)
     have hk4:=heap_putK n3c (.bool K.base.isSome) (.string (bs (K.base.getD []))) (.slice a5 (K.bats.length + 1) c5)
     obtain ⟨w4,hw40⟩ : ∃ w4,putK w3 k12 (.bool K.base.isSome) (.string (bs (K.base.getD []))) (.slice a5 (K.bats.length + 1) c5) = w4:=⟨_,rfl⟩
     rw [hw40] at hU4 hk4
     have hw4 : ((w3.setCell ⟨k12,0,none⟩ (.bool K.base.isSome)).setCell ⟨k12,1,none⟩ (.string (bs (K.base.getD [])))).setCell ⟨k12,2,none⟩ (.slice a5 (K.bats.length + 1) c5) = w4:=hw40
     clear hw40
     obtain ⟨E4,hG4⟩:=E3.put (k:=k12) (by simp) n3c hU4
     have hlen4 : (K.bats ++ [x.rs.map tl]).length = K.bats.length + 1:=by simp
     have hq:=HO1.out
     have N4:=N3.step (hU4.block k6 (heap_lt N3.cell) (fun hm=>by have:=List.mem_singleton.1 hm;omega)) hG4
     have M4:=M3.step (hU4.block k8 (heap_lt M3.cell) (fun hm=>by have:=List.mem_singleton.1 hm;omega)) hG4
     have A4:=(hU4.block k11 (heap_lt A3) (fun hm=>by have:=List.mem_singleton.1 hm;omega)).trans A3
     have X4 : VarAt w4 ([k12,k11,k8,k6] ++ b :: L) k12 ⟨K.base,K.bats ++ [x.rs.map tl]⟩ a5 c5:=⟨by rw [hlen4];exact hk4,hn5,by rw [hlen4];exact hbt5.upd hG4⟩
     have e2:=cell_of_heap (i:=2) A4
     have hfew:=act_few HX.out HA.out.rs.1
     have HAP:=Lib.hid (append_sat L b d D ((j : Int) + 1) 42 (10 + 5000 * j) lg st K K' w4 E4.ls HS.out (by omega) (by omega) (x.rs.map tl) x.ra x.rn x.rc (act_strs HA.out.rs E4.bel (G:=k12 :: k11 :: k8 :: k6 :: b :: L) HGO.out).1 hfew.1 hfew.2)
     have HE4:=Lib.hid E4;have HN4:=Lib.hid N4;have HM4:=Lib.hid M4;have HX4:=Lib.hid X4
     have HKL:=Lib.hid (show (⟨K.base,K.bats ++ [x.rs.map tl]⟩ : Kept).bats.length ≤ j + 1 by show (K.bats ++ [x.rs.map tl]).length ≤ j + 1;have:=HC.out.1;omega)
     clear hn5 hbt5 hb3 E3 N3 M3 X3 A3 n3c hU4 hk4 E4 hG4 hlen4 N4 M4 A4 X4 hfew HS HGO
     obtain ⟨K2,hK2⟩ : ∃ K2,(⟨K.base,K.bats ++ [x.rs.map tl]⟩ : Kept) = K2:=⟨_,rfl⟩
     rw [hK2] at HAP HX4 HKL
     clear hK2
     go_wp2_with fail
     try rw [hw4]
     refine HAP.out.mono ?_
     intro e w5 hsat
     clear HAP e2 hw4
     clear o0 oz0 o1 oz1 o2 oz2
     obtain ⟨c,lg2,st2,A,A',D2,L2,rfl,E5,hk5,hU5,s5,hcs⟩:=hsat.env2 HE4.out
     have N5:=HN4.out.step (hk5 k6 (by simp)) hU5
     have M5:=HM4.out.step (hk5 k8 (by simp)) hU5
     have X5:=HX4.out.step (hk5 k12 (by simp)) hU5
     clear hk5 hU5 hsat HE4 HN4 HM4 HX4
     rcases hcs with ⟨rfl,rfl,rfl,rfl,rfl⟩ | ⟨rfl,rfl,rfl,rfl,rfl⟩ | ⟨rfl,rfl,rfl,rfl,rfl⟩ | ⟨rfl,rfl,rfl,rfl,rfl⟩ | ⟨rfl,rfl,rfl,rfl,rfl⟩
     ·have HE5:=Lib.hid E5;have HN5:=Lib.hid N5;have HM5:=Lib.hid M5;have HX5:=Lib.hid X5;have HS5:=Lib.hid s5
      clear E5 N5 M5 X5 s5
      go_wp2_with fail
      have hC15:=HX5.out.cell
      have hB15:=HX5.out.bats
      have h156 : k12 ≠ k6:=by have:=HO1.out;omega
      have h158 : k12 ≠ k8:=by have:=HO1.out;omega
      obtain ⟨wd,hwd⟩ : ∃ wd,w5.drew = wd:=⟨_,rfl⟩
      have ED:=(HE5.out).drew
      have ND:=(HN5.out).below (Below.refl _ w5).drew
      have MD:=(HM5.out).below (Below.refl _ w5).drew
      have CD : wd.heap[k12]? = some (.cells #[.bool A'.base.isSome,.string (bs (A'.base.getD [])),.slice a5 A'.bats.length c5] 51 (0,0)):=by rw [← hwd];exact hC15
      have BD:=hB15.upd (Upd.of_below (Below.refl _ w5).drew)
      rw [hwd] at ED ND MD BD
      have tD:=three_of CD
      refine wp_region_held_drew (S:=(fun w'=>w'.cell? ⟨k12,0,none⟩ = some (.bool A'.base.isSome) ∧ w'.cell? ⟨k12,1,none⟩ = some (.string (bs (A'.base.getD []))) ∧ w'.cell? ⟨k12,2,none⟩ = some (.slice a5 A'.bats.length c5))) (by kernel_rfl) (by rw [hwd];exact tD) (fun hH0=>?_)
      rw [hwd] at hH0 ⊢
      clear hwd
      refine wpAnyH_take (i:=0) (v:=?v1) rfl ?s1 ?f1 ?r1 ?q1 (Or.inl ⟨?y1,?z1⟩) ?h1 ?k1
      case s1 | f1 | r1 | y1=>kernel_rfl
      case q1=>exact fun _ _ _ h=>h
      case z1=>(intro w' hSw;(try dsimp only at hSw);go_simp;(try with_reducible rfl))
      case h1=>exact hH0
      refine wpAnyH_take (i:=1) (v:=?v2) rfl ?s2 ?f2 ?r2 ?q2 (Or.inl ⟨?y2,?z2⟩) ?h2 ?k2
      case s2 | f2 | r2 | y2=>kernel_rfl
      case q2=>exact fun _ _ _ h=>h
      case z2=>(intro w' hSw;(try dsimp only at hSw);go_simp;(try with_reducible rfl))
      case h2=>exact hH0
      have nC:=ND.cell
      have o0:=cell_of_heap (i:=0) nC
      have o1:=cell_of_heap (i:=1) nC
      have o2:=cell_of_heap (i:=2) nC
      have oz0 : wd.frozen? ⟨k6,0,none⟩ = false:=frozen_of_heap nC
      have oz1 : wd.frozen? ⟨k6,1,none⟩ = false:=frozen_of_heap nC
      have oz2 : wd.frozen? ⟨k6,2,none⟩ = false:=frozen_of_heap nC
      have hU6:=upd_putK wd k6 (.bool A'.base.isSome) (.string (bs (A'.base.getD []))) (.slice a5 A'.bats.length c5)
      have hk6:=heap_putK nC (.bool A'.base.isSome) (.string (bs (A'.base.getD []))) (.slice a5 A'.bats.length c5)
      obtain ⟨w6,hw60⟩ : ∃ w6,putK wd k6 (.bool A'.base.isSome) (.string (bs (A'.base.getD []))) (.slice a5 A'.bats.length c5) = w6:=⟨_,rfl⟩
      rw [hw60] at hU6 hk6
      have hw6 : ((wd.setCell ⟨k6,0,none⟩ (.bool A'.base.isSome)).setCell ⟨k6,1,none⟩ (.string (bs (A'.base.getD [])))).setCell ⟨k6,2,none⟩ (.slice a5 A'.bats.length c5) = w6:=hw60
      clear hw60
      obtain ⟨E6,hG6⟩:=ED.put (k:=k6) (by simp) nC hU6
      have C6:=(hU6.block k12 (heap_lt CD) (fun hm=>h156 (List.mem_singleton.1 hm))).trans CD
      have M6:=MD.step (hU6.block k8 (heap_lt MD.cell) (fun hm=>HNE.out (List.mem_singleton.1 hm).symm)) hG6
      have B6:=BD.upd hG6
      have t6:=three_of C6
      refine wpAnyH_ready (rs:=[2]) (by kernel_rfl) (by simp) ?_
      refine AllReadyH.cons rfl (fun KK hK=>?_) AllReadyH.nil
      go_simp
      try rw [hw6]
      refine hK.out _ _ t6 (fun hH1=>?_)
      clear hK KK hH0 hw6
      have mC:=M6.cell
      have u0:=cell_of_heap (i:=0) mC
      have u1:=cell_of_heap (i:=1) mC
      have u2:=cell_of_heap (i:=2) mC
      have uz0 : w6.frozen? ⟨k8,0,none⟩ = false:=frozen_of_heap mC
      have uz1 : w6.frozen? ⟨k8,1,none⟩ = false:=frozen_of_heap mC
      have uz2 : w6.frozen? ⟨k8,2,none⟩ = false:=frozen_of_heap mC
      have hU7:=upd_putK w6 k8 (.bool A'.base.isSome) (.string (bs (A'.base.getD []))) (.slice a5 A'.bats.length c5)
      have hk7:=heap_putK mC (.bool A'.base.isSome) (.string (bs (A'.base.getD []))) (.slice a5 A'.bats.length c5)
      obtain ⟨w7,hw70⟩ : ∃ w7,putK w6 k8 (.bool A'.base.isSome) (.string (bs (A'.base.getD []))) (.slice a5 A'.bats.length c5) = w7:=⟨_,rfl⟩
      rw [hw70] at hU7 hk7
      have hw7 : ((w6.setCell ⟨k8,0,none⟩ (.bool A'.base.isSome)).setCell ⟨k8,1,none⟩ (.string (bs (A'.base.getD [])))).setCell ⟨k8,2,none⟩ (.slice a5 A'.bats.length c5) = w7:=hw70
      clear hw70
      obtain ⟨E7,hG7⟩:=E6.put (k:=k8) (by simp) mC hU7
      have C7:=(hU7.block k12 (heap_lt C6) (fun hm=>h158 (List.mem_singleton.1 hm))).trans C6
      have N7c:=(hU7.block k6 (heap_lt hk6) (fun hm=>HNE.out (List.mem_singleton.1 hm))).trans hk6
      have B7:=B6.upd hG7
      have t7:=three_of C7
      refine wpAnyH_ready (rs:=[3]) (by kernel_rfl) (by simp) ?_
      refine AllReadyH.cons rfl (fun KK hK=>?_) AllReadyH.nil
      go_simp
      try rw [hw7]
      refine hK.out _ _ t7 (fun hH2=>?_)
      clear hK KK hH1 hw7
      refine wpAnyH_done (by kernel_rfl) ?_ _
      clear o0 oz0 o1 oz1 o2 oz2
      clear u0 uz0 u1 uz1 u2 uz2
      clear hH2
      have N7 : VarAt w7 ([k12,k11,k8,k6] ++ b :: L2) k6 A' a5 c5:=⟨N7c,HX5.out.nn,B7⟩
      have M7 : VarAt w7 ([k12,k11,k8,k6] ++ b :: L2) k8 A' a5 c5:=⟨hk7,HX5.out.nn,B7⟩
      have HE9:=Lib.hid ((E7).less (G:=[k8,k6]) sub_own)
      have HN9:=Lib.hid ((N7).less (G':=(k8 :: k6 :: b :: L2)) sub_two)
      have HM9:=Lib.hid ((M7).less (G':=(k8 :: k6 :: b :: L2)) sub_two)
      have HS9:=Lib.hid ((HS5.out).mono (G':=(((j + 1 : Nat) : Int)) + 1) (n':=10 + 5000 * (j + 1)) (by omega) (by omega))
      have HC9:=Lib.hid (show A'.bats.length ≤ j + 1 ∧ A'.bats.length ≤ j + 1 from ⟨HKL.out,HKL.out⟩)
      clear E7 N7 M7 N7c B7 B6 BD C7 C6 CD M6 E6 ED ND MD tD t6 t7 nC mC hG6 hG7 hU6 hU7 hk6 hk7 hC15 hB15 h156 h158 HE5 HN5 HM5 HX5 HS5
      go_wp2_with fail
      go_roundw
      case rel=>exact ⟨j + 1,b,L2,lg2,st2,false,A',A',a5,c5,a5,c5,by omega,rfl,rfl,by go_num,HE9,HN9,HM9,HS9,HC9⟩
      case measure=>simp [intOf];omega
     ·have mC:=M5.cell
      obtain ⟨x0,x1,x2⟩:=X5.three
      have o0:=cell_of_heap (i:=0) mC
      have o1:=cell_of_heap (i:=1) mC
      have o2:=cell_of_heap (i:=2) mC
      have oz0 : w5.frozen? ⟨k8,0,none⟩ = false:=frozen_of_heap mC
      have oz1 : w5.frozen? ⟨k8,1,none⟩ = false:=frozen_of_heap mC
      have oz2 : w5.frozen? ⟨k8,2,none⟩ = false:=frozen_of_heap mC
      have hU6:=upd_putK w5 k8 (.bool A'.base.isSome) (.string (bs (A'.base.getD []))) (.slice a5 A'.bats.length c5)
      have hk6:=heap_putK mC (.bool A'.base.isSome) (.string (bs (A'.base.getD []))) (.slice a5 A'.bats.length c5)
      obtain ⟨w6,hw60⟩ : ∃ w6,putK w5 k8 (.bool A'.base.isSome) (.string (bs (A'.base.getD []))) (.slice a5 A'.bats.length c5) = w6:=⟨_,rfl⟩
      rw [hw60] at hU6 hk6
      have hw6 : ((w5.setCell ⟨k8,0,none⟩ (.bool A'.base.isSome)).setCell ⟨k8,1,none⟩ (.string (bs (A'.base.getD [])))).setCell ⟨k8,2,none⟩ (.slice a5 A'.bats.length c5) = w6:=hw60
      clear hw60
      obtain ⟨E6,hG6⟩:=E5.put (k:=k8) (by simp) mC hU6
      have N6:=N5.step (hU6.block k6 (heap_lt N5.cell) (fun hm=>HNE.out (List.mem_singleton.1 hm))) hG6
      have M6 : VarAt w6 ([k12,k11,k8,k6] ++ b :: L2) k8 A' a5 c5:=⟨hk6,X5.nn,X5.bats.upd hG6⟩
      have HE9:=Lib.hid ((E6).less (G:=[k8,k6]) sub_own)
      have HN9:=Lib.hid ((N6).less (G':=(k8 :: k6 :: b :: L2)) sub_two)
      have HM9:=Lib.hid ((M6).less (G':=(k8 :: k6 :: b :: L2)) sub_two)
      have HS9:=Lib.hid ((s5).mono (G':=(((j + 1 : Nat) : Int)) + 1) (n':=10 + 5000 * (j + 1)) (by omega) (by omega))
      have HC9:=Lib.hid (show A.bats.length ≤ j + 1 ∧ A'.bats.length ≤ j + 1 from ⟨by have:=HC.out.1;omega,HKL.out⟩)
      have HXX:=Lib.hid (And.intro x0 (And.intro x1 x2))
      clear E5 N5 M5 X5 s5 E6 N6 M6 hG6 hU6 hk6 mC
      go_wp2_with fail
      try rw [hw6]
      clear HXX hw6 x0 x1 x2
      clear o0 oz0 o1 oz1 o2 oz2
      go_roundw
      case rel=>exact ⟨j + 1,b,L2,lg2,st2,true,A,A',a3,c3,a5,c5,by omega,rfl,rfl,by go_num,HE9,HN9,HM9,HS9,HC9⟩
      case measure=>simp [intOf];omega
     ·have HE9:=Lib.hid ((E5).less (G:=[k8,k6]) sub_own)
      have HN9:=Lib.hid ((N5).less (G':=(k8 :: k6 :: b :: L2)) sub_two)
      have HM9:=Lib.hid ((M5).less (G':=(k8 :: k6 :: b :: L2)) sub_two)
      have HS9:=Lib.hid ((s5).mono (G':=(((j + 1 : Nat) : Int)) + 1) (n':=10 + 5000 * (j + 1)) (by omega) (by omega))
      have HC9:=Lib.hid (show A.bats.length ≤ j + 1 ∧ A'.bats.length ≤ j + 1 from ⟨by have:=HC.out.1;omega,by have:=HC.out.2;omega⟩)
      clear E5 N5 M5 X5 s5
      go_wp2_with fail
      go_roundw
      case rel=>exact ⟨j + 1,b,L2,lg2,st2,true,A,A',a3,c3,a4,c4,by omega,rfl,rfl,by go_num,HE9,HN9,HM9,HS9,HC9⟩
      case measure=>simp [intOf];omega
     ·have HE9:=Lib.hid ((E5).less (G:=[k8,k6]) sub_own)
      have HN9:=Lib.hid ((N5).less (G':=(k8 :: k6 :: b :: L2)) sub_two)
      have HM9:=Lib.hid ((M5).less (G':=(k8 :: k6 :: b :: L2)) sub_two)
      have HS9:=Lib.hid ((s5).mono (G':=(((j + 1 : Nat) : Int)) + 1) (n':=10 + 5000 * (j + 1)) (by omega) (by omega))
      have HC9:=Lib.hid (show A.bats.length ≤ j + 1 ∧ A'.bats.length ≤ j + 1 from ⟨by have:=HC.out.1;omega,by have:=HC.out.2;omega⟩)
      clear E5 N5 M5 X5 s5
      go_wp2_with fail
      go_roundw
      case rel=>exact ⟨j + 1,b,L2,lg2,st2,false,A,A',a3,c3,a4,c4,by omega,rfl,rfl,by go_num,HE9,HN9,HM9,HS9,HC9⟩
      case measure=>simp [intOf];omega
     ·have HE9:=Lib.hid ((E5).less (G:=[k8,k6]) sub_own)
      have HN9:=Lib.hid ((N5).less (G':=(k8 :: k6 :: b :: L2)) sub_two)
      have HM9:=Lib.hid ((M5).less (G':=(k8 :: k6 :: b :: L2)) sub_two)
      have HS9:=Lib.hid ((s5).mono (G':=(((j + 1 : Nat) : Int)) + 1) (n':=10 + 5000 * (j + 1)) (by omega) (by omega))
      have HC9:=Lib.hid (show A.bats.length ≤ j + 1 ∧ A'.bats.length ≤ j + 1 from ⟨by have:=HC.out.1;omega,by have:=HC.out.2;omega⟩)
      clear E5 N5 M5 X5 s5
      go_wp2_with fail
      go_roundw
      case rel=>exact ⟨j + 1,b,L2,lg2,st2,false,A,A',a3,c3,a4,c4,by omega,rfl,rfl,by go_num,HE9,HN9,HM9,HS9,HC9⟩
      case measure=>simp [intOf];omega
    ·by_cases hk2 : x.kind = 2
     ·rw [hk2] at hwa
      have HLO:=Lib.hid (long_any x.tx x.n wb HX.out.tx HA.out.nlo HA.out.nhi)
      go_wp2_with fail
      refine HLO.out.mono ?_
      rintro e wz ⟨t,rfl,htz,hwz⟩
      subst hwz
      clear d0 d1 d2 d3 d4 d5 e0 e1 e2 e3 e4 e5 p0 hx0 hx1 hx2 y0 y1 y2 hwa hwb HLO
      clear hsA hsB m8 m6
      generalize wr.heap.size + 1 = k12 at *
      generalize wr.heap.size = k11 at *
      have n3c:=HXB.out.cell
      have o0:=cell_of_heap (i:=0) n3c
      have o1:=cell_of_heap (i:=1) n3c
      have o2:=cell_of_heap (i:=2) n3c
      have oz0 : wb.frozen? ⟨k12,0,none⟩ = false:=frozen_of_heap n3c
      have oz1 : wb.frozen? ⟨k12,1,none⟩ = false:=frozen_of_heap n3c
      have oz2 : wb.frozen? ⟨k12,2,none⟩ = false:=frozen_of_heap n3c
      have hU4:=upd_putK wb k12 (.bool true) (.string t) (.slice none 0 0)
      have hk4:=heap_putK n3c (.bool true) (.string t) (.slice none 0 0)
      obtain ⟨w4,hw40⟩ : ∃ w4,putK wb k12 (.bool true) (.string t) (.slice none 0 0) = w4:=⟨_,rfl⟩
      rw [hw40] at hU4 hk4
      have hw4 : ((wb.setCell ⟨k12,0,none⟩ (.bool true)).setCell ⟨k12,1,none⟩ (.string t)).setCell ⟨k12,2,none⟩ (.slice none 0 0) = w4:=hw40
      clear hw40
      obtain ⟨E4,hG4⟩:=HEB.out.put (k:=k12) (by simp) n3c hU4
      have hq:=HO1.out
      have N4:=HNB.out.step (hU4.block k6 (heap_lt HNB.out.cell) (fun hm=>by have:=List.mem_singleton.1 hm;omega)) hG4
      have M4:=HMB.out.step (hU4.block k8 (heap_lt HMB.out.cell) (fun hm=>by have:=List.mem_singleton.1 hm;omega)) hG4
      have X4 : VarAt w4 ([k12,k11,k8,k6] ++ b :: L) k12 ⟨some (tl t),[]⟩ none 0:=⟨by show w4.heap[k12]? = some (.cells #[.bool true,.string (bs (tl t)),.slice none 0 0] 51 (0,0));rw [bs_tl];exact hk4,fun _=>rfl,⟨rfl,.inl rfl⟩⟩
      have n1c : w4.cell? ⟨k12,1,none⟩ = some (.string t):=cell_of_heap hk4
      have HAP:=Lib.hid (check_sat L b d D ((j : Int) + 1) 42 (10 + 5000 * j) lg st K K' w4 E4.ls HS.out (by omega) (by omega) t (by omega))
      have HE4:=Lib.hid E4;have HN4:=Lib.hid N4;have HM4:=Lib.hid M4
      have HKL:=Lib.hid (show (⟨some (tl t),[]⟩ : Kept).bats.length ≤ j + 1 from Nat.zero_le _)
      obtain ⟨a5,ha5⟩ : ∃ a5 : Option Addr,none = a5:=⟨_,rfl⟩
      obtain ⟨c5,hc5⟩ : ∃ c5 : Nat,0 = c5:=⟨_,rfl⟩
      obtain ⟨K2,hK2⟩ : ∃ K2,(⟨some (tl t),[]⟩ : Kept) = K2:=⟨_,rfl⟩
      have HX4:=Lib.hid (show VarAt w4 ([k12,k11,k8,k6] ++ b :: L) k12 K2 a5 c5 by rw [← hK2,← ha5,← hc5];exact X4)
      rw [hK2] at HAP HKL
      clear hU4 hk4 E4 hG4 N4 M4 X4 HS hK2 ha5 hc5 n3c
      go_wp2_with fail
      try rw [hw4]
      refine HAP.out.mono ?_
      intro e w5 hsat
      clear HAP n1c hw4
      clear o0 oz0 o1 oz1 o2 oz2
      obtain ⟨c,lg2,st2,A,A',D2,L2,rfl,E5,hk5,hU5,s5,hcs⟩:=hsat.env2 HE4.out
      have N5:=HN4.out.step (hk5 k6 (by simp)) hU5
      have M5:=HM4.out.step (hk5 k8 (by simp)) hU5
      have X5:=HX4.out.step (hk5 k12 (by simp)) hU5
      clear hk5 hU5 hsat HE4 HN4 HM4 HX4
      rcases hcs with ⟨rfl,rfl,rfl,rfl,rfl⟩ | ⟨rfl,rfl,rfl,rfl,rfl⟩ | ⟨rfl,rfl,rfl,rfl,rfl⟩ | ⟨rfl,rfl,rfl,rfl,rfl⟩ | ⟨rfl,rfl,rfl,rfl,rfl⟩
      ·have HE5:=Lib.hid E5;have HN5:=Lib.hid N5;have HM5:=Lib.hid M5;have HX5:=Lib.hid X5;have HS5:=Lib.hid s5
       clear E5 N5 M5 X5 s5
       go_wp2_with fail
       have hC15:=HX5.out.cell
       have hB15:=HX5.out.bats
       have h156 : k12 ≠ k6:=by have:=HO1.out;omega
       have h158 : k12 ≠ k8:=by have:=HO1.out;omega
       obtain ⟨wd,hwd⟩ : ∃ wd,w5.drew = wd:=⟨_,rfl⟩
       have ED:=(HE5.out).drew
       have ND:=(HN5.out).below (Below.refl _ w5).drew
       have MD:=(HM5.out).below (Below.refl _ w5).drew
       have CD : wd.heap[k12]? = some (.cells #[.bool A'.base.isSome,.string (bs (A'.base.getD [])),.slice a5 A'.bats.length c5] 51 (0,0)):=by rw [← hwd];exact hC15
       have BD:=hB15.upd (Upd.of_below (Below.refl _ w5).drew)
       rw [hwd] at ED ND MD BD
       have tD:=three_of CD
       refine wp_region_held_drew (S:=(fun w'=>w'.cell? ⟨k12,0,none⟩ = some (.bool A'.base.isSome) ∧ w'.cell? ⟨k12,1,none⟩ = some (.string (bs (A'.base.getD []))) ∧ w'.cell? ⟨k12,2,none⟩ = some (.slice a5 A'.bats.length c5))) (by kernel_rfl) (by rw [hwd];exact tD) (fun hH0=>?_)
       rw [hwd] at hH0 ⊢
       clear hwd
       refine wpAnyH_take (i:=0) (v:=?v3) rfl ?s3 ?f3 ?r3 ?q3 (Or.inl ⟨?y3,?z3⟩) ?h3 ?k3
       case s3 | f3 | r3 | y3=>kernel_rfl
       case q3=>exact fun _ _ _ h=>h
       case z3=>(intro w' hSw;(try dsimp only at hSw);go_simp;(try with_reducible rfl))
       case h3=>exact hH0
       refine wpAnyH_take (i:=1) (v:=?v4) rfl ?s4 ?f4 ?r4 ?q4 (Or.inl ⟨?y4,?z4⟩) ?h4 ?k4
       case s4 | f4 | r4 | y4=>kernel_rfl
       case q4=>exact fun _ _ _ h=>h
       case z4=>(intro w' hSw;(try dsimp only at hSw);go_simp;(try with_reducible rfl))
       case h4=>exact hH0
       have nC:=ND.cell
       have o0:=cell_of_heap (i:=0) nC
       have o1:=cell_of_heap (i:=1) nC
       have o2:=cell_of_heap (i:=2) nC
       have oz0 : wd.frozen? ⟨k6,0,none⟩ = false:=frozen_of_heap nC
       have oz1 : wd.frozen? ⟨k6,1,none⟩ = false:=frozen_of_heap nC
       have oz2 : wd.frozen? ⟨k6,2,none⟩ = false:=frozen_of_heap nC
       have hU6:=upd_putK wd k6 (.bool A'.base.isSome) (.string (bs (A'.base.getD []))) (.slice a5 A'.bats.length c5)
       have hk6:=heap_putK nC (.bool A'.base.isSome) (.string (bs (A'.base.getD []))) (.slice a5 A'.bats.length c5)
       obtain ⟨w6,hw60⟩ : ∃ w6,putK wd k6 (.bool A'.base.isSome) (.string (bs (A'.base.getD []))) (.slice a5 A'.bats.length c5) = w6:=⟨_,rfl⟩
       rw [hw60] at hU6 hk6
       have hw6 : ((wd.setCell ⟨k6,0,none⟩ (.bool A'.base.isSome)).setCell ⟨k6,1,none⟩ (.string (bs (A'.base.getD [])))).setCell ⟨k6,2,none⟩ (.slice a5 A'.bats.length c5) = w6:=hw60
       clear hw60
       obtain ⟨E6,hG6⟩:=ED.put (k:=k6) (by simp) nC hU6
       have C6:=(hU6.block k12 (heap_lt CD) (fun hm=>h156 (List.mem_singleton.1 hm))).trans CD
       have M6:=MD.step (hU6.block k8 (heap_lt MD.cell) (fun hm=>HNE.out (List.mem_singleton.1 hm).symm)) hG6
       have B6:=BD.upd hG6
       have t6:=three_of C6
       refine wpAnyH_ready (rs:=[2]) (by kernel_rfl) (by simp) ?_
       refine AllReadyH.cons rfl (fun KK hK=>?_) AllReadyH.nil
       go_simp
       try rw [hw6]
       refine hK.out _ _ t6 (fun hH1=>?_)
       clear hK KK hH0 hw6
       have mC:=M6.cell
       have u0:=cell_of_heap (i:=0) mC
       have u1:=cell_of_heap (i:=1) mC
       have u2:=cell_of_heap (i:=2) mC
       have uz0 : w6.frozen? ⟨k8,0,none⟩ = false:=frozen_of_heap mC
       have uz1 : w6.frozen? ⟨k8,1,none⟩ = false:=frozen_of_heap mC
       have uz2 : w6.frozen? ⟨k8,2,none⟩ = false:=frozen_of_heap mC
       have hU7:=upd_putK w6 k8 (.bool A'.base.isSome) (.string (bs (A'.base.getD []))) (.slice a5 A'.bats.length c5)
       have hk7:=heap_putK mC (.bool A'.base.isSome) (.string (bs (A'.base.getD []))) (.slice a5 A'.bats.length c5)
       obtain ⟨w7,hw70⟩ : ∃ w7,putK w6 k8 (.bool A'.base.isSome) (.string (bs (A'.base.getD []))) (.slice a5 A'.bats.length c5) = w7:=⟨_,rfl⟩
       rw [hw70] at hU7 hk7
       have hw7 : ((w6.setCell ⟨k8,0,none⟩ (.bool A'.base.isSome)).setCell ⟨k8,1,none⟩ (.string (bs (A'.base.getD [])))).setCell ⟨k8,2,none⟩ (.slice a5 A'.bats.length c5) = w7:=hw70
       clear hw70
       obtain ⟨E7,hG7⟩:=E6.put (k:=k8) (by simp) mC hU7
       have C7:=(hU7.block k12 (heap_lt C6) (fun hm=>h158 (List.mem_singleton.1 hm))).trans C6
       have N7c:=(hU7.block k6 (heap_lt hk6) (fun hm=>HNE.out (List.mem_singleton.1 hm))).trans hk6
       have B7:=B6.upd hG7
       have t7:=three_of C7
       refine wpAnyH_ready (rs:=[3]) (by kernel_rfl) (by simp) ?_
       refine AllReadyH.cons rfl (fun KK hK=>?_) AllReadyH.nil
       go_simp
       try rw [hw7]
       refine hK.out _ _ t7 (fun hH2=>?_)
       clear hK KK hH1 hw7
       refine wpAnyH_done (by kernel_rfl) ?_ _
       clear o0 oz0 o1 oz1 o2 oz2
       clear u0 uz0 u1 uz1 u2 uz2
       clear hH2
       have N7 : VarAt w7 ([k12,k11,k8,k6] ++ b :: L2) k6 A' a5 c5:=⟨N7c,HX5.out.nn,B7⟩
       have M7 : VarAt w7 ([k12,k11,k8,k6] ++ b :: L2) k8 A' a5 c5:=⟨hk7,HX5.out.nn,B7⟩
       have HE9:=Lib.hid ((E7).less (G:=[k8,k6]) sub_own)
       have HN9:=Lib.hid ((N7).less (G':=(k8 :: k6 :: b :: L2)) sub_two)
       have HM9:=Lib.hid ((M7).less (G':=(k8 :: k6 :: b :: L2)) sub_two)
       have HS9:=Lib.hid ((HS5.out).mono (G':=(((j + 1 : Nat) : Int)) + 1) (n':=10 + 5000 * (j + 1)) (by omega) (by omega))
       have HC9:=Lib.hid (show A'.bats.length ≤ j + 1 ∧ A'.bats.length ≤ j + 1 from ⟨HKL.out,HKL.out⟩)
       clear E7 N7 M7 N7c B7 B6 BD C7 C6 CD M6 E6 ED ND MD tD t6 t7 nC mC hG6 hG7 hU6 hU7 hk6 hk7 hC15 hB15 h156 h158 HE5 HN5 HM5 HX5 HS5
       go_wp2_with fail
       go_roundw
       case rel=>exact ⟨j + 1,b,L2,lg2,st2,false,A',A',a5,c5,a5,c5,by omega,rfl,rfl,by go_num,HE9,HN9,HM9,HS9,HC9⟩
       case measure=>simp [intOf];omega
      ·have mC:=M5.cell
       obtain ⟨x0,x1,x2⟩:=X5.three
       have o0:=cell_of_heap (i:=0) mC
       have o1:=cell_of_heap (i:=1) mC
       have o2:=cell_of_heap (i:=2) mC
       have oz0 : w5.frozen? ⟨k8,0,none⟩ = false:=frozen_of_heap mC
       have oz1 : w5.frozen? ⟨k8,1,none⟩ = false:=frozen_of_heap mC
       have oz2 : w5.frozen? ⟨k8,2,none⟩ = false:=frozen_of_heap mC
       have hU6:=upd_putK w5 k8 (.bool A'.base.isSome) (.string (bs (A'.base.getD []))) (.slice a5 A'.bats.length c5)
       have hk6:=heap_putK mC (.bool A'.base.isSome) (.string (bs (A'.base.getD []))) (.slice a5 A'.bats.length c5)
       obtain ⟨w6,hw60⟩ : ∃ w6,putK w5 k8 (.bool A'.base.isSome) (.string (bs (A'.base.getD []))) (.slice a5 A'.bats.length c5) = w6:=⟨_,rfl⟩
       rw [hw60] at hU6 hk6
       have hw6 : ((w5.setCell ⟨k8,0,none⟩ (.bool A'.base.isSome)).setCell ⟨k8,1,none⟩ (.string (bs (A'.base.getD [])))).setCell ⟨k8,2,none⟩ (.slice a5 A'.bats.length c5) = w6:=hw60
       clear hw60
       obtain ⟨E6,hG6⟩:=E5.put (k:=k8) (by simp) mC hU6
       have N6:=N5.step (hU6.block k6 (heap_lt N5.cell) (fun hm=>HNE.out (List.mem_singleton.1 hm))) hG6
       have M6 : VarAt w6 ([k12,k11,k8,k6] ++ b :: L2) k8 A' a5 c5:=⟨hk6,X5.nn,X5.bats.upd hG6⟩
       have HE9:=Lib.hid ((E6).less (G:=[k8,k6]) sub_own)
       have HN9:=Lib.hid ((N6).less (G':=(k8 :: k6 :: b :: L2)) sub_two)
       have HM9:=Lib.hid ((M6).less (G':=(k8 :: k6 :: b :: L2)) sub_two)
       have HS9:=Lib.hid ((s5).mono (G':=(((j + 1 : Nat) : Int)) + 1) (n':=10 + 5000 * (j + 1)) (by omega) (by omega))
       have HC9:=Lib.hid (show A.bats.length ≤ j + 1 ∧ A'.bats.length ≤ j + 1 from ⟨by have:=HC.out.1;omega,HKL.out⟩)
       have HXX:=Lib.hid (And.intro x0 (And.intro x1 x2))
       clear E5 N5 M5 X5 s5 E6 N6 M6 hG6 hU6 hk6 mC
       go_wp2_with fail
       try rw [hw6]
       clear HXX hw6 x0 x1 x2
       clear o0 oz0 o1 oz1 o2 oz2
       go_roundw
       case rel=>exact ⟨j + 1,b,L2,lg2,st2,true,A,A',a3,c3,a5,c5,by omega,rfl,rfl,by go_num,HE9,HN9,HM9,HS9,HC9⟩
       case measure=>simp [intOf];omega
      ·have HE9:=Lib.hid ((E5).less (G:=[k8,k6]) sub_own)
       have HN9:=Lib.hid ((N5).less (G':=(k8 :: k6 :: b :: L2)) sub_two)
       have HM9:=Lib.hid ((M5).less (G':=(k8 :: k6 :: b :: L2)) sub_two)
       have HS9:=Lib.hid ((s5).mono (G':=(((j + 1 : Nat) : Int)) + 1) (n':=10 + 5000 * (j + 1)) (by omega) (by omega))
       have HC9:=Lib.hid (show A.bats.length ≤ j + 1 ∧ A'.bats.length ≤ j + 1 from ⟨by have:=HC.out.1;omega,by have:=HC.out.2;omega⟩)
       clear E5 N5 M5 X5 s5
       go_wp2_with fail
       go_roundw
       case rel=>exact ⟨j + 1,b,L2,lg2,st2,true,A,A',a3,c3,a4,c4,by omega,rfl,rfl,by go_num,HE9,HN9,HM9,HS9,HC9⟩
       case measure=>simp [intOf];omega
      ·have HE9:=Lib.hid ((E5).less (G:=[k8,k6]) sub_own)
       have HN9:=Lib.hid ((N5).less (G':=(k8 :: k6 :: b :: L2)) sub_two)
       have HM9:=Lib.hid ((M5).less (G':=(k8 :: k6 :: b :: L2)) sub_two)
       have HS9:=Lib.hid ((s5).mono (G':=(((j + 1 : Nat) : Int)) + 1) (n':=10 + 5000 * (j + 1)) (by omega) (by omega))
       have HC9:=Lib.hid (show A.bats.length ≤ j + 1 ∧ A'.bats.length ≤ j + 1 from ⟨by have:=HC.out.1;omega,by have:=HC.out.2;omega⟩)
       clear E5 N5 M5 X5 s5
       go_wp2_with fail
       go_roundw
       case rel=>exact ⟨j + 1,b,L2,lg2,st2,false,A,A',a3,c3,a4,c4,by omega,rfl,rfl,by go_num,HE9,HN9,HM9,HS9,HC9⟩
       case measure=>simp [intOf];omega
      ·have HE9:=Lib.hid ((E5).less (G:=[k8,k6]) sub_own)
       have HN9:=Lib.hid ((N5).less (G':=(k8 :: k6 :: b :: L2)) sub_two)
       have HM9:=Lib.hid ((M5).less (G':=(k8 :: k6 :: b :: L2)) sub_two)
       have HS9:=Lib.hid ((s5).mono (G':=(((j + 1 : Nat) : Int)) + 1) (n':=10 + 5000 * (j + 1)) (by omega) (by omega))
       have HC9:=Lib.hid (show A.bats.length ≤ j + 1 ∧ A'.bats.length ≤ j + 1 from ⟨by have:=HC.out.1;omega,by have:=HC.out.2;omega⟩)
       clear E5 N5 M5 X5 s5
       go_wp2_with fail
       go_roundw
       case rel=>exact ⟨j + 1,b,L2,lg2,st2,false,A,A',a3,c3,a4,c4,by omega,rfl,rfl,by go_num,HE9,HN9,HM9,HS9,HC9⟩
       case measure=>simp [intOf];omega
     ·by_cases hk4 : x.kind = 4
      ·rw [hk4] at hwa
       have HF:=Lib.hid (fuse_dk d st L x.n wb HEB.out.ls.dk HA.out.nlo HA.out.nhi)
       go_wp2_with fail
       refine HF.out.mono ?_
       intro e w4 hd
       clear d0 d1 d2 d3 d4 d5 e0 e1 e2 e3 e4 e5 p0 hx0 hx1 hx2 y0 y1 y2 hwa hwb HF
       clear hsA hsB m8 m6
       generalize wr.heap.size + 1 = k12 at *
       generalize wr.heap.size = k11 at *
       obtain ⟨rfl,L2,E4,hk5,hU5⟩:=HEB.out.did hd
       have N4:=HNB.out.step (hk5 k6 (by simp)) hU5
       have M4:=HMB.out.step (hk5 k8 (by simp)) hU5
       have s4:=HS.out.fuse HA.out.nhi
       have HE9:=Lib.hid ((E4).less (G:=[k8,k6]) sub_own)
       have HN9:=Lib.hid ((N4).less (G':=(k8 :: k6 :: b :: L2)) sub_two)
       have HM9:=Lib.hid ((M4).less (G':=(k8 :: k6 :: b :: L2)) sub_two)
       have HS9:=Lib.hid ((s4).mono (G':=(((j + 1 : Nat) : Int)) + 1) (n':=10 + 5000 * (j + 1)) (by omega) (by omega))
       have HC9:=Lib.hid (show K.bats.length ≤ j + 1 ∧ K'.bats.length ≤ j + 1 from ⟨by have:=HC.out.1;omega,by have:=HC.out.2;omega⟩)
       clear E4 N4 M4 s4 hk5 hU5 hd HEB HNB HMB HXB HS
       go_wp2_with fail
       go_roundw
       case rel=>exact ⟨j + 1,b,L2,lg,(fu st x.n),D,K,K',a3,c3,a4,c4,by omega,rfl,rfl,by go_num,HE9,HN9,HM9,HS9,HC9⟩
       case measure=>simp [intOf];omega
      ·have HAG:=Lib.hid (again_any L d 42 (10 + 5000 * j) ((j : Int) + 1) st K K' wb HEB.out.ls.dk HS.out.ok (by omega) (by omega) HS.out.img x.kind x.n x.ra x.rn x.rc x.tx x.ka x.kn x.kc x.kb x.tear (bools_below HA.out.kb HEB.out.bel) HX.out.kn (fun h0 y hy hm=>by have h1:=HA.out.knew h0 y hy;have h2:=HEB.out.low _ (List.mem_cons_of_mem _ hm);omega) a3 a4 c3 c4 (HNB.out.bats.less (fun q hq=>by simp [hq])) (HMB.out.bats.less (fun q hq=>by simp [hq])) (by have:=HC.out.1;omega) (by have:=HC.out.2;omega))
       obtain ⟨q0,q1,q2⟩:=HMB.out.three
       go_wp2_with fail
       refine HAG.out.mono ?_
       rintro e w4 ⟨B,L4,a5,c5,lg4,st4,A,rfl,hAK,hn5,hbt5,hls5,hU5,hB5,hr5,hg5,hm5,hl5,hok5⟩
       simp only [keptV]
       clear d0 d1 d2 d3 d4 d5 e0 e1 e2 e3 e4 e5 p0 hx0 hx1 hx2 y0 y1 y2 q0 q1 q2 hwa hwb HAG
       clear hsA hsB m8 m6
       generalize wr.heap.size + 1 = k12 at *
       generalize wr.heap.size = k11 at *
       obtain ⟨E4,hk5⟩:=HEB.out.again hls5 hU5 hB5
       have hw6lt : ∀ k ∈ [k12,k11,k8,k6],k < wb.heap.size:=fun k hk=>(HEB.out.own k hk).2.2
       have bt4:=bats_again (F:=[k12,k11,k8,k6]) hbt5 hw6lt
       have n4c:=(hk5 k6 (by simp)).trans HNB.out.cell
       have m4c:=(hk5 k8 (by simp)).trans HMB.out.cell
       have hAL : A.bats.length ≤ j:=by
        have:=HC.out
        rcases hAK with e | e <;> (rw [e];omega)
       have s4 : Sit false ((j : Int) + 1) 42 (10 + 5000 * j + 3000) lg4 st4 A A:=⟨hok5,hl5,fun _=>⟨hr5,hg5,hm5⟩,fun e=>by cases e⟩
       have hb5 : Below w4.heap.size w4 (w4.alloc (.cells #[.bool A.base.isSome,.string (bs (A.base.getD [])),.slice a5 A.bats.length c5] 51)):=(Below.refl _ w4).alloc (Nat.le_refl _) _
       have hC15:=heap_alloc_new w4 (.cells #[.bool A.base.isSome,.string (bs (A.base.getD [])),.slice a5 A.bats.length c5] 51)
       obtain ⟨w5,hw5⟩ : ∃ w5,w4.alloc (.cells #[.bool A.base.isSome,.string (bs (A.base.getD [])),.slice a5 A.bats.length c5] 51) = w5:=⟨_,rfl⟩
       rw [hw5] at hb5 hC15
       have HE5:=Lib.hid (E4.below hb5)
       have hB15 : BatsF w5 ([k12,k11,k8,k6] ++ B :: L4) a5 A.bats.length A.bats:=bt4.upd (Upd.of_below hb5)
       have n5c:=(hb5.block k6 (heap_lt n4c)).trans n4c
       have m5c:=(hb5.block k8 (heap_lt m4c)).trans m4c
       have h156 : w4.heap.size ≠ k6:=by have:=heap_lt n4c;omega
       have h158 : w4.heap.size ≠ k8:=by have:=heap_lt m4c;omega
       have HS4:=Lib.hid s4;have HNN:=Lib.hid hn5;have HAL:=Lib.hid hAL
       clear hAK hbt5 hls5 hU5 hB5 hr5 hg5 hm5 hl5 hok5 E4 hk5 bt4 s4 hb5 HS HEB hn5 hAL hw6lt
       go_wp2_with fail
       try rw [hw5]
       clear hw5
       obtain ⟨wd,hwd⟩ : ∃ wd,w5.drew = wd:=⟨_,rfl⟩
       have ED:=(HE5.out).drew
       have hhd : w5.heap = wd.heap:=by rw [← hwd];rfl
       have nD:=n5c
       rw [hhd] at nD
       have mD:=m5c
       rw [hhd] at mD
       clear hhd
       have CD : wd.heap[w4.heap.size]? = some (.cells #[.bool A.base.isSome,.string (bs (A.base.getD [])),.slice a5 A.bats.length c5] 51 (0,0)):=by rw [← hwd];exact hC15
       have BD:=hB15.upd (Upd.of_below (Below.refl _ w5).drew)
       rw [hwd] at ED BD
       have tD:=three_of CD
       refine wp_region_held_drew (S:=(fun w'=>w'.cell? ⟨w4.heap.size,0,none⟩ = some (.bool A.base.isSome) ∧ w'.cell? ⟨w4.heap.size,1,none⟩ = some (.string (bs (A.base.getD []))) ∧ w'.cell? ⟨w4.heap.size,2,none⟩ = some (.slice a5 A.bats.length c5))) (by kernel_rfl) (by rw [hwd];exact tD) (fun hH0=>?_)
       rw [hwd] at hH0 ⊢
       clear hwd
       refine wpAnyH_take (i:=0) (v:=?v5) rfl ?s5 ?f5 ?r5 ?q5 (Or.inl ⟨?y5,?z5⟩) ?h5 ?k5
       case s5 | f5 | r5 | y5=>kernel_rfl
       case q5=>exact fun _ _ _ h=>h
       case z5=>(intro w' hSw;(try dsimp only at hSw);go_simp;(try with_reducible rfl))
       case h5=>exact hH0
       refine wpAnyH_take (i:=1) (v:=?v6) rfl ?s6 ?f6 ?r6 ?q6 (Or.inl ⟨?y6,?z6⟩) ?h6 ?k6
       case s6 | f6 | r6 | y6=>kernel_rfl
       case q6=>exact fun _ _ _ h=>h
       case z6=>(intro w' hSw;(try dsimp only at hSw);go_simp;(try with_reducible rfl))
       case h6=>exact hH0
       have nC:=nD
       have o0:=cell_of_heap (i:=0) nC
       have o1:=cell_of_heap (i:=1) nC
       have o2:=cell_of_heap (i:=2) nC
       have oz0 : wd.frozen? ⟨k6,0,none⟩ = false:=frozen_of_heap nC
       have oz1 : wd.frozen? ⟨k6,1,none⟩ = false:=frozen_of_heap nC
       have oz2 : wd.frozen? ⟨k6,2,none⟩ = false:=frozen_of_heap nC
       have hU6:=upd_putK wd k6 (.bool A.base.isSome) (.string (bs (A.base.getD []))) (.slice a5 A.bats.length c5)
       have hk6:=heap_putK nC (.bool A.base.isSome) (.string (bs (A.base.getD []))) (.slice a5 A.bats.length c5)
       obtain ⟨w6,hw60⟩ : ∃ w6,putK wd k6 (.bool A.base.isSome) (.string (bs (A.base.getD []))) (.slice a5 A.bats.length c5) = w6:=⟨_,rfl⟩
       rw [hw60] at hU6 hk6
       have hw6 : ((wd.setCell ⟨k6,0,none⟩ (.bool A.base.isSome)).setCell ⟨k6,1,none⟩ (.string (bs (A.base.getD [])))).setCell ⟨k6,2,none⟩ (.slice a5 A.bats.length c5) = w6:=hw60
       clear hw60
       obtain ⟨E6,hG6⟩:=ED.put (k:=k6) (by simp) nC hU6
       have C6:=(hU6.block w4.heap.size (heap_lt CD) (fun hm=>h156 (List.mem_singleton.1 hm))).trans CD
       have mC6:=(hU6.block k8 (heap_lt mD) (fun hm=>HNE.out (List.mem_singleton.1 hm).symm)).trans mD
       have B6:=BD.upd hG6
       have t6:=three_of C6
       refine wpAnyH_ready (rs:=[2]) (by kernel_rfl) (by simp) ?_
       refine AllReadyH.cons rfl (fun KK hK=>?_) AllReadyH.nil
       go_simp
       try rw [hw6]
       refine hK.out _ _ t6 (fun hH1=>?_)
       clear hK KK hH0 hw6
       have mC:=mC6
       have u0:=cell_of_heap (i:=0) mC
       have u1:=cell_of_heap (i:=1) mC
       have u2:=cell_of_heap (i:=2) mC
       have uz0 : w6.frozen? ⟨k8,0,none⟩ = false:=frozen_of_heap mC
       have uz1 : w6.frozen? ⟨k8,1,none⟩ = false:=frozen_of_heap mC
       have uz2 : w6.frozen? ⟨k8,2,none⟩ = false:=frozen_of_heap mC
       have hU7:=upd_putK w6 k8 (.bool A.base.isSome) (.string (bs (A.base.getD []))) (.slice a5 A.bats.length c5)
       have hk7:=heap_putK mC (.bool A.base.isSome) (.string (bs (A.base.getD []))) (.slice a5 A.bats.length c5)
       obtain ⟨w7,hw70⟩ : ∃ w7,putK w6 k8 (.bool A.base.isSome) (.string (bs (A.base.getD []))) (.slice a5 A.bats.length c5) = w7:=⟨_,rfl⟩
       rw [hw70] at hU7 hk7
       have hw7 : ((w6.setCell ⟨k8,0,none⟩ (.bool A.base.isSome)).setCell ⟨k8,1,none⟩ (.string (bs (A.base.getD [])))).setCell ⟨k8,2,none⟩ (.slice a5 A.bats.length c5) = w7:=hw70
       clear hw70
       obtain ⟨E7,hG7⟩:=E6.put (k:=k8) (by simp) mC hU7
       have C7:=(hU7.block w4.heap.size (heap_lt C6) (fun hm=>h158 (List.mem_singleton.1 hm))).trans C6
       have N7c:=(hU7.block k6 (heap_lt hk6) (fun hm=>HNE.out (List.mem_singleton.1 hm))).trans hk6
       have B7:=B6.upd hG7
       have t7:=three_of C7
       refine wpAnyH_ready (rs:=[3]) (by kernel_rfl) (by simp) ?_
       refine AllReadyH.cons rfl (fun KK hK=>?_) AllReadyH.nil
       go_simp
       try rw [hw7]
       refine hK.out _ _ t7 (fun hH2=>?_)
       clear hK KK hH1 hw7
       refine wpAnyH_take (i:=4) (v:=?v7) rfl ?s7 ?f7 ?r7 ?q7 (Or.inl ⟨?y7,?z7⟩) ?h7 ?k7
       case s7 | f7 | r7 | y7=>kernel_rfl
       case q7=>exact fun _ _ _ h=>h
       case z7=>(intro w' hSw;(try dsimp only at hSw);go_simp;(try with_reducible rfl))
       case h7=>exact hH2
       refine wpAnyH_done (by kernel_rfl) ?_ _
       clear o0 oz0 o1 oz1 o2 oz2
       clear u0 uz0 u1 uz1 u2 uz2
       clear hH2
       have N7 : VarAt w7 ([k12,k11,k8,k6] ++ B :: L4) k6 A a5 c5:=⟨N7c,HNN.out,B7⟩
       have M7 : VarAt w7 ([k12,k11,k8,k6] ++ B :: L4) k8 A a5 c5:=⟨hk7,HNN.out,B7⟩
       have HE9:=Lib.hid ((E7).less (G:=[k8,k6]) sub_own)
       have HN9:=Lib.hid ((N7).less (G':=(k8 :: k6 :: B :: L4)) sub_two)
       have HM9:=Lib.hid ((M7).less (G':=(k8 :: k6 :: B :: L4)) sub_two)
       have HS9:=Lib.hid ((HS4.out).mono (G':=(((j + 1 : Nat) : Int)) + 1) (n':=10 + 5000 * (j + 1)) (by omega) (by omega))
       have HC9:=Lib.hid (show A.bats.length ≤ j + 1 ∧ A.bats.length ≤ j + 1 from ⟨by have:=HAL.out;omega,by have:=HAL.out;omega⟩)
       clear E7 N7 M7 N7c B7 B6 BD C7 C6 CD mC6 E6 ED nD mD tD t6 t7 nC mC hG6 hG7 hU6 hU7 hk6 hk7 hC15 hB15 h156 h158 HE5 HS4 HNN HAL n4c m4c n5c m5c
       go_wp2_with fail
       go_roundw
       case rel=>exact ⟨j + 1,B,L4,lg4,st4,false,A,A,a5,c5,a5,c5,by omega,rfl,rfl,by go_num,HE9,HN9,HM9,HS9,HC9⟩
       case measure=>simp [intOf];omega
end Go.Proofs.YtnnakhdndmjmiaaGreat.Wal
