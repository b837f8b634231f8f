import Derived.Test.YtnnakhdndmjmiaaGreatPuSuperPlain
import Derived.Test.YtnnakhdndmjmiaaGreatPuWalA
import Derived.Test.YtnnakhdndmjmiaaGreatPuSuperI
import Derived.Test.YtnnakhdndmjmiaaGreatPuWalG
import Derived.Test.YtnnakhdndmjmiaaGreatPuFrameB
import Derived.Test.YtnnakhdndmjmiaaGreatPuFrameE
import Derived.BigRegion
import Derived.Maps.AppendAt
import Derived.Defers
set_option linter.unusedVariables false
set_option maxRecDepth 4000
namespace Go.Proofs.YtnnakhdndmjmiaaGreat.Wal
open Go.RowKit DiskP SegsP WalP Disk
open Ints (IntsAt IntsAt.keep cellsI)
open SuperP (Sup)
open FrameP (frs sz Rec tk)
theorem info_strs : (Tryz.prog.info? 22).map (fun i=>(i.zero,i.size,i.bytes)) = some (some (.slice none 0 0),1,24):=by kernel_rfl
theorem append_sl {ops : Array Oper} {rest : List Oper} {o : Oper} {a : Act} {Q : Exit → Act → World → Prop} (hgd : o.guard = none) (s x : Operand)
  (ho : o.op = .call { callee:=.builtin .append,args:=#[s,x],argTypes:=#[49,49] }) (base : Nat) (w : World) (k : Nat) (hk : w.heap.size = k) (a1 : Option Addr) (n1 c1 : Nat)
  (v : Value) (n : Nat) (xs : List Value) (hs : a.eval s = v) (hown : w.ownsRow base 22 1 v n xs) (hx : a.eval x = .slice (some ⟨k,0,none⟩) 1 1)
  (hn : n ≤ 4000000) (hbase : base ≤ w.heap.size)
  (h : ∀ v' w',w'.ownsRow base 22 1 v' (n + 1) (xs ++ [.slice a1 n1 c1]) → (w.alloc (.cells #[.slice a1 n1 c1] 22)).grownBy w' v.ownBlock → (v'.ownBlock = v.ownBlock ∨ v'.ownBlock = some (w.heap.size + 1)) → wpList Tryz.prog ops Q rest (a.put o.dst v') w') :
  wpList Tryz.prog ops Q (o :: rest) a (w.alloc (.cells #[.slice a1 n1 c1] 22)):=by
 subst hk
 obtain ⟨i0,hi,hz0,hz1,hz2⟩:=info_parts info_strs
 refine wpList_append_own_at _ hgd s x 49 ho base 22 i0 _ 1 24 Tryz.underlying49 hi hz0 hz1 hz2 rfl (by decide) v n xs hs (hown.alloc _) ⟨w.heap.size,0,none⟩ 1 1 [.slice a1 n1 c1] hx rfl (Ints.cell_one_new _ _ _) (by simp [Value.oneCell']) ?_ ?_ ?_ fun v' w' h1 h2 _ h4=>h v' w' h1 h2 (by rw [World.size_alloc] at h4;exact h4)
 ·unfold maxLen;omega
 ·omega
 ·simp;omega
def slLen : Value → Nat
 | .slice _ n _=>n
 | _=>0
def RowsF (w : World) (F : List Nat) (rows : List Value) (i : Nat) (B : List (List (List UInt8))) : Prop := ∀ j,j < i → ∃ a' n' c',rows[j]? = some (.slice a' n' c') ∧ (a' = none → c' = 0) ∧ StrsF w F a' n' ((B.getD j []).map bs)
theorem RowsF.upd {w w' : World} {F F' : List Nat} {rows : List Value} {i : Nat} {B : List (List (List UInt8))} (h : RowsF w F rows i B) (hU : Upd F w w' F') : RowsF w' F' rows i B:=fun j hj=>by
 obtain ⟨a',n',c',h1,h2,h3⟩:=h j hj
 exact ⟨a',n',c',h1,h2,h3.upd hU⟩
theorem RowsF.snoc {w : World} {F : List Nat} {rows : List Value} {i : Nat} {B : List (List (List UInt8))} (h : RowsF w F rows i B) (hl : rows.length = i) {a : Option Addr} {n c : Nat} (hn : a = none → c = 0) (hs : StrsF w F a n ((B.getD i []).map bs)) : RowsF w F (rows ++ [.slice a n c]) (i + 1) B:=fun j hj=>by
 by_cases e : j < i
 ·obtain ⟨a',n',c',h1,h2,h3⟩:=h j e
  exact ⟨a',n',c',by rw [List.getElem?_append_left (by omega)];exact h1,h2,h3⟩
 ·obtain rfl : j = i:=by omega
  exact ⟨a,n,c,by rw [← hl];simp,hn,hs⟩
def lgi (x : Sup) (l : List (List UInt8)) (i : Nat) : Lg:=⟨x,upto x l i,x.base + i,false⟩
theorem ls_mk {w w' : World} {L : List Nat} {b d : Nat} {lg lg' : Lg} {st : St} {ca la : Option Addr} {cc lc : Nat} (hD : Dk w L d st) (hk : LkAt w b d lg ca cc la lc) (h1 : b ∉ L) (h2 : 0 < lg.x.chk.length → ∀ y,ca = some y → y.block ∉ b :: L) (h3 : 0 < lg.x.log.length → ∀ y,la = some y → y.block ∉ b :: L)
  (hx : lg'.x = lg.x) (hU : Upd [b] w w' [b]) (hb : w'.heap[b]? = some (lgObj d lg' ca cc la lc)) : LS w' L b d lg' st:=by
 have hbL:=hD.lt
 have e1 : lg'.x.chk = lg.x.chk:=by rw [hx]
 have e2 : lg'.x.log = lg.x.log:=by rw [hx]
 refine ⟨hD.keep fun k hm=>hU.block k (hbL k hm) (fun hm'=>h1 (by rw [← List.mem_singleton.1 hm'];exact hm)),ca,cc,la,lc,⟨hb,?_,?_,hk.cn,hk.ln⟩,h1,by rw [e1];exact h2,by rw [e2];exact h3⟩
 ·rw [e1];exact ints_other hk.chk (fun h0 y hy hm=>h2 h0 y hy (by rw [List.mem_singleton.1 hm];simp)) hU
 ·rw [e2];exact ints_other hk.log (fun h0 y hy hm=>h3 h0 y hy (by rw [List.mem_singleton.1 hm];simp)) hU
theorem upd_then_below {M : List Nat} {w w1 w2 : World} (hU : Upd M w w1 M) (hb : Below w.heap.size w1 w2) : Upd M w w2 M :=
 ⟨hb.os.trans hU.os,hb.tape.trans hU.tape,hb.output.trans hU.output,Nat.le_trans hU.size hb.size,fun k hk hn=>(hb.block k hk).trans (hU.block k hk hn),fun k hk=>.inl hk⟩
theorem upd_more {M N : List Nat} {w w1 : World} (hU : Upd M w w1 M) (hs : ∀ k ∈ M,k ∈ N) : Upd N w w1 N :=
 ⟨hU.os,hU.tape,hU.output,hU.size,fun k hk hn=>hU.block k hk (fun g=>hn (hs k g)),fun k hk=>.inl hk⟩
theorem upd_two (w : World) (b : Nat) (i j : Nat) (u v : Value) : Upd [b] w ((w.setCell ⟨b,i,none⟩ u).setCell ⟨b,j,none⟩ v) [b] :=
 (Upd.of_grown (Lib.grownBy_setCell (w:=w) (b:=b) (i:=i) (v:=u)) (by simp)).trans (Upd.of_grown (Lib.grownBy_setCell (w:=w.setCell ⟨b,i,none⟩ u) (b:=b) (i:=j) (v:=v)) (by simp))
theorem RowsF.less {w : World} {F G : List Nat} {rows : List Value} {i : Nat} {B : List (List (List UInt8))} (h : RowsF w F rows i B) (hs : ∀ k ∈ G,k ∈ F) : RowsF w G rows i B:=fun j hj=>by
 obtain ⟨a',n',c',h1,h2,h3⟩:=h j hj
 exact ⟨a',n',c',h1,h2,h3.1,fun h0 y hy hm=>h3.2 h0 y hy (hs _ hm)⟩
theorem bats_of {w : World} {F : List Nat} {B0 n c : Nat} {a : Option Addr} {rows : List Value} {B : List (List (List UInt8))} (ho : w.ownsRow B0 22 1 (.slice a n c) n rows) (hr : RowsF w F rows n B) (hn : B.length = n) (hF : ∀ k ∈ F,k < B0) : (a = none → c = 0) ∧ BatsF w F a n B:=by
 rcases ho.2 with ⟨hv,h0⟩ | ⟨g,cap,cur,hv,hbg,hg,_⟩
 ·cases hv
  exact ⟨fun _=>rfl,hn.symm,.inl rfl⟩
 ·cases hv
  refine ⟨fun h=>(by cases h),hn.symm,.inr ⟨g,0,rfl,(Array.getElem?_eq_some_iff.1 hg).1,fun hm=>by have:=hF _ hm;omega,fun i hi=>?_⟩⟩
  obtain ⟨a',n',c',h1,h2,h3⟩:=hr i hi
  exact ⟨a',n',c',by rw [Nat.zero_add];exact Disk.owns_cell ho rfl h1,h2,h3⟩
theorem take_frs (r : List (List UInt8)) (ht : Takes r) (w : World) : Calls Tryz.prog 102 #[.string (bs (frs r))] w fun e w' => ∃ a c,e = .returned (.tuple #[.slice a r.length c,.int .i64 0]) ∧ StrsAt w' a r.length (r.map bs) ∧ Below w.heap.size w w' ∧ (∀ y,a = some y → w.heap.size ≤ y.block) ∧ (a = none → c = 0):=by
 have hsz : (bs (frs r)).size ≤ 100000:=by rw [bs_size,FrameP.frs_length];have:=ht.2.2;omega
 have h:=Frame.take_any (bs (frs r)) w hsz
 unfold Frame.TakeP at h
 rw [show (bs (frs r)).data.toList = frs r from rfl,FrameP.tk_all r ht.2.1] at h
 exact h
set_option maxHeartbeats 4000000 in
theorem batches_ls (L : List Nat) (b d n : Nat) (st : St) (w : World) (x : Sup) (K : Kept) (h : LS w L b d ⟨x,0,x.base,false⟩ st) (hok : Ok n st) (hn : n ≤ 900000) (hi : Idle st) (hg : WalP.Good st.S x K.base (octs K.bats)) (ht : ∀ b ∈ K.bats,Takes b) (X : List Nat) (hX : ∀ k ∈ X,k < w.heap.size) :
  Calls Tryz.prog 50 #[.pointer (some ⟨b,0,none⟩)] w fun e w' => ∃ a c,e = .returned (.slice a K.bats.length c) ∧ (a = none → c = 0) ∧ BatsF w' (X ++ b :: L) a K.bats.length K.bats ∧ LS w' L b d ⟨x,atn x (octs K.bats),x.base + K.bats.length,false⟩ st ∧ Upd (b :: L) w w' (b :: L):=by
 have hfs:=fit_segs hg.fit
 have hrg:=secs_range hg.named
 rw [secs_app] at hrg
 have hlr : ∀ p ∈ secs x.log,0 ≤ p ∧ p < (st.S.length : Int):=fun p hp=>by have:=hrg p (List.mem_append_right _ hp);exact ⟨this.1,this.2.1⟩
 have hlog : 0 < x.log.length:=hg.fit.2.2.1.2.2.2.2.2.2.1
 have hcl : (x.chk ++ x.log).length ≤ 63:=SuperP.segs_len hfs
 have hsl : (secs x.log).length = 8 * x.log.length:=secs_length fun k hk=>fit_range hg.fit k (List.mem_append_right _ hk)
 have hll : x.log.length ≤ 63:=by rw [List.length_append] at hcl;omega
 have hnm:=fit_nums hg.fit
 have hol:=octs_length K.bats
 have hnum:=hg.num
 rw [hol] at hnum
 have hget : ∀ i,i < K.bats.length → (octs K.bats).getD i [] = frs (K.bats.getD i []):=fun i hi=>by simp [octs,List.getD,hi]
 have hseen : ∀ i,WalP.seen st ((secs x.log).drop (upto x (octs K.bats) i)) = (at_ st.S (secs x.log)).drop (upto x (octs K.bats) i):=fun i=>by
  rw [at_drop];exact seen_idle hi fun p hp=>hlr p (List.mem_of_mem_drop hp)
 have hstep : ∀ i,i < K.bats.length → txV (x.base.toNat + 1 + i) (WalP.seen st ((secs x.log).drop (upto x (octs K.bats) i))) = .tuple #[.string (bs (frs (K.bats.getD i []))),.int .i64 (pc (frs (K.bats.getD i [])).length : Int),.bool true]:=fun i hi=>by
  have:=WalP.run_step hg (i:=i) (by rw [hol];exact hi)
  rw [← hseen,hget i hi] at this
  exact txV_some this
 have hstop : txV (x.base.toNat + 1 + K.bats.length) (WalP.seen st ((secs x.log).drop (upto x (octs K.bats) K.bats.length))) = .tuple #[.string ⟨#[]⟩,.int .i64 0,.bool false]:=by
  have:=WalP.run_stop hg
  rw [hol,← hseen] at this
  exact txV_none this
 have hrr : ∀ p ∈ secs x.log,(rd st p).2 = 0 ∧ (rd st p).1.size ≤ 9223372036854775807:=fun p hp=>by
  have hp2:=hlr p hp
  rw [rd_idle hi hp2]
  refine ⟨rfl,?_⟩
  show (sec st.S p.toNat).size ≤ _
  rw [sec_size hok (by omega)];decide
 have hleft:=fun i w1 (h1 : LS w1 L b d (lgi x (octs K.bats) i) st)=>left_ls L b d (lgi x (octs K.bats) i) st w1 h1 (by show x.log.length ≤ 80;omega) (by show 0 < (secs x.log).length;omega) (upto_le hg i)
 have htext:=fun i w1 (h1 : LS w1 L b d (lgi x (octs K.bats) i) st) a c (hI : IntsAt w1 a ((secs x.log).drop (upto x (octs K.bats) i)).length ((secs x.log).drop (upto x (octs K.bats) i))) (hiK : i ≤ K.bats.length) =>
  text_ls L b d n (x.base.toNat + 1 + i) (lgi x (octs K.bats) i) st w1 h1 hok hn a _ c _ hI (by rw [List.length_drop];omega) (fun p hp=>hrr p (List.mem_of_mem_drop hp)) (by omega)
 have HLEFT:=Lib.hid hleft;have HTEXT:=Lib.hid htext;have HSTEP:=Lib.hid hstep;have HSTOP:=Lib.hid hstop
 have HTAKE:=Lib.hid (fun i (hi : i < K.bats.length)=>ht (K.bats.getD i []) (by simp [List.getD,hi]))
 have HUP:=Lib.hid (fun i (hi : i < K.bats.length)=>(show upto x (octs K.bats) (i + 1) = upto x (octs K.bats) i + pc (frs (K.bats.getD i [])).length by rw [← hget i hi];exact upto_succ x (octs K.bats) (by rw [hol];exact hi)))
 have HALL:=Lib.hid (show upto x (octs K.bats) K.bats.length = atn x (octs K.bats) by rw [← hol];exact upto_all x (octs K.bats))
 have h':=h
 obtain ⟨hD0,ca,cc,la,lc,hk0,k1,k2,k3⟩:=h'
 have HMK:=Lib.hid (fun i w' (hU : Upd [b] w w' [b]) (hb : w'.heap[b]? = some (lgObj d (lgi x (octs K.bats) i) ca cc la lc))=>(ls_mk (lg':=lgi x (octs K.bats) i) hD0 hk0 k1 k2 k3 rfl hU hb))
 have HBK:=Lib.hid (show w.heap[b]? = some (lgObj d (lgi x (octs K.bats) 0) ca cc la lc) by rw [hk0.blk];unfold lgi lgObj;rw [upto_zero];simp)
 have HLE:=Lib.hid (fun i=>upto_le hg i)
 have hbb:=h.lk.lt
 have hpos : ∀ i,upto x (octs K.bats) i ≤ 504:=fun i=>by have:=upto_le hg i;omega
 have HPOS:=Lib.hid hpos
 clear hleft htext hstep hstop hrr hseen hget ht hg hi hlr hrg hfs hok hol
 have hm : K.bats.length ≤ 504:=by
  have h1:=hpos K.bats.length
  rw [← octs_length K.bats,upto_all] at h1
  have h2:=laid_long (octs K.bats) (x.base.toNat + 1)
  rw [octs_length] at h2
  unfold atn at h1;omega
 have hLlt:=h.dk.lt
 have HX:=Lib.hid hX
 clear h hpos hD0 hk0 k1 k2 k3 hX
 have HBM:=Lib.hid (show ∃ m,K.bats.length = m from ⟨_,rfl⟩)
 generalize K.bats = B at *
 obtain ⟨m,hmm⟩:=HBM.out
 have HBL:=Lib.hid hmm
 rw [hmm] at HTEXT HSTEP HSTOP HTAKE HUP HALL hm hnum ⊢
 clear hcl hll hsl hmm HBM
 go_enter Tryz.func50,Tryz.ntmps50
 go_wp2_with fail
 go_loopw [3] (fun v wr => ∃ (i : Nat) (rows : List Value),i ≤ m ∧ slLen v = i ∧ Hid (rows.length = i) ∧ Hid (wr.ownsRow w.heap.size 22 1 v i rows) ∧ Hid (RowsF wr (v.ownBlock.toList ++ (X ++ b :: L)) rows i B) ∧ Hid (Upd [b] w wr [b]) ∧ Hid (wr.heap[b]? = some (lgObj d (lgi x (octs B) i) ca cc la lc))) (fun v _=>m - slLen v)
 case atStart=>exact ⟨0,[],Nat.zero_le _,rfl,Lib.hid rfl,Lib.hid (World.ownsRow_nil _ _ _ _),Lib.hid (fun j hj=>absurd hj (Nat.not_lt_zero _)),Lib.hid (Upd.refl _ _),HBK⟩
 case round =>
  obtain ⟨i,rows,hi,hsl,hrl,hO,hR,hU,hBK⟩:=hrel
  have hL:=Lib.hid (HMK.out i wr hU.out hBK.out)
  obtain ⟨R,hRR⟩ : ∃ R,(secs x.log).drop (upto x (octs B) i) = R:=⟨_,rfl⟩
  have hcl : Calls Tryz.prog 53 #[.pointer (some ⟨b,0,none⟩)] wr.drew (IntsOut R wr.drew):=by rw [← hRR];exact HLEFT.out i _ hL.out.drew
  have hc7 : wr.cell? ⟨b,7,none⟩ = some (.int .i64 (x.base + i)):=by
   obtain ⟨hD,ca,cc,la,lc,hk,h1,h2,h3⟩:=hL.out
   exact (lk_cells hk).2.2.2.2.2.2.2.1
  have hnx : IntKind.i64.wrap (x.base + i + 1) = ((x.base.toNat + 1 + i : Nat) : Int):=by rw [IntWalk.i64_in] <;> omega
  have hbr:=hL.out.lk.lt
  have HCL:=Lib.hid hcl
  clear hcl
  obtain ⟨nn,hnn⟩ : ∃ nn : Nat,x.base.toNat + 1 + i = nn:=⟨_,rfl⟩
  rw [hnn] at hnx
  have htx:=fun w1 h1 a c hI=>HTEXT.out i w1 h1 a c hI hi
  rw [hnn] at htx
  have HLB:=Lib.hid (fun w' (hb : Below wr.heap.size wr w')=>hL.out.below hb)
  have hB0 : Below wr.heap.size wr wr.drew:=(Below.refl _ wr).drew
  obtain ⟨a0,c0,hv⟩:=owns_slice0 hO.out
  subst hv
  by_cases hlt : i < m
  rotate_left
  ·obtain rfl : i = m:=by omega
   rw [← hnn,HSTOP.out,hRR,hnn] at htx
   have HTX:=Lib.hid htx
   have HO:=Lib.hid hO.out
   have HHA:=HALL.out
   clear hRR htx hnn HTEXT HSTEP HTAKE HLEFT HUP HPOS HLE HBK
   go_wp2_with fail
   go_region_held3 (fun w'=>w'.cell? ⟨b,7,none⟩ = some (.int .i64 (x.base + i)))
    (first | with_reducible exact f7 | with_reducible exact g7 | exact hc7)
    (first
     | (go_at_call 101;refine (HTX.out w1 (HLB.out _ HB1.out) a1 c1 hI1).mono ?_;rintro e w2 ⟨rfl,hB2⟩;have HB2:=Lib.hid (HB1.out.trans (hB2.mono HB1.out.size));have f7:=(HB2.out.cell (p:=⟨b,7,none⟩) hbr).trans hc7)
     | (go_at_call 53;refine HCL.out.mono ?_;rintro e w1 ⟨a1,c1,rfl,hI1,hc1,hn1,hB1,hw1⟩;have HB1 : Hid (Below wr.heap.size wr w1):=Lib.hid ⟨hB1.os,hB1.tape,hB1.output,hB1.size,hB1.block⟩;have g7:=(HB1.out.cell (p:=⟨b,7,none⟩) hbr).trans hc7))
   have HU2:=Lib.hid (hU.out.trans (Upd.of_below HB2.out))
   have HLR:=Lib.hid (HLB.out _ HB2.out)
   have HOR:=Lib.hid (owns_heap HO.out fun k hk=>HB2.out.block k (owns_lt HO.out hk))
   have HRR:=Lib.hid ((hR.out.less (fun k hk=>List.mem_append_right _ hk)).upd (Upd.of_below HB2.out))
   clear f7 g7 hI1 hc1 hn1 hw1 hB1 hB2 hc7 HTX HCL HLB hO hR hL hU HO hnx
   go_wp2_with fail
   go_ret
   obtain ⟨q1,q2⟩:=bats_of HOR.out HRR.out HBL.out (fun k hk=>by
    rcases List.mem_append.1 hk with hk | hk
    ·exact HX.out k hk
    rcases List.mem_cons.1 hk with rfl | hk
    ·exact hbb
    ·exact hLlt k hk)
   refine ⟨a0,c0,rfl,q1,q2,?_,upd_more HU2.out (fun k hk=>by rw [List.mem_singleton.1 hk];simp)⟩
   rw [← HHA];exact HLR.out
  ·rw [← hnn,HSTEP.out i hlt,hRR,hnn] at htx
   obtain ⟨r,hr⟩ : ∃ r,B.getD i [] = r:=⟨_,rfl⟩
   have HTK:=HTAKE.out i hlt
   have hup:=HUP.out i hlt
   rw [hr] at htx HTK hup
   have HTX:=Lib.hid htx
   have HTF:=Lib.hid (take_frs r HTK)
   have hr0 : ¬ ((r.length : Int) = 0):=by
    have:=HTK.1
    intro h0
    exact this (List.length_eq_zero_iff.1 (by omega))
   have hr1 : ((r.length : Int) == 0) = false:=beq_eq_false_iff_ne.2 hr0
   obtain ⟨pcs,hpcs⟩ : ∃ pcs,pc (frs r).length = pcs:=⟨_,rfl⟩
   rw [hpcs] at HTX hup
   have hpl:=HPOS.out (i + 1)
   have hc8 : wr.cell? ⟨b,8,none⟩ = some (.int .i64 ((upto x (octs B) i : Nat) : Int)):=by
    obtain ⟨hD,ca,cc,la,lc,hk,h1,h2,h3⟩:=hL.out
    exact (lk_cells hk).2.2.2.2.2.2.2.2.1
   obtain ⟨u,hu⟩ : ∃ u,upto x (octs B) i = u:=⟨_,rfl⟩
   rw [hu] at hup hc8
   rw [hup] at hpl
   have HUPP:=Lib.hid hup
   have HRB:=Lib.hid hr
   have HO:=Lib.hid hO.out
   have HUU:=Lib.hid hu
   have hsum : IntKind.i64.wrap ((u : Int) + (pcs : Int)) = (u : Int) + pcs:=by rw [IntWalk.i64_in] <;> omega
   have HNX:=Lib.hid (show ((nn : Nat) : Int) = x.base + (i + 1 : Nat) by omega)
   generalize bs (frs r) = fb at *
   clear hRR htx hnn HTEXT HSTEP HTAKE HLEFT HUP HPOS HLE HTK hr hup hu hr0 hpcs HSTOP
   go_wp2_with fail
   go_region_held3 (fun w'=>w'.cell? ⟨b,7,none⟩ = some (.int .i64 (x.base + i)))
    (first | with_reducible exact f7 | with_reducible exact g7 | exact hc7)
    (first
     | (go_at_call 101;refine (HTX.out w1 (HLB.out _ HB1.out) a1 c1 hI1).mono ?_;rintro e w2 ⟨rfl,hB2⟩;have HB2:=Lib.hid (HB1.out.trans (hB2.mono HB1.out.size));have f7:=(HB2.out.cell (p:=⟨b,7,none⟩) hbr).trans hc7)
     | (go_at_call 53;refine HCL.out.mono ?_;rintro e w1 ⟨a1,c1,rfl,hI1,hc1,hn1,hB1,hw1⟩;have HB1 : Hid (Below wr.heap.size wr w1):=Lib.hid ⟨hB1.os,hB1.tape,hB1.output,hB1.size,hB1.block⟩;have g7:=(HB1.out.cell (p:=⟨b,7,none⟩) hbr).trans hc7))
   clear f7 g7 hI1 hc1 hn1 hw1 hB1 hB2 HTX HCL
   go_wp2_with fail
   refine (HTF.out w2).mono ?_
   rintro e w3 ⟨a3,c3,rfl,hS3,hb3,hf3,hn3⟩
   have HB3:=Lib.hid (HB2.out.trans (hb3.mono HB2.out.size))
   have hs3 : wr.heap.size ≤ w3.heap.size:=HB3.out.size
   have HO3:=Lib.hid (owns_heap HO.out fun k hk=>HB3.out.block k (owns_lt HO.out hk))
   have hws:=hU.out.size
   clear hb3 HTF
   go_wp2_with (at_builtin;refine append_sl rfl (.tmp 38) (.tmp 40) rfl w.heap.size w3 w3.heap.size rfl a3 r.length c3 (.slice a0 i c0) i rows rfl HO3.out rfl (by omega) (by omega) ?_)
   intro v' w5 hown hgr hwh
   have HS:=Lib.hid (show StrsF w3 ((Value.slice a0 i c0).ownBlock.toList ++ (X ++ b :: L)) a3 r.length (r.map bs) from ⟨hS3,fun h0 y hy hm=>by
    have g1:=hf3 y hy
    have g2:=HB2.out.size
    rcases List.mem_append.1 hm with g | g
    ·have:=owns_lt HO.out (k:=y.block) (by simpa using g);omega
    ·rcases List.mem_append.1 g with g | g
     ·have:=HX.out _ g;omega
     rcases List.mem_cons.1 g with g | g
     ·omega
     ·have:=hLlt _ g;omega⟩)
   have HBW : Hid (Below w.heap.size w3 w5):=Lib.hid (((Below.refl _ w3).mono (by omega) |>.alloc (by omega) (.cells #[.slice a3 r.length c3] 22)).grown hgr (by rw [World.size_alloc];omega) (fun q hq=>(HO3.out.lt q hq).1))
   have hU35 : Upd ((Value.slice a0 i c0).ownBlock.toList ++ (X ++ b :: L)) w3 w5 (v'.ownBlock.toList ++ (X ++ b :: L)):=by
    refine ⟨HBW.out.os,HBW.out.tape,HBW.out.output,HBW.out.size,fun k hk hn=>?_,fun k hk=>?_⟩
    ·refine (hgr.block k (by rw [World.size_alloc];omega) (fun e=>hn ?_)).trans (Below.heap_alloc _ _ _ hk)
     rw [← e];simp
    ·rcases List.mem_append.1 hk with g | g
     ·rcases hwh with e | e
      ·rw [e] at g;exact .inl (List.mem_append_left _ g)
      ·rw [e] at g
       have : k = w3.heap.size + 1:=by simpa using g
       exact .inr (by omega)
     ·exact .inl (List.mem_append_right _ g)
   have hR3:=hR.out.upd (Upd.of_below HB3.out (L:=(Value.slice a0 i c0).ownBlock.toList ++ (X ++ b :: L)))
   have HR5:=Lib.hid ((hR3.upd hU35).snoc hrl.out hn3 (by rw [HRB.out];exact HS.out.upd hU35))
   have HO5:=Lib.hid hown
   have hB5 : Below w.heap.size wr w5:=(HB3.out.mono hws).trans HBW.out
   have HU5:=Lib.hid (upd_then_below hU.out hB5)
   have hBK5 : w5.heap[b]? = some (lgObj d (lgi x (octs B) i) ca cc la lc):=(hB5.block b hbb).trans hBK.out
   have HBK5:=Lib.hid hBK5
   have d7 : w5.cell? ⟨b,7,none⟩ = some (.int .i64 (x.base + i)):=cell_of_heap hBK5
   have d8 : w5.cell? ⟨b,8,none⟩ = some (.int .i64 (u : Int)):=by rw [← HUU.out];exact cell_of_heap hBK5
   have f7 : w5.frozen? ⟨b,7,none⟩ = false:=frozen_of_heap hBK5
   have f8 : w5.frozen? ⟨b,8,none⟩ = false:=frozen_of_heap hBK5
   have HRL:=Lib.hid hrl.out
   have HV:=Lib.hid (owns_slice0 hown)
   clear hown hgr hwh hU35 hR3 hB5 hBK5 HBW HS hS3 hf3 hn3 HB3 HB2 HO3 HO hO hR hU hBK hL hc7 hc8 HLB hrl hs3 hws hbr
   go_wp2_with fail
   have hU6:=upd_two w5 b 7 8 (.int .i64 (nn : Int)) (.int .i64 ((u : Int) + (pcs : Int)))
   have e1:=Lib.heap_setCell_same (i:=7) HBK5.out (.int .i64 (nn : Int))
   have e2:=Lib.heap_setCell_same (i:=8) e1 (.int .i64 ((u : Int) + (pcs : Int)))
   have hb6 : ((w5.setCell ⟨b,7,none⟩ (.int .i64 (nn : Int))).setCell ⟨b,8,none⟩ (.int .i64 ((u : Int) + (pcs : Int)))).drew.heap[b]? = some (lgObj d (lgi x (octs B) (i + 1)) ca cc la lc):=by
    have e3 : lgi x (octs B) (i + 1) = ⟨x,u + pcs,x.base + (i + 1 : Nat),false⟩:=by unfold lgi;rw [HUPP.out]
    have hc : ((u : Int) + (pcs : Int)) = ((u + pcs : Nat) : Int):=by omega
    rw [e3]
    rw [hc,HNX.out] at e2 ⊢
    exact e2
   have HB6:=Lib.hid hb6
   have HU6:=Lib.hid ((HU5.out.trans hU6).drew)
   have HO6 : Hid (((w5.setCell ⟨b,7,none⟩ (.int .i64 (nn : Int))).setCell ⟨b,8,none⟩ (.int .i64 ((u : Int) + (pcs : Int)))).drew.ownsRow w.heap.size 22 1 v' (i + 1) (rows ++ [.slice a3 r.length c3])):=Lib.hid (owns_heap HO5.out fun k hk=>hU6.drew.block k (owns_lt HO5.out hk) (fun hm=>by
    have:=(HO5.out.lt k hk).1
    rw [List.mem_singleton.1 hm] at this
    omega))
   have HR6:=Lib.hid (HR5.out.upd (upd_more hU6.drew (N:=v'.ownBlock.toList ++ (X ++ b :: L)) (fun k hk=>by rw [List.mem_singleton.1 hk];simp)))
   have HSL : Hid (slLen v' = i + 1):=Lib.hid (by obtain ⟨a,c,e⟩:=HV.out;rw [e];rfl)
   have HRL2 : Hid ((rows ++ [Value.slice a3 r.length c3]).length = i + 1):=Lib.hid (by rw [List.length_append,HRL.out];rfl)
   clear hU6 e1 e2 hb6 HU5 HO5 HR5 HV HBK5 HRL
   go_region
   simp only [Exit.inBlock]
   refine ⟨?_,?measure⟩
   (repeat apply Exists.intro)
   refine ⟨?rel,rfl⟩
   case rel=>exact ⟨i + 1,_,by omega,HSL.out,HRL2,HO6,HR6,HU6,HB6⟩
   case measure =>
    have:=HSL.out
    show m - slLen v' < m - i
    omega
end Go.Proofs.YtnnakhdndmjmiaaGreat.Wal
/-
 The contract of Append: a log at rest,or one that stopped.
-/
set_option linter.unusedVariables false
set_option maxRecDepth 4000
namespace Go.Proofs.YtnnakhdndmjmiaaGreat.Wal
open Go.RowKit DiskP SegsP WalP Disk
open Ints (IntsAt IntsAt.keep cellsI)
open SuperP (Sup)
open FrameP (frs sz Rec tk)
theorem join6 {G : Prop} {P F : World → Nat → Nat → Option Addr → Nat → Nat → Prop} (main : (∀ w g c a e k,F w g c a e k → P w g c a e k) → G) (pf : ∀ w g c a e k,F w g c a e k → P w g c a e k) : G:=main pf
def Told (w : World) (L : List Nat) (b d : Nat) (c : Int) (lg : Lg) (st : St) (e : Ending) (w' : World) : Prop :=
 e = .returned (.int .i64 c) ∧ ∃ L',LS w' L' b d lg st ∧ Upd (b :: L) w w' (b :: L')
theorem told_end {w w1 : World} {L L1 : List Nat} {b d : Nat} {lg lg0 : Lg} {st st0 : St} {c : Int} (h : LS w L b d lg0 st0) (h1 : LS w1 L1 b d lg st) (hU : Upd (b :: L) w w1 (b :: L1)) (hk : LS (w1.setCell ⟨w.heap.size,0,none⟩ (.int .i64 c)) L1 b d lg st) :
  Told w L b d c lg st (.returned (.int .i64 c)) (w1.setCell ⟨w.heap.size,0,none⟩ (.int .i64 c)):=by
 refine ⟨rfl,L1,hk,?_⟩
 have hg:=Lib.grownBy_setCell (w:=w1) (b:=w.heap.size) (i:=0) (v:=.int .i64 c)
 exact ⟨hg.os.trans hU.os,hg.tape.trans hU.tape,hg.output.trans hU.output,Nat.le_trans hU.size hg.size,fun k hk hn=>(hg.block k (by have:=hU.size;omega) (fun e=>by cases e;exact Nat.lt_irrefl _ hk)).trans (hU.block k hk hn),hU.sub⟩
theorem ls_cell {w w1 : World} {L L1 : List Nat} {b d : Nat} {lg : Lg} {st st1 : St} (h : LS w L b d lg st) (hD : Dk w1 L1 d st1) (hU : Upd L w w1 L1) (hn : w.heap.size ∉ L1) (i : Nat) (v : Value) :
  LS (w1.setCell ⟨w.heap.size,i,none⟩ v) L1 b d lg st1 ∧ Upd L w (w1.setCell ⟨w.heap.size,i,none⟩ v) L1:=by
 have hg:=Lib.grownBy_setCell (w:=w1) (b:=w.heap.size) (i:=i) (v:=v)
 have hU2 : Upd L w (w1.setCell ⟨w.heap.size,i,none⟩ v) L1:=⟨hg.os.trans hU.os,hg.tape.trans hU.tape,hg.output.trans hU.output,Nat.le_trans hU.size hg.size,fun k hk hn=>(hg.block k (by have:=hU.size;omega) (fun e=>by cases e;exact Nat.lt_irrefl _ hk)).trans (hU.block k hk hn),hU.sub⟩
 exact ⟨h.step (hD.keep fun k hk=>hg.block k (hD.lt k hk) (fun e=>by cases e;exact hn hk)) hU2,hU2⟩
theorem hmf (fn : Fn) (first cap : Array Value) (w : World) : (Instr.makeFunc fn first cap).run Tryz.prog w = .ok (.func fn first cap) w:=rfl
theorem append_early (c : Int) (p : Option Addr) (a : Option Addr) (n cap : Nat) (w : World) (hr : ∀ w1,Below w.heap.size w w1 → Calls Tryz.prog 46 #[.pointer p] w1 fun e w'=>e = Thrown c ∧ w1 = w') :
  Calls Tryz.prog 19 #[.pointer p,.slice a n cap] w fun e w'=>e = .returned (.int .i64 c) ∧ Below w.heap.size w w':=by
 have hf:=hmf
 have hb1 : Below w.heap.size w (w.alloc (.cells #[.int .i64 0] 27)):=(Below.refl _ w).alloc (Nat.le_refl _) _
 have HR:=Lib.hid (hr _ hb1)
 have hN:=heap_alloc_new w (.cells #[.int .i64 0] 27)
 have hc:=cell_of_heap (i:=0) hN
 have hz:=frozen_of_heap (i:=0) hN
 have HB:=Lib.hid (hb1.setCell (p:=⟨w.heap.size,0,none⟩) (Nat.le_refl _) (.int .i64 c))
 have HC:=Lib.hid (acatch_yes ⟨w.heap.size,0,none⟩ c 0 _ hc hz)
 have HRES:=Lib.hid (cell_of_heap (i:=0) (Lib.heap_setCell_same (i:=0) hN (.int .i64 c)))
 clear hr hN hc hz
 go_enter_defers Tryz.func19,Tryz.ntmps19
 go_wp2_with fail
 refine HR.out.mono ?_
 rintro e w1 ⟨rfl,rfl⟩
 refine leaves_cons (f:=54) (args:=#[.pointer (some ⟨w.heap.size,0,none⟩)]) (by simp) (by simp [go_sem]) ?_
 refine HC.out.mono ?_
 rintro e u' w2 ⟨rfl,rfl,rfl⟩
 have hres:=HRES.out
 generalize (w.alloc (.cells #[.int .i64 0] 27)).setCell ⟨w.heap.size,0,none⟩ (.int .i64 c) = w9 at *
 simp [Leaves,settle,results,Tryz.results19]
 go_simp
 exact HB.out
structure Lv (lg : Lg) (st : St) (n : Nat) : Prop where
 fit : SuperP.Fit lg.x
 named : ∀ k ∈ lg.x.chk ++ lg.x.log,k < ((SegsP.cnt (st.S.length : Int) : Nat) : Int)
 pos : lg.pos ≤ (secs lg.x.log).length
 num : 0 ≤ lg.num ∧ lg.num < 1099511627776
 gen : lg.x.gen < 1099511627776
 ok : Ok n st
 nn : n ≤ 800000
 alive : lg.dead = false
 run : st.dead = false
theorem Lv.tk {lg : Lg} {st : St} {n : Nat} (h : Lv lg st n) : Tk lg st n:=by
 have h1:=SuperP.segs_len (fit_segs h.fit)
 have h2 : 0 < lg.x.log.length:=h.fit.2.2.1.2.2.2.2.2.2.1
 have:=h.nn
 have:=h.ok.hi
 exact ⟨by omega,by rw [List.length_append];omega,by omega,h.ok,by omega⟩
theorem Lv.logs {lg : Lg} {st : St} {n : Nat} (h : Lv lg st n) : lg.x.log.length ≤ 63 ∧ 0 < (secs lg.x.log).length ∧ (secs lg.x.log).length = 8 * lg.x.log.length:=by
 have h1:=SuperP.segs_len (fit_segs h.fit)
 rw [List.length_append] at h1
 have h2 : 0 < lg.x.log.length:=h.fit.2.2.1.2.2.2.2.2.2.1
 have h3:=secs_length fun k hk=>fit_range h.fit k (List.mem_append_right _ hk)
 exact ⟨by omega,by omega,h3⟩
theorem dt_bs (recs : List (List UInt8)) : Frame.dt (recs.map bs) = recs:=by
 unfold Frame.dt
 rw [List.map_map]
 exact List.map_id recs
theorem put_takes (recs : List (List UInt8)) (a : Option Addr) (n cap : Nat) (w : World) (hS : StrsAt w a n (recs.map bs)) (ht : Takes recs) (hf : recs.length ≤ 100) :
  Calls Tryz.prog 55 #[.slice a n cap] w fun e w'=>e = .returned (.tuple #[.string (bs (frs recs)),.int .i64 0]) ∧ Below w.heap.size w w':=by
 have hr : ∀ t ∈ recs.map bs,1 ≤ t.size ∧ t.size ≤ 4096:=fun t h=>by
  obtain ⟨r,hr,rfl⟩:=List.mem_map.1 h
  rw [bs_size];exact ht.2.1 r hr
 have h:=Frame.put_yes a n cap (recs.map bs) w hS ⟨by rw [List.length_map];exact hf,fun t h=>by have:=(hr t h).2;omega⟩ hr (by rw [dt_bs];exact ht.2.2)
 rw [dt_bs] at h
 exact h
theorem seal_parts {nn : Nat} {s : List UInt8} (h : Fits nn s) : (seald nn s).length = pc s.length ∧ (∀ i,i < pc s.length → slR (nn : Int) i (pc s.length : Nat) (((pts s).map bs).getD i ByteArray.empty) = ((seald nn s).getD i ByteArray.empty,0)) ∧
  (∀ i,i < pc s.length → (((pts s).map bs).getD i ByteArray.empty).size ≤ 9223372036854775807) ∧ (∀ i,i < pc s.length → ((seald nn s).getD i ByteArray.empty).size ≤ 9223372036854775807):=by
 have hp : ∀ i,i < pc s.length → ((pts s).map bs).getD i ByteArray.empty = bs (pt s i):=fun i hi=>by simp [pts,List.getD,hi]
 have hq : ∀ i,i < pc s.length → (seald nn s).getD i ByteArray.empty = bs (StampP.sl nn i (pc s.length) (pt s i)):=fun i hi=>by simp [List.getD,seald_get hi]
 refine ⟨seald_length _ _,fun i hi=>?_,fun i hi=>?_,fun i hi=>?_⟩
 ·rw [hp i hi,hq i hi]
  unfold slR
  rw [if_pos (fits_fit h hi),if_pos (by rw [bs_size];exact pt_length _ _)]
  rfl
 ·rw [hp i hi,bs_size];have:=pt_length s i;omega
 ·have:=seald_size (num:=nn) (s:=s) _ (List.mem_iff_getElem?.2 ⟨i,seald_get hi⟩)
  rw [hq i hi,this];decide
end Go.Proofs.YtnnakhdndmjmiaaGreat.Wal
/-
 The contract of Append: a log that goes on,room for the batch.
-/
set_option linter.unusedVariables false
set_option maxRecDepth 4000
namespace Go.Proofs.YtnnakhdndmjmiaaGreat.Wal
open Go.RowKit DiskP SegsP WalP Disk
open Ints (IntsAt IntsAt.keep cellsI)
open SuperP (Sup)
open FrameP (frs sz Rec tk)
abbrev sixAt (w : World) (b : Nat) (x : Sup) (ca : Option Addr) (cc : Nat) (la : Option Addr) (lc : Nat) : Prop :=
 w.cell? ⟨b,1,none⟩ = some (.int .i64 x.gen) ∧ w.cell? ⟨b,2,none⟩ = some (.int .i64 x.base) ∧ w.cell? ⟨b,3,none⟩ = some (.int .i64 x.size) ∧ w.cell? ⟨b,4,none⟩ = some (.int .i64 x.cg) ∧ w.cell? ⟨b,5,none⟩ = some (.slice ca x.chk.length cc) ∧ w.cell? ⟨b,6,none⟩ = some (.slice la x.log.length lc)
theorem six_keep {w w1 : World} {b : Nat} {x : Sup} {ca la : Option Addr} {cc lc : Nat} (h : sixAt w b x ca cc la lc) (hb : b < w.heap.size) (hB : Below w.heap.size w w1) : sixAt w1 b x ca cc la lc ∧ Below w.heap.size w w1 :=
 ⟨⟨(hB.cell (p:=⟨b,1,none⟩) hb).trans h.1,(hB.cell (p:=⟨b,2,none⟩) hb).trans h.2.1,(hB.cell (p:=⟨b,3,none⟩) hb).trans h.2.2.1,(hB.cell (p:=⟨b,4,none⟩) hb).trans h.2.2.2.1,(hB.cell (p:=⟨b,5,none⟩) hb).trans h.2.2.2.2.1,(hB.cell (p:=⟨b,6,none⟩) hb).trans h.2.2.2.2.2⟩,hB⟩
theorem six_next {w1 w2 w3 : World} {b : Nat} {x : Sup} {ca la : Option Addr} {cc lc : Nat} (h : sixAt w2 b x ca cc la lc) (hb : b < w1.heap.size) (h1 : Below w1.heap.size w1 w2) (h2 : Below w2.heap.size w2 w3) : sixAt w3 b x ca cc la lc ∧ Below w1.heap.size w1 w3 :=
 ⟨(six_keep h (by have:=h1.size;omega) h2).1,h1.trans (h2.mono h1.size)⟩
theorem ls_gen {w w' : World} {L L' : List Nat} {b d : Nat} {lg lg' : Lg} {st' : St} {ca la : Option Addr} {cc lc : Nat} (hk : LkAt w b d lg ca cc la lc) (h2 : 0 < lg.x.chk.length → ∀ y,ca = some y → y.block ∉ b :: L) (h3 : 0 < lg.x.log.length → ∀ y,la = some y → y.block ∉ b :: L)
  (hx : lg'.x = lg.x) (hU : Upd (b :: L) w w' (b :: L')) (hb : w'.heap[b]? = some (lgObj d lg' ca cc la lc)) (hD : Dk w' L' d st') (hn : b ∉ L') : LS w' L' b d lg' st':=by
 have e1 : lg'.x.chk = lg.x.chk:=by rw [hx]
 have e2 : lg'.x.log = lg.x.log:=by rw [hx]
 refine ⟨hD,ca,cc,la,lc,⟨hb,?_,?_,hk.cn,hk.ln⟩,hn,?_,?_⟩
 ·rw [e1];exact ints_other hk.chk h2 hU
 ·rw [e2];exact ints_other hk.log h3 hU
 ·rw [e1];exact fun h0 y hy=>upd_out hU (ints_lt hk.chk h0 y hy) (h2 h0 y hy)
 ·rw [e2];exact fun h0 y hy=>upd_out hU (ints_lt hk.log h0 y hy) (h3 h0 y hy)
theorem upd_own {w w1 : World} {M M1 : List Nat} (hU : Upd M w w1 M1) (i : Nat) (v : Value) : Upd M w (w1.setCell ⟨w.heap.size,i,none⟩ v) M1:=by
 have hg:=Lib.grownBy_setCell (w:=w1) (b:=w.heap.size) (i:=i) (v:=v)
 exact ⟨hg.os.trans hU.os,hg.tape.trans hU.tape,hg.output.trans hU.output,Nat.le_trans hU.size hg.size,fun k hk hn=>(hg.block k (by have:=hU.size;omega) (fun e=>by cases e;exact Nat.lt_irrefl _ hk)).trans (hU.block k hk hn),hU.sub⟩
theorem own_block {w1 : World} {k j : Nat} (i : Nat) (v : Value) (hj : j < w1.heap.size) (h : j ≠ k) : (w1.setCell ⟨k,i,none⟩ v).heap[j]? = w1.heap[j]? :=
 (Lib.grownBy_setCell (w:=w1) (b:=k) (i:=i) (v:=v)).block j hj (fun e=>by cases e;exact h rfl)
def put8 (w : World) (b : Nat) (v1 v2 v3 v4 v5 v6 v7 v8 : Value) : World:=(((((((w.setCell ⟨b,1,none⟩ v1).setCell ⟨b,2,none⟩ v2).setCell ⟨b,3,none⟩ v3).setCell ⟨b,4,none⟩ v4).setCell ⟨b,5,none⟩ v5).setCell ⟨b,6,none⟩ v6).setCell ⟨b,7,none⟩ v7).setCell ⟨b,8,none⟩ v8
theorem upd_set (w : World) (b i : Nat) (v : Value) : Upd [b] w (w.setCell ⟨b,i,none⟩ v) [b]:=Upd.of_grown (Lib.grownBy_setCell (w:=w) (b:=b) (i:=i) (v:=v)) (by simp)
theorem upd_put8 (w : World) (b : Nat) (v1 v2 v3 v4 v5 v6 v7 v8 : Value) : Upd [b] w (put8 w b v1 v2 v3 v4 v5 v6 v7 v8) [b]:=by
 have h1:=upd_set w b 1 v1
 have h2:=h1.trans (upd_set _ b 2 v2)
 have h3:=h2.trans (upd_set _ b 3 v3)
 have h4:=h3.trans (upd_set _ b 4 v4)
 have h5:=h4.trans (upd_set _ b 5 v5)
 have h6:=h5.trans (upd_set _ b 6 v6)
 have h7:=h6.trans (upd_set _ b 7 v7)
 exact h7.trans (upd_set _ b 8 v8)
set_option maxHeartbeats 1000000 in
theorem heap_put8 {w : World} {b : Nat} {x0 x1 x2 x3 x4 x5 x6 x7 x8 x9 : Value} {ty : TypeId} (h : w.heap[b]? = some (.cells #[x0,x1,x2,x3,x4,x5,x6,x7,x8,x9] ty (0,0))) (v1 v2 v3 v4 v5 v6 v7 v8 : Value) : (put8 w b v1 v2 v3 v4 v5 v6 v7 v8).heap[b]? = some (.cells #[x0,v1,v2,v3,v4,v5,v6,v7,v8,x9] ty (0,0)):=by
 unfold put8
 have h1:=Lib.heap_setCell_same (i:=1) h v1
 have h2:=Lib.heap_setCell_same (i:=2) h1 v2
 have h3:=Lib.heap_setCell_same (i:=3) h2 v3
 have h4:=Lib.heap_setCell_same (i:=4) h3 v4
 have h5:=Lib.heap_setCell_same (i:=5) h4 v5
 have h6:=Lib.heap_setCell_same (i:=6) h5 v6
 have h7:=Lib.heap_setCell_same (i:=7) h6 v7
 have h8:=Lib.heap_setCell_same (i:=8) h7 v8
 rw [h8]
 rfl
theorem app_end {w w5 wq : World} {L L5 : List Nat} {b d : Nat} {lg lg' : Lg} {st1 : St} {ca la : Option Addr} {cc lc : Nat} (hk : LkAt w b d lg ca cc la lc) (h2 : 0 < lg.x.chk.length → ∀ y,ca = some y → y.block ∉ b :: L) (h3 : 0 < lg.x.log.length → ∀ y,la = some y → y.block ∉ b :: L)
  (hx : lg'.x = lg.x) (hUw : Upd L w w5 L5) (hU8 : Upd [b] w5 wq [b]) (hbq : wq.heap[b]? = some (lgObj d lg' ca cc la lc)) (hD5 : Dk w5 L5 d st1) (hbn5 : b ∉ L5) (hw5 : w.heap.size ∉ L5) (hb : b < w.heap.size) (hlt : w.heap.size < w5.heap.size) :
  LS ((wq.setCell ⟨w.heap.size,0,none⟩ (.int .i64 0)).drew.setCell ⟨w.heap.size,0,none⟩ (.int .i64 0)) L5 b d lg' st1 ∧ Upd (b :: L) w ((wq.setCell ⟨w.heap.size,0,none⟩ (.int .i64 0)).drew.setCell ⟨w.heap.size,0,none⟩ (.int .i64 0)) (b :: L5):=by
 have hUq : Upd (b :: L) w wq (b :: L5):=(Upd.wide hUw).trans ⟨hU8.os,hU8.tape,hU8.output,hU8.size,fun k hk hn=>hU8.block k hk (fun g=>hn (by rw [List.mem_singleton.1 g];simp)),fun k hk=>.inl hk⟩
 have hU2:=upd_own (upd_own hUq 0 (.int .i64 0)).drew 0 (.int .i64 0)
 have hqs:=hU8.size
 have keep : ∀ j,j < wq.heap.size → j ≠ w.heap.size → ((wq.setCell ⟨w.heap.size,0,none⟩ (.int .i64 0)).drew.setCell ⟨w.heap.size,0,none⟩ (.int .i64 0)).heap[j]? = wq.heap[j]?:=fun j hj hne =>
  (own_block (w1:=(wq.setCell ⟨w.heap.size,0,none⟩ (.int .i64 0)).drew) 0 _ (by show j < (wq.setCell ⟨w.heap.size,0,none⟩ (.int .i64 0)).heap.size;have:=(Lib.grownBy_setCell (w:=wq) (b:=w.heap.size) (i:=0) (v:=.int .i64 0)).size;omega) hne).trans (own_block 0 _ hj hne)
 refine ⟨ls_gen hk h2 h3 hx hU2 ((keep b (by omega) (by omega)).trans hbq) (hD5.keep fun k hk=>?_) hbn5,hU2⟩
 have hkl:=hD5.lt k hk
 exact (keep k (by omega) (fun e=>hw5 (by rw [← e];exact hk))).trans (hU8.block k hkl (fun g=>hbn5 (by rw [← List.mem_singleton.1 g];exact hk)))
theorem upd_put6 (w : World) (k : Nat) (v0 v1 v2 v3 v4 v5 : Value) : Upd [k] w (put6 w k v0 v1 v2 v3 v4 v5) [k]:=by
 have hb:=below_put6 (B:=k) (Below.refl _ w) (Nat.le_refl _) v0 v1 v2 v3 v4 v5
 exact ⟨hb.os,hb.tape,hb.output,hb.size,fun j hj hn=>put6_other _ _ _ _ _ _ (fun e=>hn (by rw [e];simp)),fun k hk=>.inl hk⟩
set_option maxHeartbeats 4000000 in
theorem append_room (L : List Nat) (b d n : Nat) (lg : Lg) (st : St) (w : World) (h : LS w L b d lg st) (hv : Lv lg st n) (recs : List (List UInt8)) (a : Option Addr) (nr cap : Nat) (hS : StrsAt w a nr (recs.map bs)) (ht : Takes recs) (hf : recs.length ≤ 100)
  (c : Int) (st1 : St) (hroom : pc (frs recs).length ≤ (secs lg.x.log).length - lg.pos) (hr : puts st (((secs lg.x.log).drop lg.pos).zip (seald (lg.num + 1).toNat (frs recs))) = (c,st1)) :
  Calls Tryz.prog 19 #[.pointer (some ⟨b,0,none⟩),.slice a nr cap] w (fun e w'=>(c = 0 → Told w L b d 0 { lg with num:=lg.num + 1,pos:=lg.pos + pc (frs recs).length } st1 e w') ∧ (c ≠ 0 → Told w L b d c { lg with dead:=true } st1 e w')):=by
 have hf1:=hmf
 obtain ⟨hll,h0,hsl⟩:=hv.logs
 have hal:=hv.alive;have hrn:=hv.run;have hnum:=hv.num;have hpos:=hv.pos
 have hnr : nr = recs.length:=by rw [← hS.1,List.length_map]
 have hnr0 : ((nr : Int) == 0) = false:=beq_eq_false_iff_ne.2 (by
  have h9:=ht.1
  intro h8
  exact h9 (List.length_eq_zero_iff.1 (by omega)))
 have hszf : (bs (frs recs)).size ≤ 16384:=by rw [bs_size,FrameP.frs_length];exact ht.2.2
 have hfits : Fits (lg.num + 1).toNat (frs recs):=takes_fits ht (by omega) (by omega)
 have hpcs : pc (frs recs).length ≤ 512:=hfits.2.2
 have hkp1 : 1 ≤ pc (frs recs).length:=pc_pos _
 have hkp1 : 1 ≤ pc (frs recs).length:=pc_pos _
 have hkp1 : 1 ≤ pc (frs recs).length:=pc_pos _
 have hkp1 : 1 ≤ pc (frs recs).length:=pc_pos _
 have hkp1 : 1 ≤ pc (frs recs).length:=pc_pos _
 have hkp1 : 1 ≤ pc (frs recs).length:=pc_pos _
 have hb0 : Below w.heap.size w (w.alloc (.cells #[.int .i64 0] 27)):=(Below.refl _ w).alloc (Nat.le_refl _) _
 have hn0:=heap_alloc_new w (.cells #[.int .i64 0] 27)
 have HS0:=Lib.hid (show (w.alloc (.cells #[.int .i64 0] 27)).heap.size = w.heap.size + 1 by simp)
 have HRY:=Lib.hid (ready_yes L b d lg st _ (h.below hb0) hal hrn)
 have HPT:=Lib.hid (fun w1 (hb : Below w.heap.size w w1)=>put_takes recs a nr cap w1 (hS.keep hb) ht hf)
 have hsp:=fun w1=>split_any (bs (frs recs)) w1 (by omega)
 rw [parts_bs] at hsp
 unfold SplitMade at hsp
 rw [List.length_map,pts_length] at hsp
 have HSP:=Lib.hid hsp
 have hlf:=fun w1 (h1 : LS w1 L b d lg st)=>left_ls L b d lg st w1 h1 (by omega) h0 hpos
 unfold IntsOut at hlf
 have hrl : ((secs lg.x.log).drop lg.pos).length = (secs lg.x.log).length - lg.pos:=List.length_drop
 rw [hrl] at hlf
 have HLF:=Lib.hid hlf
 have HLS:=Lib.hid (fun w1 (hb : Below w.heap.size w w1)=>h.below hb)
 have HSPT:=Lib.hid (seal_parts hfits)
 have hbb:=h.lk.lt
 have HLT:=Lib.hid h.dk.lt
 have H:=Lib.hid h
 have hh:=h
 obtain ⟨hD,ca,cc,la,lc,hk,k1,k2,k3⟩:=hh
 obtain ⟨z0,z1,z2,z3,z4,z5,z6,z7,z8,z9⟩:=lk_cells hk
 have hsix : sixAt w b lg.x ca cc la lc:=⟨z1,z2,z3,z4,z5,z6⟩
 have H6:=Lib.hid hsix;have H0:=Lib.hid z0;have H7:=Lib.hid z7;have H8:=Lib.hid z8
 have HK:=Lib.hid hk;have HK1:=Lib.hid k1;have HK2:=Lib.hid k2;have HK3:=Lib.hid k3;have HD:=Lib.hid hD
 have hnm : (lg.num == 1099511627776) = false:=beq_eq_false_iff_ne.2 (by omega)
 have HB0:=Lib.hid hb0;have HN0:=Lib.hid hn0;have HV:=Lib.hid hv
 have hrb : (((secs lg.x.log).length - lg.pos : Nat) : Int) = ((secs lg.x.log).length : Int) - lg.pos:=by omega
 have hR8 : (secs lg.x.log).length ≤ 504:=by omega
 have hbL : b ∉ L:=k1
 have HBL:=Lib.hid hbL
 obtain ⟨nn,hnn⟩ : ∃ nn : Nat,(lg.num + 1).toNat = nn:=⟨_,rfl⟩
 rw [hnn] at HSPT
 obtain ⟨kp,hkp⟩ : ∃ kp,pc (frs recs).length = kp:=⟨_,rfl⟩
 obtain ⟨lr,hlr⟩ : ∃ lr,(secs lg.x.log).length - lg.pos = lr:=⟨_,rfl⟩
 rw [hkp] at HSP HSPT hpcs hkp1
 rw [hlr] at HLF hrb hrl
 have HRL:=Lib.hid hrl
 have hlr5 : lr ≤ 504:=by omega
 have hps5 : lg.pos ≤ 504:=by omega
 have HLRE:=Lib.hid hlr
 rw [hnn] at hr
 have HR:=Lib.hid hr
 rw [hkp,hlr] at hroom
 have HNN:=Lib.hid (show ((nn : Nat) : Int) = lg.num + 1 by omega)
 clear hr hnn hbL
 clear hv hS ht hsp hlf h hD hk k1 k2 k3 z0 z1 z2 z3 z4 z5 z6 z7 z8 z9 hsix hb0 hn0 hfits hrl hnr hrb hsl hlr hR8 hpos
 generalize bs (frs recs) = fb at *
 obtain ⟨nm,hnmn⟩ : ∃ nm,lg.num = nm:=⟨_,rfl⟩
 have HNM:=Lib.hid hnmn
 rw [hnmn] at hnm hnum H7 HNN
 clear hnmn
 go_enter_defers Tryz.func19,Tryz.ntmps19
 go_wp2_with fail
 refine HRY.out.mono ?_
 rintro e w1 ⟨rfl,rfl⟩
 go_wp2_with fail
 refine (HPT.out _ HB0.out).mono ?_
 rintro e w1 ⟨rfl,hb1⟩
 have hB1:=HB0.out.trans (hb1.mono HB0.out.size)
 have HB1:=Lib.hid hB1
 have HN1:=Lib.hid ((hb1.block w.heap.size (by rw [HS0.out];omega)).trans HN0.out)
 have d7 : w1.cell? ⟨b,7,none⟩ = some (.int .i64 nm):=(hB1.cell (p:=⟨b,7,none⟩) hbb).trans H7.out
 have hw1 : w.heap.size < w1.heap.size:=by have h9:=hb1.size;rw [HS0.out] at h9;omega
 clear hb1 hB1 HB0 HN0 HRY HPT
 go_wp2_with fail
 refine (raise_no w1).mono ?_
 rintro e w2 ⟨rfl,rfl⟩
 go_wp2_with fail
 apply join6 (F:=fun wz g7 c7 a8 c8 k9=>Hid (Below w1.heap.size w1 wz ∧ StrsAt wz (some ⟨g7,0,none⟩) kp ((pts (frs recs)).map bs) ∧ w1.heap.size ≤ g7 ∧ IntsAt wz a8 lr ((secs lg.x.log).drop lg.pos) ∧ lr ≤ c8 ∧ (a8 = none → c8 = 0) ∧ (∀ y,a8 = some y → w1.heap.size ≤ y.block) ∧
  wz.heap[k9]? = some (.cells #[.int .i64 lg.x.gen,.int .i64 lg.x.base,.int .i64 lg.x.size,.int .i64 lg.x.cg,.slice ca lg.x.chk.length cc,.slice la lg.x.log.length lc] 69 (0,0)) ∧ w1.heap.size ≤ k9 ∧ k9 ≠ g7 ∧ (0 < lr → ∀ y,a8 = some y → y.block ≠ k9)))
 ·intro hG
  have hb1w : b < w1.heap.size:=by omega
  have h61:=six_keep H6.out hbb HB1.out
  have H6b:=Lib.hid h61.1
  have t0 : Below w1.heap.size w1 w1.drew:=(Below.refl _ w1).drew
  have s0 : sixAt w1.drew b lg.x ca cc la lc:=h61.1
  clear h61
  refine wp_region_noPanic ?_
  refine wp_region_held_drew (S:=(fun w'=>(w'.cell? ⟨b,1,none⟩ = some (.int .i64 lg.x.gen) ∧ w'.cell? ⟨b,2,none⟩ = some (.int .i64 lg.x.base) ∧ w'.cell? ⟨b,3,none⟩ = some (.int .i64 lg.x.size) ∧ w'.cell? ⟨b,4,none⟩ = some (.int .i64 lg.x.cg) ∧ w'.cell? ⟨b,5,none⟩ = some (.slice ca lg.x.chk.length cc) ∧ w'.cell? ⟨b,6,none⟩ = some (.slice la lg.x.log.length lc)) ∧ Below w1.heap.size w1 w')) (by kernel_rfl) (by first | exact ⟨s0,t0⟩) (fun hHeld=>?_)
  refine wpAnyH_take (i:=0) (v:=?v1) rfl ?s1 ?f1 ?r1 ?q1 (Or.inl ⟨?y1,?z1⟩) ?h1 ?k1
  case s1 | f1 | r1 | y1=>kernel_rfl
  case q1=>exact fun _ _ _ h=>h
  case z1=>(intro w' hSw;(try dsimp only at hSw);go_simp;(try with_reducible rfl))
  case h1=>exact hHeld
  refine wpAnyH_take (i:=2) (v:=?v2) rfl ?s2 ?f2 ?r2 ?q2 (Or.inl ⟨?y2,?z2⟩) ?h2 ?k2
  case s2 | f2 | r2 | y2=>kernel_rfl
  case q2=>exact fun _ _ _ h=>h
  case z2=>(intro w' hSw;(try dsimp only at hSw);go_simp;(try with_reducible rfl))
  case h2=>exact hHeld
  refine wpAnyH_take (i:=4) (v:=?v3) rfl ?s3 ?f3 ?r3 ?q3 (Or.inl ⟨?y3,?z3⟩) ?h3 ?k3
  case s3 | f3 | r3 | y3=>kernel_rfl
  case q3=>exact fun _ _ _ h=>h
  case z3=>(intro w' hSw;(try dsimp only at hSw);go_simp;(try with_reducible rfl))
  case h3=>exact hHeld
  refine wpAnyH_take (i:=5) (v:=?v4) rfl ?s4 ?f4 ?r4 ?q4 (Or.inl ⟨?y4,?z4⟩) ?h4 ?k4
  case s4 | f4 | r4 | y4=>kernel_rfl
  case q4=>exact fun _ _ _ h=>h
  case z4=>(intro w' hSw;(try dsimp only at hSw);go_simp;(try with_reducible rfl))
  case h4=>exact hHeld
  refine wpAnyH_take (i:=6) (v:=?v5) rfl ?s5 ?f5 ?r5 ?q5 (Or.inl ⟨?y5,?z5⟩) ?h5 ?k5
  case s5 | f5 | r5 | y5=>kernel_rfl
  case q5=>exact fun _ _ _ h=>h
  case z5=>(intro w' hSw;(try dsimp only at hSw);go_simp;(try with_reducible rfl))
  case h5=>exact hHeld
  refine wpAnyH_take (i:=7) (v:=?v6) rfl ?s6 ?f6 ?r6 ?q6 (Or.inl ⟨?y6,?z6⟩) ?h6 ?k6
  case s6 | f6 | r6 | y6=>kernel_rfl
  case q6=>exact fun _ _ _ h=>h
  case z6=>(intro w' hSw;(try dsimp only at hSw);go_simp;(try with_reducible rfl))
  case h6=>exact hHeld
  refine wpAnyH_ready (rs:=[1,8]) (by kernel_rfl) (by simp) ?_
  refine AllReadyH.cons rfl (fun K hK=>?_) (AllReadyH.cons rfl (fun K hK=>?_) AllReadyH.nil)
  ·go_simp
   refine (HSP.out _).mono ?_
   rintro e v1 ⟨gS,cS,rfl,hSS,hgS0,hb1⟩
   have hgS : w1.heap.size ≤ gS:=Nat.le_trans t0.size hgS0
   have q1:=six_next s0 hb1w t0 hb1
   have hgLt : gS ≠ v1.heap.size:=by have h5:=ints_lt2 hSS (by omega) ⟨gS,0,none⟩ rfl;have h6 : gS < v1.heap.size:=h5;omega
   refine hK.out _ _ q1 (fun hHeld1=>?_)
   clear hK K hHeld
   obtain ⟨s1,t1⟩:=q1
   refine wpAnyH_ready (rs:=[3,8]) (by kernel_rfl) (by simp) ?_
   refine AllReadyH.cons rfl (fun K hK=>?_) (AllReadyH.cons rfl (fun K hK=>?_) AllReadyH.nil)
   ·go_simp
    refine (HLF.out _ (HLS.out _ (HB1.out.trans (t1.mono HB1.out.size)))).mono ?_
    rintro e v2 ⟨aL,cL,rfl,hIL,hcL,hnL,hb2,hwL0⟩
    have hwL : ∀ y,aL = some y → w1.heap.size ≤ y.block:=fun y hy=>Nat.le_trans t1.size (hwL0 y hy)
    have hSS:=hSS.keep hb2
    have q2:=six_next s1 hb1w t1 hb2
    have hgLt : gS ≠ v2.heap.size:=by have h5:=ints_lt2 hSS (by omega) ⟨gS,0,none⟩ rfl;have h6 : gS < v2.heap.size:=h5;omega
    have hyLt : 0 < lr → ∀ y,aL = some y → y.block ≠ v2.heap.size:=fun h0 y hy=>by have:=ints_lt hIL h0 y hy;omega
    refine hK.out _ _ q2 (fun hHeld2=>?_)
    clear hK K hHeld1
    obtain ⟨s2,t2⟩:=q2
    refine wpAnyH_ready (rs:=[8]) (by kernel_rfl) (by simp) ?_
    refine AllReadyH.cons rfl (fun K hK=>?_) AllReadyH.nil
    ·go_simp
     have hb3a:=(Below.refl _ v2).alloc (Nat.le_refl _) zsup
     have hb3 : Below (v2).heap.size (v2) ((v2).alloc zsup):=⟨hb3a.os,hb3a.tape,hb3a.output,hb3a.size,hb3a.block⟩
     have hZ : ((v2).alloc zsup).heap[(v2).heap.size]? = some zsup:=heap_alloc_new (v2) zsup
     obtain ⟨k9,hk9e⟩ : ∃ k9,(v2).heap.size = k9:=⟨_,rfl⟩
     rw [hk9e] at hZ
     have hk9 : w1.heap.size ≤ k9:=by rw [← hk9e];exact t2.size
     have hk9l : k9 < ((v2).alloc zsup).heap.size:=by show k9 < ((v2).alloc zsup).heap.size;rw [World.size_alloc,hk9e];omega
     have hSS:=hSS.keep hb3
     have hIL:=hIL.keep hb3
     have hgk : gS ≠ k9:=by rw [← hk9e];exact hgLt
     have hyk : 0 < lr → ∀ y,aL = some y → y.block ≠ k9:=by rw [← hk9e];exact hyLt
     have q3:=six_next s2 hb1w t2 hb3
     clear hb3a
     generalize hA3 : (v2).alloc zsup = v3 at *
     try rw [hk9e]
     have hgLt : gS ≠ v3.heap.size:=by have h5:=ints_lt2 hSS (by omega) ⟨gS,0,none⟩ rfl;have h6 : gS < v3.heap.size:=h5;omega
     have hyLt : 0 < lr → ∀ y,aL = some y → y.block ≠ v3.heap.size:=fun h0 y hy=>by have:=ints_lt hIL h0 y hy;omega
     refine hK.out _ _ q3 (fun hHeld3=>?_)
     clear hK K hHeld2
     obtain ⟨s3,t3⟩:=q3
     refine wpAnyH_take (i:=9) (v:=?v7) rfl ?s7 ?f7 ?r7 ?q7 (Or.inl ⟨?y7,?z7⟩) ?h7 ?k7
     case s7 | f7 | r7 | y7=>kernel_rfl
     case q7=>exact fun _ _ _ h=>h
     case z7=>(intro w' hSw;(try dsimp only at hSw);go_simp;(try with_reducible rfl))
     case h7=>exact hHeld3
     refine wpAnyH_take (i:=10) (v:=?v8) rfl ?s8 ?f8 ?r8 ?q8 (Or.inl ⟨?y8,?z8⟩) ?h8 ?k8
     case s8 | f8 | r8 | y8=>kernel_rfl
     case q8=>exact fun _ _ _ h=>h
     case z8=>(intro w' hSw;(try dsimp only at hSw);go_simp;(try with_reducible rfl))
     case h8=>exact hHeld3
     obtain ⟨wz4,hwz⟩ : ∃ wz,put6 v3 k9 (.int .i64 lg.x.gen) (.int .i64 lg.x.base) (.int .i64 lg.x.size) (.int .i64 lg.x.cg) (.slice ca lg.x.chk.length cc) (.slice la lg.x.log.length lc) = wz:=⟨_,rfl⟩
     have hu6:=upd_put6 v3 k9 (.int .i64 lg.x.gen) (.int .i64 lg.x.base) (.int .i64 lg.x.size) (.int .i64 lg.x.cg) (.slice ca lg.x.chk.length cc) (.slice la lg.x.log.length lc)
     have hz6:=heap_put6 hZ (.int .i64 lg.x.gen) (.int .i64 lg.x.base) (.int .i64 lg.x.size) (.int .i64 lg.x.cg) (.slice ca lg.x.chk.length cc) (.slice la lg.x.log.length lc)
     rw [hwz] at hu6 hz6
     have hq6 : Below w1.heap.size w1 wz4:=by rw [← hwz];exact below_put6 t3 hk9 _ _ _ _ _ _
     obtain ⟨y0,y1,y2,y3,y4,y5⟩:=zero_cells6 hZ |>.1
     obtain ⟨r0,r1,r2,r3,r4,r5⟩:=(zero_cells6 hZ).2
     have hwz' : ((((((v3.setCell ⟨k9,0,none⟩ (.int .i64 lg.x.gen)).setCell ⟨k9,1,none⟩ (.int .i64 lg.x.base)).setCell ⟨k9,2,none⟩ (.int .i64 lg.x.size)).setCell ⟨k9,3,none⟩ (.int .i64 lg.x.cg)).setCell ⟨k9,4,none⟩ (.slice ca lg.x.chk.length cc)).setCell ⟨k9,5,none⟩ (.slice la lg.x.log.length lc)) = wz4:=hwz
     have qz:=six_keep H6b.out hb1w hq6
     refine wpAnyH_ready (rs:=[11]) (by kernel_rfl) (by simp) ?_
     refine AllReadyH.cons rfl (fun K hK=>?_) AllReadyH.nil
     go_simp
     try rw [hwz']
     refine hK.out _ _ qz (fun hHeldZ=>?_)
     clear hK K
     refine wpAnyH_done (by kernel_rfl) ?_ _
     refine NoPanic.normal ?_
     exact hG wz4 gS cS aL cL k9 (Lib.hid ⟨hq6,strs_upd hSS (fun _ y hy=>by cases hy;simpa using hgk) hu6,hgS,ints_upd hIL (fun h0 y hy=>by have:=hyk h0 y hy;simpa using this) hu6,hcL,hnL,hwL,hz6,hk9,hgk.symm,hyk⟩)
   ·go_simp
    have hb5a:=(Below.refl _ v1).alloc (Nat.le_refl _) zsup
    have hb5 : Below (v1).heap.size (v1) ((v1).alloc zsup):=⟨hb5a.os,hb5a.tape,hb5a.output,hb5a.size,hb5a.block⟩
    have hZ : ((v1).alloc zsup).heap[(v1).heap.size]? = some zsup:=heap_alloc_new (v1) zsup
    obtain ⟨k9,hk9e⟩ : ∃ k9,(v1).heap.size = k9:=⟨_,rfl⟩
    rw [hk9e] at hZ
    have hk9 : w1.heap.size ≤ k9:=by rw [← hk9e];exact t1.size
    have hk9l : k9 < ((v1).alloc zsup).heap.size:=by show k9 < ((v1).alloc zsup).heap.size;rw [World.size_alloc,hk9e];omega
    have hSS:=hSS.keep hb5
    have hgk : gS ≠ k9:=by rw [← hk9e];exact hgLt
    have q5:=six_next s1 hb1w t1 hb5
    clear hb5a
    generalize hA5 : (v1).alloc zsup = v5 at *
    try rw [hk9e]
    have hgLt : gS ≠ v5.heap.size:=by have h5:=ints_lt2 hSS (by omega) ⟨gS,0,none⟩ rfl;have h6 : gS < v5.heap.size:=h5;omega
    refine hK.out _ _ q5 (fun hHeld5=>?_)
    clear hK K hHeld1
    obtain ⟨s5,t5⟩:=q5
    refine wpAnyH_ready (rs:=[3]) (by kernel_rfl) (by simp) ?_
    refine AllReadyH.cons rfl (fun K hK=>?_) AllReadyH.nil
    ·go_simp
     refine (HLF.out _ (HLS.out _ (HB1.out.trans (t5.mono HB1.out.size)))).mono ?_
     rintro e v6 ⟨aL,cL,rfl,hIL,hcL,hnL,hb6,hwL0⟩
     have hwL : ∀ y,aL = some y → w1.heap.size ≤ y.block:=fun y hy=>Nat.le_trans t5.size (hwL0 y hy)
     have hSS:=hSS.keep hb6
     have hZ:=(hb6.block k9 hk9l).trans hZ
     have hk9l:=Nat.lt_of_lt_of_le hk9l hb6.size
     have hyk : 0 < lr → ∀ y,aL = some y → y.block ≠ k9:=fun _ y hy=>by have:=hwL0 y hy;omega
     have q6:=six_next s5 hb1w t5 hb6
     have hgLt : gS ≠ v6.heap.size:=by have h5:=ints_lt2 hSS (by omega) ⟨gS,0,none⟩ rfl;have h6 : gS < v6.heap.size:=h5;omega
     have hyLt : 0 < lr → ∀ y,aL = some y → y.block ≠ v6.heap.size:=fun h0 y hy=>by have:=ints_lt hIL h0 y hy;omega
     refine hK.out _ _ q6 (fun hHeld6=>?_)
     clear hK K hHeld5
     obtain ⟨s6,t6⟩:=q6
     refine wpAnyH_take (i:=9) (v:=?v9) rfl ?s9 ?f9 ?r9 ?q9 (Or.inl ⟨?y9,?z9⟩) ?h9 ?k9
     case s9 | f9 | r9 | y9=>kernel_rfl
     case q9=>exact fun _ _ _ h=>h
     case z9=>(intro w' hSw;(try dsimp only at hSw);go_simp;(try with_reducible rfl))
     case h9=>exact hHeld6
     refine wpAnyH_take (i:=10) (v:=?v10) rfl ?s10 ?f10 ?r10 ?q10 (Or.inl ⟨?y10,?z10⟩) ?h10 ?k10
     case s10 | f10 | r10 | y10=>kernel_rfl
     case q10=>exact fun _ _ _ h=>h
     case z10=>(intro w' hSw;(try dsimp only at hSw);go_simp;(try with_reducible rfl))
     case h10=>exact hHeld6
     obtain ⟨wz7,hwz⟩ : ∃ wz,put6 v6 k9 (.int .i64 lg.x.gen) (.int .i64 lg.x.base) (.int .i64 lg.x.size) (.int .i64 lg.x.cg) (.slice ca lg.x.chk.length cc) (.slice la lg.x.log.length lc) = wz:=⟨_,rfl⟩
     have hu6:=upd_put6 v6 k9 (.int .i64 lg.x.gen) (.int .i64 lg.x.base) (.int .i64 lg.x.size) (.int .i64 lg.x.cg) (.slice ca lg.x.chk.length cc) (.slice la lg.x.log.length lc)
     have hz6:=heap_put6 hZ (.int .i64 lg.x.gen) (.int .i64 lg.x.base) (.int .i64 lg.x.size) (.int .i64 lg.x.cg) (.slice ca lg.x.chk.length cc) (.slice la lg.x.log.length lc)
     rw [hwz] at hu6 hz6
     have hq6 : Below w1.heap.size w1 wz7:=by rw [← hwz];exact below_put6 t6 hk9 _ _ _ _ _ _
     obtain ⟨y0,y1,y2,y3,y4,y5⟩:=zero_cells6 hZ |>.1
     obtain ⟨r0,r1,r2,r3,r4,r5⟩:=(zero_cells6 hZ).2
     have hwz' : ((((((v6.setCell ⟨k9,0,none⟩ (.int .i64 lg.x.gen)).setCell ⟨k9,1,none⟩ (.int .i64 lg.x.base)).setCell ⟨k9,2,none⟩ (.int .i64 lg.x.size)).setCell ⟨k9,3,none⟩ (.int .i64 lg.x.cg)).setCell ⟨k9,4,none⟩ (.slice ca lg.x.chk.length cc)).setCell ⟨k9,5,none⟩ (.slice la lg.x.log.length lc)) = wz7:=hwz
     have qz:=six_keep H6b.out hb1w hq6
     refine wpAnyH_ready (rs:=[11]) (by kernel_rfl) (by simp) ?_
     refine AllReadyH.cons rfl (fun K hK=>?_) AllReadyH.nil
     go_simp
     try rw [hwz']
     refine hK.out _ _ qz (fun hHeldZ=>?_)
     clear hK K
     refine wpAnyH_done (by kernel_rfl) ?_ _
     refine NoPanic.normal ?_
     exact hG wz7 gS cS aL cL k9 (Lib.hid ⟨hq6,strs_upd hSS (fun _ y hy=>by cases hy;simpa using hgk) hu6,hgS,ints_upd hIL (fun h0 y hy=>by have:=hyk h0 y hy;simpa using this) hu6,hcL,hnL,hwL,hz6,hk9,hgk.symm,hyk⟩)
  ·go_simp
   have hb8a:=(Below.refl _ w1).alloc (Nat.le_refl _) zsup
   have hb8 : Below (w1).heap.size (w1.drew) ((w1.alloc zsup).drew):=⟨hb8a.os,hb8a.tape,hb8a.output,hb8a.size,hb8a.block⟩
   have hZ : ((w1.alloc zsup).drew).heap[(w1).heap.size]? = some zsup:=heap_alloc_new (w1) zsup
   obtain ⟨k9,hk9e⟩ : ∃ k9,(w1).heap.size = k9:=⟨_,rfl⟩
   rw [hk9e] at hZ
   have hk9 : w1.heap.size ≤ k9:=by rw [← hk9e];exact t0.size
   have hk9l : k9 < ((w1.alloc zsup).drew).heap.size:=by show k9 < ((w1).alloc zsup).heap.size;rw [World.size_alloc,hk9e];omega
   have q8:=six_next s0 hb1w t0 hb8
   clear hb8a
   generalize hA8 : (w1.alloc zsup).drew = v8 at *
   try rw [hk9e]
   refine hK.out _ _ q8 (fun hHeld8=>?_)
   clear hK K hHeld
   obtain ⟨s8,t8⟩:=q8
   refine wpAnyH_ready (rs:=[1]) (by kernel_rfl) (by simp) ?_
   refine AllReadyH.cons rfl (fun K hK=>?_) AllReadyH.nil
   ·go_simp
    refine (HSP.out _).mono ?_
    rintro e v9 ⟨gS,cS,rfl,hSS,hgS0,hb9⟩
    have hgS : w1.heap.size ≤ gS:=Nat.le_trans t8.size hgS0
    have hZ:=(hb9.block k9 hk9l).trans hZ
    have hk9l:=Nat.lt_of_lt_of_le hk9l hb9.size
    have hgk : gS ≠ k9:=by omega
    have q9:=six_next s8 hb1w t8 hb9
    have hgLt : gS ≠ v9.heap.size:=by have h5:=ints_lt2 hSS (by omega) ⟨gS,0,none⟩ rfl;have h6 : gS < v9.heap.size:=h5;omega
    refine hK.out _ _ q9 (fun hHeld9=>?_)
    clear hK K hHeld8
    obtain ⟨s9,t9⟩:=q9
    refine wpAnyH_ready (rs:=[3]) (by kernel_rfl) (by simp) ?_
    refine AllReadyH.cons rfl (fun K hK=>?_) AllReadyH.nil
    ·go_simp
     refine (HLF.out _ (HLS.out _ (HB1.out.trans (t9.mono HB1.out.size)))).mono ?_
     rintro e v10 ⟨aL,cL,rfl,hIL,hcL,hnL,hb10,hwL0⟩
     have hwL : ∀ y,aL = some y → w1.heap.size ≤ y.block:=fun y hy=>Nat.le_trans t9.size (hwL0 y hy)
     have hSS:=hSS.keep hb10
     have hZ:=(hb10.block k9 hk9l).trans hZ
     have hk9l:=Nat.lt_of_lt_of_le hk9l hb10.size
     have hyk : 0 < lr → ∀ y,aL = some y → y.block ≠ k9:=fun _ y hy=>by have:=hwL0 y hy;omega
     have q10:=six_next s9 hb1w t9 hb10
     have hgLt : gS ≠ v10.heap.size:=by have h5:=ints_lt2 hSS (by omega) ⟨gS,0,none⟩ rfl;have h6 : gS < v10.heap.size:=h5;omega
     have hyLt : 0 < lr → ∀ y,aL = some y → y.block ≠ v10.heap.size:=fun h0 y hy=>by have:=ints_lt hIL h0 y hy;omega
     refine hK.out _ _ q10 (fun hHeld10=>?_)
     clear hK K hHeld9
     obtain ⟨s10,t10⟩:=q10
     refine wpAnyH_take (i:=9) (v:=?v11) rfl ?s11 ?f11 ?r11 ?q11 (Or.inl ⟨?y11,?z11⟩) ?h11 ?k11
     case s11 | f11 | r11 | y11=>kernel_rfl
     case q11=>exact fun _ _ _ h=>h
     case z11=>(intro w' hSw;(try dsimp only at hSw);go_simp;(try with_reducible rfl))
     case h11=>exact hHeld10
     refine wpAnyH_take (i:=10) (v:=?v12) rfl ?s12 ?f12 ?r12 ?q12 (Or.inl ⟨?y12,?z12⟩) ?h12 ?k12
     case s12 | f12 | r12 | y12=>kernel_rfl
     case q12=>exact fun _ _ _ h=>h
     case z12=>(intro w' hSw;(try dsimp only at hSw);go_simp;(try with_reducible rfl))
     case h12=>exact hHeld10
     obtain ⟨wz11,hwz⟩ : ∃ wz,put6 v10 k9 (.int .i64 lg.x.gen) (.int .i64 lg.x.base) (.int .i64 lg.x.size) (.int .i64 lg.x.cg) (.slice ca lg.x.chk.length cc) (.slice la lg.x.log.length lc) = wz:=⟨_,rfl⟩
     have hu6:=upd_put6 v10 k9 (.int .i64 lg.x.gen) (.int .i64 lg.x.base) (.int .i64 lg.x.size) (.int .i64 lg.x.cg) (.slice ca lg.x.chk.length cc) (.slice la lg.x.log.length lc)
     have hz6:=heap_put6 hZ (.int .i64 lg.x.gen) (.int .i64 lg.x.base) (.int .i64 lg.x.size) (.int .i64 lg.x.cg) (.slice ca lg.x.chk.length cc) (.slice la lg.x.log.length lc)
     rw [hwz] at hu6 hz6
     have hq6 : Below w1.heap.size w1 wz11:=by rw [← hwz];exact below_put6 t10 hk9 _ _ _ _ _ _
     obtain ⟨y0,y1,y2,y3,y4,y5⟩:=zero_cells6 hZ |>.1
     obtain ⟨r0,r1,r2,r3,r4,r5⟩:=(zero_cells6 hZ).2
     have hwz' : ((((((v10.setCell ⟨k9,0,none⟩ (.int .i64 lg.x.gen)).setCell ⟨k9,1,none⟩ (.int .i64 lg.x.base)).setCell ⟨k9,2,none⟩ (.int .i64 lg.x.size)).setCell ⟨k9,3,none⟩ (.int .i64 lg.x.cg)).setCell ⟨k9,4,none⟩ (.slice ca lg.x.chk.length cc)).setCell ⟨k9,5,none⟩ (.slice la lg.x.log.length lc)) = wz11:=hwz
     have qz:=six_keep H6b.out hb1w hq6
     refine wpAnyH_ready (rs:=[11]) (by kernel_rfl) (by simp) ?_
     refine AllReadyH.cons rfl (fun K hK=>?_) AllReadyH.nil
     go_simp
     try rw [hwz']
     refine hK.out _ _ qz (fun hHeldZ=>?_)
     clear hK K
     refine wpAnyH_done (by kernel_rfl) ?_ _
     refine NoPanic.normal ?_
     exact hG wz11 gS cS aL cL k9 (Lib.hid ⟨hq6,strs_upd hSS (fun _ y hy=>by cases hy;simpa using hgk) hu6,hgS,ints_upd hIL (fun h0 y hy=>by have:=hyk h0 y hy;simpa using this) hu6,hcL,hnL,hwL,hz6,hk9,hgk.symm,hyk⟩)
 ·intro wz g7 c7 a8 c8 k9 hF
  obtain ⟨hBz,hSz,hg7,hIz,hc8,hn8,hw8,hz9,hk9,hgk,hyk⟩:=hF.out
  have hBw : Below w.heap.size w wz:=HB1.out.trans (hBz.mono HB1.out.size)
  have hLz:=HLS.out wz hBw
  have hbig : ∀ k,w1.heap.size ≤ k → k ∉ b :: L:=fun k hk hm=>by
   rcases List.mem_cons.1 hm with g | g
   ·omega
   ·have:=HLT.out _ g;omega
  have hnn' : IntKind.i64.wrap (nm + 1) = ((nn : Nat) : Int):=by have:=HNN.out;rw [IntWalk.i64_in] <;> omega
  have hwr : IntKind.i64.wrap ((kp : Int) - (lr : Int)) = (kp : Int) - lr:=by rw [IntWalk.i64_in] <;> omega
  have hnd:=need_any ((kp : Int) - lr) wz (by omega) (by omega)
  have hnp : ¬ (0 < SegsP.need ((kp : Int) - lr)):=fun g=>by have:=WalP.need_pos.1 g;omega
  generalize SegsP.need ((kp : Int) - lr) = nd at *
  have HND:=Lib.hid hnd
  have hwr9:=write_ls L b d n lg st wz hLz HV.out.ok a8 lr c8 _ hIz (fun _ y hy=>hbig _ (hw8 y hy)) (some ⟨g7,0,none⟩) kp c7 ((pts (frs recs)).map bs) (seald nn (frs recs)) hSz (fun _ y hy=>by cases hy;exact hbig _ hg7) hroom (by have:=HV.out.nn;omega) (nn : Int) HSPT.out.1 HSPT.out.2.1 HSPT.out.2.2.1 HSPT.out.2.2.2 c st1 HR.out
  have HW:=Lib.hid hwr9
  have d7 : wz.cell? ⟨b,7,none⟩ = some (.int .i64 nm):=(hBw.cell (p:=⟨b,7,none⟩) hbb).trans H7.out
  have HBW:=Lib.hid hBw;have HZ9:=Lib.hid hz9
  have hk9z:=heap_lt hz9
  have HB4:=Lib.hid ((hBz.block w.heap.size (by omega)).trans HN1.out)
  clear hF hSz hIz hc8 hn8 hw8 hz9 hgk hyk hBz hLz hBw hnd hwr9 HSP HLF HSPT HR HN1 HB1 H6
  go_wp2_with fail
  refine HND.out.mono ?_
  rintro e w4 ⟨rfl,rfl⟩
  clear HND hwr
  go_wp2_with fail
  refine HW.out.mono ?_
  rintro e w5 hrz
  have HRZ:=Lib.hid hrz
  clear hrz HW d7
  by_cases hc0 : c = 0
  ·subst hc0
   obtain ⟨rfl,L5,hL5,hU5⟩:=HRZ.out.1 rfl
   have hUw : Upd L w w5 L5:=(Upd.of_below HBW.out).trans hU5
   have hb5 : w5.heap[b]? = some (lgObj d lg ca cc la lc):=(hUw.block b hbb HBL.out).trans HK.out.blk
   have hz5:=(hU5.block k9 hk9z (fun hm=>by have:=HLT.out _ hm;omega)).trans HZ9.out
   have hN5:=(hU5.block w.heap.size (by have:=HBW.out.size;omega) (fun hm=>Nat.lt_irrefl _ (HLT.out _ hm))).trans HB4.out
   have hw5 : w.heap.size ∉ L5:=upd_out hU5 (by have:=HBW.out.size;omega) (fun hm=>Nat.lt_irrefl _ (HLT.out _ hm))
   have hbn5 : b ∉ L5:=by obtain ⟨_,_,_,_,_,_,g,_⟩:=hL5;exact g
   have HD5:=Lib.hid hL5.dk
   obtain ⟨c0,c1,c2,c3,c4,c5,c6,c7,c8,c9⟩ : w5.cell? ⟨b,0,none⟩ = some (.pointer (some ⟨d,0,none⟩)) ∧ w5.cell? ⟨b,1,none⟩ = some (.int .i64 lg.x.gen) ∧ w5.cell? ⟨b,2,none⟩ = some (.int .i64 lg.x.base) ∧ w5.cell? ⟨b,3,none⟩ = some (.int .i64 lg.x.size) ∧ w5.cell? ⟨b,4,none⟩ = some (.int .i64 lg.x.cg) ∧
    w5.cell? ⟨b,5,none⟩ = some (.slice ca lg.x.chk.length cc) ∧ w5.cell? ⟨b,6,none⟩ = some (.slice la lg.x.log.length lc) ∧ w5.cell? ⟨b,7,none⟩ = some (.int .i64 lg.num) ∧ w5.cell? ⟨b,8,none⟩ = some (.int .i64 (lg.pos : Int)) ∧ w5.cell? ⟨b,9,none⟩ = some (.bool lg.dead) :=
    ⟨cell_of_heap hb5,cell_of_heap hb5,cell_of_heap hb5,cell_of_heap hb5,cell_of_heap hb5,cell_of_heap hb5,cell_of_heap hb5,cell_of_heap hb5,cell_of_heap hb5,cell_of_heap hb5⟩
   rw [HNM.out] at c7
   obtain ⟨x0,x1,x2,x3,x4,x5⟩:=six_cells hz5
   have f1 : w5.frozen? ⟨b,1,none⟩ = false:=frozen_of_heap hb5
   have f2 : w5.frozen? ⟨b,2,none⟩ = false:=frozen_of_heap hb5
   have f3 : w5.frozen? ⟨b,3,none⟩ = false:=frozen_of_heap hb5
   have f4 : w5.frozen? ⟨b,4,none⟩ = false:=frozen_of_heap hb5
   have f5 : w5.frozen? ⟨b,5,none⟩ = false:=frozen_of_heap hb5
   have f6 : w5.frozen? ⟨b,6,none⟩ = false:=frozen_of_heap hb5
   have f7 : w5.frozen? ⟨b,7,none⟩ = false:=frozen_of_heap hb5
   have f8 : w5.frozen? ⟨b,8,none⟩ = false:=frozen_of_heap hb5
   have hps : IntKind.i64.wrap ((lg.pos : Int) + (kp : Int)) = (lg.pos : Int) + kp:=by rw [IntWalk.i64_in] <;> omega
   have hlt5 : w.heap.size < w5.heap.size:=by have h8:=HBW.out.size;have h9:=hU5.size;omega
   have hu8:=upd_put8 w5 b (.int .i64 lg.x.gen) (.int .i64 lg.x.base) (.int .i64 lg.x.size) (.int .i64 lg.x.cg) (.slice ca lg.x.chk.length cc) (.slice la lg.x.log.length lc) (.int .i64 (nn : Int)) (.int .i64 ((lg.pos : Int) + (kp : Int)))
   have hq8:=heap_put8 hb5 (.int .i64 lg.x.gen) (.int .i64 lg.x.base) (.int .i64 lg.x.size) (.int .i64 lg.x.cg) (.slice ca lg.x.chk.length cc) (.slice la lg.x.log.length lc) (.int .i64 (nn : Int)) (.int .i64 ((lg.pos : Int) + (kp : Int)))
   obtain ⟨wq,hwq⟩ : ∃ wq,put8 w5 b (.int .i64 lg.x.gen) (.int .i64 lg.x.base) (.int .i64 lg.x.size) (.int .i64 lg.x.cg) (.slice ca lg.x.chk.length cc) (.slice la lg.x.log.length lc) (.int .i64 (nn : Int)) (.int .i64 ((lg.pos : Int) + (kp : Int))) = wq:=⟨_,rfl⟩
   rw [hwq] at hu8 hq8
   have hnne : ((nn : Nat) : Int) = lg.num + 1:=HNN.out.trans (by rw [HNM.out])
   have hpe : (lg.pos : Int) + (kp : Int) = ((lg.pos + kp : Nat) : Int):=by omega
   rw [hnne,hpe,hal] at hq8
   have HEND:=Lib.hid (app_end (lg':={ x:=lg.x,pos:=lg.pos + kp,num:=lg.num + 1,dead:=false }) HK.out HK2.out HK3.out rfl hUw hu8 hq8 hL5.dk hbn5 hw5 hbb hlt5)
   have hNq:=(hu8.block w.heap.size hlt5 (fun g=>by have:=List.mem_singleton.1 g;omega)).trans hN5
   have hN7:=Lib.heap_setCell_same (i:=0) hNq (.int .i64 0)
   have HNQ:=Lib.hid hNq
   have HN7 : Hid ((wq.setCell ⟨w.heap.size,0,none⟩ (.int .i64 0)).drew.heap[w.heap.size]? = some (.cells #[.int .i64 0] 27 (0,0))):=Lib.hid hN7
   have HCN:=Lib.hid (acatch_no ⟨w.heap.size,0,none⟩ 0 ((wq.setCell ⟨w.heap.size,0,none⟩ (.int .i64 0)).drew) (cell_of_heap HN7.out) (frozen_of_heap HN7.out))
   have HRES:=Lib.hid (cell_of_heap (i:=0) (Lib.heap_setCell_same (i:=0) HN7.out (.int .i64 0)))
   have hwq' : (((((((w5.setCell ⟨b,1,none⟩ (.int .i64 lg.x.gen)).setCell ⟨b,2,none⟩ (.int .i64 lg.x.base)).setCell ⟨b,3,none⟩ (.int .i64 lg.x.size)).setCell ⟨b,4,none⟩ (.int .i64 lg.x.cg)).setCell ⟨b,5,none⟩ (.slice ca lg.x.chk.length cc)).setCell ⟨b,6,none⟩ (.slice la lg.x.log.length lc)).setCell ⟨b,7,none⟩ (.int .i64 (nn : Int))).setCell ⟨b,8,none⟩ (.int .i64 ((lg.pos : Int) + (kp : Int))) = wq:=hwq
   have HWQ:=Lib.hid hwq'
   clear hu8 hq8 hnne hpe hNq hN7 hwq hwq' hbn5 hw5 HD5
   have HB5:=Lib.hid hb5;have HN5:=Lib.hid hN5;have HUW:=Lib.hid hUw
   have hkb : ¬ k9 = b:=by omega
   clear hUw hb5 hz5 hN5 hL5 hU5 HRZ HNN
   go_wp2_with fail
   refine wp_region_noPanic ?_
   refine wp_region_any (by kernel_rfl) ?_
   change wpAny _ _ _ _ _ _ _ (World.drew _)
   refine wpAny_take (i:=0) (v:=?tv1) rfl (by kernel_rfl) (by kernel_rfl) (by kernel_rfl) (fun _ _ _ h=>h) (Or.inl ⟨by kernel_rfl,?ty1⟩) ?tk1
   case ty1=>(intro w';go_simp;(try with_reducible rfl))
   refine wpAny_take (i:=1) (v:=?tv2) rfl (by kernel_rfl) (by kernel_rfl) (by kernel_rfl) (fun _ _ _ h=>h) (Or.inl ⟨by kernel_rfl,?ty2⟩) ?tk2
   case ty2=>(intro w';go_simp;(try with_reducible rfl))
   refine wpAny_take (i:=2) (v:=?tv3) rfl (by kernel_rfl) (by kernel_rfl) (by kernel_rfl) (fun _ _ _ h=>h) (Or.inl ⟨by kernel_rfl,?ty3⟩) ?tk3
   case ty3=>(intro w';go_simp;(try with_reducible rfl))
   refine wpAny_take (i:=4) (v:=?tv4) rfl (by kernel_rfl) (by kernel_rfl) (by kernel_rfl) (fun _ _ _ h=>h) (Or.inl ⟨by kernel_rfl,?ty4⟩) ?tk4
   case ty4=>(intro w';go_simp;(try with_reducible rfl))
   refine wpAny_take (i:=5) (v:=?tv5) rfl (by kernel_rfl) (by kernel_rfl) (by kernel_rfl) (fun _ _ _ h=>h) (Or.inl ⟨by kernel_rfl,?ty5⟩) ?tk5
   case ty5=>(intro w';go_simp;(try with_reducible rfl))
   refine wpAny_take (i:=6) (v:=?tv6) rfl (by kernel_rfl) (by kernel_rfl) (by kernel_rfl) (fun _ _ _ h=>h) (Or.inl ⟨by kernel_rfl,?ty6⟩) ?tk6
   case ty6=>(intro w';go_simp;(try with_reducible rfl))
   refine wpAny_take (i:=9) (v:=?tv7) rfl (by kernel_rfl) (by kernel_rfl) (by kernel_rfl) (fun _ _ _ h=>h) (Or.inl ⟨by kernel_rfl,?ty7⟩) ?tk7
   case ty7=>(intro w';go_simp;(try with_reducible rfl))
   refine wpAny_take (i:=10) (v:=?tv8) rfl (by kernel_rfl) (by kernel_rfl) (by kernel_rfl) (fun _ _ _ h=>h) (Or.inl ⟨by kernel_rfl,?ty8⟩) ?tk8
   case ty8=>(intro w';go_simp;(try with_reducible rfl))
   refine wpAny_take (i:=11) (v:=?tv9) rfl (by kernel_rfl) (by kernel_rfl) (by kernel_rfl) (fun _ _ _ h=>h) (Or.inl ⟨by kernel_rfl,?ty9⟩) ?tk9
   case ty9=>(intro w';go_simp;(try with_reducible rfl))
   refine wpAny_take (i:=13) (v:=?tv10) rfl (by kernel_rfl) (by kernel_rfl) (by kernel_rfl) (fun _ _ _ h=>h) (Or.inl ⟨by kernel_rfl,?ty10⟩) ?tk10
   case ty10=>(intro w';go_simp;(try with_reducible rfl))
   refine wpAny_take (i:=14) (v:=?tv11) rfl (by kernel_rfl) (by kernel_rfl) (by kernel_rfl) (fun _ _ _ h=>h) (Or.inl ⟨by kernel_rfl,?ty11⟩) ?tk11
   case ty11=>(intro w';go_simp;(try with_reducible rfl))
   refine wpAny_ready (rs:=[3,7,12]) (by kernel_rfl) (by simp) ?_
   refine AllReady.cons rfl (fun K hK=>?_) (AllReady.cons rfl (fun K hK=>?_) (AllReady.cons rfl (fun K hK=>?_) AllReady.nil))
   ·go_simp
    refine hK _ _ ?_
    clear hK K
    refine wpAny_ready (rs:=[7,12]) (by kernel_rfl) (by simp) ?_
    refine AllReady.cons rfl (fun K hK=>?_) (AllReady.cons rfl (fun K hK=>?_) AllReady.nil)
    ·go_simp
     refine hK _ _ ?_
     clear hK K
     refine wpAny_take (i:=8) (v:=?tv12) rfl (by kernel_rfl) (by kernel_rfl) (by kernel_rfl) (fun _ _ _ h=>h) (Or.inl ⟨by kernel_rfl,?ty12⟩) ?tk12
     case ty12=>(intro w';go_simp;(try with_reducible rfl))
     refine wpAny_ready (rs:=[12]) (by kernel_rfl) (by simp) ?_
     refine AllReady.cons rfl (fun K hK=>?_) AllReady.nil
     ·go_simp
      refine hK _ _ ?_
      clear hK K
      refine wpAny_take (i:=15) (v:=?tv13) rfl (by kernel_rfl) (by kernel_rfl) (by kernel_rfl) (fun _ _ _ h=>h) (Or.inl ⟨by kernel_rfl,?ty13⟩) ?tk13
      case ty13=>(intro w';go_simp;(try with_reducible rfl))
      refine wpAny_take (i:=16) (v:=?tv14) rfl (by kernel_rfl) (by kernel_rfl) (by kernel_rfl) (fun _ _ _ h=>h) (Or.inl ⟨by kernel_rfl,?ty14⟩) ?tk14
      case ty14=>(intro w';go_simp;(try with_reducible rfl))
      refine wpAny_take (i:=17) (v:=?tv15) rfl (by kernel_rfl) (by kernel_rfl) (by kernel_rfl) (fun _ _ _ h=>h) (Or.inl ⟨by kernel_rfl,?ty15⟩) ?tk15
      case ty15=>(intro w';go_simp;(try with_reducible rfl))
      refine wpAny_ready (rs:=[18]) (by kernel_rfl) (by simp) ?_
      refine AllReady.cons rfl (fun K hK=>?_) AllReady.nil
      go_simp
      refine hK _ _ ?_
      clear hK K
      refine wpAny_take (i:=19) (v:=?tv16) rfl (by kernel_rfl) (by kernel_rfl) (by kernel_rfl) (fun _ _ _ h=>h) (Or.inl ⟨by kernel_rfl,?ty16⟩) ?tk16
      case ty16=>(intro w';go_simp;(try with_reducible rfl))
      refine wpAny_take (i:=20) (v:=?tv17) rfl (by kernel_rfl) (by kernel_rfl) (by kernel_rfl) (fun _ _ _ h=>h) (Or.inl ⟨by kernel_rfl,?ty17⟩) ?tk17
      case ty17=>(intro w';go_simp;(try with_reducible rfl))
      refine wpAny_ready (rs:=[21]) (by kernel_rfl) (by simp) ?_
      refine AllReady.cons rfl (fun K hK=>?_) AllReady.nil
      go_simp
      refine hK _ _ ?_
      clear hK K
      refine wpAny_take (i:=22) (v:=?tv18) rfl (by kernel_rfl) (by kernel_rfl) (by kernel_rfl) (fun _ _ _ h=>h) (Or.inl ⟨by kernel_rfl,?ty18⟩) ?tk18
      case ty18=>(intro w';go_simp;(try with_reducible rfl))
      refine wpAny_take (i:=23) (v:=?tv19) rfl (by kernel_rfl) (by kernel_rfl) (by kernel_rfl) (fun _ _ _ h=>h) (Or.inl ⟨by kernel_rfl,?ty19⟩) ?tk19
      case ty19=>(intro w';go_simp;(try with_reducible rfl))
      refine wpAny_ready (rs:=[24]) (by kernel_rfl) (by simp) ?_
      refine AllReady.cons rfl (fun K hK=>?_) AllReady.nil
      go_simp
      refine hK _ _ ?_
      clear hK K
      refine wpAny_done (by kernel_rfl) ?_ _
      refine NoPanic.normal ?_
      rw [HWQ.out]
      have qc:=cell_of_heap (i:=0) HNQ.out
      have qz:=frozen_of_heap (i:=0) HNQ.out
      clear c0 c1 c2 c3 c4 c5 c6 c7 c8 c9 f1 f2 f3 f4 f5 f6 f7 f8 x0 x1 x2 x3 x4 x5
      go_wp2_with fail
      refine leaves_cons (f:=54) (args:=#[.pointer (some ⟨w.heap.size,0,none⟩)]) (by simp) (by simp [go_sem]) ?_
      refine HCN.out.mono ?_
      rintro e u' w9 ⟨rfl,rfl,hw9⟩
      have hres:=HRES.out
      rw [← hw9] at hres HEND
      clear hw9 HCN HRES qc qz
      simp [Leaves,settle,results,Tryz.results19]
      go_simp
      exact ⟨rfl,L5,HEND.out.1,HEND.out.2⟩
    ·go_simp
     refine hK _ _ ?_
     clear hK K
     refine wpAny_take (i:=15) (v:=?tv20) rfl (by kernel_rfl) (by kernel_rfl) (by kernel_rfl) (fun _ _ _ h=>h) (Or.inl ⟨by kernel_rfl,?ty20⟩) ?tk20
     case ty20=>(intro w';go_simp;(try with_reducible rfl))
     refine wpAny_ready (rs:=[7]) (by kernel_rfl) (by simp) ?_
     refine AllReady.cons rfl (fun K hK=>?_) AllReady.nil
     ·go_simp
      refine hK _ _ ?_
      clear hK K
      refine wpAny_take (i:=8) (v:=?tv21) rfl (by kernel_rfl) (by kernel_rfl) (by kernel_rfl) (fun _ _ _ h=>h) (Or.inl ⟨by kernel_rfl,?ty21⟩) ?tk21
      case ty21=>(intro w';go_simp;(try with_reducible rfl))
      refine wpAny_take (i:=16) (v:=?tv22) rfl (by kernel_rfl) (by kernel_rfl) (by kernel_rfl) (fun _ _ _ h=>h) (Or.inl ⟨by kernel_rfl,?ty22⟩) ?tk22
      case ty22=>(intro w';go_simp;(try with_reducible rfl))
      refine wpAny_take (i:=17) (v:=?tv23) rfl (by kernel_rfl) (by kernel_rfl) (by kernel_rfl) (fun _ _ _ h=>h) (Or.inl ⟨by kernel_rfl,?ty23⟩) ?tk23
      case ty23=>(intro w';go_simp;(try with_reducible rfl))
      refine wpAny_ready (rs:=[18]) (by kernel_rfl) (by simp) ?_
      refine AllReady.cons rfl (fun K hK=>?_) AllReady.nil
      go_simp
      refine hK _ _ ?_
      clear hK K
      refine wpAny_take (i:=19) (v:=?tv24) rfl (by kernel_rfl) (by kernel_rfl) (by kernel_rfl) (fun _ _ _ h=>h) (Or.inl ⟨by kernel_rfl,?ty24⟩) ?tk24
      case ty24=>(intro w';go_simp;(try with_reducible rfl))
      refine wpAny_take (i:=20) (v:=?tv25) rfl (by kernel_rfl) (by kernel_rfl) (by kernel_rfl) (fun _ _ _ h=>h) (Or.inl ⟨by kernel_rfl,?ty25⟩) ?tk25
      case ty25=>(intro w';go_simp;(try with_reducible rfl))
      refine wpAny_ready (rs:=[21]) (by kernel_rfl) (by simp) ?_
      refine AllReady.cons rfl (fun K hK=>?_) AllReady.nil
      go_simp
      refine hK _ _ ?_
      clear hK K
      refine wpAny_take (i:=22) (v:=?tv26) rfl (by kernel_rfl) (by kernel_rfl) (by kernel_rfl) (fun _ _ _ h=>h) (Or.inl ⟨by kernel_rfl,?ty26⟩) ?tk26
      case ty26=>(intro w';go_simp;(try with_reducible rfl))
      refine wpAny_take (i:=23) (v:=?tv27) rfl (by kernel_rfl) (by kernel_rfl) (by kernel_rfl) (fun _ _ _ h=>h) (Or.inl ⟨by kernel_rfl,?ty27⟩) ?tk27
      case ty27=>(intro w';go_simp;(try with_reducible rfl))
      refine wpAny_ready (rs:=[24]) (by kernel_rfl) (by simp) ?_
      refine AllReady.cons rfl (fun K hK=>?_) AllReady.nil
      go_simp
      refine hK _ _ ?_
      clear hK K
      refine wpAny_done (by kernel_rfl) ?_ _
      refine NoPanic.normal ?_
      rw [HWQ.out]
      have qc:=cell_of_heap (i:=0) HNQ.out
      have qz:=frozen_of_heap (i:=0) HNQ.out
      clear c0 c1 c2 c3 c4 c5 c6 c7 c8 c9 f1 f2 f3 f4 f5 f6 f7 f8 x0 x1 x2 x3 x4 x5
      go_wp2_with fail
      refine leaves_cons (f:=54) (args:=#[.pointer (some ⟨w.heap.size,0,none⟩)]) (by simp) (by simp [go_sem]) ?_
      refine HCN.out.mono ?_
      rintro e u' w9 ⟨rfl,rfl,hw9⟩
      have hres:=HRES.out
      rw [← hw9] at hres HEND
      clear hw9 HCN HRES qc qz
      simp [Leaves,settle,results,Tryz.results19]
      go_simp
      exact ⟨rfl,L5,HEND.out.1,HEND.out.2⟩
   ·go_simp
    refine hK _ _ ?_
    clear hK K
    refine wpAny_take (i:=8) (v:=?tv28) rfl (by kernel_rfl) (by kernel_rfl) (by kernel_rfl) (fun _ _ _ h=>h) (Or.inl ⟨by kernel_rfl,?ty28⟩) ?tk28
    case ty28=>(intro w';go_simp;(try with_reducible rfl))
    refine wpAny_ready (rs:=[3,12]) (by kernel_rfl) (by simp) ?_
    refine AllReady.cons rfl (fun K hK=>?_) (AllReady.cons rfl (fun K hK=>?_) AllReady.nil)
    ·go_simp
     refine hK _ _ ?_
     clear hK K
     refine wpAny_ready (rs:=[12]) (by kernel_rfl) (by simp) ?_
     refine AllReady.cons rfl (fun K hK=>?_) AllReady.nil
     ·go_simp
      refine hK _ _ ?_
      clear hK K
      refine wpAny_take (i:=15) (v:=?tv29) rfl (by kernel_rfl) (by kernel_rfl) (by kernel_rfl) (fun _ _ _ h=>h) (Or.inl ⟨by kernel_rfl,?ty29⟩) ?tk29
      case ty29=>(intro w';go_simp;(try with_reducible rfl))
      refine wpAny_take (i:=16) (v:=?tv30) rfl (by kernel_rfl) (by kernel_rfl) (by kernel_rfl) (fun _ _ _ h=>h) (Or.inl ⟨by kernel_rfl,?ty30⟩) ?tk30
      case ty30=>(intro w';go_simp;(try with_reducible rfl))
      refine wpAny_take (i:=17) (v:=?tv31) rfl (by kernel_rfl) (by kernel_rfl) (by kernel_rfl) (fun _ _ _ h=>h) (Or.inl ⟨by kernel_rfl,?ty31⟩) ?tk31
      case ty31=>(intro w';go_simp;(try with_reducible rfl))
      refine wpAny_ready (rs:=[18]) (by kernel_rfl) (by simp) ?_
      refine AllReady.cons rfl (fun K hK=>?_) AllReady.nil
      go_simp
      refine hK _ _ ?_
      clear hK K
      refine wpAny_take (i:=19) (v:=?tv32) rfl (by kernel_rfl) (by kernel_rfl) (by kernel_rfl) (fun _ _ _ h=>h) (Or.inl ⟨by kernel_rfl,?ty32⟩) ?tk32
      case ty32=>(intro w';go_simp;(try with_reducible rfl))
      refine wpAny_take (i:=20) (v:=?tv33) rfl (by kernel_rfl) (by kernel_rfl) (by kernel_rfl) (fun _ _ _ h=>h) (Or.inl ⟨by kernel_rfl,?ty33⟩) ?tk33
      case ty33=>(intro w';go_simp;(try with_reducible rfl))
      refine wpAny_ready (rs:=[21]) (by kernel_rfl) (by simp) ?_
      refine AllReady.cons rfl (fun K hK=>?_) AllReady.nil
      go_simp
      refine hK _ _ ?_
      clear hK K
      refine wpAny_take (i:=22) (v:=?tv34) rfl (by kernel_rfl) (by kernel_rfl) (by kernel_rfl) (fun _ _ _ h=>h) (Or.inl ⟨by kernel_rfl,?ty34⟩) ?tk34
      case ty34=>(intro w';go_simp;(try with_reducible rfl))
      refine wpAny_take (i:=23) (v:=?tv35) rfl (by kernel_rfl) (by kernel_rfl) (by kernel_rfl) (fun _ _ _ h=>h) (Or.inl ⟨by kernel_rfl,?ty35⟩) ?tk35
      case ty35=>(intro w';go_simp;(try with_reducible rfl))
      refine wpAny_ready (rs:=[24]) (by kernel_rfl) (by simp) ?_
      refine AllReady.cons rfl (fun K hK=>?_) AllReady.nil
      go_simp
      refine hK _ _ ?_
      clear hK K
      refine wpAny_done (by kernel_rfl) ?_ _
      refine NoPanic.normal ?_
      rw [HWQ.out]
      have qc:=cell_of_heap (i:=0) HNQ.out
      have qz:=frozen_of_heap (i:=0) HNQ.out
      clear c0 c1 c2 c3 c4 c5 c6 c7 c8 c9 f1 f2 f3 f4 f5 f6 f7 f8 x0 x1 x2 x3 x4 x5
      go_wp2_with fail
      refine leaves_cons (f:=54) (args:=#[.pointer (some ⟨w.heap.size,0,none⟩)]) (by simp) (by simp [go_sem]) ?_
      refine HCN.out.mono ?_
      rintro e u' w9 ⟨rfl,rfl,hw9⟩
      have hres:=HRES.out
      rw [← hw9] at hres HEND
      clear hw9 HCN HRES qc qz
      simp [Leaves,settle,results,Tryz.results19]
      go_simp
      exact ⟨rfl,L5,HEND.out.1,HEND.out.2⟩
    ·go_simp
     refine hK _ _ ?_
     clear hK K
     refine wpAny_take (i:=15) (v:=?tv36) rfl (by kernel_rfl) (by kernel_rfl) (by kernel_rfl) (fun _ _ _ h=>h) (Or.inl ⟨by kernel_rfl,?ty36⟩) ?tk36
     case ty36=>(intro w';go_simp;(try with_reducible rfl))
     refine wpAny_ready (rs:=[3]) (by kernel_rfl) (by simp) ?_
     refine AllReady.cons rfl (fun K hK=>?_) AllReady.nil
     ·go_simp
      refine hK _ _ ?_
      clear hK K
      refine wpAny_take (i:=16) (v:=?tv37) rfl (by kernel_rfl) (by kernel_rfl) (by kernel_rfl) (fun _ _ _ h=>h) (Or.inl ⟨by kernel_rfl,?ty37⟩) ?tk37
      case ty37=>(intro w';go_simp;(try with_reducible rfl))
      refine wpAny_take (i:=17) (v:=?tv38) rfl (by kernel_rfl) (by kernel_rfl) (by kernel_rfl) (fun _ _ _ h=>h) (Or.inl ⟨by kernel_rfl,?ty38⟩) ?tk38
      case ty38=>(intro w';go_simp;(try with_reducible rfl))
      refine wpAny_ready (rs:=[18]) (by kernel_rfl) (by simp) ?_
      refine AllReady.cons rfl (fun K hK=>?_) AllReady.nil
      go_simp
      refine hK _ _ ?_
      clear hK K
      refine wpAny_take (i:=19) (v:=?tv39) rfl (by kernel_rfl) (by kernel_rfl) (by kernel_rfl) (fun _ _ _ h=>h) (Or.inl ⟨by kernel_rfl,?ty39⟩) ?tk39
      case ty39=>(intro w';go_simp;(try with_reducible rfl))
      refine wpAny_take (i:=20) (v:=?tv40) rfl (by kernel_rfl) (by kernel_rfl) (by kernel_rfl) (fun _ _ _ h=>h) (Or.inl ⟨by kernel_rfl,?ty40⟩) ?tk40
      case ty40=>(intro w';go_simp;(try with_reducible rfl))
      refine wpAny_ready (rs:=[21]) (by kernel_rfl) (by simp) ?_
      refine AllReady.cons rfl (fun K hK=>?_) AllReady.nil
      go_simp
      refine hK _ _ ?_
      clear hK K
      refine wpAny_take (i:=22) (v:=?tv41) rfl (by kernel_rfl) (by kernel_rfl) (by kernel_rfl) (fun _ _ _ h=>h) (Or.inl ⟨by kernel_rfl,?ty41⟩) ?tk41
      case ty41=>(intro w';go_simp;(try with_reducible rfl))
      refine wpAny_take (i:=23) (v:=?tv42) rfl (by kernel_rfl) (by kernel_rfl) (by kernel_rfl) (fun _ _ _ h=>h) (Or.inl ⟨by kernel_rfl,?ty42⟩) ?tk42
      case ty42=>(intro w';go_simp;(try with_reducible rfl))
      refine wpAny_ready (rs:=[24]) (by kernel_rfl) (by simp) ?_
      refine AllReady.cons rfl (fun K hK=>?_) AllReady.nil
      go_simp
      refine hK _ _ ?_
      clear hK K
      refine wpAny_done (by kernel_rfl) ?_ _
      refine NoPanic.normal ?_
      rw [HWQ.out]
      have qc:=cell_of_heap (i:=0) HNQ.out
      have qz:=frozen_of_heap (i:=0) HNQ.out
      clear c0 c1 c2 c3 c4 c5 c6 c7 c8 c9 f1 f2 f3 f4 f5 f6 f7 f8 x0 x1 x2 x3 x4 x5
      go_wp2_with fail
      refine leaves_cons (f:=54) (args:=#[.pointer (some ⟨w.heap.size,0,none⟩)]) (by simp) (by simp [go_sem]) ?_
      refine HCN.out.mono ?_
      rintro e u' w9 ⟨rfl,rfl,hw9⟩
      have hres:=HRES.out
      rw [← hw9] at hres HEND
      clear hw9 HCN HRES qc qz
      simp [Leaves,settle,results,Tryz.results19]
      go_simp
      exact ⟨rfl,L5,HEND.out.1,HEND.out.2⟩
   ·go_simp
    refine hK _ _ ?_
    clear hK K
    refine wpAny_take (i:=15) (v:=?tv43) rfl (by kernel_rfl) (by kernel_rfl) (by kernel_rfl) (fun _ _ _ h=>h) (Or.inl ⟨by kernel_rfl,?ty43⟩) ?tk43
    case ty43=>(intro w';go_simp;(try with_reducible rfl))
    refine wpAny_ready (rs:=[3,7]) (by kernel_rfl) (by simp) ?_
    refine AllReady.cons rfl (fun K hK=>?_) (AllReady.cons rfl (fun K hK=>?_) AllReady.nil)
    ·go_simp
     refine hK _ _ ?_
     clear hK K
     refine wpAny_ready (rs:=[7]) (by kernel_rfl) (by simp) ?_
     refine AllReady.cons rfl (fun K hK=>?_) AllReady.nil
     ·go_simp
      refine hK _ _ ?_
      clear hK K
      refine wpAny_take (i:=8) (v:=?tv44) rfl (by kernel_rfl) (by kernel_rfl) (by kernel_rfl) (fun _ _ _ h=>h) (Or.inl ⟨by kernel_rfl,?ty44⟩) ?tk44
      case ty44=>(intro w';go_simp;(try with_reducible rfl))
      refine wpAny_take (i:=16) (v:=?tv45) rfl (by kernel_rfl) (by kernel_rfl) (by kernel_rfl) (fun _ _ _ h=>h) (Or.inl ⟨by kernel_rfl,?ty45⟩) ?tk45
      case ty45=>(intro w';go_simp;(try with_reducible rfl))
      refine wpAny_take (i:=17) (v:=?tv46) rfl (by kernel_rfl) (by kernel_rfl) (by kernel_rfl) (fun _ _ _ h=>h) (Or.inl ⟨by kernel_rfl,?ty46⟩) ?tk46
      case ty46=>(intro w';go_simp;(try with_reducible rfl))
      refine wpAny_ready (rs:=[18]) (by kernel_rfl) (by simp) ?_
      refine AllReady.cons rfl (fun K hK=>?_) AllReady.nil
      go_simp
      refine hK _ _ ?_
      clear hK K
      refine wpAny_take (i:=19) (v:=?tv47) rfl (by kernel_rfl) (by kernel_rfl) (by kernel_rfl) (fun _ _ _ h=>h) (Or.inl ⟨by kernel_rfl,?ty47⟩) ?tk47
      case ty47=>(intro w';go_simp;(try with_reducible rfl))
      refine wpAny_take (i:=20) (v:=?tv48) rfl (by kernel_rfl) (by kernel_rfl) (by kernel_rfl) (fun _ _ _ h=>h) (Or.inl ⟨by kernel_rfl,?ty48⟩) ?tk48
      case ty48=>(intro w';go_simp;(try with_reducible rfl))
      refine wpAny_ready (rs:=[21]) (by kernel_rfl) (by simp) ?_
      refine AllReady.cons rfl (fun K hK=>?_) AllReady.nil
      go_simp
      refine hK _ _ ?_
      clear hK K
      refine wpAny_take (i:=22) (v:=?tv49) rfl (by kernel_rfl) (by kernel_rfl) (by kernel_rfl) (fun _ _ _ h=>h) (Or.inl ⟨by kernel_rfl,?ty49⟩) ?tk49
      case ty49=>(intro w';go_simp;(try with_reducible rfl))
      refine wpAny_take (i:=23) (v:=?tv50) rfl (by kernel_rfl) (by kernel_rfl) (by kernel_rfl) (fun _ _ _ h=>h) (Or.inl ⟨by kernel_rfl,?ty50⟩) ?tk50
      case ty50=>(intro w';go_simp;(try with_reducible rfl))
      refine wpAny_ready (rs:=[24]) (by kernel_rfl) (by simp) ?_
      refine AllReady.cons rfl (fun K hK=>?_) AllReady.nil
      go_simp
      refine hK _ _ ?_
      clear hK K
      refine wpAny_done (by kernel_rfl) ?_ _
      refine NoPanic.normal ?_
      rw [HWQ.out]
      have qc:=cell_of_heap (i:=0) HNQ.out
      have qz:=frozen_of_heap (i:=0) HNQ.out
      clear c0 c1 c2 c3 c4 c5 c6 c7 c8 c9 f1 f2 f3 f4 f5 f6 f7 f8 x0 x1 x2 x3 x4 x5
      go_wp2_with fail
      refine leaves_cons (f:=54) (args:=#[.pointer (some ⟨w.heap.size,0,none⟩)]) (by simp) (by simp [go_sem]) ?_
      refine HCN.out.mono ?_
      rintro e u' w9 ⟨rfl,rfl,hw9⟩
      have hres:=HRES.out
      rw [← hw9] at hres HEND
      clear hw9 HCN HRES qc qz
      simp [Leaves,settle,results,Tryz.results19]
      go_simp
      exact ⟨rfl,L5,HEND.out.1,HEND.out.2⟩
    ·go_simp
     refine hK _ _ ?_
     clear hK K
     refine wpAny_take (i:=8) (v:=?tv51) rfl (by kernel_rfl) (by kernel_rfl) (by kernel_rfl) (fun _ _ _ h=>h) (Or.inl ⟨by kernel_rfl,?ty51⟩) ?tk51
     case ty51=>(intro w';go_simp;(try with_reducible rfl))
     refine wpAny_ready (rs:=[3]) (by kernel_rfl) (by simp) ?_
     refine AllReady.cons rfl (fun K hK=>?_) AllReady.nil
     ·go_simp
      refine hK _ _ ?_
      clear hK K
      refine wpAny_take (i:=16) (v:=?tv52) rfl (by kernel_rfl) (by kernel_rfl) (by kernel_rfl) (fun _ _ _ h=>h) (Or.inl ⟨by kernel_rfl,?ty52⟩) ?tk52
      case ty52=>(intro w';go_simp;(try with_reducible rfl))
      refine wpAny_take (i:=17) (v:=?tv53) rfl (by kernel_rfl) (by kernel_rfl) (by kernel_rfl) (fun _ _ _ h=>h) (Or.inl ⟨by kernel_rfl,?ty53⟩) ?tk53
      case ty53=>(intro w';go_simp;(try with_reducible rfl))
      refine wpAny_ready (rs:=[18]) (by kernel_rfl) (by simp) ?_
      refine AllReady.cons rfl (fun K hK=>?_) AllReady.nil
      go_simp
      refine hK _ _ ?_
      clear hK K
      refine wpAny_take (i:=19) (v:=?tv54) rfl (by kernel_rfl) (by kernel_rfl) (by kernel_rfl) (fun _ _ _ h=>h) (Or.inl ⟨by kernel_rfl,?ty54⟩) ?tk54
      case ty54=>(intro w';go_simp;(try with_reducible rfl))
      refine wpAny_take (i:=20) (v:=?tv55) rfl (by kernel_rfl) (by kernel_rfl) (by kernel_rfl) (fun _ _ _ h=>h) (Or.inl ⟨by kernel_rfl,?ty55⟩) ?tk55
      case ty55=>(intro w';go_simp;(try with_reducible rfl))
      refine wpAny_ready (rs:=[21]) (by kernel_rfl) (by simp) ?_
      refine AllReady.cons rfl (fun K hK=>?_) AllReady.nil
      go_simp
      refine hK _ _ ?_
      clear hK K
      refine wpAny_take (i:=22) (v:=?tv56) rfl (by kernel_rfl) (by kernel_rfl) (by kernel_rfl) (fun _ _ _ h=>h) (Or.inl ⟨by kernel_rfl,?ty56⟩) ?tk56
      case ty56=>(intro w';go_simp;(try with_reducible rfl))
      refine wpAny_take (i:=23) (v:=?tv57) rfl (by kernel_rfl) (by kernel_rfl) (by kernel_rfl) (fun _ _ _ h=>h) (Or.inl ⟨by kernel_rfl,?ty57⟩) ?tk57
      case ty57=>(intro w';go_simp;(try with_reducible rfl))
      refine wpAny_ready (rs:=[24]) (by kernel_rfl) (by simp) ?_
      refine AllReady.cons rfl (fun K hK=>?_) AllReady.nil
      go_simp
      refine hK _ _ ?_
      clear hK K
      refine wpAny_done (by kernel_rfl) ?_ _
      refine NoPanic.normal ?_
      rw [HWQ.out]
      have qc:=cell_of_heap (i:=0) HNQ.out
      have qz:=frozen_of_heap (i:=0) HNQ.out
      clear c0 c1 c2 c3 c4 c5 c6 c7 c8 c9 f1 f2 f3 f4 f5 f6 f7 f8 x0 x1 x2 x3 x4 x5
      go_wp2_with fail
      refine leaves_cons (f:=54) (args:=#[.pointer (some ⟨w.heap.size,0,none⟩)]) (by simp) (by simp [go_sem]) ?_
      refine HCN.out.mono ?_
      rintro e u' w9 ⟨rfl,rfl,hw9⟩
      have hres:=HRES.out
      rw [← hw9] at hres HEND
      clear hw9 HCN HRES qc qz
      simp [Leaves,settle,results,Tryz.results19]
      go_simp
      exact ⟨rfl,L5,HEND.out.1,HEND.out.2⟩
  ·obtain ⟨rfl,⟨L5,hL5,hU5⟩,hDT⟩:=HRZ.out.2 hc0
   have hUw : Upd (b :: L) w w5 (b :: L5):=(Upd.of_below HBW.out).trans hU5
   have hw5 : w.heap.size ∉ b :: L5:=upd_out hU5 (by have:=HBW.out.size;omega) (fun hm=>by
    rcases List.mem_cons.1 hm with g | g
    ·omega
    ·exact Nat.lt_irrefl _ (HLT.out _ g))
   have hN5:=(hU5.block w.heap.size (by have:=HBW.out.size;omega) (fun hm=>by
    rcases List.mem_cons.1 hm with g | g
    ·omega
    ·exact Nat.lt_irrefl _ (HLT.out _ g))).trans HB4.out
   have hb5:=hDT ca cc la lc ((HBW.out.block b hbb).trans HK.out.blk)
   have hbn5 : b ∉ L5:=by obtain ⟨_,_,_,_,_,_,g,_⟩:=hL5;exact g
   have hlt5 : b < w5.heap.size:=by have:=hUw.size;omega
   have HLS9:=Lib.hid (ls_gen (lg':={ lg with dead:=true }) HK.out HK2.out HK3.out rfl (upd_own hUw 0 (.int .i64 c)) ((own_block 0 _ hlt5 (by omega)).trans hb5) (hL5.dk.keep fun k hk=>own_block 0 _ (hL5.dk.lt k hk) (fun e=>hw5 (by rw [← e];exact List.mem_cons_of_mem _ hk))) hbn5)
   have HU9:=Lib.hid (upd_own hUw 0 (.int .i64 c))
   have HC:=Lib.hid (acatch_yes ⟨w.heap.size,0,none⟩ c 0 w5 (cell_of_heap hN5) (frozen_of_heap hN5))
   have HRES:=Lib.hid (cell_of_heap (i:=0) (Lib.heap_setCell_same (i:=0) hN5 (.int .i64 c)))
   clear hUw hw5 hN5 hb5 hbn5 hlt5 hL5 hU5 hDT
   refine leaves_cons (f:=54) (args:=#[.pointer (some ⟨w.heap.size,0,none⟩)]) (by simp) (by simp [go_sem]) ?_
   refine HC.out.mono ?_
   rintro e u' w9 ⟨rfl,rfl,hw9⟩
   have hres:=HRES.out
   rw [← hw9] at hres HLS9 HU9
   clear hw9 HC HRES
   simp [Leaves,settle,results,Tryz.results19]
   go_simp
   exact ⟨rfl,L5,HLS9.out,HU9.out⟩
end Go.Proofs.YtnnakhdndmjmiaaGreat.Wal
/-
 The contract of Check: a log that goes on,or one that stopped.
-/
set_option linter.unusedVariables false
set_option maxRecDepth 4000
namespace Go.Proofs.YtnnakhdndmjmiaaGreat.Wal
open Go.RowKit DiskP SegsP WalP Disk
open Ints (IntsAt IntsAt.keep cellsI)
open SuperP (Sup)
theorem check_early (c : Int) (p : Option Addr) (s : ByteArray) (w : World) (hr : ∀ w1,Below w.heap.size w w1 → Calls Tryz.prog 46 #[.pointer p] w1 fun e w'=>e = Thrown c ∧ w1 = w') :
  Calls Tryz.prog 21 #[.pointer p,.string s] w fun e w'=>e = .returned (.int .i64 c) ∧ Below w.heap.size w w':=by
 have hf:=hmf
 have hb1 : Below w.heap.size w (w.alloc (.cells #[.int .i64 0] 27)):=(Below.refl _ w).alloc (Nat.le_refl _) _
 have HR:=Lib.hid (hr _ hb1)
 have hN:=heap_alloc_new w (.cells #[.int .i64 0] 27)
 have hc:=cell_of_heap (i:=0) hN
 have hz:=frozen_of_heap (i:=0) hN
 have HB:=Lib.hid (hb1.setCell (p:=⟨w.heap.size,0,none⟩) (Nat.le_refl _) (.int .i64 c))
 have HC:=Lib.hid (kcatch_yes ⟨w.heap.size,0,none⟩ c 0 _ hc hz)
 have HRES:=Lib.hid (cell_of_heap (i:=0) (Lib.heap_setCell_same (i:=0) hN (.int .i64 c)))
 clear hr hN hc hz
 go_enter_defers Tryz.func21,Tryz.ntmps21
 go_wp2_with fail
 refine HR.out.mono ?_
 rintro e w1 ⟨rfl,rfl⟩
 refine leaves_cons (f:=63) (args:=#[.pointer (some ⟨w.heap.size,0,none⟩)]) (by simp) (by simp [go_sem]) ?_
 refine HC.out.mono ?_
 rintro e u' w2 ⟨rfl,rfl,rfl⟩
 have hres:=HRES.out
 generalize (w.alloc (.cells #[.int .i64 0] 27)).setCell ⟨w.heap.size,0,none⟩ (.int .i64 c) = w9 at *
 simp [Leaves,settle,results,Tryz.results21]
 go_simp
 exact HB.out
set_option maxHeartbeats 4000000 in
theorem check_full (L : List Nat) (b d n m m1 : Nat) (lg : Lg) (st : St) (w : World) (h : LS w L b d lg st) (hv : Lv lg st n) (s : List UInt8) (hs : s.length ≤ 52416) (hm : SegsP.need (pc s.length : Int) = (m : Int)) (hm1 : m + 1 = m1) (hm2 : m ≤ 64)
  (hf : (WalP.free lg st.S.length).length < m1) :
  Calls Tryz.prog 21 #[.pointer (some ⟨b,0,none⟩),.string (bs s)] w (Told w L b d 4 lg st):=by
 have hf1:=hmf
 have hal:=hv.alive;have hrn:=hv.run;have hnum:=hv.num;have hgen:=hv.gen
 have hbb:=h.lk.lt
 have hbs : (bs s).size ≤ 52416:=by rw [bs_size];exact hs
 have hb0 : Below w.heap.size w (w.alloc (.cells #[.int .i64 0] 27)):=(Below.refl _ w).alloc (Nat.le_refl _) _
 have hn0:=heap_alloc_new w (.cells #[.int .i64 0] 27)
 have HS0:=Lib.hid (show (w.alloc (.cells #[.int .i64 0] 27)).heap.size = w.heap.size + 1 by simp)
 have HRY:=Lib.hid (ready_yes L b d lg st _ (h.below hb0) hal hrn)
 have hsp:=fun w1=>split_any (bs s) w1 (by omega)
 rw [parts_bs] at hsp
 unfold SplitMade at hsp
 rw [List.length_map,pts_length] at hsp
 have hpc : 1 ≤ pc s.length ∧ pc s.length ≤ 504:=by unfold pc;omega
 have hnd:=fun w1=>need_any (pc s.length : Int) w1 (by omega) (by omega)
 rw [hm] at hnd
 obtain ⟨kp,hkp⟩ : ∃ kp,pc s.length = kp:=⟨_,rfl⟩
 rw [hkp] at hsp hnd hpc
 have HSP:=Lib.hid hsp;have HND:=Lib.hid hnd;have HKP:=Lib.hid hkp
 have HLS:=Lib.hid (fun w1 (hb : Below w.heap.size w w1)=>h.below hb)
 have hm1w : IntKind.i64.wrap ((m : Int) + 1) = (m1 : Int):=by rw [IntWalk.i64_in] <;> omega
 have hbig : ¬ (52416 < ((bs s).size : Int)):=by omega
 have HN0:=Lib.hid hn0;have HB0:=Lib.hid hb0;have HV:=Lib.hid hv;have H:=Lib.hid h;have HM:=Lib.hid hm
 have HT:=Lib.hid (fun w1 (h1 : LS w1 L b d lg st)=>take_full L b d n m1 lg st w1 h1 hv.tk (by omega) (by have:=hv.gen;omega) hf)
 have hlt:=h.dk.lt
 clear hb0 hn0 hsp hnd hkp hv h hm
 generalize bs s = sb at *
 go_enter_defers Tryz.func21,Tryz.ntmps21
 go_wp2_with fail
 refine HRY.out.mono ?_
 rintro e w1 ⟨rfl,rfl⟩
 go_wp2_with fail
 refine (HSP.out _).mono ?_
 rintro e w1 ⟨gS,cS,rfl,hSS,hgS,hb1⟩
 have HB1:=Lib.hid (HB0.out.trans (hb1.mono HB0.out.size))
 have HN1:=Lib.hid ((hb1.block w.heap.size (by rw [HS0.out];omega)).trans HN0.out)
 have HSS:=Lib.hid hSS
 have hgl:=ints_lt2 hSS (by omega) ⟨gS,0,none⟩ rfl
 clear hb1 hSS HB0 HN0 HRY HSP
 go_wp2_with fail
 refine (HND.out w1).mono ?_
 rintro e w2 ⟨rfl,rfl⟩
 clear HND
 go_wp2_with fail
 refine (HT.out w1 (HLS.out _ HB1.out)).mono ?_
 rintro e w3 ⟨rfl,hb3⟩
 have hB3:=HB1.out.trans (hb3.mono HB1.out.size)
 have hs1 : w.heap.size < w1.heap.size:=by have h9:=heap_lt HN1.out;exact h9
 have hN3:=(hb3.block w.heap.size hs1).trans HN1.out
 have hend:=ls_cell H.out ((HLS.out _ hB3).dk) (Upd.of_below hB3) (fun hm=>Nat.lt_irrefl _ (hlt _ hm)) 0 (.int .i64 4)
 have HEND:=Lib.hid (show Told w L b d 4 lg st (.returned (.int .i64 4)) (w3.setCell ⟨w.heap.size,0,none⟩ (.int .i64 4)) from ⟨rfl,L,hend.1,Upd.wide hend.2⟩)
 have HC:=Lib.hid (kcatch_yes ⟨w.heap.size,0,none⟩ 4 0 w3 (cell_of_heap hN3) (frozen_of_heap hN3))
 have HRES:=Lib.hid (cell_of_heap (i:=0) (Lib.heap_setCell_same (i:=0) hN3 (.int .i64 4)))
 clear hb3 hB3 hN3 hend
 refine leaves_cons (f:=63) (args:=#[.pointer (some ⟨w.heap.size,0,none⟩)]) (by simp) (by simp [go_sem]) ?_
 refine HC.out.mono ?_
 rintro e u' w9 ⟨rfl,rfl,hw9⟩
 have hres:=HRES.out
 rw [← hw9] at hres HEND
 clear hw9 HC HRES
 simp [Leaves,settle,results,Tryz.results21]
 go_simp
 exact HEND.out
set_option maxHeartbeats 4000000 in
theorem check_erase (L : List Nat) (b d n m m1 : Nat) (lg : Lg) (st : St) (w : World) (h : LS w L b d lg st) (hv : Lv lg st n) (s : List UInt8) (hs : s.length ≤ 52416) (hm : SegsP.need (pc s.length : Int) = (m : Int)) (hm1 : m + 1 = m1) (hm2 : m ≤ 64)
  (hf : m1 ≤ (WalP.free lg st.S.length).length) (c : Int) (s1 : St) (he : er st false (secs ((WalP.free lg st.S.length).take m1)) = (c,s1)) (hc : c ≠ 0) :
  Calls Tryz.prog 21 #[.pointer (some ⟨b,0,none⟩),.string (bs s)] w (Told w L b d c { lg with dead:=true } s1):=by
 have hf1:=hmf
 have hal:=hv.alive;have hrn:=hv.run;have hnum:=hv.num;have hgen:=hv.gen
 have hbb:=h.lk.lt
 have hbs : (bs s).size ≤ 52416:=by rw [bs_size];exact hs
 have hb0 : Below w.heap.size w (w.alloc (.cells #[.int .i64 0] 27)):=(Below.refl _ w).alloc (Nat.le_refl _) _
 have hn0:=heap_alloc_new w (.cells #[.int .i64 0] 27)
 have HS0:=Lib.hid (show (w.alloc (.cells #[.int .i64 0] 27)).heap.size = w.heap.size + 1 by simp)
 have HRY:=Lib.hid (ready_yes L b d lg st _ (h.below hb0) hal hrn)
 have hsp:=fun w1=>split_any (bs s) w1 (by omega)
 rw [parts_bs] at hsp
 unfold SplitMade at hsp
 rw [List.length_map,pts_length] at hsp
 have hpc : 1 ≤ pc s.length ∧ pc s.length ≤ 504:=by unfold pc;omega
 have hnd:=fun w1=>need_any (pc s.length : Int) w1 (by omega) (by omega)
 rw [hm] at hnd
 obtain ⟨kp,hkp⟩ : ∃ kp,pc s.length = kp:=⟨_,rfl⟩
 rw [hkp] at hsp hnd hpc
 have HSP:=Lib.hid hsp;have HND:=Lib.hid hnd;have HKP:=Lib.hid hkp
 have HLS:=Lib.hid (fun w1 (hb : Below w.heap.size w w1)=>h.below hb)
 have hm1w : IntKind.i64.wrap ((m : Int) + 1) = (m1 : Int):=by rw [IntWalk.i64_in] <;> omega
 have hbig : ¬ (52416 < ((bs s).size : Int)):=by omega
 have HN0:=Lib.hid hn0;have HB0:=Lib.hid hb0;have HV:=Lib.hid hv;have H:=Lib.hid h;have HM:=Lib.hid hm
 have HT:=Lib.hid (fun w1 (h1 : LS w1 L b d lg st)=>take_err L b d n m1 lg st w1 h1 hv.tk (by omega) (by have:=hv.gen;omega) hf c s1 he hc)
 have hlt:=h.dk.lt
 obtain ⟨hD,ca,cc,la,lc,hk,k1,k2,k3⟩:=id h
 have HK:=Lib.hid hk;have HK2:=Lib.hid k2;have HK3:=Lib.hid k3
 clear hD hk k1 k2 k3 he
 clear hb0 hn0 hsp hnd hkp hv h hm
 generalize bs s = sb at *
 go_enter_defers Tryz.func21,Tryz.ntmps21
 go_wp2_with fail
 refine HRY.out.mono ?_
 rintro e w1 ⟨rfl,rfl⟩
 go_wp2_with fail
 refine (HSP.out _).mono ?_
 rintro e w1 ⟨gS,cS,rfl,hSS,hgS,hb1⟩
 have HB1:=Lib.hid (HB0.out.trans (hb1.mono HB0.out.size))
 have HN1:=Lib.hid ((hb1.block w.heap.size (by rw [HS0.out];omega)).trans HN0.out)
 have HSS:=Lib.hid hSS
 have hgl:=ints_lt2 hSS (by omega) ⟨gS,0,none⟩ rfl
 clear hb1 hSS HB0 HN0 HRY HSP
 go_wp2_with fail
 refine (HND.out w1).mono ?_
 rintro e w2 ⟨rfl,rfl⟩
 clear HND
 go_wp2_with fail
 refine (HT.out w1 (HLS.out _ HB1.out)).mono ?_
 rintro e w3 ⟨rfl,⟨L3,hL3,hU3⟩,hDT⟩
 have hs1 : w.heap.size < w1.heap.size:=heap_lt HN1.out
 have hwL : w.heap.size ∉ b :: L:=fun hm=>by
  rcases List.mem_cons.1 hm with g | g
  ·omega
  ·exact Nat.lt_irrefl _ (hlt _ g)
 have hUw : Upd (b :: L) w w3 (b :: L3):=(Upd.of_below HB1.out).trans hU3
 have hN3:=(hU3.block w.heap.size hs1 hwL).trans HN1.out
 have hw3:=upd_out hU3 hs1 hwL
 have hb3:=hDT ca cc la lc ((HB1.out.block b hbb).trans HK.out.blk)
 have hbn3 : b ∉ L3:=by obtain ⟨_,_,_,_,_,_,g,_⟩:=hL3;exact g
 have hlt3 : b < w3.heap.size:=by have:=hUw.size;omega
 have hend:=ls_gen (lg':={ lg with dead:=true }) HK.out HK2.out HK3.out rfl (upd_own hUw 0 (.int .i64 c)) ((own_block 0 _ hlt3 (by omega)).trans hb3) (hL3.dk.keep fun k hk=>own_block 0 _ (hL3.dk.lt k hk) (fun e=>hw3 (by rw [← e];exact List.mem_cons_of_mem _ hk))) hbn3
 have HEND:=Lib.hid (show Told w L b d c { lg with dead:=true } s1 (.returned (.int .i64 c)) (w3.setCell ⟨w.heap.size,0,none⟩ (.int .i64 c)) from ⟨rfl,L3,hend,upd_own hUw 0 (.int .i64 c)⟩)
 have HC:=Lib.hid (kcatch_yes ⟨w.heap.size,0,none⟩ c 0 w3 (cell_of_heap hN3) (frozen_of_heap hN3))
 have HRES:=Lib.hid (cell_of_heap (i:=0) (Lib.heap_setCell_same (i:=0) hN3 (.int .i64 c)))
 clear hUw hN3 hw3 hb3 hbn3 hlt3 hend hL3 hU3 hDT
 refine leaves_cons (f:=63) (args:=#[.pointer (some ⟨w.heap.size,0,none⟩)]) (by simp) (by simp [go_sem]) ?_
 refine HC.out.mono ?_
 rintro e u' w9 ⟨rfl,rfl,hw9⟩
 have hres:=HRES.out
 rw [← hw9] at hres HEND
 clear hw9 HC HRES
 simp [Leaves,settle,results,Tryz.results21]
 go_simp
 exact HEND.out
end Go.Proofs.YtnnakhdndmjmiaaGreat.Wal
/-
 The contract of Check: a log that goes on,room for the base.
-/
set_option linter.unusedVariables false
set_option maxRecDepth 4000
namespace Go.Proofs.YtnnakhdndmjmiaaGreat.Wal
open Go.RowKit DiskP SegsP WalP Disk
open Ints (IntsAt IntsAt.keep cellsI)
open SuperP (Sup)
def put7 (w : World) (b : Nat) (v1 v2 v3 v4 v5 v6 v8 : Value) : World:=((((((w.setCell ⟨b,1,none⟩ v1).setCell ⟨b,2,none⟩ v2).setCell ⟨b,3,none⟩ v3).setCell ⟨b,4,none⟩ v4).setCell ⟨b,5,none⟩ v5).setCell ⟨b,6,none⟩ v6).setCell ⟨b,8,none⟩ v8
theorem upd_put7 (w : World) (b : Nat) (v1 v2 v3 v4 v5 v6 v8 : Value) : Upd [b] w (put7 w b v1 v2 v3 v4 v5 v6 v8) [b]:=by
 have h1:=upd_set w b 1 v1
 have h2:=h1.trans (upd_set _ b 2 v2)
 have h3:=h2.trans (upd_set _ b 3 v3)
 have h4:=h3.trans (upd_set _ b 4 v4)
 have h5:=h4.trans (upd_set _ b 5 v5)
 have h6:=h5.trans (upd_set _ b 6 v6)
 exact h6.trans (upd_set _ b 8 v8)
set_option maxHeartbeats 1000000 in
theorem heap_put7 {w : World} {b : Nat} {x0 x1 x2 x3 x4 x5 x6 x7 x8 x9 : Value} {ty : TypeId} (h : w.heap[b]? = some (.cells #[x0,x1,x2,x3,x4,x5,x6,x7,x8,x9] ty (0,0))) (v1 v2 v3 v4 v5 v6 v8 : Value) : (put7 w b v1 v2 v3 v4 v5 v6 v8).heap[b]? = some (.cells #[x0,v1,v2,v3,v4,v5,v6,x7,v8,x9] ty (0,0)):=by
 unfold put7
 have h1:=Lib.heap_setCell_same (i:=1) h v1
 have h2:=Lib.heap_setCell_same (i:=2) h1 v2
 have h3:=Lib.heap_setCell_same (i:=3) h2 v3
 have h4:=Lib.heap_setCell_same (i:=4) h3 v4
 have h5:=Lib.heap_setCell_same (i:=5) h4 v5
 have h6:=Lib.heap_setCell_same (i:=6) h5 v6
 have h7:=Lib.heap_setCell_same (i:=8) h6 v8
 rw [h7]
 rfl
theorem puts_ok : ∀ (l : List (Int × ByteArray)) (st : St) (n : Nat),Ok n st → Ok (n + l.length + 1) (puts st l).2
 | [],st,n,h=>by
  show Ok (n + 0 + 1) (fl st).2
  exact fl_ok h
 | x :: l,st,n,h=>by
  by_cases hz : (DiskP.wr st x.1 x.2).1 = 0
  ·rw [puts_cons hz]
   have:=puts_ok l _ (n + 1) (wr_ok h x.1 x.2)
   exact this.mono (by rw [List.length_cons];omega)
  ·rw [puts_stop hz]
   exact (wr_ok h x.1 x.2).mono (by omega)
set_option maxHeartbeats 4000000 in
theorem check_main (L : List Nat) (b d n m m1 : Nat) (lg : Lg) (st : St) (w : World) (h : LS w L b d lg st) (hv : Lv lg st n) (s : List UInt8) (hs : s.length ≤ 52416) (hm : SegsP.need (pc s.length : Int) = (m : Int)) (hm1 : m + 1 = m1) (hm2 : m ≤ 64)
  (hf : m1 ≤ (WalP.free lg st.S.length).length) (s1 : St) (he : er st false (secs ((WalP.free lg st.S.length).take m1)) = (0,s1)) (c2 : Int) (s2 : St) (hw : puts s1 ((secs ((WalP.free lg st.S.length).take m)).zip (seald (lg.x.gen + 1).toNat s)) = (c2,s2)) (c3 : Int) (s3 : St) (hl : lay s2 (based lg.x lg.num s.length ((WalP.free lg st.S.length).take m) ((WalP.free lg st.S.length).getD m 0)) = (c3,s3)) (hfit : SuperP.Fit (based lg.x lg.num s.length ((WalP.free lg st.S.length).take m) ((WalP.free lg st.S.length).getD m 0))) :
  Calls Tryz.prog 21 #[.pointer (some ⟨b,0,none⟩),.string (bs s)] w (fun e w'=>(c2 ≠ 0 → Told w L b d c2 { lg with dead:=true } s2 e w') ∧ (c2 = 0 → c3 ≠ 0 → Told w L b d c3 { lg with dead:=true } s3 e w') ∧ (c2 = 0 → c3 = 0 → Told w L b d 0 { lg with x:=based lg.x lg.num s.length ((WalP.free lg st.S.length).take m) ((WalP.free lg st.S.length).getD m 0),pos:=0 } s3 e w')):=by
 have hf1:=hmf
 have hal:=hv.alive;have hrn:=hv.run;have hnum:=hv.num;have hgen:=hv.gen
 have hbb:=h.lk.lt
 have hbs : (bs s).size ≤ 52416:=by rw [bs_size];exact hs
 have hb0 : Below w.heap.size w (w.alloc (.cells #[.int .i64 0] 27)):=(Below.refl _ w).alloc (Nat.le_refl _) _
 have hn0:=heap_alloc_new w (.cells #[.int .i64 0] 27)
 have HS0:=Lib.hid (show (w.alloc (.cells #[.int .i64 0] 27)).heap.size = w.heap.size + 1 by simp)
 have HRY:=Lib.hid (ready_yes L b d lg st _ (h.below hb0) hal hrn)
 have hsp:=fun w1=>split_any (bs s) w1 (by omega)
 rw [parts_bs] at hsp
 unfold SplitMade at hsp
 rw [List.length_map,pts_length] at hsp
 have hpc : 1 ≤ pc s.length ∧ pc s.length ≤ 504:=by unfold pc;omega
 have hnd:=fun w1=>need_any (pc s.length : Int) w1 (by omega) (by omega)
 rw [hm] at hnd
 obtain ⟨kp,hkp⟩ : ∃ kp,pc s.length = kp:=⟨_,rfl⟩
 rw [hkp] at hsp hnd hpc
 have HSP:=Lib.hid hsp;have HND:=Lib.hid hnd;have HKP:=Lib.hid hkp
 have HLS:=Lib.hid (fun w1 (hb : Below w.heap.size w w1)=>h.below hb)
 have hm1w : IntKind.i64.wrap ((m : Int) + 1) = (m1 : Int):=by rw [IntWalk.i64_in] <;> omega
 have hbig : ¬ (52416 < ((bs s).size : Int)):=by omega
 have HN0:=Lib.hid hn0;have HB0:=Lib.hid hb0;have HV:=Lib.hid hv;have H:=Lib.hid h;have HM:=Lib.hid hm
 have HT:=Lib.hid (fun w1 (h1 : LS w1 L b d lg st)=>take_yes L b d n m1 lg st w1 h1 hv.tk (by omega) (by have:=hv.gen;omega) hf 0 s1 he rfl)
 have hlt:=h.dk.lt
 have hng:=fit_nums hv.fit
 have hbL : b ∉ L:=by obtain ⟨_,_,_,_,_,_,g,_⟩:=h;exact g
 obtain ⟨hD,ca,cc,la,lc,hk,k1,k2,k3⟩:=id h
 have HK:=Lib.hid hk;have HK2:=Lib.hid k2;have HK3:=Lib.hid k3
 have hfits : Fits (lg.x.gen + 1).toNat s:=⟨by omega,by omega,by omega⟩
 have hspt:=seal_parts hfits
 obtain ⟨f,hff⟩ : ∃ f,WalP.free lg st.S.length = f:=⟨_,rfl⟩
 rw [hff] at hf HT he hw hl hfit ⊢
 obtain ⟨g1,hg1⟩ : ∃ g1 : Nat,(lg.x.gen + 1).toNat = g1:=⟨_,rfl⟩
 rw [hg1] at hw hspt
 rw [hkp] at hspt
 have hgw : IntKind.i64.wrap (lg.x.gen + 1) = (g1 : Int):=by rw [IntWalk.i64_in] <;> omega
 have HG1:=Lib.hid (show lg.x.gen + 1 = (g1 : Int) by omega)
 have HW:=Lib.hid hw;have HL:=Lib.hid hl;have HFT:=Lib.hid hfit;have HSPT:=Lib.hid hspt
 have hfm : (f.take m1).take m = f.take m:=by rw [List.take_take,Nat.min_eq_left (by omega)]
 have hfd : (f.take m1).drop m = [f.getD m 0]:=by
  rw [← hm1,List.take_succ_eq_append_getElem (by omega),List.drop_left' (by rw [List.length_take];omega)]
  simp [List.getD,show m < f.length by omega]
 have HFM:=Lib.hid hfm;have HFD:=Lib.hid hfd
 have hok1 : Ok (n + 600) s1:=by
  have h9:=er_ok (secs (f.take m1)) st false n hv.ok
  rw [he] at h9
  have h8:=secs_len (f.take m1)
  rw [List.length_take] at h8
  exact h9.mono (by omega)
 have hok2 : Ok (n + 1200) s2:=by
  have h9:=puts_ok ((secs (f.take m)).zip (seald g1 s)) s1 (n + 600) hok1
  rw [hw] at h9
  refine h9.mono ?_
  rw [List.length_zip]
  have h8:=hspt.1
  omega
 have hfl : (f.take m).length = m:=by rw [List.length_take];omega
 have hlm : (secs (f.take m)).length = 8 * m:=by
  rw [secs_length (l:=f.take m) (fun k hk=>fit_range hfit k (List.mem_append_left _ hk)),hfl]
 have hroom : kp ≤ 8 * m:=by
  have h9:=WalP.need_room (m:=(pc s.length : Int))
  have h8:=HM.out
  omega
 have hsbz : ((bs s).size : Int) = (s.length : Int):=by rw [bs_size]
 have HSBZ:=Lib.hid hsbz;have HOK1:=Lib.hid hok1;have HOK2:=Lib.hid hok2;have HLM:=Lib.hid hlm;have HFL:=Lib.hid hfl
 clear hD hk k1 k2 k3 he hw hl hfit hfits hspt hff hg1 hfm hfd hok1 hok2 hlm hfl hsbz
 clear hb0 hn0 hsp hnd hkp hv h hm
 generalize bs s = sb at *
 go_enter_defers Tryz.func21,Tryz.ntmps21
 go_wp2_with fail
 refine HRY.out.mono ?_
 rintro e w1 ⟨rfl,rfl⟩
 go_wp2_with fail
 refine (HSP.out _).mono ?_
 rintro e w1 ⟨gS,cS,rfl,hSS,hgS,hb1⟩
 have HB1:=Lib.hid (HB0.out.trans (hb1.mono HB0.out.size))
 have HN1:=Lib.hid ((hb1.block w.heap.size (by rw [HS0.out];omega)).trans HN0.out)
 have HSS:=Lib.hid hSS
 have hgl:=ints_lt2 hSS (by omega) ⟨gS,0,none⟩ rfl
 clear hb1 hSS HB0 HN0 HRY HSP
 go_wp2_with fail
 refine (HND.out w1).mono ?_
 rintro e w2 ⟨rfl,rfl⟩
 clear HND
 go_wp2_with fail
 refine (HT.out w1 (HLS.out _ HB1.out)).mono ?_
 rintro e w3 ⟨a3,c9,L3,rfl,hI3,hc9,hn9,hf9,hL3,hU3⟩
 have hs1 : w.heap.size < w1.heap.size:=heap_lt HN1.out
 have hwL : w.heap.size ∉ L:=fun hm=>Nat.lt_irrefl _ (hlt _ hm)
 have hUw : Upd L w w3 L3:=(Upd.of_below HB1.out).trans hU3
 have hN3:=(hU3.block w.heap.size hs1 hwL).trans HN1.out
 have hw3 : w.heap.size ∉ L3:=upd_out hU3 hs1 hwL
 have hb3 : w3.heap[b]? = some (lgObj d lg ca cc la lc):=(hUw.block b hbb hbL).trans HK.out.blk
 have hbn3 : b ∉ L3:=by obtain ⟨_,_,_,_,_,_,g,_⟩:=hL3;exact g
 have hgs3 : gS ∉ L:=fun hm=>by have:=hlt _ hm;have:=HB1.out.size;have h9:=hgS;rw [HS0.out] at h9;omega
 have hS3:=strs_upd HSS.out (fun _ y hy=>by cases hy;exact hgs3) hU3
 have hgs4 : gS ∉ L3:=upd_out hU3 hgl hgs3
 have d1 : w3.cell? ⟨b,1,none⟩ = some (.int .i64 lg.x.gen):=cell_of_heap hb3
 have d7 : w3.cell? ⟨b,7,none⟩ = some (.int .i64 lg.num):=cell_of_heap hb3
 have HI3:=Lib.hid hI3;have HN9:=Lib.hid hn9;have HF9:=Lib.hid hf9;have HL3:=Lib.hid hL3;have HUW:=Lib.hid hUw;have HN3:=Lib.hid hN3;have HBB3:=Lib.hid hb3;have HS3:=Lib.hid hS3
 have hmc : m ≤ c9:=by omega
 have hmm : m ≤ m1:=by omega
 have hm11 : m1 - m = 1:=by omega
 have k7 : (w3.alloc zsup).drew.cell? ⟨b,7,none⟩ = some (.int .i64 lg.num):=Lib.cell?_alloc_some _ d7
 clear hI3 hn9 hf9 hL3 hU3 hUw hN3 hb3 hS3 HT HB1 HN1 HSS
 go_wp2_with fail
 go_region_held3 (fun w'=>w'.cell? ⟨b,7,none⟩ = some (.int .i64 lg.num))
  (first | exact d7 | exact k7 | exact Lib.cell?_alloc_some _ d7)
  (first | fail)
 obtain ⟨a4,ha4⟩ : ∃ a4,cutA a3 c9 m = a4:=⟨_,rfl⟩
 rw [show (if c9 = m then a3 else Option.map (fun x=>x.add m) a3) = a4 from ha4]
 have hI3m:=ints_take HI3.out hmm
 rw [HFM.out] at hI3m
 have hI4:=ints_drop HI3.out hmm hc9
 rw [HFD.out,hm11,ha4] at hI4
 have hn4 : a4 = none → c9 - m = 0:=fun e=>cutA_none HN9.out (ha4.trans e)
 have hf3 : ∀ y,a3 = some y → w1.heap.size ≤ y.block ∧ y.block ∉ b :: L3:=fun y hy=>HF9.out (by omega) y hy
 have hf4 : ∀ y,a4 = some y → w1.heap.size ≤ y.block ∧ y.block ∉ b :: L3:=fun y hy=>by
  obtain ⟨x,hx,hxe⟩:=cutA_block (ha4.trans hy)
  rw [hxe];exact hf3 x hx
 have hB4 : Below w3.heap.size w3 (w3.alloc (.cells #[.int .i64 (g1 : Int),.int .i64 lg.num,.int .i64 (sb.size : Int),.int .i64 (g1 : Int),.slice a3 m c9,.slice a4 1 (c9 - m)] 69)).drew:=((Below.refl _ w3).alloc (Nat.le_refl _) _).drew
 have hk4 : (w3.alloc (.cells #[.int .i64 (g1 : Int),.int .i64 lg.num,.int .i64 (sb.size : Int),.int .i64 (g1 : Int),.slice a3 m c9,.slice a4 1 (c9 - m)] 69)).drew.heap[w3.heap.size]? = some (.cells #[.int .i64 (g1 : Int),.int .i64 lg.num,.int .i64 (sb.size : Int),.int .i64 (g1 : Int),.slice a3 m c9,.slice a4 1 (c9 - m)] 69 (0,0)):=heap_alloc_new w3 _
 generalize (w3.alloc (.cells #[.int .i64 (g1 : Int),.int .i64 lg.num,.int .i64 (sb.size : Int),.int .i64 (g1 : Int),.slice a3 m c9,.slice a4 1 (c9 - m)] 69)).drew = w4 at *
 have hk9L : w3.heap.size ∉ L3:=fun hm=>Nat.lt_irrefl _ (HL3.out.dk.lt _ hm)
 have HI3M:=Lib.hid (hI3m.keep hB4);have HI4:=Lib.hid (hI4.keep hB4);have HN4:=Lib.hid hn4;have HF3:=Lib.hid hf3;have HF4:=Lib.hid hf4;have HFN:=Lib.hid (And.intro (fun y (hy : a3 = some y)=>(show w.heap.size < y.block from by have h9:=(hf3 y hy).1;omega)) (fun y (hy : a4 = some y)=>(show w.heap.size < y.block from by have h9:=(hf4 y hy).1;omega)));have HB4:=Lib.hid hB4;have HK4:=Lib.hid hk4
 have hsc:=sectors_any a3 m c9 (f.take m) w4 HI3M.out (by omega)
 unfold IntsOut at hsc
 rw [HLM.out] at hsc
 have HSC:=Lib.hid hsc
 obtain ⟨x0,x1,x2,x3,x4,x5⟩:=six_cells hk4
 clear hI3m hI4 hn4 hf3 hf4 hB4 hk4 hsc ha4 HF9 HI3 d1 d7 k7
 go_wp2_with fail
 refine HSC.out.mono ?_
 rintro e w5 ⟨a5,c5,rfl,hI5,hc5,hn5,hB5,hw5⟩
 have hB35 : Below w3.heap.size w3 w5:=HB4.out.trans (hB5.mono HB4.out.size)
 have hL5:=HL3.out.below hB35
 have h34 : w3.heap.size < w4.heap.size:=heap_lt HK4.out
 have hwr:=write_ls L3 b d (n + 600) lg s1 w5 hL5 HOK1.out a5 (8 * m) c5 (secs (f.take m)) hI5 (fun _ y hy hm=>by
   have h9:=hw5 y hy
   have h8:=hL5.lk.lt
   have h7:=HL3.out.lk.lt
   rcases List.mem_cons.1 hm with g | g
   ·omega
   ·have:=HL3.out.dk.lt _ g;omega) (some ⟨gS,0,none⟩) kp cS ((pts s).map bs) (seald g1 s) (HS3.out.keep hB35) (fun _ y hy=>by
   cases hy
   intro hm
   rcases List.mem_cons.1 hm with g | g
   ·have h9:=hgS;rw [HS0.out] at h9;have g' : gS = b:=g;omega
   ·exact hgs4 g) hroom (by have:=HV.out.nn;omega) (g1 : Int) HSPT.out.1 HSPT.out.2.1 HSPT.out.2.2.1 HSPT.out.2.2.2 c2 s2 HW.out
 have HWR:=Lib.hid hwr
 have HK5:=Lib.hid ((hB5.block _ h34).trans HK4.out)
 have HI3M5:=Lib.hid (HI3M.out.keep hB5);have HI45:=Lib.hid (HI4.out.keep hB5)
 have HB35:=Lib.hid hB35
 clear hI5 hc5 hn5 hB5 hw5 hB35 hL5 hwr HSC x0 x1 x2 x3 x4 x5 HK4 HI3M HI4 HB4
 go_wp2_with fail
 refine HWR.out.mono ?_
 rintro e w6 hrz
 have hwL3 : w.heap.size ∉ b :: L3:=fun hm=>by
  rcases List.mem_cons.1 hm with g | g
  ·omega
  ·exact hw3 g
 have HU05:=Lib.hid (HUW.out.trans (Upd.of_below HB35.out))
 have hs3 : w.heap.size < w3.heap.size:=heap_lt HN3.out
 have HN5:=Lib.hid ((HB35.out.block w.heap.size hs3).trans HN3.out)
 have hb3l : b < w3.heap.size:=heap_lt HBB3.out
 have HBB5:=Lib.hid ((HB35.out.block b hb3l).trans HBB3.out)
 by_cases z2 : c2 = 0
 rotate_left
 ·obtain ⟨rfl,⟨L6,hL6,hU6⟩,hDT⟩:=hrz.2 z2
  have hlp : w.heap.size < w5.heap.size:=heap_lt HN5.out
  have hUx:=(Upd.wide (b:=b) HU05.out).trans hU6
  have hNx:=(hU6.block w.heap.size hlp hwL3).trans HN5.out
  have hwx:=upd_out hU6 hlp hwL3
  have hbx:=hDT ca cc la lc HBB5.out
  have hbnx : b ∉ L6:=by obtain ⟨_,_,_,_,_,_,g,_⟩:=hL6;exact g
  have hltx : b < w6.heap.size:=by have:=hUx.size;omega
  have hend:=ls_gen (lg':={ lg with dead:=true }) HK.out HK2.out HK3.out rfl (upd_own hUx 0 (.int .i64 c2)) ((own_block 0 _ hltx (by omega)).trans hbx) (hL6.dk.keep fun k hk=>own_block 0 _ (hL6.dk.lt k hk) (fun e=>hwx (by rw [← e];exact List.mem_cons_of_mem _ hk))) hbnx
  have HEND:=Lib.hid (show Told w L b d c2 { lg with dead:=true } s2 (.returned (.int .i64 c2)) (w6.setCell ⟨w.heap.size,0,none⟩ (.int .i64 c2)) from ⟨rfl,L6,hend,upd_own hUx 0 (.int .i64 c2)⟩)
  have HC:=Lib.hid (kcatch_yes ⟨w.heap.size,0,none⟩ c2 0 w6 (cell_of_heap hNx) (frozen_of_heap hNx))
  have HRES:=Lib.hid (cell_of_heap (i:=0) (Lib.heap_setCell_same (i:=0) hNx (.int .i64 c2)))
  clear hUx hNx hwx hbx hbnx hltx hend hL6 hU6 hDT
  refine leaves_cons (f:=63) (args:=#[.pointer (some ⟨w.heap.size,0,none⟩)]) (by simp) (by simp [go_sem]) ?_
  refine HC.out.mono ?_
  rintro e u' w9 ⟨rfl,rfl,hw9⟩
  have hres:=HRES.out
  rw [← hw9] at hres HEND
  clear hw9 HC HRES
  simp [Leaves,settle,results,Tryz.results21]
  go_simp
  exact HEND.out
 subst z2
 obtain ⟨rfl,L6,hL6,hU6⟩:=hrz.1 rfl
 have hk95 : w3.heap.size < w5.heap.size:=heap_lt HK5.out
 have HU06:=Lib.hid (HU05.out.trans hU6)
 have HK6:=Lib.hid ((hU6.block _ hk95 hk9L).trans HK5.out)
 have hb5l : b < w5.heap.size:=heap_lt HBB5.out
 have h05 : w.heap.size < w5.heap.size:=heap_lt HN5.out
 have HBB6:=Lib.hid ((hU6.block b hb5l hbn3).trans HBB5.out)
 have HN6:=Lib.hid ((hU6.block w.heap.size h05 hw3).trans HN5.out)
 have hbn6 : b ∉ L6:=upd_out hU6 hb5l hbn3
 have hw6 : w.heap.size ∉ L6:=upd_out hU6 h05 hw3
 have hk96 : w3.heap.size ∉ L6:=upd_out hU6 hk95 hk9L
 have hI36:=ints_upd HI3M5.out (fun _ y hy hm=>(HF3.out y hy).2 (List.mem_cons_of_mem _ hm)) hU6
 have hI46:=ints_upd HI45.out (fun _ y hy hm=>(HF4.out y hy).2 (List.mem_cons_of_mem _ hm)) hU6
 have hf36 : 0 < m → ∀ y,a3 = some y → y.block ∉ b :: L6:=fun h0 y hy hm=>by
  rcases List.mem_cons.1 hm with g | g
  ·exact (HF3.out y hy).2 (by rw [g];simp)
  ·exact upd_out hU6 (ints_lt HI3M5.out h0 y hy) (fun q=>(HF3.out y hy).2 (List.mem_cons_of_mem _ q)) g
 have hf46 : ∀ y,a4 = some y → y.block ∉ b :: L6:=fun y hy hm=>by
  rcases List.mem_cons.1 hm with g | g
  ·exact (HF4.out y hy).2 (by rw [g];simp)
  ·exact upd_out hU6 (ints_lt HI45.out (by omega) y hy) (fun q=>(HF4.out y hy).2 (List.mem_cons_of_mem _ q)) g
 have hst:=store_ls L6 b d (n + 1200) lg s2 w6 hL6 HOK2.out (by have:=HV.out.nn;omega) (based lg.x lg.num s.length (f.take m) (f.getD m 0)) a3 a4 m c9 1 (c9 - m) ⟨hI36,hI46,by omega,by omega⟩ (by omega) (by omega) HFT.out c3 s3 HL.out
 simp only [supV,based] at hst
 rw [HG1.out,← HSBZ.out] at hst
 have HST:=Lib.hid hst
 have HI36:=Lib.hid hI36;have HI46:=Lib.hid hI46;have HF36:=Lib.hid hf36;have HF46:=Lib.hid hf46
 obtain ⟨x0,x1,x2,x3,x4,x5⟩:=six_cells HK6.out
 clear hrz hL6 hU6 hI36 hI46 hf36 hf46 hst HWR HSPT HW HL HFT HI3M5 HI45 HF3 HF4 HK5 HU05 HBB5 HN5 HBB3 HN3
 go_wp2_with fail
 refine HST.out.mono ?_
 rintro e w7 hrz
 have hwL6 : w.heap.size ∉ b :: L6:=fun hm=>by
  rcases List.mem_cons.1 hm with g | g
  ·omega
  ·exact hw6 g
 by_cases z3 : c3 = 0
 rotate_left
 ·obtain ⟨rfl,⟨L7,hL7,hU7⟩,hDT⟩:=hrz.2 z3
  have hlp : w.heap.size < w6.heap.size:=heap_lt HN6.out
  have hUx:=(Upd.wide (b:=b) HU06.out).trans hU7
  have hNx:=(hU7.block w.heap.size hlp hwL6).trans HN6.out
  have hwx:=upd_out hU7 hlp hwL6
  have hbx:=hDT ca cc la lc HBB6.out
  have hbnx : b ∉ L7:=by obtain ⟨_,_,_,_,_,_,g,_⟩:=hL7;exact g
  have hltx : b < w7.heap.size:=by have:=hUx.size;omega
  have hend:=ls_gen (lg':={ lg with dead:=true }) HK.out HK2.out HK3.out rfl (upd_own hUx 0 (.int .i64 c3)) ((own_block 0 _ hltx (by omega)).trans hbx) (hL7.dk.keep fun k hk=>own_block 0 _ (hL7.dk.lt k hk) (fun e=>hwx (by rw [← e];exact List.mem_cons_of_mem _ hk))) hbnx
  have HEND:=Lib.hid (show Told w L b d c3 { lg with dead:=true } s3 (.returned (.int .i64 c3)) (w7.setCell ⟨w.heap.size,0,none⟩ (.int .i64 c3)) from ⟨rfl,L7,hend,upd_own hUx 0 (.int .i64 c3)⟩)
  have HC:=Lib.hid (kcatch_yes ⟨w.heap.size,0,none⟩ c3 0 w7 (cell_of_heap hNx) (frozen_of_heap hNx))
  have HRES:=Lib.hid (cell_of_heap (i:=0) (Lib.heap_setCell_same (i:=0) hNx (.int .i64 c3)))
  clear hUx hNx hwx hbx hbnx hltx hend hL7 hU7 hDT
  refine leaves_cons (f:=63) (args:=#[.pointer (some ⟨w.heap.size,0,none⟩)]) (by simp) (by simp [go_sem]) ?_
  refine HC.out.mono ?_
  rintro e u' w9 ⟨rfl,rfl,hw9⟩
  have hres:=HRES.out
  rw [← hw9] at hres HEND
  clear hw9 HC HRES
  simp [Leaves,settle,results,Tryz.results21]
  go_simp
  exact HEND.out
 subst z3
 obtain ⟨rfl,L7,hL7,hU7⟩:=hrz.1 rfl
 have h06 : w.heap.size < w6.heap.size:=heap_lt HN6.out
 have hb6l : b < w6.heap.size:=heap_lt HBB6.out
 have hk96l : w3.heap.size < w6.heap.size:=heap_lt HK6.out
 have hN7:=(hU7.block w.heap.size h06 hw6).trans HN6.out
 have hb7 : w7.heap[b]? = some (lgObj d lg ca cc la lc):=(hU7.block b hb6l hbn6).trans HBB6.out
 have hk7:=(hU7.block w3.heap.size hk96l hk96).trans HK6.out
 have hw7 : w.heap.size ∉ L7:=upd_out hU7 h06 hw6
 have hbn7 : b ∉ L7:=upd_out hU7 hb6l hbn6
 have hU07:=HU06.out.trans hU7
 have h07 : w.heap.size < w7.heap.size:=heap_lt hN7
 have hb7l : b < w7.heap.size:=heap_lt hb7
 have hI37:=ints_upd HI36.out (fun h0 y hy hm=>HF36.out h0 y hy (List.mem_cons_of_mem _ hm)) hU7
 have hI47:=ints_upd HI46.out (fun _ y hy hm=>HF46.out y hy (List.mem_cons_of_mem _ hm)) hU7
 have hf37 : 0 < m → ∀ y,a3 = some y → y.block ∉ b :: L7:=fun h0 y hy=>upd_out (Upd.wide (b:=b) hU7) (ints_lt HI36.out h0 y hy) (HF36.out h0 y hy)
 have hf47 : ∀ y,a4 = some y → y.block ∉ b :: L7:=fun y hy=>upd_out (Upd.wide (b:=b) hU7) (ints_lt HI46.out (by omega) y hy) (HF46.out y hy)
 have hf3n : ∀ y,a3 = some y → y.block ≠ w.heap.size:=fun y hy=>by have h9:=(HFN.out.1 y hy);omega
 have hf4n : ∀ y,a4 = some y → y.block ≠ w.heap.size:=fun y hy=>by have h9:=(HFN.out.2 y hy);omega
 obtain ⟨x0,x1,x2,x3,x4,x5⟩:=six_cells hk7
 obtain ⟨c0,c1,c2,c3,c4,c5,c6,c7,c8,c9'⟩ : w7.cell? ⟨b,0,none⟩ = some (.pointer (some ⟨d,0,none⟩)) ∧ w7.cell? ⟨b,1,none⟩ = some (.int .i64 lg.x.gen) ∧ w7.cell? ⟨b,2,none⟩ = some (.int .i64 lg.x.base) ∧ w7.cell? ⟨b,3,none⟩ = some (.int .i64 lg.x.size) ∧ w7.cell? ⟨b,4,none⟩ = some (.int .i64 lg.x.cg) ∧
  w7.cell? ⟨b,5,none⟩ = some (.slice ca lg.x.chk.length cc) ∧ w7.cell? ⟨b,6,none⟩ = some (.slice la lg.x.log.length lc) ∧ w7.cell? ⟨b,7,none⟩ = some (.int .i64 lg.num) ∧ w7.cell? ⟨b,8,none⟩ = some (.int .i64 (lg.pos : Int)) ∧ w7.cell? ⟨b,9,none⟩ = some (.bool lg.dead) :=
  ⟨cell_of_heap hb7,cell_of_heap hb7,cell_of_heap hb7,cell_of_heap hb7,cell_of_heap hb7,cell_of_heap hb7,cell_of_heap hb7,cell_of_heap hb7,cell_of_heap hb7,cell_of_heap hb7⟩
 have f1 : w7.frozen? ⟨b,1,none⟩ = false:=frozen_of_heap hb7
 have f2 : w7.frozen? ⟨b,2,none⟩ = false:=frozen_of_heap hb7
 have f3 : w7.frozen? ⟨b,3,none⟩ = false:=frozen_of_heap hb7
 have f4 : w7.frozen? ⟨b,4,none⟩ = false:=frozen_of_heap hb7
 have f5 : w7.frozen? ⟨b,5,none⟩ = false:=frozen_of_heap hb7
 have f6 : w7.frozen? ⟨b,6,none⟩ = false:=frozen_of_heap hb7
 have f8 : w7.frozen? ⟨b,8,none⟩ = false:=frozen_of_heap hb7
 have qc:=cell_of_heap (i:=0) hN7
 have qz:=frozen_of_heap (i:=0) hN7
 have hu8:=upd_put7 w7 b (.int .i64 (g1 : Int)) (.int .i64 lg.num) (.int .i64 (sb.size : Int)) (.int .i64 (g1 : Int)) (.slice a3 m c9) (.slice a4 1 (c9 - m)) (.int .i64 0)
 have hq8:=heap_put7 hb7 (.int .i64 (g1 : Int)) (.int .i64 lg.num) (.int .i64 (sb.size : Int)) (.int .i64 (g1 : Int)) (.slice a3 m c9) (.slice a4 1 (c9 - m)) (.int .i64 0)
 have hkb : ¬ w3.heap.size = b:=by omega
 have hwb : ¬ w.heap.size = b:=by omega
 have HD7:=Lib.hid hL7.dk
 clear hrz hL7 HST HUW HB35 HK6 HI36 HI46 HF36 HF46 hk7 hwL6 hwL3
 obtain ⟨wq,hwq⟩ : ∃ wq,put7 w7 b (.int .i64 (g1 : Int)) (.int .i64 lg.num) (.int .i64 (sb.size : Int)) (.int .i64 (g1 : Int)) (.slice a3 m c9) (.slice a4 1 (c9 - m)) (.int .i64 0) = wq:=⟨_,rfl⟩
 rw [hwq] at hu8 hq8
 have HWQ : Hid ((((((((w7.setCell ⟨b,1,none⟩ (.int .i64 (g1 : Int))).setCell ⟨b,2,none⟩ (.int .i64 lg.num)).setCell ⟨b,3,none⟩ (.int .i64 (sb.size : Int))).setCell ⟨b,4,none⟩ (.int .i64 (g1 : Int))).setCell ⟨b,5,none⟩ (.slice a3 m c9)).setCell ⟨b,6,none⟩ (.slice a4 1 (c9 - m))).setCell ⟨b,8,none⟩ (.int .i64 0)) = wq):=Lib.hid hwq
 have hqs:=hu8.size
 have hNq:=(hu8.block w.heap.size h07 (fun g=>by have:=List.mem_singleton.1 g;omega)).trans hN7
 have hN8:=Lib.heap_setCell_same (i:=0) hNq (.int .i64 0)
 have HC:=Lib.hid (kcatch_no ⟨w.heap.size,0,none⟩ 0 (wq.setCell ⟨w.heap.size,0,none⟩ (.int .i64 0)) (cell_of_heap hN8) (frozen_of_heap hN8))
 have HRES:=Lib.hid (cell_of_heap (i:=0) (Lib.heap_setCell_same (i:=0) hN8 (.int .i64 0)))
 have hUq : Upd (b :: L) w wq (b :: L7):=(Upd.wide hU07).trans (upd_more hu8 (fun k hk=>by rw [List.mem_singleton.1 hk];simp))
 have hU9:=upd_own (upd_own hUq 0 (.int .i64 0)) 0 (.int .i64 0)
 have hs8 : wq.heap.size ≤ (wq.setCell ⟨w.heap.size,0,none⟩ (.int .i64 0)).heap.size:=(Lib.grownBy_setCell (w:=wq) (b:=w.heap.size) (i:=0) (v:=.int .i64 0)).size
 have keep : ∀ k,k < wq.heap.size → k ≠ w.heap.size → ((wq.setCell ⟨w.heap.size,0,none⟩ (.int .i64 0)).setCell ⟨w.heap.size,0,none⟩ (.int .i64 0)).heap[k]? = wq.heap[k]?:=fun k hk hne=>(own_block 0 _ (by omega) hne).trans (own_block 0 _ hk hne)
 have hUo : Upd [w.heap.size] wq ((wq.setCell ⟨w.heap.size,0,none⟩ (.int .i64 0)).setCell ⟨w.heap.size,0,none⟩ (.int .i64 0)) [w.heap.size]:=(upd_set _ _ _ _).trans (upd_set _ _ _ _)
 have hb9:=(keep b (by omega) (by omega)).trans hq8
 have hD9 : Dk ((wq.setCell ⟨w.heap.size,0,none⟩ (.int .i64 0)).setCell ⟨w.heap.size,0,none⟩ (.int .i64 0)) L7 d s3:=HD7.out.keep fun k hk=>by
  have h9:=HD7.out.lt k hk
  exact (keep k (by omega) (fun e=>hw7 (by rw [← e];exact hk))).trans (hu8.block k h9 (fun g=>hbn7 (by rw [← List.mem_singleton.1 g];exact hk)))
 have hI39:=ints_other (ints_other hI37 (fun h0 y hy g=>hf37 h0 y hy (by rw [List.mem_singleton.1 g];simp)) hu8) (fun _ y hy g=>hf3n y hy (List.mem_singleton.1 g)) hUo
 have hI49:=ints_other (ints_other hI47 (fun _ y hy g=>hf47 y hy (by rw [List.mem_singleton.1 g];simp)) hu8) (fun _ y hy g=>hf4n y hy (List.mem_singleton.1 g)) hUo
 have hobj : lgObj d { x:=based lg.x lg.num s.length (f.take m) (f.getD m 0),pos:=0,num:=lg.num,dead:=false } a3 c9 a4 (c9 - m) = .cells #[.pointer (some ⟨d,0,none⟩),.int .i64 (g1 : Int),.int .i64 lg.num,.int .i64 (sb.size : Int),.int .i64 (g1 : Int),.slice a3 m c9,.slice a4 1 (c9 - m),.int .i64 lg.num,.int .i64 0,.bool false] 71 (0,0):=by
  unfold lgObj based
  simp only [HG1.out,HFL.out,HSBZ.out,List.length_singleton]
  rfl
 rw [hal] at hb9
 have HEND:=Lib.hid (show Told w L b d 0 { x:=based lg.x lg.num s.length (f.take m) (f.getD m 0),pos:=0,num:=lg.num,dead:=false } s3 (.returned (.int .i64 0)) ((wq.setCell ⟨w.heap.size,0,none⟩ (.int .i64 0)).setCell ⟨w.heap.size,0,none⟩ (.int .i64 0)) from
  ⟨rfl,L7,⟨hD9,a3,c9,a4,c9 - m,⟨hb9.trans (congrArg some hobj.symm),by show IntsAt _ a3 (f.take m).length (f.take m);rw [HFL.out];exact hI39,hI49,HN9.out,HN4.out⟩,hbn7,fun h0 y hy=>hf37 (by have h9 : 0 < (f.take m).length:=h0;rw [HFL.out] at h9;exact h9) y hy,fun _ y hy=>hf47 y hy⟩,hU9⟩)
 clear hwq hqs hUq hU9 hs8 keep hUo hb9 hD9 hI39 hI49 hobj hu8 hq8 hI37 hI47 hf37 hf47 hf3n hf4n hU07 hU7 hb7 hN7
 go_wp2_with fail
 rw [HWQ.out]
 clear c0 c1 c2 c3 c4 c5 c6 c7 c8 c9' f1 f2 f3 f4 f5 f6 f8 x0 x1 x2 x3 x4 x5 qc qz HWQ hNq hN8
 refine leaves_cons (f:=63) (args:=#[.pointer (some ⟨w.heap.size,0,none⟩)]) (by simp) (by simp [go_sem]) ?_
 refine HC.out.mono ?_
 rintro e u' w9 ⟨rfl,rfl,hw9⟩
 have hres:=HRES.out
 rw [← hw9] at hres HEND
 clear hw9 HC HRES
 simp [Leaves,settle,results,Tryz.results21]
 go_simp
 exact HEND.out
end Go.Proofs.YtnnakhdndmjmiaaGreat.Wal
/-
 The contract of Append: a log that goes on,where it has to grow: no room,and a disk that stops while it erases.
-/
set_option linter.unusedVariables false
set_option maxRecDepth 4000
namespace Go.Proofs.YtnnakhdndmjmiaaGreat.Wal
open Go.RowKit DiskP SegsP WalP Disk
open Ints (IntsAt IntsAt.keep cellsI)
open SuperP (Sup)
open FrameP (frs sz Rec tk)
set_option maxHeartbeats 4000000 in
theorem append_full (L : List Nat) (b d n : Nat) (lg : Lg) (st : St) (w : World) (h : LS w L b d lg st) (hv : Lv lg st n) (recs : List (List UInt8)) (a : Option Addr) (nr cap : Nat) (hS : StrsAt w a nr (recs.map bs)) (ht : Takes recs) (hf : recs.length ≤ 100)
  (mm : Nat) (hmm : SegsP.need ((pc (frs recs).length : Int) - (((secs lg.x.log).length - lg.pos : Nat) : Int)) = (mm : Int)) (hmp : 0 < mm) (hmh : mm ≤ 64)
  (hfu : (WalP.free lg st.S.length).length < mm) :
  Calls Tryz.prog 19 #[.pointer (some ⟨b,0,none⟩),.slice a nr cap] w (Told w L b d 4 lg st):=by
 have hf1:=hmf
 obtain ⟨hll,h0,hsl⟩:=hv.logs
 have hal:=hv.alive;have hrn:=hv.run;have hnum:=hv.num;have hpos:=hv.pos
 have hnr : nr = recs.length:=by rw [← hS.1,List.length_map]
 have hnr0 : ((nr : Int) == 0) = false:=beq_eq_false_iff_ne.2 (by
  have h9:=ht.1
  intro h8
  exact h9 (List.length_eq_zero_iff.1 (by omega)))
 have hszf : (bs (frs recs)).size ≤ 16384:=by rw [bs_size,FrameP.frs_length];exact ht.2.2
 have hfits : Fits (lg.num + 1).toNat (frs recs):=takes_fits ht (by omega) (by omega)
 have hpcs : pc (frs recs).length ≤ 512:=hfits.2.2
 have hkp1 : 1 ≤ pc (frs recs).length:=pc_pos _
 have hkp1 : 1 ≤ pc (frs recs).length:=pc_pos _
 have hkp1 : 1 ≤ pc (frs recs).length:=pc_pos _
 have hkp1 : 1 ≤ pc (frs recs).length:=pc_pos _
 have hkp1 : 1 ≤ pc (frs recs).length:=pc_pos _
 have hkp1 : 1 ≤ pc (frs recs).length:=pc_pos _
 have hb0 : Below w.heap.size w (w.alloc (.cells #[.int .i64 0] 27)):=(Below.refl _ w).alloc (Nat.le_refl _) _
 have hn0:=heap_alloc_new w (.cells #[.int .i64 0] 27)
 have HS0:=Lib.hid (show (w.alloc (.cells #[.int .i64 0] 27)).heap.size = w.heap.size + 1 by simp)
 have HRY:=Lib.hid (ready_yes L b d lg st _ (h.below hb0) hal hrn)
 have HPT:=Lib.hid (fun w1 (hb : Below w.heap.size w w1)=>put_takes recs a nr cap w1 (hS.keep hb) ht hf)
 have hsp:=fun w1=>split_any (bs (frs recs)) w1 (by omega)
 rw [parts_bs] at hsp
 unfold SplitMade at hsp
 rw [List.length_map,pts_length] at hsp
 have HSP:=Lib.hid hsp
 have hlf:=fun w1 (h1 : LS w1 L b d lg st)=>left_ls L b d lg st w1 h1 (by omega) h0 hpos
 unfold IntsOut at hlf
 have hrl : ((secs lg.x.log).drop lg.pos).length = (secs lg.x.log).length - lg.pos:=List.length_drop
 rw [hrl] at hlf
 have HLF:=Lib.hid hlf
 have HLS:=Lib.hid (fun w1 (hb : Below w.heap.size w w1)=>h.below hb)
 have HSPT:=Lib.hid (seal_parts hfits)
 have hbb:=h.lk.lt
 have HLT:=Lib.hid h.dk.lt
 have H:=Lib.hid h
 have hh:=h
 obtain ⟨hD,ca,cc,la,lc,hk,k1,k2,k3⟩:=hh
 obtain ⟨z0,z1,z2,z3,z4,z5,z6,z7,z8,z9⟩:=lk_cells hk
 have hsix : sixAt w b lg.x ca cc la lc:=⟨z1,z2,z3,z4,z5,z6⟩
 have H6:=Lib.hid hsix;have H0:=Lib.hid z0;have H7:=Lib.hid z7;have H8:=Lib.hid z8
 have HK:=Lib.hid hk;have HK1:=Lib.hid k1;have HK2:=Lib.hid k2;have HK3:=Lib.hid k3;have HD:=Lib.hid hD
 have hnm : (lg.num == 1099511627776) = false:=beq_eq_false_iff_ne.2 (by omega)
 have HB0:=Lib.hid hb0;have HN0:=Lib.hid hn0;have HV:=Lib.hid hv
 have hrb : (((secs lg.x.log).length - lg.pos : Nat) : Int) = ((secs lg.x.log).length : Int) - lg.pos:=by omega
 have hR8 : (secs lg.x.log).length ≤ 504:=by omega
 have hbL : b ∉ L:=k1
 have HBL:=Lib.hid hbL
 obtain ⟨nn,hnn⟩ : ∃ nn : Nat,(lg.num + 1).toNat = nn:=⟨_,rfl⟩
 rw [hnn] at HSPT
 obtain ⟨kp,hkp⟩ : ∃ kp,pc (frs recs).length = kp:=⟨_,rfl⟩
 obtain ⟨lr,hlr⟩ : ∃ lr,(secs lg.x.log).length - lg.pos = lr:=⟨_,rfl⟩
 rw [hkp] at HSP HSPT hpcs hkp1
 rw [hlr] at HLF hrb hrl
 have HRL:=Lib.hid hrl
 have hlr5 : lr ≤ 504:=by omega
 have hps5 : lg.pos ≤ 504:=by omega
 have HLRE:=Lib.hid hlr
 rw [hkp,hlr] at hmm
 have hnx:=fun w1=>need_any ((kp : Int) - lr) w1 (by omega) (by omega)
 rw [hmm] at hnx
 have HNEED:=Lib.hid hnx
 have HTK:=Lib.hid (fun w1 (h1 : LS w1 L b d lg st)=>take_full L b d n mm lg st w1 h1 hv.tk (by omega) (by have:=hv.gen;omega) hfu)
 have HNN:=Lib.hid (show ((nn : Nat) : Int) = lg.num + 1 by omega)
 clear hnn hbL hmm
 clear hv hS ht hsp hlf h hD hk k1 k2 k3 z0 z1 z2 z3 z4 z5 z6 z7 z8 z9 hsix hb0 hn0 hfits hrl hnr hrb hsl hlr hR8 hpos
 generalize bs (frs recs) = fb at *
 obtain ⟨nm,hnmn⟩ : ∃ nm,lg.num = nm:=⟨_,rfl⟩
 have HNM:=Lib.hid hnmn
 rw [hnmn] at hnm hnum H7 HNN
 clear hnmn
 go_enter_defers Tryz.func19,Tryz.ntmps19
 go_wp2_with fail
 refine HRY.out.mono ?_
 rintro e w1 ⟨rfl,rfl⟩
 go_wp2_with fail
 refine (HPT.out _ HB0.out).mono ?_
 rintro e w1 ⟨rfl,hb1⟩
 have hB1:=HB0.out.trans (hb1.mono HB0.out.size)
 have HB1:=Lib.hid hB1
 have HN1:=Lib.hid ((hb1.block w.heap.size (by rw [HS0.out];omega)).trans HN0.out)
 have d7 : w1.cell? ⟨b,7,none⟩ = some (.int .i64 nm):=(hB1.cell (p:=⟨b,7,none⟩) hbb).trans H7.out
 have hw1 : w.heap.size < w1.heap.size:=by have h9:=hb1.size;rw [HS0.out] at h9;omega
 clear hb1 hB1 HB0 HN0 HRY HPT
 go_wp2_with fail
 refine (raise_no w1).mono ?_
 rintro e w2 ⟨rfl,rfl⟩
 go_wp2_with fail
 apply join6 (F:=fun wz g7 c7 a8 c8 k9=>Hid (Below w1.heap.size w1 wz ∧ StrsAt wz (some ⟨g7,0,none⟩) kp ((pts (frs recs)).map bs) ∧ w1.heap.size ≤ g7 ∧ IntsAt wz a8 lr ((secs lg.x.log).drop lg.pos) ∧ lr ≤ c8 ∧ (a8 = none → c8 = 0) ∧ (∀ y,a8 = some y → w1.heap.size ≤ y.block) ∧
  wz.heap[k9]? = some (.cells #[.int .i64 lg.x.gen,.int .i64 lg.x.base,.int .i64 lg.x.size,.int .i64 lg.x.cg,.slice ca lg.x.chk.length cc,.slice la lg.x.log.length lc] 69 (0,0)) ∧ w1.heap.size ≤ k9 ∧ k9 ≠ g7 ∧ (0 < lr → ∀ y,a8 = some y → y.block ≠ k9)))
 ·intro hG
  have hb1w : b < w1.heap.size:=by omega
  have h61:=six_keep H6.out hbb HB1.out
  have H6b:=Lib.hid h61.1
  have t0 : Below w1.heap.size w1 w1.drew:=(Below.refl _ w1).drew
  have s0 : sixAt w1.drew b lg.x ca cc la lc:=h61.1
  clear h61
  refine wp_region_noPanic ?_
  refine wp_region_held_drew (S:=(fun w'=>(w'.cell? ⟨b,1,none⟩ = some (.int .i64 lg.x.gen) ∧ w'.cell? ⟨b,2,none⟩ = some (.int .i64 lg.x.base) ∧ w'.cell? ⟨b,3,none⟩ = some (.int .i64 lg.x.size) ∧ w'.cell? ⟨b,4,none⟩ = some (.int .i64 lg.x.cg) ∧ w'.cell? ⟨b,5,none⟩ = some (.slice ca lg.x.chk.length cc) ∧ w'.cell? ⟨b,6,none⟩ = some (.slice la lg.x.log.length lc)) ∧ Below w1.heap.size w1 w')) (by kernel_rfl) (by first | exact ⟨s0,t0⟩) (fun hHeld=>?_)
  refine wpAnyH_take (i:=0) (v:=?v1) rfl ?s1 ?f1 ?r1 ?q1 (Or.inl ⟨?y1,?z1⟩) ?h1 ?k1
  case s1 | f1 | r1 | y1=>kernel_rfl
  case q1=>exact fun _ _ _ h=>h
  case z1=>(intro w' hSw;(try dsimp only at hSw);go_simp;(try with_reducible rfl))
  case h1=>exact hHeld
  refine wpAnyH_take (i:=2) (v:=?v2) rfl ?s2 ?f2 ?r2 ?q2 (Or.inl ⟨?y2,?z2⟩) ?h2 ?k2
  case s2 | f2 | r2 | y2=>kernel_rfl
  case q2=>exact fun _ _ _ h=>h
  case z2=>(intro w' hSw;(try dsimp only at hSw);go_simp;(try with_reducible rfl))
  case h2=>exact hHeld
  refine wpAnyH_take (i:=4) (v:=?v3) rfl ?s3 ?f3 ?r3 ?q3 (Or.inl ⟨?y3,?z3⟩) ?h3 ?k3
  case s3 | f3 | r3 | y3=>kernel_rfl
  case q3=>exact fun _ _ _ h=>h
  case z3=>(intro w' hSw;(try dsimp only at hSw);go_simp;(try with_reducible rfl))
  case h3=>exact hHeld
  refine wpAnyH_take (i:=5) (v:=?v4) rfl ?s4 ?f4 ?r4 ?q4 (Or.inl ⟨?y4,?z4⟩) ?h4 ?k4
  case s4 | f4 | r4 | y4=>kernel_rfl
  case q4=>exact fun _ _ _ h=>h
  case z4=>(intro w' hSw;(try dsimp only at hSw);go_simp;(try with_reducible rfl))
  case h4=>exact hHeld
  refine wpAnyH_take (i:=6) (v:=?v5) rfl ?s5 ?f5 ?r5 ?q5 (Or.inl ⟨?y5,?z5⟩) ?h5 ?k5
  case s5 | f5 | r5 | y5=>kernel_rfl
  case q5=>exact fun _ _ _ h=>h
  case z5=>(intro w' hSw;(try dsimp only at hSw);go_simp;(try with_reducible rfl))
  case h5=>exact hHeld
  refine wpAnyH_take (i:=7) (v:=?v6) rfl ?s6 ?f6 ?r6 ?q6 (Or.inl ⟨?y6,?z6⟩) ?h6 ?k6
  case s6 | f6 | r6 | y6=>kernel_rfl
  case q6=>exact fun _ _ _ h=>h
  case z6=>(intro w' hSw;(try dsimp only at hSw);go_simp;(try with_reducible rfl))
  case h6=>exact hHeld
  refine wpAnyH_ready (rs:=[1,8]) (by kernel_rfl) (by simp) ?_
  refine AllReadyH.cons rfl (fun K hK=>?_) (AllReadyH.cons rfl (fun K hK=>?_) AllReadyH.nil)
  ·go_simp
   refine (HSP.out _).mono ?_
   rintro e v1 ⟨gS,cS,rfl,hSS,hgS0,hb1⟩
   have hgS : w1.heap.size ≤ gS:=Nat.le_trans t0.size hgS0
   have q1:=six_next s0 hb1w t0 hb1
   have hgLt : gS ≠ v1.heap.size:=by have h5:=ints_lt2 hSS (by omega) ⟨gS,0,none⟩ rfl;have h6 : gS < v1.heap.size:=h5;omega
   refine hK.out _ _ q1 (fun hHeld1=>?_)
   clear hK K hHeld
   obtain ⟨s1,t1⟩:=q1
   refine wpAnyH_ready (rs:=[3,8]) (by kernel_rfl) (by simp) ?_
   refine AllReadyH.cons rfl (fun K hK=>?_) (AllReadyH.cons rfl (fun K hK=>?_) AllReadyH.nil)
   ·go_simp
    refine (HLF.out _ (HLS.out _ (HB1.out.trans (t1.mono HB1.out.size)))).mono ?_
    rintro e v2 ⟨aL,cL,rfl,hIL,hcL,hnL,hb2,hwL0⟩
    have hwL : ∀ y,aL = some y → w1.heap.size ≤ y.block:=fun y hy=>Nat.le_trans t1.size (hwL0 y hy)
    have hSS:=hSS.keep hb2
    have q2:=six_next s1 hb1w t1 hb2
    have hgLt : gS ≠ v2.heap.size:=by have h5:=ints_lt2 hSS (by omega) ⟨gS,0,none⟩ rfl;have h6 : gS < v2.heap.size:=h5;omega
    have hyLt : 0 < lr → ∀ y,aL = some y → y.block ≠ v2.heap.size:=fun h0 y hy=>by have:=ints_lt hIL h0 y hy;omega
    refine hK.out _ _ q2 (fun hHeld2=>?_)
    clear hK K hHeld1
    obtain ⟨s2,t2⟩:=q2
    refine wpAnyH_ready (rs:=[8]) (by kernel_rfl) (by simp) ?_
    refine AllReadyH.cons rfl (fun K hK=>?_) AllReadyH.nil
    ·go_simp
     have hb3a:=(Below.refl _ v2).alloc (Nat.le_refl _) zsup
     have hb3 : Below (v2).heap.size (v2) ((v2).alloc zsup):=⟨hb3a.os,hb3a.tape,hb3a.output,hb3a.size,hb3a.block⟩
     have hZ : ((v2).alloc zsup).heap[(v2).heap.size]? = some zsup:=heap_alloc_new (v2) zsup
     obtain ⟨k9,hk9e⟩ : ∃ k9,(v2).heap.size = k9:=⟨_,rfl⟩
     rw [hk9e] at hZ
     have hk9 : w1.heap.size ≤ k9:=by rw [← hk9e];exact t2.size
     have hk9l : k9 < ((v2).alloc zsup).heap.size:=by show k9 < ((v2).alloc zsup).heap.size;rw [World.size_alloc,hk9e];omega
     have hSS:=hSS.keep hb3
     have hIL:=hIL.keep hb3
     have hgk : gS ≠ k9:=by rw [← hk9e];exact hgLt
     have hyk : 0 < lr → ∀ y,aL = some y → y.block ≠ k9:=by rw [← hk9e];exact hyLt
     have q3:=six_next s2 hb1w t2 hb3
     clear hb3a
     generalize hA3 : (v2).alloc zsup = v3 at *
     try rw [hk9e]
     have hgLt : gS ≠ v3.heap.size:=by have h5:=ints_lt2 hSS (by omega) ⟨gS,0,none⟩ rfl;have h6 : gS < v3.heap.size:=h5;omega
     have hyLt : 0 < lr → ∀ y,aL = some y → y.block ≠ v3.heap.size:=fun h0 y hy=>by have:=ints_lt hIL h0 y hy;omega
     refine hK.out _ _ q3 (fun hHeld3=>?_)
     clear hK K hHeld2
     obtain ⟨s3,t3⟩:=q3
     refine wpAnyH_take (i:=9) (v:=?v7) rfl ?s7 ?f7 ?r7 ?q7 (Or.inl ⟨?y7,?z7⟩) ?h7 ?k7
     case s7 | f7 | r7 | y7=>kernel_rfl
     case q7=>exact fun _ _ _ h=>h
     case z7=>(intro w' hSw;(try dsimp only at hSw);go_simp;(try with_reducible rfl))
     case h7=>exact hHeld3
     refine wpAnyH_take (i:=10) (v:=?v8) rfl ?s8 ?f8 ?r8 ?q8 (Or.inl ⟨?y8,?z8⟩) ?h8 ?k8
     case s8 | f8 | r8 | y8=>kernel_rfl
     case q8=>exact fun _ _ _ h=>h
     case z8=>(intro w' hSw;(try dsimp only at hSw);go_simp;(try with_reducible rfl))
     case h8=>exact hHeld3
     obtain ⟨wz4,hwz⟩ : ∃ wz,put6 v3 k9 (.int .i64 lg.x.gen) (.int .i64 lg.x.base) (.int .i64 lg.x.size) (.int .i64 lg.x.cg) (.slice ca lg.x.chk.length cc) (.slice la lg.x.log.length lc) = wz:=⟨_,rfl⟩
     have hu6:=upd_put6 v3 k9 (.int .i64 lg.x.gen) (.int .i64 lg.x.base) (.int .i64 lg.x.size) (.int .i64 lg.x.cg) (.slice ca lg.x.chk.length cc) (.slice la lg.x.log.length lc)
     have hz6:=heap_put6 hZ (.int .i64 lg.x.gen) (.int .i64 lg.x.base) (.int .i64 lg.x.size) (.int .i64 lg.x.cg) (.slice ca lg.x.chk.length cc) (.slice la lg.x.log.length lc)
     rw [hwz] at hu6 hz6
     have hq6 : Below w1.heap.size w1 wz4:=by rw [← hwz];exact below_put6 t3 hk9 _ _ _ _ _ _
     obtain ⟨y0,y1,y2,y3,y4,y5⟩:=zero_cells6 hZ |>.1
     obtain ⟨r0,r1,r2,r3,r4,r5⟩:=(zero_cells6 hZ).2
     have hwz' : ((((((v3.setCell ⟨k9,0,none⟩ (.int .i64 lg.x.gen)).setCell ⟨k9,1,none⟩ (.int .i64 lg.x.base)).setCell ⟨k9,2,none⟩ (.int .i64 lg.x.size)).setCell ⟨k9,3,none⟩ (.int .i64 lg.x.cg)).setCell ⟨k9,4,none⟩ (.slice ca lg.x.chk.length cc)).setCell ⟨k9,5,none⟩ (.slice la lg.x.log.length lc)) = wz4:=hwz
     have qz:=six_keep H6b.out hb1w hq6
     refine wpAnyH_ready (rs:=[11]) (by kernel_rfl) (by simp) ?_
     refine AllReadyH.cons rfl (fun K hK=>?_) AllReadyH.nil
     go_simp
     try rw [hwz']
     refine hK.out _ _ qz (fun hHeldZ=>?_)
     clear hK K
     refine wpAnyH_done (by kernel_rfl) ?_ _
     refine NoPanic.normal ?_
     exact hG wz4 gS cS aL cL k9 (Lib.hid ⟨hq6,strs_upd hSS (fun _ y hy=>by cases hy;simpa using hgk) hu6,hgS,ints_upd hIL (fun h0 y hy=>by have:=hyk h0 y hy;simpa using this) hu6,hcL,hnL,hwL,hz6,hk9,hgk.symm,hyk⟩)
   ·go_simp
    have hb5a:=(Below.refl _ v1).alloc (Nat.le_refl _) zsup
    have hb5 : Below (v1).heap.size (v1) ((v1).alloc zsup):=⟨hb5a.os,hb5a.tape,hb5a.output,hb5a.size,hb5a.block⟩
    have hZ : ((v1).alloc zsup).heap[(v1).heap.size]? = some zsup:=heap_alloc_new (v1) zsup
    obtain ⟨k9,hk9e⟩ : ∃ k9,(v1).heap.size = k9:=⟨_,rfl⟩
    rw [hk9e] at hZ
    have hk9 : w1.heap.size ≤ k9:=by rw [← hk9e];exact t1.size
    have hk9l : k9 < ((v1).alloc zsup).heap.size:=by show k9 < ((v1).alloc zsup).heap.size;rw [World.size_alloc,hk9e];omega
    have hSS:=hSS.keep hb5
    have hgk : gS ≠ k9:=by rw [← hk9e];exact hgLt
    have q5:=six_next s1 hb1w t1 hb5
    clear hb5a
    generalize hA5 : (v1).alloc zsup = v5 at *
    try rw [hk9e]
    have hgLt : gS ≠ v5.heap.size:=by have h5:=ints_lt2 hSS (by omega) ⟨gS,0,none⟩ rfl;have h6 : gS < v5.heap.size:=h5;omega
    refine hK.out _ _ q5 (fun hHeld5=>?_)
    clear hK K hHeld1
    obtain ⟨s5,t5⟩:=q5
    refine wpAnyH_ready (rs:=[3]) (by kernel_rfl) (by simp) ?_
    refine AllReadyH.cons rfl (fun K hK=>?_) AllReadyH.nil
    ·go_simp
     refine (HLF.out _ (HLS.out _ (HB1.out.trans (t5.mono HB1.out.size)))).mono ?_
     rintro e v6 ⟨aL,cL,rfl,hIL,hcL,hnL,hb6,hwL0⟩
     have hwL : ∀ y,aL = some y → w1.heap.size ≤ y.block:=fun y hy=>Nat.le_trans t5.size (hwL0 y hy)
     have hSS:=hSS.keep hb6
     have hZ:=(hb6.block k9 hk9l).trans hZ
     have hk9l:=Nat.lt_of_lt_of_le hk9l hb6.size
     have hyk : 0 < lr → ∀ y,aL = some y → y.block ≠ k9:=fun _ y hy=>by have:=hwL0 y hy;omega
     have q6:=six_next s5 hb1w t5 hb6
     have hgLt : gS ≠ v6.heap.size:=by have h5:=ints_lt2 hSS (by omega) ⟨gS,0,none⟩ rfl;have h6 : gS < v6.heap.size:=h5;omega
     have hyLt : 0 < lr → ∀ y,aL = some y → y.block ≠ v6.heap.size:=fun h0 y hy=>by have:=ints_lt hIL h0 y hy;omega
     refine hK.out _ _ q6 (fun hHeld6=>?_)
     clear hK K hHeld5
     obtain ⟨s6,t6⟩:=q6
     refine wpAnyH_take (i:=9) (v:=?v9) rfl ?s9 ?f9 ?r9 ?q9 (Or.inl ⟨?y9,?z9⟩) ?h9 ?k9
     case s9 | f9 | r9 | y9=>kernel_rfl
     case q9=>exact fun _ _ _ h=>h
     case z9=>(intro w' hSw;(try dsimp only at hSw);go_simp;(try with_reducible rfl))
     case h9=>exact hHeld6
     refine wpAnyH_take (i:=10) (v:=?v10) rfl ?s10 ?f10 ?r10 ?q10 (Or.inl ⟨?y10,?z10⟩) ?h10 ?k10
     case s10 | f10 | r10 | y10=>kernel_rfl
     case q10=>exact fun _ _ _ h=>h
     case z10=>(intro w' hSw;(try dsimp only at hSw);go_simp;(try with_reducible rfl))
     case h10=>exact hHeld6
     obtain ⟨wz7,hwz⟩ : ∃ wz,put6 v6 k9 (.int .i64 lg.x.gen) (.int .i64 lg.x.base) (.int .i64 lg.x.size) (.int .i64 lg.x.cg) (.slice ca lg.x.chk.length cc) (.slice la lg.x.log.length lc) = wz:=⟨_,rfl⟩
     have hu6:=upd_put6 v6 k9 (.int .i64 lg.x.gen) (.int .i64 lg.x.base) (.int .i64 lg.x.size) (.int .i64 lg.x.cg) (.slice ca lg.x.chk.length cc) (.slice la lg.x.log.length lc)
     have hz6:=heap_put6 hZ (.int .i64 lg.x.gen) (.int .i64 lg.x.base) (.int .i64 lg.x.size) (.int .i64 lg.x.cg) (.slice ca lg.x.chk.length cc) (.slice la lg.x.log.length lc)
     rw [hwz] at hu6 hz6
     have hq6 : Below w1.heap.size w1 wz7:=by rw [← hwz];exact below_put6 t6 hk9 _ _ _ _ _ _
     obtain ⟨y0,y1,y2,y3,y4,y5⟩:=zero_cells6 hZ |>.1
     obtain ⟨r0,r1,r2,r3,r4,r5⟩:=(zero_cells6 hZ).2
     have hwz' : ((((((v6.setCell ⟨k9,0,none⟩ (.int .i64 lg.x.gen)).setCell ⟨k9,1,none⟩ (.int .i64 lg.x.base)).setCell ⟨k9,2,none⟩ (.int .i64 lg.x.size)).setCell ⟨k9,3,none⟩ (.int .i64 lg.x.cg)).setCell ⟨k9,4,none⟩ (.slice ca lg.x.chk.length cc)).setCell ⟨k9,5,none⟩ (.slice la lg.x.log.length lc)) = wz7:=hwz
     have qz:=six_keep H6b.out hb1w hq6
     refine wpAnyH_ready (rs:=[11]) (by kernel_rfl) (by simp) ?_
     refine AllReadyH.cons rfl (fun K hK=>?_) AllReadyH.nil
     go_simp
     try rw [hwz']
     refine hK.out _ _ qz (fun hHeldZ=>?_)
     clear hK K
     refine wpAnyH_done (by kernel_rfl) ?_ _
     refine NoPanic.normal ?_
     exact hG wz7 gS cS aL cL k9 (Lib.hid ⟨hq6,strs_upd hSS (fun _ y hy=>by cases hy;simpa using hgk) hu6,hgS,ints_upd hIL (fun h0 y hy=>by have:=hyk h0 y hy;simpa using this) hu6,hcL,hnL,hwL,hz6,hk9,hgk.symm,hyk⟩)
  ·go_simp
   have hb8a:=(Below.refl _ w1).alloc (Nat.le_refl _) zsup
   have hb8 : Below (w1).heap.size (w1.drew) ((w1.alloc zsup).drew):=⟨hb8a.os,hb8a.tape,hb8a.output,hb8a.size,hb8a.block⟩
   have hZ : ((w1.alloc zsup).drew).heap[(w1).heap.size]? = some zsup:=heap_alloc_new (w1) zsup
   obtain ⟨k9,hk9e⟩ : ∃ k9,(w1).heap.size = k9:=⟨_,rfl⟩
   rw [hk9e] at hZ
   have hk9 : w1.heap.size ≤ k9:=by rw [← hk9e];exact t0.size
   have hk9l : k9 < ((w1.alloc zsup).drew).heap.size:=by show k9 < ((w1).alloc zsup).heap.size;rw [World.size_alloc,hk9e];omega
   have q8:=six_next s0 hb1w t0 hb8
   clear hb8a
   generalize hA8 : (w1.alloc zsup).drew = v8 at *
   try rw [hk9e]
   refine hK.out _ _ q8 (fun hHeld8=>?_)
   clear hK K hHeld
   obtain ⟨s8,t8⟩:=q8
   refine wpAnyH_ready (rs:=[1]) (by kernel_rfl) (by simp) ?_
   refine AllReadyH.cons rfl (fun K hK=>?_) AllReadyH.nil
   ·go_simp
    refine (HSP.out _).mono ?_
    rintro e v9 ⟨gS,cS,rfl,hSS,hgS0,hb9⟩
    have hgS : w1.heap.size ≤ gS:=Nat.le_trans t8.size hgS0
    have hZ:=(hb9.block k9 hk9l).trans hZ
    have hk9l:=Nat.lt_of_lt_of_le hk9l hb9.size
    have hgk : gS ≠ k9:=by omega
    have q9:=six_next s8 hb1w t8 hb9
    have hgLt : gS ≠ v9.heap.size:=by have h5:=ints_lt2 hSS (by omega) ⟨gS,0,none⟩ rfl;have h6 : gS < v9.heap.size:=h5;omega
    refine hK.out _ _ q9 (fun hHeld9=>?_)
    clear hK K hHeld8
    obtain ⟨s9,t9⟩:=q9
    refine wpAnyH_ready (rs:=[3]) (by kernel_rfl) (by simp) ?_
    refine AllReadyH.cons rfl (fun K hK=>?_) AllReadyH.nil
    ·go_simp
     refine (HLF.out _ (HLS.out _ (HB1.out.trans (t9.mono HB1.out.size)))).mono ?_
     rintro e v10 ⟨aL,cL,rfl,hIL,hcL,hnL,hb10,hwL0⟩
     have hwL : ∀ y,aL = some y → w1.heap.size ≤ y.block:=fun y hy=>Nat.le_trans t9.size (hwL0 y hy)
     have hSS:=hSS.keep hb10
     have hZ:=(hb10.block k9 hk9l).trans hZ
     have hk9l:=Nat.lt_of_lt_of_le hk9l hb10.size
     have hyk : 0 < lr → ∀ y,aL = some y → y.block ≠ k9:=fun _ y hy=>by have:=hwL0 y hy;omega
     have q10:=six_next s9 hb1w t9 hb10
     have hgLt : gS ≠ v10.heap.size:=by have h5:=ints_lt2 hSS (by omega) ⟨gS,0,none⟩ rfl;have h6 : gS < v10.heap.size:=h5;omega
     have hyLt : 0 < lr → ∀ y,aL = some y → y.block ≠ v10.heap.size:=fun h0 y hy=>by have:=ints_lt hIL h0 y hy;omega
     refine hK.out _ _ q10 (fun hHeld10=>?_)
     clear hK K hHeld9
     obtain ⟨s10,t10⟩:=q10
     refine wpAnyH_take (i:=9) (v:=?v11) rfl ?s11 ?f11 ?r11 ?q11 (Or.inl ⟨?y11,?z11⟩) ?h11 ?k11
     case s11 | f11 | r11 | y11=>kernel_rfl
     case q11=>exact fun _ _ _ h=>h
     case z11=>(intro w' hSw;(try dsimp only at hSw);go_simp;(try with_reducible rfl))
     case h11=>exact hHeld10
     refine wpAnyH_take (i:=10) (v:=?v12) rfl ?s12 ?f12 ?r12 ?q12 (Or.inl ⟨?y12,?z12⟩) ?h12 ?k12
     case s12 | f12 | r12 | y12=>kernel_rfl
     case q12=>exact fun _ _ _ h=>h
     case z12=>(intro w' hSw;(try dsimp only at hSw);go_simp;(try with_reducible rfl))
     case h12=>exact hHeld10
     obtain ⟨wz11,hwz⟩ : ∃ wz,put6 v10 k9 (.int .i64 lg.x.gen) (.int .i64 lg.x.base) (.int .i64 lg.x.size) (.int .i64 lg.x.cg) (.slice ca lg.x.chk.length cc) (.slice la lg.x.log.length lc) = wz:=⟨_,rfl⟩
     have hu6:=upd_put6 v10 k9 (.int .i64 lg.x.gen) (.int .i64 lg.x.base) (.int .i64 lg.x.size) (.int .i64 lg.x.cg) (.slice ca lg.x.chk.length cc) (.slice la lg.x.log.length lc)
     have hz6:=heap_put6 hZ (.int .i64 lg.x.gen) (.int .i64 lg.x.base) (.int .i64 lg.x.size) (.int .i64 lg.x.cg) (.slice ca lg.x.chk.length cc) (.slice la lg.x.log.length lc)
     rw [hwz] at hu6 hz6
     have hq6 : Below w1.heap.size w1 wz11:=by rw [← hwz];exact below_put6 t10 hk9 _ _ _ _ _ _
     obtain ⟨y0,y1,y2,y3,y4,y5⟩:=zero_cells6 hZ |>.1
     obtain ⟨r0,r1,r2,r3,r4,r5⟩:=(zero_cells6 hZ).2
     have hwz' : ((((((v10.setCell ⟨k9,0,none⟩ (.int .i64 lg.x.gen)).setCell ⟨k9,1,none⟩ (.int .i64 lg.x.base)).setCell ⟨k9,2,none⟩ (.int .i64 lg.x.size)).setCell ⟨k9,3,none⟩ (.int .i64 lg.x.cg)).setCell ⟨k9,4,none⟩ (.slice ca lg.x.chk.length cc)).setCell ⟨k9,5,none⟩ (.slice la lg.x.log.length lc)) = wz11:=hwz
     have qz:=six_keep H6b.out hb1w hq6
     refine wpAnyH_ready (rs:=[11]) (by kernel_rfl) (by simp) ?_
     refine AllReadyH.cons rfl (fun K hK=>?_) AllReadyH.nil
     go_simp
     try rw [hwz']
     refine hK.out _ _ qz (fun hHeldZ=>?_)
     clear hK K
     refine wpAnyH_done (by kernel_rfl) ?_ _
     refine NoPanic.normal ?_
     exact hG wz11 gS cS aL cL k9 (Lib.hid ⟨hq6,strs_upd hSS (fun _ y hy=>by cases hy;simpa using hgk) hu6,hgS,ints_upd hIL (fun h0 y hy=>by have:=hyk h0 y hy;simpa using this) hu6,hcL,hnL,hwL,hz6,hk9,hgk.symm,hyk⟩)
 ·intro wz g7 c7 a8 c8 k9 hF
  obtain ⟨hBz,hSz,hg7,hIz,hc8,hn8,hw8,hz9,hk9,hgk,hyk⟩:=hF.out
  have hBw : Below w.heap.size w wz:=HB1.out.trans (hBz.mono HB1.out.size)
  have hwr : IntKind.i64.wrap ((kp : Int) - (lr : Int)) = (kp : Int) - lr:=by rw [IntWalk.i64_in] <;> omega
  have hnp : (0 : Int) < (mm : Int):=by omega
  have HB4:=Lib.hid ((hBz.block w.heap.size (by omega)).trans HN1.out)
  have hwz : w.heap.size < wz.heap.size:=heap_lt HB4.out
  have HND:=Lib.hid (HNEED.out wz)
  have HTW:=Lib.hid (HTK.out wz (HLS.out wz hBw))
  have HBW:=Lib.hid hBw
  clear hF hSz hIz hc8 hn8 hw8 hz9 hgk hyk hBz hBw HSP HLF HSPT HN1 HB1 H6 HNEED HTK HNN
  go_wp2_with fail
  refine HND.out.mono ?_
  rintro e w4 ⟨rfl,rfl⟩
  clear HND hwr
  go_wp2_with fail
  refine HTW.out.mono ?_
  rintro e w5 ⟨rfl,hb5⟩
  have hB5:=HBW.out.trans (hb5.mono HBW.out.size)
  have hN5:=(hb5.block w.heap.size hwz).trans HB4.out
  have hend:=ls_cell H.out ((HLS.out _ hB5).dk) (Upd.of_below hB5) (fun hm=>Nat.lt_irrefl _ (HLT.out _ hm)) 0 (.int .i64 4)
  have HEND:=Lib.hid (show Told w L b d 4 lg st (.returned (.int .i64 4)) (w5.setCell ⟨w.heap.size,0,none⟩ (.int .i64 4)) from ⟨rfl,L,hend.1,Upd.wide hend.2⟩)
  have HC:=Lib.hid (acatch_yes ⟨w.heap.size,0,none⟩ 4 0 w5 (cell_of_heap hN5) (frozen_of_heap hN5))
  have HRES:=Lib.hid (cell_of_heap (i:=0) (Lib.heap_setCell_same (i:=0) hN5 (.int .i64 4)))
  clear hb5 hB5 hN5 hend
  refine leaves_cons (f:=54) (args:=#[.pointer (some ⟨w.heap.size,0,none⟩)]) (by simp) (by simp [go_sem]) ?_
  refine HC.out.mono ?_
  rintro e u' w9 ⟨rfl,rfl,hw9⟩
  have hres:=HRES.out
  rw [← hw9] at hres HEND
  clear hw9 HC HRES
  simp [Leaves,settle,results,Tryz.results19]
  go_simp
  exact HEND.out
set_option maxHeartbeats 4000000 in
theorem append_erase (L : List Nat) (b d n : Nat) (lg : Lg) (st : St) (w : World) (h : LS w L b d lg st) (hv : Lv lg st n) (recs : List (List UInt8)) (a : Option Addr) (nr cap : Nat) (hS : StrsAt w a nr (recs.map bs)) (ht : Takes recs) (hf : recs.length ≤ 100)
  (mm : Nat) (hmm : SegsP.need ((pc (frs recs).length : Int) - (((secs lg.x.log).length - lg.pos : Nat) : Int)) = (mm : Int)) (hmp : 0 < mm) (hmh : mm ≤ 64)
  (hfu : mm ≤ (WalP.free lg st.S.length).length) (c : Int) (s1 : St) (he : er st false (secs ((WalP.free lg st.S.length).take mm)) = (c,s1)) (hc : c ≠ 0) :
  Calls Tryz.prog 19 #[.pointer (some ⟨b,0,none⟩),.slice a nr cap] w (Told w L b d c { lg with dead:=true } s1):=by
 have hf1:=hmf
 obtain ⟨hll,h0,hsl⟩:=hv.logs
 have hal:=hv.alive;have hrn:=hv.run;have hnum:=hv.num;have hpos:=hv.pos
 have hnr : nr = recs.length:=by rw [← hS.1,List.length_map]
 have hnr0 : ((nr : Int) == 0) = false:=beq_eq_false_iff_ne.2 (by
  have h9:=ht.1
  intro h8
  exact h9 (List.length_eq_zero_iff.1 (by omega)))
 have hszf : (bs (frs recs)).size ≤ 16384:=by rw [bs_size,FrameP.frs_length];exact ht.2.2
 have hfits : Fits (lg.num + 1).toNat (frs recs):=takes_fits ht (by omega) (by omega)
 have hpcs : pc (frs recs).length ≤ 512:=hfits.2.2
 have hkp1 : 1 ≤ pc (frs recs).length:=pc_pos _
 have hkp1 : 1 ≤ pc (frs recs).length:=pc_pos _
 have hkp1 : 1 ≤ pc (frs recs).length:=pc_pos _
 have hkp1 : 1 ≤ pc (frs recs).length:=pc_pos _
 have hkp1 : 1 ≤ pc (frs recs).length:=pc_pos _
 have hkp1 : 1 ≤ pc (frs recs).length:=pc_pos _
 have hb0 : Below w.heap.size w (w.alloc (.cells #[.int .i64 0] 27)):=(Below.refl _ w).alloc (Nat.le_refl _) _
 have hn0:=heap_alloc_new w (.cells #[.int .i64 0] 27)
 have HS0:=Lib.hid (show (w.alloc (.cells #[.int .i64 0] 27)).heap.size = w.heap.size + 1 by simp)
 have HRY:=Lib.hid (ready_yes L b d lg st _ (h.below hb0) hal hrn)
 have HPT:=Lib.hid (fun w1 (hb : Below w.heap.size w w1)=>put_takes recs a nr cap w1 (hS.keep hb) ht hf)
 have hsp:=fun w1=>split_any (bs (frs recs)) w1 (by omega)
 rw [parts_bs] at hsp
 unfold SplitMade at hsp
 rw [List.length_map,pts_length] at hsp
 have HSP:=Lib.hid hsp
 have hlf:=fun w1 (h1 : LS w1 L b d lg st)=>left_ls L b d lg st w1 h1 (by omega) h0 hpos
 unfold IntsOut at hlf
 have hrl : ((secs lg.x.log).drop lg.pos).length = (secs lg.x.log).length - lg.pos:=List.length_drop
 rw [hrl] at hlf
 have HLF:=Lib.hid hlf
 have HLS:=Lib.hid (fun w1 (hb : Below w.heap.size w w1)=>h.below hb)
 have HSPT:=Lib.hid (seal_parts hfits)
 have hbb:=h.lk.lt
 have HLT:=Lib.hid h.dk.lt
 have H:=Lib.hid h
 have hh:=h
 obtain ⟨hD,ca,cc,la,lc,hk,k1,k2,k3⟩:=hh
 obtain ⟨z0,z1,z2,z3,z4,z5,z6,z7,z8,z9⟩:=lk_cells hk
 have hsix : sixAt w b lg.x ca cc la lc:=⟨z1,z2,z3,z4,z5,z6⟩
 have H6:=Lib.hid hsix;have H0:=Lib.hid z0;have H7:=Lib.hid z7;have H8:=Lib.hid z8
 have HK:=Lib.hid hk;have HK1:=Lib.hid k1;have HK2:=Lib.hid k2;have HK3:=Lib.hid k3;have HD:=Lib.hid hD
 have hnm : (lg.num == 1099511627776) = false:=beq_eq_false_iff_ne.2 (by omega)
 have HB0:=Lib.hid hb0;have HN0:=Lib.hid hn0;have HV:=Lib.hid hv
 have hrb : (((secs lg.x.log).length - lg.pos : Nat) : Int) = ((secs lg.x.log).length : Int) - lg.pos:=by omega
 have hR8 : (secs lg.x.log).length ≤ 504:=by omega
 have hbL : b ∉ L:=k1
 have HBL:=Lib.hid hbL
 obtain ⟨nn,hnn⟩ : ∃ nn : Nat,(lg.num + 1).toNat = nn:=⟨_,rfl⟩
 rw [hnn] at HSPT
 obtain ⟨kp,hkp⟩ : ∃ kp,pc (frs recs).length = kp:=⟨_,rfl⟩
 obtain ⟨lr,hlr⟩ : ∃ lr,(secs lg.x.log).length - lg.pos = lr:=⟨_,rfl⟩
 rw [hkp] at HSP HSPT hpcs hkp1
 rw [hlr] at HLF hrb hrl
 have HRL:=Lib.hid hrl
 have hlr5 : lr ≤ 504:=by omega
 have hps5 : lg.pos ≤ 504:=by omega
 have HLRE:=Lib.hid hlr
 rw [hkp,hlr] at hmm
 have hnx:=fun w1=>need_any ((kp : Int) - lr) w1 (by omega) (by omega)
 rw [hmm] at hnx
 have HNEED:=Lib.hid hnx
 have HTK:=Lib.hid (fun w1 (h1 : LS w1 L b d lg st)=>take_err L b d n mm lg st w1 h1 hv.tk (by omega) (by have:=hv.gen;omega) hfu c s1 he hc)
 clear he
 have HNN:=Lib.hid (show ((nn : Nat) : Int) = lg.num + 1 by omega)
 clear hnn hbL hmm
 clear hv hS ht hsp hlf h hD hk k1 k2 k3 z0 z1 z2 z3 z4 z5 z6 z7 z8 z9 hsix hb0 hn0 hfits hrl hnr hrb hsl hlr hR8 hpos
 generalize bs (frs recs) = fb at *
 obtain ⟨nm,hnmn⟩ : ∃ nm,lg.num = nm:=⟨_,rfl⟩
 have HNM:=Lib.hid hnmn
 rw [hnmn] at hnm hnum H7 HNN
 clear hnmn
 go_enter_defers Tryz.func19,Tryz.ntmps19
 go_wp2_with fail
 refine HRY.out.mono ?_
 rintro e w1 ⟨rfl,rfl⟩
 go_wp2_with fail
 refine (HPT.out _ HB0.out).mono ?_
 rintro e w1 ⟨rfl,hb1⟩
 have hB1:=HB0.out.trans (hb1.mono HB0.out.size)
 have HB1:=Lib.hid hB1
 have HN1:=Lib.hid ((hb1.block w.heap.size (by rw [HS0.out];omega)).trans HN0.out)
 have d7 : w1.cell? ⟨b,7,none⟩ = some (.int .i64 nm):=(hB1.cell (p:=⟨b,7,none⟩) hbb).trans H7.out
 have hw1 : w.heap.size < w1.heap.size:=by have h9:=hb1.size;rw [HS0.out] at h9;omega
 clear hb1 hB1 HB0 HN0 HRY HPT
 go_wp2_with fail
 refine (raise_no w1).mono ?_
 rintro e w2 ⟨rfl,rfl⟩
 go_wp2_with fail
 apply join6 (F:=fun wz g7 c7 a8 c8 k9=>Hid (Below w1.heap.size w1 wz ∧ StrsAt wz (some ⟨g7,0,none⟩) kp ((pts (frs recs)).map bs) ∧ w1.heap.size ≤ g7 ∧ IntsAt wz a8 lr ((secs lg.x.log).drop lg.pos) ∧ lr ≤ c8 ∧ (a8 = none → c8 = 0) ∧ (∀ y,a8 = some y → w1.heap.size ≤ y.block) ∧
  wz.heap[k9]? = some (.cells #[.int .i64 lg.x.gen,.int .i64 lg.x.base,.int .i64 lg.x.size,.int .i64 lg.x.cg,.slice ca lg.x.chk.length cc,.slice la lg.x.log.length lc] 69 (0,0)) ∧ w1.heap.size ≤ k9 ∧ k9 ≠ g7 ∧ (0 < lr → ∀ y,a8 = some y → y.block ≠ k9)))
 ·intro hG
  have hb1w : b < w1.heap.size:=by omega
  have h61:=six_keep H6.out hbb HB1.out
  have H6b:=Lib.hid h61.1
  have t0 : Below w1.heap.size w1 w1.drew:=(Below.refl _ w1).drew
  have s0 : sixAt w1.drew b lg.x ca cc la lc:=h61.1
  clear h61
  refine wp_region_noPanic ?_
  refine wp_region_held_drew (S:=(fun w'=>(w'.cell? ⟨b,1,none⟩ = some (.int .i64 lg.x.gen) ∧ w'.cell? ⟨b,2,none⟩ = some (.int .i64 lg.x.base) ∧ w'.cell? ⟨b,3,none⟩ = some (.int .i64 lg.x.size) ∧ w'.cell? ⟨b,4,none⟩ = some (.int .i64 lg.x.cg) ∧ w'.cell? ⟨b,5,none⟩ = some (.slice ca lg.x.chk.length cc) ∧ w'.cell? ⟨b,6,none⟩ = some (.slice la lg.x.log.length lc)) ∧ Below w1.heap.size w1 w')) (by kernel_rfl) (by first | exact ⟨s0,t0⟩) (fun hHeld=>?_)
  refine wpAnyH_take (i:=0) (v:=?v1) rfl ?s1 ?f1 ?r1 ?q1 (Or.inl ⟨?y1,?z1⟩) ?h1 ?k1
  case s1 | f1 | r1 | y1=>kernel_rfl
  case q1=>exact fun _ _ _ h=>h
  case z1=>(intro w' hSw;(try dsimp only at hSw);go_simp;(try with_reducible rfl))
  case h1=>exact hHeld
  refine wpAnyH_take (i:=2) (v:=?v2) rfl ?s2 ?f2 ?r2 ?q2 (Or.inl ⟨?y2,?z2⟩) ?h2 ?k2
  case s2 | f2 | r2 | y2=>kernel_rfl
  case q2=>exact fun _ _ _ h=>h
  case z2=>(intro w' hSw;(try dsimp only at hSw);go_simp;(try with_reducible rfl))
  case h2=>exact hHeld
  refine wpAnyH_take (i:=4) (v:=?v3) rfl ?s3 ?f3 ?r3 ?q3 (Or.inl ⟨?y3,?z3⟩) ?h3 ?k3
  case s3 | f3 | r3 | y3=>kernel_rfl
  case q3=>exact fun _ _ _ h=>h
  case z3=>(intro w' hSw;(try dsimp only at hSw);go_simp;(try with_reducible rfl))
  case h3=>exact hHeld
  refine wpAnyH_take (i:=5) (v:=?v4) rfl ?s4 ?f4 ?r4 ?q4 (Or.inl ⟨?y4,?z4⟩) ?h4 ?k4
  case s4 | f4 | r4 | y4=>kernel_rfl
  case q4=>exact fun _ _ _ h=>h
  case z4=>(intro w' hSw;(try dsimp only at hSw);go_simp;(try with_reducible rfl))
  case h4=>exact hHeld
  refine wpAnyH_take (i:=6) (v:=?v5) rfl ?s5 ?f5 ?r5 ?q5 (Or.inl ⟨?y5,?z5⟩) ?h5 ?k5
  case s5 | f5 | r5 | y5=>kernel_rfl
  case q5=>exact fun _ _ _ h=>h
  case z5=>(intro w' hSw;(try dsimp only at hSw);go_simp;(try with_reducible rfl))
  case h5=>exact hHeld
  refine wpAnyH_take (i:=7) (v:=?v6) rfl ?s6 ?f6 ?r6 ?q6 (Or.inl ⟨?y6,?z6⟩) ?h6 ?k6
  case s6 | f6 | r6 | y6=>kernel_rfl
  case q6=>exact fun _ _ _ h=>h
  case z6=>(intro w' hSw;(try dsimp only at hSw);go_simp;(try with_reducible rfl))
  case h6=>exact hHeld
  refine wpAnyH_ready (rs:=[1,8]) (by kernel_rfl) (by simp) ?_
  refine AllReadyH.cons rfl (fun K hK=>?_) (AllReadyH.cons rfl (fun K hK=>?_) AllReadyH.nil)
  ·go_simp
   refine (HSP.out _).mono ?_
   rintro e v1 ⟨gS,cS,rfl,hSS,hgS0,hb1⟩
   have hgS : w1.heap.size ≤ gS:=Nat.le_trans t0.size hgS0
   have q1:=six_next s0 hb1w t0 hb1
   have hgLt : gS ≠ v1.heap.size:=by have h5:=ints_lt2 hSS (by omega) ⟨gS,0,none⟩ rfl;have h6 : gS < v1.heap.size:=h5;omega
   refine hK.out _ _ q1 (fun hHeld1=>?_)
   clear hK K hHeld
   obtain ⟨s1,t1⟩:=q1
   refine wpAnyH_ready (rs:=[3,8]) (by kernel_rfl) (by simp) ?_
   refine AllReadyH.cons rfl (fun K hK=>?_) (AllReadyH.cons rfl (fun K hK=>?_) AllReadyH.nil)
   ·go_simp
    refine (HLF.out _ (HLS.out _ (HB1.out.trans (t1.mono HB1.out.size)))).mono ?_
    rintro e v2 ⟨aL,cL,rfl,hIL,hcL,hnL,hb2,hwL0⟩
    have hwL : ∀ y,aL = some y → w1.heap.size ≤ y.block:=fun y hy=>Nat.le_trans t1.size (hwL0 y hy)
    have hSS:=hSS.keep hb2
    have q2:=six_next s1 hb1w t1 hb2
    have hgLt : gS ≠ v2.heap.size:=by have h5:=ints_lt2 hSS (by omega) ⟨gS,0,none⟩ rfl;have h6 : gS < v2.heap.size:=h5;omega
    have hyLt : 0 < lr → ∀ y,aL = some y → y.block ≠ v2.heap.size:=fun h0 y hy=>by have:=ints_lt hIL h0 y hy;omega
    refine hK.out _ _ q2 (fun hHeld2=>?_)
    clear hK K hHeld1
    obtain ⟨s2,t2⟩:=q2
    refine wpAnyH_ready (rs:=[8]) (by kernel_rfl) (by simp) ?_
    refine AllReadyH.cons rfl (fun K hK=>?_) AllReadyH.nil
    ·go_simp
     have hb3a:=(Below.refl _ v2).alloc (Nat.le_refl _) zsup
     have hb3 : Below (v2).heap.size (v2) ((v2).alloc zsup):=⟨hb3a.os,hb3a.tape,hb3a.output,hb3a.size,hb3a.block⟩
     have hZ : ((v2).alloc zsup).heap[(v2).heap.size]? = some zsup:=heap_alloc_new (v2) zsup
     obtain ⟨k9,hk9e⟩ : ∃ k9,(v2).heap.size = k9:=⟨_,rfl⟩
     rw [hk9e] at hZ
     have hk9 : w1.heap.size ≤ k9:=by rw [← hk9e];exact t2.size
     have hk9l : k9 < ((v2).alloc zsup).heap.size:=by show k9 < ((v2).alloc zsup).heap.size;rw [World.size_alloc,hk9e];omega
     have hSS:=hSS.keep hb3
     have hIL:=hIL.keep hb3
     have hgk : gS ≠ k9:=by rw [← hk9e];exact hgLt
     have hyk : 0 < lr → ∀ y,aL = some y → y.block ≠ k9:=by rw [← hk9e];exact hyLt
     have q3:=six_next s2 hb1w t2 hb3
     clear hb3a
     generalize hA3 : (v2).alloc zsup = v3 at *
     try rw [hk9e]
     have hgLt : gS ≠ v3.heap.size:=by have h5:=ints_lt2 hSS (by omega) ⟨gS,0,none⟩ rfl;have h6 : gS < v3.heap.size:=h5;omega
     have hyLt : 0 < lr → ∀ y,aL = some y → y.block ≠ v3.heap.size:=fun h0 y hy=>by have:=ints_lt hIL h0 y hy;omega
     refine hK.out _ _ q3 (fun hHeld3=>?_)
     clear hK K hHeld2
     obtain ⟨s3,t3⟩:=q3
     refine wpAnyH_take (i:=9) (v:=?v7) rfl ?s7 ?f7 ?r7 ?q7 (Or.inl ⟨?y7,?z7⟩) ?h7 ?k7
     case s7 | f7 | r7 | y7=>kernel_rfl
     case q7=>exact fun _ _ _ h=>h
     case z7=>(intro w' hSw;(try dsimp only at hSw);go_simp;(try with_reducible rfl))
     case h7=>exact hHeld3
     refine wpAnyH_take (i:=10) (v:=?v8) rfl ?s8 ?f8 ?r8 ?q8 (Or.inl ⟨?y8,?z8⟩) ?h8 ?k8
     case s8 | f8 | r8 | y8=>kernel_rfl
     case q8=>exact fun _ _ _ h=>h
     case z8=>(intro w' hSw;(try dsimp only at hSw);go_simp;(try with_reducible rfl))
     case h8=>exact hHeld3
     obtain ⟨wz4,hwz⟩ : ∃ wz,put6 v3 k9 (.int .i64 lg.x.gen) (.int .i64 lg.x.base) (.int .i64 lg.x.size) (.int .i64 lg.x.cg) (.slice ca lg.x.chk.length cc) (.slice la lg.x.log.length lc) = wz:=⟨_,rfl⟩
     have hu6:=upd_put6 v3 k9 (.int .i64 lg.x.gen) (.int .i64 lg.x.base) (.int .i64 lg.x.size) (.int .i64 lg.x.cg) (.slice ca lg.x.chk.length cc) (.slice la lg.x.log.length lc)
     have hz6:=heap_put6 hZ (.int .i64 lg.x.gen) (.int .i64 lg.x.base) (.int .i64 lg.x.size) (.int .i64 lg.x.cg) (.slice ca lg.x.chk.length cc) (.slice la lg.x.log.length lc)
     rw [hwz] at hu6 hz6
     have hq6 : Below w1.heap.size w1 wz4:=by rw [← hwz];exact below_put6 t3 hk9 _ _ _ _ _ _
     obtain ⟨y0,y1,y2,y3,y4,y5⟩:=zero_cells6 hZ |>.1
     obtain ⟨r0,r1,r2,r3,r4,r5⟩:=(zero_cells6 hZ).2
     have hwz' : ((((((v3.setCell ⟨k9,0,none⟩ (.int .i64 lg.x.gen)).setCell ⟨k9,1,none⟩ (.int .i64 lg.x.base)).setCell ⟨k9,2,none⟩ (.int .i64 lg.x.size)).setCell ⟨k9,3,none⟩ (.int .i64 lg.x.cg)).setCell ⟨k9,4,none⟩ (.slice ca lg.x.chk.length cc)).setCell ⟨k9,5,none⟩ (.slice la lg.x.log.length lc)) = wz4:=hwz
     have qz:=six_keep H6b.out hb1w hq6
     refine wpAnyH_ready (rs:=[11]) (by kernel_rfl) (by simp) ?_
     refine AllReadyH.cons rfl (fun K hK=>?_) AllReadyH.nil
     go_simp
     try rw [hwz']
     refine hK.out _ _ qz (fun hHeldZ=>?_)
     clear hK K
     refine wpAnyH_done (by kernel_rfl) ?_ _
     refine NoPanic.normal ?_
     exact hG wz4 gS cS aL cL k9 (Lib.hid ⟨hq6,strs_upd hSS (fun _ y hy=>by cases hy;simpa using hgk) hu6,hgS,ints_upd hIL (fun h0 y hy=>by have:=hyk h0 y hy;simpa using this) hu6,hcL,hnL,hwL,hz6,hk9,hgk.symm,hyk⟩)
   ·go_simp
    have hb5a:=(Below.refl _ v1).alloc (Nat.le_refl _) zsup
    have hb5 : Below (v1).heap.size (v1) ((v1).alloc zsup):=⟨hb5a.os,hb5a.tape,hb5a.output,hb5a.size,hb5a.block⟩
    have hZ : ((v1).alloc zsup).heap[(v1).heap.size]? = some zsup:=heap_alloc_new (v1) zsup
    obtain ⟨k9,hk9e⟩ : ∃ k9,(v1).heap.size = k9:=⟨_,rfl⟩
    rw [hk9e] at hZ
    have hk9 : w1.heap.size ≤ k9:=by rw [← hk9e];exact t1.size
    have hk9l : k9 < ((v1).alloc zsup).heap.size:=by show k9 < ((v1).alloc zsup).heap.size;rw [World.size_alloc,hk9e];omega
    have hSS:=hSS.keep hb5
    have hgk : gS ≠ k9:=by rw [← hk9e];exact hgLt
    have q5:=six_next s1 hb1w t1 hb5
    clear hb5a
    generalize hA5 : (v1).alloc zsup = v5 at *
    try rw [hk9e]
    have hgLt : gS ≠ v5.heap.size:=by have h5:=ints_lt2 hSS (by omega) ⟨gS,0,none⟩ rfl;have h6 : gS < v5.heap.size:=h5;omega
    refine hK.out _ _ q5 (fun hHeld5=>?_)
    clear hK K hHeld1
    obtain ⟨s5,t5⟩:=q5
    refine wpAnyH_ready (rs:=[3]) (by kernel_rfl) (by simp) ?_
    refine AllReadyH.cons rfl (fun K hK=>?_) AllReadyH.nil
    ·go_simp
     refine (HLF.out _ (HLS.out _ (HB1.out.trans (t5.mono HB1.out.size)))).mono ?_
     rintro e v6 ⟨aL,cL,rfl,hIL,hcL,hnL,hb6,hwL0⟩
     have hwL : ∀ y,aL = some y → w1.heap.size ≤ y.block:=fun y hy=>Nat.le_trans t5.size (hwL0 y hy)
     have hSS:=hSS.keep hb6
     have hZ:=(hb6.block k9 hk9l).trans hZ
     have hk9l:=Nat.lt_of_lt_of_le hk9l hb6.size
     have hyk : 0 < lr → ∀ y,aL = some y → y.block ≠ k9:=fun _ y hy=>by have:=hwL0 y hy;omega
     have q6:=six_next s5 hb1w t5 hb6
     have hgLt : gS ≠ v6.heap.size:=by have h5:=ints_lt2 hSS (by omega) ⟨gS,0,none⟩ rfl;have h6 : gS < v6.heap.size:=h5;omega
     have hyLt : 0 < lr → ∀ y,aL = some y → y.block ≠ v6.heap.size:=fun h0 y hy=>by have:=ints_lt hIL h0 y hy;omega
     refine hK.out _ _ q6 (fun hHeld6=>?_)
     clear hK K hHeld5
     obtain ⟨s6,t6⟩:=q6
     refine wpAnyH_take (i:=9) (v:=?v9) rfl ?s9 ?f9 ?r9 ?q9 (Or.inl ⟨?y9,?z9⟩) ?h9 ?k9
     case s9 | f9 | r9 | y9=>kernel_rfl
     case q9=>exact fun _ _ _ h=>h
     case z9=>(intro w' hSw;(try dsimp only at hSw);go_simp;(try with_reducible rfl))
     case h9=>exact hHeld6
     refine wpAnyH_take (i:=10) (v:=?v10) rfl ?s10 ?f10 ?r10 ?q10 (Or.inl ⟨?y10,?z10⟩) ?h10 ?k10
     case s10 | f10 | r10 | y10=>kernel_rfl
     case q10=>exact fun _ _ _ h=>h
     case z10=>(intro w' hSw;(try dsimp only at hSw);go_simp;(try with_reducible rfl))
     case h10=>exact hHeld6
     obtain ⟨wz7,hwz⟩ : ∃ wz,put6 v6 k9 (.int .i64 lg.x.gen) (.int .i64 lg.x.base) (.int .i64 lg.x.size) (.int .i64 lg.x.cg) (.slice ca lg.x.chk.length cc) (.slice la lg.x.log.length lc) = wz:=⟨_,rfl⟩
     have hu6:=upd_put6 v6 k9 (.int .i64 lg.x.gen) (.int .i64 lg.x.base) (.int .i64 lg.x.size) (.int .i64 lg.x.cg) (.slice ca lg.x.chk.length cc) (.slice la lg.x.log.length lc)
     have hz6:=heap_put6 hZ (.int .i64 lg.x.gen) (.int .i64 lg.x.base) (.int .i64 lg.x.size) (.int .i64 lg.x.cg) (.slice ca lg.x.chk.length cc) (.slice la lg.x.log.length lc)
     rw [hwz] at hu6 hz6
     have hq6 : Below w1.heap.size w1 wz7:=by rw [← hwz];exact below_put6 t6 hk9 _ _ _ _ _ _
     obtain ⟨y0,y1,y2,y3,y4,y5⟩:=zero_cells6 hZ |>.1
     obtain ⟨r0,r1,r2,r3,r4,r5⟩:=(zero_cells6 hZ).2
     have hwz' : ((((((v6.setCell ⟨k9,0,none⟩ (.int .i64 lg.x.gen)).setCell ⟨k9,1,none⟩ (.int .i64 lg.x.base)).setCell ⟨k9,2,none⟩ (.int .i64 lg.x.size)).setCell ⟨k9,3,none⟩ (.int .i64 lg.x.cg)).setCell ⟨k9,4,none⟩ (.slice ca lg.x.chk.length cc)).setCell ⟨k9,5,none⟩ (.slice la lg.x.log.length lc)) = wz7:=hwz
     have qz:=six_keep H6b.out hb1w hq6
     refine wpAnyH_ready (rs:=[11]) (by kernel_rfl) (by simp) ?_
     refine AllReadyH.cons rfl (fun K hK=>?_) AllReadyH.nil
     go_simp
     try rw [hwz']
     refine hK.out _ _ qz (fun hHeldZ=>?_)
     clear hK K
     refine wpAnyH_done (by kernel_rfl) ?_ _
     refine NoPanic.normal ?_
     exact hG wz7 gS cS aL cL k9 (Lib.hid ⟨hq6,strs_upd hSS (fun _ y hy=>by cases hy;simpa using hgk) hu6,hgS,ints_upd hIL (fun h0 y hy=>by have:=hyk h0 y hy;simpa using this) hu6,hcL,hnL,hwL,hz6,hk9,hgk.symm,hyk⟩)
  ·go_simp
   have hb8a:=(Below.refl _ w1).alloc (Nat.le_refl _) zsup
   have hb8 : Below (w1).heap.size (w1.drew) ((w1.alloc zsup).drew):=⟨hb8a.os,hb8a.tape,hb8a.output,hb8a.size,hb8a.block⟩
   have hZ : ((w1.alloc zsup).drew).heap[(w1).heap.size]? = some zsup:=heap_alloc_new (w1) zsup
   obtain ⟨k9,hk9e⟩ : ∃ k9,(w1).heap.size = k9:=⟨_,rfl⟩
   rw [hk9e] at hZ
   have hk9 : w1.heap.size ≤ k9:=by rw [← hk9e];exact t0.size
   have hk9l : k9 < ((w1.alloc zsup).drew).heap.size:=by show k9 < ((w1).alloc zsup).heap.size;rw [World.size_alloc,hk9e];omega
   have q8:=six_next s0 hb1w t0 hb8
   clear hb8a
   generalize hA8 : (w1.alloc zsup).drew = v8 at *
   try rw [hk9e]
   refine hK.out _ _ q8 (fun hHeld8=>?_)
   clear hK K hHeld
   obtain ⟨s8,t8⟩:=q8
   refine wpAnyH_ready (rs:=[1]) (by kernel_rfl) (by simp) ?_
   refine AllReadyH.cons rfl (fun K hK=>?_) AllReadyH.nil
   ·go_simp
    refine (HSP.out _).mono ?_
    rintro e v9 ⟨gS,cS,rfl,hSS,hgS0,hb9⟩
    have hgS : w1.heap.size ≤ gS:=Nat.le_trans t8.size hgS0
    have hZ:=(hb9.block k9 hk9l).trans hZ
    have hk9l:=Nat.lt_of_lt_of_le hk9l hb9.size
    have hgk : gS ≠ k9:=by omega
    have q9:=six_next s8 hb1w t8 hb9
    have hgLt : gS ≠ v9.heap.size:=by have h5:=ints_lt2 hSS (by omega) ⟨gS,0,none⟩ rfl;have h6 : gS < v9.heap.size:=h5;omega
    refine hK.out _ _ q9 (fun hHeld9=>?_)
    clear hK K hHeld8
    obtain ⟨s9,t9⟩:=q9
    refine wpAnyH_ready (rs:=[3]) (by kernel_rfl) (by simp) ?_
    refine AllReadyH.cons rfl (fun K hK=>?_) AllReadyH.nil
    ·go_simp
     refine (HLF.out _ (HLS.out _ (HB1.out.trans (t9.mono HB1.out.size)))).mono ?_
     rintro e v10 ⟨aL,cL,rfl,hIL,hcL,hnL,hb10,hwL0⟩
     have hwL : ∀ y,aL = some y → w1.heap.size ≤ y.block:=fun y hy=>Nat.le_trans t9.size (hwL0 y hy)
     have hSS:=hSS.keep hb10
     have hZ:=(hb10.block k9 hk9l).trans hZ
     have hk9l:=Nat.lt_of_lt_of_le hk9l hb10.size
     have hyk : 0 < lr → ∀ y,aL = some y → y.block ≠ k9:=fun _ y hy=>by have:=hwL0 y hy;omega
     have q10:=six_next s9 hb1w t9 hb10
     have hgLt : gS ≠ v10.heap.size:=by have h5:=ints_lt2 hSS (by omega) ⟨gS,0,none⟩ rfl;have h6 : gS < v10.heap.size:=h5;omega
     have hyLt : 0 < lr → ∀ y,aL = some y → y.block ≠ v10.heap.size:=fun h0 y hy=>by have:=ints_lt hIL h0 y hy;omega
     refine hK.out _ _ q10 (fun hHeld10=>?_)
     clear hK K hHeld9
     obtain ⟨s10,t10⟩:=q10
     refine wpAnyH_take (i:=9) (v:=?v11) rfl ?s11 ?f11 ?r11 ?q11 (Or.inl ⟨?y11,?z11⟩) ?h11 ?k11
     case s11 | f11 | r11 | y11=>kernel_rfl
     case q11=>exact fun _ _ _ h=>h
     case z11=>(intro w' hSw;(try dsimp only at hSw);go_simp;(try with_reducible rfl))
     case h11=>exact hHeld10
     refine wpAnyH_take (i:=10) (v:=?v12) rfl ?s12 ?f12 ?r12 ?q12 (Or.inl ⟨?y12,?z12⟩) ?h12 ?k12
     case s12 | f12 | r12 | y12=>kernel_rfl
     case q12=>exact fun _ _ _ h=>h
     case z12=>(intro w' hSw;(try dsimp only at hSw);go_simp;(try with_reducible rfl))
     case h12=>exact hHeld10
     obtain ⟨wz11,hwz⟩ : ∃ wz,put6 v10 k9 (.int .i64 lg.x.gen) (.int .i64 lg.x.base) (.int .i64 lg.x.size) (.int .i64 lg.x.cg) (.slice ca lg.x.chk.length cc) (.slice la lg.x.log.length lc) = wz:=⟨_,rfl⟩
     have hu6:=upd_put6 v10 k9 (.int .i64 lg.x.gen) (.int .i64 lg.x.base) (.int .i64 lg.x.size) (.int .i64 lg.x.cg) (.slice ca lg.x.chk.length cc) (.slice la lg.x.log.length lc)
     have hz6:=heap_put6 hZ (.int .i64 lg.x.gen) (.int .i64 lg.x.base) (.int .i64 lg.x.size) (.int .i64 lg.x.cg) (.slice ca lg.x.chk.length cc) (.slice la lg.x.log.length lc)
     rw [hwz] at hu6 hz6
     have hq6 : Below w1.heap.size w1 wz11:=by rw [← hwz];exact below_put6 t10 hk9 _ _ _ _ _ _
     obtain ⟨y0,y1,y2,y3,y4,y5⟩:=zero_cells6 hZ |>.1
     obtain ⟨r0,r1,r2,r3,r4,r5⟩:=(zero_cells6 hZ).2
     have hwz' : ((((((v10.setCell ⟨k9,0,none⟩ (.int .i64 lg.x.gen)).setCell ⟨k9,1,none⟩ (.int .i64 lg.x.base)).setCell ⟨k9,2,none⟩ (.int .i64 lg.x.size)).setCell ⟨k9,3,none⟩ (.int .i64 lg.x.cg)).setCell ⟨k9,4,none⟩ (.slice ca lg.x.chk.length cc)).setCell ⟨k9,5,none⟩ (.slice la lg.x.log.length lc)) = wz11:=hwz
     have qz:=six_keep H6b.out hb1w hq6
     refine wpAnyH_ready (rs:=[11]) (by kernel_rfl) (by simp) ?_
     refine AllReadyH.cons rfl (fun K hK=>?_) AllReadyH.nil
     go_simp
     try rw [hwz']
     refine hK.out _ _ qz (fun hHeldZ=>?_)
     clear hK K
     refine wpAnyH_done (by kernel_rfl) ?_ _
     refine NoPanic.normal ?_
     exact hG wz11 gS cS aL cL k9 (Lib.hid ⟨hq6,strs_upd hSS (fun _ y hy=>by cases hy;simpa using hgk) hu6,hgS,ints_upd hIL (fun h0 y hy=>by have:=hyk h0 y hy;simpa using this) hu6,hcL,hnL,hwL,hz6,hk9,hgk.symm,hyk⟩)
 ·intro wz g7 c7 a8 c8 k9 hF
  obtain ⟨hBz,hSz,hg7,hIz,hc8,hn8,hw8,hz9,hk9,hgk,hyk⟩:=hF.out
  have hBw : Below w.heap.size w wz:=HB1.out.trans (hBz.mono HB1.out.size)
  have hwr : IntKind.i64.wrap ((kp : Int) - (lr : Int)) = (kp : Int) - lr:=by rw [IntWalk.i64_in] <;> omega
  have hnp : (0 : Int) < (mm : Int):=by omega
  have HB4:=Lib.hid ((hBz.block w.heap.size (by omega)).trans HN1.out)
  have hwz : w.heap.size < wz.heap.size:=heap_lt HB4.out
  have HND:=Lib.hid (HNEED.out wz)
  have HTW:=Lib.hid (HTK.out wz (HLS.out wz hBw))
  have HBW:=Lib.hid hBw
  clear hF hSz hIz hc8 hn8 hw8 hz9 hgk hyk hBz hBw HSP HLF HSPT HN1 HB1 H6 HNEED HTK HNN
  go_wp2_with fail
  refine HND.out.mono ?_
  rintro e w4 ⟨rfl,rfl⟩
  clear HND hwr
  go_wp2_with fail
  refine HTW.out.mono ?_
  rintro e w5 ⟨rfl,⟨L5,hL5,hU5⟩,hDT⟩
  have hwL : w.heap.size ∉ b :: L:=fun hm=>by
   rcases List.mem_cons.1 hm with g | g
   ·omega
   ·exact Nat.lt_irrefl _ (HLT.out _ g)
  have hUw : Upd (b :: L) w w5 (b :: L5):=(Upd.of_below HBW.out).trans hU5
  have hN5:=(hU5.block w.heap.size hwz hwL).trans HB4.out
  have hw5:=upd_out hU5 hwz hwL
  have hb5:=hDT ca cc la lc ((HBW.out.block b hbb).trans HK.out.blk)
  have hbn5 : b ∉ L5:=by obtain ⟨_,_,_,_,_,_,g,_⟩:=hL5;exact g
  have hlt5 : b < w5.heap.size:=by have:=hUw.size;omega
  have hend:=ls_gen (lg':={ lg with dead:=true }) HK.out HK2.out HK3.out rfl (upd_own hUw 0 (.int .i64 c)) ((own_block 0 _ hlt5 (by omega)).trans hb5) (hL5.dk.keep fun k hk=>own_block 0 _ (hL5.dk.lt k hk) (fun e=>hw5 (by rw [← e];exact List.mem_cons_of_mem _ hk))) hbn5
  have HEND:=Lib.hid (show Told w L b d c { lg with dead:=true } s1 (.returned (.int .i64 c)) (w5.setCell ⟨w.heap.size,0,none⟩ (.int .i64 c)) from ⟨rfl,L5,hend,upd_own hUw 0 (.int .i64 c)⟩)
  have HC:=Lib.hid (acatch_yes ⟨w.heap.size,0,none⟩ c 0 w5 (cell_of_heap hN5) (frozen_of_heap hN5))
  have HRES:=Lib.hid (cell_of_heap (i:=0) (Lib.heap_setCell_same (i:=0) hN5 (.int .i64 c)))
  clear hUw hN5 hw5 hb5 hbn5 hlt5 hend hL5 hU5 hDT
  refine leaves_cons (f:=54) (args:=#[.pointer (some ⟨w.heap.size,0,none⟩)]) (by simp) (by simp [go_sem]) ?_
  refine HC.out.mono ?_
  rintro e u' w9 ⟨rfl,rfl,hw9⟩
  have hres:=HRES.out
  rw [← hw9] at hres HEND
  clear hw9 HC HRES
  simp [Leaves,settle,results,Tryz.results19]
  go_simp
  exact HEND.out
end Go.Proofs.YtnnakhdndmjmiaaGreat.Wal
/-
 The contract of Append: no records,and records that Put does not take.
-/
set_option linter.unusedVariables false
set_option maxRecDepth 4000
namespace Go.Proofs.YtnnakhdndmjmiaaGreat.Wal
open Go.RowKit DiskP SegsP WalP Disk
open Ints (IntsAt IntsAt.keep cellsI)
open SuperP (Sup)
open FrameP (frs sz Rec tk)
theorem told_below {w w1 : World} {L : List Nat} {b d : Nat} {lg : Lg} {st : St} {c : Int} (h : LS w L b d lg st) (hB : Below w.heap.size w w1) :
  Told w L b d c lg st (.returned (.int .i64 c)) (w1.setCell ⟨w.heap.size,0,none⟩ (.int .i64 c)):=by
 have hend:=ls_cell h (h.below hB).dk (Upd.of_below hB) (fun hm=>Nat.lt_irrefl _ (h.dk.lt _ hm)) 0 (.int .i64 c)
 exact ⟨rfl,L,hend.1,Upd.wide hend.2⟩
theorem append_none (L : List Nat) (b d : Nat) (lg : Lg) (st : St) (w : World) (h : LS w L b d lg st) (hal : lg.dead = false) (hrn : st.dead = false) (a : Option Addr) (cap : Nat) :
  Calls Tryz.prog 19 #[.pointer (some ⟨b,0,none⟩),.slice a 0 cap] w (Told w L b d 1 lg st):=by
 have hf:=hmf
 have hb1 : Below w.heap.size w (w.alloc (.cells #[.int .i64 0] 27)):=(Below.refl _ w).alloc (Nat.le_refl _) _
 have HR:=Lib.hid (ready_yes L b d lg st _ (h.below hb1) hal hrn)
 have HEND:=Lib.hid (told_below (c:=1) h hb1)
 have hN:=heap_alloc_new w (.cells #[.int .i64 0] 27)
 have HC:=Lib.hid (acatch_yes ⟨w.heap.size,0,none⟩ 1 0 _ (cell_of_heap (i:=0) hN) (frozen_of_heap (i:=0) hN))
 have HRES:=Lib.hid (cell_of_heap (i:=0) (Lib.heap_setCell_same (i:=0) hN (.int .i64 1)))
 clear hN hb1 h
 go_enter_defers Tryz.func19,Tryz.ntmps19
 go_wp2_with fail
 refine HR.out.mono ?_
 rintro e w1 ⟨rfl,rfl⟩
 go_wp2_with fail
 refine (raise_yes 1 _ (by decide)).mono ?_
 rintro e w1 ⟨rfl,rfl⟩
 refine leaves_cons (f:=54) (args:=#[.pointer (some ⟨w.heap.size,0,none⟩)]) (by simp) (by simp [go_sem]) ?_
 refine HC.out.mono ?_
 rintro e u' w2 ⟨rfl,rfl,rfl⟩
 have hres:=HRES.out
 have hend:=HEND.out
 generalize (w.alloc (.cells #[.int .i64 0] 27)).setCell ⟨w.heap.size,0,none⟩ (.int .i64 1) = w9 at *
 simp [Leaves,settle,results,Tryz.results19]
 go_simp
theorem append_wrong (L : List Nat) (b d : Nat) (lg : Lg) (st : St) (w : World) (h : LS w L b d lg st) (hal : lg.dead = false) (hrn : st.dead = false) (a : Option Addr) (nr cap : Nat) (hnr : 0 < nr) (c : Int) (hc : c ≠ 0) (t : ByteArray)
  (hP : ∀ w1,Below w.heap.size w w1 → Calls Tryz.prog 55 #[.slice a nr cap] w1 fun e w'=>e = .returned (.tuple #[.string t,.int .i64 c]) ∧ Below w1.heap.size w1 w') :
  Calls Tryz.prog 19 #[.pointer (some ⟨b,0,none⟩),.slice a nr cap] w (Told w L b d c lg st):=by
 have hf:=hmf
 have hnr0 : ((nr : Int) == 0) = false:=beq_eq_false_iff_ne.2 (by omega)
 have hb1 : Below w.heap.size w (w.alloc (.cells #[.int .i64 0] 27)):=(Below.refl _ w).alloc (Nat.le_refl _) _
 have HR:=Lib.hid (ready_yes L b d lg st _ (h.below hb1) hal hrn)
 have HPT:=Lib.hid (hP _ hb1)
 have HB0:=Lib.hid hb1
 have HS0:=Lib.hid (show (w.alloc (.cells #[.int .i64 0] 27)).heap.size = w.heap.size + 1 by simp)
 have HEND:=Lib.hid (fun w1 (hB : Below w.heap.size w w1)=>told_below (c:=c) h hB)
 have HN:=Lib.hid (heap_alloc_new w (.cells #[.int .i64 0] 27))
 clear hb1 h hP
 go_enter_defers Tryz.func19,Tryz.ntmps19
 go_wp2_with fail
 refine HR.out.mono ?_
 rintro e w1 ⟨rfl,rfl⟩
 go_wp2_with fail
 refine HPT.out.mono ?_
 rintro e w5 ⟨rfl,hb5⟩
 have hB5:=HB0.out.trans (hb5.mono HB0.out.size)
 have hN5:=(hb5.block w.heap.size (by rw [HS0.out];omega)).trans HN.out
 have hend:=HEND.out w5 hB5
 have HEND5:=Lib.hid hend
 have HC:=Lib.hid (acatch_yes ⟨w.heap.size,0,none⟩ c 0 w5 (cell_of_heap hN5) (frozen_of_heap hN5))
 have HRES:=Lib.hid (cell_of_heap (i:=0) (Lib.heap_setCell_same (i:=0) hN5 (.int .i64 c)))
 clear hb5 hB5 hN5 hend HEND HN HPT HR HB0 HS0
 go_wp2_with fail
 refine (raise_yes c w5 hc).mono ?_
 rintro e w6 ⟨rfl,rfl⟩
 refine leaves_cons (f:=54) (args:=#[.pointer (some ⟨w.heap.size,0,none⟩)]) (by simp) (by simp [go_sem]) ?_
 refine HC.out.mono ?_
 rintro e u' w9 ⟨rfl,rfl,hw9⟩
 have hres:=HRES.out
 rw [← hw9] at hres HEND5
 clear hw9 HC HRES
 simp [Leaves,settle,results,Tryz.results19]
 go_simp
 exact HEND5.out
end Go.Proofs.YtnnakhdndmjmiaaGreat.Wal
/-
 The contracts of Open's closure,of Open without a disk.
-/
set_option linter.unusedVariables false
set_option maxRecDepth 4000
namespace Go.Proofs.YtnnakhdndmjmiaaGreat.Wal
open Go.RowKit DiskP SegsP WalP Disk
theorem ocatch_no (p q r : Addr) (x : Int) (w : World) (hc : w.cell? r = some (.int .i64 x)) (hz : w.frozen? r = false) :
  CallsD Tryz.prog 42 #[.pointer (some r),.pointer (some p),.pointer (some q)] .returning w fun e u' w'=>e = .returned (.tuple #[]) ∧ u' = .returning ∧ w' = w.setCell r (.int .i64 0):=by
 have hc2 : (w.setCell r (.int .i64 0)).cell? r = some (.int .i64 0):=World.cell?_setCell_same _ _ _ (by rw [hc])
 refine callsD_of_wpS Tryz.func42 rfl fun c₀ cs hu=>?_
 apply wpS_seq
 apply wpS_region
 simp [wpOpsS,go_sem,recoverD,hu,Tryz.ntmps42]
 refine (caught_no w).mono ?_
 rintro e w' ⟨rfl,rfl⟩
 simp [go_sem,hc,hz,Exit.thenS]
 apply wpS_seq
 apply wpS_region
 simp [wpOpsS,go_sem,hc2,Exit.thenS]
 refine wpS_cond (t:=false) (by simp [Act.eval]) ?_
 simp only [Bool.false_eq_true,if_false]
 refine wpS_of_wp (wp_skip ?_)
 cases c₀
 simp_all [bodyPostS,results,Tryz.results42]
theorem ocatch_yes (P Q R : Nat) (c x : Int) (w : World) (v0 v1 v2 v3 : Value) (hne : c ≠ 0) (hc : w.cell? ⟨R,0,none⟩ = some (.int .i64 x)) (hz : w.frozen? ⟨R,0,none⟩ = false)
  (hp : w.cell? ⟨P,0,none⟩ = some v0) (hpz : w.frozen? ⟨P,0,none⟩ = false) (hq0 : w.cell? ⟨Q,0,none⟩ = some v1) (hq1 : w.cell? ⟨Q,1,none⟩ = some v2) (hq2 : w.cell? ⟨Q,2,none⟩ = some v3)
  (hz0 : w.frozen? ⟨Q,0,none⟩ = false) (hz1 : w.frozen? ⟨Q,1,none⟩ = false) (hz2 : w.frozen? ⟨Q,2,none⟩ = false) (h1 : ¬ P = R) (h2 : ¬ Q = R) (h3 : ¬ Q = P) :
  CallsD Tryz.prog 42 #[.pointer (some ⟨R,0,none⟩),.pointer (some ⟨P,0,none⟩),.pointer (some ⟨Q,0,none⟩)] (Raised c) w fun e u' w'=>e = .returned (.tuple #[]) ∧ u' = Mended c ∧
   w' = ((((w.setCell ⟨R,0,none⟩ (.int .i64 c)).setCell ⟨P,0,none⟩ (.pointer none)).setCell ⟨Q,0,none⟩ (.bool false)).setCell ⟨Q,1,none⟩ (.string ⟨#[]⟩)).setCell ⟨Q,2,none⟩ (.slice none 0 0):=by
 have hc2 : (w.setCell ⟨R,0,none⟩ (.int .i64 c)).cell? ⟨R,0,none⟩ = some (.int .i64 c):=World.cell?_setCell_same _ _ _ (by rw [hc])
 have hc0 : (c == 0) = false:=beq_eq_false_iff_ne.2 hne
 refine callsD_of_wpS Tryz.func42 rfl fun c₀ cs hu=>?_
 apply wpS_seq
 apply wpS_region
 simp [wpOpsS,go_sem,recoverD,hu,Tryz.ntmps42]
 refine (caught_yes c w).mono ?_
 rintro e w' ⟨rfl,rfl⟩
 simp [go_sem,hc,hz,Exit.thenS]
 apply wpS_seq
 apply wpS_region
 simp [wpOpsS,go_sem,hc2,Exit.thenS]
 refine wpS_cond (t:=true) (by simp [Act.eval];exact hne) ?_
 simp only [if_true]
 apply wpS_region
 simp [wpOpsS,go_sem,hp,hpz,hq0,hq1,hq2,hz0,hz1,hz2,bodyPostS,results,Tryz.results42]
end Go.Proofs.YtnnakhdndmjmiaaGreat.Wal
/-
 The contract of Open: a disk that is nobody's.
-/
set_option linter.unusedVariables false
set_option maxRecDepth 4000
namespace Go.Proofs.YtnnakhdndmjmiaaGreat.Wal
open Go.RowKit DiskP SegsP WalP Disk
def shut (w : World) (P Q R : Nat) (c : Int) : World:=((((w.setCell ⟨R,0,none⟩ (.int .i64 c)).setCell ⟨P,0,none⟩ (.pointer none)).setCell ⟨Q,0,none⟩ (.bool false)).setCell ⟨Q,1,none⟩ (.string ⟨#[]⟩)).setCell ⟨Q,2,none⟩ (.slice none 0 0)
theorem shut_other (w : World) (P Q R : Nat) (c : Int) (k : Nat) (hk : k < w.heap.size) (h1 : k ≠ P) (h2 : k ≠ Q) (h3 : k ≠ R) : (shut w P Q R c).heap[k]? = w.heap[k]?:=by
 unfold shut
 rw [own_block 2 _ (by simpa using hk) h2,own_block 1 _ (by simpa using hk) h2,own_block 0 _ (by simpa using hk) h2,own_block 0 _ (by simpa using hk) h1,own_block 0 _ hk h3]
theorem shut_cells {w : World} {P Q R : Nat} {v0 v1 v2 v3 v4 : Value} {TP TQ TR : TypeId} (hP : w.heap[P]? = some (.cells #[v0] TP (0,0))) (hQ : w.heap[Q]? = some (.cells #[v1,v2,v3] TQ (0,0))) (hR : w.heap[R]? = some (.cells #[v4] TR (0,0)))
  (h1 : P ≠ R) (h2 : Q ≠ R) (h3 : Q ≠ P) (c : Int) :
  (shut w P Q R c).heap[P]? = some (.cells #[.pointer none] TP (0,0)) ∧ (shut w P Q R c).heap[Q]? = some (.cells #[.bool false,.string ⟨#[]⟩,.slice none 0 0] TQ (0,0)) ∧ (shut w P Q R c).heap[R]? = some (.cells #[.int .i64 c] TR (0,0)):=by
 have p0:=heap_lt hP;have q0:=heap_lt hQ;have r0:=heap_lt hR
 unfold shut
 refine ⟨?_,?_,?_⟩
 ·rw [own_block 2 _ (by simpa using p0) h3.symm,own_block 1 _ (by simpa using p0) h3.symm,own_block 0 _ (by simpa using p0) h3.symm]
  exact Lib.heap_setCell_same (i:=0) ((own_block 0 _ p0 h1).trans hP) (.pointer none)
 ·have e1:=Lib.heap_setCell_same (i:=0) ((own_block (k:=P) 0 (.pointer none) (by simpa using q0) h3).trans ((own_block 0 (.int .i64 c) q0 h2).trans hQ)) (.bool false)
  have e2:=Lib.heap_setCell_same (i:=1) e1 (.string ⟨#[]⟩)
  exact Lib.heap_setCell_same (i:=2) e2 (.slice none 0 0)
 ·rw [own_block 2 _ (by simpa using r0) h2.symm,own_block 1 _ (by simpa using r0) h2.symm,own_block 0 _ (by simpa using r0) h2.symm,own_block 0 _ (by simpa using r0) h1.symm]
  exact Lib.heap_setCell_same (i:=0) hR (.int .i64 c)
theorem three_new (w : World) (A B C : Array Value) (TA TB TC : TypeId) : Below w.heap.size w (((w.alloc (.cells A TA)).alloc (.cells B TB)).alloc (.cells C TC)) ∧
  (((w.alloc (.cells A TA)).alloc (.cells B TB)).alloc (.cells C TC)).heap[w.heap.size]? = some (.cells A TA (0,0)) ∧
  (((w.alloc (.cells A TA)).alloc (.cells B TB)).alloc (.cells C TC)).heap[w.heap.size + 1]? = some (.cells B TB (0,0)) ∧
  (((w.alloc (.cells A TA)).alloc (.cells B TB)).alloc (.cells C TC)).heap[w.heap.size + 1 + 1]? = some (.cells C TC (0,0)):=by
 have hA:=heap_alloc_new w (.cells A TA)
 have sA : (w.alloc (.cells A TA)).heap.size = w.heap.size + 1:=by simp
 have bA : Below w.heap.size w (w.alloc (.cells A TA)):=(Below.refl _ w).alloc (Nat.le_refl _) _
 generalize w.alloc (.cells A TA) = u at *
 have hB:=heap_alloc_new u (.cells B TB)
 have sB : (u.alloc (.cells B TB)).heap.size = w.heap.size + 1 + 1:=by simp [sA]
 have bB : Below u.heap.size u (u.alloc (.cells B TB)):=(Below.refl _ u).alloc (Nat.le_refl _) _
 rw [sA] at hB bB
 generalize u.alloc (.cells B TB) = v at *
 have hC:=heap_alloc_new v (.cells C TC)
 have bC : Below v.heap.size v (v.alloc (.cells C TC)):=(Below.refl _ v).alloc (Nat.le_refl _) _
 rw [sB] at hC bC
 generalize v.alloc (.cells C TC) = z at *
 exact ⟨bA.trans ((bB.mono (by omega)).trans (bC.mono (by omega))),(bC.block _ (by omega)).trans ((bB.block _ (by omega)).trans hA),(bC.block _ (by omega)).trans hB,hC⟩
end Go.Proofs.YtnnakhdndmjmiaaGreat.Wal
/-
 What stands while Open runs: the cells of its results,the log,its disk.
-/
set_option linter.unusedVariables false
set_option maxRecDepth 4000
namespace Go.Proofs.YtnnakhdndmjmiaaGreat.Wal
open Go.RowKit DiskP SegsP WalP Disk
open Ints (IntsAt IntsAt.keep)
open SuperP (Sup)
structure Op (w0 w : World) (L L1 : List Nat) (B d : Nat) (lg : Lg) (st : St) (b1 : Bool) (s2 : ByteArray) (a3 : Option Addr) (n3 c3 : Nat) : Prop where
 ls : LS w L1 B d lg st
 p : w.heap[w0.heap.size]? = some (.cells #[.pointer (some ⟨B,0,none⟩)] 34 (0,0))
 q : w.heap[w0.heap.size + 1]? = some (.cells #[.bool b1,.string s2,.slice a3 n3 c3] 51 (0,0))
 r : w.heap[w0.heap.size + 1 + 1]? = some (.cells #[.int .i64 0] 27 (0,0))
 upd : Upd L w0 w L1
 big : w0.heap.size + 1 + 1 < B
 np : w0.heap.size ∉ L1
 nq : w0.heap.size + 1 ∉ L1
 nr : w0.heap.size + 1 + 1 ∉ L1
section
variable {w0 w w' : World} {L L1 L2 : List Nat} {B d : Nat} {lg lg' : Lg} {st st' : St} {b1 : Bool} {s2 : ByteArray} {a3 : Option Addr} {n3 c3 : Nat}
theorem Op.chg (h : Op w0 w L L1 B d lg st b1 s2 a3 n3 c3) (hl : LS w' L2 B d lg' st') (hU : Upd (B :: L1) w w' (B :: L2)) : Op w0 w' L L2 B d lg' st' b1 s2 a3 n3 c3:=by
 have hbn : B ∉ L2:=by obtain ⟨_,_,_,_,_,_,g,_⟩:=hl;exact g
 have hp:=heap_lt h.p;have hq:=heap_lt h.q;have hr:=heap_lt h.r
 have hbig:=h.big
 have hs:=h.upd.size
 have out : ∀ k,k ≠ B → k ∉ L1 → k ∉ B :: L1:=fun k h1 h2 hm=>(List.mem_cons.1 hm).elim h1 h2
 have out2 : ∀ k,k < w.heap.size → k ≠ B → k ∉ L1 → k ∉ L2:=fun k hk h1 h2 hm=>upd_out hU hk (out k h1 h2) (List.mem_cons_of_mem _ hm)
 refine ⟨hl,(hU.block _ hp (out _ (by omega) h.np)).trans h.p,(hU.block _ hq (out _ (by omega) h.nq)).trans h.q,(hU.block _ hr (out _ (by omega) h.nr)).trans h.r,⟨hU.os.trans h.upd.os,hU.tape.trans h.upd.tape,hU.output.trans h.upd.output,Nat.le_trans hs hU.size,fun k hk hn=>(hU.block k (by omega) (out k (by omega) (upd_out h.upd hk hn))).trans (h.upd.block k hk hn),fun k hk=>?_⟩,hbig,out2 _ hp (by omega) h.np,out2 _ hq (by omega) h.nq,out2 _ hr (by omega) h.nr⟩
 rcases hU.sub k (List.mem_cons_of_mem _ hk) with g | g
 ·rcases List.mem_cons.1 g with g | g
  ·exact absurd (g ▸ hk) hbn
  ·exact h.upd.sub k g
 ·exact .inr (by omega)
theorem Op.below (h : Op w0 w L L1 B d lg st b1 s2 a3 n3 c3) (hb : Below w.heap.size w w') : Op w0 w' L L1 B d lg st b1 s2 a3 n3 c3:=h.chg (h.ls.below hb) (Upd.of_below hb)
theorem Op.drew (h : Op w0 w L L1 B d lg st b1 s2 a3 n3 c3) : Op w0 w.drew L L1 B d lg st b1 s2 a3 n3 c3:=h.below (Below.refl _ w).drew
theorem Op.disk (h : Op w0 w L L1 B d lg st b1 s2 a3 n3 c3) (hD : Dk w' L2 d st') (hU : Upd L1 w w' L2) : Op w0 w' L L2 B d lg st' b1 s2 a3 n3 c3:=h.chg (h.ls.step hD hU) (Upd.wide hU)
theorem ints_notQ {w : World} {Q len : Nat} {a : Option Addr} {xs : List Int} {b1 : Bool} {s2 : ByteArray} {a3 : Option Addr} {n3 c3 : Nat} {T : TypeId} (h : IntsAt w a len xs) (h0 : 0 < len) (hq : w.heap[Q]? = some (.cells #[.bool b1,.string s2,.slice a3 n3 c3] T (0,0))) : ∀ y,a = some y → y.block ≠ Q:=by
 rcases h.2.2 with e | ⟨b,off,rfl,_,hc⟩
 ·omega
 ·rintro y ⟨⟩ e
  have e : b = Q:=e
  subst e
  have h9:=hc 0 h0
  rw [cell_of_heap hq,Nat.add_zero] at h9
  rcases off with _ | _ | _ | off
  ·cases h9
  ·cases h9
  ·cases h9
  ·simp at h9
theorem Op.kept (h : Op w0 w L L1 B d lg st b1 s2 a3 n3 c3) {b1' : Bool} {s2' : ByteArray} {a3' : Option Addr} {n3' c3' : Nat} (hU : Upd [w0.heap.size + 1] w w' [w0.heap.size + 1]) (hq' : w'.heap[w0.heap.size + 1]? = some (.cells #[.bool b1',.string s2',.slice a3' n3' c3'] 51 (0,0))) : Op w0 w' L L1 B d lg st b1' s2' a3' n3' c3':=by
 have hp:=heap_lt h.p;have hr:=heap_lt h.r
 have hbig:=h.big
 have hs:=h.upd.size
 have ne : ∀ k,k ≠ w0.heap.size + 1 → k ∉ [w0.heap.size + 1]:=fun k h1 hm=>h1 (List.mem_singleton.1 hm)
 obtain ⟨hD,ca,cc,la,lc,hk,h1,h2,h3⟩:=h.ls
 refine ⟨⟨hD.keep fun k hk=>hU.block k (hD.lt k hk) (ne k (fun e=>h.nq (by rw [← e];exact hk))),ca,cc,la,lc,⟨(hU.block B (heap_lt hk.blk) (ne B (by omega))).trans hk.blk,ints_other hk.chk (fun h0 y hy=>ne _ (ints_notQ hk.chk h0 h.q y hy)) hU,ints_other hk.log (fun h0 y hy=>ne _ (ints_notQ hk.log h0 h.q y hy)) hU,hk.cn,hk.ln⟩,h1,h2,h3⟩,(hU.block _ hp (ne _ (by omega))).trans h.p,hq',(hU.block _ hr (ne _ (by omega))).trans h.r,⟨hU.os.trans h.upd.os,hU.tape.trans h.upd.tape,hU.output.trans h.upd.output,Nat.le_trans hs hU.size,fun k hk hn=>(hU.block k (by omega) (ne k (by omega))).trans (h.upd.block k hk hn),h.upd.sub⟩,hbig,h.np,h.nq,h.nr⟩
end
theorem below_same {w : World} {k i : Nat} {cs : Array Value} {T : TypeId} {v : Value} (h : w.heap[k]? = some (.cells cs T (0,0))) (hv : cs.setIfInBounds i v = cs) : Below w.heap.size w (w.setCell ⟨k,i,none⟩ v):=by
 have hg:=Lib.grownBy_setCell (w:=w) (b:=k) (i:=i) (v:=v)
 refine ⟨hg.os,hg.tape,hg.output,hg.size,fun j hj=>?_⟩
 by_cases e : j = k
 ·subst e
  rw [Lib.heap_setCell_same h v,hv,h]
 ·exact hg.block j hj (fun q=>by cases q;exact e rfl)
theorem BatsF.less {w : World} {F G : List Nat} {a : Option Addr} {n : Nat} {B : List (List (List UInt8))} (h : BatsF w F a n B) (hs : ∀ k ∈ G,k ∈ F) : BatsF w G a n B:=by
 refine ⟨h.1,h.2.imp id ?_⟩
 rintro ⟨b,off,rfl,hb,hF,hc⟩
 refine ⟨b,off,rfl,hb,fun g=>hF (hs _ g),fun i hi=>?_⟩
 obtain ⟨a',n',c',h1,h2,h3⟩:=hc i hi
 exact ⟨a',n',c',h1,h2,h3.1,fun h0 y hy g=>h3.2 h0 y hy (hs _ g)⟩
theorem upd_wider {w w' : World} {L L' : List Nat} (hU : Upd L w w' L') (X : List Nat) : Upd (X ++ L) w w' (X ++ L') :=
 ⟨hU.os,hU.tape,hU.output,hU.size,fun k hk hn=>hU.block k hk (fun g=>hn (List.mem_append_right _ g)),fun k hk=>(List.mem_append.1 hk).elim (fun g=>.inl (List.mem_append_left _ g)) (fun g=>(hU.sub k g).imp (fun q=>List.mem_append_right _ q) id)⟩
def putS (w : World) (b : Nat) (v1 v2 v3 v4 v5 v6 : Value) : World:=(((((w.setCell ⟨b,1,none⟩ v1).setCell ⟨b,2,none⟩ v2).setCell ⟨b,3,none⟩ v3).setCell ⟨b,4,none⟩ v4).setCell ⟨b,5,none⟩ v5).setCell ⟨b,6,none⟩ v6
theorem upd_putS (w : World) (b : Nat) (v1 v2 v3 v4 v5 v6 : Value) : Upd [b] w (putS w b v1 v2 v3 v4 v5 v6) [b]:=by
 have h1:=upd_set w b 1 v1
 have h2:=h1.trans (upd_set _ b 2 v2)
 have h3:=h2.trans (upd_set _ b 3 v3)
 have h4:=h3.trans (upd_set _ b 4 v4)
 have h5:=h4.trans (upd_set _ b 5 v5)
 exact h5.trans (upd_set _ b 6 v6)
set_option maxHeartbeats 1000000 in
theorem heap_putS {w : World} {b : Nat} {x0 x1 x2 x3 x4 x5 x6 x7 x8 x9 : Value} {ty : TypeId} (h : w.heap[b]? = some (.cells #[x0,x1,x2,x3,x4,x5,x6,x7,x8,x9] ty (0,0))) (v1 v2 v3 v4 v5 v6 : Value) : (putS w b v1 v2 v3 v4 v5 v6).heap[b]? = some (.cells #[x0,v1,v2,v3,v4,v5,v6,x7,x8,x9] ty (0,0)):=by
 unfold putS
 have h1:=Lib.heap_setCell_same (i:=1) h v1
 have h2:=Lib.heap_setCell_same (i:=2) h1 v2
 have h3:=Lib.heap_setCell_same (i:=3) h2 v3
 have h4:=Lib.heap_setCell_same (i:=4) h3 v4
 have h5:=Lib.heap_setCell_same (i:=5) h4 v5
 have h6:=Lib.heap_setCell_same (i:=6) h5 v6
 rw [h6]
 rfl
theorem leaves_same {P : Program} {fn : Func} {t1 t2 : Array Value} {R : Ending → World → Prop} (h : results fn t1 = results fn t2) : ∀ (ds : List Deferred) (u : FrameMode) (w : World),Leaves P fn t1 R ds u w → Leaves P fn t2 R ds u w
 | [],.returning,w,k=>by unfold Leaves at k ⊢;rw [← h];exact k
 | [],.panicking _,_,k=>k
 | [],.run,_,k=>k
 | d :: ds,u,w,⟨k1,fv,cap,f,args,k2,k3,k4⟩=>⟨k1,fv,cap,f,args,k2,k3,k4.mono fun e u' w' g=>by
   cases e with
   | returned v=>exact leaves_same h ds _ _ g
   | panicked c=>exact leaves_same h ds _ _ g
   | outgrown=>exact g⟩
theorem leaves_put {P : Program} {fn : Func} {R : Ending → World → Prop} {a : Act} {k : Nat} {v : Value} {u : FrameMode} {w : World} {t1 t2 t3 : TypeId} (hr : fn.results = #[.cell 2 t1,.cell 3 t2,.cell 4 t3]) (hk : 4 < k) (h : Leaves P fn (a.put (some k) v).tmps R (a.put (some k) v).defers u w) : Leaves P fn a.tmps R a.defers u w:=by
 refine leaves_same ?_ _ _ _ h
 have h2 : k ≠ 2:=by omega
 have h3 : k ≠ 3:=by omega
 have h4 : k ≠ 4:=by omega
 simp [results,hr,Act.put,h2,h3,h4]
def lgz : Lg:=⟨⟨0,0,0,0,[],[]⟩,0,0,false⟩
def CurOut (L : List Nat) (B d : Nat) (x : Sup) (st1 : St) (w : World) (e : Ending) (w' : World) : Prop :=
 ∃ a1 c1 a2 c2 L',e = .returned (supV x (.slice a1 x.chk.length c1) (.slice a2 x.log.length c2)) ∧ IntsAt w' a1 x.chk.length x.chk ∧ IntsAt w' a2 x.log.length x.log ∧ (a1 = none → c1 = 0) ∧ (a2 = none → c2 = 0) ∧ (0 < x.chk.length → ∀ y,a1 = some y → y.block ∉ B :: L') ∧ (0 < x.log.length → ∀ y,a2 = some y → y.block ∉ B :: L') ∧ LS w' L' B d lgz st1 ∧ Upd (B :: L) w w' (B :: L')
theorem base_any (L : List Nat) (b d n : Nat) (lg : Lg) (st : St) (w : World) (x : Sup) (B : Option (List UInt8)) (l : List (List UInt8)) (h : LS w L b d lg st) (hx : lg.x = x) (hok : Ok n st) (hn : n ≤ 900000) (hi : Idle st) (hg : WalP.Good st.S x B l) :
  Calls Tryz.prog 49 #[.pointer (some ⟨b,0,none⟩)] w fun e w'=>e = .returned (.tuple #[.string (bs (B.getD [])),.bool B.isSome]) ∧ Below w.heap.size w w':=by
 subst hx
 have hbas:=hg.bas
 have hrg:=secs_range hg.named
 rw [secs_app] at hrg
 cases B with
 | none =>
  refine (base_no L b d lg st w h hbas).mono ?_
  rintro e w' ⟨rfl,rfl⟩
  exact ⟨rfl,Below.refl _ _⟩
 | some s =>
  obtain ⟨a1,a2,a3,a4⟩:=hbas
  have hlen:=SuperP.segs_len (fit_segs hg.fit)
  rw [List.length_append] at hlen
  have hnm:=fit_nums hg.fit
  have hin : ∀ p ∈ secs lg.x.chk,0 ≤ p ∧ p < (st.S.length : Int):=fun p hp=>by have:=hrg p (List.mem_append_left _ hp);exact ⟨this.1,this.2.1⟩
  refine base_yes L b d n lg st w h hok hn (List.length_pos_iff.2 a1) (by omega) s lg.x.cg.toNat (by omega) (by omega) ?_ a2 fun p hp=>?_
  ·rw [seen_idle hi hin];exact first_some a3 a4
  ·rw [rd_idle hi (hin p hp)]
   refine ⟨rfl,?_⟩
   show (sec st.S p.toNat).size ≤ _
   rw [sec_size hok (by have:=hin p hp;omega)];decide
end Go.Proofs.YtnnakhdndmjmiaaGreat.Wal
/-
 The contract of Open: a disk that lives and has a segment;what 'current' tells of it is a premise.
-/
set_option linter.unusedVariables false
set_option maxRecDepth 4000
namespace Go.Proofs.YtnnakhdndmjmiaaGreat.Wal
open Go.RowKit DiskP SegsP WalP Disk
open Ints (IntsAt IntsAt.keep)
open SuperP (Sup)
def OpenOk (w : World) (L : List Nat) (d : Nat) (lg : Lg) (st : St) (K : Kept) (e : Ending) (w' : World) : Prop :=
 ∃ B L' a c,e = .returned (.tuple #[.pointer (some ⟨B,0,none⟩),keptV K a c,.int .i64 0]) ∧ (a = none → c = 0) ∧ BatsF w' (List.range w.heap.size ++ B :: L') a K.bats.length K.bats ∧ LS w' L' B d lg st ∧ Upd L w w' L' ∧ w.heap.size ≤ B
def OpenBad (w : World) (L : List Nat) (d : Nat) (c : Int) (st : St) (e : Ending) (w' : World) : Prop :=
 e = .returned (.tuple #[.pointer none,.agg #[.bool false,.string ⟨#[]⟩,.slice none 0 0],.int .i64 c]) ∧ ∃ L',Dk w' L' d st ∧ Upd L w w' L'
set_option maxHeartbeats 4000000 in
theorem open_walk (L : List Nat) (d n : Nat) (st : St) (w : World) (h : Dk w L d st) (hrun : st.dead = false) (hcnt : 0 < SegsP.cnt (st.S.length : Int)) (h0 : 0 < st.S.length) (h1 : st.S.length ≤ 1000000) (x : Sup) (K : Kept) (st1 : St) (hi : Idle st1) (hg : WalP.Good st1.S x K.base (octs K.bats)) (ht : ∀ b ∈ K.bats,Takes b)
  (hok : Ok n st1) (hn : n ≤ 800000) (hcur : ∀ w1 B,LS w1 L B d lgz st → Calls Tryz.prog 48 #[.pointer (some ⟨B,0,none⟩)] w1 (CurOut L B d x st1 w1)) (c : Int) (s2 : St) (he : er st1 false (behind x (octs K.bats)) = (c,s2)) :
  Calls Tryz.prog 17 #[.pointer (some ⟨d,0,none⟩)] w fun e w'=>(c = 0 → OpenOk w L d ⟨x,atn x (octs K.bats),x.base + K.bats.length,false⟩ s2 K e w') ∧ (c ≠ 0 → OpenBad w L d c s2 e w'):=by
 have hf:=hmf
 obtain ⟨hb3,hP,hQ,hR⟩:=three_new w #[.pointer none] #[.bool false,.string ⟨#[]⟩,.slice none 0 0] #[.int .i64 0] 34 51 27
 obtain ⟨w3,hw3⟩ : ∃ w3,((w.alloc (.cells #[.pointer none] 34)).alloc (.cells #[.bool false,.string ⟨#[]⟩,.slice none 0 0] 51)).alloc (.cells #[.int .i64 0] 27) = w3:=⟨_,rfl⟩
 rw [hw3] at hb3 hP hQ hR
 have hs3 : w.heap.size + 1 + 1 < w3.heap.size:=heap_lt hR
 have hlt:=h.lt
 have hD3 : Dk w3 L d st:=h.keep fun k hk=>hb3.block k (hlt k hk)
 have hb4 : Below w3.heap.size w3 (w3.alloc (.cells #[.pointer (some ⟨d,0,none⟩),.int .i64 0,.int .i64 0,.int .i64 0,.int .i64 0,.slice none 0 0,.slice none 0 0,.int .i64 0,.int .i64 0,.bool false] 71)):=(Below.refl _ w3).alloc (Nat.le_refl _) _
 have hz4:=heap_alloc_new w3 (.cells #[.pointer (some ⟨d,0,none⟩),.int .i64 0,.int .i64 0,.int .i64 0,.int .i64 0,.slice none 0 0,.slice none 0 0,.int .i64 0,.int .i64 0,.bool false] 71)
 have hsz4 : (w3.alloc (.cells #[.pointer (some ⟨d,0,none⟩),.int .i64 0,.int .i64 0,.int .i64 0,.int .i64 0,.slice none 0 0,.slice none 0 0,.int .i64 0,.int .i64 0,.bool false] 71)).heap.size = w3.heap.size + 1:=by simp
 obtain ⟨w4,hw4⟩ : ∃ w4,(w3.alloc (.cells #[.pointer (some ⟨d,0,none⟩),.int .i64 0,.int .i64 0,.int .i64 0,.int .i64 0,.slice none 0 0,.slice none 0 0,.int .i64 0,.int .i64 0,.bool false] 71)).setCell ⟨w.heap.size,0,none⟩ (.pointer (some ⟨w3.heap.size,0,none⟩)) = w4:=⟨_,rfl⟩
 have OP4 : Hid (Op w w4 L L w3.heap.size d lgz st false ⟨#[]⟩ none 0 0):=by
  rw [← hw4]
  have keep : ∀ k,k < w3.heap.size → k ≠ w.heap.size → ((w3.alloc (.cells #[.pointer (some ⟨d,0,none⟩),.int .i64 0,.int .i64 0,.int .i64 0,.int .i64 0,.slice none 0 0,.slice none 0 0,.int .i64 0,.int .i64 0,.bool false] 71)).setCell ⟨w.heap.size,0,none⟩ (.pointer (some ⟨w3.heap.size,0,none⟩))).heap[k]? = w3.heap[k]?:=fun k hk hne=>(own_block 0 _ (by rw [hsz4];omega) hne).trans (hb4.block k hk)
  have hbw : Below w.heap.size w ((w3.alloc (.cells #[.pointer (some ⟨d,0,none⟩),.int .i64 0,.int .i64 0,.int .i64 0,.int .i64 0,.slice none 0 0,.slice none 0 0,.int .i64 0,.int .i64 0,.bool false] 71)).setCell ⟨w.heap.size,0,none⟩ (.pointer (some ⟨w3.heap.size,0,none⟩))):=(hb3.trans (hb4.mono (by omega))).setCell (p:=⟨w.heap.size,0,none⟩) (Nat.le_refl _) _
  have nl : ∀ k,w.heap.size ≤ k → k ∉ L:=fun k hk hm=>by have:=hlt k hm;omega
  refine Lib.hid ⟨⟨h.keep fun k hk=>hbw.block k (hlt k hk),none,0,none,0,⟨?_,⟨rfl,(fun x hx=>by cases hx),.inl rfl⟩,⟨rfl,(fun x hx=>by cases hx),.inl rfl⟩,fun _=>rfl,fun _=>rfl⟩,nl _ (by omega),(fun h0=>by cases h0),(fun h0=>by cases h0)⟩,?_,(keep _ (by omega) (by omega)).trans hQ,(keep _ (by omega) (by omega)).trans hR,Upd.of_below hbw,by omega,nl _ (by omega),nl _ (by omega),nl _ (by omega)⟩
  ·exact (own_block 0 _ (by rw [hsz4];omega) (by omega)).trans hz4
  ·exact Lib.heap_setCell_same (i:=0) ((hb4.block _ (by omega)).trans hP) _
 have HSZ3:=Lib.hid (size_dk d st L w3 hD3)
 have HSZ4:=Lib.hid (size_dk d st L w4 OP4.out.ls.dk)
 have HRY:=Lib.hid (ready_yes L w3.heap.size d lgz st w4 OP4.out.ls rfl hrun)
 have HCN:=Lib.hid (fun w1=>count_any (st.S.length : Int) w1 (by omega) (by omega))
 have HE:=Lib.hid he;have HI:=Lib.hid hi;have HG:=Lib.hid hg;have HT:=Lib.hid ht;have HOK:=Lib.hid hok
 have hp4:=cell_of_heap (i:=0) OP4.out.p
 have hc3:=cell_of_heap (i:=0) hP
 have hf3 : (w3.alloc (.cells #[.pointer (some ⟨d,0,none⟩),.int .i64 0,.int .i64 0,.int .i64 0,.int .i64 0,.slice none 0 0,.slice none 0 0,.int .i64 0,.int .i64 0,.bool false] 71)).frozen? ⟨w.heap.size,0,none⟩ = false:=frozen_of_heap ((hb4.block _ (by omega)).trans hP)
 have hc3' : (w3.alloc (.cells #[.pointer (some ⟨d,0,none⟩),.int .i64 0,.int .i64 0,.int .i64 0,.int .i64 0,.slice none 0 0,.slice none 0 0,.int .i64 0,.int .i64 0,.bool false] 71)).cell? ⟨w.heap.size,0,none⟩ = some (.pointer none):=cell_of_heap ((hb4.block _ (by omega)).trans hP)
 have hsz0 : ((st.S.length : Int) == 0) = false:=beq_eq_false_iff_ne.2 (by omega)
 have hcn0 : ((SegsP.cnt (st.S.length : Int) : Int) == 0) = false:=beq_eq_false_iff_ne.2 (by omega)
 have HCUR:=Lib.hid (hcur w4.drew w3.heap.size OP4.out.drew.ls)
 have HSL:=Lib.hid (show x.log.length ≤ 63 ∧ 0 < (secs x.log).length ∧ (secs x.log).length ≤ 504 from by
  have h8:=SuperP.segs_len (fit_segs hg.fit)
  rw [List.length_append] at h8
  have h9 : 0 < x.log.length:=hg.fit.2.2.1.2.2.2.2.2.2.1
  have h7:=secs_length (l:=x.log) fun k hk=>fit_range hg.fit k (List.mem_append_right _ hk)
  exact ⟨by omega,by omega,by omega⟩)
 have HAT:=Lib.hid (show atn x (octs K.bats) ≤ (secs x.log).length from hg.split.1)
 generalize st.S.length = sl at *
 clear hP hQ hR hb3 hb4 hz4 hsz4 hD3 h hi hg ht hok he hcur hrun hcnt h0
 go_enter_defers Tryz.func17,Tryz.ntmps17
 go_wp2_with fail
 refine HSZ3.out.mono ?_
 rintro e w1 ⟨rfl,rfl⟩
 clear HSZ3
 go_wp2_with fail
 refine HRY.out.mono ?_
 rintro e w1 ⟨rfl,rfl⟩
 clear HRY
 go_wp2_with fail
 refine HSZ4.out.mono ?_
 rintro e w1 ⟨rfl,rfl⟩
 clear HSZ4
 go_wp2_with fail
 refine (HCN.out w4).mono ?_
 rintro e w1 ⟨rfl,rfl⟩
 clear HCN
 go_wp2_with fail
 clear hw3 hw4 hc3 hc3' hf3
 generalize w3.heap.size = B at *
 refine wp_region_noPanic ?_
 refine wp_region_held_drew (S:=(fun w'=>w'.cell? ⟨w.heap.size,0,none⟩ = some (.pointer (some ⟨B,0,none⟩)))) (by kernel_rfl) (by first | exact hp4) (fun hH0=>?_)
 refine wpAnyH_take (i:=0) (v:=?v1) rfl ?s1 ?f1 ?r1 ?q1 (Or.inl ⟨?y1,?z1⟩) ?h1 ?k1
 case s1 | f1 | r1 | y1=>kernel_rfl
 case q1=>exact fun _ _ _ h=>h
 case z1=>(intro w' hSw;(try dsimp only at hSw);go_simp;(try with_reducible rfl))
 case h1=>exact hH0
 refine wpAnyH_take (i:=1) (v:=?v2) rfl ?s2 ?f2 ?r2 ?q2 (Or.inl ⟨?y2,?z2⟩) ?h2 ?k2
 case s2 | f2 | r2 | y2=>kernel_rfl
 case q2=>exact fun _ _ _ h=>h
 case z2=>(intro w' hSw;(try dsimp only at hSw);go_simp;(try with_reducible rfl))
 case h2=>exact hH0
 refine wpAnyH_ready (rs:=[2]) (by kernel_rfl) (by simp) ?_
 refine AllReadyH.cons rfl (fun K hK=>?_) AllReadyH.nil
 go_simp
 refine HCUR.out.mono ?_
 rintro e w5 ⟨a1,c1,a2,c2,L1,rfl,hI1,hI2,hn1,hn2,hf1,hf2,hL1,hU1⟩
 have op5:=OP4.out.drew.chg hL1 hU1
 have hS5 : w5.cell? ⟨w.heap.size,0,none⟩ = some (.pointer (some ⟨B,0,none⟩)):=cell_of_heap op5.p
 refine hK.out _ _ hS5 (fun hH1=>?_)
 clear hK K hH0
 obtain ⟨hD5,ca,cc,la,lc,hk5,hb5,_,_⟩:=id hL1
 have hx5 : w5.heap[B]? = some (.cells #[.pointer (some ⟨d,0,none⟩),.int .i64 0,.int .i64 0,.int .i64 0,.int .i64 0,.slice ca 0 cc,.slice la 0 lc,.int .i64 0,.int .i64 0,.bool false] 71 (0,0)):=hk5.blk
 obtain ⟨w6,hw6⟩ : ∃ w6,putS w5 B (.int .i64 x.gen) (.int .i64 x.base) (.int .i64 x.size) (.int .i64 x.cg) (.slice a1 x.chk.length c1) (.slice a2 x.log.length c2) = w6:=⟨_,rfl⟩
 have hU6:=upd_putS w5 B (.int .i64 x.gen) (.int .i64 x.base) (.int .i64 x.size) (.int .i64 x.cg) (.slice a1 x.chk.length c1) (.slice a2 x.log.length c2)
 have hx6:=heap_putS hx5 (.int .i64 x.gen) (.int .i64 x.base) (.int .i64 x.size) (.int .i64 x.cg) (.slice a1 x.chk.length c1) (.slice a2 x.log.length c2)
 rw [hw6] at hU6 hx6
 have hBs : ∀ (L9 : List Nat) (k : Nat),k ∉ B :: L9 → k ∉ [B]:=fun L9 k g hm=>g (by rw [List.mem_singleton.1 hm];simp)
 have hbl1 : B ∉ L1:=hb5
 have hI16:=ints_other hI1 (fun h0 y hy=>hBs L1 _ (hf1 h0 y hy)) hU6
 have hI26:=ints_other hI2 (fun h0 y hy=>hBs L1 _ (hf2 h0 y hy)) hU6
 have hD6 : Dk w6 L1 d st1:=hD5.keep fun k hk=>hU6.block k (hD5.lt k hk) (fun hm=>hbl1 (by rw [← List.mem_singleton.1 hm];exact hk))
 have hk6 : LkAt w6 B d ⟨x,0,0,false⟩ a1 c1 a2 c2:=⟨hx6,hI16,hI26,hn1,hn2⟩
 have op6:=op5.chg (lg':=⟨x,0,0,false⟩) ⟨hD6,a1,c1,a2,c2,hk6,hbl1,hf1,hf2⟩ (upd_more hU6 (fun k hk=>by rw [List.mem_singleton.1 hk];simp))
 have y1 : w5.cell? ⟨B,1,none⟩ = some (.int .i64 0):=cell_of_heap hx5
 have y2 : w5.cell? ⟨B,2,none⟩ = some (.int .i64 0):=cell_of_heap hx5
 have y3 : w5.cell? ⟨B,3,none⟩ = some (.int .i64 0):=cell_of_heap hx5
 have y4 : w5.cell? ⟨B,4,none⟩ = some (.int .i64 0):=cell_of_heap hx5
 have y5 : w5.cell? ⟨B,5,none⟩ = some (.slice ca 0 cc):=cell_of_heap hx5
 have y6 : w5.cell? ⟨B,6,none⟩ = some (.slice la 0 lc):=cell_of_heap hx5
 have r1 : w5.frozen? ⟨B,1,none⟩ = false:=frozen_of_heap hx5
 have r2 : w5.frozen? ⟨B,2,none⟩ = false:=frozen_of_heap hx5
 have r3 : w5.frozen? ⟨B,3,none⟩ = false:=frozen_of_heap hx5
 have r4 : w5.frozen? ⟨B,4,none⟩ = false:=frozen_of_heap hx5
 have r5 : w5.frozen? ⟨B,5,none⟩ = false:=frozen_of_heap hx5
 have r6 : w5.frozen? ⟨B,6,none⟩ = false:=frozen_of_heap hx5
 have hw6' : ((((((w5.setCell ⟨B,1,none⟩ (.int .i64 x.gen)).setCell ⟨B,2,none⟩ (.int .i64 x.base)).setCell ⟨B,3,none⟩ (.int .i64 x.size)).setCell ⟨B,4,none⟩ (.int .i64 x.cg)).setCell ⟨B,5,none⟩ (.slice a1 x.chk.length c1)).setCell ⟨B,6,none⟩ (.slice a2 x.log.length c2)) = w6:=hw6
 have hS6 : w6.cell? ⟨w.heap.size,0,none⟩ = some (.pointer (some ⟨B,0,none⟩)):=cell_of_heap op6.p
 simp only [supV]
 refine wpAnyH_take (i:=3) (v:=?v3) rfl ?s3 ?f3 ?r3 ?q3 (Or.inl ⟨?y3,?z3⟩) ?h3 ?k3
 case s3 | f3 | r3 | y3=>kernel_rfl
 case q3=>exact fun _ _ _ h=>h
 case z3=>(intro w' hSw;(try dsimp only at hSw);go_simp;(try with_reducible rfl))
 case h3=>exact hH1
 refine wpAnyH_take (i:=4) (v:=?v4) rfl ?s4 ?f4 ?r4 ?q4 (Or.inl ⟨?y4,?z4⟩) ?h4 ?k4
 case s4 | f4 | r4 | y4=>kernel_rfl
 case q4=>exact fun _ _ _ h=>h
 case z4=>(intro w' hSw;(try dsimp only at hSw);go_simp;(try with_reducible rfl))
 case h4=>exact hH1
 refine wpAnyH_ready (rs:=[5]) (by kernel_rfl) (by simp) ?_
 refine AllReadyH.cons rfl (fun K hK=>?_) AllReadyH.nil
 go_simp
 try rw [hw6']
 refine hK.out _ _ hS6 (fun hH2=>?_)
 clear hK K hH1
 refine wpAnyH_done (by kernel_rfl) ?_ _
 refine NoPanic.normal ?_
 have OP6:=Lib.hid op6;have HK6:=Lib.hid hk6;have HF1:=Lib.hid hf1;have HF2:=Lib.hid hf2;have HX6:=Lib.hid hx6;have HD6:=Lib.hid hD6;have HBL1:=Lib.hid hbl1
 clear hw6 hw6' y1 y2 y3 y4 y5 y6 r1 r2 r3 r4 r5 r6 op5 op6 hk6 hf1 hf2 hx6 hx5 hD6 hD5 hk5 hbl1 hb5 hI16 hI26 hI1 hI2 hL1 hU1 hU6 hBs hS5 hS6 hH2 hp4 OP4 HCUR hn1 hn2
 go_wp2_with fail
 have hp6:=cell_of_heap (i:=0) OP6.out.p
 have hb6 : w6.cell? ⟨B,2,none⟩ = some (.int .i64 x.base):=cell_of_heap HX6.out
 have hc7 : w6.cell? ⟨B,7,none⟩ = some (.int .i64 0):=cell_of_heap HX6.out
 have hz7 : w6.frozen? ⟨B,7,none⟩ = false:=frozen_of_heap HX6.out
 obtain ⟨w7,hw7⟩ : ∃ w7,w6.setCell ⟨B,7,none⟩ (.int .i64 x.base) = w7:=⟨_,rfl⟩
 have hU7 : Upd [B] w6 w7 [B]:=by rw [← hw7];exact upd_set w6 B 7 _
 have hx7 : w7.heap[B]? = some (lgObj d ⟨x,0,x.base,false⟩ a1 c1 a2 c2):=by rw [← hw7];exact Lib.heap_setCell_same (i:=7) HX6.out _
 have hl7 : LS w7 L1 B d ⟨x,0,x.base,false⟩ st1:=ls_mk (lg':=⟨x,0,x.base,false⟩) HD6.out HK6.out HBL1.out HF1.out HF2.out rfl hU7 hx7
 have OP7:=Lib.hid (OP6.out.chg hl7 (upd_more hU7 (fun k hk=>by rw [List.mem_singleton.1 hk];simp)))
 have hp7:=cell_of_heap (i:=0) OP7.out.p
 have hb7 : w7.cell? ⟨B,2,none⟩ = some (.int .i64 x.base):=cell_of_heap hx7
 clear hU7 hx7 hl7 HX6
 refine wp_region_noPanic ?_
 refine wp_region_held_drew (S:=(fun w'=>w'.cell? ⟨w.heap.size,0,none⟩ = some (.pointer (some ⟨B,0,none⟩)) ∧ w'.cell? ⟨B,2,none⟩ = some (.int .i64 x.base))) (by kernel_rfl) (by first | exact ⟨hp6,hb6⟩) (fun hH0=>?_)
 refine wpAnyH_take (i:=0) (v:=?v5) rfl ?s5 ?f5 ?r5 ?q5 (Or.inl ⟨?y5,?z5⟩) ?h5 ?k5
 case s5 | f5 | r5 | y5=>kernel_rfl
 case q5=>exact fun _ _ _ h=>h
 case z5=>(intro w' hSw;(try dsimp only at hSw);go_simp;(try with_reducible rfl))
 case h5=>exact hH0
 refine wpAnyH_take (i:=1) (v:=?v6) rfl ?s6 ?f6 ?r6 ?q6 (Or.inl ⟨?y6,?z6⟩) ?h6 ?k6
 case s6 | f6 | r6 | y6=>kernel_rfl
 case q6=>exact fun _ _ _ h=>h
 case z6=>(intro w' hSw;(try dsimp only at hSw);go_simp;(try with_reducible rfl))
 case h6=>exact hH0
 refine wpAnyH_take (i:=2) (v:=?v7) rfl ?s7 ?f7 ?r7 ?q7 (Or.inl ⟨?y7,?z7⟩) ?h7 ?k7
 case s7 | f7 | r7 | y7=>kernel_rfl
 case q7=>exact fun _ _ _ h=>h
 case z7=>(intro w' hSw;(try dsimp only at hSw);go_simp;(try with_reducible rfl))
 case h7=>exact hH0
 refine wpAnyH_take (i:=3) (v:=?v8) rfl ?s8 ?f8 ?r8 ?q8 (Or.inl ⟨?y8,?z8⟩) ?h8 ?k8
 case s8 | f8 | r8 | y8=>kernel_rfl
 case q8=>exact fun _ _ _ h=>h
 case z8=>(intro w' hSw;(try dsimp only at hSw);go_simp;(try with_reducible rfl))
 case h8=>exact hH0
 refine wpAnyH_take (i:=4) (v:=?v9) rfl ?s9 ?f9 ?r9 ?q9 (Or.inl ⟨?y9,?z9⟩) ?h9 ?k9
 case s9 | f9 | r9 | y9=>kernel_rfl
 case q9=>exact fun _ _ _ h=>h
 case z9=>(intro w' hSw;(try dsimp only at hSw);go_simp;(try with_reducible rfl))
 case h9=>exact hH0
 refine wpAnyH_take (i:=5) (v:=?v10) rfl ?s10 ?f10 ?r10 ?q10 (Or.inl ⟨?y10,?z10⟩) ?h10 ?k10
 case s10 | f10 | r10 | y10=>kernel_rfl
 case q10=>exact fun _ _ _ h=>h
 case z10=>(intro w' hSw;(try dsimp only at hSw);go_simp;(try with_reducible rfl))
 case h10=>exact hH0
 refine wpAnyH_take (i:=6) (v:=?v11) rfl ?s11 ?f11 ?r11 ?q11 (Or.inl ⟨?y11,?z11⟩) ?h11 ?k11
 case s11 | f11 | r11 | y11=>kernel_rfl
 case q11=>exact fun _ _ _ h=>h
 case z11=>(intro w' hSw;(try dsimp only at hSw);go_simp;(try with_reducible rfl))
 case h11=>exact hH0
 refine wpAnyH_take (i:=7) (v:=?v12) rfl ?s12 ?f12 ?r12 ?q12 (Or.inl ⟨?y12,?z12⟩) ?h12 ?k12
 case s12 | f12 | r12 | y12=>kernel_rfl
 case q12=>exact fun _ _ _ h=>h
 case z12=>(intro w' hSw;(try dsimp only at hSw);go_simp;(try with_reducible rfl))
 case h12=>exact hH0
 refine wpAnyH_ready (rs:=[8]) (by kernel_rfl) (by simp) ?_
 refine AllReadyH.cons rfl (fun K hK=>?_) AllReadyH.nil
 go_simp
 try rw [hw7]
 refine hK.out _ _ ⟨hp7,hb7⟩ (fun hH2=>?_)
 clear hK K hH0
 refine wpAnyH_done (by kernel_rfl) ?_ _
 refine NoPanic.normal ?_
 clear hp6 hb6 hc7 hz7 hw7 hH2 hb7 OP6 HK6 HF1 HF2 HD6 HBL1
 have OP8:=Lib.hid OP7.out.drew
 clear OP7 hp7
 generalize w7.drew = w8 at *
 have hp8 : w8.cell? ⟨w.heap.size,0,none⟩ = some (.pointer (some ⟨B,0,none⟩)):=cell_of_heap OP8.out.p
 have HBS:=Lib.hid (base_any L1 B d n ⟨x,0,x.base,false⟩ st1 w8 x K.base (octs K.bats) OP8.out.ls rfl HOK.out (by omega) HI.out HG.out)
 have HSB:=Lib.hid (show ∃ sb,bs (K.base.getD []) = sb from ⟨_,rfl⟩)
 have HHB:=Lib.hid (show ∃ hb,K.base.isSome = hb from ⟨_,rfl⟩)
 obtain ⟨sb,hsb⟩:=HSB.out
 obtain ⟨hb,hhb⟩:=HHB.out
 rw [hsb,hhb] at HBS
 have HSBE:=Lib.hid hsb;have HHBE:=Lib.hid hhb
 clear hsb hhb HSB HHB
 go_wp2_with fail
 refine HBS.out.mono ?_
 rintro e w9 ⟨rfl,hb9⟩
 have op9:=OP8.out.below hb9
 have q9:=op9.q
 obtain ⟨w10,hw10⟩ : ∃ w10,(w9.setCell ⟨w.heap.size + 1,1,none⟩ (.string sb)).setCell ⟨w.heap.size + 1,0,none⟩ (.bool hb) = w10:=⟨_,rfl⟩
 have hU10 : Upd [w.heap.size + 1] w9 w10 [w.heap.size + 1]:=by rw [← hw10];exact (upd_set _ _ _ _).trans (upd_set _ _ _ _)
 have hq10 : w10.heap[w.heap.size + 1]? = some (.cells #[.bool hb,.string sb,.slice none 0 0] 51 (0,0)):=by
  rw [← hw10];exact Lib.heap_setCell_same (i:=0) (Lib.heap_setCell_same (i:=1) q9 _) _
 have OP10:=Lib.hid (op9.kept hU10 hq10)
 have g0 : w9.cell? ⟨w.heap.size + 1,0,none⟩ = some (.bool false):=cell_of_heap q9
 have g1 : w9.cell? ⟨w.heap.size + 1,1,none⟩ = some (.string ⟨#[]⟩):=cell_of_heap q9
 have z0 : w9.frozen? ⟨w.heap.size + 1,0,none⟩ = false:=frozen_of_heap q9
 have z1 : w9.frozen? ⟨w.heap.size + 1,1,none⟩ = false:=frozen_of_heap q9
 have hp10 : w10.cell? ⟨w.heap.size,0,none⟩ = some (.pointer (some ⟨B,0,none⟩)):=cell_of_heap OP10.out.p
 have HBT:=Lib.hid (batches_ls L1 B d n st1 w10 x K OP10.out.ls HOK.out (by omega) HI.out HG.out HT.out ([w.heap.size,w.heap.size + 1,w.heap.size + 1 + 1] ++ List.range w.heap.size) (fun k hk=>by
  have h9:=heap_lt OP10.out.r
  simp only [List.mem_append,List.mem_cons,List.not_mem_nil,or_false,List.mem_range] at hk
  omega))
 obtain ⟨nb,hnb⟩ : ∃ nb,K.bats.length = nb:=⟨_,rfl⟩
 rw [hnb] at HBT
 have HNB:=Lib.hid hnb
 clear hb9 op9 q9 hU10 hq10 OP8 hp8 HBS hnb
 go_wp2_with fail
 refine HBT.out.mono ?_
 rintro e w11 ⟨a5,c5,rfl,hn5,hB5,hl5,hU5⟩
 clear g0 g1 z0 z1 hp10 hw10
 have op11:=OP10.out.chg hl5 hU5
 have q11:=op11.q
 obtain ⟨w12,hw12⟩ : ∃ w12,w11.setCell ⟨w.heap.size + 1,2,none⟩ (.slice a5 nb c5) = w12:=⟨_,rfl⟩
 have hU12 : Upd [w.heap.size + 1] w11 w12 [w.heap.size + 1]:=by rw [← hw12];exact upd_set _ _ _ _
 have hq12 : w12.heap[w.heap.size + 1]? = some (.cells #[.bool hb,.string sb,.slice a5 nb c5] 51 (0,0)):=by
  rw [← hw12];exact Lib.heap_setCell_same (i:=2) q11 _
 have op12:=op11.kept hU12 hq12
 have hB12:=hB5.upd (upd_more hU12 (N:=([w.heap.size,w.heap.size + 1,w.heap.size + 1 + 1] ++ List.range w.heap.size) ++ B :: L1) (fun k hk=>by rw [List.mem_singleton.1 hk];simp))
 have OPD:=Lib.hid op12.drew
 have HBD : Hid (BatsF w12.drew (([w.heap.size,w.heap.size + 1,w.heap.size + 1 + 1] ++ List.range w.heap.size) ++ B :: L1) a5 nb K.bats):=Lib.hid (hB12.upd (Upd.refl _ _).drew)
 have g2 : w11.cell? ⟨w.heap.size + 1,2,none⟩ = some (.slice none 0 0):=cell_of_heap q11
 have z2 : w11.frozen? ⟨w.heap.size + 1,2,none⟩ = false:=frozen_of_heap q11
 have HN5:=Lib.hid hn5
 clear hB5 hl5 hU5 op11 q11 hU12 hq12 op12 hB12 hn5 HBT OP10
 go_wp2_with fail
 clear g2 z2 hw12
 have hwd : ∃ wd,w12.drew = wd:=⟨_,rfl⟩
 obtain ⟨wd,hwd⟩:=hwd
 rw [hwd] at OPD HBD
 have hlf:=left_ls L1 B d ⟨x,atn x (octs K.bats),x.base + nb,false⟩ st1 wd OPD.out.ls (by have:=HSL.out.1;show x.log.length ≤ 80;omega) HSL.out.2.1 HAT.out
 unfold IntsOut at hlf
 have hE:=HE.out
 obtain ⟨bh,hbh⟩ : ∃ bh,(secs x.log).drop (atn x (octs K.bats)) = bh:=⟨_,rfl⟩
 have hbl : bh.length ≤ 504:=by rw [← hbh,List.length_drop];have:=HSL.out.2.2;omega
 rw [hbh] at hlf
 rw [show behind x (octs K.bats) = bh from hbh] at hE
 have HLF:=Lib.hid hlf
 have HEE:=Lib.hid hE
 have hpd : wd.cell? ⟨w.heap.size,0,none⟩ = some (.pointer (some ⟨B,0,none⟩)):=cell_of_heap OPD.out.p
 clear hlf hE hbh
 by_cases hc0 : c = 0
 rotate_left
 ·refine wp_region_held_drew (S:=(fun w'=>w'.cell? ⟨w.heap.size,0,none⟩ = some (.pointer (some ⟨B,0,none⟩)))) (by kernel_rfl) (by rw [hwd];exact hpd) (fun hH0=>?_)
  rw [hwd] at hH0 ⊢
  clear hwd
  refine wpAnyH_take (i:=0) (v:=?v13) rfl ?s13 ?f13 ?r13 ?q13 (Or.inl ⟨?y13,?z13⟩) ?h13 ?k13
  case s13=>kernel_rfl
  case f13=>kernel_rfl
  case r13=>kernel_rfl
  case q13=>(intro _ _ _ h;exact leaves_put (t1:=34) (t2:=51) (t3:=27) (by rfl) (by decide) h)
  case y13=>kernel_rfl
  case z13=>(intro w' hSw;(try dsimp only at hSw);go_simp;(try with_reducible rfl))
  case h13=>exact hH0
  refine wpAnyH_take (i:=1) (v:=?v14) rfl ?s14 ?f14 ?r14 ?q14 (Or.inl ⟨?y14,?z14⟩) ?h14 ?k14
  case s14=>kernel_rfl
  case f14=>kernel_rfl
  case r14=>kernel_rfl
  case q14=>(intro _ _ _ h;exact leaves_put (t1:=34) (t2:=51) (t3:=27) (by rfl) (by decide) h)
  case y14=>kernel_rfl
  case z14=>(intro w' hSw;(try dsimp only at hSw);go_simp;(try with_reducible rfl))
  case h14=>exact hH0
  refine wpAnyH_take (i:=2) (v:=?v15) rfl ?s15 ?f15 ?r15 ?q15 (Or.inl ⟨?y15,?z15⟩) ?h15 ?k15
  case s15=>kernel_rfl
  case f15=>kernel_rfl
  case r15=>kernel_rfl
  case q15=>(intro _ _ _ h;exact leaves_put (t1:=34) (t2:=51) (t3:=27) (by rfl) (by decide) h)
  case y15=>kernel_rfl
  case z15=>(intro w' hSw;(try dsimp only at hSw);go_simp;(try with_reducible rfl))
  case h15=>exact hH0
  refine wpAnyH_ready (rs:=[3]) (by kernel_rfl) (by simp) ?_
  refine AllReadyH.cons rfl (fun K hK=>?_) AllReadyH.nil
  go_simp
  refine HLF.out.mono ?_
  rintro e w13 ⟨a6,c6,rfl,hI6,hc6,hn6,hB6,hw6⟩
  have op13:=OPD.out.below hB6
  have hbt13:=HBD.out.upd (Upd.of_below hB6)
  have hS13 : w13.cell? ⟨w.heap.size,0,none⟩ = some (.pointer (some ⟨B,0,none⟩)):=cell_of_heap op13.p
  have her:=erase_dk d n st1 L1 a6 bh.length c6 bh w13 op13.ls.dk HOK.out (by omega) hI6 (fun _ y hy hm=>by have h9:=hw6 y hy;have h8:=OPD.out.ls.dk.lt _ hm;omega)
  rw [HEE.out] at her
  refine hK.out _ _ hS13 (fun hH1=>?_)
  clear hK K hH0
  refine wpAnyH_ready (rs:=[4]) (by kernel_rfl) (by simp) ?_
  refine AllReadyH.cons rfl (fun K hK=>?_) AllReadyH.nil
  go_simp
  refine her.mono ?_
  rintro e w14 ⟨rfl,L2,hD14,hU14⟩
  have op14:=op13.disk hD14 hU14
  have hbt14:=hbt13.upd (upd_wider (Upd.wide (b:=B) hU14) ([w.heap.size,w.heap.size + 1,w.heap.size + 1 + 1] ++ List.range w.heap.size))
  have hS14 : w14.cell? ⟨w.heap.size,0,none⟩ = some (.pointer (some ⟨B,0,none⟩)):=cell_of_heap op14.p
  refine hK.out _ _ hS14 (fun hH2=>?_)
  clear hK K hH1
  refine wpAnyH_ready (rs:=[5]) (by kernel_rfl) (by simp) ?_
  refine AllReadyH.cons rfl (fun K hK=>?_) AllReadyH.nil
  go_simp
  refine (must_yes c L2 B d _ s2 w14 op14.ls hc0).mono ?_
  rintro e w15 ⟨rfl,⟨L3,hL15,hU15⟩,_⟩
  have op15:=op14.chg hL15 hU15
  have hcs:=shut_cells (c:=c) op15.p op15.q op15.r (by omega) (by omega) (by omega)
  have HC:=Lib.hid (ocatch_yes w.heap.size (w.heap.size + 1) (w.heap.size + 1 + 1) c 0 _ _ _ _ _ hc0 (cell_of_heap op15.r) (frozen_of_heap op15.r) (cell_of_heap op15.p) (frozen_of_heap op15.p) (cell_of_heap op15.q) (cell_of_heap op15.q) (cell_of_heap op15.q) (frozen_of_heap op15.q) (frozen_of_heap op15.q) (frozen_of_heap op15.q) (by omega) (by omega) (by omega))
  have hbl15 : Below w.heap.size w15 (shut w15 w.heap.size (w.heap.size + 1) (w.heap.size + 1 + 1) c):=((((((Below.refl _ w15).mono op15.upd.size).setCell (p:=⟨w.heap.size + 1 + 1,0,none⟩) (by show _ ≤ _ + 1 + 1;omega) (.int .i64 c)).setCell (p:=⟨w.heap.size,0,none⟩) (Nat.le_refl _) (.pointer none)).setCell (p:=⟨w.heap.size + 1,0,none⟩) (by show _ ≤ _ + 1;omega) (.bool false)).setCell (p:=⟨w.heap.size + 1,1,none⟩) (by show _ ≤ _ + 1;omega) (.string ⟨#[]⟩)).setCell (p:=⟨w.heap.size + 1,2,none⟩) (by show _ ≤ _ + 1;omega) (.slice none 0 0)
  have hend : Dk (shut w15 w.heap.size (w.heap.size + 1) (w.heap.size + 1 + 1) c) L3 d s2 ∧ Upd L w (shut w15 w.heap.size (w.heap.size + 1) (w.heap.size + 1 + 1) c) L3 :=
   ⟨op15.ls.dk.keep fun k hk=>shut_other _ _ _ _ _ _ (op15.ls.dk.lt k hk) (fun e=>op15.np (by rw [← e];exact hk)) (fun e=>op15.nq (by rw [← e];exact hk)) (fun e=>op15.nr (by rw [← e];exact hk)),upd_bel op15.upd hbl15⟩
  have HEND:=Lib.hid hend;have HCS:=Lib.hid hcs
  clear hcs hbl15 hend op15 op14 op13 hL15 hU15 hD14 hU14 hbt14 hbt13 her hI6 hc6 hn6 hB6 hw6 hS13 hS14 hH2
  refine leaves_cons (f:=42) (args:=#[.pointer (some ⟨w.heap.size + 1 + 1,0,none⟩),.pointer (some ⟨w.heap.size,0,none⟩),.pointer (some ⟨w.heap.size + 1,0,none⟩)]) (by simp) (by simp [go_sem]) ?_
  refine HC.out.mono ?_
  rintro e u' w16 ⟨rfl,rfl,hw16⟩
  obtain ⟨g1,g2,g3⟩:=HCS.out
  have hen:=HEND.out
  change w16 = shut _ _ _ _ _ at hw16
  rw [← hw16] at g1 g2 g3 hen
  have k1:=cell_of_heap (i:=0) g1
  have k2:=cell_of_heap (i:=0) g2
  have k3:=cell_of_heap (i:=1) g2
  have k4:=cell_of_heap (i:=2) g2
  have k5:=cell_of_heap (i:=0) g3
  have HEN:=Lib.hid hen
  clear hw16 HC HCS HEND g1 g2 g3 hen
  simp [Leaves,settle,results,Tryz.results17]
  go_simp
  exact ⟨rfl,L3,HEN.out.1,HEN.out.2⟩
 ·subst hc0
  refine wp_region_noPanic ?_
  refine wp_region_held_drew (S:=(fun w'=>w'.cell? ⟨w.heap.size,0,none⟩ = some (.pointer (some ⟨B,0,none⟩)))) (by kernel_rfl) (by rw [hwd];exact hpd) (fun hH0=>?_)
  rw [hwd] at hH0 ⊢
  clear hwd
  refine wpAnyH_take (i:=0) (v:=?v16) rfl ?s16 ?f16 ?r16 ?q16 (Or.inl ⟨?y16,?z16⟩) ?h16 ?k16
  case s16 | f16 | r16 | y16=>kernel_rfl
  case q16=>exact fun _ _ _ h=>h
  case z16=>(intro w' hSw;(try dsimp only at hSw);go_simp;(try with_reducible rfl))
  case h16=>exact hH0
  refine wpAnyH_take (i:=1) (v:=?v17) rfl ?s17 ?f17 ?r17 ?q17 (Or.inl ⟨?y17,?z17⟩) ?h17 ?k17
  case s17 | f17 | r17 | y17=>kernel_rfl
  case q17=>exact fun _ _ _ h=>h
  case z17=>(intro w' hSw;(try dsimp only at hSw);go_simp;(try with_reducible rfl))
  case h17=>exact hH0
  refine wpAnyH_take (i:=2) (v:=?v18) rfl ?s18 ?f18 ?r18 ?q18 (Or.inl ⟨?y18,?z18⟩) ?h18 ?k18
  case s18 | f18 | r18 | y18=>kernel_rfl
  case q18=>exact fun _ _ _ h=>h
  case z18=>(intro w' hSw;(try dsimp only at hSw);go_simp;(try with_reducible rfl))
  case h18=>exact hH0
  refine wpAnyH_ready (rs:=[3]) (by kernel_rfl) (by simp) ?_
  refine AllReadyH.cons rfl (fun K hK=>?_) AllReadyH.nil
  go_simp
  refine HLF.out.mono ?_
  rintro e w13 ⟨a6,c6,rfl,hI6,hc6,hn6,hB6,hw6⟩
  have op13:=OPD.out.below hB6
  have hbt13:=HBD.out.upd (Upd.of_below hB6)
  have hS13 : w13.cell? ⟨w.heap.size,0,none⟩ = some (.pointer (some ⟨B,0,none⟩)):=cell_of_heap op13.p
  have her:=erase_dk d n st1 L1 a6 bh.length c6 bh w13 op13.ls.dk HOK.out (by omega) hI6 (fun _ y hy hm=>by have h9:=hw6 y hy;have h8:=OPD.out.ls.dk.lt _ hm;omega)
  rw [HEE.out] at her
  refine hK.out _ _ hS13 (fun hH1=>?_)
  clear hK K hH0
  refine wpAnyH_ready (rs:=[4]) (by kernel_rfl) (by simp) ?_
  refine AllReadyH.cons rfl (fun K hK=>?_) AllReadyH.nil
  go_simp
  refine her.mono ?_
  rintro e w14 ⟨rfl,L2,hD14,hU14⟩
  have op14:=op13.disk hD14 hU14
  have hbt14:=hbt13.upd (upd_wider (Upd.wide (b:=B) hU14) ([w.heap.size,w.heap.size + 1,w.heap.size + 1 + 1] ++ List.range w.heap.size))
  have hS14 : w14.cell? ⟨w.heap.size,0,none⟩ = some (.pointer (some ⟨B,0,none⟩)):=cell_of_heap op14.p
  refine hK.out _ _ hS14 (fun hH2=>?_)
  clear hK K hH1
  refine wpAnyH_ready (rs:=[5]) (by kernel_rfl) (by simp) ?_
  refine AllReadyH.cons rfl (fun K hK=>?_) AllReadyH.nil
  go_simp
  refine (must_no w14 _).mono ?_
  rintro e w15 ⟨rfl,hw15⟩
  subst hw15
  refine hK.out _ _ hS14 (fun hH3=>?_)
  clear hK K hH2
  refine wpAnyH_done (by kernel_rfl) ?_ _
  refine NoPanic.normal ?_
  have OP15:=Lib.hid op14.drew
  have HB15 : Hid (BatsF w14.drew (([w.heap.size,w.heap.size + 1,w.heap.size + 1 + 1] ++ List.range w.heap.size) ++ B :: L2) a5 nb K.bats):=Lib.hid (hbt14.upd (Upd.refl _ _).drew)
  obtain ⟨w15,hw15⟩ : ∃ w15,w14.drew = w15:=⟨_,rfl⟩
  rw [hw15] at OP15 HB15
  clear op14 op13 hD14 hU14 hbt14 hbt13 her hI6 hc6 hn6 hB6 hw6 hS13 hS14 hH3 OPD HBD HLF HEE HE HI HG HT hpd
  go_wp2_with fail
  obtain ⟨u1,hu1⟩ : ∃ u1,w15.setCell ⟨w.heap.size,0,none⟩ (.pointer (some ⟨B,0,none⟩)) = u1:=⟨_,rfl⟩
  have b1 : Below w15.heap.size w15 u1:=by rw [← hu1];exact below_same OP15.out.p rfl
  have op1:=OP15.out.below b1
  have b2:=below_same (i:=0) (v:=.bool hb) op1.q rfl
  have op2:=op1.below b2
  have b3:=below_same (i:=1) (v:=.string sb) op2.q rfl
  have op3:=op2.below b3
  have b4:=below_same (i:=2) (v:=.slice a5 nb c5) op3.q rfl
  have op4:=op3.below b4
  obtain ⟨u4,hu4⟩ : ∃ u4,((u1.setCell ⟨w.heap.size + 1,0,none⟩ (.bool hb)).setCell ⟨w.heap.size + 1,1,none⟩ (.string sb)).setCell ⟨w.heap.size + 1,2,none⟩ (.slice a5 nb c5) = u4:=⟨_,rfl⟩
  rw [hu4] at op4
  have hb14 : Upd (([w.heap.size,w.heap.size + 1,w.heap.size + 1 + 1] ++ List.range w.heap.size) ++ B :: L2) w15 u4 (([w.heap.size,w.heap.size + 1,w.heap.size + 1 + 1] ++ List.range w.heap.size) ++ B :: L2):=by
   rw [← hu4]
   exact (((Upd.of_below b1).trans (Upd.of_below b2)).trans (Upd.of_below b3)).trans (Upd.of_below b4)
  obtain ⟨u5,hu5⟩ : ∃ u5,u4.setCell ⟨w.heap.size + 1 + 1,0,none⟩ (.int .i64 0) = u5:=⟨_,rfl⟩
  have b5 : Below u4.heap.size u4 u5:=by rw [← hu5];exact below_same op4.r rfl
  have op5:=op4.below b5
  obtain ⟨u6,hu6⟩ : ∃ u6,u5.setCell ⟨w.heap.size + 1 + 1,0,none⟩ (.int .i64 0) = u6:=⟨_,rfl⟩
  have b6 : Below u5.heap.size u5 u6:=by rw [← hu6];exact below_same op5.r rfl
  have op6:=op5.below b6
  have HB6:=Lib.hid (((HB15.out.upd hb14).upd (Upd.of_below b5)).upd (Upd.of_below b6))
  have p15 : w15.frozen? ⟨w.heap.size,0,none⟩ = false:=frozen_of_heap OP15.out.p
  have e1 : u1.cell? ⟨w.heap.size + 1,0,none⟩ = some (.bool hb):=cell_of_heap op1.q
  have e2 : u1.cell? ⟨w.heap.size + 1,1,none⟩ = some (.string sb):=cell_of_heap op1.q
  have e3 : u1.cell? ⟨w.heap.size + 1,2,none⟩ = some (.slice a5 nb c5):=cell_of_heap op1.q
  have e0 : w15.cell? ⟨w.heap.size,0,none⟩ = some (.pointer (some ⟨B,0,none⟩)):=cell_of_heap OP15.out.p
  have r10 : u1.frozen? ⟨w.heap.size + 1,0,none⟩ = false:=frozen_of_heap op1.q
  have r11 : u1.frozen? ⟨w.heap.size + 1,1,none⟩ = false:=frozen_of_heap op1.q
  have r12 : u1.frozen? ⟨w.heap.size + 1,2,none⟩ = false:=frozen_of_heap op1.q
  have r4 : u4.cell? ⟨w.heap.size + 1 + 1,0,none⟩ = some (.int .i64 0):=cell_of_heap op4.r
  have rz4 : u4.frozen? ⟨w.heap.size + 1 + 1,0,none⟩ = false:=frozen_of_heap op4.r
  have hS0 : (fun w'=>w'.cell? ⟨w.heap.size,0,none⟩ = some (.pointer (some ⟨B,0,none⟩)) ∧ w'.cell? ⟨w.heap.size + 1,0,none⟩ = some (.bool hb) ∧ w'.cell? ⟨w.heap.size + 1,1,none⟩ = some (.string sb) ∧ w'.cell? ⟨w.heap.size + 1,2,none⟩ = some (.slice a5 nb c5)) w15:=⟨cell_of_heap OP15.out.p,cell_of_heap OP15.out.q,cell_of_heap OP15.out.q,cell_of_heap OP15.out.q⟩
  have hS1 : (fun w'=>w'.cell? ⟨w.heap.size,0,none⟩ = some (.pointer (some ⟨B,0,none⟩)) ∧ w'.cell? ⟨w.heap.size + 1,0,none⟩ = some (.bool hb) ∧ w'.cell? ⟨w.heap.size + 1,1,none⟩ = some (.string sb) ∧ w'.cell? ⟨w.heap.size + 1,2,none⟩ = some (.slice a5 nb c5)) u1:=⟨cell_of_heap op1.p,cell_of_heap op1.q,cell_of_heap op1.q,cell_of_heap op1.q⟩
  have hS4 : (fun w'=>w'.cell? ⟨w.heap.size,0,none⟩ = some (.pointer (some ⟨B,0,none⟩)) ∧ w'.cell? ⟨w.heap.size + 1,0,none⟩ = some (.bool hb) ∧ w'.cell? ⟨w.heap.size + 1,1,none⟩ = some (.string sb) ∧ w'.cell? ⟨w.heap.size + 1,2,none⟩ = some (.slice a5 nb c5)) u4:=⟨cell_of_heap op4.p,cell_of_heap op4.q,cell_of_heap op4.q,cell_of_heap op4.q⟩
  have hS5 : (fun w'=>w'.cell? ⟨w.heap.size,0,none⟩ = some (.pointer (some ⟨B,0,none⟩)) ∧ w'.cell? ⟨w.heap.size + 1,0,none⟩ = some (.bool hb) ∧ w'.cell? ⟨w.heap.size + 1,1,none⟩ = some (.string sb) ∧ w'.cell? ⟨w.heap.size + 1,2,none⟩ = some (.slice a5 nb c5)) u5:=⟨cell_of_heap op5.p,cell_of_heap op5.q,cell_of_heap op5.q,cell_of_heap op5.q⟩
  have hbn:=HNB.out
  have hend : OpenOk w L d ⟨x,atn x (octs K.bats),x.base + K.bats.length,false⟩ s2 K (.returned (.tuple #[.pointer (some ⟨B,0,none⟩),.agg #[.bool hb,.string sb,.slice a5 nb c5],.int .i64 0])) u6:=by
   refine ⟨B,L2,a5,c5,by unfold keptV;rw [HHBE.out,HSBE.out,hbn],HN5.out,by rw [hbn];exact HB6.out.less (fun k hk=>by simp only [List.mem_append] at hk ⊢;exact hk.elim (fun g=>.inl (.inr g)) .inr),?_,op6.upd,by omega⟩
   rw [hbn];exact op6.ls
  have HEND:=Lib.hid hend
  have HC:=Lib.hid (ocatch_no ⟨w.heap.size,0,none⟩ ⟨w.heap.size + 1,0,none⟩ ⟨w.heap.size + 1 + 1,0,none⟩ 0 u5 (cell_of_heap op5.r) (frozen_of_heap op5.r))
  have k1:=cell_of_heap (i:=0) op6.p
  have k2:=cell_of_heap (i:=0) op6.q
  have k3:=cell_of_heap (i:=1) op6.q
  have k4:=cell_of_heap (i:=2) op6.q
  have k5:=cell_of_heap (i:=0) op6.r
  have HU6:=Lib.hid hu6
  clear hend hbn hb14 b1 b2 b3 b4 b5 b6 op1 op2 op3 op4 op5 op6 hu6 OP15 HB15 HB6
  refine wp_region_noPanic ?_
  refine wp_region_held_drew (S:=(fun w'=>w'.cell? ⟨w.heap.size,0,none⟩ = some (.pointer (some ⟨B,0,none⟩)) ∧ w'.cell? ⟨w.heap.size + 1,0,none⟩ = some (.bool hb) ∧ w'.cell? ⟨w.heap.size + 1,1,none⟩ = some (.string sb) ∧ w'.cell? ⟨w.heap.size + 1,2,none⟩ = some (.slice a5 nb c5))) (by kernel_rfl) (by rw [hw15];exact hS0) (fun hH0=>?_)
  rw [hw15] at hH0 ⊢
  clear hw15
  refine wpAnyH_take (i:=0) (v:=?v19) rfl ?s19 ?f19 ?r19 ?q19 (Or.inl ⟨?y19,?z19⟩) ?h19 ?k19
  case s19 | f19 | r19 | y19=>kernel_rfl
  case q19=>exact fun _ _ _ h=>h
  case z19=>(intro w' hSw;(try dsimp only at hSw);go_simp;(try with_reducible rfl))
  case h19=>exact hH0
  refine wpAnyH_take (i:=1) (v:=?v20) rfl ?s20 ?f20 ?r20 ?q20 (Or.inl ⟨?y20,?z20⟩) ?h20 ?k20
  case s20 | f20 | r20 | y20=>kernel_rfl
  case q20=>exact fun _ _ _ h=>h
  case z20=>(intro w' hSw;(try dsimp only at hSw);go_simp;(try with_reducible rfl))
  case h20=>exact hH0
  refine wpAnyH_ready (rs:=[2]) (by kernel_rfl) (by simp) ?_
  refine AllReadyH.cons rfl (fun K hK=>?_) AllReadyH.nil
  go_simp
  refine hK.out _ _ hS1 (fun hH1=>?_)
  clear hK K hH0
  refine wpAnyH_ready (rs:=[3]) (by kernel_rfl) (by simp) ?_
  refine AllReadyH.cons rfl (fun K hK=>?_) AllReadyH.nil
  go_simp
  refine hK.out _ _ hS4 (fun hH2=>?_)
  clear hK K hH1
  refine wpAnyH_ready (rs:=[4]) (by kernel_rfl) (by simp) ?_
  refine AllReadyH.cons rfl (fun K hK=>?_) AllReadyH.nil
  go_simp
  refine hK.out _ _ hS5 (fun hH3=>?_)
  clear hK K hH2
  refine wpAnyH_done (by kernel_rfl) ?_ _
  refine NoPanic.normal ?_
  clear hS0 hS1 hS4 hS5 hH3 p15 e0 e1 e2 e3 r10 r11 r12 r4 rz4 hu1 hu4 hu5
  go_wp2_with fail
  refine leaves_cons (f:=42) (args:=#[.pointer (some ⟨w.heap.size + 1 + 1,0,none⟩),.pointer (some ⟨w.heap.size,0,none⟩),.pointer (some ⟨w.heap.size + 1,0,none⟩)]) (by simp) (by simp [go_sem]) ?_
  refine HC.out.mono ?_
  rintro e u' w16 ⟨rfl,rfl,hw16⟩
  rw [HU6.out] at hw16
  subst hw16
  clear HC HU6
  simp [Leaves,settle,results,Tryz.results17]
  go_simp
  exact HEND.out
end Go.Proofs.YtnnakhdndmjmiaaGreat.Wal
