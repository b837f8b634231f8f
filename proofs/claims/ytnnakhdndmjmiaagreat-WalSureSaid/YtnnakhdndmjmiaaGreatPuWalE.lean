import Derived.Test.YtnnakhdndmjmiaaGreatPuWalD
import Derived.Test.YtnnakhdndmjmiaaGreatPuStampF
set_option linter.unusedVariables false
set_option maxRecDepth 4000
namespace Go.Proofs.YtnnakhdndmjmiaaGreat.Wal
open Go.RowKit DiskP SegsP WalP Disk
open Ints (IntsAt IntsAt.keep cellsI)
theorem strs_upd {L L' : List Nat} {w w' : World} {a : Option Addr} {len : Nat} {xs : List ByteArray} (h : StrsAt w a len xs) (ha : 0 < len → ∀ y,a = some y → y.block ∉ L) (hU : Upd L w w' L') : StrsAt w' a len xs:=by
 refine ⟨h.1,h.2.1,?_⟩
 rcases h.2.2 with h0 | ⟨b,off,rfl,hlt,hc⟩
 ·exact .inl h0
 ·by_cases h0 : len = 0
  ·exact .inl h0
  ·exact .inr ⟨b,off,rfl,by have:=hU.size;omega,fun i hi=>(cell_upd' (p:=⟨b,off + i,none⟩) hU hlt (ha (by omega) ⟨b,off,none⟩ rfl)).trans (hc i hi)⟩
def RzS (w : World) (L : List Nat) (b d : Nat) (c : Int) (lg : Lg) (st : St) (v : Value) (e : Ending) (w' : World) : Prop :=
 (c = 0 → e = .returned v ∧ ∃ L',LS w' L' b d lg st ∧ Upd L w w' L') ∧ (c ≠ 0 → e = Thrown c ∧ Chg w L b d { lg with dead:=true } st w' ∧ DeadTo w w' b d lg)
theorem LS.chg {w w' : World} {L : List Nat} {b d : Nat} {lg lg' : Lg} {st st' : St} (h : LS w L b d lg st) (k : Chg w L b d lg' st' w') : Chg w L b d lg' st' w':=k
theorem zip_drop_cons {ps : List Int} {ss : List ByteArray} {j : Nat} (h1 : j < ps.length) (h2 : j < ss.length) : (ps.zip ss).drop j = (ps.getD j 0,ss.getD j ByteArray.empty) :: (ps.zip ss).drop (j + 1):=by
 rw [List.drop_eq_getElem_cons (by rw [List.length_zip];omega)]
 simp [List.getD,h1,h2]
theorem puts_cons {st : St} {x : Int × ByteArray} {l : List (Int × ByteArray)} (h : (wr st x.1 x.2).1 = 0) : puts st (x :: l) = puts (wr st x.1 x.2).2 l:=by
 unfold puts
 rw [if_neg (fun g=>g h)]
 cases l <;> rfl
theorem puts_stop {st : St} {x : Int × ByteArray} {l : List (Int × ByteArray)} (h : (wr st x.1 x.2).1 ≠ 0) : puts st (x :: l) = wr st x.1 x.2:=by
 unfold puts
 rw [if_pos h]
theorem hII_range {w : World} {a : Option Addr} {len : Nat} {xs : List Int} (h : IntsAt w a len xs) (j : Nat) (hj : j < len) : -9223372036854775808 ≤ xs.getD j 0 ∧ xs.getD j 0 ≤ 9223372036854775807:=h.2.1 _ (Ints.getD_mem (by rw [h.1];exact hj))
theorem ints_lt2 {w : World} {a : Option Addr} {len : Nat} {xs : List ByteArray} (h : StrsAt w a len xs) (h0 : 0 < len) : ∀ y,a = some y → y.block < w.heap.size:=by
 rcases h.2.2 with e | ⟨b,off,rfl,hlt,_⟩
 ·omega
 ·rintro y ⟨⟩;exact hlt
set_option maxHeartbeats 2000000 in
theorem write_ls (L : List Nat) (b d n : Nat) (lg : Lg) (st : St) (w : World) (h : LS w L b d lg st) (hok : Ok n st) (a : Option Addr) (la ca : Nat) (ps : List Int) (hI : IntsAt w a la ps) (ha : 0 < la → ∀ y,a = some y → y.block ∉ b :: L)
  (a2 : Option Addr) (k c2 : Nat) (ts ss : List ByteArray) (hS : StrsAt w a2 k ts) (ha2 : 0 < k → ∀ y,a2 = some y → y.block ∉ b :: L) (hk : k ≤ la) (hn : n + k ≤ 900000) (num : Int) (hsl : ss.length = k)
  (hse : ∀ i,i < k → slR num i k (ts.getD i ByteArray.empty) = (ss.getD i ByteArray.empty,0)) (htz : ∀ i,i < k → (ts.getD i ByteArray.empty).size ≤ 9223372036854775807) (hsz : ∀ i,i < k → (ss.getD i ByteArray.empty).size ≤ 9223372036854775807)
  (c : Int) (st1 : St) (hr : puts st (ps.zip ss) = (c,st1)) :
  Calls Tryz.prog 62 #[.pointer (some ⟨b,0,none⟩),.slice a la ca,.slice a2 k c2,.int .i64 num] w (RzS w L b d c lg st1 (.tuple #[])):=by
 have hbb:=h.lk.lt
 have HBN : Hid (b ∉ L):=Lib.hid (by obtain ⟨_,_,_,_,_,_,g,_⟩:=h;exact g)
 have hpl:=hI.1
 have HZL:=Lib.hid (show (ps.zip ss).drop k = [] from List.drop_eq_nil_of_le (by rw [List.length_zip];omega))
 have HDC:=Lib.hid (fun j (hj : j < k)=>zip_drop_cons (ps:=ps) (ss:=ss) (j:=j) (by omega) (by omega))
 have HR:=Lib.hid hr;have HOK:=Lib.hid hok;have HL:=Lib.hid h;have HII:=Lib.hid hI;have HA:=Lib.hid ha;have HSS:=Lib.hid hS;have HA2:=Lib.hid ha2;have HSE:=Lib.hid hse;have HTZ:=Lib.hid htz;have HSZ:=Lib.hid hsz
 clear hr hok h hI ha hS ha2 hse htz hsz hsl hpl
 go_enter Tryz.func62,Tryz.ntmps62
 go_wp2_with fail
 go_loopw [14] (fun i wr => ∃ (j : Nat) (sj : St) (Lj : List Nat),j ≤ k ∧ i = .int .i64 (j : Int) ∧ Hid (puts sj ((ps.zip ss).drop j) = (c,st1)) ∧ Hid (LS wr Lj b d lg sj) ∧ Hid (Upd L w wr Lj) ∧ Hid (Ok (n + j) sj)) (fun i _=>k - (intOf i).toNat)
 case atStart=>exact ⟨0,st,L,Nat.zero_le _,rfl,by rw [List.drop_zero];exact HR.out,HL.out,Upd.refl _ _,HOK.out⟩
 case round =>
  obtain ⟨j,sj,Lj,hj,rfl,hE,hL,hU,hOK⟩:=hrel
  have hUw:=Upd.wide (b:=b) hU.out
  have HIJ:=Lib.hid (ints_upd HII.out HA.out hUw)
  have HSJ:=Lib.hid (strs_upd HSS.out HA2.out hUw)
  have hnj : n + j ≤ 1000000000:=by omega
  by_cases hlt : j < k
  ·obtain ⟨b1,o1,rfl,hb1,hd1⟩:=HIJ.out.2.2.resolve_left (by omega)
   obtain ⟨b2,o2,rfl,hb2,hd2⟩:=HSJ.out.2.2.resolve_left (by omega)
   have d1:=hd1 j (by omega)
   have d2:=hd2 j hlt
   have hjla : j < la:=by omega
   have hpr:=hII_range HII.out j (by omega)
   have hse:=HSE.out j hlt;have htz:=HTZ.out j hlt;have hsz:=HSZ.out j hlt
   have he:=hE.out
   rw [HDC.out j hlt] at he
   have HBL:=Lib.hid (fun (hh : b2 ∈ b :: Lj)=>(hUw.sub _ hh).elim (HA2.out (by omega) ⟨b2,o2,none⟩ rfl) (fun g=>absurd (ints_lt2 HSS.out (by omega) ⟨b2,o2,none⟩ rfl) (Nat.not_lt.2 g)))
   have HBI:=Lib.hid (fun (hh : b1 ∈ b :: Lj)=>(hUw.sub _ hh).elim (HA.out (by omega) ⟨b1,o1,none⟩ rfl) (fun g=>absurd (ints_lt HII.out (by omega) ⟨b1,o1,none⟩ rfl) (Nat.not_lt.2 g)))
   generalize ps.getD j 0 = p at *
   generalize ts.getD j ByteArray.empty = t at *
   generalize ss.getD j ByteArray.empty = s at *
   have hsa:=fun w=>seal_any num (j : Int) (k : Int) t w htz
   rw [hse] at hsa
   have hwr:=fun w Lw (hD : Dk w Lw d sj)=>write_dk d (n + j) sj Lw p s w hD hOK.out hnj hsz
   have HWO:=Lib.hid (wr_ok hOK.out p s)
   obtain ⟨cv,hcv⟩ : ∃ cv,(DiskP.wr sj p s).1 = cv:=⟨_,rfl⟩
   obtain ⟨s2,hs2⟩ : ∃ s2,(DiskP.wr sj p s).2 = s2:=⟨_,rfl⟩
   have HP1:=Lib.hid (fun (hz : cv = 0)=>(puts_cons (l:=(ps.zip ss).drop (j + 1)) (x:=(p,s)) (hcv.trans hz)).symm.trans he)
   have HP2:=Lib.hid (fun (hz : cv ≠ 0)=>(puts_stop (l:=(ps.zip ss).drop (j + 1)) (x:=(p,s)) (st:=sj) (fun g=>hz (hcv.symm.trans g))).symm.trans he)
   have hpair : DiskP.wr sj p s = (cv,s2):=by rw [← hcv,← hs2]
   rw [hcv,hs2] at hwr
   rw [hs2] at HWO
   dsimp only at HP1 HP2
   rw [hpair] at HP2
   rw [hs2] at HP1
   have HSA:=Lib.hid hsa;have HWR:=Lib.hid hwr;have HD1:=Lib.hid hd1
   clear hd1 hd2 HIJ HSJ hE he hse htz hsz hsa hwr hcv hs2 hpair HDC HSE HTZ HSZ
   go_wp2_with fail
   refine (HSA.out wr).mono ?_
   rintro e w2 ⟨rfl,hb⟩
   have hL2:=hL.out.below hb
   have HL2:=Lib.hid hL2
   have e1:=(hb.cell (p:=⟨b1,o1 + j,none⟩) hb1).trans d1
   have e0:=(ls_dead hL2).1
   have HU2:=Lib.hid (hU.out.trans (Upd.of_below hb))
   clear hL2 hb d1 d2 hL hU HSA
   go_wp2_with fail
   refine (raise_no w2).mono ?_
   rintro e w3 ⟨rfl,rfl⟩
   go_wp2_with fail
   refine wp_region_held_drew (S:=(fun w'=>w'.cell? ⟨b,0,none⟩ = some (.pointer (some ⟨d,0,none⟩)) ∧ w'.cell? ⟨b1,o1 + j,none⟩ = some (.int .i64 p))) (by kernel_rfl) (by first | exact ⟨e0,e1⟩) (fun hHeld=>?_)
   refine wpAnyH_take (i:=0) (v:=?v1) rfl ?s1 ?f1 ?r1 ?q1 (Or.inl ⟨?y1,?z1⟩) ?h1 ?k1
   case s1 | f1 | r1 | y1=>kernel_rfl
   case q1=>exact fun _ _ _ h=>h
   case z1=>(intro w' hSw;(try dsimp only at hSw);go_simp;(try with_reducible rfl))
   case h1=>exact hHeld
   refine wpAnyH_take (i:=1) (v:=?v2) rfl ?s2 ?f2 ?r2 ?q2 (Or.inl ⟨?y2,?z2⟩) ?h2 ?k2
   case s2 | f2 | r2 | y2=>kernel_rfl
   case q2=>exact fun _ _ _ h=>h
   case z2=>(intro w' hSw;(try dsimp only at hSw);go_simp;(try with_reducible rfl))
   case h2=>exact hHeld
   refine wpAnyH_take (i:=2) (v:=?v3) rfl ?s3 ?f3 ?r3 ?q3 (Or.inl ⟨?y3,?z3⟩) ?h3 ?k3
   case s3 | f3 | r3 | y3=>kernel_rfl
   case q3=>exact fun _ _ _ h=>h
   case z3=>(intro w' hSw;(try dsimp only at hSw);go_simp;(try with_reducible rfl))
   case h3=>exact hHeld
   refine wpAnyH_take (i:=3) (v:=?v4) rfl ?s4 ?f4 ?r4 ?q4 (Or.inl ⟨?y4,?z4⟩) ?h4 ?k4
   case s4 | f4 | r4 | y4=>kernel_rfl
   case q4=>exact fun _ _ _ h=>h
   case z4=>(intro w' hSw;(try dsimp only at hSw);go_simp;(try with_reducible rfl))
   case h4=>exact hHeld
   refine wpAnyH_take (i:=4) (v:=?v5) rfl ?s5 ?f5 ?r5 ?q5 (Or.inl ⟨?y5,?z5⟩) ?h5 ?k5
   case s5 | f5 | r5 | y5=>kernel_rfl
   case q5=>exact fun _ _ _ h=>h
   case z5=>(intro w' hSw;(try dsimp only at hSw);go_simp;(try with_reducible rfl))
   case h5=>exact hHeld
   refine wpAnyH_take (i:=5) (v:=?v6) rfl ?s6 ?f6 ?r6 ?q6 (Or.inl ⟨?y6,?z6⟩) ?h6 ?k6
   case s6 | f6 | r6 | y6=>kernel_rfl
   case q6=>exact fun _ _ _ h=>h
   case z6=>(intro w' hSw;(try dsimp only at hSw);go_simp;(try with_reducible rfl))
   case h6=>exact hHeld
   refine wpAnyH_take (i:=6) (v:=?v7) rfl ?s7 ?f7 ?r7 ?q7 (Or.inl ⟨?y7,?z7⟩) ?h7 ?k7
   case s7 | f7 | r7 | y7=>kernel_rfl
   case q7=>exact fun _ _ _ h=>h
   case z7=>(intro w' hSw;(try dsimp only at hSw);go_simp;(try with_reducible rfl))
   case h7=>exact hHeld
   refine wpAnyH_take (i:=7) (v:=?v8) rfl ?s8 ?f8 ?r8 ?q8 (Or.inl ⟨?y8,?z8⟩) ?h8 ?k8
   case s8 | f8 | r8 | y8=>kernel_rfl
   case q8=>exact fun _ _ _ h=>h
   case z8=>(intro w' hSw;(try dsimp only at hSw);go_simp;(try with_reducible rfl))
   case h8=>exact hHeld
   refine wpAnyH_take (i:=8) (v:=?v9) rfl ?s9 ?f9 ?r9 ?q9 (Or.inl ⟨?y9,?z9⟩) ?h9 ?k9
   case s9 | f9 | r9 | y9=>kernel_rfl
   case q9=>exact fun _ _ _ h=>h
   case z9=>(intro w' hSw;(try dsimp only at hSw);go_simp;(try with_reducible rfl))
   case h9=>exact hHeld
   refine wpAnyH_take (i:=9) (v:=?v10) rfl ?s10 ?f10 ?r10 ?q10 (Or.inl ⟨?y10,?z10⟩) ?h10 ?k10
   case s10 | f10 | r10 | y10=>kernel_rfl
   case q10=>exact fun _ _ _ h=>h
   case z10=>(intro w' hSw;(try dsimp only at hSw);go_simp;(try with_reducible rfl))
   case h10=>exact hHeld
   refine wpAnyH_ready (rs:=[10]) (by kernel_rfl) (by simp) ?_
   refine AllReadyH.cons rfl (fun K hK=>?_) AllReadyH.nil
   go_simp
   refine (HWR.out _ Lj HL2.out.drew.dk).mono ?_
   rintro e w4 ⟨rfl,L4,hD4,hU4⟩
   have hL4:=HL2.out.drew.step hD4 hU4
   have HL4:=Lib.hid hL4;have HU4:=Lib.hid (HU2.out.trans (Upd.trans (Upd.of_below (Below.refl _ w2).drew) hU4))
   have f0:=(ls_dead hL4).1
   have f1:=(cell_upd' (p:=⟨b1,o1 + j,none⟩) hU4 (World.block_lt_of_cell? _ _ e1) (fun hm=>HBI.out (List.mem_cons_of_mem _ hm))).trans e1
   clear hL4 hD4 hU4 e0 e1 HL2 HU2 HBI HBL hUw
   by_cases hz0 : cv = 0
   ·subst hz0
    have HP:=HP1.out rfl
    refine hK.out _ _ ⟨f0,f1⟩ (fun hHeld4=>?_)
    clear hK K hHeld
    refine wpAnyH_ready (rs:=[11]) (by kernel_rfl) (by simp) ?_
    refine AllReadyH.cons rfl (fun K hK=>?_) AllReadyH.nil
    go_simp
    refine (must_no w4 _).mono ?_
    rintro e w5 ⟨rfl,rfl⟩
    refine hK.out _ _ (⟨f0,f1⟩) (fun hHeld5=>?_)
    clear hK K hHeld4
    refine wpAnyH_done (by kernel_rfl) ?_ _
    clear hHeld5 f0 f1
    go_wp2_with fail
    go_roundw
    case rel=>exact ⟨j + 1,s2,L4,by omega,by go_num,Lib.hid HP,HL4,HU4,Lib.hid (HWO.out.mono (by omega))⟩
    case measure=>simp [intOf];omega
   ·have hst:=HP2.out hz0
    refine hK.out _ _ ⟨f0,f1⟩ (fun hHeld4=>?_)
    clear hK K hHeld
    refine wpAnyH_ready (rs:=[11]) (by kernel_rfl) (by simp) ?_
    refine AllReadyH.cons rfl (fun K hK=>?_) AllReadyH.nil
    go_simp
    refine (must_yes cv L4 b d lg s2 w4 HL4.out hz0).mono ?_
    rintro e w5 ⟨rfl,⟨L5,hL5,hU5⟩,hDT⟩
    obtain ⟨rfl,rfl⟩:=Prod.mk.inj hst
    show ([] : List Deferred) = [] ∧ RzS w L b d cv lg s2 (.tuple #[]) (Thrown cv) w5
    exact ⟨rfl,fun g=>absurd g hz0,fun _=>⟨rfl,⟨L5,hL5,(Upd.wide HU4.out).trans hU5⟩,dead_pass HU4.out hbb HBN.out hDT⟩⟩
  ·obtain rfl : j = k:=by omega
   have he:=hE.out
   rw [HZL.out] at he
   have hfl:=fun w Lw (hD : Dk w Lw d sj)=>flush_dk d (n + j) sj Lw w hD hOK.out hnj
   rw [show fl sj = (c,st1) from he] at hfl
   have HFL:=Lib.hid hfl
   have e0:=(ls_dead hL.out).1
   clear hfl he HIJ HSJ HZL HDC HR HOK HL HII HA HSS HA2 HSE HTZ HSZ hE hOK hUw
   go_wp2_with fail
   refine (HFL.out _ Lj hL.out.dk).mono ?_
   rintro e w4 ⟨rfl,L4,hD4,hU4⟩
   have HL4:=Lib.hid (hL.out.step hD4 hU4)
   have HU4:=Lib.hid (hU.out.trans hU4)
   clear hD4 hU4 hL hU e0 HFL
   by_cases hz0 : c = 0
   ·subst hz0
    go_wp2_with fail
    refine (must_no w4 _).mono ?_
    rintro e w5 ⟨rfl,rfl⟩
    go_wp2_with fail
    first | go_end0 | go_ret
    exact ⟨fun _=>⟨rfl,L4,HL4.out,HU4.out⟩,fun g=>absurd rfl g⟩
   ·go_wp2_with fail
    refine (must_yes c L4 b d lg st1 w4 HL4.out hz0).mono ?_
    rintro e w5 ⟨rfl,⟨L5,hL5,hU5⟩,hDT⟩
    exact ⟨rfl,fun g=>absurd g hz0,fun _=>⟨rfl,⟨L5,hL5,(Upd.wide HU4.out).trans hU5⟩,dead_pass HU4.out hbb HBN.out hDT⟩⟩
end Go.Proofs.YtnnakhdndmjmiaaGreat.Wal
