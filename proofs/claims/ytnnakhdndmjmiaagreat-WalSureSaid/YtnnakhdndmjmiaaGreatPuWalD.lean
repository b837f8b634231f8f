import Derived.Test.YtnnakhdndmjmiaaGreatPuWalC
import Derived.Test.YtnnakhdndmjmiaaGreatPuSegsE
set_option linter.unusedVariables false
set_option maxRecDepth 4000
namespace Go.Proofs.YtnnakhdndmjmiaaGreat.Wal
open Go.RowKit DiskP SegsP WalP Disk
open Ints (IntsAt IntsAt.keep cellsI)
structure Tk (lg : Lg) (st : St) (n : Nat) : Prop where
 len : (lg.x.chk ++ lg.x.log).length ≤ 80
 pos : 0 < (lg.x.chk ++ lg.x.log).length
 sz : st.S.length ≤ 1000000
 ok : Ok n st
 nn : n ≤ 900000
def Took (w : World) (L : List Nat) (b d : Nat) (lg : Lg) (st : St) (l : List Int) (m : Nat) (e : Ending) (w' : World) : Prop :=
 ∃ a c L',e = .returned (.slice a m c) ∧ IntsAt w' a m l ∧ m ≤ c ∧ (a = none → c = 0) ∧ (0 < m → ∀ y,a = some y → w.heap.size ≤ y.block ∧ y.block ∉ b :: L') ∧ LS w' L' b d lg st ∧ Upd L w w' L'
theorem ls_dead {w : World} {L : List Nat} {b d : Nat} {lg : Lg} {st : St} (h : LS w L b d lg st) : w.cell? ⟨b,0,none⟩ = some (.pointer (some ⟨d,0,none⟩)) ∧ w.cell? ⟨b,1,none⟩ = some (.int .i64 lg.x.gen):=by
 obtain ⟨hD,ca,cc,la,lc,hk,h1,h2,h3⟩:=h
 exact ⟨(lk_cells hk).1,(lk_cells hk).2.1⟩
theorem take_full (L : List Nat) (b d n m : Nat) (lg : Lg) (st : St) (w : World) (h : LS w L b d lg st) (hT : Tk lg st n) (hm : m ≤ 1000) (hg : lg.x.gen ≠ 1099511627776) (hf : (WalP.free lg st.S.length).length < m) :
  Calls Tryz.prog 58 #[.pointer (some ⟨b,0,none⟩),.int .i64 (m : Int)] w fun e w'=>e = Thrown 4 ∧ Below w.heap.size w w':=by
 have hfl:=free_ls L b d lg st w h hT.len hT.pos hT.sz
 have hbb:=h.lk.lt
 have hlt:=h.dk.lt
 have hbL : b ∉ L:=by obtain ⟨_,_,_,_,_,_,g,_⟩:=h;exact g
 have HL:=Lib.hid (fun w' (hb : Below w.heap.size w w')=>h.below hb)
 have hc:=fun w' (hb : Below w.heap.size w w')=>ls_dead (h.below hb)
 generalize WalP.free lg st.S.length = f at *
 generalize lg.x.gen = g at *
 have hg' : (g == 1099511627776) = false:=beq_eq_false_iff_ne.2 hg
 have hf' : (f.length : Int) < (m : Int):=by omega
 have HF:=Lib.hid hfl;have HC:=Lib.hid hc
 clear hfl hc hT h
 go_enter Tryz.func58,Tryz.ntmps58
 go_wp2_with fail
 refine HF.out.mono ?_
 rintro e w1 ⟨a,c,rfl,hI,hc,hn,hB,hw⟩
 obtain ⟨d0,d1⟩:=HC.out w1 hB
 have HB:=Lib.hid hB
 clear hI hc hn hB hw
 go_wp2_with fail
 refine (raise_yes 4 _ (by decide)).mono ?_
 rintro e w2 ⟨rfl,rfl⟩
 exact ⟨rfl,rfl,HB.out⟩
theorem take_err (L : List Nat) (b d n m : Nat) (lg : Lg) (st : St) (w : World) (h : LS w L b d lg st) (hT : Tk lg st n) (hm : m ≤ 1000) (hg : lg.x.gen ≠ 1099511627776) (hf : m ≤ (WalP.free lg st.S.length).length) (er1 : Int) (st1 : St)
  (he : er st false (secs ((WalP.free lg st.S.length).take m)) = (er1,st1)) (hz : er1 ≠ 0) :
  Calls Tryz.prog 58 #[.pointer (some ⟨b,0,none⟩),.int .i64 (m : Int)] w fun e w'=>e = Thrown er1 ∧ Chg w L b d { lg with dead:=true } st1 w' ∧ DeadTo w w' b d lg:=by
 have hfl:=free_ls L b d lg st w h hT.len hT.pos hT.sz
 have hbb:=h.lk.lt
 have hlt:=h.dk.lt
 have hbL : b ∉ L:=by obtain ⟨_,_,_,_,_,_,g,_⟩:=h;exact g
 have HL:=Lib.hid (fun w' (hb : Below w.heap.size w w')=>h.below hb)
 have hc:=fun w' (hb : Below w.heap.size w w')=>ls_dead (h.below hb)
 have hsn : (secs ((WalP.free lg st.S.length).take m)).length ≤ 8000:=by
  have h1:=secs_len ((WalP.free lg st.S.length).take m)
  rw [List.length_take] at h1;omega
 have hfl80 : (WalP.free lg st.S.length).length ≤ 63:=by
  have:=fre_len (cnt st.S.length) (lg.x.chk ++ lg.x.log)
  have:=cnt_le (st.S.length : Int)
  unfold WalP.free;omega
 generalize WalP.free lg st.S.length = f at *
 have hok:=hT.ok;have hnn:=hT.nn
 have hg' : (lg.x.gen == 1099511627776) = false:=beq_eq_false_iff_ne.2 hg
 have HG:=Lib.hid hg'
 have hf' : ¬ ((f.length : Int) < (m : Int)):=by omega
 have hfm0 : (0 : Int) ≤ (m : Int):=by omega
 obtain ⟨q,hq⟩ : ∃ q,secs (f.take m) = q:=⟨_,rfl⟩
 have hsec:=fun a c w (hI : IntsAt w a m (f.take m))=>sectors_any a m c (f.take m) w hI (by omega)
 rw [hq] at he hsn hsec
 have HLX:=Lib.hid (show (f.take m).length = m by rw [List.length_take];omega)
 have HER:=Lib.hid (fun L1 w1 (hD : Dk w1 L1 d st) a c (hI : IntsAt w1 a q.length q) ha=>erase_dk d n st L1 a q.length c q w1 hD hok (by omega) hI ha)
 rw [he] at HER
 have HF:=Lib.hid hfl;have HC:=Lib.hid hc;have HSEC:=Lib.hid hsec
 clear hfl hc hT h hq hsec he hok hg
 go_enter Tryz.func58,Tryz.ntmps58
 go_wp2_with fail
 refine HF.out.mono ?_
 rintro e w1 ⟨a,c,rfl,hI,hcc,hn,hB,hw⟩
 have hgn:=(HC.out w1 hB).2
 obtain ⟨g,hgg⟩ : ∃ g,lg.x.gen = g:=⟨_,rfl⟩
 rw [hgg] at hgn
 have hg'' : (g == 1099511627776) = false:=by rw [← hgg];exact HG.out
 have c0:=(HC.out w1 hB).1
 have HB:=Lib.hid hB;have HL1:=Lib.hid (HL.out w1 hB);have HI1:=Lib.hid hI;have HN:=Lib.hid hn;have HW:=Lib.hid hw;have HI:=Lib.hid (ints_take hI hf)
 have hmc : (m : Int) ≤ (c : Int):=by omega
 have hmc' : m ≤ c:=by omega
 have HGG:=Lib.hid hgg
 have hb1 : b < w1.heap.size:=by have:=hB.size;omega
 clear hI hn hB hw HL HC hgg
 go_wp2_with fail
 refine wp_region_held_drew (S:=(fun w'=>w'.cell? ⟨b,0,none⟩ = some (.pointer (some ⟨d,0,none⟩)))) (by kernel_rfl) (by first | exact c0) (fun hHeld=>?_)
 refine wpAnyH_take (i:=0) (v:=?v1) rfl ?s1 ?f1 ?r1 ?q1 (Or.inl ⟨?y1,?z1⟩) ?h1 ?k1
 case s1 | f1 | r1 | y1=>kernel_rfl
 case q1=>exact fun _ _ _ h=>h
 case z1=>(intro w' hSw;(try dsimp only at hSw);go_simp;(try with_reducible rfl))
 case h1=>exact hHeld
 refine wpAnyH_take (i:=1) (v:=?v2) rfl ?s2 ?f2 ?r2 ?q2 (Or.inl ⟨?y2,?z2⟩) ?h2 ?k2
 case s2 | f2 | r2 | y2=>kernel_rfl
 case q2=>exact fun _ _ _ h=>h
 case z2=>(intro w' hSw;(try dsimp only at hSw);go_simp;(try with_reducible rfl))
 case h2=>exact hHeld
 refine wpAnyH_take (i:=2) (v:=?v3) rfl ?s3 ?f3 ?r3 ?q3 (Or.inl ⟨?y3,?z3⟩) ?h3 ?k3
 case s3 | f3 | r3 | y3=>kernel_rfl
 case q3=>exact fun _ _ _ h=>h
 case z3=>(intro w' hSw;(try dsimp only at hSw);go_simp;(try with_reducible rfl))
 case h3=>exact hHeld
 refine wpAnyH_take (i:=3) (v:=?v4) rfl ?s4 ?f4 ?r4 ?q4 (Or.inl ⟨?y4,?z4⟩) ?h4 ?k4
 case s4 | f4 | r4 | y4=>kernel_rfl
 case q4=>exact fun _ _ _ h=>h
 case z4=>(intro w' hSw;(try dsimp only at hSw);go_simp;(try with_reducible rfl))
 case h4=>exact hHeld
 refine wpAnyH_take (i:=4) (v:=?v5) rfl ?s5 ?f5 ?r5 ?q5 (Or.inl ⟨?y5,?z5⟩) ?h5 ?k5
 case s5 | f5 | r5 | y5=>kernel_rfl
 case q5=>exact fun _ _ _ h=>h
 case z5=>(intro w' hSw;(try dsimp only at hSw);go_simp;(try with_reducible rfl))
 case h5=>exact hHeld
 refine wpAnyH_take (i:=5) (v:=?v6) rfl ?s6 ?f6 ?r6 ?q6 (Or.inl ⟨?y6,?z6⟩) ?h6 ?k6
 case s6 | f6 | r6 | y6=>kernel_rfl
 case q6=>exact fun _ _ _ h=>h
 case z6=>(intro w' hSw;(try dsimp only at hSw);go_simp;(try with_reducible rfl))
 case h6=>exact hHeld
 refine wpAnyH_take (i:=6) (v:=?v7) rfl ?s7 ?f7 ?r7 ?q7 (Or.inl ⟨?y7,?z7⟩) ?h7 ?k7
 case s7 | f7 | r7 | y7=>kernel_rfl
 case q7=>exact fun _ _ _ h=>h
 case z7=>(intro w' hSw;(try dsimp only at hSw);go_simp;(try with_reducible rfl))
 case h7=>exact hHeld
 refine wpAnyH_take (i:=7) (v:=?v8) rfl ?s8 ?f8 ?r8 ?q8 (Or.inl ⟨?y8,?z8⟩) ?h8 ?k8
 case s8 | f8 | r8 | y8=>kernel_rfl
 case q8=>exact fun _ _ _ h=>h
 case z8=>(intro w' hSw;(try dsimp only at hSw);go_simp;(try with_reducible rfl))
 case h8=>exact hHeld
 refine wpAnyH_ready (rs:=[8]) (by kernel_rfl) (by simp) ?_
 refine AllReadyH.cons rfl (fun K hK=>?_) AllReadyH.nil
 go_simp
 refine (HSEC.out a c w1.drew (HI.out.keep (Below.refl _ w1).drew)).mono ?_
 rintro e w2 ⟨a2,c2,rfl,hI2,hc2,hn2,hB2,hw2⟩
 have hB12 : Below w1.heap.size w1 w2:=⟨hB2.os,hB2.tape,hB2.output,hB2.size,hB2.block⟩
 have hL2:=HL1.out.below hB12
 have e0:=(hB12.cell (p:=⟨b,0,none⟩) hb1).trans c0
 refine hK.out _ _ (e0) (fun hHeld2=>?_)
 clear hK K hHeld
 refine wpAnyH_ready (rs:=[9]) (by kernel_rfl) (by simp) ?_
 refine AllReadyH.cons rfl (fun K hK=>?_) AllReadyH.nil
 go_simp
 refine (HER.out L w2 hL2.dk a2 c2 hI2 (fun _ y hy hm=>by have:=hw2 y hy;have:=hlt _ hm;have:=HB.out.size;have e : w1.drew.heap.size = w1.heap.size:=rfl;omega)).mono ?_
 rintro e w3 ⟨rfl,L3,hD3,hU3⟩
 have hL3:=hL2.step hD3 hU3
 have hUn : Upd L w w3 L3:=(Upd.of_below HB.out).trans ((Upd.of_below hB12).trans hU3)
 have hUw : Upd (b :: L) w w3 (b :: L3):=Upd.wide hUn
 have f0:=(ls_dead hL3).1
 refine hK.out _ _ (f0) (fun hHeld3=>?_)
 clear hK K hHeld2
 refine wpAnyH_ready (rs:=[10]) (by kernel_rfl) (by simp) ?_
 refine AllReadyH.cons rfl (fun K hK=>?_) AllReadyH.nil
 go_simp
 refine (must_yes er1 L3 b d lg st1 w3 hL3 hz).mono ?_
 rintro e w4 ⟨rfl,⟨L4,hL4,hU4⟩,hDT⟩
 exact ⟨rfl,rfl,⟨L4,hL4,hUw.trans hU4⟩,dead_pass hUn hbb hbL hDT⟩
theorem take_yes (L : List Nat) (b d n m : Nat) (lg : Lg) (st : St) (w : World) (h : LS w L b d lg st) (hT : Tk lg st n) (hm : m ≤ 1000) (hg : lg.x.gen ≠ 1099511627776) (hf : m ≤ (WalP.free lg st.S.length).length) (er1 : Int) (st1 : St)
  (he : er st false (secs ((WalP.free lg st.S.length).take m)) = (er1,st1)) (hz : er1 = 0) :
  Calls Tryz.prog 58 #[.pointer (some ⟨b,0,none⟩),.int .i64 (m : Int)] w (Took w L b d lg st1 ((WalP.free lg st.S.length).take m) m):=by
 have hfl:=free_ls L b d lg st w h hT.len hT.pos hT.sz
 have hbb:=h.lk.lt
 have hlt:=h.dk.lt
 have hbL : b ∉ L:=by obtain ⟨_,_,_,_,_,_,g,_⟩:=h;exact g
 have HL:=Lib.hid (fun w' (hb : Below w.heap.size w w')=>h.below hb)
 have hc:=fun w' (hb : Below w.heap.size w w')=>ls_dead (h.below hb)
 have hsn : (secs ((WalP.free lg st.S.length).take m)).length ≤ 8000:=by
  have h1:=secs_len ((WalP.free lg st.S.length).take m)
  rw [List.length_take] at h1;omega
 have hfl80 : (WalP.free lg st.S.length).length ≤ 63:=by
  have:=fre_len (cnt st.S.length) (lg.x.chk ++ lg.x.log)
  have:=cnt_le (st.S.length : Int)
  unfold WalP.free;omega
 generalize WalP.free lg st.S.length = f at *
 have hok:=hT.ok;have hnn:=hT.nn
 have hg' : (lg.x.gen == 1099511627776) = false:=beq_eq_false_iff_ne.2 hg
 have HG:=Lib.hid hg'
 have hf' : ¬ ((f.length : Int) < (m : Int)):=by omega
 have hfm0 : (0 : Int) ≤ (m : Int):=by omega
 obtain ⟨q,hq⟩ : ∃ q,secs (f.take m) = q:=⟨_,rfl⟩
 have hsec:=fun a c w (hI : IntsAt w a m (f.take m))=>sectors_any a m c (f.take m) w hI (by omega)
 rw [hq] at he hsn hsec
 have HLX:=Lib.hid (show (f.take m).length = m by rw [List.length_take];omega)
 have HER:=Lib.hid (fun L1 w1 (hD : Dk w1 L1 d st) a c (hI : IntsAt w1 a q.length q) ha=>erase_dk d n st L1 a q.length c q w1 hD hok (by omega) hI ha)
 rw [he] at HER
 have HF:=Lib.hid hfl;have HC:=Lib.hid hc;have HSEC:=Lib.hid hsec
 clear hfl hc hT h hq hsec he hok hg
 subst hz
 go_enter Tryz.func58,Tryz.ntmps58
 go_wp2_with fail
 refine HF.out.mono ?_
 rintro e w1 ⟨a,c,rfl,hI,hcc,hn,hB,hw⟩
 have hgn:=(HC.out w1 hB).2
 obtain ⟨g,hgg⟩ : ∃ g,lg.x.gen = g:=⟨_,rfl⟩
 rw [hgg] at hgn
 have hg'' : (g == 1099511627776) = false:=by rw [← hgg];exact HG.out
 have c0:=(HC.out w1 hB).1
 have HB:=Lib.hid hB;have HL1:=Lib.hid (HL.out w1 hB);have HI1:=Lib.hid hI;have HN:=Lib.hid hn;have HW:=Lib.hid hw;have HI:=Lib.hid (ints_take hI hf)
 have hmc : (m : Int) ≤ (c : Int):=by omega
 have hmc' : m ≤ c:=by omega
 have HGG:=Lib.hid hgg
 have hb1 : b < w1.heap.size:=by have:=hB.size;omega
 clear hI hn hB hw HL HC hgg
 go_wp2_with fail
 refine wp_region_held_drew (S:=(fun w'=>w'.cell? ⟨b,0,none⟩ = some (.pointer (some ⟨d,0,none⟩)))) (by kernel_rfl) (by first | exact c0) (fun hHeld=>?_)
 refine wpAnyH_take (i:=0) (v:=?v9) rfl ?s9 ?f9 ?r9 ?q9 (Or.inl ⟨?y9,?z9⟩) ?h9 ?k9
 case s9 | f9 | r9 | y9=>kernel_rfl
 case q9=>exact fun _ _ _ h=>h
 case z9=>(intro w' hSw;(try dsimp only at hSw);go_simp;(try with_reducible rfl))
 case h9=>exact hHeld
 refine wpAnyH_take (i:=1) (v:=?v10) rfl ?s10 ?f10 ?r10 ?q10 (Or.inl ⟨?y10,?z10⟩) ?h10 ?k10
 case s10 | f10 | r10 | y10=>kernel_rfl
 case q10=>exact fun _ _ _ h=>h
 case z10=>(intro w' hSw;(try dsimp only at hSw);go_simp;(try with_reducible rfl))
 case h10=>exact hHeld
 refine wpAnyH_take (i:=2) (v:=?v11) rfl ?s11 ?f11 ?r11 ?q11 (Or.inl ⟨?y11,?z11⟩) ?h11 ?k11
 case s11 | f11 | r11 | y11=>kernel_rfl
 case q11=>exact fun _ _ _ h=>h
 case z11=>(intro w' hSw;(try dsimp only at hSw);go_simp;(try with_reducible rfl))
 case h11=>exact hHeld
 refine wpAnyH_take (i:=3) (v:=?v12) rfl ?s12 ?f12 ?r12 ?q12 (Or.inl ⟨?y12,?z12⟩) ?h12 ?k12
 case s12 | f12 | r12 | y12=>kernel_rfl
 case q12=>exact fun _ _ _ h=>h
 case z12=>(intro w' hSw;(try dsimp only at hSw);go_simp;(try with_reducible rfl))
 case h12=>exact hHeld
 refine wpAnyH_take (i:=4) (v:=?v13) rfl ?s13 ?f13 ?r13 ?q13 (Or.inl ⟨?y13,?z13⟩) ?h13 ?k13
 case s13 | f13 | r13 | y13=>kernel_rfl
 case q13=>exact fun _ _ _ h=>h
 case z13=>(intro w' hSw;(try dsimp only at hSw);go_simp;(try with_reducible rfl))
 case h13=>exact hHeld
 refine wpAnyH_take (i:=5) (v:=?v14) rfl ?s14 ?f14 ?r14 ?q14 (Or.inl ⟨?y14,?z14⟩) ?h14 ?k14
 case s14 | f14 | r14 | y14=>kernel_rfl
 case q14=>exact fun _ _ _ h=>h
 case z14=>(intro w' hSw;(try dsimp only at hSw);go_simp;(try with_reducible rfl))
 case h14=>exact hHeld
 refine wpAnyH_take (i:=6) (v:=?v15) rfl ?s15 ?f15 ?r15 ?q15 (Or.inl ⟨?y15,?z15⟩) ?h15 ?k15
 case s15 | f15 | r15 | y15=>kernel_rfl
 case q15=>exact fun _ _ _ h=>h
 case z15=>(intro w' hSw;(try dsimp only at hSw);go_simp;(try with_reducible rfl))
 case h15=>exact hHeld
 refine wpAnyH_take (i:=7) (v:=?v16) rfl ?s16 ?f16 ?r16 ?q16 (Or.inl ⟨?y16,?z16⟩) ?h16 ?k16
 case s16 | f16 | r16 | y16=>kernel_rfl
 case q16=>exact fun _ _ _ h=>h
 case z16=>(intro w' hSw;(try dsimp only at hSw);go_simp;(try with_reducible rfl))
 case h16=>exact hHeld
 refine wpAnyH_ready (rs:=[8]) (by kernel_rfl) (by simp) ?_
 refine AllReadyH.cons rfl (fun K hK=>?_) AllReadyH.nil
 go_simp
 refine (HSEC.out a c w1.drew (HI.out.keep (Below.refl _ w1).drew)).mono ?_
 rintro e w2 ⟨a2,c2,rfl,hI2,hc2,hn2,hB2,hw2⟩
 have hB12 : Below w1.heap.size w1 w2:=⟨hB2.os,hB2.tape,hB2.output,hB2.size,hB2.block⟩
 have hL2:=HL1.out.below hB12
 have e0:=(hB12.cell (p:=⟨b,0,none⟩) hb1).trans c0
 refine hK.out _ _ (e0) (fun hHeld2=>?_)
 clear hK K hHeld
 refine wpAnyH_ready (rs:=[9]) (by kernel_rfl) (by simp) ?_
 refine AllReadyH.cons rfl (fun K hK=>?_) AllReadyH.nil
 go_simp
 refine (HER.out L w2 hL2.dk a2 c2 hI2 (fun _ y hy hm=>by have:=hw2 y hy;have:=hlt _ hm;have:=HB.out.size;have e : w1.drew.heap.size = w1.heap.size:=rfl;omega)).mono ?_
 rintro e w3 ⟨rfl,L3,hD3,hU3⟩
 have hL3:=hL2.step hD3 hU3
 have hUn : Upd L w w3 L3:=(Upd.of_below HB.out).trans ((Upd.of_below hB12).trans hU3)
 have hUw : Upd (b :: L) w w3 (b :: L3):=Upd.wide hUn
 have f0:=(ls_dead hL3).1
 refine hK.out _ _ (f0) (fun hHeld3=>?_)
 clear hK K hHeld2
 refine wpAnyH_ready (rs:=[10]) (by kernel_rfl) (by simp) ?_
 refine AllReadyH.cons rfl (fun K hK=>?_) AllReadyH.nil
 go_simp
 refine (must_no w3 _).mono ?_
 rintro e w4 ⟨rfl,rfl⟩
 refine hK.out _ _ (f0) (fun hHeld4=>?_)
 clear hK K hHeld3
 refine wpAnyH_done (by kernel_rfl) ?_ _
 have hl3 : Hid (Took w L b d lg st1 (f.take m) m (.returned (.slice a m c)) w3):=by
  refine Lib.hid ⟨a,c,L3,rfl,?_,hmc',HN.out,fun hm0 y hy=>⟨HW.out y hy,fun hm=>?_⟩,hL3,hUn⟩
  ·refine ints_upd (HI.out.keep hB12) (fun _ y hy hm=>?_) hU3
   have:=HW.out y hy;have:=hlt _ hm;omega
  ·have h1:=HW.out y hy
   rcases List.mem_cons.1 hm with g1 | g1
   ·have:=h1;omega
   ·rcases hU3.sub _ g1 with g2 | g2
    ·have:=hlt _ g2;omega
    ·have:=ints_lt HI1.out (by omega) y hy;have:=hB12.size;omega
 clear hHeld4 hL3 hUw hUn f0 hL2 e0 hB12 hB2 hI2 hn2 hw2 hD3 hU3
 go_wp2_with fail
 go_ret
 exact hl3.out
end Go.Proofs.YtnnakhdndmjmiaaGreat.Wal
