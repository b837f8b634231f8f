import Derived.Test.YtnnakhdndmjmiaaGreatPuWalE
import Derived.Test.YtnnakhdndmjmiaaGreatPuSuperI
set_option linter.unusedVariables false
set_option maxRecDepth 4000
namespace Go.Proofs.YtnnakhdndmjmiaaGreat.Wal
open Go.RowKit DiskP SegsP WalP Disk
open Ints (IntsAt IntsAt.keep cellsI)
open SuperP (Sup)
theorem ints_one (w : World) (p : Int) (h : 0 ≤ p ∧ p ≤ 1000) : IntsAt (w.alloc (.cells #[.int .i64 p] 3)) (some ⟨w.heap.size,0,none⟩) 1 [p]:=by
 refine ⟨rfl,fun x hx=>by rw [List.mem_singleton.1 hx];omega,.inr ⟨w.heap.size,0,rfl,by simp,fun i hi=>?_⟩⟩
 obtain rfl : i = 0:=by omega
 rw [Disk.cell_of_heap (heap_alloc_new w _)];rfl
theorem enR_fit {x : Sup} (h : SuperP.Fit x) : enR x = (bs (SuperP.sect x),0):=by
 unfold enR;rw [if_pos h];rfl
theorem slot_val (n : Int) : 0 ≤ WalP.slot n ∧ WalP.slot n ≤ 1:=by unfold WalP.slot;split <;> omega
set_option maxHeartbeats 400000 in
theorem store_ls (L : List Nat) (b d n : Nat) (lg : Lg) (st : St) (w : World) (h : LS w L b d lg st) (hok : Ok n st) (hn : n ≤ 900000) (x : Sup) (a1 a2 : Option Addr) (l1 c1 l2 c2 : Nat) (hs : SupAt w x a1 l1 a2 l2) (hl1 : l1 ≤ 1000000) (hl2 : l2 ≤ 1000000) (hx : SuperP.Fit x)
  (c : Int) (st1 : St) (hr : lay st x = (c,st1)) :
  Calls Tryz.prog 60 #[.pointer (some ⟨b,0,none⟩),supV x (.slice a1 l1 c1) (.slice a2 l2 c2)] w (RzS w L b d c lg st1 (.tuple #[])):=by
 have HBN : Hid (b ∉ L):=Lib.hid (by obtain ⟨_,_,_,_,_,_,g,_⟩:=h;exact g)
 have h0:=bo_new w #[.int .i64 x.gen,.int .i64 x.base,.int .i64 x.size,.int .i64 x.cg,.slice a1 l1 c1,.slice a2 l2 c2]
 have hEN:=encode_any x a1 a2 l1 c1 l2 c2 _ (hs.keep h0.below) hl1 hl2
 rw [enR_fit hx] at hEN
 have hsv:=slot_val x.gen
 have hg:=WalP.fit_nums hx
 have hsl : ∀ w,Calls Tryz.prog 112 #[.int .i64 x.gen] w fun e w'=>e = .returned (.int .i64 (WalP.slot x.gen)) ∧ w = w':=fun w=>slot_any x.gen w (by omega) (by omega)
 have hbb:=h.lk.lt
 have hlt:=h.dk.lt
 have hL1:=h.below h0.below
 have hssz : (bs (SuperP.sect x)).size ≤ 9223372036854775807:=by rw [← tl_length,tl_bs,SuperP.sect_length hx];decide
 obtain ⟨c1',s1,he⟩ : ∃ c1' s1,er st false [WalP.slot x.gen] = (c1',s1):=⟨_,_,rfl⟩
 have hlay : (if c1' ≠ 0 then (c1',s1) else puts s1 [(WalP.slot x.gen,bs (SuperP.sect x))]) = (c,st1):=by
  have:=hr;unfold lay at this;rw [he] at this;exact this
 have hok1 : Ok (n + 2) s1:=by have:=er_ok [WalP.slot x.gen] st false n hok;rw [he] at this;exact this
 have hER:=fun L1 w1 (hD : Dk w1 L1 d st) a (hI : IntsAt w1 a 1 [WalP.slot x.gen]) ha=>erase_dk d n st L1 a 1 1 [WalP.slot x.gen] w1 hD hok (by omega) hI ha
 rw [he] at hER
 have hWR:=fun L1 w1 (hD : Dk w1 L1 d s1)=>write_dk d (n + 2) s1 L1 (WalP.slot x.gen) (bs (SuperP.sect x)) w1 hD hok1 (by omega) hssz
 obtain ⟨c2',s2,hw⟩ : ∃ c2' s2,DiskP.wr s1 (WalP.slot x.gen) (bs (SuperP.sect x)) = (c2',s2):=⟨_,_,rfl⟩
 have hok2 : Ok (n + 3) s2:=by have:=wr_ok hok1 (WalP.slot x.gen) (bs (SuperP.sect x));rw [hw] at this;exact this
 rw [hw] at hWR
 have hFL:=fun L1 w1 (hD : Dk w1 L1 d s2)=>flush_dk d (n + 3) s2 L1 w1 hD hok2 (by omega)
 obtain ⟨c3',s3,hf⟩ : ∃ c3' s3,fl s2 = (c3',s3):=⟨_,_,rfl⟩
 rw [hf] at hFL
 have hlay2 : (if c1' ≠ 0 then (c1',s1) else if c2' ≠ 0 then (c2',s2) else (c3',s3)) = (c,st1):=by
  rw [← hlay]
  by_cases q : c1' ≠ 0
  ·rw [if_pos q,if_pos q]
  ·rw [if_neg q,if_neg q]
   unfold puts
   rw [show DiskP.wr s1 (WalP.slot x.gen,bs (SuperP.sect x)).1 (WalP.slot x.gen,bs (SuperP.sect x)).2 = (c2',s2) from hw]
   by_cases q : c2' ≠ 0
   ·rw [if_pos q,if_pos q]
   ·rw [if_neg q,if_neg q];exact hf.symm
 have HR:=Lib.hid hlay2
 unfold supV at *
 have hI1:=fun w=>ints_one w (WalP.slot x.gen) (by omega)
 generalize WalP.slot x.gen = sl at *
 generalize x.gen = g at *
 generalize bs (SuperP.sect x) = sx at *
 have HEN:=Lib.hid hEN;have HSL:=Lib.hid hsl;have HER:=Lib.hid hER;have HWR:=Lib.hid hWR;have HFL:=Lib.hid hFL;have HL1:=Lib.hid hL1;have HI1:=Lib.hid hI1;have HB0:=Lib.hid h0.below;have HBX:=Lib.hid h0.box;have HBB:=Lib.hid hbb;have HLT:=Lib.hid hlt
 clear hEN hsl hER hWR hFL hL1 hI1 h0 hr hs hx h hok hssz he hlay hok1 hw hok2 hf hlay2 hg hsv hlt hbb
 go_enter Tryz.func60,Tryz.ntmps60
 go_wp2_with fail
 refine HEN.out.mono ?_
 rintro e w2 ⟨rfl,hb2⟩
 have hs1:=HB0.out.size
 have hL2:=HL1.out.below hb2
 have HB2:=Lib.hid (HB0.out.trans (hb2.mono hs1))
 have p0 : w2.cell? ⟨w.heap.size,0,none⟩ = some (.int .i64 g):=cell_of_heap ((hb2.block _ (heap_lt HBX.out)).trans HBX.out)
 have HL2:=Lib.hid hL2
 have e0:=(ls_dead hL2).1
 clear hb2 hL2 hs1 HB0 HBX HL1 HEN
 go_wp2_with fail
 refine (raise_no w2).mono ?_
 rintro e w3 ⟨rfl,rfl⟩
 go_wp2_with fail
 refine (HSL.out w2).mono ?_
 rintro e w3 ⟨rfl,rfl⟩
 clear HSL p0
 have hb3 : Below w2.heap.size w2 (w2.alloc (.cells #[.int .i64 sl] 3)):=(Below.refl _ w2).alloc (Nat.le_refl _) _
 have hL3:=HL2.out.below hb3
 have HE3:=Lib.hid (HER.out L _ hL3.dk (some ⟨w2.heap.size,0,none⟩) (HI1.out w2) (fun _ y hy hm=>by cases hy;have:=HL2.out.dk.lt _ hm;exact Nat.lt_irrefl _ this))
 have HL3:=Lib.hid hL3
 have HU3:=Lib.hid (show Upd L w (w2.alloc (.cells #[.int .i64 sl] 3)) L from (Upd.of_below HB2.out).trans (Upd.of_below hb3))
 clear hb3 hL3 HER HI1 HL2 HB2
 go_wp2_with fail
 refine HE3.out.mono ?_
 rintro e w4 ⟨rfl,L4,hD4,hU4⟩
 have HL4:=Lib.hid (HL3.out.step hD4 hU4)
 have HU4:=Lib.hid (HU3.out.trans hU4)
 clear hD4 hU4 HL3 HU3 HE3 e0
 have e0:=(ls_dead HL4.out).1
 by_cases q1 : c1' = 0
 rotate_left
 ·have hrr:=HR.out
  rw [if_pos q1] at hrr
  obtain ⟨rfl,rfl⟩:=Prod.mk.inj hrr
  go_wp2_with fail
  refine (must_yes c1' L4 b d lg s1 w4 HL4.out q1).mono ?_
  rintro e w5 ⟨rfl,⟨L5,hL5,hU5⟩,hDT⟩
  exact ⟨rfl,fun g=>absurd g q1,fun _=>⟨rfl,⟨L5,hL5,(Upd.wide HU4.out).trans hU5⟩,dead_pass HU4.out HBB.out HBN.out hDT⟩⟩
 subst q1
 go_wp2_with fail
 refine (must_no w4 _).mono ?_
 rintro e w5 ⟨rfl,rfl⟩
 go_wp2_with fail
 refine (HWR.out L4 _ HL4.out.dk).mono ?_
 rintro e w6 ⟨rfl,L6,hD6,hU6⟩
 have HL6:=Lib.hid (HL4.out.step hD6 hU6)
 have HU6:=Lib.hid (HU4.out.trans hU6)
 clear hD6 hU6 HL4 HU4 HWR e0
 have e0:=(ls_dead HL6.out).1
 by_cases q2 : c2' = 0
 rotate_left
 ·have hrr:=HR.out
  rw [if_neg (by simp),if_pos q2] at hrr
  obtain ⟨rfl,rfl⟩:=Prod.mk.inj hrr
  go_wp2_with fail
  refine (must_yes c2' L6 b d lg s2 w6 HL6.out q2).mono ?_
  rintro e w5 ⟨rfl,⟨L5,hL5,hU5⟩,hDT⟩
  exact ⟨rfl,fun g=>absurd g q2,fun _=>⟨rfl,⟨L5,hL5,(Upd.wide HU6.out).trans hU5⟩,dead_pass HU6.out HBB.out HBN.out hDT⟩⟩
 subst q2
 go_wp2_with fail
 refine (must_no w6 _).mono ?_
 rintro e w5 ⟨rfl,rfl⟩
 go_wp2_with fail
 refine (HFL.out L6 _ HL6.out.dk).mono ?_
 rintro e w7 ⟨rfl,L7,hD7,hU7⟩
 have HL7:=Lib.hid (HL6.out.step hD7 hU7)
 have HU7:=Lib.hid (HU6.out.trans hU7)
 clear hD7 hU7 HL6 HU6 HFL e0
 have hrr:=HR.out
 rw [if_neg (by simp),if_neg (by simp)] at hrr
 obtain ⟨rfl,rfl⟩:=Prod.mk.inj hrr
 by_cases q3 : c3' = 0
 rotate_left
 ·go_wp2_with fail
  refine (must_yes c3' L7 b d lg s3 w7 HL7.out q3).mono ?_
  rintro e w5 ⟨rfl,⟨L5,hL5,hU5⟩,hDT⟩
  exact ⟨rfl,fun g=>absurd g q3,fun _=>⟨rfl,⟨L5,hL5,(Upd.wide HU7.out).trans hU5⟩,dead_pass HU7.out HBB.out HBN.out hDT⟩⟩
 subst q3
 go_wp2_with fail
 refine (must_no w7 _).mono ?_
 rintro e w5 ⟨rfl,rfl⟩
 go_wp2_with fail
 first | go_end0 | go_ret
 exact ⟨fun _=>⟨rfl,L7,HL7.out,HU7.out⟩,fun g=>absurd rfl g⟩
end Go.Proofs.YtnnakhdndmjmiaaGreat.Wal
