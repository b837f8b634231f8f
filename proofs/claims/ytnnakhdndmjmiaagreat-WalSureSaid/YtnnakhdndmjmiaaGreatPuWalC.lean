import Derived.Test.YtnnakhdndmjmiaaGreatPuWalA
import Derived.Test.YtnnakhdndmjmiaaGreatPuSegsA
import Derived.Deep.RegionHeld3
set_option linter.unusedVariables false
set_option maxRecDepth 4000
namespace Go.Proofs.YtnnakhdndmjmiaaGreat.Wal
open Go.RowKit DiskP SegsP WalP Disk
open Ints (IntsAt IntsAt.keep cellsI)
abbrev cutA (a : Option Addr) (c p : Nat) : Option Addr:=if c = p then a else Option.map (fun x=>x.add p) a
theorem addr_add_block (x : Addr) (p : Nat) : (x.add p).block = x.block:=by
 unfold Addr.add
 split <;> rfl
theorem cutA_block {a : Option Addr} {c p : Nat} {y : Addr} (h : cutA a c p = some y) : ∃ x,a = some x ∧ y.block = x.block:=by
 unfold cutA at h
 split at h
 ·exact ⟨y,h,rfl⟩
 ·cases a with
  | none=>cases h
  | some x=>cases h;exact ⟨x,rfl,addr_add_block x p⟩
theorem cutA_none {a : Option Addr} {c p : Nat} (hn : a = none → c = 0) (h : cutA a c p = none) : c - p = 0:=by
 unfold cutA at h
 split at h
 ·omega
 ·cases a with
  | none=>rw [hn rfl];omega
  | some x=>cases h
theorem ints_drop {w : World} {a : Option Addr} {len c : Nat} {xs : List Int} (h : IntsAt w a len xs) {p : Nat} (hp : p ≤ len) (hc : len ≤ c) : IntsAt w (cutA a c p) (len - p) (xs.drop p):=by
 refine ⟨by rw [List.length_drop,h.1],fun x hx=>h.2.1 x (List.mem_of_mem_drop hx),?_⟩
 rcases h.2.2 with e | ⟨b,off,rfl,hlt,hd⟩
 ·exact .inl (by omega)
 ·by_cases e : c = p
  ·exact .inl (by omega)
  ·refine .inr ⟨b,off + p,by unfold cutA;rw [if_neg e];show some (Addr.add _ _) = _;rw [Addr.add_lit],hlt,fun i hi=>?_⟩
   rw [Nat.add_assoc,hd (p + i) (by omega)]
   simp [List.getD]
theorem ints_take {w : World} {a : Option Addr} {len : Nat} {xs : List Int} (h : IntsAt w a len xs) {p : Nat} (hp : p ≤ len) : IntsAt w a p (xs.take p):=by
 refine ⟨by rw [List.length_take,h.1];omega,fun x hx=>h.2.1 x (List.mem_of_mem_take hx),?_⟩
 rcases h.2.2 with e | ⟨b,off,rfl,hlt,hc⟩
 ·exact .inl (by omega)
 ·refine .inr ⟨b,off,rfl,hlt,fun i hi=>?_⟩
  rw [hc i (by omega)]
  simp [List.getD,hi]
theorem left_ls (L : List Nat) (b d : Nat) (lg : Lg) (st : St) (w : World) (h : LS w L b d lg st) (hll : lg.x.log.length ≤ 80) (h0 : 0 < (secs lg.x.log).length) (hp : lg.pos ≤ (secs lg.x.log).length) :
  Calls Tryz.prog 53 #[.pointer (some ⟨b,0,none⟩)] w (IntsOut ((secs lg.x.log).drop lg.pos) w):=by
 obtain ⟨hD,ca,cc,la,lc,hk,h1,h2,h3⟩:=h
 obtain ⟨c0,c1,c2,c3,c4,c5,c6,c7,c8,c9⟩:=lk_cells hk
 have HS:=Lib.hid (sectors_any la lg.x.log.length lc lg.x.log w.drew (hk.log.keep (Below.refl _ w).drew) hll)
 have hbb:=heap_lt hk.blk
 generalize lg.pos = p at *
 generalize secs lg.x.log = R at *
 generalize lg.x.log.length = n at *
 clear c0 c1 c2 c3 c4 c5 c7 c9 hk hD h1 h2 h3 hll
 go_enter Tryz.func53,Tryz.ntmps53
 go_wp2_with fail
 go_region_held3 (fun w'=>w'.cell? ⟨b,6,none⟩ = some (.slice la n lc) ∧ w'.cell? ⟨b,8,none⟩ = some (.int .i64 (p : Int)))
  (first | exact ⟨c6,c8⟩ | exact ⟨g6,g8⟩)
  (first | (go_at_call 61;refine HS.out.mono ?_;rintro e w1 ⟨a,c,rfl,hI,hc,hn,hB,hw⟩;have g6:=(hB.cell (p:=⟨b,6,none⟩) hbb).trans c6;have g8:=(hB.cell (p:=⟨b,8,none⟩) hbb).trans c8))
 obtain ⟨a',ha'⟩ : ∃ a',cutA a c p = a':=⟨_,rfl⟩
 rw [show (if c = p then a else Option.map (fun x=>x.add p) a) = a' from ha']
 have HA:=Lib.hid ha'
 clear ha'
 go_wp2_with fail
 go_ret
 obtain rfl:=HA.out
 have hl : (R.drop p).length = R.length - p:=List.length_drop
 refine ⟨cutA a c p,c - p,by rw [hl];rfl,by rw [hl];exact ints_drop hI hp hc,by rw [hl];omega,cutA_none hn,hB.mono (Nat.le_refl _) |> fun g=>?_,fun y hy=>?_⟩
 ·exact ⟨g.os,g.tape,g.output,g.size,g.block⟩
 ·obtain ⟨x,hx,he⟩:=cutA_block hy
  rw [he];exact hw x hx
set_option maxHeartbeats 4000000 in
theorem free_ls (L : List Nat) (b d : Nat) (lg : Lg) (st : St) (w : World) (h : LS w L b d lg st) (hll : (lg.x.chk ++ lg.x.log).length ≤ 80) (h0 : 0 < (lg.x.chk ++ lg.x.log).length) (hS : st.S.length ≤ 1000000) :
  Calls Tryz.prog 71 #[.pointer (some ⟨b,0,none⟩)] w (IntsOut (WalP.free lg st.S.length) w):=by
 obtain ⟨hD,ca,cc,la,lc,hk,h1,h2,h3⟩:=h
 obtain ⟨c0,c1,c2,c3,c4,c5,c6,c7,c8,c9⟩:=lk_cells hk
 have hbb:=heap_lt hk.blk
 have hn1:=hk.cn;have hn2:=hk.ln
 unfold WalP.free
 rw [List.length_append] at hll h0
 have hi1:=hk.chk;have hi2:=hk.log
 have hsz:=fun w (h : Dk w L d st)=>size_dk d st L w h
 have HD:=Lib.hid (fun w' (hb : Below w.heap.size w w')=>(hD.keep fun k hk=>hb.block k (hD.lt k hk) : Dk w' L d st))
 have I1:=Lib.hid (fun w' (hb : Below w.heap.size w w')=>hi1.keep hb)
 have I2:=Lib.hid (fun w' (hb : Below w.heap.size w w')=>hi2.keep hb)
 have HSZ:=Lib.hid hsz
 have HN1:=Lib.hid hn1;have HN2:=Lib.hid hn2
 clear c1 c2 c3 c4 c7 c8 c9 hk hD h1 h2 h3 hi1 hi2 hsz hn1 hn2
 generalize lg.x.chk = xs at *
 generalize lg.x.log = ys at *
 generalize st.S.length = n at *
 have hxl : (xs ++ ys).length = xs.length + ys.length:=List.length_append
 have HX:=Lib.hid hxl
 clear hxl
 generalize xs.length = l1 at *
 generalize ys.length = l2 at *
 have B0 : Below w.heap.size w w.drew:=(Below.refl _ w).drew
 have B1 : Below w.heap.size w (w.alloc (.cells #[.slice ca l1 cc,.slice la l2 lc] 67)).drew:=((Below.refl _ w).alloc (Nat.le_refl _) _).drew
 have r1 : (w.alloc (.cells #[.slice ca l1 cc,.slice la l2 lc] 67)).drew.cell? ⟨w.heap.size,0,none⟩ = some (.slice ca l1 cc):=cell_of_heap (heap_alloc_new w _)
 have r2 : (w.alloc (.cells #[.slice ca l1 cc,.slice la l2 lc] 67)).drew.cell? ⟨w.heap.size,1,none⟩ = some (.slice la l2 lc):=cell_of_heap (heap_alloc_new w _)
 have R1:=Lib.hid r1;have R2:=Lib.hid r2;have HB0:=Lib.hid B0;have HB1:=Lib.hid B1
 have k0:=(B1.cell (p:=⟨b,0,none⟩) hbb).trans c0
 have k5:=(B1.cell (p:=⟨b,5,none⟩) hbb).trans c5
 have k6:=(B1.cell (p:=⟨b,6,none⟩) hbb).trans c6
 have hcc:=concat_any w.heap.size ca la l1 cc l2 lc xs ys _ (I1.out _ B1) (I2.out _ B1) HN1.out HN2.out r1 r2 h0 (by omega) (by omega)
 unfold IntsNew at hcc
 rw [HX.out] at hcc
 have HC:=Lib.hid hcc
 have HFR:=Lib.hid (fun w2 a2 c2 (hI : IntsAt w2 (some a2) (l1 + l2) (xs ++ ys))=>free_any n (some a2) (l1 + l2) c2 (xs ++ ys) w2 (by omega) (by omega) hI hll)
 have HS0:=Lib.hid (HSZ.out _ (HD.out _ B0))
 have HS1:=Lib.hid (HSZ.out _ (HD.out _ B1))
 clear r1 r2 B0 B1 hcc HSZ
 go_enter Tryz.func71,Tryz.ntmps71
 go_wp2_with fail
 go_region_held3 (fun w'=>w'.cell? ⟨b,0,none⟩ = some (.pointer (some ⟨d,0,none⟩)) ∧ w'.cell? ⟨b,5,none⟩ = some (.slice ca l1 cc) ∧ w'.cell? ⟨b,6,none⟩ = some (.slice la l2 lc))
  (first | with_reducible exact ⟨f0,f5,f6⟩ | with_reducible exact ⟨g0,g5,g6⟩ | with_reducible exact ⟨k0,k5,k6⟩ | exact ⟨c0,c5,c6⟩)
  (first
   | (go_at_call 117;refine (HFR.out w2 a2 c2 hI2).mono ?_;rintro e w3 ⟨a3,c3,rfl,hI3,hc3,hn3,hB3,hw3⟩;have B3:=HB2.out.trans (hB3.mono HB2.out.size);have f0:=(B3.cell (p:=⟨b,0,none⟩) hbb).trans c0;have f5:=(B3.cell (p:=⟨b,5,none⟩) hbb).trans c5;have f6:=(B3.cell (p:=⟨b,6,none⟩) hbb).trans c6)
   | (go_at_call 59;refine HC.out.mono ?_;rintro e w2 ⟨a2,c2,rfl,hI2,hc2,hB2,hw2,ho2,hsp2⟩;have HB2:=Lib.hid (HB1.out.trans (hB2.mono HB1.out.size));have HS2:=Lib.hid (size_dk d st L w2 (HD.out w2 HB2.out));have g0:=(HB2.out.cell (p:=⟨b,0,none⟩) hbb).trans c0;have g5:=(HB2.out.cell (p:=⟨b,5,none⟩) hbb).trans c5;have g6:=(HB2.out.cell (p:=⟨b,6,none⟩) hbb).trans c6)
   | (go_at_call 44;with_reducible (first | refine HS2.out.mono ?_ | refine HS1.out.mono ?_ | refine HS0.out.mono ?_);rintro e w' ⟨rfl,rfl⟩))
 all_goals
  go_wp2_with fail
  go_ret
  exact ⟨a3,c3,rfl,hI3,hc3,hn3,B3,fun y hy=>by have:=hw3 y hy;have:=HB2.out.size;omega⟩
theorem gfree_yes (L : List Nat) (b d : Nat) (lg : Lg) (st : St) (w : World) (h : LS w L b d lg st) (hll : (lg.x.chk ++ lg.x.log).length ≤ 80) (h0 : 0 < (lg.x.chk ++ lg.x.log).length) (hS : st.S.length ≤ 1000000) :
  Calls Tryz.prog 29 #[.pointer (some ⟨b,0,none⟩)] w fun e w'=>e = .returned (.int .i64 ((WalP.free lg st.S.length).length : Int)) ∧ Below w.heap.size w w':=by
 have HF:=Lib.hid (free_ls L b d lg st w h hll h0 hS)
 obtain ⟨hD,ca,cc,la,lc,hk,h1,h2,h3⟩:=h
 have HM:=Lib.hid (made_yes b d w (lk_cells hk).1)
 clear hD hk h1 h2 h3 hll h0 hS
 generalize WalP.free lg st.S.length = R at *
 go_enter Tryz.func29,Tryz.ntmps29
 go_wp2_with fail
 refine HM.out.mono ?_
 rintro e w' ⟨rfl,rfl⟩
 go_wp2_with fail
 refine HF.out.mono ?_
 rintro e w1 ⟨a,c,rfl,hI,hc,hn,hB,hw⟩
 have HB:=Lib.hid hB
 clear hI hc hn hB hw
 go_wp2_with fail
 go_ret
 exact ⟨rfl,HB.out⟩
end Go.Proofs.YtnnakhdndmjmiaaGreat.Wal
/-
 Sectors and left once more: their row is the call's own.
-/
set_option linter.unusedVariables false
set_option maxRecDepth 4000
namespace Go.Proofs.YtnnakhdndmjmiaaGreat
open Go.RowKit SegsP Disk
open Ints (IntsAt IntsAt.keep take_snoc getD_mem cellsI append_int ints_of_owns owns_slice' owns_cast)
def IntsRow (l : List Int) (w : World) (e : Ending) (w' : World) : Prop := ∃ a c,e = .returned (.slice a l.length c) ∧ w'.ownsRow w.heap.size 3 1 (.slice a l.length c) l.length (cellsI l) ∧ Below w.heap.size w w'
theorem ints_row {l : List Int} {w w' : World} {v : Value} {n : Nat} (h : w'.ownsRow w.heap.size 3 1 v n (cellsI l)) (hn : n = l.length) (hb : Below w.heap.size w w') : IntsRow l w (.returned v) w':=by
 subst hn
 obtain ⟨a,c,rfl⟩:=owns_slice' h
 exact ⟨a,c,rfl,h,hb⟩
theorem ints_row_some {w : World} {B n c : Nat} {a : Option Addr} {xs : List Value} (h : w.ownsRow B 3 1 (.slice a n c) n xs) (h0 : 0 < n) : ∃ g,a = some ⟨g,0,none⟩:=by
 rcases h.2 with ⟨hv,h1⟩ | ⟨g,cap,cur,hv,_⟩
 ·omega
 ·cases hv;exact ⟨g,rfl⟩
theorem ints_row_cap {w : World} {B n c : Nat} {a : Option Addr} {xs : List Value} (h : w.ownsRow B 3 1 (.slice a n c) n xs) (h0 : 0 < n) : n ≤ c:=by
 rcases h.2 with ⟨hv,h1⟩ | ⟨g,cap,cur,hv,_,_,h2,_⟩
 ·omega
 ·cases hv;exact h2
set_option maxHeartbeats 1000000 in
theorem sectors_own (a : Option Addr) (len cap : Nat) (xs : List Int) (w : World) (h : IntsAt w a len xs) (hl : len ≤ 80) :
  Calls Tryz.prog 61 #[.slice a len cap] w (IntsRow (secs xs) w):=by
 obtain ⟨R,hR⟩ : ∃ R,secs xs = R:=⟨_,rfl⟩
 have hfit:=secs_fit xs
 rw [hR] at hfit ⊢
 have HL:=Lib.hid h.1;have HF:=Lib.hid h.2.1;have HC:=Lib.hid h.2.2;have HR:=Lib.hid hR;have HFIT:=Lib.hid hfit
 clear h hR hfit
 go_enter Tryz.func61,Tryz.ntmps61
 go_wp2_with fail
 go_loopw [3,9] (fun s i wr => ∃ (j n : Nat),j ≤ len ∧ i = .int .i64 (j : Int) ∧ n ≤ 8 * j ∧ Hid (n = (secs (xs.take j)).length) ∧ Hid (wr.ownsRow w.heap.size 3 1 s n (cellsI (secs (xs.take j)))) ∧ Hid (Below w.heap.size w wr)) (fun _ i _=>len - (intOf i).toNat)
 case atStart=>exact ⟨0,0,Nat.zero_le _,rfl,by omega,rfl,World.ownsRow_nil _ _ _ _,Below.refl _ w⟩
 case round =>
  obtain ⟨j,n,hj,rfl,hn8,hN,hO,hB⟩:=hrel
  by_cases hlt : j < len
  ·obtain ⟨b1,o1,rfl,hb1,hd1⟩:=HC.out.resolve_left (by omega)
   have hjx : j < xs.length:=by rw [HL.out];exact hlt
   have d1:=(hB.out.cell (p:=⟨b1,o1 + j,none⟩) hb1).trans (hd1 j hlt)
   have HST:=Lib.hid (secs_take hjx)
   obtain ⟨k0,k1⟩:=HF.out _ (getD_mem hjx)
   generalize secs (xs.take j) = pre at *
   generalize xs.getD j 0 = u at *
   have hnum:=fun w=>numbers_any u w k0 k1
   have HNUM:=Lib.hid hnum
   clear hd1 hnum
   by_cases hk : 0 ≤ u ∧ u < 63
   ·obtain ⟨k,rfl⟩ : ∃ k : Nat,u = (k : Int):=⟨u.toNat,by omega⟩
    have hk63 : k < 63:=by omega
    rw [seg1_yes hk] at HST
    rw [decide_eq_true hk] at HNUM
    clear hk k0 k1
    go_wp2_with fail
    refine (HNUM.out _).mono ?_
    rintro e w' ⟨rfl,rfl⟩
    clear d1
    go_wp2_with fail
    go_loopw [3,16] (fun s i wq => ∃ q : Nat,q ≤ 8 ∧ i = .int .i64 (q : Int) ∧ Hid (wq.ownsRow w.heap.size 3 1 s (n + q) (cellsI (pre ++ seg k q))) ∧ Hid (Below w.heap.size w wq)) (fun _ i _=>8 - (intOf i).toNat)
    case atStart=>exact ⟨0,by omega,rfl,by rw [seg_zero,List.append_nil];exact hO.out,hB.out⟩
    case round =>
     clear hO hB
     obtain ⟨q,hq,rfl,hO,hB⟩:=hrel
     by_cases hq8 : q < 8
     ·obtain ⟨a3,c3,rfl⟩:=owns_slice' hO.out
      have HSQ:=Lib.hid (seg_succ k q)
      have HLT:=Lib.hid hO.out.lt
      go_wp2_with (at_builtin;refine append_int rfl (.tmp 19) (.tmp 25) rfl w.heap.size wr (2 + (k : Int) * 8 + (q : Int)) (.slice a3 (n + q) c3) (n + q) (pre ++ seg k q) rfl hO.out rfl (by omega) hB.out.size ?_)
      intro v2 w2 hown2 hgrow2
      have HB2:=Lib.hid ((hB.out.alloc hB.out.size _).grown hgrow2 (by have:=hB.out.size;simp;omega) (fun k hk=>(HLT.out k hk).1))
      have HO2:=Lib.hid (owns_cast hown2 (m:=n + (q + 1)) (ys:=cellsI (pre ++ seg k (q + 1))) (by omega) (by rw [HSQ.out,show 2 + (k : Int) * 8 + (q : Int) = 2 + 8 * (k : Int) + (q : Int) by omega]))
      clear hown2 hgrow2 hO hB
      go_wp2_with fail
      go_roundw
      case rel=>exact ⟨q + 1,by omega,by go_num,HO2,HB2⟩
      case measure=>simp [intOf];omega
     ·obtain rfl : q = 8:=by omega
      have HO2:=Lib.hid (owns_cast hO.out (m:=n + 8) (ys:=cellsI (secs (xs.take (j + 1)))) rfl (by rw [HST.out]))
      clear hO
      go_wp2_with fail
      go_roundw
      case rel=>exact ⟨j + 1,n + 8,by omega,by go_num,by omega,by rw [HST.out,List.length_append,seg_length,← hN.out];trivial,HO2,hB⟩
      case measure=>simp [intOf];omega
   ·rw [seg1_no hk,List.append_nil] at HST
    rw [decide_eq_false hk] at HNUM
    clear hk
    go_wp2_with fail
    refine (HNUM.out _).mono ?_
    rintro e w' ⟨rfl,rfl⟩
    clear d1
    go_wp2_with fail
    go_roundw
    case rel=>exact ⟨j + 1,n,by omega,by go_num,by omega,by rw [HST.out];exact hN,by rw [HST.out];exact hO,hB⟩
    case measure=>simp [intOf];omega
  ·obtain rfl : j = len:=by omega
   have hx : xs.take j = xs:=List.take_of_length_le (by rw [HL.out];omega)
   rw [hx,HR.out] at hN hO
   have HEND:=Lib.hid (ints_row hO.out hN.out hB.out)
   clear hN hO hB hx
   go_wp2_with fail
   go_ret
   exact HEND.out
namespace Wal
open Go.RowKit DiskP SegsP WalP Disk
theorem left_own (L : List Nat) (b d : Nat) (lg : Lg) (st : St) (w : World) (h : LS w L b d lg st) (hll : lg.x.log.length ≤ 80) (h0 : 0 < (secs lg.x.log).length) (hp : lg.pos ≤ (secs lg.x.log).length) :
  Calls Tryz.prog 53 #[.pointer (some ⟨b,0,none⟩)] w fun e w' => ∃ g c,e = .returned (.slice (cutA (some ⟨g,0,none⟩) c lg.pos) ((secs lg.x.log).length - lg.pos) (c - lg.pos)) ∧ w'.ownsRow w.heap.size 3 1 (.slice (some ⟨g,0,none⟩) (secs lg.x.log).length c) (secs lg.x.log).length (cellsI (secs lg.x.log)) ∧ Below w.heap.size w w':=by
 obtain ⟨hD,ca,cc,la,lc,hk,h1,h2,h3⟩:=h
 obtain ⟨c0,c1,c2,c3,c4,c5,c6,c7,c8,c9⟩:=lk_cells hk
 have HS:=Lib.hid (sectors_own la lg.x.log.length lc lg.x.log w.drew (hk.log.keep (Below.refl _ w).drew) hll)
 have hbb:=heap_lt hk.blk
 generalize lg.pos = p at *
 generalize secs lg.x.log = R at *
 generalize lg.x.log.length = n at *
 clear c0 c1 c2 c3 c4 c5 c7 c9 hk hD h1 h2 h3 hll
 go_enter Tryz.func53,Tryz.ntmps53
 go_wp2_with fail
 go_region_held3 (fun w'=>w'.cell? ⟨b,6,none⟩ = some (.slice la n lc) ∧ w'.cell? ⟨b,8,none⟩ = some (.int .i64 (p : Int)))
  (first | exact ⟨c6,c8⟩ | exact ⟨g6,g8⟩)
  (first | (go_at_call 61;refine HS.out.mono ?_;rintro e w1 ⟨a,c,rfl,hO,hB⟩;have hc : R.length ≤ c:=ints_row_cap hO h0;have g6:=(hB.cell (p:=⟨b,6,none⟩) hbb).trans c6;have g8:=(hB.cell (p:=⟨b,8,none⟩) hbb).trans c8))
 obtain ⟨g,hg⟩:=ints_row_some hO h0
 subst hg
 obtain ⟨a',ha'⟩ : ∃ a',cutA (some ⟨g,0,none⟩) c p = a':=⟨_,rfl⟩
 rw [show (if c = p then (some (⟨g,0,none⟩ : Addr)) else Option.map (fun (x : Addr)=>x.add p) (some (⟨g,0,none⟩ : Addr))) = a' from ha']
 have HA:=Lib.hid ha'
 clear ha'
 go_wp2_with fail
 go_ret
 refine ⟨g,c,by rw [HA.out];rfl,hO,⟨hB.os,hB.tape,hB.output,hB.size,hB.block⟩⟩
end Wal
end Go.Proofs.YtnnakhdndmjmiaaGreat
