import Derived.Test.YtnnakhdndmjmiaaGreatPuWirePlain
import Derived.Test.YtnnakhdndmjmiaaGreatPuInts
set_option linter.unusedVariables false
set_option maxRecDepth 4000
set_option maxRecDepth 4000
namespace Go.Proofs.YtnnakhdndmjmiaaGreat.Disk
open Go.RowKit SegsP
open Ints (IntsAt IntsAt.keep take_snoc getD_mem cellsI append_int ints_of_owns owns_slice' owns_cast)
theorem count_any (n : Int) (w : World) (h0 : -9223372036854775808 ≤ n) (h1 : n ≤ 9223372036854775807) :
  Calls Tryz.prog 47 #[.int .i64 n] w fun e w'=>e = .returned (.int .i64 (cnt n)) ∧ w = w':=by
 unfold cnt
 by_cases a : n < 2
 ·rw [if_pos a]
  go_enter Tryz.func47,Tryz.ntmps47
  go_wp2
  go_ret
  exact ⟨rfl,rfl⟩
 rw [if_neg a]
 by_cases b : 512 < n
 ·rw [if_pos b]
  go_enter Tryz.func47,Tryz.ntmps47
  go_wp2
  go_ret
  exact ⟨rfl,rfl⟩
 rw [if_neg b]
 have a' : decide (n < 2) = false:=decide_eq_false a
 have b' : decide (512 < n) = false:=decide_eq_false b
 have hq : (n - 2).tdiv 8 = (n - 2) / 8:=Int.tdiv_eq_ediv_of_nonneg (by omega)
 have hm : ((min ((n - 2) / 8).toNat 63 : Nat) : Int) = (n - 2) / 8:=by omega
 rw [hm]
 go_enter Tryz.func47,Tryz.ntmps47
 go_wp2
 go_ret
 exact ⟨rfl,rfl⟩
theorem need_any (n : Int) (w : World) (h0 : -9223372036854775808 ≤ n) (h1 : n ≤ 9223372036854775807) :
  Calls Tryz.prog 57 #[.int .i64 n] w fun e w'=>e = .returned (.int .i64 (need n)) ∧ w = w':=by
 unfold need
 by_cases a : n ≤ 0
 ·rw [if_pos a]
  go_enter Tryz.func57,Tryz.ntmps57
  go_wp2
  go_ret
  exact ⟨rfl,rfl⟩
 rw [if_neg a]
 have a' : decide (n ≤ 0) = false:=decide_eq_false a
 have hq : (n - 1).tdiv 8 = (n - 1) / 8:=Int.tdiv_eq_ediv_of_nonneg (by omega)
 go_enter Tryz.func57,Tryz.ntmps57
 go_wp2
 go_ret
 exact ⟨rfl,rfl⟩
theorem numbers_any (k : Int) (w : World) (h0 : -9223372036854775808 ≤ k) (h1 : k ≤ 9223372036854775807) :
  Calls Tryz.prog 113 #[.int .i64 k] w fun e w'=>e = .returned (.bool (decide (0 ≤ k ∧ k < 63))) ∧ w = w':=by
 by_cases a : 0 ≤ k
 ·by_cases b : k < 63
  ·rw [decide_eq_true (⟨a,b⟩ : 0 ≤ k ∧ k < 63)]
   have a' : decide (0 ≤ k) = true:=decide_eq_true a
   have b' : decide (k < 63) = true:=decide_eq_true b
   go_enter Tryz.func113,Tryz.ntmps113
   go_wp2
   go_ret
   exact ⟨rfl,rfl⟩
  ·rw [decide_eq_false (fun h=>b h.2 : ¬ (0 ≤ k ∧ k < 63))]
   have a' : decide (0 ≤ k) = true:=decide_eq_true a
   have b' : decide (k < 63) = false:=decide_eq_false b
   go_enter Tryz.func113,Tryz.ntmps113
   go_wp2
   go_ret
   exact ⟨rfl,rfl⟩
 ·rw [decide_eq_false (fun h=>a h.1 : ¬ (0 ≤ k ∧ k < 63))]
  have a' : decide (0 ≤ k) = false:=decide_eq_false a
  go_enter Tryz.func113,Tryz.ntmps113
  go_wp2
  go_ret
  exact ⟨rfl,rfl⟩
def IntsOut (l : List Int) (w : World) (e : Ending) (w' : World) : Prop := ∃ a c,e = .returned (.slice a l.length c) ∧ IntsAt w' a l.length l ∧ l.length ≤ c ∧ (a = none → c = 0) ∧ Below w.heap.size w w' ∧ (∀ y,a = some y → w.heap.size ≤ y.block)
theorem ints_out {l : List Int} {w w' : World} {v : Value} {n : Nat} (h : w'.ownsRow w.heap.size 3 1 v n (cellsI l)) (hn : n = l.length) (hr : ∀ x ∈ l,-9223372036854775808 ≤ x ∧ x ≤ 9223372036854775807) (hb : Below w.heap.size w w') : IntsOut l w (.returned v) w':=by
 subst hn
 obtain ⟨a,c,rfl⟩:=owns_slice' h
 obtain ⟨h1,h2,h3⟩:=ints_of_owns h rfl hr
 exact ⟨a,c,rfl,h1,h2,h3,hb,fun y hy=>by subst hy;exact (h.lt y.block rfl).1⟩
theorem secs_fit (l : List Int) : ∀ x ∈ secs l,-9223372036854775808 ≤ x ∧ x ≤ 9223372036854775807:=fun x hx=>by have:=secs_mem hx;omega
theorem secs_take {xs : List Int} {j : Nat} (h : j < xs.length) : secs (xs.take (j + 1)) = secs (xs.take j) ++ seg1 (xs.getD j 0):=by rw [take_snoc xs j h,secs_snoc]
set_option maxHeartbeats 1000000 in
theorem sectors_any (a : Option Addr) (len cap : Nat) (xs : List Int) (w : World) (h : IntsAt w a len xs) (hl : len ≤ 80) :
  Calls Tryz.prog 61 #[.slice a len cap] w (IntsOut (secs xs) w):=by
 obtain ⟨R,hR⟩ : ∃ R,secs xs = R:=⟨_,rfl⟩
 have hfit:=secs_fit xs
 rw [hR] at hfit ⊢
 have HL:=Lib.hid h.1;have HF:=Lib.hid h.2.1;have HC:=Lib.hid h.2.2;have HR:=Lib.hid hR;have HFIT:=Lib.hid hfit
 clear h hR hfit
 go_enter Tryz.func61,Tryz.ntmps61
 go_wp2_with fail
 go_loopw [3,9] (fun s i wr => ∃ (j n : Nat),j ≤ len ∧ i = .int .i64 (j : Int) ∧ n ≤ 8 * j ∧ Hid (n = (secs (xs.take j)).length) ∧ Hid (wr.ownsRow w.heap.size 3 1 s n (cellsI (secs (xs.take j)))) ∧ Hid (Below w.heap.size w wr)) (fun _ i _=>len - (intOf i).toNat)
 case atStart=>exact ⟨0,0,Nat.zero_le _,rfl,by omega,rfl,World.ownsRow_nil _ _ _ _,Below.refl _ w⟩
 case round =>
  obtain ⟨j,n,hj,rfl,hn8,hN,hO,hB⟩:=hrel
  by_cases hlt : j < len
  ·obtain ⟨b1,o1,rfl,hb1,hd1⟩:=HC.out.resolve_left (by omega)
   have hjx : j < xs.length:=by rw [HL.out];exact hlt
   have d1:=(hB.out.cell (p:=⟨b1,o1 + j,none⟩) hb1).trans (hd1 j hlt)
   have HST:=Lib.hid (secs_take hjx)
   obtain ⟨k0,k1⟩:=HF.out _ (getD_mem hjx)
   generalize secs (xs.take j) = pre at *
   generalize xs.getD j 0 = u at *
   have hnum:=fun w=>numbers_any u w k0 k1
   have HNUM:=Lib.hid hnum
   clear hd1 hnum
   by_cases hk : 0 ≤ u ∧ u < 63
   ·obtain ⟨k,rfl⟩ : ∃ k : Nat,u = (k : Int):=⟨u.toNat,by omega⟩
    have hk63 : k < 63:=by omega
    rw [seg1_yes hk] at HST
    rw [decide_eq_true hk] at HNUM
    clear hk k0 k1
    go_wp2_with fail
    refine (HNUM.out _).mono ?_
    rintro e w' ⟨rfl,rfl⟩
    clear d1
    go_wp2_with fail
    go_loopw [3,16] (fun s i wq => ∃ q : Nat,q ≤ 8 ∧ i = .int .i64 (q : Int) ∧ Hid (wq.ownsRow w.heap.size 3 1 s (n + q) (cellsI (pre ++ seg k q))) ∧ Hid (Below w.heap.size w wq)) (fun _ i _=>8 - (intOf i).toNat)
    case atStart=>exact ⟨0,by omega,rfl,by rw [seg_zero,List.append_nil];exact hO.out,hB.out⟩
    case round =>
     clear hO hB
     obtain ⟨q,hq,rfl,hO,hB⟩:=hrel
     by_cases hq8 : q < 8
     ·obtain ⟨a3,c3,rfl⟩:=owns_slice' hO.out
      have HSQ:=Lib.hid (seg_succ k q)
      have HLT:=Lib.hid hO.out.lt
      go_wp2_with (at_builtin;refine append_int rfl (.tmp 19) (.tmp 25) rfl w.heap.size wr (2 + (k : Int) * 8 + (q : Int)) (.slice a3 (n + q) c3) (n + q) (pre ++ seg k q) rfl hO.out rfl (by omega) hB.out.size ?_)
      intro v2 w2 hown2 hgrow2
      have HB2:=Lib.hid ((hB.out.alloc hB.out.size _).grown hgrow2 (by have:=hB.out.size;simp;omega) (fun k hk=>(HLT.out k hk).1))
      have HO2:=Lib.hid (owns_cast hown2 (m:=n + (q + 1)) (ys:=cellsI (pre ++ seg k (q + 1))) (by omega) (by rw [HSQ.out,show 2 + (k : Int) * 8 + (q : Int) = 2 + 8 * (k : Int) + (q : Int) by omega]))
      clear hown2 hgrow2 hO hB
      go_wp2_with fail
      go_roundw
      case rel=>exact ⟨q + 1,by omega,by go_num,HO2,HB2⟩
      case measure=>simp [intOf];omega
     ·obtain rfl : q = 8:=by omega
      have HO2:=Lib.hid (owns_cast hO.out (m:=n + 8) (ys:=cellsI (secs (xs.take (j + 1)))) rfl (by rw [HST.out]))
      clear hO
      go_wp2_with fail
      go_roundw
      case rel=>exact ⟨j + 1,n + 8,by omega,by go_num,by omega,by rw [HST.out,List.length_append,seg_length,← hN.out];trivial,HO2,hB⟩
      case measure=>simp [intOf];omega
   ·rw [seg1_no hk,List.append_nil] at HST
    rw [decide_eq_false hk] at HNUM
    clear hk
    go_wp2_with fail
    refine (HNUM.out _).mono ?_
    rintro e w' ⟨rfl,rfl⟩
    clear d1
    go_wp2_with fail
    go_roundw
    case rel=>exact ⟨j + 1,n,by omega,by go_num,by omega,by rw [HST.out];exact hN,by rw [HST.out];exact hO,hB⟩
    case measure=>simp [intOf];omega
  ·obtain rfl : j = len:=by omega
   have hx : xs.take j = xs:=List.take_of_length_le (by rw [HL.out];omega)
   rw [hx,HR.out] at hN hO
   have HEND:=Lib.hid (ints_out hO.out hN.out HFIT.out hB.out)
   clear hN hO hB hx
   go_wp2_with fail
   go_ret
   exact HEND.out
end Go.Proofs.YtnnakhdndmjmiaaGreat.Disk
/-
 The contracts of both Frees: any number,up to 80 segments.
-/
set_option linter.unusedVariables false
set_option maxRecDepth 4000
set_option maxRecDepth 4000
namespace Go.Proofs.YtnnakhdndmjmiaaGreat.Disk
open Go.RowKit SegsP
open Ints (IntsAt IntsAt.keep take_snoc getD_mem cellsI append_int ints_of_owns owns_slice' owns_cast SeenAt seen0 zero_seen seen_new has_any)
theorem seen_skip {w : World} {b : Nat} {pre : List Int} (h : SeenAt w b pre) {u : Int} (hu : ¬ (0 ≤ u ∧ u < 63)) : SeenAt w b (pre ++ [u]):=by
 obtain ⟨cur,h1,h2,h3⟩:=h
 refine ⟨cur,h1,h2,fun i hi=>?_⟩
 rw [h3 i hi]
 have : ¬ ((i : Int) = u):=by omega
 simp [this]
theorem seen_alloc {w : World} {b : Nat} {pre : List Int} {o : Obj} (h : SeenAt w b pre) (hlt : b < w.heap.size) : SeenAt (w.alloc o) b pre:=by
 obtain ⟨cur,h1,h2,h3⟩:=h
 exact ⟨cur,(Below.heap_alloc _ _ _ hlt).trans h1,h2,h3⟩
theorem seen_grown {w w' : World} {b : Nat} {g : Option Nat} {pre : List Int} (h : SeenAt w b pre) (hg : w.grownBy w' g) (hlt : b < w.heap.size) (hne : ¬ g = some b) : SeenAt w' b pre:=by
 obtain ⟨cur,h1,h2,h3⟩:=h
 exact ⟨cur,(hg.block b hlt (fun e=>hne e.symm)).trans h1,h2,h3⟩
theorem fre_fit (n : Nat) (l : List Int) (hn : n ≤ 63) : ∀ x ∈ fre n l,-9223372036854775808 ≤ x ∧ x ≤ 9223372036854775807:=fun x hx=>by have:=(mem_fre.1 hx).1;omega
set_option maxHeartbeats 1000000 in
theorem free_any (n : Int) (a : Option Addr) (len cap : Nat) (xs : List Int) (w : World) (h0 : -9223372036854775808 ≤ n) (h1 : n ≤ 9223372036854775807) (h : IntsAt w a len xs) (hl : len ≤ 80) :
  Calls Tryz.prog 117 #[.int .i64 n,.slice a len cap] w (IntsOut (fre (cnt n) xs) w):=by
 have hcnt:=fun w=>count_any n w h0 h1
 have hc63:=cnt_le n
 generalize cnt n = c at *
 have hfit:=fre_fit c xs hc63
 have hlen:=fre_len c xs
 have HL:=Lib.hid h.1;have HF:=Lib.hid h.2.1;have HC:=Lib.hid h.2.2;have HFIT:=Lib.hid hfit;have HCNT:=Lib.hid hcnt
 have hz:=zero_seen
 have hn:=seen_new w
 have hbz : Below w.heap.size w (w.alloc (.cells seen0 193)):=(Below.refl _ w).alloc (Nat.le_refl _) _
 have hsz : (w.alloc (.cells seen0 193)).heap.size = w.heap.size + 1:=by simp
 have HN:=Lib.hid hn;have HBZ:=Lib.hid hbz;have HSZ:=Lib.hid hsz
 clear h hfit hcnt hn hbz hlen hsz
 generalize seen0 = s0 at *
 go_enter Tryz.func117,Tryz.ntmps117
 go_wp2_with fail
 clear hz
 go_loopw [12] (fun i wr => ∃ j : Nat,j ≤ len ∧ i = .int .i64 (j : Int) ∧ Hid (Below w.heap.size w wr) ∧ Hid (SeenAt wr w.heap.size (xs.take j)) ∧ Hid (w.heap.size + 1 ≤ wr.heap.size)) (fun i _=>len - (intOf i).toNat)
 case atStart=>exact ⟨0,by omega,rfl,HBZ.out,HN.out,by rw [HSZ.out];exact Nat.le_refl _⟩
 case round =>
  obtain ⟨j,hj,rfl,hB,hS,hZ⟩:=hrel
  by_cases hlt : j < len
  ·obtain ⟨b1,o1,rfl,hb1,hd1⟩:=HC.out.resolve_left (by omega)
   have hjx : j < xs.length:=by rw [HL.out];exact hlt
   have d1:=(hB.out.cell (p:=⟨b1,o1 + j,none⟩) hb1).trans (hd1 j hlt)
   have HTK:=Lib.hid (take_snoc xs j hjx)
   obtain ⟨k0,k1⟩:=HF.out _ (getD_mem hjx)
   generalize xs.getD j 0 = u at *
   have HNUM:=Lib.hid (fun w=>numbers_any u w k0 k1)
   clear hd1
   by_cases hk : 0 ≤ u ∧ u < 63
   ·obtain ⟨k,rfl⟩ : ∃ k : Nat,u = (k : Int):=⟨u.toNat,by omega⟩
    have hk63 : k < 63:=by omega
    have hk63' : (k : Int) < 63:=by omega
    rw [decide_eq_true hk] at HNUM
    have d3:=hS.out.cell hk63
    have d4:=hS.out.frozen k
    have HS2:=Lib.hid (hS.out.set hk63)
    rw [← HTK.out] at HS2
    clear hk k0 k1
    go_wp2_with fail
    refine (HNUM.out _).mono ?_
    rintro e w' ⟨rfl,rfl⟩
    clear d1
    go_wp2_with fail
    go_roundw
    case rel=>exact ⟨j + 1,by omega,by go_num,hB.out.setCell (Nat.le_refl _) _,HS2,Lib.hid (by simpa using hZ.out)⟩
    case measure=>simp [intOf];omega
   ·rw [decide_eq_false hk] at HNUM
    have HS2:=Lib.hid (seen_skip hS.out hk)
    rw [← HTK.out] at HS2
    clear hk
    go_wp2_with fail
    refine (HNUM.out _).mono ?_
    rintro e w' ⟨rfl,rfl⟩
    clear d1
    go_wp2_with fail
    go_roundw
    case rel=>exact ⟨j + 1,by omega,by go_num,hB,HS2,hZ⟩
    case measure=>simp [intOf];omega
  ·obtain rfl : j = len:=by omega
   have hx : xs.take j = xs:=List.take_of_length_le (by rw [HL.out];omega)
   rw [hx] at hS
   clear hx HC HF HN HBZ HSZ
   go_wp2_with fail
   refine (HCNT.out _).mono ?_
   rintro e w' ⟨rfl,rfl⟩
   clear HCNT
   go_wp2_with fail
   have HB1:=hB;have HS1:=hS;have HZ1:=hZ
   clear hB hS hZ
   go_loopw [8,23] (fun s i wq => ∃ (k m : Nat),k ≤ c ∧ i = .int .i64 (k : Int) ∧ m ≤ k ∧ Hid (m = (fre k xs).length) ∧ Hid (wq.ownsRow (w.heap.size + 1) 3 1 s m (cellsI (fre k xs))) ∧ Hid (Below w.heap.size w wq) ∧ Hid (SeenAt wq w.heap.size xs) ∧ Hid (w.heap.size + 1 ≤ wq.heap.size)) (fun _ i _=>c - (intOf i).toNat)
   case atStart=>exact ⟨0,0,Nat.zero_le _,rfl,by omega,rfl,World.ownsRow_nil _ _ _ _,HB1,HS1,HZ1⟩
   case round =>
    obtain ⟨k,m,hk,rfl,hm,hM,hO,hB,hS,hZ⟩:=hrel
    by_cases hkc : k < c
    ·have hk63 : k < 63:=by omega
     have hk63' : (k : Int) < 63:=by omega
     have d3:=hS.out.cell hk63
     by_cases hmem : (k : Int) ∈ xs
     ·rw [decide_eq_true hmem] at d3
      have HF2:=Lib.hid (fre_no hmem)
      clear hmem
      go_wp2_with fail
      go_roundw
      case rel=>exact ⟨k + 1,m,by omega,by go_num,by omega,by rw [HF2.out];exact hM,by rw [HF2.out];exact hO,hB,hS,hZ⟩
      case measure=>simp [intOf];omega
     ·rw [decide_eq_false hmem] at d3
      have HF2:=Lib.hid (fre_yes hmem)
      clear hmem
      obtain ⟨a3,c3,rfl⟩:=owns_slice' hO.out
      have HLT:=Lib.hid hO.out.lt
      go_wp2_with (at_builtin;refine append_int rfl (.tmp 30) (.tmp 32) rfl (w.heap.size + 1) wr (k : Int) (.slice a3 m c3) m (fre k xs) rfl hO.out rfl (by omega) hZ.out ?_)
      intro v2 w2 hown2 hgrow2
      have HB2:=Lib.hid ((hB.out.alloc hB.out.size _).grown hgrow2 (by have:=hB.out.size;simp;omega) (fun k hk=>by have:=(HLT.out k hk).1;omega))
      have HS2:=Lib.hid (seen_grown (seen_alloc (o:=.cells #[.int .i64 (k : Int)] 3) hS.out (by have:=hZ.out;omega)) hgrow2 (by have:=hZ.out;simp;omega) (fun e=>by have:=(HLT.out _ e).1;omega))
      have HZ2:=Lib.hid (show w.heap.size + 1 ≤ w2.heap.size by have:=hgrow2.size;have:=hZ.out;simp at *;omega)
      have HO2:=Lib.hid (owns_cast hown2 (m:=m + 1) (ys:=cellsI (fre (k + 1) xs)) rfl (by rw [HF2.out]))
      clear hown2 hgrow2 hO hB hS hZ
      go_wp2_with fail
      go_roundw
      case rel=>exact ⟨k + 1,m + 1,by omega,by go_num,by omega,by rw [HF2.out,List.length_append,← hM.out];trivial,HO2,HB2,HS2,HZ2⟩
      case measure=>simp [intOf];omega
    ·obtain rfl : k = c:=by omega
     have HEND:=Lib.hid (ints_out (Ints.owns_mono hO.out (Nat.le_succ _)) hM.out HFIT.out hB.out)
     clear hM hO hB hS hZ
     go_wp2_with fail
     go_ret
     exact HEND.out
end Go.Proofs.YtnnakhdndmjmiaaGreat.Disk
