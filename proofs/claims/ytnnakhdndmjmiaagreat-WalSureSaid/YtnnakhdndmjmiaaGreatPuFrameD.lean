import Derived.Test.YtnnakhdndmjmiaaGreatPuShelf
import Derived.Test.YtnnakhdndmjmiaaGreatPuFrameA
import Derived.BigQuiet
import Derived.BigRegion
import Derived.Lib.QuietBelow
set_option linter.unusedVariables false
set_option maxRecDepth 4000
set_option maxRecDepth 4000
namespace Go.Proofs.YtnnakhdndmjmiaaGreat.Frame
open Go.RowKit CrcP FrameP
def CutAt (w : World) (p : Nat) (r : ByteArray) : Prop:=w.heap[p]? = some (.cells #[.string r] 9 (0,0))
theorem CutAt.cell {w : World} {p : Nat} {r : ByteArray} (h : CutAt w p r) : w.cell? ⟨p,0,none⟩ = some (.string r):=by rw [cell_of_heap h];rfl
theorem CutAt.frozen {w : World} {p : Nat} {r : ByteArray} (h : CutAt w p r) : w.frozen? ⟨p,0,none⟩ = false:=frozen_of_heap h
theorem CutAt.lt {w : World} {p : Nat} {r : ByteArray} (h : CutAt w p r) : p < w.heap.size:=(Array.getElem?_eq_some_iff.1 h).1
theorem CutAt.set {w : World} {p : Nat} {r : ByteArray} (h : CutAt w p r) (t : ByteArray) : CutAt (w.setCell ⟨p,0,none⟩ (.string t)) p t:=Lib.heap_setCell_same (i:=0) h (.string t)
theorem CutAt.keep {w w' : World} {p : Nat} {r : ByteArray} (h : CutAt w p r) (hb : Below w.heap.size w w') : CutAt w' p r:=(hb.block p h.lt).trans h
structure Kept (p : Nat) (w w' : World) : Prop where
 below : Below p w w'
 other : ∀ j,j ≠ p → j < w.heap.size → w'.heap[j]? = w.heap[j]?
theorem Kept.refl (p : Nat) (w : World) : Kept p w w:=⟨Below.refl _ _,fun _ _ _=>rfl⟩
theorem Kept.trans {p : Nat} {a b c : World} (h : Kept p a b) (k : Kept p b c) : Kept p a c :=
 ⟨h.below.trans k.below,fun j hj hl=>(k.other j hj (Nat.lt_of_lt_of_le hl h.below.size)).trans (h.other j hj hl)⟩
theorem Kept.of {p : Nat} {w w' : World} (h : Below w.heap.size w w') (hp : p ≤ w.heap.size) : Kept p w w':=⟨h.mono hp,fun j _ hl=>h.block j hl⟩
theorem Kept.drew {p : Nat} {a w : World} (h : Kept p a w) : Kept p a w.drew:=⟨h.below.drew,h.other⟩
theorem Kept.set {p : Nat} {w : World} (v : Value) : Kept p w (w.setCell ⟨p,0,none⟩ v) :=
 ⟨(Below.refl p w).setCell (p:=⟨p,0,none⟩) (Nat.le_refl p) v,fun j hj _=>heap_setCell_other _ _ _ _ hj⟩
theorem cut_short (p n : Nat) (r : ByteArray) (w : World) (h : CutAt w p r) (hn : r.size < n) (hn2 : n ≤ 9223372036854775807) :
  Calls Tryz.prog 139 #[.int .i64 (n : Int),.pointer (some ⟨p,0,none⟩)] w fun e w'=>e = .returned (.tuple #[.string ⟨#[]⟩,.bool false]) ∧ w = w':=by
 have hc:=h.cell
 clear h
 go_enter Tryz.func139,Tryz.ntmps139
 go_wp2_with fail
 go_ret2
 exact ⟨rfl,rfl⟩
theorem cut_yes (p n : Nat) (r : ByteArray) (w : World) (h : CutAt w p r) (hn : n ≤ r.size) (hn2 : r.size ≤ 9223372036854775807) :
  Calls Tryz.prog 139 #[.int .i64 (n : Int),.pointer (some ⟨p,0,none⟩)] w fun e w'=>e = .returned (.tuple #[.string (r.extract 0 n),.bool true]) ∧ w' = w.setCell ⟨p,0,none⟩ (.string (r.extract n r.size)):=by
 have hc:=h.cell
 have hf:=h.frozen
 clear h
 go_enter Tryz.func139,Tryz.ntmps139
 go_wp2_with fail
 go_ret2
 exact ⟨rfl,rfl⟩
theorem clone_any (s : ByteArray) (w : World) (hs : s.size ≤ 281474976710656) :
  Calls Tryz.prog 171 #[.string s] w fun e w'=>e = .returned (.string s) ∧ Below w.heap.size w w':=by
 have h:=Tryz.stringslite_Clone s w hs
 have H:=Lib.hid h
 clear h
 go_enter Tryz.func171,Tryz.ntmps171
 go_wp2_with fail
 refine H.out.mono ?_
 rintro e w' ⟨rfl,hb⟩
 have HB:=Lib.hid hb
 clear hb
 go_wp2_with fail
 go_ret
 exact ⟨rfl,HB.out⟩
theorem i64_or_nat (a b : Nat) (ha : a < 9223372036854775808) (hb : b < 9223372036854775808) : bits .or .i64 (a : Int) (b : Int) = ((a ||| b : Nat) : Int):=by
 have hx : a ||| b < 2 ^ 63:=Nat.or_lt_two_pow (by omega) (by omega)
 show IntKind.i64.wrap ((BitVec.ofInt 64 (a : Int) ||| BitVec.ofInt 64 (b : Int)).toNat : Int) = _
 rw [BitVec.toNat_or,ofInt_u64 a (by omega),ofInt_u64 b (by omega)]
 simp only [IntKind.wrap,IntKind.bits,IntKind.signed]
 simp
 omega
theorem or_bytes (x c : UInt8) : bits .or .i64 ((x.toNat : Int) * 256) (c.toNat : Int) = ((256 * x.toNat + c.toNat : Nat) : Int):=by
 have h1:=x.toNat_lt
 have h3:=c.toNat_lt
 have h:=i64_or_nat (x.toNat * 256) c.toNat (by omega) (by omega)
 rw [Nat.mul_comm x.toNat,show (256 : Nat) = 2 ^ 8 from rfl,← Nat.two_pow_add_eq_or_of_lt (show c.toNat < 2 ^ 8 by omega)] at h
 rw [show (x.toNat : Int) * 256 = ((2 ^ 8 * x.toNat : Nat) : Int) by omega,h]
theorem ext_list (s : ByteArray) (i j : Nat) : (s.extract i j).data.toList = (s.data.toList.drop i).take (j - i):=by
 rw [ByteArray.data_extract,Array.toList_extract,List.extract_eq_take_drop]
theorem at_list (s : ByteArray) (i : Nat) (h : i < s.size) : s.data.toList.getD i 0 = s[i]:=by
 have h2 : i < s.data.toList.length:=by rw [len_list];exact h
 rw [List.getD,List.getElem?_eq_getElem h2];rfl
theorem take2_get (l : List UInt8) (i : Nat) (h : i < 2) : (l.take 2).getD i 0 = l.getD i 0:=by simp [List.getD,h]
def NextP (w : World) (p : Nat) (l : List UInt8) (e : Ending) (w' : World) : Prop :=
 e = .returned (.tuple #[.string (str (nx l).2.1),.int .i64 (nx l).1]) ∧ Kept p w w' ∧ ((nx l).1 = 0 → CutAt w' p (str (nx l).2.2))
theorem next_ret {w w' : World} {p : Nat} {l : List UInt8} {v : ByteArray} {e : Int} {r : List UInt8} (h : nx l = (e,v.data.toList,r)) (hk : Kept p w w') (hc : e = 0 → CutAt w' p (str r)) :
  NextP w p l (.returned (.tuple #[.string v,.int .i64 e])) w':=by
 unfold NextP
 rw [h]
 exact ⟨by rw [str_of],hk,hc⟩
theorem w64_byte (c : UInt8) : wrap64 (c.toNat : Int) = (c.toNat : Int):=by
 have h:=c.toNat_lt
 unfold wrap64
 omega
theorem w64_byte256 (c : UInt8) : wrap64 ((c.toNat : Int) * 256) = (c.toNat : Int) * 256:=by
 have h:=c.toNat_lt
 unfold wrap64
 omega
set_option maxHeartbeats 4000000 in
theorem next_any (p : Nat) (r : ByteArray) (w : World) (h : CutAt w p r) (hr : r.size ≤ 100000) :
  Calls Tryz.prog 140 #[.func (.func 139) #[] #[.pointer (some ⟨p,0,none⟩)]] w (NextP w p r.data.toList):=by
 have hl:=len_list r
 by_cases h2 : r.size < 2
 ·have K1:=Lib.hid (cut_short p 2 r w h h2 (by omega))
  have HN:=Lib.hid (nx_short (s:=r.data.toList) (by rw [hl];exact h2))
  have HK:=Lib.hid (Kept.refl p w)
  clear h hl
  go_enter Tryz.func140,Tryz.ntmps140
  go_wp2_with fail
  refine K1.out.mono ?_
  rintro e w' ⟨rfl,rfl⟩
  go_wp2_with fail
  go_ret2
  exact next_ret (v:=⟨#[]⟩) HN.out HK.out (fun e=>absurd e (by decide))
 ·have hc1:=cut_yes p 2 r w h (by omega) (by omega)
  obtain ⟨n,hn⟩ : ∃ n,len2 r.data.toList = n:=⟨_,rfl⟩
  obtain ⟨hh,hhh⟩ : ∃ hh,r.extract 0 2 = hh:=⟨_,rfl⟩
  obtain ⟨t,ht⟩ : ∃ t,r.extract 2 r.size = t:=⟨_,rfl⟩
  have hhs : hh.size = 2:=by rw [← hhh,ByteArray.size_extract];omega
  have hts : t.size = r.size - 2:=by rw [← ht,ByteArray.size_extract];omega
  have htl : t.data.toList = r.data.toList.drop 2:=by rw [← ht,ext_list,List.take_of_length_le];rw [List.length_drop,hl];exact Nat.le_refl _
  have hhl : hh.data.toList = r.data.toList.take 2:=by rw [← hhh,ext_list,List.drop_zero]
  have hor : bits .or .i64 (((hh[0]'(by omega)).toNat : Int) * 256) ((hh[1]'(by omega)).toNat : Int) = (n : Int):=by
   rw [or_bytes,← hn,← at_list hh 0 (by omega),← at_list hh 1 (by omega),hhl,take2_get _ 0 (by decide),take2_get _ 1 (by decide)]
   rfl
  have hn16 : n < 65536:=by
   rw [← hn];unfold len2
   have h1:=(r.data.toList.getD 0 0).toNat_lt
   have h3:=(r.data.toList.getD 1 0).toNat_lt
   omega
  rw [hhh,ht] at hc1
  have HC1:=Lib.hid hc1
  have hcut:=h.set t
  have hkt:=Kept.set (p:=p) (w:=w) (.string t)
  have HCUT:=Lib.hid hcut;have HKT:=Lib.hid hkt;have HOR:=Lib.hid hor;have HL:=Lib.hid hl;have HTL:=Lib.hid htl;have HN:=Lib.hid hn
  clear hc1 hcut hkt hn hhh ht hhl htl hl h hor
  by_cases hf : 1 ≤ n ∧ n ≤ 4096
  ·have hfit:=fun W=>fits_any n W (by omega)
   rw [decide_eq_true hf] at hfit
   have HFIT:=Lib.hid hfit
   clear hfit
   by_cases h3 : r.size < 6 + n
   ·have HNX:=Lib.hid (nx_less (s:=r.data.toList) (by rw [HL.out];omega) (by rw [HN.out];exact hf) (by rw [HN.out,HL.out];exact h3))
    have K2 : Hid (∀ W,CutAt W p t → Calls Tryz.prog 139 #[.int .i64 ((4 + n : Nat) : Int),.pointer (some ⟨p,0,none⟩)] W fun e w'=>e = .returned (.tuple #[.string ⟨#[]⟩,.bool false]) ∧ W = w'):=fun W hW=>cut_short p (4 + n) t W hW (by omega) (by omega)
    obtain ⟨n4,hn4⟩ : ∃ n4,4 + n = n4:=⟨_,rfl⟩
    have hw4 : IntKind.i64.wrap (4 + (n : Int)) = (n4 : Int):=by rw [IntWalk.i64_in] <;> omega
    rw [hn4] at K2
    have HW4:=Lib.hid hw4
    clear hw4 hn4
    go_enter Tryz.func140,Tryz.ntmps140
    go_wp2_with fail
    refine HC1.out.mono ?_
    rintro e w' ⟨rfl,rfl⟩
    generalize w.setCell ⟨p,0,none⟩ (.string t) = w1 at *
    go_wp2_with fail
    have hor:=HOR.out
    have hw0:=w64_byte (hh[0]'(by omega))
    have hw1:=w64_byte (hh[1]'(by omega))
    have hw2:=w64_byte256 (hh[0]'(by omega))
    go_region
    all_goals
     clear hor hw0 hw1 hw2
     go_wp2_with fail
     refine (HFIT.out _).mono ?_
     rintro e w' ⟨rfl,rfl⟩
     have hw4:=HW4.out
     go_wp2_with fail
     refine (K2.out w1.drew HCUT.out).mono ?_
     rintro e w' ⟨rfl,rfl⟩
     go_wp2_with fail
     go_ret2
     exact next_ret (v:=⟨#[]⟩) HNX.out HKT.out.drew (fun e=>absurd e (by decide))
   ·obtain ⟨q,hq⟩ : ∃ q,t.extract 0 (4 + n) = q:=⟨_,rfl⟩
    obtain ⟨u,hu⟩ : ∃ u,t.extract (4 + n) t.size = u:=⟨_,rfl⟩
    obtain ⟨x,hx⟩ : ∃ x,q.extract 4 q.size = x:=⟨_,rfl⟩
    obtain ⟨y,hy⟩ : ∃ y,q.extract 0 4 = y:=⟨_,rfl⟩
    have hqs : q.size = 4 + n:=by rw [← hq,ByteArray.size_extract];omega
    have hxs : x.size = n:=by rw [← hx,ByteArray.size_extract];omega
    have hxl : x.data.toList = (r.data.toList.drop 6).take n:=by
     rw [← hx,ext_list,hqs,← hq,ext_list,HTL.out,List.drop_zero,Nat.sub_zero,List.drop_take,List.drop_drop,List.take_take,show min (4 + n - 4) (4 + n - 4) = n by omega]
    have hyl : y.data.toList = (r.data.toList.drop 2).take 4:=by
     rw [← hy,ext_list,← hq,ext_list,HTL.out,List.drop_zero,List.drop_zero,List.take_take]
     congr 1
     omega
    have hul : u.data.toList = r.data.toList.drop (6 + n):=by
     rw [← hu,ext_list,HTL.out,List.drop_drop,List.take_of_length_le (by rw [List.length_drop,HL.out];omega),show 2 + (4 + n) = 6 + n by omega]
    have K2 : Hid (∀ W,CutAt W p t → Calls Tryz.prog 139 #[.int .i64 ((4 + n : Nat) : Int),.pointer (some ⟨p,0,none⟩)] W fun e w'=>e = .returned (.tuple #[.string q,.bool true]) ∧ w' = W.setCell ⟨p,0,none⟩ (.string u)):=fun W hW=>by
     rw [← hq,← hu]
     exact cut_yes p (4 + n) t W hW (by omega) (by omega)
    obtain ⟨n4,hn4⟩ : ∃ n4,4 + n = n4:=⟨_,rfl⟩
    have hw4 : IntKind.i64.wrap (4 + (n : Int)) = (n4 : Int):=by rw [IntWalk.i64_in] <;> omega
    rw [hn4] at K2
    have hsum:=fun W=>sum_of x W (by omega)
    obtain ⟨c,hc⟩ : ∃ c,str (cs x.data.toList) = c:=⟨_,rfl⟩
    rw [hc] at hsum
    have HW4:=Lib.hid hw4;have HSUM:=Lib.hid hsum;have HCL:=Lib.hid (clone_any x)
    by_cases hyc : y = c
    ·have HNX : Hid (nx r.data.toList = (0,x.data.toList,u.data.toList)):=by
      rw [hxl,hul]
      have h1:=nx_yes (s:=r.data.toList) (by rw [HN.out];exact hf) (by rw [HN.out,HL.out];omega) (by rw [HN.out,← hyl,← hxl,hyc,← hc,str_list])
      rw [HN.out] at h1
      exact h1
     subst hyc
     have hq4 : 4 ≤ q.size:=by omega
     have hq5 : q.size ≤ 100000:=by omega
     have hq6 : (4 : Int) ≤ (q.size : Int):=by omega
     clear hw4 hn4 hsum hq hu hxl hyl hul hc hqs
     go_enter Tryz.func140,Tryz.ntmps140
     go_wp2_with fail
     refine HC1.out.mono ?_
     rintro e w' ⟨rfl,rfl⟩
     generalize w.setCell ⟨p,0,none⟩ (.string t) = w1 at *
     go_wp2_with fail
     have hor:=HOR.out
     have hw0:=w64_byte (hh[0]'(by omega))
     have hw1:=w64_byte (hh[1]'(by omega))
     have hw2:=w64_byte256 (hh[0]'(by omega))
     go_region
     all_goals
      clear hor hw0 hw1 hw2
      go_wp2_with fail
      refine (HFIT.out _).mono ?_
      rintro e w' ⟨rfl,rfl⟩
      have hw4:=HW4.out
      go_wp2_with fail
      refine (K2.out w1.drew HCUT.out).mono ?_
      rintro e w' ⟨rfl,rfl⟩
      have HK2:=Lib.hid (HKT.out.drew.trans (Kept.set (p:=p) (w:=w1.drew) (.string u)))
      have HC2 : Hid (CutAt (w1.drew.setCell ⟨p,0,none⟩ (.string u)) p u):=CutAt.set (w:=w1.drew) HCUT.out u
      generalize w1.drew.setCell ⟨p,0,none⟩ (.string u) = w2 at *
      go_wp2_with fail
      have k1 : ∀ d os,Calls Tryz.prog 109 #[.string x] (Sort.grow (redrawn w2 d) os) fun e w''=>e = .returned (.string y) ∧ ∃ p : Regrown,w'' = Sort.grow (redrawn w2 p.d) p.os:=fun d os=>Calls.regrown_of (HSUM.out _)
      have K1:=Lib.hid k1
      have HK3:=Lib.hid (fun dq osq=>HK2.out.trans (Kept.of (p:=p) (below_regrown w2 dq osq) (Nat.le_of_lt HC2.out.lt)))
      clear k1
      refine wp_region_quiet_below (by kernel_rfl) (by kernel_rfl) ?_
      repeat (quiet_step (first | with_reducible exact K1.out _ _))
      refine wpQuiet_nil ?_
      intro _ hw'
      obtain ⟨⟨dq,osq⟩,hw''⟩:=hw'
      subst hw''
      have HC3 : Hid (CutAt (Sort.grow (redrawn w2 dq) osq) p u):=HC2.out.keep (below_regrown w2 dq osq)
      have HK4:=Lib.hid (HK3.out dq osq)
      clear HK3 K1
      generalize Sort.grow (redrawn w2 dq) osq = w3 at *
      go_wp2_with fail
      refine (HCL.out _ (by omega)).mono ?_
      rintro e w4 ⟨rfl,hb4⟩
      have HC5:=Lib.hid (HC3.out.keep hb4)
      have HK5:=Lib.hid (HK4.out.trans (Kept.of (p:=p) hb4 (Nat.le_of_lt HC3.out.lt)))
      clear hb4
      go_wp2_with fail
      go_ret2
      exact next_ret HNX.out HK5.out (fun _=>by rw [str_of];exact HC5.out)
    ·have HNX:=Lib.hid (nx_bad (s:=r.data.toList) (by rw [HN.out];exact hf) (by rw [HN.out,HL.out];omega) (by rw [HN.out,← hyl,← hxl];intro e;exact hyc (by rw [← str_of y,e,hc])))
     have hne : (y.toList == c.toList) = false:=beq_eq_false_iff_ne.2 (fun e=>hyc (by rw [← str_of y,← str_of c,← ByteArray.toList_eq,← ByteArray.toList_eq,e]))
     have hq4 : 4 ≤ q.size:=by omega
     have hq5 : q.size ≤ 100000:=by omega
     have hq6 : (4 : Int) ≤ (q.size : Int):=by omega
     clear hw4 hn4 hsum hq hu hxl hyl hul hc hyc hqs
     go_enter Tryz.func140,Tryz.ntmps140
     go_wp2_with fail
     refine HC1.out.mono ?_
     rintro e w' ⟨rfl,rfl⟩
     generalize w.setCell ⟨p,0,none⟩ (.string t) = w1 at *
     go_wp2_with fail
     have hor:=HOR.out
     have hw0:=w64_byte (hh[0]'(by omega))
     have hw1:=w64_byte (hh[1]'(by omega))
     have hw2:=w64_byte256 (hh[0]'(by omega))
     go_region
     all_goals
      clear hor hw0 hw1 hw2
      go_wp2_with fail
      refine (HFIT.out _).mono ?_
      rintro e w' ⟨rfl,rfl⟩
      have hw4:=HW4.out
      go_wp2_with fail
      refine (K2.out w1.drew HCUT.out).mono ?_
      rintro e w' ⟨rfl,rfl⟩
      have HK2:=Lib.hid (HKT.out.drew.trans (Kept.set (p:=p) (w:=w1.drew) (.string u)))
      have HC2 : Hid (CutAt (w1.drew.setCell ⟨p,0,none⟩ (.string u)) p u):=CutAt.set (w:=w1.drew) HCUT.out u
      generalize w1.drew.setCell ⟨p,0,none⟩ (.string u) = w2 at *
      go_wp2_with fail
      have k1 : ∀ d os,Calls Tryz.prog 109 #[.string x] (Sort.grow (redrawn w2 d) os) fun e w''=>e = .returned (.string c) ∧ ∃ p : Regrown,w'' = Sort.grow (redrawn w2 p.d) p.os:=fun d os=>Calls.regrown_of (HSUM.out _)
      have K1:=Lib.hid k1
      have HK3:=Lib.hid (fun dq osq=>HK2.out.trans (Kept.of (p:=p) (below_regrown w2 dq osq) (Nat.le_of_lt HC2.out.lt)))
      clear k1
      refine wp_region_quiet_below (by kernel_rfl) (by kernel_rfl) ?_
      repeat (quiet_step (first | with_reducible exact K1.out _ _))
      refine wpQuiet_nil ?_
      intro _ hw'
      obtain ⟨⟨dq,osq⟩,hw''⟩:=hw'
      subst hw''
      have HC3 : Hid (CutAt (Sort.grow (redrawn w2 dq) osq) p u):=HC2.out.keep (below_regrown w2 dq osq)
      have HK4:=Lib.hid (HK3.out dq osq)
      clear HK3 K1
      generalize Sort.grow (redrawn w2 dq) osq = w3 at *
      go_wp2_with fail
      go_ret2
      exact next_ret (v:=⟨#[]⟩) HNX.out HK4.out (fun e=>absurd e (by decide))
  ·have hfit:=fun W=>fits_any n W (by omega)
   rw [decide_eq_false hf] at hfit
   have HNX:=Lib.hid (nx_form (s:=r.data.toList) (by rw [HL.out];omega) (by rw [HN.out];exact hf))
   have HFIT:=Lib.hid hfit
   clear hfit
   go_enter Tryz.func140,Tryz.ntmps140
   go_wp2_with fail
   refine HC1.out.mono ?_
   rintro e w' ⟨rfl,rfl⟩
   generalize w.setCell ⟨p,0,none⟩ (.string t) = w1 at *
   go_wp2_with fail
   have hor:=HOR.out
   have hw0:=w64_byte (hh[0]'(by omega))
   have hw1:=w64_byte (hh[1]'(by omega))
   have hw2:=w64_byte256 (hh[0]'(by omega))
   go_region
   all_goals
    clear hor hw0 hw1 hw2
    go_wp2_with fail
    refine (HFIT.out _).mono ?_
    rintro e w' ⟨rfl,rfl⟩
    go_wp2_with fail
    go_ret2
    exact next_ret (v:=⟨#[]⟩) HNX.out HKT.out.drew (fun e=>absurd e (by decide))
end Go.Proofs.YtnnakhdndmjmiaaGreat.Frame
