import Derived.Test.YtnnakhdndmjmiaaGreatPuSuperPlain
import Derived.Test.YtnnakhdndmjmiaaGreatPuStampF
import Derived.Test.YtnnakhdndmjmiaaGreatPuWireK
import Derived.BigRegion
import Derived.BigQuiet
set_option linter.unusedVariables false
set_option maxRecDepth 4000
set_option maxRecDepth 4000
namespace Go.Proofs.YtnnakhdndmjmiaaGreat
open Go.RowKit SuperP
open Wire (IntsAt getD_mem take_snoc)
def supV (x : Sup) (p q : Value) : Value:=.agg #[.int .i64 x.gen,.int .i64 x.base,.int .i64 x.size,.int .i64 x.cg,p,q]
structure SupAt (w : World) (x : Sup) (a1 : Option Addr) (l1 : Nat) (a2 : Option Addr) (l2 : Nat) : Prop where
 chk : IntsAt w a1 l1 x.chk
 log : IntsAt w a2 l2 x.log
 big1 : l1 ≤ 9223372036854775807
 big2 : l2 ≤ 9223372036854775807
theorem SupAt.keep {w w' : World} {x : Sup} {a1 a2 : Option Addr} {l1 l2 : Nat} (h : SupAt w x a1 l1 a2 l2) (hb : Below w.heap.size w w') : SupAt w' x a1 l1 a2 l2:=⟨h.chk.keep hb,h.log.keep hb,h.big1,h.big2⟩
theorem six_cells {w : World} {v0 v1 v2 v3 v4 v5 : Value} {b : Nat} (h : w.heap[b]? = some (.cells #[v0,v1,v2,v3,v4,v5] 69 (0,0))) :
  w.cell? ⟨b,0,none⟩ = some v0 ∧ w.cell? ⟨b,1,none⟩ = some v1 ∧ w.cell? ⟨b,2,none⟩ = some v2 ∧ w.cell? ⟨b,3,none⟩ = some v3 ∧ w.cell? ⟨b,4,none⟩ = some v4 ∧ w.cell? ⟨b,5,none⟩ = some v5:=by
 refine ⟨?_,?_,?_,?_,?_,?_⟩ <;> (rw [Wire.cell_of_heap h];rfl)
def slot (n : Int) : Int:=if n % 2 = 0 then 0 else 1
theorem slot_any (n : Int) (w : World) (h0 : -9223372036854775808 ≤ n) (h1 : n ≤ 9223372036854775807) :
  Calls Tryz.prog 112 #[.int .i64 n] w fun e w'=>e = .returned (.int .i64 (slot n)) ∧ w = w':=by
 unfold slot
 have ht : n.tmod 2 = 0 ↔ n % 2 = 0:=Int.dvd_iff_tmod_eq_zero.symm.trans Int.dvd_iff_emod_eq_zero
 by_cases h : n % 2 = 0
 ·rw [if_pos h]
  have h2 : (n.tmod 2 == 0) = true:=by simpa using ht.2 h
  go_enter Tryz.func112,Tryz.ntmps112
  go_wp2
  go_ret
  exact ⟨rfl,rfl⟩
 ·rw [if_neg h]
  have h2 : (n.tmod 2 == 0) = false:=by simpa using fun e=>h (ht.1 e)
  go_enter Tryz.func112,Tryz.ntmps112
  go_wp2
  go_ret
  exact ⟨rfl,rfl⟩
end Go.Proofs.YtnnakhdndmjmiaaGreat
/-
 The contracts of both Sames: two superblocks.
-/
set_option linter.unusedVariables false
set_option maxRecDepth 4000
set_option maxRecDepth 4000
namespace Go.Proofs.YtnnakhdndmjmiaaGreat
open Go.RowKit SuperP
open Wire (IntsAt getD_mem take_snoc)
theorem sup_ext {x y : Sup} (h : x.gen = y.gen ∧ x.base = y.base ∧ x.size = y.size ∧ x.cg = y.cg ∧ x.chk = y.chk ∧ x.log = y.log) : x = y:=by
 cases x;cases y;simp_all
instance : DecidableEq Sup:=fun x y=>decidable_of_decidable_of_iff (p:=x.gen = y.gen ∧ x.base = y.base ∧ x.size = y.size ∧ x.cg = y.cg ∧ x.chk = y.chk ∧ x.log = y.log) ⟨sup_ext,fun e=>by rw [e];exact ⟨rfl,rfl,rfl,rfl,rfl,rfl⟩⟩
theorem keep_two {w : World} {a : Option Addr} {l : Nat} {xs : List Int} (h : IntsAt w a l xs) (b1 b2 : Obj) : IntsAt ((w.alloc b1).alloc b2) a l xs:=h.keep (((Below.refl _ w).alloc (Nat.le_refl _) _).alloc (by simp) _)
end Go.Proofs.YtnnakhdndmjmiaaGreat
/-
 The contracts of the document's apart,and of distinct: whether numbers are segments',none there twice.
-/
set_option linter.unusedVariables false
set_option maxRecDepth 4000
set_option maxRecDepth 4000
namespace Go.Proofs.YtnnakhdndmjmiaaGreat
open Go.RowKit SuperP
open Wire (IntsAt getD_mem take_snoc)
theorem segs_nil : Segs []:=⟨by simp,List.nodup_nil⟩
theorem segs_step {pre : List Int} {n : Int} (h : Segs pre) (h0 : 0 ≤ n) (h1 : n < 63) (hn : ¬ n ∈ pre) : Segs (pre ++ [n]):=by
 refine ⟨fun m hm=>?_,?_⟩
 ·rcases List.mem_append.1 hm with g | g
  ·exact h.1 m g
  ·rw [List.mem_singleton.1 g];exact ⟨h0,h1⟩
 ·rw [List.nodup_append]
  refine ⟨h.2,by simp,fun a ha b hb e=>?_⟩
  rw [List.mem_singleton.1 hb] at e
  exact hn (e ▸ ha)
theorem segs_stop {pre rest l : List Int} {n : Int} (hl : l = (pre ++ [n]) ++ rest) (h : n < 0 ∨ 63 ≤ n ∨ n ∈ pre) : ¬ Segs l:=by
 rintro ⟨h1,h2⟩
 have hm:=h1 n (by rw [hl];simp)
 rcases h with h | h | h
 ·omega
 ·omega
 ·rw [hl,List.nodup_append,List.nodup_append] at h2
  exact h2.1.2.2 n h n (by simp) rfl
theorem ints_take {w : World} {b off len k : Nat} {xs : List Int} (h : IntsAt w (some ⟨b,off,none⟩) len xs) (hk : k ≤ len) : IntsAt w (some ⟨b,off,none⟩) k (xs.take k):=by
 refine ⟨by rw [List.length_take,h.1];omega,fun x hx=>h.2.1 x (List.mem_of_mem_take hx),?_⟩
 by_cases h0 : k = 0
 ·exact .inl h0
 rcases h.2.2 with g | ⟨b2,o2,e,hb,hc⟩
 ·omega
 ·simp only [Option.some.injEq,Addr.mk.injEq,and_true] at e
  obtain ⟨rfl,rfl⟩:=e
  refine .inr ⟨b,off,rfl,hb,fun i hi=>?_⟩
  rw [hc i (by omega),List.getD_eq_getElem?_getD,List.getD_eq_getElem?_getD,List.getElem?_take_of_lt hi]
theorem whole_at {xs : List Int} {k : Nat} (h : k < xs.length) : xs = (xs.take k ++ [xs.getD k 0]) ++ xs.drop (k + 1):=by
 rw [← take_snoc xs k h,List.take_append_drop]
end Go.Proofs.YtnnakhdndmjmiaaGreat
/-
 The contract of distinct: two lists of any numbers.
-/
set_option linter.unusedVariables false
set_option maxRecDepth 4000
set_option maxRecDepth 4000
namespace Go.Proofs.YtnnakhdndmjmiaaGreat
open Go.RowKit SuperP
open Wire (IntsAt getD_mem take_snoc)
def SeenAt (w : World) (b : Nat) (pre : List Int) : Prop := ∃ cur : Array Value,w.heap[b]? = some (.cells cur 193 (0,0)) ∧ cur.size = 63 ∧ ∀ i : Nat,i < 63 → cur[i]? = some (.bool (decide ((i : Int) ∈ pre)))
theorem SeenAt.cell {w : World} {b : Nat} {pre : List Int} (h : SeenAt w b pre) {i : Nat} (hi : i < 63) : w.cell? ⟨b,i,none⟩ = some (.bool (decide ((i : Int) ∈ pre))):=by
 obtain ⟨cur,h1,h2,h3⟩:=h
 rw [Wire.cell_of_heap h1];exact h3 i hi
theorem SeenAt.frozen {w : World} {b : Nat} {pre : List Int} (h : SeenAt w b pre) (i : Nat) : w.frozen? ⟨b,i,none⟩ = false:=by
 obtain ⟨cur,h1,h2,h3⟩:=h
 exact Wire.frozen_of_heap h1
theorem SeenAt.set {w : World} {b : Nat} {pre : List Int} (h : SeenAt w b pre) {i : Nat} (hi : i < 63) : SeenAt (w.setCell ⟨b,i,none⟩ (.bool true)) b (pre ++ [(i : Int)]):=by
 obtain ⟨cur,h1,h2,h3⟩:=h
 refine ⟨_,Lib.heap_setCell_same (i:=i) h1 _,by simp [h2],fun j hj=>?_⟩
 rw [Array.getElem?_setIfInBounds]
 by_cases hij : i = j
 ·subst hij
  rw [if_pos rfl,if_pos (by omega)]
  simp
 ·rw [if_neg hij,h3 j hj]
  have : ¬ ((j : Int) = (i : Int)):=by omega
  simp [this]
def seen0 : Array Value:=Array.replicate 63 (.bool false)
theorem zero_seen (w : World) : (zeroValue 193).run Tryz.prog w = .ok (.agg seen0) w:=by kernel_rfl
theorem seen_new (w : World) : SeenAt (w.alloc (.cells seen0 193)) w.heap.size []:=by
 refine ⟨seen0,heap_alloc_new w _,by simp [seen0],fun i hi=>?_⟩
 unfold seen0
 rw [Array.getElem?_replicate,if_pos hi]
 simp
def pre2 (xs ys : List Int) (j : Nat) : List Int:=if j = 0 then [] else if j = 1 then xs else xs ++ ys
set_option maxHeartbeats 2000000 in
theorem distinct_any (bl off cp : Nat) (a1 a2 : Option Addr) (l1 c1 l2 c2 : Nat) (xs ys : List Int) (w : World) (hbl : bl < w.heap.size) (k1 : w.cell? ⟨bl,off,none⟩ = some (.slice a1 l1 c1)) (k2 : w.cell? ⟨bl,off + 1,none⟩ = some (.slice a2 l2 c2))
  (h1 : IntsAt w a1 l1 xs) (h2 : IntsAt w a2 l2 ys) (hl1 : l1 ≤ 1000000) (hl2 : l2 ≤ 1000000) :
  Calls Tryz.prog 173 #[.slice (some ⟨bl,off,none⟩) 2 cp] w fun e w'=>e = .returned (.bool (decide (Segs (xs ++ ys)))) ∧ Below w.heap.size w w':=by
 have hJ : ∀ j : Nat,j < 2 → ∃ a l c zs rest,w.cell? ⟨bl,off + j,none⟩ = some (.slice a l c) ∧ IntsAt w a l zs ∧ l ≤ 1000000 ∧ pre2 xs ys (j + 1) = pre2 xs ys j ++ zs ∧ xs ++ ys = (pre2 xs ys j ++ zs) ++ rest:=by
  intro j hj
  rcases (by omega : j = 0 ∨ j = 1) with rfl | rfl
  ·exact ⟨a1,l1,c1,xs,ys,k1,h1,hl1,rfl,rfl⟩
  ·exact ⟨a2,l2,c2,ys,[],k2,h2,hl2,rfl,by simp [pre2]⟩
 have hlast : pre2 xs ys 2 = xs ++ ys:=rfl
 have hz:=zero_seen
 have hn:=seen_new w
 have hbz : Below w.heap.size w (w.alloc (.cells seen0 193)):=(Below.refl _ w).alloc (Nat.le_refl _) _
 obtain ⟨R,hR⟩ : ∃ R,decide (Segs (xs ++ ys)) = R:=⟨_,rfl⟩
 rw [hR]
 have HJ:=Lib.hid hJ;have HLAST:=Lib.hid hlast;have HN:=Lib.hid hn;have HR:=Lib.hid hR;have HBZ:=Lib.hid hbz
 clear hJ hlast hn hR h1 h2 k1 k2 hbz
 generalize seen0 = s0 at *
 go_enter Tryz.func173,Tryz.ntmps173
 go_wp2_with fail
 clear hz
 go_loopw [10] (fun i wr => ∃ j : Nat,j ≤ 2 ∧ i = .int .i64 (j : Int) ∧ Hid (Below w.heap.size w wr) ∧ Hid (SeenAt wr w.heap.size (pre2 xs ys j)) ∧ Hid (Segs (pre2 xs ys j))) (fun i _=>2 - (intOf i).toNat)
 case atStart=>exact ⟨0,by omega,rfl,HBZ.out,HN.out,segs_nil⟩
 case round =>
  obtain ⟨j,hj,rfl,hB,hS,hT⟩:=hrel
  by_cases hlt : j < 2
  ·obtain ⟨a,l,c,zs,rest,d0,hI,hl,hP,hW⟩:=HJ.out j hlt
   have d1:=(hB.out.cell (p:=⟨bl,off + j,none⟩) hbl).trans d0
   have HL:=Lib.hid hI.1;have HC:=Lib.hid hI.2.2;have HP:=Lib.hid hP;have HW:=Lib.hid hW
   generalize pre2 xs ys j = pre at *
   clear d0 hI hP hW
   go_wp2_with fail
   go_loopw [16] (fun i wq => ∃ k : Nat,k ≤ l ∧ i = .int .i64 (k : Int) ∧ Hid (Below w.heap.size w wq) ∧ Hid (SeenAt wq w.heap.size (pre ++ zs.take k)) ∧ Hid (Segs (pre ++ zs.take k))) (fun i _=>l - (intOf i).toNat)
   case atStart=>exact ⟨0,Nat.zero_le _,rfl,hB.out,by show SeenAt _ _ (pre ++ List.take 0 zs);simpa using hS.out,by show Segs (pre ++ List.take 0 zs);simpa using hT.out⟩
   case round =>
    clear hB hS hT d1
    obtain ⟨k,hk,rfl,hB,hS,hT⟩:=hrel
    by_cases hkl : k < l
    ·obtain ⟨b,o2,rfl,hb,hd⟩:=HC.out.resolve_left (by omega)
     have hkx : k < zs.length:=by rw [HL.out];exact hkl
     have d2:=(hB.out.cell (p:=⟨b,o2 + k,none⟩) hb).trans (hd k hkl)
     have hst:=fun h0 h1 hn=>segs_step hT.out (n:=zs.getD k 0) h0 h1 hn
     rw [List.append_assoc,← take_snoc zs k hkx] at hst
     have hno:=segs_stop (n:=zs.getD k 0) (pre:=pre ++ zs.take k) (rest:=zs.drop (k + 1) ++ rest) (l:=xs ++ ys) (by
      rw [HW.out]
      conv=>lhs;rw [whole_at hkx]
      simp only [List.append_assoc])
     have hset : ∀ i : Nat,i < 63 → (i : Int) = zs.getD k 0 → SeenAt (wr.setCell ⟨w.heap.size,i,none⟩ (.bool true)) w.heap.size (pre ++ zs.take (k + 1)):=fun i hi e=>by
      have:=hS.out.set hi
      rw [e,List.append_assoc,← take_snoc zs k hkx] at this
      exact this
     have HSET:=Lib.hid hset;have HST:=Lib.hid hst;have HNO:=Lib.hid hno
     generalize zs.getD k 0 = u at *
     clear hset hst hno hd hT HC
     by_cases u0 : u < 0
     ·have hRf : R = false:=by rw [← HR.out];exact decide_eq_false (HNO.out (.inl u0))
      have t0 : decide (u < 0) = true:=decide_eq_true u0
      have HRF:=Lib.hid hRf
      clear hRf
      go_wp2_with fail
      go_ret
      exact ⟨by rw [HRF.out];rfl,hB.out⟩
     have t0 : decide (u < 0) = false:=decide_eq_false u0
     by_cases u1 : 63 ≤ u
     ·have hRf : R = false:=by rw [← HR.out];exact decide_eq_false (HNO.out (.inr (.inl u1)))
      have t1 : decide (63 ≤ u) = true:=decide_eq_true u1
      have HRF:=Lib.hid hRf
      clear hRf
      go_wp2_with fail
      go_ret
      exact ⟨by rw [HRF.out];rfl,hB.out⟩
     clear t0
     obtain ⟨i,rfl⟩ : ∃ i : Nat,u = (i : Int):=⟨u.toNat,by omega⟩
     have i1 : i < 63:=by omega
     have i2 : (i : Int) < 63:=by omega
     have t0 : decide ((i : Int) < 0) = false:=by simp
     have t1 : decide (63 ≤ (i : Int)) = false:=by simp;omega
     have d3:=hS.out.cell i1
     have d4:=hS.out.frozen i
     clear u0 u1
     by_cases hm : (i : Int) ∈ pre ++ zs.take k
     ·have hRf : R = false:=by rw [← HR.out];exact decide_eq_false (HNO.out (.inr (.inr hm)))
      rw [decide_eq_true hm] at d3
      have HRF:=Lib.hid hRf
      clear hRf hm
      go_wp2_with fail
      go_ret
      exact ⟨by rw [HRF.out];rfl,hB.out⟩
     ·have HSEG:=Lib.hid (HST.out (by omega) (by omega) hm)
      have HSA:=Lib.hid (HSET.out i i1 rfl)
      have HBS:=Lib.hid (hB.out.setCell (p:=⟨w.heap.size,i,none⟩) (Nat.le_refl _) (.bool true))
      rw [decide_eq_false hm] at d3
      clear hm HSET HST HNO
      go_wp2_with fail
      go_roundw
      case rel=>exact ⟨k + 1,by omega,by go_num,HBS,HSA,HSEG⟩
      case measure=>simp [intOf];omega
    ·have e : zs.take k = zs:=List.take_of_length_le (by rw [HL.out];omega)
     rw [e,← HP.out] at hS hT
     have hS':=Lib.hid hS.out;have hT':=Lib.hid hT.out
     clear e hS hT
     go_wp2_with fail
     go_roundw
     case rel=>exact ⟨j + 1,by omega,by go_num,hB,hS',hT'⟩
     case measure=>simp [intOf];omega
  ·obtain rfl : j = 2:=by omega
   have hend : R = true:=by
    rw [← HR.out]
    have:=hT.out
    rw [HLAST.out] at this
    exact decide_eq_true this
   have HE:=Lib.hid hend
   clear hend hT
   go_wp2_with fail
   go_ret
   exact ⟨by rw [HE.out];rfl,hB.out⟩
end Go.Proofs.YtnnakhdndmjmiaaGreat
/-
 The contracts of checked,and of the program's Fit.
-/
set_option linter.unusedVariables false
set_option maxRecDepth 4000
set_option maxRecDepth 4000
namespace Go.Proofs.YtnnakhdndmjmiaaGreat
open Go.RowKit SuperP
open Wire (IntsAt getD_mem take_snoc)
theorem cells_second {w : World} {A B : Array Value} {t u : TypeId} : ((w.alloc (.cells A t)).alloc (.cells B u)).heap[w.heap.size + 1]? = some (.cells B u (0,0)):=by
 have h3:=heap_alloc_new (w.alloc (.cells A t)) (.cells B u)
 rw [World.size_alloc] at h3
 exact h3
theorem fit_parts {x : Sup} (h : Fit x) : (1 ≤ x.gen ∧ x.gen ≤ 1099511627776 ∧ 0 ≤ x.base ∧ x.base ≤ 1099511627776 ∧ 0 ≤ x.cg ∧ x.cg ≤ x.gen) ∧ 0 < x.log.length ∧ Segs (x.chk ++ x.log) ∧ x.chk.length ≤ 63 ∧ x.log.length ≤ 63:=by
 unfold Fit most at h
 obtain ⟨c1,c2,⟨g1,g2,g3,g4,g5,g6,g7,g8⟩,g9⟩:=h
 exact ⟨⟨g1,g2,g3,g4,g5,g6⟩,g7,g8,c1,c2⟩
def chkB (x : Sup) : Bool:=if x.chk.length = 0 then decide (x.cg = 0) && decide (x.size = 0) else decide (0 < x.cg) && (decide (0 ≤ x.size) && decide (x.size ≤ x.chk.length * 832))
theorem fit_chk {x : Sup} (g : 1 ≤ x.gen ∧ x.gen ≤ 1099511627776 ∧ 0 ≤ x.base ∧ x.base ≤ 1099511627776 ∧ 0 ≤ x.cg ∧ x.cg ≤ x.gen) (hl : 0 < x.log.length) (hs : Segs (x.chk ++ x.log)) : decide (Fit x) = chkB x:=by
 have hn:=segs_len hs
 rw [List.length_append] at hn
 unfold chkB
 by_cases h0 : x.chk.length = 0
 ·rw [if_pos h0]
  by_cases h1 : x.cg = 0 ∧ x.size = 0
  ·rw [decide_eq_true (p:=x.cg = 0) h1.1,decide_eq_true (p:=x.size = 0) h1.2]
   exact decide_eq_true ⟨by omega,by omega,⟨g.1,g.2.1,g.2.2.1,g.2.2.2.1,g.2.2.2.2.1,g.2.2.2.2.2,hl,hs⟩,by rw [if_pos h0];exact h1⟩
  ·rw [decide_eq_false (p:=Fit x)]
   ·symm
    rw [Bool.and_eq_false_iff,decide_eq_false_iff_not,decide_eq_false_iff_not]
    omega
   ·intro hf
    have:=hf.2.2.2
    rw [if_pos h0] at this
    exact h1 this
 ·rw [if_neg h0]
  by_cases h1 : 0 < x.cg ∧ 0 ≤ x.size ∧ x.size ≤ x.chk.length * 832
  ·rw [decide_eq_true (p:=0 < x.cg) h1.1,decide_eq_true (p:=0 ≤ x.size) h1.2.1,decide_eq_true (p:=x.size ≤ x.chk.length * 832) h1.2.2]
   exact decide_eq_true ⟨by omega,by omega,⟨g.1,g.2.1,g.2.2.1,g.2.2.2.1,g.2.2.2.2.1,g.2.2.2.2.2,hl,hs⟩,by rw [if_neg h0];exact h1⟩
  ·rw [decide_eq_false (p:=Fit x)]
   ·symm
    rw [Bool.and_eq_false_iff,Bool.and_eq_false_iff,decide_eq_false_iff_not,decide_eq_false_iff_not,decide_eq_false_iff_not]
    omega
   ·intro hf
    have:=hf.2.2.2
    rw [if_neg h0] at this
    exact h1 this
set_option maxHeartbeats 1000000 in
theorem checked_any (x : Sup) (a1 a2 : Option Addr) (l1 c1 l2 c2 : Nat) (w : World) (h : SupAt w x a1 l1 a2 l2) (hl : l1 ≤ 1000000) (hg : 0 ≤ x.cg) :
  Calls Tryz.prog 174 #[supV x (.slice a1 l1 c1) (.slice a2 l2 c2)] w fun e w'=>e = .returned (.bool (chkB x)) ∧ Below w.heap.size w w':=by
 unfold supV chkB
 rw [h.chk.1]
 have hb : Below w.heap.size w (w.alloc (.cells #[.int .i64 x.gen,.int .i64 x.base,.int .i64 x.size,.int .i64 x.cg,.slice a1 l1 c1,.slice a2 l2 c2] 69)):=(Below.refl _ w).alloc (Nat.le_refl _) _
 have HB:=Lib.hid hb
 clear hb h
 by_cases h0 : l1 = 0
 ·rw [if_pos h0]
  subst h0
  by_cases h1 : x.cg = 0
  ·have t1 : (x.cg == 0) = true:=by simpa using h1
   by_cases h2 : x.size = 0
   ·have t2 : (x.size == 0) = true:=by simpa using h2
    rw [decide_eq_true h1,decide_eq_true h2]
    clear h1 h2
    go_enter Tryz.func174,Tryz.ntmps174
    go_wp2_with fail
    go_ret
    exact ⟨rfl,HB.out⟩
   ·have t2 : (x.size == 0) = false:=by simpa using h2
    rw [decide_eq_true h1,decide_eq_false h2]
    clear h1 h2
    go_enter Tryz.func174,Tryz.ntmps174
    go_wp2_with fail
    go_ret
    exact ⟨rfl,HB.out⟩
  ·have t1 : (x.cg == 0) = false:=by simpa using h1
   rw [decide_eq_false h1,Bool.false_and]
   clear h1
   go_enter Tryz.func174,Tryz.ntmps174
   go_wp2_with fail
   go_ret
   exact ⟨rfl,HB.out⟩
 ·rw [if_neg h0]
  have t0 : ((l1 : Int) == 0) = false:=by simp;omega
  by_cases h1 : 0 < x.cg
  ·have t1 : (x.cg != 0) = true:=by simp;omega
   rw [decide_eq_true h1,Bool.true_and]
   by_cases h2 : 0 ≤ x.size
   ·have t2 : decide (0 ≤ x.size) = true:=decide_eq_true h2
    rw [t2,Bool.true_and]
    obtain ⟨R,hR⟩ : ∃ R,decide (x.size ≤ (l1 : Int) * 832) = R:=⟨_,rfl⟩
    rw [hR]
    have hm : (l1 : Int) * 8 * 104 = (l1 : Int) * 832:=by omega
    have hR2 : decide (x.size ≤ (l1 : Int) * 8 * 104) = R:=by rw [hm];exact hR
    clear h1 h2 hR hm
    go_enter Tryz.func174,Tryz.ntmps174
    go_wp2_with fail
    go_ret
    exact ⟨rfl,HB.out⟩
   ·have t2 : decide (0 ≤ x.size) = false:=decide_eq_false h2
    rw [t2,Bool.false_and]
    clear h1 h2
    go_enter Tryz.func174,Tryz.ntmps174
    go_wp2_with fail
    go_ret
    exact ⟨rfl,HB.out⟩
  ·have t1 : (x.cg != 0) = false:=by simp;omega
   rw [decide_eq_false h1,Bool.false_and]
   clear h1
   go_enter Tryz.func174,Tryz.ntmps174
   go_wp2_with fail
   go_ret
   exact ⟨rfl,HB.out⟩
set_option maxHeartbeats 4000000 in
theorem supfit_any (x : Sup) (a1 a2 : Option Addr) (l1 c1 l2 c2 : Nat) (w : World) (h : SupAt w x a1 l1 a2 l2) (hl1 : l1 ≤ 1000000) (hl2 : l2 ≤ 1000000) :
  Calls Tryz.prog 148 #[supV x (.slice a1 l1 c1) (.slice a2 l2 c2)] w fun e w'=>e = .returned (.bool (decide (Fit x))) ∧ Below w.heap.size w w':=by
 have hb : Below w.heap.size w (w.alloc (.cells #[.int .i64 x.gen,.int .i64 x.base,.int .i64 x.size,.int .i64 x.cg,.slice a1 l1 c1,.slice a2 l2 c2] 69)):=(Below.refl _ w).alloc (Nat.le_refl _) _
 have HB:=Lib.hid hb
 clear hb
 unfold supV
 by_cases g0 : 1 ≤ x.gen
 rotate_left
 ·rw [show decide (Fit x) = false from decide_eq_false fun e=>g0 (by have:=fit_parts e;omega)]
  have t0 : decide (1 ≤ x.gen) = false:=decide_eq_false g0
  clear h g0
  go_enter Tryz.func148,Tryz.ntmps148
  go_wp2_with fail
  go_ret
  exact ⟨rfl,HB.out⟩
 by_cases g1 : x.gen ≤ 1099511627776
 rotate_left
 ·rw [show decide (Fit x) = false from decide_eq_false fun e=>g1 (by have:=fit_parts e;omega)]
  have t0 : decide (1 ≤ x.gen) = true:=decide_eq_true g0
  have t1 : decide (x.gen ≤ 1099511627776) = false:=decide_eq_false g1
  clear h g0 g1
  go_enter Tryz.func148,Tryz.ntmps148
  go_wp2_with fail
  go_ret
  exact ⟨rfl,HB.out⟩
 by_cases g2 : 0 ≤ x.base
 rotate_left
 ·rw [show decide (Fit x) = false from decide_eq_false fun e=>g2 (by have:=fit_parts e;omega)]
  have t0 : decide (1 ≤ x.gen) = true:=decide_eq_true g0
  have t1 : decide (x.gen ≤ 1099511627776) = true:=decide_eq_true g1
  have t2 : decide (0 ≤ x.base) = false:=decide_eq_false g2
  clear h g0 g1 g2
  go_enter Tryz.func148,Tryz.ntmps148
  go_wp2_with fail
  go_ret
  exact ⟨rfl,HB.out⟩
 by_cases g3 : x.base ≤ 1099511627776
 rotate_left
 ·rw [show decide (Fit x) = false from decide_eq_false fun e=>g3 (by have:=fit_parts e;omega)]
  have t0 : decide (1 ≤ x.gen) = true:=decide_eq_true g0
  have t1 : decide (x.gen ≤ 1099511627776) = true:=decide_eq_true g1
  have t2 : decide (0 ≤ x.base) = true:=decide_eq_true g2
  have t3 : decide (x.base ≤ 1099511627776) = false:=decide_eq_false g3
  clear h g0 g1 g2 g3
  go_enter Tryz.func148,Tryz.ntmps148
  go_wp2_with fail
  go_ret
  exact ⟨rfl,HB.out⟩
 by_cases g4 : 0 ≤ x.cg
 rotate_left
 ·rw [show decide (Fit x) = false from decide_eq_false fun e=>g4 (by have:=fit_parts e;omega)]
  have t0 : decide (1 ≤ x.gen) = true:=decide_eq_true g0
  have t1 : decide (x.gen ≤ 1099511627776) = true:=decide_eq_true g1
  have t2 : decide (0 ≤ x.base) = true:=decide_eq_true g2
  have t3 : decide (x.base ≤ 1099511627776) = true:=decide_eq_true g3
  have t4 : decide (0 ≤ x.cg) = false:=decide_eq_false g4
  clear h g0 g1 g2 g3 g4
  go_enter Tryz.func148,Tryz.ntmps148
  go_wp2_with fail
  go_ret
  exact ⟨rfl,HB.out⟩
 by_cases g5 : x.cg ≤ x.gen
 rotate_left
 ·rw [show decide (Fit x) = false from decide_eq_false fun e=>g5 (by have:=fit_parts e;omega)]
  have t0 : decide (1 ≤ x.gen) = true:=decide_eq_true g0
  have t1 : decide (x.gen ≤ 1099511627776) = true:=decide_eq_true g1
  have t2 : decide (0 ≤ x.base) = true:=decide_eq_true g2
  have t3 : decide (x.base ≤ 1099511627776) = true:=decide_eq_true g3
  have t4 : decide (0 ≤ x.cg) = true:=decide_eq_true g4
  have t5 : decide (x.cg ≤ x.gen) = false:=decide_eq_false g5
  clear h g0 g1 g2 g3 g4 g5
  go_enter Tryz.func148,Tryz.ntmps148
  go_wp2_with fail
  go_ret
  exact ⟨rfl,HB.out⟩
 have t0 : decide (1 ≤ x.gen) = true:=decide_eq_true g0
 have t1 : decide (x.gen ≤ 1099511627776) = true:=decide_eq_true g1
 have t2 : decide (0 ≤ x.base) = true:=decide_eq_true g2
 have t3 : decide (x.base ≤ 1099511627776) = true:=decide_eq_true g3
 have t4 : decide (0 ≤ x.cg) = true:=decide_eq_true g4
 have t5 : decide (x.cg ≤ x.gen) = true:=decide_eq_true g5
 have hg : 1 ≤ x.gen ∧ x.gen ≤ 1099511627776 ∧ 0 ≤ x.base ∧ x.base ≤ 1099511627776 ∧ 0 ≤ x.cg ∧ x.cg ≤ x.gen:=⟨g0,g1,g2,g3,g4,g5⟩
 obtain ⟨R,hR⟩ : ∃ R,decide (Fit x) = R:=⟨_,rfl⟩
 rw [hR]
 have H:=Lib.hid h;have HR:=Lib.hid hR;have HG:=Lib.hid hg
 clear h hR hg g0 g1 g2 g3 g4 g5
 go_enter Tryz.func148,Tryz.ntmps148
 go_wp2_with fail
 refine (distinct_any (w.heap.size + 1) 0 _ a1 a2 l1 c1 l2 c2 x.chk x.log _ (by simp) ((Wire.cell_of_heap cells_second).trans rfl) ((Wire.cell_of_heap cells_second).trans rfl) (keep_two H.out.chk _ _) (keep_two H.out.log _ _) hl1 hl2).mono ?_
 rintro e w1 ⟨rfl,hb1⟩
 have hB:=(HB.out.alloc HB.out.size _).trans (hb1.mono (by simp;omega))
 have k1:=(hb1.block w.heap.size (by simp;omega)).trans ((Below.heap_alloc (w.alloc _) _ w.heap.size (by simp)).trans (heap_alloc_new w _))
 obtain ⟨p0,p1,p2,p3,p4,p5⟩:=six_cells k1
 have HB1:=Lib.hid hB
 clear hb1 k1 hB
 by_cases hs : Segs (x.chk ++ x.log)
 rotate_left
 ·have hRf : R = false:=by rw [← HR.out];exact decide_eq_false fun e=>hs (fit_parts e).2.2.1
  have HRF:=Lib.hid hRf
  rw [decide_eq_false hs]
  clear hs hRf
  go_wp2_with fail
  go_ret
  exact ⟨by rw [HRF.out];rfl,HB1.out⟩
 rw [decide_eq_true hs]
 have hlen:=H.out.log.1
 by_cases h0 : l2 = 0
 ·have hRf : R = false:=by rw [← HR.out];exact decide_eq_false fun e=>by have:=(fit_parts e).2.1;omega
  have HRF:=Lib.hid hRf
  clear hs hRf hlen
  subst h0
  go_wp2_with fail
  go_ret
  exact ⟨by rw [HRF.out];rfl,HB1.out⟩
 have hRc : R = chkB x:=by rw [← HR.out];exact fit_chk HG.out (by omega) hs
 have HRC:=Lib.hid hRc
 have t6 : decide ((0 : Int) < (l2 : Int)) = true:=by simp;omega
 clear hs hlen hRc
 go_wp2_with fail
 refine (checked_any x a1 a2 l1 c1 l2 c2 _ (H.out.keep HB1.out) hl1 HG.out.2.2.2.2.1).mono ?_
 rintro e w2 ⟨rfl,hb2⟩
 have HB2:=Lib.hid (Wire.below_keep HB1.out hb2 HB1.out.size)
 rw [← HRC.out]
 clear hb2 p0 p1 p2 p3 p4 p5
 cases R
 ·go_wp2_with fail
  go_ret
  exact ⟨rfl,HB2.out⟩
 ·go_wp2_with fail
  go_ret
  exact ⟨rfl,HB2.out⟩
end Go.Proofs.YtnnakhdndmjmiaaGreat
