import Derived.Test.YtnnakhdndmjmiaaGreatPuCrcPlain
import Derived.Test.YtnnakhdndmjmiaaGreatPuCrcB
import Derived.OwnWalk
import Derived.Laws.AppendOwn
import Derived.Laws.MakeOwn
import Derived.RegionTactic
set_option linter.unusedVariables false
set_option maxRecDepth 4000
set_option maxRecDepth 4000
namespace Go.Proofs.YtnnakhdndmjmiaaGreat.Frame
open Go.RowKit CrcP FrameP
def str (l : List UInt8) : ByteArray:=⟨l.toArray⟩
theorem str_size (l : List UInt8) : (str l).size = l.length:=rfl
theorem str_list (l : List UInt8) : (str l).data.toList = l:=by simp [str]
theorem str_of (s : ByteArray) : str s.data.toList = s:=by cases s;simp [str]
def dt (ss : List ByteArray) : List (List UInt8):=ss.map fun s=>s.data.toList
theorem dt_length (ss : List ByteArray) : (dt ss).length = ss.length:=List.length_map ..
theorem dt_get (ss : List ByteArray) (j : Nat) (h : j < ss.length) : (dt ss).getD j [] = (ss.getD j ByteArray.empty).data.toList:=by simp [dt,List.getD,h]
theorem getD_mem {S : List ByteArray} {k : Nat} (h : k < S.length) : S.getD k ByteArray.empty ∈ S:=by simp [List.getD,h]
theorem dt_mem {ss : List ByteArray} {r : List UInt8} (h : r ∈ dt ss) : ∃ s ∈ ss,s.data.toList = r:=List.mem_map.1 h
def Few (n m : Nat) (ss : List ByteArray) : Prop:=ss.length ≤ n ∧ ∀ t ∈ ss,t.size ≤ m
theorem Few.sz {n m : Nat} {ss : List ByteArray} (h : Few n m ss) : sz (dt ss) ≤ n * (6 + m):=by
 refine Nat.le_trans (sz_le (dt ss) m fun r hr=>?_) ?_
 ·obtain ⟨s,hs,rfl⟩:=dt_mem hr
  rw [len_list]
  exact h.2 s hs
 ·rw [dt_length]
  exact Nat.mul_le_mul_right _ h.1
def StrsAt (w : World) (a : Option Addr) (len : Nat) (ss : List ByteArray) : Prop :=
 ss.length = len ∧ len ≤ 9223372036854775807 ∧ (len = 0 ∨ ∃ b off,a = some ⟨b,off,none⟩ ∧ b < w.heap.size ∧ ∀ i,i < len → w.cell? ⟨b,off + i,none⟩ = some (.string (ss.getD i ByteArray.empty)))
theorem StrsAt.keep {w w' : World} {a : Option Addr} {len : Nat} {ss : List ByteArray} (h : StrsAt w a len ss) (hb : Below w.heap.size w w') : StrsAt w' a len ss:=by
 refine ⟨h.1,h.2.1,?_⟩
 rcases h.2.2 with h0 | ⟨b,off,rfl,hlt,hc⟩
 ·exact .inl h0
 ·exact .inr ⟨b,off,rfl,by have:=hb.size;omega,fun i hi=>(hb.cell (p:=⟨b,off + i,none⟩) hlt).trans (hc i hi)⟩
def Cells (w : World) (a : Option Addr) (len : Nat) (ss : List ByteArray) : Prop:=0 < len → ∃ b off,a = some ⟨b,off,none⟩ ∧ b < w.heap.size ∧ ∀ i,i < len → w.cell? ⟨b,off + i,none⟩ = some (.string (ss.getD i ByteArray.empty))
theorem StrsAt.cells {w : World} {a : Option Addr} {len : Nat} {ss : List ByteArray} (h : StrsAt w a len ss) : Cells w a len ss:=fun h0=>h.2.2.resolve_left (by omega)
theorem getD_size {n m : Nat} {ss : List ByteArray} (h : Few n m ss) (j : Nat) (hj : j < ss.length) : (ss.getD j ByteArray.empty).size ≤ m:=h.2 _ (getD_mem hj)
theorem size_any (a : Option Addr) (len cap : Nat) (ss : List ByteArray) (w : World) (hS : StrsAt w a len ss) (hF : Few 100 5000 ss) :
  Calls Tryz.prog 108 #[.slice a len cap] w fun e w'=>e = .returned (.int .i64 (sz (dt ss) : Int)) ∧ w = w':=by
 have HL:=Lib.hid hS.1;have HC:=Lib.hid hS.cells;have HF:=Lib.hid hF
 have hlen : len ≤ 100:=by rw [← hS.1];exact hF.1
 obtain ⟨z,hz⟩ : ∃ z,sz (dt ss) = z:=⟨_,rfl⟩
 have hz2 : z ≤ 100 * (6 + 5000):=by rw [← hz];exact hF.sz
 have HZ:=Lib.hid hz
 rw [hz]
 clear hS hF hz
 go_enter Tryz.func108,Tryz.ntmps108
 go_wp2_with fail
 go_loop [3,11] (fun x i => ∃ j t : Nat,j ≤ len ∧ x = .int .i64 (t : Int) ∧ i = .int .i64 (j : Int) ∧ Hid (t = 6 * (len - j) + sz ((dt ss).take j))) (fun _ i=>len - (intOf i).toNat)
 case atStart=>exact ⟨0,6 * len,Nat.zero_le _,by go_num,rfl,by show 6 * len = 6 * (len - 0) + 0;omega⟩
 case round =>
  obtain ⟨j,t,hj,rfl,rfl,ht⟩:=hrel
  by_cases hlt : j < len
  ·obtain ⟨b,off,rfl,_,hc⟩:=HC.out (by omega)
   have hlj : j < ss.length:=by rw [HL.out];exact hlt
   have d0:=hc j hlt
   have y1:=getD_size HF.out j hlj
   have hst:=sz_take (dt ss) j (by rw [dt_length];exact hlj)
   rw [dt_get ss j hlj,len_list] at hst
   have htt : t ≤ 600 + 100 * (6 + 5000):=by
    have h1:=ht.out
    have h2:=sz_take_le (dt ss) j
    rw [HZ.out] at h2
    omega
   have HST:=Lib.hid hst
   clear hc hst
   generalize ss.getD j ByteArray.empty = s at *
   go_wp2_with fail
   go_round
   case rel=>exact ⟨j + 1,t + s.size,by omega,by go_num,by go_num,by show t + s.size = _;have h1:=ht.out;rw [HST.out];omega⟩
   case measure=>simp [intOf];omega
  ·obtain rfl : j = len:=by omega
   have htz : t = z:=by
    have h1:=ht.out
    rw [List.take_of_length_le (by rw [dt_length,HL.out];exact Nat.le_refl _),HZ.out] at h1
    omega
   subst htz
   go_wp2_with fail
   go_ret
   exact ⟨rfl,rfl⟩
def FewP (w : World) (n m len : Nat) (ss : List ByteArray) (e : Ending) (w' : World) : Prop := ∃ r,e = .returned (.bool r) ∧ (r = true → Few n m ss) ∧ (r = false → ¬ Few n m ss) ∧ w = w'
theorem few_ret {w : World} {n m len : Nat} {ss : List ByteArray} (r : Bool) (h : r = true → Few n m ss) (h2 : r = false → ¬ Few n m ss) : FewP w n m len ss (.returned (.bool r)) w:=⟨r,rfl,h,h2,rfl⟩
theorem few_any (a : Option Addr) (len cap n m : Nat) (ss : List ByteArray) (w : World) (hS : StrsAt w a len ss) (hn : n ≤ 100) (hm : m ≤ 100000) (hz : ∀ t ∈ ss,t.size ≤ 9223372036854775807) :
  Calls Tryz.prog 30 #[.slice a len cap,.int .i64 (n : Int),.int .i64 (m : Int)] w (FewP w n m len ss):=by
 have HL:=Lib.hid hS.1;have HC:=Lib.hid hS.cells;have HZ:=Lib.hid hz
 have hl63:=hS.2.1
 clear hS hz
 go_enter Tryz.func30,Tryz.ntmps30
 go_wp2_with fail
 go_loop [7] (fun i => ∃ j : Nat,j ≤ len ∧ j ≤ n ∧ i = .int .i64 (j : Int) ∧ Hid (∀ k,k < j → (ss.getD k ByteArray.empty).size ≤ m)) (fun i=>len - (intOf i).toNat)
 case atStart=>exact ⟨0,Nat.zero_le _,Nat.zero_le _,rfl,fun k hk=>absurd hk (Nat.not_lt_zero _)⟩
 case round =>
  obtain ⟨j,hj,hjn,rfl,hd⟩:=hrel
  by_cases hlt : j < len
  ·by_cases hln : j < n
   ·obtain ⟨b,off,rfl,_,hc⟩:=HC.out (by omega)
    have hlj : j < ss.length:=by rw [HL.out];exact hlt
    have d0:=hc j hlt
    have y1:=HZ.out _ (getD_mem hlj)
    obtain ⟨s,hs⟩ : ∃ s,ss.getD j ByteArray.empty = s:=⟨_,rfl⟩
    have HS:=Lib.hid hs
    rw [hs] at d0 y1
    clear hc hs
    by_cases hsm : s.size ≤ m
    ·go_wp2_with fail
     go_round
     case rel=>exact ⟨j + 1,by omega,by omega,by go_num,fun k hk=>(Nat.lt_succ_iff_lt_or_eq.1 hk).elim (hd.out k) (fun e=>by rw [e,HS.out];exact hsm)⟩
     case measure=>simp [intOf];omega
    ·have hno : ¬ Few n m ss:=fun h=>hsm (by rw [← HS.out];exact getD_size h j hlj)
     have HN:=Lib.hid hno
     have hsm2 : (m : Int) < (s.size : Int):=by omega
     clear hno
     go_wp2_with fail
     go_ret
     exact few_ret false (fun h=>by cases h) (fun _=>HN.out)
   ·have hno : ¬ Few n m ss:=fun h=>by have:=h.1;rw [HL.out] at this;omega
    have HN:=Lib.hid hno
    have HFF:=Lib.hid (show decide (len ≤ n) = false by simp;omega)
    clear hno
    go_wp2_with fail
    go_ret
    show FewP w n m len ss (.returned (.bool (decide (len ≤ n)))) w
    rw [HFF.out]
    exact few_ret false (fun h=>by cases h) (fun _=>HN.out)
  ·obtain rfl : j = len:=by omega
   have hyes : Few n m ss:=⟨by rw [HL.out];exact hjn,fun t ht=>by
    obtain ⟨i,hi,rfl⟩:=List.getElem_of_mem ht
    have:=hd.out i (by rw [← HL.out];exact hi)
    simpa [List.getD,hi] using this⟩
   have HN:=Lib.hid hyes
   clear hyes
   go_wp2_with fail
   go_ret
   exact few_ret true (fun _=>HN.out) (fun h=>by cases h)
theorem fits_any (n : Nat) (w : World) (hn : n ≤ 9223372036854775807) : Calls Tryz.prog 107 #[.int .i64 (n : Int)] w fun e w'=>e = .returned (.bool (decide (1 ≤ n ∧ n ≤ 4096))) ∧ w = w':=by
 by_cases h1 : 1 ≤ n
 ·by_cases h2 : n ≤ 4096
  ·rw [decide_eq_true ⟨h1,h2⟩]
   go_enter Tryz.func107,Tryz.ntmps107
   go_wp2_with fail
   go_ret
   refine ⟨congrArg (fun x=>Ending.returned (.bool x)) (decide_eq_true ?_),rfl⟩
   omega
  ·rw [decide_eq_false (fun h=>h2 h.2)]
   go_enter Tryz.func107,Tryz.ntmps107
   go_wp2_with fail
   go_ret
   refine ⟨congrArg (fun x=>Ending.returned (.bool x)) (decide_eq_false ?_),rfl⟩
   omega
 ·rw [decide_eq_false (fun h=>h1 h.1)]
  go_enter Tryz.func107,Tryz.ntmps107
  go_wp2_with fail
  go_ret
  exact ⟨rfl,rfl⟩
theorem bv_lt (n : BitVec 32) : n.toNat < 4294967296:=n.isLt
theorem sum_of (s : ByteArray) (w : World) (hs : s.size ≤ 9223372036854775807) : Calls Tryz.prog 109 #[.string s] w fun e w'=>e = .returned (.string (str (cs s.data.toList))) ∧ Below w.heap.size w w':=by
 have h1:=sum_any s w hs
 have hb:=bv_lt (more 0#32 s.data.toList)
 have hcs : str (cs s.data.toList) = ⟨(oc (more 0#32 s.data.toList).toNat).toArray⟩:=rfl
 rw [hcs]
 generalize (more 0#32 s.data.toList).toNat = x at *
 have H1:=Lib.hid h1
 clear h1 hcs
 go_enter Tryz.func109,Tryz.ntmps109
 go_wp2_with fail
 refine H1.out.mono ?_
 rintro e w' ⟨rfl,rfl⟩
 go_wp2_with fail
 refine (octets_any x _ hb).mono ?_
 rintro e w' ⟨rfl,hb2⟩
 have HB:=Lib.hid hb2
 clear hb2
 go_wp2_with fail
 go_ret
 exact ⟨rfl,HB.out⟩
end Go.Proofs.YtnnakhdndmjmiaaGreat.Frame
