import Derived.Test.YtnnakhdndmjmiaaGreatPuSuperF
import Derived.Lib.ConvBytes
import Derived.Lib.SmallJoins
set_option linter.unusedVariables false
set_option maxRecDepth 4000
set_option maxRecDepth 4000
namespace Go.Proofs.YtnnakhdndmjmiaaGreat
open Go.RowKit SuperP
open Wire (IntsAt getD_mem take_snoc RdAt RqAt RdStep)
open WireP (rdText rdInt St)
theorem nums_snoc (l : List UInt8) (c : UInt8) : nums (l ++ [c]) = nums l ++ [(c.toNat : Int)]:=by simp [nums]
theorem nums_len (l : List UInt8) : (nums l).length = l.length:=by simp [nums]
theorem nums_range (l : List UInt8) : ∀ x ∈ nums l,-9223372036854775808 ≤ x ∧ x ≤ 9223372036854775807:=by
 intro x hx
 obtain ⟨c,_,rfl⟩:=List.mem_map.1 hx
 have:=c.toNat_lt
 omega
theorem ints_one (w : World) (u : Int) (h0 : -9223372036854775808 ≤ u) (h1 : u ≤ 9223372036854775807) : IntsAt (w.alloc (.cells #[.int .i64 u] 3)) (some ⟨w.heap.size,0,none⟩) 1 [u]:=by
 refine ⟨rfl,by simp only [List.mem_singleton];rintro x rfl;exact ⟨h0,h1⟩,.inr ⟨w.heap.size,0,rfl,by simp,fun i hi=>?_⟩⟩
 obtain rfl : i = 0:=by omega
 rw [Wire.cell_of_heap (heap_alloc_new w _)]
 rfl
structure ListMade (w : World) (xs : List Int) (e : Ending) (w' : World) : Prop where
 out : ∃ a c,e = .returned (.slice a xs.length c) ∧ IntsAt w' a xs.length xs ∧ xs.length ≤ c ∧ (a = none → c = 0) ∧ ∀ ad,a = some ad → w.heap.size ≤ ad.block
 below : Below w.heap.size w w'
theorem list_made {w w' : World} {n : Nat} {v : Value} {zs : List UInt8} (hn : n = zs.length) (ho : w'.ownsRow w.heap.size 3 1 v n (cellsI (nums zs))) (hb : Below w.heap.size w w') : ListMade w (nums zs) (.returned v) w':=by
 obtain ⟨a,c,rfl⟩:=Wire.owns_slice' ho
 have hl : n = (nums zs).length:=by rw [nums_len,hn]
 subst hl
 obtain ⟨h1,h2,h3⟩:=ints_of_owns ho rfl (nums_range zs)
 exact ⟨⟨a,c,rfl,h1,h2,h3,fun ad e=>(ho.lt ad.block (by rw [e];rfl)).1⟩,hb⟩
def RowAt (w : World) (B : Nat) (l : List UInt8) (c : Nat) : Prop :=
 w.heap[B]? = some (.cells (Lib.byteCells l ++ List.replicate c (Value.int .u8 0)).toArray 5 (l.length + c,l.length + c + 1))
theorem RowAt.cell {w : World} {B c : Nat} {l : List UInt8} (h : RowAt w B l c) (i : Nat) (hi : i < l.length) : w.cell? ⟨B,i,none⟩ = some (.int .u8 ((l.getD i 0).toNat : Int)):=by
 rw [Wire.cell_of_heap h,List.getElem?_toArray,List.getElem?_append_left (by rw [Lib.byteCells_length];exact hi)]
 simp [Lib.byteCells,List.getD,hi]
theorem bytes_row (w : World) (s : ByteArray) : ∃ w2 cap c,(convert 9 137 (.string s)).run Tryz.prog w = .ok (.slice (some ⟨w.heap.size,0,none⟩) s.size cap) w2 ∧ RowAt w2 w.heap.size s.data.toList c ∧ Below w.heap.size w w2:=by
 refine ⟨_,_,grownCap w s.size 0 5 - s.size,Lib.run_convert_string_bytes w 9 137 5 s Tryz.underlying9 Tryz.underlying137 Tryz.underlying5,?_,Joins.below_bytesWorld _ w 5 s (Nat.le_refl _)⟩
 have h:=Lib.bytesWorld_at_new w 5 s
 unfold RowAt
 rw [h]
 have e : Lib.bytesCells w 5 s = (Lib.byteCells s.data.toList ++ List.replicate (grownCap w s.size 0 5 - s.size) (Value.int .u8 0)).toArray:=by
  unfold Lib.bytesCells Lib.byteCells
  apply Array.toList_inj.1
  simp
 rw [e]
 simp [Lib.byteCells_length]
theorem at_getD (s : ByteArray) (k : Nat) (h : k < s.size) : s.data.toList.getD k 0 = s[k]:=by
 have h2 : k < s.data.toList.length:=by rw [Array.length_toList];exact h
 rw [List.getD_eq_getElem?_getD,List.getElem?_eq_getElem h2];rfl
theorem grown_then {a b c : World} {r : Nat} (h : a.grownBy b (some r)) (k : Below b.heap.size b c) : a.grownBy c (some r) :=
 ⟨k.os.trans h.os,k.tape.trans h.tape,k.output.trans h.output,Nat.le_trans h.size k.size,fun i hi hne=>(k.block i (Nat.lt_of_lt_of_le hi h.size)).trans (h.block i hi hne)⟩
theorem grown_first {a b c : World} {r : Nat} (h : Below a.heap.size a b) (k : b.grownBy c (some r)) : a.grownBy c (some r) :=
 ⟨k.os.trans h.os,k.tape.trans h.tape,k.output.trans h.output,Nat.le_trans h.size k.size,fun i hi hne=>(k.block i (Nat.lt_of_lt_of_le hi h.size) hne).trans (h.block i hi)⟩
structure ListRead (w : World) (b : Nat) (st' : St) (xs : List Int) (e : Ending) (w' : World) : Prop where
 out : ∃ a c,e = .returned (.slice a xs.length c) ∧ IntsAt w' a xs.length xs ∧ xs.length ≤ c ∧ (a = none → c = 0) ∧ ∀ ad,a = some ad → w.heap.size ≤ ad.block
 step : RdStep w b st' w'
set_option maxHeartbeats 1000000 in
theorem numbers_any (b : Nat) (st st' : St) (z : ByteArray) (w : World) (h : RdAt w b st) (hr : rdText 63 st = (z.data.toList,st')) (hz : z.size ≤ 1000000) :
  Calls Tryz.prog 185 #[.agg #[.pointer (some ⟨b,0,none⟩)]] w (ListRead w b st' (nums z.data.toList)):=by
 have hbx : Below w.heap.size w (w.alloc (.cells #[.pointer (some ⟨b,0,none⟩)] 218)):=(Below.refl _ w).alloc (Nat.le_refl _) _
 have h1:=Wire.rdtext_is b st st' 63 z (w.alloc (.cells #[.pointer (some ⟨b,0,none⟩)] 218)) (h.keep (hbx.block b h.lt)) hr
 have HR:=Lib.hid h1;have HBX:=Lib.hid hbx
 clear h1 hbx h hr
 go_enter Tryz.func185,Tryz.ntmps185
 go_wp2_with fail
 refine HR.out.mono ?_
 rintro e w1 ⟨rfl,hs1⟩
 obtain ⟨w2,cap,c,hcv,hrow,hb2⟩:=bytes_row w1 z
 have hrd : RdAt w2 b st':=hs1.1.keep (hb2.block b hs1.1.lt)
 have hg : w.grownBy w2 (some b):=grown_then (grown_first HBX.out hs1.2) hb2
 have HRD:=Lib.hid hrd;have HG:=Lib.hid hg;have HROW:=Lib.hid hrow
 clear hs1 hb2 hrow hrd hg
 have hg2 : w1.heap.size < w2.heap.size:=(Array.getElem?_eq_some_iff.1 HROW.out).1
 generalize w1.heap.size = g at *
 have hzl:=Wire.len_list z
 have HZL:=Lib.hid hzl
 clear hzl
 go_wp2_with fail
 go_loopw [3,11] (fun v i wr => ∃ j : Nat,j ≤ z.size ∧ i = .int .i64 (j : Int) ∧ Hid (wr.ownsRow w2.heap.size 3 1 v j (cellsI (nums (z.data.toList.take j)))) ∧ Hid (Below w2.heap.size w2 wr)) (fun _ i _=>z.size - (intOf i).toNat)
 case atStart=>exact ⟨0,Nat.zero_le _,rfl,World.ownsRow_nil _ _ _ _,Below.refl _ w2⟩
 case round =>
  obtain ⟨j,hj,rfl,hO,hB⟩:=hrel
  obtain ⟨a1,cap1,rfl⟩:=Wire.owns_slice' hO.out
  by_cases hlt : j < z.size
  ·have hst:=nums_snoc (z.data.toList.take j) z[j]
   rw [← take_step z j hlt] at hst
   have hu:=z[j].toNat_lt
   have hcell:=(hB.out.cell (p:=⟨g,j,none⟩) hg2).trans (HROW.out.cell j (by rw [HZL.out];exact hlt))
   rw [at_getD z j hlt] at hcell
   have h1:=hO.out.alloc (.cells #[.int .i64 ((z[j].toNat : Nat) : Int)] 3)
   have h2:=ints_one wr ((z[j].toNat : Nat) : Int) (by omega) (by omega)
   have HST:=Lib.hid hst;have HO1:=Lib.hid h1;have HI:=Lib.hid h2
   have HBA:=Lib.hid (hB.out.alloc hB.out.size (.cells #[.int .i64 ((z[j].toNat : Nat) : Int)] 3))
   have hls:=hO.out.lt
   have HLT:=Lib.hid hls
   clear hst h1 h2 hls hO
   go_wp2_with (at_builtin;refine append_ints rfl (.tmp 15) (.tmp 18) rfl w2.heap.size _ (.slice a1 j cap1) j (nums (z.data.toList.take j)) [((z[j].toNat : Nat) : Int)] (some ⟨wr.heap.size,0,none⟩) 1 1 rfl (by exact HO1.out) rfl (by exact HI.out) (fun e=>by cases e) (by omega) (by exact HBA.out.size) ?_)
   intro v3 w3 hown2 hgrow2
   have hb3:=HBA.out.grown hgrow2 HBA.out.size (fun k hk=>(HLT.out k hk).1)
   have ho3 : w3.ownsRow w2.heap.size 3 1 v3 (j + 1) (cellsI (nums (z.data.toList.take (j + 1)))):=by rw [HST.out];exact hown2
   have HO3:=Lib.hid ho3;have HB3:=Lib.hid hb3
   clear hown2 hgrow2 hb3 ho3 hu
   go_wp2_with fail
   go_roundw
   case rel=>exact ⟨j + 1,by omega,by go_num,HO3,HB3⟩
   case measure=>simp [intOf];omega
  ·have e : z.data.toList.take j = z.data.toList:=List.take_of_length_le (by rw [HZL.out];omega)
   have hfin:=list_made (n:=j) (zs:=z.data.toList) (by rw [HZL.out];omega) (by have:=hO.out;rw [e] at this;exact this) hB.out
   have hst2 : RdStep w b st' wr:=⟨HRD.out.keep (hB.out.block b HRD.out.lt),grown_then HG.out hB.out⟩
   obtain ⟨a0,c0,e0,f1,f2,f3,f4⟩:=hfin.out
   have hlr : ListRead w b st' (nums z.data.toList) (.returned (.slice a1 j cap1)) wr:=⟨⟨a0,c0,e0,f1,f2,f3,fun ad e=>Nat.le_trans HG.out.size (f4 ad e)⟩,hst2⟩
   have HF:=Lib.hid hlr
   clear hfin e hO hst2 e0 f1 f2 f3 f4 hlr
   go_wp2_with fail
   go_ret
   exact HF.out
end Go.Proofs.YtnnakhdndmjmiaaGreat
