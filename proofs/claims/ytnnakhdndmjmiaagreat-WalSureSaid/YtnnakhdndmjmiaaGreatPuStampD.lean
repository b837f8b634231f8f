import Derived.Test.YtnnakhdndmjmiaaGreatPuMix
import Derived.Test.YtnnakhdndmjmiaaGreatPuStampC
import Derived.Laws.CopyRow
import Derived.StillTailTactics
set_option linter.unusedVariables false
set_option maxRecDepth 4000
namespace Go.Proofs.YtnnakhdndmjmiaaGreat
open Go.RowKit CrcP StampP
theorem heap_setRow_at {w : World} {g : Nat} {cur : Array Value} {t : TypeId} {fr : Nat × Nat} (h : w.heap[g]? = some (.cells cur t fr)) (cs : Array Value) : (w.setRow g cs).heap[g]? = some (.cells cs t fr):=by
 simp [World.setRow,Array.getElem?_modify,h]
theorem below_setRow {B g : Nat} {a w : World} (h : Below B a w) (hg : B ≤ g) (cs : Array Value) : Below B a (w.setRow g cs) :=
 h.trans ⟨rfl,rfl,rfl,by simp,fun k hk=>by simp only [World.setRow,Array.getElem?_modify];rw [if_neg (by omega)]⟩
theorem info8 : (Tryz.prog.info? 5).map (·.size) = some 1:=by kernel_rfl
theorem Arr.row {w : World} {b : Nat} {l l2 : List UInt8} {row : Array Value} (h : Arr w b l) (hr : row = (Lib.byteCells l2).toArray) : Arr (w.setRow b row) b l2:=by
 subst hr
 exact heap_setRow_at h _
theorem byteCells_take (l : List UInt8) (k : Nat) : (Lib.byteCells l).take k = Lib.byteCells (l.take k):=by simp [Lib.byteCells,List.map_take]
theorem byteCells_drop (l : List UInt8) (k : Nat) : (Lib.byteCells l).drop k = Lib.byteCells (l.drop k):=by simp [Lib.byteCells,List.map_drop]
theorem byteCells_append (a b : List UInt8) : Lib.byteCells a ++ Lib.byteCells b = Lib.byteCells (a ++ b):=by simp [Lib.byteCells]
theorem wpList_copy_text {ops : Array Oper} {rest : List Oper} {o : Oper} {a : Act} {w : World} {Q : Exit → Act → World → Prop}
  (hgd : o.guard = none) (d x : Operand) (hop : o.op = Op.call { callee:=Callee.builtin Builtin.copy,args:=#[d,x],argTypes:=#[137,9] })
  (b off dLen dCap : Nat) (hd : a.eval d = .slice (some ⟨b,off,none⟩) dLen dCap) (t : ByteArray) (hx : a.eval x = .string t) (l : List UInt8) (h : Arr w b l)
  (hle : t.size ≤ dLen) (hfit : off + t.size ≤ l.length) (l2 : List UInt8) (h2 : l.take off ++ t.data.toList ++ l.drop (off + t.size) = l2)
  (hK : ∀ w',Arr w' b l2 → Below b w w' → wpList Tryz.prog ops Q rest (a.put o.dst (goInt t.size)) w') :
  wpList Tryz.prog ops Q (o :: rest) a w:=by
 refine wpList_plain hgd fun K hK'=>?_
 have hrun:=Lib.run_copy_row_string (P:=Tryz.prog) w 137 9 o.type 5 b off dLen dCap t _ _ Tryz.underlying137 info8 h hle (by simpa [Lib.byteCells] using hfit)
 unfold Oper.wp
 simp only [execOp,hop,resolve,invoke,builtin,Sem.run_bind,Sem.run_pure,Result.andThen_ok,List.map_toArray,List.map_cons,List.map_nil,hd,hx,hrun]
 refine hK' _ _ (hK _ (h.row ?_) (below_setRow (Below.refl _ _) (Nat.le_refl _) _))
 simp only [byteCells_take,byteCells_drop,byteCells_append,h2]
theorem wpList_copy_part {ops : Array Oper} {rest : List Oper} {o : Oper} {a : Act} {w : World} {Q : Exit → Act → World → Prop}
  (hgd : o.guard = none) (d x : Operand) (hop : o.op = Op.call { callee:=Callee.builtin Builtin.copy,args:=#[d,x],argTypes:=#[137,137] })
  (b off m dCap so sCap : Nat) (hd : a.eval d = .slice (some ⟨b,off,none⟩) m dCap) (hx : a.eval x = .slice (some ⟨b,so,none⟩) m sCap) (l : List UInt8) (h : Arr w b l)
  (hfit : off + m ≤ l.length) (hfit2 : so + m ≤ l.length) (l2 : List UInt8) (h2 : l.take off ++ (l.drop so).take m ++ l.drop (off + m) = l2)
  (hK : ∀ w',Arr w' b l2 → Below b w w' → wpList Tryz.prog ops Q rest (a.put o.dst (goInt m)) w') :
  wpList Tryz.prog ops Q (o :: rest) a w:=by
 refine wpList_plain hgd fun K hK'=>?_
 have hlen : (Lib.byteCells ((l.drop so).take m)).length = m:=by rw [Lib.byteCells_length,List.length_take,List.length_drop];omega
 have hrun:=run_copy_row (P:=Tryz.prog) w 137 137 o.type 5 b off m dCap ⟨b,so,none⟩ m sCap _ _ (Lib.byteCells ((l.drop so).take m)) Tryz.underlying137 info8 h (by rw [hlen];exact (Nat.min_self m).symm) (fun j v hj=>by
  have hjm : j < m:=by have:=(List.getElem?_eq_some_iff.1 hj).1;rw [hlen] at this;exact this
  rw [Addr.add_lit,h.cell (so + j) (by omega)]
  rw [← hj]
  simp [Lib.byteCells,List.getD,hjm,show so + j < l.length by omega]) (by rw [hlen];simpa [Lib.byteCells] using hfit) (fun v hv=>by
  simp only [Lib.byteCells,List.mem_map] at hv
  obtain ⟨x,_,rfl⟩:=hv
  rfl)
 rw [hlen] at hrun
 unfold Oper.wp
 simp only [execOp,hop,resolve,invoke,builtin,Sem.run_bind,Sem.run_pure,Result.andThen_ok,List.map_toArray,List.map_cons,List.map_nil,hd,hx,hrun]
 refine hK' _ _ (hK _ (h.row ?_) (below_setRow (Below.refl _ _) (Nat.le_refl _) _))
 simp only [byteCells_take,byteCells_drop,byteCells_append,h2]
def pad (A : List UInt8) : List UInt8:=A ++ List.replicate (128 - A.length) 0
theorem pad_length {A : List UInt8} (h : A.length ≤ 128) : (pad A).length = 128:=by
 rw [pad,List.length_append,List.length_replicate];omega
theorem pad_take {A : List UInt8} {k : Nat} (h : k = A.length) : (pad A).take k = A:=by
 subst h;exact List.take_left
theorem pad_drop {A : List UInt8} {k m : Nat} (h : k = A.length + m) : (pad A).drop k = List.replicate (128 - k) 0:=by
 subst h
 rw [pad,List.drop_append,List.drop_of_length_le (by omega),List.nil_append,List.drop_replicate,Nat.add_sub_cancel_left]
 congr 1
 omega
theorem pad_more {A t : List UInt8} {k m : Nat} (hk : k = A.length) (hm : m = t.length) : (pad A).take k ++ t ++ (pad A).drop (k + m) = pad (A ++ t):=by
 rw [pad_take hk,pad_drop (m:=m) (by omega),pad,List.length_append]
 congr 2
 omega
theorem put_pad {A : List UInt8} {off k n : Nat} (h : off = A.length) : putL (pad A) off k n k = pad (A ++ be n k):=by
 rw [putL,Nat.sub_self,Nat.add_zero]
 exact pad_more h (be_length n k).symm
theorem pad_fin {n i c : Nat} {s : List UInt8} (h : s.length ≤ 104) : (pad (hd n i c s.length ++ be (sm n i c s) 4 ++ s)).take 120 ++ ((pad (hd n i c s.length ++ be (sm n i c s) 4 ++ s)).drop 0).take 8 ++ (pad (hd n i c s.length ++ be (sm n i c s) 4 ++ s)).drop (120 + 8) = sl n i c s:=by
 obtain ⟨A,hA⟩ : ∃ A,hd n i c s.length ++ be (sm n i c s) 4 ++ s = A:=⟨_,rfl⟩
 have hl : A.length = 16 + s.length:=by rw [← hA];simp only [List.length_append,hd_length,be_length]
 have h8 : A.take 8 = mk n i:=by
  rw [← hA,hd]
  simp only [List.append_assoc]
  rw [List.take_append_of_le_length (by rw [mk_length];exact Nat.le_refl _),List.take_of_length_le (by rw [mk_length];exact Nat.le_refl _)]
 rw [sl,hA]
 rw [List.drop_of_length_le (i:=120 + 8) (by rw [pad_length (by omega)];exact Nat.le_refl _),List.append_nil,List.drop_zero]
 congr 1
 ·rw [pad,List.take_append,List.take_of_length_le (by omega),List.take_replicate]
  congr 2
  omega
 ·rw [pad,List.take_append_of_le_length (by omega),h8]
structure Sg (w w' : World) (b : Nat) (l : List UInt8) (n i c : Int) : Prop where
 arr : Arr w' b l
 c0 : w'.cell? ⟨w.heap.size,0,none⟩ = some (.int .i64 n)
 c1 : w'.cell? ⟨w.heap.size,1,none⟩ = some (.int .i64 i)
 c2 : w'.cell? ⟨w.heap.size,2,none⟩ = some (.int .i64 c)
 bel : Below w.heap.size w w'
 lt : w.heap.size < b
theorem Sg.next {w w' w2 : World} {b : Nat} {l l2 : List UInt8} {n i c : Int} (h : Sg w w' b l n i c) (hA : Arr w2 b l2) (hB : Below b w' w2) : Sg w w2 b l2 n i c :=
 ⟨hA,(hB.cell (p:=⟨w.heap.size,0,none⟩) h.lt).trans h.c0,(hB.cell (p:=⟨w.heap.size,1,none⟩) h.lt).trans h.c1,(hB.cell (p:=⟨w.heap.size,2,none⟩) h.lt).trans h.c2,h.bel.trans (hB.mono (Nat.le_of_lt h.lt)),h.lt⟩
theorem Sg.keep {w w' w2 : World} {b : Nat} {l : List UInt8} {n i c : Int} (h : Sg w w' b l n i c) (hB : Below w'.heap.size w' w2) : Sg w w2 b l n i c:=by
 have hlt:=(Array.getElem?_eq_some_iff.1 h.arr).1
 exact h.next ((hB.block b hlt).trans h.arr) (hB.mono (Nat.le_of_lt hlt))
theorem Sg.drew {w w' : World} {b : Nat} {l : List UInt8} {n i c : Int} (h : Sg w w' b l n i c) : Sg w w'.drew b l n i c:=⟨h.arr,h.c0,h.c1,h.c2,h.bel.drew,h.lt⟩
theorem sg_new {w w1 : World} {n i c : Int} (hb : Below (w.heap.size + 1) (w.alloc (.cells #[.int .i64 n,.int .i64 i,.int .i64 c] 161)) w1) : Sg w (w1.alloc (.cells cells0 150)) w1.heap.size zeros n i c:=by
 have hs:=hb.size
 rw [World.size_alloc] at hs
 have hb2 : Below (w.heap.size + 1) (w.alloc (.cells #[.int .i64 n,.int .i64 i,.int .i64 c] 161)) (w1.alloc (.cells cells0 150)):=hb.alloc (by omega) _
 exact ⟨heap_alloc_new _ _,(hb2.cell (p:=⟨w.heap.size,0,none⟩) (Nat.lt_succ_self _)).trans (by rw [World.cell?_alloc_new];rfl),(hb2.cell (p:=⟨w.heap.size,1,none⟩) (Nat.lt_succ_self _)).trans (by rw [World.cell?_alloc_new];rfl),(hb2.cell (p:=⟨w.heap.size,2,none⟩) (Nat.lt_succ_self _)).trans (by rw [World.cell?_alloc_new];rfl),((Below.refl _ w).alloc (Nat.le_refl _) _).trans (hb2.mono (by omega)),by omega⟩
theorem seal_not (n i c : Int) (s : ByteArray) (w : World) (h : ¬ fit n i c) : Calls Tryz.prog 114 #[stV n i c,.string s] w fun e w'=>e = .returned (.tuple #[.string ⟨#[]⟩,.int .i64 1]) ∧ Below w.heap.size w w':=by
 have hf:=fun w=>fit_any n i c w
 rw [fit_no h] at hf
 unfold stV at *
 have HF:=Lib.hid hf
 clear hf h
 go_enter Tryz.func114,Tryz.ntmps114
 go_wp2_with fail
 refine (HF.out _).mono ?_
 rintro e w1 ⟨rfl,hb1⟩
 have HB:=Lib.hid (((Below.refl _ w).alloc (Nat.le_refl _) (.cells #[.int .i64 n,.int .i64 i,.int .i64 c] 161)).trans (hb1.mono (by simp)))
 clear hb1
 go_wp2_with fail
 go_ret2
 exact ⟨rfl,HB.out⟩
theorem seal_long (n i c : Int) (s : ByteArray) (w : World) (h : fit n i c) (hs : 104 < s.size) : Calls Tryz.prog 114 #[stV n i c,.string s] w fun e w'=>e = .returned (.tuple #[.string ⟨#[]⟩,.int .i64 9]) ∧ Below w.heap.size w w':=by
 have hf:=fun w=>fit_any n i c w
 rw [fit_yes h] at hf
 unfold stV at *
 have HF:=Lib.hid hf
 clear hf h
 go_enter Tryz.func114,Tryz.ntmps114
 go_wp2_with fail
 refine (HF.out _).mono ?_
 rintro e w1 ⟨rfl,hb1⟩
 have HB:=Lib.hid (((Below.refl _ w).alloc (Nat.le_refl _) (.cells #[.int .i64 n,.int .i64 i,.int .i64 c] 161)).trans (hb1.mono (by simp)))
 clear hb1
 go_wp2_with fail
 go_ret2
 exact ⟨rfl,HB.out⟩
set_option maxHeartbeats 1600000 in
theorem seal_yes (n i c : Nat) (s : ByteArray) (w : World) (h : fit n i c) (hs : s.size ≤ 104) : Calls Tryz.prog 114 #[stV n i c,.string s] w fun e w'=>e = .returned (.tuple #[.string (str (sl n i c s.data.toList)),.int .i64 0]) ∧ Below w.heap.size w w':=by
 have hf:=fun w=>fit_any n i c w
 rw [fit_yes h] at hf
 unfold stV at *
 have g:=h
 unfold fit at g
 have gn : n < 9223372036854775808:=by omega
 have gi : i < 9223372036854775808:=by omega
 have gc : c < 9223372036854775808:=by omega
 have gs : s.size < 9223372036854775808:=by omega
 have hl:=len_list s
 have hfin:=pad_fin (n:=n) (i:=i) (c:=c) (s:=s.data.toList) (by omega)
 rw [hl] at hfin
 have hsm : ((more (more 0#32 (hd n i c s.size)) s.data.toList)).toNat = sm n i c s.data.toList:=by rw [more_append,← hl];rfl
 have hm:=fun w=>more_any (more 0#32 (hd n i c s.size)) s w (by omega)
 have ho:=fun w=>octets_any (sm n i c s.data.toList) w (by unfold sm;exact BitVec.isLt _)
 rw [hsm] at hm
 rw [oc_be] at ho
 have hsu:=fun w=>sum_any (str (hd n i c s.size)) w (by rw [str_size,hd_length];decide)
 rw [show (str (hd n i c s.size)).data.toList = hd n i c s.size from rfl] at hsu
 obtain ⟨sg,hsg⟩ : ∃ sg,sm n i c s.data.toList = sg:=⟨_,rfl⟩
 obtain ⟨out,hout⟩ : ∃ out,sl n i c s.data.toList = out:=⟨_,rfl⟩
 rw [hsg] at hm ho hfin
 have HOL:=Lib.hid (show out.length = 128 by rw [← hout];exact sl_length _ _ _ _ (by omega))
 rw [hout] at hfin ⊢
 generalize (more 0#32 (hd n i c s.size)).toNat = sh at *
 obtain ⟨os,hos⟩ : ∃ os,str (be sg 4) = os:=⟨_,rfl⟩
 have HOZ:=Lib.hid (show os.size = 4 by rw [← hos,str_size,be_length])
 have HOD:=Lib.hid (show os.data.toList = be sg 4 by rw [← hos];rfl)
 change ∀ w,Calls Tryz.prog 146 #[.int .u32 (sg : Int)] w fun e w'=>e = .returned (.string (str (be sg 4))) ∧ Below w.heap.size w w' at ho
 rw [hos] at ho
 clear hos
 have HF:=Lib.hid hf;have HM:=Lib.hid hm;have HO:=Lib.hid ho;have HSU:=Lib.hid hsu;have HL:=Lib.hid hl;have HFIN:=Lib.hid hfin
 have hz:=zero_arr
 have hG : ∀ w1,Below (w.heap.size + 1) (w.alloc (.cells #[.int .i64 n,.int .i64 i,.int .i64 c] 161)) w1 → Sg w (w1.alloc (.cells cells0 150)) w1.heap.size zeros n i c:=fun w1 hb=>sg_new hb
 generalize cells0 = z0 at *
 have HGF:=Lib.hid hG
 clear hG
 clear hf hm ho hsu hl hfin h g hsg hout hsm
 go_enter Tryz.func114,Tryz.ntmps114
 go_wp2_with fail
 refine (HF.out _).mono ?_
 rintro e w1 ⟨rfl,hb1⟩
 have HG:=Lib.hid (HGF.out w1 (by rw [World.size_alloc] at hb1;exact hb1))
 clear hb1
 go_wp2_with fail
 generalize w1.alloc (.cells z0 150) = w2 at *
 generalize w1.heap.size = b at *
 have c0:=HG.out.c0
 have HG2:=Lib.hid HG.out.drew
 clear HG HGF hz
 go_still_tail 3,(by kernel_rfl)
 clear c0
 change wpList _ _ _ _ _ w2.drew
 generalize w2.drew = w3 at *
 go_wp2_with fail
 refine (put_6 b 0 _ n (pad []) w3 HG2.out.arr (by rw [pad_length (by decide)];decide) (by rw [pad_length (by decide)];decide) gn).mono ?_
 rintro e w4 ⟨rfl,hA,hB⟩
 rw [put_pad (A:=[]) (off:=0) rfl,List.nil_append] at hA
 have HG4:=Lib.hid (HG2.out.next hA hB)
 clear hA hB HG2
 go_wp2_with fail
 have c0:=HG4.out.c1
 have HG5:=Lib.hid HG4.out.drew
 clear HG4
 go_still_tail 3,(by kernel_rfl)
 clear c0
 change wpList _ _ _ _ _ w4.drew
 generalize w4.drew = w5 at *
 go_wp2_with fail
 refine (put_2 b 6 _ i (pad (be n 6)) w5 HG5.out.arr (by rw [pad_length (by rw [be_length];decide)];decide) (by rw [pad_length (by rw [be_length];decide)];decide) gi).mono ?_
 rintro e w6 ⟨rfl,hA,hB⟩
 rw [put_pad (by rw [be_length])] at hA
 have HG6:=Lib.hid (HG5.out.next hA hB)
 clear hA hB HG5
 go_wp2_with fail
 have c0:=HG6.out.c2
 have HG7:=Lib.hid HG6.out.drew
 clear HG6
 go_still_tail 3,(by kernel_rfl)
 clear c0
 change wpList _ _ _ _ _ w6.drew
 generalize w6.drew = w7 at *
 go_wp2_with fail
 refine (put_2 b 8 _ c (pad (mk n i)) w7 HG7.out.arr (by rw [pad_length (by rw [mk_length];decide)];decide) (by rw [pad_length (by rw [mk_length];decide)];decide) gc).mono ?_
 rintro e w8 ⟨rfl,hA,hB⟩
 rw [put_pad (by rw [mk_length])] at hA
 have HG8:=Lib.hid (HG7.out.next hA hB)
 clear hA hB HG7
 go_wp2_with fail
 refine (put_2 b 10 _ s.size (pad (mk n i ++ be c 2)) w8 HG8.out.arr (by rw [pad_length (by rw [List.length_append,mk_length,be_length];decide)];decide) (by rw [pad_length (by rw [List.length_append,mk_length,be_length];decide)];decide) gs).mono ?_
 rintro e w9 ⟨rfl,hA,hB⟩
 rw [put_pad (by rw [List.length_append,mk_length,be_length])] at hA
 have HG9:=Lib.hid (show Sg w w9 b (pad (hd n i c s.size)) n i c from HG8.out.next hA hB)
 clear hA hB HG8
 have ht:=HG9.out.arr.text (off:=0) (k:=12) (cap:=128) (by rw [pad_length (by rw [hd_length];decide)];decide)
 rw [List.drop_zero,pad_take (by rw [hd_length])] at ht
 generalize str (hd n i c s.size) = th at *
 go_wp2_with fail
 refine (HSU.out _).mono ?_
 rintro e w' ⟨rfl,rfl⟩
 go_wp2_with fail
 refine (HM.out _).mono ?_
 rintro e w' ⟨rfl,rfl⟩
 go_wp2_with fail
 have HG10:=Lib.hid HG9.out.drew
 clear HG9 ht
 refine Mix.wp_region_mix [0] [1] [2,3] 2 (by kernel_rfl) (by kernel_rfl) (fun _ _ d _ _ h=>by cases d <;> exact h) ?_
 simp only [Mix.pick,List.filterMap_cons,List.filterMap_nil,List.getElem?_cons_zero,List.getElem?_cons_succ]
 repeat (refine Mix.wpFree_step ?_ (by rfl) ?_ ?_;rotate_left;focus ((intro w');go_simp;(try with_reducible rfl)))
 refine Mix.wpFree_nil ?_
 repeat still_step
 refine wpStill_nil ?_
 generalize w9.drew = w10 at *
 go_wp2_with fail
 refine (HO.out _).mono ?_
 rintro e w11 ⟨rfl,hb⟩
 have HG11:=Lib.hid (HG10.out.keep hb)
 clear hb HG10
 have l12:=Lib.hid (pad_length (A:=hd n i c s.size) (by rw [hd_length];decide))
 go_simp
 rename_i K1 hK1
 refine hK1 _ _ ?_
 clear hK1 K1
 refine wpList_copy_text rfl (.tmp 35) (.tmp 37) rfl b 12 4 _ rfl os rfl (pad (hd n i c s.size)) HG11.out.arr (by rw [HOZ.out];exact Nat.le_refl _) (by rw [HOZ.out,l12.out];decide) (pad (hd n i c s.size ++ be sg 4)) (by rw [HOD.out];exact pad_more (by rw [hd_length]) (by rw [HOZ.out,be_length])) ?_
 intro w12 hA hB
 have HG12:=Lib.hid (HG11.out.next hA hB)
 clear hA hB HG11 l12
 have l16:=Lib.hid (show (hd n i c s.size ++ be sg 4).length = 16 by rw [List.length_append,hd_length,be_length])
 have l20:=show (pad (hd n i c s.size ++ be sg 4 ++ s.data.toList)).length = 128 by rw [pad_length];rw [List.length_append,l16.out,HL.out];omega
 have hpm:=pad_more (A:=hd n i c s.size ++ be sg 4) (t:=s.data.toList) (k:=16) (m:=s.size) (by rw [l16.out]) HL.out.symm
 have hfin:=HFIN.out
 clear HFIN
 generalize pad (hd n i c s.size ++ be sg 4 ++ s.data.toList) = lp at *
 have HFIN:=Lib.hid hfin;have HPM:=Lib.hid hpm;have L20:=Lib.hid l20
 clear hfin hpm l20
 have h128:=Lib.hid (pad_length (A:=hd n i c s.size ++ be sg 4) (by rw [l16.out];decide))
 obtain ⟨lq,hlq⟩ : ∃ lq,pad (hd n i c s.size ++ be sg 4) = lq:=⟨_,rfl⟩
 rw [hlq] at HG12 HPM h128
 clear hlq
 go_wp2_with (refine wpList_copy_text rfl (.tmp 39) (.tmp 40) rfl b 16 104 _ rfl s rfl lq HG12.out.arr hs (by rw [h128.out];omega) lp HPM.out ?_)
 intro w13 hA hB
 have HG13:=Lib.hid (HG12.out.next hA hB)
 clear hA hB HG12 l16
 go_wp2_with fail
 have HG14:=Lib.hid HG13.out.drew
 clear HG13
 go_still_tail 2,(by kernel_rfl)
 change wpList _ _ _ _ _ w13.drew
 generalize w13.drew = w14 at *
 refine wpList_copy_part rfl (.tmp 42) (.tmp 43) rfl b 120 8 _ 0 _ rfl rfl lp HG14.out.arr (by rw [L20.out];decide) (by rw [L20.out];decide) out HFIN.out ?_
 intro w15 hA hB
 have HG15:=Lib.hid (HG14.out.next hA hB)
 have ht:=HG15.out.arr.text (off:=0) (k:=128) (cap:=128) (by rw [HOL.out];decide)
 rw [List.drop_zero,List.take_of_length_le (by rw [HOL.out];decide)] at ht
 clear hA hB HG14 HFIN L20
 go_wp2_with fail
 go_ret2
 exact ⟨rfl,HG15.out.bel⟩
end Go.Proofs.YtnnakhdndmjmiaaGreat
