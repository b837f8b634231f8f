import Derived.Test.YtnnakhdndmjmiaaGreatPuDiskN
import Derived.Test.YtnnakhdndmjmiaaGreatPuSuperI
import Derived.Test.YtnnakhdndmjmiaaGreatPuWalF
import Derived.Test.YtnnakhdndmjmiaaGreatPuWalText
set_option linter.unusedVariables false
set_option maxRecDepth 4000
namespace Go.Proofs.YtnnakhdndmjmiaaGreat.Wal
open Go.RowKit DiskP SegsP WalP Disk
open Ints (IntsAt IntsAt.keep cellsI)
open StampP (opn opn_some)
theorem append_str {ops : Array Oper} {rest : List Oper} {o : Oper} {a : Act} {Q : Exit → Act → World → Prop} (hgd : o.guard = none) (s x : Operand)
  (ho : o.op = .call { callee:=.builtin .append,args:=#[s,x],argTypes:=#[22,22] }) (base : Nat) (w : World) (c : ByteArray)
  (v : Value) (n : Nat) (xs : List ByteArray) (hs : a.eval s = v) (hown : w.ownsRow base 9 1 v n (xs.map Value.string)) (hx : a.eval x = .slice (some ⟨w.heap.size,0,none⟩) 1 1)
  (hn : n ≤ 4000000) (hbase : base ≤ w.heap.size)
  (h : ∀ v' w',w'.ownsRow base 9 1 v' (n + 1) ((xs ++ [c]).map Value.string) → (w.alloc (.cells #[.string c] 9)).grownBy w' v.ownBlock → wpList Tryz.prog ops Q rest (a.put o.dst v') w') :
  wpList Tryz.prog ops Q (o :: rest) a (w.alloc (.cells #[.string c] 9)):=by
 obtain ⟨i0,hi,hz0,hz1,hz2⟩:=info_parts info_string
 refine wpList_append_own _ hgd s x 22 ho base 9 i0 _ 1 16 Tryz.underlying22 hi hz0 hz1 hz2 rfl (by decide) v n (xs.map Value.string) hs (hown.alloc _) ⟨w.heap.size,0,none⟩ 1 1 [.string c] hx rfl (Ints.cell_one_new _ _ _) (by simp [Value.oneCell']) ?_ ?_ ?_ fun v' w' h1 h2 _=>h v' w' (by rw [List.map_append];exact h1) h2
 ·unfold maxLen;omega
 ·omega
 ·simp;omega
theorem append_str1 {ops : Array Oper} {rest : List Oper} {o : Oper} {a : Act} {Q : Exit → Act → World → Prop} (hgd : o.guard = none) (s x : Operand)
  (ho : o.op = .call { callee:=.builtin .append,args:=#[s,x],argTypes:=#[22,22] }) (base : Nat) (w : World) (k : Nat) (hk : w.heap.size = k) (c : ByteArray)
  (v : Value) (n : Nat) (xs : List ByteArray) (hs : a.eval s = v) (hown : w.ownsRow base 9 1 v n (xs.map Value.string)) (hx : a.eval x = .slice (some ⟨k,0,none⟩) 1 1)
  (hn : n ≤ 4000000) (hbase : base ≤ w.heap.size)
  (h : ∀ v' w',w'.ownsRow base 9 1 v' (n + 1) ((xs ++ [c]).map Value.string) → (w.alloc (.cells #[.string c] 9)).grownBy w' v.ownBlock → wpList Tryz.prog ops Q rest (a.put o.dst v') w') :
  wpList Tryz.prog ops Q (o :: rest) a (w.alloc (.cells #[.string c] 9)):=by
 subst hk
 exact append_str hgd s x ho base w c v n xs hs hown hx hn hbase h
theorem extra2 : Builder.Extra Tryz.prog Tryz.lays156_ren where
 sizeBuilder:=by kernel_rfl
 liesBuilder:=by kernel_rfl
 t5:=Tryz.underlying5
 a5:=Tryz.isAgg5
 z5:=Tryz.sizeOf5
 v5:=Tryz.zeroValue5
 infoByte:=by kernel_rfl
 cellsByte:=by kernel_rfl
 sizeByte:=by kernel_rfl
 neB5:=by decide
theorem going_size {num c : Nat} {g : List ByteArray} {ts : List (List UInt8)} (h : Going num g c ts) : ∀ t ∈ ts,t.length ≤ 104:=fun t ht=>by
 obtain ⟨i,hi,rfl⟩:=List.mem_iff_getElem.1 ht
 obtain ⟨s,_,b⟩:=h i hi
 obtain ⟨_,_,h3⟩:=opn_some b
 simp only [List.getD,List.getElem?_eq_getElem hi,Option.getD_some] at h3
 exact h3
theorem flatten_size : ∀ (ts : List (List UInt8)),(∀ t ∈ ts,t.length ≤ 104) → ts.flatten.length ≤ 104 * ts.length
 | [],_=>by simp
 | t :: ts,h=>by
  have h1:=flatten_size ts fun t ht=>h t (by simp [ht])
  have h2:=h t (by simp)
  simp only [List.flatten_cons,List.length_append,List.length_cons]
  omega
theorem bs_size (s : List UInt8) : (bs s).size = s.length:=by rw [← tl_length,tl_bs]
noncomputable def txV (num : Nat) (g : List ByteArray) : Value:=match first num g with
 | some s=>.tuple #[.string (bs s),.int .i64 (pc s.length : Int),.bool true]
 | none=>.tuple #[.string ⟨#[]⟩,.int .i64 0,.bool false]
theorem txV_none {num : Nat} {g : List ByteArray} (h : first num g = none) : txV num g = .tuple #[.string ⟨#[]⟩,.int .i64 0,.bool false]:=by unfold txV;rw [h]
theorem txV_some {num : Nat} {g : List ByteArray} {s : List UInt8} (h : first num g = some s) : txV num g = .tuple #[.string (bs s),.int .i64 (pc s.length : Int),.bool true]:=by unfold txV;rw [h]
theorem meas_next (i c : Nat) (h : i < c) (h0 : 0 < i) : (if intOf (.int .i64 ((i : Int) + 1)) = 0 then 2000 else (intOf (.int .i64 (c : Int)) - intOf (.int .i64 ((i : Int) + 1))).toNat) < (if intOf (.int .i64 (i : Int)) = 0 then 2000 else (intOf (.int .i64 (c : Int)) - intOf (.int .i64 (i : Int))).toNat):=by
 show (if (i : Int) + 1 = 0 then 2000 else ((c : Int) - ((i : Int) + 1)).toNat) < (if (i : Int) = 0 then 2000 else ((c : Int) - (i : Int)).toNat)
 rw [if_neg (by omega),if_neg (by omega)];omega
theorem own_cap {w : World} {B n g cap : Nat} {e : TypeId} {xs : List Value} (h : w.ownsRow B e 1 (.slice (some ⟨g,0,none⟩) n cap) n xs) : n ≤ cap:=by
 rcases h.2 with ⟨e,_⟩ | ⟨g',cap',cur,hv,_,_,h1,_⟩
 ·cases e
 ·cases hv;exact h1
theorem getD_get {l : List ByteArray} {i : Nat} (h : i < l.length) : l[i]? = some (l.getD i ByteArray.empty):=by simp [List.getD,h]
theorem strs_cells {w : World} {g len : Nat} {xs : List ByteArray} (h : StrsAt w (some ⟨g,0,none⟩) len xs) (i : Nat) (hi : i < xs.length) : w.cell? ⟨g,0 + i,none⟩ = some (.string (xs.getD i ByteArray.empty)):=by
 rcases h.2.2 with e | ⟨b,off,he,_,hc⟩
 ·have:=h.1;omega
 ·cases he;exact hc i (by have:=h.1;omega)
set_option maxHeartbeats 4000000 in
theorem text_ls (L : List Nat) (b d n num : Nat) (lg : Lg) (st : St) (w : World) (h : LS w L b d lg st) (hok : Ok n st) (hn : n ≤ 900000) (a : Option Addr) (la ca : Nat) (ps : List Int) (hI : IntsAt w a la ps) (hla : la ≤ 1000000)
  (hr : ∀ p ∈ ps,(rd st p).2 = 0 ∧ (rd st p).1.size ≤ 9223372036854775807) (hnum : num ≤ 9223372036854775807) :
  Calls Tryz.prog 101 #[.pointer (some ⟨b,0,none⟩),.slice a la ca,.int .i64 (num : Int)] w fun e w'=>e = .returned (txV num (WalP.seen st ps)) ∧ Below w.heap.size w w':=by
 have hpl:=hI.1
 have hgl : (WalP.seen st ps).length = la:=by unfold WalP.seen;rw [List.length_map,hpl]
 have hgs : ∀ i,i < la → (WalP.seen st ps)[i]? = some (rd st (ps.getD i 0)).1:=fun i hi=>by
  unfold WalP.seen
  simp [List.getD,show i < ps.length by omega]
 have hrd : ∀ i,i < la → (rd st (ps.getD i 0)).2 = 0 ∧ (rd st (ps.getD i 0)).1.size ≤ 9223372036854775807:=fun i hi=>hr _ (Ints.getD_mem (by omega))
 have hread:=fun w p (h : LS w L b d lg st) (h2 : (rd st p).2 = 0)=>read_ls n L b d lg st p w h hok (by omega) h2
 have HLS:=Lib.hid (fun w' (hb : Below w.heap.size w w')=>h.below hb)
 have HI:=Lib.hid (fun w' (hb : Below w.heap.size w w')=>hI.keep hb)
 have HGL:=Lib.hid hgl;have HGS:=Lib.hid hgs;have HRD:=Lib.hid hrd;have HREAD:=Lib.hid hread
 clear h hI hgl hgs hrd hread hr hok hpl
 generalize WalP.seen st ps = g at *
 go_enter Tryz.func101,Tryz.ntmps101
 go_wp2_with fail
 go_loopw [9,10,11] (fun v i k wr => ∃ (c : Nat) (ts : List (List UInt8)),i = .int .i64 (ts.length : Int) ∧ k = .int .i64 (c : Int) ∧ (ts.length = 0 ∧ c = 1 ∨ 0 < ts.length ∧ ts.length ≤ c ∧ c ≤ 512) ∧ ts.length ≤ la ∧ Hid (Going num g c ts) ∧ Hid (wr.ownsRow w.heap.size 9 1 v ts.length ((ts.map bs).map Value.string)) ∧ Hid (Below w.heap.size w wr)) (fun _ i k _=>if intOf i = 0 then 2000 else (intOf k - intOf i).toNat)
 case atStart=>exact ⟨1,[],rfl,rfl,.inl ⟨rfl,rfl⟩,Nat.zero_le _,Lib.hid (going_nil _ _ _),Lib.hid (World.ownsRow_nil _ _ _ _),Lib.hid (Below.refl _ w)⟩
 case round =>
  obtain ⟨c,ts,rfl,rfl,hst,hjl,hG,hO,hB⟩:=hrel
  obtain ⟨j,hj⟩ : ∃ j,ts.length = j:=⟨_,rfl⟩
  rw [hj] at hst hjl hO
  rw [hj]
  have HJ:=Lib.hid hj
  clear hj
  by_cases hlt : j < c
  rotate_left
  ·have hst2 : 0 < j ∧ j = c ∧ c ≤ 512:=by omega
   obtain ⟨h0,rfl,h512⟩:=hst2
   obtain ⟨g2,cap,hv⟩:=owns_slice hO.out h0
   have hO':=hO.out
   rw [hv] at hO'
   subst hv
   have hcap : j ≤ cap:=own_cap hO'
   have hsz:=flatten_size ts (going_size hG.out)
   rw [HJ.out] at hsz
   have hcell : ∀ (i : Nat) x,(ts.map bs)[i]? = some x → wr.cell? ⟨g2,0 + i,none⟩ = some (.string x):=fun i x hx=>by
    rw [Nat.zero_add];exact Disk.owns_cell hO' rfl (by rw [List.getElem?_map,hx];rfl)
   have hml : (ts.map bs).length = j:=by rw [List.length_map];exact HJ.out
   have hjn:=Any.strings_Join Tryz.lays156 extra2 g2 0 cap (ts.map bs) ⟨#[]⟩ wr hcell (owns_lt hO' rfl) (by rw [hml];omega) (by rw [hml];exact hcap)
    (by rw [show (⟨#[]⟩ : ByteArray).data.toList = [] from rfl,bs_flatten];omega)
   rw [hml,show (⟨#[]⟩ : ByteArray).data.toList = [] from rfl,bs_flatten] at hjn
   obtain ⟨S,hS⟩ : ∃ S,ts.flatten = S:=⟨_,rfl⟩
   rw [hS] at hjn hsz
   have hsp:=fun w=>split_any (bs S) w (by rw [bs_size];omega)
   rw [parts_bs] at hsp
   have hpl : ((pts S).map bs).length = pc S.length:=by rw [List.length_map,pts_length]
   have HCELL:=Lib.hid hcell;have HML:=Lib.hid hml;have HJN:=Lib.hid hjn;have HSP:=Lib.hid hsp;have HS:=Lib.hid hS
   have hlt0:=owns_lt hO' rfl
   have hB':=hB.out
   unfold SplitMade at HSP
   rw [hpl] at HSP
   have HPL:=Lib.hid hpl
   have hp512 : pc S.length ≤ 512:=by unfold pc;omega
   have hps : pc S.length ≤ ((pts S).map bs).length:=by omega
   have hms : j ≤ (ts.map bs).length:=by omega
   clear hst hO hO' hcell hml hjn hsp hS hpl HI HRD HREAD HLS HGS hB
   go_wp2_with fail
   refine HJN.out.mono ?_
   rintro e w2 ⟨rfl,hb2⟩
   have HB2:=Lib.hid (hB'.trans (hb2.mono hB'.size))
   have HC2:=Lib.hid (fun (i : Nat) x hx=>(hb2.cell (p:=⟨g2,0 + i,none⟩) hlt0).trans (HCELL.out i x hx))
   have hlt2 : g2 < w2.heap.size:=by have:=hb2.size;omega
   clear hb2 HCELL hB'
   go_wp2_with fail
   refine (HSP.out w2).mono ?_
   rintro e w3 ⟨g3,cap3,rfl,hS3,hg3,hb3⟩
   have HB3:=Lib.hid (HB2.out.trans (hb3.mono HB2.out.size))
   have heq:=Tryz.slices_Equal_string g2 0 j cap g3 0 (pc S.length) cap3 (ts.map bs) ((pts S).map bs) w3 hms hps (by omega) (by omega)
    (fun i hi=>(hb3.cell (p:=⟨g2,0 + i,none⟩) hlt2).trans (HC2.out i _ (getD_get hi))) (fun i hi=>strs_cells hS3 i hi)
   rw [List.take_of_length_le (Nat.le_of_eq HML.out),List.take_of_length_le (Nat.le_of_eq HPL.out)] at heq
   have HEQ:=Lib.hid heq
   clear heq hS3 hb3 HC2 HB2 hms hps
   by_cases hts : ts = pts S
   ·have hd:=first_done hG.out (by rw [HJ.out];exact h0) HJ.out (by rw [HS.out];exact hts)
    rw [HS.out] at hd
    have HN:=Lib.hid (txV_some hd.1)
    have hpcj : pc S.length = j:=hd.2.trans HJ.out
    have HPJ:=Lib.hid hpcj
    have HEQ2 : Hid (Calls Tryz.prog 138 #[.slice (some ⟨g2,0,none⟩) j cap,.slice (some ⟨g3,0,none⟩) (pc S.length) cap3] w3 fun e w'=>e = .returned (.bool true) ∧ ∃ q,w' = w3.drewN q):=Lib.hid (by have:=HEQ.out;rw [decide_eq_true (by rw [hts])] at this;exact this)
    clear hd hpcj hts HEQ hG
    go_wp2_with fail
    refine HEQ2.out.mono ?_
    rintro e w4 ⟨rfl,q,rfl⟩
    go_wp2_with fail
    go_ret3
    exact ⟨by rw [HN.out,HPJ.out];rfl,below_drewN' HB3.out q⟩
   ·have hd:=first_not hG.out (by rw [HJ.out];exact h0) HJ.out (by rw [HS.out];exact hts)
    have HN:=Lib.hid (txV_none hd)
    have HEQ2 : Hid (Calls Tryz.prog 138 #[.slice (some ⟨g2,0,none⟩) j cap,.slice (some ⟨g3,0,none⟩) (pc S.length) cap3] w3 fun e w'=>e = .returned (.bool false) ∧ ∃ q,w' = w3.drewN q):=Lib.hid (by have:=HEQ.out;rw [decide_eq_false (fun g=>hts (bs_map_inj g))] at this;exact this)
    clear hd hts HEQ hG
    go_wp2_with fail
    refine HEQ2.out.mono ?_
    rintro e w4 ⟨rfl,q,rfl⟩
    go_wp2_with fail
    go_ret3
    exact ⟨by rw [HN.out];rfl,below_drewN' HB3.out q⟩
  ·by_cases hjn : j = la
   ·have hnone : first num g = none:=by
     have hgn : g[j]? = none:=List.getElem?_eq_none (by rw [HGL.out];omega)
     rcases hst with ⟨h0,_⟩ | ⟨h0,h1,_⟩
     ·refine first_stop0 fun t ht=>?_
      rw [h0] at hgn;rw [hgn] at ht;cases ht
     ·refine first_stop hG.out (by rw [HJ.out];exact h0) (by rw [HJ.out];exact hlt) fun t ht=>?_
      rw [HJ.out,hgn] at ht;cases ht
    have HN:=Lib.hid (txV_none hnone)
    have hjn' : (j : Int) = (la : Int):=by omega
    clear hnone hG hO HREAD HRD HGS HI HLS
    go_wp2_with fail
    go_ret3
    exact ⟨by rw [HN.out];rfl,hB.out⟩
   ·have hjla : j < la:=by omega
    have hgj:=HGS.out j hjla
    obtain ⟨hr2,hz⟩:=HRD.out j hjla
    obtain ⟨b1,o1,rfl,hb1,hd1⟩:=(HI.out _ hB.out).2.2.resolve_left (by omega)
    have d1:=hd1 j hjla
    have hrr:=HREAD.out _ (ps.getD j 0) (HLS.out _ hB.out) hr2
    generalize ps.getD j 0 = p at *
    generalize (rd st p).1 = s0 at *
    have hop:=fun w=>open_any s0 w hz
    have HR1:=Lib.hid hrr;have HOP:=Lib.hid hop;have HGJ:=Lib.hid hgj
    clear hrr hop hgj hd1 hr2 hz HREAD HRD HGS
    go_wp2_with fail
    refine HR1.out.mono ?_
    rintro e w2 ⟨rfl,hb2⟩
    have hB2:=hB.out.trans (hb2.mono hB.out.size)
    have HB2:=Lib.hid hB2
    clear hB2
    go_wp2_with fail
    refine (HOP.out w2).mono ?_
    rintro e w3 ⟨rfl,hb3⟩
    have HB3:=Lib.hid (HB2.out.trans (hb3.mono HB2.out.size))
    have HO3:=Lib.hid (owns_heap (owns_heap hO.out fun k hk=>hb2.block k (owns_lt hO.out hk)) fun k hk=>hb3.block k (by have:=owns_lt hO.out hk;have:=hb2.size;omega))
    clear hb2 hb3 hO hB d1 HR1 HOP
    rcases ho : opn s0.data.toList with _ | ⟨n',i',c',p'⟩
    ·simp only [opV,stV]
     have hnone : first num g = none:=by
      rcases hst with ⟨h0,_⟩ | ⟨h0,h1,_⟩
      ·refine first_stop0 fun t ht c p=>?_
       rw [← h0,HGJ.out] at ht
       obtain rfl:=Option.some.inj ht
       show opn s0.data.toList ≠ _
       rw [ho];simp
      ·refine first_stop hG.out (by rw [HJ.out];exact h0) (by rw [HJ.out];exact hlt) fun t ht=>?_
       rw [HJ.out,HGJ.out] at ht
       obtain rfl:=Option.some.inj ht
       intro p
       show opn s0.data.toList ≠ _
       rw [ho];simp
     have HN:=Lib.hid (txV_none hnone)
     clear hnone hG ho
     by_cases hj0 : j = 0
     ·subst hj0
      go_wp2_with fail
      go_ret3
      exact ⟨by rw [HN.out];rfl,HB3.out.alloc HB3.out.size _⟩
     ·have hj1 : ((j : Int) == 0) = false:=beq_eq_false_iff_ne.2 (by omega)
      go_wp2_with fail
      go_ret3
      exact ⟨by rw [HN.out];rfl,HB3.out.alloc HB3.out.size _⟩
    ·simp only [opV,stV]
     have HO4:=Lib.hid ho
     have hf:=(opn_some ho).2.1
     unfold StampP.fit at hf
     have hc5 : 1 ≤ c' ∧ c' ≤ 512:=by omega
     clear ho hf
     by_cases hj0 : j = 0
     ·subst hj0
      by_cases e1 : n' = num
      ·subst e1
       by_cases e2 : i' = 0
       ·subst e2
        have HG2:=Lib.hid (going_snoc (num:=n') (g:=g) (c:=c') (p:=p') (ts:=ts) (t:=s0) (by have h0:=HJ.out;rw [List.length_eq_zero_iff.1 h0];exact going_nil _ _ _) (by rw [HJ.out];exact HGJ.out) (by rw [HJ.out];exact HO4.out))
        have HJL:=Lib.hid (show (ts ++ [p']).length = 1 by rw [List.length_append,HJ.out];rfl)
        have HBW:=HB3.out.alloc HB3.out.size (.cells #[.int .i64 (n' : Int),.int .i64 (0 : Int),.int .i64 (c' : Int)] 161)
        have HOW:=Lib.hid (HO3.out.alloc (.cells #[.int .i64 (n' : Int),.int .i64 (0 : Int),.int .i64 (c' : Int)] 161))
        have HBW2:=Lib.hid HBW
        clear HBW hG HO4
        go_wp2_with (at_builtin;refine append_str1 rfl (.tmp 50) (.tmp 52) rfl w.heap.size _ (w3.heap.size + 1) (World.size_alloc _ _) (str p') _ 0 (ts.map bs) rfl HOW.out rfl (by omega) HBW2.out.size ?_)
        intro v' w5 hown hgr
        have HB5:=Lib.hid ((HBW2.out.alloc HBW2.out.size (.cells #[.string (str p')] 9)).grown hgr (by have:=HBW2.out.size;rw [World.size_alloc];omega) (fun q hq=>(HOW.out.lt q hq).1))
        have HO5:=Lib.hid (show w5.ownsRow w.heap.size 9 1 v' (0 + 1) (((ts ++ [p']).map bs).map Value.string) by rw [List.map_append,List.map_append,List.map_map];exact hown)
        clear hown hgr
        go_wp2_with fail
        go_roundw
        case rel=>exact ⟨c',ts ++ [p'],by rw [HJL.out];rfl,rfl,.inr ⟨by rw [HJL.out];omega,by rw [HJL.out];omega,hc5.2⟩,by rw [HJL.out];omega,HG2,by rw [HJL.out];exact HO5,HB5⟩
        case measure=>simp [intOf];omega
       ·have e2' : ¬ ((i' : Int) = 0):=by omega
        have hnone : first n' g = none:=by
         refine first_stop0 fun t ht c p=>?_
         rw [HGJ.out] at ht
         obtain rfl:=Option.some.inj ht
         show opn s0.data.toList ≠ _
         rw [HO4.out];simp;omega
        skip
        have HN:=Lib.hid (txV_none hnone)
        clear hnone hG HO4
        go_wp2_with fail
        go_ret3
        exact ⟨by rw [HN.out];rfl,HB3.out.alloc HB3.out.size _⟩
      ·have e1' : ¬ ((n' : Int) = (num : Int)):=by omega
       have hnone : first num g = none:=by
        refine first_stop0 fun t ht c p=>?_
        rw [HGJ.out] at ht
        obtain rfl:=Option.some.inj ht
        show opn s0.data.toList ≠ _
        rw [HO4.out];simp;omega
       skip
       have HN:=Lib.hid (txV_none hnone)
       clear hnone hG HO4
       go_wp2_with fail
       go_ret3
       exact ⟨by rw [HN.out];rfl,HB3.out.alloc HB3.out.size _⟩
     ·have hj1 : ((j : Int) == 0) = false:=beq_eq_false_iff_ne.2 (by omega)
      by_cases e1 : n' = num
      ·subst e1
       by_cases e2 : i' = j
       ·subst e2
        by_cases e3 : c' = c
        ·subst e3
         have HG2:=Lib.hid (going_snoc (num:=n') (g:=g) (p:=p') (ts:=ts) (t:=s0) hG.out (by rw [HJ.out];exact HGJ.out) (by rw [HJ.out];exact HO4.out))
         have HJL:=Lib.hid (show (ts ++ [p']).length = i' + 1 by rw [List.length_append,HJ.out];rfl)
         have HBW:=HB3.out.alloc HB3.out.size (.cells #[.int .i64 (n' : Int),.int .i64 (i' : Int),.int .i64 (c' : Int)] 161)
         have HOW:=Lib.hid (HO3.out.alloc (.cells #[.int .i64 (n' : Int),.int .i64 (i' : Int),.int .i64 (c' : Int)] 161))
         have HBW2:=Lib.hid HBW
         clear HBW hG HO4
         go_wp2_with (at_builtin;refine append_str1 rfl (.tmp 50) (.tmp 52) rfl w.heap.size _ (w3.heap.size + 1) (World.size_alloc _ _) (str p') _ i' (ts.map bs) rfl HOW.out rfl (by omega) HBW2.out.size ?_)
         intro v' w5 hown hgr
         have HB5:=Lib.hid ((HBW2.out.alloc HBW2.out.size (.cells #[.string (str p')] 9)).grown hgr (by have:=HBW2.out.size;rw [World.size_alloc];omega) (fun q hq=>(HOW.out.lt q hq).1))
         have HO5:=Lib.hid (show w5.ownsRow w.heap.size 9 1 v' (i' + 1) (((ts ++ [p']).map bs).map Value.string) by rw [List.map_append,List.map_append,List.map_map];exact hown)
         clear hown hgr
         go_wp2_with fail
         go_roundw
         case rel=>exact ⟨c',ts ++ [p'],by rw [HJL.out];go_num,rfl,.inr ⟨by rw [HJL.out];omega,by rw [HJL.out];omega,hc5.2⟩,by rw [HJL.out];omega,HG2,by rw [HJL.out];exact HO5,HB5⟩
         case measure=>(have hme:=meas_next i' c' (by omega) (by omega);simpa [intOf] using hme)
        ·have e3' : ¬ ((c' : Int) = (c : Int)):=by omega
         have hnone : first n' g = none:=by
          refine first_stop hG.out (by rw [HJ.out];omega) (by rw [HJ.out];exact hlt) fun t ht=>?_
          rw [HJ.out,HGJ.out] at ht
          obtain rfl:=Option.some.inj ht
          intro p
          show opn s0.data.toList ≠ _
          rw [HO4.out,HJ.out];simp;omega
         skip
         have HN:=Lib.hid (txV_none hnone)
         clear hnone hG HO4
         go_wp2_with fail
         go_ret3
         exact ⟨by rw [HN.out];rfl,HB3.out.alloc HB3.out.size _⟩
       ·have e2' : ¬ ((i' : Int) = (j : Int)):=by omega
        have hnone : first n' g = none:=by
         refine first_stop hG.out (by rw [HJ.out];omega) (by rw [HJ.out];exact hlt) fun t ht=>?_
         rw [HJ.out,HGJ.out] at ht
         obtain rfl:=Option.some.inj ht
         intro p
         show opn s0.data.toList ≠ _
         rw [HO4.out,HJ.out];simp;omega
        skip
        have HN:=Lib.hid (txV_none hnone)
        clear hnone hG HO4
        go_wp2_with fail
        go_ret3
        exact ⟨by rw [HN.out];rfl,HB3.out.alloc HB3.out.size _⟩
      ·have e1' : ¬ ((n' : Int) = (num : Int)):=by omega
       have hnone : first num g = none:=by
        refine first_stop hG.out (by rw [HJ.out];omega) (by rw [HJ.out];exact hlt) fun t ht=>?_
        rw [HJ.out,HGJ.out] at ht
        obtain rfl:=Option.some.inj ht
        intro p
        show opn s0.data.toList ≠ _
        rw [HO4.out,HJ.out];simp;omega
       skip
       have HN:=Lib.hid (txV_none hnone)
       clear hnone hG HO4
       go_wp2_with fail
       go_ret3
       exact ⟨by rw [HN.out];rfl,HB3.out.alloc HB3.out.size _⟩
end Go.Proofs.YtnnakhdndmjmiaaGreat.Wal
/-
 How what is kept stands in memory;the contract of base: a log whose base stands.
-/
set_option linter.unusedVariables false
set_option maxRecDepth 4000
namespace Go.Proofs.YtnnakhdndmjmiaaGreat.Wal
open Go.RowKit DiskP SegsP WalP Disk
open Ints (IntsAt IntsAt.keep cellsI)
def StrsF (w : World) (F : List Nat) (a : Option Addr) (n : Nat) (ss : List ByteArray) : Prop:=StrsAt w a n ss ∧ (0 < n → ∀ y,a = some y → y.block ∉ F)
theorem upd_out {F F' : List Nat} {w w' : World} (hU : Upd F w w' F') {k : Nat} (hk : k < w.heap.size) (h : k ∉ F) : k ∉ F':=fun hm=>(hU.sub k hm).elim h (fun g=>by omega)
theorem StrsF.upd {w w' : World} {F F' : List Nat} {a : Option Addr} {n : Nat} {ss : List ByteArray} (h : StrsF w F a n ss) (hU : Upd F w w' F') : StrsF w' F' a n ss :=
 ⟨strs_upd h.1 h.2 hU,fun h0 y hy=>upd_out hU (ints_lt2 h.1 h0 y hy) (h.2 h0 y hy)⟩
def BatsF (w : World) (F : List Nat) (a : Option Addr) (n : Nat) (B : List (List (List UInt8))) : Prop :=
 n = B.length ∧ (n = 0 ∨ ∃ b off,a = some ⟨b,off,none⟩ ∧ b < w.heap.size ∧ b ∉ F ∧ ∀ i,i < n → ∃ a' n' c',w.cell? ⟨b,off + i,none⟩ = some (.slice a' n' c') ∧ (a' = none → c' = 0) ∧ StrsF w F a' n' ((B.getD i []).map bs))
theorem BatsF.upd {w w' : World} {F F' : List Nat} {a : Option Addr} {n : Nat} {B : List (List (List UInt8))} (h : BatsF w F a n B) (hU : Upd F w w' F') : BatsF w' F' a n B:=by
 refine ⟨h.1,h.2.imp id ?_⟩
 rintro ⟨b,off,rfl,hb,hF,hc⟩
 refine ⟨b,off,rfl,by have:=hU.size;omega,upd_out hU hb hF,fun i hi=>?_⟩
 obtain ⟨a',n',c',h1,h2,h3⟩:=hc i hi
 exact ⟨a',n',c',(cell_upd' (p:=⟨b,off + i,none⟩) hU hb hF).trans h1,h2,h3.upd hU⟩
def keptV (K : Kept) (a : Option Addr) (c : Nat) : Value:=.agg #[.bool K.base.isSome,.string (bs (K.base.getD [])),.slice a K.bats.length c]
def KeptF (w : World) (F : List Nat) (v : Value) (K : Kept) : Prop := ∃ a c,v = keptV K a c ∧ (a = none → c = 0) ∧ BatsF w F a K.bats.length K.bats
theorem KeptF.upd {w w' : World} {F F' : List Nat} {v : Value} {K : Kept} (h : KeptF w F v K) (hU : Upd F w w' F') : KeptF w' F' v K:=by
 obtain ⟨a,c,h1,h2,h3⟩:=h
 exact ⟨a,c,h1,h2,h3.upd hU⟩
theorem base_no (L : List Nat) (b d : Nat) (lg : Lg) (st : St) (w : World) (h : LS w L b d lg st) (hc : lg.x.chk = []) :
  Calls Tryz.prog 49 #[.pointer (some ⟨b,0,none⟩)] w fun e w'=>e = .returned (.tuple #[.string ⟨#[]⟩,.bool false]) ∧ w = w':=by
 obtain ⟨hD,ca,cc,la,lc,hk,h1,h2,h3⟩:=h
 obtain ⟨c0,c1,c2,c3,c4,c5,c6,c7,c8,c9⟩:=lk_cells hk
 rw [hc] at c5
 clear c0 c1 c2 c3 c4 c6 c7 c8 c9 hk hD h1 h2 h3
 go_enter Tryz.func49,Tryz.ntmps49
 go_wp2_with fail
 go_ret2
 exact ⟨rfl,rfl⟩
set_option maxHeartbeats 2000000 in
theorem base_yes (L : List Nat) (b d n : Nat) (lg : Lg) (st : St) (w : World) (h : LS w L b d lg st) (hok : Ok n st) (hn : n ≤ 900000) (hc : 0 < lg.x.chk.length) (hl : lg.x.chk.length ≤ 80) (s : List UInt8) (cg : Nat) (hcg : lg.x.cg = (cg : Int)) (hcg2 : cg ≤ 9223372036854775807)
  (hf : first cg (WalP.seen st (secs lg.x.chk)) = some s) (hs : (s.length : Int) = lg.x.size) (hr : ∀ p ∈ secs lg.x.chk,(rd st p).2 = 0 ∧ (rd st p).1.size ≤ 9223372036854775807) :
  Calls Tryz.prog 49 #[.pointer (some ⟨b,0,none⟩)] w fun e w'=>e = .returned (.tuple #[.string (bs s),.bool true]) ∧ Below w.heap.size w w':=by
 have hlen:=secs_len lg.x.chk
 have htx:=fun w1 (h1 : LS w1 L b d lg st) a ca (hI : IntsAt w1 a (secs lg.x.chk).length (secs lg.x.chk))=>text_ls L b d n cg lg st w1 h1 hok hn a (secs lg.x.chk).length ca (secs lg.x.chk) hI (by omega) hr hcg2
 rw [txV_some hf] at htx
 have hLS:=fun w' (hb : Below w.heap.size w w')=>h.below hb
 obtain ⟨hD,ca,cc,la,lc,hk,h1,h2,h3⟩:=h
 obtain ⟨c0,c1,c2,c3,c4,c5,c6,c7,c8,c9⟩:=lk_cells hk
 have hbb:=heap_lt hk.blk
 have HS:=Lib.hid (sectors_any ca lg.x.chk.length cc lg.x.chk w.drew (hk.chk.keep (Below.refl _ w).drew) hl)
 rw [hcg] at c4
 rw [← hs] at c3
 have hsz:=bs_size s
 generalize secs lg.x.chk = R at *
 generalize lg.x.chk.length = n5 at *
 generalize bs s = sb at *
 generalize (pc s.length : Int) = pcs at *
 have hszI : ((sb.size : Nat) : Int) = (s.length : Int):=by omega
 have hne : ((sb.size : Int) != (s.length : Int)) = false:=by rw [hszI];simp
 have hc' : ((n5 : Int) == 0) = false:=beq_eq_false_iff_ne.2 (by omega)
 generalize (s.length : Int) = sl at *
 have HTX:=Lib.hid htx;have HLS:=Lib.hid hLS
 clear htx hLS c0 c1 c2 c6 c7 c8 c9 hk hD h1 h2 h3 hf hr hok hs hcg hsz hszI
 go_enter Tryz.func49,Tryz.ntmps49
 go_wp2_with fail
 go_region_held3 (fun w'=>w'.cell? ⟨b,4,none⟩ = some (.int .i64 (cg : Int)) ∧ w'.cell? ⟨b,5,none⟩ = some (.slice ca n5 cc))
  (first | with_reducible exact ⟨f4,f5⟩ | with_reducible exact ⟨g4,g5⟩ | exact ⟨c4,c5⟩)
  (first
   | (go_at_call 101;refine (HTX.out w1 (HLS.out _ HB1.out) a1 c1 hI1).mono ?_;rintro e w2 ⟨rfl,hB2⟩;have HB2:=Lib.hid (HB1.out.trans (hB2.mono HB1.out.size));have f4:=(HB2.out.cell (p:=⟨b,4,none⟩) hbb).trans c4;have f5:=(HB2.out.cell (p:=⟨b,5,none⟩) hbb).trans c5)
   | (go_at_call 61;refine HS.out.mono ?_;rintro e w1 ⟨a1,c1,rfl,hI1,hc1,hn1,hB1,hw1⟩;have HB1 : Hid (Below w.heap.size w w1):=Lib.hid ⟨hB1.os,hB1.tape,hB1.output,hB1.size,hB1.block⟩;have g4:=(HB1.out.cell (p:=⟨b,4,none⟩) hbb).trans c4;have g5:=(HB1.out.cell (p:=⟨b,5,none⟩) hbb).trans c5))
 have f3:=(HB2.out.cell (p:=⟨b,3,none⟩) hbb).trans c3
 clear f4 f5 g4 g5 hI1 hc1 hn1 hB1 hw1 hB2 c3 c4 c5 HS HTX HLS
 go_wp2_with fail
 go_ret2
 exact ⟨rfl,HB2.out⟩
end Go.Proofs.YtnnakhdndmjmiaaGreat.Wal
/-
 The contract of current: a disk on which a superblock counts;a new log's.
-/
set_option linter.unusedVariables false
set_option maxRecDepth 4000
namespace Go.Proofs.YtnnakhdndmjmiaaGreat.Wal
open Go.RowKit DiskP SegsP WalP Disk
open Ints (IntsAt IntsAt.keep cellsI)
open SuperP (Sup)
theorem fold_max (k : Int) : ∀ (l : List Int) (a : Int),a < k → (∀ x ∈ l,x < k) → l.foldl max a < k
 | [],a,h,_=>h
 | x :: l,a,h,hl=>by
  refine fold_max k l (max a x) ?_ fun y hy=>hl y (by simp [hy])
  have:=hl x (by simp);omega
theorem maxOf_lt {l : List Int} {k : Int} (h0 : 0 < l.length) (h : ∀ x ∈ l,x < k) : Lib.maxOf l < k:=by
 unfold Lib.maxOf
 cases l with
 | nil=>cases h0
 | cons x l=>exact fold_max k _ _ (h x (by simp)) h
def CurMade (w : World) (y : Sup) (e : Ending) (w' : World) : Prop :=
 ∃ a1 c1 a2 c2,e = .returned (supV y (.slice a1 y.chk.length c1) (.slice a2 y.log.length c2)) ∧ SupAt w' y a1 y.chk.length a2 y.log.length ∧ (a1 = none → c1 = 0) ∧ (a2 = none → c2 = 0) ∧ (∀ ad,a1 = some ad → w.heap.size ≤ ad.block) ∧ (∀ ad,a2 = some ad → w.heap.size ≤ ad.block)
theorem results_one {fn : Func} (h : fn.results = #[.cell 2 69]) (tmps : Array Value) (w : World) (b : Nat) (x0 x1 x2 x3 x4 x5 : Value) (hp : tmps.getD 2 undef = .pointer (some ⟨b,0,none⟩))
  (c : w.cell? ⟨b,0,none⟩ = some x0 ∧ w.cell? ⟨b,1,none⟩ = some x1 ∧ w.cell? ⟨b,2,none⟩ = some x2 ∧ w.cell? ⟨b,3,none⟩ = some x3 ∧ w.cell? ⟨b,4,none⟩ = some x4 ∧ w.cell? ⟨b,5,none⟩ = some x5) :
  (results fn tmps).run Tryz.prog w = .ok (.agg #[x0,x1,x2,x3,x4,x5]) w:=by
 have hp' : tmps[2]?.getD undef = .pointer (some ⟨b,0,none⟩):=by rw [← hp];simp
 obtain ⟨c0,c1,c2,c3,c4,c5⟩:=c
 simp only [results,h]
 go_simp
theorem concat_at (r : Nat) (a1 a2 : Option Addr) (l1 c1 l2 c2 : Nat) (xs ys : List Int) (w : World) (h1 : IntsAt w a1 l1 xs) (h2 : IntsAt w a2 l2 ys) (hn1 : a1 = none → c1 = 0) (hn2 : a2 = none → c2 = 0)
  (hr1 : w.cell? ⟨r,0,none⟩ = some (.slice a1 l1 c1)) (hr2 : w.cell? ⟨r,1,none⟩ = some (.slice a2 l2 c2)) (h0 : 0 < l1 + l2) (hl1 : l1 ≤ 1000000) (hl2 : l2 ≤ 1000000) :
  Calls Tryz.prog 59 #[.slice (some ⟨r,0,none⟩) 2 2] w fun e w' => ∃ g c,e = .returned (.slice (some ⟨g,0,none⟩) (l1 + l2) c) ∧ IntsAt w' (some ⟨g,0,none⟩) (l1 + l2) (xs ++ ys) ∧ l1 + l2 ≤ c ∧ Below w.heap.size w w' ∧ w.heap.size ≤ g:=by
 refine (concat_any r a1 a2 l1 c1 l2 c2 xs ys w h1 h2 hn1 hn2 hr1 hr2 h0 hl1 hl2).mono ?_
 rintro e w' ⟨⟨g,o,sp⟩,c,rfl,hI,hc,hb,hg,ho,hs⟩
 have hl : (xs ++ ys).length = l1 + l2:=by rw [List.length_append,h1.1,h2.1]
 rw [hl] at hI hc
 simp only at ho hs
 subst ho;subst hs
 exact ⟨g,c,by rw [hl],hI,hc,hb,hg⟩
theorem max_at (g n c : Nat) (zs : List Int) (w : World) (h : IntsAt w (some ⟨g,0,none⟩) n zs) (h0 : 0 < n) (hn : n ≤ 1000000) : Calls Tryz.prog 100 #[.slice (some ⟨g,0,none⟩) n c] w fun e w'=>e = .returned (.int .i64 (Lib.maxOf zs)) ∧ w = w':=by
 have hm:=Tryz.slices_Max_int g 0 n c zs w h0 (by rw [h.1];exact Nat.le_refl _) (by omega) (fun j hj=>by
  rcases h.2.2 with e | ⟨b,off,he,_,hc⟩
  ·omega
  ·cases he;exact hc j (by rw [← h.1];exact hj))
 rw [List.take_of_length_le (by rw [h.1];exact Nat.le_refl _)] at hm
 exact hm.mono fun e w' ⟨h1,h2⟩=>⟨h1,h2.symm⟩
set_option maxHeartbeats 4000000 in
theorem cur_good (L : List Nat) (b d n : Nat) (lg : Lg) (st : St) (w : World) (h : LS w L b d lg st) (hok : Ok n st) (hn : n ≤ 900000) (x : Sup) (bb : Bool) (h0 : (rd st 0).2 = 0) (h1 : (rd st 1).2 = 0) (hz : (rd st 0).1.size ≤ 1000000 ∧ (rd st 1).1.size ≤ 1000000)
  (hb : SuperP.best (tl (rd st 0).1) (tl (rd st 1).1) = some (x,bb)) (hl : 0 < (x.chk ++ x.log).length) (hl2 : (x.chk ++ x.log).length ≤ 80) (hnm : ∀ k ∈ x.chk ++ x.log,k < (SegsP.cnt (st.S.length : Int) : Int)) (hS : st.S.length ≤ 1000000) :
  Calls Tryz.prog 48 #[.pointer (some ⟨b,0,none⟩)] w fun e w'=>CurMade w x e w' ∧ Below w.heap.size w w':=by
 obtain ⟨i1,i2,i3⟩:=best_is hb
 have hbest:=fun w=>sbest_any (rd st 0).1 (rd st 1).1 w hz.1 hz.2
 rw [show (rd st 0).1.data.toList = tl (rd st 0).1 from rfl,show (rd st 1).1.data.toList = tl (rd st 1).1 from rfl,i1,i3] at hbest
 have e0 : (Option.map (fun q : Sup × Bool=>q.1) (some (x,bb))).getD zeroSup = x:=rfl
 have e3 : (if (some (x,bb)).isSome = true then (0 : Int) else 12) = 0:=rfl
 rw [e0,e3] at hbest
 generalize bestN (tl (rd st 0).1) (tl (rd st 1).1) = nb at *
 have hr0:=fun w1 (h : LS w1 L b d lg st)=>read_ls n L b d lg st 0 w1 h hok (by omega) h0
 have hr1:=fun w1 (h : LS w1 L b d lg st)=>read_ls n L b d lg st 1 w1 h hok (by omega) h1
 generalize (rd st 0).1 = s0 at *
 generalize (rd st 1).1 = s1 at *
 have hLS:=fun w' (hb : Below w.heap.size w w')=>h.below hb
 have hbb:=h.lk.lt
 have HR0:=Lib.hid hr0;have HR1:=Lib.hid hr1;have HBS:=Lib.hid hbest;have HLS:=Lib.hid hLS
 have HA0:=Lib.hid ((Below.refl _ w).alloc (Nat.le_refl _) zsup)
 have HZ0:=Lib.hid (heap_alloc_new w zsup)
 have HMX:=Lib.hid (maxOf_lt hl hnm)
 have hxl : (x.chk ++ x.log).length = x.chk.length + x.log.length:=List.length_append
 rw [hxl] at hl hl2
 have HXL:=Lib.hid hxl
 have HSZ:=Lib.hid (fun w1 (h : LS w1 L b d lg st)=>size_dk d st L w1 h.dk)
 have HCN:=Lib.hid (fun w1=>count_any (st.S.length : Int) w1 (by omega) (by omega))
 obtain ⟨k,hk⟩ : ∃ k : Int,((SegsP.cnt (st.S.length : Int) : Nat) : Int) = k:=⟨_,rfl⟩
 rw [hk] at HMX HCN
 clear hr0 hr1 hbest hLS hb i1 i2 i3 e0 e3 h0 h1 hz hnm hok hk hxl
 go_enter Tryz.func48,Tryz.ntmps48
 go_wp2_with fail
 refine (HR0.out _ (HLS.out _ HA0.out)).mono ?_
 rintro e w1 ⟨rfl,hb1⟩
 have hs0 : w.heap.size < w1.heap.size:=by have:=hb1.size;rw [World.size_alloc] at this;omega
 have HA1:=Lib.hid (HA0.out.trans (hb1.mono HA0.out.size))
 have HZ1:=Lib.hid ((hb1.block w.heap.size (by rw [World.size_alloc];omega)).trans HZ0.out)
 clear hb1 HA0 HZ0 HR0
 go_wp2_with fail
 refine (HR1.out _ (HLS.out _ HA1.out)).mono ?_
 rintro e w2 ⟨rfl,hb2⟩
 have hs2:=hb2.size
 have HA2:=Lib.hid (HA1.out.trans (hb2.mono HA1.out.size))
 have HZ2:=Lib.hid ((hb2.block w.heap.size hs0).trans HZ1.out)
 clear hb2 HA1 HZ1 HR1
 go_wp2_with fail
 refine (HBS.out w2).mono ?_
 rintro e w3 ⟨⟨a1,d1,a2,d2,rfl,hx,m1,m2,u1,u2⟩,hb3⟩
 simp only [supV]
 have hs3:=hb3.size
 have hA3:=HA2.out.trans (hb3.mono HA2.out.size)
 have hz3:=(hb3.block w.heap.size (by omega)).trans HZ2.out
 have hb4 : Below w3.heap.size w3 (w3.alloc (.cells #[.int .i64 x.gen,.int .i64 x.base,.int .i64 x.size,.int .i64 x.cg,.slice a1 x.chk.length d1,.slice a2 x.log.length d2] 69)):=(Below.refl _ w3).alloc (Nat.le_refl _) _
 have HN4:=Lib.hid (heap_alloc_new w3 (.cells #[.int .i64 x.gen,.int .i64 x.base,.int .i64 x.size,.int .i64 x.cg,.slice a1 x.chk.length d1,.slice a2 x.log.length d2] 69))
 have HX4:=Lib.hid (hx.keep hb4)
 have HA4:=Lib.hid (hA3.trans (hb4.mono hA3.size))
 have HZ4:=Lib.hid ((hb4.block w.heap.size (by omega)).trans hz3)
 have HS4:=Lib.hid (show (w3.alloc (.cells #[.int .i64 x.gen,.int .i64 x.base,.int .i64 x.size,.int .i64 x.cg,.slice a1 x.chk.length d1,.slice a2 x.log.length d2] 69)).heap.size = w3.heap.size + 1 by simp)
 have U1:=Lib.hid (fun ad (h : a1 = some ad)=>show w.heap.size < ad.block by have:=u1 ad h;omega);have U2:=Lib.hid (fun ad (h : a2 = some ad)=>show w.heap.size < ad.block by have:=u2 ad h;omega);have M1:=Lib.hid m1;have M2:=Lib.hid m2
 clear hb3 hb4 hx u1 u2 m1 m2 hA3 hz3 HA2 HZ2 HBS
 go_wp2_with fail
 generalize w3.alloc (.cells #[.int .i64 x.gen,.int .i64 x.base,.int .i64 x.size,.int .i64 x.cg,.slice a1 x.chk.length d1,.slice a2 x.log.length d2] 69) = w4 at *
 obtain ⟨p0,p1,p2,p3,p4,p5⟩:=six_cells HN4.out
 have hbs : w.heap.size ≤ w3.heap.size:=by omega
 have hb4 : b < w4.heap.size:=by have:=HA4.out.size;omega
 have h34 : w3.heap.size < w4.heap.size:=by have:=HS4.out;omega
 have e0:=(ls_dead (HLS.out w4 HA4.out)).1
 have B5 : Below w4.heap.size w4 (w4.alloc (.cells #[.slice a1 x.chk.length d1,.slice a2 x.log.length d2] 67)).drew:=((Below.refl _ w4).alloc (Nat.le_refl _) _).drew
 have r1 : (w4.alloc (.cells #[.slice a1 x.chk.length d1,.slice a2 x.log.length d2] 67)).drew.cell? ⟨w4.heap.size,0,none⟩ = some (.slice a1 x.chk.length d1):=cell_of_heap (heap_alloc_new w4 _)
 have r2 : (w4.alloc (.cells #[.slice a1 x.chk.length d1,.slice a2 x.log.length d2] 67)).drew.cell? ⟨w4.heap.size,1,none⟩ = some (.slice a2 x.log.length d2):=cell_of_heap (heap_alloc_new w4 _)
 have HC:=Lib.hid (concat_at w4.heap.size a1 a2 x.chk.length d1 x.log.length d2 x.chk x.log _ (HX4.out.chk.keep B5) (HX4.out.log.keep B5) M1.out M2.out r1 r2 hl (by omega) (by omega))
 have HMXC:=Lib.hid (fun w g c (h : IntsAt w (some ⟨g,0,none⟩) (x.chk.length + x.log.length) (x.chk ++ x.log))=>max_at g _ c _ w h hl (by omega))
 have HB5:=Lib.hid B5
 have HSa:=Lib.hid (HSZ.out _ (HLS.out _ HA4.out.drew))
 have HSb:=Lib.hid (HSZ.out _ (HLS.out _ (HA4.out.trans (B5.mono HA4.out.size))))
 have k0:=(B5.cell (p:=⟨b,0,none⟩) hb4).trans e0
 have k4:=(B5.cell (p:=⟨w3.heap.size,4,none⟩) h34).trans p4
 have k5:=(B5.cell (p:=⟨w3.heap.size,5,none⟩) h34).trans p5
 obtain ⟨mx,hmx⟩ : ∃ mx,Lib.maxOf (x.chk ++ x.log) = mx:=⟨_,rfl⟩
 have hlt:=HMX.out
 rw [hmx] at HMXC hlt
 have hnle : ¬ (k ≤ mx):=by omega
 clear r1 r2 B5 hmx HMX HS4 HXL
 go_region_held3 (fun w'=>w'.cell? ⟨b,0,none⟩ = some (.pointer (some ⟨d,0,none⟩)) ∧ w'.cell? ⟨w3.heap.size,4,none⟩ = some (.slice a1 x.chk.length d1) ∧ w'.cell? ⟨w3.heap.size,5,none⟩ = some (.slice a2 x.log.length d2))
  (first | with_reducible exact ⟨g0,g4,g5⟩ | with_reducible exact ⟨k0,k4,k5⟩ | exact ⟨e0,p4,p5⟩)
  (first
   | (go_at_call 100;refine (HMXC.out _ g3 c3 hI3).mono ?_;rintro e w' ⟨rfl,rfl⟩)
   | (go_at_call 59;refine HC.out.mono ?_;rintro e w6 ⟨g3,c3,rfl,hI3,hc3,hB6,hg3⟩;have HB6:=Lib.hid (HB5.out.trans (hB6.mono HB5.out.size));have HSc:=Lib.hid (HSZ.out _ (HLS.out w6 (HA4.out.trans (HB6.out.mono HA4.out.size))));have g0:=(HB6.out.cell (p:=⟨b,0,none⟩) hb4).trans e0;have g4:=(HB6.out.cell (p:=⟨w3.heap.size,4,none⟩) h34).trans p4;have g5:=(HB6.out.cell (p:=⟨w3.heap.size,5,none⟩) h34).trans p5)
   | (go_at_call 47;refine (HCN.out _).mono ?_;rintro e w' ⟨rfl,rfl⟩)
   | (go_at_call 44;with_reducible (first | refine HSc.out.mono ?_ | refine HSb.out.mono ?_ | refine HSa.out.mono ?_);rintro e w' ⟨rfl,rfl⟩))
 all_goals
  have hA6:=HA4.out.trans (HB6.out.mono HA4.out.size)
  have hN6:=(HB6.out.block _ h34).trans HN4.out
  have hZ6:=(HB6.out.block w.heap.size (by omega)).trans HZ4.out
  obtain ⟨q0,q1,q2,q3,q4,q5⟩:=six_cells hN6
  obtain ⟨⟨z0,z1,z2,z3,z4,z5⟩,r0,r1,r2,r3,r4,r5⟩:=zero_cells6 hZ6
  have hf:=best_sup (n:=0) (er:=0) hA6 (HX4.out.keep HB6.out) U1.out U2.out M1.out M2.out
  have HRS:=Lib.hid (six_cells (heap_put6 hZ6 (.int .i64 x.gen) (.int .i64 x.base) (.int .i64 x.size) (.int .i64 x.cg) (.slice a1 x.chk.length d1) (.slice a2 x.log.length d2)))
  have HF:=Lib.hid hf
  clear hf hZ6 hN6 hA6 g0 g4 g5 hI3 hc3 hB6 hg3 e0 k0 k4 k5 p0 p1 p2 p3 p4 p5 HSa HSb HC HMXC HLS HSZ HCN HX4 HN4 HZ4 HB5 HB6 U1 U2 M1 M2
  go_wp2_with fail
  refine bodyPost_ret (results_one rfl _ _ w.heap.size _ _ _ _ _ _ rfl HRS.out) rfl ?_
  obtain ⟨⟨A1,C1,A2,C2,he,hs,n1,n2,v1,v2⟩,hbb2⟩:=HF.out
  simp only [supV,Ending.returned.injEq,Value.tuple.injEq,Array.mk.injEq,List.cons.injEq,Value.agg.injEq,Value.slice.injEq,and_true,true_and] at he
  obtain ⟨⟨rfl,rfl⟩,rfl,rfl⟩:=he
  exact ⟨⟨_,_,_,_,rfl,hs,n1,n2,v1,v2⟩,hbb2⟩
end Go.Proofs.YtnnakhdndmjmiaaGreat.Wal
/-
 The contract of current on a disk that has no superblock: a new log's.
-/
set_option linter.unusedVariables false
set_option maxRecDepth 4000
namespace Go.Proofs.YtnnakhdndmjmiaaGreat.Wal
open Go.RowKit DiskP SegsP WalP Disk
open Ints (IntsAt IntsAt.keep cellsI)
open SuperP (Sup)
theorem upd_bel {L L' : List Nat} {w w1 w2 : World} (hU : Upd L w w1 L') (hb : Below w.heap.size w1 w2) : Upd L w w2 L' :=
 ⟨hb.os.trans hU.os,hb.tape.trans hU.tape,hb.output.trans hU.output,Nat.le_trans hU.size hb.size,fun k hk hn=>(hb.block k hk).trans (hU.block k hk hn),hU.sub⟩
theorem cur_end {w w10 : World} {L L8 : List Nat} {b d q : Nat} {lg : Lg} {st s3 : St} (h : LS w L b d lg st) (hU : Upd L w w10 L8) (hD : Dk w10 L8 d s3) (hn8 : w.heap.size ∉ L8) (hq : q ≠ w.heap.size) (hI : IntsAt w10 (some ⟨q,0,none⟩) 1 [0]) (v0 v1 v2 v3 v4 v5 : Value) :
  IntsAt (put6 w10 w.heap.size v0 v1 v2 v3 v4 v5) (some ⟨q,0,none⟩) 1 [0] ∧ LS (put6 w10 w.heap.size v0 v1 v2 v3 v4 v5) L8 b d lg s3 ∧ Upd (b :: L) w (put6 w10 w.heap.size v0 v1 v2 v3 v4 v5) (b :: L8):=by
 have hbp : Below w.heap.size w10 (put6 w10 w.heap.size v0 v1 v2 v3 v4 v5):=below_put6 (Below.refl _ _) (Nat.le_refl _) _ _ _ _ _ _
 have hUw : Upd L w (put6 w10 w.heap.size v0 v1 v2 v3 v4 v5) L8:=upd_bel hU hbp
 have hD10 : Dk (put6 w10 w.heap.size v0 v1 v2 v3 v4 v5) L8 d s3:=hD.keep fun k hk=>put6_other _ _ _ _ _ _ (fun e=>hn8 (by rw [← e];exact hk))
 refine ⟨?_,h.step hD10 hUw,Upd.wide hUw⟩
 exact Go.Proofs.YtnnakhdndmjmiaaGreat.ints_other hI (.inr fun ad he=>by cases he;exact hq) (size_put6 _ _ _ _ _ _ _ _) (fun j hj=>put6_other _ _ _ _ _ _ hj)
set_option maxHeartbeats 4000000 in
theorem cur_new (L : List Nat) (b d n : Nat) (lg : Lg) (st : St) (w : World) (h : LS w L b d lg st) (hok : Ok n st) (hn : n ≤ 800000) (h0 : (rd st 0).2 = 0) (h1 : (rd st 1).2 = 0) (hz : (rd st 0).1.size ≤ 1000000 ∧ (rd st 1).1.size ≤ 1000000)
  (hb : SuperP.best (tl (rd st 0).1) (tl (rd st 1).1) = none) (hcn : 0 < SegsP.cnt (st.S.length : Int)) (s2 s3 : St) (her : er st false (secs [0]) = (0,s2)) (hlay : lay s2 sup0 = (0,s3)) (hlen : s3.S.length = st.S.length) (hS : st.S.length ≤ 1000000) :
  Calls Tryz.prog 48 #[.pointer (some ⟨b,0,none⟩)] w fun e w' => ∃ a2 L',e = .returned (supV sup0 (.slice none 0 0) (.slice (some a2) 1 1)) ∧ IntsAt w' (some a2) 1 [0] ∧ a2.block ∉ b :: L' ∧ LS w' L' b d lg s3 ∧ Upd (b :: L) w w' (b :: L'):=by
 obtain ⟨i1,i2,i3⟩:=best_is hb
 have hbest:=fun w=>sbest_any (rd st 0).1 (rd st 1).1 w hz.1 hz.2
 rw [show (rd st 0).1.data.toList = tl (rd st 0).1 from rfl,show (rd st 1).1.data.toList = tl (rd st 1).1 from rfl,i1,i3] at hbest
 have e0 : (Option.map (fun q : Sup × Bool=>q.1) none).getD zeroSup = zeroSup:=rfl
 have e3 : (if (none : Option (Sup × Bool)).isSome = true then (0 : Int) else 12) = 12:=rfl
 rw [e0,e3] at hbest
 generalize bestN (tl (rd st 0).1) (tl (rd st 1).1) = nb at *
 have hr0:=fun w1 (h : LS w1 L b d lg st)=>read_ls n L b d lg st 0 w1 h hok (by omega) h0
 have hr1:=fun w1 (h : LS w1 L b d lg st)=>read_ls n L b d lg st 1 w1 h hok (by omega) h1
 generalize (rd st 0).1 = s0 at *
 generalize (rd st 1).1 = s1 at *
 have hLS:=fun w' (hb : Below w.heap.size w w')=>h.below hb
 have hbb:=h.lk.lt
 have HR0:=Lib.hid hr0;have HR1:=Lib.hid hr1;have HBS:=Lib.hid hbest;have HLS:=Lib.hid hLS
 have HA0:=Lib.hid ((Below.refl _ w).alloc (Nat.le_refl _) zsup)
 have HZ0:=Lib.hid (heap_alloc_new w zsup)
 have hs8 : (secs [0]).length = 8:=by decide
 have hok2 : Ok (n + 9) s2:=by have:=er_ok (secs [0]) st false n hok;rw [her] at this;exact this.mono (by rw [hs8];exact Nat.le_refl _)
 have her2:=fun L1 w1 (hD : Dk w1 L1 d st) a c (hI : IntsAt w1 a 8 (secs [0])) ha=>erase_dk d n st L1 a 8 c (secs [0]) w1 hD hok (by omega) hI ha
 rw [her] at her2
 have HOK2:=Lib.hid hok2;have HER:=Lib.hid her2;have HLY:=Lib.hid hlay;have HS8:=Lib.hid hs8
 have hfit : SuperP.Fit sup0:=by decide
 have HST:=Lib.hid (fun L1 w1 (h1 : LS w1 L1 b d lg s2) a2 (hs : SupAt w1 sup0 none 0 (some a2) 1)=>store_ls L1 b d (n + 9) lg s2 w1 h1 hok2 (by omega) sup0 none (some a2) 0 0 1 1 hs (by omega) (by omega) hfit 0 s3 hlay)
 have HD:=Lib.hid h.dk.lt
 have HSZ:=Lib.hid (fun w1 L1 (h : LS w1 L1 b d lg s3)=>size_dk d s3 L1 w1 h.dk)
 have HCN:=Lib.hid (fun w1=>count_any (st.S.length : Int) w1 (by omega) (by omega))
 obtain ⟨k,hk⟩ : ∃ k : Int,((SegsP.cnt (st.S.length : Int) : Nat) : Int) = k:=⟨_,rfl⟩
 rw [hk] at HCN
 rw [hlen] at HSZ
 have hk0 : ¬ (k ≤ 0):=by omega
 have HBL : Hid (b ∉ L):=Lib.hid (by obtain ⟨_,_,_,_,_,_,g,_⟩:=h;exact g)
 clear hr0 hr1 hbest hLS hb i1 i2 i3 e0 e3 h0 h1 hz hok hok2 hk her her2 hlay hlen hcn h hfit hs8
 go_enter Tryz.func48,Tryz.ntmps48
 go_wp2_with fail
 refine (HR0.out _ (HLS.out _ HA0.out)).mono ?_
 rintro e w1 ⟨rfl,hb1⟩
 have hs0 : w.heap.size < w1.heap.size:=by have:=hb1.size;rw [World.size_alloc] at this;omega
 have HA1:=Lib.hid (HA0.out.trans (hb1.mono HA0.out.size))
 have HZ1:=Lib.hid ((hb1.block w.heap.size (by rw [World.size_alloc];omega)).trans HZ0.out)
 clear hb1 HA0 HZ0 HR0
 go_wp2_with fail
 refine (HR1.out _ (HLS.out _ HA1.out)).mono ?_
 rintro e w2 ⟨rfl,hb2⟩
 have hs2:=hb2.size
 have HA2:=Lib.hid (HA1.out.trans (hb2.mono HA1.out.size))
 have HZ2:=Lib.hid ((hb2.block w.heap.size hs0).trans HZ1.out)
 clear hb2 HA1 HZ1 HR1
 go_wp2_with fail
 refine (HBS.out w2).mono ?_
 rintro e w3 ⟨⟨a1,d1,a2,d2,rfl,hx,m1,m2,u1,u2⟩,hb3⟩
 simp only [supV]
 have hs3:=hb3.size
 have hA3:=HA2.out.trans (hb3.mono HA2.out.size)
 have hz3:=(hb3.block w.heap.size (by omega)).trans HZ2.out
 have HA3:=Lib.hid hA3;have HZ3:=Lib.hid hz3
 have hs03 : w.heap.size < w3.heap.size:=by omega
 clear hb3 hx u1 u2 m1 m2 hA3 hz3 HA2 HZ2 HBS
 have hb4 : Below w3.heap.size w3 (w3.alloc (.cells #[.int .i64 1,.int .i64 0,.int .i64 0,.int .i64 0,.slice none 0 0,.slice (some ⟨w3.heap.size + 1,0,none⟩) 1 1] 69)):=(Below.refl _ w3).alloc (Nat.le_refl _) _
 have hn4:=heap_alloc_new w3 (.cells #[.int .i64 1,.int .i64 0,.int .i64 0,.int .i64 0,.slice none 0 0,.slice (some ⟨w3.heap.size + 1,0,none⟩) 1 1] 69)
 have hs4 : (w3.alloc (.cells #[.int .i64 1,.int .i64 0,.int .i64 0,.int .i64 0,.slice none 0 0,.slice (some ⟨w3.heap.size + 1,0,none⟩) 1 1] 69)).heap.size = w3.heap.size + 1:=by simp
 have HB4:=Lib.hid hb4;have HN4:=Lib.hid hn4;have HS4:=Lib.hid hs4
 clear hb4 hn4 hs4
 go_wp2_with fail
 generalize w3.alloc (.cells #[.int .i64 1,.int .i64 0,.int .i64 0,.int .i64 0,.slice none 0 0,.slice (some ⟨w3.heap.size + 1,0,none⟩) 1 1] 69) = w4 at *
 have hI5:=ints_one w4 0 (by omega)
 rw [HS4.out] at hI5
 have hb5 : Below w4.heap.size w4 (w4.alloc (.cells #[.int .i64 0] 3)):=(Below.refl _ w4).alloc (Nat.le_refl _) _
 have HB5:=Lib.hid (HB4.out.trans (hb5.mono (by have:=HS4.out;omega)))
 have hN5:=(hb5.block w3.heap.size (by have:=HS4.out;omega)).trans HN4.out
 have HI5:=Lib.hid hI5;have HN5:=Lib.hid hN5
 have HS5:=Lib.hid (show (w4.alloc (.cells #[.int .i64 0] 3)).heap.size = w3.heap.size + 2 by have:=HS4.out;simp;omega)
 clear hI5 hb5 hN5 HN4 HS4 HB4
 generalize w4.alloc (.cells #[.int .i64 0] 3) = w5 at *
 obtain ⟨p0,p1,p2,p3,p4,p5⟩:=six_cells HN5.out
 have HA5:=Lib.hid (HA3.out.trans (HB5.out.mono HA3.out.size))
 have HZ5:=Lib.hid ((HB5.out.block w.heap.size hs03).trans HZ3.out)
 have hL5:=HLS.out w5 HA5.out
 have HL5:=Lib.hid hL5
 have e0:=(ls_dead hL5).1
 have hb50 : b < w5.heap.size:=by have:=HA5.out.size;omega
 have h350 : w3.heap.size < w5.heap.size:=by have:=HS5.out;omega
 have hsec:=sectors_any (some ⟨w3.heap.size + 1,0,none⟩) 1 1 [0] w5.drew (HI5.out.keep (Below.refl _ w5).drew) (by omega)
 unfold IntsOut at hsec
 rw [HS8.out] at hsec
 have HSEC:=Lib.hid hsec
 have hnl : ∀ k ∈ L,k < w.heap.size:=HD.out
 clear hL5 HA3 HZ3 hsec
 go_region_held3 (fun w'=>w'.cell? ⟨b,0,none⟩ = some (.pointer (some ⟨d,0,none⟩)) ∧ w'.cell? ⟨w3.heap.size,5,none⟩ = some (.slice (some ⟨w3.heap.size + 1,0,none⟩) 1 1))
  (first | with_reducible exact ⟨m0,m5⟩ | with_reducible exact ⟨g0,g5⟩ | exact ⟨e0,p5⟩)
  (first
   | (go_at_call 51;refine (must_no w7 _).mono ?_;rintro e w' ⟨rfl,rfl⟩)
   | (go_at_call 52;refine (HER.out L w6 HL6.out.dk a6 c6 hI6 (fun _ y hy hm=>by have:=hw6 y hy;have:=hnl _ hm;have:=HA5.out.size;have e : w5.drew.heap.size = w5.heap.size:=rfl;omega)).mono ?_;rintro e w7 ⟨rfl,L7,hD7,hU7⟩;have HL7:=Lib.hid (HL6.out.step hD7 hU7);have m0:=(ls_dead HL7.out).1;have m5:=(cell_upd' (p:=⟨w3.heap.size,5,none⟩) hU7 (by have:=HB6.out.size;show w3.heap.size < w6.heap.size;omega) (fun hm=>by have h9 : w3.heap.size < w.heap.size:=hnl _ hm;omega)).trans g5)
   | (go_at_call 61;refine HSEC.out.mono ?_;rintro e w6 ⟨a6,c6,rfl,hI6,hc6,hn6,hB6,hw6⟩;have HB6 : Hid (Below w5.heap.size w5 w6):=Lib.hid ⟨hB6.os,hB6.tape,hB6.output,hB6.size,hB6.block⟩;have HL6:=Lib.hid (HL5.out.below HB6.out);have g0:=(HB6.out.cell (p:=⟨b,0,none⟩) hb50).trans e0;have g5:=(HB6.out.cell (p:=⟨w3.heap.size,5,none⟩) h350).trans p5))
 have hU57 : Upd L w5 w7 L7:=(Upd.of_below HB6.out).trans hU7
 have hnw : w.heap.size ∉ L:=fun hm=>Nat.lt_irrefl _ (hnl _ hm)
 have hn3 : w3.heap.size ∉ L:=fun hm=>by have h9 : w3.heap.size < w.heap.size:=hnl _ hm;omega
 have hn4 : w3.heap.size + 1 ∉ L:=fun hm=>by have h9 : w3.heap.size + 1 < w.heap.size:=hnl _ hm;omega
 have h510 : w.heap.size < w5.heap.size:=by omega
 have h511 : w3.heap.size + 1 < w5.heap.size:=by have:=HS5.out;omega
 have hN7:=(hU57.block _ h350 hn3).trans HN5.out
 have hI7 : IntsAt w7 (some ⟨w3.heap.size + 1,0,none⟩) 1 [0]:=ints_upd HI5.out (fun _ y hy=>by cases hy;exact hn4) hU57
 have HU57:=Lib.hid hU57;have HN7:=Lib.hid hN7;have HI7:=Lib.hid hI7
 have hsa : SupAt w7 sup0 none 0 (some ⟨w3.heap.size + 1,0,none⟩) 1:=⟨⟨rfl,(by intro x hx;cases hx),.inl rfl⟩,hI7,by omega,by omega⟩
 have HST7 : Hid (Calls Tryz.prog 60 #[.pointer (some ⟨b,0,none⟩),.agg #[.int .i64 1,.int .i64 0,.int .i64 0,.int .i64 0,.slice none 0 0,.slice (some ⟨w3.heap.size + 1,0,none⟩) 1 1]] w7 (RzS w7 L7 b d 0 lg s3 (.tuple #[]))):=Lib.hid (HST.out L7 w7 HL7.out ⟨w3.heap.size + 1,0,none⟩ hsa)
 obtain ⟨x0,x1,x2,x3,x4,x5⟩:=six_cells hN7
 clear hU57 hN7 hI7 hsa hU7 hD7 hI6 hc6 hn6 hB6 hw6 HB6 HL6 g0 g5 m0 m5 e0 p0 p1 p2 p3 p4 p5 HER HSEC HST
 go_wp2_with fail
 refine HST7.out.mono ?_
 rintro e w8 hrz
 obtain ⟨rfl,L8,hL8,hU8⟩:=hrz.1 rfl
 have HU58:=Lib.hid (HU57.out.trans hU8)
 have HL8:=Lib.hid hL8
 have e0:=(ls_dead hL8).1
 have HN8:=Lib.hid ((HU58.out.block _ h350 hn3).trans HN5.out)
 have HZ8:=Lib.hid ((HU58.out.block _ h510 hnw).trans HZ5.out)
 have hI8 : IntsAt w8 (some ⟨w3.heap.size + 1,0,none⟩) 1 [0]:=ints_upd HI5.out (fun _ y hy=>by cases hy;exact hn4) HU58.out
 have HI8:=Lib.hid hI8
 have h58:=HU58.out.size
 clear hrz hL8 hU8 HU57 HN7 HI7 HST7 x0 x1 x2 x3 x4 x5 HL7
 obtain ⟨p0,p1,p2,p3,p4,p5⟩:=six_cells HN8.out
 have hb8 : b < w8.heap.size:=by omega
 have h38 : w3.heap.size < w8.heap.size:=by omega
 have B9 : Below w8.heap.size w8 (w8.alloc (.cells #[.slice none 0 0,.slice (some ⟨w3.heap.size + 1,0,none⟩) 1 1] 67)).drew:=((Below.refl _ w8).alloc (Nat.le_refl _) _).drew
 have r1 : (w8.alloc (.cells #[.slice none 0 0,.slice (some ⟨w3.heap.size + 1,0,none⟩) 1 1] 67)).drew.cell? ⟨w8.heap.size,0,none⟩ = some (.slice none 0 0):=cell_of_heap (heap_alloc_new w8 _)
 have r2 : (w8.alloc (.cells #[.slice none 0 0,.slice (some ⟨w3.heap.size + 1,0,none⟩) 1 1] 67)).drew.cell? ⟨w8.heap.size,1,none⟩ = some (.slice (some ⟨w3.heap.size + 1,0,none⟩) 1 1):=cell_of_heap (heap_alloc_new w8 _)
 have hcc:=concat_at w8.heap.size none (some ⟨w3.heap.size + 1,0,none⟩) 0 0 1 1 [] [0] _ ⟨rfl,(by intro x hx;cases hx),.inl rfl⟩ (hI8.keep B9) (fun _=>rfl) (fun h=>(by cases h)) r1 r2 (by omega) (by omega) (by omega)
 simp only [Nat.zero_add,List.nil_append] at hcc
 have HC:=Lib.hid hcc
 have HMXC : Hid (∀ w g c,IntsAt w (some ⟨g,0,none⟩) 1 [0] → Calls Tryz.prog 100 #[.slice (some ⟨g,0,none⟩) 1 c] w fun e w'=>e = .returned (.int .i64 0) ∧ w = w'):=Lib.hid (fun w g c h=>max_at g 1 c [0] w h (by omega) (by omega))
 have HB9:=Lib.hid B9
 have HSa:=Lib.hid (HSZ.out _ L8 HL8.out.drew)
 have HSb:=Lib.hid (HSZ.out _ L8 (HL8.out.below B9))
 have k0:=(B9.cell (p:=⟨b,0,none⟩) hb8).trans e0
 have k4:=(B9.cell (p:=⟨w3.heap.size,4,none⟩) h38).trans p4
 have k5:=(B9.cell (p:=⟨w3.heap.size,5,none⟩) h38).trans p5
 clear r1 r2 B9 hcc hI8
 go_wp2_with fail
 go_region_held3 (fun w'=>w'.cell? ⟨b,0,none⟩ = some (.pointer (some ⟨d,0,none⟩)) ∧ w'.cell? ⟨w3.heap.size,4,none⟩ = some (.slice none 0 0) ∧ w'.cell? ⟨w3.heap.size,5,none⟩ = some (.slice (some ⟨w3.heap.size + 1,0,none⟩) 1 1))
  (first | with_reducible exact ⟨g0,g4,g5⟩ | with_reducible exact ⟨k0,k4,k5⟩ | exact ⟨e0,p4,p5⟩)
  (first
   | (go_at_call 100;refine (HMXC.out _ g3 c3 hI3).mono ?_;rintro e w' ⟨rfl,rfl⟩)
   | (go_at_call 59;refine HC.out.mono ?_;rintro e w10 ⟨g3,c3,rfl,hI3,hc3,hB6,hg3⟩;have HB6:=Lib.hid (HB9.out.trans (hB6.mono HB9.out.size));have HSc:=Lib.hid (HSZ.out _ L8 (HL8.out.below HB6.out));have g0:=(HB6.out.cell (p:=⟨b,0,none⟩) hb8).trans e0;have g4:=(HB6.out.cell (p:=⟨w3.heap.size,4,none⟩) h38).trans p4;have g5:=(HB6.out.cell (p:=⟨w3.heap.size,5,none⟩) h38).trans p5)
   | (go_at_call 47;refine (HCN.out _).mono ?_;rintro e w' ⟨rfl,rfl⟩)
   | (go_at_call 44;with_reducible (first | refine HSc.out.mono ?_ | refine HSb.out.mono ?_ | refine HSa.out.mono ?_);rintro e w' ⟨rfl,rfl⟩))
 all_goals
  have hN10:=(HB6.out.block _ h38).trans HN8.out
  have hZ10:=(HB6.out.block w.heap.size (by omega)).trans HZ8.out
  obtain ⟨q0,q1,q2,q3,q4,q5⟩:=six_cells hN10
  obtain ⟨⟨z0,z1,z2,z3,z4,z5⟩,r0,r1,r2,r3,r4,r5⟩:=zero_cells6 hZ10
  have HRS:=Lib.hid (six_cells (heap_put6 hZ10 (.int .i64 1) (.int .i64 0) (.int .i64 0) (.int .i64 0) (.slice none 0 0) (.slice (some ⟨w3.heap.size + 1,0,none⟩) 1 1)))
  have hn8 : w.heap.size ∉ L8:=upd_out HU58.out h510 hnw
  have hn48 : w3.heap.size + 1 ∉ L8:=upd_out HU58.out h511 hn4
  have hUw : Upd L w w10 L8:=((Upd.of_below HA5.out).trans HU58.out).trans (Upd.of_below HB6.out)
  have hD10 : Dk w10 L8 d s3:=HL8.out.dk.keep fun k hk=>HB6.out.block k (HL8.out.dk.lt k hk)
  have HF:=Lib.hid (cur_end (HLS.out w (Below.refl _ _)) hUw hD10 hn8 (show w3.heap.size + 1 ≠ w.heap.size by omega) (HI8.out.keep HB6.out) (.int .i64 1) (.int .i64 0) (.int .i64 0) (.int .i64 0) (.slice none 0 0) (.slice (some ⟨w3.heap.size + 1,0,none⟩) 1 1))
  have HQ:=Lib.hid (show w3.heap.size + 1 ∉ b :: L8 from fun hm=>by
   rcases List.mem_cons.1 hm with g | g
   ·omega
   ·exact hn48 g)
  clear hUw hn8 hn48 hD10 hZ10 hN10 g0 g4 g5 hI3 hc3 hB6 hg3 e0 k0 k4 k5 p0 p1 p2 p3 p4 p5 HSa HSb HC HMXC HLS HSZ HCN HN8 HZ8 HB6 HB9 HU58 HL8 HI8
  go_wp2_with fail
  refine bodyPost_ret (results_one rfl _ _ w.heap.size _ _ _ _ _ _ rfl HRS.out) rfl ?_
  exact ⟨⟨w3.heap.size + 1,0,none⟩,L8,rfl,HF.out.1,HQ.out,HF.out.2.1,HF.out.2.2⟩
end Go.Proofs.YtnnakhdndmjmiaaGreat.Wal
