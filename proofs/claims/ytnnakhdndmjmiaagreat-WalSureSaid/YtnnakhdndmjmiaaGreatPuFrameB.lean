import Derived.Test.YtnnakhdndmjmiaaGreatPuFrameA
import Derived.Lib.AppendStr
import Derived.BigQuiet
import Derived.BigRegion
set_option linter.unusedVariables false
set_option maxRecDepth 4000
set_option maxRecDepth 4000
namespace Go.Proofs.YtnnakhdndmjmiaaGreat.Frame
open Go.RowKit CrcP FrameP
theorem info_byte : (Tryz.prog.info? 5).map (fun i=>(i.zero,i.size,i.bytes)) = some (some (.int .u8 0),1,1):=by kernel_rfl
theorem owns_slice0 {w : World} {base n : Nat} {e : TypeId} {v : Value} {xs : List Value} (h : w.ownsRow base e 1 v n xs) : ∃ a cap,v = .slice a n cap:=by
 rcases h.2 with ⟨rfl,h0⟩ | ⟨g,cap,cur,rfl,_⟩
 ·exact ⟨none,0,by rw [h0]⟩
 ·exact ⟨_,cap,rfl⟩
theorem owns_below {w w' : World} {B n : Nat} {e : TypeId} {v : Value} {xs : List Value} (h : w.ownsRow B e 1 v n xs) (hb : Below w.heap.size w w') : w'.ownsRow B e 1 v n xs:=by
 refine ⟨h.1,?_⟩
 rcases h.2 with hn | ⟨g,cap,cur,hv,hbg,hg,rest⟩
 ·exact .inl hn
 ·exact .inr ⟨g,cap,cur,hv,hbg,(hb.block g (Array.getElem?_eq_some_iff.1 hg).1).trans hg,rest⟩
theorem owns_cast {w : World} {B n m : Nat} {e : TypeId} {v : Value} {xs ys : List Value} (h : w.ownsRow B e 1 v n xs) (hn : n = m) (hx : xs = ys) : w.ownsRow B e 1 v m ys:=by rw [← hn,← hx];exact h
theorem owns_text {w : World} {B n cap : Nat} {a : Option Addr} {l : List UInt8} (h : w.ownsRow B 5 1 (.slice a n cap) n (Lib.byteCells l)) :
  (convert 137 9 (.slice a n cap)).run Tryz.prog w = .ok (.string (str l)) w:=by
 have hl : l.length = n:=by have:=h.1;simpa [Lib.byteCells] using this
 have hc:=fun g hg=>h.cells (g:=g) hg
 rcases h.2 with ⟨hv,h0⟩ | ⟨g,cap2,cur,hv,_⟩
 ·simp only [Value.slice.injEq] at hv
  obtain ⟨rfl,_,_⟩:=hv
  subst h0
  obtain rfl:=List.eq_nil_of_length_eq_zero hl
  exact run_convert_bytes_nil w 137 5 Tryz.underlying137 Tryz.underlying5 _ _ 9 Tryz.underlying9
 ·simp only [Value.slice.injEq] at hv
  obtain ⟨rfl,_⟩:=hv
  have h2:=run_convert_bytes_arg (P:=Tryz.prog) w 137 5 Tryz.underlying137 Tryz.underlying5 g 0 n cap (l.map fun c=>(c.toNat : Int)) (by simp [hl]) (fun j hj=>by
   have:=hc g rfl j (.int .u8 (((l.map fun c=>(c.toNat : Int))).getD j 0)) (by simp [Lib.byteCells,List.getD,hl,hj])
   have hadd : (⟨g,0,none⟩ : Addr).add j = ⟨g,j,none⟩:=by unfold Addr.add;split <;> simp_all
   rw [hadd] at this
   rw [Nat.zero_add]
   exact this) 9 Tryz.underlying9
  rw [strOfNums_bytes] at h2
  exact h2
theorem append_row {ops : Array Oper} {rest : List Oper} {o : Oper} {a : Act} {Q : Exit → Act → World → Prop} (hgd : o.guard = none) (s x : Operand)
  (ho : o.op = .call { callee:=.builtin .append,args:=#[s,x],argTypes:=#[137,137] }) (base : Nat) (w : World) (l : List UInt8) (ad : Addr) (m k : Nat)
  (v : Value) (n : Nat) (xs : List Value) (hs : a.eval s = v) (hown : w.ownsRow base 5 1 v n xs) (hx : a.eval x = .slice (some ad) m k) (hl : l.length = m) (hcell : ∀ i u,(Lib.byteCells l)[i]? = some u → w.cell? (ad.add i) = some u)
  (hn : n + m ≤ 4398046511300) (hbase : base ≤ w.heap.size)
  (h : ∀ v' w',w'.ownsRow base 5 1 v' (n + m) (xs ++ Lib.byteCells l) → w.grownBy w' v.ownBlock → wpList Tryz.prog ops Q rest (a.put o.dst v') w') :
  wpList Tryz.prog ops Q (o :: rest) a w:=by
 obtain ⟨i0,hi,hz0,hz1,hz2⟩:=info_parts info_byte
 refine wpList_append_own _ hgd s x 137 ho base 5 i0 (.int .u8 0) 1 1 Tryz.underlying137 hi hz0 hz1 hz2 rfl (by decide) v n xs hs hown ad m k (Lib.byteCells l) hx (by rw [Lib.byteCells_length,hl];omega) hcell (Lib.byteCells_one _) ?_ ?_ hbase fun v' w' h1 h2 _=>h v' w' h1 h2
 ·unfold maxLen;omega
 ·omega
theorem append_text {ops : Array Oper} {rest : List Oper} {o : Oper} {a : Act} {Q : Exit → Act → World → Prop} (hgd : o.guard = none) (s x : Operand)
  (ho : o.op = .call { callee:=.builtin .append,args:=#[s,x],argTypes:=#[137,9] }) (base : Nat) (w : World) (t : ByteArray)
  (v : Value) (n : Nat) (xs : List Value) (hs : a.eval s = v) (hown : w.ownsRow base 5 1 v n xs) (hx : a.eval x = .string t)
  (hn : n + t.size ≤ 4398046511300) (hbase : base ≤ w.heap.size)
  (h : ∀ v' w',w'.ownsRow base 5 1 v' (n + t.size) (xs ++ Lib.byteCells t.data.toList) → w.grownBy w' v.ownBlock → wpList Tryz.prog ops Q rest (a.put o.dst v') w') :
  wpList Tryz.prog ops Q (o :: rest) a w:=by
 obtain ⟨i0,hi,hz0,hz1,hz2⟩:=info_parts info_byte
 refine Lib.wpList_append_own_string w hgd s x 137 9 ho base 5 i0 Tryz.underlying137 Tryz.underlying9 hi hz0 hz1 hz2 v n xs hs hown t hx ?_ ?_ hbase fun v' w' h1 h2 _=>h v' w' (by rw [← Lib.strCells_eq];exact h1) h2
 ·unfold maxLen;omega
 ·omega
theorem byteCells_app (a b : List UInt8) : Lib.byteCells a ++ Lib.byteCells b = Lib.byteCells (a ++ b):=by simp [Lib.byteCells]
theorem hd_cells (n : Nat) (hn : n < 65536) : #[Value.int .u8 ((n : Int) / 256),Value.int .u8 ((n : Int) % 256)] = (Lib.byteCells (hd n)).toArray:=by
 have h1 : (((UInt8.ofNat (n / 256)).toNat : Nat) : Int) = (n : Int) / 256:=by rw [UInt8.toNat_ofNat'];omega
 have h2 : (((UInt8.ofNat n).toNat : Nat) : Int) = (n : Int) % 256:=by rw [UInt8.toNat_ofNat'];omega
 unfold hd Lib.byteCells
 simp only [List.map_cons,List.map_nil,h1,h2]
theorem hd_cell (n : Nat) (w : World) (t : TypeId) (i : Nat) (u : Value) (hn : n < 65536) (h : (Lib.byteCells (hd n))[i]? = some u) :
  (w.alloc (.cells #[.int .u8 ((n : Int) / 256),.int .u8 ((n : Int) % 256)] t)).cell? ((⟨w.heap.size,0,none⟩ : Addr).add i) = some u:=by
 rw [Addr.add_lit,Nat.zero_add,cell_of_heap (heap_alloc_new _ _),hd_cells n hn]
 rw [← h]
 simp
theorem put_bad (a : Option Addr) (len cap m : Nat) (ss : List ByteArray) (w : World) (hS : StrsAt w a len ss) (hF : Few 100 5000 ss) (hm : m < len) (hr : ∀ i,i < m → 1 ≤ (ss.getD i ByteArray.empty).size ∧ (ss.getD i ByteArray.empty).size ≤ 4096) (hb : ¬ (1 ≤ (ss.getD m ByteArray.empty).size ∧ (ss.getD m ByteArray.empty).size ≤ 4096)) :
  Calls Tryz.prog 55 #[.slice a len cap] w fun e w'=>e = .returned (.tuple #[.string ⟨#[]⟩,.int .i64 1]) ∧ w = w':=by
 have HL:=Lib.hid hS.1;have HC:=Lib.hid hS.cells;have HF:=Lib.hid hF;have HR:=Lib.hid hr;have HB:=Lib.hid hb
 have hlen : len ≤ 100:=by rw [← hS.1];exact hF.1
 clear hS hF hr hb
 go_enter Tryz.func55,Tryz.ntmps55
 go_wp2_with fail
 go_loop [12] (fun i => ∃ j : Nat,j ≤ m ∧ i = .int .i64 (j : Int)) (fun i=>len - (intOf i).toNat)
 case atStart=>exact ⟨0,Nat.zero_le _,rfl⟩
 case round =>
  obtain ⟨j,hj,rfl⟩:=hrel
  obtain ⟨b,off,rfl,_,hc⟩:=HC.out (by omega)
  have hlj : j < ss.length:=by rw [HL.out];omega
  have d0:=hc j (by omega)
  have y0:=getD_size HF.out j hlj
  clear hc
  by_cases hlt : j < m
  ·have y1:=HR.out j hlt
   generalize ss.getD j ByteArray.empty = s at *
   have hfit:=fits_any s.size w (by omega)
   rw [decide_eq_true y1] at hfit
   have HFIT:=Lib.hid hfit
   clear hfit
   go_wp2_with fail
   refine HFIT.out.mono ?_
   rintro e w' ⟨rfl,rfl⟩
   go_wp2_with fail
   go_round
   case rel=>exact ⟨j + 1,by omega,by go_num⟩
   case measure=>simp [intOf];omega
  ·obtain rfl : j = m:=by omega
   have y1:=HB.out
   generalize ss.getD j ByteArray.empty = s at *
   have hfit:=fits_any s.size w (by omega)
   rw [decide_eq_false y1] at hfit
   have HFIT:=Lib.hid hfit
   clear hfit
   go_wp2_with fail
   refine HFIT.out.mono ?_
   rintro e w' ⟨rfl,rfl⟩
   go_wp2_with fail
   go_ret2
   exact ⟨rfl,rfl⟩
theorem put_long (a : Option Addr) (len cap : Nat) (ss : List ByteArray) (w : World) (hS : StrsAt w a len ss) (hF : Few 100 5000 ss) (hr : ∀ t ∈ ss,1 ≤ t.size ∧ t.size ≤ 4096) (hz : 16384 < sz (dt ss)) :
  Calls Tryz.prog 55 #[.slice a len cap] w fun e w'=>e = .returned (.tuple #[.string ⟨#[]⟩,.int .i64 9]) ∧ w = w':=by
 have HL:=Lib.hid hS.1;have HC:=Lib.hid hS.cells;have HR:=Lib.hid hr;have HSI:=Lib.hid (size_any a len cap ss w hS hF)
 have hlen : len ≤ 100:=by rw [← hS.1];exact hF.1
 have hzz:=hF.sz
 obtain ⟨z,hz2⟩ : ∃ z,sz (dt ss) = z:=⟨_,rfl⟩
 rw [hz2] at HSI hz hzz
 clear hS hF hz2 hr
 go_enter Tryz.func55,Tryz.ntmps55
 go_wp2_with fail
 go_loop [12] (fun i => ∃ j : Nat,j ≤ len ∧ i = .int .i64 (j : Int)) (fun i=>len - (intOf i).toNat)
 case atStart=>exact ⟨0,Nat.zero_le _,rfl⟩
 case round =>
  obtain ⟨j,hj,rfl⟩:=hrel
  by_cases hlt : j < len
  ·obtain ⟨b,off,rfl,_,hc⟩:=HC.out (by omega)
   have hlj : j < ss.length:=by rw [HL.out];exact hlt
   have d0:=hc j hlt
   have y1:=HR.out _ (getD_mem hlj)
   clear hc
   generalize ss.getD j ByteArray.empty = s at *
   have hfit:=fits_any s.size w (by omega)
   rw [decide_eq_true y1] at hfit
   have HFIT:=Lib.hid hfit
   clear hfit
   go_wp2_with fail
   refine HFIT.out.mono ?_
   rintro e w' ⟨rfl,rfl⟩
   go_wp2_with fail
   go_round
   case rel=>exact ⟨j + 1,by omega,by go_num⟩
   case measure=>simp [intOf];omega
  ·obtain rfl : j = len:=by omega
   go_wp2_with fail
   refine HSI.out.mono ?_
   rintro e w' ⟨rfl,rfl⟩
   go_wp2_with fail
   go_ret2
   exact ⟨rfl,rfl⟩
theorem put_yes (a : Option Addr) (len cap : Nat) (ss : List ByteArray) (w : World) (hS : StrsAt w a len ss) (hF : Few 100 5000 ss) (hr : ∀ t ∈ ss,1 ≤ t.size ∧ t.size ≤ 4096) (hz : sz (dt ss) ≤ 16384) :
  Calls Tryz.prog 55 #[.slice a len cap] w fun e w'=>e = .returned (.tuple #[.string (str (frs (dt ss))),.int .i64 0]) ∧ Below w.heap.size w w':=by
 obtain ⟨i0,hi,hz0,hz1,hz2⟩:=info_parts info_byte
 have HI:=Lib.hid hi;have HZ0:=Lib.hid hz0;have HZ1:=Lib.hid hz1;have HZ2:=Lib.hid hz2
 clear hi hz0 hz1 hz2
 have HL:=Lib.hid hS.1;have HC:=Lib.hid hS.cells;have HF:=Lib.hid hF;have HR:=Lib.hid hr;have HSI:=Lib.hid (size_any a len cap ss w hS hF)
 have hlen : len ≤ 100:=by rw [← hS.1];exact hF.1
 obtain ⟨z,hz2⟩ : ∃ z,sz (dt ss) = z:=⟨_,rfl⟩
 obtain ⟨X,hX⟩ : ∃ X,str (frs (dt ss)) = X:=⟨_,rfl⟩
 rw [hz2] at HSI hz
 rw [hX]
 have HZ:=Lib.hid hz2
 have HX:=Lib.hid hX
 clear hS hF hz2 hr hX
 go_enter Tryz.func55,Tryz.ntmps55
 go_wp2_with fail
 go_loop [12] (fun i => ∃ j : Nat,j ≤ len ∧ i = .int .i64 (j : Int)) (fun i=>len - (intOf i).toNat)
 case atStart=>exact ⟨0,Nat.zero_le _,rfl⟩
 case round =>
  obtain ⟨j,hj,rfl⟩:=hrel
  by_cases hlt : j < len
  ·obtain ⟨b,off,rfl,_,hc⟩:=HC.out (by omega)
   have hlj : j < ss.length:=by rw [HL.out];exact hlt
   have d0:=hc j hlt
   have y1:=HR.out _ (getD_mem hlj)
   clear hc
   generalize ss.getD j ByteArray.empty = s at *
   have hfit:=fits_any s.size w (by omega)
   rw [decide_eq_true y1] at hfit
   have HFIT:=Lib.hid hfit
   clear hfit
   go_wp2_with fail
   refine HFIT.out.mono ?_
   rintro e w' ⟨rfl,rfl⟩
   go_wp2_with fail
   go_round
   case rel=>exact ⟨j + 1,by omega,by go_num⟩
   case measure=>simp [intOf];omega
  ·obtain rfl : j = len:=by omega
   go_wp2_with fail
   refine HSI.out.mono ?_
   rintro e w' ⟨rfl,rfl⟩
   go_wp2_with (at_make;refine wpList_make_own _ rfl (.const (.int .i64 0)) (.tmp 25) 137 rfl w.heap.size 5 i0 _ 1 Tryz.underlying137 HI.out HZ0.out HZ1.out .i64 .i64 _ z rfl rfl rfl ?b2 ?b3 ?b4 ?_)
   case b2=>rw [HZ2.out];omega
   case b3=>unfold maxLen;omega
   case b4=>exact Nat.le_refl _
   intro w1 hown hgr
   have HB1:=Lib.hid ((Below.refl _ w).grown hgr (Nat.le_refl _) (fun k e=>by cases e))
   have HO1:=Lib.hid hown
   clear hown hgr
   go_wp2_with fail
   go_loopw [7,29] (fun v i wr => ∃ (k : Nat) (a1 : Option Addr) (c1 n : Nat),k ≤ j ∧ i = .int .i64 (k : Int) ∧ v = .slice a1 n c1 ∧ Hid (n = sz ((dt ss).take k)) ∧ Hid (wr.ownsRow w.heap.size 5 1 (.slice a1 n c1) n (Lib.byteCells (frs ((dt ss).take k)))) ∧ Hid (Below w.heap.size w wr)) (fun _ i _=>j - (intOf i).toNat)
   case atStart=>exact ⟨0,_,_,0,Nat.zero_le _,rfl,rfl,rfl,HO1,HB1⟩
   case round =>
    obtain ⟨k,a1,c1,n,hk,rfl,rfl,hn,hO,hB⟩:=hrel
    by_cases hlt2 : k < j
    ·obtain ⟨b,off,rfl,hb,hc⟩:=HC.out (by omega)
     have hlj : k < ss.length:=by rw [HL.out];exact hlt2
     have d0:=(hB.out.cell (p:=⟨b,off + k,none⟩) hb).trans (hc k hlt2)
     have y1:=HR.out _ (getD_mem hlj)
     have hfk:=frs_take (dt ss) k (by rw [dt_length];exact hlj)
     have hst:=sz_take (dt ss) k (by rw [dt_length];exact hlj)
     have hnz : n ≤ z:=by
      have h1:=hn.out
      have h2:=sz_take_le (dt ss) k
      rw [HZ.out] at h2
      omega
     rw [dt_get ss k hlj] at hfk hst
     rw [len_list] at hst
     have HFK:=Lib.hid hfk;have HST:=Lib.hid hst
     clear hc hfk hst
     generalize ss.getD k ByteArray.empty = s at *
     have hcut : n + 2 + 4 + s.size = sz ((dt ss).take (k + 1)):=by have h1:=hn.out;rw [HST.out];omega
     have hfr : Lib.byteCells (frs ((dt ss).take k)) ++ Lib.byteCells (hd s.size) ++ Lib.byteCells (cs s.data.toList) ++ Lib.byteCells s.data.toList = Lib.byteCells (frs ((dt ss).take (k + 1))):=by
      rw [HFK.out,byteCells_app,byteCells_app,byteCells_app]
      unfold fr
      rw [len_list,List.append_assoc,List.append_assoc,List.append_assoc]
     have HCUT:=Lib.hid hcut;have HFR:=Lib.hid hfr
     have hsum:=fun w=>sum_of s w (by omega)
     obtain ⟨c,hc⟩ : ∃ c,cs s.data.toList = c:=⟨_,rfl⟩
     have hc4 : (str c).size = 4:=by rw [← hc];rfl
     rw [hc] at hsum HFR
     have HSUM:=Lib.hid hsum
     clear hcut hfr hsum hc
     have hbw:=hB.out.size
     go_wp2_with (at_builtin;refine append_row rfl (.tmp 33) (.tmp 41) rfl w.heap.size _ (hd s.size) ⟨wr.heap.size,0,none⟩ 2 2 _ n _ rfl (hO.out.alloc _) rfl rfl ?c1 ?c2 ?c3 ?_)
     case c1=>exact fun i u h=>hd_cell s.size wr _ i u (by omega) h
     case c2=>omega
     case c3=>simp;omega
     intro v1 w2 ho2 hg2
     obtain ⟨a2,c2,rfl⟩:=owns_slice0 ho2
     have hb2:=(hB.out.alloc hB.out.size (.cells #[.int .u8 ((s.size : Int) / 256),.int .u8 ((s.size : Int) % 256)] 5)).grown hg2 (by simp;omega) (fun q hq=>(hO.out.lt q hq).1)
     have HO2:=Lib.hid ho2;have HB2:=Lib.hid hb2
     have hbw2:=hb2.size
     clear ho2 hg2 hb2
     go_wp2_with fail
     refine (HSUM.out _).mono ?_
     rintro e w3 ⟨rfl,hb3⟩
     have HO3:=Lib.hid (owns_below HO2.out hb3);have HB3:=Lib.hid (HB2.out.trans (hb3.mono HB2.out.size))
     clear hb3 HO2 HB2
     have hbw3:=HB3.out.size
     go_wp2_with (at_builtin;refine append_text rfl (.tmp 43) (.tmp 45) rfl w.heap.size _ (str c) _ (n + 2) _ rfl HO3.out rfl ?d2 ?d3 ?_)
     case d2=>omega
     case d3=>omega
     intro v2 w4 ho4 hg4
     obtain ⟨a3,c3,rfl⟩:=owns_slice0 ho4
     have hb4:=HB3.out.grown hg4 (by omega) (fun q hq=>(HO3.out.lt q hq).1)
     have HO4:=Lib.hid ho4;have HB4:=Lib.hid hb4
     clear ho4 hg4 hb4 HO3 HB3
     have hbw4:=HB4.out.size
     go_wp2_with (at_builtin;refine append_text rfl (.tmp 47) (.tmp 48) rfl w.heap.size _ s _ (n + 2 + 4) _ rfl HO4.out rfl ?e2 ?e3 ?_)
     case e2=>omega
     case e3=>omega
     intro v3 w5 ho5 hg5
     obtain ⟨a4,c4,rfl⟩:=owns_slice0 ho5
     have hb5:=HB4.out.grown hg5 (by omega) (fun q hq=>(HO4.out.lt q hq).1)
     have ho6 : w5.ownsRow w.heap.size 5 1 (.slice a4 (n + 2 + 4 + s.size) c4) (n + 2 + 4 + s.size) (Lib.byteCells (frs ((dt ss).take (k + 1)))):=by
      refine owns_cast ho5 rfl ?_
      rw [← HFR.out]
      simp only [str_list,List.append_assoc]
     have HO5:=Lib.hid ho6;have HB5:=Lib.hid hb5
     clear ho5 ho6 hg5 hb5 HO4 HB4
     go_wp2_with fail
     go_roundw
     case rel=>exact ⟨k + 1,a4,c4,n + 2 + 4 + s.size,by omega,by go_num,rfl,HCUT.out,HO5,HB5⟩
     case measure=>simp [intOf];omega
    ·obtain rfl : k = j:=by omega
     have ho:=hO.out
     rw [List.take_of_length_le (by rw [dt_length,HL.out];exact Nat.le_refl _)] at ho
     have ht:=owns_text ho
     rw [HX.out] at ht
     clear ho
     go_wp2_with fail
     go_ret2
     exact ⟨rfl,hB.out⟩
end Go.Proofs.YtnnakhdndmjmiaaGreat.Frame
