import Derived.Test.YtnnakhdndmjmiaaGreatPuDiskB
import Derived.OwnWalk
set_option linter.unusedVariables false
set_option maxRecDepth 4000
namespace Go.Proofs.YtnnakhdndmjmiaaGreat.Disk
open Go.RowKit DiskP
theorem run_append_new {P : Program} (w : World) (t ty e : TypeId) (i : TypeInfo) (z : Value) (size bytes : Nat) (ht : P.underlying t = some (.slice e)) (hi : P.info? e = some i) (hz : i.zero = some z)
  (hsize : i.size = size) (hby : i.bytes = bytes) (hzs : z.cells.size = size) (hsz : 0 < size)
  (v : Value) (n : Nat) (xs : List Value) (hown : w.ownsRow 0 e size v n xs)
  (a : Addr) (m c : Nat) (news : List Value) (hl : news.length = m * size) (hnews : ∀ j u,news[j]? = some u → w.cell? (a.add j) = some u) (h1 : ∀ u ∈ news,u.oneCell' = true)
  (h63 : n + m ≤ maxLen) (hbytes : (n + m) * bytes ≤ 140737488355328) :
  ∃ v' w',(Builtin.append_ #[t,t] ty #[v,.slice (some a) m c]).run P w = .ok v' w' ∧ w'.ownsRow 0 e size v' (n + m) (xs ++ news) ∧ w.grownBy w' v.ownBlock ∧
   (∀ k,v'.ownBlock = some k → v.ownBlock = some k ∨ w.heap.size ≤ k):=by
 obtain ⟨v',w',hr,hown',hg,hnil⟩:=run_append_own (P:=P) w 0 t ty e i z size bytes ht hi hz hsize hby hzs hsz v n xs hown a m c news hl hnews h1 h63 hbytes (Nat.zero_le _)
 refine ⟨v',w',hr,hown',hg,?_⟩
 rcases hown.2 with ⟨rfl,rfl⟩ | ⟨g,cap,cur,rfl,hbg,hgh,hnc,hcm,hcs,htake⟩
 ·have hx : xs = []:=List.eq_nil_of_length_eq_zero (by simpa using hown.1)
  subst hx
  obtain ⟨v2,w2,hr2,hown2,_,_⟩:=run_append_own (P:=P) w w.heap.size t ty e i z size bytes ht hi hz hsize hby hzs hsz (.slice none 0 0) 0 [] (World.ownsRow_nil w w.heap.size e size) a m c news hl hnews h1 h63 hbytes (Nat.le_refl _)
  rw [hr] at hr2
  have e2 : v' = v2:=by injection hr2
  subst e2
  exact fun k hk=>.inr (hown2.lt k hk).1
 ·subst hsize
  subst hby
  by_cases hroom : n + m ≤ cap
  ·have hfit : n * i.size + news.length ≤ cur.size:=by rw [hl,hcs,← Nat.add_mul];exact Nat.mul_le_mul_right _ hroom
   have hr2:=run_append_room (P:=P) w t ty e i ht hi g n cap cur hgh a m c news hl hnews h1 hroom hfit
   rw [hr] at hr2
   injection hr2 with e1 e2
   subst e1
   exact fun k hk=>.inl hk
  ·have holds : ∀ j u,xs[j]? = some u → w.cell? ((⟨g,0,none⟩ : Addr).add j) = some u:=hown.cells (g:=g) rfl
   have hsmall : n + m ≤ 9223372036854775807:=by simp only [maxLen] at h63;omega
   have hr2:=run_append_grow (P:=P) w t ty e i z ht hi hz ⟨g,0,none⟩ n cap xs hown.1 holds a m c news hl hnews (by omega) (by omega) (growslice_fits (by omega) hbytes)
   rw [hr] at hr2
   injection hr2 with e1 e2
   subst e1
   intro k hk
   right
   have : w.heap.size = k:=by simpa [Value.ownBlock] using hk
   omega
theorem wpList_append_new {P : Program} (w : World) {ops : Array Oper} {rest : List Oper} {o : Oper} {a : Act} {Q : Exit → Act → World → Prop} (hgd : o.guard = none) (s x : Operand) (t : TypeId)
  (ho : o.op = Op.call { callee:=Callee.builtin Builtin.append,args:=#[s,x],argTypes:=#[t,t] })
  (e : TypeId) (i : TypeInfo) (z : Value) (size bytes : Nat) (ht : P.underlying t = some (.slice e)) (hi : P.info? e = some i) (hz : i.zero = some z)
  (hsize : i.size = size) (hby : i.bytes = bytes) (hzs : z.cells.size = size) (hsz : 0 < size)
  (v : Value) (n : Nat) (xs : List Value) (hs : a.eval s = v) (hown : w.ownsRow 0 e size v n xs)
  (ad : Addr) (m c : Nat) (news : List Value) (hx : a.eval x = .slice (some ad) m c) (hl : news.length = m * size) (hnews : ∀ j u,news[j]? = some u → w.cell? (ad.add j) = some u) (h1 : ∀ u ∈ news,u.oneCell' = true)
  (h63 : n + m ≤ maxLen) (hbytes : (n + m) * bytes ≤ 140737488355328)
  (h : ∀ v' w',w'.ownsRow 0 e size v' (n + m) (xs ++ news) → w.grownBy w' v.ownBlock → (∀ k,v'.ownBlock = some k → v.ownBlock = some k ∨ w.heap.size ≤ k) → wpList P ops Q rest (a.put o.dst v') w') : wpList P ops Q (o :: rest) a w:=by
 refine wpList_plain hgd fun K hK=>?_
 obtain ⟨v',w',hrun,r1,r2,r3⟩:=run_append_new (P:=P) w t o.type e i z size bytes ht hi hz hsize hby hzs hsz v n xs hown ad m c news hl hnews h1 h63 hbytes
 unfold Oper.wp
 simp [execOp,ho,resolve,invoke,builtin,hs,hx,hrun,Result.andThen]
 exact hK _ _ (h v' w' r1 r2 r3)
theorem info_write : (Tryz.prog.info? 107).map (fun i=>(i.zero,i.size,i.bytes)) = some (some (.agg #[.int .i64 0,.string ⟨#[]⟩]),2,24):=by kernel_rfl
theorem owns_succ {W : World} {base : Nat} {e : TypeId} {size : Nat} {v : Value} {k : Nat} {xs : List Value} (h : W.ownsRow base e size v (k + 1) xs) : ∃ g cap,v = .slice (some ⟨g,0,none⟩) (k + 1) cap:=ownsRow_succ h
theorem dk_pend {w w1 : World} {b g cap : Nat} {st : St} {z : Int} {wv v' : Value} {k : Nat} {s : ByteArray} (h : DkAt w b st z g cap wv) (o : Obj)
  (hg : (w.alloc o).grownBy w1 wv.ownBlock) (hown : w1.ownsRow 0 107 2 v' (st.W.length + 1) (wcells st.W ++ [.int .i64 (k : Int),.string s])) (hb : ∀ k,v'.ownBlock = some k → wv.ownBlock = some k ∨ w.heap.size + 1 ≤ k) :
  w1.heap[b]? = w.heap[b]? ∧ DkAt (w1.setCell ⟨b,4,none⟩ v') b { st with W:=st.W ++ [(k,s)] } z g cap v' ∧ Upd (foot b g wv) w (w1.setCell ⟨b,4,none⟩ v') (foot b g v'):=by
 have hk : ∀ j,j < w.heap.size → wv.ownBlock ≠ some j → w1.heap[j]? = w.heap[j]?:=fun j hj hn=>(hg.block j (by simp;omega) (fun e=>hn e.symm)).trans (Below.heap_alloc _ _ _ hj)
 have hb1 : w1.heap[b]? = w.heap[b]?:=hk b (heap_lt h.blk) (fun e=>h.bw e rfl)
 have hg1 : w1.heap[g]? = w.heap[g]?:=hk g (owns_lt h.sec rfl) (fun e=>h.gw e rfl)
 have hsz : w.heap.size ≤ w1.heap.size:=by have:=hg.size;simp at this;omega
 have hs2:=Lib.grownBy_setCell w1 b 4 v'
 have hvb : ∀ j,v'.ownBlock = some j → b ≠ j:=fun j e=>by
  obtain ⟨cur,hc⟩:=owns_type hown e
  exact not_type (hb1.trans h.blk) hc (by decide)
 refine ⟨hb1,⟨?_,h.zr,?_,?_⟩,?_⟩
 ·exact Lib.heap_setCell_same (i:=4) (hb1.trans h.blk) _
 ·exact owns_heap h.sec (fun j e=>by
   obtain rfl : g = j:=by simpa [Value.ownBlock] using e
   exact (hs2.block g (by have : g < w.heap.size:=owns_lt h.sec rfl;omega) (fun e2=>h.bg (by cases e2;rfl))).trans hg1)
 ·have:=owns_heap hown (fun j e=>hs2.block j (owns_lt hown e) (fun e2=>hvb j e (by cases e2;rfl)))
  simpa [wcells_append,wcells] using this
 ·refine ⟨hs2.os.trans hg.os,hs2.tape.trans hg.tape,hs2.output.trans hg.output,Nat.le_trans hsz hs2.size,fun j hj hn=>?_,fun j hj=>?_⟩
  ·rw [mem_foot] at hn
   exact (hs2.block j (by omega) (fun e=>hn (.inl (by cases e;rfl)))).trans (hk j hj (fun e=>hn (.inr (.inr e))))
  ·rw [mem_foot] at hj ⊢
   rcases hj with e | e | e
   ·exact .inl (.inl e)
   ·exact .inl (.inr (.inl e))
   ·rcases hb j e with h2 | h2
    ·exact .inl (.inr (.inr h2))
    ·right;omega
theorem dk_op {w w' : World} {b g cap : Nat} {st : St} {z z' : Int} {wv : Value} (h : DkAt w b st z g cap wv)
  (hb : w'.heap[b]? = some (.cells #[.int .i64 ((op st).ops : Int),.int .i64 z',.bool (op st).dead,.slice (some ⟨g,0,none⟩) st.S.length cap,wv] 80 (0,0)))
  (hz : z'.toNat = (op st).left ∧ -9223372036854775808 ≤ z' ∧ z' ≤ 9223372036854775807) (hg : w.grownBy w' (some b)) : DkAt w' b (op st) z' g cap wv :=
 ⟨hb,hz,owns_heap h.sec (fun j e=>hg.block j (owns_lt h.sec e) (fun e2=>h.bg (by cases e2;simpa [Value.ownBlock] using e.symm))),
  owns_heap h.wts (fun j e=>hg.block j (owns_lt h.wts e) (fun e2=>h.bw e (by cases e2;rfl)))⟩
theorem did_int {w : World} {L : List Nat} {b : Nat} {st : St} {r r' : Int} {st' : St} (he : r' = r) (hs : st' = st) (h : Dk w L b st) : Did w L b st' (.int .i64 r') (.returned (.int .i64 r)) w:=by
 subst he hs;exact ⟨rfl,L,h,Upd.refl L w⟩
theorem wr_dead {st : St} (h : st.dead = true) (at_ : Int) (s : ByteArray) : wr st at_ s = (13,st):=by unfold wr;rw [if_pos h]
theorem wr_out {st : St} (h : st.dead = false) {at_ : Int} (ho : out st.S.length at_ = true) (s : ByteArray) : wr st at_ s = (11,st):=by unfold wr;rw [if_neg (by simp [h]),if_pos ho]
theorem wr_long {st : St} (h : st.dead = false) {at_ : Int} (ho : out st.S.length at_ = false) {s : ByteArray} (hs : s.size ≠ 128) : wr st at_ s = (9,st):=by unfold wr;rw [if_neg (by simp [h]),if_neg (by simp [ho]),if_pos hs]
theorem wr_stop {st : St} (h : st.dead = false) {at_ : Int} (ho : out st.S.length at_ = false) {s : ByteArray} (hs : s.size = 128) (hp : opd st = true) : wr st at_ s = (13,op st):=by unfold wr;rw [if_neg (by simp [h]),if_neg (by simp [ho]),if_neg (by simp [hs]),if_pos hp]
theorem wr_ok2 {st : St} (h : st.dead = false) {at_ : Int} (ho : out st.S.length at_ = false) {s : ByteArray} (hs : s.size = 128) (hp : opd st = false) : wr st at_ s = (0,{ op st with W:=st.W ++ [(at_.toNat,s)] }):=by unfold wr;rw [if_neg (by simp [h]),if_neg (by simp [ho]),if_neg (by simp [hs]),if_neg (by simp [hp])]
set_option maxHeartbeats 1000000 in
theorem write_dk (b n : Nat) (st : St) (L : List Nat) (at_ : Int) (s : ByteArray) (w : World) (h : Dk w L b st) (hok : Ok n st) (hn : n ≤ 1000000000) (hss : s.size ≤ 9223372036854775807) :
  Calls Tryz.prog 105 #[.pointer (some ⟨b,0,none⟩),.int .i64 at_,.string s] w (Did w L b (wr st at_ s).2 (.int .i64 (wr st at_ s).1)):=by
 have hr:=reach_dk b st L at_ w h hok.hi
 cases hd : st.dead with
 | true =>
  rw [wr_dead hd]
  rw [hd] at hr
  have HH:=Lib.hid h;have HR:=Lib.hid hr
  clear h hr hok hd
  go_enter Tryz.func105,Tryz.ntmps105
  go_wp2_with fail
  refine HR.out.mono ?_
  rintro e w' ⟨rfl,rfl⟩
  go_wp2_with fail
  go_ret
  exact did_int rfl rfl HH.out
 | false =>
 rw [hd] at hr
 cases ho : out st.S.length at_ with
 | true =>
  rw [wr_out hd ho]
  rw [ho] at hr
  have HH:=Lib.hid h;have HR:=Lib.hid hr
  clear h hr hok hd ho
  go_enter Tryz.func105,Tryz.ntmps105
  go_wp2_with fail
  refine HR.out.mono ?_
  rintro e w' ⟨rfl,rfl⟩
  go_wp2_with fail
  go_ret
  exact did_int rfl rfl HH.out
 | false =>
 rw [ho] at hr
 by_cases hs : s.size = 128
 ·obtain ⟨k,rfl⟩ : ∃ k : Nat,at_ = k:=⟨at_.toNat,by have:=of_out ho;omega⟩
  obtain ⟨z,g,cap,wv,h,rfl⟩:=h
  have hop:=operate_any b st z _ _ w h.blk h.zr (by have:=hok.ops;omega)
  have hwn : st.W.length ≤ 1000000000:=by have:=hok.wn;omega
  cases hp : opd st with
  | true =>
   rw [wr_stop hd ho hs hp]
   rw [hp] at hop
   have hs2 : ((s.size : Int) != 128) = false:=by rw [hs];rfl
   have HH:=Lib.hid h;have HR:=Lib.hid hr;have HO:=Lib.hid hop
   clear h hr hop hok hd ho hs hp
   go_enter Tryz.func105,Tryz.ntmps105
   go_wp2_with fail
   refine HR.out.mono ?_
   rintro e w' ⟨rfl,rfl⟩
   go_wp2_with fail
   refine HO.out.mono ?_
   rintro e w1 ⟨rfl,⟨z',hb,hz⟩,hg⟩
   have HD:=Lib.hid (show Did w (foot b g wv) b (op st) (.int .i64 13) (.returned (.int .i64 13)) w1 from ⟨rfl,_,⟨z',g,cap,wv,dk_op HH.out hb hz hg,rfl⟩,Upd.of_grown hg (by simp [foot])⟩)
   clear hb hz hg
   go_wp2_with fail
   go_ret
   exact HD.out
  | false =>
   rw [wr_ok2 hd ho hs hp]
   rw [hp] at hop
   have hs2 : ((s.size : Int) != 128) = false:=by rw [hs];rfl
   have HH:=Lib.hid h;have HR:=Lib.hid hr;have HO:=Lib.hid hop
   clear h hr hop hok hd ho hs hp
   obtain ⟨i0,hi,hz0,hz1,hz2⟩:=info_parts info_write
   have HI:=Lib.hid hi;have HZ0:=Lib.hid hz0;have HZ1:=Lib.hid hz1;have HZ2:=Lib.hid hz2
   clear hi hz0 hz1 hz2
   go_enter Tryz.func105,Tryz.ntmps105
   go_wp2_with fail
   refine HR.out.mono ?_
   rintro e w' ⟨rfl,rfl⟩
   go_wp2_with fail
   refine HO.out.mono ?_
   rintro e w1 ⟨rfl,⟨z',hb,hz⟩,hg⟩
   have hD1:=dk_op HH.out hb hz hg
   have HU1:=Lib.hid (Upd.of_grown hg (show b ∈ foot b g wv by simp [foot]))
   have c4 : w1.cell? ⟨b,4,none⟩ = some wv:=cell_of_heap hb
   have HD1:=Lib.hid hD1
   clear hb hz hg hD1
   go_wp2_with (at_builtin;refine wpList_append_new _ rfl (.tmp 26) (.tmp 30) 44 rfl 107 i0 _ 2 24 Tryz.underlying44 HI.out HZ0.out HZ1.out HZ2.out rfl (by decide) wv st.W.length (wcells st.W) rfl (HD1.out.wts.alloc _) ⟨w1.heap.size,0,none⟩ 1 1 [.int .i64 (k : Int),.string s] rfl rfl (cell_two_new _ _ _ _) ?c2 ?c3 ?c4 ?_)
   case c2=>simp [Value.oneCell']
   case c3=>unfold maxLen;omega
   case c4=>omega
   intro v' w2 hown' hgrow hnew
   obtain ⟨hb2,hD2,hU2⟩:=dk_pend HD1.out _ hgrow hown' hnew
   have hbb:=hb2.trans HD1.out.blk
   have d4 : w2.cell? ⟨b,4,none⟩ = some wv:=cell_of_heap hbb
   have f4 : w2.frozen? ⟨b,4,none⟩ = false:=frozen_of_heap hbb
   obtain ⟨g',cap',rfl⟩:=owns_succ hown'
   have HD2:=Lib.hid hD2;have HU2:=Lib.hid (HU1.out.trans hU2)
   clear hown' hgrow hnew hb2 hD2 hU2 hbb c4
   go_wp2_with fail
   go_ret
   exact ⟨rfl,_,⟨_,_,_,_,HD2.out,rfl⟩,HU2.out⟩
 ·rw [wr_long hd ho hs]
  have hs2 : ((s.size : Int) != 128) = true:=by rw [bne_iff_ne];omega
  have HH:=Lib.hid h;have HR:=Lib.hid hr
  clear h hr hok hd ho hs
  go_enter Tryz.func105,Tryz.ntmps105
  go_wp2_with fail
  refine HR.out.mono ?_
  rintro e w' ⟨rfl,rfl⟩
  go_wp2_with fail
  go_ret
  exact did_int rfl rfl HH.out
end Go.Proofs.YtnnakhdndmjmiaaGreat.Disk
