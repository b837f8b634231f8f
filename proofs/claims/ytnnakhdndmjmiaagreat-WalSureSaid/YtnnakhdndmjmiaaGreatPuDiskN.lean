import Derived.Test.YtnnakhdndmjmiaaGreatPuDiskM
import Derived.Test.YtnnakhdndmjmiaaGreatPuShelf
import Derived.Laws.CopyOwn
set_option linter.unusedVariables false
set_option maxRecDepth 4000
namespace Go.Proofs.YtnnakhdndmjmiaaGreat.Disk
open Go.RowKit DiskP
def StrsAt (w : World) (a : Option Addr) (len : Nat) (ss : List ByteArray) : Prop :=
 ss.length = len ∧ len ≤ 9223372036854775807 ∧ (len = 0 ∨ ∃ b off,a = some ⟨b,off,none⟩ ∧ b < w.heap.size ∧ ∀ i,i < len → w.cell? ⟨b,off + i,none⟩ = some (.string (ss.getD i ByteArray.empty)))
def Made (w : World) (S : List ByteArray) (e : Ending) (w' : World) : Prop :=
 ∃ b L,e = .returned (.tuple #[.pointer (some ⟨b,0,none⟩),.int .i64 0]) ∧ Dk w' L b (fresh S) ∧ (∀ k ∈ L,w.heap.size ≤ k) ∧ Below w.heap.size w w'
theorem made_of {w w1 : World} {g cap n : Nat} {S : List ByteArray} (hn : S.length = n) (hown : w1.ownsRow w.heap.size 9 1 (.slice (some ⟨g,0,none⟩) n cap) n (S.map Value.string)) (hb : Below w.heap.size w w1) :
  Made w S (.returned (.tuple #[.pointer (some ⟨w1.heap.size,0,none⟩),.int .i64 0])) (w1.alloc (.cells #[.int .i64 0,.int .i64 0,.bool false,.slice (some ⟨g,0,none⟩) n cap,.slice none 0 0] 80)):=by
 subst hn
 have ha : Below w1.heap.size w1 (w1.alloc (.cells #[.int .i64 0,.int .i64 0,.bool false,.slice (some ⟨g,0,none⟩) S.length cap,.slice none 0 0] 80)):=(Below.refl _ w1).alloc (Nat.le_refl _) _
 refine ⟨w1.heap.size,foot w1.heap.size g (.slice none 0 0),rfl,⟨0,g,cap,.slice none 0 0,⟨heap_alloc_new w1 _,⟨rfl,by decide,by decide⟩,owns_heap (owns_mono hown (Nat.zero_le _)) (fun k e=>ha.block k (owns_lt hown e)),World.ownsRow_nil _ _ _ _⟩,rfl⟩,fun k hk=>?_,hb.trans (ha.mono hb.size)⟩
 rcases mem_foot.1 hk with rfl | rfl | e
 ·exact hb.size
 ·exact (hown.lt _ rfl).1
 ·simp [Value.ownBlock] at e
end Go.Proofs.YtnnakhdndmjmiaaGreat.Disk
/-
 The contracts of slices.Repeat at one string,strings.Repeat's blank sector,New: any number.
-/
set_option linter.unusedVariables false
set_option maxRecDepth 4000
namespace Go.Proofs.YtnnakhdndmjmiaaGreat.Disk
open Go.RowKit DiskP
theorem extra : Builder.Extra Tryz.prog Tryz.lays105_ren where
 sizeBuilder:=by kernel_rfl
 liesBuilder:=by kernel_rfl
 t5:=Tryz.underlying5
 a5:=Tryz.isAgg5
 z5:=Tryz.sizeOf5
 v5:=Tryz.zeroValue5
 infoByte:=by kernel_rfl
 cellsByte:=by kernel_rfl
 sizeByte:=by kernel_rfl
 neB5:=by decide
theorem blank_rep : Lib.repeatL [0] 128 = List.replicate 128 0:=by decide +kernel
theorem blank_any (w : World) : Calls Tryz.prog 40 #[.string ⟨#[0]⟩,.int .i64 128] w fun e w'=>e = .returned (.string DiskP.blank) ∧ Below w.heap.size w w':=by
 have h:=Any.strings_Repeat Tryz.lays105 extra ⟨#[0]⟩ 128 w (by decide) (by decide)
 rw [show (⟨#[0]⟩ : ByteArray).data.toList = [0] from rfl,blank_rep] at h
 exact h
theorem mul_one (n : Nat) (w : World) (hn : n < 18446744073709551616) : Calls Tryz.prog 91 #[.int .u64 1,.int .u64 (n : Int)] w fun e w'=>e = .returned (.tuple #[.int .u64 0,.int .u64 (n : Int)]) ∧ w = w':=by
 have h:=Tryz.bits_Mul 1 n (by decide) hn w
 rw [Nat.one_mul,Nat.div_eq_of_lt hn,Nat.mod_eq_of_lt hn] at h
 exact h.mono fun e w' ⟨he,hw⟩=>⟨he,hw.symm⟩
theorem splice_rep {v : Value} {cur : List Value} {k m n : Nat} (hl : cur.length = n) (hk : cur.take k = List.replicate k v) (hkm : k + m ≤ n) (hm : m ≤ k) : (splice cur k (cur.take m)).take (k + m) = List.replicate (k + m) v:=by
 have h1 : cur.take m = List.replicate m v:=by
  have h:=congrArg (List.take m) hk
  rw [List.take_take,List.take_replicate,Nat.min_eq_left hm] at h
  exact h
 unfold splice
 rw [h1,hk,List.length_replicate]
 have hlen : (List.replicate k v ++ List.replicate m v).length = k + m:=by simp
 rw [← List.append_assoc,List.take_left' hlen,List.replicate_append_replicate]
def Filled (w : World) (g n k : Nat) (v : Value) : Prop := ∃ cur : List Value,w.heap[g]? = some (.cells cur.toArray 9 (0,0)) ∧ cur.length = n ∧ cur.take k = List.replicate k v
set_option maxRecDepth 100000 in
set_option maxHeartbeats 4000000 in
theorem repeat_any (xb n : Nat) (s : ByteArray) (w : World) (hc : w.cell? ⟨xb,0,none⟩ = some (.string s)) (h1 : 2 ≤ n) (h2 : n ≤ 512) :
  Calls Tryz.prog 41 #[.slice (some ⟨xb,0,none⟩) 1 1,.int .i64 (n : Int)] w (Fresh w n (List.replicate n s)):=by
 have hxb : xb < w.heap.size:=World.block_lt_of_cell? w _ hc
 have hn0 : (0 : Int) ≤ (n : Int):=by omega
 obtain ⟨i0,hi,hz0,hz1,hz2⟩:=info_parts info_string
 have hsz : (Tryz.prog.info? 9).map (·.size) = some 1:=by kernel_rfl
 have HI:=Lib.hid hi;have HZ0:=Lib.hid hz0;have HZ1:=Lib.hid hz1;have HZ2:=Lib.hid hz2;have HC:=Lib.hid hc;have HSZ:=Lib.hid hsz
 clear hi hz0 hz1 hz2 hc hsz
 go_enter Tryz.func41,Tryz.ntmps41
 go_wp2_with fail
 refine (mul_one n w (by omega)).mono ?_
 rintro e w' ⟨rfl,rfl⟩
 go_wp2_with (at_make;refine wpList_make_full _ rfl (.tmp 29) (.tmp 29) 22 rfl w.heap.size 9 i0 _ 1 Tryz.underlying22 HI.out HZ0.out HZ1.out .i64 .i64 (n : Int) (n : Int) n rfl rfl rfl rfl ?b2 ?b3 ?b4 ?_)
 case b2=>rw [HZ2.out];omega
 case b3=>unfold maxLen;omega
 case b4=>exact Nat.le_refl _
 intro w1 hown hgr
 have hb1 : Below w.heap.size w w1:=(Below.refl _ w).grown hgr (Nat.le_refl _) (fun k e=>by cases e)
 obtain ⟨cur,hcur,hcl⟩ : ∃ cur : List Value,w1.heap[w.heap.size]? = some (.cells cur.toArray 9 (0,0)) ∧ cur.length = n:=by
  rcases hown.2 with ⟨h,_⟩ | ⟨g,cp,cur,h,_,hg,h3,h4,h5,h6⟩
  ·simp at h
  ·simp only [Value.slice.injEq,Option.some.injEq,Addr.mk.injEq,and_true,true_and] at h
   obtain ⟨rfl,rfl⟩:=h
   exact ⟨cur.toList,by simpa using hg,by rw [Array.length_toList,h5,Nat.mul_one]⟩
 have hx1 : w1.cell? ⟨xb,0,none⟩ = some (.string s):=(hb1.cell (p:=⟨xb,0,none⟩) hxb).trans HC.out
 have HCUR:=Lib.hid hcur;have HCL:=Lib.hid hcl;have HX1:=Lib.hid hx1;have HB1:=Lib.hid hb1
 clear hown hgr hcur hcl hx1 hb1
 go_wp2_with (with_reducible refine wpList_copy_splice rfl (.tmp 31) (.tmp 32) 22 22 rfl 9 Tryz.underlying22 HSZ.out (some ⟨w.heap.size,0,none⟩) (some ⟨xb,0,none⟩) n n 1 1 rfl rfl w.heap.size 0 cur 9 HCUR.out [.string s] ?d1 ?d2 ?d3 ?d4 w.heap.size w HB1.out (Nat.le_refl _) ?_)
 case d1=>show 1 = min 1 n;omega
 case d2 =>
  intro j v hj
  match j,hj with
  | 0,hj=>simp at hj;subst hj;exact HX1.out
  | j + 1,hj=>simp at hj
 case d3=>rw [HCL.out];show 0 + 1 ≤ n;omega
 case d4=>intro v hv;obtain rfl:=List.mem_singleton.1 hv;rfl
 intro w2 hg2 hb2
 have HF:=Lib.hid (show Filled w2 w.heap.size n 1 (.string s) from ⟨_,hg2.out,by rw [length_splice _ _ _ (by rw [HCL.out];show 0 + 1 ≤ n;omega)];exact HCL.out,by simp [splice]⟩)
 have HB2:=Lib.hid hb2
 clear hg2 hb2
 go_wp2_with fail
 go_loopw [8] (fun v wr => ∃ k : Nat,1 ≤ k ∧ k ≤ n ∧ v = .int .i64 (k : Int) ∧ Hid (Filled wr w.heap.size n k (.string s)) ∧ Hid (Below w.heap.size w wr)) (fun v _=>n - (intOf v).toNat)
 case atStart=>exact ⟨1,by omega,by omega,rfl,HF,HB2⟩
 case round =>
  obtain ⟨k,hk1,hk2',rfl,hF,hB⟩:=hrel
  by_cases hlt : k < n
  ·obtain ⟨cu,hcu,hcul,hcut⟩:=hF.out
   have HCU:=Lib.hid hcu;have HCUL:=Lib.hid hcul;have HCUT:=Lib.hid hcut
   have hne : ¬ n = k:=by omega
   have hB2:=hB.out.drew
   have HBW:=Lib.hid hB2
   have HCU2 : Hid (wr.drew.heap[w.heap.size]? = some (.cells cu.toArray 9 (0,0))):=hcu
   clear hcu hcul hcut hF hB hB2
   go_wp2_with fail
   refine Mix.wp_region_mix [0] [1,2,3,4,5,6] [7,8,9] 7 (by kernel_rfl) (by kernel_rfl) (fun _ _ d _ _ h=>by cases d <;> exact h) ?_
   simp only [Mix.pick,List.filterMap_cons,List.filterMap_nil,List.getElem?_cons_zero,List.getElem?_cons_succ]
   repeat (refine Mix.wpFree_step ?_ (by rfl) ?_ ?_;rotate_left;focus ((intro w');go_simp;(try with_reducible rfl)))
   refine Mix.wpFree_nil ?_
   repeat still_step
   refine wpStill_nil ?_
   obtain ⟨m,hm⟩ : ∃ m,m = min k (n - k):=⟨_,rfl⟩
   have hm1 : m ≤ k:=by omega
   have hm2 : k + m ≤ n:=by omega
   have hm3 : 1 ≤ m:=by omega
   have HM:=Lib.hid hm
   have hml : (cu.take m).length = m:=by rw [List.length_take,HCUL.out];omega
   have HML:=Lib.hid hml
   clear hm hml
   generalize wr.drew = wd at *
   refine wpList_copy_splice rfl (.tmp 41) (.tmp 44) 22 22 rfl 9 Tryz.underlying22 HSZ.out (some ⟨w.heap.size,k,none⟩) (some ⟨w.heap.size,0,none⟩) (n - k) (n - k) k n rfl rfl w.heap.size k cu 9 HCU2.out (cu.take m) ?f1 ?f2 ?f3 ?f4 w.heap.size w HBW.out (Nat.le_refl _) ?_
   case f1=>rw [HML.out];show m = min k (n - k);exact HM.out
   case f2 =>
    refine fun _=>⟨rfl,_,rfl,fun j v hj=>?_⟩
    have hjm : j < m:=by have:=(List.getElem?_eq_some_iff.1 hj).1;rw [HML.out] at this;exact this
    rw [List.getElem?_take,if_pos hjm] at hj
    rw [Addr.add_lit,Nat.zero_add,cell_of_heap HCU2.out]
    simpa using hj
   case f3=>rw [HML.out,HCUL.out];exact hm2
   case f4 =>
    intro v hv
    have h1:=congrArg (List.take m) HCUT.out
    rw [List.take_take,List.take_replicate,Nat.min_eq_left hm1] at h1
    rw [h1] at hv
    obtain rfl:=(List.mem_replicate.1 hv).2
    rfl
   intro w5 hg5 hb5
   have HF5:=Lib.hid (show Filled w5 w.heap.size n (k + m) (.string s) from ⟨_,hg5.out,by rw [length_splice _ _ _ (by rw [HML.out,HCUL.out];exact hm2)];exact HCUL.out,splice_rep HCUL.out HCUT.out hm2 hm1⟩)
   have HB5:=Lib.hid hb5
   have hgi : goInt (cu.take m).length = .int .i64 (m : Int):=by rw [HML.out];rfl
   clear hg5 hb5
   rw [hgi]
   clear hgi
   go_wp2_with fail
   go_roundw
   case rel=>exact ⟨k + m,by omega,by omega,by go_num,HF5,HB5⟩
   case measure=>simp [intOf];omega
  ·obtain rfl : k = n:=by omega
   obtain ⟨cu,hcu,hcul,hcut⟩:=hF.out
   have HFR:=Lib.hid (show Fresh w k (List.replicate k s) (.returned (.slice (some ⟨w.heap.size,0,none⟩) k k)) wr from ⟨w.heap.size,k,rfl,⟨by simp,.inr ⟨w.heap.size,k,cu.toArray,rfl,Nat.le_refl _,hcu,Nat.le_refl _,by unfold maxLen;omega,by simpa using hcul,by rw [Nat.mul_one,List.map_replicate];exact hcut⟩⟩,hB.out⟩)
   clear hcu hcul hcut hF hB
   go_wp2_with fail
   go_ret
   exact HFR.out
theorem new_yes (n : Nat) (w : World) (h1 : 2 ≤ n) (h2 : n ≤ 512) :
  Calls Tryz.prog 16 #[.int .i64 (n : Int)] w (Made w (List.replicate n DiskP.blank)):=by
 have hs:=sized_any (n : Int) w
 rw [decide_eq_true (by omega)] at hs
 have HS:=Lib.hid hs
 clear hs
 go_enter Tryz.func16,Tryz.ntmps16
 go_wp2_with fail
 refine HS.out.mono ?_
 rintro e w' ⟨rfl,rfl⟩
 go_wp2_with fail
 refine (blank_any w).mono ?_
 rintro e w1 ⟨rfl,hb1⟩
 have HB1:=Lib.hid hb1
 clear hb1
 generalize DiskP.blank = bl at *
 have HR:=Lib.hid (repeat_any w1.heap.size n bl (w1.alloc (.cells #[.string bl] 9)) (by rw [World.cell?_alloc_new];rfl) h1 h2)
 have HBA:=Lib.hid ((Below.refl _ w1).alloc (Nat.le_refl _) (.cells #[.string bl] 9))
 go_wp2_with fail
 refine HR.out.mono ?_
 rintro e w3 ⟨g3,cap3,rfl,hown,hb⟩
 have hle : w.heap.size ≤ (w1.alloc (.cells #[.string bl] 9)).heap.size:=by have:=HB1.out.size;simp;omega
 have HMD:=Lib.hid (made_of (w:=w) (by simp) (owns_mono hown hle) ((HB1.out.trans (HBA.out.mono HB1.out.size)).trans (hb.mono hle)))
 clear hown hb hle
 go_wp2_with fail
 go_ret2
 exact HMD.out
end Go.Proofs.YtnnakhdndmjmiaaGreat.Disk
/-
 The contracts of the document's Blank and Data: any act.
-/
set_option linter.unusedVariables false
set_option maxRecDepth 4000
namespace Go.Proofs.YtnnakhdndmjmiaaGreat.Disk
open Go.RowKit DiskP
theorem blank_nums : strOfNums (List.replicate 128 (0 : Int)) = DiskP.blank:=by kernel_rfl
def span (size : Int) : Nat:=min size.toNat 200
def dat (fil size : Int) : ByteArray:=fill (UInt8.ofNat fil.toNat) (span size)
end Go.Proofs.YtnnakhdndmjmiaaGreat.Disk
/-
 The contracts of the document's New and Load: any number,any texts.
-/
set_option linter.unusedVariables false
set_option maxRecDepth 4000
namespace Go.Proofs.YtnnakhdndmjmiaaGreat.Disk
open Go.RowKit DiskP
structure Part (w wr : World) (b k : Nat) (sv : Value) (S : List ByteArray) : Prop where
 blk : wr.heap[b]? = some (.cells #[sv,.slice none 0 0,.int .i64 0,.int .i64 0,.bool false] 46 (0,0))
 row : wr.ownsRow w.heap.size 9 1 sv k (S.map Value.string)
 bel : Below w.heap.size w wr
 new : w.heap.size ≤ b
theorem Part.drew {w wr : World} {b k : Nat} {sv : Value} {S : List ByteArray} (h : Part w wr b k sv S) : Part w wr.drew b k sv S:=⟨h.blk,h.row,h.bel.drew,h.new⟩
theorem Part.keep {w wr w2 : World} {b k : Nat} {sv : Value} {S : List ByteArray} (h : Part w wr b k sv S) (hb : Below wr.heap.size wr w2) : Part w w2 b k sv S :=
 ⟨(hb.block b (heap_lt h.blk)).trans h.blk,owns_heap h.row (fun j e=>hb.block j (owns_lt h.row e)),h.bel.trans (hb.mono h.bel.size),h.new⟩
end Go.Proofs.YtnnakhdndmjmiaaGreat.Disk
/-
 The contracts of do and of the document's Do: any act.
-/
set_option linter.unusedVariables false
set_option maxRecDepth 4000
namespace Go.Proofs.YtnnakhdndmjmiaaGreat.Disk
open Go.RowKit DiskP
structure AVal where
 kind : Int
 at_ : Int
 fil : Int
 size : Int
 ka : Option Addr
 kl : Nat
 kc : Nat
 kb : List Bool
structure AVal.Fit (x : AVal) : Prop where
 lo : -9223372036854775808 ≤ x.at_
 hi : x.at_ ≤ 9223372036854775807
 kl : x.kl ≤ 1000000000
def step (st : St) (x : AVal) : (ByteArray × Int) × St :=
 if x.kind = 1 then ((⟨#[]⟩,(wr st x.at_ (dat x.fil x.size)).1),(wr st x.at_ (dat x.fil x.size)).2)
 else if x.kind = 2 then ((⟨#[]⟩,(fl st).1),(fl st).2)
 else if x.kind = 3 then ((⟨#[]⟩,0),fu st x.at_)
 else if x.kind = 4 then ((⟨#[]⟩,0),cr st x.kb x.at_)
 else (rd st x.at_,st)
theorem dk_below {w w' : World} {L : List Nat} {b : Nat} {st : St} (h : Dk w L b st) (hb : Below w.heap.size w w') : Dk w' L b st:=h.keep fun k hk=>hb.block k (h.lt k hk)
theorem rk_below {w w' : World} {L : List Nat} {b : Nat} {st : St} (h : Rk w L b st) (hb : Below w.heap.size w w') : Rk w' L b st:=h.keep fun k hk=>hb.block k (h.lt k hk)
theorem did_pre {w w0 w2 : World} {L L' : List Nat} {b : Nat} {st' : St} {v : Value} (hb : Below w.heap.size w w0) (hD : Dk w2 L' b st') (hU : Upd L w0 w2 L') : Did w L b st' v (.returned v) w2:=⟨rfl,L',hD,(Upd.of_below hb).trans hU⟩
end Go.Proofs.YtnnakhdndmjmiaaGreat.Disk
/-
 The contracts of SameWaits,Few,and of do at a disk that nobody made.
-/
set_option linter.unusedVariables false
set_option maxRecDepth 4000
namespace Go.Proofs.YtnnakhdndmjmiaaGreat.Disk
open Go.RowKit DiskP
def WtsAt (w : World) (a : Option Addr) (len : Nat) (W : List Wr) : Prop :=
 W.length = len ∧ len ≤ 9223372036854775807 ∧ (len = 0 ∨ ∃ b off,a = some ⟨b,off,none⟩ ∧ b < w.heap.size ∧ ∀ i,i < len → w.cell? ⟨b,off + i * 2,none⟩ = some (.int .i64 ((W.getD i (0,ByteArray.empty)).1 : Int)) ∧ w.cell? ⟨b,off + i * 2 + 1,none⟩ = some (.string (W.getD i (0,ByteArray.empty)).2))
theorem WtsAt.below {w w' : World} {a : Option Addr} {len : Nat} {W : List Wr} (h : WtsAt w a len W) (hb : Below w.heap.size w w') : WtsAt w' a len W :=
 ⟨h.1,h.2.1,h.2.2.imp id (fun ⟨b,off,e,hlt,hc⟩=>⟨b,off,e,by have:=hb.size;omega,fun i hi=>⟨(hb.cell (p:=⟨b,off + i * 2,none⟩) hlt).trans (hc i hi).1,(hb.cell (p:=⟨b,off + i * 2 + 1,none⟩) hlt).trans (hc i hi).2⟩⟩)⟩
structure ActAt (w : World) (b off : Nat) (x : AVal) : Prop where
 c0 : w.cell? ⟨b,off,none⟩ = some (.int .i64 x.kind)
 c1 : w.cell? ⟨b,off + 1,none⟩ = some (.int .i64 x.at_)
 c2 : w.cell? ⟨b,off + 2,none⟩ = some (.int .u8 x.fil)
 c3 : w.cell? ⟨b,off + 3,none⟩ = some (.int .i64 x.size)
 c4 : w.cell? ⟨b,off + 4,none⟩ = some (.slice x.ka x.kl x.kc)
 lo : -9223372036854775808 ≤ x.at_
 hi : x.at_ ≤ 9223372036854775807
 kl : x.kl ≤ 9223372036854775807
 kb : BoolsAt w x.ka x.kl x.kb
 kn : 0 < x.kl → ∀ y,x.ka = some y → y.block < w.heap.size
def ActsAt (w : World) (a : Option Addr) (len : Nat) (f : Nat → AVal) : Prop:=len ≤ 9223372036854775807 ∧ (len = 0 ∨ ∃ b off,a = some ⟨b,off,none⟩ ∧ b < w.heap.size ∧ ∀ i,i < len → ActAt w b (off + i * 5) (f i))
end Go.Proofs.YtnnakhdndmjmiaaGreat.Disk
/-
 A disk of the call's own;the chapter's examples (awake);do at a disk that nobody made.
-/
set_option linter.unusedVariables false
set_option maxRecDepth 4000
namespace Go.Proofs.YtnnakhdndmjmiaaGreat.Disk
open Go.RowKit DiskP
def Own (w0 w : World) (b : Nat) (st : St) : Prop := ∃ L,Dk w L b st ∧ (∀ k ∈ L,w0.heap.size ≤ k) ∧ Below w0.heap.size w0 w
theorem Own.step {w0 w : World} {b : Nat} {st st' : St} {f : Nat} {args : Array Value} {v : Value} (h : Own w0 w b st) (hc : ∀ L,Dk w L b st → Calls Tryz.prog f args w (Did w L b st' v)) :
  Calls Tryz.prog f args w fun e w'=>e = .returned v ∧ Own w0 w' b st':=by
 obtain ⟨L,hD,hL,hB⟩:=h
 refine (hc L hD).mono ?_
 rintro e w' ⟨rfl,L',hD',hU⟩
 exact ⟨rfl,L',hD',fun k hk=>(hU.sub k hk).elim (hL k) (fun h=>Nat.le_trans hB.size h),hB.trans (hU.below hL hB.size)⟩
theorem Own.below {w0 w w' : World} {b : Nat} {st : St} (h : Own w0 w b st) (hb : Below w.heap.size w w') : Own w0 w' b st:=by
 obtain ⟨L,hD,hL,hB⟩:=h
 exact ⟨L,dk_below hD hb,hL,hB.trans (hb.mono hB.size)⟩
theorem Own.bel {w0 w : World} {b : Nat} {st : St} (h : Own w0 w b st) : Below w0.heap.size w0 w:=h.choose_spec.2.2
/-! do at a disk that nobody made. -/
end Go.Proofs.YtnnakhdndmjmiaaGreat.Disk
/-
 The walk of DiskLoads: any texts,any number.
-/
set_option linter.unusedVariables false
set_option maxRecDepth 4000
namespace Go.Proofs.YtnnakhdndmjmiaaGreat.Disk
open Go.RowKit DiskP
theorem StrsAt.below {w w' : World} {a : Option Addr} {len : Nat} {ss : List ByteArray} (h : StrsAt w a len ss) (hb : Below w.heap.size w w') : StrsAt w' a len ss :=
 ⟨h.1,h.2.1,h.2.2.imp id (fun ⟨b,off,e,hlt,hc⟩=>⟨b,off,e,by have:=hb.size;omega,fun i hi=>(hb.cell (p:=⟨b,off + i,none⟩) hlt).trans (hc i hi)⟩)⟩
theorem first_bad (p : Nat → Prop) [DecidablePred p] : ∀ n,∃ m,m ≤ n ∧ (∀ i,i < m → p i) ∧ (m < n → ¬ p m)
 | 0=>⟨0,Nat.le_refl _,fun i hi=>absurd hi (Nat.not_lt_zero _),fun h=>absurd h (Nat.lt_irrefl _)⟩
 | n + 1=>by
  obtain ⟨m,h1,h2,h3⟩:=first_bad p n
  by_cases hm : m < n
  ·exact ⟨m,by omega,h2,fun _=>h3 hm⟩
  ·obtain rfl : m = n:=by omega
   by_cases hp : p m
   ·exact ⟨m + 1,Nat.le_refl _,fun i hi=>(Nat.lt_succ_iff_lt_or_eq.1 hi).elim (h2 i) (fun e=>e ▸ hp),fun h=>absurd h (Nat.lt_irrefl _)⟩
   ·exact ⟨m,by omega,h2,fun _=>hp⟩
end Go.Proofs.YtnnakhdndmjmiaaGreat.Disk
