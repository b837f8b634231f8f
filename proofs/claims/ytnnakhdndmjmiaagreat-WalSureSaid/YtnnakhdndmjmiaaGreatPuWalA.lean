import Derived.Test.YtnnakhdndmjmiaaGreatPuDiskK
import Derived.Test.YtnnakhdndmjmiaaGreatPuSuperPlain
import Derived.Test.YtnnakhdndmjmiaaGreatPuInts
import Derived.Defers
import Derived.Recover
import Derived.Maps.AppendAt
set_option linter.unusedVariables false
set_option maxRecDepth 4000
namespace Go.Proofs.YtnnakhdndmjmiaaGreat.Wal
open Go.RowKit DiskP SegsP WalP Disk
open Ints (IntsAt IntsAt.keep)
structure LkAt (w : World) (b d : Nat) (lg : Lg) (ca : Option Addr) (cc : Nat) (la : Option Addr) (lc : Nat) : Prop where
 blk : w.heap[b]? = some (.cells #[.pointer (some ⟨d,0,none⟩),.int .i64 lg.x.gen,.int .i64 lg.x.base,.int .i64 lg.x.size,.int .i64 lg.x.cg,.slice ca lg.x.chk.length cc,.slice la lg.x.log.length lc,.int .i64 lg.num,.int .i64 (lg.pos : Int),.bool lg.dead] 71 (0,0))
 chk : IntsAt w ca lg.x.chk.length lg.x.chk
 log : IntsAt w la lg.x.log.length lg.x.log
 cn : ca = none → cc = 0
 ln : la = none → lc = 0
def Lk (w : World) (L : List Nat) (b d : Nat) (lg : Lg) : Prop :=
 ∃ ca cc la lc,LkAt w b d lg ca cc la lc ∧ b ∉ L ∧ (0 < lg.x.chk.length → ∀ y,ca = some y → y.block ∉ b :: L) ∧ (0 < lg.x.log.length → ∀ y,la = some y → y.block ∉ b :: L)
structure LS (w : World) (L : List Nat) (b d : Nat) (lg : Lg) (st : St) : Prop where
 dk : Dk w L d st
 lk : Lk w L b d lg
abbrev Thrown (c : Int) : Ending:=.panicked [{ v:=.iface 27 (.int .i64 c),recovered:=false }]
theorem raise_no (w : World) : Calls Tryz.prog 45 #[.int .i64 0] w fun e w'=>e = .returned (.tuple #[]) ∧ w = w':=by
 go_enter Tryz.func45,Tryz.ntmps45
 go_wp2
 first | go_end0 | go_ret
 exact ⟨rfl,rfl⟩
theorem raise_yes (c : Int) (w : World) (h : c ≠ 0) : Calls Tryz.prog 45 #[.int .i64 c] w fun e w'=>e = Thrown c ∧ w = w':=by
 have h0 : (c == 0) = false:=beq_eq_false_iff_ne.2 h
 go_enter Tryz.func45,Tryz.ntmps45
 go_wp2
 exact ⟨rfl,rfl,rfl⟩
/-! What turns in memory. -/
theorem ints_other {w w' : World} {M M' : List Nat} {a : Option Addr} {len : Nat} {xs : List Int} (h : IntsAt w a len xs) (ha : 0 < len → ∀ y,a = some y → y.block ∉ M) (hU : Upd M w w' M') : IntsAt w' a len xs:=by
 refine ⟨h.1,h.2.1,?_⟩
 rcases h.2.2 with h0 | ⟨b,off,rfl,hlt,hc⟩
 ·exact .inl h0
 ·by_cases h0 : len = 0
  ·exact .inl h0
  ·exact .inr ⟨b,off,rfl,by have:=hU.size;omega,fun i hi=>(World.cell?_of_block (a:=⟨b,off + i,none⟩) (hU.block b hlt (ha (by omega) ⟨b,off,none⟩ rfl))).trans (hc i hi)⟩
theorem ints_lt {w : World} {a : Option Addr} {len : Nat} {xs : List Int} (h : IntsAt w a len xs) (h0 : 0 < len) : ∀ y,a = some y → y.block < w.heap.size:=by
 rcases h.2.2 with e | ⟨b,off,rfl,hlt,_⟩
 ·omega
 ·rintro y ⟨⟩;exact hlt
theorem Lk.lt {w : World} {L : List Nat} {b d : Nat} {lg : Lg} (h : Lk w L b d lg) : b < w.heap.size:=by
 obtain ⟨ca,cc,la,lc,h,_⟩:=h
 exact heap_lt h.blk
theorem Lk.other {w w' : World} {L L' M M' : List Nat} {b d : Nat} {lg : Lg} (h : Lk w L b d lg) (hU : Upd M w w' M') (hM : ∀ k ∈ M,k ∈ L ∨ w.heap.size ≤ k) (hL : ∀ k ∈ L',k ∈ L ∨ w.heap.size ≤ k) : Lk w' L' b d lg:=by
 obtain ⟨ca,cc,la,lc,h,h1,h2,h3⟩:=h
 have hb:=heap_lt h.blk
 have hn : ∀ k,k < w.heap.size → k ∉ L → k ∉ M:=fun k hk hl hm=>(hM k hm).elim hl (fun g=>by omega)
 have hn' : ∀ k,k < w.heap.size → k ∉ L → k ∉ L':=fun k hk hl hm=>(hL k hm).elim hl (fun g=>by omega)
 have h2' : 0 < lg.x.chk.length → ∀ y,ca = some y → y.block < w.heap.size ∧ y.block ≠ b ∧ y.block ∉ L:=fun h0 y hy=>⟨ints_lt h.chk h0 y hy,fun e=>h2 h0 y hy (by simp [e]),fun e=>h2 h0 y hy (by simp [e])⟩
 have h3' : 0 < lg.x.log.length → ∀ y,la = some y → y.block < w.heap.size ∧ y.block ≠ b ∧ y.block ∉ L:=fun h0 y hy=>⟨ints_lt h.log h0 y hy,fun e=>h3 h0 y hy (by simp [e]),fun e=>h3 h0 y hy (by simp [e])⟩
 refine ⟨ca,cc,la,lc,⟨(hU.block b hb (hn b hb h1)).trans h.blk,ints_other h.chk (fun h0 y hy=>?_) hU,ints_other h.log (fun h0 y hy=>?_) hU,h.cn,h.ln⟩,hn' b hb h1,fun h0 y hy=>?_,fun h0 y hy=>?_⟩
 ·obtain ⟨a1,a2,a3⟩:=h2' h0 y hy;exact hn _ a1 a3
 ·obtain ⟨a1,a2,a3⟩:=h3' h0 y hy;exact hn _ a1 a3
 ·obtain ⟨a1,a2,a3⟩:=h2' h0 y hy
  simp only [List.mem_cons,not_or]
  exact ⟨a2,hn' _ a1 a3⟩
 ·obtain ⟨a1,a2,a3⟩:=h3' h0 y hy
  simp only [List.mem_cons,not_or]
  exact ⟨a2,hn' _ a1 a3⟩
theorem Lk.upd {w w' : World} {L L' : List Nat} {b d : Nat} {lg : Lg} (h : Lk w L b d lg) (hU : Upd L w w' L') : Lk w' L' b d lg:=h.other hU (fun k hk=>.inl hk) hU.sub
theorem Lk.below {w w' : World} {L : List Nat} {b d : Nat} {lg : Lg} (h : Lk w L b d lg) (hb : Below w.heap.size w w') : Lk w' L b d lg:=h.other (M:=[]) (M':=[]) (Upd.of_below hb) (fun k hk=>by cases hk) (fun k hk=>.inl hk)
theorem LS.below {w w' : World} {L : List Nat} {b d : Nat} {lg : Lg} {st : St} (h : LS w L b d lg st) (hb : Below w.heap.size w w') : LS w' L b d lg st:=⟨h.dk.keep fun k hk=>hb.block k (h.dk.lt k hk),h.lk.below hb⟩
theorem LS.drew {w : World} {L : List Nat} {b d : Nat} {lg : Lg} {st : St} (h : LS w L b d lg st) : LS w.drew L b d lg st:=h.below (Below.refl _ w).drew
theorem LS.step {w w' : World} {L L' : List Nat} {b d : Nat} {lg : Lg} {st st' : St} (h : LS w L b d lg st) (hd : Dk w' L' d st') (hU : Upd L w w' L') : LS w' L' b d lg st':=⟨hd,h.lk.upd hU⟩
theorem Upd.wide {w w' : World} {L L' : List Nat} {b : Nat} (hU : Upd L w w' L') : Upd (b :: L) w w' (b :: L') :=
 ⟨hU.os,hU.tape,hU.output,hU.size,fun k hk hn=>hU.block k hk (fun h=>hn (by simp [h])),fun k hk=>by
  rcases List.mem_cons.1 hk with rfl | h
  ·exact .inl (by simp)
  ·exact (hU.sub k h).imp (fun g=>by simp [g]) id⟩
def Chg (w : World) (L : List Nat) (b d : Nat) (lg : Lg) (st : St) (w' : World) : Prop := ∃ L',LS w' L' b d lg st ∧ Upd (b :: L) w w' (b :: L')
abbrev lgObj (d : Nat) (lg : Lg) (ca : Option Addr) (cc : Nat) (la : Option Addr) (lc : Nat) : Obj:=.cells #[.pointer (some ⟨d,0,none⟩),.int .i64 lg.x.gen,.int .i64 lg.x.base,.int .i64 lg.x.size,.int .i64 lg.x.cg,.slice ca lg.x.chk.length cc,.slice la lg.x.log.length lc,.int .i64 lg.num,.int .i64 (lg.pos : Int),.bool lg.dead] 71 (0,0)
def DeadTo (w w' : World) (b d : Nat) (lg : Lg) : Prop := ∀ ca cc la lc,w.heap[b]? = some (lgObj d lg ca cc la lc) → w'.heap[b]? = some (lgObj d { lg with dead:=true } ca cc la lc)
theorem dead_pass {w w1 w2 : World} {L L1 : List Nat} {b d : Nat} {lg : Lg} (hU : Upd L w w1 L1) (hb : b < w.heap.size) (hn : b ∉ L) (h : DeadTo w1 w2 b d lg) : DeadTo w w2 b d lg:=fun ca cc la lc hw=>h ca cc la lc ((hU.block b hb hn).trans hw)
theorem must_no (w : World) (p : Value) : Calls Tryz.prog 51 #[p,.int .i64 0] w fun e w'=>e = .returned (.tuple #[]) ∧ w = w':=by
 go_enter Tryz.func51,Tryz.ntmps51
 go_wp2_with fail
 refine (raise_no w).mono ?_
 rintro e w' ⟨rfl,rfl⟩
 go_wp2_with fail
 first | go_end0 | go_ret
 exact ⟨rfl,rfl⟩
theorem must_yes (c : Int) (L : List Nat) (b d : Nat) (lg : Lg) (st : St) (w : World) (h : LS w L b d lg st) (hc : c ≠ 0) :
  Calls Tryz.prog 51 #[.pointer (some ⟨b,0,none⟩),.int .i64 c] w fun e w'=>e = Thrown c ∧ Chg w L b d { lg with dead:=true } st w' ∧ DeadTo w w' b d lg:=by
 have h0 : (c == 0) = false:=beq_eq_false_iff_ne.2 hc
 obtain ⟨hd,ca,cc,la,lc,hk,h1,h2,h3⟩:=h
 have hset:=Lib.heap_setCell_same (i:=9) hk.blk (.bool true)
 have hfz:=frozen_of_heap (i:=9) hk.blk
 have hcl:=cell_of_heap (i:=9) hk.blk
 have hg:=Lib.grownBy_setCell (w:=w) (b:=b) (i:=9) (v:=.bool true)
 have HSET:=Lib.hid hset;have HG:=Lib.hid hg;have HD:=Lib.hid hd;have HK:=Lib.hid hk
 go_enter Tryz.func51,Tryz.ntmps51
 go_wp2_with fail
 refine (raise_yes c _ hc).mono ?_
 rintro e w' ⟨rfl,rfl⟩
 refine ⟨rfl,rfl,⟨L,?_,?_⟩,fun ca cc la lc hw=>Lib.heap_setCell_same (i:=9) hw (.bool true)⟩
 ·have hU : Upd [b] w (w.setCell ⟨b,9,none⟩ (.bool true)) [b]:=Upd.of_grown HG.out (by simp)
  have hbL:=HD.out.lt
  refine ⟨HD.out.keep fun k hk=>hU.block k (hbL k hk) (fun hm=>h1 (by rw [← List.mem_singleton.1 hm];exact hk)),ca,cc,la,lc,⟨HSET.out,ints_other HK.out.chk (fun h0 y hy hm=>h2 h0 y hy (by rw [List.mem_singleton.1 hm];simp)) hU,ints_other HK.out.log (fun h0 y hy hm=>h3 h0 y hy (by rw [List.mem_singleton.1 hm];simp)) hU,HK.out.cn,HK.out.ln⟩,h1,h2,h3⟩
 ·exact Upd.of_grown HG.out (by simp)
theorem caught_no (w : World) : Calls Tryz.prog 43 #[.nilIface] w fun e w'=>e = .returned (.int .i64 0) ∧ w = w':=by
 go_enter Tryz.func43,Tryz.ntmps43
 go_wp2
 go_ret
 exact ⟨rfl,rfl⟩
theorem caught_yes (c : Int) (w : World) : Calls Tryz.prog 43 #[.iface 27 (.int .i64 c)] w fun e w'=>e = .returned (.int .i64 c) ∧ w = w':=by
 have hta : ∀ w : World,(Instr.typeAssert (.iface 27 (.int .i64 c)) 20 27 true).run Tryz.prog w = .ok (.tuple #[.int .i64 c,.bool true]) w:=fun _=>by kernel_rfl
 go_enter Tryz.func43,Tryz.ntmps43
 go_wp2
 go_ret
 exact ⟨rfl,rfl⟩
/-! made,ready,Num,Gen,read. -/
theorem lk_cells {w : World} {b d : Nat} {lg : Lg} {ca la : Option Addr} {cc lc : Nat} (h : LkAt w b d lg ca cc la lc) :
  w.cell? ⟨b,0,none⟩ = some (.pointer (some ⟨d,0,none⟩)) ∧ w.cell? ⟨b,1,none⟩ = some (.int .i64 lg.x.gen) ∧ w.cell? ⟨b,2,none⟩ = some (.int .i64 lg.x.base) ∧ w.cell? ⟨b,3,none⟩ = some (.int .i64 lg.x.size) ∧ w.cell? ⟨b,4,none⟩ = some (.int .i64 lg.x.cg) ∧
  w.cell? ⟨b,5,none⟩ = some (.slice ca lg.x.chk.length cc) ∧ w.cell? ⟨b,6,none⟩ = some (.slice la lg.x.log.length lc) ∧ w.cell? ⟨b,7,none⟩ = some (.int .i64 lg.num) ∧ w.cell? ⟨b,8,none⟩ = some (.int .i64 (lg.pos : Int)) ∧ w.cell? ⟨b,9,none⟩ = some (.bool lg.dead) :=
 ⟨cell_of_heap h.blk,cell_of_heap h.blk,cell_of_heap h.blk,cell_of_heap h.blk,cell_of_heap h.blk,cell_of_heap h.blk,cell_of_heap h.blk,cell_of_heap h.blk,cell_of_heap h.blk,cell_of_heap h.blk⟩
theorem made_yes (b d : Nat) (w : World) (h : w.cell? ⟨b,0,none⟩ = some (.pointer (some ⟨d,0,none⟩))) : Calls Tryz.prog 70 #[.pointer (some ⟨b,0,none⟩)] w fun e w'=>e = .returned (.bool true) ∧ w = w':=by
 go_enter Tryz.func70,Tryz.ntmps70
 go_wp2
 go_ret
 exact ⟨rfl,rfl⟩
theorem ready_dead (L : List Nat) (b d : Nat) (lg : Lg) (st : St) (w : World) (h : LS w L b d lg st) (hd : lg.dead = true ∨ st.dead = true) : Calls Tryz.prog 46 #[.pointer (some ⟨b,0,none⟩)] w fun e w'=>e = Thrown 13 ∧ w = w':=by
 obtain ⟨hD,ca,cc,la,lc,hk,h1,h2,h3⟩:=h
 obtain ⟨c0,c1,c2,c3,c4,c5,c6,c7,c8,c9⟩:=lk_cells hk
 have HM:=Lib.hid (made_yes b d w c0);have HDD:=Lib.hid (dead_dk d st L w hD)
 clear c1 c2 c3 c4 c5 c6 c7 c8 hk
 cases hdd : lg.dead with
 | true =>
  rw [hdd] at c9
  go_enter Tryz.func46,Tryz.ntmps46
  go_wp2_with fail
  refine HM.out.mono ?_
  rintro e w' ⟨rfl,rfl⟩
  go_wp2_with fail
  refine (raise_yes 13 w (by decide)).mono ?_
  rintro e w' ⟨rfl,rfl⟩
  exact ⟨rfl,rfl,rfl⟩
 | false =>
  have hsd : st.dead = true:=hd.resolve_left (by rw [hdd];decide)
  rw [hdd] at c9
  rw [hsd] at HDD
  go_enter Tryz.func46,Tryz.ntmps46
  go_wp2_with fail
  refine HM.out.mono ?_
  rintro e w' ⟨rfl,rfl⟩
  go_wp2_with fail
  refine HDD.out.mono ?_
  rintro e w' ⟨rfl,rfl⟩
  go_wp2_with fail
  refine (raise_yes 13 w (by decide)).mono ?_
  rintro e w' ⟨rfl,rfl⟩
  exact ⟨rfl,rfl,rfl⟩
theorem ready_yes (L : List Nat) (b d : Nat) (lg : Lg) (st : St) (w : World) (h : LS w L b d lg st) (hl : lg.dead = false) (hd : st.dead = false) : Calls Tryz.prog 46 #[.pointer (some ⟨b,0,none⟩)] w fun e w'=>e = .returned (.tuple #[]) ∧ w = w':=by
 obtain ⟨hD,ca,cc,la,lc,hk,h1,h2,h3⟩:=h
 obtain ⟨c0,c1,c2,c3,c4,c5,c6,c7,c8,c9⟩:=lk_cells hk
 have HM:=Lib.hid (made_yes b d w c0);have HDD:=Lib.hid (dead_dk d st L w hD)
 clear c1 c2 c3 c4 c5 c6 c7 c8 hk
 rw [hl] at c9
 rw [hd] at HDD
 go_enter Tryz.func46,Tryz.ntmps46
 go_wp2_with fail
 refine HM.out.mono ?_
 rintro e w' ⟨rfl,rfl⟩
 go_wp2_with fail
 refine HDD.out.mono ?_
 rintro e w' ⟨rfl,rfl⟩
 go_wp2_with fail
 first | go_end0 | go_ret
 exact ⟨rfl,rfl⟩
theorem num_yes (L : List Nat) (b d : Nat) (lg : Lg) (w : World) (h : Lk w L b d lg) : Calls Tryz.prog 27 #[.pointer (some ⟨b,0,none⟩)] w fun e w'=>e = .returned (.int .i64 lg.num) ∧ w = w':=by
 obtain ⟨ca,cc,la,lc,hk,h1,h2,h3⟩:=h
 obtain ⟨c0,c1,c2,c3,c4,c5,c6,c7,c8,c9⟩:=lk_cells hk
 have HM:=Lib.hid (made_yes b d w c0)
 clear c0 c1 c2 c3 c4 c5 c6 c8 c9 hk
 go_enter Tryz.func27,Tryz.ntmps27
 go_wp2_with fail
 refine HM.out.mono ?_
 rintro e w' ⟨rfl,rfl⟩
 go_wp2_with fail
 go_ret
 exact ⟨rfl,rfl⟩
theorem gen_yes (L : List Nat) (b d : Nat) (lg : Lg) (w : World) (h : Lk w L b d lg) : Calls Tryz.prog 28 #[.pointer (some ⟨b,0,none⟩)] w fun e w'=>e = .returned (.int .i64 lg.x.gen) ∧ w = w':=by
 obtain ⟨ca,cc,la,lc,hk,h1,h2,h3⟩:=h
 obtain ⟨c0,c1,c2,c3,c4,c5,c6,c7,c8,c9⟩:=lk_cells hk
 have HM:=Lib.hid (made_yes b d w c0)
 clear c0 c2 c3 c4 c5 c6 c7 c8 c9 hk
 go_enter Tryz.func28,Tryz.ntmps28
 go_wp2_with fail
 refine HM.out.mono ?_
 rintro e w' ⟨rfl,rfl⟩
 go_wp2_with fail
 go_ret
 exact ⟨rfl,rfl⟩
theorem read_ls (n : Nat) (L : List Nat) (b d : Nat) (lg : Lg) (st : St) (p : Int) (w : World) (h : LS w L b d lg st) (hok : Ok n st) (hn : n ≤ 1000000000) (hr : (rd st p).2 = 0) :
  Calls Tryz.prog 99 #[.pointer (some ⟨b,0,none⟩),.int .i64 p] w fun e w'=>e = .returned (.string (rd st p).1) ∧ Below w.heap.size w w':=by
 have hrd:=read_dk d n st L p w h.dk hok hn
 rw [hr] at hrd
 generalize (rd st p).1 = s at *
 obtain ⟨hD,ca,cc,la,lc,hk,h1,h2,h3⟩:=h
 obtain ⟨c0,c1,c2,c3,c4,c5,c6,c7,c8,c9⟩:=lk_cells hk
 have HR:=Lib.hid hrd
 clear c1 c2 c3 c4 c5 c6 c7 c8 c9 hk hrd
 go_enter Tryz.func99,Tryz.ntmps99
 go_wp2_with fail
 refine HR.out.mono ?_
 rintro e w1 ⟨rfl,hb⟩
 have HB:=Lib.hid hb
 clear hb
 go_wp2_with fail
 refine (must_no w1 _).mono ?_
 rintro e w' ⟨rfl,rfl⟩
 go_wp2_with fail
 go_ret
 exact ⟨rfl,HB.out⟩
end Go.Proofs.YtnnakhdndmjmiaaGreat.Wal
/-
 The contracts of slices.Grow of nil,slices.Concat of two rows of ints: any rows that are not both empty.
-/
set_option linter.unusedVariables false
set_option maxRecDepth 4000
namespace Go.Proofs.YtnnakhdndmjmiaaGreat.Wal
open Go.RowKit DiskP SegsP WalP Disk
open Ints (IntsAt cellsI info_int ints_of_owns append_ints owns_slice' owns_mono cellsI_len)
theorem run_append_zeros {P : Program} (w : World) (t u ty e : TypeId) (k : IntKind) (i : TypeInfo) (z : Value) (ht : P.underlying t = some (.slice e)) (hu : P.underlying u = some (.int k)) (hi : P.info? e = some i) (hz : i.zero = some z) (hz1 : z.cells.size = i.size) (hs : 0 < i.size)
  (n : Nat) (h0 : 0 < n) (h63 : (n : Int) ≤ 4000000) (hby : i.bytes = 8) :
  (Builtin.append_ #[t,u] ty #[.slice none 0 0,.int .i64 (n : Int)]).run P w =
   .ok (.slice (some ⟨w.heap.size,0,none⟩) n (grownCap w n 0 e)) (w.drew.alloc (.cells (Builtin.zeroCells z.cells n ++ Builtin.zeroCells z.cells (grownCap w n 0 e - n)) e)):=by
 have hn : n ≠ 0:=by omega
 have hw : IntKind.i64.wrap (n : Int) = n:=by rw [IntKind.wrap_i64];omega
 have hneg : ¬ ((n : Int) < 0):=by omega
 have h63' : ¬ (9223372036854775807 < (n : Int)):=by omega
 have hbig : ¬ (281474976710656 < (n : Int) * 8):=by omega
 have hns : ¬ (n * i.size = 0):=by
  intro h
  rcases Nat.mul_eq_zero.1 h with h | h <;> omega
 have h48' : ¬ (281474976710656 < Builtin.nextslicecap n 0 * 8):=by rw [nextslicecap_zero h0];omega
 simp [Builtin.append_,run_underlying ht,run_underlying hu,sizeOf,typeInfo,zeroValue,hi,hz,asInt,asIntOf,hw,hby,hneg,hbig,hns,hn,h63',h48',Question.forced,run_firstCells_none,newRow,grownCap,Int.toNat_natCast,Nat.zero_add]
theorem append_zeros {ops : Array Oper} {rest : List Oper} {o : Oper} {a : Act} {Q : Exit → Act → World → Prop} (hgd : o.guard = none) (s x : Operand)
  (ho : o.op = .call { callee:=.builtin .append,args:=#[s,x],argTypes:=#[67,3] }) (w : World) (n : Nat)
  (hs : a.eval s = .slice none 0 0) (hx : a.eval x = .int .i64 (n : Int)) (h0 : 0 < n) (hn : n ≤ 4000000)
  (h : ∀ cap w',n ≤ cap → w'.ownsRow w.heap.size 3 1 (.slice (some ⟨w.heap.size,0,none⟩) 0 cap) 0 (cellsI []) → w.grownBy w' none → wpList Tryz.prog ops Q rest (a.put o.dst (.slice (some ⟨w.heap.size,0,none⟩) n cap)) w') :
  wpList Tryz.prog ops Q (o :: rest) a w:=by
 obtain ⟨i0,hi,hz0,hz1,hz2⟩:=info_parts info_int
 refine wpList_plain hgd fun K hK=>?_
 have hr:=run_append_zeros w 67 3 o.type 3 .i64 i0 (.int .i64 0) Tryz.underlying67 Tryz.underlying3 hi hz0 (by rw [hz1];rfl) (by rw [hz1];decide) n h0 (by omega) hz2
 have hge:=grownCap_ge w n 0 3
 have hcm:=grownCap_le_maxLen w n 0 3 (by unfold maxLen;omega)
 unfold Oper.wp execOp
 simp only [ho,resolve,invoke,builtin,Sem.run_bind,Sem.run_pure,Result.andThen_ok,List.map_toArray,List.map_cons,List.map_nil,hs,hx,hr]
 refine hK _ _ (h _ _ hge ⟨rfl,.inr ⟨w.heap.size,_,_,rfl,Nat.le_refl _,heap_alloc_new w.drew _,Nat.zero_le _,hcm,?_,rfl⟩⟩ ⟨rfl,rfl,rfl,by simp,fun k hk _=>heap_alloc_old w.drew _ hk⟩)
 rw [Array.size_append,size_zeroCells,size_zeroCells,show (Value.int .i64 0).cells.size = 1 from rfl]
 omega
theorem grow_any (n : Nat) (w : World) (h0 : 0 < n) (hn : n ≤ 4000000) :
  Calls Tryz.prog 110 #[.slice none 0 0,.int .i64 (n : Int)] w fun e w' => ∃ cap,e = .returned (.slice (some ⟨w.heap.size,0,none⟩) 0 cap) ∧ w'.ownsRow w.heap.size 3 1 (.slice (some ⟨w.heap.size,0,none⟩) 0 cap) 0 (cellsI []) ∧ Below w.heap.size w w':=by
 have hw : wrap64 (n : Int) = n:=by unfold wrap64;omega
 go_enter Tryz.func110,Tryz.ntmps110
 go_wp2_with (at_builtin;refine append_zeros rfl (.tmp 20) (.tmp 21) rfl w n rfl rfl h0 hn ?_)
 intro cap w1 hcap hown hgr
 have HO:=Lib.hid hown
 have HB:=Lib.hid ((Below.refl _ w).grown hgr (Nat.le_refl _) (fun k e=>by cases e))
 clear hown hgr
 go_wp2_with fail
 go_ret
 exact ⟨cap,rfl,HO.out,HB.out⟩
def IntsNew (l : List Int) (w : World) (e : Ending) (w' : World) : Prop := ∃ a c,e = .returned (.slice (some a) l.length c) ∧ IntsAt w' (some a) l.length l ∧ l.length ≤ c ∧ Below w.heap.size w w' ∧ w.heap.size ≤ a.block ∧ a.off = 0 ∧ a.spot = none
theorem ints_new {l : List Int} {w w' : World} {v : Value} {n : Nat} (h : w'.ownsRow w.heap.size 3 1 v n (cellsI l)) (hn : n = l.length) (h0 : 0 < n) (hr : ∀ x ∈ l,-9223372036854775808 ≤ x ∧ x ≤ 9223372036854775807) (hb : Below w.heap.size w w') : IntsNew l w (.returned v) w':=by
 subst hn
 have h2:=h.2
 rcases h2 with ⟨_,e⟩ | ⟨g,cap,cur,rfl,hg,_⟩
 ·omega
 ·obtain ⟨h1,h3,_⟩:=ints_of_owns h rfl hr
  exact ⟨_,_,rfl,h1,h3,hb,hg,rfl,rfl⟩
def pre (k : Nat) (xs ys : List Int) : List Int:=if k = 0 then [] else if k = 1 then xs else xs ++ ys
set_option maxHeartbeats 2000000 in
theorem concat_any (r : Nat) (a1 a2 : Option Addr) (l1 c1 l2 c2 : Nat) (xs ys : List Int) (w : World) (h1 : IntsAt w a1 l1 xs) (h2 : IntsAt w a2 l2 ys) (hn1 : a1 = none → c1 = 0) (hn2 : a2 = none → c2 = 0)
  (hr1 : w.cell? ⟨r,0,none⟩ = some (.slice a1 l1 c1)) (hr2 : w.cell? ⟨r,1,none⟩ = some (.slice a2 l2 c2)) (h0 : 0 < l1 + l2) (hl1 : l1 ≤ 1000000) (hl2 : l2 ≤ 1000000) :
  Calls Tryz.prog 59 #[.slice (some ⟨r,0,none⟩) 2 2] w (IntsNew (xs ++ ys) w):=by
 have hr:=World.block_lt_of_cell? w _ hr1
 have hg:=fun w=>grow_any (l1 + l2) w h0 (by omega)
 rw [show ((l1 + l2 : Nat) : Int) = (l1 : Int) + (l2 : Int) by omega] at hg
 have H1:=Lib.hid h1;have H2:=Lib.hid h2;have HG:=Lib.hid hg;have HR1:=Lib.hid hr1;have HR2:=Lib.hid hr2;have HN1:=Lib.hid hn1;have HN2:=Lib.hid hn2
 have hx1:=h1.1;have hx2:=h2.1
 have hfit : ∀ x ∈ xs ++ ys,-9223372036854775808 ≤ x ∧ x ≤ 9223372036854775807:=fun x hx=>(List.mem_append.1 hx).elim (h1.2.1 x) (h2.2.1 x)
 have HFIT:=Lib.hid hfit
 have hw1 : wrap64 (l1 : Int) = l1:=by unfold wrap64;omega
 have hw2 : wrap64 ((l1 : Int) + l2) = (l1 : Int) + l2:=by unfold wrap64;omega
 clear h1 h2 hg hn1 hn2 hfit
 go_enter Tryz.func59,Tryz.ntmps59
 go_wp2_with fail
 go_loopw [3,11] (fun s i wr => ∃ k : Nat,k ≤ 2 ∧ i = .int .i64 (k : Int) ∧ s = .int .i64 (((if k = 0 then 0 else if k = 1 then l1 else l1 + l2 : Nat)) : Int) ∧ wr = w) (fun _ i _=>2 - (intOf i).toNat)
 case atStart=>exact ⟨0,by omega,rfl,rfl,rfl⟩
 case round =>
  obtain ⟨k,hk,rfl,rfl,hw⟩:=hrel
  have hw2:=hw.symm
  subst hw2
  rcases (show k = 0 ∨ k = 1 ∨ k = 2 by omega) with rfl | rfl | rfl
  ·go_wp2_with fail
   go_roundw
   case rel=>exact ⟨1,by omega,rfl,by simp,by trivial⟩
   case measure=>simp [intOf]
  ·go_wp2_with fail
   go_roundw
   case rel=>exact ⟨2,by omega,rfl,by simp,by trivial⟩
   case measure=>simp [intOf]
  ·go_wp2_with fail
   refine (HG.out w).mono ?_
   rintro e w1 ⟨cap,rfl,hO,hB⟩
   have HO:=Lib.hid hO;have HB:=Lib.hid hB
   clear hO hB HG
   go_wp2_with fail
   go_loopw [6,27] (fun v i wr => ∃ k : Nat,k ≤ 2 ∧ i = .int .i64 (k : Int) ∧ Hid (wr.ownsRow w.heap.size 3 1 v (if k = 0 then 0 else if k = 1 then l1 else l1 + l2) (cellsI (pre k xs ys))) ∧ Hid (Below w.heap.size w wr)) (fun _ i _=>2 - (intOf i).toNat)
   case atStart=>exact ⟨0,by omega,rfl,HO,HB⟩
   case round =>
    obtain ⟨k,hk,rfl,hO,hB⟩:=hrel
    rcases (show k = 0 ∨ k = 1 ∨ k = 2 by omega) with rfl | rfl | rfl
    ·have dd:=(hB.out.cell (p:=⟨r,0,none⟩) hr).trans hr1
     have HK:=Lib.hid (H1.out.keep hB.out)
     have HLT:=Lib.hid hO.out.lt
     clear hr1 hr2
     go_wp2_with (at_builtin;refine append_ints rfl (.tmp 31) (.tmp 32) rfl w.heap.size wr _ 0 [] xs a1 l1 c1 rfl hO.out rfl HK.out HN1.out (by omega) hB.out.size ?_)
     intro v' w2 hown hgr
     have HB2:=Lib.hid (hB.out.grown hgr hB.out.size (fun q hq=>(HLT.out q hq).1))
     have HO2:=Lib.hid hown
     clear hown hgr hO hB
     go_wp2_with fail
     go_roundw
     case rel=>exact ⟨1,by omega,rfl,HO2,HB2⟩
     case measure=>simp [intOf]
    ·have dd:=(hB.out.cell (p:=⟨r,1,none⟩) hr).trans hr2
     have HK:=Lib.hid (H2.out.keep hB.out)
     have HLT:=Lib.hid hO.out.lt
     clear hr1 hr2
     go_wp2_with (at_builtin;refine append_ints rfl (.tmp 31) (.tmp 32) rfl w.heap.size wr _ l1 xs ys a2 l2 c2 rfl hO.out rfl HK.out HN2.out (by omega) hB.out.size ?_)
     intro v' w2 hown hgr
     have HB2:=Lib.hid (hB.out.grown hgr hB.out.size (fun q hq=>(HLT.out q hq).1))
     have HO2:=Lib.hid hown
     clear hown hgr hO hB
     go_wp2_with fail
     go_roundw
     case rel=>exact ⟨2,by omega,rfl,HO2,HB2⟩
     case measure=>simp [intOf]
    ·have HX:=Lib.hid (ints_new (l:=xs ++ ys) (n:=l1 + l2) hO.out (by rw [List.length_append];omega) h0 HFIT.out hB.out)
     go_wp2_with fail
     go_ret
     exact HX.out
end Go.Proofs.YtnnakhdndmjmiaaGreat.Wal
/-
 The contracts of the closures that recover (Append's,Check's,Open's).
-/
set_option linter.unusedVariables false
set_option maxRecDepth 4000
namespace Go.Proofs.YtnnakhdndmjmiaaGreat.Wal
open Go.RowKit DiskP SegsP WalP Disk
abbrev Mended (c : Int) : FrameMode:=.panicking [{ v:=.iface 27 (.int .i64 c),recovered:=true }]
abbrev Raised (c : Int) : FrameMode:=.panicking [{ v:=.iface 27 (.int .i64 c),recovered:=false }]
theorem acatch_yes (p : Addr) (c x : Int) (w : World) (hc : w.cell? p = some (.int .i64 x)) (hz : w.frozen? p = false) :
  CallsD Tryz.prog 54 #[.pointer (some p)] (Raised c) w fun e u' w'=>e = .returned (.tuple #[]) ∧ u' = Mended c ∧ w' = w.setCell p (.int .i64 c):=by
 refine callsD_of_wpS Tryz.func54 rfl fun c₀ cs hu=>?_
 apply wpS_region
 simp [wpOpsS,go_sem,recoverD,hu,Tryz.ntmps54]
 refine (caught_yes c w).mono ?_
 rintro e w' ⟨rfl,rfl⟩
 simp [go_sem,hc,hz,bodyPostS,results,Tryz.results54]
theorem acatch_no (p : Addr) (x : Int) (w : World) (hc : w.cell? p = some (.int .i64 x)) (hz : w.frozen? p = false) :
  CallsD Tryz.prog 54 #[.pointer (some p)] .returning w fun e u' w'=>e = .returned (.tuple #[]) ∧ u' = .returning ∧ w' = w.setCell p (.int .i64 0):=by
 refine callsD_of_wpS Tryz.func54 rfl fun c₀ cs hu=>?_
 apply wpS_region
 simp [wpOpsS,go_sem,recoverD,hu,Tryz.ntmps54]
 refine (caught_no w).mono ?_
 rintro e w' ⟨rfl,rfl⟩
 cases c₀
 simp_all [go_sem,bodyPostS,results,Tryz.results54]
theorem kcatch_yes (p : Addr) (c x : Int) (w : World) (hc : w.cell? p = some (.int .i64 x)) (hz : w.frozen? p = false) :
  CallsD Tryz.prog 63 #[.pointer (some p)] (Raised c) w fun e u' w'=>e = .returned (.tuple #[]) ∧ u' = Mended c ∧ w' = w.setCell p (.int .i64 c):=by
 refine callsD_of_wpS Tryz.func63 rfl fun c₀ cs hu=>?_
 apply wpS_region
 simp [wpOpsS,go_sem,recoverD,hu,Tryz.ntmps63]
 refine (caught_yes c w).mono ?_
 rintro e w' ⟨rfl,rfl⟩
 simp [go_sem,hc,hz,bodyPostS,results,Tryz.results63]
theorem kcatch_no (p : Addr) (x : Int) (w : World) (hc : w.cell? p = some (.int .i64 x)) (hz : w.frozen? p = false) :
  CallsD Tryz.prog 63 #[.pointer (some p)] .returning w fun e u' w'=>e = .returned (.tuple #[]) ∧ u' = .returning ∧ w' = w.setCell p (.int .i64 0):=by
 refine callsD_of_wpS Tryz.func63 rfl fun c₀ cs hu=>?_
 apply wpS_region
 simp [wpOpsS,go_sem,recoverD,hu,Tryz.ntmps63]
 refine (caught_no w).mono ?_
 rintro e w' ⟨rfl,rfl⟩
 cases c₀
 simp_all [go_sem,bodyPostS,results,Tryz.results63]
end Go.Proofs.YtnnakhdndmjmiaaGreat.Wal
