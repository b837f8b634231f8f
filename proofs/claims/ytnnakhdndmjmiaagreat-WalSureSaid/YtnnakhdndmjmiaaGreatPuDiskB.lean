import Derived.Test.YtnnakhdndmjmiaaGreatPuDiskA
import Derived.Maps.AppendAt
import Derived.WalkSmall
set_option linter.unusedVariables false
set_option maxRecDepth 4000
namespace Go.Proofs.YtnnakhdndmjmiaaGreat.Disk
open Go.RowKit DiskP
theorem operate_any (b : Nat) (st : St) (z : Int) (x3 x4 : Value) (w : World) (h : w.heap[b]? = some (.cells #[.int .i64 (st.ops : Int),.int .i64 z,.bool st.dead,x3,x4] 80 (0,0)))
  (hz : z.toNat = st.left ∧ -9223372036854775808 ≤ z ∧ z ≤ 9223372036854775807) (ho : st.ops ≤ 4611686018427387904) :
  Calls Tryz.prog 143 #[.pointer (some ⟨b,0,none⟩)] w fun e w'=>e = .returned (.bool (!opd st)) ∧
   (∃ z' : Int,w'.heap[b]? = some (.cells #[.int .i64 ((op st).ops : Int),.int .i64 z',.bool (op st).dead,x3,x4] 80 (0,0)) ∧ (z'.toNat = (op st).left ∧ -9223372036854775808 ≤ z' ∧ z' ≤ 9223372036854775807)) ∧ w.grownBy w' (some b):=by
 have c0 : w.cell? ⟨b,0,none⟩ = some (.int .i64 (st.ops : Int)):=cell_of_heap h
 have c1 : w.cell? ⟨b,1,none⟩ = some (.int .i64 z):=cell_of_heap h
 have c2 : w.cell? ⟨b,2,none⟩ = some (.bool st.dead):=cell_of_heap h
 have f0 : w.frozen? ⟨b,0,none⟩ = false:=frozen_of_heap h
 have f1 : w.frozen? ⟨b,1,none⟩ = false:=frozen_of_heap h
 have f2 : w.frozen? ⟨b,2,none⟩ = false:=frozen_of_heap h
 obtain ⟨S,W,left,ops,dead⟩:=st
 simp only [op,opd] at *
 have HH:=Lib.hid h
 obtain ⟨z0,z1,z2⟩:=hz
 clear h
 by_cases h1 : z ≤ 0
 ·have hl : left = 0:=by omega
  subst hl
  have HZ:=Lib.hid z0
  clear z0
  simp only [Nat.lt_irrefl,if_false]
  go_enter Tryz.func143,Tryz.ntmps143
  go_wp2
  go_ret
  refine ⟨rfl,⟨z,?_,HZ.out,z1,z2⟩,Lib.grownBy_setCell w b 0 _⟩
  exact Lib.heap_setCell_same (i:=0) HH.out _
 ·by_cases h2 : z = 1
  ·subst h2
   have hl : left = 1:=by omega
   subst hl
   clear z0 h1
   simp only [Nat.lt_one_iff,if_true]
   go_enter Tryz.func143,Tryz.ntmps143
   go_wp2
   go_ret
   refine ⟨rfl,⟨0,?_,rfl,by decide,by decide⟩,((Lib.grownBy_setCell w b 0 _).trans (Lib.grownBy_setCell _ b 1 _)).trans (Lib.grownBy_setCell _ b 2 _)⟩
   exact Lib.heap_setCell_same (i:=2) (Lib.heap_setCell_same (i:=1) (Lib.heap_setCell_same (i:=0) HH.out _) _) _
  ·have hz2 : 2 ≤ z:=by omega
   have hd : (z - 1 == 0) = false:=beq_eq_false_iff_ne.2 (by omega)
   have e1 : 0 < left:=by omega
   have e2 : left ≠ 1:=by omega
   have hl : (z - 1).toNat = left - 1:=by omega
   have HZ:=Lib.hid hl
   simp only [if_pos e1,if_neg e2]
   clear z0 h1 h2 e1 e2 hl
   go_enter Tryz.func143,Tryz.ntmps143
   go_wp2
   go_ret
   refine ⟨rfl,⟨z - 1,?_,HZ.out,by omega,by omega⟩,((Lib.grownBy_setCell w b 0 _).trans (Lib.grownBy_setCell _ b 1 _)).trans (Lib.grownBy_setCell _ b 2 _)⟩
   exact Lib.heap_setCell_same (i:=2) (Lib.heap_setCell_same (i:=1) (Lib.heap_setCell_same (i:=0) HH.out _) _) _
theorem renew_any (b : Nat) (ops z : Int) (d : Bool) (x3 x4 : Value) (w : World) (h : w.heap[b]? = some (.cells #[.int .i64 ops,.int .i64 z,.bool d,x3,x4] 80 (0,0))) :
  Calls Tryz.prog 69 #[.pointer (some ⟨b,0,none⟩)] w fun e w'=>e = .returned (.tuple #[]) ∧
   w'.heap[b]? = some (.cells #[.int .i64 ops,.int .i64 0,.bool false,x3,x4] 80 (0,0)) ∧ w.grownBy w' (some b):=by
 have c0 : w.cell? ⟨b,0,none⟩ = some (.int .i64 ops):=cell_of_heap h
 have c1 : w.cell? ⟨b,1,none⟩ = some (.int .i64 z):=cell_of_heap h
 have c2 : w.cell? ⟨b,2,none⟩ = some (.bool d):=cell_of_heap h
 have f0 : w.frozen? ⟨b,0,none⟩ = false:=frozen_of_heap h
 have f1 : w.frozen? ⟨b,1,none⟩ = false:=frozen_of_heap h
 have f2 : w.frozen? ⟨b,2,none⟩ = false:=frozen_of_heap h
 have HH:=Lib.hid h
 clear h
 go_enter Tryz.func69,Tryz.ntmps69
 go_wp2
 go_end0
 refine ⟨rfl,?_,?_⟩
 ·exact Lib.heap_setCell_same (i:=2) (Lib.heap_setCell_same (i:=1) (Lib.heap_setCell_same (i:=0) HH.out _) _) _
 ·exact ((Lib.grownBy_setCell w b 0 _).trans (Lib.grownBy_setCell _ b 1 _)).trans (Lib.grownBy_setCell _ b 2 _)
def Did (w : World) (L : List Nat) (b : Nat) (st' : St) (v : Value) (e : Ending) (w' : World) : Prop:=e = .returned v ∧ ∃ L',Dk w' L' b st' ∧ Upd L w w' L'
theorem fuse_dk (b : Nat) (st : St) (L : List Nat) (k : Int) (w : World) (h : Dk w L b st) (h0 : -9223372036854775808 ≤ k) (h1 : k ≤ 9223372036854775807) :
  Calls Tryz.prog 22 #[.pointer (some ⟨b,0,none⟩),.int .i64 k] w (Did w L b (fu st k) (.tuple #[])):=by
 have hm:=made_dk b st L w h
 obtain ⟨z,g,cap,wv,h,rfl⟩:=h
 have c1 : w.cell? ⟨b,1,none⟩ = some (.int .i64 z):=cell_of_heap h.blk
 have f1 : w.frozen? ⟨b,1,none⟩ = false:=frozen_of_heap h.blk
 have hset:=set_any b k _ w c1 rfl f1
 have HM:=Lib.hid hm;have HH:=Lib.hid h;have HS:=Lib.hid hset
 clear h hm hset
 go_enter Tryz.func22,Tryz.ntmps22
 go_wp2_with fail
 refine HM.out.mono ?_
 rintro e w' ⟨rfl,rfl⟩
 go_wp2_with fail
 refine HS.out.mono ?_
 rintro e w' ⟨rfl,hw⟩
 have hd : Did w (foot b g wv) b (fu st k) (.tuple #[]) (.returned (.tuple #[])) w':=by
  have hg:=Lib.grownBy_setCell w b 1 (.int .i64 k)
  rw [← hw] at hg
  have hu : Upd (foot b g wv) w w' (foot b g wv):=Upd.of_grown hg (by simp [foot])
  have hH:=HH.out
  refine ⟨rfl,foot b g wv,⟨k,g,cap,wv,⟨?_,⟨rfl,h0,h1⟩,?_,?_⟩,rfl⟩,hu⟩
  ·rw [hw];exact Lib.heap_setCell_same (i:=1) hH.blk _
  ·exact owns_heap hH.sec (fun j e=>hg.block j (owns_lt hH.sec e) (fun e2=>hH.bg (by cases e2;simpa [Value.ownBlock] using e.symm)))
  ·exact owns_heap hH.wts (fun j e=>hg.block j (owns_lt hH.wts e) (fun e2=>hH.bw e (by cases e2;rfl)))
 have HD:=Lib.hid hd
 clear hw hd
 go_wp2_with fail
 go_end0
 exact HD.out
theorem each_any (i : Int) (w : World) : Calls Tryz.prog 145 #[.int .i64 i] w fun e w'=>e = .returned (.bool true) ∧ w = w':=by
 go_enter Tryz.func145,Tryz.ntmps145
 go_wp2
 go_ret
 exact ⟨rfl,rfl⟩
theorem torn_any (a o : ByteArray) (t : Int) (w : World) (ha : a.size = 128) (ho : o.size = 128) :
  Calls Tryz.prog 68 #[.string a,.string o,.int .i64 t] w fun e w'=>e = .returned (.string (torn a o t)) ∧ Below w.heap.size w w':=by
 unfold torn
 by_cases h1 : t < 1
 ·rw [if_pos (.inl h1)]
  clear ha ho
  go_enter Tryz.func68,Tryz.ntmps68
  go_wp2
  go_ret
  exact ⟨rfl,Below.refl _ _⟩
 by_cases h2 : 128 ≤ t
 ·rw [if_pos (.inr h2)]
  have h1' : 1 ≤ t:=by omega
  clear ha ho
  go_enter Tryz.func68,Tryz.ntmps68
  go_wp2
  go_ret
  exact ⟨rfl,Below.refl _ _⟩
 rw [if_neg (by omega)]
 obtain ⟨k,rfl⟩ : ∃ k : Nat,t = k:=⟨t.toNat,by omega⟩
 have h1' : 1 ≤ k:=by omega
 have h2' : k < 128:=by omega
 have ka : k ≤ a.size:=by omega
 have ko : k ≤ o.size:=by omega
 have sa : a.size ≤ 128:=by omega
 have so : o.size ≤ 128:=by omega
 clear ha ho h1 h2
 go_enter Tryz.func68,Tryz.ntmps68
 go_wp2
 go_region
 all_goals
  go_wp2
  go_ret
  exact ⟨rfl,(Below.refl _ _).drew⟩
end Go.Proofs.YtnnakhdndmjmiaaGreat.Disk
