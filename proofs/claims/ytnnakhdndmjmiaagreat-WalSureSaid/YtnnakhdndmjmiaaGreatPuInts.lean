import Derived.Test.YtnnakhdndmjmiaaGreatRows
import Derived.Test.YtnnakhdndmjmiaaGreatChecked
import Derived.WalkKit
import Derived.Lib.Hide
import Derived.Below
import Derived.Lib.BufferWrite
import Derived.WalkLawsBesides
import Derived.WalkSpells
import Derived.BigQuiet
import Derived.Deep.QuietTactic
import Derived.RegionTactic
import Derived.Laws.AppendOwn
import Derived.Laws.AppendOwnNone
import Derived.OwnWalk
import Derived.LoopTactic
import Derived.OpenShut
set_option linter.unusedVariables false
set_option maxRecDepth 4000
set_option maxRecDepth 4000
namespace Go.Proofs.YtnnakhdndmjmiaaGreat
open Go.RowKit
namespace Ints
theorem cell_of_heap {w : World} {b i : Nat} {cs : Array Value} {t : TypeId} {fr : Nat × Nat} (h : w.heap[b]? = some (.cells cs t fr)) : w.cell? ⟨b,i,none⟩ = cs[i]?:=by simp [World.cell?,h]
theorem frozen_of_heap {w : World} {b i : Nat} {cs : Array Value} {t : TypeId} (h : w.heap[b]? = some (.cells cs t (0,0))) : w.frozen? ⟨b,i,none⟩ = false:=by simp [World.frozen?,h]
theorem add_at (g j i : Nat) : (⟨g,j,none⟩ : Addr).add i = ⟨g,j + i,none⟩:=by unfold Addr.add;split <;> simp_all
theorem below_drewN' {B : Nat} {a w : World} (h : Below B a w) (n : Nat) : Below B a (w.drewN n):=h.trans ⟨rfl,rfl,rfl,Nat.le_refl _,fun _ _=>rfl⟩
theorem owns_slice' {w : World} {base n : Nat} {e : TypeId} {v : Value} {xs : List Value} (h : w.ownsRow base e 1 v n xs) : ∃ a cap,v = .slice a n cap:=by
 rcases h.2 with ⟨rfl,rfl⟩ | ⟨g,cap,cur,rfl,_⟩
 ·exact ⟨none,0,rfl⟩
 ·exact ⟨_,cap,rfl⟩
theorem owns_mono {w : World} {B C n : Nat} {e : TypeId} {v : Value} {xs : List Value} (h : w.ownsRow B e 1 v n xs) (hc : C ≤ B) : w.ownsRow C e 1 v n xs :=
 ⟨h.1,h.2.imp id (fun ⟨g,cap,cur,h1,h2,h3⟩=>⟨g,cap,cur,h1,Nat.le_trans hc h2,h3⟩)⟩
theorem owns_cast {w : World} {B n m : Nat} {e : TypeId} {v : Value} {xs ys : List Value} (h : w.ownsRow B e 1 v n xs) (hn : n = m) (hx : xs = ys) : w.ownsRow B e 1 v m ys:=by rw [← hn,← hx];exact h
theorem cell_one_new (w : World) (v : Value) (t : TypeId) : ∀ j u,[v][j]? = some u → (w.alloc (.cells #[v] t)).cell? ((⟨w.heap.size,0,none⟩ : Addr).add j) = some u:=fun j u h=>by
 have hj : j = 0:=by
  have:=(List.getElem?_eq_some_iff.1 h).1
  simp at this;omega
 subst hj
 rw [add_at,Nat.zero_add,World.cell?_alloc_new]
 exact h
def IntsAt (w : World) (a : Option Addr) (len : Nat) (xs : List Int) : Prop :=
 xs.length = len ∧ (∀ x ∈ xs,-9223372036854775808 ≤ x ∧ x ≤ 9223372036854775807) ∧ (len = 0 ∨ ∃ b off,a = some ⟨b,off,none⟩ ∧ b < w.heap.size ∧ ∀ i,i < len → w.cell? ⟨b,off + i,none⟩ = some (.int .i64 (xs.getD i 0)))
theorem IntsAt.keep {w w' : World} {a : Option Addr} {len : Nat} {xs : List Int} (h : IntsAt w a len xs) (hb : Below w.heap.size w w') : IntsAt w' a len xs:=by
 refine ⟨h.1,h.2.1,?_⟩
 rcases h.2.2 with h0 | ⟨b,off,rfl,hlt,hc⟩
 ·exact .inl h0
 ·exact .inr ⟨b,off,rfl,by have:=hb.size;omega,fun i hi=>(hb.cell (p:=⟨b,off + i,none⟩) hlt).trans (hc i hi)⟩
theorem IntsAt.nil (w : World) (a : Option Addr) : IntsAt w a 0 []:=⟨rfl,by simp,.inl rfl⟩
theorem take_snoc (xs : List Int) (k : Nat) (h : k < xs.length) : xs.take (k + 1) = xs.take k ++ [xs.getD k 0]:=by
 rw [List.take_succ_eq_append_getElem h];simp [List.getD,h]
theorem getD_mem {xs : List Int} {k : Nat} (hk : k < xs.length) : xs.getD k 0 ∈ xs:=by
 rw [List.getD_eq_getElem?_getD,List.getElem?_eq_getElem hk];simp
theorem info_int : (Tryz.prog.info? 3).map (fun i=>(i.zero,i.size,i.bytes)) = some (some (.int .i64 0),1,8):=by kernel_rfl
def cellsI (l : List Int) : List Value:=l.map fun c=>Value.int .i64 c
theorem cellsI_len (l : List Int) : (cellsI l).length = l.length:=by simp [cellsI]
theorem cellsI_app (l r : List Int) : cellsI (l ++ r) = cellsI l ++ cellsI r:=by simp [cellsI]
theorem cellsI_one (l : List Int) : ∀ u ∈ cellsI l,u.oneCell' = true:=by
 intro u hu
 obtain ⟨c,_,rfl⟩:=List.mem_map.1 hu
 rfl
theorem ints_of_owns {w : World} {base n cap : Nat} {a : Option Addr} {xs : List Int} (h : w.ownsRow base 3 1 (.slice a n cap) n (cellsI xs)) (hn : n = xs.length) (hr : ∀ x ∈ xs,-9223372036854775808 ≤ x ∧ x ≤ 9223372036854775807) : IntsAt w a n xs ∧ n ≤ cap ∧ (a = none → cap = 0):=by
 subst hn
 have hlt:=h.lt
 rcases h.2 with ⟨h0,h1⟩ | ⟨g,cap2,cur,hv,hb,hg,hc,_⟩
 ·simp only [Value.slice.injEq] at h0
  obtain ⟨rfl,h2,rfl⟩:=h0
  exact ⟨⟨rfl,hr,.inl h1⟩,by omega,fun _=>rfl⟩
 ·simp only [Value.slice.injEq] at hv
  obtain ⟨rfl,_,rfl⟩:=hv
  refine ⟨⟨rfl,hr,?_⟩,hc,fun e=>by cases e⟩
  by_cases h0 : xs.length = 0
  ·exact .inl h0
  refine .inr ⟨g,0,rfl,(hlt g rfl).2,fun i hi=>?_⟩
  have:=h.cells (g:=g) rfl i (.int .i64 (xs.getD i 0)) (by simp [cellsI,List.getD,hi])
  rw [add_at] at this
  exact this
theorem ints_cells {w : World} {b off len : Nat} {xs : List Int} (h : IntsAt w (some ⟨b,off,none⟩) len xs) : ∀ i u,(cellsI xs)[i]? = some u → w.cell? ((⟨b,off,none⟩ : Addr).add i) = some u:=by
 intro i u hu
 rw [add_at]
 have hi : i < len:=by
  have:=(List.getElem?_eq_some_iff.1 hu).1
  rw [cellsI_len,h.1] at this
  exact this
 rcases h.2.2 with h0 | ⟨b2,o2,e,_,hc⟩
 ·omega
 simp only [Option.some.injEq,Addr.mk.injEq,and_true] at e
 obtain ⟨rfl,rfl⟩:=e
 rw [hc i hi,← hu]
 have hx:=h.1
 simp [cellsI,List.getD,hx,hi]
theorem append_int {ops : Array Oper} {rest : List Oper} {o : Oper} {a : Act} {Q : Exit → Act → World → Prop} (hgd : o.guard = none) (s x : Operand)
  (ho : o.op = .call { callee:=.builtin .append,args:=#[s,x],argTypes:=#[67,67] }) (base : Nat) (w : World) (c : Int)
  (v : Value) (n : Nat) (xs : List Int) (hs : a.eval s = v) (hown : w.ownsRow base 3 1 v n (cellsI xs)) (hx : a.eval x = .slice (some ⟨w.heap.size,0,none⟩) 1 1)
  (hn : n ≤ 4000000) (hbase : base ≤ w.heap.size)
  (h : ∀ v' w',w'.ownsRow base 3 1 v' (n + 1) (cellsI (xs ++ [c])) → (w.alloc (.cells #[.int .i64 c] 3)).grownBy w' v.ownBlock → wpList Tryz.prog ops Q rest (a.put o.dst v') w') :
  wpList Tryz.prog ops Q (o :: rest) a (w.alloc (.cells #[.int .i64 c] 3)):=by
 obtain ⟨i0,hi,hz0,hz1,hz2⟩:=info_parts info_int
 refine wpList_append_own _ hgd s x 67 ho base 3 i0 (.int .i64 0) 1 8 Tryz.underlying67 hi hz0 hz1 hz2 rfl (by decide) v n (cellsI xs) hs (hown.alloc _) ⟨w.heap.size,0,none⟩ 1 1 [.int .i64 c] hx rfl (cell_one_new _ _ _) (by simp [Value.oneCell']) ?_ ?_ ?_ fun v' w' h1 h2 _=>h v' w' (by rw [cellsI_app];exact h1) h2
 ·unfold maxLen;omega
 ·omega
 ·simp;omega
theorem append_ints {ops : Array Oper} {rest : List Oper} {o : Oper} {a : Act} {Q : Exit → Act → World → Prop} (hgd : o.guard = none) (s x : Operand)
  (ho : o.op = .call { callee:=.builtin .append,args:=#[s,x],argTypes:=#[67,67] }) (base : Nat) (w : World)
  (v : Value) (n : Nat) (xs ys : List Int) (a1 : Option Addr) (l1 c1 : Nat) (hs : a.eval s = v) (hown : w.ownsRow base 3 1 v n (cellsI xs)) (hx : a.eval x = .slice a1 l1 c1)
  (hI : IntsAt w a1 l1 ys) (hnil : a1 = none → c1 = 0)
  (hn : n + l1 ≤ 4000000) (hbase : base ≤ w.heap.size)
  (h : ∀ v' w',w'.ownsRow base 3 1 v' (n + l1) (cellsI (xs ++ ys)) → w.grownBy w' v.ownBlock → wpList Tryz.prog ops Q rest (a.put o.dst v') w') :
  wpList Tryz.prog ops Q (o :: rest) a w:=by
 obtain ⟨i0,hi,hz0,hz1,hz2⟩:=info_parts info_int
 cases a1 with
 | none =>
  have hl0 : l1 = 0:=by
   rcases hI.2.2 with h0 | ⟨b,o,e,_⟩
   ·exact h0
   ·cases e
  obtain rfl:=hnil rfl
  subst hl0
  have hy : ys = []:=List.eq_nil_of_length_eq_zero hI.1
  subst hy
  refine wpList_append_own_none hgd s x 67 ho base 3 i0 1 Tryz.underlying67 hi v n (cellsI xs) hs hown hx (h v w ?_ ⟨rfl,rfl,rfl,Nat.le_refl _,fun _ _ _=>rfl⟩)
  rw [List.append_nil]
  exact hown
 | some ad =>
  have hcl : ∀ j u,(cellsI ys)[j]? = some u → w.cell? (ad.add j) = some u:=by
   intro j u hu
   rcases hI.2.2 with h0 | ⟨b2,o2,e,_,hc⟩
   ·have h1:=hI.1
    rw [h0] at h1
    rw [List.eq_nil_of_length_eq_zero h1] at hu
    cases hu
   ·cases e
    exact ints_cells hI j u hu
  refine wpList_append_own _ hgd s x 67 ho base 3 i0 (.int .i64 0) 1 8 Tryz.underlying67 hi hz0 hz1 hz2 rfl (by decide) v n (cellsI xs) hs hown ad l1 c1 (cellsI ys) hx (by rw [cellsI_len,hI.1];omega) hcl (cellsI_one ys) ?_ ?_ hbase fun v' w' h1 h2 _=>h v' w' (by rw [cellsI_app];exact h1) h2
  ·unfold maxLen;omega
  ·omega
theorem has_end {xs : List Int} {n : Int} {k : Nat} (h : ¬ n ∈ xs.take k) (h1 : xs.length ≤ k) : ¬ n ∈ xs:=by
 rw [List.take_of_length_le h1] at h;exact h
theorem has_step {xs : List Int} {n : Int} {k : Nat} (h : ¬ n ∈ xs.take k) (h1 : k < xs.length) (e : ¬ xs.getD k 0 = n) : ¬ n ∈ xs.take (k + 1):=by
 rw [take_snoc xs k h1]
 simp only [List.mem_append,List.mem_singleton,not_or]
 exact ⟨h,fun g=>e g.symm⟩
theorem has_any (a : Option Addr) (len cap : Nat) (n : Int) (xs : List Int) (w : World) (h : IntsAt w a len xs) (hl : len ≤ 9223372036854775807) :
  Calls Tryz.prog 129 #[.slice a len cap,.int .i64 n] w fun e w'=>e = .returned (.bool (decide (n ∈ xs))) ∧ w = w':=by
 obtain ⟨R,hR⟩ : ∃ R,decide (n ∈ xs) = R:=⟨_,rfl⟩
 rw [hR]
 have HL:=Lib.hid h.1;have HC:=Lib.hid h.2.2;have HR:=Lib.hid hR
 clear h hR
 go_enter Tryz.func129,Tryz.ntmps129
 go_wp2_with fail
 go_loopw [5] (fun i wr => ∃ j : Nat,j ≤ len ∧ i = .int .i64 (j : Int) ∧ w = wr ∧ Hid (¬ n ∈ xs.take j)) (fun i _=>len - (intOf i).toNat)
 case atStart=>exact ⟨0,Nat.zero_le _,rfl,rfl,by show ¬ n ∈ List.take 0 xs;simp⟩
 case round =>
  obtain ⟨j,hj,rfl,rfl,hT⟩:=hrel
  by_cases hlt : j < len
  ·obtain ⟨b1,o1,rfl,hb1,hd1⟩:=HC.out.resolve_left (by omega)
   have d1:=hd1 j hlt
   have hy:=fun e=>has_step hT.out (k:=j) (by rw [HL.out];exact hlt) e
   have hn : xs.getD j 0 = n → n ∈ xs:=fun e=>e ▸ getD_mem (by rw [HL.out];exact hlt)
   clear hd1 hT HC
   generalize xs.getD j 0 = u1 at *
   have HY:=Lib.hid hy;have HN:=Lib.hid hn
   clear hy hn
   by_cases he : u1 = n
   ·have HNE:=Lib.hid (decide_eq_true (HN.out he))
    subst he
    go_wp2
    go_ret
    exact ⟨by rw [← HR.out,HNE.out];rfl,rfl⟩
   ·have hne : (u1 == n) = false:=by simpa using he
    go_wp2
    go_roundw
    case rel=>exact ⟨j + 1,by omega,by go_num,by trivial,HY.out he⟩
    case measure=>simp [intOf];omega
  ·have hend:=has_end hT.out (by rw [HL.out];omega)
   have HE:=Lib.hid hend
   clear hend hT
   go_wp2
   go_ret
   exact ⟨by rw [← HR.out,decide_eq_false HE.out];rfl,rfl⟩
def SeenAt (w : World) (b : Nat) (pre : List Int) : Prop := ∃ cur : Array Value,w.heap[b]? = some (.cells cur 193 (0,0)) ∧ cur.size = 63 ∧ ∀ i : Nat,i < 63 → cur[i]? = some (.bool (decide ((i : Int) ∈ pre)))
theorem SeenAt.cell {w : World} {b : Nat} {pre : List Int} (h : SeenAt w b pre) {i : Nat} (hi : i < 63) : w.cell? ⟨b,i,none⟩ = some (.bool (decide ((i : Int) ∈ pre))):=by
 obtain ⟨cur,h1,h2,h3⟩:=h
 rw [cell_of_heap h1];exact h3 i hi
theorem SeenAt.frozen {w : World} {b : Nat} {pre : List Int} (h : SeenAt w b pre) (i : Nat) : w.frozen? ⟨b,i,none⟩ = false:=by
 obtain ⟨cur,h1,h2,h3⟩:=h
 exact frozen_of_heap h1
theorem SeenAt.set {w : World} {b : Nat} {pre : List Int} (h : SeenAt w b pre) {i : Nat} (hi : i < 63) : SeenAt (w.setCell ⟨b,i,none⟩ (.bool true)) b (pre ++ [(i : Int)]):=by
 obtain ⟨cur,h1,h2,h3⟩:=h
 refine ⟨_,Lib.heap_setCell_same (i:=i) h1 _,by simp [h2],fun j hj=>?_⟩
 rw [Array.getElem?_setIfInBounds]
 by_cases hij : i = j
 ·subst hij
  rw [if_pos rfl,if_pos (by omega)]
  simp
 ·rw [if_neg hij,h3 j hj]
  have : ¬ ((j : Int) = (i : Int)):=by omega
  simp [this]
def seen0 : Array Value:=Array.replicate 63 (.bool false)
theorem zero_seen (w : World) : (zeroValue 193).run Tryz.prog w = .ok (.agg seen0) w:=by kernel_rfl
theorem seen_new (w : World) : SeenAt (w.alloc (.cells seen0 193)) w.heap.size []:=by
 refine ⟨seen0,heap_alloc_new w _,by simp [seen0],fun i hi=>?_⟩
 unfold seen0
 rw [Array.getElem?_replicate,if_pos hi]
 simp
end Ints
end Go.Proofs.YtnnakhdndmjmiaaGreat
