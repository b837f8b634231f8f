import Derived.Test.YtnnakhdndmjmiaaGreatPuDiskPlain
import Derived.Test.YtnnakhdndmjmiaaGreatChecked
import Derived.WalkKit
import Derived.Lib.Hide
import Derived.Below
import Derived.Lib.BufferWrite
import Derived.WalkLawsBesides
import Derived.WalkSpells
import Derived.BigQuiet
import Derived.Deep.QuietTactic
import Derived.RegionTactic
import Derived.RangeFuncBox
set_option linter.unusedVariables false
set_option maxRecDepth 4000
namespace Go.Proofs.YtnnakhdndmjmiaaGreat.Disk
open Go.RowKit DiskP
theorem cell_of_heap {w : World} {b i : Nat} {cs : Array Value} {t : TypeId} {fr : Nat × Nat} (h : w.heap[b]? = some (.cells cs t fr)) : w.cell? ⟨b,i,none⟩ = cs[i]?:=by simp [World.cell?,h]
theorem frozen_of_heap {w : World} {b i : Nat} {cs : Array Value} {t : TypeId} (h : w.heap[b]? = some (.cells cs t (0,0))) : w.frozen? ⟨b,i,none⟩ = false:=by simp [World.frozen?,h]
theorem heap_lt {w : World} {b : Nat} {o : Obj} (h : w.heap[b]? = some o) : b < w.heap.size:=(Array.getElem?_eq_some_iff.1 h).1
def wcells (W : List Wr) : List Value:=W.flatMap fun x=>[Value.int .i64 (x.1 : Int),Value.string x.2]
theorem wcells_append (W V : List Wr) : wcells (W ++ V) = wcells W ++ wcells V:=by simp [wcells]
theorem wcells_get : ∀ (W : List Wr) (k : Nat) (x : Wr),W[k]? = some x → (wcells W)[k * 2]? = some (.int .i64 (x.1 : Int)) ∧ (wcells W)[k * 2 + 1]? = some (.string x.2)
 | [],k,x,h=>by simp at h
 | y :: W,0,x,h=>by
  simp at h;subst h
  exact ⟨rfl,rfl⟩
 | y :: W,k + 1,x,h=>by
  have h2:=wcells_get W k x (by simpa using h)
  have e : (k + 1) * 2 = k * 2 + 1 + 1:=by omega
  rw [e]
  exact h2
structure Upd (L : List Nat) (w w' : World) (L' : List Nat) : Prop where
 os : w'.os = w.os
 tape : w'.tape = w.tape
 output : w'.output = w.output
 size : w.heap.size ≤ w'.heap.size
 block : ∀ k,k < w.heap.size → k ∉ L → w'.heap[k]? = w.heap[k]?
 sub : ∀ k ∈ L',k ∈ L ∨ w.heap.size ≤ k
theorem Upd.refl (L : List Nat) (w : World) : Upd L w w L:=⟨rfl,rfl,rfl,Nat.le_refl _,fun _ _ _=>rfl,fun k h=>.inl h⟩
theorem Upd.trans {L L' L'' : List Nat} {a b c : World} (h : Upd L a b L') (k : Upd L' b c L'') : Upd L a c L'' :=
 ⟨k.os.trans h.os,k.tape.trans h.tape,k.output.trans h.output,Nat.le_trans h.size k.size,
  fun i hi hn=>(k.block i (by have:=h.size;omega) (fun hm=>(h.sub i hm).elim hn (by omega))).trans (h.block i hi hn),
  fun i hi=>(k.sub i hi).elim (fun hm=>h.sub i hm) (fun hm=>.inr (by have:=h.size;omega))⟩
theorem Upd.below {B : Nat} {L L' : List Nat} {w w' : World} (h : Upd L w w' L') (hL : ∀ k ∈ L,B ≤ k) (hB : B ≤ w.heap.size) : Below B w w' :=
 ⟨h.os,h.tape,h.output,h.size,fun k hk=>h.block k (by omega) (fun hm=>by have:=hL k hm;omega)⟩
theorem Upd.of_below {L : List Nat} {w w' : World} (h : Below w.heap.size w w') : Upd L w w' L:=⟨h.os,h.tape,h.output,h.size,fun k hk _=>h.block k hk,fun k hk=>.inl hk⟩
theorem Upd.of_grown {L : List Nat} {w w' : World} {b : Nat} (h : w.grownBy w' (some b)) (hb : b ∈ L) : Upd L w w' L :=
 ⟨h.os,h.tape,h.output,h.size,fun k hk hn=>h.block k hk (fun e=>hn (by cases e;exact hb)),fun k hk=>.inl hk⟩
theorem Upd.drew {L L' : List Nat} {w w' : World} (h : Upd L w w' L') : Upd L w w'.drew L':=⟨h.os,h.tape,h.output,h.size,h.block,h.sub⟩
structure DkAt (w : World) (b : Nat) (st : St) (z : Int) (g cap : Nat) (wv : Value) : Prop where
 blk : w.heap[b]? = some (.cells #[.int .i64 (st.ops : Int),.int .i64 z,.bool st.dead,.slice (some ⟨g,0,none⟩) st.S.length cap,wv] 80 (0,0))
 zr : z.toNat = st.left ∧ -9223372036854775808 ≤ z ∧ z ≤ 9223372036854775807
 sec : w.ownsRow 0 9 1 (.slice (some ⟨g,0,none⟩) st.S.length cap) st.S.length (st.S.map Value.string)
 wts : w.ownsRow 0 107 2 wv st.W.length (wcells st.W)
def foot (b g : Nat) (wv : Value) : List Nat:=b :: g :: wv.ownBlock.toList
def Dk (w : World) (L : List Nat) (b : Nat) (st : St) : Prop := ∃ z g cap wv,DkAt w b st z g cap wv ∧ L = foot b g wv
structure RkAt (w : World) (b : Nat) (st : St) (g cap : Nat) (wv : Value) : Prop where
 blk : w.heap[b]? = some (.cells #[.slice (some ⟨g,0,none⟩) st.S.length cap,wv,.int .i64 (st.left : Int),.int .i64 (st.ops : Int),.bool st.dead] 46 (0,0))
 sec : w.ownsRow 0 9 1 (.slice (some ⟨g,0,none⟩) st.S.length cap) st.S.length (st.S.map Value.string)
 wts : w.ownsRow 0 107 2 wv st.W.length (wcells st.W)
def Rk (w : World) (L : List Nat) (b : Nat) (st : St) : Prop := ∃ g cap wv,RkAt w b st g cap wv ∧ L = foot b g wv
theorem owns_heap {w w' : World} {B n size : Nat} {e : TypeId} {v : Value} {xs : List Value} (h : w.ownsRow B e size v n xs) (hb : ∀ k,v.ownBlock = some k → w'.heap[k]? = w.heap[k]?) : w'.ownsRow B e size v n xs:=by
 refine ⟨h.1,?_⟩
 rcases h.2 with hn | ⟨g,cap,cur,hv,hbg,hg,rest⟩
 ·exact .inl hn
 ·exact .inr ⟨g,cap,cur,hv,hbg,(hb g (by rw [hv];rfl)).trans hg,rest⟩
theorem owns_type {w : World} {B n size g : Nat} {e : TypeId} {v : Value} {xs : List Value} (h : w.ownsRow B e size v n xs) (hg : v.ownBlock = some g) : ∃ cur,w.heap[g]? = some (.cells cur e (0,0)):=by
 rcases h.2 with ⟨rfl,_⟩ | ⟨g',cap,cur,rfl,_,hgh,_⟩
 ·simp [Value.ownBlock] at hg
 ·obtain rfl : g' = g:=by simpa [Value.ownBlock] using hg
  exact ⟨cur,hgh⟩
theorem owns_cell {w : World} {B n size g j : Nat} {e : TypeId} {v u : Value} {xs : List Value} (h : w.ownsRow B e size v n xs) (hg : v.ownBlock = some g) (hu : xs[j]? = some u) : w.cell? ⟨g,j,none⟩ = some u:=by
 have h2:=h.cells hg j u hu
 rw [Addr.add_lit,Nat.zero_add] at h2
 exact h2
theorem owns_frozen {w : World} {B n size g j : Nat} {e : TypeId} {v : Value} {xs : List Value} (h : w.ownsRow B e size v n xs) (hg : v.ownBlock = some g) : w.frozen? ⟨g,j,none⟩ = false:=by
 obtain ⟨cur,hc⟩:=owns_type h hg
 exact frozen_of_heap hc
theorem mem_foot {b g k : Nat} {wv : Value} : k ∈ foot b g wv ↔ k = b ∨ k = g ∨ wv.ownBlock = some k:=by simp [foot]
theorem DkAt.keep {w w' : World} {b g cap : Nat} {st : St} {z : Int} {wv : Value} (h : DkAt w b st z g cap wv) (hk : ∀ k ∈ foot b g wv,w'.heap[k]? = w.heap[k]?) : DkAt w' b st z g cap wv :=
 ⟨(hk b (by simp [foot])).trans h.blk,h.zr,owns_heap h.sec (fun k e=>hk k (mem_foot.2 (.inr (.inl (by simpa [Value.ownBlock] using e.symm))))),owns_heap h.wts (fun k e=>hk k (mem_foot.2 (.inr (.inr e))))⟩
theorem RkAt.keep {w w' : World} {b g cap : Nat} {st : St} {wv : Value} (h : RkAt w b st g cap wv) (hk : ∀ k ∈ foot b g wv,w'.heap[k]? = w.heap[k]?) : RkAt w' b st g cap wv :=
 ⟨(hk b (by simp [foot])).trans h.blk,owns_heap h.sec (fun k e=>hk k (mem_foot.2 (.inr (.inl (by simpa [Value.ownBlock] using e.symm))))),owns_heap h.wts (fun k e=>hk k (mem_foot.2 (.inr (.inr e))))⟩
theorem Dk.keep {w w' : World} {L : List Nat} {b : Nat} {st : St} (h : Dk w L b st) (hk : ∀ k ∈ L,w'.heap[k]? = w.heap[k]?) : Dk w' L b st:=by
 obtain ⟨z,g,cap,wv,h,rfl⟩:=h
 exact ⟨z,g,cap,wv,h.keep hk,rfl⟩
theorem Rk.keep {w w' : World} {L : List Nat} {b : Nat} {st : St} (h : Rk w L b st) (hk : ∀ k ∈ L,w'.heap[k]? = w.heap[k]?) : Rk w' L b st:=by
 obtain ⟨g,cap,wv,h,rfl⟩:=h
 exact ⟨g,cap,wv,h.keep hk,rfl⟩
theorem owns_lt {w : World} {B n size k : Nat} {e : TypeId} {v : Value} {xs : List Value} (h : w.ownsRow B e size v n xs) (hk : v.ownBlock = some k) : k < w.heap.size:=(h.lt k hk).2
theorem DkAt.lt {w : World} {b g cap : Nat} {st : St} {z : Int} {wv : Value} (h : DkAt w b st z g cap wv) : ∀ k ∈ foot b g wv,k < w.heap.size:=fun k hk=>by
 rcases mem_foot.1 hk with rfl | rfl | e
 ·exact heap_lt h.blk
 ·exact owns_lt h.sec rfl
 ·exact owns_lt h.wts e
theorem RkAt.lt {w : World} {b g cap : Nat} {st : St} {wv : Value} (h : RkAt w b st g cap wv) : ∀ k ∈ foot b g wv,k < w.heap.size:=fun k hk=>by
 rcases mem_foot.1 hk with rfl | rfl | e
 ·exact heap_lt h.blk
 ·exact owns_lt h.sec rfl
 ·exact owns_lt h.wts e
theorem Dk.lt {w : World} {L : List Nat} {b : Nat} {st : St} (h : Dk w L b st) : ∀ k ∈ L,k < w.heap.size:=by
 obtain ⟨z,g,cap,wv,h,rfl⟩:=h;exact h.lt
theorem Rk.lt {w : World} {L : List Nat} {b : Nat} {st : St} (h : Rk w L b st) : ∀ k ∈ L,k < w.heap.size:=by
 obtain ⟨g,cap,wv,h,rfl⟩:=h;exact h.lt
theorem not_type {w : World} {b g : Nat} {c1 c2 : Array Value} {t1 t2 : TypeId} {f1 f2 : Nat × Nat} (h1 : w.heap[b]? = some (.cells c1 t1 f1)) (h2 : w.heap[g]? = some (.cells c2 t2 f2)) (ht : t1 ≠ t2) : b ≠ g:=by
 rintro rfl
 rw [h1] at h2
 simp at h2
 exact ht h2.2.1
theorem DkAt.bg {w : World} {b g cap : Nat} {st : St} {z : Int} {wv : Value} (h : DkAt w b st z g cap wv) : b ≠ g:=by
 obtain ⟨cur,hc⟩:=owns_type h.sec rfl
 exact not_type h.blk hc (by decide)
theorem DkAt.bw {w : World} {b g cap k : Nat} {st : St} {z : Int} {wv : Value} (h : DkAt w b st z g cap wv) (hk : wv.ownBlock = some k) : b ≠ k:=by
 obtain ⟨cur,hc⟩:=owns_type h.wts hk
 exact not_type h.blk hc (by decide)
theorem DkAt.gw {w : World} {b g cap k : Nat} {st : St} {z : Int} {wv : Value} (h : DkAt w b st z g cap wv) (hk : wv.ownBlock = some k) : g ≠ k:=by
 obtain ⟨cur,hc⟩:=owns_type h.wts hk
 obtain ⟨cur2,hc2⟩:=owns_type h.sec rfl
 exact not_type hc2 hc (by decide)
theorem RkAt.bg {w : World} {b g cap : Nat} {st : St} {wv : Value} (h : RkAt w b st g cap wv) : b ≠ g:=by
 obtain ⟨cur,hc⟩:=owns_type h.sec rfl
 exact not_type h.blk hc (by decide)
theorem RkAt.bw {w : World} {b g cap k : Nat} {st : St} {wv : Value} (h : RkAt w b st g cap wv) (hk : wv.ownBlock = some k) : b ≠ k:=by
 obtain ⟨cur,hc⟩:=owns_type h.wts hk
 exact not_type h.blk hc (by decide)
theorem RkAt.gw {w : World} {b g cap k : Nat} {st : St} {wv : Value} (h : RkAt w b st g cap wv) (hk : wv.ownBlock = some k) : g ≠ k:=by
 obtain ⟨cur,hc⟩:=owns_type h.wts hk
 obtain ⟨cur2,hc2⟩:=owns_type h.sec rfl
 exact not_type hc2 hc (by decide)
/-! Small contracts. -/
theorem made_yes (b : Nat) (ad : Addr) (n cap : Nat) (w : World) (hc : w.cell? ⟨b,3,none⟩ = some (.slice (some ad) n cap)) :
  Calls Tryz.prog 39 #[.pointer (some ⟨b,0,none⟩)] w fun e w'=>e = .returned (.bool true) ∧ w = w':=by
 go_enter Tryz.func39,Tryz.ntmps39
 go_wp2
 go_ret
 exact ⟨rfl,rfl⟩
theorem made_zero (b : Nat) (w : World) (hc : w.cell? ⟨b,3,none⟩ = some (.slice none 0 0)) :
  Calls Tryz.prog 39 #[.pointer (some ⟨b,0,none⟩)] w fun e w'=>e = .returned (.bool false) ∧ w = w':=by
 go_enter Tryz.func39,Tryz.ntmps39
 go_wp2
 go_ret
 exact ⟨rfl,rfl⟩
theorem made_nil (w : World) : Calls Tryz.prog 39 #[.pointer none] w fun e w'=>e = .returned (.bool false) ∧ w = w':=by
 go_enter Tryz.func39,Tryz.ntmps39
 go_wp2
 go_ret
 exact ⟨rfl,rfl⟩
def NoDisk (w : World) (p : Option Addr) : Prop:=p = none ∨ ∃ b,p = some ⟨b,0,none⟩ ∧ w.cell? ⟨b,3,none⟩ = some (.slice none 0 0)
theorem made_no (p : Option Addr) (w : World) (h : NoDisk w p) : Calls Tryz.prog 39 #[.pointer p] w fun e w'=>e = .returned (.bool false) ∧ w = w':=by
 rcases h with rfl | ⟨b,rfl,hc⟩
 ·exact made_nil w
 ·exact made_zero b w hc
theorem made_dk (b : Nat) (st : St) (L : List Nat) (w : World) (h : Dk w L b st) : Calls Tryz.prog 39 #[.pointer (some ⟨b,0,none⟩)] w fun e w'=>e = .returned (.bool true) ∧ w = w':=by
 obtain ⟨z,g,cap,wv,h,rfl⟩:=h
 exact made_yes b _ _ _ w (cell_of_heap h.blk)
theorem ready_no (p : Option Addr) (w : World) (h : NoDisk w p) : Calls Tryz.prog 144 #[.pointer p] w fun e w'=>e = .returned (.int .i64 1) ∧ w = w':=by
 go_enter Tryz.func144,Tryz.ntmps144
 go_wp2_with fail
 refine (made_no p w h).mono ?_
 rintro e w' ⟨rfl,rfl⟩
 go_wp2_with fail
 go_ret
 exact ⟨rfl,rfl⟩
theorem ready_dk (b : Nat) (st : St) (L : List Nat) (w : World) (h : Dk w L b st) : Calls Tryz.prog 144 #[.pointer (some ⟨b,0,none⟩)] w fun e w'=>e = .returned (.int .i64 (if st.dead then 13 else 0)) ∧ w = w':=by
 have hm:=made_dk b st L w h
 obtain ⟨z,g,cap,wv,h,rfl⟩:=h
 have c2 : w.cell? ⟨b,2,none⟩ = some (.bool st.dead):=cell_of_heap h.blk
 obtain ⟨d,hd⟩ : ∃ d,st.dead = d:=⟨_,rfl⟩
 rw [hd] at c2 ⊢
 have HM:=Lib.hid hm
 clear h hm hd
 cases d
 all_goals
  go_enter Tryz.func144,Tryz.ntmps144
  go_wp2_with fail
  refine HM.out.mono ?_
  rintro e w' ⟨rfl,rfl⟩
  go_wp2_with fail
  go_ret
  exact ⟨rfl,rfl⟩
theorem reach_no (p : Option Addr) (at_ : Int) (w : World) (h : NoDisk w p) : Calls Tryz.prog 141 #[.pointer p,.int .i64 at_] w fun e w'=>e = .returned (.int .i64 1) ∧ w = w':=by
 go_enter Tryz.func141,Tryz.ntmps141
 go_wp2_with fail
 refine (ready_no p w h).mono ?_
 rintro e w' ⟨rfl,rfl⟩
 go_wp2_with fail
 go_ret
 exact ⟨rfl,rfl⟩
theorem reach_dk (b : Nat) (st : St) (L : List Nat) (at_ : Int) (w : World) (h : Dk w L b st) (hn : st.S.length ≤ 512) :
  Calls Tryz.prog 141 #[.pointer (some ⟨b,0,none⟩),.int .i64 at_] w fun e w'=>e = .returned (.int .i64 (if st.dead then 13 else if out st.S.length at_ then 11 else 0)) ∧ w = w':=by
 have hm:=ready_dk b st L w h
 obtain ⟨z,g,cap,wv,h,rfl⟩:=h
 have c3 : w.cell? ⟨b,3,none⟩ = some (.slice (some ⟨g,0,none⟩) st.S.length cap):=cell_of_heap h.blk
 obtain ⟨d,hd⟩ : ∃ d,st.dead = d:=⟨_,rfl⟩
 rw [hd] at hm ⊢
 obtain ⟨n,hl⟩ : ∃ n,st.S.length = n:=⟨_,rfl⟩
 rw [hl] at c3 hn ⊢
 cases d
 ·simp only [Bool.false_eq_true,if_false] at hm ⊢
  have HM:=Lib.hid hm
  clear h hm hd hl
  by_cases h1 : at_ < 0
  ·rw [out_yes (.inl h1),if_pos rfl]
   go_enter Tryz.func141,Tryz.ntmps141
   go_wp2_with fail
   refine HM.out.mono ?_
   rintro e w' ⟨rfl,rfl⟩
   go_wp2_with fail
   go_ret
   exact ⟨rfl,rfl⟩
  ·by_cases h2 : (n : Int) ≤ at_
   ·rw [out_yes (.inr h2),if_pos rfl]
    have h1' : 0 ≤ at_:=by omega
    go_enter Tryz.func141,Tryz.ntmps141
    go_wp2_with fail
    refine HM.out.mono ?_
    rintro e w' ⟨rfl,rfl⟩
    go_wp2_with fail
    go_ret
    exact ⟨rfl,rfl⟩
   ·rw [out_no (by omega),if_neg (by decide)]
    have h1' : 0 ≤ at_:=by omega
    have h2' : at_ < (n : Int):=by omega
    go_enter Tryz.func141,Tryz.ntmps141
    go_wp2_with fail
    refine HM.out.mono ?_
    rintro e w' ⟨rfl,rfl⟩
    go_wp2_with fail
    go_ret
    exact ⟨rfl,rfl⟩
 ·simp only [if_true] at hm ⊢
  have HM:=Lib.hid hm
  clear h hm hd hl
  go_enter Tryz.func141,Tryz.ntmps141
  go_wp2_with fail
  refine HM.out.mono ?_
  rintro e w' ⟨rfl,rfl⟩
  go_wp2_with fail
  go_ret
  exact ⟨rfl,rfl⟩
theorem dead_dk (b : Nat) (st : St) (L : List Nat) (w : World) (h : Dk w L b st) : Calls Tryz.prog 97 #[.pointer (some ⟨b,0,none⟩)] w fun e w'=>e = .returned (.bool st.dead) ∧ w = w':=by
 have hm:=made_dk b st L w h
 obtain ⟨z,g,cap,wv,h,rfl⟩:=h
 have c2 : w.cell? ⟨b,2,none⟩ = some (.bool st.dead):=cell_of_heap h.blk
 have HM:=Lib.hid hm
 clear h hm
 go_enter Tryz.func97,Tryz.ntmps97
 go_wp2_with fail
 refine HM.out.mono ?_
 rintro e w' ⟨rfl,rfl⟩
 go_wp2_with fail
 go_ret
 exact ⟨rfl,rfl⟩
theorem size_dk (b : Nat) (st : St) (L : List Nat) (w : World) (h : Dk w L b st) : Calls Tryz.prog 44 #[.pointer (some ⟨b,0,none⟩)] w fun e w'=>e = .returned (.int .i64 (st.S.length : Int)) ∧ w = w':=by
 have hm:=made_dk b st L w h
 obtain ⟨z,g,cap,wv,h,rfl⟩:=h
 have c3 : w.cell? ⟨b,3,none⟩ = some (.slice (some ⟨g,0,none⟩) st.S.length cap):=cell_of_heap h.blk
 have HM:=Lib.hid hm
 clear h hm
 go_enter Tryz.func44,Tryz.ntmps44
 go_wp2_with fail
 refine HM.out.mono ?_
 rintro e w' ⟨rfl,rfl⟩
 go_wp2_with fail
 go_ret
 exact ⟨rfl,rfl⟩
theorem sized_any (n : Int) (w : World) : Calls Tryz.prog 31 #[.int .i64 n] w fun e w'=>e = .returned (.bool (decide (2 ≤ n ∧ n ≤ 512))) ∧ w = w':=by
 by_cases h1 : 2 ≤ n
 ·by_cases h2 : n ≤ 512
  ·rw [decide_eq_true ⟨h1,h2⟩]
   go_enter Tryz.func31,Tryz.ntmps31
   go_wp2
   go_ret
   exact ⟨rfl,rfl⟩
  ·rw [decide_eq_false (by omega)]
   have h2' : 512 < n:=by omega
   go_enter Tryz.func31,Tryz.ntmps31
   go_wp2
   go_ret
   exact ⟨rfl,rfl⟩
 ·rw [decide_eq_false (by omega)]
  have h1' : n < 2:=by omega
  go_enter Tryz.func31,Tryz.ntmps31
  go_wp2
  go_ret
  exact ⟨rfl,rfl⟩
theorem set_any (b : Nat) (k : Int) (v : Value) (w : World) (hc : w.cell? ⟨b,1,none⟩ = some v) (h1 : v.oneCell' = true) (hf : w.frozen? ⟨b,1,none⟩ = false) :
  Calls Tryz.prog 64 #[.pointer (some ⟨b,0,none⟩),.int .i64 k] w fun e w'=>e = .returned (.tuple #[]) ∧ w' = w.setCell ⟨b,1,none⟩ (.int .i64 k):=by
 go_enter Tryz.func64,Tryz.ntmps64
 go_wp2
 go_end0
 exact ⟨rfl,rfl⟩
end Go.Proofs.YtnnakhdndmjmiaaGreat.Disk
