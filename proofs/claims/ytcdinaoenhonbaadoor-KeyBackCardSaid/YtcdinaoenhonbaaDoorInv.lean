/-
  A region that draws its order, by an invariant over what has come up so far: one step an operation, whatever the order ('x, y, z := f(a), f(b), f(c)' into cells: 192 orders).
-/
import Derived.Test.YtcdinaoenhonbaaDoorKt
import Derived.RegionTactic
import Derived.StillTail
set_option linter.unusedVariables false
namespace Go.Proofs.YtcdinaoenhonbaaDoor.Inv
open Go.RowKit

variable {P : Program} {ops : Array Oper} {Q : Exit → Act → World → Prop} {md : Region.Mode} {I : (Nat → Bool) → Act → World → Prop}

/-- Each operation waits for such alone as stand ahead of it. -/
def backB (ops : Array Oper) : Bool := (List.range ops.size).all fun i => match ops[i]? with | some o => o.after.all fun e => decide (e.on < i) | none => true
theorem back_of (h : backB ops = true) {i : Nat} {o : Oper} (ho : ops[i]? = some o) : ∀ e ∈ o.after, e.on < i := by
  have hi : i < ops.size := (Array.getElem?_eq_some_iff.1 ho).1
  have h1 := List.all_eq_true.1 h i (List.mem_range.2 hi)
  rw [ho] at h1
  intro e he
  have := (Array.all_eq_true_iff_forall_mem.1 h1) e he
  simpa using this
theorem all_of_none (hb : backB ops = true) {listed : Array Bool} (hs : listed.size = ops.size) (hr : Region.ready md ops listed = []) : ∀ i, i < ops.size → listed.getD i false = true := by
  intro i
  induction i using Nat.strongRecOn with
  | _ i ih =>
    intro hi
    cases hl : listed.getD i false with
    | true => rfl
    | false =>
      have hm : i ∈ Region.ready md ops listed := by
        refine mem_ready.2 ⟨getD_in (by omega) hl, ops[i], Array.getElem?_eq_getElem hi, fun e he _ => ih e.on (back_of hb (Array.getElem?_eq_getElem hi) e he) ?_⟩
        have := back_of hb (Array.getElem?_eq_getElem hi) e he
        omega
      rw [hr] at hm
      cases hm
/-- How many have not come up. -/
def left (listed : Array Bool) : Nat := listed.toList.count false
theorem left_set {listed : Array Bool} {i : Nat} (h : listed.getD i true = false) : left (listed.setIfInBounds i true) + 1 = left listed := by
  have hi : i < listed.size := by
    rcases Nat.lt_or_ge i listed.size with h' | h'
    · exact h'
    · simp [Array.getElem?_eq_none h'] at h
  have hv : listed[i] = false := by simpa [hi] using h
  have hl : i < listed.toList.length := by rw [Array.length_toList]; exact hi
  have hv' : listed.toList[i] = false := by rw [Array.getElem_toList]; exact hv
  unfold left
  rw [Array.toList_setIfInBounds, List.count_set hl, hv']
  have hp : 0 < listed.toList.count false := List.count_pos_iff.2 (by rw [← hv']; exact List.getElem_mem hl)
  have e1 : (if (false == false) = true then 1 else 0 : Nat) = 1 := rfl
  have e2 : (if (true == false) = true then 1 else 0 : Nat) = 0 := rfl
  omega
theorem none_left {listed : Array Bool} (hs : listed.size = ops.size) (h : left listed = 0) : Region.ready md ops listed = [] := by
  cases hr : Region.ready md ops listed with
  | nil => rfl
  | cons i r =>
    have hi : i ∈ Region.ready md ops listed := by rw [hr]; simp
    have := left_set (mem_ready.1 hi).1
    omega
/-- One operation keeps the invariant, whenever it comes up. -/
def StepOk (P : Program) (md : Region.Mode) (ops : Array Oper) (Q : Exit → Act → World → Prop) (I : (Nat → Bool) → Act → World → Prop) (i : Nat) : Prop :=
  ∀ o, ops[i]? = some o → ∀ L a w, I L a w → L i = false → (∀ e ∈ o.after, Region.binds md e = true → L e.on = true) → wpOp P ops Q i (fun a' w' => I (fun j => j == i || L j) a' w') a w
theorem StepOk.mk {i : Nat} {o : Oper} (ho : ops[i]? = some o) (ds : List Nat) (hd : (ds.all fun d => o.after.any fun e => Region.binds md e && e.on == d) = true)
    (h : ∀ L a w, I L a w → L i = false → (∀ d ∈ ds, L d = true) → ∀ K' : Act → World → Prop, (∀ a' w', I (fun j => j == i || L j) a' w' → K' a' w') → if Region.wanted o (yielded ops a.tmps) = true then Oper.wp P o a w K' Q else K' (a.put o.dst undef) w) : StepOk P md ops Q I i := by
  intro o' ho' L a w hI hL hall
  obtain rfl : o = o' := Option.some.inj (ho.symm.trans ho')
  refine wpOp_step ho fun K' hK => h L a w hI hL (fun d hdm => ?_) K' hK
  have h1 := List.all_eq_true.1 hd d hdm
  obtain ⟨e, he, hb⟩ := Array.any_eq_true'.1 h1
  simp only [Bool.and_eq_true, beq_iff_eq] at hb
  rw [← hb.2]
  exact hall e he hb.1
/-- Every operation from a place on. -/
def AllFrom (P : Program) (md : Region.Mode) (ops : Array Oper) (Q : Exit → Act → World → Prop) (I : (Nat → Bool) → Act → World → Prop) (n : Nat) : Prop := ∀ i, n ≤ i → i < ops.size → StepOk P md ops Q I i
theorem AllFrom.nil {n : Nat} (h : ops.size = n) : AllFrom P md ops Q I n := fun i h1 h2 => by omega
theorem AllFrom.cons {n : Nat} (h : StepOk P md ops Q I n) (t : AllFrom P md ops Q I (n + 1)) : AllFrom P md ops Q I n := fun i h1 h2 => by
  rcases Nat.lt_or_ge n i with h3 | h3
  · exact t i h3 h2
  · obtain rfl : n = i := by omega
    exact h
theorem wpAny_inv (hb : backB ops = true) (hs : AllFrom P md ops Q I 0) (hf : ∀ L a w, I L a w → (∀ i, i < ops.size → L i = true) → Q .normal a w) :
    ∀ (fuel : Nat) (listed : Array Bool) (a : Act) (w : World), listed.size = ops.size → left listed = fuel → I (fun j => listed.getD j false) a w → wpAny P md ops Q fuel listed a w := by
  intro fuel
  induction fuel with
  | zero =>
    intro listed a w hsz hl hI
    have hr := none_left (md := md) hsz hl
    exact ⟨hr, hf _ _ _ hI (all_of_none hb hsz hr)⟩
  | succ fuel ih =>
    intro listed a w hsz hl hI
    refine ⟨fun hr => hf _ _ _ hI (all_of_none hb hsz hr), fun i hi => ?_⟩
    obtain ⟨hun, o, ho, hall⟩ := mem_ready.1 hi
    have hlt : i < ops.size := (Array.getElem?_eq_some_iff.1 ho).1
    refine wpOp_mono (fun a' w' h' => ih _ a' w' (by simpa using hsz) (by have := left_set hun; omega) ?_) (hs i (Nat.zero_le _) hlt o ho _ a w hI (getD_both hun) hall)
    have : (fun j => (listed.setIfInBounds i true).getD j false) = fun j => j == i || listed.getD j false := by
      funext j
      by_cases hji : j = i
      · subst hji
        rw [beq_self_eq_true, Bool.true_or]
        have hj : j < (listed.setIfInBounds j true).size := by rw [Array.size_setIfInBounds]; omega
        rw [Array.getD_eq_getD_getElem?, Array.getElem?_eq_getElem hj, Array.getElem_setIfInBounds_self]
        rfl
      · rw [beq_eq_false_iff_ne.2 hji, Bool.false_or, getD_set_ne false (fun e => hji e.symm)]
    rw [this]
    exact h'
theorem wp_region_inv (I : (Nat → Bool) → Act → World → Prop) {id : Nat} {a : Act} {w : World} (hm : P.follows .mixedOrders = true) (hb : backB ops = true) (h0 : I (fun _ => false) a w.drew)
    (hs : AllFrom P .any ops Q I 0) (hf : ∀ L a w, I L a w → (∀ i, i < ops.size → L i = true) → Q .normal a w) : (Code.region id ops true).wp P Q a w := by
  refine wp_region_any hm (wpAny_inv hb hs hf ops.size _ a _ (by simp) ?_ ?_)
  · unfold left; simp
  · have : (fun j => (Array.replicate ops.size false).getD j false) = fun _ => false := by
      funext j; exact getD_replicate_false _ _
    rw [this]
    exact h0
end Go.Proofs.YtcdinaoenhonbaaDoor.Inv
