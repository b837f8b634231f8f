/-
  Plain facts of Norm: lines merged by folded Skus, in the order of the Skus; lists, bytes and numbers alone, nothing of the program.
-/
import Derived.Test.YtpaemofjeadhcaaGreatDoorLinesPlain
import Derived.Sort.Walk0
set_option linter.unusedVariables false
namespace Go.Proofs.YtpaemofjeadhcaaGreatDoor
open NumP NameP
namespace LinesP

def key (x : Ln) : List UInt8 := x.1.data.toList
def fo (s : ByteArray) : List UInt8 := (foldV (vals s.data.toList)).1
def fok (s : ByteArray) : Bool := fitV ((vals s.data.toList).map low)
def bk (k : List UInt8) : ByteArray := ⟨k.toArray⟩
theorem bk_data (k : List UInt8) : (bk k).data.toList = k := rfl
theorem bk_of (s : ByteArray) : bk s.data.toList = s := by cases s; simp [bk]
theorem ext_key {s t : ByteArray} (h : s.data.toList = t.data.toList) : s = t := by rw [← bk_of s, ← bk_of t, h]
theorem fold_fo {s : ByteArray} (h : fok s = true) : foldV (vals s.data.toList) = (fo s, 0) := by
  unfold fo; rw [foldV_yes h]
theorem fold_not {s : ByteArray} (h : fok s = false) : foldV (vals s.data.toList) = ([], 7) := foldV_no h
theorem fo_name {s : ByteArray} (h : fok s = true) : fitV (vals (fo s)) = true := by
  unfold fo; rw [foldV_yes h, (fold_again h).1]; exact h
theorem name_fo {s : ByteArray} (h : nm s = true) : fok s = true ∧ fo s = s.data.toList := by
  have := fold_fit h
  refine ⟨this.1, ?_⟩
  unfold fo; rw [foldV_yes this.1, this.2]

/-! ### sums of a Sku -/
def sumK (k : List UInt8) : List Ln → Int
  | [] => 0
  | x :: r => (if fo x.1 = k then x.2 else 0) + sumK k r
def inK (k : List UInt8) (l : List Ln) : Prop := ∃ x ∈ l, fo x.1 = k
theorem sumK_append (k : List UInt8) : ∀ (a b : List Ln), sumK k (a ++ b) = sumK k a + sumK k b
  | [], b => by simp [sumK]
  | x :: a, b => by rw [List.cons_append, sumK, sumK, sumK_append k a b]; omega
theorem sumK_none {k : List UInt8} : ∀ {l : List Ln}, ¬ inK k l → sumK k l = 0
  | [], _ => rfl
  | x :: r, h => by
    rw [sumK, if_neg (fun e => h ⟨x, List.mem_cons_self, e⟩), sumK_none (fun ⟨y, hy, e⟩ => h ⟨y, List.mem_cons_of_mem _ hy, e⟩)]; rfl
theorem sumK_perm {k : List UInt8} {l m : List Ln} (h : l.Perm m) : sumK k l = sumK k m := by
  induction h with
  | nil => rfl
  | cons x _ ih => rw [sumK, sumK, ih]
  | swap x y l => simp only [sumK]; omega
  | trans _ _ h1 h2 => rw [h1, h2]
theorem inK_perm {k : List UInt8} {l m : List Ln} (h : l.Perm m) : inK k l ↔ inK k m :=
  ⟨fun ⟨x, hx, e⟩ => ⟨x, h.mem_iff.1 hx, e⟩, fun ⟨x, hx, e⟩ => ⟨x, h.mem_iff.2 hx, e⟩⟩
theorem inK_snoc {k : List UInt8} {l : List Ln} {x : Ln} : inK k (l ++ [x]) ↔ inK k l ∨ fo x.1 = k := by
  constructor
  · rintro ⟨y, hy, e⟩
    rcases List.mem_append.1 hy with hy | hy
    · exact .inl ⟨y, hy, e⟩
    · simp at hy; subst hy; exact .inr e
  · rintro (⟨y, hy, e⟩ | e)
    · exact ⟨y, List.mem_append_left _ hy, e⟩
    · exact ⟨x, by simp, e⟩
theorem sumK_snoc (k : List UInt8) (l : List Ln) (x : Ln) : sumK k (l ++ [x]) = sumK k l + (if fo x.1 = k then x.2 else 0) := by
  rw [sumK_append]; simp [sumK]
theorem sumK_pos {k : List UInt8} : ∀ {l : List Ln}, (∀ x ∈ l, 1 ≤ x.2) → inK k l → 1 ≤ sumK k l
  | [], _, h => by obtain ⟨x, hx, _⟩ := h; cases hx
  | x :: r, hq, h => by
    have h1 := hq x List.mem_cons_self
    have hr : ∀ y ∈ r, 1 ≤ y.2 := fun y hy => hq y (List.mem_cons_of_mem _ hy)
    rw [sumK]
    by_cases hk : inK k r
    · have := sumK_pos hr hk
      split <;> omega
    · rw [sumK_none hk]
      obtain ⟨y, hy, e⟩ := h
      rcases List.mem_cons.1 hy with rfl | hy
      · rw [if_pos e]; omega
      · exact absurd ⟨y, hy, e⟩ hk
theorem sumK_most (k : List UInt8) : ∀ (l : List Ln), (∀ x ∈ l, qty x.2 = true) → 0 ≤ sumK k l ∧ sumK k l ≤ 1048576 * (l.length : Int)
  | [], _ => by simp [sumK]
  | x :: r, hq => by
    have h1 := qty_iff.1 (hq x List.mem_cons_self)
    have h2 := sumK_most k r (fun y hy => hq y (List.mem_cons_of_mem _ hy))
    rw [sumK, List.length_cons]
    split <;> omega

/-! ### the order of Skus -/
theorem kirr (x : List UInt8) : ¬ x < x := List.lt_irrefl x
theorem ktrans {x y z : List UInt8} (h : x < y) (k : y < z) : x < z := List.lt_trans h k
theorem kasym {x y : List UInt8} (h : x < y) : ¬ y < x := fun k => kirr _ (ktrans h k)
theorem lss_iff {a b : ByteArray} : lss a b = true ↔ a.data.toList < b.data.toList := by unfold lss; rw [bytesLess_eq]; simp
theorem lss_no {a b : ByteArray} (h : lss a b = false) (hne : b ≠ a) : b.data.toList < a.data.toList := by
  have h1 : ¬ a.data.toList < b.data.toList := fun k => by rw [lss_iff.2 k] at h; cases h
  rcases Decidable.em (b.data.toList < a.data.toList) with k | k
  · exact k
  · exact absurd (ext_key (List.le_antisymm (List.not_lt.1 h1) (List.not_lt.1 k))) hne
theorem asc_ext {α : Type} {R : α → α → Prop} (irr : ∀ x, ¬ R x x) (asym : ∀ x y, R x y → ¬ R y x) : ∀ {a b : List α}, a.Pairwise R → b.Pairwise R → (∀ x, x ∈ a ↔ x ∈ b) → a = b
  | [], [], _, _, _ => rfl
  | [], y :: b, _, _, h => by have := (h y).2 List.mem_cons_self; cases this
  | x :: a, [], _, _, h => by have := (h x).1 List.mem_cons_self; cases this
  | x :: a, y :: b, ha, hb, h => by
    have ha1 := List.pairwise_cons.1 ha
    have hb1 := List.pairwise_cons.1 hb
    have hxy : x = y := by
      rcases List.mem_cons.1 ((h x).1 List.mem_cons_self) with e | hx
      · exact e
      · rcases List.mem_cons.1 ((h y).2 List.mem_cons_self) with e | hy
        · exact e.symm
        · exact absurd (hb1.1 x hx) (asym _ _ (ha1.1 y hy))
    subst hxy
    congr 1
    refine asc_ext irr asym ha1.2 hb1.2 (fun z => ⟨fun hz => ?_, fun hz => ?_⟩)
    · rcases List.mem_cons.1 ((h z).1 (List.mem_cons_of_mem _ hz)) with e | hz'
      · subst e; exact absurd (ha1.1 _ hz) (irr _)
      · exact hz'
    · rcases List.mem_cons.1 ((h z).2 (List.mem_cons_of_mem _ hz)) with e | hz'
      · subst e; exact absurd (hb1.1 _ hz) (irr _)
      · exact hz'
/-- Lines in the order of their Skus, no Sku twice. -/
abbrev Up (l : List Ln) : Prop := l.Pairwise fun x y => key x < key y
/-- What lines come to: each folded Sku once, with its sum. -/
structure Sums (l out : List Ln) : Prop where
  up : Up out
  keys : ∀ k, (∃ x ∈ out, key x = k) ↔ inK k l
  sums : ∀ x ∈ out, x.2 = sumK (key x) l
theorem Sums.mem {l out : List Ln} (h : Sums l out) (x : Ln) : x ∈ out ↔ inK (key x) l ∧ x.2 = sumK (key x) l := by
  constructor
  · exact fun hx => ⟨(h.keys _).1 ⟨x, hx, rfl⟩, h.sums x hx⟩
  · rintro ⟨hk, hs⟩
    obtain ⟨y, hy, e⟩ := (h.keys _).2 hk
    have := h.sums y hy
    have : y = x := Prod.ext (ext_key e) (by rw [this, e, hs])
    exact this ▸ hy
theorem Sums.one {l a b : List Ln} (h : Sums l a) (k : Sums l b) : a = b :=
  asc_ext (R := fun x y : Ln => key x < key y) (fun x => kirr _) (fun x y => kasym) h.up k.up (fun x => by rw [h.mem, k.mem])
theorem Sums.perm {l m a : List Ln} (h : Sums l a) (hp : l.Perm m) : Sums m a :=
  ⟨h.up, fun k => (h.keys k).trans (inK_perm hp), fun x hx => by rw [h.sums x hx, sumK_perm hp]⟩
theorem sums_nil : Sums [] [] := ⟨List.Pairwise.nil, fun k => by simp [inK], fun x hx => by cases hx⟩

/-! ### one line more -/
def ins (x : Ln) : List Ln → List Ln
  | [] => [x]
  | y :: r => if lss x.1 y.1 = true then x :: y :: r else if y.1 = x.1 then (x.1, y.2 + x.2) :: r else y :: ins x r
theorem ins_keys (x : Ln) (k : List UInt8) : ∀ l : List Ln, (∃ z ∈ ins x l, key z = k) ↔ key x = k ∨ ∃ z ∈ l, key z = k
  | [] => by simp [ins]
  | y :: r => by
    rw [ins]
    split
    · simp
    · split
      · rename_i e
        have e2 : key y = key x := congrArg (fun s : ByteArray => s.data.toList) e
        simp only [List.mem_cons, exists_eq_or_imp]
        rw [show key (x.1, y.2 + x.2) = key x from rfl, e2]
        constructor
        · rintro (h | h)
          · exact .inl h
          · exact .inr (.inr h)
        · rintro (h | h | h)
          · exact .inl h
          · exact .inl h
          · exact .inr h
      · simp only [List.mem_cons, exists_eq_or_imp]
        rw [ins_keys x k r]
        constructor
        · rintro (h | h | h)
          · exact .inr (.inl h)
          · exact .inl h
          · exact .inr (.inr h)
        · rintro (h | h | h)
          · exact .inr (.inl h)
          · exact .inl h
          · exact .inr (.inr h)
theorem ins_up (x : Ln) : ∀ {l : List Ln}, Up l → Up (ins x l)
  | [], _ => by simp [ins]
  | y :: r, h => by
    have h1 := List.pairwise_cons.1 h
    rw [ins]
    split
    · rename_i e
      have e := lss_iff.1 e
      refine List.pairwise_cons.2 ⟨fun z hz => ?_, h⟩
      rcases List.mem_cons.1 hz with rfl | hz
      · exact e
      · exact ktrans e (h1.1 z hz)
    · split
      · rename_i e
        refine List.pairwise_cons.2 ⟨fun z hz => ?_, h1.2⟩
        have := h1.1 z hz
        unfold key at this ⊢
        rw [e] at this
        exact this
      · rename_i e1 e2
        refine List.pairwise_cons.2 ⟨fun z hz => ?_, ins_up x h1.2⟩
        rcases (ins_keys x (key z) r).1 ⟨z, hz, rfl⟩ with e | ⟨u, hu, e⟩
        · rw [← e]
          exact lss_no (by cases hq : lss x.1 y.1 with | true => exact absurd hq e1 | false => rfl) e2
        · rw [← e]; exact h1.1 u hu
theorem ins_val (x : Ln) : ∀ {l : List Ln}, Up l → ∀ z ∈ ins x l, (key z ≠ key x ∧ z ∈ l) ∨ (key z = key x ∧ ((z.2 = x.2 ∧ ¬ ∃ y ∈ l, key y = key x) ∨ ∃ y ∈ l, key y = key x ∧ z.2 = y.2 + x.2))
  | [], _, z, hz => by
    simp only [ins, List.mem_singleton] at hz; subst hz
    exact .inr ⟨rfl, .inl ⟨rfl, by simp⟩⟩
  | y :: r, h, z, hz => by
    have h1 := List.pairwise_cons.1 h
    rw [ins] at hz
    split at hz
    · rename_i e
      have e := lss_iff.1 e
      have hall : ∀ u ∈ y :: r, key x < key u := fun u hu => by
        rcases List.mem_cons.1 hu with rfl | hu
        · exact e
        · exact ktrans e (h1.1 u hu)
      rcases List.mem_cons.1 hz with rfl | hz
      · exact .inr ⟨rfl, .inl ⟨rfl, fun ⟨u, hu, e2⟩ => kirr _ (e2 ▸ hall u hu)⟩⟩
      · exact .inl ⟨fun e2 => kirr _ (e2 ▸ hall z hz), hz⟩
    · split at hz
      · rename_i e
        have e2 : key y = key x := congrArg (fun s : ByteArray => s.data.toList) e
        rcases List.mem_cons.1 hz with rfl | hz
        · exact .inr ⟨rfl, .inr ⟨y, List.mem_cons_self, e2, rfl⟩⟩
        · exact .inl ⟨fun e3 => kirr _ (e3 ▸ e2 ▸ h1.1 z hz), List.mem_cons_of_mem _ hz⟩
      · rename_i e1 e2
        have hlt : key y < key x := lss_no (by cases hq : lss x.1 y.1 with | true => exact absurd hq e1 | false => rfl) e2
        rcases List.mem_cons.1 hz with rfl | hz
        · exact .inl ⟨fun e3 => kirr _ (e3 ▸ hlt), List.mem_cons_self⟩
        · rcases ins_val x h1.2 z hz with ⟨k1, k2⟩ | ⟨k1, k2 | ⟨u, hu, k2⟩⟩
          · exact .inl ⟨k1, List.mem_cons_of_mem _ k2⟩
          · refine .inr ⟨k1, .inl ⟨k2.1, ?_⟩⟩
            rintro ⟨u, hu, e⟩
            rcases List.mem_cons.1 hu with rfl | hu
            · exact kirr _ (e ▸ hlt)
            · exact k2.2 ⟨u, hu, e⟩
          · exact .inr ⟨k1, .inr ⟨u, List.mem_cons_of_mem _ hu, k2⟩⟩
theorem Sums.step {l out : List Ln} (h : Sums l out) (x : Ln) : Sums (l ++ [x]) (ins (bk (fo x.1), x.2) out) := by
  have hkx : key (bk (fo x.1), x.2) = fo x.1 := rfl
  refine ⟨ins_up _ h.up, fun k => ?_, fun z hz => ?_⟩
  · rw [ins_keys, inK_snoc, h.keys, hkx]; exact Or.comm
  · rw [sumK_snoc]
    rcases ins_val _ h.up z hz with ⟨k1, k2⟩ | ⟨k1, k2 | ⟨u, hu, k2, k3⟩⟩
    · rw [hkx] at k1
      rw [if_neg (fun e => k1 e.symm), h.sums z k2]; omega
    · rw [hkx] at k1
      rw [if_pos k1.symm, sumK_none (fun hk => k2.2 (by rw [hkx, ← k1]; exact (h.keys _).2 hk)), k2.1]; simp
    · rw [hkx] at k1 k2
      rw [if_pos k1.symm, k3, h.sums u hu, k2, k1]
theorem addL_ins (x : Ln) : ∀ l : List Ln, addL (ins x l) = addL l + x.2
  | [] => by simp [ins, addL]
  | y :: r => by
    rw [ins]
    split
    · simp only [addL, List.map_cons, List.sum_cons]; omega
    · split
      · simp only [addL, List.map_cons, List.sum_cons]; omega
      · have := addL_ins x r
        simp only [addL, List.map_cons, List.sum_cons] at this ⊢; omega

/-! ### all lines -/
def mrg : List Ln → List Ln → List Ln
  | acc, [] => acc
  | acc, x :: r => mrg (ins (bk (fo x.1), x.2) acc) r
def merged (l : List Ln) : List Ln := mrg [] l
theorem mrg_sums : ∀ {r l acc : List Ln}, Sums l acc → Sums (l ++ r) (mrg acc r)
  | [], l, acc, h => by rw [List.append_nil]; exact h
  | x :: r, l, acc, h => by
    rw [mrg, show l ++ x :: r = (l ++ [x]) ++ r by simp]
    exact mrg_sums (h.step x)
theorem merged_sums (l : List Ln) : Sums l (merged l) := mrg_sums (l := []) sums_nil
theorem mrg_add : ∀ (r acc : List Ln), addL (mrg acc r) = addL acc + addL r
  | [], acc => by simp [mrg, addL]
  | x :: r, acc => by
    rw [mrg, mrg_add r, addL_ins]
    simp only [addL, List.map_cons, List.sum_cons]; omega
theorem merged_add (l : List Ln) : addL (merged l) = addL l := by unfold merged; rw [mrg_add]; simp [addL]
theorem merged_is {l out : List Ln} (h : Sums l out) : merged l = out := (merged_sums l).one h
theorem merged_perm {l m : List Ln} (h : l.Perm m) : merged l = merged m := ((merged_sums l).perm h).one (merged_sums m)

/-! ### Norm -/
def allF (l : List Ln) : Bool := l.all fun x => fok x.1
def allQ (l : List Ln) : Bool := l.all fun x => qty x.2
def over (l : List Ln) : Bool := l.any fun x => decide (1048576 < x.2)
def normV (l : List Ln) : List Ln × Int :=
  if allF l = true then if allQ l = true then if over (merged l) = true then ([], 5) else if 4 < (merged l).length then ([], 9) else (merged l, 0) else ([], 11) else ([], 7)
theorem all_perm {f : Ln → Bool} {l m : List Ln} (h : l.Perm m) : l.all f = m.all f := by
  rw [Bool.eq_iff_iff, List.all_eq_true, List.all_eq_true]
  exact ⟨fun k x hx => k x (h.mem_iff.2 hx), fun k x hx => k x (h.mem_iff.1 hx)⟩
theorem normV_perm {l m : List Ln} (h : l.Perm m) : normV l = normV m := by
  unfold normV allF allQ
  rw [merged_perm h, all_perm h, all_perm h]
theorem normV_form {l : List Ln} (h : allF l = false) : normV l = ([], 7) := by unfold normV; rw [h]; simp
theorem normV_range {l : List Ln} (h : allF l = true) (k : allQ l = false) : normV l = ([], 11) := by unfold normV; rw [h, k]; simp
theorem normV_over {l : List Ln} (h : allF l = true) (k : allQ l = true) (o : over (merged l) = true) : normV l = ([], 5) := by unfold normV; rw [h, k, o]; simp
theorem normV_long {l : List Ln} (h : allF l = true) (k : allQ l = true) (o : over (merged l) = false) (n : 4 < (merged l).length) : normV l = ([], 9) := by unfold normV; rw [h, k, o]; simp [n]
theorem normV_yes {l : List Ln} (h : allF l = true) (k : allQ l = true) (o : over (merged l) = false) (n : ¬ 4 < (merged l).length) : normV l = (merged l, 0) := by unfold normV; rw [h, k, o]; simp [n]
theorem normV_cases (l : List Ln) : (∃ e, normV l = ([], e) ∧ e ≠ 0 ∧ 1 ≤ e ∧ e ≤ 20) ∨ (normV l = (merged l, 0) ∧ allF l = true ∧ allQ l = true ∧ over (merged l) = false ∧ (merged l).length ≤ 4) := by
  cases h : allF l with
  | false => exact .inl ⟨7, normV_form h, by decide, by decide, by decide⟩
  | true =>
    cases k : allQ l with
    | false => exact .inl ⟨11, normV_range h k, by decide, by decide, by decide⟩
    | true =>
      cases o : over (merged l) with
      | true => exact .inl ⟨5, normV_over h k o, by decide, by decide, by decide⟩
      | false =>
        by_cases n : 4 < (merged l).length
        · exact .inl ⟨9, normV_long h k o n, by decide, by decide, by decide⟩
        · exact .inr ⟨normV_yes h k o n, rfl, rfl, rfl, by omega⟩
theorem okUp_of : ∀ {l : List Ln} {p : Option ByteArray}, Up l → (∀ x ∈ l, nm x.1 = true ∧ qty x.2 = true) → (∀ q, p = some q → ∀ x ∈ l, q.data.toList < key x) → okUp p l = true
  | [], p, _, _, _ => by cases p <;> rfl
  | x :: r, p, h, hm, hp => by
    have h1 := List.pairwise_cons.1 h
    have hr := okUp_of (p := some x.1) h1.2 (fun y hy => hm y (List.mem_cons_of_mem _ hy)) (fun q e y hy => by cases e; exact h1.1 y hy)
    have hx := hm x List.mem_cons_self
    cases p with
    | none => rw [okUp, hx.1, hx.2, hr]; rfl
    | some q => rw [okUp, hx.1, hx.2, hr, lss_iff.2 (hp q rfl x List.mem_cons_self)]; rfl
theorem up_of : ∀ {l : List Ln} {p : Option ByteArray}, okUp p l = true → Up l ∧ (∀ q, p = some q → ∀ x ∈ l, q.data.toList < key x)
  | [], p, _ => ⟨List.Pairwise.nil, fun q _ x hx => by cases hx⟩
  | x :: r, p, h => by
    have hr : okUp (some x.1) r = true := by cases p <;> (simp only [okUp, Bool.and_eq_true] at h; exact h.2)
    obtain ⟨h1, h2⟩ := up_of hr
    refine ⟨List.pairwise_cons.2 ⟨fun y hy => h2 _ rfl y hy, h1⟩, fun q e y hy => ?_⟩
    subst e
    simp only [okUp, Bool.and_eq_true] at h
    have hq := lss_iff.1 h.1.2
    rcases List.mem_cons.1 hy with rfl | hy
    · exact hq
    · exact ktrans hq (h2 _ rfl y hy)
theorem allQ_iff {l : List Ln} : allQ l = true ↔ ∀ x ∈ l, qty x.2 = true := List.all_eq_true
theorem allF_iff {l : List Ln} : allF l = true ↔ ∀ x ∈ l, fok x.1 = true := List.all_eq_true
theorem over_no {l : List Ln} (h : over l = false) : ∀ x ∈ l, x.2 ≤ 1048576 := by
  unfold over at h
  rw [List.any_eq_false] at h
  intro x hx
  have := h x hx
  simp at this
  exact this
theorem merged_names {l : List Ln} (h : allF l = true) : ∀ x ∈ merged l, nm x.1 = true := by
  intro x hx
  obtain ⟨y, hy, e⟩ := ((merged_sums l).keys (key x)).1 ⟨x, hx, rfl⟩
  have := fo_name (allF_iff.1 h y hy)
  rw [e] at this
  exact this
theorem merged_pos {l : List Ln} (h : allQ l = true) : ∀ x ∈ merged l, 1 ≤ x.2 := by
  intro x hx
  rw [(merged_sums l).sums x hx]
  exact sumK_pos (fun y hy => (qty_iff.1 (allQ_iff.1 h y hy)).1) (((merged_sums l).keys _).1 ⟨x, hx, rfl⟩)
/-- What Norm tells is fit. -/
theorem norm_fit {l : List Ln} (h : allF l = true) (k : allQ l = true) (o : over (merged l) = false) (n : (merged l).length ≤ 4) : fitL (merged l) = true := by
  unfold fitL
  rw [Bool.and_eq_true]
  exact ⟨by simpa using n, okUp_of (merged_sums l).up (fun x hx => ⟨merged_names h x hx, qty_iff.2 ⟨merged_pos k x hx, over_no o x hx⟩⟩) (fun q e => by cases e)⟩
theorem sumK_up : ∀ {l : List Ln}, Up l → (∀ x ∈ l, nm x.1 = true) → ∀ x ∈ l, sumK (key x) l = x.2
  | [], _, _, x, hx => by cases hx
  | y :: r, h, hm, x, hx => by
    have h1 := List.pairwise_cons.1 h
    have hmr : ∀ z ∈ r, nm z.1 = true := fun z hz => hm z (List.mem_cons_of_mem _ hz)
    have hfy : fo y.1 = key y := (name_fo (hm y List.mem_cons_self)).2
    rw [sumK, hfy]
    rcases List.mem_cons.1 hx with rfl | hx
    · rw [if_pos rfl, sumK_none, Int.add_zero]
      rintro ⟨z, hz, e⟩
      rw [(name_fo (hmr z hz)).2] at e
      have e2 : key z = key x := e
      exact kirr _ (e2 ▸ h1.1 z hz)
    · have hlt := h1.1 x hx
      rw [if_neg (fun e => kirr _ (e ▸ hlt)), sumK_up h1.2 hmr x hx, Int.zero_add]
theorem sums_fit {l : List Ln} (h : fitL l = true) : Sums l l := by
  have hm := fitL_mem h
  unfold fitL at h
  rw [Bool.and_eq_true] at h
  have hu := (up_of h.2).1
  refine ⟨hu, fun k => ?_, fun x hx => (sumK_up hu (fun y hy => (hm y hy).1) x hx).symm⟩
  constructor
  · rintro ⟨x, hx, e⟩; exact ⟨x, hx, (name_fo (hm x hx).1).2.trans e⟩
  · rintro ⟨x, hx, e⟩; exact ⟨x, hx, (name_fo (hm x hx).1).2.symm.trans e⟩
/-- What is fit is its own Norm. -/
theorem normV_fit {l : List Ln} (h : fitL l = true) : normV l = (l, 0) := by
  have hm := fitL_mem h
  have he := merged_is (sums_fit h)
  have h1 : allF l = true := allF_iff.2 fun x hx => (name_fo (hm x hx).1).1
  have h2 : allQ l = true := allQ_iff.2 fun x hx => (hm x hx).2
  have h3 : over (merged l) = false := by
    rw [he]; unfold over; rw [List.any_eq_false]
    intro x hx
    have := (qty_iff.1 (hm x hx).2).2
    simp; omega
  rw [normV_yes h1 h2 h3 (by rw [he]; have := fitL_len h; omega), he]
theorem merged_size {l : List Ln} (h : allF l = true) : ∀ x ∈ merged l, x.1.size ≤ 48 := fun x hx => nm_len (merged_names h x hx)
/-! ### what stands behind a map's keys -/
theorem sums_of_keys {l : List Ln} {ss : List (List UInt8)} (h1 : ss.Pairwise (fun x y => x < y)) (h2 : ∀ k, k ∈ ss ↔ inK k l) : Sums l (ss.map fun k => (bk k, sumK k l)) := by
  refine ⟨?_, fun k => ?_, fun x hx => ?_⟩
  · rw [Up, List.pairwise_map]; exact h1
  · rw [← h2]
    constructor
    · rintro ⟨x, hx, e⟩
      obtain ⟨k', hk', rfl⟩ := List.mem_map.1 hx
      have : k' = k := e
      exact this ▸ hk'
    · intro hk; exact ⟨_, List.mem_map.2 ⟨k, hk, rfl⟩, rfl⟩
  · obtain ⟨k, _, rfl⟩ := List.mem_map.1 hx
    rfl
end LinesP
end Go.Proofs.YtpaemofjeadhcaaGreatDoor
