/-
  Plain facts of ledger: books, what is moved line by line, what stays fit; lists and numbers alone, nothing of the program.
-/
import Derived.Test.YtjclkiabgemfpaaGreatPdNamePlain
import Derived.Test.YtjclkiabgemfpaaGreatPdHoldsPlain
import Derived.Sort.Walk0
set_option linter.unusedVariables false
namespace Go.Proofs.YtjclkiabgemfpaaGreat
namespace LedgerP
open LinesP HoldsP
open StockP (Sk sk0 fitS Fit fitS_iff fromV turnV turn_fit)

def lt (a b : ByteArray) : Prop := a.data.toList < b.data.toList
theorem lt_irr (a : ByteArray) : ¬ lt a a := List.lt_irrefl _
theorem lt_ne {a b : ByteArray} (h : lt a b) : a ≠ b := fun e => lt_irr b (by rw [e] at h; exact h)
theorem lt_trans {a b c : ByteArray} (h : lt a b) (k : lt b c) : lt a c := List.lt_trans h k
theorem lss_lt {a b : ByteArray} : lss a b = true ↔ lt a b := by unfold lss lt; rw [bytesLess_eq]; simp
theorem same_iff {a b : ByteArray} : (a.toList == b.toList) = true ↔ a = b := by
  rw [beq_iff_eq, ByteArray.toList_eq, ByteArray.toList_eq]
  constructor
  · intro h
    obtain ⟨⟨xa⟩⟩ := a
    obtain ⟨⟨ya⟩⟩ := b
    simp at h
    simp [h]
  · rintro rfl; rfl
/-! ### lines -/
theorem okUp_some : ∀ {q : ByteArray} {l : List Ln}, okUp (some q) l = true ↔ (∀ x ∈ l, nm x.1 = true ∧ qty x.2 = true ∧ lt q x.1) ∧ l.Pairwise (fun x y => lt x.1 y.1)
  | q, [] => ⟨fun _ => ⟨fun x hx => (by cases hx), List.Pairwise.nil⟩, fun _ => rfl⟩
  | q, x :: r => by
    rw [okUp]
    simp only [Bool.and_eq_true]
    rw [okUp_some, lss_lt]
    constructor
    · rintro ⟨⟨⟨h1, h2⟩, h3⟩, h4, h5⟩
      refine ⟨fun y hy => ?_, List.pairwise_cons.2 ⟨fun y hy => (h4 y hy).2.2, h5⟩⟩
      rcases List.mem_cons.1 hy with rfl | hy
      · exact ⟨h1, h2, h3⟩
      · exact ⟨(h4 y hy).1, (h4 y hy).2.1, lt_trans h3 (h4 y hy).2.2⟩
    · rintro ⟨h1, h2⟩
      have h3 := List.pairwise_cons.1 h2
      exact ⟨⟨⟨(h1 x List.mem_cons_self).1, (h1 x List.mem_cons_self).2.1⟩, (h1 x List.mem_cons_self).2.2⟩, fun y hy => ⟨(h1 y (List.mem_cons_of_mem _ hy)).1, (h1 y (List.mem_cons_of_mem _ hy)).2.1, h3.1 y hy⟩, h3.2⟩
theorem fitL_up {l : List Ln} (h : fitL l = true) : l.Pairwise (fun x y => lt x.1 y.1) := by
  unfold fitL at h
  rw [Bool.and_eq_true] at h
  cases l with
  | nil => exact List.Pairwise.nil
  | cons x r =>
    have h2 := h.2
    rw [okUp] at h2
    simp only [Bool.and_eq_true] at h2
    have h3 := okUp_some.1 h2.2
    exact List.pairwise_cons.2 ⟨fun y hy => (h3.1 y hy).2.2, h3.2⟩
theorem ofL_cons (s : ByteArray) (x : Ln) (r : List Ln) : ofL s (x :: r) = if x.1 = s then x.2 else ofL s r := by
  rw [ofL]
  by_cases h : x.1 = s
  · rw [if_pos (same_iff.2 h), if_pos h]
  · rw [if_neg (fun e => h (same_iff.1 e)), if_neg h]
theorem ofL_none {s : ByteArray} : ∀ {l : List Ln}, (∀ x ∈ l, x.1 ≠ s) → ofL s l = 0
  | [], _ => rfl
  | x :: r, h => by rw [ofL_cons, if_neg (h x List.mem_cons_self)]; exact ofL_none fun y hy => h y (List.mem_cons_of_mem _ hy)
theorem ofL_mem {s : ByteArray} : ∀ {l : List Ln}, l.Pairwise (fun x y => lt x.1 y.1) → ∀ x ∈ l, x.1 = s → ofL s l = x.2
  | y :: r, hp, x, hx, e => by
    have hp2 := List.pairwise_cons.1 hp
    rw [ofL_cons]
    rcases List.mem_cons.1 hx with rfl | hx
    · rw [if_pos e]
    · rw [if_neg (fun e2 => lt_ne (hp2.1 x hx) (e2.trans e.symm))]
      exact ofL_mem hp2.2 x hx e
/-! ### items -/
def findS (s : ByteArray) : List Sk → Option Sk
  | [] => none
  | x :: r => if x.nm = s then some x else findS s r
theorem findS_mem : ∀ {s : ByteArray} {l : List Sk} {x : Sk}, findS s l = some x → x ∈ l ∧ x.nm = s
  | s, y :: r, x, h => by
    rw [findS] at h
    split at h
    · rename_i e; cases h; exact ⟨List.mem_cons_self, e⟩
    · have := findS_mem h; exact ⟨List.mem_cons_of_mem _ this.1, this.2⟩
theorem findS_none : ∀ {s : ByteArray} {l : List Sk}, findS s l = none ↔ ∀ x ∈ l, x.nm ≠ s
  | s, [] => ⟨fun _ x hx => (by cases hx), fun _ => rfl⟩
  | s, y :: r => by
    rw [findS]
    split
    · rename_i e; exact ⟨fun h => (by cases h), fun h => absurd e (h y List.mem_cons_self)⟩
    · rename_i e
      rw [findS_none]
      exact ⟨fun h x hx => (List.mem_cons.1 hx).elim (fun q => q ▸ e) (h x), fun h x hx => h x (List.mem_cons_of_mem _ hx)⟩
def UpS (l : List Sk) : Prop := l.Pairwise (fun x y => lt x.nm y.nm)
theorem findS_at : ∀ {l : List Sk} {x : Sk}, UpS l → x ∈ l → findS x.nm l = some x
  | y :: r, x, hp, hx => by
    have hp2 := List.pairwise_cons.1 hp
    rw [findS]
    rcases List.mem_cons.1 hx with rfl | hx
    · rw [if_pos rfl]
    · rw [if_neg (lt_ne (hp2.1 x hx))]; exact findS_at hp2.2 hx
theorem up_one {l : List Sk} {x y : Sk} (hp : UpS l) (hx : x ∈ l) (hy : y ∈ l) (e : x.nm = y.nm) : x = y := by
  have h1 := findS_at hp hx
  have h2 := findS_at hp hy
  rw [e, h2] at h1
  cases h1; rfl
def setS (x : Sk) (l : List Sk) : List Sk := l.map fun y => if y.nm = x.nm then x else y
theorem map_nm {f : Sk → Sk} (hf : ∀ x, (f x).nm = x.nm) {l : List Sk} (hp : UpS l) : UpS (l.map f) := by
  unfold UpS
  rw [List.pairwise_map]
  exact hp.imp fun h => by rw [hf, hf]; exact h
theorem map_find {f : Sk → Sk} (hf : ∀ x, (f x).nm = x.nm) (s : ByteArray) : ∀ (l : List Sk), findS s (l.map f) = (findS s l).map f
  | [] => rfl
  | x :: r => by
    rw [List.map_cons, findS, findS, hf, map_find hf s r]
    split <;> rfl
theorem set_nm {x : Sk} (y : Sk) : (if y.nm = x.nm then x else y).nm = y.nm := by
  split
  · rename_i e; exact e.symm
  · rfl
theorem set_up {x : Sk} {l : List Sk} (hp : UpS l) : UpS (setS x l) := map_nm (fun y => set_nm y) hp
theorem set_find {x : Sk} {l : List Sk} {s : ByteArray} (h : s ≠ x.nm) : findS s (setS x l) = findS s l := by
  unfold setS
  rw [map_find (fun y => set_nm y)]
  cases hq : findS s l with
  | none => rfl
  | some y =>
    have := (findS_mem hq).2
    simp only [Option.map_some]
    rw [if_neg (by rw [this]; exact h)]
theorem turn_nm (x : Sk) (w n : Int) : (turnV x w n).nm = x.nm := by
  by_cases h1 : w = 1 <;> by_cases h2 : w = 2 <;> by_cases h3 : w = 3 <;> by_cases h4 : w = 4 <;> simp [turnV, h1, h2, h3, h4]
theorem turn_zero (x : Sk) (w : Int) : turnV x w 0 = x := by
  by_cases h1 : w = 1 <;> by_cases h2 : w = 2 <;> by_cases h3 : w = 3 <;> by_cases h4 : w = 4 <;> simp [turnV, h1, h2, h3, h4]
/-! ### what is moved -/
def movesV (w : Int) : List Ln → List Sk → List Sk × Int
  | [], l => (l, 0)
  | x :: r, l => match findS x.1 l with
    | none => ([], 6)
    | some y => if fromV y w < x.2 then ([], 6) else movesV w r (setS (turnV y w x.2) l)
def okOne (w : Int) (l : List Sk) (x : Ln) : Bool := match findS x.1 l with
  | none => false
  | some y => decide (x.2 ≤ fromV y w)
theorem one_none {w : Int} {l : List Sk} {x : Ln} (h : findS x.1 l = none) : okOne w l x = false := by unfold okOne; rw [h]
theorem one_some {w : Int} {l : List Sk} {x : Ln} {y : Sk} (h : findS x.1 l = some y) : okOne w l x = decide (x.2 ≤ fromV y w) := by unfold okOne; rw [h]
def okM (w : Int) (ls : List Ln) (l : List Sk) : Bool := ls.all (okOne w l)
def mvd (w : Int) (ls : List Ln) (l : List Sk) : List Sk := l.map fun y => turnV y w (ofL y.nm ls)
theorem okM_cons {w : Int} {x : Ln} {r : List Ln} {l : List Sk} : okM w (x :: r) l = (okOne w l x && okM w r l) := rfl
theorem okM_same {w : Int} {ls : List Ln} {l l' : List Sk} (h : ∀ x ∈ ls, findS x.1 l' = findS x.1 l) : okM w ls l' = okM w ls l := by
  induction ls with
  | nil => rfl
  | cons x r ih =>
    have e : okOne w l' x = okOne w l x := by unfold okOne; rw [h x List.mem_cons_self]
    rw [okM_cons, okM_cons, e, ih fun y hy => h y (List.mem_cons_of_mem _ hy)]
theorem moves_eq (w : Int) : ∀ (ls : List Ln) (l : List Sk), UpS l → ls.Pairwise (fun x y => lt x.1 y.1) → movesV w ls l = if okM w ls l = true then (mvd w ls l, 0) else ([], 6)
  | [], l, _, _ => by
    rw [movesV, if_pos (show okM w [] l = true from rfl)]
    refine Prod.ext ?_ rfl
    unfold mvd
    simp only [ofL, turn_zero, List.map_id']
  | x :: r, l, hu, hp => by
    have hp2 := List.pairwise_cons.1 hp
    rw [movesV, okM_cons]
    cases hq : findS x.1 l with
    | none => rw [one_none hq]; rfl
    | some y =>
      rw [one_some hq]
      show (if fromV y w < x.2 then _ else _) = _
      by_cases hf : fromV y w < x.2
      · rw [if_pos hf, decide_eq_false (by omega : ¬ x.2 ≤ fromV y w)]; rfl
      · rw [if_neg hf, decide_eq_true (by omega : x.2 ≤ fromV y w), Bool.true_and]
        have hy := findS_mem hq
        have hnm : (turnV y w x.2).nm = x.1 := (turn_nm y w x.2).trans hy.2
        rw [moves_eq w r _ (set_up hu) hp2.2]
        have hs : okM w r (setS (turnV y w x.2) l) = okM w r l := okM_same fun z hz => set_find (by rw [hnm]; exact (lt_ne (hp2.1 z hz)).symm)
        rw [hs]
        split
        · refine Prod.ext ?_ rfl
          show mvd w r (setS (turnV y w x.2) l) = mvd w (x :: r) l
          unfold mvd setS
          rw [List.map_map]
          apply List.map_congr_left
          intro u hu2
          simp only [Function.comp]
          by_cases e : u.nm = x.1
          · obtain rfl : u = y := up_one hu hu2 hy.1 (e.trans hy.2.symm)
            rw [if_pos (turn_nm u w x.2).symm, turn_nm, ofL_cons, if_pos e.symm]
            have : ofL u.nm r = 0 := ofL_none fun z hz k => lt_ne (hp2.1 z hz) (e.symm.trans k.symm)
            rw [this, turn_zero]
          · rw [if_neg (by rw [hnm]; exact e), ofL_cons, if_neg (fun k => e k.symm)]
        · rfl
theorem okM_iff {w : Int} {ls : List Ln} {l : List Sk} : okM w ls l = true ↔ ∀ x ∈ ls, ∃ y ∈ l, findS x.1 l = some y ∧ y.nm = x.1 ∧ x.2 ≤ fromV y w := by
  unfold okM
  rw [List.all_eq_true]
  constructor
  · intro h x hx
    have := h x hx
    cases hq : findS x.1 l with
    | none => rw [one_none hq] at this; cases this
    | some y => rw [one_some hq] at this; exact ⟨y, (findS_mem hq).1, rfl, (findS_mem hq).2, of_decide_eq_true this⟩
  · intro h x hx
    obtain ⟨y, _, hq, _, hle⟩ := h x hx
    rw [one_some hq]; exact decide_eq_true hle
end LedgerP
end Go.Proofs.YtjclkiabgemfpaaGreat

/-
  Plain facts of ledger: fit books, what keeps them fit, what is held and let go again; nothing of the program.
-/
set_option linter.unusedVariables false
namespace Go.Proofs.YtjclkiabgemfpaaGreat
namespace LedgerP
open LinesP HoldsP
open StockP (Sk sk0 fitS Fit fitS_iff fromV turnV turn_fit)

structure Bk where
  sk : List Sk
  hd : List Hd
def bk0 : Bk := ⟨[], []⟩
structure FitB (b : Bk) : Prop where
  len : b.sk.length ≤ 12
  hd : fitH b.hd = true
  up : UpS b.sk
  each : ∀ x ∈ b.sk, Fit x ∧ x.held = sumH x.nm b.hd
  pres : ∀ h ∈ b.hd, ∀ z ∈ h.ls, ∃ x ∈ b.sk, x.nm = z.1
def oneS (hd : List Hd) (x : Sk) : Bool := fitS x && (x.held == sumH x.nm hd)
def skUp (hd : List Hd) : Option ByteArray → List Sk → Bool
  | _, [] => true
  | none, x :: r => oneS hd x && skUp hd (some x.nm) r
  | some q, x :: r => oneS hd x && lss q x.nm && skUp hd (some x.nm) r
def presB (sk : List Sk) (hd : List Hd) : Bool := hd.all fun h => h.ls.all fun z => (findS z.1 sk).isSome
def fitB (b : Bk) : Bool := decide (b.sk.length ≤ 12) && fitH b.hd && skUp b.hd none b.sk && presB b.sk b.hd
theorem oneS_iff {hd : List Hd} {x : Sk} : oneS hd x = true ↔ Fit x ∧ x.held = sumH x.nm hd := by
  unfold oneS; rw [Bool.and_eq_true, fitS_iff, beq_iff_eq]
theorem skUp_some {hd : List Hd} : ∀ {q : ByteArray} {l : List Sk}, skUp hd (some q) l = true ↔ (∀ x ∈ l, oneS hd x = true ∧ lt q x.nm) ∧ UpS l
  | q, [] => ⟨fun _ => ⟨fun x hx => (by cases hx), List.Pairwise.nil⟩, fun _ => rfl⟩
  | q, x :: r => by
    rw [skUp]
    simp only [Bool.and_eq_true]
    rw [skUp_some, lss_lt]
    constructor
    · rintro ⟨⟨h1, h2⟩, h3, h4⟩
      refine ⟨fun y hy => ?_, List.pairwise_cons.2 ⟨fun y hy => (h3 y hy).2, h4⟩⟩
      rcases List.mem_cons.1 hy with rfl | hy
      · exact ⟨h1, h2⟩
      · exact ⟨(h3 y hy).1, lt_trans h2 (h3 y hy).2⟩
    · rintro ⟨h1, h2⟩
      have h3 := List.pairwise_cons.1 h2
      exact ⟨⟨(h1 x List.mem_cons_self).1, (h1 x List.mem_cons_self).2⟩, fun y hy => ⟨(h1 y (List.mem_cons_of_mem _ hy)).1, h3.1 y hy⟩, h3.2⟩
theorem skUp_none {hd : List Hd} {l : List Sk} : skUp hd none l = true ↔ (∀ x ∈ l, oneS hd x = true) ∧ UpS l := by
  cases l with
  | nil => exact ⟨fun _ => ⟨fun x hx => (by cases hx), List.Pairwise.nil⟩, fun _ => rfl⟩
  | cons x r =>
    rw [skUp]
    simp only [Bool.and_eq_true]
    rw [skUp_some]
    constructor
    · rintro ⟨h1, h3, h4⟩
      refine ⟨fun y hy => ?_, List.pairwise_cons.2 ⟨fun y hy => (h3 y hy).2, h4⟩⟩
      rcases List.mem_cons.1 hy with rfl | hy
      · exact h1
      · exact (h3 y hy).1
    · rintro ⟨h1, h2⟩
      have h3 := List.pairwise_cons.1 h2
      exact ⟨h1 x List.mem_cons_self, fun y hy => ⟨h1 y (List.mem_cons_of_mem _ hy), h3.1 y hy⟩, h3.2⟩
theorem presB_iff {sk : List Sk} {hd : List Hd} : presB sk hd = true ↔ ∀ h ∈ hd, ∀ z ∈ h.ls, ∃ x ∈ sk, x.nm = z.1 := by
  unfold presB
  rw [List.all_eq_true]
  constructor
  · intro h x hx z hz
    have h1 := List.all_eq_true.1 (h x hx) z hz
    cases hq : findS z.1 sk with
    | none => rw [hq] at h1; cases h1
    | some y => exact ⟨y, findS_mem hq⟩
  · intro h x hx
    refine List.all_eq_true.2 fun z hz => ?_
    obtain ⟨y, hy, e⟩ := h x hx z hz
    cases hq : findS z.1 sk with
    | none => exact absurd e (findS_none.1 hq y hy)
    | some y => rfl
theorem fitB_iff {b : Bk} : fitB b = true ↔ FitB b := by
  unfold fitB
  simp only [Bool.and_eq_true, decide_eq_true_eq]
  rw [skUp_none, presB_iff]
  constructor
  · rintro ⟨⟨⟨h1, h2⟩, h3, h4⟩, h5⟩
    exact ⟨h1, h2, h4, fun x hx => oneS_iff.1 (h3 x hx), h5⟩
  · rintro ⟨h1, h2, h3, h4, h5⟩
    exact ⟨⟨⟨h1, h2⟩, fun x hx => oneS_iff.2 (h4 x hx), h3⟩, h5⟩
/-! ### held, let go, kept, sent -/
theorem sum_less {s : ByteArray} {g : Int} : ∀ {l : List Hd} {h : Hd}, l.Pairwise (fun x y => x.saga < y.saga) → findH g l = some h → sumH s (less g l) + ofL s h.ls = sumH s l
  | x :: r, h, hp, hf => by
    have hp2 := List.pairwise_cons.1 hp
    rw [findH] at hf
    by_cases e : x.saga = g
    · rw [if_pos e] at hf
      cases hf
      have e2 : less g (x :: r) = r := by
        unfold less
        rw [List.filter_cons, if_neg (by simp [e])]
        exact less_all (g := g) (l := r) fun y hy k => by have := hp2.1 y hy; omega
      rw [e2, sumH]; omega
    · rw [if_neg e] at hf
      have ih := sum_less (s := s) hp2.2 hf
      have e2 : less g (x :: r) = x :: less g r := by unfold less; rw [List.filter_cons, if_pos (by simp [e])]
      rw [e2, sumH, sumH]; omega
theorem sum_nonneg {s : ByteArray} : ∀ {l : List Hd}, (∀ x ∈ l, oneH x = true) → 0 ≤ sumH s l
  | [], _ => Int.le_refl 0
  | x :: r, h => by
    rw [sumH]
    have h1 : 0 ≤ ofL s x.ls := by
      have hf := oneH_fit (h x List.mem_cons_self)
      by_cases hz : ∃ z ∈ x.ls, z.1 = s
      · obtain ⟨z, hz, e⟩ := hz
        rw [ofL_mem (fitL_up hf) z hz e]
        have := (qty_iff.1 (fitL_mem hf z hz).2).1
        omega
      · rw [ofL_none fun z hz2 e => hz ⟨z, hz2, e⟩]; exact Int.le_refl 0
    have h2 := sum_nonneg (s := s) (l := r) fun y hy => h y (List.mem_cons_of_mem _ hy)
    omega
theorem drop_ok {b : Bk} {g : Int} {h : Hd} {w : Int} (hw : w = 2 ∨ w = 3) (k : FitB b) (hf : findH g b.hd = some h) : okM w h.ls b.sk = true := by
  refine okM_iff.2 fun z hz => ?_
  have hm := find_mem hf
  obtain ⟨x, hx, e⟩ := k.pres h hm.1 z hz
  have hall : ∀ y ∈ b.hd, oneH y = true := fun y hy => ((fitH_iff.1 k.hd).2.1 y hy).1
  have hs := sum_less (s := x.nm) (fitH_iff.1 k.hd).2.2 hf
  have hn := sum_nonneg (s := x.nm) (l := less g b.hd) fun y hy => hall y (List.mem_filter.1 hy).1
  have ho : ofL x.nm h.ls = z.2 := ofL_mem (fitL_up (oneH_fit (hall h hm.1))) z hz e.symm
  have hh := (k.each x hx).2
  refine ⟨x, hx, by rw [← e]; exact findS_at k.up hx, e, ?_⟩
  have : fromV x w = x.held := by rcases hw with rfl | rfl <;> simp [fromV]
  rw [this]; omega
/-! ### there and back -/
end LedgerP
end Go.Proofs.YtjclkiabgemfpaaGreat

/-
  Plain facts of ledger: an item put in its place, what each act does to a book, that a fit book stays fit, and what came in; nothing of the program.
-/
set_option linter.unusedVariables false
namespace Go.Proofs.YtjclkiabgemfpaaGreat
namespace LedgerP
open LinesP HoldsP
open StockP (Sk sk0 fitS Fit fitS_iff fromV turnV turn_fit nmS restockV adjustV restock_cases adjust_cases new_fit)

def insS (x : Sk) : List Sk → List Sk
  | [] => [x]
  | y :: r => if y.nm = x.nm then x :: r else if lss y.nm x.nm = true then y :: insS x r else x :: y :: r
theorem lt_total {a b : ByteArray} (h : lss a b = false) (hne : a ≠ b) : lt b a := by
  have h1 : ¬ a.data.toList < b.data.toList := fun k => by rw [lss_lt.2 k] at h; cases h
  rcases Decidable.em (b.data.toList < a.data.toList) with k | k
  · exact k
  · refine absurd ?_ hne
    have e := List.le_antisymm (List.not_lt.1 h1) (List.not_lt.1 k)
    obtain ⟨⟨xa⟩⟩ := a
    obtain ⟨⟨ya⟩⟩ := b
    simp at e
    simp [e]
theorem ins_mem {x : Sk} : ∀ {l : List Sk}, UpS l → ∀ {y : Sk}, y ∈ insS x l ↔ y = x ∨ (y ∈ l ∧ y.nm ≠ x.nm)
  | [], _, y => by simp [insS]
  | z :: r, hp, y => by
    have hp2 := List.pairwise_cons.1 hp
    rw [insS]
    by_cases h1 : z.nm = x.nm
    · rw [if_pos h1]
      constructor
      · intro h
        rcases List.mem_cons.1 h with rfl | h
        · exact .inl rfl
        · exact .inr ⟨List.mem_cons_of_mem _ h, fun e => lt_ne (hp2.1 y h) (h1.trans e.symm)⟩
      · rintro (rfl | ⟨h, hne⟩)
        · exact List.mem_cons_self
        · rcases List.mem_cons.1 h with rfl | h
          · exact absurd h1 hne
          · exact List.mem_cons_of_mem _ h
    · rw [if_neg h1]
      by_cases h2 : lss z.nm x.nm = true
      · rw [if_pos h2]
        constructor
        · intro h
          rcases List.mem_cons.1 h with rfl | h
          · exact .inr ⟨List.mem_cons_self, h1⟩
          · exact ((ins_mem hp2.2).1 h).imp id fun k => ⟨List.mem_cons_of_mem _ k.1, k.2⟩
        · rintro (rfl | ⟨h, hne⟩)
          · exact List.mem_cons_of_mem _ ((ins_mem hp2.2).2 (.inl rfl))
          · rcases List.mem_cons.1 h with rfl | h
            · exact List.mem_cons_self
            · exact List.mem_cons_of_mem _ ((ins_mem hp2.2).2 (.inr ⟨h, hne⟩))
      · rw [if_neg h2]
        have hlt : lt x.nm z.nm := lt_total (by simpa using h2) h1
        constructor
        · intro h
          rcases List.mem_cons.1 h with rfl | h
          · exact .inl rfl
          · refine .inr ⟨h, fun e => ?_⟩
            rcases List.mem_cons.1 h with rfl | h
            · exact h1 e
            · exact lt_ne (lt_trans hlt (hp2.1 y h)) e.symm
        · rintro (rfl | ⟨h, _⟩)
          · exact List.mem_cons_self
          · exact List.mem_cons_of_mem _ h
theorem ins_up {x : Sk} : ∀ {l : List Sk}, UpS l → UpS (insS x l)
  | [], _ => List.pairwise_cons.2 ⟨fun y hy => (by cases hy), List.Pairwise.nil⟩
  | z :: r, hp => by
    have hp2 := List.pairwise_cons.1 hp
    rw [insS]
    by_cases h1 : z.nm = x.nm
    · rw [if_pos h1]
      exact List.pairwise_cons.2 ⟨fun y hy => by have := hp2.1 y hy; rw [h1] at this; exact this, hp2.2⟩
    · rw [if_neg h1]
      by_cases h2 : lss z.nm x.nm = true
      · rw [if_pos h2]
        refine List.pairwise_cons.2 ⟨fun y hy => ?_, ins_up hp2.2⟩
        rcases (ins_mem hp2.2).1 hy with rfl | ⟨hy, _⟩
        · exact lss_lt.1 h2
        · exact hp2.1 y hy
      · rw [if_neg h2]
        have hlt : lt x.nm z.nm := lt_total (by simpa using h2) h1
        refine List.pairwise_cons.2 ⟨fun y hy => ?_, hp⟩
        rcases List.mem_cons.1 hy with rfl | hy
        · exact hlt
        · exact lt_trans hlt (hp2.1 y hy)
theorem ins_len_in {x : Sk} : ∀ {l : List Sk}, UpS l → (∃ y ∈ l, y.nm = x.nm) → (insS x l).length = l.length
  | [], _, h => by obtain ⟨y, hy, _⟩ := h; cases hy
  | z :: r, hp, h => by
    have hp2 := List.pairwise_cons.1 hp
    rw [insS]
    by_cases h1 : z.nm = x.nm
    · rw [if_pos h1]; simp
    · rw [if_neg h1]
      obtain ⟨y, hy, e⟩ := h
      rcases List.mem_cons.1 hy with rfl | hy
      · exact absurd e h1
      · have hlt : lt z.nm x.nm := by rw [← e]; exact hp2.1 y hy
        rw [if_pos (lss_lt.2 hlt), List.length_cons, ins_len_in hp2.2 ⟨y, hy, e⟩, List.length_cons]
def withF (x : Sk) : Bool → List Sk → List Sk
  | done, [] => if done then [] else [x]
  | done, y :: r => (if done = false ∧ lss y.nm x.nm = false then [x] else []) ++ (if y.nm = x.nm then [] else [y]) ++ withF x (done || !(lss y.nm x.nm)) r
theorem with_done {x : Sk} : ∀ {l : List Sk}, (∀ y ∈ l, y.nm ≠ x.nm) → withF x true l = l
  | [], _ => rfl
  | y :: r, h => by
    rw [withF, if_neg (by simp), if_neg (h y List.mem_cons_self), Bool.true_or, with_done fun z hz => h z (List.mem_cons_of_mem _ hz)]
    rfl
theorem with_eq {x : Sk} : ∀ {l : List Sk}, UpS l → withF x false l = insS x l
  | [], _ => rfl
  | y :: r, hp => by
    have hp2 := List.pairwise_cons.1 hp
    rw [withF, insS]
    by_cases h1 : y.nm = x.nm
    · have h2 : lss y.nm x.nm = false := by
        cases hq : lss y.nm x.nm with
        | false => rfl
        | true => exact absurd h1 (lt_ne (lss_lt.1 hq))
      rw [if_pos h1, if_pos h1, if_pos ⟨rfl, h2⟩, h2, Bool.not_false, Bool.or_true, with_done fun z hz e => lt_ne (hp2.1 z hz) (h1.trans e.symm)]
      rfl
    · rw [if_neg h1, if_neg h1]
      cases h2 : lss y.nm x.nm with
      | true => rw [if_neg (by simp), if_pos rfl, Bool.not_true, Bool.or_false, with_eq hp2.2]; rfl
      | false =>
        have hlt : lt x.nm y.nm := lt_total h2 h1
        rw [if_pos ⟨rfl, rfl⟩, if_neg (by simp), Bool.not_false, Bool.or_true, with_done fun z hz e => lt_ne (lt_trans hlt (hp2.1 z hz)) e.symm]
        rfl
theorem set_ins {x : Sk} : ∀ {l : List Sk}, UpS l → (∃ y ∈ l, y.nm = x.nm) → setS x l = insS x l
  | [], _, h => by obtain ⟨y, hy, _⟩ := h; cases hy
  | z :: r, hp, h => by
    have hp2 := List.pairwise_cons.1 hp
    unfold setS
    rw [List.map_cons, insS]
    by_cases h1 : z.nm = x.nm
    · rw [if_pos h1, if_pos h1]
      congr 1
      conv => rhs; rw [← List.map_id r]
      apply List.map_congr_left
      intro u hu
      rw [if_neg fun e => lt_ne (hp2.1 u hu) (h1.trans e.symm)]; rfl
    · rw [if_neg h1, if_neg h1]
      obtain ⟨y, hy, e⟩ := h
      rcases List.mem_cons.1 hy with rfl | hy
      · exact absurd e h1
      · have hlt : lt z.nm x.nm := by rw [← e]; exact hp2.1 y hy
        rw [if_pos (lss_lt.2 hlt)]
        congr 1
        exact set_ins hp2.2 ⟨y, hy, e⟩
/-! ### the acts -/
def putIn (b : Bk) (y : Sk × Int) : Bk × Int := if y.2 = 0 then (⟨insS y.1 b.sk, b.hd⟩, 0) else (bk0, y.2)
def restockB (b : Bk) (s : ByteArray) (n : Int) : Bk × Int :=
  if fitB b = true then if nmS s = true then match findS s b.sk with
    | none => if b.sk.length = 12 then (bk0, 4) else putIn b (restockV ⟨s, 0, 0, 0, 0, 0⟩ n)
    | some x => putIn b (restockV x n) else (bk0, 7) else (bk0, 12)
def adjustB (b : Bk) (s : ByteArray) (n : Int) : Bk × Int :=
  if fitB b = true then match findS s b.sk with
    | none => (bk0, 2)
    | some x => putIn b (adjustV x n) else (bk0, 12)
def heldB (b : Bk) (g : Int) (ls : List Ln) (t w : Int) : Bk × Int :=
  if fitB b = true then if (putH b.hd ⟨g, ls, t⟩).2 = 0 then if okM w ls b.sk = true then (⟨mvd w ls b.sk, (putH b.hd ⟨g, ls, t⟩).1⟩, 0) else (bk0, 6) else (bk0, (putH b.hd ⟨g, ls, t⟩).2) else (bk0, 12)
def dropB (b : Bk) (g w : Int) : Bk × Int :=
  if fitB b = true then match findH g b.hd with
    | none => (bk0, 2)
    | some h => (⟨mvd w h.ls b.sk, less g b.hd⟩, 0) else (bk0, 12)
def sendB (b : Bk) (ls : List Ln) : Bk × Int :=
  if fitB b = true then if fitL ls = true ∧ 0 < ls.length then if okM 5 ls b.sk = true then (⟨mvd 5 ls b.sk, b.hd⟩, 0) else (bk0, 6) else (bk0, 1) else (bk0, 12)
end LedgerP
end Go.Proofs.YtjclkiabgemfpaaGreat

/-
  Plain facts of ledger: what is held and let go, kept, held again and sent; acts one behind the other, and what came in by them; nothing of the program.
-/
set_option linter.unusedVariables false
namespace Go.Proofs.YtjclkiabgemfpaaGreat
namespace LedgerP
open LinesP HoldsP
open StockP (Sk sk0 fitS Fit fitS_iff fromV turnV turn_fit)

/-! ### acts -/
structure Act where
  kind : Int
  saga : Int
  n : Int
  sku : ByteArray
  ls : List Ln
def doB (b : Bk) (a : Act) : Bk × Int :=
  if a.kind = 1 then restockB b a.sku a.n else if a.kind = 2 then adjustB b a.sku a.n else if a.kind = 3 then heldB b a.saga a.ls a.n 1 else
  if a.kind = 4 then dropB b a.saga 2 else if a.kind = 5 then dropB b a.saga 3 else if a.kind = 6 then heldB b a.saga a.ls a.n 4 else sendB b a.ls
end LedgerP
end Go.Proofs.YtjclkiabgemfpaaGreat

/-
  Plain facts of ledger: the loops of the document's functions, step by step: where an item stands, whether a book is fit, an item put in its place, lines moved one by one; nothing of the program.
-/
set_option linter.unusedVariables false
namespace Go.Proofs.YtjclkiabgemfpaaGreat
namespace LedgerP
open LinesP HoldsP
open StockP (Sk sk0 fitS Fit fitS_iff fromV turnV turn_fit moveV move_cases move_ok)

theorem sdrop_at {l : List Sk} {k : Nat} {x : Sk} (hk : k < l.length) (hx : l.getD k sk0 = x) : l.drop k = x :: l.drop (k + 1) := by
  rw [List.drop_eq_getElem_cons hk, ← hx]; simp [List.getD, hk]
def ixS (s : ByteArray) : Nat → List Sk → Int
  | _, [] => -1
  | k, x :: r => if x.nm = s then (k : Int) else ixS s (k + 1) r
theorem ixS_yes {l : List Sk} {k : Nat} {x : Sk} {s : ByteArray} (hk : k < l.length) (hx : l.getD k sk0 = x) (h : (x.nm.toList == s.toList) = true) : ixS s k (l.drop k) = (k : Int) := by
  rw [sdrop_at hk hx, ixS, if_pos (same_iff.1 h)]
theorem ixS_no {l : List Sk} {k : Nat} {x : Sk} {s : ByteArray} (hk : k < l.length) (hx : l.getD k sk0 = x) (h : (x.nm.toList == s.toList) = false) : ixS s k (l.drop k) = ixS s (k + 1) (l.drop (k + 1)) := by
  rw [sdrop_at hk hx, ixS, if_neg fun e => by rw [same_iff.2 e] at h; cases h]
theorem ixS_done {l : List Sk} {k : Nat} {s : ByteArray} (h : ¬ k < l.length) : ixS s k (l.drop k) = -1 := by
  rw [List.drop_eq_nil_of_le (by omega)]; rfl
theorem ixS_find : ∀ (s : ByteArray) (l : List Sk) (j : Nat), (findS s l = none ∧ ixS s j l = -1) ∨ ∃ k, k < l.length ∧ ixS s j l = ((j + k : Nat) : Int) ∧ findS s l = some (l.getD k sk0)
  | s, [], j => .inl ⟨rfl, rfl⟩
  | s, x :: r, j => by
    by_cases h : x.nm = s
    · exact .inr ⟨0, by simp, by rw [ixS, if_pos h]; rfl, by rw [findS, if_pos h]; rfl⟩
    · rcases ixS_find s r (j + 1) with ⟨h1, h2⟩ | ⟨k, h1, h2, h3⟩
      · exact .inl ⟨by rw [findS, if_neg h]; exact h1, by rw [ixS, if_neg h]; exact h2⟩
      · exact .inr ⟨k + 1, by simpa using h1, by rw [ixS, if_neg h, h2]; omega, by rw [findS, if_neg h, h3]; simp⟩
/-! ### fit: the loop over the items -/
def prevS (l : List Sk) (k : Nat) : Option ByteArray := if k = 0 then none else some (l.getD (k - 1) sk0).nm
theorem prevS_succ {l : List Sk} {k : Nat} {x : Sk} (hx : l.getD k sk0 = x) : prevS l (k + 1) = some x.nm := by
  unfold prevS; rw [if_neg (by omega), Nat.add_sub_cancel, hx]
theorem sk_done {hd : List Hd} {l : List Sk} {k : Nat} (h : ¬ k < l.length) : skUp hd (prevS l k) (l.drop k) = true := by
  rw [List.drop_eq_nil_of_le (by omega)]; cases prevS l k <;> rfl
theorem sk_no {hd : List Hd} {l : List Sk} {k : Nat} {x : Sk} (hk : k < l.length) (hx : l.getD k sk0 = x) (h : oneS hd x = false) : skUp hd (prevS l k) (l.drop k) = false := by
  rw [sdrop_at hk hx]
  cases prevS l k <;> (rw [skUp, h]; rfl)
theorem sk_less {hd : List Hd} {l : List Sk} {k : Nat} {x y : Sk} (h0 : 0 < k) (hk : k < l.length) (hx : l.getD k sk0 = x) (hy : l.getD (k - 1) sk0 = y) (h : lss y.nm x.nm = false) : skUp hd (prevS l k) (l.drop k) = false := by
  rw [sdrop_at hk hx]
  unfold prevS
  rw [if_neg (by omega), hy, skUp, h, Bool.and_false]
  rfl
theorem sk_go0 {hd : List Hd} {l : List Sk} {x : Sk} (hk : 0 < l.length) (hx : l.getD 0 sk0 = x) (h1 : oneS hd x = true) : skUp hd (prevS l 0) (l.drop 0) = skUp hd (prevS l (0 + 1)) (l.drop (0 + 1)) := by
  rw [sdrop_at hk hx, prevS_succ hx]
  unfold prevS
  rw [if_pos rfl, skUp, h1]; rfl
theorem sk_go {hd : List Hd} {l : List Sk} {k : Nat} {x y : Sk} (h0 : 0 < k) (hk : k < l.length) (hx : l.getD k sk0 = x) (hy : l.getD (k - 1) sk0 = y) (h1 : oneS hd x = true) (h : lss y.nm x.nm = true) : skUp hd (prevS l k) (l.drop k) = skUp hd (prevS l (k + 1)) (l.drop (k + 1)) := by
  rw [sdrop_at hk hx, prevS_succ hx]
  unfold prevS
  rw [if_neg (by omega), hy, skUp, h1, h]; rfl
/-! ### fit: the loops over the holds and their lines -/
def presL (sk : List Sk) (ls : List Ln) : Bool := ls.all fun z => (findS z.1 sk).isSome
theorem presB_cons {sk : List Sk} {h : Hd} {r : List Hd} : presB sk (h :: r) = (presL sk h.ls && presB sk r) := rfl
theorem pres_done {sk : List Sk} {l : List Hd} {k : Nat} (h : ¬ k < l.length) : presB sk (l.drop k) = true := by
  rw [List.drop_eq_nil_of_le (by omega)]; rfl
theorem presL_no {sk : List Sk} {l : List Ln} {k : Nat} {x : Ln} (hk : k < l.length) (hx : l.getD k ln0 = x) (h : findS x.1 sk = none) : presL sk (l.drop k) = false := by
  rw [drop_get hk hx]
  show ((findS x.1 sk).isSome && presL sk (l.drop (k + 1))) = false
  rw [h]; rfl
theorem presL_go {sk : List Sk} {l : List Ln} {k : Nat} {x : Ln} {y : Sk} (hk : k < l.length) (hx : l.getD k ln0 = x) (h : findS x.1 sk = some y) : presL sk (l.drop k) = presL sk (l.drop (k + 1)) := by
  rw [drop_get hk hx]
  show ((findS x.1 sk).isSome && presL sk (l.drop (k + 1))) = _
  rw [h]; rfl
theorem presL_done {sk : List Sk} {l : List Ln} {k : Nat} (h : ¬ k < l.length) : presL sk (l.drop k) = true := by
  rw [List.drop_eq_nil_of_le (by omega)]; rfl
theorem fitB_no1 {b : Bk} (h : 12 < b.sk.length) : fitB b = false := by unfold fitB; rw [decide_eq_false (by omega)]; rfl
theorem fitB_no2 {b : Bk} (h : fitH b.hd = false) : fitB b = false := by unfold fitB; rw [h]; simp
theorem fitB_no3 {b : Bk} (h : skUp b.hd none b.sk = false) : fitB b = false := by unfold fitB; rw [h]; simp
theorem fitB_last {b : Bk} (h1 : b.sk.length ≤ 12) (h2 : fitH b.hd = true) (h3 : skUp b.hd none b.sk = true) : fitB b = presB b.sk b.hd := by
  unfold fitB; rw [decide_eq_true h1, h2, h3]; rfl
/-! ### an item in its place: the loop -/
theorem with_drop {x y : Sk} {l : List Sk} {k : Nat} (done : Bool) (hk : k < l.length) (hy : l.getD k sk0 = y) :
    withF x done (l.drop k) = (if done = false ∧ lss y.nm x.nm = false then [x] else []) ++ (if y.nm = x.nm then [] else [y]) ++ withF x (done || !(lss y.nm x.nm)) (l.drop (k + 1)) := by
  rw [sdrop_at hk hy, withF]
theorem with_end {x : Sk} {l : List Sk} {k : Nat} (done : Bool) (h : ¬ k < l.length) : withF x done (l.drop k) = if done then [] else [x] := by
  rw [List.drop_eq_nil_of_le (by omega), withF]
/-! ### lines moved one by one -/
theorem moves_drop_none {w : Int} {ls : List Ln} {l : List Sk} {k : Nat} {x : Ln} (hk : k < ls.length) (hx : ls.getD k ln0 = x) (h : findS x.1 l = none) : movesV w (ls.drop k) l = ([], 6) := by
  rw [drop_get hk hx, movesV, h]
theorem moves_drop_less {w : Int} {ls : List Ln} {l : List Sk} {k : Nat} {x : Ln} {y : Sk} (hk : k < ls.length) (hx : ls.getD k ln0 = x) (h : findS x.1 l = some y) (hf : fromV y w < x.2) : movesV w (ls.drop k) l = ([], 6) := by
  rw [drop_get hk hx, movesV, h]
  show (if fromV y w < x.2 then _ else _) = _
  rw [if_pos hf]
theorem moves_drop_go {w : Int} {ls : List Ln} {l : List Sk} {k : Nat} {x : Ln} {y : Sk} (hk : k < ls.length) (hx : ls.getD k ln0 = x) (h : findS x.1 l = some y) (hf : ¬ fromV y w < x.2) : movesV w (ls.drop k) l = movesV w (ls.drop (k + 1)) (setS (turnV y w x.2) l) := by
  rw [drop_get hk hx, movesV, h]
  show (if fromV y w < x.2 then _ else _) = _
  rw [if_neg hf]
theorem moves_drop_done {w : Int} {ls : List Ln} {l : List Sk} {k : Nat} (h : ¬ k < ls.length) : movesV w (ls.drop k) l = (l, 0) := by
  rw [List.drop_eq_nil_of_le (by omega), movesV]
theorem move_line {y : Sk} {w n : Int} (h : Fit y) (h1 : 1 ≤ n) (h2 : n ≤ 1048576) : moveV y w n = if fromV y w < n then (sk0, 6) else (turnV y w n, 0) := by
  unfold moveV; rw [if_pos (fitS_iff.2 h), if_pos ⟨h1, h2⟩]
theorem move_zero (w n : Int) : (moveV sk0 w n).2 ≠ 0 := by
  rcases move_cases sk0 w n with ⟨e, h, hne, _⟩ | ⟨h, hf, _⟩
  · rw [h]; exact hne
  · exact absurd rfl (StockP.fit_not0 hf)
theorem set_fit {y : Sk} {w n : Int} {l : List Sk} (hf : ∀ x ∈ l, Fit x) (hy : y ∈ l) (h1 : 1 ≤ n) (hn : ¬ fromV y w < n) : ∀ x ∈ setS (turnV y w n) l, Fit x := by
  intro x hx
  unfold setS at hx
  obtain ⟨u, hu, rfl⟩ := List.mem_map.1 hx
  split
  · exact (turn_fit (hf y hy) h1 hn).1
  · exact hf u hu
end LedgerP
end Go.Proofs.YtjclkiabgemfpaaGreat
