/-
  Plain facts of def: what is read by a cut at the first space and a split into seven parts at most is what the document reads; nothing of the program.
-/
import Derived.Test.YtdpgfnnhbfkacaaDoorDefRead
set_option linter.unusedVariables false
namespace Go.Proofs.YtdpgfnnhbfkacaaDoor
namespace DefP
open StP (textS readS parts partsF cutAt)

/-- Steps read one by one, behind those read so far. -/
def goL (acc : List Step) : List (List UInt8) → Option (List Step)
  | [] => some acc
  | p :: r => match readS p with
    | none => none
    | some x => goL (acc ++ [x]) r
theorem goL_all : ∀ (ps : List (List UInt8)) (acc : List Step), goL acc ps = (allS ps).map (acc ++ ·)
  | [], acc => by simp [goL, allS]
  | p :: r, acc => by
    rw [goL, allS]
    cases hr : readS p with
    | none => rfl
    | some x =>
      simp only
      rw [goL_all r]
      cases allS r with
      | none => rfl
      | some l => simp
def finD (n : List UInt8) : Option (List Step) → Option Df
  | none => none
  | some l => if fitD ⟨⟨n.toArray⟩, l⟩ = true then some ⟨⟨n.toArray⟩, l⟩ else none
def cutN (s : List UInt8) : List UInt8 := match cutAt 32 s with | none => s | some q => q.1
def cutB (s : List UInt8) : List UInt8 := match cutAt 32 s with | none => [] | some q => q.2
theorem cut_len (s : List UInt8) : (cutN s).length ≤ s.length ∧ (cutB s).length ≤ s.length := by
  unfold cutN cutB
  cases h : cutAt 32 s with
  | none => exact ⟨Nat.le_refl _, Nat.zero_le _⟩
  | some q =>
    obtain ⟨a, b⟩ := q
    have := congrArg List.length (StP.cut_some h).1
    rw [List.length_append, List.length_cons] at this
    exact ⟨by show a.length ≤ _; omega, by show b.length ≤ _; omega⟩
theorem readS_nil : readS [] = none := by rfl
theorem mem_partsF (c x : UInt8) (hx : x ≠ c) : ∀ (k : Nat) (l : List UInt8), x ∈ l → ∃ q ∈ partsF c k l, x ∈ q
  | 0, l, h => ⟨l, by simp [partsF], h⟩
  | k + 1, l, h => by
    rw [partsF]
    cases hc : cutAt c l with
    | none => exact ⟨l, by simp, h⟩
    | some p =>
      obtain ⟨a, b⟩ := p
      have hl := (StP.cut_some hc).1
      rw [hl] at h
      rcases List.mem_append.1 h with h | h
      · exact ⟨a, by simp, h⟩
      · rcases List.mem_cons.1 h with h | h
        · exact absurd h hx
        · obtain ⟨q, hq, hxq⟩ := mem_partsF c x hx k b h
          exact ⟨q, by simp only; exact List.mem_cons_of_mem _ hq, hxq⟩
theorem allS_no {ps : List (List UInt8)} {l : List Step} (h : allS ps = some l) {q : List UInt8} (hq : q ∈ ps) (c : UInt8) (hc : c.toNat < 45) : c ∉ q := by
  have h1 := (allS_some h).1
  rw [← h1] at hq
  obtain ⟨x, _, rfl⟩ := List.mem_map.1 hq
  exact textS_no c hc
theorem fin_long {n : List UInt8} {ps : List (List UInt8)} (h : 6 < ps.length) : finD n (allS ps) = none := by
  cases ha : allS ps with
  | none => rfl
  | some l =>
    have hl := allS_len ha
    have : fitD ⟨⟨n.toArray⟩, l⟩ = false := by
      unfold fitD
      rw [fitL_long (by show 6 < l.length; omega), Bool.and_false]
    show ite _ _ _ = _
    rw [this]; rfl
/-- What the program reads is what the document reads. -/
theorem prog_read (s : List UInt8) (m : Nat) (hm : m = min 7 ((cutB s).length + 1) - 1) : finD (cutN s) (goL [] (partsF 44 m (cutB s))) = readD s := by
  rw [goL_all, show (fun x : List Step => [] ++ x) = id from rfl, Option.map_id, id]
  have hor : partsF 44 m (cutB s) = parts 44 (cutB s) ∨ ((partsF 44 m (cutB s)).length = 7 ∧ 7 ≤ (parts 44 (cutB s)).length) := by
    by_cases h : (cutB s).length < 6
    · left
      rw [hm, show min 7 ((cutB s).length + 1) - 1 = (cutB s).length by omega]
      rfl
    · rw [hm, show min 7 ((cutB s).length + 1) - 1 = 6 by omega]
      exact StP.partsF_or 44 6 (cutB s)
  cases hc : cutAt 32 s with
  | none =>
    have hb : cutB s = [] := by unfold cutB; rw [hc]
    unfold readD
    rw [StP.parts_one hc, hb]
    rw [hb] at hm
    rw [hm, show min 7 (([] : List UInt8).length + 1) - 1 = 0 from rfl, partsF, allS, readS_nil]
    rfl
  | some q =>
    obtain ⟨n, p⟩ := q
    have hb : cutB s = p := by unfold cutB; rw [hc]
    have hn : cutN s = n := by unfold cutN; rw [hc]
    rw [hb] at hor ⊢
    rw [hn]
    cases hc2 : cutAt 32 p with
    | none =>
      have hrd : readD s = finD n (allS (parts 44 p)) := by
        unfold readD finD
        rw [StP.parts_more hc, StP.parts_one hc2]
        cases ha : allS (parts 44 p) <;> simp only [ha]
      rw [hrd]
      rcases hor with h | ⟨h1, h2⟩
      · rw [h]
      · rw [fin_long (by omega), fin_long (by omega)]
    | some q2 =>
      obtain ⟨a, b⟩ := q2
      have hrd : readD s = none := by
        unfold readD
        rw [StP.parts_more hc, StP.parts_more hc2]
        cases hp : parts 32 b with
        | nil => exact absurd hp (StP.parts_ne 32 b)
        | cons y r => rfl
      rw [hrd]
      cases ha : allS (partsF 44 m p) with
      | none => rfl
      | some l =>
        have h32 : (32 : UInt8) ∈ p := by rw [(StP.cut_some hc2).1]; simp
        obtain ⟨q, hq, hxq⟩ := mem_partsF 44 32 (by decide) m p h32
        exact absurd hxq (allS_no ha hq 32 (by decide))
theorem goL_no {acc : List Step} {ps : List (List UInt8)} {k : Nat} {p : List UInt8} (h : ps[k]? = some p) (e : readS p = none) : goL acc (ps.drop k) = none := by
  obtain ⟨hk, ex⟩ := List.getElem?_eq_some_iff.1 h
  rw [List.drop_eq_getElem_cons hk, ex, goL, e]
theorem goL_go {acc : List Step} {ps : List (List UInt8)} {k : Nat} {p : List UInt8} {x : Step} (h : ps[k]? = some p) (e : readS p = some x) : goL acc (ps.drop k) = goL (acc ++ [x]) (ps.drop (k + 1)) := by
  obtain ⟨hk, ex⟩ := List.getElem?_eq_some_iff.1 h
  rw [List.drop_eq_getElem_cons hk, ex, goL, e]
theorem goL_end {acc : List Step} {ps : List (List UInt8)} {k : Nat} (h : ps.length ≤ k) : goL acc (ps.drop k) = some acc := by rw [List.drop_eq_nil_of_le h]; rfl
theorem fin_none (n : List UInt8) : finD n none = none := rfl
theorem fin_yes {n : List UInt8} {l : List Step} (h : fitD ⟨⟨n.toArray⟩, l⟩ = true) : finD n (some l) = some ⟨⟨n.toArray⟩, l⟩ := by show ite _ _ _ = _; rw [if_pos h]
theorem fin_no {n : List UInt8} {l : List Step} (h : fitD ⟨⟨n.toArray⟩, l⟩ = false) : finD n (some l) = none := by show ite _ _ _ = _; rw [h]; rfl
def gotD (o : Option Df) : Df := o.getD df0
def errD (o : Option Df) : Int := if o.isSome then 0 else 7
/-- The document's way: a text of two parts at spaces. -/
theorem read_two {s n p : List UInt8} (h : parts 32 s = [n, p]) : readD s = finD n (goL [] (parts 44 p)) := by
  rw [goL_all, show (fun x : List Step => [] ++ x) = id from rfl, Option.map_id, id]
  unfold readD finD
  rw [h]
  cases ha : allS (parts 44 p) <;> simp only [ha]
theorem read_not {s : List UInt8} (h : (parts 32 s).length ≠ 2) : readD s = none := by
  unfold readD
  split
  · rename_i n p he; rw [he] at h; exact absurd rfl h
  · rfl
end DefP
end Go.Proofs.YtdpgfnnhbfkacaaDoor
