/-
  Plain facts of def: texts of definitions, read and written; lists, numbers and octets alone, nothing of the program.
-/
import Derived.Test.YtdpgfnnhbfkacaaDoorDefPlain
set_option linter.unusedVariables false
namespace Go.Proofs.YtdpgfnnhbfkacaaDoor
open NumP
namespace DefP
open StP (fitS FitS fitS_of textS readS parts cutAt partsS opL clL opL_len clL_len not_itoa)
open NameP (nr nr_iff encs vals fitV fitV_iff allNr_good encs_vals toByte_nat vals_four)

/-- An octet of a rune that a name may have is no less than '-'. -/
theorem rune_low {c : Nat} (h : nr (c : Int) = true) : ∀ b ∈ Lib.encodeRune (c : Int), 45 ≤ b.toNat := by
  have hc := nr_iff.1 h
  unfold Lib.encodeRune
  by_cases h1 : (c : Int) ≤ 127
  · rw [Lib.encodeRuneZ_one (by omega) h1]
    intro b hb
    simp only [List.map_cons, List.map_nil, List.mem_singleton] at hb
    subst hb
    have e : ((c : Int).toNat.toUInt8).toNat = c := by
      rw [show (c : Int).toNat.toUInt8.toNat = (c : Int).toNat from toByte_nat _ (by omega) (by omega)]; omega
    omega
  · rw [Lib.encodeRuneZ_two (by omega) (by omega)]
    intro b hb
    simp only [List.map_cons, List.map_nil, List.mem_cons, List.not_mem_nil, or_false] at hb
    have key : ∀ z : Int, 128 ≤ z → z < 256 → 45 ≤ (z.toNat.toUInt8).toNat := by
      intro z h0 h1
      rw [toByte_nat z (by omega) h1]
      omega
    rcases hb with rfl | rfl
    · exact key _ (by omega) (by omega)
    · exact key _ (by omega) (by omega)
theorem nm_low {s : ByteArray} (h : nm s = true) : ∀ b ∈ s.data.toList, 45 ≤ b.toNat := by
  have ha := (fitV_iff.1 h).1
  have hg := allNr_good _ ha
  have he := encs_vals _ hg
  intro b hb
  rw [← he] at hb
  unfold encs at hb
  obtain ⟨c, hc, hbc⟩ := List.mem_flatMap.1 hb
  exact rune_low (List.all_eq_true.1 ha c hc) b hbc
theorem nm_no {s : ByteArray} (h : nm s = true) (c : UInt8) (hc : c.toNat < 45) : c ∉ s.data.toList := fun hm => by
  have := nm_low h c hm; omega
theorem nm_len {s : ByteArray} (h : nm s = true) : s.data.toList.length ≤ 48 := by
  have h1 := vals_four s.data.toList
  have h2 := (fitV_iff.1 h).2.2.1
  omega
/-! ### texts -/
theorem join_mem {sep : List UInt8} {c : UInt8} : ∀ {xs : List (List UInt8)}, c ∈ Lib.join xs sep → c ∈ sep ∨ ∃ x ∈ xs, c ∈ x
  | [], h => by rw [Lib.join_nil] at h; cases h
  | [x], h => by rw [Lib.join_one] at h; exact .inr ⟨x, by simp, h⟩
  | x :: y :: r, h => by
    rw [Lib.join_cons] at h
    rcases List.mem_append.1 h with h | h
    · exact .inr ⟨x, by simp, h⟩
    · unfold Lib.joinTail at h
      obtain ⟨z, hz, hc⟩ := List.mem_flatten.1 h
      obtain ⟨w, hw, rfl⟩ := List.mem_map.1 hz
      rcases List.mem_append.1 hc with hc | hc
      · exact .inl hc
      · exact .inr ⟨w, List.mem_cons_of_mem _ hw, hc⟩
theorem opL_low (n : Int) : ∀ c ∈ opL n, 97 ≤ c.toNat := by
  unfold opL
  split
  · decide
  split
  · decide
  split
  · decide
  split
  · decide
  split <;> decide
theorem clL_low (n : Int) : ∀ c ∈ clL n, 97 ≤ c.toNat := by
  unfold clL
  split
  · decide
  split <;> decide
/-- A step's text holds no space and no comma. -/
theorem textS_no {x : Step} (c : UInt8) (hc : c.toNat < 45) : c ∉ textS x := by
  unfold textS
  split
  · intro hm
    rcases join_mem hm with h | ⟨y, hy, hcy⟩
    · rw [List.mem_singleton] at h; subst h; exact absurd hc (by decide)
    · unfold partsS at hy
      simp only [List.mem_cons, List.mem_nil_iff, or_false] at hy
      have h45 : c ≠ 45 := fun e => by subst e; exact absurd hc (by decide)
      rcases hy with rfl | rfl | rfl | rfl | rfl | rfl
      · have := opL_low _ c hcy; omega
      · have := clL_low _ c hcy; omega
      · exact not_itoa _ c (.inl (by omega)) h45 hcy
      · exact not_itoa _ c (.inl (by omega)) h45 hcy
      · exact not_itoa _ c (.inl (by omega)) h45 hcy
      · exact not_itoa _ c (.inl (by omega)) h45 hcy
  · intro h; cases h
def stepsT (l : List Step) : List UInt8 := Lib.join (l.map textS) [44]
def textD (d : Df) : List UInt8 := if fitD d = true then d.name.data.toList ++ 32 :: stepsT d.steps else []
theorem textD_no {d : Df} (h : fitD d = false) : textD d = [] := by unfold textD; rw [h]; rfl
theorem textD_yes {d : Df} (h : fitD d = true) : textD d ≠ [] := by unfold textD; rw [if_pos h]; simp
theorem stepsT_no (l : List Step) : (32 : UInt8) ∉ stepsT l := by
  intro hm
  rcases join_mem hm with h | ⟨y, hy, hcy⟩
  · simp at h
  · obtain ⟨x, _, rfl⟩ := List.mem_map.1 hy
    exact textS_no 32 (by decide) hcy
/-! ### what is read -/
def allS : List (List UInt8) → Option (List Step)
  | [] => some []
  | p :: r => match readS p with
    | none => none
    | some x => (allS r).map (x :: ·)
def readD (s : List UInt8) : Option Df := match parts 32 s with
  | [n, p] => match allS (parts 44 p) with
    | none => none
    | some l => if fitD ⟨⟨n.toArray⟩, l⟩ = true then some ⟨⟨n.toArray⟩, l⟩ else none
  | _ => none
theorem allS_some : ∀ {ps : List (List UInt8)} {l : List Step}, allS ps = some l → l.map textS = ps ∧ ∀ x ∈ l, fitS x = true
  | [], l, h => by rw [allS] at h; cases h; exact ⟨rfl, by simp⟩
  | p :: r, l, h => by
    rw [allS] at h
    cases hr : readS p with
    | none => rw [hr] at h; cases h
    | some x =>
      rw [hr] at h
      cases ha : allS r with
      | none => rw [ha] at h; cases h
      | some m =>
        rw [ha] at h
        cases h
        obtain ⟨h1, h2⟩ := allS_some ha
        obtain ⟨h3, h4⟩ := StP.readS_some hr
        refine ⟨by rw [List.map_cons, h4, h1], fun y hy => ?_⟩
        rcases List.mem_cons.1 hy with rfl | hy
        · exact h3
        · exact h2 y hy
theorem allS_back : ∀ {l : List Step}, (∀ x ∈ l, fitS x = true) → allS (l.map textS) = some l
  | [], _ => rfl
  | x :: r, h => by
    rw [List.map_cons, allS, StP.readS_back (h x (by simp)), allS_back fun y hy => h y (List.mem_cons_of_mem _ hy)]
    rfl
theorem bytes_of (s : ByteArray) : (⟨s.data.toList.toArray⟩ : ByteArray) = s := by cases s; simp
theorem readD_some {s : List UInt8} {d : Df} (h : readD s = some d) : fitD d = true ∧ textD d = s := by
  unfold readD at h
  cases hp : parts 32 s with
  | nil => exact absurd hp (StP.parts_ne 32 s)
  | cons n r =>
    rw [hp] at h
    match r, h, hp with
    | [p], h, hp =>
      simp only at h
      cases ha : allS (parts 44 p) with
      | none => rw [ha] at h; cases h
      | some l =>
        rw [ha] at h
        simp only at h
        split at h
        case isFalse => cases h
        case isTrue hf =>
          cases h
          refine ⟨hf, ?_⟩
          obtain ⟨h1, _⟩ := allS_some ha
          unfold textD stepsT
          rw [if_pos hf]
          simp only
          rw [h1, StP.join_parts 44 _ p (Nat.le_refl _)]
          have := StP.join_parts 32 _ s (Nat.le_refl _)
          rw [hp, StP.join_cons2, Lib.join_one] at this
          exact this
theorem readD_back {d : Df} (h : fitD d = true) : readD (textD d) = some d := by
  have hd := fitD_iff.1 h
  have hne : d.steps.map textS ≠ [] := by
    have hl := (fitL_len hd.2).1
    intro e
    have he := congrArg List.length e
    rw [List.length_map, List.length_nil] at he
    omega
  have hp : parts 32 (textD d) = [d.name.data.toList, stepsT d.steps] := by
    unfold textD
    rw [if_pos h, StP.parts_more (StP.cut_mk _ _ (nm_no hd.1 32 (by decide))), StP.parts_one (StP.cut_none (stepsT_no _))]
  unfold readD
  rw [hp]
  simp only
  unfold stepsT
  rw [StP.parts_join 44 _ hne (fun y hy => by obtain ⟨x, _, rfl⟩ := List.mem_map.1 hy; exact textS_no 44 (by decide)), allS_back (fitL_steps hd.2)]
  simp only
  rw [bytes_of, if_pos h]
theorem readD_nil : readD [] = none := by
  unfold readD
  rw [show parts 32 [] = [[]] from rfl]
/-- The parts of any text with some of its steps read so far. -/
theorem allS_step {p : List UInt8} {r : List (List UInt8)} {x : Step} (h : readS p = some x) : allS (p :: r) = (allS r).map (x :: ·) := by rw [allS, h]
theorem allS_bad {p : List UInt8} {r : List (List UInt8)} (h : readS p = none) : allS (p :: r) = none := by rw [allS, h]
theorem allS_len : ∀ {ps : List (List UInt8)} {l : List Step}, allS ps = some l → l.length = ps.length := fun {ps l} h => by
  have := congrArg List.length (allS_some h).1
  simpa using this
end DefP
end Go.Proofs.YtdpgfnnhbfkacaaDoor
