/-
  The contracts of SameWaits, Few, and of do at a disk that nobody made.
-/
import Derived.Test.YtklklcohbfnpjaaDiskT
set_option linter.unusedVariables false
set_option maxRecDepth 4000
namespace Go.Proofs.Ytklklcohbfnpjaa
open Go.RowKit DiskP

/-- A slice of pending writes told of its cells. -/
def WtsAt (w : World) (a : Option Addr) (len : Nat) (W : List Wr) : Prop :=
  W.length = len ∧ len ≤ 9223372036854775807 ∧ (len = 0 ∨ ∃ b off, a = some ⟨b, off, none⟩ ∧ b < w.heap.size ∧ ∀ i, i < len → w.cell? ⟨b, off + i * 2, none⟩ = some (.int .i64 ((W.getD i (0, ByteArray.empty)).1 : Int)) ∧ w.cell? ⟨b, off + i * 2 + 1, none⟩ = some (.string (W.getD i (0, ByteArray.empty)).2))
theorem wts_of {w : World} {B n : Nat} {v : Value} {W : List Wr} (h : w.ownsRow B 75 2 v n (wcells W)) (hn : W.length = n) (hl : n ≤ 1000000000) : ∃ a cap, v = .slice a n cap ∧ WtsAt w a n W := by
  subst hn
  by_cases h0 : W.length = 0
  · rcases h.2 with ⟨rfl, _⟩ | ⟨g, cap, cur, rfl, _⟩
    · exact ⟨none, 0, by rw [h0], rfl, by omega, .inl h0⟩
    · exact ⟨_, cap, rfl, rfl, by omega, .inl h0⟩
  · obtain ⟨g, cap, rfl⟩ : ∃ g cap, v = .slice (some ⟨g, 0, none⟩) W.length cap := by
      rcases h.2 with ⟨rfl, h1⟩ | ⟨g, cap, cur, rfl, _⟩
      · exact absurd h1 h0
      · exact ⟨g, cap, rfl⟩
    refine ⟨_, cap, rfl, rfl, by omega, .inr ⟨g, 0, rfl, owns_lt h rfl, fun i hi => ?_⟩⟩
    obtain ⟨h1, h2⟩ := wcells_get W i W[i] (List.getElem?_eq_getElem hi)
    have e : W.getD i (0, ByteArray.empty) = W[i] := by simp [List.getD, hi]
    rw [e, Nat.zero_add]
    exact ⟨owns_cell h rfl h1, owns_cell h rfl h2⟩
theorem WtsAt.below {w w' : World} {a : Option Addr} {len : Nat} {W : List Wr} (h : WtsAt w a len W) (hb : Below w.heap.size w w') : WtsAt w' a len W :=
  ⟨h.1, h.2.1, h.2.2.imp id (fun ⟨b, off, e, hlt, hc⟩ => ⟨b, off, e, by have := hb.size; omega, fun i hi => ⟨(hb.cell (p := ⟨b, off + i * 2, none⟩) hlt).trans (hc i hi).1, (hb.cell (p := ⟨b, off + i * 2 + 1, none⟩) hlt).trans (hc i hi).2⟩⟩)⟩
theorem sameWaits_yes (a c : Option Addr) (len ca cc : Nat) (W : List Wr) (w : World) (h1 : WtsAt w a len W) (h2 : WtsAt w c len W) :
    Calls Try.prog 30 #[.slice a len ca, .slice c len cc] w fun e w' => e = .returned (.bool true) ∧ Below w.heap.size w w' := by
  have hl : len ≤ 9223372036854775807 := h1.2.1
  by_cases h0 : len = 0
  · subst h0
    clear h1 h2
    go_enter Try.func30, Try.ntmps30
    go_wp2_with fail
    go_loopw [5] (fun i wr => i = .int .i64 0 ∧ Hid (Below w.heap.size w wr)) (fun i _ => 0)
    case atStart => exact ⟨rfl, Below.refl _ w⟩
    case round =>
      obtain ⟨rfl, hB⟩ := hrel
      go_wp2_with fail
      go_ret
      exact ⟨rfl, hB.out⟩
  · obtain ⟨b1, o1, rfl, g1, hc1⟩ := h1.2.2.resolve_left h0
    obtain ⟨b2, o2, rfl, g2, hc2⟩ := h2.2.2.resolve_left h0
    have HC1 := Lib.hid hc1; have HC2 := Lib.hid hc2
    have G1 := Lib.hid g1; have G2 := Lib.hid g2
    clear h1 h2 hc1 hc2 g1 g2
    go_enter Try.func30, Try.ntmps30
    go_wp2_with fail
    go_loopw [5] (fun i wr => ∃ j : Nat, j ≤ len ∧ i = .int .i64 (j : Int) ∧ Hid (Below w.heap.size w wr)) (fun i _ => len - (intOf i).toNat)
    case atStart => exact ⟨0, Nat.zero_le _, rfl, Below.refl _ w⟩
    case round =>
      obtain ⟨j, hj, rfl, hB⟩ := hrel
      by_cases hlt : j < len
      · have d1 := (hB.out.cell (p := ⟨b1, o1 + j * 2, none⟩) G1.out).trans (HC1.out j hlt).1
        have d2 := (hB.out.cell (p := ⟨b1, o1 + j * 2 + 1, none⟩) G1.out).trans (HC1.out j hlt).2
        have d3 := (hB.out.cell (p := ⟨b2, o2 + j * 2, none⟩) G2.out).trans (HC2.out j hlt).1
        have d4 := (hB.out.cell (p := ⟨b2, o2 + j * 2 + 1, none⟩) G2.out).trans (HC2.out j hlt).2
        have HB := Lib.hid hB.out.drew
        clear hB
        generalize (W.getD j (0, ByteArray.empty)).1 = x at *
        generalize (W.getD j (0, ByteArray.empty)).2 = y at *
        go_wp2_with fail
        go_region
        all_goals
          go_wp2_with fail
          go_roundw
          case rel => exact ⟨j + 1, by omega, by go_num, HB⟩
          case measure => simp [intOf]; omega
      · obtain rfl : j = len := by omega
        go_wp2_with fail
        go_ret
        exact ⟨rfl, hB.out⟩
/-- An act's cells, and what its keep tells. -/
structure ActAt (w : World) (b off : Nat) (x : AVal) : Prop where
  c0 : w.cell? ⟨b, off, none⟩ = some (.int .i64 x.kind)
  c1 : w.cell? ⟨b, off + 1, none⟩ = some (.int .i64 x.at_)
  c2 : w.cell? ⟨b, off + 2, none⟩ = some (.int .u8 x.fil)
  c3 : w.cell? ⟨b, off + 3, none⟩ = some (.int .i64 x.size)
  c4 : w.cell? ⟨b, off + 4, none⟩ = some (.slice x.ka x.kl x.kc)
  lo : -9223372036854775808 ≤ x.at_
  hi : x.at_ ≤ 9223372036854775807
  kl : x.kl ≤ 9223372036854775807
  kb : BoolsAt w x.ka x.kl x.kb
  kn : 0 < x.kl → ∀ y, x.ka = some y → y.block < w.heap.size
def ActsAt (w : World) (a : Option Addr) (len : Nat) (f : Nat → AVal) : Prop := len ≤ 9223372036854775807 ∧ (len = 0 ∨ ∃ b off, a = some ⟨b, off, none⟩ ∧ b < w.heap.size ∧ ∀ i, i < len → ActAt w b (off + i * 5) (f i))
def FewP (w : World) (k len : Nat) (f : Nat → AVal) (e : Ending) (w' : World) : Prop := ∃ r, e = .returned (.bool r) ∧ (r = true → len ≤ k ∧ ∀ i, i < len → (f i).kl ≤ 100) ∧ w = w'
theorem few_ret {w : World} {k len : Nat} {f : Nat → AVal} (r : Bool) (h : r = true → len ≤ k ∧ ∀ i, i < len → (f i).kl ≤ 100) : FewP w k len f (.returned (.bool r)) w := ⟨r, rfl, h, rfl⟩
theorem few_any (a : Option Addr) (len cap k : Nat) (f : Nat → AVal) (w : World) (h : ActsAt w a len f) (hk : k ≤ 100) :
    Calls Try.prog 16 #[.slice a len cap, .int .i64 (k : Int)] w (FewP w k len f) := by
  have hl : len ≤ 9223372036854775807 := h.1
  by_cases h0 : len = 0
  · subst h0
    clear h
    go_enter Try.func16, Try.ntmps16
    go_wp2_with fail
    go_loop [5] (fun i => i = .int .i64 0) (fun i => 0)
    case atStart => rfl
    case round =>
      obtain rfl := hrel
      go_wp2_with fail
      go_ret
      exact few_ret _ fun _ => ⟨Nat.zero_le _, fun i hi => absurd hi (Nat.not_lt_zero _)⟩
  · obtain ⟨b, off, rfl, _, hc⟩ := h.2.resolve_left h0
    have HC := Lib.hid hc
    clear h hc
    go_enter Try.func16, Try.ntmps16
    go_wp2_with fail
    go_loop [5] (fun i => ∃ j : Nat, j ≤ len ∧ j ≤ k ∧ i = .int .i64 (j : Int) ∧ Hid (∀ i, i < j → (f i).kl ≤ 100)) (fun i => len - (intOf i).toNat)
    case atStart => exact ⟨0, Nat.zero_le _, Nat.zero_le _, rfl, fun i hi => absurd hi (Nat.not_lt_zero _)⟩
    case round =>
      obtain ⟨j, hj, hjk, rfl, hF⟩ := hrel
      by_cases hlt : j < len
      · by_cases hlk : j < k
        · have hx := HC.out j hlt
          have d4 := hx.c4
          have y1 := hx.kl
          have hF2 : (f j).kl ≤ 100 → ∀ i, i < j + 1 → (f i).kl ≤ 100 := fun h i hi => by
            by_cases e : i = j
            · subst e; exact h
            · exact hF.out i (by omega)
          have HF2 := Lib.hid hF2
          clear hx hF hF2
          generalize (f j).ka = ka at *
          generalize (f j).kc = kc at *
          obtain ⟨kl, hkl⟩ : ∃ kl, (f j).kl = kl := ⟨_, rfl⟩
          rw [hkl] at d4 y1 HF2
          clear hkl
          by_cases hkl : kl ≤ 100
          · have HF3 := Lib.hid (HF2.out hkl)
            clear HF2
            go_wp2_with fail
            go_round
            case rel => exact ⟨j + 1, by omega, by omega, by go_num, HF3⟩
            case measure => simp [intOf]; omega
          · have hkl' : 100 < kl := by omega
            go_wp2_with fail
            go_ret
            exact few_ret false fun h => by cases h
        · obtain rfl : j = k := by omega
          go_wp2_with fail
          go_ret
          exact few_ret (decide (len ≤ j)) fun h => by simp at h; omega
      · obtain rfl : j = len := by omega
        go_wp2_with fail
        go_ret
        exact few_ret true fun _ => ⟨hjk, hF.out⟩
end Go.Proofs.Ytklklcohbfnpjaa
