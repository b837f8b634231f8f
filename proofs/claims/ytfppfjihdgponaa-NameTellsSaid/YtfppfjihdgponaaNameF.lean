/-
  The contract of the document's Below: any numbers; the world is as it was, but for how often Go's order was drawn.
-/
import Derived.Test.YtfppfjihdgponaaNameC
import Derived.Deep.QuietTactic
import Derived.BigQuiet
set_option linter.unusedVariables false
namespace Go.Proofs.Ytfppfjihdgponaa
open Go.RowKit NameP

theorem lessV_same {xs ys : List Nat} {k x : Nat} (hk : k < xs.length) (hk2 : k < ys.length) (hx : xs.getD k 0 = x) (hy : ys.getD k 0 = x) : lessV (xs.drop k) (ys.drop k) = lessV (xs.drop (k + 1)) (ys.drop (k + 1)) := by
  rw [List.drop_eq_getElem_cons hk, List.drop_eq_getElem_cons hk2, lessV]
  have e1 : xs.getD k 0 = xs[k] := by simp [List.getD, hk]
  have e2 : ys.getD k 0 = ys[k] := by simp [List.getD, hk2]
  rw [← e1, ← e2, hx, hy]
  simp
theorem lessV_diff {xs ys : List Nat} {k x y : Nat} (hk : k < xs.length) (hk2 : k < ys.length) (hx : xs.getD k 0 = x) (hy : ys.getD k 0 = y) (hne : x ≠ y) : lessV (xs.drop k) (ys.drop k) = decide (x < y) := by
  rw [List.drop_eq_getElem_cons hk, List.drop_eq_getElem_cons hk2, lessV]
  have e1 : xs.getD k 0 = xs[k] := by simp [List.getD, hk]
  have e2 : ys.getD k 0 = ys[k] := by simp [List.getD, hk2]
  rw [← e1, ← e2, hx, hy]
  simp [hne]
theorem lessV_end {xs ys : List Nat} {k : Nat} (h : ¬ k < xs.length ∨ ¬ k < ys.length) (hk : k ≤ xs.length) (hk2 : k ≤ ys.length) : lessV (xs.drop k) (ys.drop k) = decide (xs.length < ys.length) := by
  by_cases h2 : k < ys.length
  · have h1 : ¬ k < xs.length := by omega
    rw [show xs.drop k = [] from List.drop_eq_nil_of_le (by omega), List.drop_eq_getElem_cons h2, lessV]
    symm; simp; omega
  · rw [show ys.drop k = [] from List.drop_eq_nil_of_le (by omega)]
    have : ¬ xs.length < ys.length := by omega
    cases xs.drop k <;> simp [lessV, this]
theorem rbelow_any (a b : Option Addr) (la lb ca cb : Nat) (xs ys : List Nat) (w : World) (ha : NatsAt w a la xs) (hb : NatsAt w b lb ys) (hla : la ≤ 4398046511104) (hlb : lb ≤ 4398046511104) :
    Calls Try.prog 20 #[.slice a la ca, .slice b lb cb] w fun e w' => e = .returned (.bool (lessV xs ys)) ∧ Below w.heap.size w w' := by
  have HA := Lib.hid ha; have HB := Lib.hid hb; clear ha hb
  obtain ⟨v, hv⟩ : ∃ v, lessV xs ys = v := ⟨_, rfl⟩
  rw [hv]
  have HV := Lib.hid hv; clear hv
  go_enter Try.func20, Try.ntmps20
  go_wp2
  go_loopw [5] (fun i wr => ∃ k nd : Nat, k ≤ la ∧ k ≤ lb ∧ i = .int .i64 k ∧ wr = w.drewN nd ∧ Hid (v = lessV (xs.drop k) (ys.drop k))) (fun i _ => la - (intOf i).toNat)
  case atStart => exact ⟨0, 0, Nat.zero_le _, Nat.zero_le _, rfl, rfl, HV.out.symm⟩
  case round =>
    obtain ⟨k, nd, hk, hk2, rfl, rfl, hd⟩ := hrel
    by_cases hlk : k < la
    · by_cases hlk2 : k < lb
      · rcases HA.out.2 with h0 | ⟨ba, rfl, _, hca⟩
        · omega
        rcases HB.out.2 with h0 | ⟨bb, rfl, _, hcb⟩
        · omega
        have hx := hca k hlk
        have hy := hcb k hlk2
        obtain ⟨x, ex⟩ : ∃ x, xs.getD k 0 = x := ⟨_, rfl⟩
        obtain ⟨y, ey⟩ : ∃ y, ys.getD k 0 = y := ⟨_, rfl⟩
        rw [ex] at hx; rw [ey] at hy
        have hi0 : (0 : Int) ≤ k := by omega
        have hi1 : (k : Int) < la := by omega
        have hi2 : (k : Int) < lb := by omega
        clear hca hcb
        by_cases hxy : x = y
        · subst hxy
          have HD := Lib.hid (hd.out.trans (lessV_same (by rw [HA.out.1]; exact hlk) (by rw [HB.out.1]; exact hlk2) ex ey))
          clear ex ey hd
          go_wp2
          go_quiet (fail)
          go_wp2
          go_roundw
          case rel => exact ⟨k + 1, _, by omega, by omega, by go_num, rfl, HD.out⟩
          case measure => simp [intOf]; omega
        · have HD := Lib.hid (hd.out.trans (lessV_diff (by rw [HA.out.1]; exact hlk) (by rw [HB.out.1]; exact hlk2) ex ey hxy))
          have hne : ((x : Int) != (y : Int)) = true := bne_iff_ne.2 (by omega)
          have hne2 : ((x : Int) == (y : Int)) = false := beq_eq_false_iff_ne.2 (by omega)
          clear ex ey hd hxy
          go_wp2
          go_quiet (fail)
          go_wp2
          go_quiet (fail)
          go_wp2
          go_ret
          refine ⟨ret_bool (by rw [HD.out]; try simp), ?_⟩
          exact below_drewN (below_drewN (below_drewN (Below.refl _ _) _) _) _
      · have HD := Lib.hid (hd.out.trans (lessV_end (by rw [HB.out.1]; exact .inr hlk2) (by rw [HA.out.1]; exact hk) (by rw [HB.out.1]; exact hk2)))
        have HL : Hid (xs.length = la ∧ ys.length = lb) := ⟨HA.out.1, HB.out.1⟩
        clear hd
        go_wp2
        go_ret
        refine ⟨ret_bool (by rw [HD.out, HL.out.1, HL.out.2]; try simp), ?_⟩
        exact below_drewN (Below.refl _ _) _
    · have HD := Lib.hid (hd.out.trans (lessV_end (by rw [HA.out.1]; exact .inl hlk) (by rw [HA.out.1]; exact hk) (by rw [HB.out.1]; exact hk2)))
      have HL : Hid (xs.length = la ∧ ys.length = lb) := ⟨HA.out.1, HB.out.1⟩
      clear hd
      go_wp2
      go_ret
      refine ⟨ret_bool (by rw [HD.out, HL.out.1, HL.out.2]; try simp), ?_⟩
      exact below_drewN (Below.refl _ _) _
end Go.Proofs.Ytfppfjihdgponaa
