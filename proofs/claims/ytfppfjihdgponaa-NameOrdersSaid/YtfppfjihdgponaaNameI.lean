/-
  The contracts of both Finds: any texts; the world is as it was, but for how often Go's order was drawn.
-/
import Derived.Test.YtfppfjihdgponaaNameC
import Derived.Deep.QuietTactic
import Derived.BigQuiet
set_option linter.unusedVariables false
namespace Go.Proofs.Ytfppfjihdgponaa
open Go.RowKit NameP

/-- A slice of strings told of its first 'len' cells. -/
def StrsAt (w : World) (a : Option Addr) (len : Nat) (ss : List ByteArray) : Prop :=
  ss.length = len ∧ len ≤ 9223372036854775807 ∧ (len = 0 ∨ ∃ b off, a = some ⟨b, off, none⟩ ∧ b < w.heap.size ∧ ∀ i, i < len → w.cell? ⟨b, off + i, none⟩ = some (.string (ss.getD i ByteArray.empty)))
theorem StrsAt.keep {w w' : World} {a : Option Addr} {len : Nat} {ss : List ByteArray} (h : StrsAt w a len ss) (hb : Below w.heap.size w w') : StrsAt w' a len ss := by
  refine ⟨h.1, h.2.1, ?_⟩
  rcases h.2.2 with h0 | ⟨b, off, rfl, hlt, hc⟩
  · exact .inl h0
  · exact .inr ⟨b, off, rfl, by have := hb.size; omega, fun i hi => (hb.cell (p := ⟨b, off + i, none⟩) hlt).trans (hc i hi)⟩
/-- How many come ahead of the first that is not less, and is that one the text? -/
def findV (s : ByteArray) (k : Nat) : List ByteArray → Nat × Bool
  | [] => (k, false)
  | t :: r => if Op.bytesLess t.toList s.toList then findV s (k + 1) r else (k, t.toList == s.toList)
theorem findV_less {s t : ByteArray} {ss : List ByteArray} {k : Nat} (hk : k < ss.length) (ht : ss.getD k ByteArray.empty = t) (h : Op.bytesLess t.toList s.toList = true) : findV s k (ss.drop k) = findV s (k + 1) (ss.drop (k + 1)) := by
  rw [List.drop_eq_getElem_cons hk, findV]
  have e : ss.getD k ByteArray.empty = ss[k] := by simp [List.getD, hk]
  rw [← e, ht, h, if_pos rfl]
theorem findV_stop {s t : ByteArray} {ss : List ByteArray} {k : Nat} (hk : k < ss.length) (ht : ss.getD k ByteArray.empty = t) (h : Op.bytesLess t.toList s.toList = false) : findV s k (ss.drop k) = (k, t.toList == s.toList) := by
  rw [List.drop_eq_getElem_cons hk, findV]
  have e : ss.getD k ByteArray.empty = ss[k] := by simp [List.getD, hk]
  rw [← e, ht, h]; rfl
theorem findV_end {s : ByteArray} {ss : List ByteArray} {k : Nat} (hk : ¬ k < ss.length) : findV s k (ss.drop k) = (k, false) := by
  rw [List.drop_eq_nil_of_le (by omega)]; rfl
theorem ret_find {n : Nat} {b : Bool} {v : Nat × Bool} (h : v = (n, b)) : Ending.returned (.tuple #[.int .i64 (n : Nat), .bool b]) = .returned (.tuple #[.int .i64 (v.1 : Nat), .bool v.2]) := by subst h; rfl
theorem find_any (a : Option Addr) (len cap : Nat) (ss : List ByteArray) (s : ByteArray) (w : World) (h : StrsAt w a len ss) :
    Calls Try.prog 17 #[.slice a len cap, .string s] w fun e w' => e = .returned (.tuple #[.int .i64 ((findV s 0 ss).1 : Nat), .bool (findV s 0 ss).2]) ∧ Below w.heap.size w w' := by
  obtain ⟨v, hv⟩ : ∃ v, findV s 0 ss = v := ⟨_, rfl⟩
  rw [hv]
  have hbig := h.2.1
  have HA := Lib.hid h; have HV := Lib.hid hv; clear h hv
  go_enter Try.func17, Try.ntmps17
  go_wp2
  go_loop [10] (fun i => ∃ k : Nat, k ≤ len ∧ i = .int .i64 k ∧ Hid (v = findV s k (ss.drop k))) (fun i => len - (intOf i).toNat)
  case atStart => exact ⟨0, Nat.zero_le _, rfl, HV.out.symm⟩
  case round =>
    obtain ⟨k, hk, rfl, hd⟩ := hrel
    by_cases hlk : k < len
    · rcases HA.out.2.2 with h0 | ⟨b, off, rfl, _, hc⟩
      · omega
      have hcell := hc k hlk
      obtain ⟨t, ht⟩ : ∃ t, ss.getD k ByteArray.empty = t := ⟨_, rfl⟩
      rw [ht] at hcell
      clear hc
      cases hls : Op.bytesLess t.toList s.toList with
      | true =>
        have HD := Lib.hid (hd.out.trans (findV_less (by rw [HA.out.1]; exact hlk) ht hls))
        clear ht hd
        go_wp2
        go_round
        case rel => exact ⟨k + 1, by omega, by go_num, HD.out⟩
        case measure => simp [intOf]; omega
      | false =>
        have HD := Lib.hid (hd.out.trans (findV_stop (by rw [HA.out.1]; exact hlk) ht hls))
        clear ht hd
        go_wp2
        go_ret2
        exact ⟨ret_find HD.out, Below.refl _ _⟩
    · obtain rfl : k = len := by omega
      have HD := Lib.hid (hd.out.trans (findV_end (by rw [HA.out.1]; exact hlk)))
      clear hd
      go_wp2
      go_ret2
      exact ⟨ret_find HD.out, Below.refl _ _⟩
theorem rfind_any (a : Option Addr) (len cap : Nat) (ss : List ByteArray) (s : ByteArray) (w : World) (h : StrsAt w a len ss) :
    Calls Try.prog 18 #[.slice a len cap, .string s] w fun e w' => e = .returned (.tuple #[.int .i64 ((findV s 0 ss).1 : Nat), .bool (findV s 0 ss).2]) ∧ Below w.heap.size w w' := by
  obtain ⟨v, hv⟩ : ∃ v, findV s 0 ss = v := ⟨_, rfl⟩
  rw [hv]
  have hbig := h.2.1
  have HA := Lib.hid h; have HV := Lib.hid hv; clear h hv
  go_enter Try.func18, Try.ntmps18
  go_wp2
  go_loop [6] (fun i => ∃ k : Nat, k ≤ len ∧ i = .int .i64 k ∧ Hid (v = findV s k (ss.drop k))) (fun i => len - (intOf i).toNat)
  case atStart => exact ⟨0, Nat.zero_le _, rfl, HV.out.symm⟩
  case round =>
    obtain ⟨k, hk, rfl, hd⟩ := hrel
    by_cases hlk : k < len
    · rcases HA.out.2.2 with h0 | ⟨b, off, rfl, _, hc⟩
      · omega
      have hcell := hc k hlk
      obtain ⟨t, ht⟩ : ∃ t, ss.getD k ByteArray.empty = t := ⟨_, rfl⟩
      rw [ht] at hcell
      clear hc
      cases hls : Op.bytesLess t.toList s.toList with
      | true =>
        have HD := Lib.hid (hd.out.trans (findV_less (by rw [HA.out.1]; exact hlk) ht hls))
        clear ht hd
        go_wp2
        go_round
        case rel => exact ⟨k + 1, by omega, by go_num, HD.out⟩
        case measure => simp [intOf]; omega
      | false =>
        have HD := Lib.hid (hd.out.trans (findV_stop (by rw [HA.out.1]; exact hlk) ht hls))
        have hi0 : (0 : Int) ≤ k := by omega
        have hi1 : (k : Int) < len := by omega
        clear ht hd
        go_wp2
        go_quiet (fail)
        go_wp2
        go_ret2
        exact ⟨ret_find HD.out, below_drewN (Below.refl _ _) _⟩
    · obtain rfl : k = len := by omega
      have HD := Lib.hid (hd.out.trans (findV_end (by rw [HA.out.1]; exact hlk)))
      have hdec : decide ((k : Int) < (k : Int)) = false := by simp
      have hdec2 : decide (k < k) = false := by simp
      clear hd
      go_wp2
      go_quiet (fail)
      go_wp2
      go_ret2
      exact ⟨ret_find HD.out, below_drewN (Below.refl _ _) _⟩
end Go.Proofs.Ytfppfjihdgponaa
