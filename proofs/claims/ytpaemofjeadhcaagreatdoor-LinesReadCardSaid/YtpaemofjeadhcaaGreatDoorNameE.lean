/-
  The contracts of the document's octets and Fold: any text; what was there stays as it was.
-/
import Derived.Test.YtpaemofjeadhcaaGreatDoorNameD
set_option linter.unusedVariables false
set_option maxRecDepth 4000
namespace Go.Proofs.YtpaemofjeadhcaaGreatDoor.Name
open Go.RowKit NameP

theorem one_byte (w : World) (x : Int) : (convert 51 9 (.slice (some ⟨w.heap.size, 0, none⟩) 1 1)).run Tryz.prog (w.alloc (.cells #[.int .u8 x] 5)) = .ok (.string ⟨#[UInt8.ofNat x.toNat]⟩) (w.alloc (.cells #[.int .u8 x] 5)) := by
  have h := run_convert_bytes_arg (P := Tryz.prog) (w.alloc (.cells #[.int .u8 x] 5)) 51 5 Tryz.underlying51 Tryz.underlying5 w.heap.size 0 1 1 [x] rfl (fun i hi => by
    obtain rfl : i = 0 := by omega
    rw [Nat.zero_add, World.cell?_alloc_new]
    rfl) 9 Tryz.underlying9
  exact h
theorem two_bytes (w : World) (x y : Int) : (convert 51 9 (.slice (some ⟨w.heap.size, 0, none⟩) 2 2)).run Tryz.prog (w.alloc (.cells #[.int .u8 x, .int .u8 y] 5)) = .ok (.string ⟨#[UInt8.ofNat x.toNat, UInt8.ofNat y.toNat]⟩) (w.alloc (.cells #[.int .u8 x, .int .u8 y] 5)) := by
  have h := run_convert_bytes_arg (P := Tryz.prog) (w.alloc (.cells #[.int .u8 x, .int .u8 y] 5)) 51 5 Tryz.underlying51 Tryz.underlying5 w.heap.size 0 2 2 [x, y] rfl (fun i hi => by
    obtain rfl | rfl : i = 0 ∨ i = 1 := by omega
    · rw [Nat.zero_add, World.cell?_alloc_new]
      rfl
    · rw [Nat.zero_add, World.cell?_alloc_new]
      rfl) 9 Tryz.underlying9
  exact h
theorem str_eq {s : ByteArray} {l : List UInt8} (h : s.data.toList = l) : s = ⟨l.toArray⟩ := by subst h; cases s; simp
theorem ret_fold {s : ByteArray} {f : Int} {v : List UInt8 × Int} (h : v = (s.data.toList, f)) : Ending.returned (.tuple #[.string s, .int .i64 f]) = .returned (.tuple #[.string ⟨v.1.toArray⟩, .int .i64 v.2]) := by
  subst h
  rw [← str_eq (s := s) rfl]

/-- What is told of the runes ahead of place k, folded. -/
def FoldTo (xs : List Nat) (k : Nat) (acc : List UInt8) : Prop := acc = encs ((xs.take k).map low) ∧ allNr ((xs.take k).map low) = true
theorem take_snoc (xs : List Nat) (k : Nat) (h : k < xs.length) : xs.take (k + 1) = xs.take k ++ [xs.getD k 0] := by
  rw [List.take_succ_eq_append_getElem h]; simp [List.getD, h]
theorem foldTo_step {xs : List Nat} {k : Nat} {acc t : List UInt8} (h : FoldTo xs k acc) (hk : k < xs.length) (hn : nr ((low (xs.getD k 0) : Nat) : Int) = true) (ht : t = Lib.encodeRune ((low (xs.getD k 0) : Nat) : Int)) : FoldTo xs (k + 1) (acc ++ t) := by
  obtain ⟨h1, h2⟩ := h
  unfold FoldTo
  rw [take_snoc xs k hk, List.map_append]
  constructor
  · rw [h1, ht]
    unfold encs
    rw [List.flatMap_append]
    simp
  · unfold allNr at *
    rw [List.all_append, h2]
    simpa using hn
theorem foldV_bad {xs : List Nat} {k : Nat} (hk : k < xs.length) (hn : nr ((low (xs.getD k 0) : Nat) : Int) = false) : foldV xs = ([], 7) := by
  apply foldV_no
  apply fitV_no
  left
  unfold allNr
  rw [List.all_map]
  rw [List.all_eq_false]
  refine ⟨xs.getD k 0, ?_, by show ¬ nr ((low (xs.getD k 0) : Nat) : Int) = true; rw [hn]; simp⟩
  simp [List.getD, hk]
theorem foldTo_end {xs : List Nat} {k : Nat} {acc : List UInt8} (h : FoldTo xs k acc) (hk : xs.length ≤ k) : acc = encs (xs.map low) := by
  rw [h.1, List.take_of_length_le hk]
theorem low_int (x : Nat) (h : x ≠ 215) : ((low x : Nat) : Int) = x + 32 ∧ (((65 : Int) ≤ x ∧ (x : Int) ≤ 90) ∨ ((192 : Int) ≤ x ∧ (x : Int) ≤ 222)) ∨ ((low x : Nat) : Int) = x ∧ ((x : Int) < 65 ∨ ((91 : Int) ≤ x ∧ (x : Int) ≤ 191) ∨ (222 : Int) < x) := by
  rcases low_cases x with ⟨e, _⟩ | ⟨e, _⟩ | ⟨e, _⟩ | ⟨e, _⟩ | ⟨e, _⟩ | ⟨e, _⟩ | ⟨e, _⟩ <;> omega
theorem foldV_bad0 {l : List UInt8} (h : (rn l).all good = false) : foldV (vals l) = ([], 7) := by
  apply foldV_no
  cases hf : fitV ((vals l).map low) with
  | false => rfl
  | true => rw [good_of_vals l (map_low_bad (fitV_iff.1 hf).1)] at h; cases h
theorem foldV_end {xs : List Nat} {l : List UInt8} {b : Bool} (hl : l = encs (xs.map low)) (hb : b = fitV (xs.map low)) : foldV xs = if b then (l, 0) else ([], 7) := by
  subst hl; subst hb; rfl
end Go.Proofs.YtpaemofjeadhcaaGreatDoor.Name
