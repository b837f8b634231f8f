/-
  The contract of the laws' own 'awake': the chapter's examples; what was there stays as it was.
-/
import Derived.Test.YtfppfjihdgponaaNameH
import Derived.Test.YtfppfjihdgponaaNameI
set_option linter.unusedVariables false
namespace Go.Proofs.Ytfppfjihdgponaa
open Go.RowKit NameP

theorem fold_is (s z : ByteArray) (f : Int) (w : World) (hs : s.size ≤ 4398046511104) (h : foldV (vals s.data.toList) = (z.data.toList, f)) :
    Calls Try.prog 15 #[.string s] w fun e w' => e = .returned (.tuple #[.string z, .int .i64 f]) ∧ Below w.heap.size w w' := by
  have h2 := fold_any s w hs
  rw [h, ← str_eq (s := z) rfl] at h2
  exact h2
theorem rfold_is (s z : ByteArray) (f : Int) (w : World) (hs : s.size ≤ 4398046511104) (h : foldV (vals s.data.toList) = (z.data.toList, f)) :
    Calls Try.prog 16 #[.string s] w fun e w' => e = .returned (.tuple #[.string z, .int .i64 f]) ∧ Below w.heap.size w w' := by
  have h2 := rfold_any s w hs
  rw [h, ← str_eq (s := z) rfl] at h2
  exact h2
theorem count_is (s : ByteArray) (n : Int) (w : World) (hs : s.size ≤ 4398046511104) (h : countV s.data.toList = n) :
    Calls Try.prog 11 #[.string s] w fun e w' => e = .returned (.int .i64 n) ∧ Below w.heap.size w w' := by
  have h2 := count_any s w hs
  rw [h] at h2
  exact h2
theorem fit_is (s : ByteArray) (b : Bool) (w : World) (hs : s.size ≤ 4398046511104) (h : fitV (vals s.data.toList) = b) :
    Calls Try.prog 13 #[.string s] w fun e w' => e = .returned (.bool b) ∧ Below w.heap.size w w' := by
  have h2 := fit_any s w hs
  rw [h] at h2
  exact h2
theorem rune_is (c : Int) (b : Bool) (w : World) (h : nr c = b) : Calls Try.prog 9 #[.int .i32 c] w fun e w' => e = .returned (.bool b) ∧ w = w' := by
  have h2 := rune_any c w
  rw [h] at h2
  exact h2
theorem find_is (a : Option Addr) (len cap : Nat) (ss : List ByteArray) (s : ByteArray) (n : Int) (b : Bool) (w : World) (h : StrsAt w a len ss) (hf : (((findV s 0 ss).1 : Nat) : Int) = n ∧ (findV s 0 ss).2 = b) :
    Calls Try.prog 17 #[.slice a len cap, .string s] w fun e w' => e = .returned (.tuple #[.int .i64 n, .bool b]) ∧ Below w.heap.size w w' := by
  have h2 := find_any a len cap ss s w h
  rw [hf.1, hf.2] at h2
  exact h2
theorem strs_two (w : World) (x y : ByteArray) : StrsAt (w.alloc (.cells #[.string x, .string y] 9)) (some ⟨w.heap.size, 0, none⟩) 2 [x, y] := by
  refine ⟨rfl, by omega, .inr ⟨w.heap.size, 0, rfl, by simp, fun i hi => ?_⟩⟩
  obtain rfl | rfl : i = 0 ∨ i = 1 := by omega
  · rw [Nat.zero_add, World.cell?_alloc_new]; rfl
  · rw [Nat.zero_add, World.cell?_alloc_new]; rfl
theorem strs_one (w : World) (x : ByteArray) : StrsAt (w.alloc (.cells #[.string x] 9)) (some ⟨w.heap.size, 0, none⟩) 1 [x] := by
  refine ⟨rfl, by omega, .inr ⟨w.heap.size, 0, rfl, by simp, fun i hi => ?_⟩⟩
  obtain rfl : i = 0 := by omega
  rw [Nat.zero_add, World.cell?_alloc_new]; rfl
theorem below_keep {B : Nat} {a b c : World} (h : Below B a b) (k : Below b.heap.size b c) (hB : B ≤ b.heap.size) : Below B a c := h.trans (k.mono hB)
theorem ex1 : foldV (vals [195, 132, 98]) = ([195, 164, 98], 0) := by decide +kernel
theorem ex2 : foldV (vals [45, 97]) = ([], 7) := by decide +kernel
theorem ex3 : countV [195, 164, 98] = 2 := by decide +kernel
theorem ex4 : fitV (vals [45, 97]) = false := by decide +kernel
theorem ex5 : fitV (vals [195, 164, 98]) = true := by decide +kernel
theorem ex6 : (((findV ⟨#[98]⟩ 0 [⟨#[97]⟩, ⟨#[99]⟩]).1 : Nat) : Int) = 1 ∧ (findV ⟨#[98]⟩ 0 [⟨#[97]⟩, ⟨#[99]⟩]).2 = false := by simp [findV, ByteArray.toList_eq, Op.bytesLess]
theorem awake_any (w : World) : Calls Try.prog 8 #[] w fun e w' => e = .returned (.bool true) ∧ Below w.heap.size w w' := by
  go_enter Try.func8, Try.ntmps8
  go_wp2_with fail
  refine (fold_is _ ⟨#[195, 164, 98]⟩ 0 _ (by decide) ex1).mono ?_
  rintro e w1 ⟨rfl, hb1⟩
  go_wp2_with fail
  refine (fold_is _ ⟨#[]⟩ 7 _ (by decide) ex2).mono ?_
  rintro e w2 ⟨rfl, hb⟩
  have hb2 := below_keep hb1 hb hb1.size
  clear hb hb1
  go_wp2_with fail
  refine (find_is _ _ _ [⟨#[97]⟩, ⟨#[99]⟩] _ 1 false _ (strs_two _ _ _) ex6).mono ?_
  rintro e w3 ⟨rfl, hb⟩
  have hb3 := below_keep (hb2.alloc hb2.size _) hb (by have := hb2.size; simp; omega)
  clear hb hb2
  go_wp2_with fail
  refine (count_is _ 2 _ (by decide) ex3).mono ?_
  rintro e w4 ⟨rfl, hb⟩
  have hb4 := below_keep hb3 hb hb3.size
  clear hb hb3
  go_wp2_with fail
  refine (fit_is _ false _ (by decide) ex4).mono ?_
  rintro e w5 ⟨rfl, hb⟩
  have hb5 := below_keep hb4 hb hb4.size
  clear hb hb4
  go_wp2_with fail
  refine (rune_is 45 true _ rfl).mono ?_
  rintro e w6 ⟨rfl, rfl⟩
  go_wp2_with fail
  refine (fit_is _ true _ (by decide) ex5).mono ?_
  rintro e w6 ⟨rfl, hb⟩
  have hb6 := below_keep hb5 hb hb5.size
  go_wp2_with fail
  go_ret
  exact ⟨rfl, hb6⟩
end Go.Proofs.Ytfppfjihdgponaa
