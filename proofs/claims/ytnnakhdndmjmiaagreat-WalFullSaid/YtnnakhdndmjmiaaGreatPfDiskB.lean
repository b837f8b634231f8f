/-
  The contracts of the fuse's operate and renew, of Fuse, torn, each, the closure of Crash, and Write of both disks: any disk, any numbers.
-/
import Derived.Test.YtnnakhdndmjmiaaGreatPfDiskA
import Derived.Maps.AppendAt
import Derived.WalkSmall
set_option linter.unusedVariables false
set_option maxRecDepth 4000
namespace Go.Proofs.YtnnakhdndmjmiaaGreat.Disk
open Go.RowKit DiskP

theorem operate_any (b : Nat) (st : St) (z : Int) (x3 x4 : Value) (w : World) (h : w.heap[b]? = some (.cells #[.int .i64 (st.ops : Int), .int .i64 z, .bool st.dead, x3, x4] 80 (0, 0)))
    (hz : z.toNat = st.left ∧ -9223372036854775808 ≤ z ∧ z ≤ 9223372036854775807) (ho : st.ops ≤ 4611686018427387904) :
    Calls Tryz.prog 143 #[.pointer (some ⟨b, 0, none⟩)] w fun e w' => e = .returned (.bool (!opd st)) ∧
      (∃ z' : Int, w'.heap[b]? = some (.cells #[.int .i64 ((op st).ops : Int), .int .i64 z', .bool (op st).dead, x3, x4] 80 (0, 0)) ∧ (z'.toNat = (op st).left ∧ -9223372036854775808 ≤ z' ∧ z' ≤ 9223372036854775807)) ∧ w.grownBy w' (some b) := by
  have c0 : w.cell? ⟨b, 0, none⟩ = some (.int .i64 (st.ops : Int)) := cell_of_heap h
  have c1 : w.cell? ⟨b, 1, none⟩ = some (.int .i64 z) := cell_of_heap h
  have c2 : w.cell? ⟨b, 2, none⟩ = some (.bool st.dead) := cell_of_heap h
  have f0 : w.frozen? ⟨b, 0, none⟩ = false := frozen_of_heap h
  have f1 : w.frozen? ⟨b, 1, none⟩ = false := frozen_of_heap h
  have f2 : w.frozen? ⟨b, 2, none⟩ = false := frozen_of_heap h
  obtain ⟨S, W, left, ops, dead⟩ := st
  simp only [op, opd] at *
  have HH := Lib.hid h
  obtain ⟨z0, z1, z2⟩ := hz
  clear h
  by_cases h1 : z ≤ 0
  · have hl : left = 0 := by omega
    subst hl
    have HZ := Lib.hid z0
    clear z0
    simp only [Nat.lt_irrefl, if_false]
    go_enter Tryz.func143, Tryz.ntmps143
    go_wp2
    go_ret
    refine ⟨rfl, ⟨z, ?_, HZ.out, z1, z2⟩, Lib.grownBy_setCell w b 0 _⟩
    exact Lib.heap_setCell_same (i := 0) HH.out _
  · by_cases h2 : z = 1
    · subst h2
      have hl : left = 1 := by omega
      subst hl
      clear z0 h1
      simp only [Nat.lt_one_iff, if_true]
      go_enter Tryz.func143, Tryz.ntmps143
      go_wp2
      go_ret
      refine ⟨rfl, ⟨0, ?_, rfl, by decide, by decide⟩, ((Lib.grownBy_setCell w b 0 _).trans (Lib.grownBy_setCell _ b 1 _)).trans (Lib.grownBy_setCell _ b 2 _)⟩
      exact Lib.heap_setCell_same (i := 2) (Lib.heap_setCell_same (i := 1) (Lib.heap_setCell_same (i := 0) HH.out _) _) _
    · have hz2 : 2 ≤ z := by omega
      have hd : (z - 1 == 0) = false := beq_eq_false_iff_ne.2 (by omega)
      have e1 : 0 < left := by omega
      have e2 : left ≠ 1 := by omega
      have hl : (z - 1).toNat = left - 1 := by omega
      have HZ := Lib.hid hl
      simp only [if_pos e1, if_neg e2]
      clear z0 h1 h2 e1 e2 hl
      go_enter Tryz.func143, Tryz.ntmps143
      go_wp2
      go_ret
      refine ⟨rfl, ⟨z - 1, ?_, HZ.out, by omega, by omega⟩, ((Lib.grownBy_setCell w b 0 _).trans (Lib.grownBy_setCell _ b 1 _)).trans (Lib.grownBy_setCell _ b 2 _)⟩
      exact Lib.heap_setCell_same (i := 2) (Lib.heap_setCell_same (i := 1) (Lib.heap_setCell_same (i := 0) HH.out _) _) _
/-- A step of the program's disk. -/
def Did (w : World) (L : List Nat) (b : Nat) (st' : St) (v : Value) (e : Ending) (w' : World) : Prop := e = .returned v ∧ ∃ L', Dk w' L' b st' ∧ Upd L w w' L'
theorem each_any (i : Int) (w : World) : Calls Tryz.prog 145 #[.int .i64 i] w fun e w' => e = .returned (.bool true) ∧ w = w' := by
  go_enter Tryz.func145, Tryz.ntmps145
  go_wp2
  go_ret
  exact ⟨rfl, rfl⟩
end Go.Proofs.YtnnakhdndmjmiaaGreat.Disk
