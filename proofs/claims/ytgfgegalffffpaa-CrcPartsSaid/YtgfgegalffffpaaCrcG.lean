/-
  The contracts of CrcSums, CrcParts and CrcTurned in the frame's form: each returns true; what was there stays as it was; nothing is asked.
-/
import Derived.Test.YtgfgegalffffpaaCrcE
import Derived.Test.YtgfgegalffffpaaCrcF
import Derived.OpenShut
set_option linter.unusedVariables false
namespace Go.Proofs.Ytgfgegalffffpaa
open Go.RowKit CrcP

theorem nat_u32 {a : Int} (h : (Lit.int .u32 a).wf = true) : ∃ n : BitVec 32, a = (n.toNat : Int) := by
  have h2 : 0 ≤ a ∧ a < 4294967296 := by
    simp [Lit.wf, IntKind.min, IntKind.max, IntKind.bits, IntKind.signed] at h
    omega
  exact ⟨BitVec.ofNat 32 a.toNat, by rw [BitVec.toNat_ofNat, Nat.mod_eq_of_lt (by omega)]; omega⟩
theorem nat_u16 {a : Int} (h : (Lit.int .u16 a).wf = true) : ∃ n : Nat, a = (n : Int) ∧ n < 65536 := by
  have h2 : 0 ≤ a ∧ a < 65536 := by
    simp [Lit.wf, IntKind.min, IntKind.max, IntKind.bits, IntKind.signed] at h
    omega
  exact ⟨a.toNat, by omega, by omega⟩
namespace Contract
theorem crcSums (a0 : ByteArray) (a1 : Int) (W : World) (w0 : a0.size ≤ maxLen) (w1 : (Lit.int .u32 a1).wf = true) :
    Calls Try.prog 3 #[.string a0, .int .u32 a1] W fun e w' => e = .returned (.bool true) ∧ Below W.heap.size W w' := by
  unfold maxLen at w0
  obtain ⟨n, rfl⟩ := nat_u32 w1
  by_cases h : a0.size ≤ 600
  · exact crcSums_walk a0 n W h
  · exact crcSums_long a0 _ W (by omega) (by omega)
theorem crcParts (a0 : ByteArray) (a1 a2 : Int) (W : World) (w0 : a0.size ≤ maxLen) (w1 : (Lit.int .u16 a1).wf = true) (w2 : (Lit.int .u32 a2).wf = true) :
    Calls Try.prog 4 #[.string a0, .int .u16 a1, .int .u32 a2] W fun e w' => e = .returned (.bool true) ∧ Below W.heap.size W w' := by
  unfold maxLen at w0
  obtain ⟨n, rfl⟩ := nat_u32 w2
  obtain ⟨y, rfl, hy⟩ := nat_u16 w1
  by_cases h : a0.size ≤ 600
  · exact crcParts_walk a0 y n W h hy
  · exact crcParts_long a0 _ _ W (by omega) (by omega)
theorem crcTurned (a0 : ByteArray) (a1 a2 : Int) (W : World) (w0 : a0.size ≤ maxLen) (w1 : (Lit.int .u16 a1).wf = true) (w2 : (Lit.int .u32 a2).wf = true) :
    Calls Try.prog 5 #[.string a0, .int .u16 a1, .int .u32 a2] W fun e w' => e = .returned (.bool true) ∧ Below W.heap.size W w' := by
  unfold maxLen at w0
  obtain ⟨n, rfl⟩ := nat_u32 w2
  obtain ⟨y, rfl, hy⟩ := nat_u16 w1
  by_cases h0 : a0.size = 0
  · exact crcTurned_none a0 _ _ W h0
  · by_cases h : a0.size ≤ 600
    · exact crcTurned_walk a0 y n.toNat W (by omega) h hy n.isLt
    · exact crcTurned_long a0 _ _ W (by omega) (by omega)
end Contract
end Go.Proofs.Ytgfgegalffffpaa
