/-
  The law StampOpens, walked.
-/
import Derived.Test.YtacmnejdellbbaaStampI
set_option linter.unusedVariables false
namespace Go.Proofs.Ytacmnejdellbbaa
open Go.RowKit CrcP StampP

theorem opV_form (o : Option (Nat × Nat × Nat × List UInt8)) : ∃ (n i c : Int) (t : ByteArray) (er : Int), opV o = .tuple #[.agg #[.int .i64 n, .int .i64 i, .int .i64 c], .string t, .int .i64 er] := by
  rcases o with _ | ⟨n, i, c, s⟩
  · exact ⟨0, 0, 0, ⟨#[]⟩, 12, rfl⟩
  · exact ⟨n, i, c, str s, 0, rfl⟩
theorem stampOpens_long (s : ByteArray) (W : World) (h : 300 < s.size) (hs : s.size ≤ 9223372036854775807) :
    Calls Try.prog 4 #[.string s] W fun e w' => e = .returned (.bool true) ∧ Below W.heap.size W w' := by
  go_enter Try.func4, Try.ntmps4
  go_wp2_with fail
  refine (awake_any W).mono ?_
  rintro e w' ⟨rfl, hb⟩
  go_wp2_with fail
  go_ret
  exact ⟨rfl, hb⟩
set_option maxHeartbeats 4000000 in
theorem stampOpens_walk (s : ByteArray) (W : World) (h : s.size ≤ 300) :
    Calls Try.prog 4 #[.string s] W fun e w' => e = .returned (.bool true) ∧ Below W.heap.size W w' := by
  have k1 := fun w => open_any s w (by omega)
  have k2 := fun w => ropen_any s w (by omega)
  obtain ⟨n, i, c, t, er, ho⟩ := opV_form (opn s.data.toList)
  rw [ho] at k1 k2
  clear ho
  have k3 := fun w => blank_any s w
  have k4 := fun w => rblank_any w
  generalize str zeros = bl at *
  obtain ⟨q, hq⟩ : ∃ q, (s.toList == bl.toList) = q := ⟨_, rfl⟩
  rw [hq] at k3
  have K1 := Lib.hid k1; have K2 := Lib.hid k2; have K3 := Lib.hid k3; have K4 := Lib.hid k4
  clear k1 k2 k3 k4
  go_enter Try.func4, Try.ntmps4
  go_wp2_with fail
  refine (K1.out _).mono ?_
  rintro e w1 ⟨rfl, hb1⟩
  go_wp2_with fail
  refine (K2.out _).mono ?_
  rintro e w2 ⟨rfl, hb2⟩
  have hx := (hb2.block w1.heap.size (by simp)).trans (heap_alloc_new w1 _)
  have x0 : (w2.alloc (.cells #[.int .i64 n, .int .i64 i, .int .i64 c] 23)).cell? ⟨w1.heap.size, 0, none⟩ = some (.int .i64 n) := Lib.cell?_alloc_some _ (cell_of_heap hx)
  have x1 : (w2.alloc (.cells #[.int .i64 n, .int .i64 i, .int .i64 c] 23)).cell? ⟨w1.heap.size, 1, none⟩ = some (.int .i64 i) := Lib.cell?_alloc_some _ (cell_of_heap hx)
  have x2 : (w2.alloc (.cells #[.int .i64 n, .int .i64 i, .int .i64 c] 23)).cell? ⟨w1.heap.size, 2, none⟩ = some (.int .i64 c) := Lib.cell?_alloc_some _ (cell_of_heap hx)
  have y0 : (w2.alloc (.cells #[.int .i64 n, .int .i64 i, .int .i64 c] 23)).cell? ⟨w2.heap.size, 0, none⟩ = some (.int .i64 n) := by rw [World.cell?_alloc_new]; rfl
  have y1 : (w2.alloc (.cells #[.int .i64 n, .int .i64 i, .int .i64 c] 23)).cell? ⟨w2.heap.size, 1, none⟩ = some (.int .i64 i) := by rw [World.cell?_alloc_new]; rfl
  have y2 : (w2.alloc (.cells #[.int .i64 n, .int .i64 i, .int .i64 c] 23)).cell? ⟨w2.heap.size, 2, none⟩ = some (.int .i64 c) := by rw [World.cell?_alloc_new]; rfl
  have hbx := (hb1.alloc hb1.size (.cells #[.int .i64 n, .int .i64 i, .int .i64 c] 23)).trans (hb2.mono (by have := hb1.size; simp; omega))
  have HB4 := Lib.hid (hbx.alloc hbx.size (.cells #[.int .i64 n, .int .i64 i, .int .i64 c] 23))
  clear hb1 hb2 hx hbx
  go_wp2_with fail
  generalize w2.alloc (.cells #[.int .i64 n, .int .i64 i, .int .i64 c] 23) = w5 at *
  clear x0 x1 x2 y0 y1 y2
  refine (K3.out _).mono ?_
  rintro e w6 ⟨rfl, hb6⟩
  have HB6 := Lib.hid (below_keep' HB4.out hb6 HB4.out.size)
  clear hb6
  go_wp2_with fail
  refine (K4.out _).mono ?_
  rintro e w7 ⟨rfl, hb7⟩
  have HB7 := Lib.hid (below_keep' HB6.out hb7 HB6.out.size)
  clear hb7
  go_wp2_with fail
  refine (awake_any _).mono ?_
  rintro e w8 ⟨rfl, hb8⟩
  have HB8 := Lib.hid (below_keep' HB7.out hb8 HB7.out.size)
  clear hb8
  go_wp2_with fail
  go_ret
  exact ⟨rfl, HB8.out⟩
end Go.Proofs.Ytacmnejdellbbaa
