/-
  The contract of the laws' own 'awake': the chapter's example.
-/
import Derived.Test.YtacmnejdellbbaaStampH
set_option linter.unusedVariables false
namespace Go.Proofs.Ytacmnejdellbbaa
open Go.RowKit CrcP StampP

theorem opn_zeros : opn zeros = none := by
  refine opn_none_fit ?_
  have h : num (fld zeros 0 6) = 0 := by decide +kernel
  rw [h]
  unfold fit
  omega
set_option maxHeartbeats 1600000 in
theorem awake_any (w : World) : Calls Try.prog 7 #[] w fun e w' => e = .returned (.bool true) ∧ Below w.heap.size w w' := by
  have hfit : fit (1 : Nat) (0 : Nat) (1 : Nat) := by unfold fit; omega
  have k1 : ∀ w, Calls Try.prog 8 #[stV 1 0 1, .string ⟨#[97, 98]⟩] w fun e w' => e = .returned (.tuple #[.string (str (sl 1 0 1 [97, 98])), .int .i64 0]) ∧ Below w.heap.size w w' := fun w => seal_yes 1 0 1 ⟨#[97, 98]⟩ w hfit (by decide)
  have k2 := fun w => open_any (str (sl 1 0 1 [97, 98])) w (by rw [str_size, sl_length _ _ _ _ (by decide)]; decide)
  rw [show (str (sl 1 0 1 [97, 98])).data.toList = sl 1 0 1 [97, 98] from rfl, opn_sl hfit (by decide)] at k2
  have k2' : ∀ w, Calls Try.prog 15 #[.string (str (sl 1 0 1 [97, 98]))] w fun e w' => e = .returned (.tuple #[stV 1 0 1, .string ⟨#[97, 98]⟩, .int .i64 0]) ∧ Below w.heap.size w w' := k2
  have hsz : (str (sl 1 0 1 [97, 98])).size = 128 := by rw [str_size, sl_length _ _ _ _ (by decide)]
  generalize str (sl 1 0 1 [97, 98]) = a at *
  have k3 := fun w => open_any (str zeros) w (by rw [str_size, zeros, List.length_replicate]; decide)
  rw [show (str zeros).data.toList = zeros from rfl, opn_zeros] at k3
  have k3' : ∀ w, Calls Try.prog 15 #[.string (str zeros)] w fun e w' => e = .returned (.tuple #[stV 0 0 0, .string ⟨#[]⟩, .int .i64 12]) ∧ Below w.heap.size w w' := k3
  have k4 := fun w => blank_any (str zeros) w
  rw [show ((str zeros).toList == (str zeros).toList) = true by simp] at k4
  have k5 := fun w => rblank_any w
  generalize str zeros = bl at *
  have k6 : ∀ w, Calls Try.prog 13 #[.string ⟨#[]⟩] w (SplitMade w (parts ⟨#[]⟩)) := fun w => split_any ⟨#[]⟩ w (by decide)
  have hp : (parts ⟨#[]⟩).length = 1 := by rw [parts_length]; rfl
  unfold stV at *
  have K1 := Lib.hid k1; have K2 := Lib.hid k2'; have K3 := Lib.hid k3'; have K4 := Lib.hid k4; have K5 := Lib.hid k5; have K6 := Lib.hid k6
  clear k1 k2 k2' k3 k3' k4 k5 k6 hfit
  generalize parts ⟨#[]⟩ = pp at *
  go_enter Try.func7, Try.ntmps7
  go_wp2_with fail
  refine (K1.out _).mono ?_
  rintro e w1 ⟨rfl, hb1⟩
  go_wp2_with fail
  refine (K2.out _).mono ?_
  rintro e w2 ⟨rfl, hb2⟩
  have HB2 := Lib.hid (below_keep' hb1 hb2 hb1.size)
  clear hb1 hb2
  go_wp2_with fail
  refine (K5.out _).mono ?_
  rintro e w3 ⟨rfl, hb3⟩
  go_wp2_with fail
  refine (K3.out _).mono ?_
  rintro e w4 ⟨rfl, hb4⟩
  have hb34 := hb3.trans (hb4.mono hb3.size)
  have hx := (hb34.block w2.heap.size (by simp)).trans (heap_alloc_new w2 _)
  have x0 : (w4.alloc (.cells #[.int .i64 0, .int .i64 0, .int .i64 0] 23)).cell? ⟨w2.heap.size, 0, none⟩ = some (.int .i64 1) := Lib.cell?_alloc_some _ (cell_of_heap hx)
  have x1 : (w4.alloc (.cells #[.int .i64 0, .int .i64 0, .int .i64 0] 23)).cell? ⟨w2.heap.size, 1, none⟩ = some (.int .i64 0) := Lib.cell?_alloc_some _ (cell_of_heap hx)
  have x2 : (w4.alloc (.cells #[.int .i64 0, .int .i64 0, .int .i64 0] 23)).cell? ⟨w2.heap.size, 2, none⟩ = some (.int .i64 1) := Lib.cell?_alloc_some _ (cell_of_heap hx)
  have hbx := (HB2.out.alloc HB2.out.size (.cells #[.int .i64 1, .int .i64 0, .int .i64 1] 23)).trans (hb34.mono (by have := HB2.out.size; simp; omega))
  have HB4 := Lib.hid (hbx.alloc hbx.size (.cells #[.int .i64 0, .int .i64 0, .int .i64 0] 23))
  clear hb3 hb4 hb34 hx hbx
  go_wp2_with fail
  refine (K5.out _).mono ?_
  rintro e w6 ⟨rfl, hb6⟩
  have HB6 := Lib.hid (below_keep' HB4.out hb6 HB4.out.size)
  clear hb6 x0 x1 x2
  go_wp2_with fail
  refine (K4.out _).mono ?_
  rintro e w7 ⟨rfl, hb7⟩
  have HB7 := Lib.hid (below_keep' HB6.out hb7 HB6.out.size)
  clear hb7
  go_wp2_with fail
  refine (K6.out _).mono ?_
  rintro e w8 ⟨g, cap, rfl, _, _, hb8⟩
  have HB8 := Lib.hid (below_keep' HB7.out hb8 HB7.out.size)
  clear hb8
  go_wp2_with fail
  go_ret
  exact ⟨rfl, HB8.out⟩
end Go.Proofs.Ytacmnejdellbbaa
