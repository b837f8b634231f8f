/-
  The law CrcParts, walked.
-/
import Derived.Test.YtgfgegalffffpaaCrcD
import Derived.Lib.QuietBelow
import Derived.Deep.QuietTactic
set_option linter.unusedVariables false
namespace Go.Proofs.Ytgfgegalffffpaa
open Go.RowKit CrcP

theorem crcParts_long (s : ByteArray) (y x : Int) (W : World) (h : 600 < s.size) (hs : s.size ≤ 9223372036854775807) :
    Calls Try.prog 4 #[.string s, .int .u16 y, .int .u32 x] W fun e w' => e = .returned (.bool true) ∧ Below W.heap.size W w' := by
  go_enter Try.func4, Try.ntmps4
  go_wp2_with fail
  refine (awake_any W).mono ?_
  rintro e w' ⟨rfl, hb⟩
  go_wp2_with fail
  go_ret
  exact ⟨rfl, hb⟩
theorem extract_list (s : ByteArray) (i j : Nat) : (s.extract i j).data.toList = (s.data.toList.drop i).take (j - i) := by
  rw [ByteArray.data_extract, Array.toList_extract, List.extract_eq_take_drop]
set_option maxRecDepth 100000 in
set_option maxHeartbeats 1000000 in
theorem crcParts_walk (s : ByteArray) (y : Nat) (n : BitVec 32) (W : World) (h : s.size ≤ 600) (hy : y < 65536) :
    Calls Try.prog 4 #[.string s, .int .u16 (y : Int), .int .u32 (n.toNat : Int)] W fun e w' => e = .returned (.bool true) ∧ Below W.heap.size W w' := by
  have hs : s.size ≤ 9223372036854775807 := by omega
  obtain ⟨k, hk⟩ : ∃ k : Nat, y % (s.size + 1) = k := ⟨_, rfl⟩
  have hks : k ≤ s.size := by have := Nat.mod_lt y (show 0 < s.size + 1 by omega); omega
  have hki : ((y : Int)) % ((s.size : Int) + 1) = (k : Int) := by rw [← hk]; simp
  have hksi : (k : Int) ≤ (s.size : Int) := by omega
  have la : (s.extract 0 k).data.toList ++ (s.extract k s.size).data.toList = s.data.toList := by
    rw [extract_list, extract_list, List.drop_zero, Nat.sub_zero, List.take_of_length_le (l := s.data.toList.drop k) (by rw [List.length_drop, len_list]; exact Nat.le_refl _), List.take_append_drop]
  have sa : (s.extract 0 k).size ≤ 9223372036854775807 := by rw [ByteArray.size_extract]; omega
  have sb : (s.extract k s.size).size ≤ 9223372036854775807 := by rw [ByteArray.size_extract]; omega
  have hO := octets_any n.toNat W n.isLt
  have hR : ∀ w, Calls Try.prog 7 #[.string ⟨(oc n.toNat).toArray⟩] w fun e w' => e = .returned (.tuple #[.int .u32 (n.toNat : Int), .int .i64 0]) ∧ Below w.heap.size w w' := fun w => by
    have h := read_any ⟨(oc n.toNat).toArray⟩ w (by show 4 ≤ _; decide)
    rw [show (⟨(oc n.toNat).toArray⟩ : ByteArray).data.toList = oc n.toNat from rfl, rd_oc n.isLt] at h
    exact h
  have h1 := fun w => sum_any (s.extract 0 k) w sa
  have h2 := fun w => more_any (more 0#32 (s.extract 0 k).data.toList) (s.extract k s.size) w sb
  have h3 := fun w => sum_any s w hs
  have h4 : ∀ w, Calls Try.prog 11 #[.int .u32 (n.toNat : Int), .string ⟨#[]⟩] w fun e w' => e = .returned (.int .u32 (n.toNat : Int)) ∧ w = w' := fun w => by
    have h := more_any n ⟨#[]⟩ w (by decide)
    rw [show (⟨#[]⟩ : ByteArray).data.toList = [] from rfl, more_nil] at h
    exact h
  rw [more_append, la] at h2
  generalize (more 0#32 (s.extract 0 k).data.toList).toNat = x1 at *
  generalize (more 0#32 s.data.toList).toNat = x2 at *
  generalize (⟨(oc n.toNat).toArray⟩ : ByteArray) = o at *
  generalize n.toNat = x at *
  have HO := Lib.hid hO; have HR := Lib.hid hR; have H1 := Lib.hid h1; have H2 := Lib.hid h2; have H3 := Lib.hid h3; have H4 := Lib.hid h4
  clear hO hR h1 h2 h3 h4 la sa sb hk
  go_enter Try.func4, Try.ntmps4
  go_wp2_with fail
  refine HO.out.mono ?_
  rintro e w1 ⟨rfl, hb1⟩
  go_wp2_with fail
  refine (HR.out _).mono ?_
  rintro e w2 ⟨rfl, hb2⟩
  have HB2 := Lib.hid (below_keep hb1 hb2 hb1.size)
  clear hb1 hb2 HO HR
  have c1 : ∀ d os, Calls Try.prog 9 #[.string (s.extract 0 k)] (Sort.grow (redrawn w2 d) os) fun e w'' => e = .returned (.int .u32 (x1 : Int)) ∧ ∃ p : Regrown, w'' = Sort.grow (redrawn w2 p.d) p.os := fun d os => Calls.regrown_of ((H1.out _).mono fun e w'' h => ⟨h.1, h.2 ▸ Below.refl _ _⟩)
  have c2 : ∀ d os, Calls Try.prog 11 #[.int .u32 (x1 : Int), .string (s.extract k s.size)] (Sort.grow (redrawn w2 d) os) fun e w'' => e = .returned (.int .u32 (x2 : Int)) ∧ ∃ p : Regrown, w'' = Sort.grow (redrawn w2 p.d) p.os := fun d os => Calls.regrown_of ((H2.out _).mono fun e w'' h => ⟨h.1, h.2 ▸ Below.refl _ _⟩)
  have c3 : ∀ d os, Calls Try.prog 9 #[.string s] (Sort.grow (redrawn w2 d) os) fun e w'' => e = .returned (.int .u32 (x2 : Int)) ∧ ∃ p : Regrown, w'' = Sort.grow (redrawn w2 p.d) p.os := fun d os => Calls.regrown_of ((H3.out _).mono fun e w'' h => ⟨h.1, h.2 ▸ Below.refl _ _⟩)
  have c4 : ∀ d os, Calls Try.prog 11 #[.int .u32 (x : Int), .string ⟨#[]⟩] (Sort.grow (redrawn w2 d) os) fun e w'' => e = .returned (.int .u32 (x : Int)) ∧ ∃ p : Regrown, w'' = Sort.grow (redrawn w2 p.d) p.os := fun d os => Calls.regrown_of ((H4.out _).mono fun e w'' h => ⟨h.1, h.2 ▸ Below.refl _ _⟩)
  have c5 : ∀ d os, Calls Try.prog 6 #[] (Sort.grow (redrawn w2 d) os) fun e w'' => e = .returned (.bool true) ∧ ∃ p : Regrown, w'' = Sort.grow (redrawn w2 p.d) p.os := fun d os => Calls.regrown_of (awake_any _)
  have C1 := Lib.hid c1; have C2 := Lib.hid c2; have C3 := Lib.hid c3; have C4 := Lib.hid c4; have C5 := Lib.hid c5
  clear c1 c2 c3 c4 c5 H1 H2 H3 H4
  go_wp2_with fail
  refine wp_region_quiet_below (by kernel_rfl) (by kernel_rfl) ?_
  repeat (quiet_step (first | with_reducible exact C1.out _ _ | with_reducible exact C2.out _ _ | with_reducible exact C3.out _ _ | with_reducible exact C4.out _ _ | with_reducible exact C5.out _ _))
  refine wpQuiet_nil ?_
  intro _ hw'
  obtain ⟨⟨dq, osq⟩, hw''⟩ := hw'
  subst hw''
  go_wp2_with fail
  go_ret
  exact ⟨rfl, HB2.out.trans ((below_regrown w2 dq osq).mono HB2.out.size)⟩
end Go.Proofs.Ytgfgegalffffpaa
