/-
  The walk of SegsApart: any number, any two segments.
-/
import Derived.Test.YtklklcohbfnpjaaSegsC
set_option linter.unusedVariables false
set_option maxRecDepth 4000
namespace Go.Proofs.Ytklklcohbfnpjaa
open Go.RowKit SegsP
open Ints (IntsAt IntsAt.keep take_snoc getD_mem cellsI rsame_any has_any below_drewN')

/-- A call that leaves what was there, within a region that draws its order. -/
theorem quiet_same {P : Program} {f : FuncId} {args : Array Value} {w : World} {n : Nat} {v : Value} (h : Calls P f args (w.drewN n) fun e w' => e = .returned v ∧ w.drewN n = w') : Calls P f args (w.drewN n) fun e w'' => e = .returned v ∧ ∃ m, w'' = w.drewN m :=
  Calls.quiet_of_same (h.mono fun _ _ ⟨a, b⟩ => ⟨a, b.symm⟩)
theorem apart_mem {a b u : Int} (h : u ∈ seg1 a) (hab : ¬ a = b) : ¬ u ∈ seg1 b := by
  intro h2
  by_cases ha : 0 ≤ a ∧ a < 63
  · by_cases hb : 0 ≤ b ∧ b < 63
    · rw [seg1_yes ha, mem_seg] at h
      rw [seg1_yes hb, mem_seg] at h2
      omega
    · rw [seg1_no hb] at h2; cases h2
  · rw [seg1_no ha] at h; cases h
theorem on_disk {a u n : Int} (h : u ∈ seg1 a) (ha : a < (cnt n : Int)) : u < n := by
  by_cases hk : 0 ≤ a ∧ a < 63
  · rw [seg1_yes hk, mem_seg] at h
    have := cnt_fit (n := n) (k := a.toNat) (by omega)
    omega
  · rw [seg1_no hk] at h; cases h
theorem seg1_full (a : Int) : (((seg1 a).length : Int) == 8) = decide (0 ≤ a ∧ a < 63) := by
  by_cases hk : 0 ≤ a ∧ a < 63
  · rw [seg1_yes hk, seg_length, decide_eq_true hk]; rfl
  · rw [seg1_no hk, decide_eq_false hk]; rfl
set_option maxHeartbeats 4000000 in
theorem segsApart_walk (n a b : Int) (w : World) (h0 : -9223372036854775808 ≤ n) (h1 : n ≤ 9223372036854775807) (ha0 : -9223372036854775808 ≤ a) (ha1 : a ≤ 9223372036854775807) (hb0 : -9223372036854775808 ≤ b) (hb1 : b ≤ 9223372036854775807) :
    Calls Try.prog 5 #[.int .i64 n, .int .i64 a, .int .i64 b] w (SegsIn w) := by
  have hcl := cnt_le n
  have hA8 := seg1_len a
  have hB8 := seg1_len b
  have HC := Lib.hid (fun w => count_any n w h0 h1)
  have HQ := Lib.hid (fun w k => quiet_same (count_any n (World.drewN w k) h0 h1))
  have HFN := Lib.hid (fun w => free_any n none 0 0 [] w h0 h1 (Ints.IntsAt.nil w none) (by decide))
  have HFA := Lib.hid (fun w h => free_any n (some ⟨w, 0, none⟩) 1 1 [a] h h0 h1)
  have HSA := Lib.hid (sectors_any (some ⟨w.heap.size, 0, none⟩) 1 1 [a] _ (ints_new w [a] (by simpa using ⟨ha0, ha1⟩)) (by decide))
  have HSB := Lib.hid (fun w => sectors_any (some ⟨w.heap.size, 0, none⟩) 1 1 [b] _ (ints_new w [b] (by simpa using ⟨hb0, hb1⟩)) (by decide))
  rw [secs_one] at HSA
  simp only [secs_one] at HSB
  have HAP := Lib.hid (fun u (h : u ∈ seg1 a) (hab : ¬ a = b) => apart_mem h hab)
  have HM := Lib.hid (fun u (h : u ∈ seg1 a) => seg1_mem h)
  have HOD := Lib.hid (fun u (h : u ∈ seg1 a) (h2 : a < (cnt n : Int)) => on_disk h h2)
  have HFULL := Lib.hid (seg1_full a)
  have HFL := Lib.hid (fre_nil (cnt n))
  have HF1 := Lib.hid (fre_one_len (cnt n) a)
  have HFM := Lib.hid (fun x => mem_fre (n := cnt n) (l := [a]) (x := x))
  have HFR := Lib.hid (fre_rises (cnt n) [a])
  have hfl := fre_len (cnt n) [a]
  generalize cnt n = c at *
  generalize fre c [] = f0 at *
  generalize fre c [a] = fa at *
  generalize seg1 a = sa at *
  generalize seg1 b = sb at *
  go_enter Try.func5, Try.ntmps5
  go_wp2_with fail
  refine HSA.out.mono ?_
  rintro e w1 ⟨a1, c1, rfl, hI, _, _, hb⟩
  have HI1 := Lib.hid hI; have HB1 := Lib.hid ((below_new w _).trans (hb.mono (by simp)))
  clear hI hb HSA
  go_wp2_with fail
  refine (HSB.out w1).mono ?_
  rintro e w2 ⟨a2, c2, rfl, hI, _, _, hb⟩
  have HI2 := Lib.hid hI; have HI12 := Lib.hid (HI1.out.keep ((below_new w1 _).trans (hb.mono (by simp)))); have HB2 := Lib.hid (HB1.out.trans (((below_new w1 _).trans (hb.mono (by simp))).mono HB1.out.size))
  clear hI hb HSB HI1 HB1
  go_wp2_with fail
  go_loopw [9] (fun i wr => ∃ j : Nat, j ≤ sa.length ∧ i = .int .i64 (j : Int) ∧ w2 = wr) (fun i _ => sa.length - (intOf i).toNat)
  case atStart => exact ⟨0, Nat.zero_le _, rfl, rfl⟩
  case round =>
    obtain ⟨j, hj, rfl, rfl⟩ := hrel
    by_cases hlt : j < sa.length
    · obtain ⟨b1, o1, rfl, hbl1, hd1⟩ := HI12.out.2.2.resolve_left (by omega)
      have d1 := hd1 j hlt
      have hum := getD_mem hlt
      generalize sa.getD j 0 = u at *
      obtain ⟨u0, u1⟩ := HM.out u hum
      have t0 : decide (u < 2) = false := by simp; omega
      have t1 : decide (506 ≤ u) = false := by simp; omega
      have HHAS := Lib.hid (has_any a2 sb.length c2 u sb w2 HI2.out (by omega))
      have hap := HAP.out u hum
      have hod := HOD.out u hum
      clear hd1 hum
      by_cases hab : a = b
      · have t2 : (a != b) = false := by simpa using hab
        clear hab
        by_cases hac : a < (c : Int)
        · have t3 : decide (a < (c : Int)) = true := decide_eq_true hac
          have t4 : decide (n ≤ u) = false := by have := hod hac; simp; omega
          clear hap hod
          go_wp2_with fail
          refine (HC.out _).mono ?_
          rintro e w' ⟨rfl, rfl⟩
          go_wp2_with fail
          go_roundw
          case rel => exact ⟨j + 1, by omega, by go_num, by trivial⟩
          case measure => simp [intOf]; omega
        · have t3 : decide (a < (c : Int)) = false := decide_eq_false hac
          clear hap hod
          go_wp2_with fail
          refine (HC.out _).mono ?_
          rintro e w' ⟨rfl, rfl⟩
          go_wp2_with fail
          go_roundw
          case rel => exact ⟨j + 1, by omega, by go_num, by trivial⟩
          case measure => simp [intOf]; omega
      · have t2 : (a != b) = true := by simpa using hab
        rw [decide_eq_false (hap hab)] at HHAS
        by_cases hac : a < (c : Int)
        · have t3 : decide (a < (c : Int)) = true := decide_eq_true hac
          have t4 : decide (n ≤ u) = false := by have := hod hac; simp; omega
          clear hap hod
          go_wp2_with fail
          refine HHAS.out.mono ?_
          rintro e w' ⟨rfl, rfl⟩
          go_wp2_with fail
          refine (HC.out _).mono ?_
          rintro e w' ⟨rfl, rfl⟩
          go_wp2_with fail
          go_roundw
          case rel => exact ⟨j + 1, by omega, by go_num, by trivial⟩
          case measure => simp [intOf]; omega
        · have t3 : decide (a < (c : Int)) = false := decide_eq_false hac
          clear hap hod
          go_wp2_with fail
          refine HHAS.out.mono ?_
          rintro e w' ⟨rfl, rfl⟩
          go_wp2_with fail
          refine (HC.out _).mono ?_
          rintro e w' ⟨rfl, rfl⟩
          go_wp2_with fail
          go_roundw
          case rel => exact ⟨j + 1, by omega, by go_num, by trivial⟩
          case measure => simp [intOf]; omega
    · obtain rfl : j = sa.length := by omega
      have hfull := HFULL.out
      have hf0 := HFL.out
      clear HM HAP HOD HI2 HI12 HFULL
      have hw12 : w.heap.size ≤ w2.heap.size := HB2.out.size
      have hc3 : (0 ≤ a ∧ a < 63) ∨ (0 ≤ a ∧ ¬ a < 63) ∨ ¬ 0 ≤ a := by omega
      have HMM := Lib.hid (fun i (hi : i < fa.length) => (HFM.out _).1 (getD_mem hi))
      clear HFM HFL
      rcases hc3 with hk | hk | hk
      · have s0 : decide (0 ≤ a) = true := decide_eq_true hk.1
        have s1 : decide (a < 63) = true := decide_eq_true hk.2
        rw [decide_eq_true hk] at hfull
        clear hk
        go_wp2_with fail
        refine (HFN.out _).mono ?_
        rintro e w3 ⟨a3, c3, rfl, hI, _, _, hb⟩
        have HB3 := Lib.hid (HB2.out.trans (hb.mono HB2.out.size))
        clear hI hb
        rw [hf0]
        go_wp2_with fail
        refine (HC.out _).mono ?_
        rintro e w' ⟨rfl, rfl⟩
        go_wp2_with fail
        refine (HFA.out w3.heap.size _ (ints_new w3 [a] (by simpa using ⟨ha0, ha1⟩)) (by decide)).mono ?_
        rintro e w4 ⟨a4, c4, rfl, hI, _, _, hb⟩
        have HI4 := Lib.hid hI; have HB4 := Lib.hid (HB3.out.trans (((below_new w3 _).trans (hb.mono (by simp))).mono HB3.out.size))
        clear hI hb hfull hf0 HFN HFA HB3 HB2
        go_wp2_with fail
        go_loopw [11] (fun i wr => ∃ j : Nat, j ≤ fa.length ∧ i = .int .i64 (j : Int) ∧ Hid (Below w4.heap.size w4 wr)) (fun i _ => fa.length - (intOf i).toNat)
        case atStart => exact ⟨0, Nat.zero_le _, rfl, Below.refl _ w4⟩
        case round =>
          obtain ⟨j, hj, rfl, hB⟩ := hrel
          by_cases hlt : j < fa.length
          · obtain ⟨b1, o1, rfl, hbl1, hd1⟩ := HI4.out.2.2.resolve_left (by omega)
            have d1 := (hB.out.cell (p := ⟨b1, o1 + j, none⟩) hbl1).trans (hd1 j hlt)
            obtain ⟨⟨v0, v1⟩, v2⟩ := HMM.out j hlt
            have HBN := Lib.hid (fun n => below_drewN' hB.out n)
            have t1 : decide (fa.getD j 0 < 0) = false := by simp only [decide_eq_false_iff_not]; omega
            have t2 : decide ((c : Int) ≤ fa.getD j 0) = false := by simp only [decide_eq_false_iff_not]; omega
            have t3 : (fa.getD j 0 == a) = false := by simpa using v2
            rcases Nat.eq_zero_or_pos j with rfl | hpos
            ·
              clear hd1 hB v0 v1 v2
              rw [Nat.add_zero] at d1
              generalize fa.getD 0 0 = v at *
              go_wp2_with fail
              go_quiet (exact HQ.out _ _)
              go_wp2_with fail
              go_roundw
              case rel => exact ⟨1, by omega, by go_num, HBN.out _⟩
              case measure => simp [intOf]; omega
            · obtain ⟨q, hjq⟩ : ∃ q, j = q + 1 := ⟨j - 1, by omega⟩
              have d2 := (hB.out.cell (p := ⟨b1, o1 + q, none⟩) hbl1).trans (hd1 q (by omega))
              have hr := HFR.out q (by omega)
              rw [← hjq] at hr
              have t4 : decide (fa.getD j 0 ≤ fa.getD q 0) = false := by simp only [decide_eq_false_iff_not]; omega
              have t5 : decide (0 < (j : Int)) = true := by simp; omega
              have hsub : (j : Int) - 1 = (q : Int) := by omega
              have hql : q < fa.length := by omega
              clear hd1 hB v0 v1 v2 hr hjq
              generalize fa.getD j 0 = v at *
              generalize fa.getD q 0 = u at *
              go_wp2_with fail
              go_quiet (exact HQ.out _ _)
              go_wp2_with fail
              go_roundw
              case rel => exact ⟨j + 1, by omega, by go_num, HBN.out _⟩
              case measure => simp [intOf]; omega
          · obtain rfl : j = fa.length := by omega
            have HB5 := Lib.hid (HB4.out.trans (hB.out.mono HB4.out.size))
            have hf1 := HF1.out
            clear hB HI4 HMM HFR HF1 HB4
            by_cases hac : 0 ≤ a ∧ a < (c : Int)
            · rw [if_pos hac] at hf1
              have t1 : decide (a < (c : Int)) = true := decide_eq_true hac.2
              have t2 : ((fa.length : Int) + 1 == (c : Int)) = true := by simp; omega
              clear hac
              go_wp2_with fail
              refine (HC.out _).mono ?_
              rintro e w' ⟨rfl, rfl⟩
              go_wp2_with fail
              refine (HC.out _).mono ?_
              rintro e w' ⟨rfl, rfl⟩
              go_wp2_with fail
              refine (awake_in HB5.out).mono ?_
              rintro e w7 ⟨rfl, hb⟩
              have HB7 := Lib.hid hb
              clear hb
              go_wp2_with fail
              go_ret
              exact ⟨rfl, HB7.out⟩
            · rw [if_neg hac, Nat.add_zero] at hf1
              have t2 : ((fa.length : Int) == (c : Int)) = true := by simp; omega
              have t1 : decide (a < (c : Int)) = false := decide_eq_false (fun h => hac ⟨of_decide_eq_true s0, h⟩)
              clear hac
              go_wp2_with fail
              refine (HC.out _).mono ?_
              rintro e w' ⟨rfl, rfl⟩
              go_wp2_with fail
              refine (HC.out _).mono ?_
              rintro e w' ⟨rfl, rfl⟩
              go_wp2_with fail
              refine (awake_in HB5.out).mono ?_
              rintro e w7 ⟨rfl, hb⟩
              have HB7 := Lib.hid hb
              clear hb
              go_wp2_with fail
              go_ret
              exact ⟨rfl, HB7.out⟩
      · have s0 : decide (0 ≤ a) = true := decide_eq_true hk.1
        have s1 : decide (a < 63) = false := decide_eq_false hk.2
        rw [decide_eq_false (fun h => hk.2 h.2)] at hfull
        clear hk
        go_wp2_with fail
        refine (HFN.out _).mono ?_
        rintro e w3 ⟨a3, c3, rfl, hI, _, _, hb⟩
        have HB3 := Lib.hid (HB2.out.trans (hb.mono HB2.out.size))
        clear hI hb
        rw [hf0]
        go_wp2_with fail
        refine (HC.out _).mono ?_
        rintro e w' ⟨rfl, rfl⟩
        go_wp2_with fail
        refine (HFA.out w3.heap.size _ (ints_new w3 [a] (by simpa using ⟨ha0, ha1⟩)) (by decide)).mono ?_
        rintro e w4 ⟨a4, c4, rfl, hI, _, _, hb⟩
        have HI4 := Lib.hid hI; have HB4 := Lib.hid (HB3.out.trans (((below_new w3 _).trans (hb.mono (by simp))).mono HB3.out.size))
        clear hI hb hfull hf0 HFN HFA HB3 HB2
        go_wp2_with fail
        go_loopw [11] (fun i wr => ∃ j : Nat, j ≤ fa.length ∧ i = .int .i64 (j : Int) ∧ Hid (Below w4.heap.size w4 wr)) (fun i _ => fa.length - (intOf i).toNat)
        case atStart => exact ⟨0, Nat.zero_le _, rfl, Below.refl _ w4⟩
        case round =>
          obtain ⟨j, hj, rfl, hB⟩ := hrel
          by_cases hlt : j < fa.length
          · obtain ⟨b1, o1, rfl, hbl1, hd1⟩ := HI4.out.2.2.resolve_left (by omega)
            have d1 := (hB.out.cell (p := ⟨b1, o1 + j, none⟩) hbl1).trans (hd1 j hlt)
            obtain ⟨⟨v0, v1⟩, v2⟩ := HMM.out j hlt
            have HBN := Lib.hid (fun n => below_drewN' hB.out n)
            have t1 : decide (fa.getD j 0 < 0) = false := by simp only [decide_eq_false_iff_not]; omega
            have t2 : decide ((c : Int) ≤ fa.getD j 0) = false := by simp only [decide_eq_false_iff_not]; omega
            have t3 : (fa.getD j 0 == a) = false := by simpa using v2
            rcases Nat.eq_zero_or_pos j with rfl | hpos
            ·
              clear hd1 hB v0 v1 v2
              rw [Nat.add_zero] at d1
              generalize fa.getD 0 0 = v at *
              go_wp2_with fail
              go_quiet (exact HQ.out _ _)
              go_wp2_with fail
              go_roundw
              case rel => exact ⟨1, by omega, by go_num, HBN.out _⟩
              case measure => simp [intOf]; omega
            · obtain ⟨q, hjq⟩ : ∃ q, j = q + 1 := ⟨j - 1, by omega⟩
              have d2 := (hB.out.cell (p := ⟨b1, o1 + q, none⟩) hbl1).trans (hd1 q (by omega))
              have hr := HFR.out q (by omega)
              rw [← hjq] at hr
              have t4 : decide (fa.getD j 0 ≤ fa.getD q 0) = false := by simp only [decide_eq_false_iff_not]; omega
              have t5 : decide (0 < (j : Int)) = true := by simp; omega
              have hsub : (j : Int) - 1 = (q : Int) := by omega
              have hql : q < fa.length := by omega
              clear hd1 hB v0 v1 v2 hr hjq
              generalize fa.getD j 0 = v at *
              generalize fa.getD q 0 = u at *
              go_wp2_with fail
              go_quiet (exact HQ.out _ _)
              go_wp2_with fail
              go_roundw
              case rel => exact ⟨j + 1, by omega, by go_num, HBN.out _⟩
              case measure => simp [intOf]; omega
          · obtain rfl : j = fa.length := by omega
            have HB5 := Lib.hid (HB4.out.trans (hB.out.mono HB4.out.size))
            have hf1 := HF1.out
            clear hB HI4 HMM HFR HF1 HB4
            by_cases hac : 0 ≤ a ∧ a < (c : Int)
            · rw [if_pos hac] at hf1
              have t1 : decide (a < (c : Int)) = true := decide_eq_true hac.2
              have t2 : ((fa.length : Int) + 1 == (c : Int)) = true := by simp; omega
              clear hac
              go_wp2_with fail
              refine (HC.out _).mono ?_
              rintro e w' ⟨rfl, rfl⟩
              go_wp2_with fail
              refine (HC.out _).mono ?_
              rintro e w' ⟨rfl, rfl⟩
              go_wp2_with fail
              refine (awake_in HB5.out).mono ?_
              rintro e w7 ⟨rfl, hb⟩
              have HB7 := Lib.hid hb
              clear hb
              go_wp2_with fail
              go_ret
              exact ⟨rfl, HB7.out⟩
            · rw [if_neg hac, Nat.add_zero] at hf1
              have t2 : ((fa.length : Int) == (c : Int)) = true := by simp; omega
              have t1 : decide (a < (c : Int)) = false := decide_eq_false (fun h => hac ⟨of_decide_eq_true s0, h⟩)
              clear hac
              go_wp2_with fail
              refine (HC.out _).mono ?_
              rintro e w' ⟨rfl, rfl⟩
              go_wp2_with fail
              refine (HC.out _).mono ?_
              rintro e w' ⟨rfl, rfl⟩
              go_wp2_with fail
              refine (awake_in HB5.out).mono ?_
              rintro e w7 ⟨rfl, hb⟩
              have HB7 := Lib.hid hb
              clear hb
              go_wp2_with fail
              go_ret
              exact ⟨rfl, HB7.out⟩
      · have s0 : decide (0 ≤ a) = false := decide_eq_false hk
        rw [decide_eq_false (fun h => hk h.1)] at hfull
        clear hk
        go_wp2_with fail
        refine (HFN.out _).mono ?_
        rintro e w3 ⟨a3, c3, rfl, hI, _, _, hb⟩
        have HB3 := Lib.hid (HB2.out.trans (hb.mono HB2.out.size))
        clear hI hb
        rw [hf0]
        go_wp2_with fail
        refine (HC.out _).mono ?_
        rintro e w' ⟨rfl, rfl⟩
        go_wp2_with fail
        refine (HFA.out w3.heap.size _ (ints_new w3 [a] (by simpa using ⟨ha0, ha1⟩)) (by decide)).mono ?_
        rintro e w4 ⟨a4, c4, rfl, hI, _, _, hb⟩
        have HI4 := Lib.hid hI; have HB4 := Lib.hid (HB3.out.trans (((below_new w3 _).trans (hb.mono (by simp))).mono HB3.out.size))
        clear hI hb hfull hf0 HFN HFA HB3 HB2
        go_wp2_with fail
        go_loopw [11] (fun i wr => ∃ j : Nat, j ≤ fa.length ∧ i = .int .i64 (j : Int) ∧ Hid (Below w4.heap.size w4 wr)) (fun i _ => fa.length - (intOf i).toNat)
        case atStart => exact ⟨0, Nat.zero_le _, rfl, Below.refl _ w4⟩
        case round =>
          obtain ⟨j, hj, rfl, hB⟩ := hrel
          by_cases hlt : j < fa.length
          · obtain ⟨b1, o1, rfl, hbl1, hd1⟩ := HI4.out.2.2.resolve_left (by omega)
            have d1 := (hB.out.cell (p := ⟨b1, o1 + j, none⟩) hbl1).trans (hd1 j hlt)
            obtain ⟨⟨v0, v1⟩, v2⟩ := HMM.out j hlt
            have HBN := Lib.hid (fun n => below_drewN' hB.out n)
            have t1 : decide (fa.getD j 0 < 0) = false := by simp only [decide_eq_false_iff_not]; omega
            have t2 : decide ((c : Int) ≤ fa.getD j 0) = false := by simp only [decide_eq_false_iff_not]; omega
            have t3 : (fa.getD j 0 == a) = false := by simpa using v2
            rcases Nat.eq_zero_or_pos j with rfl | hpos
            ·
              clear hd1 hB v0 v1 v2
              rw [Nat.add_zero] at d1
              generalize fa.getD 0 0 = v at *
              go_wp2_with fail
              go_quiet (exact HQ.out _ _)
              go_wp2_with fail
              go_roundw
              case rel => exact ⟨1, by omega, by go_num, HBN.out _⟩
              case measure => simp [intOf]; omega
            · obtain ⟨q, hjq⟩ : ∃ q, j = q + 1 := ⟨j - 1, by omega⟩
              have d2 := (hB.out.cell (p := ⟨b1, o1 + q, none⟩) hbl1).trans (hd1 q (by omega))
              have hr := HFR.out q (by omega)
              rw [← hjq] at hr
              have t4 : decide (fa.getD j 0 ≤ fa.getD q 0) = false := by simp only [decide_eq_false_iff_not]; omega
              have t5 : decide (0 < (j : Int)) = true := by simp; omega
              have hsub : (j : Int) - 1 = (q : Int) := by omega
              have hql : q < fa.length := by omega
              clear hd1 hB v0 v1 v2 hr hjq
              generalize fa.getD j 0 = v at *
              generalize fa.getD q 0 = u at *
              go_wp2_with fail
              go_quiet (exact HQ.out _ _)
              go_wp2_with fail
              go_roundw
              case rel => exact ⟨j + 1, by omega, by go_num, HBN.out _⟩
              case measure => simp [intOf]; omega
          · obtain rfl : j = fa.length := by omega
            have HB5 := Lib.hid (HB4.out.trans (hB.out.mono HB4.out.size))
            have hf1 := HF1.out
            clear hB HI4 HMM HFR HF1 HB4
            by_cases hac : 0 ≤ a ∧ a < (c : Int)
            · exact absurd hac.1 (of_decide_eq_false s0)
            · rw [if_neg hac, Nat.add_zero] at hf1
              have t2 : ((fa.length : Int) == (c : Int)) = true := by simp; omega
              clear hac
              go_wp2_with fail
              refine (HC.out _).mono ?_
              rintro e w' ⟨rfl, rfl⟩
              go_wp2_with fail
              refine (awake_in HB5.out).mono ?_
              rintro e w7 ⟨rfl, hb⟩
              have HB7 := Lib.hid hb
              clear hb
              go_wp2_with fail
              go_ret
              exact ⟨rfl, HB7.out⟩
end Go.Proofs.Ytklklcohbfnpjaa
