/-
  DefOrder; what was there stays as it was.
-/
import Derived.Test.YtdpgfnnhbfkacaaDoorDefFr
import Derived.Test.YtdpgfnnhbfkacaaDoorDefOrder
set_option linter.unusedVariables false
set_option linter.unusedSimpArgs false
set_option maxRecDepth 4000
namespace Go.Proofs.YtdpgfnnhbfkacaaDoor.Def
open Go.RowKit DefP
open Go.Proofs.YtdpgfnnhbfkacaaDoor.Kt

set_option maxHeartbeats 16000000 in
theorem order_any (s : ByteArray) (a : Option Addr) (n c : Nat) (l : List Step) (w : World) (h : StAt w a n l) (hv : Step.Vars w) :
    Calls Tryd.prog 3 #[.agg #[.string s, .slice a n c]] w fun e w' => e = .returned (.bool true) ∧ Below w.heap.size w w' := by
  have hl := h.2.1
  have HB0 := Lib.hid (bx2_new 24 w (.string s) (.slice a n c))
  obtain ⟨u0, u1⟩ := cells2 HB0.out.box
  have HV := Lib.hid (fun W (hb : Below w.heap.size w W) => hv.keep hb)
  have HA : Hid (∀ W, Below w.heap.size w W → Calls Tryd.prog 7 #[] W fun e w' => e = .returned (.bool true) ∧ Below w.heap.size w w') := fun W hb => (awake_any W (hv.keep hb)).mono fun e w' hq => ⟨hq.1, below_keep hb hq.2 hb.size⟩
  obtain ⟨v1, hv1⟩ : ∃ v, (decide ((s.size : Int) ≤ 60) && decide ((n : Int) ≤ 10)) = v := ⟨_, rfl⟩
  have CF := Lib.hid (fun W => few_is s a n c v1 hv1 W)
  cases v1 with
  | false =>
    clear h hv hv1
    go_enter Tryd.func3, Tryd.ntmps3
    go_wp2_with fail
    refine (CF.out _).mono ?_
    rintro e w1 ⟨rfl, hb⟩
    have HB1 := Lib.hid (HB0.out.keep hb)
    clear hb u0 u1
    have CA := Lib.hid (HA.out w1 HB1.out.bel)
    go_wp2_with fail
    refine CA.out.mono ?_
    rintro e w3 ⟨rfl, hb⟩
    have HB3 := Lib.hid hb
    clear hb
    go_wp2_with fail
    go_ret
    exact ⟨rfl, HB3.out⟩
  | true =>
    rw [Bool.and_eq_true, decide_eq_true_eq, decide_eq_true_eq] at hv1
    obtain ⟨hs, hn⟩ := hv1
    obtain ⟨f, hf⟩ : ∃ f, fitD ⟨s, l⟩ = f := ⟨_, rfl⟩
    have CFi := Lib.hid (fun W (hb : Below w.heap.size w W) => fit_is s a n c l f hf W (Rw.At.keep h hb) (by omega) (by omega))
    cases f with
    | false =>
      clear h hv hf
      go_enter Tryd.func3, Tryd.ntmps3
      go_wp2_with fail
      refine (CF.out _).mono ?_
      rintro e w1 ⟨rfl, hb⟩
      have HB1 := Lib.hid (HB0.out.keep hb)
      clear hb u0 u1
      obtain ⟨z0, z1⟩ := cells2 HB1.out.box
      go_wp2_with fail
      refine (CFi.out _ HB1.out.bel).mono ?_
      rintro e w2 ⟨rfl, hb⟩
      have CA := Lib.hid (HA.out w2 (HB1.out.keep hb).bel)
      clear hb z0 z1
      go_wp2_with fail
      refine CA.out.mono ?_
      rintro e w3 ⟨rfl, hb⟩
      have HB3 := Lib.hid hb
      clear hb
      go_wp2_with fail
      go_ret
      exact ⟨rfl, HB3.out⟩
    | true =>
      have HF : Hid (FitL l) := fitL_iff.1 (fitD_iff.1 hf).2
      obtain ⟨P, hP⟩ : ∃ P, pivL l = P := ⟨_, rfl⟩
      have HP := Lib.hid hP
      have CP := Lib.hid (fun W (hb : Below w.heap.size w W) => pivot_is s a n c l P hP W (Rw.At.keep h hb))
      have HX := Lib.hid h
      clear h hv hf hP
      go_enter Tryd.func3, Tryd.ntmps3
      go_wp2_with fail
      refine (CF.out _).mono ?_
      rintro e w1 ⟨rfl, hb⟩
      have HB1 := Lib.hid (HB0.out.keep hb)
      clear hb u0 u1
      obtain ⟨z0, z1⟩ := cells2 HB1.out.box
      go_wp2_with fail
      refine (CFi.out _ HB1.out.bel).mono ?_
      rintro e w2 ⟨rfl, hb⟩
      have HB2 := Lib.hid (HB1.out.keep hb)
      clear hb z0 z1 HB1
      obtain ⟨z0, z1⟩ := cells2 HB2.out.box
      go_wp2_with fail
      refine (CP.out _ HB2.out.bel).mono ?_
      rintro e w3 ⟨rfl, hb⟩
      have HB3 := Lib.hid (HB2.out.keep hb)
      clear hb z0 z1 HB2 CP CFi CF
      go_wp2_with fail
      go_loopw [4, 5, 6, 7, 8] (fun vh vk vs va i wr => ∃ (k : Nat) (b1 b3 b5 b2 : Bool), k ≤ n ∧ i = .int .i64 (k : Int) ∧ vh = .bool b1 ∧ vk = .bool b3 ∧ vs = .bool b5 ∧ va = .bool b2 ∧ Hid (DefP.seen l 1 k = b1) ∧ Hid (DefP.seen l 3 k = b3) ∧ Hid (DefP.seen l 5 k = b5) ∧ Hid (DefP.seen l 2 k = b2) ∧ Hid (Bx2 24 w wr (.string s) (.slice a n c))) (fun _ _ _ _ i _ => n - (intOf i).toNat)
      case atStart => exact ⟨0, false, false, false, false, Nat.zero_le _, rfl, rfl, rfl, rfl, rfl, seen_zero _ _, seen_zero _ _, seen_zero _ _, seen_zero _ _, HB3⟩
      case round =>
        obtain ⟨k, b1, b3, b5, b2, hk, rfl, rfl, rfl, rfl, rfl, Hs1, Hs3, Hs5, Hs2, hB⟩ := hrel
        obtain ⟨q0, q1⟩ := cells2 hB.out.box
        by_cases hlk : k < n
        · obtain ⟨g1, o1, x0, x1, x2, x3, x4, x5, rfl, gl, hp, hc1⟩ := StAt.at HX.out hlk
          obtain ⟨d0, d1, d2, d3, d4, d5⟩ := hc1 wr hB.out.bel
          clear gl
          by_cases hp0 : P < 0
          · have hp1 : ¬ 0 ≤ P := by omega
            by_cases ho : x0 = 1
            · have c1 : (x1 != 1) = false := by have hcl : x1 = 1 := DefP.ahead HF.out hp (.inl (by rw [HP.out]; exact hp0)); simp [hcl]
              have e1 : (x0 == 1) = true := beq_iff_eq.2 ho
              have e3 : (x0 == 3) = false := beq_eq_false_iff_ne.2 (by omega)
              have e5 : (x0 == 5) = false := beq_eq_false_iff_ne.2 (by omega)
              have e2 : (x0 == 2) = false := beq_eq_false_iff_ne.2 (by omega)
              have e6 : (x0 == 6) = false := beq_eq_false_iff_ne.2 (by omega)
              have S1 : Hid (DefP.seen l 1 (k + 1) = true) := by show _ = _; rw [seen_step hp, Hs1.out]; show (b1 || (x0 == 1)) = _; rw [e1]; simp
              have S3 : Hid (DefP.seen l 3 (k + 1) = b3) := by show _ = _; rw [seen_step hp, Hs3.out]; show (b3 || (x0 == 3)) = _; rw [e3]; simp
              have S5 : Hid (DefP.seen l 5 (k + 1) = b5) := by show _ = _; rw [seen_step hp, Hs5.out]; show (b5 || (x0 == 5)) = _; rw [e5]; simp
              have S2 : Hid (DefP.seen l 2 (k + 1) = b2) := by show _ = _; rw [seen_step hp, Hs2.out]; show (b2 || (x0 == 2)) = _; rw [e2]; simp
              have HY := Lib.hid (at6_new 29 wr (.int .i64 x0) (.int .i64 x1) (.int .i64 x2) (.int .i64 x3) (.int .i64 x4) (.int .i64 x5))
              obtain ⟨y0, y1, y2, y3, y4, y5⟩ := cells6 HY.out
              have HBN := Lib.hid (hB.out.alloc (.cells #[.int .i64 x0, .int .i64 x1, .int .i64 x2, .int .i64 x3, .int .i64 x4, .int .i64 x5] 29))
              obtain ⟨z0, z1⟩ := cells2 HBN.out.box
              clear hp hc1 hB Hs1 Hs3 Hs5 Hs2 HY ho
              go_wp2_with fail
              go_roundw
              case rel => exact ⟨k + 1, true, b3, b5, b2, by omega, by go_num, rfl, rfl, rfl, rfl, S1, S3, S5, S2, HBN⟩
              case measure => simp [intOf]; omega
            have n1 := ho
            clear ho
            by_cases ho : x0 = 3
            · have c1 : (x1 != 1) = false := by have hcl : x1 = 1 := DefP.ahead HF.out hp (.inl (by rw [HP.out]; exact hp0)); simp [hcl]
              have e1 : (x0 == 1) = false := beq_eq_false_iff_ne.2 (by omega)
              have e3 : (x0 == 3) = true := beq_iff_eq.2 ho
              have e5 : (x0 == 5) = false := beq_eq_false_iff_ne.2 (by omega)
              have e2 : (x0 == 2) = false := beq_eq_false_iff_ne.2 (by omega)
              have e6 : (x0 == 6) = false := beq_eq_false_iff_ne.2 (by omega)
              have S1 : Hid (DefP.seen l 1 (k + 1) = b1) := by show _ = _; rw [seen_step hp, Hs1.out]; show (b1 || (x0 == 1)) = _; rw [e1]; simp
              have S3 : Hid (DefP.seen l 3 (k + 1) = true) := by show _ = _; rw [seen_step hp, Hs3.out]; show (b3 || (x0 == 3)) = _; rw [e3]; simp
              have S5 : Hid (DefP.seen l 5 (k + 1) = b5) := by show _ = _; rw [seen_step hp, Hs5.out]; show (b5 || (x0 == 5)) = _; rw [e5]; simp
              have S2 : Hid (DefP.seen l 2 (k + 1) = b2) := by show _ = _; rw [seen_step hp, Hs2.out]; show (b2 || (x0 == 2)) = _; rw [e2]; simp
              have hb1 : b1 = true := by rw [← Hs1.out]; exact keep_seen HF.out hp ho
              subst hb1
              have HY := Lib.hid (at6_new 29 wr (.int .i64 x0) (.int .i64 x1) (.int .i64 x2) (.int .i64 x3) (.int .i64 x4) (.int .i64 x5))
              obtain ⟨y0, y1, y2, y3, y4, y5⟩ := cells6 HY.out
              have HBN := Lib.hid (hB.out.alloc (.cells #[.int .i64 x0, .int .i64 x1, .int .i64 x2, .int .i64 x3, .int .i64 x4, .int .i64 x5] 29))
              obtain ⟨z0, z1⟩ := cells2 HBN.out.box
              clear hp hc1 hB Hs1 Hs3 Hs5 Hs2 HY ho
              go_wp2_with fail
              go_roundw
              case rel => exact ⟨k + 1, true, true, b5, b2, by omega, by go_num, rfl, rfl, rfl, rfl, S1, S3, S5, S2, HBN⟩
              case measure => simp [intOf]; omega
            have n3 := ho
            clear ho
            by_cases ho : x0 = 5
            · have hss := send_seen HF.out hp ho
              rw [HP.out] at hss
              exact absurd hss.2 (by omega)
            have n5 := ho
            clear ho
            by_cases ho : x0 = 2
            · have c1 : (x1 != 1) = false := by have hcl : x1 = 1 := DefP.ahead HF.out hp (.inl (by rw [HP.out]; exact hp0)); simp [hcl]
              have e1 : (x0 == 1) = false := beq_eq_false_iff_ne.2 (by omega)
              have e3 : (x0 == 3) = false := beq_eq_false_iff_ne.2 (by omega)
              have e5 : (x0 == 5) = false := beq_eq_false_iff_ne.2 (by omega)
              have e2 : (x0 == 2) = true := beq_iff_eq.2 ho
              have e6 : (x0 == 6) = false := beq_eq_false_iff_ne.2 (by omega)
              have S1 : Hid (DefP.seen l 1 (k + 1) = b1) := by show _ = _; rw [seen_step hp, Hs1.out]; show (b1 || (x0 == 1)) = _; rw [e1]; simp
              have S3 : Hid (DefP.seen l 3 (k + 1) = b3) := by show _ = _; rw [seen_step hp, Hs3.out]; show (b3 || (x0 == 3)) = _; rw [e3]; simp
              have S5 : Hid (DefP.seen l 5 (k + 1) = b5) := by show _ = _; rw [seen_step hp, Hs5.out]; show (b5 || (x0 == 5)) = _; rw [e5]; simp
              have S2 : Hid (DefP.seen l 2 (k + 1) = true) := by show _ = _; rw [seen_step hp, Hs2.out]; show (b2 || (x0 == 2)) = _; rw [e2]; simp
              have HY := Lib.hid (at6_new 29 wr (.int .i64 x0) (.int .i64 x1) (.int .i64 x2) (.int .i64 x3) (.int .i64 x4) (.int .i64 x5))
              obtain ⟨y0, y1, y2, y3, y4, y5⟩ := cells6 HY.out
              have HBN := Lib.hid (hB.out.alloc (.cells #[.int .i64 x0, .int .i64 x1, .int .i64 x2, .int .i64 x3, .int .i64 x4, .int .i64 x5] 29))
              obtain ⟨z0, z1⟩ := cells2 HBN.out.box
              clear hp hc1 hB Hs1 Hs3 Hs5 Hs2 HY ho
              go_wp2_with fail
              go_roundw
              case rel => exact ⟨k + 1, b1, b3, b5, true, by omega, by go_num, rfl, rfl, rfl, rfl, S1, S3, S5, S2, HBN⟩
              case measure => simp [intOf]; omega
            have n2 := ho
            clear ho
            by_cases ho : x0 = 6
            · have c1 : (x1 != 1) = false := by have hcl : x1 = 1 := DefP.ahead HF.out hp (.inl (by rw [HP.out]; exact hp0)); simp [hcl]
              have e1 : (x0 == 1) = false := beq_eq_false_iff_ne.2 (by omega)
              have e3 : (x0 == 3) = false := beq_eq_false_iff_ne.2 (by omega)
              have e5 : (x0 == 5) = false := beq_eq_false_iff_ne.2 (by omega)
              have e2 : (x0 == 2) = false := beq_eq_false_iff_ne.2 (by omega)
              have e6 : (x0 == 6) = true := beq_iff_eq.2 ho
              have S1 : Hid (DefP.seen l 1 (k + 1) = b1) := by show _ = _; rw [seen_step hp, Hs1.out]; show (b1 || (x0 == 1)) = _; rw [e1]; simp
              have S3 : Hid (DefP.seen l 3 (k + 1) = b3) := by show _ = _; rw [seen_step hp, Hs3.out]; show (b3 || (x0 == 3)) = _; rw [e3]; simp
              have S5 : Hid (DefP.seen l 5 (k + 1) = b5) := by show _ = _; rw [seen_step hp, Hs5.out]; show (b5 || (x0 == 5)) = _; rw [e5]; simp
              have S2 : Hid (DefP.seen l 2 (k + 1) = b2) := by show _ = _; rw [seen_step hp, Hs2.out]; show (b2 || (x0 == 2)) = _; rw [e2]; simp
              have hb2 : b2 = true := by rw [← Hs2.out]; exact take_seen HF.out hp ho
              subst hb2
              have HY := Lib.hid (at6_new 29 wr (.int .i64 x0) (.int .i64 x1) (.int .i64 x2) (.int .i64 x3) (.int .i64 x4) (.int .i64 x5))
              obtain ⟨y0, y1, y2, y3, y4, y5⟩ := cells6 HY.out
              have HBN := Lib.hid (hB.out.alloc (.cells #[.int .i64 x0, .int .i64 x1, .int .i64 x2, .int .i64 x3, .int .i64 x4, .int .i64 x5] 29))
              obtain ⟨z0, z1⟩ := cells2 HBN.out.box
              clear hp hc1 hB Hs1 Hs3 Hs5 Hs2 HY ho
              go_wp2_with fail
              go_roundw
              case rel => exact ⟨k + 1, b1, b3, b5, true, by omega, by go_num, rfl, rfl, rfl, rfl, S1, S3, S5, S2, HBN⟩
              case measure => simp [intOf]; omega
            have n6 := ho
            clear ho
            have c1 : (x1 != 1) = false := by have hcl : x1 = 1 := DefP.ahead HF.out hp (.inl (by rw [HP.out]; exact hp0)); simp [hcl]
            have e1 : (x0 == 1) = false := beq_eq_false_iff_ne.2 (by omega)
            have e3 : (x0 == 3) = false := beq_eq_false_iff_ne.2 (by omega)
            have e5 : (x0 == 5) = false := beq_eq_false_iff_ne.2 (by omega)
            have e2 : (x0 == 2) = false := beq_eq_false_iff_ne.2 (by omega)
            have e6 : (x0 == 6) = false := beq_eq_false_iff_ne.2 (by omega)
            have S1 : Hid (DefP.seen l 1 (k + 1) = b1) := by show _ = _; rw [seen_step hp, Hs1.out]; show (b1 || (x0 == 1)) = _; rw [e1]; simp
            have S3 : Hid (DefP.seen l 3 (k + 1) = b3) := by show _ = _; rw [seen_step hp, Hs3.out]; show (b3 || (x0 == 3)) = _; rw [e3]; simp
            have S5 : Hid (DefP.seen l 5 (k + 1) = b5) := by show _ = _; rw [seen_step hp, Hs5.out]; show (b5 || (x0 == 5)) = _; rw [e5]; simp
            have S2 : Hid (DefP.seen l 2 (k + 1) = b2) := by show _ = _; rw [seen_step hp, Hs2.out]; show (b2 || (x0 == 2)) = _; rw [e2]; simp
            have HY := Lib.hid (at6_new 29 wr (.int .i64 x0) (.int .i64 x1) (.int .i64 x2) (.int .i64 x3) (.int .i64 x4) (.int .i64 x5))
            obtain ⟨y0, y1, y2, y3, y4, y5⟩ := cells6 HY.out
            have HBN := Lib.hid (hB.out.alloc (.cells #[.int .i64 x0, .int .i64 x1, .int .i64 x2, .int .i64 x3, .int .i64 x4, .int .i64 x5] 29))
            obtain ⟨z0, z1⟩ := cells2 HBN.out.box
            clear hp hc1 hB Hs1 Hs3 Hs5 Hs2 HY n1 n3 n5 n2 n6
            go_wp2_with fail
            go_roundw
            case rel => exact ⟨k + 1, b1, b3, b5, b2, by omega, by go_num, rfl, rfl, rfl, rfl, S1, S3, S5, S2, HBN⟩
            case measure => simp [intOf]; omega
          have hp1 : 0 ≤ P := by omega
          by_cases hki : (k : Int) < P
          · have hkp : ¬ P < (k : Int) := by omega
            by_cases ho : x0 = 1
            · have c1 : (x1 != 1) = false := by have hcl : x1 = 1 := DefP.ahead HF.out hp (.inr (by rw [HP.out]; exact hki)); simp [hcl]
              have e1 : (x0 == 1) = true := beq_iff_eq.2 ho
              have e3 : (x0 == 3) = false := beq_eq_false_iff_ne.2 (by omega)
              have e5 : (x0 == 5) = false := beq_eq_false_iff_ne.2 (by omega)
              have e2 : (x0 == 2) = false := beq_eq_false_iff_ne.2 (by omega)
              have e6 : (x0 == 6) = false := beq_eq_false_iff_ne.2 (by omega)
              have S1 : Hid (DefP.seen l 1 (k + 1) = true) := by show _ = _; rw [seen_step hp, Hs1.out]; show (b1 || (x0 == 1)) = _; rw [e1]; simp
              have S3 : Hid (DefP.seen l 3 (k + 1) = b3) := by show _ = _; rw [seen_step hp, Hs3.out]; show (b3 || (x0 == 3)) = _; rw [e3]; simp
              have S5 : Hid (DefP.seen l 5 (k + 1) = b5) := by show _ = _; rw [seen_step hp, Hs5.out]; show (b5 || (x0 == 5)) = _; rw [e5]; simp
              have S2 : Hid (DefP.seen l 2 (k + 1) = b2) := by show _ = _; rw [seen_step hp, Hs2.out]; show (b2 || (x0 == 2)) = _; rw [e2]; simp
              have HY := Lib.hid (at6_new 29 wr (.int .i64 x0) (.int .i64 x1) (.int .i64 x2) (.int .i64 x3) (.int .i64 x4) (.int .i64 x5))
              obtain ⟨y0, y1, y2, y3, y4, y5⟩ := cells6 HY.out
              have HBN := Lib.hid (hB.out.alloc (.cells #[.int .i64 x0, .int .i64 x1, .int .i64 x2, .int .i64 x3, .int .i64 x4, .int .i64 x5] 29))
              obtain ⟨z0, z1⟩ := cells2 HBN.out.box
              clear hp hc1 hB Hs1 Hs3 Hs5 Hs2 HY ho
              go_wp2_with fail
              go_roundw
              case rel => exact ⟨k + 1, true, b3, b5, b2, by omega, by go_num, rfl, rfl, rfl, rfl, S1, S3, S5, S2, HBN⟩
              case measure => simp [intOf]; omega
            have n1 := ho
            clear ho
            by_cases ho : x0 = 3
            · have c1 : (x1 != 1) = false := by have hcl : x1 = 1 := DefP.ahead HF.out hp (.inr (by rw [HP.out]; exact hki)); simp [hcl]
              have e1 : (x0 == 1) = false := beq_eq_false_iff_ne.2 (by omega)
              have e3 : (x0 == 3) = true := beq_iff_eq.2 ho
              have e5 : (x0 == 5) = false := beq_eq_false_iff_ne.2 (by omega)
              have e2 : (x0 == 2) = false := beq_eq_false_iff_ne.2 (by omega)
              have e6 : (x0 == 6) = false := beq_eq_false_iff_ne.2 (by omega)
              have S1 : Hid (DefP.seen l 1 (k + 1) = b1) := by show _ = _; rw [seen_step hp, Hs1.out]; show (b1 || (x0 == 1)) = _; rw [e1]; simp
              have S3 : Hid (DefP.seen l 3 (k + 1) = true) := by show _ = _; rw [seen_step hp, Hs3.out]; show (b3 || (x0 == 3)) = _; rw [e3]; simp
              have S5 : Hid (DefP.seen l 5 (k + 1) = b5) := by show _ = _; rw [seen_step hp, Hs5.out]; show (b5 || (x0 == 5)) = _; rw [e5]; simp
              have S2 : Hid (DefP.seen l 2 (k + 1) = b2) := by show _ = _; rw [seen_step hp, Hs2.out]; show (b2 || (x0 == 2)) = _; rw [e2]; simp
              have hb1 : b1 = true := by rw [← Hs1.out]; exact keep_seen HF.out hp ho
              subst hb1
              have HY := Lib.hid (at6_new 29 wr (.int .i64 x0) (.int .i64 x1) (.int .i64 x2) (.int .i64 x3) (.int .i64 x4) (.int .i64 x5))
              obtain ⟨y0, y1, y2, y3, y4, y5⟩ := cells6 HY.out
              have HBN := Lib.hid (hB.out.alloc (.cells #[.int .i64 x0, .int .i64 x1, .int .i64 x2, .int .i64 x3, .int .i64 x4, .int .i64 x5] 29))
              obtain ⟨z0, z1⟩ := cells2 HBN.out.box
              clear hp hc1 hB Hs1 Hs3 Hs5 Hs2 HY ho
              go_wp2_with fail
              go_roundw
              case rel => exact ⟨k + 1, true, true, b5, b2, by omega, by go_num, rfl, rfl, rfl, rfl, S1, S3, S5, S2, HBN⟩
              case measure => simp [intOf]; omega
            have n3 := ho
            clear ho
            by_cases ho : x0 = 5
            · have hss := send_seen HF.out hp ho
              rw [HP.out] at hss
              exact absurd hss.2 (by omega)
            have n5 := ho
            clear ho
            by_cases ho : x0 = 2
            · have c1 : (x1 != 1) = false := by have hcl : x1 = 1 := DefP.ahead HF.out hp (.inr (by rw [HP.out]; exact hki)); simp [hcl]
              have e1 : (x0 == 1) = false := beq_eq_false_iff_ne.2 (by omega)
              have e3 : (x0 == 3) = false := beq_eq_false_iff_ne.2 (by omega)
              have e5 : (x0 == 5) = false := beq_eq_false_iff_ne.2 (by omega)
              have e2 : (x0 == 2) = true := beq_iff_eq.2 ho
              have e6 : (x0 == 6) = false := beq_eq_false_iff_ne.2 (by omega)
              have S1 : Hid (DefP.seen l 1 (k + 1) = b1) := by show _ = _; rw [seen_step hp, Hs1.out]; show (b1 || (x0 == 1)) = _; rw [e1]; simp
              have S3 : Hid (DefP.seen l 3 (k + 1) = b3) := by show _ = _; rw [seen_step hp, Hs3.out]; show (b3 || (x0 == 3)) = _; rw [e3]; simp
              have S5 : Hid (DefP.seen l 5 (k + 1) = b5) := by show _ = _; rw [seen_step hp, Hs5.out]; show (b5 || (x0 == 5)) = _; rw [e5]; simp
              have S2 : Hid (DefP.seen l 2 (k + 1) = true) := by show _ = _; rw [seen_step hp, Hs2.out]; show (b2 || (x0 == 2)) = _; rw [e2]; simp
              have HY := Lib.hid (at6_new 29 wr (.int .i64 x0) (.int .i64 x1) (.int .i64 x2) (.int .i64 x3) (.int .i64 x4) (.int .i64 x5))
              obtain ⟨y0, y1, y2, y3, y4, y5⟩ := cells6 HY.out
              have HBN := Lib.hid (hB.out.alloc (.cells #[.int .i64 x0, .int .i64 x1, .int .i64 x2, .int .i64 x3, .int .i64 x4, .int .i64 x5] 29))
              obtain ⟨z0, z1⟩ := cells2 HBN.out.box
              clear hp hc1 hB Hs1 Hs3 Hs5 Hs2 HY ho
              go_wp2_with fail
              go_roundw
              case rel => exact ⟨k + 1, b1, b3, b5, true, by omega, by go_num, rfl, rfl, rfl, rfl, S1, S3, S5, S2, HBN⟩
              case measure => simp [intOf]; omega
            have n2 := ho
            clear ho
            by_cases ho : x0 = 6
            · have c1 : (x1 != 1) = false := by have hcl : x1 = 1 := DefP.ahead HF.out hp (.inr (by rw [HP.out]; exact hki)); simp [hcl]
              have e1 : (x0 == 1) = false := beq_eq_false_iff_ne.2 (by omega)
              have e3 : (x0 == 3) = false := beq_eq_false_iff_ne.2 (by omega)
              have e5 : (x0 == 5) = false := beq_eq_false_iff_ne.2 (by omega)
              have e2 : (x0 == 2) = false := beq_eq_false_iff_ne.2 (by omega)
              have e6 : (x0 == 6) = true := beq_iff_eq.2 ho
              have S1 : Hid (DefP.seen l 1 (k + 1) = b1) := by show _ = _; rw [seen_step hp, Hs1.out]; show (b1 || (x0 == 1)) = _; rw [e1]; simp
              have S3 : Hid (DefP.seen l 3 (k + 1) = b3) := by show _ = _; rw [seen_step hp, Hs3.out]; show (b3 || (x0 == 3)) = _; rw [e3]; simp
              have S5 : Hid (DefP.seen l 5 (k + 1) = b5) := by show _ = _; rw [seen_step hp, Hs5.out]; show (b5 || (x0 == 5)) = _; rw [e5]; simp
              have S2 : Hid (DefP.seen l 2 (k + 1) = b2) := by show _ = _; rw [seen_step hp, Hs2.out]; show (b2 || (x0 == 2)) = _; rw [e2]; simp
              have hb2 : b2 = true := by rw [← Hs2.out]; exact take_seen HF.out hp ho
              subst hb2
              have HY := Lib.hid (at6_new 29 wr (.int .i64 x0) (.int .i64 x1) (.int .i64 x2) (.int .i64 x3) (.int .i64 x4) (.int .i64 x5))
              obtain ⟨y0, y1, y2, y3, y4, y5⟩ := cells6 HY.out
              have HBN := Lib.hid (hB.out.alloc (.cells #[.int .i64 x0, .int .i64 x1, .int .i64 x2, .int .i64 x3, .int .i64 x4, .int .i64 x5] 29))
              obtain ⟨z0, z1⟩ := cells2 HBN.out.box
              clear hp hc1 hB Hs1 Hs3 Hs5 Hs2 HY ho
              go_wp2_with fail
              go_roundw
              case rel => exact ⟨k + 1, b1, b3, b5, true, by omega, by go_num, rfl, rfl, rfl, rfl, S1, S3, S5, S2, HBN⟩
              case measure => simp [intOf]; omega
            have n6 := ho
            clear ho
            have c1 : (x1 != 1) = false := by have hcl : x1 = 1 := DefP.ahead HF.out hp (.inr (by rw [HP.out]; exact hki)); simp [hcl]
            have e1 : (x0 == 1) = false := beq_eq_false_iff_ne.2 (by omega)
            have e3 : (x0 == 3) = false := beq_eq_false_iff_ne.2 (by omega)
            have e5 : (x0 == 5) = false := beq_eq_false_iff_ne.2 (by omega)
            have e2 : (x0 == 2) = false := beq_eq_false_iff_ne.2 (by omega)
            have e6 : (x0 == 6) = false := beq_eq_false_iff_ne.2 (by omega)
            have S1 : Hid (DefP.seen l 1 (k + 1) = b1) := by show _ = _; rw [seen_step hp, Hs1.out]; show (b1 || (x0 == 1)) = _; rw [e1]; simp
            have S3 : Hid (DefP.seen l 3 (k + 1) = b3) := by show _ = _; rw [seen_step hp, Hs3.out]; show (b3 || (x0 == 3)) = _; rw [e3]; simp
            have S5 : Hid (DefP.seen l 5 (k + 1) = b5) := by show _ = _; rw [seen_step hp, Hs5.out]; show (b5 || (x0 == 5)) = _; rw [e5]; simp
            have S2 : Hid (DefP.seen l 2 (k + 1) = b2) := by show _ = _; rw [seen_step hp, Hs2.out]; show (b2 || (x0 == 2)) = _; rw [e2]; simp
            have HY := Lib.hid (at6_new 29 wr (.int .i64 x0) (.int .i64 x1) (.int .i64 x2) (.int .i64 x3) (.int .i64 x4) (.int .i64 x5))
            obtain ⟨y0, y1, y2, y3, y4, y5⟩ := cells6 HY.out
            have HBN := Lib.hid (hB.out.alloc (.cells #[.int .i64 x0, .int .i64 x1, .int .i64 x2, .int .i64 x3, .int .i64 x4, .int .i64 x5] 29))
            obtain ⟨z0, z1⟩ := cells2 HBN.out.box
            clear hp hc1 hB Hs1 Hs3 Hs5 Hs2 HY n1 n3 n5 n2 n6
            go_wp2_with fail
            go_roundw
            case rel => exact ⟨k + 1, b1, b3, b5, b2, by omega, by go_num, rfl, rfl, rfl, rfl, S1, S3, S5, S2, HBN⟩
            case measure => simp [intOf]; omega
          by_cases hkp : P < (k : Int)
          · skip
            by_cases ho : x0 = 1
            · exact absurd ho (DefP.behind_ops HF.out hp (by rw [HP.out]; exact hp1) (by rw [HP.out]; exact hkp)).1
            have n1 := ho
            clear ho
            by_cases ho : x0 = 3
            · exact absurd ho (DefP.behind_ops HF.out hp (by rw [HP.out]; exact hp1) (by rw [HP.out]; exact hkp)).2
            have n3 := ho
            clear ho
            by_cases ho : x0 = 5
            · have c3 : (x1 != 3) = false := by have hcl : x1 = 3 := DefP.behind HF.out hp (by rw [HP.out]; exact hp1) (by rw [HP.out]; exact hkp); simp [hcl]
              have e1 : (x0 == 1) = false := beq_eq_false_iff_ne.2 (by omega)
              have e3 : (x0 == 3) = false := beq_eq_false_iff_ne.2 (by omega)
              have e5 : (x0 == 5) = true := beq_iff_eq.2 ho
              have e2 : (x0 == 2) = false := beq_eq_false_iff_ne.2 (by omega)
              have e6 : (x0 == 6) = false := beq_eq_false_iff_ne.2 (by omega)
              have S1 : Hid (DefP.seen l 1 (k + 1) = b1) := by show _ = _; rw [seen_step hp, Hs1.out]; show (b1 || (x0 == 1)) = _; rw [e1]; simp
              have S3 : Hid (DefP.seen l 3 (k + 1) = b3) := by show _ = _; rw [seen_step hp, Hs3.out]; show (b3 || (x0 == 3)) = _; rw [e3]; simp
              have S5 : Hid (DefP.seen l 5 (k + 1) = true) := by show _ = _; rw [seen_step hp, Hs5.out]; show (b5 || (x0 == 5)) = _; rw [e5]; simp
              have S2 : Hid (DefP.seen l 2 (k + 1) = b2) := by show _ = _; rw [seen_step hp, Hs2.out]; show (b2 || (x0 == 2)) = _; rw [e2]; simp
              have hb3 : b3 = true := by rw [← Hs3.out]; exact (send_seen HF.out hp ho).1
              subst hb3
              have HY := Lib.hid (at6_new 29 wr (.int .i64 x0) (.int .i64 x1) (.int .i64 x2) (.int .i64 x3) (.int .i64 x4) (.int .i64 x5))
              obtain ⟨y0, y1, y2, y3, y4, y5⟩ := cells6 HY.out
              have HBN := Lib.hid (hB.out.alloc (.cells #[.int .i64 x0, .int .i64 x1, .int .i64 x2, .int .i64 x3, .int .i64 x4, .int .i64 x5] 29))
              obtain ⟨z0, z1⟩ := cells2 HBN.out.box
              clear hp hc1 hB Hs1 Hs3 Hs5 Hs2 HY ho
              go_wp2_with fail
              go_roundw
              case rel => exact ⟨k + 1, b1, true, true, b2, by omega, by go_num, rfl, rfl, rfl, rfl, S1, S3, S5, S2, HBN⟩
              case measure => simp [intOf]; omega
            have n5 := ho
            clear ho
            by_cases ho : x0 = 2
            · have c3 : (x1 != 3) = false := by have hcl : x1 = 3 := DefP.behind HF.out hp (by rw [HP.out]; exact hp1) (by rw [HP.out]; exact hkp); simp [hcl]
              have e1 : (x0 == 1) = false := beq_eq_false_iff_ne.2 (by omega)
              have e3 : (x0 == 3) = false := beq_eq_false_iff_ne.2 (by omega)
              have e5 : (x0 == 5) = false := beq_eq_false_iff_ne.2 (by omega)
              have e2 : (x0 == 2) = true := beq_iff_eq.2 ho
              have e6 : (x0 == 6) = false := beq_eq_false_iff_ne.2 (by omega)
              have S1 : Hid (DefP.seen l 1 (k + 1) = b1) := by show _ = _; rw [seen_step hp, Hs1.out]; show (b1 || (x0 == 1)) = _; rw [e1]; simp
              have S3 : Hid (DefP.seen l 3 (k + 1) = b3) := by show _ = _; rw [seen_step hp, Hs3.out]; show (b3 || (x0 == 3)) = _; rw [e3]; simp
              have S5 : Hid (DefP.seen l 5 (k + 1) = b5) := by show _ = _; rw [seen_step hp, Hs5.out]; show (b5 || (x0 == 5)) = _; rw [e5]; simp
              have S2 : Hid (DefP.seen l 2 (k + 1) = true) := by show _ = _; rw [seen_step hp, Hs2.out]; show (b2 || (x0 == 2)) = _; rw [e2]; simp
              have HY := Lib.hid (at6_new 29 wr (.int .i64 x0) (.int .i64 x1) (.int .i64 x2) (.int .i64 x3) (.int .i64 x4) (.int .i64 x5))
              obtain ⟨y0, y1, y2, y3, y4, y5⟩ := cells6 HY.out
              have HBN := Lib.hid (hB.out.alloc (.cells #[.int .i64 x0, .int .i64 x1, .int .i64 x2, .int .i64 x3, .int .i64 x4, .int .i64 x5] 29))
              obtain ⟨z0, z1⟩ := cells2 HBN.out.box
              clear hp hc1 hB Hs1 Hs3 Hs5 Hs2 HY ho
              go_wp2_with fail
              go_roundw
              case rel => exact ⟨k + 1, b1, b3, b5, true, by omega, by go_num, rfl, rfl, rfl, rfl, S1, S3, S5, S2, HBN⟩
              case measure => simp [intOf]; omega
            have n2 := ho
            clear ho
            by_cases ho : x0 = 6
            · have c3 : (x1 != 3) = false := by have hcl : x1 = 3 := DefP.behind HF.out hp (by rw [HP.out]; exact hp1) (by rw [HP.out]; exact hkp); simp [hcl]
              have e1 : (x0 == 1) = false := beq_eq_false_iff_ne.2 (by omega)
              have e3 : (x0 == 3) = false := beq_eq_false_iff_ne.2 (by omega)
              have e5 : (x0 == 5) = false := beq_eq_false_iff_ne.2 (by omega)
              have e2 : (x0 == 2) = false := beq_eq_false_iff_ne.2 (by omega)
              have e6 : (x0 == 6) = true := beq_iff_eq.2 ho
              have S1 : Hid (DefP.seen l 1 (k + 1) = b1) := by show _ = _; rw [seen_step hp, Hs1.out]; show (b1 || (x0 == 1)) = _; rw [e1]; simp
              have S3 : Hid (DefP.seen l 3 (k + 1) = b3) := by show _ = _; rw [seen_step hp, Hs3.out]; show (b3 || (x0 == 3)) = _; rw [e3]; simp
              have S5 : Hid (DefP.seen l 5 (k + 1) = b5) := by show _ = _; rw [seen_step hp, Hs5.out]; show (b5 || (x0 == 5)) = _; rw [e5]; simp
              have S2 : Hid (DefP.seen l 2 (k + 1) = b2) := by show _ = _; rw [seen_step hp, Hs2.out]; show (b2 || (x0 == 2)) = _; rw [e2]; simp
              have hb2 : b2 = true := by rw [← Hs2.out]; exact take_seen HF.out hp ho
              subst hb2
              have HY := Lib.hid (at6_new 29 wr (.int .i64 x0) (.int .i64 x1) (.int .i64 x2) (.int .i64 x3) (.int .i64 x4) (.int .i64 x5))
              obtain ⟨y0, y1, y2, y3, y4, y5⟩ := cells6 HY.out
              have HBN := Lib.hid (hB.out.alloc (.cells #[.int .i64 x0, .int .i64 x1, .int .i64 x2, .int .i64 x3, .int .i64 x4, .int .i64 x5] 29))
              obtain ⟨z0, z1⟩ := cells2 HBN.out.box
              clear hp hc1 hB Hs1 Hs3 Hs5 Hs2 HY ho
              go_wp2_with fail
              go_roundw
              case rel => exact ⟨k + 1, b1, b3, b5, true, by omega, by go_num, rfl, rfl, rfl, rfl, S1, S3, S5, S2, HBN⟩
              case measure => simp [intOf]; omega
            have n6 := ho
            clear ho
            have c3 : (x1 != 3) = false := by have hcl : x1 = 3 := DefP.behind HF.out hp (by rw [HP.out]; exact hp1) (by rw [HP.out]; exact hkp); simp [hcl]
            have e1 : (x0 == 1) = false := beq_eq_false_iff_ne.2 (by omega)
            have e3 : (x0 == 3) = false := beq_eq_false_iff_ne.2 (by omega)
            have e5 : (x0 == 5) = false := beq_eq_false_iff_ne.2 (by omega)
            have e2 : (x0 == 2) = false := beq_eq_false_iff_ne.2 (by omega)
            have e6 : (x0 == 6) = false := beq_eq_false_iff_ne.2 (by omega)
            have S1 : Hid (DefP.seen l 1 (k + 1) = b1) := by show _ = _; rw [seen_step hp, Hs1.out]; show (b1 || (x0 == 1)) = _; rw [e1]; simp
            have S3 : Hid (DefP.seen l 3 (k + 1) = b3) := by show _ = _; rw [seen_step hp, Hs3.out]; show (b3 || (x0 == 3)) = _; rw [e3]; simp
            have S5 : Hid (DefP.seen l 5 (k + 1) = b5) := by show _ = _; rw [seen_step hp, Hs5.out]; show (b5 || (x0 == 5)) = _; rw [e5]; simp
            have S2 : Hid (DefP.seen l 2 (k + 1) = b2) := by show _ = _; rw [seen_step hp, Hs2.out]; show (b2 || (x0 == 2)) = _; rw [e2]; simp
            have HY := Lib.hid (at6_new 29 wr (.int .i64 x0) (.int .i64 x1) (.int .i64 x2) (.int .i64 x3) (.int .i64 x4) (.int .i64 x5))
            obtain ⟨y0, y1, y2, y3, y4, y5⟩ := cells6 HY.out
            have HBN := Lib.hid (hB.out.alloc (.cells #[.int .i64 x0, .int .i64 x1, .int .i64 x2, .int .i64 x3, .int .i64 x4, .int .i64 x5] 29))
            obtain ⟨z0, z1⟩ := cells2 HBN.out.box
            clear hp hc1 hB Hs1 Hs3 Hs5 Hs2 HY n1 n3 n5 n2 n6
            go_wp2_with fail
            go_roundw
            case rel => exact ⟨k + 1, b1, b3, b5, b2, by omega, by go_num, rfl, rfl, rfl, rfl, S1, S3, S5, S2, HBN⟩
            case measure => simp [intOf]; omega
          by_cases ho : x0 = 1
          · have e1 : (x0 == 1) = true := beq_iff_eq.2 ho
            have e3 : (x0 == 3) = false := beq_eq_false_iff_ne.2 (by omega)
            have e5 : (x0 == 5) = false := beq_eq_false_iff_ne.2 (by omega)
            have e2 : (x0 == 2) = false := beq_eq_false_iff_ne.2 (by omega)
            have e6 : (x0 == 6) = false := beq_eq_false_iff_ne.2 (by omega)
            have S1 : Hid (DefP.seen l 1 (k + 1) = true) := by show _ = _; rw [seen_step hp, Hs1.out]; show (b1 || (x0 == 1)) = _; rw [e1]; simp
            have S3 : Hid (DefP.seen l 3 (k + 1) = b3) := by show _ = _; rw [seen_step hp, Hs3.out]; show (b3 || (x0 == 3)) = _; rw [e3]; simp
            have S5 : Hid (DefP.seen l 5 (k + 1) = b5) := by show _ = _; rw [seen_step hp, Hs5.out]; show (b5 || (x0 == 5)) = _; rw [e5]; simp
            have S2 : Hid (DefP.seen l 2 (k + 1) = b2) := by show _ = _; rw [seen_step hp, Hs2.out]; show (b2 || (x0 == 2)) = _; rw [e2]; simp
            have HY := Lib.hid (at6_new 29 wr (.int .i64 x0) (.int .i64 x1) (.int .i64 x2) (.int .i64 x3) (.int .i64 x4) (.int .i64 x5))
            obtain ⟨y0, y1, y2, y3, y4, y5⟩ := cells6 HY.out
            have HBN := Lib.hid (hB.out.alloc (.cells #[.int .i64 x0, .int .i64 x1, .int .i64 x2, .int .i64 x3, .int .i64 x4, .int .i64 x5] 29))
            obtain ⟨z0, z1⟩ := cells2 HBN.out.box
            clear hp hc1 hB Hs1 Hs3 Hs5 Hs2 HY ho
            go_wp2_with fail
            go_roundw
            case rel => exact ⟨k + 1, true, b3, b5, b2, by omega, by go_num, rfl, rfl, rfl, rfl, S1, S3, S5, S2, HBN⟩
            case measure => simp [intOf]; omega
          have n1 := ho
          clear ho
          by_cases ho : x0 = 3
          · have e1 : (x0 == 1) = false := beq_eq_false_iff_ne.2 (by omega)
            have e3 : (x0 == 3) = true := beq_iff_eq.2 ho
            have e5 : (x0 == 5) = false := beq_eq_false_iff_ne.2 (by omega)
            have e2 : (x0 == 2) = false := beq_eq_false_iff_ne.2 (by omega)
            have e6 : (x0 == 6) = false := beq_eq_false_iff_ne.2 (by omega)
            have S1 : Hid (DefP.seen l 1 (k + 1) = b1) := by show _ = _; rw [seen_step hp, Hs1.out]; show (b1 || (x0 == 1)) = _; rw [e1]; simp
            have S3 : Hid (DefP.seen l 3 (k + 1) = true) := by show _ = _; rw [seen_step hp, Hs3.out]; show (b3 || (x0 == 3)) = _; rw [e3]; simp
            have S5 : Hid (DefP.seen l 5 (k + 1) = b5) := by show _ = _; rw [seen_step hp, Hs5.out]; show (b5 || (x0 == 5)) = _; rw [e5]; simp
            have S2 : Hid (DefP.seen l 2 (k + 1) = b2) := by show _ = _; rw [seen_step hp, Hs2.out]; show (b2 || (x0 == 2)) = _; rw [e2]; simp
            have hb1 : b1 = true := by rw [← Hs1.out]; exact keep_seen HF.out hp ho
            subst hb1
            have HY := Lib.hid (at6_new 29 wr (.int .i64 x0) (.int .i64 x1) (.int .i64 x2) (.int .i64 x3) (.int .i64 x4) (.int .i64 x5))
            obtain ⟨y0, y1, y2, y3, y4, y5⟩ := cells6 HY.out
            have HBN := Lib.hid (hB.out.alloc (.cells #[.int .i64 x0, .int .i64 x1, .int .i64 x2, .int .i64 x3, .int .i64 x4, .int .i64 x5] 29))
            obtain ⟨z0, z1⟩ := cells2 HBN.out.box
            clear hp hc1 hB Hs1 Hs3 Hs5 Hs2 HY ho
            go_wp2_with fail
            go_roundw
            case rel => exact ⟨k + 1, true, true, b5, b2, by omega, by go_num, rfl, rfl, rfl, rfl, S1, S3, S5, S2, HBN⟩
            case measure => simp [intOf]; omega
          have n3 := ho
          clear ho
          by_cases ho : x0 = 5
          · have e1 : (x0 == 1) = false := beq_eq_false_iff_ne.2 (by omega)
            have e3 : (x0 == 3) = false := beq_eq_false_iff_ne.2 (by omega)
            have e5 : (x0 == 5) = true := beq_iff_eq.2 ho
            have e2 : (x0 == 2) = false := beq_eq_false_iff_ne.2 (by omega)
            have e6 : (x0 == 6) = false := beq_eq_false_iff_ne.2 (by omega)
            have S1 : Hid (DefP.seen l 1 (k + 1) = b1) := by show _ = _; rw [seen_step hp, Hs1.out]; show (b1 || (x0 == 1)) = _; rw [e1]; simp
            have S3 : Hid (DefP.seen l 3 (k + 1) = b3) := by show _ = _; rw [seen_step hp, Hs3.out]; show (b3 || (x0 == 3)) = _; rw [e3]; simp
            have S5 : Hid (DefP.seen l 5 (k + 1) = true) := by show _ = _; rw [seen_step hp, Hs5.out]; show (b5 || (x0 == 5)) = _; rw [e5]; simp
            have S2 : Hid (DefP.seen l 2 (k + 1) = b2) := by show _ = _; rw [seen_step hp, Hs2.out]; show (b2 || (x0 == 2)) = _; rw [e2]; simp
            have hb3 : b3 = true := by rw [← Hs3.out]; exact (send_seen HF.out hp ho).1
            subst hb3
            have HY := Lib.hid (at6_new 29 wr (.int .i64 x0) (.int .i64 x1) (.int .i64 x2) (.int .i64 x3) (.int .i64 x4) (.int .i64 x5))
            obtain ⟨y0, y1, y2, y3, y4, y5⟩ := cells6 HY.out
            have HBN := Lib.hid (hB.out.alloc (.cells #[.int .i64 x0, .int .i64 x1, .int .i64 x2, .int .i64 x3, .int .i64 x4, .int .i64 x5] 29))
            obtain ⟨z0, z1⟩ := cells2 HBN.out.box
            clear hp hc1 hB Hs1 Hs3 Hs5 Hs2 HY ho
            go_wp2_with fail
            go_roundw
            case rel => exact ⟨k + 1, b1, true, true, b2, by omega, by go_num, rfl, rfl, rfl, rfl, S1, S3, S5, S2, HBN⟩
            case measure => simp [intOf]; omega
          have n5 := ho
          clear ho
          by_cases ho : x0 = 2
          · have e1 : (x0 == 1) = false := beq_eq_false_iff_ne.2 (by omega)
            have e3 : (x0 == 3) = false := beq_eq_false_iff_ne.2 (by omega)
            have e5 : (x0 == 5) = false := beq_eq_false_iff_ne.2 (by omega)
            have e2 : (x0 == 2) = true := beq_iff_eq.2 ho
            have e6 : (x0 == 6) = false := beq_eq_false_iff_ne.2 (by omega)
            have S1 : Hid (DefP.seen l 1 (k + 1) = b1) := by show _ = _; rw [seen_step hp, Hs1.out]; show (b1 || (x0 == 1)) = _; rw [e1]; simp
            have S3 : Hid (DefP.seen l 3 (k + 1) = b3) := by show _ = _; rw [seen_step hp, Hs3.out]; show (b3 || (x0 == 3)) = _; rw [e3]; simp
            have S5 : Hid (DefP.seen l 5 (k + 1) = b5) := by show _ = _; rw [seen_step hp, Hs5.out]; show (b5 || (x0 == 5)) = _; rw [e5]; simp
            have S2 : Hid (DefP.seen l 2 (k + 1) = true) := by show _ = _; rw [seen_step hp, Hs2.out]; show (b2 || (x0 == 2)) = _; rw [e2]; simp
            have HY := Lib.hid (at6_new 29 wr (.int .i64 x0) (.int .i64 x1) (.int .i64 x2) (.int .i64 x3) (.int .i64 x4) (.int .i64 x5))
            obtain ⟨y0, y1, y2, y3, y4, y5⟩ := cells6 HY.out
            have HBN := Lib.hid (hB.out.alloc (.cells #[.int .i64 x0, .int .i64 x1, .int .i64 x2, .int .i64 x3, .int .i64 x4, .int .i64 x5] 29))
            obtain ⟨z0, z1⟩ := cells2 HBN.out.box
            clear hp hc1 hB Hs1 Hs3 Hs5 Hs2 HY ho
            go_wp2_with fail
            go_roundw
            case rel => exact ⟨k + 1, b1, b3, b5, true, by omega, by go_num, rfl, rfl, rfl, rfl, S1, S3, S5, S2, HBN⟩
            case measure => simp [intOf]; omega
          have n2 := ho
          clear ho
          by_cases ho : x0 = 6
          · have e1 : (x0 == 1) = false := beq_eq_false_iff_ne.2 (by omega)
            have e3 : (x0 == 3) = false := beq_eq_false_iff_ne.2 (by omega)
            have e5 : (x0 == 5) = false := beq_eq_false_iff_ne.2 (by omega)
            have e2 : (x0 == 2) = false := beq_eq_false_iff_ne.2 (by omega)
            have e6 : (x0 == 6) = true := beq_iff_eq.2 ho
            have S1 : Hid (DefP.seen l 1 (k + 1) = b1) := by show _ = _; rw [seen_step hp, Hs1.out]; show (b1 || (x0 == 1)) = _; rw [e1]; simp
            have S3 : Hid (DefP.seen l 3 (k + 1) = b3) := by show _ = _; rw [seen_step hp, Hs3.out]; show (b3 || (x0 == 3)) = _; rw [e3]; simp
            have S5 : Hid (DefP.seen l 5 (k + 1) = b5) := by show _ = _; rw [seen_step hp, Hs5.out]; show (b5 || (x0 == 5)) = _; rw [e5]; simp
            have S2 : Hid (DefP.seen l 2 (k + 1) = b2) := by show _ = _; rw [seen_step hp, Hs2.out]; show (b2 || (x0 == 2)) = _; rw [e2]; simp
            have hb2 : b2 = true := by rw [← Hs2.out]; exact take_seen HF.out hp ho
            subst hb2
            have HY := Lib.hid (at6_new 29 wr (.int .i64 x0) (.int .i64 x1) (.int .i64 x2) (.int .i64 x3) (.int .i64 x4) (.int .i64 x5))
            obtain ⟨y0, y1, y2, y3, y4, y5⟩ := cells6 HY.out
            have HBN := Lib.hid (hB.out.alloc (.cells #[.int .i64 x0, .int .i64 x1, .int .i64 x2, .int .i64 x3, .int .i64 x4, .int .i64 x5] 29))
            obtain ⟨z0, z1⟩ := cells2 HBN.out.box
            clear hp hc1 hB Hs1 Hs3 Hs5 Hs2 HY ho
            go_wp2_with fail
            go_roundw
            case rel => exact ⟨k + 1, b1, b3, b5, true, by omega, by go_num, rfl, rfl, rfl, rfl, S1, S3, S5, S2, HBN⟩
            case measure => simp [intOf]; omega
          have n6 := ho
          clear ho
          have e1 : (x0 == 1) = false := beq_eq_false_iff_ne.2 (by omega)
          have e3 : (x0 == 3) = false := beq_eq_false_iff_ne.2 (by omega)
          have e5 : (x0 == 5) = false := beq_eq_false_iff_ne.2 (by omega)
          have e2 : (x0 == 2) = false := beq_eq_false_iff_ne.2 (by omega)
          have e6 : (x0 == 6) = false := beq_eq_false_iff_ne.2 (by omega)
          have S1 : Hid (DefP.seen l 1 (k + 1) = b1) := by show _ = _; rw [seen_step hp, Hs1.out]; show (b1 || (x0 == 1)) = _; rw [e1]; simp
          have S3 : Hid (DefP.seen l 3 (k + 1) = b3) := by show _ = _; rw [seen_step hp, Hs3.out]; show (b3 || (x0 == 3)) = _; rw [e3]; simp
          have S5 : Hid (DefP.seen l 5 (k + 1) = b5) := by show _ = _; rw [seen_step hp, Hs5.out]; show (b5 || (x0 == 5)) = _; rw [e5]; simp
          have S2 : Hid (DefP.seen l 2 (k + 1) = b2) := by show _ = _; rw [seen_step hp, Hs2.out]; show (b2 || (x0 == 2)) = _; rw [e2]; simp
          have HY := Lib.hid (at6_new 29 wr (.int .i64 x0) (.int .i64 x1) (.int .i64 x2) (.int .i64 x3) (.int .i64 x4) (.int .i64 x5))
          obtain ⟨y0, y1, y2, y3, y4, y5⟩ := cells6 HY.out
          have HBN := Lib.hid (hB.out.alloc (.cells #[.int .i64 x0, .int .i64 x1, .int .i64 x2, .int .i64 x3, .int .i64 x4, .int .i64 x5] 29))
          obtain ⟨z0, z1⟩ := cells2 HBN.out.box
          clear hp hc1 hB Hs1 Hs3 Hs5 Hs2 HY n1 n3 n5 n2 n6
          go_wp2_with fail
          go_roundw
          case rel => exact ⟨k + 1, b1, b3, b5, b2, by omega, by go_num, rfl, rfl, rfl, rfl, S1, S3, S5, S2, HBN⟩
          case measure => simp [intOf]; omega
        · obtain rfl : k = n := by omega
          have hse := DefP.all_seen HF.out (at_len HX.out hlk)
          rw [Hs1.out, Hs3.out, Hs5.out] at hse
          obtain ⟨rfl, rfl⟩ := hse
          have hbb : (b3 == b3) = true := by simp
          have CA := Lib.hid (HA.out wr hB.out.bel)
          clear Hs1 Hs3 Hs5 Hs2
          go_wp2_with fail
          refine CA.out.mono ?_
          rintro e w3 ⟨rfl, hb⟩
          have HB3 := Lib.hid hb
          clear hb
          go_wp2_with fail
          go_ret
          exact ⟨rfl, HB3.out⟩
end Go.Proofs.YtdpgfnnhbfkacaaDoor.Def
namespace Go.Proofs.YtdpgfnnhbfkacaaDoor
open Go.RowKit DefP
/-- What stands in the library's own variables. -/
def Laid (w : World) : Prop := Go.Proofs.YtdpgfnnhbfkacaaDoor.Step.Vars w
theorem laid_of {W : World} (h : laidMetH Tryd.prog Rows.defOrderRow.laid W) (hs : W.ShapedOpen Tryd.prog) : Laid W := maxLen_of hs
theorem Contract.defOrder (s : ByteArray) (a : Option Addr) (n c : Nat) (W : World) (h1 : DefIn W s a n c) (ht : Laid W) :
    Calls Tryd.prog 3 #[Def.dv s a n c] W fun e W' => e = .returned (.bool true) ∧ Below W.heap.size W W' := by
  obtain ⟨l, k1, _, _⟩ := h1
  exact Go.Proofs.YtdpgfnnhbfkacaaDoor.Def.order_any s a n c l W k1 ht
end Go.Proofs.YtdpgfnnhbfkacaaDoor
