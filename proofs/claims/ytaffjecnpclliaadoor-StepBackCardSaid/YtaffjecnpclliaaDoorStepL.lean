/-
  StepBack; what was there stays as it was.
-/
import Derived.Test.YtaffjecnpclliaaDoorStepJ
set_option linter.unusedVariables false
set_option linter.unusedSimpArgs false
set_option maxRecDepth 4000
namespace Go.Proofs.YtaffjecnpclliaaDoor.Step
open Go.RowKit StP
open Go.Proofs.YtaffjecnpclliaaDoor.Kt

theorem join_small3 (xs : List ByteArray) (h : ∀ x ∈ xs, x.size ≤ 21) (hl : xs.length ≤ 8) : (Lib.join (xs.map (·.data.toList)) [47]).length ≤ 300 := by
  cases xs with
  | nil => simp [Lib.join_nil]
  | cons x r =>
    rw [List.map_cons, Lib.join_length]
    have hs : ∀ l : List ByteArray, (∀ x ∈ l, x.size ≤ 21) → Lib.lens (l.map (·.data.toList)) ≤ 21 * l.length := by
      intro l hl
      induction l with
      | nil => simp [Lib.lens]
      | cons y q ih =>
        have h1 := ih fun z hz => hl z (List.mem_cons_of_mem _ hz)
        have h2 := hl y List.mem_cons_self
        have h3 : y.data.toList.length = y.size := Array.length_toList
        simp only [Lib.lens, List.map_cons, List.sum_cons, List.length_cons] at h1 ⊢
        omega
    have := hs (x :: r) h
    simp only [List.map_cons, List.length_cons, List.length_map, List.length_nil] at this hl ⊢
    omega

theorem text_size (x : St) : (bs (textS x)).size ≤ 300 := by
  rw [bs_size]
  cases h : fitS x with
  | false => rw [text_no h]; exact Nat.zero_le _
  | true =>
    rw [← join_words h]
    exact join_small3 _ (words_small (fitS_of h)) (by simp [digs, nums])
theorem text_empty (x : St) : (bs (textS x)).toList.isEmpty = !fitS x := by
  rw [ByteArray.toList_eq, data_bs]
  cases h : fitS x with
  | false => rw [text_no h]; rfl
  | true => rw [List.isEmpty_eq_false_iff.2 (text_yes h)]; rfl
theorem back_of (x : St) : readS (bs (textS x)).data.toList = (if fitS x = true then some x else none) := by
  rw [data_bs]
  cases h : fitS x with
  | false => rw [text_no h]; exact read_nil
  | true => rw [readS_back h]; rfl

set_option maxHeartbeats 8000000 in
theorem back_any (x0 x1 x2 x3 x4 x5 : Int) (s : ByteArray) (w : World) (hk : s.size ≤ 9223372036854775807) (hv : Vars w) : Calls Tryd.prog 5 #[.agg #[.int .i64 x0, .int .i64 x1, .int .i64 x2, .int .i64 x3, .int .i64 x4, .int .i64 x5], .string s] w fun e w' => e = .returned (.bool true) ∧ Below w.heap.size w w' := by
  have hB0 := bx6_new 23 w (.int .i64 x0) (.int .i64 x1) (.int .i64 x2) (.int .i64 x3) (.int .i64 x4) (.int .i64 x5)
  obtain ⟨w0, hw0⟩ : ∃ w0, w.alloc (.cells #[.int .i64 x0, .int .i64 x1, .int .i64 x2, .int .i64 x3, .int .i64 x4, .int .i64 x5] 23) = w0 := ⟨_, rfl⟩
  rw [hw0] at hB0
  have HW := Lib.hid hw0
  have HB0 := Lib.hid hB0
  have HV := Lib.hid (fun W (hb : Below w.heap.size w W) => hv.keep hb)
  clear hw0 hB0 hv
  by_cases h80 : 80 < s.size
  · have hi : (80 : Int) < (s.size : Int) := by omega
    have CA := Lib.hid (awake_any w0 (HV.out _ HB0.out.bel))
    go_enter Tryd.func5, Tryd.ntmps5
    go_wp2_with fail
    rw [show w.alloc (.cells #[.int .i64 x0, .int .i64 x1, .int .i64 x2, .int .i64 x3, .int .i64 x4, .int .i64 x5] 23) = w0 from HW.out]
    go_wp2_with fail
    refine CA.out.mono ?_
    rintro e w1 ⟨rfl, hb⟩
    have HB1 := Lib.hid (HB0.out.keep hb)
    clear hb
    go_wp2_with fail
    go_ret
    exact ⟨rfl, HB1.out.bel⟩
  have hi : ¬ (80 : Int) < (s.size : Int) := by omega
  have hs3 : s.size ≤ 300 := by omega
  obtain ⟨t, ht⟩ : ∃ t, bs (textS ⟨x0, x1, x2, x3, x4, x5⟩) = t := ⟨_, rfl⟩
  have HTX := Lib.hid ht
  have HTS : Hid (t.size ≤ 300) := by show _ ≤ _; rw [← ht]; exact text_size _
  clear ht h80
  cases hr : readS s.data.toList with
  | none =>
    have C1 := Lib.hid (read_is s 0 0 0 0 0 0 7 (by rw [hr]; rfl) (by rw [hr]; rfl) hs3 w0 (HV.out _ HB0.out.bel))
    clear hr
    go_enter Tryd.func5, Tryd.ntmps5
    go_wp2_with fail
    rw [show w.alloc (.cells #[.int .i64 x0, .int .i64 x1, .int .i64 x2, .int .i64 x3, .int .i64 x4, .int .i64 x5] 23) = w0 from HW.out]
    refine C1.out.mono ?_
    rintro e w1 ⟨rfl, hb⟩
    have HB1 := Lib.hid ((HB0.out.keep hb).alloc (.cells #[.int .i64 0, .int .i64 0, .int .i64 0, .int .i64 0, .int .i64 0, .int .i64 0] 23))
    have HZ1 := Lib.hid (at6_new 23 w1 (.int .i64 0) (.int .i64 0) (.int .i64 0) (.int .i64 0) (.int .i64 0) (.int .i64 0))
    obtain ⟨p1, hp1⟩ : ∃ p1, w1.heap.size = p1 := ⟨_, rfl⟩
    obtain ⟨u1, hu1⟩ : ∃ u1, w1.alloc (.cells #[.int .i64 0, .int .i64 0, .int .i64 0, .int .i64 0, .int .i64 0, .int .i64 0] 23) = u1 := ⟨_, rfl⟩
    have dz := cells6 HZ1.out
    have db := cells6 HB1.out.box
    rw [hp1] at HZ1
    rw [hu1] at HB1 HZ1
    have HP1 := Lib.hid hp1
    have HU1 := Lib.hid hu1
    clear hb hp1 hu1 C1
    have CT := Lib.hid (text_is x0 x1 x2 x3 x4 x5 t HTX.out u1 (HV.out _ HB1.out.bel))
    obtain ⟨d0, d1, d2, d3, d4, d5⟩ := db
    clear dz
    go_wp2_with fail
    rw [show w1.alloc (.cells #[.int .i64 0, .int .i64 0, .int .i64 0, .int .i64 0, .int .i64 0, .int .i64 0] 23) = u1 from HU1.out]
    rw [show w1.heap.size = p1 from HP1.out]
    clear d0 d1 d2 d3 d4 d5 HZ1
    cases hf : fitS ⟨x0, x1, x2, x3, x4, x5⟩ with
    | false =>
      have HG : Hid (gotS (readS t.data.toList) = ⟨0, 0, 0, 0, 0, 0⟩) := by show _ = _; rw [← HTX.out, back_of, hf]; rfl
      have HE : Hid (errS (readS t.data.toList) = 7) := by show _ = _; rw [← HTX.out, back_of, hf]; rfl
      have HIE : Hid (t.toList.isEmpty = true) := by show _ = _; rw [← HTX.out, text_empty, hf]; rfl
      have HF := Lib.hid hf
      clear hf
      refine CT.out.mono ?_
      rintro e w2 ⟨rfl, hb⟩
      have HB2 := Lib.hid (HB1.out.keep hb)
      have CR := Lib.hid (read_is t 0 0 0 0 0 0 7 HG.out HE.out HTS.out w2 (HV.out _ HB2.out.bel))
      clear hb CT
      go_wp2_with fail
      refine CR.out.mono ?_
      rintro e w3 ⟨rfl, hb⟩
      have HB3 := Lib.hid ((HB2.out.keep hb).alloc (.cells #[.int .i64 0, .int .i64 0, .int .i64 0, .int .i64 0, .int .i64 0, .int .i64 0] 23))
      have HZ3 := Lib.hid (at6_new 23 w3 (.int .i64 0) (.int .i64 0) (.int .i64 0) (.int .i64 0) (.int .i64 0) (.int .i64 0))
      obtain ⟨p3, hp3⟩ : ∃ p3, w3.heap.size = p3 := ⟨_, rfl⟩
      obtain ⟨u3, hu3⟩ : ∃ u3, w3.alloc (.cells #[.int .i64 0, .int .i64 0, .int .i64 0, .int .i64 0, .int .i64 0, .int .i64 0] 23) = u3 := ⟨_, rfl⟩
      rw [hp3] at HZ3
      rw [hu3] at HB3 HZ3
      have HP3 := Lib.hid hp3
      have HU3 := Lib.hid hu3
      have dd := cells6 ((HB2.out.keep hb).alloc (.cells #[.int .i64 0, .int .i64 0, .int .i64 0, .int .i64 0, .int .i64 0, .int .i64 0] 23)).box
      obtain ⟨d0, d1, d2, d3, d4, d5⟩ := dd
      clear hb hp3 hu3 CR
      have CF := Lib.hid (fit_is x0 x1 x2 x3 x4 x5 false HF.out u3)
      go_wp2_with fail
      rw [show w3.alloc (.cells #[.int .i64 0, .int .i64 0, .int .i64 0, .int .i64 0, .int .i64 0, .int .i64 0] 23) = u3 from HU3.out]
      rw [show w3.heap.size = p3 from HP3.out]
      refine CF.out.mono ?_
      rintro e w4 ⟨rfl, hb⟩
      have HB4 := Lib.hid (HB3.out.keep hb)
      have HZ4 := Lib.hid (At6.keep HZ3.out hb)
      have CA := Lib.hid (awake_any w4 (HV.out _ HB4.out.bel))
      clear hb CF d0 d1 d2 d3 d4 d5
      obtain ⟨d0, d1, d2, d3, d4, d5⟩ := cells6 HB4.out.box
      obtain ⟨e0, e1, e2, e3, e4, e5⟩ := cells6 HZ4.out
      have q1 := fun w => eql_st x0 x1 x2 x3 x4 x5 x0 x1 x2 x3 x4 x5 w
      rw [eqS_refl] at q1
      have q3 := fun x y w => guard_st .eql x y x0 x1 x2 x3 x4 x5 x0 x1 x2 x3 x4 x5 w
      have hie := HIE.out
      go_wp2_with fail
      refine CA.out.mono ?_
      rintro e w5 ⟨rfl, hb⟩
      have HB5 := Lib.hid (HB4.out.keep hb)
      clear hb
      go_wp2_with fail
      go_ret
      exact ⟨rfl, HB5.out.bel⟩
    | true =>
      have HG : Hid (gotS (readS t.data.toList) = ⟨x0, x1, x2, x3, x4, x5⟩) := by show _ = _; rw [← HTX.out, back_of, hf]; rfl
      have HE : Hid (errS (readS t.data.toList) = 0) := by show _ = _; rw [← HTX.out, back_of, hf]; rfl
      have HIE : Hid (t.toList.isEmpty = false) := by show _ = _; rw [← HTX.out, text_empty, hf]; rfl
      have HF := Lib.hid hf
      clear hf
      refine CT.out.mono ?_
      rintro e w2 ⟨rfl, hb⟩
      have HB2 := Lib.hid (HB1.out.keep hb)
      have CR := Lib.hid (read_is t x0 x1 x2 x3 x4 x5 0 HG.out HE.out HTS.out w2 (HV.out _ HB2.out.bel))
      clear hb CT
      go_wp2_with fail
      refine CR.out.mono ?_
      rintro e w3 ⟨rfl, hb⟩
      have HB3 := Lib.hid ((HB2.out.keep hb).alloc (.cells #[.int .i64 x0, .int .i64 x1, .int .i64 x2, .int .i64 x3, .int .i64 x4, .int .i64 x5] 23))
      have HZ3 := Lib.hid (at6_new 23 w3 (.int .i64 x0) (.int .i64 x1) (.int .i64 x2) (.int .i64 x3) (.int .i64 x4) (.int .i64 x5))
      obtain ⟨p3, hp3⟩ : ∃ p3, w3.heap.size = p3 := ⟨_, rfl⟩
      obtain ⟨u3, hu3⟩ : ∃ u3, w3.alloc (.cells #[.int .i64 x0, .int .i64 x1, .int .i64 x2, .int .i64 x3, .int .i64 x4, .int .i64 x5] 23) = u3 := ⟨_, rfl⟩
      rw [hp3] at HZ3
      rw [hu3] at HB3 HZ3
      have HP3 := Lib.hid hp3
      have HU3 := Lib.hid hu3
      have dd := cells6 ((HB2.out.keep hb).alloc (.cells #[.int .i64 x0, .int .i64 x1, .int .i64 x2, .int .i64 x3, .int .i64 x4, .int .i64 x5] 23)).box
      obtain ⟨d0, d1, d2, d3, d4, d5⟩ := dd
      clear hb hp3 hu3 CR
      have CF := Lib.hid (fit_is x0 x1 x2 x3 x4 x5 true HF.out u3)
      go_wp2_with fail
      rw [show w3.alloc (.cells #[.int .i64 x0, .int .i64 x1, .int .i64 x2, .int .i64 x3, .int .i64 x4, .int .i64 x5] 23) = u3 from HU3.out]
      rw [show w3.heap.size = p3 from HP3.out]
      refine CF.out.mono ?_
      rintro e w4 ⟨rfl, hb⟩
      have HB4 := Lib.hid (HB3.out.keep hb)
      have HZ4 := Lib.hid (At6.keep HZ3.out hb)
      have CA := Lib.hid (awake_any w4 (HV.out _ HB4.out.bel))
      clear hb CF d0 d1 d2 d3 d4 d5
      obtain ⟨d0, d1, d2, d3, d4, d5⟩ := cells6 HB4.out.box
      obtain ⟨e0, e1, e2, e3, e4, e5⟩ := cells6 HZ4.out
      have q1 := fun w => eql_st x0 x1 x2 x3 x4 x5 x0 x1 x2 x3 x4 x5 w
      rw [eqS_refl] at q1
      have q3 := fun x y w => guard_st .eql x y x0 x1 x2 x3 x4 x5 x0 x1 x2 x3 x4 x5 w
      have hie := HIE.out
      go_wp2_with fail
      refine CA.out.mono ?_
      rintro e w5 ⟨rfl, hb⟩
      have HB5 := Lib.hid (HB4.out.keep hb)
      clear hb
      go_wp2_with fail
      go_ret
      exact ⟨rfl, HB5.out.bel⟩
  | some r =>
    obtain ⟨y0, y1, y2, y3, y4, y5, hy⟩ := st_split r
    subst hy
    obtain ⟨hyf, hyt⟩ := readS_some hr
    have C1 := Lib.hid (read_is s y0 y1 y2 y3 y4 y5 0 (by rw [hr]; rfl) (by rw [hr]; rfl) hs3 w0 (HV.out _ HB0.out.bel))
    have HYT : Hid (bs (textS ⟨y0, y1, y2, y3, y4, y5⟩) = s) := by show _ = _; rw [hyt]; exact bs_data s
    have HYF := Lib.hid hyf
    clear hr hyf hyt
    go_enter Tryd.func5, Tryd.ntmps5
    go_wp2_with fail
    rw [show w.alloc (.cells #[.int .i64 x0, .int .i64 x1, .int .i64 x2, .int .i64 x3, .int .i64 x4, .int .i64 x5] 23) = w0 from HW.out]
    refine C1.out.mono ?_
    rintro e w1 ⟨rfl, hb⟩
    have HB1 := Lib.hid ((HB0.out.keep hb).alloc (.cells #[.int .i64 y0, .int .i64 y1, .int .i64 y2, .int .i64 y3, .int .i64 y4, .int .i64 y5] 23))
    have HZ1 := Lib.hid (at6_new 23 w1 (.int .i64 y0) (.int .i64 y1) (.int .i64 y2) (.int .i64 y3) (.int .i64 y4) (.int .i64 y5))
    obtain ⟨p1, hp1⟩ : ∃ p1, w1.heap.size = p1 := ⟨_, rfl⟩
    obtain ⟨u1, hu1⟩ : ∃ u1, w1.alloc (.cells #[.int .i64 y0, .int .i64 y1, .int .i64 y2, .int .i64 y3, .int .i64 y4, .int .i64 y5] 23) = u1 := ⟨_, rfl⟩
    have dz := cells6 HZ1.out
    have db := cells6 HB1.out.box
    rw [hp1] at HZ1
    rw [hu1] at HB1 HZ1
    have HP1 := Lib.hid hp1
    have HU1 := Lib.hid hu1
    clear hb hp1 hu1 C1
    have CF := Lib.hid (fit_is y0 y1 y2 y3 y4 y5 true HYF.out u1)
    obtain ⟨d0, d1, d2, d3, d4, d5⟩ := db
    obtain ⟨e0, e1, e2, e3, e4, e5⟩ := dz
    go_wp2_with fail
    rw [show w1.alloc (.cells #[.int .i64 y0, .int .i64 y1, .int .i64 y2, .int .i64 y3, .int .i64 y4, .int .i64 y5] 23) = u1 from HU1.out]
    rw [show w1.heap.size = p1 from HP1.out]
    refine CF.out.mono ?_
    rintro e w8 ⟨rfl, hb⟩
    have HB8 := Lib.hid (HB1.out.keep hb)
    have HZ8 := Lib.hid (At6.keep HZ1.out hb)
    have CS := Lib.hid (text_is y0 y1 y2 y3 y4 y5 s HYT.out w8 (HV.out _ HB8.out.bel))
    clear hb CF d0 d1 d2 d3 d4 d5 e0 e1 e2 e3 e4 e5 HB1 HZ1
    obtain ⟨e0, e1, e2, e3, e4, e5⟩ := cells6 HZ8.out
    have hss : (s.toList == s.toList) = true := by simp
    go_wp2_with fail
    refine CS.out.mono ?_
    rintro e w9 ⟨rfl, hb⟩
    have HB1 := Lib.hid (HB8.out.keep hb)
    have CT := Lib.hid (text_is x0 x1 x2 x3 x4 x5 t HTX.out w9 (HV.out _ HB1.out.bel))
    obtain ⟨d0, d1, d2, d3, d4, d5⟩ := cells6 HB1.out.box
    clear hb CS e0 e1 e2 e3 e4 e5 HB8 HZ8
    go_wp2_with fail
    clear hss d0 d1 d2 d3 d4 d5
    cases hf : fitS ⟨x0, x1, x2, x3, x4, x5⟩ with
    | false =>
      have HG : Hid (gotS (readS t.data.toList) = ⟨0, 0, 0, 0, 0, 0⟩) := by show _ = _; rw [← HTX.out, back_of, hf]; rfl
      have HE : Hid (errS (readS t.data.toList) = 7) := by show _ = _; rw [← HTX.out, back_of, hf]; rfl
      have HIE : Hid (t.toList.isEmpty = true) := by show _ = _; rw [← HTX.out, text_empty, hf]; rfl
      have HF := Lib.hid hf
      clear hf
      refine CT.out.mono ?_
      rintro e w2 ⟨rfl, hb⟩
      have HB2 := Lib.hid (HB1.out.keep hb)
      have CR := Lib.hid (read_is t 0 0 0 0 0 0 7 HG.out HE.out HTS.out w2 (HV.out _ HB2.out.bel))
      clear hb CT
      go_wp2_with fail
      refine CR.out.mono ?_
      rintro e w3 ⟨rfl, hb⟩
      have HB3 := Lib.hid ((HB2.out.keep hb).alloc (.cells #[.int .i64 0, .int .i64 0, .int .i64 0, .int .i64 0, .int .i64 0, .int .i64 0] 23))
      have HZ3 := Lib.hid (at6_new 23 w3 (.int .i64 0) (.int .i64 0) (.int .i64 0) (.int .i64 0) (.int .i64 0) (.int .i64 0))
      obtain ⟨p3, hp3⟩ : ∃ p3, w3.heap.size = p3 := ⟨_, rfl⟩
      obtain ⟨u3, hu3⟩ : ∃ u3, w3.alloc (.cells #[.int .i64 0, .int .i64 0, .int .i64 0, .int .i64 0, .int .i64 0, .int .i64 0] 23) = u3 := ⟨_, rfl⟩
      rw [hp3] at HZ3
      rw [hu3] at HB3 HZ3
      have HP3 := Lib.hid hp3
      have HU3 := Lib.hid hu3
      have dd := cells6 ((HB2.out.keep hb).alloc (.cells #[.int .i64 0, .int .i64 0, .int .i64 0, .int .i64 0, .int .i64 0, .int .i64 0] 23)).box
      obtain ⟨d0, d1, d2, d3, d4, d5⟩ := dd
      clear hb hp3 hu3 CR
      have CF := Lib.hid (fit_is x0 x1 x2 x3 x4 x5 false HF.out u3)
      go_wp2_with fail
      rw [show w3.alloc (.cells #[.int .i64 0, .int .i64 0, .int .i64 0, .int .i64 0, .int .i64 0, .int .i64 0] 23) = u3 from HU3.out]
      rw [show w3.heap.size = p3 from HP3.out]
      refine CF.out.mono ?_
      rintro e w4 ⟨rfl, hb⟩
      have HB4 := Lib.hid (HB3.out.keep hb)
      have HZ4 := Lib.hid (At6.keep HZ3.out hb)
      have CA := Lib.hid (awake_any w4 (HV.out _ HB4.out.bel))
      clear hb CF d0 d1 d2 d3 d4 d5
      obtain ⟨d0, d1, d2, d3, d4, d5⟩ := cells6 HB4.out.box
      obtain ⟨e0, e1, e2, e3, e4, e5⟩ := cells6 HZ4.out
      have q1 := fun w => eql_st x0 x1 x2 x3 x4 x5 x0 x1 x2 x3 x4 x5 w
      rw [eqS_refl] at q1
      have q3 := fun x y w => guard_st .eql x y x0 x1 x2 x3 x4 x5 x0 x1 x2 x3 x4 x5 w
      have hie := HIE.out
      go_wp2_with fail
      refine CA.out.mono ?_
      rintro e w5 ⟨rfl, hb⟩
      have HB5 := Lib.hid (HB4.out.keep hb)
      clear hb
      go_wp2_with fail
      go_ret
      exact ⟨rfl, HB5.out.bel⟩
    | true =>
      have HG : Hid (gotS (readS t.data.toList) = ⟨x0, x1, x2, x3, x4, x5⟩) := by show _ = _; rw [← HTX.out, back_of, hf]; rfl
      have HE : Hid (errS (readS t.data.toList) = 0) := by show _ = _; rw [← HTX.out, back_of, hf]; rfl
      have HIE : Hid (t.toList.isEmpty = false) := by show _ = _; rw [← HTX.out, text_empty, hf]; rfl
      have HF := Lib.hid hf
      clear hf
      refine CT.out.mono ?_
      rintro e w2 ⟨rfl, hb⟩
      have HB2 := Lib.hid (HB1.out.keep hb)
      have CR := Lib.hid (read_is t x0 x1 x2 x3 x4 x5 0 HG.out HE.out HTS.out w2 (HV.out _ HB2.out.bel))
      clear hb CT
      go_wp2_with fail
      refine CR.out.mono ?_
      rintro e w3 ⟨rfl, hb⟩
      have HB3 := Lib.hid ((HB2.out.keep hb).alloc (.cells #[.int .i64 x0, .int .i64 x1, .int .i64 x2, .int .i64 x3, .int .i64 x4, .int .i64 x5] 23))
      have HZ3 := Lib.hid (at6_new 23 w3 (.int .i64 x0) (.int .i64 x1) (.int .i64 x2) (.int .i64 x3) (.int .i64 x4) (.int .i64 x5))
      obtain ⟨p3, hp3⟩ : ∃ p3, w3.heap.size = p3 := ⟨_, rfl⟩
      obtain ⟨u3, hu3⟩ : ∃ u3, w3.alloc (.cells #[.int .i64 x0, .int .i64 x1, .int .i64 x2, .int .i64 x3, .int .i64 x4, .int .i64 x5] 23) = u3 := ⟨_, rfl⟩
      rw [hp3] at HZ3
      rw [hu3] at HB3 HZ3
      have HP3 := Lib.hid hp3
      have HU3 := Lib.hid hu3
      have dd := cells6 ((HB2.out.keep hb).alloc (.cells #[.int .i64 x0, .int .i64 x1, .int .i64 x2, .int .i64 x3, .int .i64 x4, .int .i64 x5] 23)).box
      obtain ⟨d0, d1, d2, d3, d4, d5⟩ := dd
      clear hb hp3 hu3 CR
      have CF := Lib.hid (fit_is x0 x1 x2 x3 x4 x5 true HF.out u3)
      go_wp2_with fail
      rw [show w3.alloc (.cells #[.int .i64 x0, .int .i64 x1, .int .i64 x2, .int .i64 x3, .int .i64 x4, .int .i64 x5] 23) = u3 from HU3.out]
      rw [show w3.heap.size = p3 from HP3.out]
      refine CF.out.mono ?_
      rintro e w4 ⟨rfl, hb⟩
      have HB4 := Lib.hid (HB3.out.keep hb)
      have HZ4 := Lib.hid (At6.keep HZ3.out hb)
      have CA := Lib.hid (awake_any w4 (HV.out _ HB4.out.bel))
      clear hb CF d0 d1 d2 d3 d4 d5
      obtain ⟨d0, d1, d2, d3, d4, d5⟩ := cells6 HB4.out.box
      obtain ⟨e0, e1, e2, e3, e4, e5⟩ := cells6 HZ4.out
      have q1 := fun w => eql_st x0 x1 x2 x3 x4 x5 x0 x1 x2 x3 x4 x5 w
      rw [eqS_refl] at q1
      have q3 := fun x y w => guard_st .eql x y x0 x1 x2 x3 x4 x5 x0 x1 x2 x3 x4 x5 w
      have hie := HIE.out
      go_wp2_with fail
      refine CA.out.mono ?_
      rintro e w5 ⟨rfl, hb⟩
      have HB5 := Lib.hid (HB4.out.keep hb)
      clear hb
      go_wp2_with fail
      go_ret
      exact ⟨rfl, HB5.out.bel⟩
end Go.Proofs.YtaffjecnpclliaaDoor.Step
namespace Go.Proofs.YtaffjecnpclliaaDoor
open Go.RowKit
theorem Contract.stepBack (x0 x1 x2 x3 x4 x5 : Int) (a0 : ByteArray) (W : World) (w0 : a0.size ≤ maxLen) (ht : Laid W) :
    Calls Tryd.prog 5 #[.agg #[.int .i64 x0, .int .i64 x1, .int .i64 x2, .int .i64 x3, .int .i64 x4, .int .i64 x5], .string a0] W fun e W' => e = .returned (.bool true) ∧ Below W.heap.size W W' := by
  unfold maxLen at w0
  exact Go.Proofs.YtaffjecnpclliaaDoor.Step.back_any x0 x1 x2 x3 x4 x5 a0 W w0 ht
end Go.Proofs.YtaffjecnpclliaaDoor
