/-
  The contracts of the document's classed and Fit, and of both Sames: any definitions; what was there stays as it was.
-/
import Derived.Test.YtdpgfnnhbfkacaaGreatDoorPrNameC
import Derived.Test.YtdpgfnnhbfkacaaGreatDoorPrDefD
import Derived.Deep.RegionHeld3
import Derived.BigQuiet
set_option linter.unusedVariables false
set_option linter.unusedSimpArgs false
set_option maxRecDepth 4000
namespace Go.Proofs.YtdpgfnnhbfkacaaGreatDoor.Def
open Go.RowKit DefP
open Go.Proofs.YtdpgfnnhbfkacaaGreatDoor.Kt
set_option maxHeartbeats 2000000 in
theorem classed_any (a : Option Addr) (n c : Nat) (l : List Step) (v : Bool) (hv : classUp 1 0 l = v) (w : World) (h : StAt w a n l) (hn : n ≤ 1000000) :
    Calls Tryz.prog 50 #[.slice a n c] w fun e w' => e = .returned (.bool v) ∧ Below w.heap.size w w' := by
  have HX := Lib.hid h
  have HV : Hid (v = classUp 1 ((0 : Nat) : Int) (l.drop 0)) := hv.symm
  clear h hv
  go_enter Tryz.func50, Tryz.ntmps50
  go_wp2_with fail
  go_loopw [3, 4, 5] (fun la pi i wr => ∃ (k : Nat) (last : Int) (p : Nat), k ≤ n ∧ p ≤ k ∧ pi = .int .i64 (p : Int) ∧ la = .int .i64 last ∧ i = .int .i64 (k : Int) ∧ Hid (v = classUp last (p : Int) (l.drop k)) ∧ Hid (Below w.heap.size w wr)) (fun _ _ i _ => n - (intOf i).toNat)
  case atStart => exact ⟨0, 1, 0, Nat.zero_le _, Nat.le_refl _, rfl, rfl, rfl, HV, Below.refl _ w⟩
  case round =>
    obtain ⟨k, last, p, hk, hpk, rfl, rfl, rfl, hd, hB⟩ := hrel
    by_cases hlk : k < n
    · obtain ⟨b1, o1, x0, x1, x2, x3, x4, x5, rfl, g1, hp, hc1⟩ := StAt.at HX.out hlk
      obtain ⟨d0, d1, d2, d3, d4, d5⟩ := hc1 wr hB.out
      by_cases h1 : x1 < last
      · have HD : Hid (v = false) := hd.out.trans (class_bad hp (.inl h1))
        have e1 : decide (x1 < last) = true := decide_eq_true h1
        clear hp hd hc1 h1
        go_wp2_with fail
        go_ret
        exact ⟨ret_bool HD.out, hB.out⟩
      have e1 : decide (x1 < last) = false := decide_eq_false h1
      by_cases h3 : x1 = 3
      · by_cases hp0 : p = 0
        · subst hp0
          have HD : Hid (v = false) := hd.out.trans (class_bad hp (.inr ⟨h3, rfl⟩))
          have e3 : (x1 == 3) = true := beq_iff_eq.2 h3
          clear hp hd hc1 h1 h3
          go_wp2_with fail
          go_ret
          exact ⟨ret_bool HD.out, hB.out⟩
        · have HD : Hid (v = classUp x1 (p : Int) (l.drop (k + 1))) := hd.out.trans ((class_go hp (by rintro (h | ⟨h, q⟩) <;> (try dsimp only at h) <;> omega)).trans (by rw [if_neg (by show ¬ x1 = 2; omega)]))
          have e3 : (x1 == 3) = true := beq_iff_eq.2 h3
          have e2 : (x1 == 2) = false := beq_eq_false_iff_ne.2 (by omega)
          have e0 : ((p : Int) == 0) = false := beq_eq_false_iff_ne.2 (by omega)
          clear hp hd hc1 h1 h3 hp0
          go_wp2_with fail
          go_roundw
          case rel => exact ⟨k + 1, x1, p, by omega, by omega, rfl, rfl, by go_num, HD, hB⟩
          case measure => simp [intOf]; omega
      · have e3 : (x1 == 3) = false := beq_eq_false_iff_ne.2 h3
        by_cases h2 : x1 = 2
        · have HD : Hid (v = classUp x1 ((p + 1 : Nat) : Int) (l.drop (k + 1))) := hd.out.trans ((class_go hp (by rintro (h | ⟨h, q⟩) <;> (try dsimp only at h) <;> omega)).trans (by rw [if_pos (by show x1 = 2; omega)]; rfl))
          have e2 : (x1 == 2) = true := beq_iff_eq.2 h2
          clear hp hd hc1 h1 h2 h3
          go_wp2_with fail
          go_roundw
          case rel => exact ⟨k + 1, x1, p + 1, by omega, by omega, by go_num, rfl, by go_num, HD, hB⟩
          case measure => simp [intOf]; omega
        · have HD : Hid (v = classUp x1 (p : Int) (l.drop (k + 1))) := hd.out.trans ((class_go hp (by rintro (h | ⟨h, q⟩) <;> (try dsimp only at h) <;> omega)).trans (by rw [if_neg (by show ¬ x1 = 2; omega)]))
          have e2 : (x1 == 2) = false := beq_eq_false_iff_ne.2 h2
          clear hp hd hc1 h1 h2 h3
          go_wp2_with fail
          go_roundw
          case rel => exact ⟨k + 1, x1, p, by omega, by omega, rfl, rfl, by go_num, HD, hB⟩
          case measure => simp [intOf]; omega
    · obtain rfl : k = n := by omega
      have HD : Hid (v = decide ((p : Int) ≤ 1)) := hd.out.trans (class_end (at_len HX.out hlk))
      clear hd
      go_wp2_with fail
      go_ret
      exact ⟨ret_bool HD.out, hB.out⟩

set_option maxHeartbeats 1000000 in
theorem equal_any (a a2 : Option Addr) (n c m c2 : Nat) (x y : List Step) (v : Bool) (hv : eqSs x y = v) (w : World) (h : StAt w a n x) (h2 : StAt w a2 m y) :
    Calls Tryz.prog 66 #[.slice a n c, .slice a2 m c2] w fun e w' => e = .returned (.bool v) ∧ Below w.heap.size w w' := by
  have hla := h.2.1
  have hlc := h2.2.1
  by_cases hne : n = m
  · subst hne
    have hnn : ((n : Int) != (n : Int)) = false := by simp
    have HX := Lib.hid h; have HY := Lib.hid h2
    have HV : Hid (v = eqSs (x.drop 0) (y.drop 0)) := hv.symm
    clear h h2 hv hlc
    go_enter Tryz.func66, Tryz.ntmps66
    go_wp2_with fail
    go_loopw [13] (fun i wr => ∃ k : Nat, k ≤ n ∧ i = .int .i64 (k : Int) ∧ Hid (v = eqSs (x.drop k) (y.drop k)) ∧ Hid (Below w.heap.size w wr)) (fun i _ => n - (intOf i).toNat)
    case atStart => exact ⟨0, Nat.zero_le _, rfl, HV, Below.refl _ _⟩
    case round =>
      obtain ⟨k, hk, rfl, hd, hB⟩ := hrel
      by_cases hlk : k < n
      · obtain ⟨b1, o1, x0, x1, x2, x3, x4, x5, rfl, g1, hp, hc1⟩ := StAt.at HX.out hlk
        obtain ⟨b2, o2, y0, y1, y2, y3, y4, y5, rfl, g2, hq, hc2⟩ := StAt.at HY.out hlk
        obtain ⟨d0, d1, d2, d3, d4, d5⟩ := hc1 wr hB.out
        obtain ⟨e0, e1, e2, e3, e4, e5⟩ := hc2 wr hB.out
        clear hc1 hc2 g1 g2
        have hneq := fun w => Step.neq_st x0 x1 x2 x3 x4 x5 y0 y1 y2 y3 y4 y5 w
        have hgd := fun p x y w => Step.guard_st p x y x0 x1 x2 x3 x4 x5 y0 y1 y2 y3 y4 y5 w
        cases heq : StP.eqS ⟨x0, x1, x2, x3, x4, x5⟩ ⟨y0, y1, y2, y3, y4, y5⟩ with
        | true =>
          have HD := Lib.hid (hd.out.trans (eqSs_go hp hq heq))
          rw [heq] at hneq
          clear hd hp hq heq
          go_wp2_with fail
          go_quiet (fail)
          go_wp2_with fail
          go_roundw
          case rel => exact ⟨k + 1, by omega, by go_num, HD, below_drewN hB.out _⟩
          case measure => simp [intOf]; omega
        | false =>
          have HD := Lib.hid (hd.out.trans (eqSs_no hp hq heq))
          rw [heq] at hneq
          clear hd hp hq heq
          go_wp2_with fail
          go_quiet (fail)
          go_wp2_with fail
          go_ret
          exact ⟨ret_bool HD.out, below_drewN hB.out _⟩
      · obtain rfl : k = n := by omega
        have HD := Lib.hid (hd.out.trans (eqSs_end (at_len HX.out hlk) (at_len HY.out hlk)))
        clear hd
        go_wp2_with fail
        go_ret
        exact ⟨ret_bool HD.out, hB.out⟩
  · have hn3 : ((n : Int) != (m : Int)) = true := by simp; omega
    have HD : Hid (v = false) := hv.symm.trans (eqSs_len (by rw [h.1, h2.1]; exact hne))
    clear h h2 hv
    go_enter Tryz.func66, Tryz.ntmps66
    go_wp2_with fail
    go_ret
    exact ⟨ret_bool HD.out, Below.refl _ _⟩

theorem eqD_name {x y : Df} (h : (x.name.data.toList == y.name.data.toList) = false) : eqD x y = false := by unfold eqD; rw [h]; rfl
theorem tolist_eq (a b : ByteArray) : (a.toList == b.toList) = (a.data.toList == b.data.toList) := by rw [ByteArray.toList_eq, ByteArray.toList_eq]
set_option maxHeartbeats 2000000 in
theorem rsame_is (s : ByteArray) (a : Option Addr) (n c : Nat) (l : List Step) (s2 : ByteArray) (a2 : Option Addr) (n2 c2 : Nat) (l2 : List Step) (v : Bool) (hv : eqD ⟨s, l⟩ ⟨s2, l2⟩ = v) (w : World) (h : StAt w a n l) (h2 : StAt w a2 n2 l2) :
    Calls Tryz.prog 19 #[.agg #[.string s, .slice a n c], .agg #[.string s2, .slice a2 n2 c2]] w fun e w' => e = .returned (.bool v) ∧ Below w.heap.size w w' := by
  have hla := h.2.1
  have hlc := h2.2.1
  have h1 : At2 24 ((w.alloc (.cells #[.string s, .slice a n c] 24)).alloc (.cells #[.string s2, .slice a2 n2 c2] 24)) w.heap.size (.string s) (.slice a n c) := (at2_new 24 w (.string s) (.slice a n c)).alloc _
  have h2' : At2 24 ((w.alloc (.cells #[.string s, .slice a n c] 24)).alloc (.cells #[.string s2, .slice a2 n2 c2] 24)) (w.heap.size + 1) (.string s2) (.slice a2 n2 c2) := by
    have := at2_new 24 (w.alloc (.cells #[.string s, .slice a n c] 24)) (.string s2) (.slice a2 n2 c2)
    rw [World.size_alloc] at this
    exact this
  have HB := Lib.hid (((Below.refl _ w).alloc (Nat.le_refl _) (.cells #[.string s, .slice a n c] 24)).alloc (by rw [World.size_alloc]; omega) (.cells #[.string s2, .slice a2 n2 c2] 24))
  obtain ⟨u0, u1⟩ := cells2 h1
  obtain ⟨z0, z1⟩ := cells2 h2'
  cases he : (s.data.toList == s2.data.toList) with
  | false =>
    have HR : Hid (v = false) := by show _ = _; rw [← hv]; exact eqD_name he
    have e1 : (s.toList == s2.toList) = false := by rw [tolist_eq]; exact he
    clear hv h h2 he h1 h2'
    go_enter Tryz.func19, Tryz.ntmps19
    go_wp2_with fail
    go_ret
    exact ⟨ret_bool HR.out, HB.out⟩
  | true =>
    have e1 : (s.toList == s2.toList) = true := by rw [tolist_eq]; exact he
    have HR : eqSs l l2 = v := by rw [← hv]; unfold eqD; rw [he]; rfl
    by_cases hne : n = n2
    · subst hne
      have hnn : ((n : Int) != (n : Int)) = false := by simp
      have HX := Lib.hid h; have HY := Lib.hid h2
      have HU := Lib.hid h1; have HZ := Lib.hid h2'
      have HV : Hid (v = eqSs (l.drop 0) (l2.drop 0)) := HR.symm
      clear hv h h2 he h1 h2' HR hlc
      go_enter Tryz.func19, Tryz.ntmps19
      go_wp2_with fail
      go_loopw [5] (fun i wr => ∃ k : Nat, k ≤ n ∧ i = .int .i64 (k : Int) ∧ Hid (v = eqSs (l.drop k) (l2.drop k)) ∧ Hid (At2 24 wr w.heap.size (.string s) (.slice a n c)) ∧ Hid (At2 24 wr (w.heap.size + 1) (.string s2) (.slice a2 n c2)) ∧ Hid (Below w.heap.size w wr)) (fun i _ => n - (intOf i).toNat)
      case atStart => exact ⟨0, Nat.zero_le _, rfl, HV, HU, HZ, HB⟩
      case round =>
        obtain ⟨k, hk, rfl, hd, hU, hZ, hB⟩ := hrel
        clear u0 u1 z0 z1
        obtain ⟨u0, u1⟩ := cells2 hU.out
        obtain ⟨z0, z1⟩ := cells2 hZ.out
        by_cases hlk : k < n
        · obtain ⟨b1, o1, x0, x1, x2, x3, x4, x5, rfl, g1, hp, hc1⟩ := StAt.at HX.out hlk
          obtain ⟨b2, o2, y0, y1, y2, y3, y4, y5, rfl, g2, hq, hc2⟩ := StAt.at HY.out hlk
          obtain ⟨d0, d1, d2, d3, d4, d5⟩ := hc1 wr hB.out
          obtain ⟨e0, e1, e2, e3, e4, e5⟩ := hc2 wr hB.out
          clear hc1 hc2 g1 g2
          have hneq := fun w => Step.neq_st x0 x1 x2 x3 x4 x5 y0 y1 y2 y3 y4 y5 w
          have hgd := fun p x y w => Step.guard_st p x y x0 x1 x2 x3 x4 x5 y0 y1 y2 y3 y4 y5 w
          cases heq : StP.eqS ⟨x0, x1, x2, x3, x4, x5⟩ ⟨y0, y1, y2, y3, y4, y5⟩ with
          | true =>
            have HD := Lib.hid (hd.out.trans (eqSs_go hp hq heq))
            rw [heq] at hneq
            clear hd hp hq heq
            go_wp2_with fail
            go_quiet (fail)
            go_wp2_with fail
            go_roundw
            case rel => exact ⟨k + 1, by omega, by go_num, HD, hU.out.drewN _, hZ.out.drewN _, below_drewN hB.out _⟩
            case measure => simp [intOf]; omega
          | false =>
            have HD := Lib.hid (hd.out.trans (eqSs_no hp hq heq))
            rw [heq] at hneq
            clear hd hp hq heq
            go_wp2_with fail
            go_quiet (fail)
            go_wp2_with fail
            go_ret
            exact ⟨ret_bool HD.out, below_drewN hB.out _⟩
        · obtain rfl : k = n := by omega
          have HD := Lib.hid (hd.out.trans (eqSs_end (at_len HX.out hlk) (at_len HY.out hlk)))
          clear hd
          go_wp2_with fail
          go_ret
          exact ⟨ret_bool HD.out, hB.out⟩
    · have hn3 : ((n : Int) != (n2 : Int)) = true := by simp; omega
      have HD : Hid (v = false) := HR.symm.trans (eqSs_len (by rw [h.1, h2.1]; exact hne))
      clear hv h h2 he h1 h2' HR
      go_enter Tryz.func19, Tryz.ntmps19
      go_wp2_with fail
      go_ret
      exact ⟨ret_bool HD.out, HB.out⟩
end Go.Proofs.YtdpgfnnhbfkacaaGreatDoor.Def

/-
  The contract of the document's Fit: any definition; what was there stays as it was.
-/
set_option linter.unusedVariables false
set_option linter.unusedSimpArgs false
set_option maxRecDepth 4000
namespace Go.Proofs.YtdpgfnnhbfkacaaGreatDoor.Def
open Go.RowKit DefP
open Go.Proofs.YtdpgfnnhbfkacaaGreatDoor.Kt
set_option maxHeartbeats 16000000 in
theorem rfit_is (s : ByteArray) (a : Option Addr) (n c : Nat) (l : List Step) (v : Bool) (hv : fitD ⟨s, l⟩ = v) (w : World) (h : StAt w a n l) (hs : s.size ≤ 1000) (hn : n ≤ 1000000) :
    Calls Tryz.prog 9 #[.agg #[.string s, .slice a n c]] w fun e w' => e = .returned (.bool v) ∧ Below w.heap.size w w' := by
  have hl := h.1
  have HB0 := Lib.hid (bx2_new 24 w (.string s) (.slice a n c))
  obtain ⟨u0, u1⟩ := cells2 HB0.out.box
  rw [show fitD ⟨s, l⟩ = (nm s && fitL l) from rfl] at hv
  cases h1 : nm s with
  | false =>
    have HR : Hid (v = false) := by show _ = _; rw [← hv, h1]; rfl
    have CN := Lib.hid (fun W => (by have h := Name.rfit_any s W (by omega); rw [show NameP.fitV (NameP.vals s.data.toList) = false from h1] at h; exact h : Calls Tryz.prog 49 #[.string s] W fun e w' => e = .returned (.bool false) ∧ Below W.heap.size W w'))
    clear hv h h1
    go_enter Tryz.func9, Tryz.ntmps9
    go_wp2_with fail
    refine (CN.out _).mono ?_
    rintro e w1 ⟨rfl, hb⟩
    have HB1 := Lib.hid (HB0.out.keep hb)
    obtain ⟨z0, z1⟩ := cells2 HB1.out.box
    clear hb
    go_wp2_with fail
    go_ret
    exact ⟨ret_bool HR.out, HB1.out.bel⟩
  | true =>
    rw [h1, Bool.true_and] at hv
    have CN := Lib.hid (fun W => (by have h := Name.rfit_any s W (by omega); rw [show NameP.fitV (NameP.vals s.data.toList) = true from h1] at h; exact h : Calls Tryz.prog 49 #[.string s] W fun e w' => e = .returned (.bool true) ∧ Below W.heap.size W w'))
    clear h1
    unfold fitL at hv
    rw [hl] at hv
    by_cases n1 : (n : Int) < 1
    · have HR : Hid (v = false) := by show _ = _; rw [← hv, decide_eq_false (show ¬ 1 ≤ n by omega)]; rfl
      clear hv h
      go_enter Tryz.func9, Tryz.ntmps9
      go_wp2_with fail
      refine (CN.out _).mono ?_
      rintro e w1 ⟨rfl, hb⟩
      have HB1 := Lib.hid (HB0.out.keep hb)
      obtain ⟨z0, z1⟩ := cells2 HB1.out.box
      clear hb
      go_wp2_with fail
      go_ret
      exact ⟨ret_bool HR.out, HB1.out.bel⟩
    by_cases n6 : (6 : Int) < (n : Int)
    · have HR : Hid (v = false) := by show _ = _; rw [← hv, decide_eq_true (show 1 ≤ n by omega), decide_eq_false (show ¬ n ≤ 6 by omega)]; rfl
      clear hv h
      go_enter Tryz.func9, Tryz.ntmps9
      go_wp2_with fail
      refine (CN.out _).mono ?_
      rintro e w1 ⟨rfl, hb⟩
      have HB1 := Lib.hid (HB0.out.keep hb)
      obtain ⟨z0, z1⟩ := cells2 HB1.out.box
      clear hb
      go_wp2_with fail
      go_ret
      exact ⟨ret_bool HR.out, HB1.out.bel⟩
    rw [decide_eq_true (show 1 ≤ n by omega), decide_eq_true (show n ≤ 6 by omega), Bool.true_and, Bool.true_and] at hv
    have HX := Lib.hid h
    cases hc : classUp 1 0 l with
    | false =>
      have HR : Hid (v = false) := by show _ = _; rw [← hv, hc]; rfl
      have CC := Lib.hid (fun W (hb : Below w.heap.size w W) => classed_any a n c l false hc W (Rw.At.keep h hb) hn)
      clear hv hc h
      go_enter Tryz.func9, Tryz.ntmps9
      go_wp2_with fail
      refine (CN.out _).mono ?_
      rintro e w1 ⟨rfl, hb⟩
      have HB1 := Lib.hid (HB0.out.keep hb)
      obtain ⟨z0, z1⟩ := cells2 HB1.out.box
      clear hb
      go_wp2_with fail
      refine (CC.out _ HB1.out.bel).mono ?_
      rintro e w2 ⟨rfl, hb⟩
      have HB2 := Lib.hid (HB1.out.keep hb)
      clear hb
      go_wp2_with fail
      go_ret
      exact ⟨ret_bool HR.out, HB2.out.bel⟩
    | true =>
      rw [hc, Bool.true_and] at hv
      have CC := Lib.hid (fun W (hb : Below w.heap.size w W) => classed_any a n c l true hc W (Rw.At.keep h hb) hn)
      have HV : Hid (v = (onceUp l 0 (l.drop 0) && orderL l)) := hv.symm
      obtain ⟨p0, hp0⟩ : ∃ p, placeL l 1 = p := ⟨_, rfl⟩
      have P0 := Lib.hid hp0
      have K0 := Lib.hid (fun W (hb : Below w.heap.size w W) => rplace_is s a n c l 1 p0 hp0 W (Rw.At.keep h hb))
      obtain ⟨p1, hp1⟩ : ∃ p, placeL l 3 = p := ⟨_, rfl⟩
      have P1 := Lib.hid hp1
      have K1 := Lib.hid (fun W (hb : Below w.heap.size w W) => rplace_is s a n c l 3 p1 hp1 W (Rw.At.keep h hb))
      obtain ⟨p2, hp2⟩ : ∃ p, placeL l 5 = p := ⟨_, rfl⟩
      have P2 := Lib.hid hp2
      have K2 := Lib.hid (fun W (hb : Below w.heap.size w W) => rplace_is s a n c l 5 p2 hp2 W (Rw.At.keep h hb))
      obtain ⟨p3, hp3⟩ : ∃ p, placeL l 6 = p := ⟨_, rfl⟩
      have P3 := Lib.hid hp3
      have K3 := Lib.hid (fun W (hb : Below w.heap.size w W) => rplace_is s a n c l 6 p3 hp3 W (Rw.At.keep h hb))
      obtain ⟨p4, hp4⟩ : ∃ p, placeL l 2 = p := ⟨_, rfl⟩
      have P4 := Lib.hid hp4
      have K4 := Lib.hid (fun W (hb : Below w.heap.size w W) => rplace_is s a n c l 2 p4 hp4 W (Rw.At.keep h hb))
      clear hv hc h hp0 hp1 hp2 hp3 hp4
      go_enter Tryz.func9, Tryz.ntmps9
      go_wp2_with fail
      refine (CN.out _).mono ?_
      rintro e w1 ⟨rfl, hb⟩
      have HB1 := Lib.hid (HB0.out.keep hb)
      obtain ⟨z0, z1⟩ := cells2 HB1.out.box
      clear hb
      go_wp2_with fail
      refine (CC.out _ HB1.out.bel).mono ?_
      rintro e w2 ⟨rfl, hb⟩
      have HB2 := Lib.hid (HB1.out.keep hb)
      clear hb z0 z1 u0 u1
      go_wp2_with fail
      go_loopw [3] (fun i wr => ∃ k : Nat, k ≤ n ∧ i = .int .i64 (k : Int) ∧ Hid (v = (onceUp l k (l.drop k) && orderL l)) ∧ Hid (Bx2 24 w wr (.string s) (.slice a n c))) (fun i _ => n - (intOf i).toNat)
      case atStart => exact ⟨0, Nat.zero_le _, rfl, HV, HB2⟩
      case round =>
        obtain ⟨k, hk, rfl, hd, hB⟩ := hrel
        obtain ⟨q0, q1⟩ := cells2 hB.out.box
        by_cases hlk : k < n
        · obtain ⟨b1, o1, x0, x1, x2, x3, x4, x5, rfl, g1, hp, hc1⟩ := StAt.at HX.out hlk
          obtain ⟨d0, d1, d2, d3, d4, d5⟩ := hc1 wr hB.out.bel
          have hi0 : (0 : Int) ≤ (k : Int) := by omega
          have hi1 : (k : Int) < (n : Int) := by omega
          cases hf : StP.fitS ⟨x0, x1, x2, x3, x4, x5⟩ with
          | false =>
            have HD : Hid (v = false) := hd.out.trans (by rw [once_nofit hp hf]; rfl)
            have CF := Lib.hid (fun d os => Calls.regrown_of (Step.rfit_is x0 x1 x2 x3 x4 x5 false hf (Sort.grow (redrawn wr d) os)))
            have s0 := fun d os => cell_regrown q0 d os
            have s1 := fun d os => cell_regrown q1 d os
            have t0 := fun d os => cell_regrown d0 d os
            have t1 := fun d os => cell_regrown d1 d os
            have t2 := fun d os => cell_regrown d2 d os
            have t3 := fun d os => cell_regrown d3 d os
            have t4 := fun d os => cell_regrown d4 d os
            have t5 := fun d os => cell_regrown d5 d os
            clear d0 d1 d2 d3 d4 d5 hp hd hc1 hf
            go_wp2_with fail
            clear q0 q1
            refine wp_region_qw (by kernel_rfl) (by kernel_rfl) ?_
            iterate 8 (refine qw_take (by kernel_rfl) (fun K hK => ?_); go_simp; first | (refine hK _ ?_; clear hK K) | (apply Exists.intro; refine ⟨fun _ => ?_, hK _ ?_⟩; (first | with_reducible exact CF.out _ _); clear hK K))
            iterate 10 (refine qw_skip (by kernel_rfl) ?_; simp only [Act.put, List.setIfInBounds_toArray, List.set_cons_succ, List.set_cons_zero])
            refine qw_take (by kernel_rfl) (fun K hK => ?_); go_simp; first | (refine hK _ ?_; clear hK K) | (apply Exists.intro; refine ⟨fun _ => ?_, hK _ ?_⟩; (first | with_reducible exact CF.out _ _); clear hK K)
            refine qw_nil ?_
            intro _ hw'
            obtain ⟨⟨dq, osq⟩, hw''⟩ := hw'
            subst hw''
            have HB3 := Lib.hid (hB.out.keep (below_regrown wr dq osq))
            go_wp2_with fail
            go_ret
            exact ⟨ret_bool HD.out, HB3.out.bel⟩
          | true =>
            have CF := Lib.hid (fun d os => Calls.regrown_of (Step.rfit_is x0 x1 x2 x3 x4 x5 true hf (Sort.grow (redrawn wr d) os)))
            obtain ⟨r, hr⟩ : ∃ r, placeL l x0 = r := ⟨_, rfl⟩
            have CP := Lib.hid (fun d os => Calls.regrown_of (rplace_is s (some ⟨b1, o1, none⟩) n c l x0 r hr (Sort.grow (redrawn wr d) os) (HX.out.keep (below_keep hB.out.bel (below_regrown wr d os) hB.out.bel.size))))
            cases hq : r == (k : Int) with
            | false =>
              have HD : Hid (v = false) := hd.out.trans (by rw [once_no hp (by show (placeL l x0 == _) = _; rw [hr]; exact hq)]; rfl)
              have e1 : (r != (k : Int)) = true := by rw [bne, hq]; rfl
              clear hr
              have s0 := fun d os => cell_regrown q0 d os
              have s1 := fun d os => cell_regrown q1 d os
              have t0 := fun d os => cell_regrown d0 d os
              have t1 := fun d os => cell_regrown d1 d os
              have t2 := fun d os => cell_regrown d2 d os
              have t3 := fun d os => cell_regrown d3 d os
              have t4 := fun d os => cell_regrown d4 d os
              have t5 := fun d os => cell_regrown d5 d os
              clear d0 d1 d2 d3 d4 d5 hp hd hc1 hf hq
              go_wp2_with fail
              clear q0 q1
              refine wp_region_qw (by kernel_rfl) (by kernel_rfl) ?_
              iterate 19 (refine qw_take (by kernel_rfl) (fun K hK => ?_); go_simp; first | (refine hK _ ?_; clear hK K) | (apply Exists.intro; refine ⟨fun _ => ?_, hK _ ?_⟩; (first | with_reducible exact CF.out _ _ | with_reducible exact CP.out _ _); clear hK K))
              refine qw_nil ?_
              intro _ hw'
              obtain ⟨⟨dq, osq⟩, hw''⟩ := hw'
              subst hw''
              have HB3 := Lib.hid (hB.out.keep (below_regrown wr dq osq))
              go_wp2_with fail
              go_ret
              exact ⟨ret_bool HD.out, HB3.out.bel⟩
            | true =>
              have HD : Hid (v = (onceUp l (k + 1) (l.drop (k + 1)) && orderL l)) := hd.out.trans (by rw [once_go hp hf (by show (placeL l x0 == _) = _; rw [hr]; exact hq)])
              have e1 : (r != (k : Int)) = false := by rw [bne, hq]; rfl
              clear hr
              have s0 := fun d os => cell_regrown q0 d os
              have s1 := fun d os => cell_regrown q1 d os
              have t0 := fun d os => cell_regrown d0 d os
              have t1 := fun d os => cell_regrown d1 d os
              have t2 := fun d os => cell_regrown d2 d os
              have t3 := fun d os => cell_regrown d3 d os
              have t4 := fun d os => cell_regrown d4 d os
              have t5 := fun d os => cell_regrown d5 d os
              clear d0 d1 d2 d3 d4 d5 hp hd hc1 hf hq
              go_wp2_with fail
              clear q0 q1
              refine wp_region_qw (by kernel_rfl) (by kernel_rfl) ?_
              iterate 19 (refine qw_take (by kernel_rfl) (fun K hK => ?_); go_simp; first | (refine hK _ ?_; clear hK K) | (apply Exists.intro; refine ⟨fun _ => ?_, hK _ ?_⟩; (first | with_reducible exact CF.out _ _ | with_reducible exact CP.out _ _); clear hK K))
              refine qw_nil ?_
              intro _ hw'
              obtain ⟨⟨dq, osq⟩, hw''⟩ := hw'
              subst hw''
              have HB3 := Lib.hid (hB.out.keep (below_regrown wr dq osq))
              go_wp2_with fail
              go_roundw
              case rel => exact ⟨k + 1, by omega, by go_num, HD, HB3⟩
              case measure => simp [intOf]; omega
        · skip
          obtain rfl : k = n := by omega
          have HO : Hid (v = (((decide (p0 < 0) && decide (p1 < 0) && decide (p2 < 0)) || (decide (0 ≤ p0) && decide (p0 < p1) && decide (p1 < p2))) && (decide (p3 < 0) || (decide (0 ≤ p4) && decide (p4 < p3))))) := by
            show _ = _
            rw [hd.out, once_end (at_len HX.out hlk), Bool.true_and]
            unfold orderL
            rw [P0.out, P1.out, P2.out, P3.out, P4.out]
          clear hd
          have C0 := Lib.hid (fun d os => Calls.regrown_of (K0.out (Sort.grow (redrawn wr d) os) (below_keep hB.out.bel (below_regrown wr d os) hB.out.bel.size)))
          have C1 := Lib.hid (fun d os => Calls.regrown_of (K1.out (Sort.grow (redrawn wr d) os) (below_keep hB.out.bel (below_regrown wr d os) hB.out.bel.size)))
          have C2 := Lib.hid (fun d os => Calls.regrown_of (K2.out (Sort.grow (redrawn wr d) os) (below_keep hB.out.bel (below_regrown wr d os) hB.out.bel.size)))
          have s0 := fun d os => cell_regrown q0 d os
          have s1 := fun d os => cell_regrown q1 d os
          go_wp2_with fail
          clear q0 q1
          refine wp_region_qw (by kernel_rfl) (by kernel_rfl) ?_
          iterate 9 (refine qw_take (by kernel_rfl) (fun K hK => ?_); go_simp; first | (refine hK _ ?_; clear hK K) | (apply Exists.intro; refine ⟨fun _ => ?_, hK _ ?_⟩; (first | with_reducible exact C0.out _ _ | with_reducible exact C1.out _ _ | with_reducible exact C2.out _ _); clear hK K))
          refine qw_nil ?_
          intro _ hw'
          obtain ⟨⟨dq, osq⟩, hw''⟩ := hw'
          subst hw''
          have HB3 := Lib.hid (hB.out.keep (below_regrown wr dq osq))
          clear s0 s1 C0 C1 C2
          generalize Sort.grow (redrawn wr dq) osq = wl at *
          obtain ⟨y0, y1⟩ := cells2 HB3.out.box
          have C4 := Lib.hid (K3.out)
          have C5 := Lib.hid (K4.out)
          by_cases h0 : p0 < 0
          · have h0' : ¬ 0 ≤ p0 := by omega
            by_cases h1 : p1 < 0
            · by_cases h2 : p2 < 0
              · by_cases g0 : p3 < 0
                · have HR : Hid (v = true) := by
                    show _ = _
                    rw [HO.out]
                    simp only [*, decide_true, decide_false, Bool.and_true, Bool.and_false, Bool.true_and, Bool.false_and, Bool.or_true, Bool.or_false, Bool.true_or, Bool.false_or]
                  clear HO
                  go_wp2_with fail
                  refine (C4.out _ HB3.out.bel).mono ?_
                  rintro e w4 ⟨rfl, hb⟩
                  have HB4 := Lib.hid (HB3.out.keep hb)
                  clear hb y0 y1
                  obtain ⟨y0, y1⟩ := cells2 HB4.out.box
                  go_wp2_with fail
                  refine (C5.out _ HB4.out.bel).mono ?_
                  rintro e w5 ⟨rfl, hb⟩
                  have HB5 := Lib.hid (HB4.out.keep hb)
                  clear hb y0 y1
                  go_wp2_with fail
                  go_ret
                  first | exact ⟨ret_bool HR.out, HB5.out.bel⟩ | exact ⟨ret_bool (HR.out.trans (by simp [*])), HB5.out.bel⟩
                by_cases g1 : 0 ≤ p4
                · by_cases g2 : p4 < p3
                  · have HR : Hid (v = true) := by
                      show _ = _
                      rw [HO.out]
                      simp only [*, decide_true, decide_false, Bool.and_true, Bool.and_false, Bool.true_and, Bool.false_and, Bool.or_true, Bool.or_false, Bool.true_or, Bool.false_or]
                    clear HO
                    go_wp2_with fail
                    refine (C4.out _ HB3.out.bel).mono ?_
                    rintro e w4 ⟨rfl, hb⟩
                    have HB4 := Lib.hid (HB3.out.keep hb)
                    clear hb y0 y1
                    obtain ⟨y0, y1⟩ := cells2 HB4.out.box
                    go_wp2_with fail
                    refine (C5.out _ HB4.out.bel).mono ?_
                    rintro e w5 ⟨rfl, hb⟩
                    have HB5 := Lib.hid (HB4.out.keep hb)
                    clear hb y0 y1
                    go_wp2_with fail
                    go_ret
                    first | exact ⟨ret_bool HR.out, HB5.out.bel⟩ | exact ⟨ret_bool (HR.out.trans (by simp [*])), HB5.out.bel⟩
                  · have HR : Hid (v = false) := by
                      show _ = _
                      rw [HO.out]
                      simp only [*, decide_true, decide_false, Bool.and_true, Bool.and_false, Bool.true_and, Bool.false_and, Bool.or_true, Bool.or_false, Bool.true_or, Bool.false_or]
                    clear HO
                    go_wp2_with fail
                    refine (C4.out _ HB3.out.bel).mono ?_
                    rintro e w4 ⟨rfl, hb⟩
                    have HB4 := Lib.hid (HB3.out.keep hb)
                    clear hb y0 y1
                    obtain ⟨y0, y1⟩ := cells2 HB4.out.box
                    go_wp2_with fail
                    refine (C5.out _ HB4.out.bel).mono ?_
                    rintro e w5 ⟨rfl, hb⟩
                    have HB5 := Lib.hid (HB4.out.keep hb)
                    clear hb y0 y1
                    go_wp2_with fail
                    go_ret
                    first | exact ⟨ret_bool HR.out, HB5.out.bel⟩ | exact ⟨ret_bool (HR.out.trans (by simp [*])), HB5.out.bel⟩
                · have HR : Hid (v = false) := by
                    show _ = _
                    rw [HO.out]
                    simp only [*, decide_true, decide_false, Bool.and_true, Bool.and_false, Bool.true_and, Bool.false_and, Bool.or_true, Bool.or_false, Bool.true_or, Bool.false_or]
                  clear HO
                  go_wp2_with fail
                  refine (C4.out _ HB3.out.bel).mono ?_
                  rintro e w4 ⟨rfl, hb⟩
                  have HB4 := Lib.hid (HB3.out.keep hb)
                  clear hb y0 y1
                  obtain ⟨y0, y1⟩ := cells2 HB4.out.box
                  go_wp2_with fail
                  refine (C5.out _ HB4.out.bel).mono ?_
                  rintro e w5 ⟨rfl, hb⟩
                  have HB5 := Lib.hid (HB4.out.keep hb)
                  clear hb y0 y1
                  go_wp2_with fail
                  go_ret
                  first | exact ⟨ret_bool HR.out, HB5.out.bel⟩ | exact ⟨ret_bool (HR.out.trans (by simp [*])), HB5.out.bel⟩
              · have HR : Hid (v = false) := by
                  show _ = _
                  rw [HO.out]
                  simp only [*, decide_true, decide_false, Bool.and_true, Bool.and_false, Bool.true_and, Bool.false_and, Bool.or_true, Bool.or_false, Bool.true_or, Bool.false_or]
                clear HO
                go_wp2_with fail
                refine (C4.out _ HB3.out.bel).mono ?_
                rintro e w4 ⟨rfl, hb⟩
                have HB4 := Lib.hid (HB3.out.keep hb)
                clear hb y0 y1
                obtain ⟨y0, y1⟩ := cells2 HB4.out.box
                go_wp2_with fail
                refine (C5.out _ HB4.out.bel).mono ?_
                rintro e w5 ⟨rfl, hb⟩
                have HB5 := Lib.hid (HB4.out.keep hb)
                clear hb y0 y1
                go_wp2_with fail
                go_ret
                first | exact ⟨ret_bool HR.out, HB5.out.bel⟩ | exact ⟨ret_bool (HR.out.trans (by simp [*])), HB5.out.bel⟩
            · have HR : Hid (v = false) := by
                show _ = _
                rw [HO.out]
                simp only [*, decide_true, decide_false, Bool.and_true, Bool.and_false, Bool.true_and, Bool.false_and, Bool.or_true, Bool.or_false, Bool.true_or, Bool.false_or]
              clear HO
              go_wp2_with fail
              refine (C4.out _ HB3.out.bel).mono ?_
              rintro e w4 ⟨rfl, hb⟩
              have HB4 := Lib.hid (HB3.out.keep hb)
              clear hb y0 y1
              obtain ⟨y0, y1⟩ := cells2 HB4.out.box
              go_wp2_with fail
              refine (C5.out _ HB4.out.bel).mono ?_
              rintro e w5 ⟨rfl, hb⟩
              have HB5 := Lib.hid (HB4.out.keep hb)
              clear hb y0 y1
              go_wp2_with fail
              go_ret
              first | exact ⟨ret_bool HR.out, HB5.out.bel⟩ | exact ⟨ret_bool (HR.out.trans (by simp [*])), HB5.out.bel⟩
          · have h0' : 0 ≤ p0 := by omega
            by_cases h1 : p0 < p1
            · by_cases h2 : p1 < p2
              · by_cases g0 : p3 < 0
                · have HR : Hid (v = true) := by
                    show _ = _
                    rw [HO.out]
                    simp only [*, decide_true, decide_false, Bool.and_true, Bool.and_false, Bool.true_and, Bool.false_and, Bool.or_true, Bool.or_false, Bool.true_or, Bool.false_or]
                  clear HO
                  go_wp2_with fail
                  refine (C4.out _ HB3.out.bel).mono ?_
                  rintro e w4 ⟨rfl, hb⟩
                  have HB4 := Lib.hid (HB3.out.keep hb)
                  clear hb y0 y1
                  obtain ⟨y0, y1⟩ := cells2 HB4.out.box
                  go_wp2_with fail
                  refine (C5.out _ HB4.out.bel).mono ?_
                  rintro e w5 ⟨rfl, hb⟩
                  have HB5 := Lib.hid (HB4.out.keep hb)
                  clear hb y0 y1
                  go_wp2_with fail
                  go_ret
                  first | exact ⟨ret_bool HR.out, HB5.out.bel⟩ | exact ⟨ret_bool (HR.out.trans (by simp [*])), HB5.out.bel⟩
                by_cases g1 : 0 ≤ p4
                · by_cases g2 : p4 < p3
                  · have HR : Hid (v = true) := by
                      show _ = _
                      rw [HO.out]
                      simp only [*, decide_true, decide_false, Bool.and_true, Bool.and_false, Bool.true_and, Bool.false_and, Bool.or_true, Bool.or_false, Bool.true_or, Bool.false_or]
                    clear HO
                    go_wp2_with fail
                    refine (C4.out _ HB3.out.bel).mono ?_
                    rintro e w4 ⟨rfl, hb⟩
                    have HB4 := Lib.hid (HB3.out.keep hb)
                    clear hb y0 y1
                    obtain ⟨y0, y1⟩ := cells2 HB4.out.box
                    go_wp2_with fail
                    refine (C5.out _ HB4.out.bel).mono ?_
                    rintro e w5 ⟨rfl, hb⟩
                    have HB5 := Lib.hid (HB4.out.keep hb)
                    clear hb y0 y1
                    go_wp2_with fail
                    go_ret
                    first | exact ⟨ret_bool HR.out, HB5.out.bel⟩ | exact ⟨ret_bool (HR.out.trans (by simp [*])), HB5.out.bel⟩
                  · have HR : Hid (v = false) := by
                      show _ = _
                      rw [HO.out]
                      simp only [*, decide_true, decide_false, Bool.and_true, Bool.and_false, Bool.true_and, Bool.false_and, Bool.or_true, Bool.or_false, Bool.true_or, Bool.false_or]
                    clear HO
                    go_wp2_with fail
                    refine (C4.out _ HB3.out.bel).mono ?_
                    rintro e w4 ⟨rfl, hb⟩
                    have HB4 := Lib.hid (HB3.out.keep hb)
                    clear hb y0 y1
                    obtain ⟨y0, y1⟩ := cells2 HB4.out.box
                    go_wp2_with fail
                    refine (C5.out _ HB4.out.bel).mono ?_
                    rintro e w5 ⟨rfl, hb⟩
                    have HB5 := Lib.hid (HB4.out.keep hb)
                    clear hb y0 y1
                    go_wp2_with fail
                    go_ret
                    first | exact ⟨ret_bool HR.out, HB5.out.bel⟩ | exact ⟨ret_bool (HR.out.trans (by simp [*])), HB5.out.bel⟩
                · have HR : Hid (v = false) := by
                    show _ = _
                    rw [HO.out]
                    simp only [*, decide_true, decide_false, Bool.and_true, Bool.and_false, Bool.true_and, Bool.false_and, Bool.or_true, Bool.or_false, Bool.true_or, Bool.false_or]
                  clear HO
                  go_wp2_with fail
                  refine (C4.out _ HB3.out.bel).mono ?_
                  rintro e w4 ⟨rfl, hb⟩
                  have HB4 := Lib.hid (HB3.out.keep hb)
                  clear hb y0 y1
                  obtain ⟨y0, y1⟩ := cells2 HB4.out.box
                  go_wp2_with fail
                  refine (C5.out _ HB4.out.bel).mono ?_
                  rintro e w5 ⟨rfl, hb⟩
                  have HB5 := Lib.hid (HB4.out.keep hb)
                  clear hb y0 y1
                  go_wp2_with fail
                  go_ret
                  first | exact ⟨ret_bool HR.out, HB5.out.bel⟩ | exact ⟨ret_bool (HR.out.trans (by simp [*])), HB5.out.bel⟩
              · have HR : Hid (v = false) := by
                  show _ = _
                  rw [HO.out]
                  simp only [*, decide_true, decide_false, Bool.and_true, Bool.and_false, Bool.true_and, Bool.false_and, Bool.or_true, Bool.or_false, Bool.true_or, Bool.false_or]
                clear HO
                go_wp2_with fail
                refine (C4.out _ HB3.out.bel).mono ?_
                rintro e w4 ⟨rfl, hb⟩
                have HB4 := Lib.hid (HB3.out.keep hb)
                clear hb y0 y1
                obtain ⟨y0, y1⟩ := cells2 HB4.out.box
                go_wp2_with fail
                refine (C5.out _ HB4.out.bel).mono ?_
                rintro e w5 ⟨rfl, hb⟩
                have HB5 := Lib.hid (HB4.out.keep hb)
                clear hb y0 y1
                go_wp2_with fail
                go_ret
                first | exact ⟨ret_bool HR.out, HB5.out.bel⟩ | exact ⟨ret_bool (HR.out.trans (by simp [*])), HB5.out.bel⟩
            · have HR : Hid (v = false) := by
                show _ = _
                rw [HO.out]
                simp only [*, decide_true, decide_false, Bool.and_true, Bool.and_false, Bool.true_and, Bool.false_and, Bool.or_true, Bool.or_false, Bool.true_or, Bool.false_or]
              clear HO
              go_wp2_with fail
              refine (C4.out _ HB3.out.bel).mono ?_
              rintro e w4 ⟨rfl, hb⟩
              have HB4 := Lib.hid (HB3.out.keep hb)
              clear hb y0 y1
              obtain ⟨y0, y1⟩ := cells2 HB4.out.box
              go_wp2_with fail
              refine (C5.out _ HB4.out.bel).mono ?_
              rintro e w5 ⟨rfl, hb⟩
              have HB5 := Lib.hid (HB4.out.keep hb)
              clear hb y0 y1
              go_wp2_with fail
              go_ret
              first | exact ⟨ret_bool HR.out, HB5.out.bel⟩ | exact ⟨ret_bool (HR.out.trans (by simp [*])), HB5.out.bel⟩
end Go.Proofs.YtdpgfnnhbfkacaaGreatDoor.Def
