/-
  The contracts of Same (both) and Of (both): any lines; what was there stays as it was.
-/
import Derived.Test.YtleopanfggmenaaLinesA
set_option linter.unusedVariables false
set_option maxRecDepth 4000
set_option maxRecDepth 4000
namespace Go.Proofs.Ytleopanfggmenaa.Lines
open Go.RowKit LinesP

set_option maxHeartbeats 2000000 in
theorem rsame_any (a c : Option Addr) (la ca lc cc : Nat) (x y : List Ln) (w : World) (h1 : LsAt w a la x) (h2 : LsAt w c lc y) :
    Calls Try.prog 30 #[.slice a la ca, .slice c lc cc] w fun e w' => e = .returned (.bool (eqUp x y)) ∧ Below w.heap.size w w' := by
  obtain ⟨v, hv⟩ : ∃ v, eqUp x y = v := ⟨_, rfl⟩
  rw [hv]
  have hla := h1.2.1
  have hlc := h2.2.1
  by_cases hne : la = lc
  · subst hne
    have HX := Lib.hid h1; have HY := Lib.hid h2; have HV := Lib.hid hv
    clear h1 h2 hv hlc
    have NE := Lib.hid neq_line
    go_enter Try.func30, Try.ntmps30
    go_wp2_with fail
    go_loopw [5] (fun i wr => ∃ k : Nat, k ≤ la ∧ i = .int .i64 (k : Int) ∧ Hid (v = eqUp (x.drop k) (y.drop k)) ∧ Hid (Below w.heap.size w wr)) (fun i _ => la - (intOf i).toNat)
    case atStart => exact ⟨0, Nat.zero_le _, rfl, HV.out.symm, Below.refl _ w⟩
    case round =>
      obtain ⟨k, hk, rfl, hd, hB⟩ := hrel
      by_cases hlk : k < la
      · rcases HX.out.2.2 with h0 | ⟨b1, o1, rfl, g1, hc1⟩
        · omega
        rcases HY.out.2.2 with h0 | ⟨b2, o2, rfl, g2, hc2⟩
        · omega
        have d1 := (hB.out.cell (p := ⟨b1, o1 + k * 2, none⟩) g1).trans (hc1 k hlk).1
        have d2 := (hB.out.cell (p := ⟨b1, o1 + k * 2 + 1, none⟩) g1).trans (hc1 k hlk).2
        have d3 := (hB.out.cell (p := ⟨b2, o2 + k * 2, none⟩) g2).trans (hc2 k hlk).1
        have d4 := (hB.out.cell (p := ⟨b2, o2 + k * 2 + 1, none⟩) g2).trans (hc2 k hlk).2
        obtain ⟨p, hp⟩ : ∃ p, x.getD k ln0 = p := ⟨_, rfl⟩
        obtain ⟨q, hq⟩ : ∃ q, y.getD k ln0 = q := ⟨_, rfl⟩
        rw [hp] at d1 d2
        rw [hq] at d3 d4
        have hkx : k < x.length := by rw [HX.out.1]; exact hlk
        have hky : k < y.length := by rw [HY.out.1]; exact hlk
        clear hc1 hc2 g1 g2
        obtain ⟨s, n⟩ := p
        obtain ⟨t, m⟩ := q
        cases heq : (s.toList == t.toList && n == m) with
        | true =>
          have HD := Lib.hid (hd.out.trans (eqUp_go hkx hky hp hq heq))
          have hneq := fun w => neq_line s t n m w
          have hgd := fun x y w => guard_line x y s t n m w
          rw [heq] at hneq
          have HB2 := Lib.hid hB.out
          clear hd hp hq heq hkx hky hB
          go_wp2_with fail
          go_quiet (fail)
          go_wp2_with fail
          go_roundw
          case rel => exact ⟨k + 1, by omega, by go_num, HD, below_drewN HB2.out _⟩
          case measure => simp [intOf]; omega
        | false =>
          have HD := Lib.hid (hd.out.trans (eqUp_no hkx hky hp hq heq))
          have hneq := fun w => neq_line s t n m w
          have hgd := fun x y w => guard_line x y s t n m w
          rw [heq] at hneq
          have HB2 := Lib.hid hB.out
          clear hd hp hq heq hkx hky hB
          go_wp2_with fail
          go_quiet (fail)
          go_wp2_with fail
          go_ret
          exact ⟨ret_bool HD.out, below_drewN HB2.out _⟩
      · obtain rfl : k = la := by omega
        have HD := Lib.hid (hd.out.trans (eqUp_done (by rw [HX.out.1]; exact hlk) (by rw [HY.out.1]; exact hlk)))
        clear hd
        go_wp2_with fail
        go_ret
        exact ⟨ret_bool HD.out, hB.out⟩
  · have hx := h1.1
    have hy := h2.1
    have hn3 : ((la : Int) != (lc : Int)) = true := by simp; omega
    have HD := Lib.hid (hv.symm.trans (eqUp_len (a := x) (b := y) (by rw [hx, hy]; exact hne)))
    clear h1 h2 hv hx hy
    go_enter Try.func30, Try.ntmps30
    go_wp2_with fail
    go_ret
    exact ⟨ret_bool HD.out, Below.refl _ _⟩
theorem same_any (a c : Option Addr) (la ca lc cc : Nat) (x y : List Ln) (w : World) (h1 : LsAt w a la x) (h2 : LsAt w c lc y) :
    Calls Try.prog 34 #[.slice a la ca, .slice c lc cc] w fun e w' => e = .returned (.bool (eqUp x y)) ∧ Below w.heap.size w w' := by
  have C := Lib.hid (equal_any a c la ca lc cc x y w h1 h2)
  clear h1 h2
  go_enter Try.func34, Try.ntmps34
  go_wp2_with fail
  refine C.out.mono ?_
  rintro e w1 ⟨rfl, hb⟩
  go_wp2_with fail
  go_ret
  exact ⟨rfl, hb⟩
set_option maxHeartbeats 2000000 in
theorem of_any (a : Option Addr) (len cap : Nat) (l : List Ln) (s : ByteArray) (w : World) (h : LsAt w a len l) :
    Calls Try.prog 31 #[.slice a len cap, .string s] w fun e w' => e = .returned (.int .i64 (ofL s l)) ∧ Below w.heap.size w w' := by
  obtain ⟨v, hv⟩ : ∃ v, ofL s l = v := ⟨_, rfl⟩
  rw [hv]
  have hl := h.2.1
  have HX := Lib.hid h; have HV := Lib.hid hv
  clear h hv
  go_enter Try.func31, Try.ntmps31
  go_wp2_with fail
  go_loopw [9] (fun i wr => ∃ k : Nat, k ≤ len ∧ i = .int .i64 (k : Int) ∧ Hid (v = ofL s (l.drop k)) ∧ Hid (Below w.heap.size w wr)) (fun i _ => len - (intOf i).toNat)
  case atStart => exact ⟨0, Nat.zero_le _, rfl, HV.out.symm, Below.refl _ w⟩
  case round =>
    obtain ⟨k, hk, rfl, hd, hB⟩ := hrel
    by_cases hlk : k < len
    · rcases HX.out.2.2 with h0 | ⟨b1, o1, rfl, g1, hc1⟩
      · omega
      have d1 := (hB.out.cell (p := ⟨b1, o1 + k * 2, none⟩) g1).trans (hc1 k hlk).1
      have d2 := (hB.out.cell (p := ⟨b1, o1 + k * 2 + 1, none⟩) g1).trans (hc1 k hlk).2
      obtain ⟨p, hp⟩ : ∃ p, l.getD k ln0 = p := ⟨_, rfl⟩
      rw [hp] at d1 d2
      have hkx : k < l.length := by rw [HX.out.1]; exact hlk
      clear hc1 g1
      obtain ⟨t, m⟩ := p
      have HB2 := Lib.hid (hB.out.alloc hB.out.size (.cells #[.string t, .int .i64 m] 45))
      have HB3 := Lib.hid hB.out
      cases heq : (t.toList == s.toList) with
      | true =>
        have HD := Lib.hid (hd.out.trans (ofL_yes hkx hp heq))
        clear hd hp hkx hB
        go_wp2_with fail
        go_ret
        exact ⟨ret_int HD.out, HB2.out⟩
      | false =>
        have HD := Lib.hid (hd.out.trans (ofL_no hkx hp heq))
        clear hd hp hkx hB
        go_wp2_with fail
        go_roundw
        case rel => exact ⟨k + 1, by omega, by go_num, HD, HB2⟩
        case measure => simp [intOf]; omega
    · obtain rfl : k = len := by omega
      have HD := Lib.hid (hd.out.trans (ofL_done (by rw [HX.out.1]; exact hlk)))
      clear hd
      go_wp2_with fail
      go_ret
      exact ⟨ret_int HD.out, hB.out⟩
set_option maxHeartbeats 2000000 in
theorem rof_any (a : Option Addr) (len cap : Nat) (l : List Ln) (s : ByteArray) (w : World) (h : LsAt w a len l) :
    Calls Try.prog 24 #[.slice a len cap, .string s] w fun e w' => e = .returned (.int .i64 (ofL s l)) ∧ Below w.heap.size w w' := by
  obtain ⟨v, hv⟩ : ∃ v, ofL s l = v := ⟨_, rfl⟩
  rw [hv]
  have hl := h.2.1
  have HX := Lib.hid h; have HV := Lib.hid hv
  clear h hv
  go_enter Try.func24, Try.ntmps24
  go_wp2_with fail
  go_loopw [5] (fun i wr => ∃ k : Nat, k ≤ len ∧ i = .int .i64 (k : Int) ∧ Hid (v = ofL s (l.drop k)) ∧ Hid (Below w.heap.size w wr)) (fun i _ => len - (intOf i).toNat)
  case atStart => exact ⟨0, Nat.zero_le _, rfl, HV.out.symm, Below.refl _ w⟩
  case round =>
    obtain ⟨k, hk, rfl, hd, hB⟩ := hrel
    by_cases hlk : k < len
    · rcases HX.out.2.2 with h0 | ⟨b1, o1, rfl, g1, hc1⟩
      · omega
      have d1 := (hB.out.cell (p := ⟨b1, o1 + k * 2, none⟩) g1).trans (hc1 k hlk).1
      have d2 := (hB.out.cell (p := ⟨b1, o1 + k * 2 + 1, none⟩) g1).trans (hc1 k hlk).2
      obtain ⟨p, hp⟩ : ∃ p, l.getD k ln0 = p := ⟨_, rfl⟩
      rw [hp] at d1 d2
      have hkx : k < l.length := by rw [HX.out.1]; exact hlk
      clear hc1 g1
      obtain ⟨t, m⟩ := p
      have HB2 := Lib.hid (hB.out.alloc hB.out.size (.cells #[.string t, .int .i64 m] 45))
      have HB3 := Lib.hid hB.out
      cases heq : (t.toList == s.toList) with
      | true =>
        have HD := Lib.hid (hd.out.trans (ofL_yes hkx hp heq))
        clear hd hp hkx hB
        go_wp2_with fail
        go_ret
        exact ⟨ret_int HD.out, HB3.out⟩
      | false =>
        have HD := Lib.hid (hd.out.trans (ofL_no hkx hp heq))
        clear hd hp hkx hB
        go_wp2_with fail
        go_roundw
        case rel => exact ⟨k + 1, by omega, by go_num, HD, HB3⟩
        case measure => simp [intOf]; omega
    · obtain rfl : k = len := by omega
      have HD := Lib.hid (hd.out.trans (ofL_done (by rw [HX.out.1]; exact hlk)))
      clear hd
      go_wp2_with fail
      go_ret
      exact ⟨ret_int HD.out, hB.out⟩
end Go.Proofs.Ytleopanfggmenaa.Lines
