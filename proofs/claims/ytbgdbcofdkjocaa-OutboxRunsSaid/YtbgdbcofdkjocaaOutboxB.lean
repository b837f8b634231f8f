/-
  The contracts of the document's Find, Drop, Since and Same: any entries; what was there stays as it was.
-/
import Derived.Test.YtbgdbcofdkjocaaOutboxA
set_option linter.unusedVariables false
set_option linter.unusedSimpArgs false
set_option maxRecDepth 4000
namespace Go.Proofs.Ytbgdbcofdkjocaa.Outbox
open Go.RowKit OutP
open Go.Proofs.Ytbgdbcofdkjocaa.Kt

def getE (o : Option En) : En := o.getD en0
theorem findE_hit {g : Int} {l : List En} {k : Nat} {x : En} (hk : k < l.length) (hx : l.getD k en0 = x) (h : x.saga = g) : findE g (l.drop k) = some x := by
  rw [Rw.drop_cons hk hx, findE, if_pos h]
theorem findE_miss {g : Int} {l : List En} {k : Nat} {x : En} (hk : k < l.length) (hx : l.getD k en0 = x) (h : ¬ x.saga = g) : findE g (l.drop k) = findE g (l.drop (k + 1)) := by
  rw [Rw.drop_cons hk hx, findE, if_neg h]
theorem findE_end {g : Int} {l : List En} {k : Nat} (hk : ¬ k < l.length) : findE g (l.drop k) = none := by
  rw [List.drop_eq_nil_of_le (by omega)]; rfl
theorem filt_yes {p : En → Bool} {l : List En} {k : Nat} {x : En} (hk : k < l.length) (hx : l.getD k en0 = x) (h : p x = true) : (l.take (k + 1)).filter p = (l.take k).filter p ++ [x] := by
  rw [Rw.take_snoc hk hx]; simp [List.filter_append, h]
theorem filt_no {p : En → Bool} {l : List En} {k : Nat} {x : En} (hk : k < l.length) (hx : l.getD k en0 = x) (h : p x = false) : (l.take (k + 1)).filter p = (l.take k).filter p := by
  rw [Rw.take_snoc hk hx]; simp [List.filter_append, h]
theorem eqEs_len {a b : List En} (h : a.length ≠ b.length) : eqEs a b = false := by
  cases he : eqEs a b with
  | false => rfl
  | true => exact absurd (congrArg List.length (eqEs_iff.1 he)) h
theorem eqEs_end {a b : List En} {k : Nat} (h1 : ¬ k < a.length) (h2 : ¬ k < b.length) : eqEs (a.drop k) (b.drop k) = true := by
  rw [List.drop_eq_nil_of_le (by omega), List.drop_eq_nil_of_le (by omega)]; rfl
theorem eqEs_no {a b : List En} {k : Nat} {x y : En} (h1 : k < a.length) (h2 : k < b.length) (hx : a.getD k en0 = x) (hy : b.getD k en0 = y) (h : eqE x y = false) : eqEs (a.drop k) (b.drop k) = false := by
  rw [Rw.drop_cons h1 hx, Rw.drop_cons h2 hy, eqEs, h]; rfl
theorem eqEs_go {a b : List En} {k : Nat} {x y : En} (h1 : k < a.length) (h2 : k < b.length) (hx : a.getD k en0 = x) (hy : b.getD k en0 = y) (h : eqE x y = true) : eqEs (a.drop k) (b.drop k) = eqEs (a.drop (k + 1)) (b.drop (k + 1)) := by
  rw [Rw.drop_cons h1 hx, Rw.drop_cons h2 hy, eqEs, h]; rfl

set_option maxHeartbeats 1000000 in
theorem rfind_any (a : Option Addr) (len cap : Nat) (l : List En) (g : Int) (o : Option En) (ho : findE g l = o) (w : World) (h : EnAt w a len l) :
    Calls Try.prog 8 #[.slice a len cap, .int .i64 g] w fun e w' => e = .returned (.tuple #[enV (getE o), .bool o.isSome]) ∧ Below w.heap.size w w' := by
  have hl := h.2.1
  have HX := Lib.hid h
  have HV : Hid (findE g (l.drop 0) = o) := ho
  have HB0 := Lib.hid (bx7_new 25 w (.int .i64 0) (.int .i64 0) (.int .i64 0) (.bool false) (.int .i64 0) (.int .i64 0) (.bool false))
  clear h ho
  go_enter Try.func8, Try.ntmps8
  go_wp2_with fail
  go_loopw [6] (fun i wr => ∃ k : Nat, k ≤ len ∧ i = .int .i64 (k : Int) ∧ Hid (findE g (l.drop k) = o) ∧ Hid (Bx7 25 w wr (.int .i64 0) (.int .i64 0) (.int .i64 0) (.bool false) (.int .i64 0) (.int .i64 0) (.bool false))) (fun i _ => len - (intOf i).toNat)
  case atStart => exact ⟨0, Nat.zero_le _, rfl, HV, HB0⟩
  case round =>
    obtain ⟨k, hk, rfl, hd, hB⟩ := hrel
    by_cases hlk : k < len
    · have hkx : k < l.length := by rw [HX.out.1]; exact hlk
      obtain ⟨b1, o1, x0, x1, x2, x3, x4, x5, x6, rfl, g1, hp, hc1⟩ := EnAt.at HX.out hlk
      obtain ⟨d0, d1, d2, d3, d4, d5, d6⟩ := hc1 wr hB.out.bel
      clear g1
      by_cases h1 : x1 = g
      · obtain ⟨z0, z1, z2, z3, z4, z5, z6⟩ := cells7 hB.out.box
        obtain ⟨f0, f1, f2, f3, f4, f5, f6⟩ := free7 hB.out.box
        have ho2 : o = some ⟨x0, x1, x2, x3, x4, x5, x6⟩ := hd.out.symm.trans (findE_hit hkx hp h1)
        subst ho2
        have e1 : (x1 == g) = true := beq_iff_eq.2 h1
        have HRS := Lib.hid (heap_put7 hB.out.box (.int .i64 x0) (.int .i64 x1) (.int .i64 x2) (.bool x3) (.int .i64 x4) (.int .i64 x5) (.bool x6))
        have HB3 := Lib.hid (below_put7 hB.out.bel (Nat.le_refl _) (.int .i64 x0) (.int .i64 x1) (.int .i64 x2) (.bool x3) (.int .i64 x4) (.int .i64 x5) (.bool x6))
        clear hd hp hkx h1 hc1
        go_wp2_with fail
        exact bodyPost_ret (results_en (j := 4) (k := 5) rfl _ _ w.heap.size _ _ _ _ _ _ _ rfl HRS.out) rfl ⟨rfl, HB3.out⟩
      · have HD := Lib.hid ((findE_miss hkx hp h1).symm.trans hd.out)
        have e1 : (x1 == g) = false := beq_eq_false_iff_ne.2 h1
        clear hd hp hkx h1 hc1
        go_wp2_with fail
        go_roundw
        case rel => exact ⟨k + 1, by omega, by go_num, HD, hB⟩
        case measure => simp [intOf]; omega
    · obtain rfl : k = len := by omega
      have ho2 : o = none := hd.out.symm.trans (findE_end (by rw [HX.out.1]; exact hlk))
      subst ho2
      obtain ⟨z0, z1, z2, z3, z4, z5, z6⟩ := cells7 hB.out.box
      obtain ⟨f0, f1, f2, f3, f4, f5, f6⟩ := free7 hB.out.box
      have HRS := Lib.hid (heap_put7 hB.out.box (.int .i64 0) (.int .i64 0) (.int .i64 0) (.bool false) (.int .i64 0) (.int .i64 0) (.bool false))
      have HB3 := Lib.hid (below_put7 hB.out.bel (Nat.le_refl _) (.int .i64 0) (.int .i64 0) (.int .i64 0) (.bool false) (.int .i64 0) (.int .i64 0) (.bool false))
      clear hd
      go_wp2_with fail
      exact bodyPost_ret (results_en (j := 4) (k := 5) rfl _ _ w.heap.size _ _ _ _ _ _ _ rfl HRS.out) rfl ⟨rfl, HB3.out⟩

set_option maxHeartbeats 2000000 in
theorem rdrop_any (a : Option Addr) (len cap : Nat) (l : List En) (g : Int) (hlen : len ≤ 1000000) (w : World) (h : EnAt w a len l) :
    Calls Try.prog 13 #[.slice a len cap, .int .i64 g] w (RowP w (dropE g l)) := by
  have hl := h.2.1
  have HX := Lib.hid h
  clear h
  go_enter Try.func13, Try.ntmps13
  go_wp2_with fail
  go_loopw [5, 6] (fun v i wr => ∃ (k n : Nat) (ys : List En), k ≤ len ∧ n ≤ k ∧ i = .int .i64 (k : Int) ∧ Hid (dropE g (l.take k) = ys) ∧ Hid (ys.length = n) ∧ Hid (wr.ownsRow w.heap.size 25 7 v n (Rw.cells enS ys)) ∧ Hid (Below w.heap.size w wr)) (fun _ i _ => len - (intOf i).toNat)
  case atStart => exact ⟨0, 0, [], Nat.zero_le _, Nat.le_refl _, rfl, rfl, rfl, World.ownsRow_nil _ _ _ _, Below.refl _ _⟩
  case round =>
    obtain ⟨k, n, ys, hk, hnk, rfl, hY, hN, hO, hB⟩ := hrel
    obtain ⟨ad, cp, rfl, hcp⟩ := Rw.owns_slice hO.out
    by_cases hlk : k < len
    · have hkx : k < l.length := by rw [HX.out.1]; exact hlk
      obtain ⟨b1, o1, x0, x1, x2, x3, x4, x5, x6, rfl, g1, hp, hc1⟩ := EnAt.at HX.out hlk
      obtain ⟨d0, d1, d2, d3, d4, d5, d6⟩ := hc1 wr hB.out
      clear g1
      by_cases h1 : ¬ x1 = g
      · have e1 : (x1 != g) = true := by simp [h1]
        have hst : dropE g (l.take (k + 1)) = dropE g (l.take k) ++ [⟨x0, x1, x2, x3, x4, x5, x6⟩] := filt_yes hkx hp (by simp [h1])
        rw [hY.out] at hst
        have HST := Lib.hid hst
        have hsz := hB.out.size
        clear hst hkx hp h1 hc1
        go_wp2_with (at_builtin; refine Rw.append_one enS rfl (.tmp 20) (.tmp 25) rfl w.heap.size wr _ rfl (⟨x0, x1, x2, x3, x4, x5, x6⟩ : En) _ rfl (.slice ad n cp) n ys rfl hO.out rfl (by omega) hsz ?_)
        intro v' w4 hO4 hg4
        have HO4 : Hid (w4.ownsRow w.heap.size 25 7 v' (n + 1) (Rw.cells enS (ys ++ [⟨x0, x1, x2, x3, x4, x5, x6⟩]))) := hO4
        have HB4 := Lib.hid (Rw.below_append hB.out hsz hO.out hg4)
        clear hO4 hg4
        go_wp2_with fail
        go_roundw
        case rel => exact ⟨k + 1, n + 1, ys ++ [⟨x0, x1, x2, x3, x4, x5, x6⟩], by omega, by omega, by go_num, HST, by rw [List.length_append, hN.out]; rfl, HO4, HB4⟩
        case measure => simp [intOf]; omega
      · have e1 : (x1 != g) = false := by simp; omega
        have hst : dropE g (l.take (k + 1)) = dropE g (l.take k) := filt_no hkx hp (by simp [show x1 = g by omega])
        rw [hY.out] at hst
        have HST := Lib.hid hst
        clear hst hkx hp h1 hc1
        go_wp2_with fail
        go_roundw
        case rel => exact ⟨k + 1, n, ys, by omega, by omega, by go_num, HST, hN, hO, hB⟩
        case measure => simp [intOf]; omega
    · obtain rfl : k = len := by omega
      have hR : RowP w (dropE g l) (.returned (.slice ad n cp)) wr := by
        have hY2 := hY.out
        rw [List.take_of_length_le (Nat.le_of_eq HX.out.1)] at hY2
        rw [hY2]
        have hO2 := hO.out
        exact ⟨_, rfl, hN.out.symm ▸ hO2, hB.out⟩
      have HR := Lib.hid hR
      clear hR
      go_wp2_with fail
      go_ret
      exact HR.out

set_option maxHeartbeats 2000000 in
theorem rsince_any (a : Option Addr) (len cap : Nat) (l : List En) (g : Int) (hlen : len ≤ 1000000) (w : World) (h : EnAt w a len l) :
    Calls Try.prog 15 #[.slice a len cap, .int .i64 g] w (RowP w (sinceE g l)) := by
  have hl := h.2.1
  have HX := Lib.hid h
  clear h
  go_enter Try.func15, Try.ntmps15
  go_wp2_with fail
  go_loopw [5, 6] (fun v i wr => ∃ (k n : Nat) (ys : List En), k ≤ len ∧ n ≤ k ∧ i = .int .i64 (k : Int) ∧ Hid (sinceE g (l.take k) = ys) ∧ Hid (ys.length = n) ∧ Hid (wr.ownsRow w.heap.size 25 7 v n (Rw.cells enS ys)) ∧ Hid (Below w.heap.size w wr)) (fun _ i _ => len - (intOf i).toNat)
  case atStart => exact ⟨0, 0, [], Nat.zero_le _, Nat.le_refl _, rfl, rfl, rfl, World.ownsRow_nil _ _ _ _, Below.refl _ _⟩
  case round =>
    obtain ⟨k, n, ys, hk, hnk, rfl, hY, hN, hO, hB⟩ := hrel
    obtain ⟨ad, cp, rfl, hcp⟩ := Rw.owns_slice hO.out
    by_cases hlk : k < len
    · have hkx : k < l.length := by rw [HX.out.1]; exact hlk
      obtain ⟨b1, o1, x0, x1, x2, x3, x4, x5, x6, rfl, g1, hp, hc1⟩ := EnAt.at HX.out hlk
      obtain ⟨d0, d1, d2, d3, d4, d5, d6⟩ := hc1 wr hB.out
      clear g1
      by_cases h1 : g < x0
      · have e1 : decide (g < x0) = true := by simp [h1]
        have hst : sinceE g (l.take (k + 1)) = sinceE g (l.take k) ++ [⟨x0, x1, x2, x3, x4, x5, x6⟩] := filt_yes hkx hp (by simp [h1])
        rw [hY.out] at hst
        have HST := Lib.hid hst
        have hsz := hB.out.size
        clear hst hkx hp hc1
        go_wp2_with (at_builtin; refine Rw.append_one enS rfl (.tmp 20) (.tmp 25) rfl w.heap.size wr _ rfl (⟨x0, x1, x2, x3, x4, x5, x6⟩ : En) _ rfl (.slice ad n cp) n ys rfl hO.out rfl (by omega) hsz ?_)
        intro v' w4 hO4 hg4
        have HO4 : Hid (w4.ownsRow w.heap.size 25 7 v' (n + 1) (Rw.cells enS (ys ++ [⟨x0, x1, x2, x3, x4, x5, x6⟩]))) := hO4
        have HB4 := Lib.hid (Rw.below_append hB.out hsz hO.out hg4)
        clear hO4 hg4
        go_wp2_with fail
        go_roundw
        case rel => exact ⟨k + 1, n + 1, ys ++ [⟨x0, x1, x2, x3, x4, x5, x6⟩], by omega, by omega, by go_num, HST, by rw [List.length_append, hN.out]; rfl, HO4, HB4⟩
        case measure => simp [intOf]; omega
      · have e1 : decide (g < x0) = false := by simp; omega
        have hst : sinceE g (l.take (k + 1)) = sinceE g (l.take k) := filt_no hkx hp (by simp [show ¬ g < x0 by omega])
        rw [hY.out] at hst
        have HST := Lib.hid hst
        clear hst hkx hp hc1
        go_wp2_with fail
        go_roundw
        case rel => exact ⟨k + 1, n, ys, by omega, by omega, by go_num, HST, hN, hO, hB⟩
        case measure => simp [intOf]; omega
    · obtain rfl : k = len := by omega
      have hR : RowP w (sinceE g l) (.returned (.slice ad n cp)) wr := by
        have hY2 := hY.out
        rw [List.take_of_length_le (Nat.le_of_eq HX.out.1)] at hY2
        rw [hY2]
        have hO2 := hO.out
        exact ⟨_, rfl, hN.out.symm ▸ hO2, hB.out⟩
      have HR := Lib.hid hR
      clear hR
      go_wp2_with fail
      go_ret
      exact HR.out

set_option maxHeartbeats 1000000 in
theorem rsame_any (a c : Option Addr) (n cap m cap2 : Nat) (x y : List En) (v : Bool) (hv : eqEs x y = v) (w : World) (h : EnAt w a n x) (h2 : EnAt w c m y) :
    Calls Try.prog 11 #[.slice a n cap, .slice c m cap2] w fun e w' => e = .returned (.bool v) ∧ Below w.heap.size w w' := by
  have hla := h.2.1
  have hlc := h2.2.1
  by_cases hne : n = m
  · subst hne
    have hnn : ((n : Int) != (n : Int)) = false := by simp
    have HX := Lib.hid h; have HY := Lib.hid h2
    have HV : Hid (v = eqEs (x.drop 0) (y.drop 0)) := hv.symm
    clear h h2 hv hlc
    go_enter Try.func11, Try.ntmps11
    go_wp2_with fail
    go_loopw [5] (fun i wr => ∃ k : Nat, k ≤ n ∧ i = .int .i64 (k : Int) ∧ Hid (v = eqEs (x.drop k) (y.drop k)) ∧ Hid (Below w.heap.size w wr)) (fun i _ => n - (intOf i).toNat)
    case atStart => exact ⟨0, Nat.zero_le _, rfl, HV, Below.refl _ _⟩
    case round =>
      obtain ⟨k, hk, rfl, hd, hB⟩ := hrel
      by_cases hlk : k < n
      · have hkx : k < x.length := by rw [HX.out.1]; exact hlk
        have hky : k < y.length := by rw [HY.out.1]; exact hlk
        obtain ⟨b1, o1, x0, x1, x2, x3, x4, x5, x6, rfl, g1, hp, hc1⟩ := EnAt.at HX.out hlk
        obtain ⟨b2, o2, y0, y1, y2, y3, y4, y5, y6, rfl, g2, hq, hc2⟩ := EnAt.at HY.out hlk
        obtain ⟨d0, d1, d2, d3, d4, d5, d6⟩ := hc1 wr hB.out
        obtain ⟨e0, e1, e2, e3, e4, e5, e6⟩ := hc2 wr hB.out
        clear hc1 hc2 g1 g2
        have hneq := fun w => neq_en x0 x1 x2 x3 x4 x5 x6 y0 y1 y2 y3 y4 y5 y6 w
        have hgd := fun p x y w => guard_en p x y x0 x1 x2 x3 x4 x5 x6 y0 y1 y2 y3 y4 y5 y6 w
        cases heq : eqE ⟨x0, x1, x2, x3, x4, x5, x6⟩ ⟨y0, y1, y2, y3, y4, y5, y6⟩ with
        | true =>
          have HD := Lib.hid (hd.out.trans (eqEs_go hkx hky hp hq heq))
          rw [heq] at hneq
          clear hd hp hq heq hkx hky
          go_wp2_with fail
          go_quiet (fail)
          go_wp2_with fail
          go_roundw
          case rel => exact ⟨k + 1, by omega, by go_num, HD, below_drewN hB.out _⟩
          case measure => simp [intOf]; omega
        | false =>
          have HD := Lib.hid (hd.out.trans (eqEs_no hkx hky hp hq heq))
          rw [heq] at hneq
          clear hd hp hq heq hkx hky
          go_wp2_with fail
          go_quiet (fail)
          go_wp2_with fail
          go_ret
          exact ⟨ret_bool HD.out, below_drewN hB.out _⟩
      · obtain rfl : k = n := by omega
        have HD := Lib.hid (hd.out.trans (eqEs_end (by rw [HX.out.1]; exact hlk) (by rw [HY.out.1]; exact hlk)))
        clear hd
        go_wp2_with fail
        go_ret
        exact ⟨ret_bool HD.out, hB.out⟩
  · have hn3 : ((n : Int) != (m : Int)) = true := by simp; omega
    have HD : Hid (v = false) := hv.symm.trans (eqEs_len (by rw [h.1, h2.1]; exact hne))
    clear h h2 hv
    go_enter Try.func11, Try.ntmps11
    go_wp2_with fail
    go_ret
    exact ⟨ret_bool HD.out, Below.refl _ _⟩
end Go.Proofs.Ytbgdbcofdkjocaa.Outbox
