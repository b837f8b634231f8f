/-
  The contract of the document's Fit; rows of numbers that a call appends to.
-/
import Derived.Test.YtigiaiddnbpcmaaSuperE
import Derived.Laws.AppendOwnNone
import Derived.OwnWalk
set_option linter.unusedVariables false
set_option maxRecDepth 4000
namespace Go.Proofs.Ytigiaiddnbpcmaa
open Go.RowKit SuperP
open Wire (IntsAt getD_mem take_snoc)

theorem info_int : (Try.prog.info? 3).map (fun i => (i.zero, i.size, i.bytes)) = some (some (.int .i64 0), 1, 8) := by kernel_rfl
def cellsI (l : List Int) : List Value := l.map fun c => Value.int .i64 c
theorem cellsI_len (l : List Int) : (cellsI l).length = l.length := by simp [cellsI]
theorem cellsI_app (l r : List Int) : cellsI (l ++ r) = cellsI l ++ cellsI r := by simp [cellsI]
theorem cellsI_one (l : List Int) : ∀ u ∈ cellsI l, u.oneCell' = true := by
  intro u hu
  obtain ⟨c, _, rfl⟩ := List.mem_map.1 hu
  rfl
/-- A row of a call's own is told of its numbers, and has room for them. -/
theorem ints_of_owns {w : World} {base n cap : Nat} {a : Option Addr} {xs : List Int} (h : w.ownsRow base 3 1 (.slice a n cap) n (cellsI xs)) (hn : n = xs.length) (hr : ∀ x ∈ xs, -9223372036854775808 ≤ x ∧ x ≤ 9223372036854775807) : IntsAt w a n xs ∧ n ≤ cap ∧ (a = none → cap = 0) := by
  subst hn
  have hlt := h.lt
  rcases h.2 with ⟨h0, h1⟩ | ⟨g, cap2, cur, hv, hb, hg, hc, _⟩
  · simp only [Value.slice.injEq] at h0
    obtain ⟨rfl, h2, rfl⟩ := h0
    exact ⟨⟨rfl, hr, .inl h1⟩, by omega, fun _ => rfl⟩
  · simp only [Value.slice.injEq] at hv
    obtain ⟨rfl, _, rfl⟩ := hv
    refine ⟨⟨rfl, hr, ?_⟩, hc, fun e => by cases e⟩
    by_cases h0 : xs.length = 0
    · exact .inl h0
    refine .inr ⟨g, 0, rfl, (hlt g rfl).2, fun i hi => ?_⟩
    have := h.cells (g := g) rfl i (.int .i64 (xs.getD i 0)) (by simp [cellsI, List.getD, hi])
    rw [Wire.add_at] at this
    exact this
theorem ints_cells {w : World} {b off len : Nat} {xs : List Int} (h : IntsAt w (some ⟨b, off, none⟩) len xs) : ∀ i u, (cellsI xs)[i]? = some u → w.cell? ((⟨b, off, none⟩ : Addr).add i) = some u := by
  intro i u hu
  rw [Wire.add_at]
  have hi : i < len := by
    have := (List.getElem?_eq_some_iff.1 hu).1
    rw [cellsI_len, h.1] at this
    exact this
  rcases h.2.2 with h0 | ⟨b2, o2, e, _, hc⟩
  · omega
  simp only [Option.some.injEq, Addr.mk.injEq, and_true] at e
  obtain ⟨rfl, rfl⟩ := e
  rw [hc i hi, ← hu]
  have hx := h.1
  simp [cellsI, List.getD, hx, hi]
/-- A slice of numbers more, behind a row of the call's own. -/
theorem append_ints {ops : Array Oper} {rest : List Oper} {o : Oper} {a : Act} {Q : Exit → Act → World → Prop} (hgd : o.guard = none) (s x : Operand)
    (ho : o.op = .call { callee := .builtin .append, args := #[s, x], argTypes := #[22, 22] }) (base : Nat) (w : World)
    (v : Value) (n : Nat) (xs ys : List Int) (a1 : Option Addr) (l1 c1 : Nat) (hs : a.eval s = v) (hown : w.ownsRow base 3 1 v n (cellsI xs)) (hx : a.eval x = .slice a1 l1 c1)
    (hI : IntsAt w a1 l1 ys) (hnil : a1 = none → c1 = 0)
    (hn : n + l1 ≤ 4000000) (hbase : base ≤ w.heap.size)
    (h : ∀ v' w', w'.ownsRow base 3 1 v' (n + l1) (cellsI (xs ++ ys)) → w.grownBy w' v.ownBlock → wpList Try.prog ops Q rest (a.put o.dst v') w') :
    wpList Try.prog ops Q (o :: rest) a w := by
  obtain ⟨i0, hi, hz0, hz1, hz2⟩ := info_parts info_int
  cases a1 with
  | none =>
    have hl0 : l1 = 0 := by
      rcases hI.2.2 with h0 | ⟨b, o, e, _⟩
      · exact h0
      · cases e
    obtain rfl := hnil rfl
    subst hl0
    have hy : ys = [] := List.eq_nil_of_length_eq_zero hI.1
    subst hy
    refine wpList_append_own_none hgd s x 22 ho base 3 i0 1 Try.underlying22 hi v n (cellsI xs) hs hown hx (h v w ?_ ⟨rfl, rfl, rfl, Nat.le_refl _, fun _ _ _ => rfl⟩)
    rw [List.append_nil]
    exact hown
  | some ad =>
    have hcl : ∀ j u, (cellsI ys)[j]? = some u → w.cell? (ad.add j) = some u := by
      intro j u hu
      rcases hI.2.2 with h0 | ⟨b2, o2, e, _, hc⟩
      · have h1 := hI.1
        rw [h0] at h1
        rw [List.eq_nil_of_length_eq_zero h1] at hu
        cases hu
      · cases e
        exact ints_cells hI j u hu
    refine wpList_append_own _ hgd s x 22 ho base 3 i0 (.int .i64 0) 1 8 Try.underlying22 hi hz0 hz1 hz2 rfl (by decide) v n (cellsI xs) hs hown ad l1 c1 (cellsI ys) hx (by rw [cellsI_len, hI.1]; omega) hcl (cellsI_one ys) ?_ ?_ hbase fun v' w' h1 h2 _ => h v' w' (by rw [cellsI_app]; exact h1) h2
    · unfold maxLen; omega
    · omega

set_option maxHeartbeats 8000000 in
theorem rsupfit_any (x : Sup) (a1 a2 : Option Addr) (l1 c1 l2 c2 : Nat) (w : World) (h : SupAt w x a1 l1 a2 l2) (hl1 : l1 ≤ 1000000) (hl2 : l2 ≤ 1000000) (hn1 : a1 = none → c1 = 0) (hn2 : a2 = none → c2 = 0) :
    Calls Try.prog 15 #[supV x (.slice a1 l1 c1) (.slice a2 l2 c2)] w fun e w' => e = .returned (.bool (decide (Fit x))) ∧ Below w.heap.size w w' := by
  have hb : Below w.heap.size w (w.alloc (.cells #[.int .i64 x.gen, .int .i64 x.base, .int .i64 x.size, .int .i64 x.cg, .slice a1 l1 c1, .slice a2 l2 c2] 24)) := (Below.refl _ w).alloc (Nat.le_refl _) _
  have HB := Lib.hid hb
  clear hb
  unfold supV
  by_cases m1 : 63 < l1
  · rw [show decide (Fit x) = false from decide_eq_false fun e => by have := (fit_parts e).2.2.2.1; rw [h.chk.1] at this; omega]
    have t1 : decide ((63 : Int) < (l1 : Int)) = true := by simp; omega
    clear h m1 hn1 hn2
    go_enter Try.func15, Try.ntmps15
    go_wp2_with fail
    go_ret
    exact ⟨rfl, HB.out⟩
  have t1 : decide ((63 : Int) < (l1 : Int)) = false := by simp; omega
  by_cases m2 : 63 < l2
  · rw [show decide (Fit x) = false from decide_eq_false fun e => by have := (fit_parts e).2.2.2.2; rw [h.log.1] at this; omega]
    have t2 : decide ((63 : Int) < (l2 : Int)) = true := by simp; omega
    clear h m1 m2 hn1 hn2
    go_enter Try.func15, Try.ntmps15
    go_wp2_with fail
    go_ret
    exact ⟨rfl, HB.out⟩
  have t2 : decide ((63 : Int) < (l2 : Int)) = false := by simp; omega
  obtain ⟨R, hR⟩ : ∃ R, decide (Fit x) = R := ⟨_, rfl⟩
  rw [hR]
  have H := Lib.hid h; have HR := Lib.hid hR; have HN1 := Lib.hid hn1; have HN2 := Lib.hid hn2
  have HM1 := Lib.hid m1; have HM2 := Lib.hid m2
  clear h hR hn1 hn2 m1 m2
  go_enter Try.func15, Try.ntmps15
  go_wp2_with (at_builtin; refine append_ints rfl (.tmp 15) (.tmp 17) rfl (w.heap.size + 1) _ (.slice none 0 0) 0 [] x.chk a1 l1 c1 rfl (World.ownsRow_nil _ _ _ _) rfl (H.out.chk.keep HB.out) HN1.out (by omega) (by simp) ?_)
  intro v2 w2 hown2 hgrow2
  have hb2 := HB.out.grown hgrow2 HB.out.size (fun k hk => by cases hk)
  have k2 := (hgrow2.block w.heap.size (by simp) (fun e => by cases e)).trans (heap_alloc_new w _)
  obtain ⟨p0, p1, p2, p3, p4, p5⟩ := six_cells k2
  have hs2 : w.heap.size + 1 ≤ w2.heap.size := by have := hgrow2.size; rw [World.size_alloc] at this; exact this
  have HOWN2 := Lib.hid hown2; have HB2 := Lib.hid hb2; have K2 := Lib.hid k2
  clear hown2 hb2 k2 hgrow2
  go_wp2_with (at_builtin; refine append_ints rfl (.tmp 19) (.tmp 21) rfl (w.heap.size + 1) _ v2 l1 x.chk x.log a2 l2 c2 rfl (by exact HOWN2.out) rfl (by exact H.out.log.keep HB2.out) HN2.out (by omega) (by exact hs2) ?_)
  intro v3 w3 hown3 hgrow3
  have hlt2 := HOWN2.out.lt
  have hb3 := HB2.out.grown hgrow3 (by omega) (fun k hk => by have := (hlt2 k hk).1; omega)
  have k3 := (hgrow3.block w.heap.size (by omega) (fun e => by have := (hlt2 _ e.symm).1; omega)).trans K2.out
  have HB3 := Lib.hid hb3; have K3 := Lib.hid k3
  clear p0 p1 p2 p3 p4 p5
  obtain ⟨p0, p1, p2, p3, p4, p5⟩ := six_cells k3
  obtain ⟨a3, c3, rfl⟩ := Wire.owns_slice' hown3
  have hx1 := H.out.chk
  have hx2 := H.out.log
  obtain ⟨hI3, hc3, _⟩ := ints_of_owns hown3 (by rw [List.length_append, hx1.1, hx2.1]) (fun n hn => by
    rcases List.mem_append.1 hn with g | g
    · exact hx1.2.1 n g
    · exact hx2.2.1 n g)
  have hA := apart_any a3 (l1 + l2) c3 (x.chk ++ x.log) w3 hI3 (by have := HM1.out; have := HM2.out; omega) hc3
  have HA := Lib.hid hA
  clear hb3 k3 hown3 hgrow3 hlt2 hI3 hc3 hA HOWN2 hs2 K2 hx1 hx2
  have e1 := H.out.chk.1
  have e2 := H.out.log.1
  have q0 : l1 = 0 ∨ ¬ l1 = 0 := by omega
  by_cases g0 : 1 ≤ x.gen
  rotate_left
  · have hRf : R = false := by rw [← HR.out]; exact decide_eq_false fun e => g0 (by have := fit_parts e; omega)
    have u0 : decide (1 ≤ x.gen) = false := decide_eq_false g0
    clear g0
    have HRF := Lib.hid hRf
    clear hRf
    go_wp2_with fail
    all_goals
      go_ret
      exact ⟨by rw [HRF.out]; rfl, HB3.out⟩
  by_cases g1 : x.gen ≤ 1099511627776
  rotate_left
  · have hRf : R = false := by rw [← HR.out]; exact decide_eq_false fun e => g1 (by have := fit_parts e; omega)
    have u0 : decide (1 ≤ x.gen) = true := decide_eq_true g0
    have u1 : decide (x.gen ≤ 1099511627776) = false := decide_eq_false g1
    clear g0 g1
    have HRF := Lib.hid hRf
    clear hRf
    go_wp2_with fail
    all_goals
      go_ret
      exact ⟨by rw [HRF.out]; rfl, HB3.out⟩
  by_cases g2 : 0 ≤ x.base
  rotate_left
  · have hRf : R = false := by rw [← HR.out]; exact decide_eq_false fun e => g2 (by have := fit_parts e; omega)
    have u0 : decide (1 ≤ x.gen) = true := decide_eq_true g0
    have u1 : decide (x.gen ≤ 1099511627776) = true := decide_eq_true g1
    have u2 : decide (0 ≤ x.base) = false := decide_eq_false g2
    clear g0 g1 g2
    have HRF := Lib.hid hRf
    clear hRf
    go_wp2_with fail
    all_goals
      go_ret
      exact ⟨by rw [HRF.out]; rfl, HB3.out⟩
  by_cases g3 : x.base ≤ 1099511627776
  rotate_left
  · have hRf : R = false := by rw [← HR.out]; exact decide_eq_false fun e => g3 (by have := fit_parts e; omega)
    have u0 : decide (1 ≤ x.gen) = true := decide_eq_true g0
    have u1 : decide (x.gen ≤ 1099511627776) = true := decide_eq_true g1
    have u2 : decide (0 ≤ x.base) = true := decide_eq_true g2
    have u3 : decide (x.base ≤ 1099511627776) = false := decide_eq_false g3
    clear g0 g1 g2 g3
    have HRF := Lib.hid hRf
    clear hRf
    go_wp2_with fail
    all_goals
      go_ret
      exact ⟨by rw [HRF.out]; rfl, HB3.out⟩
  by_cases g4 : 0 ≤ x.cg
  rotate_left
  · have hRf : R = false := by rw [← HR.out]; exact decide_eq_false fun e => g4 (by have := fit_parts e; omega)
    have u0 : decide (1 ≤ x.gen) = true := decide_eq_true g0
    have u1 : decide (x.gen ≤ 1099511627776) = true := decide_eq_true g1
    have u2 : decide (0 ≤ x.base) = true := decide_eq_true g2
    have u3 : decide (x.base ≤ 1099511627776) = true := decide_eq_true g3
    have u4 : decide (0 ≤ x.cg) = false := decide_eq_false g4
    clear g0 g1 g2 g3 g4
    have HRF := Lib.hid hRf
    clear hRf
    go_wp2_with fail
    all_goals
      go_ret
      exact ⟨by rw [HRF.out]; rfl, HB3.out⟩
  by_cases g5 : x.cg ≤ x.gen
  rotate_left
  · have hRf : R = false := by rw [← HR.out]; exact decide_eq_false fun e => g5 (by have := fit_parts e; omega)
    have u0 : decide (1 ≤ x.gen) = true := decide_eq_true g0
    have u1 : decide (x.gen ≤ 1099511627776) = true := decide_eq_true g1
    have u2 : decide (0 ≤ x.base) = true := decide_eq_true g2
    have u3 : decide (x.base ≤ 1099511627776) = true := decide_eq_true g3
    have u4 : decide (0 ≤ x.cg) = true := decide_eq_true g4
    have u5 : decide (x.cg ≤ x.gen) = false := decide_eq_false g5
    clear g0 g1 g2 g3 g4 g5
    have HRF := Lib.hid hRf
    clear hRf
    go_wp2_with fail
    all_goals
      go_ret
      exact ⟨by rw [HRF.out]; rfl, HB3.out⟩
  have u0 : decide (1 ≤ x.gen) = true := decide_eq_true g0
  have u1 : decide (x.gen ≤ 1099511627776) = true := decide_eq_true g1
  have u2 : decide (0 ≤ x.base) = true := decide_eq_true g2
  have u3 : decide (x.base ≤ 1099511627776) = true := decide_eq_true g3
  have u4 : decide (0 ≤ x.cg) = true := decide_eq_true g4
  have u5 : decide (x.cg ≤ x.gen) = true := decide_eq_true g5
  have hg : 1 ≤ x.gen ∧ x.gen ≤ 1099511627776 ∧ 0 ≤ x.base ∧ x.base ≤ 1099511627776 ∧ 0 ≤ x.cg ∧ x.cg ≤ x.gen := ⟨g0, g1, g2, g3, g4, g5⟩
  have HG := Lib.hid hg
  clear hg g0 g1 g2 g3 g4 g5
  by_cases m0 : l2 = 0
  · have hRf : R = false := by rw [← HR.out]; exact decide_eq_false fun e => by have := (fit_parts e).2.1; omega
    clear e1 e2
    subst m0
    have HRF := Lib.hid hRf
    clear hRf
    go_wp2_with fail
    all_goals
      go_ret
      exact ⟨by rw [HRF.out]; rfl, HB3.out⟩
  have u6 : decide ((0 : Int) < (l2 : Int)) = true := by simp; omega
  clear e1
  go_wp2_with fail
  refine HA.out.mono ?_
  rintro e w4 ⟨rfl, hb4⟩
  have hB := Wire.below_keep HB3.out hb4 HB3.out.size
  have k4 := (hb4.block w.heap.size (by have := HB3.out.size; have := (Array.getElem?_eq_some_iff.1 K3.out).1; omega)).trans K3.out
  clear p0 p1 p2 p3 p4 p5
  obtain ⟨p0, p1, p2, p3, p4, p5⟩ := six_cells k4
  have HB4 := Lib.hid hB
  clear hb4 hB k4 HA
  by_cases hs : Segs (x.chk ++ x.log)
  rotate_left
  · have hRf : R = false := by rw [← HR.out]; exact decide_eq_false fun e => hs (fit_parts e).2.2.1
    rw [decide_eq_false hs]
    clear hs m0 e2
    have HRF := Lib.hid hRf
    clear hRf
    go_wp2_with fail
    all_goals
      go_ret
      exact ⟨by rw [HRF.out]; rfl, HB4.out⟩
  rw [decide_eq_true hs]
  have hRc : R = chkB x := by rw [← HR.out]; exact fit_chk HG.out (by omega) hs
  have hcc := hRc
  unfold chkB at hcc
  rw [H.out.chk.1] at hcc
  have HRC := Lib.hid hcc
  have hcg : 0 ≤ x.cg := HG.out.2.2.2.2.1
  clear hs e2 hRc hcc m0
  rcases q0 with q0 | q0
  · have hcc := HRC.out
    rw [if_pos q0] at hcc
    subst q0
    by_cases h1 : x.cg = 0
    · have v1 : (x.cg == 0) = true := by simpa using h1
      rw [decide_eq_true h1, Bool.true_and] at hcc
      by_cases h2 : x.size = 0
      · have v2 : (x.size == 0) = true := by simpa using h2
        rw [decide_eq_true h2] at hcc
        have HCC := Lib.hid hcc
        clear h1 h2 hcc hcg
        go_wp2_with fail
        go_ret
        exact ⟨by rw [HCC.out]; rfl, HB4.out⟩
      · have v2 : (x.size == 0) = false := by simpa using h2
        rw [decide_eq_false h2] at hcc
        have HCC := Lib.hid hcc
        clear h1 h2 hcc hcg
        go_wp2_with fail
        go_ret
        exact ⟨by rw [HCC.out]; rfl, HB4.out⟩
    · have v1 : (x.cg == 0) = false := by simpa using h1
      rw [decide_eq_false h1, Bool.false_and] at hcc
      have HCC := Lib.hid hcc
      clear h1 hcc hcg
      go_wp2_with fail
      go_ret
      exact ⟨by rw [HCC.out]; rfl, HB4.out⟩
  · have hcc := HRC.out
    rw [if_neg q0] at hcc
    have v0 : ((l1 : Int) == 0) = false := by simp; omega
    by_cases h1 : 0 < x.cg
    · have v1 : decide (0 < x.cg) = true := decide_eq_true h1
      rw [v1, Bool.true_and] at hcc
      by_cases h2 : 0 ≤ x.size
      · have v2 : decide (0 ≤ x.size) = true := decide_eq_true h2
        rw [v2, Bool.true_and] at hcc
        have hm : (l1 : Int) * 8 * 104 = (l1 : Int) * 832 := by omega
        have hR2 : decide (x.size ≤ (l1 : Int) * 8 * 104) = R := by rw [hm]; exact hcc.symm
        have hl63 : (l1 : Int) ≤ 63 := by have := HM1.out; omega
        clear h1 h2 hcc hm hcg
        go_wp2_with fail
        go_ret
        exact ⟨rfl, HB4.out⟩
      · have v2 : decide (0 ≤ x.size) = false := decide_eq_false h2
        rw [v2, Bool.false_and] at hcc
        have HCC := Lib.hid hcc
        clear h1 h2 hcc hcg
        go_wp2_with fail
        go_ret
        exact ⟨by rw [HCC.out]; rfl, HB4.out⟩
    · have v1 : decide (0 < x.cg) = false := decide_eq_false h1
      rw [v1, Bool.false_and] at hcc
      have HCC := Lib.hid hcc
      clear h1 hcc hcg
      go_wp2_with fail
      go_ret
      exact ⟨by rw [HCC.out]; rfl, HB4.out⟩
end Go.Proofs.Ytigiaiddnbpcmaa
