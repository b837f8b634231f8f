/-
  The contracts of EqualFunc over Same's function and of Same (both): any holds; what was there stays as it was.
-/
import Derived.Test.YtjclkiabgemfpaaGreatPdHoldsI
set_option linter.unusedVariables false
set_option maxRecDepth 4000
set_option maxRecDepth 4000
namespace Go.Proofs.YtjclkiabgemfpaaGreat.Holds
open Go.RowKit LinesP HoldsP
open Go.Proofs.YtjclkiabgemfpaaGreat.Lines (LsAt Sz SzM ret_bool ret_int below_keep below_drewN eqUp eqUp_iff Qw qw_skip qw_take qw_nil wp_region_qw)

def eqOne (x y : Hd) : Bool := (x.saga == y.saga) && ((x.til == y.til) && eqUp x.ls y.ls)
def eqH : List Hd → List Hd → Bool
  | [], [] => true
  | x :: a, y :: b => eqOne x y && eqH a b
  | _, _ => false
theorem eqOne_iff {x y : Hd} : eqOne x y = true ↔ x = y := by
  unfold eqOne
  rw [Bool.and_eq_true, Bool.and_eq_true, eqUp_iff, beq_iff_eq, beq_iff_eq]
  constructor
  · rintro ⟨h1, h2, h3⟩
    cases x; cases y
    simp only at h1 h2 h3
    subst h1 h2 h3
    rfl
  · rintro rfl
    exact ⟨rfl, rfl, rfl⟩
theorem eqH_iff : ∀ {a b : List Hd}, eqH a b = true ↔ a = b
  | [], [] => by simp [eqH]
  | [], y :: b => by simp [eqH]
  | x :: a, [] => by simp [eqH]
  | x :: a, y :: b => by rw [eqH, Bool.and_eq_true, eqH_iff, eqOne_iff, List.cons.injEq]
theorem eqH_len {a b : List Hd} (h : a.length ≠ b.length) : eqH a b = false := by
  cases he : eqH a b with
  | false => rfl
  | true => exact absurd (congrArg List.length (eqH_iff.1 he)) h
theorem eqH_done {a b : List Hd} {k : Nat} (h1 : ¬ k < a.length) (h2 : ¬ k < b.length) : eqH (a.drop k) (b.drop k) = true := by
  rw [List.drop_eq_nil_of_le (by omega), List.drop_eq_nil_of_le (by omega)]; rfl
theorem eqH_no {a b : List Hd} {k : Nat} {x y : Hd} (h1 : k < a.length) (h2 : k < b.length) (hx : a.getD k hd0 = x) (hy : b.getD k hd0 = y) (h : eqOne x y = false) : eqH (a.drop k) (b.drop k) = false := by
  rw [drop_at h1 hx, drop_at h2 hy, eqH, h]; rfl
theorem eqH_go {a b : List Hd} {k : Nat} {x y : Hd} (h1 : k < a.length) (h2 : k < b.length) (hx : a.getD k hd0 = x) (hy : b.getD k hd0 = y) (h : eqOne x y = true) : eqH (a.drop k) (b.drop k) = eqH (a.drop (k + 1)) (b.drop (k + 1)) := by
  rw [drop_at h1 hx, drop_at h2 hy, eqH, h]; rfl
theorem lsame_is (la lb : Option Addr) (n m lc ld : Nat) (x y : List Ln) (b : Bool) (hb : eqUp x y = b) (w : World) (h1 : LsAt w la n x) (h2 : LsAt w lb m y) :
    Calls Tryz.prog 80 #[.slice la n lc, .slice lb m ld] w fun e w' => e = .returned (.bool b) ∧ Below w.heap.size w w' := by
  have := Lines.same_any la lb n lc m ld x y w h1 h2
  rw [hb] at this
  exact this
theorem rlsame_is (la lb : Option Addr) (n m lc ld : Nat) (x y : List Ln) (b : Bool) (hb : eqUp x y = b) (w : World) (h1 : LsAt w la n x) (h2 : LsAt w lb m y) :
    Calls Tryz.prog 81 #[.slice la n lc, .slice lb m ld] w fun e w' => e = .returned (.bool b) ∧ Below w.heap.size w w' := by
  have := Lines.rsame_any la lb n lc m ld x y w h1 h2
  rw [hb] at this
  exact this
theorem two_boxes (w : World) (g t g' t' : Int) (la lb : Option Addr) (n m lc ld : Nat) {W : World} (hW : (w.alloc (.cells #[.int .i64 g, .slice la n lc, .int .i64 t] 69)).alloc (.cells #[.int .i64 g', .slice lb m ld, .int .i64 t'] 69) = W) :
    Below w.heap.size w W ∧ At3 W w.heap.size (.int .i64 g) (.slice la n lc) (.int .i64 t) ∧ At3 W (w.heap.size + 1) (.int .i64 g') (.slice lb m ld) (.int .i64 t') := by
  subst hW
  refine ⟨((Below.refl _ w).alloc (Nat.le_refl _) _).alloc (by rw [World.size_alloc]; omega) _, (at3_new w _ _ _).alloc _, ?_⟩
  have h := at3_new (w.alloc (.cells #[.int .i64 g, .slice la n lc, .int .i64 t] 69)) (.int .i64 g') (.slice lb m ld) (.int .i64 t')
  rw [World.size_alloc] at h
  exact h
set_option maxHeartbeats 1000000 in
theorem sameone_any (g t g' t' : Int) (la lb : Option Addr) (n m lc ld : Nat) (x y : List Ln) (b : Bool) (hb : eqOne ⟨g, x, t⟩ ⟨g', y, t'⟩ = b) (w : World) (h1 : LsAt w la n x) (h2 : LsAt w lb m y) :
    Calls Tryz.prog 79 #[.agg #[.int .i64 g, .slice la n lc, .int .i64 t], .agg #[.int .i64 g', .slice lb m ld, .int .i64 t']] w fun e w' => e = .returned (.bool b) ∧ Below w.heap.size w w' := by
  obtain ⟨W, hW⟩ : ∃ W, (w.alloc (.cells #[.int .i64 g, .slice la n lc, .int .i64 t] 69)).alloc (.cells #[.int .i64 g', .slice lb m ld, .int .i64 t'] 69) = W := ⟨_, rfl⟩
  obtain ⟨hB, hA, hA'⟩ := two_boxes w g t g' t' la lb n m lc ld hW
  obtain ⟨c0, c1, c2⟩ := cells3 hA
  obtain ⟨d0, d1, d2⟩ := cells3 hA'
  have HW := Lib.hid hW
  have HB := Lib.hid hB
  have HL1 := Lib.hid (h1.keep hB)
  have HL2 := Lib.hid (h2.keep hB)
  clear hA hA' hW hB h1 h2
  unfold eqOne at hb
  simp only at hb
  by_cases e1 : g = g'
  · by_cases e2 : t = t'
    · have hb2 : eqUp x y = b := by rw [← hb]; simp [e1, e2]
      have f1 : (g == g') = true := by simpa using e1
      have f2 : (t == t') = true := by simpa using e2
      have C := Lib.hid (lsame_is la lb n m lc ld x y b hb2 W HL1.out HL2.out)
      clear hb hb2 e1 e2
      go_enter Tryz.func79, Tryz.ntmps79
      go_wp2_with fail
      rw [show (w.alloc (.cells #[.int .i64 g, .slice la n lc, .int .i64 t] 69)).alloc (.cells #[.int .i64 g', .slice lb m ld, .int .i64 t'] 69) = W from HW.out]
      go_wp2_with fail
      refine C.out.mono ?_
      rintro e w1 ⟨rfl, hb⟩
      have HB1 := Lib.hid (below_keep HB.out hb HB.out.size)
      go_wp2_with fail
      go_ret
      exact ⟨rfl, HB1.out⟩
    · have hb2 : Hid (b = false) := by show b = false; rw [← hb]; simp [e2]
      have f1 : (g == g') = true := by simpa using e1
      have f2 : (t == t') = false := by simpa using e2
      clear hb e1 e2
      go_enter Tryz.func79, Tryz.ntmps79
      go_wp2_with fail
      rw [show (w.alloc (.cells #[.int .i64 g, .slice la n lc, .int .i64 t] 69)).alloc (.cells #[.int .i64 g', .slice lb m ld, .int .i64 t'] 69) = W from HW.out]
      go_ret
      exact ⟨ret_bool hb2.out, HB.out⟩
  · have hb2 : Hid (b = false) := by show b = false; rw [← hb]; simp [e1]
    have f1 : (g == g') = false := by simpa using e1
    clear hb e1
    go_enter Tryz.func79, Tryz.ntmps79
    go_wp2_with fail
    rw [show (w.alloc (.cells #[.int .i64 g, .slice la n lc, .int .i64 t] 69)).alloc (.cells #[.int .i64 g', .slice lb m ld, .int .i64 t'] 69) = W from HW.out]
    go_ret
    exact ⟨ret_bool hb2.out, HB.out⟩
set_option maxHeartbeats 2000000 in
theorem equal_any (a c : Option Addr) (la ca lc cc : Nat) (x y : List Hd) (w : World) (h1 : HsAt w a la x) (h2 : HsAt w c lc y) :
    Calls Tryz.prog 78 #[.slice a la ca, .slice c lc cc, .func (.func 79) #[] #[]] w fun e w' => e = .returned (.bool (eqH x y)) ∧ Below w.heap.size w w' := by
  obtain ⟨v, hv⟩ : ∃ v, eqH x y = v := ⟨_, rfl⟩
  rw [hv]
  have hla := h1.le
  have hlc := h2.le
  by_cases hne : la = lc
  · subst hne
    have HX := Lib.hid h1; have HY := Lib.hid h2; have HV := Lib.hid hv
    clear h1 h2 hv hlc
    go_enter Tryz.func78, Tryz.ntmps78
    go_wp2_with fail
    go_loopw [17] (fun i wr => ∃ k : Nat, k ≤ la ∧ i = .int .i64 (k : Int) ∧ Hid (v = eqH (x.drop k) (y.drop k)) ∧ Hid (Below w.heap.size w wr)) (fun i _ => la - (intOf i).toNat)
    case atStart => exact ⟨0, Nat.zero_le _, rfl, HV.out.symm, Below.refl _ w⟩
    case round =>
      obtain ⟨k, hk, rfl, hd, hB⟩ := hrel
      by_cases hlk : k < la
      · have hkx : k < x.length := by rw [HX.out.len]; exact hlk
        have hky : k < y.length := by rw [HY.out.len]; exact hlk
        obtain ⟨b1, o1, g, l1, c1, ls, t, rfl, g1, hp, hc1⟩ := HX.out.at hlk
        obtain ⟨b2, o2, g', l2, c2, ls', t', rfl, g2, hq, hc2⟩ := HY.out.at hlk
        obtain ⟨d1, d2, d3, dL⟩ := hc1 wr hB.out
        obtain ⟨e1, e2, e3, eL⟩ := hc2 wr hB.out
        obtain ⟨n, hn⟩ : ∃ n, ls.length = n := ⟨_, rfl⟩
        obtain ⟨m, hm⟩ : ∃ m, ls'.length = m := ⟨_, rfl⟩
        rw [hn] at d2 dL
        rw [hm] at e2 eL
        obtain ⟨m1, m2, m3, _⟩ := hc2 (wr.alloc (.cells #[.int .i64 g, .slice l1 n c1, .int .i64 t] 69)) (below_keep hB.out (box_below wr g l1 n c1 t) hB.out.size)
        rw [hm] at m2
        obtain ⟨W, hW⟩ : ∃ W, (wr.alloc (.cells #[.int .i64 g, .slice l1 n c1, .int .i64 t] 69)).alloc (.cells #[.int .i64 g', .slice l2 m c2, .int .i64 t'] 69) = W := ⟨_, rfl⟩
        obtain ⟨hB2, hA, hA'⟩ := two_boxes wr g t g' t' l1 l2 n m c1 c2 hW
        obtain ⟨p0, p1, p2⟩ := cells3 hA
        obtain ⟨q0, q1, q2⟩ := cells3 hA'
        have HW := Lib.hid hW
        have HB2 := Lib.hid (below_keep hB.out hB2 hB.out.size)
        have HC := Lib.hid (fun (b : Bool) hb => sameone_any g t g' t' l1 l2 n m c1 c2 ls ls' b hb W (dL.keep hB2) (eL.keep hB2))
        clear hc1 hc2 g1 g2 hA hA' hW hB2 dL eL hn hm
        cases heq : eqOne ⟨g, ls, t⟩ ⟨g', ls', t'⟩ with
        | true =>
          have HD := Lib.hid (hd.out.trans (eqH_go hkx hky hp hq heq))
          have C := Lib.hid (HC.out true heq)
          clear hd hp hq heq hkx hky hB HC
          go_wp2_with fail
          rw [show (wr.alloc (.cells #[.int .i64 g, .slice l1 n c1, .int .i64 t] 69)).alloc (.cells #[.int .i64 g', .slice l2 m c2, .int .i64 t'] 69) = W from HW.out]
          go_wp2_with fail
          refine C.out.mono ?_
          rintro e w1 ⟨rfl, hb⟩
          have HB3 := Lib.hid (below_keep HB2.out hb HB2.out.size)
          go_wp2_with fail
          go_roundw
          case rel => exact ⟨k + 1, by omega, by go_num, HD, HB3⟩
          case measure => simp [intOf]; omega
        | false =>
          have HD := Lib.hid (hd.out.trans (eqH_no hkx hky hp hq heq))
          have C := Lib.hid (HC.out false heq)
          clear hd hp hq heq hkx hky hB HC
          go_wp2_with fail
          rw [show (wr.alloc (.cells #[.int .i64 g, .slice l1 n c1, .int .i64 t] 69)).alloc (.cells #[.int .i64 g', .slice l2 m c2, .int .i64 t'] 69) = W from HW.out]
          go_wp2_with fail
          refine C.out.mono ?_
          rintro e w1 ⟨rfl, hb⟩
          have HB3 := Lib.hid (below_keep HB2.out hb HB2.out.size)
          go_wp2_with fail
          go_ret
          exact ⟨ret_bool HD.out, HB3.out⟩
      · obtain rfl : k = la := by omega
        have HD := Lib.hid (hd.out.trans (eqH_done (by rw [HX.out.len]; exact hlk) (by rw [HY.out.len]; exact hlk)))
        clear hd
        go_wp2_with fail
        go_ret
        exact ⟨ret_bool HD.out, hB.out⟩
  · have hx := h1.len
    have hy := h2.len
    have hn3 : ((la : Int) != (lc : Int)) = true := by simp; omega
    have HD := Lib.hid (hv.symm.trans (eqH_len (a := x) (b := y) (by rw [hx, hy]; exact hne)))
    clear h1 h2 hv hx hy
    go_enter Tryz.func78, Tryz.ntmps78
    go_wp2_with fail
    go_ret
    exact ⟨ret_bool HD.out, Below.refl _ _⟩
theorem same_any (a c : Option Addr) (la ca lc cc : Nat) (x y : List Hd) (w : World) (h1 : HsAt w a la x) (h2 : HsAt w c lc y) :
    Calls Tryz.prog 43 #[.slice a la ca, .slice c lc cc] w fun e w' => e = .returned (.bool (eqH x y)) ∧ Below w.heap.size w w' := by
  have C := Lib.hid (equal_any a c la ca lc cc x y w h1 h2)
  clear h1 h2
  go_enter Tryz.func43, Tryz.ntmps43
  go_wp2_with fail
  refine C.out.mono ?_
  rintro e w1 ⟨rfl, hb⟩
  go_wp2_with fail
  go_ret
  exact ⟨rfl, hb⟩
set_option maxHeartbeats 2000000 in
theorem rsame_any (a c : Option Addr) (la ca lc cc : Nat) (x y : List Hd) (w : World) (h1 : HsAt w a la x) (h2 : HsAt w c lc y) :
    Calls Tryz.prog 44 #[.slice a la ca, .slice c lc cc] w fun e w' => e = .returned (.bool (eqH x y)) ∧ Below w.heap.size w w' := by
  obtain ⟨v, hv⟩ : ∃ v, eqH x y = v := ⟨_, rfl⟩
  rw [hv]
  have hla := h1.le
  have hlc := h2.le
  by_cases hne : la = lc
  · subst hne
    have HX := Lib.hid h1; have HY := Lib.hid h2; have HV := Lib.hid hv
    clear h1 h2 hv hlc
    go_enter Tryz.func44, Tryz.ntmps44
    go_wp2_with fail
    go_loopw [5] (fun i wr => ∃ k : Nat, k ≤ la ∧ i = .int .i64 (k : Int) ∧ Hid (v = eqH (x.drop k) (y.drop k)) ∧ Hid (Below w.heap.size w wr)) (fun i _ => la - (intOf i).toNat)
    case atStart => exact ⟨0, Nat.zero_le _, rfl, HV.out.symm, Below.refl _ w⟩
    case round =>
      obtain ⟨k, hk, rfl, hd, hB⟩ := hrel
      by_cases hlk : k < la
      · have hkx : k < x.length := by rw [HX.out.len]; exact hlk
        have hky : k < y.length := by rw [HY.out.len]; exact hlk
        obtain ⟨b1, o1, g, l1, c1, ls, t, rfl, g1, hp, hc1⟩ := HX.out.at hlk
        obtain ⟨b2, o2, g', l2, c2, ls', t', rfl, g2, hq, hc2⟩ := HY.out.at hlk
        obtain ⟨d1, d2, d3, dL⟩ := hc1 wr hB.out
        obtain ⟨e1, e2, e3, eL⟩ := hc2 wr hB.out
        obtain ⟨n, hn⟩ : ∃ n, ls.length = n := ⟨_, rfl⟩
        obtain ⟨m, hm⟩ : ∃ m, ls'.length = m := ⟨_, rfl⟩
        rw [hn] at d2 dL
        rw [hm] at e2 eL
        have gx := Lib.hid (fun d os => cell_regrown d1 d os)
        have gn := Lib.hid (fun d os => cell_regrown d2 d os)
        have gt := Lib.hid (fun d os => cell_regrown d3 d os)
        have kx := Lib.hid (fun d os => cell_regrown e1 d os)
        have kn := Lib.hid (fun d os => cell_regrown e2 d os)
        have kt := Lib.hid (fun d os => cell_regrown e3 d os)
        have HL1 := Lib.hid dL
        have HL2 := Lib.hid eL
        have HB2 := Lib.hid hB.out
        clear hc1 hc2 g1 g2 dL eL hn hm
        by_cases n1 : g = g'
        · have f1 : (g != g') = false := by simpa using n1
          by_cases n2 : t = t'
          · have f2 : (t != t') = false := by simpa using n2
            cases heq : eqUp ls ls' with
            | true =>
              have HD := Lib.hid (hd.out.trans (eqH_go hkx hky hp hq (by unfold eqOne; simp [n1, n2, heq])))
              clear n1 n2
              have C1 := Lib.hid (fun d os => Calls.regrown_of (rlsame_is l1 l2 n m c1 c2 ls ls' true heq (Sort.grow (redrawn wr d) os) (HL1.out.keep (below_regrown wr d os)) (HL2.out.keep (below_regrown wr d os))))
              clear hd hp hq hkx hky hB d1 d2 d3 e1 e2 e3
              have a1 := gx.out; have a2 := gn.out; have a3 := gt.out; have k1 := kx.out; have k2 := kn.out; have k3 := kt.out
              go_wp2_with fail
              refine wp_region_qw (by kernel_rfl) (by kernel_rfl) ?_
              refine qw_take (by kernel_rfl) (fun K hK => ?_); go_simp; first | (refine hK _ ?_; clear hK K) | (apply Exists.intro; refine ⟨fun _ => ?_, hK _ ?_⟩; (first | with_reducible exact C1.out _ _); clear hK K)
              refine qw_take (by kernel_rfl) (fun K hK => ?_); go_simp; first | (refine hK _ ?_; clear hK K) | (apply Exists.intro; refine ⟨fun _ => ?_, hK _ ?_⟩; (first | with_reducible exact C1.out _ _); clear hK K)
              refine qw_take (by kernel_rfl) (fun K hK => ?_); go_simp; first | (refine hK _ ?_; clear hK K) | (apply Exists.intro; refine ⟨fun _ => ?_, hK _ ?_⟩; (first | with_reducible exact C1.out _ _); clear hK K)
              refine qw_take (by kernel_rfl) (fun K hK => ?_); go_simp; first | (refine hK _ ?_; clear hK K) | (apply Exists.intro; refine ⟨fun _ => ?_, hK _ ?_⟩; (first | with_reducible exact C1.out _ _); clear hK K)
              refine qw_take (by kernel_rfl) (fun K hK => ?_); go_simp; first | (refine hK _ ?_; clear hK K) | (apply Exists.intro; refine ⟨fun _ => ?_, hK _ ?_⟩; (first | with_reducible exact C1.out _ _); clear hK K)
              refine qw_take (by kernel_rfl) (fun K hK => ?_); go_simp; first | (refine hK _ ?_; clear hK K) | (apply Exists.intro; refine ⟨fun _ => ?_, hK _ ?_⟩; (first | with_reducible exact C1.out _ _); clear hK K)
              refine qw_take (by kernel_rfl) (fun K hK => ?_); go_simp; first | (refine hK _ ?_; clear hK K) | (apply Exists.intro; refine ⟨fun _ => ?_, hK _ ?_⟩; (first | with_reducible exact C1.out _ _); clear hK K)
              refine qw_take (by kernel_rfl) (fun K hK => ?_); go_simp; first | (refine hK _ ?_; clear hK K) | (apply Exists.intro; refine ⟨fun _ => ?_, hK _ ?_⟩; (first | with_reducible exact C1.out _ _); clear hK K)
              refine qw_take (by kernel_rfl) (fun K hK => ?_); go_simp; first | (refine hK _ ?_; clear hK K) | (apply Exists.intro; refine ⟨fun _ => ?_, hK _ ?_⟩; (first | with_reducible exact C1.out _ _); clear hK K)
              refine qw_take (by kernel_rfl) (fun K hK => ?_); go_simp; first | (refine hK _ ?_; clear hK K) | (apply Exists.intro; refine ⟨fun _ => ?_, hK _ ?_⟩; (first | with_reducible exact C1.out _ _); clear hK K)
              refine qw_take (by kernel_rfl) (fun K hK => ?_); go_simp; first | (refine hK _ ?_; clear hK K) | (apply Exists.intro; refine ⟨fun _ => ?_, hK _ ?_⟩; (first | with_reducible exact C1.out _ _); clear hK K)
              refine qw_take (by kernel_rfl) (fun K hK => ?_); go_simp; first | (refine hK _ ?_; clear hK K) | (apply Exists.intro; refine ⟨fun _ => ?_, hK _ ?_⟩; (first | with_reducible exact C1.out _ _); clear hK K)
              refine qw_take (by kernel_rfl) (fun K hK => ?_); go_simp; first | (refine hK _ ?_; clear hK K) | (apply Exists.intro; refine ⟨fun _ => ?_, hK _ ?_⟩; (first | with_reducible exact C1.out _ _); clear hK K)
              refine qw_take (by kernel_rfl) (fun K hK => ?_); go_simp; first | (refine hK _ ?_; clear hK K) | (apply Exists.intro; refine ⟨fun _ => ?_, hK _ ?_⟩; (first | with_reducible exact C1.out _ _); clear hK K)
              refine qw_take (by kernel_rfl) (fun K hK => ?_); go_simp; first | (refine hK _ ?_; clear hK K) | (apply Exists.intro; refine ⟨fun _ => ?_, hK _ ?_⟩; (first | with_reducible exact C1.out _ _); clear hK K)
              refine qw_take (by kernel_rfl) (fun K hK => ?_); go_simp; first | (refine hK _ ?_; clear hK K) | (apply Exists.intro; refine ⟨fun _ => ?_, hK _ ?_⟩; (first | with_reducible exact C1.out _ _); clear hK K)
              refine qw_take (by kernel_rfl) (fun K hK => ?_); go_simp; first | (refine hK _ ?_; clear hK K) | (apply Exists.intro; refine ⟨fun _ => ?_, hK _ ?_⟩; (first | with_reducible exact C1.out _ _); clear hK K)
              refine qw_take (by kernel_rfl) (fun K hK => ?_); go_simp; first | (refine hK _ ?_; clear hK K) | (apply Exists.intro; refine ⟨fun _ => ?_, hK _ ?_⟩; (first | with_reducible exact C1.out _ _); clear hK K)
              refine qw_take (by kernel_rfl) (fun K hK => ?_); go_simp; first | (refine hK _ ?_; clear hK K) | (apply Exists.intro; refine ⟨fun _ => ?_, hK _ ?_⟩; (first | with_reducible exact C1.out _ _); clear hK K)
              refine qw_take (by kernel_rfl) (fun K hK => ?_); go_simp; first | (refine hK _ ?_; clear hK K) | (apply Exists.intro; refine ⟨fun _ => ?_, hK _ ?_⟩; (first | with_reducible exact C1.out _ _); clear hK K)
              refine qw_take (by kernel_rfl) (fun K hK => ?_); go_simp; first | (refine hK _ ?_; clear hK K) | (apply Exists.intro; refine ⟨fun _ => ?_, hK _ ?_⟩; (first | with_reducible exact C1.out _ _); clear hK K)
              refine qw_take (by kernel_rfl) (fun K hK => ?_); go_simp; first | (refine hK _ ?_; clear hK K) | (apply Exists.intro; refine ⟨fun _ => ?_, hK _ ?_⟩; (first | with_reducible exact C1.out _ _); clear hK K)
              refine qw_take (by kernel_rfl) (fun K hK => ?_); go_simp; first | (refine hK _ ?_; clear hK K) | (apply Exists.intro; refine ⟨fun _ => ?_, hK _ ?_⟩; (first | with_reducible exact C1.out _ _); clear hK K)
              refine qw_take (by kernel_rfl) (fun K hK => ?_); go_simp; first | (refine hK _ ?_; clear hK K) | (apply Exists.intro; refine ⟨fun _ => ?_, hK _ ?_⟩; (first | with_reducible exact C1.out _ _); clear hK K)
              refine qw_take (by kernel_rfl) (fun K hK => ?_); go_simp; first | (refine hK _ ?_; clear hK K) | (apply Exists.intro; refine ⟨fun _ => ?_, hK _ ?_⟩; (first | with_reducible exact C1.out _ _); clear hK K)
              refine qw_take (by kernel_rfl) (fun K hK => ?_); go_simp; first | (refine hK _ ?_; clear hK K) | (apply Exists.intro; refine ⟨fun _ => ?_, hK _ ?_⟩; (first | with_reducible exact C1.out _ _); clear hK K)
              refine qw_take (by kernel_rfl) (fun K hK => ?_); go_simp; first | (refine hK _ ?_; clear hK K) | (apply Exists.intro; refine ⟨fun _ => ?_, hK _ ?_⟩; (first | with_reducible exact C1.out _ _); clear hK K)
              refine qw_take (by kernel_rfl) (fun K hK => ?_); go_simp; first | (refine hK _ ?_; clear hK K) | (apply Exists.intro; refine ⟨fun _ => ?_, hK _ ?_⟩; (first | with_reducible exact C1.out _ _); clear hK K)
              refine qw_take (by kernel_rfl) (fun K hK => ?_); go_simp; first | (refine hK _ ?_; clear hK K) | (apply Exists.intro; refine ⟨fun _ => ?_, hK _ ?_⟩; (first | with_reducible exact C1.out _ _); clear hK K)
              refine qw_take (by kernel_rfl) (fun K hK => ?_); go_simp; first | (refine hK _ ?_; clear hK K) | (apply Exists.intro; refine ⟨fun _ => ?_, hK _ ?_⟩; (first | with_reducible exact C1.out _ _); clear hK K)
              refine qw_take (by kernel_rfl) (fun K hK => ?_); go_simp; first | (refine hK _ ?_; clear hK K) | (apply Exists.intro; refine ⟨fun _ => ?_, hK _ ?_⟩; (first | with_reducible exact C1.out _ _); clear hK K)
              refine qw_take (by kernel_rfl) (fun K hK => ?_); go_simp; first | (refine hK _ ?_; clear hK K) | (apply Exists.intro; refine ⟨fun _ => ?_, hK _ ?_⟩; (first | with_reducible exact C1.out _ _); clear hK K)
              refine qw_take (by kernel_rfl) (fun K hK => ?_); go_simp; first | (refine hK _ ?_; clear hK K) | (apply Exists.intro; refine ⟨fun _ => ?_, hK _ ?_⟩; (first | with_reducible exact C1.out _ _); clear hK K)
              refine qw_take (by kernel_rfl) (fun K hK => ?_); go_simp; first | (refine hK _ ?_; clear hK K) | (apply Exists.intro; refine ⟨fun _ => ?_, hK _ ?_⟩; (first | with_reducible exact C1.out _ _); clear hK K)
              refine qw_take (by kernel_rfl) (fun K hK => ?_); go_simp; first | (refine hK _ ?_; clear hK K) | (apply Exists.intro; refine ⟨fun _ => ?_, hK _ ?_⟩; (first | with_reducible exact C1.out _ _); clear hK K)
              refine qw_take (by kernel_rfl) (fun K hK => ?_); go_simp; first | (refine hK _ ?_; clear hK K) | (apply Exists.intro; refine ⟨fun _ => ?_, hK _ ?_⟩; (first | with_reducible exact C1.out _ _); clear hK K)
              refine qw_take (by kernel_rfl) (fun K hK => ?_); go_simp; first | (refine hK _ ?_; clear hK K) | (apply Exists.intro; refine ⟨fun _ => ?_, hK _ ?_⟩; (first | with_reducible exact C1.out _ _); clear hK K)
              refine qw_take (by kernel_rfl) (fun K hK => ?_); go_simp; first | (refine hK _ ?_; clear hK K) | (apply Exists.intro; refine ⟨fun _ => ?_, hK _ ?_⟩; (first | with_reducible exact C1.out _ _); clear hK K)
              refine qw_nil ?_
              intro _ hw'
              obtain ⟨⟨dq, osq⟩, hw''⟩ := hw'
              subst hw''
              have HB3 := Lib.hid (HB2.out.trans ((below_regrown wr dq osq).mono HB2.out.size))
              clear a1 a2 a3 k1 k2 k3 C1
              generalize Sort.grow (redrawn wr dq) osq = w3 at *
              go_wp2_with fail
              go_roundw
              case rel => exact ⟨k + 1, by omega, by go_num, HD, HB3⟩
              case measure => simp [intOf]; omega
            | false =>
              have HD := Lib.hid (hd.out.trans (eqH_no hkx hky hp hq (by unfold eqOne; simp [heq])))
              clear n1 n2
              have C1 := Lib.hid (fun d os => Calls.regrown_of (rlsame_is l1 l2 n m c1 c2 ls ls' false heq (Sort.grow (redrawn wr d) os) (HL1.out.keep (below_regrown wr d os)) (HL2.out.keep (below_regrown wr d os))))
              clear hd hp hq hkx hky hB d1 d2 d3 e1 e2 e3
              have a1 := gx.out; have a2 := gn.out; have a3 := gt.out; have k1 := kx.out; have k2 := kn.out; have k3 := kt.out
              go_wp2_with fail
              refine wp_region_qw (by kernel_rfl) (by kernel_rfl) ?_
              refine qw_take (by kernel_rfl) (fun K hK => ?_); go_simp; first | (refine hK _ ?_; clear hK K) | (apply Exists.intro; refine ⟨fun _ => ?_, hK _ ?_⟩; (first | with_reducible exact C1.out _ _); clear hK K)
              refine qw_take (by kernel_rfl) (fun K hK => ?_); go_simp; first | (refine hK _ ?_; clear hK K) | (apply Exists.intro; refine ⟨fun _ => ?_, hK _ ?_⟩; (first | with_reducible exact C1.out _ _); clear hK K)
              refine qw_take (by kernel_rfl) (fun K hK => ?_); go_simp; first | (refine hK _ ?_; clear hK K) | (apply Exists.intro; refine ⟨fun _ => ?_, hK _ ?_⟩; (first | with_reducible exact C1.out _ _); clear hK K)
              refine qw_take (by kernel_rfl) (fun K hK => ?_); go_simp; first | (refine hK _ ?_; clear hK K) | (apply Exists.intro; refine ⟨fun _ => ?_, hK _ ?_⟩; (first | with_reducible exact C1.out _ _); clear hK K)
              refine qw_take (by kernel_rfl) (fun K hK => ?_); go_simp; first | (refine hK _ ?_; clear hK K) | (apply Exists.intro; refine ⟨fun _ => ?_, hK _ ?_⟩; (first | with_reducible exact C1.out _ _); clear hK K)
              refine qw_take (by kernel_rfl) (fun K hK => ?_); go_simp; first | (refine hK _ ?_; clear hK K) | (apply Exists.intro; refine ⟨fun _ => ?_, hK _ ?_⟩; (first | with_reducible exact C1.out _ _); clear hK K)
              refine qw_take (by kernel_rfl) (fun K hK => ?_); go_simp; first | (refine hK _ ?_; clear hK K) | (apply Exists.intro; refine ⟨fun _ => ?_, hK _ ?_⟩; (first | with_reducible exact C1.out _ _); clear hK K)
              refine qw_take (by kernel_rfl) (fun K hK => ?_); go_simp; first | (refine hK _ ?_; clear hK K) | (apply Exists.intro; refine ⟨fun _ => ?_, hK _ ?_⟩; (first | with_reducible exact C1.out _ _); clear hK K)
              refine qw_take (by kernel_rfl) (fun K hK => ?_); go_simp; first | (refine hK _ ?_; clear hK K) | (apply Exists.intro; refine ⟨fun _ => ?_, hK _ ?_⟩; (first | with_reducible exact C1.out _ _); clear hK K)
              refine qw_take (by kernel_rfl) (fun K hK => ?_); go_simp; first | (refine hK _ ?_; clear hK K) | (apply Exists.intro; refine ⟨fun _ => ?_, hK _ ?_⟩; (first | with_reducible exact C1.out _ _); clear hK K)
              refine qw_take (by kernel_rfl) (fun K hK => ?_); go_simp; first | (refine hK _ ?_; clear hK K) | (apply Exists.intro; refine ⟨fun _ => ?_, hK _ ?_⟩; (first | with_reducible exact C1.out _ _); clear hK K)
              refine qw_take (by kernel_rfl) (fun K hK => ?_); go_simp; first | (refine hK _ ?_; clear hK K) | (apply Exists.intro; refine ⟨fun _ => ?_, hK _ ?_⟩; (first | with_reducible exact C1.out _ _); clear hK K)
              refine qw_take (by kernel_rfl) (fun K hK => ?_); go_simp; first | (refine hK _ ?_; clear hK K) | (apply Exists.intro; refine ⟨fun _ => ?_, hK _ ?_⟩; (first | with_reducible exact C1.out _ _); clear hK K)
              refine qw_take (by kernel_rfl) (fun K hK => ?_); go_simp; first | (refine hK _ ?_; clear hK K) | (apply Exists.intro; refine ⟨fun _ => ?_, hK _ ?_⟩; (first | with_reducible exact C1.out _ _); clear hK K)
              refine qw_take (by kernel_rfl) (fun K hK => ?_); go_simp; first | (refine hK _ ?_; clear hK K) | (apply Exists.intro; refine ⟨fun _ => ?_, hK _ ?_⟩; (first | with_reducible exact C1.out _ _); clear hK K)
              refine qw_take (by kernel_rfl) (fun K hK => ?_); go_simp; first | (refine hK _ ?_; clear hK K) | (apply Exists.intro; refine ⟨fun _ => ?_, hK _ ?_⟩; (first | with_reducible exact C1.out _ _); clear hK K)
              refine qw_take (by kernel_rfl) (fun K hK => ?_); go_simp; first | (refine hK _ ?_; clear hK K) | (apply Exists.intro; refine ⟨fun _ => ?_, hK _ ?_⟩; (first | with_reducible exact C1.out _ _); clear hK K)
              refine qw_take (by kernel_rfl) (fun K hK => ?_); go_simp; first | (refine hK _ ?_; clear hK K) | (apply Exists.intro; refine ⟨fun _ => ?_, hK _ ?_⟩; (first | with_reducible exact C1.out _ _); clear hK K)
              refine qw_take (by kernel_rfl) (fun K hK => ?_); go_simp; first | (refine hK _ ?_; clear hK K) | (apply Exists.intro; refine ⟨fun _ => ?_, hK _ ?_⟩; (first | with_reducible exact C1.out _ _); clear hK K)
              refine qw_take (by kernel_rfl) (fun K hK => ?_); go_simp; first | (refine hK _ ?_; clear hK K) | (apply Exists.intro; refine ⟨fun _ => ?_, hK _ ?_⟩; (first | with_reducible exact C1.out _ _); clear hK K)
              refine qw_take (by kernel_rfl) (fun K hK => ?_); go_simp; first | (refine hK _ ?_; clear hK K) | (apply Exists.intro; refine ⟨fun _ => ?_, hK _ ?_⟩; (first | with_reducible exact C1.out _ _); clear hK K)
              refine qw_take (by kernel_rfl) (fun K hK => ?_); go_simp; first | (refine hK _ ?_; clear hK K) | (apply Exists.intro; refine ⟨fun _ => ?_, hK _ ?_⟩; (first | with_reducible exact C1.out _ _); clear hK K)
              refine qw_take (by kernel_rfl) (fun K hK => ?_); go_simp; first | (refine hK _ ?_; clear hK K) | (apply Exists.intro; refine ⟨fun _ => ?_, hK _ ?_⟩; (first | with_reducible exact C1.out _ _); clear hK K)
              refine qw_take (by kernel_rfl) (fun K hK => ?_); go_simp; first | (refine hK _ ?_; clear hK K) | (apply Exists.intro; refine ⟨fun _ => ?_, hK _ ?_⟩; (first | with_reducible exact C1.out _ _); clear hK K)
              refine qw_take (by kernel_rfl) (fun K hK => ?_); go_simp; first | (refine hK _ ?_; clear hK K) | (apply Exists.intro; refine ⟨fun _ => ?_, hK _ ?_⟩; (first | with_reducible exact C1.out _ _); clear hK K)
              refine qw_take (by kernel_rfl) (fun K hK => ?_); go_simp; first | (refine hK _ ?_; clear hK K) | (apply Exists.intro; refine ⟨fun _ => ?_, hK _ ?_⟩; (first | with_reducible exact C1.out _ _); clear hK K)
              refine qw_take (by kernel_rfl) (fun K hK => ?_); go_simp; first | (refine hK _ ?_; clear hK K) | (apply Exists.intro; refine ⟨fun _ => ?_, hK _ ?_⟩; (first | with_reducible exact C1.out _ _); clear hK K)
              refine qw_take (by kernel_rfl) (fun K hK => ?_); go_simp; first | (refine hK _ ?_; clear hK K) | (apply Exists.intro; refine ⟨fun _ => ?_, hK _ ?_⟩; (first | with_reducible exact C1.out _ _); clear hK K)
              refine qw_take (by kernel_rfl) (fun K hK => ?_); go_simp; first | (refine hK _ ?_; clear hK K) | (apply Exists.intro; refine ⟨fun _ => ?_, hK _ ?_⟩; (first | with_reducible exact C1.out _ _); clear hK K)
              refine qw_take (by kernel_rfl) (fun K hK => ?_); go_simp; first | (refine hK _ ?_; clear hK K) | (apply Exists.intro; refine ⟨fun _ => ?_, hK _ ?_⟩; (first | with_reducible exact C1.out _ _); clear hK K)
              refine qw_take (by kernel_rfl) (fun K hK => ?_); go_simp; first | (refine hK _ ?_; clear hK K) | (apply Exists.intro; refine ⟨fun _ => ?_, hK _ ?_⟩; (first | with_reducible exact C1.out _ _); clear hK K)
              refine qw_take (by kernel_rfl) (fun K hK => ?_); go_simp; first | (refine hK _ ?_; clear hK K) | (apply Exists.intro; refine ⟨fun _ => ?_, hK _ ?_⟩; (first | with_reducible exact C1.out _ _); clear hK K)
              refine qw_take (by kernel_rfl) (fun K hK => ?_); go_simp; first | (refine hK _ ?_; clear hK K) | (apply Exists.intro; refine ⟨fun _ => ?_, hK _ ?_⟩; (first | with_reducible exact C1.out _ _); clear hK K)
              refine qw_take (by kernel_rfl) (fun K hK => ?_); go_simp; first | (refine hK _ ?_; clear hK K) | (apply Exists.intro; refine ⟨fun _ => ?_, hK _ ?_⟩; (first | with_reducible exact C1.out _ _); clear hK K)
              refine qw_take (by kernel_rfl) (fun K hK => ?_); go_simp; first | (refine hK _ ?_; clear hK K) | (apply Exists.intro; refine ⟨fun _ => ?_, hK _ ?_⟩; (first | with_reducible exact C1.out _ _); clear hK K)
              refine qw_take (by kernel_rfl) (fun K hK => ?_); go_simp; first | (refine hK _ ?_; clear hK K) | (apply Exists.intro; refine ⟨fun _ => ?_, hK _ ?_⟩; (first | with_reducible exact C1.out _ _); clear hK K)
              refine qw_take (by kernel_rfl) (fun K hK => ?_); go_simp; first | (refine hK _ ?_; clear hK K) | (apply Exists.intro; refine ⟨fun _ => ?_, hK _ ?_⟩; (first | with_reducible exact C1.out _ _); clear hK K)
              refine qw_take (by kernel_rfl) (fun K hK => ?_); go_simp; first | (refine hK _ ?_; clear hK K) | (apply Exists.intro; refine ⟨fun _ => ?_, hK _ ?_⟩; (first | with_reducible exact C1.out _ _); clear hK K)
              refine qw_nil ?_
              intro _ hw'
              obtain ⟨⟨dq, osq⟩, hw''⟩ := hw'
              subst hw''
              have HB3 := Lib.hid (HB2.out.trans ((below_regrown wr dq osq).mono HB2.out.size))
              clear a1 a2 a3 k1 k2 k3 C1
              generalize Sort.grow (redrawn wr dq) osq = w3 at *
              go_wp2_with fail
              go_ret
              exact ⟨ret_bool HD.out, HB3.out⟩
          · have f2 : (t != t') = true := by simpa using n2
            have HD := Lib.hid (hd.out.trans (eqH_no hkx hky hp hq (by unfold eqOne; simp [n2])))
            clear n1 n2
            clear hd hp hq hkx hky hB d1 d2 d3 e1 e2 e3
            have a1 := gx.out; have a2 := gn.out; have a3 := gt.out; have k1 := kx.out; have k2 := kn.out; have k3 := kt.out
            go_wp2_with fail
            refine wp_region_qw (by kernel_rfl) (by kernel_rfl) ?_
            refine qw_take (by kernel_rfl) (fun K hK => ?_); go_simp; first | (refine hK _ ?_; clear hK K) | (apply Exists.intro; refine ⟨fun _ => ?_, hK _ ?_⟩; (first | fail); clear hK K)
            refine qw_take (by kernel_rfl) (fun K hK => ?_); go_simp; first | (refine hK _ ?_; clear hK K) | (apply Exists.intro; refine ⟨fun _ => ?_, hK _ ?_⟩; (first | fail); clear hK K)
            refine qw_take (by kernel_rfl) (fun K hK => ?_); go_simp; first | (refine hK _ ?_; clear hK K) | (apply Exists.intro; refine ⟨fun _ => ?_, hK _ ?_⟩; (first | fail); clear hK K)
            refine qw_take (by kernel_rfl) (fun K hK => ?_); go_simp; first | (refine hK _ ?_; clear hK K) | (apply Exists.intro; refine ⟨fun _ => ?_, hK _ ?_⟩; (first | fail); clear hK K)
            refine qw_take (by kernel_rfl) (fun K hK => ?_); go_simp; first | (refine hK _ ?_; clear hK K) | (apply Exists.intro; refine ⟨fun _ => ?_, hK _ ?_⟩; (first | fail); clear hK K)
            refine qw_take (by kernel_rfl) (fun K hK => ?_); go_simp; first | (refine hK _ ?_; clear hK K) | (apply Exists.intro; refine ⟨fun _ => ?_, hK _ ?_⟩; (first | fail); clear hK K)
            refine qw_take (by kernel_rfl) (fun K hK => ?_); go_simp; first | (refine hK _ ?_; clear hK K) | (apply Exists.intro; refine ⟨fun _ => ?_, hK _ ?_⟩; (first | fail); clear hK K)
            refine qw_take (by kernel_rfl) (fun K hK => ?_); go_simp; first | (refine hK _ ?_; clear hK K) | (apply Exists.intro; refine ⟨fun _ => ?_, hK _ ?_⟩; (first | fail); clear hK K)
            refine qw_take (by kernel_rfl) (fun K hK => ?_); go_simp; first | (refine hK _ ?_; clear hK K) | (apply Exists.intro; refine ⟨fun _ => ?_, hK _ ?_⟩; (first | fail); clear hK K)
            refine qw_take (by kernel_rfl) (fun K hK => ?_); go_simp; first | (refine hK _ ?_; clear hK K) | (apply Exists.intro; refine ⟨fun _ => ?_, hK _ ?_⟩; (first | fail); clear hK K)
            refine qw_take (by kernel_rfl) (fun K hK => ?_); go_simp; first | (refine hK _ ?_; clear hK K) | (apply Exists.intro; refine ⟨fun _ => ?_, hK _ ?_⟩; (first | fail); clear hK K)
            refine qw_take (by kernel_rfl) (fun K hK => ?_); go_simp; first | (refine hK _ ?_; clear hK K) | (apply Exists.intro; refine ⟨fun _ => ?_, hK _ ?_⟩; (first | fail); clear hK K)
            refine qw_take (by kernel_rfl) (fun K hK => ?_); go_simp; first | (refine hK _ ?_; clear hK K) | (apply Exists.intro; refine ⟨fun _ => ?_, hK _ ?_⟩; (first | fail); clear hK K)
            refine qw_take (by kernel_rfl) (fun K hK => ?_); go_simp; first | (refine hK _ ?_; clear hK K) | (apply Exists.intro; refine ⟨fun _ => ?_, hK _ ?_⟩; (first | fail); clear hK K)
            refine qw_take (by kernel_rfl) (fun K hK => ?_); go_simp; first | (refine hK _ ?_; clear hK K) | (apply Exists.intro; refine ⟨fun _ => ?_, hK _ ?_⟩; (first | fail); clear hK K)
            refine qw_take (by kernel_rfl) (fun K hK => ?_); go_simp; first | (refine hK _ ?_; clear hK K) | (apply Exists.intro; refine ⟨fun _ => ?_, hK _ ?_⟩; (first | fail); clear hK K)
            refine qw_take (by kernel_rfl) (fun K hK => ?_); go_simp; first | (refine hK _ ?_; clear hK K) | (apply Exists.intro; refine ⟨fun _ => ?_, hK _ ?_⟩; (first | fail); clear hK K)
            refine qw_take (by kernel_rfl) (fun K hK => ?_); go_simp; first | (refine hK _ ?_; clear hK K) | (apply Exists.intro; refine ⟨fun _ => ?_, hK _ ?_⟩; (first | fail); clear hK K)
            refine qw_take (by kernel_rfl) (fun K hK => ?_); go_simp; first | (refine hK _ ?_; clear hK K) | (apply Exists.intro; refine ⟨fun _ => ?_, hK _ ?_⟩; (first | fail); clear hK K)
            refine qw_take (by kernel_rfl) (fun K hK => ?_); go_simp; first | (refine hK _ ?_; clear hK K) | (apply Exists.intro; refine ⟨fun _ => ?_, hK _ ?_⟩; (first | fail); clear hK K)
            refine qw_take (by kernel_rfl) (fun K hK => ?_); go_simp; first | (refine hK _ ?_; clear hK K) | (apply Exists.intro; refine ⟨fun _ => ?_, hK _ ?_⟩; (first | fail); clear hK K)
            refine qw_take (by kernel_rfl) (fun K hK => ?_); go_simp; first | (refine hK _ ?_; clear hK K) | (apply Exists.intro; refine ⟨fun _ => ?_, hK _ ?_⟩; (first | fail); clear hK K)
            refine qw_take (by kernel_rfl) (fun K hK => ?_); go_simp; first | (refine hK _ ?_; clear hK K) | (apply Exists.intro; refine ⟨fun _ => ?_, hK _ ?_⟩; (first | fail); clear hK K)
            refine qw_take (by kernel_rfl) (fun K hK => ?_); go_simp; first | (refine hK _ ?_; clear hK K) | (apply Exists.intro; refine ⟨fun _ => ?_, hK _ ?_⟩; (first | fail); clear hK K)
            refine qw_take (by kernel_rfl) (fun K hK => ?_); go_simp; first | (refine hK _ ?_; clear hK K) | (apply Exists.intro; refine ⟨fun _ => ?_, hK _ ?_⟩; (first | fail); clear hK K)
            refine qw_skip (by kernel_rfl) ?_; simp only [Act.put, List.setIfInBounds_toArray, List.set_cons_succ, List.set_cons_zero]
            refine qw_skip (by kernel_rfl) ?_; simp only [Act.put, List.setIfInBounds_toArray, List.set_cons_succ, List.set_cons_zero]
            refine qw_skip (by kernel_rfl) ?_; simp only [Act.put, List.setIfInBounds_toArray, List.set_cons_succ, List.set_cons_zero]
            refine qw_skip (by kernel_rfl) ?_; simp only [Act.put, List.setIfInBounds_toArray, List.set_cons_succ, List.set_cons_zero]
            refine qw_skip (by kernel_rfl) ?_; simp only [Act.put, List.setIfInBounds_toArray, List.set_cons_succ, List.set_cons_zero]
            refine qw_skip (by kernel_rfl) ?_; simp only [Act.put, List.setIfInBounds_toArray, List.set_cons_succ, List.set_cons_zero]
            refine qw_skip (by kernel_rfl) ?_; simp only [Act.put, List.setIfInBounds_toArray, List.set_cons_succ, List.set_cons_zero]
            refine qw_skip (by kernel_rfl) ?_; simp only [Act.put, List.setIfInBounds_toArray, List.set_cons_succ, List.set_cons_zero]
            refine qw_skip (by kernel_rfl) ?_; simp only [Act.put, List.setIfInBounds_toArray, List.set_cons_succ, List.set_cons_zero]
            refine qw_skip (by kernel_rfl) ?_; simp only [Act.put, List.setIfInBounds_toArray, List.set_cons_succ, List.set_cons_zero]
            refine qw_skip (by kernel_rfl) ?_; simp only [Act.put, List.setIfInBounds_toArray, List.set_cons_succ, List.set_cons_zero]
            refine qw_skip (by kernel_rfl) ?_; simp only [Act.put, List.setIfInBounds_toArray, List.set_cons_succ, List.set_cons_zero]
            refine qw_take (by kernel_rfl) (fun K hK => ?_); go_simp; first | (refine hK _ ?_; clear hK K) | (apply Exists.intro; refine ⟨fun _ => ?_, hK _ ?_⟩; (first | fail); clear hK K)
            refine qw_nil ?_
            intro _ hw'
            obtain ⟨⟨dq, osq⟩, hw''⟩ := hw'
            subst hw''
            have HB3 := Lib.hid (HB2.out.trans ((below_regrown wr dq osq).mono HB2.out.size))
            clear a1 a2 a3 k1 k2 k3 
            generalize Sort.grow (redrawn wr dq) osq = w3 at *
            go_wp2_with fail
            go_ret
            exact ⟨ret_bool HD.out, HB3.out⟩
        · have f1 : (g != g') = true := by simpa using n1
          have HD := Lib.hid (hd.out.trans (eqH_no hkx hky hp hq (by unfold eqOne; simp [n1])))
          clear n1
          clear hd hp hq hkx hky hB d1 d2 d3 e1 e2 e3
          have a1 := gx.out; have a2 := gn.out; have a3 := gt.out; have k1 := kx.out; have k2 := kn.out; have k3 := kt.out
          go_wp2_with fail
          refine wp_region_qw (by kernel_rfl) (by kernel_rfl) ?_
          refine qw_take (by kernel_rfl) (fun K hK => ?_); go_simp; first | (refine hK _ ?_; clear hK K) | (apply Exists.intro; refine ⟨fun _ => ?_, hK _ ?_⟩; (first | fail); clear hK K)
          refine qw_take (by kernel_rfl) (fun K hK => ?_); go_simp; first | (refine hK _ ?_; clear hK K) | (apply Exists.intro; refine ⟨fun _ => ?_, hK _ ?_⟩; (first | fail); clear hK K)
          refine qw_take (by kernel_rfl) (fun K hK => ?_); go_simp; first | (refine hK _ ?_; clear hK K) | (apply Exists.intro; refine ⟨fun _ => ?_, hK _ ?_⟩; (first | fail); clear hK K)
          refine qw_take (by kernel_rfl) (fun K hK => ?_); go_simp; first | (refine hK _ ?_; clear hK K) | (apply Exists.intro; refine ⟨fun _ => ?_, hK _ ?_⟩; (first | fail); clear hK K)
          refine qw_take (by kernel_rfl) (fun K hK => ?_); go_simp; first | (refine hK _ ?_; clear hK K) | (apply Exists.intro; refine ⟨fun _ => ?_, hK _ ?_⟩; (first | fail); clear hK K)
          refine qw_take (by kernel_rfl) (fun K hK => ?_); go_simp; first | (refine hK _ ?_; clear hK K) | (apply Exists.intro; refine ⟨fun _ => ?_, hK _ ?_⟩; (first | fail); clear hK K)
          refine qw_take (by kernel_rfl) (fun K hK => ?_); go_simp; first | (refine hK _ ?_; clear hK K) | (apply Exists.intro; refine ⟨fun _ => ?_, hK _ ?_⟩; (first | fail); clear hK K)
          refine qw_take (by kernel_rfl) (fun K hK => ?_); go_simp; first | (refine hK _ ?_; clear hK K) | (apply Exists.intro; refine ⟨fun _ => ?_, hK _ ?_⟩; (first | fail); clear hK K)
          refine qw_take (by kernel_rfl) (fun K hK => ?_); go_simp; first | (refine hK _ ?_; clear hK K) | (apply Exists.intro; refine ⟨fun _ => ?_, hK _ ?_⟩; (first | fail); clear hK K)
          refine qw_take (by kernel_rfl) (fun K hK => ?_); go_simp; first | (refine hK _ ?_; clear hK K) | (apply Exists.intro; refine ⟨fun _ => ?_, hK _ ?_⟩; (first | fail); clear hK K)
          refine qw_take (by kernel_rfl) (fun K hK => ?_); go_simp; first | (refine hK _ ?_; clear hK K) | (apply Exists.intro; refine ⟨fun _ => ?_, hK _ ?_⟩; (first | fail); clear hK K)
          refine qw_take (by kernel_rfl) (fun K hK => ?_); go_simp; first | (refine hK _ ?_; clear hK K) | (apply Exists.intro; refine ⟨fun _ => ?_, hK _ ?_⟩; (first | fail); clear hK K)
          refine qw_skip (by kernel_rfl) ?_; simp only [Act.put, List.setIfInBounds_toArray, List.set_cons_succ, List.set_cons_zero]
          refine qw_skip (by kernel_rfl) ?_; simp only [Act.put, List.setIfInBounds_toArray, List.set_cons_succ, List.set_cons_zero]
          refine qw_skip (by kernel_rfl) ?_; simp only [Act.put, List.setIfInBounds_toArray, List.set_cons_succ, List.set_cons_zero]
          refine qw_skip (by kernel_rfl) ?_; simp only [Act.put, List.setIfInBounds_toArray, List.set_cons_succ, List.set_cons_zero]
          refine qw_skip (by kernel_rfl) ?_; simp only [Act.put, List.setIfInBounds_toArray, List.set_cons_succ, List.set_cons_zero]
          refine qw_skip (by kernel_rfl) ?_; simp only [Act.put, List.setIfInBounds_toArray, List.set_cons_succ, List.set_cons_zero]
          refine qw_skip (by kernel_rfl) ?_; simp only [Act.put, List.setIfInBounds_toArray, List.set_cons_succ, List.set_cons_zero]
          refine qw_skip (by kernel_rfl) ?_; simp only [Act.put, List.setIfInBounds_toArray, List.set_cons_succ, List.set_cons_zero]
          refine qw_skip (by kernel_rfl) ?_; simp only [Act.put, List.setIfInBounds_toArray, List.set_cons_succ, List.set_cons_zero]
          refine qw_skip (by kernel_rfl) ?_; simp only [Act.put, List.setIfInBounds_toArray, List.set_cons_succ, List.set_cons_zero]
          refine qw_skip (by kernel_rfl) ?_; simp only [Act.put, List.setIfInBounds_toArray, List.set_cons_succ, List.set_cons_zero]
          refine qw_take (by kernel_rfl) (fun K hK => ?_); go_simp; first | (refine hK _ ?_; clear hK K) | (apply Exists.intro; refine ⟨fun _ => ?_, hK _ ?_⟩; (first | fail); clear hK K)
          refine qw_take (by kernel_rfl) (fun K hK => ?_); go_simp; first | (refine hK _ ?_; clear hK K) | (apply Exists.intro; refine ⟨fun _ => ?_, hK _ ?_⟩; (first | fail); clear hK K)
          refine qw_skip (by kernel_rfl) ?_; simp only [Act.put, List.setIfInBounds_toArray, List.set_cons_succ, List.set_cons_zero]
          refine qw_skip (by kernel_rfl) ?_; simp only [Act.put, List.setIfInBounds_toArray, List.set_cons_succ, List.set_cons_zero]
          refine qw_skip (by kernel_rfl) ?_; simp only [Act.put, List.setIfInBounds_toArray, List.set_cons_succ, List.set_cons_zero]
          refine qw_skip (by kernel_rfl) ?_; simp only [Act.put, List.setIfInBounds_toArray, List.set_cons_succ, List.set_cons_zero]
          refine qw_skip (by kernel_rfl) ?_; simp only [Act.put, List.setIfInBounds_toArray, List.set_cons_succ, List.set_cons_zero]
          refine qw_skip (by kernel_rfl) ?_; simp only [Act.put, List.setIfInBounds_toArray, List.set_cons_succ, List.set_cons_zero]
          refine qw_skip (by kernel_rfl) ?_; simp only [Act.put, List.setIfInBounds_toArray, List.set_cons_succ, List.set_cons_zero]
          refine qw_skip (by kernel_rfl) ?_; simp only [Act.put, List.setIfInBounds_toArray, List.set_cons_succ, List.set_cons_zero]
          refine qw_skip (by kernel_rfl) ?_; simp only [Act.put, List.setIfInBounds_toArray, List.set_cons_succ, List.set_cons_zero]
          refine qw_skip (by kernel_rfl) ?_; simp only [Act.put, List.setIfInBounds_toArray, List.set_cons_succ, List.set_cons_zero]
          refine qw_skip (by kernel_rfl) ?_; simp only [Act.put, List.setIfInBounds_toArray, List.set_cons_succ, List.set_cons_zero]
          refine qw_skip (by kernel_rfl) ?_; simp only [Act.put, List.setIfInBounds_toArray, List.set_cons_succ, List.set_cons_zero]
          refine qw_take (by kernel_rfl) (fun K hK => ?_); go_simp; first | (refine hK _ ?_; clear hK K) | (apply Exists.intro; refine ⟨fun _ => ?_, hK _ ?_⟩; (first | fail); clear hK K)
          refine qw_nil ?_
          intro _ hw'
          obtain ⟨⟨dq, osq⟩, hw''⟩ := hw'
          subst hw''
          have HB3 := Lib.hid (HB2.out.trans ((below_regrown wr dq osq).mono HB2.out.size))
          clear a1 a2 a3 k1 k2 k3 
          generalize Sort.grow (redrawn wr dq) osq = w3 at *
          go_wp2_with fail
          go_ret
          exact ⟨ret_bool HD.out, HB3.out⟩
      · obtain rfl : k = la := by omega
        have HD := Lib.hid (hd.out.trans (eqH_done (by rw [HX.out.len]; exact hlk) (by rw [HY.out.len]; exact hlk)))
        clear hd
        go_wp2_with fail
        go_ret
        exact ⟨ret_bool HD.out, hB.out⟩
  · have hx := h1.len
    have hy := h2.len
    have hn3 : ((la : Int) != (lc : Int)) = true := by simp; omega
    have HD := Lib.hid (hv.symm.trans (eqH_len (a := x) (b := y) (by rw [hx, hy]; exact hne)))
    clear h1 h2 hv hx hy
    go_enter Tryz.func44, Tryz.ntmps44
    go_wp2_with fail
    go_ret
    exact ⟨ret_bool HD.out, Below.refl _ _⟩
end Go.Proofs.YtjclkiabgemfpaaGreat.Holds
