/-
  The contracts of Find, First and Drop (both), and of the document's Same: any timers; what was there stays as it was.
-/
import Derived.Test.YtcfjnpepbjaacaaTimerA
set_option linter.unusedVariables false
set_option linter.unusedSimpArgs false
set_option maxRecDepth 4000
namespace Go.Proofs.Ytcfjnpepbjaacaa.Timer
open Go.RowKit TimerP
open Go.Proofs.Ytcfjnpepbjaacaa.Kt

def getT (o : Option Tm) : Tm := o.getD tm0
theorem findT_hit {g q : Int} {l : List Tm} {k : Nat} {x : Tm} (hk : k < l.length) (hx : l.getD k tm0 = x) (h : keyB g q x = true) : findT g q (l.drop k) = some x := by
  rw [Rw.drop_cons hk hx, findT, if_pos h]
theorem findT_miss {g q : Int} {l : List Tm} {k : Nat} {x : Tm} (hk : k < l.length) (hx : l.getD k tm0 = x) (h : keyB g q x = false) : findT g q (l.drop k) = findT g q (l.drop (k + 1)) := by
  rw [Rw.drop_cons hk hx, findT, if_neg (by rw [h]; simp)]
theorem findT_end {g q : Int} {l : List Tm} {k : Nat} (hk : ¬ k < l.length) : findT g q (l.drop k) = none := by
  rw [List.drop_eq_nil_of_le (by omega)]; rfl
theorem dropT_yes {g q : Int} {l : List Tm} {k : Nat} {x : Tm} (hk : k < l.length) (hx : l.getD k tm0 = x) (h : leftB g q x = true) : dropT g q (l.take (k + 1)) = dropT g q (l.take k) ++ [x] := by
  rw [Rw.take_snoc hk hx]; simp [dropT, List.filter_append, h]
theorem dropT_no {g q : Int} {l : List Tm} {k : Nat} {x : Tm} (hk : k < l.length) (hx : l.getD k tm0 = x) (h : leftB g q x = false) : dropT g q (l.take (k + 1)) = dropT g q (l.take k) := by
  rw [Rw.take_snoc hk hx]; simp [dropT, List.filter_append, h]
theorem eqTs_len {a b : List Tm} (h : a.length ≠ b.length) : eqTs a b = false := by
  cases he : eqTs a b with
  | false => rfl
  | true => exact absurd (congrArg List.length (eqTs_iff.1 he)) h
theorem eqTs_end {a b : List Tm} {k : Nat} (h1 : ¬ k < a.length) (h2 : ¬ k < b.length) : eqTs (a.drop k) (b.drop k) = true := by
  rw [List.drop_eq_nil_of_le (by omega), List.drop_eq_nil_of_le (by omega)]; rfl
theorem eqTs_no {a b : List Tm} {k : Nat} {x y : Tm} (h1 : k < a.length) (h2 : k < b.length) (hx : a.getD k tm0 = x) (hy : b.getD k tm0 = y) (h : eqT x y = false) : eqTs (a.drop k) (b.drop k) = false := by
  rw [Rw.drop_cons h1 hx, Rw.drop_cons h2 hy, eqTs, h]; rfl
theorem eqTs_go {a b : List Tm} {k : Nat} {x y : Tm} (h1 : k < a.length) (h2 : k < b.length) (hx : a.getD k tm0 = x) (hy : b.getD k tm0 = y) (h : eqT x y = true) : eqTs (a.drop k) (b.drop k) = eqTs (a.drop (k + 1)) (b.drop (k + 1)) := by
  rw [Rw.drop_cons h1 hx, Rw.drop_cons h2 hy, eqTs, h]; rfl
abbrev tv (x0 x1 x2 : Int) : Value := .agg #[.int .i64 x0, .int .i64 x1, .int .i64 x2]
/-- The model's comparison of two timers. -/
theorem eqin_tm (x0 x1 x2 y0 y1 y2 : Int) (w : World) : (Op.equalIn 10000 25 (tv x0 x1 x2) (tv y0 y1 y2)).run Try.prog w = .ok (eqT ⟨x0, x1, x2⟩ ⟨y0, y1, y2⟩) w := by
  have hS : Try.prog.underlying 25 = some (.struct (Try.prog.fieldsOf 25)) := by kernel_rfl
  have hp : Try.prog.stoodInHeld 25 = false := by kernel_rfl
  have u3 := Try.underlying3
  have a3 := Try.isAgg3
  have z3 := Try.sizeOf3
  rw [show (10000 : Nat) = 9999 + 1 from rfl, run_equalIn_agg w 9999 25 _ _ hS hp]
  simp only [Program.fieldsOf, Try.underlying25]
  go_simp
  unfold eqT
  by_cases h0 : x0 = y0
  · by_cases h1 : x1 = y1
    · by_cases h2 : x2 = y2 <;> simp [h0, h1, h2]
    · simp [h0, h1]
  · simp [h0]
theorem neq_tm (x0 x1 x2 y0 y1 y2 : Int) (w : World) : (binOp .neq 25 (tv x0 x1 x2) (tv y0 y1 y2)).run Try.prog w = .ok (.bool (!(eqT ⟨x0, x1, x2⟩ ⟨y0, y1, y2⟩))) w := by
  rw [run_neq_struct, eqin_tm]; rfl
theorem eql_tm (x0 x1 x2 y0 y1 y2 : Int) (w : World) : (binOp .eql 25 (tv x0 x1 x2) (tv y0 y1 y2)).run Try.prog w = .ok (.bool (eqT ⟨x0, x1, x2⟩ ⟨y0, y1, y2⟩)) w := by
  rw [run_eql_struct, eqin_tm]; rfl
theorem guard_tm (p : BinOp) (x y : Operand) (x0 x1 x2 y0 y1 y2 : Int) (w : World) : (eqGuard p 25 x y (tv x0 x1 x2) (tv y0 y1 y2)).run Try.prog w = .ok () w := run_eqGuard_agg w _ _ _ _ _ _ (by kernel_rfl)
/-- A row of timers of the call's own. -/
def RowP (w : World) (l : List Tm) (e : Ending) (w' : World) : Prop := ∃ v, e = .returned v ∧ w'.ownsRow w.heap.size 25 3 v l.length (Rw.cells tmS l) ∧ Below w.heap.size w w'

set_option maxHeartbeats 1000000 in
theorem find_any (a : Option Addr) (len cap : Nat) (l : List Tm) (g q : Int) (o : Option Tm) (ho : findT g q l = o) (w : World) (h : TmAt w a len l) :
    Calls Try.prog 7 #[.slice a len cap, .int .i64 g, .int .i64 q] w fun e w' => e = .returned (.tuple #[tmV (getT o), .bool o.isSome]) ∧ Below w.heap.size w w' := by
  have hl := h.2.1
  have HX := Lib.hid h
  have HV : Hid (findT g q (l.drop 0) = o) := ho
  have HB0 := Lib.hid (bx3_new 25 w (.int .i64 0) (.int .i64 0) (.int .i64 0))
  clear h ho
  go_enter Try.func7, Try.ntmps7
  go_wp2_with fail
  go_loopw [12] (fun i wr => ∃ k : Nat, k ≤ len ∧ i = .int .i64 (k : Int) ∧ Hid (findT g q (l.drop k) = o) ∧ Hid (Bx3 25 w wr (.int .i64 0) (.int .i64 0) (.int .i64 0))) (fun i _ => len - (intOf i).toNat)
  case atStart => exact ⟨0, Nat.zero_le _, rfl, HV, HB0⟩
  case round =>
    obtain ⟨k, hk, rfl, hd, hB⟩ := hrel
    by_cases hlk : k < len
    · have hkx : k < l.length := by rw [HX.out.1]; exact hlk
      obtain ⟨b1, o1, x0, x1, x2, rfl, g1, hp, hc1⟩ := TmAt.at HX.out hlk
      obtain ⟨d0, d1, d2⟩ := hc1 wr hB.out.bel
      clear g1
      by_cases h1 : x1 = g
      · by_cases h2 : x2 = q
        · have HB1 := Lib.hid (hB.out.alloc (.cells #[.int .i64 x0, .int .i64 x1, .int .i64 x2] 25))
          obtain ⟨z0, z1, z2⟩ := cells3 HB1.out.box
          obtain ⟨f0, f1, f2⟩ := free3 HB1.out.box
          have ho2 : o = some ⟨x0, x1, x2⟩ := hd.out.symm.trans (findT_hit hkx hp (by rw [keyB_iff]; exact ⟨h1, h2⟩))
          subst ho2
          have e1 : (x1 == g) = true := beq_iff_eq.2 h1
          have e2 : (x2 == q) = true := beq_iff_eq.2 h2
          have HRS := Lib.hid (heap_put3 HB1.out.box (.int .i64 x0) (.int .i64 x1) (.int .i64 x2))
          have HB3 := Lib.hid (below_put3 HB1.out.bel (Nat.le_refl _) (.int .i64 x0) (.int .i64 x1) (.int .i64 x2))
          clear hd hp hkx h1 h2 hc1
          go_wp2_with fail
          exact bodyPost_ret (results_tm (j := 6) (k := 7) rfl _ _ w.heap.size _ _ _ rfl HRS.out) rfl ⟨rfl, HB3.out⟩
        · have HD := Lib.hid ((findT_miss hkx hp (by cases e : keyB g q ⟨x0, x1, x2⟩ with | false => rfl | true => exact absurd (keyB_iff.1 e).2 h2)).symm.trans hd.out)
          have HB1 := Lib.hid (hB.out.alloc (.cells #[.int .i64 x0, .int .i64 x1, .int .i64 x2] 25))
          have e1 : (x1 == g) = true := beq_iff_eq.2 h1
          have e2 : (x2 == q) = false := beq_eq_false_iff_ne.2 h2
          clear hd hp hkx h1 h2 hc1
          go_wp2_with fail
          go_roundw
          case rel => exact ⟨k + 1, by omega, by go_num, HD, HB1⟩
          case measure => simp [intOf]; omega
      · have HD := Lib.hid ((findT_miss hkx hp (by cases e : keyB g q ⟨x0, x1, x2⟩ with | false => rfl | true => exact absurd (keyB_iff.1 e).1 h1)).symm.trans hd.out)
        have HB1 := Lib.hid (hB.out.alloc (.cells #[.int .i64 x0, .int .i64 x1, .int .i64 x2] 25))
        have e1 : (x1 == g) = false := beq_eq_false_iff_ne.2 h1
        clear hd hp hkx h1 hc1
        go_wp2_with fail
        go_roundw
        case rel => exact ⟨k + 1, by omega, by go_num, HD, HB1⟩
        case measure => simp [intOf]; omega
    · obtain rfl : k = len := by omega
      have ho2 : o = none := hd.out.symm.trans (findT_end (by rw [HX.out.1]; exact hlk))
      subst ho2
      obtain ⟨z0, z1, z2⟩ := cells3 hB.out.box
      obtain ⟨f0, f1, f2⟩ := free3 hB.out.box
      have HRS := Lib.hid (heap_put3 hB.out.box (.int .i64 0) (.int .i64 0) (.int .i64 0))
      have HB3 := Lib.hid (below_put3 hB.out.bel (Nat.le_refl _) (.int .i64 0) (.int .i64 0) (.int .i64 0))
      clear hd
      go_wp2_with fail
      exact bodyPost_ret (results_tm (j := 6) (k := 7) rfl _ _ w.heap.size _ _ _ rfl HRS.out) rfl ⟨rfl, HB3.out⟩

set_option maxHeartbeats 1000000 in
theorem rfind_any (a : Option Addr) (len cap : Nat) (l : List Tm) (g q : Int) (o : Option Tm) (ho : findT g q l = o) (w : World) (h : TmAt w a len l) :
    Calls Try.prog 8 #[.slice a len cap, .int .i64 g, .int .i64 q] w fun e w' => e = .returned (.tuple #[tmV (getT o), .bool o.isSome]) ∧ Below w.heap.size w w' := by
  have hl := h.2.1
  have HX := Lib.hid h
  have HV : Hid (findT g q (l.drop 0) = o) := ho
  have HB0 := Lib.hid (bx3_new 25 w (.int .i64 0) (.int .i64 0) (.int .i64 0))
  clear h ho
  go_enter Try.func8, Try.ntmps8
  go_wp2_with fail
  go_loopw [8] (fun i wr => ∃ k : Nat, k ≤ len ∧ i = .int .i64 (k : Int) ∧ Hid (findT g q (l.drop k) = o) ∧ Hid (Bx3 25 w wr (.int .i64 0) (.int .i64 0) (.int .i64 0))) (fun i _ => len - (intOf i).toNat)
  case atStart => exact ⟨0, Nat.zero_le _, rfl, HV, HB0⟩
  case round =>
    obtain ⟨k, hk, rfl, hd, hB⟩ := hrel
    by_cases hlk : k < len
    · have hkx : k < l.length := by rw [HX.out.1]; exact hlk
      obtain ⟨b1, o1, x0, x1, x2, rfl, g1, hp, hc1⟩ := TmAt.at HX.out hlk
      obtain ⟨d0, d1, d2⟩ := hc1 wr hB.out.bel
      clear g1
      by_cases h1 : x1 = g
      · by_cases h2 : x2 = q
        · have HB1 := Lib.hid (hB.out)
          obtain ⟨z0, z1, z2⟩ := cells3 HB1.out.box
          obtain ⟨f0, f1, f2⟩ := free3 HB1.out.box
          have ho2 : o = some ⟨x0, x1, x2⟩ := hd.out.symm.trans (findT_hit hkx hp (by rw [keyB_iff]; exact ⟨h1, h2⟩))
          subst ho2
          have e1 : (x1 == g) = true := beq_iff_eq.2 h1
          have e2 : (x2 == q) = true := beq_iff_eq.2 h2
          have HRS := Lib.hid (heap_put3 HB1.out.box (.int .i64 x0) (.int .i64 x1) (.int .i64 x2))
          have HB3 := Lib.hid (below_put3 HB1.out.bel (Nat.le_refl _) (.int .i64 x0) (.int .i64 x1) (.int .i64 x2))
          clear hd hp hkx h1 h2 hc1
          go_wp2_with fail
          exact bodyPost_ret (results_tm (j := 6) (k := 7) rfl _ _ w.heap.size _ _ _ rfl HRS.out) rfl ⟨rfl, HB3.out⟩
        · have HD := Lib.hid ((findT_miss hkx hp (by cases e : keyB g q ⟨x0, x1, x2⟩ with | false => rfl | true => exact absurd (keyB_iff.1 e).2 h2)).symm.trans hd.out)
          have HB1 := Lib.hid (hB.out)
          have e1 : (x1 == g) = true := beq_iff_eq.2 h1
          have e2 : (x2 == q) = false := beq_eq_false_iff_ne.2 h2
          clear hd hp hkx h1 h2 hc1
          go_wp2_with fail
          go_roundw
          case rel => exact ⟨k + 1, by omega, by go_num, HD, HB1⟩
          case measure => simp [intOf]; omega
      · have HD := Lib.hid ((findT_miss hkx hp (by cases e : keyB g q ⟨x0, x1, x2⟩ with | false => rfl | true => exact absurd (keyB_iff.1 e).1 h1)).symm.trans hd.out)
        have HB1 := Lib.hid (hB.out)
        have e1 : (x1 == g) = false := beq_eq_false_iff_ne.2 h1
        clear hd hp hkx h1 hc1
        go_wp2_with fail
        go_roundw
        case rel => exact ⟨k + 1, by omega, by go_num, HD, HB1⟩
        case measure => simp [intOf]; omega
    · obtain rfl : k = len := by omega
      have ho2 : o = none := hd.out.symm.trans (findT_end (by rw [HX.out.1]; exact hlk))
      subst ho2
      obtain ⟨z0, z1, z2⟩ := cells3 hB.out.box
      obtain ⟨f0, f1, f2⟩ := free3 hB.out.box
      have HRS := Lib.hid (heap_put3 hB.out.box (.int .i64 0) (.int .i64 0) (.int .i64 0))
      have HB3 := Lib.hid (below_put3 hB.out.bel (Nat.le_refl _) (.int .i64 0) (.int .i64 0) (.int .i64 0))
      clear hd
      go_wp2_with fail
      exact bodyPost_ret (results_tm (j := 6) (k := 7) rfl _ _ w.heap.size _ _ _ rfl HRS.out) rfl ⟨rfl, HB3.out⟩

set_option maxHeartbeats 1000000 in
theorem first_any (a : Option Addr) (len cap : Nat) (l : List Tm) (n : Int) (o : Option Tm) (ho : firstT n l = o) (w : World) (h : TmAt w a len l) :
    Calls Try.prog 9 #[.slice a len cap, .int .i64 n] w fun e w' => e = .returned (.tuple #[tmV (getT o), .bool o.isSome]) ∧ Below w.heap.size w w' := by
  have hl := h.2.1
  subst ho
  by_cases h0 : len = 0
  · subst h0
    have hn : l = [] := List.eq_nil_of_length_eq_zero h.1
    subst hn
    have HN := Lib.hid (at3_new 25 w (.int .i64 0) (.int .i64 0) (.int .i64 0))
    have HBN := Lib.hid ((Below.refl w.heap.size w).alloc (Nat.le_refl _) (.cells #[.int .i64 0, .int .i64 0, .int .i64 0] 25))
    have HRS := Lib.hid (heap_put3 (at3_new 25 w (.int .i64 0) (.int .i64 0) (.int .i64 0)) (.int .i64 0) (.int .i64 0) (.int .i64 0))
    have HB3 := Lib.hid (below_put3 ((Below.refl w.heap.size w).alloc (Nat.le_refl _) (.cells #[.int .i64 0, .int .i64 0, .int .i64 0] 25)) (Nat.le_refl _) (.int .i64 0) (.int .i64 0) (.int .i64 0))
    clear h
    go_enter Try.func9, Try.ntmps9
    go_wp2_with fail
    first
      | exact bodyPost_ret (results_tm (j := 4) (k := 5) rfl _ _ w.heap.size _ _ _ rfl HN.out) rfl ⟨rfl, HBN.out⟩
      | exact bodyPost_ret (results_tm (j := 4) (k := 5) rfl _ _ w.heap.size _ _ _ rfl HRS.out) rfl ⟨rfl, HB3.out⟩
  · have hpos : 0 < len := by omega
    obtain ⟨b1, o1, x0, x1, x2, rfl, g1, hp, hc1⟩ := TmAt.at h hpos
    obtain ⟨d0, d1, d2⟩ := hc1 (w.alloc (.cells #[.int .i64 0, .int .i64 0, .int .i64 0] 25)) ((Below.refl _ w).alloc (Nat.le_refl _) _)
    rw [show o1 + 0 * 3 = o1 by omega] at d0 d1 d2
    have hx : ∃ r, l = ⟨x0, x1, x2⟩ :: r := by
      cases l with
      | nil => have := h.1; simp at this; omega
      | cons y r => simp at hp; exact ⟨r, by rw [hp]⟩
    obtain ⟨r, rfl⟩ := hx
    have e0 : ((len : Int) == 0) = false := beq_eq_false_iff_ne.2 (by omega)
    have e1 : (0 : Int) < (len : Int) := by omega
    clear hc1 hp h
    by_cases h1 : n < x0
    · have hno : firstT n (⟨x0, x1, x2⟩ :: r) = none := by rw [firstT, if_pos h1]
      rw [hno]
      have HN := Lib.hid (at3_new 25 w (.int .i64 0) (.int .i64 0) (.int .i64 0))
      have HBN := Lib.hid ((Below.refl w.heap.size w).alloc (Nat.le_refl _) (.cells #[.int .i64 0, .int .i64 0, .int .i64 0] 25))
      have HRS := Lib.hid (heap_put3 (at3_new 25 w (.int .i64 0) (.int .i64 0) (.int .i64 0)) (.int .i64 0) (.int .i64 0) (.int .i64 0))
      have HB3 := Lib.hid (below_put3 ((Below.refl w.heap.size w).alloc (Nat.le_refl _) (.cells #[.int .i64 0, .int .i64 0, .int .i64 0] 25)) (Nat.le_refl _) (.int .i64 0) (.int .i64 0) (.int .i64 0))
      clear hno
      go_enter Try.func9, Try.ntmps9
      go_wp2_with fail
      first
        | exact bodyPost_ret (results_tm (j := 4) (k := 5) rfl _ _ w.heap.size _ _ _ rfl HN.out) rfl ⟨rfl, HBN.out⟩
        | exact bodyPost_ret (results_tm (j := 4) (k := 5) rfl _ _ w.heap.size _ _ _ rfl HRS.out) rfl ⟨rfl, HB3.out⟩
    · have hno : firstT n (⟨x0, x1, x2⟩ :: r) = some ⟨x0, x1, x2⟩ := by rw [firstT, if_neg h1]
      rw [hno]
      have HN := Lib.hid (at3_new 25 w (.int .i64 x0) (.int .i64 x1) (.int .i64 x2))
      have HBN := Lib.hid ((Below.refl w.heap.size w).alloc (Nat.le_refl _) (.cells #[.int .i64 x0, .int .i64 x1, .int .i64 x2] 25))
      have HRS := Lib.hid (heap_put3 (at3_new 25 w (.int .i64 0) (.int .i64 0) (.int .i64 0)) (.int .i64 x0) (.int .i64 x1) (.int .i64 x2))
      have HB3 := Lib.hid (below_put3 ((Below.refl w.heap.size w).alloc (Nat.le_refl _) (.cells #[.int .i64 0, .int .i64 0, .int .i64 0] 25)) (Nat.le_refl _) (.int .i64 x0) (.int .i64 x1) (.int .i64 x2))
      clear hno
      go_enter Try.func9, Try.ntmps9
      go_wp2_with fail
      first
        | exact bodyPost_ret (results_tm (j := 4) (k := 5) rfl _ _ w.heap.size _ _ _ rfl HN.out) rfl ⟨rfl, HBN.out⟩
        | exact bodyPost_ret (results_tm (j := 4) (k := 5) rfl _ _ w.heap.size _ _ _ rfl HRS.out) rfl ⟨rfl, HB3.out⟩

set_option maxHeartbeats 1000000 in
theorem rfirst_any (a : Option Addr) (len cap : Nat) (l : List Tm) (n : Int) (o : Option Tm) (ho : firstT n l = o) (w : World) (h : TmAt w a len l) :
    Calls Try.prog 10 #[.slice a len cap, .int .i64 n] w fun e w' => e = .returned (.tuple #[tmV (getT o), .bool o.isSome]) ∧ Below w.heap.size w w' := by
  have hl := h.2.1
  subst ho
  by_cases h0 : len = 0
  · subst h0
    have hn : l = [] := List.eq_nil_of_length_eq_zero h.1
    subst hn
    have HN := Lib.hid (at3_new 25 w (.int .i64 0) (.int .i64 0) (.int .i64 0))
    have HBN := Lib.hid ((Below.refl w.heap.size w).alloc (Nat.le_refl _) (.cells #[.int .i64 0, .int .i64 0, .int .i64 0] 25))
    have HRS := Lib.hid (heap_put3 (at3_new 25 w (.int .i64 0) (.int .i64 0) (.int .i64 0)) (.int .i64 0) (.int .i64 0) (.int .i64 0))
    have HB3 := Lib.hid (below_put3 ((Below.refl w.heap.size w).alloc (Nat.le_refl _) (.cells #[.int .i64 0, .int .i64 0, .int .i64 0] 25)) (Nat.le_refl _) (.int .i64 0) (.int .i64 0) (.int .i64 0))
    clear h
    go_enter Try.func10, Try.ntmps10
    go_wp2_with fail
    first
      | exact bodyPost_ret (results_tm (j := 4) (k := 5) rfl _ _ w.heap.size _ _ _ rfl HN.out) rfl ⟨rfl, HBN.out⟩
      | exact bodyPost_ret (results_tm (j := 4) (k := 5) rfl _ _ w.heap.size _ _ _ rfl HRS.out) rfl ⟨rfl, HB3.out⟩
  · have hpos : 0 < len := by omega
    obtain ⟨b1, o1, x0, x1, x2, rfl, g1, hp, hc1⟩ := TmAt.at h hpos
    obtain ⟨d0, d1, d2⟩ := hc1 (w.alloc (.cells #[.int .i64 0, .int .i64 0, .int .i64 0] 25)) ((Below.refl _ w).alloc (Nat.le_refl _) _)
    rw [show o1 + 0 * 3 = o1 by omega] at d0 d1 d2
    have hx : ∃ r, l = ⟨x0, x1, x2⟩ :: r := by
      cases l with
      | nil => have := h.1; simp at this; omega
      | cons y r => simp at hp; exact ⟨r, by rw [hp]⟩
    obtain ⟨r, rfl⟩ := hx
    have e0 : ((len : Int) == 0) = false := beq_eq_false_iff_ne.2 (by omega)
    have e1 : (0 : Int) < (len : Int) := by omega
    clear hc1 hp h
    by_cases h1 : n < x0
    · have hno : firstT n (⟨x0, x1, x2⟩ :: r) = none := by rw [firstT, if_pos h1]
      rw [hno]
      have HN := Lib.hid (at3_new 25 w (.int .i64 0) (.int .i64 0) (.int .i64 0))
      have HBN := Lib.hid ((Below.refl w.heap.size w).alloc (Nat.le_refl _) (.cells #[.int .i64 0, .int .i64 0, .int .i64 0] 25))
      have HRS := Lib.hid (heap_put3 (at3_new 25 w (.int .i64 0) (.int .i64 0) (.int .i64 0)) (.int .i64 0) (.int .i64 0) (.int .i64 0))
      have HB3 := Lib.hid (below_put3 ((Below.refl w.heap.size w).alloc (Nat.le_refl _) (.cells #[.int .i64 0, .int .i64 0, .int .i64 0] 25)) (Nat.le_refl _) (.int .i64 0) (.int .i64 0) (.int .i64 0))
      clear hno
      go_enter Try.func10, Try.ntmps10
      go_wp2_with fail
      first
        | exact bodyPost_ret (results_tm (j := 4) (k := 5) rfl _ _ w.heap.size _ _ _ rfl HN.out) rfl ⟨rfl, HBN.out⟩
        | exact bodyPost_ret (results_tm (j := 4) (k := 5) rfl _ _ w.heap.size _ _ _ rfl HRS.out) rfl ⟨rfl, HB3.out⟩
    · have hno : firstT n (⟨x0, x1, x2⟩ :: r) = some ⟨x0, x1, x2⟩ := by rw [firstT, if_neg h1]
      rw [hno]
      have HN := Lib.hid (at3_new 25 w (.int .i64 x0) (.int .i64 x1) (.int .i64 x2))
      have HBN := Lib.hid ((Below.refl w.heap.size w).alloc (Nat.le_refl _) (.cells #[.int .i64 x0, .int .i64 x1, .int .i64 x2] 25))
      have HRS := Lib.hid (heap_put3 (at3_new 25 w (.int .i64 0) (.int .i64 0) (.int .i64 0)) (.int .i64 x0) (.int .i64 x1) (.int .i64 x2))
      have HB3 := Lib.hid (below_put3 ((Below.refl w.heap.size w).alloc (Nat.le_refl _) (.cells #[.int .i64 0, .int .i64 0, .int .i64 0] 25)) (Nat.le_refl _) (.int .i64 x0) (.int .i64 x1) (.int .i64 x2))
      clear hno
      go_enter Try.func10, Try.ntmps10
      go_wp2_with fail
      first
        | exact bodyPost_ret (results_tm (j := 4) (k := 5) rfl _ _ w.heap.size _ _ _ rfl HN.out) rfl ⟨rfl, HBN.out⟩
        | exact bodyPost_ret (results_tm (j := 4) (k := 5) rfl _ _ w.heap.size _ _ _ rfl HRS.out) rfl ⟨rfl, HB3.out⟩

set_option maxHeartbeats 2000000 in
theorem drop_any (a : Option Addr) (len cap : Nat) (l : List Tm) (g q : Int) (hlen : len ≤ 1000000) (w : World) (h : TmAt w a len l) :
    Calls Try.prog 14 #[.slice a len cap, .int .i64 g, .int .i64 q] w (RowP w (dropT g q l)) := by
  have hl := h.2.1
  have HX := Lib.hid h
  clear h
  go_enter Try.func14, Try.ntmps14
  go_wp2_with fail
  go_loopw [7, 12] (fun v i wr => ∃ (k n : Nat) (ys : List Tm), k ≤ len ∧ n ≤ k ∧ i = .int .i64 (k : Int) ∧ Hid (dropT g q (l.take k) = ys) ∧ Hid (ys.length = n) ∧ Hid (wr.ownsRow w.heap.size 25 3 v n (Rw.cells tmS ys)) ∧ Hid (Below w.heap.size w wr)) (fun _ i _ => len - (intOf i).toNat)
  case atStart => exact ⟨0, 0, [], Nat.zero_le _, Nat.le_refl _, rfl, rfl, rfl, World.ownsRow_nil _ _ _ _, Below.refl _ _⟩
  case round =>
    obtain ⟨k, n, ys, hk, hnk, rfl, hY, hN, hO, hB⟩ := hrel
    obtain ⟨ad, cp, rfl, hcp⟩ := Rw.owns_slice hO.out
    by_cases hlk : k < len
    · have hkx : k < l.length := by rw [HX.out.1]; exact hlk
      obtain ⟨b1, o1, x0, x1, x2, rfl, g1, hp, hc1⟩ := TmAt.at HX.out hlk
      obtain ⟨d0, d1, d2⟩ := hc1 wr hB.out
      clear g1
      by_cases h1 : x1 = g
      rotate_left
      · have e1 : (x1 != g) = true := by simp [h1]
        have HB1 := Lib.hid (hB.out.alloc hB.out.size (.cells #[.int .i64 x0, .int .i64 x1, .int .i64 x2] 25))
        have HO1 := Lib.hid (hO.out.alloc (.cells #[.int .i64 x0, .int .i64 x1, .int .i64 x2] 25))
        have hst := dropT_yes (g := g) (q := q) hkx hp (leftB_iff.2 (.inl h1))
        rw [hY.out] at hst
        have HST := Lib.hid hst
        have hsz := HB1.out.size
        clear hst hkx hp h1 hc1
        go_wp2_with (at_builtin; refine Rw.append_one tmS rfl (.tmp 30) (.tmp 32) rfl w.heap.size (wr.alloc (.cells #[.int .i64 x0, .int .i64 x1, .int .i64 x2] 25)) _ (World.size_alloc _ _) ⟨x0, x1, x2⟩ _ rfl (.slice ad n cp) n ys rfl HO1.out rfl (by omega) hsz ?_)
        intro v' w4 hO4 hg4
        have HO4 : Hid (w4.ownsRow w.heap.size 25 3 v' (n + 1) (Rw.cells tmS (ys ++ [⟨x0, x1, x2⟩]))) := hO4
        have HB4 := Lib.hid (Rw.below_append HB1.out hsz HO1.out hg4)
        clear hO4 hg4
        go_wp2_with fail
        go_roundw
        case rel => exact ⟨k + 1, n + 1, ys ++ [⟨x0, x1, x2⟩], by omega, by omega, by go_num, HST, by rw [List.length_append, hN.out]; rfl, HO4, HB4⟩
        case measure => simp [intOf]; omega
      by_cases h2 : q = 0
      · have e1 : (x1 != g) = false := by simp [h1]
        have e2 : (q != 0) = false := by simp [h2]
        have HB1 := Lib.hid (hB.out.alloc hB.out.size (.cells #[.int .i64 x0, .int .i64 x1, .int .i64 x2] 25))
        have HO1 := Lib.hid (hO.out.alloc (.cells #[.int .i64 x0, .int .i64 x1, .int .i64 x2] 25))
        have hst := dropT_no (g := g) (q := q) hkx hp (by cases e : leftB g q ⟨x0, x1, x2⟩ with | false => rfl | true => rcases leftB_iff.1 e with k1 | k1; exact absurd h1 k1; exact absurd h2 k1.1)
        rw [hY.out] at hst
        have HST := Lib.hid hst
        clear hst hkx hp h1 h2 hc1
        go_wp2_with fail
        go_roundw
        case rel => exact ⟨k + 1, n, ys, by omega, by omega, by go_num, HST, hN.out, HO1, HB1⟩
        case measure => simp [intOf]; omega
      by_cases h3 : x2 = q
      · have e1 : (x1 != g) = false := by simp [h1]
        have e2 : (q != 0) = true := by simp [h2]
        have e3 : (x2 != q) = false := by simp [h3]
        have HB1 := Lib.hid (hB.out.alloc hB.out.size (.cells #[.int .i64 x0, .int .i64 x1, .int .i64 x2] 25))
        have HO1 := Lib.hid (hO.out.alloc (.cells #[.int .i64 x0, .int .i64 x1, .int .i64 x2] 25))
        have hst := dropT_no (g := g) (q := q) hkx hp (by cases e : leftB g q ⟨x0, x1, x2⟩ with | false => rfl | true => rcases leftB_iff.1 e with k1 | k1; exact absurd h1 k1; exact absurd h3 k1.2)
        rw [hY.out] at hst
        have HST := Lib.hid hst
        clear hst hkx hp h1 h2 h3 hc1
        go_wp2_with fail
        go_roundw
        case rel => exact ⟨k + 1, n, ys, by omega, by omega, by go_num, HST, hN.out, HO1, HB1⟩
        case measure => simp [intOf]; omega
      have e1 : (x1 != g) = false := by simp [h1]
      have e2 : (q != 0) = true := by simp [h2]
      have e3 : (x2 != q) = true := by simp [h3]
      have HB1 := Lib.hid (hB.out.alloc hB.out.size (.cells #[.int .i64 x0, .int .i64 x1, .int .i64 x2] 25))
      have HO1 := Lib.hid (hO.out.alloc (.cells #[.int .i64 x0, .int .i64 x1, .int .i64 x2] 25))
      have hst := dropT_yes (g := g) (q := q) hkx hp (leftB_iff.2 (.inr ⟨h2, h3⟩))
      rw [hY.out] at hst
      have HST := Lib.hid hst
      have hsz := HB1.out.size
      clear hst hkx hp h1 h2 h3 hc1
      go_wp2_with (at_builtin; refine Rw.append_one tmS rfl (.tmp 30) (.tmp 32) rfl w.heap.size (wr.alloc (.cells #[.int .i64 x0, .int .i64 x1, .int .i64 x2] 25)) _ (World.size_alloc _ _) ⟨x0, x1, x2⟩ _ rfl (.slice ad n cp) n ys rfl HO1.out rfl (by omega) hsz ?_)
      intro v' w4 hO4 hg4
      have HO4 : Hid (w4.ownsRow w.heap.size 25 3 v' (n + 1) (Rw.cells tmS (ys ++ [⟨x0, x1, x2⟩]))) := hO4
      have HB4 := Lib.hid (Rw.below_append HB1.out hsz HO1.out hg4)
      clear hO4 hg4
      go_wp2_with fail
      go_roundw
      case rel => exact ⟨k + 1, n + 1, ys ++ [⟨x0, x1, x2⟩], by omega, by omega, by go_num, HST, by rw [List.length_append, hN.out]; rfl, HO4, HB4⟩
      case measure => simp [intOf]; omega
    · obtain rfl : k = len := by omega
      have hR : RowP w (dropT g q l) (.returned (.slice ad n cp)) wr := by
        have hY2 := hY.out
        rw [List.take_of_length_le (Nat.le_of_eq HX.out.1)] at hY2
        rw [hY2]
        have hO2 := hO.out
        exact ⟨_, rfl, hN.out.symm ▸ hO2, hB.out⟩
      have HR := Lib.hid hR
      clear hR
      go_wp2_with fail
      go_ret
      exact HR.out

set_option maxHeartbeats 2000000 in
theorem rdrop_any (a : Option Addr) (len cap : Nat) (l : List Tm) (g q : Int) (hlen : len ≤ 1000000) (w : World) (h : TmAt w a len l) :
    Calls Try.prog 15 #[.slice a len cap, .int .i64 g, .int .i64 q] w (RowP w (dropT g q l)) := by
  have hl := h.2.1
  have HX := Lib.hid h
  clear h
  go_enter Try.func15, Try.ntmps15
  go_wp2_with fail
  go_loopw [7, 8] (fun v i wr => ∃ (k n : Nat) (ys : List Tm), k ≤ len ∧ n ≤ k ∧ i = .int .i64 (k : Int) ∧ Hid (dropT g q (l.take k) = ys) ∧ Hid (ys.length = n) ∧ Hid (wr.ownsRow w.heap.size 25 3 v n (Rw.cells tmS ys)) ∧ Hid (Below w.heap.size w wr)) (fun _ i _ => len - (intOf i).toNat)
  case atStart => exact ⟨0, 0, [], Nat.zero_le _, Nat.le_refl _, rfl, rfl, rfl, World.ownsRow_nil _ _ _ _, Below.refl _ _⟩
  case round =>
    obtain ⟨k, n, ys, hk, hnk, rfl, hY, hN, hO, hB⟩ := hrel
    obtain ⟨ad, cp, rfl, hcp⟩ := Rw.owns_slice hO.out
    by_cases hlk : k < len
    · have hkx : k < l.length := by rw [HX.out.1]; exact hlk
      obtain ⟨b1, o1, x0, x1, x2, rfl, g1, hp, hc1⟩ := TmAt.at HX.out hlk
      obtain ⟨d0, d1, d2⟩ := hc1 wr hB.out
      clear g1
      by_cases h1 : x1 = g
      rotate_left
      · have e1 : (x1 != g) = true := by simp [h1]
        have HB1 := Lib.hid hB.out
        have HO1 := Lib.hid hO.out
        have hst := dropT_yes (g := g) (q := q) hkx hp (leftB_iff.2 (.inl h1))
        rw [hY.out] at hst
        have HST := Lib.hid hst
        have hsz := HB1.out.size
        clear hst hkx hp h1 hc1
        go_wp2_with (at_builtin; refine Rw.append_one tmS rfl (.tmp 35) (.tmp 40) rfl w.heap.size wr _ rfl ⟨x0, x1, x2⟩ _ rfl (.slice ad n cp) n ys rfl HO1.out rfl (by omega) hsz ?_)
        intro v' w4 hO4 hg4
        have HO4 : Hid (w4.ownsRow w.heap.size 25 3 v' (n + 1) (Rw.cells tmS (ys ++ [⟨x0, x1, x2⟩]))) := hO4
        have HB4 := Lib.hid (Rw.below_append HB1.out hsz HO1.out hg4)
        clear hO4 hg4
        go_wp2_with fail
        go_roundw
        case rel => exact ⟨k + 1, n + 1, ys ++ [⟨x0, x1, x2⟩], by omega, by omega, by go_num, HST, by rw [List.length_append, hN.out]; rfl, HO4, HB4⟩
        case measure => simp [intOf]; omega
      by_cases h2 : q = 0
      · have e1 : (x1 != g) = false := by simp [h1]
        have e2 : (q != 0) = false := by simp [h2]
        have HB1 := Lib.hid hB.out
        have HO1 := Lib.hid hO.out
        have hst := dropT_no (g := g) (q := q) hkx hp (by cases e : leftB g q ⟨x0, x1, x2⟩ with | false => rfl | true => rcases leftB_iff.1 e with k1 | k1; exact absurd h1 k1; exact absurd h2 k1.1)
        rw [hY.out] at hst
        have HST := Lib.hid hst
        clear hst hkx hp h1 h2 hc1
        go_wp2_with fail
        go_roundw
        case rel => exact ⟨k + 1, n, ys, by omega, by omega, by go_num, HST, hN.out, HO1, HB1⟩
        case measure => simp [intOf]; omega
      by_cases h3 : x2 = q
      · have e1 : (x1 != g) = false := by simp [h1]
        have e2 : (q != 0) = true := by simp [h2]
        have e3 : (x2 != q) = false := by simp [h3]
        have HB1 := Lib.hid hB.out
        have HO1 := Lib.hid hO.out
        have hst := dropT_no (g := g) (q := q) hkx hp (by cases e : leftB g q ⟨x0, x1, x2⟩ with | false => rfl | true => rcases leftB_iff.1 e with k1 | k1; exact absurd h1 k1; exact absurd h3 k1.2)
        rw [hY.out] at hst
        have HST := Lib.hid hst
        clear hst hkx hp h1 h2 h3 hc1
        go_wp2_with fail
        go_roundw
        case rel => exact ⟨k + 1, n, ys, by omega, by omega, by go_num, HST, hN.out, HO1, HB1⟩
        case measure => simp [intOf]; omega
      have e1 : (x1 != g) = false := by simp [h1]
      have e2 : (q != 0) = true := by simp [h2]
      have e3 : (x2 != q) = true := by simp [h3]
      have HB1 := Lib.hid hB.out
      have HO1 := Lib.hid hO.out
      have hst := dropT_yes (g := g) (q := q) hkx hp (leftB_iff.2 (.inr ⟨h2, h3⟩))
      rw [hY.out] at hst
      have HST := Lib.hid hst
      have hsz := HB1.out.size
      clear hst hkx hp h1 h2 h3 hc1
      go_wp2_with (at_builtin; refine Rw.append_one tmS rfl (.tmp 35) (.tmp 40) rfl w.heap.size wr _ rfl ⟨x0, x1, x2⟩ _ rfl (.slice ad n cp) n ys rfl HO1.out rfl (by omega) hsz ?_)
      intro v' w4 hO4 hg4
      have HO4 : Hid (w4.ownsRow w.heap.size 25 3 v' (n + 1) (Rw.cells tmS (ys ++ [⟨x0, x1, x2⟩]))) := hO4
      have HB4 := Lib.hid (Rw.below_append HB1.out hsz HO1.out hg4)
      clear hO4 hg4
      go_wp2_with fail
      go_roundw
      case rel => exact ⟨k + 1, n + 1, ys ++ [⟨x0, x1, x2⟩], by omega, by omega, by go_num, HST, by rw [List.length_append, hN.out]; rfl, HO4, HB4⟩
      case measure => simp [intOf]; omega
    · obtain rfl : k = len := by omega
      have hR : RowP w (dropT g q l) (.returned (.slice ad n cp)) wr := by
        have hY2 := hY.out
        rw [List.take_of_length_le (Nat.le_of_eq HX.out.1)] at hY2
        rw [hY2]
        have hO2 := hO.out
        exact ⟨_, rfl, hN.out.symm ▸ hO2, hB.out⟩
      have HR := Lib.hid hR
      clear hR
      go_wp2_with fail
      go_ret
      exact HR.out

set_option maxHeartbeats 1000000 in
theorem rsame_any (a c : Option Addr) (n cap m cap2 : Nat) (x y : List Tm) (v : Bool) (hv : eqTs x y = v) (w : World) (h : TmAt w a n x) (h2 : TmAt w c m y) :
    Calls Try.prog 13 #[.slice a n cap, .slice c m cap2] w fun e w' => e = .returned (.bool v) ∧ Below w.heap.size w w' := by
  have hla := h.2.1
  have hlc := h2.2.1
  by_cases hne : n = m
  · subst hne
    have hnn : ((n : Int) != (n : Int)) = false := by simp
    have HX := Lib.hid h; have HY := Lib.hid h2
    have HV : Hid (v = eqTs (x.drop 0) (y.drop 0)) := hv.symm
    clear h h2 hv hlc
    go_enter Try.func13, Try.ntmps13
    go_wp2_with fail
    go_loopw [5] (fun i wr => ∃ k : Nat, k ≤ n ∧ i = .int .i64 (k : Int) ∧ Hid (v = eqTs (x.drop k) (y.drop k)) ∧ Hid (Below w.heap.size w wr)) (fun i _ => n - (intOf i).toNat)
    case atStart => exact ⟨0, Nat.zero_le _, rfl, HV, Below.refl _ _⟩
    case round =>
      obtain ⟨k, hk, rfl, hd, hB⟩ := hrel
      by_cases hlk : k < n
      · have hkx : k < x.length := by rw [HX.out.1]; exact hlk
        have hky : k < y.length := by rw [HY.out.1]; exact hlk
        obtain ⟨b1, o1, x0, x1, x2, rfl, g1, hp, hc1⟩ := TmAt.at HX.out hlk
        obtain ⟨b2, o2, y0, y1, y2, rfl, g2, hq, hc2⟩ := TmAt.at HY.out hlk
        obtain ⟨d0, d1, d2⟩ := hc1 wr hB.out
        obtain ⟨e0, e1, e2⟩ := hc2 wr hB.out
        clear hc1 hc2 g1 g2
        have hneq := fun w => neq_tm x0 x1 x2 y0 y1 y2 w
        have hgd := fun p x y w => guard_tm p x y x0 x1 x2 y0 y1 y2 w
        cases heq : eqT ⟨x0, x1, x2⟩ ⟨y0, y1, y2⟩ with
        | true =>
          have HD := Lib.hid (hd.out.trans (eqTs_go hkx hky hp hq heq))
          rw [heq] at hneq
          clear hd hp hq heq hkx hky
          go_wp2_with fail
          go_quiet (fail)
          go_wp2_with fail
          go_roundw
          case rel => exact ⟨k + 1, by omega, by go_num, HD, below_drewN hB.out _⟩
          case measure => simp [intOf]; omega
        | false =>
          have HD := Lib.hid (hd.out.trans (eqTs_no hkx hky hp hq heq))
          rw [heq] at hneq
          clear hd hp hq heq hkx hky
          go_wp2_with fail
          go_quiet (fail)
          go_wp2_with fail
          go_ret
          exact ⟨ret_bool HD.out, below_drewN hB.out _⟩
      · obtain rfl : k = n := by omega
        have HD := Lib.hid (hd.out.trans (eqTs_end (by rw [HX.out.1]; exact hlk) (by rw [HY.out.1]; exact hlk)))
        clear hd
        go_wp2_with fail
        go_ret
        exact ⟨ret_bool HD.out, hB.out⟩
  · have hn3 : ((n : Int) != (m : Int)) = true := by simp; omega
    have HD : Hid (v = false) := hv.symm.trans (eqTs_len (by rw [h.1, h2.1]; exact hne))
    clear h h2 hv
    go_enter Try.func13, Try.ntmps13
    go_wp2_with fail
    go_ret
    exact ⟨ret_bool HD.out, Below.refl _ _⟩
end Go.Proofs.Ytcfjnpepbjaacaa.Timer
