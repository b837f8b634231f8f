/-
  The contracts of both Finds (IndexFunc over the closure) and of the document's Same: any letters; what was there stays as it was.
-/
import Derived.Test.YtekndioohjlmcaaDoorLetterA
set_option linter.unusedVariables false
set_option linter.unusedSimpArgs false
set_option maxRecDepth 4000
namespace Go.Proofs.YtekndioohjlmcaaDoor.Letter
open Go.RowKit LeP
open Go.Proofs.YtekndioohjlmcaaDoor.Kt

def getL (o : Option Lt) : Lt := o.getD lt0
theorem findL_hit {g : Int} {l : List Lt} {k : Nat} {x : Lt} (hk : k < l.length) (hx : l.getD k lt0 = x) (h : x.saga = g) : findL g (l.drop k) = some x := by
  rw [Rw.drop_cons hk hx, findL, if_pos h]
theorem findL_miss {g : Int} {l : List Lt} {k : Nat} {x : Lt} (hk : k < l.length) (hx : l.getD k lt0 = x) (h : ¬ x.saga = g) : findL g (l.drop k) = findL g (l.drop (k + 1)) := by
  rw [Rw.drop_cons hk hx, findL, if_neg h]
theorem findL_end {g : Int} {l : List Lt} {k : Nat} (hk : ¬ k < l.length) : findL g (l.drop k) = none := by
  rw [List.drop_eq_nil_of_le (by omega)]; rfl
theorem filt_yes {p : Lt → Bool} {l : List Lt} {k : Nat} {x : Lt} (hk : k < l.length) (hx : l.getD k lt0 = x) (h : p x = true) : (l.take (k + 1)).filter p = (l.take k).filter p ++ [x] := by
  rw [Rw.take_snoc hk hx]; simp [List.filter_append, h]
theorem filt_no {p : Lt → Bool} {l : List Lt} {k : Nat} {x : Lt} (hk : k < l.length) (hx : l.getD k lt0 = x) (h : p x = false) : (l.take (k + 1)).filter p = (l.take k).filter p := by
  rw [Rw.take_snoc hk hx]; simp [List.filter_append, h]
theorem eqLs_len {a b : List Lt} (h : a.length ≠ b.length) : eqLs a b = false := by
  cases he : eqLs a b with
  | false => rfl
  | true => exact absurd (congrArg List.length (eqLs_iff.1 he)) h
theorem eqLs_end {a b : List Lt} {k : Nat} (h1 : ¬ k < a.length) (h2 : ¬ k < b.length) : eqLs (a.drop k) (b.drop k) = true := by
  rw [List.drop_eq_nil_of_le (by omega), List.drop_eq_nil_of_le (by omega)]; rfl
theorem eqLs_no {a b : List Lt} {k : Nat} {x y : Lt} (h1 : k < a.length) (h2 : k < b.length) (hx : a.getD k lt0 = x) (hy : b.getD k lt0 = y) (h : eqL x y = false) : eqLs (a.drop k) (b.drop k) = false := by
  rw [Rw.drop_cons h1 hx, Rw.drop_cons h2 hy, eqLs, h]; rfl
theorem eqLs_go {a b : List Lt} {k : Nat} {x y : Lt} (h1 : k < a.length) (h2 : k < b.length) (hx : a.getD k lt0 = x) (hy : b.getD k lt0 = y) (h : eqL x y = true) : eqLs (a.drop k) (b.drop k) = eqLs (a.drop (k + 1)) (b.drop (k + 1)) := by
  rw [Rw.drop_cons h1 hx, Rw.drop_cons h2 hy, eqLs, h]; rfl

set_option maxHeartbeats 1000000 in
theorem rfind_any (a : Option Addr) (len cap : Nat) (l : List Lt) (g : Int) (o : Option Lt) (ho : findL g l = o) (w : World) (h : LtAt w a len l) :
    Calls Tryd.prog 8 #[.slice a len cap, .int .i64 g] w fun e w' => e = .returned (.tuple #[ltV (getL o), .bool o.isSome]) ∧ Below w.heap.size w w' := by
  have hl := h.2.1
  have HX := Lib.hid h
  have HV : Hid (findL g (l.drop 0) = o) := ho
  have HB0 := Lib.hid (bx5_new 24 w (.int .i64 0) (.int .i64 0) (.bool false) (.int .i64 0) (.int .i64 0))
  clear h ho
  go_enter Tryd.func8, Tryd.ntmps8
  go_wp2_with fail
  go_loopw [6] (fun i wr => ∃ k : Nat, k ≤ len ∧ i = .int .i64 (k : Int) ∧ Hid (findL g (l.drop k) = o) ∧ Hid (Bx5 24 w wr (.int .i64 0) (.int .i64 0) (.bool false) (.int .i64 0) (.int .i64 0))) (fun i _ => len - (intOf i).toNat)
  case atStart => exact ⟨0, Nat.zero_le _, rfl, HV, HB0⟩
  case round =>
    obtain ⟨k, hk, rfl, hd, hB⟩ := hrel
    by_cases hlk : k < len
    · have hkx : k < l.length := by rw [HX.out.1]; exact hlk
      obtain ⟨b1, o1, x0, x1, x2, x3, x4, rfl, g1, hp, hc1⟩ := LtAt.at HX.out hlk
      obtain ⟨d0, d1, d2, d3, d4⟩ := hc1 wr hB.out.bel
      clear g1
      by_cases h1 : x0 = g
      · obtain ⟨z0, z1, z2, z3, z4⟩ := cells5 hB.out.box
        obtain ⟨f0, f1, f2, f3, f4⟩ := free5 hB.out.box
        have ho2 : o = some ⟨x0, x1, x2, x3, x4⟩ := hd.out.symm.trans (findL_hit hkx hp h1)
        subst ho2
        have e1 : (x0 == g) = true := beq_iff_eq.2 h1
        have HRS := Lib.hid (heap_put5 hB.out.box (.int .i64 x0) (.int .i64 x1) (.bool x2) (.int .i64 x3) (.int .i64 x4))
        have HB3 := Lib.hid (below_put5 hB.out.bel (Nat.le_refl _) (.int .i64 x0) (.int .i64 x1) (.bool x2) (.int .i64 x3) (.int .i64 x4))
        clear hd hp hkx h1 hc1
        go_wp2_with fail
        exact bodyPost_ret (results_lt (j := 4) (k := 5) rfl _ _ w.heap.size _ _ _ _ _ rfl HRS.out) rfl ⟨rfl, HB3.out⟩
      · have HD := Lib.hid ((findL_miss hkx hp h1).symm.trans hd.out)
        have e1 : (x0 == g) = false := beq_eq_false_iff_ne.2 h1
        clear hd hp hkx h1 hc1
        go_wp2_with fail
        go_roundw
        case rel => exact ⟨k + 1, by omega, by go_num, HD, hB⟩
        case measure => simp [intOf]; omega
    · obtain rfl : k = len := by omega
      have ho2 : o = none := hd.out.symm.trans (findL_end (by rw [HX.out.1]; exact hlk))
      subst ho2
      obtain ⟨z0, z1, z2, z3, z4⟩ := cells5 hB.out.box
      obtain ⟨f0, f1, f2, f3, f4⟩ := free5 hB.out.box
      have HRS := Lib.hid (heap_put5 hB.out.box (.int .i64 0) (.int .i64 0) (.bool false) (.int .i64 0) (.int .i64 0))
      have HB3 := Lib.hid (below_put5 hB.out.bel (Nat.le_refl _) (.int .i64 0) (.int .i64 0) (.bool false) (.int .i64 0) (.int .i64 0))
      clear hd
      go_wp2_with fail
      exact bodyPost_ret (results_lt (j := 4) (k := 5) rfl _ _ w.heap.size _ _ _ _ _ rfl HRS.out) rfl ⟨rfl, HB3.out⟩

set_option maxHeartbeats 1000000 in
theorem rsame_any (a c : Option Addr) (n cap m cap2 : Nat) (x y : List Lt) (v : Bool) (hv : eqLs x y = v) (w : World) (h : LtAt w a n x) (h2 : LtAt w c m y) :
    Calls Tryd.prog 17 #[.slice a n cap, .slice c m cap2] w fun e w' => e = .returned (.bool v) ∧ Below w.heap.size w w' := by
  have hla := h.2.1
  have hlc := h2.2.1
  by_cases hne : n = m
  · subst hne
    have hnn : ((n : Int) != (n : Int)) = false := by simp
    have HX := Lib.hid h; have HY := Lib.hid h2
    have HV : Hid (v = eqLs (x.drop 0) (y.drop 0)) := hv.symm
    clear h h2 hv hlc
    go_enter Tryd.func17, Tryd.ntmps17
    go_wp2_with fail
    go_loopw [5] (fun i wr => ∃ k : Nat, k ≤ n ∧ i = .int .i64 (k : Int) ∧ Hid (v = eqLs (x.drop k) (y.drop k)) ∧ Hid (Below w.heap.size w wr)) (fun i _ => n - (intOf i).toNat)
    case atStart => exact ⟨0, Nat.zero_le _, rfl, HV, Below.refl _ _⟩
    case round =>
      obtain ⟨k, hk, rfl, hd, hB⟩ := hrel
      by_cases hlk : k < n
      · have hkx : k < x.length := by rw [HX.out.1]; exact hlk
        have hky : k < y.length := by rw [HY.out.1]; exact hlk
        obtain ⟨b1, o1, x0, x1, x2, x3, x4, rfl, g1, hp, hc1⟩ := LtAt.at HX.out hlk
        obtain ⟨b2, o2, y0, y1, y2, y3, y4, rfl, g2, hq, hc2⟩ := LtAt.at HY.out hlk
        obtain ⟨d0, d1, d2, d3, d4⟩ := hc1 wr hB.out
        obtain ⟨e0, e1, e2, e3, e4⟩ := hc2 wr hB.out
        clear hc1 hc2 g1 g2
        have hneq := fun w => neq_lt x0 x1 x2 x3 x4 y0 y1 y2 y3 y4 w
        have hgd := fun p x y w => guard_lt p x y x0 x1 x2 x3 x4 y0 y1 y2 y3 y4 w
        cases heq : eqL ⟨x0, x1, x2, x3, x4⟩ ⟨y0, y1, y2, y3, y4⟩ with
        | true =>
          have HD := Lib.hid (hd.out.trans (eqLs_go hkx hky hp hq heq))
          rw [heq] at hneq
          clear hd hp hq heq hkx hky
          go_wp2_with fail
          go_quiet (fail)
          go_wp2_with fail
          go_roundw
          case rel => exact ⟨k + 1, by omega, by go_num, HD, below_drewN hB.out _⟩
          case measure => simp [intOf]; omega
        | false =>
          have HD := Lib.hid (hd.out.trans (eqLs_no hkx hky hp hq heq))
          rw [heq] at hneq
          clear hd hp hq heq hkx hky
          go_wp2_with fail
          go_quiet (fail)
          go_wp2_with fail
          go_ret
          exact ⟨ret_bool HD.out, below_drewN hB.out _⟩
      · obtain rfl : k = n := by omega
        have HD := Lib.hid (hd.out.trans (eqLs_end (by rw [HX.out.1]; exact hlk) (by rw [HY.out.1]; exact hlk)))
        clear hd
        go_wp2_with fail
        go_ret
        exact ⟨ret_bool HD.out, hB.out⟩
  · have hn3 : ((n : Int) != (m : Int)) = true := by simp; omega
    have HD : Hid (v = false) := hv.symm.trans (eqLs_len (by rw [h.1, h2.1]; exact hne))
    clear h h2 hv
    go_enter Tryd.func17, Tryd.ntmps17
    go_wp2_with fail
    go_ret
    exact ⟨ret_bool HD.out, Below.refl _ _⟩

/-! ### the program's Find -/
theorem pick_any (x0 x1 : Int) (x2 : Bool) (x3 x4 : Int) (g : Int) (bk : Nat) (w : World) (hc : w.cell? ⟨bk, 0, none⟩ = some (.int .i64 g)) (hlt : bk < w.heap.size) (b : Bool) (hb : (x0 == g) = b) :
    Calls Tryd.prog 20 #[.agg #[.int .i64 x0, .int .i64 x1, .bool x2, .int .i64 x3, .int .i64 x4], .pointer (some ⟨bk, 0, none⟩)] w fun e w' => e = .returned (.bool b) ∧ Below w.heap.size w w' := by
  have HB := Lib.hid (bx5_new 24 w (.int .i64 x0) (.int .i64 x1) (.bool x2) (.int .i64 x3) (.int .i64 x4))
  have hc2 : (w.alloc (.cells #[.int .i64 x0, .int .i64 x1, .bool x2, .int .i64 x3, .int .i64 x4] 24)).cell? ⟨bk, 0, none⟩ = some (.int .i64 g) := (HB.out.bel.cell (p := ⟨bk, 0, none⟩) hlt).trans hc
  obtain ⟨q0, q1, q2, q3, q4⟩ := cells5 HB.out.box
  have HV := Lib.hid hb
  go_enter Tryd.func20, Tryd.ntmps20
  go_wp2_with fail
  go_ret
  exact ⟨rfl, HB.out.bel⟩
theorem hmf (fn : Fn) (first cap : Array Value) (w : World) : (Instr.makeFunc fn first cap).run Tryd.prog w = .ok (.func fn first cap) w := rfl
/-- Where the first letter of a saga stands; -1: there is none. -/
def ixL (g : Int) : Nat → List Lt → Int
  | _, [] => -1
  | k, x :: r => if x.saga = g then (k : Int) else ixL g (k + 1) r
theorem ix_yes {l : List Lt} {k : Nat} {x : Lt} {g : Int} (hk : k < l.length) (hx : l.getD k lt0 = x) (h : x.saga = g) : ixL g k (l.drop k) = (k : Int) := by
  rw [Rw.drop_cons hk hx, ixL, if_pos h]
theorem ix_no {l : List Lt} {k : Nat} {x : Lt} {g : Int} (hk : k < l.length) (hx : l.getD k lt0 = x) (h : ¬ x.saga = g) : ixL g k (l.drop k) = ixL g (k + 1) (l.drop (k + 1)) := by
  rw [Rw.drop_cons hk hx, ixL, if_neg h]
theorem ix_done {l : List Lt} {k : Nat} {g : Int} (h : ¬ k < l.length) : ixL g k (l.drop k) = -1 := by
  rw [List.drop_eq_nil_of_le (by omega)]; rfl
theorem ix_find : ∀ (g : Int) (l : List Lt) (j : Nat), (findL g l = none ∧ ixL g j l = -1) ∨ ∃ k, k < l.length ∧ ixL g j l = ((j + k : Nat) : Int) ∧ findL g l = some (l.getD k lt0)
  | g, [], j => .inl ⟨rfl, rfl⟩
  | g, x :: r, j => by
    by_cases h : x.saga = g
    · exact .inr ⟨0, by simp, by rw [ixL, if_pos h]; rfl, by rw [findL, if_pos h]; rfl⟩
    · rcases ix_find g r (j + 1) with ⟨h1, h2⟩ | ⟨k, h1, h2, h3⟩
      · exact .inl ⟨by rw [findL, if_neg h]; exact h1, by rw [ixL, if_neg h]; exact h2⟩
      · exact .inr ⟨k + 1, by simpa using h1, by rw [ixL, if_neg h, h2]; omega, by rw [findL, if_neg h, h3]; simp⟩
set_option maxHeartbeats 1000000 in
theorem index_any (a : Option Addr) (len cap : Nat) (l : List Lt) (g : Int) (v : Int) (hv : ixL g 0 l = v) (bk : Nat) (w : World) (h : LtAt w a len l) (hc : w.cell? ⟨bk, 0, none⟩ = some (.int .i64 g)) (hlt : bk < w.heap.size) :
    Calls Tryd.prog 19 #[.slice a len cap, .func (.func 20) #[] #[.pointer (some ⟨bk, 0, none⟩)]] w fun e w' => e = .returned (.int .i64 v) ∧ Below w.heap.size w w' := by
  have hl := h.2.1
  have HX := Lib.hid h
  have HV : Hid (v = ixL g 0 (l.drop 0)) := hv.symm
  have HC := Lib.hid (fun (w' : World) (hb : Below w.heap.size w w') => (hb.cell (p := ⟨bk, 0, none⟩) hlt).trans hc)
  have HLT := Lib.hid hlt
  clear h hv hc hlt
  go_enter Tryd.func19, Tryd.ntmps19
  go_wp2_with fail
  go_loopw [8] (fun i wr => ∃ k : Nat, k ≤ len ∧ i = .int .i64 (k : Int) ∧ Hid (v = ixL g k (l.drop k)) ∧ Hid (Below w.heap.size w wr)) (fun i _ => len - (intOf i).toNat)
  case atStart => exact ⟨0, Nat.zero_le _, rfl, HV, Below.refl _ w⟩
  case round =>
    obtain ⟨k, hk, rfl, hd, hB⟩ := hrel
    by_cases hlk : k < len
    · have hkx : k < l.length := by rw [HX.out.1]; exact hlk
      obtain ⟨b1, o1, x0, x1, x2, x3, x4, rfl, g1, hp, hc1⟩ := LtAt.at HX.out hlk
      obtain ⟨d0, d1, d2, d3, d4⟩ := hc1 wr hB.out
      have hlt2 : bk < wr.heap.size := Nat.lt_of_lt_of_le HLT.out hB.out.size
      by_cases heq : x0 = g
      · have HD : Hid (v = (k : Int)) := hd.out.trans (ix_yes hkx hp heq)
        have C := Lib.hid (pick_any x0 x1 x2 x3 x4 g bk wr (HC.out wr hB.out) hlt2 true (by simpa using heq))
        clear hkx hp hd hc1 hlt2 heq
        go_wp2_with fail
        refine C.out.mono ?_
        rintro e w1 ⟨rfl, hb⟩
        have HB1 := Lib.hid (below_keep hB.out hb hB.out.size)
        go_wp2_with fail
        go_ret
        exact ⟨ret_int HD.out, HB1.out⟩
      · have HD := Lib.hid (hd.out.trans (ix_no hkx hp heq))
        have C := Lib.hid (pick_any x0 x1 x2 x3 x4 g bk wr (HC.out wr hB.out) hlt2 false (by simpa using heq))
        clear hkx hp hd hc1 hlt2 heq
        go_wp2_with fail
        refine C.out.mono ?_
        rintro e w1 ⟨rfl, hb⟩
        have HB1 := Lib.hid (below_keep hB.out hb hB.out.size)
        go_wp2_with fail
        go_roundw
        case rel => exact ⟨k + 1, by omega, by go_num, HD, HB1⟩
        case measure => simp [intOf]; omega
    · obtain rfl : k = len := by omega
      have HD : Hid (v = -1) := hd.out.trans (ix_done (by rw [HX.out.1]; exact hlk))
      clear hd
      go_wp2_with fail
      go_ret
      exact ⟨ret_int HD.out, hB.out⟩

set_option maxHeartbeats 1000000 in
theorem find_any (a : Option Addr) (len cap : Nat) (l : List Lt) (g : Int) (o : Option Lt) (ho : findL g l = o) (w : World) (h : LtAt w a len l) :
    Calls Tryd.prog 7 #[.slice a len cap, .int .i64 g] w fun e w' => e = .returned (.tuple #[ltV (getL o), .bool o.isSome]) ∧ Below w.heap.size w w' := by
  have hf := hmf
  have hl := h.2.1
  have HX := Lib.hid h
  have h0 : Hid (Below w.heap.size w ((w.alloc (.cells #[.int .i64 g] 3)).alloc (.cells #[.int .i64 0, .int .i64 0, .bool false, .int .i64 0, .int .i64 0] 24))) := ((Below.refl _ w).alloc (Nat.le_refl _) _).alloc (by rw [World.size_alloc]; omega) _
  have h1 : Hid (At5 24 ((w.alloc (.cells #[.int .i64 g] 3)).alloc (.cells #[.int .i64 0, .int .i64 0, .bool false, .int .i64 0, .int .i64 0] 24)) (w.heap.size + 1) (.int .i64 0) (.int .i64 0) (.bool false) (.int .i64 0) (.int .i64 0)) := by
    have h := at5_new 24 (w.alloc (.cells #[.int .i64 g] 3)) (.int .i64 0) (.int .i64 0) (.bool false) (.int .i64 0) (.int .i64 0)
    rw [World.size_alloc] at h
    exact h
  have h2 : ((w.alloc (.cells #[.int .i64 g] 3)).alloc (.cells #[.int .i64 0, .int .i64 0, .bool false, .int .i64 0, .int .i64 0] 24)).cell? ⟨w.heap.size, 0, none⟩ = some (.int .i64 g) := by
    have hb : Below (w.alloc (.cells #[.int .i64 g] 3)).heap.size (w.alloc (.cells #[.int .i64 g] 3)) ((w.alloc (.cells #[.int .i64 g] 3)).alloc (.cells #[.int .i64 0, .int .i64 0, .bool false, .int .i64 0, .int .i64 0] 24)) := (Below.refl _ _).alloc (Nat.le_refl _) _
    rw [hb.cell (p := ⟨w.heap.size, 0, none⟩) (by rw [World.size_alloc]; exact Nat.lt_succ_self _), World.cell?_alloc_new]
    rfl
  have h3 : ((w.alloc (.cells #[.int .i64 g] 3)).alloc (.cells #[.int .i64 0, .int .i64 0, .bool false, .int .i64 0, .int .i64 0] 24)).heap.size = w.heap.size + 2 := by simp
  obtain ⟨w1, hw1⟩ : ∃ w1, (w.alloc (.cells #[.int .i64 g] 3)).alloc (.cells #[.int .i64 0, .int .i64 0, .bool false, .int .i64 0, .int .i64 0] 24) = w1 := ⟨_, rfl⟩
  rw [hw1] at h0 h1 h2 h3
  have HW := Lib.hid hw1
  rcases ix_find g l 0 with ⟨hn, hi⟩ | ⟨k, hk, hi, hn⟩
  · have C := Lib.hid (index_any a len cap l g (-1) hi w.heap.size w1 (Rw.At.keep h h0.out) h2 (by omega))
    obtain rfl : none = o := hn.symm.trans ho
    clear h hw1 h2 h3 ho hi hn
    go_enter Tryd.func7, Tryd.ntmps7
    go_wp2_with fail
    rw [show (w.alloc (.cells #[.int .i64 g] 3)).alloc (.cells #[.int .i64 0, .int .i64 0, .bool false, .int .i64 0, .int .i64 0] 24) = w1 from HW.out]
    refine C.out.mono ?_
    rintro e w2 ⟨rfl, hb⟩
    have HB2 := Lib.hid (below_keep h0.out hb h0.out.size)
    have hA := h1.out.keep hb
    have HA := Lib.hid hA
    obtain ⟨z0, z1, z2, z3, z4⟩ := cells5 hA
    obtain ⟨f0, f1, f2, f3, f4⟩ := free5 hA
    clear hA hb
    go_wp2_with fail
    have HRS := Lib.hid (heap_put5 HA.out (.int .i64 0) (.int .i64 0) (.bool false) (.int .i64 0) (.int .i64 0))
    have HB3 := Lib.hid (below_put5 HB2.out (Nat.le_succ w.heap.size) (.int .i64 0) (.int .i64 0) (.bool false) (.int .i64 0) (.int .i64 0))
    exact bodyPost_ret (results_lt (j := 4) (k := 5) rfl _ _ (w.heap.size + 1) _ _ _ _ _ rfl HRS.out) rfl ⟨rfl, HB3.out⟩
  · rw [Nat.zero_add] at hi
    have C := Lib.hid (index_any a len cap l g _ hi w.heap.size w1 (Rw.At.keep h h0.out) h2 (by omega))
    have hkl : k < len := by rw [← HX.out.1]; exact hk
    obtain ⟨b1, o1, x0, x1, x2, x3, x4, rfl, g1, hp, hc1⟩ := LtAt.at HX.out hkl
    rw [hp] at hn
    obtain rfl : some ⟨x0, x1, x2, x3, x4⟩ = o := hn.symm.trans ho
    have HC1 := Lib.hid hc1
    clear h hw1 h2 h3 ho hi hn hp hk hc1 g1
    go_enter Tryd.func7, Tryd.ntmps7
    go_wp2_with fail
    rw [show (w.alloc (.cells #[.int .i64 g] 3)).alloc (.cells #[.int .i64 0, .int .i64 0, .bool false, .int .i64 0, .int .i64 0] 24) = w1 from HW.out]
    refine C.out.mono ?_
    rintro e w2 ⟨rfl, hb⟩
    have HB2 := Lib.hid (below_keep h0.out hb h0.out.size)
    have hA := h1.out.keep hb
    have HA := Lib.hid hA
    obtain ⟨z0, z1, z2, z3, z4⟩ := cells5 hA
    obtain ⟨f0, f1, f2, f3, f4⟩ := free5 hA
    obtain ⟨d0, d1, d2, d3, d4⟩ := HC1.out w2 HB2.out
    clear hA hb
    have HRS := Lib.hid (heap_put5 HA.out (.int .i64 x0) (.int .i64 x1) (.bool x2) (.int .i64 x3) (.int .i64 x4))
    have HB3 := Lib.hid (below_put5 HB2.out (Nat.le_succ w.heap.size) (.int .i64 x0) (.int .i64 x1) (.bool x2) (.int .i64 x3) (.int .i64 x4))
    go_wp2_with fail
    exact bodyPost_ret (results_lt (j := 4) (k := 5) rfl _ _ (w.heap.size + 1) _ _ _ _ _ rfl HRS.out) rfl ⟨rfl, HB3.out⟩
theorem find_is (a : Option Addr) (len cap : Nat) (l : List Lt) (g : Int) (z0 z1 : Int) (z2 : Bool) (z3 z4 : Int) (p : Bool) (hz : getL (findL g l) = ⟨z0, z1, z2, z3, z4⟩) (hp : (findL g l).isSome = p) (w : World) (h : LtAt w a len l) :
    Calls Tryd.prog 7 #[.slice a len cap, .int .i64 g] w fun e w' => e = .returned (.tuple #[.agg #[.int .i64 z0, .int .i64 z1, .bool z2, .int .i64 z3, .int .i64 z4], .bool p]) ∧ Below w.heap.size w w' := by
  have := find_any a len cap l g _ rfl w h
  rw [hz, hp] at this
  exact this
theorem rfind_is (a : Option Addr) (len cap : Nat) (l : List Lt) (g : Int) (z0 z1 : Int) (z2 : Bool) (z3 z4 : Int) (p : Bool) (hz : getL (findL g l) = ⟨z0, z1, z2, z3, z4⟩) (hp : (findL g l).isSome = p) (w : World) (h : LtAt w a len l) :
    Calls Tryd.prog 8 #[.slice a len cap, .int .i64 g] w fun e w' => e = .returned (.tuple #[.agg #[.int .i64 z0, .int .i64 z1, .bool z2, .int .i64 z3, .int .i64 z4], .bool p]) ∧ Below w.heap.size w w' := by
  have := rfind_any a len cap l g _ rfl w h
  rw [hz, hp] at this
  exact this
end Go.Proofs.YtekndioohjlmcaaDoor.Letter
