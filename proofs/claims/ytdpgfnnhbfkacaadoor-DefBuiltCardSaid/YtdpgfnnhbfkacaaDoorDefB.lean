/-
  The contracts of Place and Pivot, both (the program's: IndexFunc over a closure): any definition; what was there stays as it was.
-/
import Derived.Test.YtdpgfnnhbfkacaaDoorDefA
set_option linter.unusedVariables false
set_option linter.unusedSimpArgs false
set_option maxRecDepth 4000
set_option maxRecDepth 4000
namespace Go.Proofs.YtdpgfnnhbfkacaaDoor.Def
open Go.RowKit DefP
open Go.Proofs.YtdpgfnnhbfkacaaDoor.Kt

theorem hmf (fn : Fn) (first cap : Array Value) (w : World) : (Instr.makeFunc fn first cap).run Tryd.prog w = .ok (.func fn first cap) w := rfl
theorem place1_any (x0 x1 x2 x3 x4 x5 : Int) (g : Int) (bk : Nat) (w : World) (hc : w.cell? ⟨bk, 0, none⟩ = some (.int .i64 g)) (hlt : bk < w.heap.size) (b : Bool) (hb : (x0 == g) = b) :
    Calls Tryd.prog 42 #[.agg #[.int .i64 x0, .int .i64 x1, .int .i64 x2, .int .i64 x3, .int .i64 x4, .int .i64 x5], .pointer (some ⟨bk, 0, none⟩)] w fun e w' => e = .returned (.bool b) ∧ Below w.heap.size w w' := by
  have HB := Lib.hid (bx6_new 29 w (.int .i64 x0) (.int .i64 x1) (.int .i64 x2) (.int .i64 x3) (.int .i64 x4) (.int .i64 x5))
  have hc2 : (w.alloc (.cells #[.int .i64 x0, .int .i64 x1, .int .i64 x2, .int .i64 x3, .int .i64 x4, .int .i64 x5] 29)).cell? ⟨bk, 0, none⟩ = some (.int .i64 g) := (HB.out.bel.cell (p := ⟨bk, 0, none⟩) hlt).trans hc
  obtain ⟨q0, q1, q2, q3, q4, q5⟩ := cells6 HB.out.box
  have HV := Lib.hid hb
  go_enter Tryd.func42, Tryd.ntmps42
  go_wp2_with fail
  go_ret
  exact ⟨rfl, HB.out.bel⟩
theorem pivot1_any (x0 x1 x2 x3 x4 x5 : Int) (w : World) (b : Bool) (hb : (x1 == 2) = b) :
    Calls Tryd.prog 35 #[.agg #[.int .i64 x0, .int .i64 x1, .int .i64 x2, .int .i64 x3, .int .i64 x4, .int .i64 x5]] w fun e w' => e = .returned (.bool b) ∧ Below w.heap.size w w' := by
  have HB := Lib.hid (bx6_new 29 w (.int .i64 x0) (.int .i64 x1) (.int .i64 x2) (.int .i64 x3) (.int .i64 x4) (.int .i64 x5))
  obtain ⟨q0, q1, q2, q3, q4, q5⟩ := cells6 HB.out.box
  have HV := Lib.hid hb
  go_enter Tryd.func35, Tryd.ntmps35
  go_wp2_with fail
  go_ret
  exact ⟨rfl, HB.out.bel⟩

set_option maxHeartbeats 1000000 in
theorem indexP_any (a : Option Addr) (len cap : Nat) (l : List Step) (g : Int) (bk : Nat) (v : Int) (hv : placeUp g 0 l = v) (w : World) (h : StAt w a len l) (hc : w.cell? ⟨bk, 0, none⟩ = some (.int .i64 g)) (hlt : bk < w.heap.size) :
    Calls Tryd.prog 34 #[.slice a len cap, .func (.func 42) #[] #[.pointer (some ⟨bk, 0, none⟩)]] w fun e w' => e = .returned (.int .i64 v) ∧ Below w.heap.size w w' := by
  have hl := h.2.1
  have HX := Lib.hid h
  have HV : Hid (v = placeUp g 0 (l.drop 0)) := hv.symm
  have HC := Lib.hid (fun W (hb : Below w.heap.size w W) => (hb.cell (p := ⟨bk, 0, none⟩) hlt).trans hc)
  have HLT := Lib.hid hlt
  clear hc hlt
  clear h hv
  go_enter Tryd.func34, Tryd.ntmps34
  go_wp2_with fail
  go_loopw [8] (fun i wr => ∃ k : Nat, k ≤ len ∧ i = .int .i64 (k : Int) ∧ Hid (v = placeUp g k (l.drop k)) ∧ Hid (Below w.heap.size w wr)) (fun i _ => len - (intOf i).toNat)
  case atStart => exact ⟨0, Nat.zero_le _, rfl, HV, Below.refl _ w⟩
  case round =>
    obtain ⟨k, hk, rfl, hd, hB⟩ := hrel
    by_cases hlk : k < len
    · obtain ⟨b1, o1, x0, x1, x2, x3, x4, x5, rfl, g1, hp, hc1⟩ := StAt.at HX.out hlk
      obtain ⟨d0, d1, d2, d3, d4, d5⟩ := hc1 wr hB.out
      have hlt2 : bk < wr.heap.size := Nat.lt_of_lt_of_le HLT.out hB.out.size
      by_cases heq : x0 = g
      · skip
        have HD : Hid (v = (k : Int)) := hd.out.trans (place_hit hp heq)
        have C := Lib.hid (place1_any x0 x1 x2 x3 x4 x5 g bk wr (HC.out wr hB.out) hlt2 true (by simpa using heq))
        clear hp hd hc1 heq hlt2
        go_wp2_with fail
        refine C.out.mono ?_
        rintro e w1 ⟨rfl, hb⟩
        have HB1 := Lib.hid (below_keep hB.out hb hB.out.size)
        go_wp2_with fail
        go_ret
        exact ⟨ret_int HD.out, HB1.out⟩
      · skip
        have HD := Lib.hid (hd.out.trans (place_miss hp heq))
        have C := Lib.hid (place1_any x0 x1 x2 x3 x4 x5 g bk wr (HC.out wr hB.out) hlt2 false (by simpa using heq))
        clear hp hd hc1 heq hlt2
        go_wp2_with fail
        refine C.out.mono ?_
        rintro e w1 ⟨rfl, hb⟩
        have HB1 := Lib.hid (below_keep hB.out hb hB.out.size)
        go_wp2_with fail
        go_roundw
        case rel => exact ⟨k + 1, by omega, by go_num, HD, HB1⟩
        case measure => simp [intOf]; omega
    · obtain rfl : k = len := by omega
      have HD : Hid (v = -1) := hd.out.trans (place_end (at_len HX.out hlk))
      clear hd
      go_wp2_with fail
      go_ret
      exact ⟨ret_int HD.out, hB.out⟩

set_option maxHeartbeats 1000000 in
theorem indexV_any (a : Option Addr) (len cap : Nat) (l : List Step)  (v : Int) (hv : pivUp 0 l = v) (w : World) (h : StAt w a len l) :
    Calls Tryd.prog 34 #[.slice a len cap, .func (.func 35) #[] #[]] w fun e w' => e = .returned (.int .i64 v) ∧ Below w.heap.size w w' := by
  have hl := h.2.1
  have HX := Lib.hid h
  have HV : Hid (v = pivUp 0 (l.drop 0)) := hv.symm
  clear h hv
  go_enter Tryd.func34, Tryd.ntmps34
  go_wp2_with fail
  go_loopw [8] (fun i wr => ∃ k : Nat, k ≤ len ∧ i = .int .i64 (k : Int) ∧ Hid (v = pivUp k (l.drop k)) ∧ Hid (Below w.heap.size w wr)) (fun i _ => len - (intOf i).toNat)
  case atStart => exact ⟨0, Nat.zero_le _, rfl, HV, Below.refl _ w⟩
  case round =>
    obtain ⟨k, hk, rfl, hd, hB⟩ := hrel
    by_cases hlk : k < len
    · obtain ⟨b1, o1, x0, x1, x2, x3, x4, x5, rfl, g1, hp, hc1⟩ := StAt.at HX.out hlk
      obtain ⟨d0, d1, d2, d3, d4, d5⟩ := hc1 wr hB.out
      by_cases heq : x1 = 2
      · skip
        have HD : Hid (v = (k : Int)) := hd.out.trans (piv_hit hp heq)
        have C := Lib.hid (pivot1_any x0 x1 x2 x3 x4 x5 wr true (by simpa using heq))
        clear hp hd hc1 heq
        go_wp2_with fail
        refine C.out.mono ?_
        rintro e w1 ⟨rfl, hb⟩
        have HB1 := Lib.hid (below_keep hB.out hb hB.out.size)
        go_wp2_with fail
        go_ret
        exact ⟨ret_int HD.out, HB1.out⟩
      · skip
        have HD := Lib.hid (hd.out.trans (piv_miss hp heq))
        have C := Lib.hid (pivot1_any x0 x1 x2 x3 x4 x5 wr false (by simpa using heq))
        clear hp hd hc1 heq
        go_wp2_with fail
        refine C.out.mono ?_
        rintro e w1 ⟨rfl, hb⟩
        have HB1 := Lib.hid (below_keep hB.out hb hB.out.size)
        go_wp2_with fail
        go_roundw
        case rel => exact ⟨k + 1, by omega, by go_num, HD, HB1⟩
        case measure => simp [intOf]; omega
    · obtain rfl : k = len := by omega
      have HD : Hid (v = -1) := hd.out.trans (piv_end (at_len HX.out hlk))
      clear hd
      go_wp2_with fail
      go_ret
      exact ⟨ret_int HD.out, hB.out⟩

theorem place_is (s : ByteArray) (a : Option Addr) (n c : Nat) (l : List Step) (g : Int) (v : Int) (hv : placeL l g = v) (w : World) (h : StAt w a n l) :
    Calls Tryd.prog 22 #[.agg #[.string s, .slice a n c], .int .i64 g] w fun e w' => e = .returned (.int .i64 v) ∧ Below w.heap.size w w' := by
  have hf := hmf
  have h0 : Hid (Below w.heap.size w ((w.alloc (.cells #[.string s, .slice a n c] 24)).alloc (.cells #[.int .i64 g] 3))) := ((Below.refl _ w).alloc (Nat.le_refl _) _).alloc (by rw [World.size_alloc]; omega) _
  have h1 : At2 24 ((w.alloc (.cells #[.string s, .slice a n c] 24)).alloc (.cells #[.int .i64 g] 3)) w.heap.size (.string s) (.slice a n c) := (at2_new 24 w (.string s) (.slice a n c)).alloc _
  have h2 : ((w.alloc (.cells #[.string s, .slice a n c] 24)).alloc (.cells #[.int .i64 g] 3)).cell? ⟨w.heap.size + 1, 0, none⟩ = some (.int .i64 g) := by
    have := World.cell?_alloc_new (w.alloc (.cells #[.string s, .slice a n c] 24)) #[.int .i64 g] 3 0
    rw [World.size_alloc] at this
    rw [this]; rfl
  have h3 : ((w.alloc (.cells #[.string s, .slice a n c] 24)).alloc (.cells #[.int .i64 g] 3)).heap.size = w.heap.size + 2 := by simp
  obtain ⟨q0, q1⟩ := cells2 h1
  obtain ⟨w1, hw1⟩ : ∃ w1, (w.alloc (.cells #[.string s, .slice a n c] 24)).alloc (.cells #[.int .i64 g] 3) = w1 := ⟨_, rfl⟩
  rw [hw1] at h0 h2 h3
  have HW := Lib.hid hw1
  have C := Lib.hid (indexP_any a n c l g (w.heap.size + 1) v hv w1 (Rw.At.keep h h0.out) h2 (by omega))
  clear h hw1 h1 h2 h3 hv
  go_enter Tryd.func22, Tryd.ntmps22
  go_wp2_with fail
  rw [show (w.alloc (.cells #[.string s, .slice a n c] 24)).alloc (.cells #[.int .i64 g] 3) = w1 from HW.out]
  refine C.out.mono ?_
  rintro e w2 ⟨rfl, hb⟩
  have HB2 := Lib.hid (below_keep h0.out hb h0.out.size)
  clear hb
  go_wp2_with fail
  go_ret
  exact ⟨rfl, HB2.out⟩

theorem pivot_is (s : ByteArray) (a : Option Addr) (n c : Nat) (l : List Step) (v : Int) (hv : pivL l = v) (w : World) (h : StAt w a n l) :
    Calls Tryd.prog 8 #[.agg #[.string s, .slice a n c]] w fun e w' => e = .returned (.int .i64 v) ∧ Below w.heap.size w w' := by
  have HB := Lib.hid (bx2_new 24 w (.string s) (.slice a n c))
  obtain ⟨q0, q1⟩ := cells2 HB.out.box
  have C := Lib.hid (indexV_any a n c l v hv (w.alloc (.cells #[.string s, .slice a n c] 24)) (Rw.At.keep h HB.out.bel))
  clear h hv
  go_enter Tryd.func8, Tryd.ntmps8
  go_wp2_with fail
  refine C.out.mono ?_
  rintro e w2 ⟨rfl, hb⟩
  have HB2 := Lib.hid (HB.out.keep hb)
  clear hb
  go_wp2_with fail
  go_ret
  exact ⟨rfl, HB2.out.bel⟩

/-! ### the document's -/
end Go.Proofs.YtdpgfnnhbfkacaaDoor.Def
