/-
  HoldsTell: it returns true for any holds; what was there stays as it was.
-/
import Derived.Test.YtleopanfggmenaaHoldsO
set_option linter.unusedVariables false
set_option maxRecDepth 4000
namespace Go.Proofs.Ytleopanfggmenaa.Holds
open Go.RowKit LinesP HoldsP
open Go.Proofs.Ytleopanfggmenaa.Lines (LsAt Sz SzM ret_bool ret_int below_keep below_drewN)
open Go.Proofs.Ytleopanfggmenaa.Ints (IntsAt)

theorem hold_one (w : World) (b off : Nat) (g t : Int) (la : Option Addr) (n lc : Nat) (ls : List Ln) (hlt : b < w.heap.size) (c0 : w.cell? ⟨b, 0, none⟩ = some (.int .i64 g)) (c1 : w.cell? ⟨b, 1, none⟩ = some (.slice la n lc)) (c2 : w.cell? ⟨b, 2, none⟩ = some (.int .i64 t)) (h : LsAt w la n ls) :
    HsAt w (some ⟨b, 0, none⟩) 1 [⟨g, ls, t⟩] := by
  have hn := h.1
  subst hn
  refine ⟨[(⟨g, ls, t⟩, la, lc)], rfl, rfl, by omega, fun z hz => by rw [List.mem_singleton.1 hz]; exact h, .inr ⟨b, 0, rfl, hlt, fun i hi => ?_⟩⟩
  obtain rfl : i = 0 := by omega
  exact ⟨c0, c1, c2⟩
/-- Two holds, each in a slice of one. -/
theorem two_holds (w : World) (g t g' t' : Int) (la lb : Option Addr) (n m lc ld : Nat) (x y : List Ln) (h1 : LsAt w la n x) (h2 : LsAt w lb m y) {W : World} (hW : (w.alloc (.cells #[.int .i64 g, .slice la n lc, .int .i64 t] 27)).alloc (.cells #[.int .i64 g', .slice lb m ld, .int .i64 t'] 27) = W) :
    Below w.heap.size w W ∧ HsAt W (some ⟨w.heap.size, 0, none⟩) 1 [⟨g, x, t⟩] ∧ HsAt W (some ⟨w.heap.size + 1, 0, none⟩) 1 [⟨g', y, t'⟩] := by
  obtain ⟨hB, hA, hA'⟩ := two_boxes w g t g' t' la lb n m lc ld hW
  obtain ⟨c0, c1, c2⟩ := cells3 hA
  obtain ⟨d0, d1, d2⟩ := cells3 hA'
  exact ⟨hB, hold_one W _ 0 g t la n lc x (heap_lt hA) c0 c1 c2 (h1.keep hB), hold_one W _ 0 g' t' lb m ld y (heap_lt hA') d0 d1 d2 (h2.keep hB)⟩
theorem rsame_is (a c : Option Addr) (la ca lc cc : Nat) (x y : List Hd) (b : Bool) (hb : eqH x y = b) (w : World) (h1 : HsAt w a la x) (h2 : HsAt w c lc y) :
    Calls Try.prog 12 #[.slice a la ca, .slice c lc cc] w fun e w' => e = .returned (.bool b) ∧ Below w.heap.size w w' := by
  have := rsame_any a c la ca lc cc x y w h1 h2
  rw [hb] at this
  exact this
theorem same_is (a c : Option Addr) (la ca lc cc : Nat) (x y : List Hd) (b : Bool) (hb : eqH x y = b) (w : World) (h1 : HsAt w a la x) (h2 : HsAt w c lc y) :
    Calls Try.prog 18 #[.slice a la ca, .slice c lc cc] w fun e w' => e = .returned (.bool b) ∧ Below w.heap.size w w' := by
  have := same_any a c la ca lc cc x y w h1 h2
  rw [hb] at this
  exact this
theorem total_is (a : Option Addr) (len cap : Nat) (l : List Hd) (s : ByteArray) (v : Int) (hv : totH l s = v) (w : World) (h : HsAt w a len l) (hz : SzH l) :
    Calls Try.prog 13 #[.slice a len cap, .string s] w fun e w' => e = .returned (.int .i64 v) ∧ Below w.heap.size w w' := by
  have := total_any a len cap l s w h hz
  rw [hv] at this
  exact this
theorem rtotal_is (a : Option Addr) (len cap : Nat) (l : List Hd) (s : ByteArray) (v : Int) (hv : totH l s = v) (w : World) (h : HsAt w a len l) (hz : SzH l) :
    Calls Try.prog 14 #[.slice a len cap, .string s] w fun e w' => e = .returned (.int .i64 v) ∧ Below w.heap.size w w' := by
  have := rtotal_any a len cap l s w h hz
  rw [hv] at this
  exact this
theorem due_is (a : Option Addr) (len cap : Nat) (l : List Hd) (m : Int) (xs : List Int) (n : Nat) (hx : dueH m l = xs) (hn : xs.length = n) (w : World) (h : HsAt w a len l) (hb : BdH l) (hl : len ≤ 1000000) :
    Calls Try.prog 16 #[.slice a len cap, .int .i64 m] w fun e w' => ∃ a' c', e = .returned (.slice a' n c') ∧ IntsAt w' a' n xs ∧ Below w.heap.size w w' := by
  subst hx
  subst hn
  exact due_any a len cap l m w h hb hl
theorem rdue_is (a : Option Addr) (len cap : Nat) (l : List Hd) (m : Int) (xs : List Int) (n : Nat) (hx : dueH m l = xs) (hn : xs.length = n) (w : World) (h : HsAt w a len l) (hb : BdH l) (hl : len ≤ 1000000) :
    Calls Try.prog 17 #[.slice a len cap, .int .i64 m] w fun e w' => ∃ a' c', e = .returned (.slice a' n c') ∧ IntsAt w' a' n xs ∧ Below w.heap.size w w' := by
  subst hx
  subst hn
  exact rdue_any a len cap l m w h hb hl
theorem find_is (a : Option Addr) (len cap : Nat) (l : List Hd) (g0 : Int) (g t : Int) (ls : List Ln) (n : Nat) (b : Bool) (hx : (findH g0 l).getD hd0 = ⟨g, ls, t⟩) (hn : ls.length = n) (hb : (findH g0 l).isSome = b) (w : World) (h : HsAt w a len l) (hs : ∀ x ∈ l, x.ls.length ≤ 1000000) :
    Calls Try.prog 8 #[.slice a len cap, .int .i64 g0] w fun e w' => ∃ a' c', e = .returned (.tuple #[.agg #[.int .i64 g, .slice a' n c', .int .i64 t], .bool b]) ∧ LsAt w' a' n ls ∧ Below w.heap.size w w' := by
  refine (find_any a len cap l g0 w h hs).mono ?_
  rintro e w' ⟨a', c', rfl, hL, hb'⟩
  rw [hx] at hL ⊢
  subst hn
  subst hb
  exact ⟨a', c', rfl, hL, hb'⟩
theorem rfind_is (a : Option Addr) (len cap : Nat) (l : List Hd) (g0 : Int) (g t : Int) (ls : List Ln) (n : Nat) (b : Bool) (hx : (findH g0 l).getD hd0 = ⟨g, ls, t⟩) (hn : ls.length = n) (hb : (findH g0 l).isSome = b) (w : World) (h : HsAt w a len l) :
    Calls Try.prog 9 #[.slice a len cap, .int .i64 g0] w fun e w' => ∃ a' c', e = .returned (.tuple #[.agg #[.int .i64 g, .slice a' n c', .int .i64 t], .bool b]) ∧ LsAt w' a' n ls ∧ Below w.heap.size w w' := by
  refine (rfind_any a len cap l g0 w h).mono ?_
  rintro e w' ⟨a', c', rfl, hL, hb'⟩
  rw [hx] at hL ⊢
  subst hn
  subst hb
  exact ⟨a', c', rfl, hL, hb'⟩
theorem rfew_is (a : Option Addr) (len cap : Nat) (l : List Hd) (b : Bool) (hb : fewH l = b) (w : World) (h : HsAt w a len l) (hs : SzMH l) :
    Calls Try.prog 6 #[.slice a len cap] w fun e w' => e = .returned (.bool b) ∧ Below w.heap.size w w' := by
  have := rfew_any a len cap l w h hs
  rw [hb] at this
  exact this
set_option maxHeartbeats 2000000 in
theorem tell_few0 (a0 : Option Addr) (len0 cap0 : Nat) (a1 : Option Addr) (len1 cap1 : Nat) (l0 l1 : List Hd) (m : Int) (s : ByteArray) (w : World) (h0 : HsAt w a0 len0 l0) (h1 : HsAt w a1 len1 l1) (s0 : SzMH l0) (s1 : SzMH l1) (f0 : fewH l0 = false) :
    Calls Try.prog 3 #[.slice a0 len0 cap0, .slice a1 len1 cap1, .int .i64 m, .string s] w fun e w' => e = .returned (.bool true) ∧ Below w.heap.size w w' := by
  have C1 := Lib.hid (rfew_is a0 len0 cap0 l0 false f0 w h0 s0)
  clear h0 h1 s0 s1 f0
  go_enter Try.func3, Try.ntmps3
  go_wp2_with fail
  refine C1.out.mono ?_
  rintro e w1 ⟨rfl, hb1⟩
  have HB1 := Lib.hid hb1
  clear hb1
  go_wp2_with fail
  refine (awake_any w1).mono ?_
  rintro e wz ⟨rfl, hbz⟩
  have HBZ := Lib.hid (below_keep HB1.out hbz HB1.out.size)
  clear hbz
  go_wp2_with fail
  go_ret
  exact ⟨rfl, HBZ.out⟩
set_option maxHeartbeats 2000000 in
theorem tell_few1 (a0 : Option Addr) (len0 cap0 : Nat) (a1 : Option Addr) (len1 cap1 : Nat) (l0 l1 : List Hd) (m : Int) (s : ByteArray) (w : World) (h0 : HsAt w a0 len0 l0) (h1 : HsAt w a1 len1 l1) (s0 : SzMH l0) (s1 : SzMH l1) (f0 : fewH l0 = true) (f1 : fewH l1 = false) :
    Calls Try.prog 3 #[.slice a0 len0 cap0, .slice a1 len1 cap1, .int .i64 m, .string s] w fun e w' => e = .returned (.bool true) ∧ Below w.heap.size w w' := by
  have C1 := Lib.hid (rfew_is a0 len0 cap0 l0 true f0 w h0 s0)
  have HX1 := Lib.hid h1; have HF1 := Lib.hid f1; have HM1 := Lib.hid s1
  clear h0 h1 s0 s1 f0 f1
  go_enter Try.func3, Try.ntmps3
  go_wp2_with fail
  refine C1.out.mono ?_
  rintro e w1 ⟨rfl, hb1⟩
  have HB1 := Lib.hid hb1
  have C2 := Lib.hid (rfew_is a1 len1 cap1 l1 false HF1.out w1 (HX1.out.keep hb1) HM1.out)
  clear hb1
  go_wp2_with fail
  refine C2.out.mono ?_
  rintro e w2 ⟨rfl, hb2⟩
  have HB2 := Lib.hid (below_keep HB1.out hb2 HB1.out.size)
  clear hb2
  go_wp2_with fail
  refine (awake_any w2).mono ?_
  rintro e wz ⟨rfl, hbz⟩
  have HBZ := Lib.hid (below_keep HB2.out hbz HB2.out.size)
  clear hbz
  go_wp2_with fail
  go_ret
  exact ⟨rfl, HBZ.out⟩
set_option maxHeartbeats 2000000 in
theorem tell_long (a0 : Option Addr) (len0 cap0 : Nat) (a1 : Option Addr) (len1 cap1 : Nat) (l0 l1 : List Hd) (m : Int) (s : ByteArray) (w : World) (h0 : HsAt w a0 len0 l0) (h1 : HsAt w a1 len1 l1) (s0 : SzMH l0) (s1 : SzMH l1) (f0 : fewH l0 = true) (f1 : fewH l1 = true) (hlong : 60 < s.size) (hmax : s.size ≤ 9223372036854775807) :
    Calls Try.prog 3 #[.slice a0 len0 cap0, .slice a1 len1 cap1, .int .i64 m, .string s] w fun e w' => e = .returned (.bool true) ∧ Below w.heap.size w w' := by
  have hi : (60 : Int) < (s.size : Int) := by omega
  have C1 := Lib.hid (rfew_is a0 len0 cap0 l0 true f0 w h0 s0)
  have HX0 := Lib.hid h0; have HX1 := Lib.hid h1; have HF1 := Lib.hid f1; have HM1 := Lib.hid s1; have HF0 := Lib.hid f0; have HM0 := Lib.hid s0
  clear h0 h1 s0 s1 f0 f1
  go_enter Try.func3, Try.ntmps3
  go_wp2_with fail
  refine C1.out.mono ?_
  rintro e w1 ⟨rfl, hb1⟩
  have HB1 := Lib.hid hb1
  have C2 := Lib.hid (rfew_is a1 len1 cap1 l1 true HF1.out w1 (HX1.out.keep hb1) HM1.out)
  clear hb1
  go_wp2_with fail
  refine C2.out.mono ?_
  rintro e w2 ⟨rfl, hb2⟩
  have HB2 := Lib.hid (below_keep HB1.out hb2 HB1.out.size)
  clear hb2 C1 C2
  go_wp2_with fail
  refine (awake_any w2).mono ?_
  rintro e wz ⟨rfl, hbz⟩
  have HBZ := Lib.hid (below_keep HB2.out hbz HB2.out.size)
  clear hbz
  go_wp2_with fail
  go_ret
  exact ⟨rfl, HBZ.out⟩
set_option maxHeartbeats 2000000 in
theorem tell_walk (a0 : Option Addr) (len0 cap0 : Nat) (a1 : Option Addr) (len1 cap1 : Nat) (l0 l1 : List Hd) (m : Int) (s : ByteArray) (w : World) (h0 : HsAt w a0 len0 l0) (h1 : HsAt w a1 len1 l1) (s0 : SzMH l0) (s1 : SzMH l1) (b0 : BdH l0) (f0 : fewH l0 = true) (f1 : fewH l1 = true) (hs60 : s.size ≤ 60) :
    Calls Try.prog 3 #[.slice a0 len0 cap0, .slice a1 len1 cap1, .int .i64 m, .string s] w fun e w' => e = .returned (.bool true) ∧ Below w.heap.size w w' := by
  have hi : ¬ (60 : Int) < (s.size : Int) := by omega
  obtain ⟨z1, z2, z3⟩ := fewH_sz f0 s0
  have HZ0 := Lib.hid z2
  have HN0 : Hid (∀ x ∈ l0, x.ls.length ≤ 1000000) := fun x hx => by have := z3 x hx; omega
  have hl0 := h0.len
  have h20 : len0 ≤ 20 := by omega
  have HBD := Lib.hid b0
  obtain ⟨v, hv⟩ : ∃ v, fitH l0 = v := ⟨_, rfl⟩
  have HV := Lib.hid hv
  obtain ⟨bs, hbs⟩ : ∃ b, (findH m l0).isSome = b := ⟨_, rfl⟩
  have HBS := Lib.hid hbs
  obtain ⟨⟨g, ls, t⟩, hx⟩ : ∃ x, (findH m l0).getD hd0 = x := ⟨_, rfl⟩
  have HX := Lib.hid hx
  obtain ⟨n, hn⟩ : ∃ n, ls.length = n := ⟨_, rfl⟩
  have HN := Lib.hid hn
  obtain ⟨tv, htv⟩ : ∃ v, totH l0 s = v := ⟨_, rfl⟩
  have HTV := Lib.hid htv
  obtain ⟨xs, hxs⟩ : ∃ xs, dueH m l0 = xs := ⟨_, rfl⟩
  have HXS := Lib.hid hxs
  obtain ⟨q, hq⟩ : ∃ n, xs.length = n := ⟨_, rfl⟩
  have HQ := Lib.hid hq
  have hq20 : q ≤ 9223372036854775807 := by
    rw [← hq, ← hxs]
    unfold dueH
    rw [List.length_map]
    have := List.length_filter_le (dueB m) l0
    omega
  obtain ⟨ev, hev⟩ : ∃ v, eqH l0 l1 = v := ⟨_, rfl⟩
  have HEV := Lib.hid hev
  clear z1 z2 z3 hl0 b0 hv hbs hx hn htv hxs hq hev
  have C1 := Lib.hid (rfew_is a0 len0 cap0 l0 true f0 w h0 s0)
  have HX0 := Lib.hid h0; have HX1 := Lib.hid h1; have HF1 := Lib.hid f1; have HM1 := Lib.hid s1; have HF0 := Lib.hid f0; have HM0 := Lib.hid s0
  clear h0 h1 s0 s1 f0 f1
  go_enter Try.func3, Try.ntmps3
  go_wp2_with fail
  refine C1.out.mono ?_
  rintro e w1 ⟨rfl, hb1⟩
  have HB1 := Lib.hid hb1
  have C2 := Lib.hid (rfew_is a1 len1 cap1 l1 true HF1.out w1 (HX1.out.keep hb1) HM1.out)
  clear hb1
  go_wp2_with fail
  refine C2.out.mono ?_
  rintro e w2 ⟨rfl, hb2⟩
  have HB2 := Lib.hid (below_keep HB1.out hb2 HB1.out.size)
  clear hb2 C1 C2
  have C3 := Lib.hid (find_is a0 len0 cap0 l0 m g t ls n bs HX.out HN.out HBS.out w2 (HX0.out.keep HB2.out) HN0.out)
  go_wp2_with fail
  refine C3.out.mono ?_
  rintro e w3 ⟨a3, c3, rfl, hL3, hb3⟩
  have HB3' := Lib.hid (below_keep HB2.out hb3 HB2.out.size)
  have HL3 := Lib.hid (hL3.keep (box_below w3 g a3 n c3 t))
  have HB3 := Lib.hid (below_keep HB3'.out (box_below w3 g a3 n c3 t) HB3'.out.size)
  have HA3 := Lib.hid (at3_new w3 (.int .i64 g) (.slice a3 n c3) (.int .i64 t))
  unfold box at HL3 HB3
  obtain ⟨W3, hW3⟩ : ∃ W3, w3.alloc (.cells #[.int .i64 g, .slice a3 n c3, .int .i64 t] 27) = W3 := ⟨_, rfl⟩
  rw [hW3] at HL3 HB3 HA3
  have HW3 := Lib.hid hW3
  have C4 := Lib.hid (rfind_is a0 len0 cap0 l0 m g t ls n bs HX.out HN.out HBS.out W3 (HX0.out.keep HB3.out))
  clear hL3 hb3 hW3 HB3' C3
  go_wp2_with fail
  rw [show w3.alloc (.cells #[.int .i64 g, .slice a3 n c3, .int .i64 t] 27) = W3 from HW3.out]
  refine C4.out.mono ?_
  rintro e w4 ⟨a4, c4, rfl, hL4, hb4⟩
  have HB4' := Lib.hid (below_keep HB3.out hb4 HB3.out.size)
  have HL4 := Lib.hid (hL4.keep (box_below w4 g a4 n c4 t))
  have HL34 := Lib.hid ((HL3.out.keep hb4).keep (box_below w4 g a4 n c4 t))
  have HA34 := Lib.hid ((HA3.out.keep hb4).keep (box_below w4 g a4 n c4 t))
  have HB4 := Lib.hid (below_keep HB4'.out (box_below w4 g a4 n c4 t) HB4'.out.size)
  have HA4 := Lib.hid (at3_new w4 (.int .i64 g) (.slice a4 n c4) (.int .i64 t))
  unfold box at HL4 HB4 HL34 HA34
  obtain ⟨W4, hW4⟩ : ∃ W4, w4.alloc (.cells #[.int .i64 g, .slice a4 n c4, .int .i64 t] 27) = W4 := ⟨_, rfl⟩
  rw [hW4] at HL4 HB4 HA4 HL34 HA34
  have HW4 := Lib.hid hW4
  have C5 := Lib.hid (fit_is a0 len0 cap0 l0 v HV.out W4 (HX0.out.keep HB4.out) HZ0.out)
  clear hL4 hb4 hW4 HB4' C4 HL3 HA3
  go_wp2_with fail
  rw [show w4.alloc (.cells #[.int .i64 g, .slice a4 n c4, .int .i64 t] 27) = W4 from HW4.out]
  refine C5.out.mono ?_
  rintro e w5 ⟨rfl, hb5⟩
  have HB5 := Lib.hid (below_keep HB4.out hb5 HB4.out.size)
  have HL5 := Lib.hid (HL4.out.keep hb5); have HL35 := Lib.hid (HL34.out.keep hb5)
  have HA5 := Lib.hid (HA4.out.keep hb5); have HA35 := Lib.hid (HA34.out.keep hb5)
  have C6 := Lib.hid (rfit_is a0 len0 cap0 l0 v HV.out w5 (HX0.out.keep HB5.out) HZ0.out)
  clear hb5 C5 HL4 HL34 HA4 HA34
  go_wp2_with fail
  refine C6.out.mono ?_
  rintro e w6 ⟨rfl, hb6⟩
  have HB6 := Lib.hid (below_keep HB5.out hb6 HB5.out.size)
  have HL6 := Lib.hid (HL5.out.keep hb6); have HL36 := Lib.hid (HL35.out.keep hb6)
  obtain ⟨y0, y1, y2⟩ := cells3 (HA35.out.keep hb6)
  obtain ⟨u0, u1, u2⟩ := cells3 ((HA5.out.keep hb6).keep (box_below w6 g a3 n c3 t))
  unfold box at u0 u1 u2
  obtain ⟨W7, hW7⟩ : ∃ W7, (w6.alloc (.cells #[.int .i64 g, .slice a3 n c3, .int .i64 t] 27)).alloc (.cells #[.int .i64 g, .slice a4 n c4, .int .i64 t] 27) = W7 := ⟨_, rfl⟩
  obtain ⟨hb7, hh1, hh2⟩ := two_holds w6 g t g t a3 a4 n n c3 c4 ls ls HL36.out HL6.out hW7
  have HB7 := Lib.hid (below_keep HB6.out hb7 HB6.out.size)
  have C7 := Lib.hid (rsame_is (some ⟨w6.heap.size, 0, none⟩) (some ⟨w6.heap.size + 1, 0, none⟩) 1 1 1 1 [⟨g, ls, t⟩] [⟨g, ls, t⟩] true (eqH_iff.2 rfl) W7 hh1 hh2)
  have HW7 := Lib.hid hW7
  clear hb6 C6 HL5 HL35 HA5 HA35 hb7 hh1 hh2 hW7
  go_wp2_with fail
  rw [show (w6.alloc (.cells #[.int .i64 g, .slice a3 n c3, .int .i64 t] 27)).alloc (.cells #[.int .i64 g, .slice a4 n c4, .int .i64 t] 27) = W7 from HW7.out]
  refine C7.out.mono ?_
  rintro e w8 ⟨rfl, hb8⟩
  have HB8 := Lib.hid (below_keep HB7.out hb8 HB7.out.size)
  have C8 := Lib.hid (total_is a0 len0 cap0 l0 s tv HTV.out w8 (HX0.out.keep HB8.out) HZ0.out)
  clear hb8 C7 y0 y1 y2 u0 u1 u2
  go_wp2_with fail
  refine C8.out.mono ?_
  rintro e w9 ⟨rfl, hb9⟩
  have HB9 := Lib.hid (below_keep HB8.out hb9 HB8.out.size)
  have C9 := Lib.hid (rtotal_is a0 len0 cap0 l0 s tv HTV.out w9 (HX0.out.keep HB9.out) HZ0.out)
  clear hb9 C8
  go_wp2_with fail
  refine C9.out.mono ?_
  rintro e w10 ⟨rfl, hb10⟩
  have HB10 := Lib.hid (below_keep HB9.out hb10 HB9.out.size)
  have C10 := Lib.hid (due_is a0 len0 cap0 l0 m xs q HXS.out HQ.out w10 (HX0.out.keep HB10.out) HBD.out (by omega))
  clear hb10 C9
  go_wp2_with fail
  refine C10.out.mono ?_
  rintro e w11 ⟨a11, c11, rfl, hI11, hb11⟩
  have HB11 := Lib.hid (below_keep HB10.out hb11 HB10.out.size)
  have HI11 := Lib.hid hI11
  have C11 := Lib.hid (rdue_is a0 len0 cap0 l0 m xs q HXS.out HQ.out w11 (HX0.out.keep HB11.out) HBD.out (by omega))
  clear hb11 C10 hI11
  go_wp2_with fail
  refine C11.out.mono ?_
  rintro e w12 ⟨a12, c12, rfl, hI12, hb12⟩
  have HB12 := Lib.hid (below_keep HB11.out hb12 HB11.out.size)
  have C12 := Lib.hid (rints_same a11 a12 q c11 q c12 xs xs w12 (HI11.out.keep hb12) hI12 hq20 hq20 rfl)
  clear hb12 C11 hI12 HI11
  go_wp2_with fail
  refine C12.out.mono ?_
  rintro e w13 ⟨rfl, hb13⟩
  have HB13 := Lib.hid (below_keep HB12.out hb13 HB12.out.size)
  have C13 := Lib.hid (same_is a0 a1 len0 cap0 len1 cap1 l0 l1 ev HEV.out w13 (HX0.out.keep HB13.out) (HX1.out.keep HB13.out))
  clear hb13 C12
  go_wp2_with fail
  refine C13.out.mono ?_
  rintro e w14 ⟨rfl, hb14⟩
  have HB14 := Lib.hid (below_keep HB13.out hb14 HB13.out.size)
  have C14 := Lib.hid (rsame_is a0 a1 len0 cap0 len1 cap1 l0 l1 ev HEV.out w14 (HX0.out.keep HB14.out) (HX1.out.keep HB14.out))
  clear hb14 C13
  go_wp2_with fail
  refine C14.out.mono ?_
  rintro e w15 ⟨rfl, hb15⟩
  have HB15 := Lib.hid (below_keep HB14.out hb15 HB14.out.size)
  clear hb15 C14
  go_wp2_with fail
  refine (awake_any w15).mono ?_
  rintro e wz ⟨rfl, hbz⟩
  have HBZ := Lib.hid (below_keep HB15.out hbz HB15.out.size)
  clear hbz
  go_wp2_with fail
  go_ret
  exact ⟨rfl, HBZ.out⟩
end Go.Proofs.Ytleopanfggmenaa.Holds
