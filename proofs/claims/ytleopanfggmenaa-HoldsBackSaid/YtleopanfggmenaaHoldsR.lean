/-
  HoldsBack: it returns true for any holds, any hold, any Sku; what was there stays as it was.
-/
import Derived.Test.YtleopanfggmenaaHoldsFr
set_option linter.unusedVariables false
set_option maxRecDepth 4000
namespace Go.Proofs.Ytleopanfggmenaa.Holds
open Go.RowKit LinesP HoldsP
open Go.Proofs.Ytleopanfggmenaa.Lines (LsAt Sz SzM ret_bool ret_int below_keep below_drewN fewV)

theorem bjoin1 {G : Prop} {P F : World → Prop} (main : (∀ w, F w → P w) → G) (pf : ∀ w, F w → P w) : G := main pf
theorem bjoin3 {G : Prop} {P F : World → Nat → Nat → Prop} (main : (∀ w p q, F w p q → P w p q) → G) (pf : ∀ w p q, F w p q → P w p q) : G := main pf
theorem put_mem {l : List Hd} {h x : Hd} (hx : x ∈ putL l h) : x = h ∨ x ∈ l := by
  unfold putL at hx
  rcases List.mem_append.1 hx with hx | hx
  · exact .inr (List.mem_of_mem_take hx)
  · rcases List.mem_cons.1 hx with rfl | hx
    · exact .inl rfl
    · exact .inr (List.mem_of_mem_drop hx)
theorem two_holds' (w : World) (g t g' t' : Int) (la lb : Option Addr) (n m lc ld : Nat) (x y : List Ln) (h1 : LsAt w la n x) (h2 : LsAt w lb m y) {W : World} {p0 p1 : Nat} (hp0 : w.heap.size = p0) (hp1 : p0 + 1 = p1) (hW : (w.alloc (.cells #[.int .i64 g, .slice la n lc, .int .i64 t] 27)).alloc (.cells #[.int .i64 g', .slice lb m ld, .int .i64 t'] 27) = W) :
    Below w.heap.size w W ∧ HsAt W (some ⟨p0, 0, none⟩) 1 [⟨g, x, t⟩] ∧ HsAt W (some ⟨p1, 0, none⟩) 1 [⟨g', y, t'⟩] := by
  subst hp1
  subst hp0
  exact two_holds w g t g' t' la lb n m lc ld x y h1 h2 hW
theorem rofs_is (la : Option Addr) (n lc : Nat) (ls : List Ln) (s : ByteArray) (v : Int) (hv : ofL s ls = v) (w : World) (h : LsAt w la n ls) :
    Calls Try.prog 24 #[.slice la n lc, .string s] w fun e w' => e = .returned (.int .i64 v) ∧ Below w.heap.size w w' := rof_is la n lc ls s v hv w h
set_option maxHeartbeats 4000000 in
theorem back_few0 (a0 : Option Addr) (len0 cap0 : Nat) (g t : Int) (la : Option Addr) (n lc : Nat) (s : ByteArray) (l : List Hd) (ls : List Ln) (w : World) (h : HsAt w a0 len0 l) (hL : LsAt w la n ls) (s0 : SzMH l) (s1 : SzM ls) (f0 : fewH l = false) :
    Calls Try.prog 5 #[.slice a0 len0 cap0, .agg #[.int .i64 g, .slice la n lc, .int .i64 t], .string s] w fun e w' => e = .returned (.bool true) ∧ Below w.heap.size w w' := by
  have HB := Lib.hid (box_below w g la n lc t)
  have HC := Lib.hid (fun w' hb => box_cells w g la n lc t (w' := w') hb)
  have HX := Lib.hid (h.keep (box_below w g la n lc t))
  have HL := Lib.hid (hL.keep (box_below w g la n lc t))
  obtain ⟨W, hW⟩ : ∃ W, box w g la n lc t = W := ⟨_, rfl⟩
  have HW : Hid (w.alloc (.cells #[.int .i64 g, .slice la n lc, .int .i64 t] 27) = W) := hW
  rw [hW] at HB HC HX HL
  clear h hL hW
  have C1 := Lib.hid (rfew_is a0 len0 cap0 l false f0 W HX.out s0)
  clear s0 s1 f0
  go_enter Try.func5, Try.ntmps5
  go_wp2_with fail
  rw [show w.alloc (.cells #[.int .i64 g, .slice la n lc, .int .i64 t] 27) = W from HW.out]
  refine C1.out.mono ?_
  rintro e w1 ⟨rfl, hb1⟩
  have HB1 := Lib.hid hb1
  clear hb1
  go_wp2_with fail
  refine (awake_any w1).mono ?_
  rintro e wz ⟨rfl, hbz⟩
  have HBZ := Lib.hid (below_keep HB.out (below_keep HB1.out hbz HB1.out.size) HB.out.size)
  clear hbz
  go_wp2_with fail
  go_ret
  exact ⟨rfl, HBZ.out⟩
set_option maxHeartbeats 4000000 in
theorem back_few1 (a0 : Option Addr) (len0 cap0 : Nat) (g t : Int) (la : Option Addr) (n lc : Nat) (s : ByteArray) (l : List Hd) (ls : List Ln) (w : World) (h : HsAt w a0 len0 l) (hL : LsAt w la n ls) (s0 : SzMH l) (s1 : SzM ls) (f0 : fewH l = true) (f1 : fewV ls = false) :
    Calls Try.prog 5 #[.slice a0 len0 cap0, .agg #[.int .i64 g, .slice la n lc, .int .i64 t], .string s] w fun e w' => e = .returned (.bool true) ∧ Below w.heap.size w w' := by
  have HB := Lib.hid (box_below w g la n lc t)
  have HC := Lib.hid (fun w' hb => box_cells w g la n lc t (w' := w') hb)
  have HX := Lib.hid (h.keep (box_below w g la n lc t))
  have HL := Lib.hid (hL.keep (box_below w g la n lc t))
  obtain ⟨W, hW⟩ : ∃ W, box w g la n lc t = W := ⟨_, rfl⟩
  have HW : Hid (w.alloc (.cells #[.int .i64 g, .slice la n lc, .int .i64 t] 27) = W) := hW
  rw [hW] at HB HC HX HL
  clear h hL hW
  have C1 := Lib.hid (rfew_is a0 len0 cap0 l true f0 W HX.out s0)
  have HF1 := Lib.hid f1; have HM1 := Lib.hid s1
  clear s0 s1 f0 f1
  go_enter Try.func5, Try.ntmps5
  go_wp2_with fail
  rw [show w.alloc (.cells #[.int .i64 g, .slice la n lc, .int .i64 t] 27) = W from HW.out]
  refine C1.out.mono ?_
  rintro e w1 ⟨rfl, hb1⟩
  have HB1 := Lib.hid hb1
  obtain ⟨q0, q1, q2⟩ := HC.out w1 hb1
  have C2 := Lib.hid (rfewL_is la n lc ls false HF1.out w1 (HL.out.keep hb1) HM1.out)
  clear hb1
  go_wp2_with fail
  refine C2.out.mono ?_
  rintro e w2 ⟨rfl, hb2⟩
  have HB2 := Lib.hid (below_keep HB1.out hb2 HB1.out.size)
  clear hb2 q0 q1 q2 C1 C2
  go_wp2_with fail
  refine (awake_any w2).mono ?_
  rintro e wz ⟨rfl, hbz⟩
  have HBZ := Lib.hid (below_keep HB.out (below_keep HB2.out hbz HB2.out.size) HB.out.size)
  clear hbz
  go_wp2_with fail
  go_ret
  exact ⟨rfl, HBZ.out⟩
set_option maxHeartbeats 4000000 in
theorem back_long (a0 : Option Addr) (len0 cap0 : Nat) (g t : Int) (la : Option Addr) (n lc : Nat) (s : ByteArray) (l : List Hd) (ls : List Ln) (w : World) (h : HsAt w a0 len0 l) (hL : LsAt w la n ls) (s0 : SzMH l) (s1 : SzM ls) (f0 : fewH l = true) (f1 : fewV ls = true) (hlong : 60 < s.size) (hmax : s.size ≤ 9223372036854775807) :
    Calls Try.prog 5 #[.slice a0 len0 cap0, .agg #[.int .i64 g, .slice la n lc, .int .i64 t], .string s] w fun e w' => e = .returned (.bool true) ∧ Below w.heap.size w w' := by
  have hi : (60 : Int) < (s.size : Int) := by omega
  have HB := Lib.hid (box_below w g la n lc t)
  have HC := Lib.hid (fun w' hb => box_cells w g la n lc t (w' := w') hb)
  have HX := Lib.hid (h.keep (box_below w g la n lc t))
  have HL := Lib.hid (hL.keep (box_below w g la n lc t))
  obtain ⟨W, hW⟩ : ∃ W, box w g la n lc t = W := ⟨_, rfl⟩
  have HW : Hid (w.alloc (.cells #[.int .i64 g, .slice la n lc, .int .i64 t] 27) = W) := hW
  rw [hW] at HB HC HX HL
  clear h hL hW
  have C1 := Lib.hid (rfew_is a0 len0 cap0 l true f0 W HX.out s0)
  have HF1 := Lib.hid f1; have HM1 := Lib.hid s1
  clear s0 s1 f0 f1
  go_enter Try.func5, Try.ntmps5
  go_wp2_with fail
  rw [show w.alloc (.cells #[.int .i64 g, .slice la n lc, .int .i64 t] 27) = W from HW.out]
  refine C1.out.mono ?_
  rintro e w1 ⟨rfl, hb1⟩
  have HB1 := Lib.hid hb1
  obtain ⟨q0, q1, q2⟩ := HC.out w1 hb1
  have C2 := Lib.hid (rfewL_is la n lc ls true HF1.out w1 (HL.out.keep hb1) HM1.out)
  clear hb1
  go_wp2_with fail
  refine C2.out.mono ?_
  rintro e w2 ⟨rfl, hb2⟩
  have HB2 := Lib.hid (below_keep HB1.out hb2 HB1.out.size)
  clear hb2 q0 q1 q2 C1 C2
  go_wp2_with fail
  refine (awake_any w2).mono ?_
  rintro e wz ⟨rfl, hbz⟩
  have HBZ := Lib.hid (below_keep HB.out (below_keep HB2.out hbz HB2.out.size) HB.out.size)
  clear hbz
  go_wp2_with fail
  go_ret
  exact ⟨rfl, HBZ.out⟩
set_option maxHeartbeats 4000000 in
theorem back_err (a0 : Option Addr) (len0 cap0 : Nat) (g t : Int) (la : Option Addr) (n lc : Nat) (s : ByteArray) (l : List Hd) (ls : List Ln) (w : World) (h : HsAt w a0 len0 l) (hL : LsAt w la n ls) (s0 : SzMH l) (s1 : SzM ls) (hc : len0 ≤ cap0) (f0 : fewH l = true) (f1 : fewV ls = true) (hs60 : s.size ≤ 60) (er : Int) (hr : putH l ⟨g, ls, t⟩ = ([], er)) (hne : er ≠ 0) :
    Calls Try.prog 5 #[.slice a0 len0 cap0, .agg #[.int .i64 g, .slice la n lc, .int .i64 t], .string s] w fun e w' => e = .returned (.bool true) ∧ Below w.heap.size w w' := by
  have hi : ¬ (60 : Int) < (s.size : Int) := by omega
  obtain ⟨z1, z2, z3⟩ := fewH_sz f0 s0
  obtain ⟨z4, z5⟩ := Lines.few_sz f1 s1
  have HZ := Lib.hid z2; have HZ2 := Lib.hid z5
  have HN : Hid (∀ x ∈ l, x.ls.length ≤ 1000000) := fun x hx => by have := z3 x hx; omega
  have hl0 := h.len
  have h20 : len0 ≤ 20 := by omega
  have hn8 : n ≤ 8 := by have := hL.1; omega
  obtain ⟨tl, htl⟩ : ∃ v, totH l s = v := ⟨_, rfl⟩
  have HTL := Lib.hid htl
  have HR := Lib.hid hr
  have her : (er != 0) = true := bne_iff_ne.2 hne
  clear z1 z2 z3 z4 z5 hl0 hr htl hne
  have HB := Lib.hid (box_below w g la n lc t)
  have HC := Lib.hid (fun w' hb => box_cells w g la n lc t (w' := w') hb)
  have HX := Lib.hid (h.keep (box_below w g la n lc t))
  have HL := Lib.hid (hL.keep (box_below w g la n lc t))
  obtain ⟨W, hW⟩ : ∃ W, box w g la n lc t = W := ⟨_, rfl⟩
  have HW : Hid (w.alloc (.cells #[.int .i64 g, .slice la n lc, .int .i64 t] 27) = W) := hW
  rw [hW] at HB HC HX HL
  clear h hL hW
  have C1 := Lib.hid (rfew_is a0 len0 cap0 l true f0 W HX.out s0)
  have HF1 := Lib.hid f1; have HM1 := Lib.hid s1
  clear s0 s1 f0 f1
  go_enter Try.func5, Try.ntmps5
  go_wp2_with fail
  rw [show w.alloc (.cells #[.int .i64 g, .slice la n lc, .int .i64 t] 27) = W from HW.out]
  refine C1.out.mono ?_
  rintro e w1 ⟨rfl, hb1⟩
  have HB1 := Lib.hid hb1
  obtain ⟨q0, q1, q2⟩ := HC.out w1 hb1
  have C2 := Lib.hid (rfewL_is la n lc ls true HF1.out w1 (HL.out.keep hb1) HM1.out)
  clear hb1
  go_wp2_with fail
  refine C2.out.mono ?_
  rintro e w2 ⟨rfl, hb2⟩
  have HB2 := Lib.hid (below_keep HB1.out hb2 HB1.out.size)
  clear hb2 q0 q1 q2 C1 C2
  have C3 := Lib.hid (total_is a0 len0 cap0 l s tl HTL.out w2 (HX.out.keep HB2.out) HZ.out)
  go_wp2_with fail
  refine C3.out.mono ?_
  rintro e w3 ⟨rfl, hb3⟩
  have HB3 := Lib.hid (below_keep HB2.out hb3 HB2.out.size)
  clear hb3 C3
  obtain ⟨q0, q1, q2⟩ := HC.out w3 HB3.out
  have C4 := Lib.hid (put_is a0 len0 cap0 l g t la n lc ls [] er 0 HR.out rfl w3 (HX.out.keep HB3.out) hc (HL.out.keep HB3.out) HZ.out HZ2.out HN.out (by omega))
  go_wp2_with fail
  refine C4.out.mono ?_
  rintro e w4 ⟨a4, c4, rfl, hc4, hA4, hb4⟩
  have HB4 := Lib.hid (below_keep HB3.out hb4 HB3.out.size)
  have HA4 := Lib.hid hA4
  clear hA4 hb4 C4 q0 q1 q2
  go_wp2_with fail
  refine (awake_any w4).mono ?_
  rintro e wz ⟨rfl, hbz⟩
  have HBZ := Lib.hid (below_keep HB.out (below_keep HB4.out hbz HB4.out.size) HB.out.size)
  clear hbz
  go_wp2_with fail
  go_ret
  exact ⟨rfl, HBZ.out⟩
set_option maxHeartbeats 4000000 in
theorem back_ok (a0 : Option Addr) (len0 cap0 : Nat) (g t : Int) (la : Option Addr) (n lc : Nat) (s : ByteArray) (l : List Hd) (ls : List Ln) (w : World) (h : HsAt w a0 len0 l) (hL : LsAt w la n ls) (s0 : SzMH l) (s1 : SzM ls) (hc : len0 ≤ cap0) (f0 : fewH l = true) (f1 : fewV ls = true) (hs60 : s.size ≤ 60) (hr : putH l ⟨g, ls, t⟩ = (putL l ⟨g, ls, t⟩, 0)) (k1 : fitH l = true) (k2 : oneH ⟨g, ls, t⟩ = true) (k3 : (findH g l).isSome = false) (k4 : l.length < 16) :
    Calls Try.prog 5 #[.slice a0 len0 cap0, .agg #[.int .i64 g, .slice la n lc, .int .i64 t], .string s] w fun e w' => e = .returned (.bool true) ∧ Below w.heap.size w w' := by
  have hi : ¬ (60 : Int) < (s.size : Int) := by omega
  obtain ⟨z1, z2, z3⟩ := fewH_sz f0 s0
  obtain ⟨z4, z5⟩ := Lines.few_sz f1 s1
  have HZ := Lib.hid z2; have HZ2 := Lib.hid z5
  have HN : Hid (∀ x ∈ l, x.ls.length ≤ 1000000) := fun x hx => by have := z3 x hx; omega
  have hl0 := h.len
  have h20 : len0 ≤ 20 := by omega
  have hn8 : n ≤ 8 := by have := hL.1; omega
  obtain ⟨tl, htl⟩ : ∃ v, totH l s = v := ⟨_, rfl⟩
  have HTL := Lib.hid htl
  obtain ⟨e1, e2, e3, e4, e5⟩ := put_back k1 k2 k3 k4 s
  have hml : (putL l ⟨g, ls, t⟩).length = len0 + 1 := by rw [put_length]; omega
  have HZM : Hid (SzH (putL l ⟨g, ls, t⟩)) := by
    intro x hx
    rcases put_mem hx with rfl | hx
    · exact z5
    · exact z2 x hx
  have HNM : Hid (∀ x ∈ putL l ⟨g, ls, t⟩, x.ls.length ≤ 1000000) := by
    intro x hx
    rcases put_mem hx with rfl | hx
    · show ls.length ≤ _; have := hL.1; omega
    · have := z3 x hx; omega
  have hb1 := sumH_take (s := s) e1 (putL l ⟨g, ls, t⟩).length
  have hb2 : totH (putL l ⟨g, ls, t⟩) s = sumH s (putL l ⟨g, ls, t⟩) := by unfold totH; rw [if_pos e1]
  rw [List.take_length] at hb1
  obtain ⟨M, hM⟩ : ∃ M, putL l ⟨g, ls, t⟩ = M := ⟨_, rfl⟩
  rw [hM] at hr e1 e2 e3 e4 hml HZM HNM hb1 hb2
  obtain ⟨ov, hov⟩ : ∃ v, ofL s ls = v := ⟨_, rfl⟩
  obtain ⟨tm, htm⟩ : ∃ v, totH M s = v := ⟨_, rfl⟩
  have hsum : tl + ov = tm := by rw [← htm, e3, htl]; show tl + ov = tl + ofL s ls; rw [hov]
  have hwr : IntKind.i64.wrap tm = tm := by rw [← htm, hb2]; rw [IntWalk.i64_in] <;> omega
  have HOV := Lib.hid hov; have HTM := Lib.hid htm
  obtain ⟨k, hk⟩ : ∃ k, len0 + 1 = k := ⟨_, rfl⟩
  have hk21 : k ≤ 21 := by omega
  rw [hk] at hml
  have HR := Lib.hid hr; have HK := Lib.hid hml
  have HE1 := Lib.hid e1; have HE2 := Lib.hid e2; have HE4 := Lib.hid e4; have HE5 := Lib.hid e5; have HL0 := Lib.hid hl0
  have HNL := Lib.hid hL.1
  have hsum2 := Lib.hid hsum; have hwr2 := Lib.hid hwr
  clear z1 z2 z3 z4 z5 hl0 hr htl e1 e2 e3 e4 e5 hml hb1 hb2 hM hov htm hk k1 k2 k3 k4 hsum hwr
  have HB := Lib.hid (box_below w g la n lc t)
  have HC := Lib.hid (fun w' hb => box_cells w g la n lc t (w' := w') hb)
  have HX := Lib.hid (h.keep (box_below w g la n lc t))
  have HL := Lib.hid (hL.keep (box_below w g la n lc t))
  obtain ⟨W, hW⟩ : ∃ W, box w g la n lc t = W := ⟨_, rfl⟩
  have HW : Hid (w.alloc (.cells #[.int .i64 g, .slice la n lc, .int .i64 t] 27) = W) := hW
  rw [hW] at HB HC HX HL
  clear h hL hW
  have C1 := Lib.hid (rfew_is a0 len0 cap0 l true f0 W HX.out s0)
  have HF1 := Lib.hid f1; have HM1 := Lib.hid s1
  clear s0 s1 f0 f1
  go_enter Try.func5, Try.ntmps5
  go_wp2_with fail
  rw [show w.alloc (.cells #[.int .i64 g, .slice la n lc, .int .i64 t] 27) = W from HW.out]
  refine C1.out.mono ?_
  rintro e w1 ⟨rfl, hb1⟩
  have HB1 := Lib.hid hb1
  obtain ⟨q0, q1, q2⟩ := HC.out w1 hb1
  have C2 := Lib.hid (rfewL_is la n lc ls true HF1.out w1 (HL.out.keep hb1) HM1.out)
  clear hb1
  go_wp2_with fail
  refine C2.out.mono ?_
  rintro e w2 ⟨rfl, hb2⟩
  have HB2 := Lib.hid (below_keep HB1.out hb2 HB1.out.size)
  clear hb2 q0 q1 q2 C1 C2
  have C3 := Lib.hid (total_is a0 len0 cap0 l s tl HTL.out w2 (HX.out.keep HB2.out) HZ.out)
  go_wp2_with fail
  refine C3.out.mono ?_
  rintro e w3 ⟨rfl, hb3⟩
  have HB3 := Lib.hid (below_keep HB2.out hb3 HB2.out.size)
  clear hb3 C3
  obtain ⟨q0, q1, q2⟩ := HC.out w3 HB3.out
  have C4 := Lib.hid (put_is a0 len0 cap0 l g t la n lc ls M 0 k HR.out HK.out w3 (HX.out.keep HB3.out) hc (HL.out.keep HB3.out) HZ.out HZ2.out HN.out (by omega))
  go_wp2_with fail
  refine C4.out.mono ?_
  rintro e w4 ⟨a4, c4, rfl, hc4, hA4, hb4⟩
  have HB4 := Lib.hid (below_keep HB3.out hb4 HB3.out.size)
  have HA4 := Lib.hid hA4
  clear hA4 hb4 C4 q0 q1 q2
  obtain ⟨q0, q1, q2⟩ := HC.out w4 HB4.out
  have C5 := Lib.hid (find_is a4 k c4 M g g t ls n true (by rw [HE2.out]; rfl) HNL.out (by rw [HE2.out]; rfl) w4 HA4.out HNM.out)
  go_wp2_with fail
  refine C5.out.mono ?_
  rintro e w5 ⟨a5, c5, rfl, hL5, hb5⟩
  have HB5' := Lib.hid (below_keep HB4.out hb5 HB4.out.size)
  have HA5 := Lib.hid ((HA4.out.keep hb5).keep (box_below w5 g a5 n c5 t))
  have HL5 := Lib.hid (hL5.keep (box_below w5 g a5 n c5 t))
  have HB5 := Lib.hid (below_keep HB5'.out (box_below w5 g a5 n c5 t) HB5'.out.size)
  have HT5 := Lib.hid (at3_new w5 (.int .i64 g) (.slice a5 n c5) (.int .i64 t))
  unfold box at HL5 HB5 HA5
  obtain ⟨W5, hW5⟩ : ∃ W5, w5.alloc (.cells #[.int .i64 g, .slice a5 n c5, .int .i64 t] 27) = W5 := ⟨_, rfl⟩
  rw [hW5] at HL5 HB5 HA5 HT5
  have HW5 := Lib.hid hW5
  clear hL5 hb5 hW5 HB5' C5 q0 q1 q2 HA4
  obtain ⟨q0, q1, q2⟩ := HC.out (w5.alloc (.cells #[.int .i64 g, .slice a5 n c5, .int .i64 t] 27)) (by rw [HW5.out]; exact HB5.out)
  have C6 := Lib.hid (drop_is a4 k c4 M g l 0 len0 HE4.out HL0.out W5 HA5.out hc4 HZM.out HNM.out)
  go_wp2_with fail
  rw [show w5.alloc (.cells #[.int .i64 g, .slice a5 n c5, .int .i64 t] 27) = W5 from HW5.out]
  refine C6.out.mono ?_
  rintro e w6 ⟨a6, c6, rfl, hc6, hA6, hb6⟩
  have HB6 := Lib.hid (below_keep HB5.out hb6 HB5.out.size)
  have HM6 := Lib.hid (HA5.out.keep hb6); have HL6 := Lib.hid (HL5.out.keep hb6); have HT6 := Lib.hid (HT5.out.keep hb6)
  have HA6 := Lib.hid hA6
  clear hA6 hb6 C6 q0 q1 q2 HA5 HL5 HT5
  obtain ⟨q0, q1, q2⟩ := HC.out w6 HB6.out
  have C7 := Lib.hid (drop_is a0 len0 cap0 l g [] 2 0 HE5.out rfl w6 (HX.out.keep HB6.out) hc HZ.out HN.out)
  go_wp2_with fail
  refine C7.out.mono ?_
  rintro e w9 ⟨a7, c7, rfl, _, _, hb9⟩
  have HB9 := Lib.hid (below_keep HB6.out hb9 HB6.out.size)
  have HM9 := Lib.hid (HM6.out.keep hb9); have HL9 := Lib.hid (HL6.out.keep hb9); have HT9 := Lib.hid (HT6.out.keep hb9); have HA9 := Lib.hid (HA6.out.keep hb9)
  clear hb9 C7 q0 q1 q2 HA6 HL6 HT6 HM6
  go_wp2_with fail
  refine wp_region_any (by kernel_rfl) ?_
  change wpAny _ _ _ _ _ _ _ (World.drew _)
  have hd9 : Below w9.heap.size w9 w9.drew := below_drewN (Below.refl _ w9) 1
  obtain ⟨w10, hw10⟩ : ∃ w10, w9.drew = w10 := ⟨_, rfl⟩
  rw [hw10] at hd9 ⊢
  have HB10 := Lib.hid (below_keep HB9.out hd9 HB9.out.size)
  have HM10 := Lib.hid (HM9.out.keep hd9); have HL5 := Lib.hid (HL9.out.keep hd9); have HA10 := Lib.hid (HA9.out.keep hd9)
  have HL10 := Lib.hid (HL.out.keep HB10.out)
  have HT10 := HT9.out.keep hd9
  have HT := Lib.hid (fun (w' : World) (hb : Below w10.heap.size w10 w') => cells3 (HT10.keep hb))
  have HH := Lib.hid (fun (w' : World) (hb : Below w10.heap.size w10 w') => HC.out w' (below_keep HB10.out hb HB10.out.size))
  clear hd9 hw10 HT10 HM9 HL9 HT9 HA9
  refine wpAny_take (i := 0) (v := ?_) rfl (by kernel_rfl) (by kernel_rfl) (by kernel_rfl) (fun _ _ _ h => h) (Or.inl ⟨by kernel_rfl, ?_⟩) ?_; rotate_left; focus ((intro w'); go_simp; (try with_reducible rfl))
  refine wpAny_take (i := 1) (v := ?_) rfl (by kernel_rfl) (by kernel_rfl) (by kernel_rfl) (fun _ _ _ h => h) (Or.inl ⟨by kernel_rfl, ?_⟩) ?_; rotate_left; focus ((intro w'); go_simp; (try with_reducible rfl))
  simp only [List.getElem_toArray, List.getElem_cons_succ, List.getElem_cons_zero, Act.put, List.setIfInBounds_toArray, List.set_cons_succ, List.set_cons_zero]
  apply bjoin3 (F := fun wz p q => Below w10.heap.size w10 wz ∧ HsAt wz (some ⟨p, 0, none⟩) 1 [⟨g, ls, t⟩] ∧ HsAt wz (some ⟨q, 0, none⟩) 1 [⟨g, ls, t⟩])
  · intro hG
    obtain ⟨p0, hp0⟩ : ∃ p, w10.heap.size = p := ⟨_, rfl⟩
    obtain ⟨p1, hp1⟩ : ∃ p, p0 + 1 = p := ⟨_, rfl⟩
    refine wpAny_ready (rs := [2, 4]) (by kernel_rfl) (by simp) ?_
    refine AllReady.cons rfl (fun K hK => ?_) (AllReady.cons rfl (fun K hK => ?_) AllReady.nil)
    · obtain ⟨i0, i1, i2⟩ := HT.out w10 (Below.refl _ _)
      go_simp
      refine hK _ _ ?_
      clear hK K i0 i1 i2
      refine wpAny_ready (rs := [3, 4]) (by kernel_rfl) (by simp) ?_
      refine AllReady.cons rfl (fun K hK => ?_) (AllReady.cons rfl (fun K hK => ?_) AllReady.nil)
      · go_simp
        refine hK _ _ ?_
        clear hK K
        refine wpAny_ready (rs := [4]) (by kernel_rfl) (by simp) ?_
        refine AllReady.cons rfl (fun K hK => ?_) AllReady.nil
        obtain ⟨i0, i1, i2⟩ := HH.out (w10.alloc (.cells #[.int .i64 g, .slice a5 n c5, .int .i64 t] 27)) ((Below.refl w10.heap.size w10).alloc (Nat.le_refl _) _)
        go_simp
        refine hK _ _ ?_
        clear hK K i0 i1 i2
        refine wpAny_ready (rs := [5]) (by kernel_rfl) (by simp) ?_
        refine AllReady.cons rfl (fun K hK => ?_) AllReady.nil
        go_simp
        refine hK _ _ ?_
        clear hK K
        generalize hwz : (w10.alloc (.cells #[.int .i64 g, .slice a5 n c5, .int .i64 t] 27)).alloc (.cells #[.int .i64 g, .slice la n lc, .int .i64 t] 27) = wz
        have hh := two_holds' w10 g t g t a5 la n n c5 lc ls ls HL5.out HL10.out hp0 hp1 hwz
        exact hG wz p0 p1 ⟨hh.1, hh.2.1, hh.2.2⟩
      · obtain ⟨i0, i1, i2⟩ := HH.out w10 (Below.refl _ _)
        go_simp
        refine hK _ _ ?_
        clear hK K i0 i1 i2
        refine wpAny_ready (rs := [3, 5]) (by kernel_rfl) (by simp) ?_
        refine AllReady.cons rfl (fun K hK => ?_) (AllReady.cons rfl (fun K hK => ?_) AllReady.nil)
        · go_simp
          refine hK _ _ ?_
          clear hK K
          refine wpAny_ready (rs := [5]) (by kernel_rfl) (by simp) ?_
          refine AllReady.cons rfl (fun K hK => ?_) AllReady.nil
          go_simp
          refine hK _ _ ?_
          clear hK K
          generalize hwz : (w10.alloc (.cells #[.int .i64 g, .slice a5 n c5, .int .i64 t] 27)).alloc (.cells #[.int .i64 g, .slice la n lc, .int .i64 t] 27) = wz
          have hh := two_holds' w10 g t g t a5 la n n c5 lc ls ls HL5.out HL10.out hp0 hp1 hwz
          exact hG wz p0 p1 ⟨hh.1, hh.2.1, hh.2.2⟩
        · go_simp
          refine hK _ _ ?_
          clear hK K
          refine wpAny_ready (rs := [3]) (by kernel_rfl) (by simp) ?_
          refine AllReady.cons rfl (fun K hK => ?_) AllReady.nil
          go_simp
          refine hK _ _ ?_
          clear hK K
          generalize hwz : (w10.alloc (.cells #[.int .i64 g, .slice la n lc, .int .i64 t] 27)).alloc (.cells #[.int .i64 g, .slice a5 n c5, .int .i64 t] 27) = wz
          have hh := two_holds' w10 g t g t la a5 n n lc c5 ls ls HL10.out HL5.out hp0 hp1 hwz
          exact hG wz p1 p0 ⟨hh.1, hh.2.2, hh.2.1⟩
    · obtain ⟨i0, i1, i2⟩ := HH.out w10 (Below.refl _ _)
      go_simp
      refine hK _ _ ?_
      clear hK K i0 i1 i2
      refine wpAny_ready (rs := [2, 5]) (by kernel_rfl) (by simp) ?_
      refine AllReady.cons rfl (fun K hK => ?_) (AllReady.cons rfl (fun K hK => ?_) AllReady.nil)
      · obtain ⟨i0, i1, i2⟩ := HT.out w10 (Below.refl _ _)
        go_simp
        refine hK _ _ ?_
        clear hK K i0 i1 i2
        refine wpAny_ready (rs := [3, 5]) (by kernel_rfl) (by simp) ?_
        refine AllReady.cons rfl (fun K hK => ?_) (AllReady.cons rfl (fun K hK => ?_) AllReady.nil)
        · go_simp
          refine hK _ _ ?_
          clear hK K
          refine wpAny_ready (rs := [5]) (by kernel_rfl) (by simp) ?_
          refine AllReady.cons rfl (fun K hK => ?_) AllReady.nil
          go_simp
          refine hK _ _ ?_
          clear hK K
          generalize hwz : (w10.alloc (.cells #[.int .i64 g, .slice a5 n c5, .int .i64 t] 27)).alloc (.cells #[.int .i64 g, .slice la n lc, .int .i64 t] 27) = wz
          have hh := two_holds' w10 g t g t a5 la n n c5 lc ls ls HL5.out HL10.out hp0 hp1 hwz
          exact hG wz p0 p1 ⟨hh.1, hh.2.1, hh.2.2⟩
        · go_simp
          refine hK _ _ ?_
          clear hK K
          refine wpAny_ready (rs := [3]) (by kernel_rfl) (by simp) ?_
          refine AllReady.cons rfl (fun K hK => ?_) AllReady.nil
          go_simp
          refine hK _ _ ?_
          clear hK K
          generalize hwz : (w10.alloc (.cells #[.int .i64 g, .slice la n lc, .int .i64 t] 27)).alloc (.cells #[.int .i64 g, .slice a5 n c5, .int .i64 t] 27) = wz
          have hh := two_holds' w10 g t g t la a5 n n lc c5 ls ls HL10.out HL5.out hp0 hp1 hwz
          exact hG wz p1 p0 ⟨hh.1, hh.2.2, hh.2.1⟩
      · go_simp
        refine hK _ _ ?_
        clear hK K
        refine wpAny_ready (rs := [2]) (by kernel_rfl) (by simp) ?_
        refine AllReady.cons rfl (fun K hK => ?_) AllReady.nil
        obtain ⟨i0, i1, i2⟩ := HT.out (w10.alloc (.cells #[.int .i64 g, .slice la n lc, .int .i64 t] 27)) ((Below.refl w10.heap.size w10).alloc (Nat.le_refl _) _)
        go_simp
        refine hK _ _ ?_
        clear hK K i0 i1 i2
        refine wpAny_ready (rs := [3]) (by kernel_rfl) (by simp) ?_
        refine AllReady.cons rfl (fun K hK => ?_) AllReady.nil
        go_simp
        refine hK _ _ ?_
        clear hK K
        generalize hwz : (w10.alloc (.cells #[.int .i64 g, .slice la n lc, .int .i64 t] 27)).alloc (.cells #[.int .i64 g, .slice a5 n c5, .int .i64 t] 27) = wz
        have hh := two_holds' w10 g t g t la a5 n n lc c5 ls ls HL10.out HL5.out hp0 hp1 hwz
        exact hG wz p1 p0 ⟨hh.1, hh.2.2, hh.2.1⟩
  · intro w11 p q hz
    obtain ⟨hb11, hx1, hx2⟩ := hz
    have HB11 := Lib.hid (below_keep HB10.out hb11 HB10.out.size)
    have HM11 := Lib.hid (HM10.out.keep hb11); have HA11 := Lib.hid (HA10.out.keep hb11)
    have C11 := Lib.hid (rsame_is (some ⟨p, 0, none⟩) (some ⟨q, 0, none⟩) 1 1 1 1 [⟨g, ls, t⟩] [⟨g, ls, t⟩] true (eqH_iff.2 rfl) w11 hx1 hx2)
    clear hb11 hx1 hx2 HM10 HA10 HT HH HL5 HL10
    refine wpAny_ready (rs := [6]) (by kernel_rfl) (by simp) ?_
    refine AllReady.cons rfl (fun K hK => ?_) AllReady.nil
    go_simp
    refine C11.out.mono ?_
    rintro e w12 ⟨rfl, hb12⟩
    have HB12 := Lib.hid (below_keep HB11.out hb12 HB11.out.size)
    have HM12 := Lib.hid (HM11.out.keep hb12); have HA12 := Lib.hid (HA11.out.keep hb12)
    have C12 := Lib.hid (fit_is a4 k c4 M true HE1.out w12 HM12.out HZM.out)
    clear hb12 C11 HM11 HA11
    refine hK _ _ ?_
    clear hK K
    refine wpAny_take (i := 7) (v := ?_) rfl (by kernel_rfl) (by kernel_rfl) (by kernel_rfl) (fun _ _ _ h => h) (Or.inl ⟨by kernel_rfl, ?_⟩) ?_; rotate_left; focus ((intro w'); go_simp; (try with_reducible rfl))
    refine wpAny_take (i := 8) (v := ?_) rfl (by kernel_rfl) (by kernel_rfl) (by kernel_rfl) (fun _ _ _ h => h) (Or.inl ⟨by kernel_rfl, ?_⟩) ?_; rotate_left; focus ((intro w'); go_simp; (try with_reducible rfl))
    refine wpAny_take (i := 9) (v := ?_) rfl (by kernel_rfl) (by kernel_rfl) (by kernel_rfl) (fun _ _ _ h => h) (Or.inl ⟨by kernel_rfl, ?_⟩) ?_; rotate_left; focus ((intro w'); go_simp; (try with_reducible rfl))
    simp only [List.getElem_toArray, List.getElem_cons_succ, List.getElem_cons_zero, Act.put, List.setIfInBounds_toArray, List.set_cons_succ, List.set_cons_zero]
    refine wpAny_ready (rs := [10]) (by kernel_rfl) (by simp) ?_
    refine AllReady.cons rfl (fun K hK => ?_) AllReady.nil
    go_simp
    refine C12.out.mono ?_
    rintro e w13 ⟨rfl, hb13⟩
    have HB13 := Lib.hid (below_keep HB12.out hb13 HB12.out.size)
    have HM13 := Lib.hid (HM12.out.keep hb13); have HA13 := Lib.hid (HA12.out.keep hb13)
    have C15 := Lib.hid (fun (w' : World) (hb : Below w13.heap.size w13 w') => total_is a4 k c4 M s tm HTM.out w' (HM13.out.keep hb) HZM.out)
    have C20 := Lib.hid (fun (w' : World) (hb : Below w13.heap.size w13 w') => rofs_is la n lc ls s ov HOV.out w' (HL.out.keep (below_keep HB13.out hb HB13.out.size)))
    have HH := Lib.hid (fun (w' : World) (hb : Below w13.heap.size w13 w') => HC.out w' (below_keep HB13.out hb HB13.out.size))
    clear hb13 C12 HM12 HA12
    refine hK _ _ ?_
    clear hK K
    refine wpAny_take (i := 11) (v := ?_) rfl (by kernel_rfl) (by kernel_rfl) (by kernel_rfl) (fun _ _ _ h => h) (Or.inl ⟨by kernel_rfl, ?_⟩) ?_; rotate_left; focus ((intro w'); go_simp; (try with_reducible rfl))
    refine wpAny_take (i := 12) (v := ?_) rfl (by kernel_rfl) (by kernel_rfl) (by kernel_rfl) (fun _ _ _ h => h) (Or.inl ⟨by kernel_rfl, ?_⟩) ?_; rotate_left; focus ((intro w'); go_simp; (try with_reducible rfl))
    refine wpAny_take (i := 13) (v := ?_) rfl (by kernel_rfl) (by kernel_rfl) (by kernel_rfl) (fun _ _ _ h => h) (Or.inl ⟨by kernel_rfl, ?_⟩) ?_; rotate_left; focus ((intro w'); go_simp; (try with_reducible rfl))
    refine wpAny_take (i := 14) (v := ?_) rfl (by kernel_rfl) (by kernel_rfl) (by kernel_rfl) (fun _ _ _ h => h) (Or.inl ⟨by kernel_rfl, ?_⟩) ?_; rotate_left; focus ((intro w'); go_simp; (try with_reducible rfl))
    refine wpAny_take (i := 16) (v := ?_) rfl (by kernel_rfl) (by kernel_rfl) (by kernel_rfl) (fun _ _ _ h => h) (Or.inl ⟨by kernel_rfl, ?_⟩) ?_; rotate_left; focus ((intro w'); go_simp; (try with_reducible rfl))
    refine wpAny_take (i := 17) (v := ?_) rfl (by kernel_rfl) (by kernel_rfl) (by kernel_rfl) (fun _ _ _ h => h) (Or.inl ⟨by kernel_rfl, ?_⟩) ?_; rotate_left; focus ((intro w'); go_simp; (try with_reducible rfl))
    refine wpAny_take (i := 19) (v := ?_) rfl (by kernel_rfl) (by kernel_rfl) (by kernel_rfl) (fun _ _ _ h => h) (Or.inl ⟨by kernel_rfl, ?_⟩) ?_; rotate_left; focus ((intro w'); go_simp; (try with_reducible rfl))
    simp only [List.getElem_toArray, List.getElem_cons_succ, List.getElem_cons_zero, Act.put, List.setIfInBounds_toArray, List.set_cons_succ, List.set_cons_zero]
    apply bjoin1 (F := fun wz => Below w13.heap.size w13 wz)
    · intro hG
      refine wpAny_ready (rs := [15, 18]) (by kernel_rfl) (by simp) ?_
      refine AllReady.cons rfl (fun K hK => ?_) (AllReady.cons rfl (fun K hK => ?_) AllReady.nil)
      · go_simp
        refine (C15.out w13 (Below.refl _ w13)).mono ?_
        rintro e wa ⟨rfl, hbwa⟩
        have HQwa := Lib.hid (hbwa)
        clear hbwa
        refine hK _ _ ?_
        clear hK K
        refine wpAny_ready (rs := [18]) (by kernel_rfl) (by simp) ?_
        refine AllReady.cons rfl (fun K hK => ?_) AllReady.nil
        obtain ⟨i0, i1, i2⟩ := HH.out wa HQwa.out
        go_simp
        refine hK _ _ ?_
        clear hK K i0 i1 i2
        refine wpAny_ready (rs := [20]) (by kernel_rfl) (by simp) ?_
        refine AllReady.cons rfl (fun K hK => ?_) AllReady.nil
        go_simp
        refine (C20.out wa HQwa.out).mono ?_
        rintro e wb ⟨rfl, hbwb⟩
        have HQwb := Lib.hid (below_keep HQwa.out hbwb HQwa.out.size)
        clear hbwb
        refine hK _ _ ?_
        clear hK K
        exact hG wb HQwb.out
      · obtain ⟨i0, i1, i2⟩ := HH.out w13 (Below.refl _ w13)
        go_simp
        refine hK _ _ ?_
        clear hK K i0 i1 i2
        refine wpAny_ready (rs := [15]) (by kernel_rfl) (by simp) ?_
        refine AllReady.cons rfl (fun K hK => ?_) AllReady.nil
        go_simp
        refine (C15.out w13 (Below.refl _ w13)).mono ?_
        rintro e wa ⟨rfl, hbwa⟩
        have HQwa := Lib.hid (hbwa)
        clear hbwa
        refine hK _ _ ?_
        clear hK K
        refine wpAny_ready (rs := [20]) (by kernel_rfl) (by simp) ?_
        refine AllReady.cons rfl (fun K hK => ?_) AllReady.nil
        go_simp
        refine (C20.out wa HQwa.out).mono ?_
        rintro e wb ⟨rfl, hbwb⟩
        have HQwb := Lib.hid (below_keep HQwa.out hbwb HQwa.out.size)
        clear hbwb
        refine hK _ _ ?_
        clear hK K
        exact hG wb HQwb.out
    · intro w14 hb14
      have HB14 := Lib.hid (below_keep HB13.out hb14 HB13.out.size)
      have C31 := Lib.hid (same_is a6 a0 len0 c6 len0 cap0 l l true (eqH_iff.2 rfl) w14 (HA13.out.keep hb14) (HX.out.keep HB14.out))
      have hsum := hsum2.out
      have hwr := hwr2.out
      clear hb14 C15 C20 HH HM13 HA13
      refine wpAny_take (i := 21) (v := ?_) rfl (by kernel_rfl) (by kernel_rfl) (by kernel_rfl) (fun _ _ _ h => h) (Or.inl ⟨by kernel_rfl, ?_⟩) ?_; rotate_left; focus ((intro w'); go_simp; (try with_reducible rfl))
      refine wpAny_take (i := 22) (v := ?_) rfl (by kernel_rfl) (by kernel_rfl) (by kernel_rfl) (fun _ _ _ h => h) (Or.inl ⟨by kernel_rfl, ?_⟩) ?_; rotate_left; focus ((intro w'); go_simp; (try with_reducible rfl))
      refine wpAny_take (i := 23) (v := ?_) rfl (by kernel_rfl) (by kernel_rfl) (by kernel_rfl) (fun _ _ _ h => h) (Or.inl ⟨by kernel_rfl, ?_⟩) ?_; rotate_left; focus ((intro w'); go_simp; (try with_reducible rfl))
      refine wpAny_take (i := 24) (v := ?_) rfl (by kernel_rfl) (by kernel_rfl) (by kernel_rfl) (fun _ _ _ h => h) (Or.inl ⟨by kernel_rfl, ?_⟩) ?_; rotate_left; focus ((intro w'); go_simp; (try with_reducible rfl))
      refine wpAny_take (i := 25) (v := ?_) rfl (by kernel_rfl) (by kernel_rfl) (by kernel_rfl) (fun _ _ _ h => h) (Or.inl ⟨by kernel_rfl, ?_⟩) ?_; rotate_left; focus ((intro w'); go_simp; (try with_reducible rfl))
      refine wpAny_take (i := 26) (v := ?_) rfl (by kernel_rfl) (by kernel_rfl) (by kernel_rfl) (fun _ _ _ h => h) (Or.inl ⟨by kernel_rfl, ?_⟩) ?_; rotate_left; focus ((intro w'); go_simp; (try with_reducible rfl))
      refine wpAny_take (i := 27) (v := ?_) rfl (by kernel_rfl) (by kernel_rfl) (by kernel_rfl) (fun _ _ _ h => h) (Or.inl ⟨by kernel_rfl, ?_⟩) ?_; rotate_left; focus ((intro w'); go_simp; (try with_reducible rfl))
      refine wpAny_take (i := 28) (v := ?_) rfl (by kernel_rfl) (by kernel_rfl) (by kernel_rfl) (fun _ _ _ h => h) (Or.inl ⟨by kernel_rfl, ?_⟩) ?_; rotate_left; focus ((intro w'); go_simp; (try with_reducible rfl))
      refine wpAny_take (i := 29) (v := ?_) rfl (by kernel_rfl) (by kernel_rfl) (by kernel_rfl) (fun _ _ _ h => h) (Or.inl ⟨by kernel_rfl, ?_⟩) ?_; rotate_left; focus ((intro w'); go_simp; (try with_reducible rfl))
      refine wpAny_take (i := 30) (v := ?_) rfl (by kernel_rfl) (by kernel_rfl) (by kernel_rfl) (fun _ _ _ h => h) (Or.inl ⟨by kernel_rfl, ?_⟩) ?_; rotate_left; focus ((intro w'); go_simp; (try with_reducible rfl))
      simp only [List.getElem_toArray, List.getElem_cons_succ, List.getElem_cons_zero, Act.put, List.setIfInBounds_toArray, List.set_cons_succ, List.set_cons_zero]
      clear hsum hwr
      refine wpAny_ready (rs := [31]) (by kernel_rfl) (by simp) ?_
      refine AllReady.cons rfl (fun K hK => ?_) AllReady.nil
      go_simp
      refine C31.out.mono ?_
      rintro e w15 ⟨rfl, hb15⟩
      have HB15 := Lib.hid (below_keep HB14.out hb15 HB14.out.size)
      clear hb15 C31
      refine hK _ _ ?_
      clear hK K
      refine wpAny_take (i := 32) (v := ?_) rfl (by kernel_rfl) (by kernel_rfl) (by kernel_rfl) (fun _ _ _ h => h) (Or.inl ⟨by kernel_rfl, ?_⟩) ?_; rotate_left; focus ((intro w'); go_simp; (try with_reducible rfl))
      refine wpAny_take (i := 33) (v := ?_) rfl (by kernel_rfl) (by kernel_rfl) (by kernel_rfl) (fun _ _ _ h => h) (Or.inl ⟨by kernel_rfl, ?_⟩) ?_; rotate_left; focus ((intro w'); go_simp; (try with_reducible rfl))
      refine wpAny_take (i := 34) (v := ?_) rfl (by kernel_rfl) (by kernel_rfl) (by kernel_rfl) (fun _ _ _ h => h) (Or.inl ⟨by kernel_rfl, ?_⟩) ?_; rotate_left; focus ((intro w'); go_simp; (try with_reducible rfl))
      refine wpAny_take (i := 35) (v := ?_) rfl (by kernel_rfl) (by kernel_rfl) (by kernel_rfl) (fun _ _ _ h => h) (Or.inl ⟨by kernel_rfl, ?_⟩) ?_; rotate_left; focus ((intro w'); go_simp; (try with_reducible rfl))
      refine wpAny_take (i := 36) (v := ?_) rfl (by kernel_rfl) (by kernel_rfl) (by kernel_rfl) (fun _ _ _ h => h) (Or.inl ⟨by kernel_rfl, ?_⟩) ?_; rotate_left; focus ((intro w'); go_simp; (try with_reducible rfl))
      refine wpAny_take (i := 37) (v := ?_) rfl (by kernel_rfl) (by kernel_rfl) (by kernel_rfl) (fun _ _ _ h => h) (Or.inl ⟨by kernel_rfl, ?_⟩) ?_; rotate_left; focus ((intro w'); go_simp; (try with_reducible rfl))
      simp only [List.getElem_toArray, List.getElem_cons_succ, List.getElem_cons_zero, Act.put, List.setIfInBounds_toArray, List.set_cons_succ, List.set_cons_zero]
      refine wpAny_ready (rs := [38]) (by kernel_rfl) (by simp) ?_
      refine AllReady.cons rfl (fun K hK => ?_) AllReady.nil
      go_simp
      refine (awake_any w15).mono ?_
      rintro e w16 ⟨rfl, hb16⟩
      have HB16 := Lib.hid (below_keep HB.out (below_keep HB15.out hb16 HB15.out.size) HB.out.size)
      clear hb16
      refine hK _ _ ?_
      clear hK K
      refine wpAny_take (i := 39) (v := ?_) rfl (by kernel_rfl) (by kernel_rfl) (by kernel_rfl) (fun _ _ _ h => h) (Or.inl ⟨by kernel_rfl, ?_⟩) ?_; rotate_left; focus ((intro w'); go_simp; (try with_reducible rfl))
      refine Mix.wpAny_of_seqV [40] _ _ _ (by kernel_rfl) ?_
      simp only [Mix.pick, List.filterMap_cons, List.filterMap_nil, List.getElem?_cons_zero, List.getElem?_cons_succ]
      go_wp2_with fail
      go_ret
      exact ⟨rfl, HB16.out⟩
end Go.Proofs.Ytleopanfggmenaa.Holds
namespace Go.Proofs.Ytleopanfggmenaa
open Go.RowKit LinesP Lines HoldsP Holds
namespace Contract
theorem holdsBack (a0 : Option Addr) (len0 cap0 : Nat) (g t : Int) (la : Option Addr) (n lc : Nat) (s : ByteArray) (W : World) (w0 : IsHold W a0 len0 cap0) (w1 : ∃ ls, LsAt W la n ls ∧ SzM ls) (w2 : s.size ≤ maxLen) :
    Calls Try.prog 5 #[.slice a0 len0 cap0, .agg #[.int .i64 g, .slice la n lc, .int .i64 t], .string s] W fun e w' => e = .returned (.bool true) ∧ Below W.heap.size W w' := by
  obtain ⟨l, h, s0, b0, hc⟩ := w0
  obtain ⟨ls, hL, s1⟩ := w1
  unfold maxLen at w2
  cases f0 : fewH l with
  | false => exact back_few0 a0 len0 cap0 g t la n lc s l ls W h hL s0 s1 f0
  | true =>
    cases f1 : fewV ls with
    | false => exact back_few1 a0 len0 cap0 g t la n lc s l ls W h hL s0 s1 f0 f1
    | true =>
      by_cases h60 : s.size ≤ 60
      · rcases put_cases l ⟨g, ls, t⟩ with ⟨er, hr, hne⟩ | ⟨hr, k1, k2, k3, k4⟩
        · exact back_err a0 len0 cap0 g t la n lc s l ls W h hL s0 s1 hc f0 f1 h60 er hr hne
        · exact back_ok a0 len0 cap0 g t la n lc s l ls W h hL s0 s1 hc f0 f1 h60 hr k1 k2 k3 k4
      · exact back_long a0 len0 cap0 g t la n lc s l ls W h hL s0 s1 f0 f1 (by omega) (by omega)
end Contract
end Go.Proofs.Ytleopanfggmenaa
