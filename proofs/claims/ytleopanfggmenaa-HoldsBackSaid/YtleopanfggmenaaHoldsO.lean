/-
  The contract of the laws' own awake: the chapter's example.
-/
import Derived.Test.YtleopanfggmenaaHoldsN
set_option linter.unusedVariables false
set_option maxRecDepth 4000
namespace Go.Proofs.Ytleopanfggmenaa.Holds
open Go.RowKit LinesP HoldsP
open Go.Proofs.Ytleopanfggmenaa.Lines (LsAt Sz SzM ret_bool ret_int below_keep below_drewN)
open Go.Proofs.Ytleopanfggmenaa.Ints (IntsAt)

def tea : ByteArray := ⟨#[116, 101, 97]⟩
def h5 : Hd := ⟨1, [(tea, 3)], 5⟩
def h0 : Hd := ⟨1, [(tea, 3)], 0⟩
theorem ex_put : putH [] h5 = ([h5], 0) := by
  have h1 : fitH [] = true := rfl
  have h2 : oneH h5 = true := by decide +kernel
  unfold putH
  rw [if_pos h1, if_pos h2]
  rfl
theorem ex_twice : putH [h5] h0 = ([], 3) := by
  have h1 : fitH [h5] = true := by decide +kernel
  have h2 : oneH h0 = true := by decide +kernel
  unfold putH
  rw [if_pos h1, if_pos h2]
  rfl
theorem ex_tot : totH [h5] tea = 3 := by
  have h1 : fitH [h5] = true := by decide +kernel
  have h2 : ofL tea [(tea, 3)] = 3 := by decide +kernel
  unfold totH
  rw [if_pos h1]
  show ofL tea [(tea, 3)] + 0 = 3
  rw [h2]; rfl
theorem ex_due5 : dueH 5 [h5] = [1] := by decide +kernel
theorem ex_due4 : dueH 4 [h5] = [] := by decide +kernel
theorem sz_tea : Sz [(tea, 3)] := by
  intro x hx
  rw [List.mem_singleton.1 hx]
  exact ⟨by decide, by decide, by decide⟩
theorem szH_ex : SzH [h5] := by
  intro x hx
  rw [List.mem_singleton.1 hx]
  exact sz_tea
theorem bdH_ex : BdH [h5] := by
  intro x hx
  rw [List.mem_singleton.1 hx]
  exact ⟨by decide, by decide⟩
theorem ls_tea (w : World) : LsAt (w.alloc (.cells #[.string tea, .int .i64 3] 45)) (some ⟨w.heap.size, 0, none⟩) 1 [(tea, 3)] := by
  refine ⟨rfl, by omega, .inr ⟨w.heap.size, 0, rfl, by simp, fun i hi => ?_⟩⟩
  obtain rfl : i = 0 := by omega
  constructor
  · rw [World.cell?_alloc_new]; rfl
  · rw [World.cell?_alloc_new]; rfl
theorem ints_one (w : World) (c : Int) (h : -9223372036854775808 ≤ c ∧ c ≤ 9223372036854775807) : IntsAt (w.alloc (.cells #[.int .i64 c] 3)) (some ⟨w.heap.size, 0, none⟩) 1 [c] := by
  refine ⟨rfl, fun x hx => by rw [List.mem_singleton.1 hx]; exact h, .inr ⟨w.heap.size, 0, rfl, by simp, fun i hi => ?_⟩⟩
  obtain rfl : i = 0 := by omega
  rw [World.cell?_alloc_new]; rfl
theorem rints_same (a c : Option Addr) (la ca lc cc : Nat) (xs ys : List Int) (w : World) (h1 : IntsAt w a la xs) (h2 : IntsAt w c lc ys) (hl1 : la ≤ 9223372036854775807) (hl2 : lc ≤ 9223372036854775807) (he : xs = ys) :
    Calls Try.prog 15 #[.slice a la ca, .slice c lc cc] w fun e w' => e = .returned (.bool true) ∧ Below w.heap.size w w' := by
  refine (Ints.rsame_any a c la ca lc cc xs ys w h1 h2 hl1 hl2).mono ?_
  rintro e w' ⟨rfl, hb⟩
  exact ⟨by rw [decide_eq_true he], hb⟩
set_option maxHeartbeats 1000000 in
theorem awake_any (w : World) : Calls Try.prog 7 #[] w fun e w' => e = .returned (.bool true) ∧ Below w.heap.size w w' := by
  have h1 := ls_tea w
  have HB0 : Hid (Below w.heap.size w (w.alloc (.cells #[.string tea, .int .i64 3] 45))) := (Below.refl _ _).alloc (Nat.le_refl _) _
  obtain ⟨W, hW⟩ : ∃ W, w.alloc (.cells #[.string tea, .int .i64 3] 45) = W := ⟨_, rfl⟩
  rw [hW] at h1 HB0
  have HW := Lib.hid hW
  have C1 := put_any none 0 0 [] 1 5 (some ⟨w.heap.size, 0, none⟩) 1 1 [(tea, 3)] W (HsAt.nil _ _) (Nat.le_refl _) h1 (fun x hx => by cases hx) sz_tea (fun x hx => by cases hx) (by omega)
  rw [show (⟨1, [(tea, 3)], 5⟩ : Hd) = h5 from rfl, ex_put] at C1
  have C1 := Lib.hid C1
  clear h1 hW
  go_enter Try.func7, Try.ntmps7
  go_wp2_with fail
  rw [show w.alloc (.cells #[.string ⟨#[116, 101, 97]⟩, .int .i64 3] 45) = W from HW.out]
  refine C1.out.mono ?_
  rintro e w1 ⟨a1, c1, he, hc1, hA1, hb1⟩
  have he : e = .returned (.tuple #[.slice a1 1 c1, .int .i64 0]) := he
  have hc1 : 1 ≤ c1 := hc1
  have hA1 : HsAt w1 a1 1 [h5] := hA1
  subst he
  have HB1 := Lib.hid (below_keep HB0.out hb1 HB0.out.size)
  have h2 := ls_tea w1
  have HB2 : Hid (Below w.heap.size w (w1.alloc (.cells #[.string tea, .int .i64 3] 45))) := HB1.out.alloc HB1.out.size _
  have hA2 := hA1.keep ((Below.refl _ w1).alloc (Nat.le_refl _) (.cells #[.string tea, .int .i64 3] 45))
  obtain ⟨W2, hW2⟩ : ∃ W2, w1.alloc (.cells #[.string tea, .int .i64 3] 45) = W2 := ⟨_, rfl⟩
  rw [hW2] at h2 HB2 hA2
  have HW2 := Lib.hid hW2
  have C2 := put_any a1 1 c1 [h5] 1 0 (some ⟨w1.heap.size, 0, none⟩) 1 1 [(tea, 3)] W2 hA2 hc1 h2 szH_ex sz_tea (fun x hx => by rw [List.mem_singleton.1 hx]; decide) (by omega)
  rw [show (⟨1, [(tea, 3)], 0⟩ : Hd) = h0 from rfl, ex_twice] at C2
  have C2 := Lib.hid C2
  have HA2 := Lib.hid hA2
  clear hb1 hA1 hA2 h2 hW2 HB0 C1 hc1
  go_wp2_with fail
  rw [show w1.alloc (.cells #[.string ⟨#[116, 101, 97]⟩, .int .i64 3] 45) = W2 from HW2.out]
  refine C2.out.mono ?_
  rintro e w3 ⟨a3, c3, he, _, _, hb3⟩
  have he : e = .returned (.tuple #[.slice a3 0 c3, .int .i64 3]) := he
  subst he
  have HB3 := Lib.hid (below_keep HB2.out hb3 HB2.out.size)
  have HA3 := Lib.hid (HA2.out.keep hb3)
  have C3 := total_any a1 1 c1 [h5] tea w3 HA3.out szH_ex
  rw [ex_tot] at C3
  have C3 := Lib.hid C3
  clear hb3 HA2 HB2 C2
  go_wp2_with fail
  refine C3.out.mono ?_
  rintro e w4 ⟨rfl, hb4⟩
  have HB4 := Lib.hid (below_keep HB3.out hb4 HB3.out.size)
  have HA4 := Lib.hid (HA3.out.keep hb4)
  have C4 := due_any a1 1 c1 [h5] 5 w4 HA4.out bdH_ex (by omega)
  rw [ex_due5] at C4
  have C4 := Lib.hid C4
  clear hb4 HA3 HB3 C3
  go_wp2_with fail
  refine C4.out.mono ?_
  rintro e w5 ⟨a5, c5, he, hI5, hb5⟩
  have he : e = .returned (.slice a5 1 c5) := he
  have hI5 : IntsAt w5 a5 1 [1] := hI5
  subst he
  have HB5 := Lib.hid (below_keep HB4.out hb5 HB4.out.size)
  have h6 := ints_one w5 1 ⟨by decide, by decide⟩
  have HB6 : Hid (Below w.heap.size w (w5.alloc (.cells #[.int .i64 1] 3))) := HB5.out.alloc HB5.out.size _
  have hK6 := (Below.refl w5.heap.size w5).alloc (Nat.le_refl _) (.cells #[.int .i64 1] 3)
  have HA6 := (HA4.out.keep hb5).keep hK6
  have hI6 := hI5.keep hK6
  obtain ⟨W6, hW6⟩ : ∃ W6, w5.alloc (.cells #[.int .i64 1] 3) = W6 := ⟨_, rfl⟩
  rw [hW6] at h6 HB6 HA6 hI6
  have HW6 := Lib.hid hW6
  have HA6 := Lib.hid HA6
  have C6 := Lib.hid (rints_same a5 (some ⟨w5.heap.size, 0, none⟩) 1 c5 1 1 [1] [1] W6 hI6 h6 (by omega) (by omega) rfl)
  clear hb5 hI5 h6 hK6 hI6 hW6 HA4 HB4 C4
  go_wp2_with fail
  rw [show w5.alloc (.cells #[.int .i64 1] 3) = W6 from HW6.out]
  refine C6.out.mono ?_
  rintro e w7 ⟨rfl, hb7⟩
  have HB7 := Lib.hid (below_keep HB6.out hb7 HB6.out.size)
  have HA7 := Lib.hid (HA6.out.keep hb7)
  have C7 := due_any a1 1 c1 [h5] 4 w7 HA7.out bdH_ex (by omega)
  rw [ex_due4] at C7
  have C7 := Lib.hid C7
  clear hb7 HA6 HB6 C6
  go_wp2_with fail
  refine C7.out.mono ?_
  rintro e w8 ⟨a8, c8, he, _, hb8⟩
  have he : e = .returned (.slice a8 0 c8) := he
  subst he
  have HB8 := Lib.hid (below_keep HB7.out hb8 HB7.out.size)
  have C8 := Lib.hid (fit_is none 0 0 [] true rfl w8 (HsAt.nil _ _) (fun x hx => by cases hx))
  clear hb8 HB7 C7
  go_wp2_with fail
  refine C8.out.mono ?_
  rintro e w9 ⟨rfl, hb9⟩
  have HB9 := Lib.hid (below_keep HB8.out hb9 HB8.out.size)
  clear hb9
  go_wp2_with fail
  go_ret
  exact ⟨rfl, HB9.out⟩
end Go.Proofs.Ytleopanfggmenaa.Holds
