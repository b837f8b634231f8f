/-
  The contract of ahead: any two timers; what was there stays as it was.
-/
import Derived.Test.YtcfjnpepbjaacaaTimerA
import Derived.Deep.RegionHeld3
import Derived.ChangeKeysEq
set_option linter.unusedVariables false
set_option linter.unusedSimpArgs false
set_option maxRecDepth 4000
namespace Go.Proofs.Ytcfjnpepbjaacaa.Timer
open Go.RowKit TimerP
open Go.Proofs.Ytcfjnpepbjaacaa.Kt

theorem ajoin {G : Prop} {F P : World → Nat → Nat → Prop} (main : (∀ w p q, F w p q → P w p q) → G) (pf : ∀ w p q, F w p q → P w p q) : G := main pf
theorem at3_new2 (T : TypeId) (w : World) (o : Obj) : At3 T ((w.alloc o).alloc (.cells #[.int .i64 0, .int .i64 0, .int .i64 0] T)) (w.heap.size + 1) (.int .i64 0) (.int .i64 0) (.int .i64 0) := by
  have := at3_new T (w.alloc o) (.int .i64 0) (.int .i64 0) (.int .i64 0)
  rw [World.size_alloc] at this
  exact this
/-- A block beside one that is stored into. -/
theorem t_put {T : TypeId} {v : World} {p q : Nat} {a0 a1 a2 b0 b1 b2 : Value} (h : At3 T v p a0 a1 a2) (k : At3 T v q b0 b1 b2) (hne : q ≠ p) (v0 v1 v2 : Value) :
    At3 T (((v.setCell ⟨p, 0, none⟩ v0).setCell ⟨p, 1, none⟩ v1).setCell ⟨p, 2, none⟩ v2) q b0 b1 b2 := (put3_other v0 v1 v2 hne).trans k
theorem n_put {T : TypeId} {v : World} {p : Nat} {a0 a1 a2 : Value} (h : At3 T v p a0 a1 a2) (v0 v1 v2 : Value) :
    At3 T ((((v.alloc (.cells #[.int .i64 0, .int .i64 0, .int .i64 0] T)).setCell ⟨p, 0, none⟩ v0).setCell ⟨p, 1, none⟩ v1).setCell ⟨p, 2, none⟩ v2) v.heap.size (.int .i64 0) (.int .i64 0) (.int .i64 0) :=
  (put3_other v0 v1 v2 (Nat.ne_of_gt (heap_lt h))).trans (at3_new T v _ _ _)
theorem eql_arr (x0 x1 x2 y0 y1 y2 : Int) (w : World) (b : Bool) (hb : (x0 == y0 && (x1 == y1 && x2 == y2)) = b) :
    (binOp .eql 42 (.agg #[.int .i64 x0, .int .i64 x1, .int .i64 x2]) (.agg #[.int .i64 y0, .int .i64 y1, .int .i64 y2])).run Try.prog w = .ok (.bool b) w := by
  subst hb
  have hu := Try.underlying42
  have hI : (Try.prog.info? 3).isSome = true := by kernel_rfl
  obtain ⟨i, hi⟩ := Option.isSome_iff_exists.1 hI
  have hc : Try.prog.cellsOf 3 = 1 := by kernel_rfl
  have a3 := Try.isAgg3
  have u3 := Try.underlying3
  have z3 := Try.sizeOf3
  rw [run_eql_struct, show (10000 : Nat) = 9999 + 1 from rfl, run_equalIn_array w 9999 _ _ hu hi, hc]
  have he : ∀ (a b : Int) (w : World), (Op.equalIn 9999 3 (.int .i64 a) (.int .i64 b)).run Try.prog w = .ok (a == b) w := fun a b w => by
    rw [show (9999 : Nat) = 9998 + 1 from rfl]
    go_simp
  go_simp
  simp [Op.eqItems, part, he]
  by_cases h0 : x0 = y0
  · by_cases h1 : x1 = y1
    · by_cases h2 : x2 = y2 <;> simp [h0, h1, h2]
    · simp [h0, h1]
  · simp [h0]
theorem guard_arr (x y : Operand) (xs ys : Array Value) (w : World) : (eqGuard .eql 42 x y (.agg xs) (.agg ys)).run Try.prog w = .ok () w := run_eqGuard_agg w _ _ _ _ _ _ (by kernel_rfl)
/-- Where two rows of three numbers stand. -/
structure TwoA (w0 : World) (x0 x1 x2 y0 y1 y2 : Int) (W : World) (p q : Nat) : Prop where
  bel : Below w0.heap.size w0 W
  x : At3 42 W p (.int .i64 x0) (.int .i64 x1) (.int .i64 x2)
  y : At3 42 W q (.int .i64 y0) (.int .i64 y1) (.int .i64 y2)
theorem two_puts {w0 v : World} {x0 x1 x2 y0 y1 y2 : Int} {p q : Nat} {a0 a1 a2 b0 b1 b2 : Value} (hb : Below w0.heap.size w0 v) (hp : At3 42 v p a0 a1 a2) (hq : At3 42 v q b0 b1 b2) (h1 : w0.heap.size ≤ p) (h2 : w0.heap.size ≤ q) (hne : q ≠ p) :
    TwoA w0 x0 x1 x2 y0 y1 y2 ((((((v.setCell ⟨p, 0, none⟩ (.int .i64 x0)).setCell ⟨p, 1, none⟩ (.int .i64 x1)).setCell ⟨p, 2, none⟩ (.int .i64 x2)).setCell ⟨q, 0, none⟩ (.int .i64 y0)).setCell ⟨q, 1, none⟩ (.int .i64 y1)).setCell ⟨q, 2, none⟩ (.int .i64 y2)) p q := by
  have k1 := heap_put3 hp (.int .i64 x0) (.int .i64 x1) (.int .i64 x2)
  have k2 : At3 42 (put3 v p (.int .i64 x0) (.int .i64 x1) (.int .i64 x2)) q b0 b1 b2 := (put3_other _ _ _ hne).trans hq
  exact ⟨below_put3 (below_put3 hb h1 _ _ _) h2 _ _ _, (put3_other _ _ _ hne.symm).trans k1, heap_put3 k2 _ _ _⟩
theorem new_put {w0 v : World} {x0 x1 x2 y0 y1 y2 : Int} {q : Nat} {b0 b1 b2 : Value} (hb : Below w0.heap.size w0 v) (hs : w0.heap.size ≤ v.heap.size) (hq : At3 42 v q b0 b1 b2) (h2 : w0.heap.size ≤ q) :
    TwoA w0 x0 x1 x2 y0 y1 y2 ((((v.alloc (.cells #[.int .i64 x0, .int .i64 x1, .int .i64 x2] 42)).setCell ⟨q, 0, none⟩ (.int .i64 y0)).setCell ⟨q, 1, none⟩ (.int .i64 y1)).setCell ⟨q, 2, none⟩ (.int .i64 y2)) v.heap.size q := by
  have hl := heap_lt hq
  exact ⟨below_put3 (hb.alloc hs _) h2 _ _ _, (put3_other _ _ _ (Nat.ne_of_gt hl)).trans (at3_new _ v _ _ _), heap_put3 (hq.alloc _) _ _ _⟩
theorem put_new {w0 v : World} {x0 x1 x2 y0 y1 y2 : Int} {p : Nat} {b0 b1 b2 : Value} (hb : Below w0.heap.size w0 v) (hs : w0.heap.size ≤ v.heap.size) (hp : At3 42 v p b0 b1 b2) (h2 : w0.heap.size ≤ p) :
    TwoA w0 x0 x1 x2 y0 y1 y2 (((((((v.alloc (.cells #[.int .i64 0, .int .i64 0, .int .i64 0] 42)).setCell ⟨p, 0, none⟩ (.int .i64 x0)).setCell ⟨p, 1, none⟩ (.int .i64 x1)).setCell ⟨p, 2, none⟩ (.int .i64 x2)).setCell ⟨v.heap.size, 0, none⟩ (.int .i64 y0)).setCell ⟨v.heap.size, 1, none⟩ (.int .i64 y1)).setCell ⟨v.heap.size, 2, none⟩ (.int .i64 y2)) p v.heap.size :=
  two_puts (hb.alloc hs _) (hp.alloc _) (at3_new _ v _ _ _) h2 hs (Nat.ne_of_gt (heap_lt hp))
theorem two_new {w0 v : World} {x0 x1 x2 y0 y1 y2 : Int} (hb : Below w0.heap.size w0 v) (hs : w0.heap.size ≤ v.heap.size) :
    TwoA w0 x0 x1 x2 y0 y1 y2 ((v.alloc (.cells #[.int .i64 x0, .int .i64 x1, .int .i64 x2] 42)).alloc (.cells #[.int .i64 y0, .int .i64 y1, .int .i64 y2] 42)) v.heap.size (v.heap.size + 1) := by
  have h2 := at3_new 42 (v.alloc (.cells #[.int .i64 x0, .int .i64 x1, .int .i64 x2] 42)) (.int .i64 y0) (.int .i64 y1) (.int .i64 y2)
  rw [World.size_alloc] at h2
  exact ⟨(hb.alloc hs _).alloc (by simp; omega) _, (at3_new _ v _ _ _).alloc _, h2⟩
theorem two_new' {w0 v : World} {x0 x1 x2 y0 y1 y2 : Int} (hb : Below w0.heap.size w0 v) (hs : w0.heap.size ≤ v.heap.size) :
    TwoA w0 x0 x1 x2 y0 y1 y2 ((v.alloc (.cells #[.int .i64 y0, .int .i64 y1, .int .i64 y2] 42)).alloc (.cells #[.int .i64 x0, .int .i64 x1, .int .i64 x2] 42)) (v.heap.size + 1) v.heap.size := by
  have h2 := at3_new 42 (v.alloc (.cells #[.int .i64 y0, .int .i64 y1, .int .i64 y2] 42)) (.int .i64 x0) (.int .i64 x1) (.int .i64 x2)
  rw [World.size_alloc] at h2
  exact ⟨(hb.alloc hs _).alloc (by simp; omega) _, h2, (at3_new _ v _ _ _).alloc _⟩
set_option maxHeartbeats 4000000 in
theorem ahead_is (x0 x1 x2 y0 y1 y2 : Int) (v : Bool) (hv : aheadB ⟨x0, x1, x2⟩ ⟨y0, y1, y2⟩ = v) (w : World) :
    Calls Try.prog 21 #[.agg #[.int .i64 x0, .int .i64 x1, .int .i64 x2], .agg #[.int .i64 y0, .int .i64 y1, .int .i64 y2]] w fun e w' => e = .returned (.bool v) ∧ Below w.heap.size w w' := by
  have HB0 := ((Below.refl w.heap.size w).alloc (Nat.le_refl _) (.cells #[.int .i64 x0, .int .i64 x1, .int .i64 x2] 25)).alloc (by simp) (.cells #[.int .i64 y0, .int .i64 y1, .int .i64 y2] 25)
  have hs := World.size_alloc w (.cells #[.int .i64 x0, .int .i64 x1, .int .i64 x2] 25)
  have hc := (at3_new 25 w (.int .i64 x0) (.int .i64 x1) (.int .i64 x2)).alloc (.cells #[.int .i64 y0, .int .i64 y1, .int .i64 y2] 25)
  have hd := at3_new 25 (w.alloc (.cells #[.int .i64 x0, .int .i64 x1, .int .i64 x2] 25)) (.int .i64 y0) (.int .i64 y1) (.int .i64 y2)
  rw [hs] at hd
  obtain ⟨w0, hw0⟩ : ∃ w0, (w.alloc (.cells #[.int .i64 x0, .int .i64 x1, .int .i64 x2] 25)).alloc (.cells #[.int .i64 y0, .int .i64 y1, .int .i64 y2] 25) = w0 := ⟨_, rfl⟩
  rw [hw0] at HB0 hc hd
  have HW := Lib.hid hw0
  have HB := Lib.hid HB0
  have HV := Lib.hid hv
  have K : Hid (∀ w', Below w0.heap.size w0 w' → (w'.cell? ⟨w.heap.size, 0, none⟩ = some (.int .i64 x0) ∧ w'.cell? ⟨w.heap.size, 1, none⟩ = some (.int .i64 x1) ∧ w'.cell? ⟨w.heap.size, 2, none⟩ = some (.int .i64 x2)) ∧ w'.cell? ⟨w.heap.size + 1, 0, none⟩ = some (.int .i64 y0) ∧ w'.cell? ⟨w.heap.size + 1, 1, none⟩ = some (.int .i64 y1) ∧ w'.cell? ⟨w.heap.size + 1, 2, none⟩ = some (.int .i64 y2)) := fun w' hb => ⟨cells3 (hc.keep hb), cells3 (hd.keep hb)⟩
  have N1 := Lib.hid (numbers_any x0 x1 x2)
  have N2 := Lib.hid (numbers_any y0 y1 y2)
  clear hw0 hs hc hd HB0 hv
  go_enter Try.func21, Try.ntmps21
  go_wp2_with fail
  rw [show (w.alloc (.cells #[.int .i64 x0, .int .i64 x1, .int .i64 x2] 25)).alloc (.cells #[.int .i64 y0, .int .i64 y1, .int .i64 y2] 25) = w0 from HW.out]
  apply ajoin (F := TwoA w0 x0 x1 x2 y0 y1 y2)
  · intro hG
    have b0 : Below w0.heap.size w0 w0.drew := (Below.refl _ w0).drew
    have b1 : Below w0.heap.size w0 (w0.alloc (.cells #[.int .i64 0, .int .i64 0, .int .i64 0] 42)).drew := ((Below.refl _ w0).alloc (Nat.le_refl _) _).drew
    have b2 : Below w0.heap.size w0 ((w0.alloc (.cells #[.int .i64 0, .int .i64 0, .int .i64 0] 42)).alloc (.cells #[.int .i64 0, .int .i64 0, .int .i64 0] 42)).drew := (((Below.refl _ w0).alloc (Nat.le_refl _) _).alloc (by simp) _).drew
    have k0 := K.out _ b0
    have k1 := K.out _ b1
    have k2 := K.out _ b2
    go_region_held3 (fun w' => (w'.cell? ⟨w.heap.size, 0, none⟩ = some (.int .i64 x0) ∧ w'.cell? ⟨w.heap.size, 1, none⟩ = some (.int .i64 x1) ∧ w'.cell? ⟨w.heap.size, 2, none⟩ = some (.int .i64 x2)) ∧ w'.cell? ⟨w.heap.size + 1, 0, none⟩ = some (.int .i64 y0) ∧ w'.cell? ⟨w.heap.size + 1, 1, none⟩ = some (.int .i64 y1) ∧ w'.cell? ⟨w.heap.size + 1, 2, none⟩ = some (.int .i64 y2))
      (first | with_reducible exact k0 | with_reducible exact k1 | with_reducible exact k2 | with_reducible exact k3 | with_reducible exact k4 | with_reducible exact k5 | with_reducible exact k6 | (refine K.out _ ?_; (iterate 8 (all_goals (try (first | (with_reducible refine Below.alloc ?_ ?_ _) | (with_reducible refine Below.setCell ?_ ?_ _))))); all_goals (first | (with_reducible assumption) | omega | (simp only [World.size_alloc, World.size_setCell]; omega))))
      (first
        | ((with_reducible refine (N2.out v1).mono ?_); rintro e v2 ⟨rfl, hb2⟩; have c2 := below_keep (c1) hb2 (c1).size; have k6 := K.out _ c2; have s2 := c2.size; have u := (hzc).keep hb2; have uc := cells3 u; have uf := free3 u; obtain ⟨u0, u1, u2⟩ := uc; obtain ⟨u3, u4, u5⟩ := uf; have t := (hzd).keep hb2; have tc := cells3 t; have tf := free3 t; obtain ⟨t0, t1, t2⟩ := tc; obtain ⟨t3, t4, t5⟩ := tf; have ux := t_put u t (by omega) (.int .i64 x0) (.int .i64 x1) (.int .i64 x2); have uxc := cells3 ux; have uxf := free3 ux; obtain ⟨ux0, ux1, ux2⟩ := uxc; obtain ⟨ux3, ux4, ux5⟩ := uxf; have uy := t_put t u (by omega) (.int .i64 x0) (.int .i64 x1) (.int .i64 x2); have uyc := cells3 uy; have uyf := free3 uy; obtain ⟨uy0, uy1, uy2⟩ := uyc; obtain ⟨uy3, uy4, uy5⟩ := uyf)
        | ((with_reducible refine (N2.out v1).mono ?_); rintro e v2 ⟨rfl, hb2⟩; have c2 := below_keep (c1) hb2 (c1).size; have k6 := K.out _ c2; have s2 := c2.size; have u := (hzb).keep hb2; have uc := cells3 u; have uf := free3 u; obtain ⟨u0, u1, u2⟩ := uc; obtain ⟨u3, u4, u5⟩ := uf; have ux := u.alloc (.cells #[.int .i64 0, .int .i64 0, .int .i64 0] 42); have uxc := cells3 ux; have uxf := free3 ux; obtain ⟨ux0, ux1, ux2⟩ := uxc; obtain ⟨ux3, ux4, ux5⟩ := uxf; have uy := u.alloc (.cells #[.int .i64 x0, .int .i64 x1, .int .i64 x2] 42); have uyc := cells3 uy; have uyf := free3 uy; obtain ⟨uy0, uy1, uy2⟩ := uyc; obtain ⟨uy3, uy4, uy5⟩ := uyf; have uz := n_put (v := v2) u (.int .i64 x0) (.int .i64 x1) (.int .i64 x2); have uzc := cells3 uz; have uzf := free3 uz; obtain ⟨uz0, uz1, uz2⟩ := uzc; obtain ⟨uz3, uz4, uz5⟩ := uzf)
        | ((with_reducible refine (N2.out (v1.alloc (.cells #[.int .i64 0, .int .i64 0, .int .i64 0] 42))).mono ?_); rintro e v2 ⟨rfl, hb2⟩; have c2 := below_keep (c1.alloc c1.size (.cells #[.int .i64 0, .int .i64 0, .int .i64 0] 42)) hb2 (c1.alloc c1.size (.cells #[.int .i64 0, .int .i64 0, .int .i64 0] 42)).size; have k6 := K.out _ c2; have s2 := c2.size; have u := (hzb.alloc (.cells #[.int .i64 0, .int .i64 0, .int .i64 0] 42)).keep hb2; have uc := cells3 u; have uf := free3 u; obtain ⟨u0, u1, u2⟩ := uc; obtain ⟨u3, u4, u5⟩ := uf; have t := (at3_new 42 v1 (.int .i64 0) (.int .i64 0) (.int .i64 0)).keep hb2; have tc := cells3 t; have tf := free3 t; obtain ⟨t0, t1, t2⟩ := tc; obtain ⟨t3, t4, t5⟩ := tf; have ux := t_put u t (by omega) (.int .i64 x0) (.int .i64 x1) (.int .i64 x2); have uxc := cells3 ux; have uxf := free3 ux; obtain ⟨ux0, ux1, ux2⟩ := uxc; obtain ⟨ux3, ux4, ux5⟩ := uxf; have uy := t_put t u (by omega) (.int .i64 x0) (.int .i64 x1) (.int .i64 x2); have uyc := cells3 uy; have uyf := free3 uy; obtain ⟨uy0, uy1, uy2⟩ := uyc; obtain ⟨uy3, uy4, uy5⟩ := uyf)
        | ((with_reducible refine (N2.out ((v1.alloc (.cells #[.int .i64 0, .int .i64 0, .int .i64 0] 42)).alloc (.cells #[.int .i64 0, .int .i64 0, .int .i64 0] 42))).mono ?_); rintro e v2 ⟨rfl, hb2⟩; have c2 := below_keep ((c1.alloc c1.size (.cells #[.int .i64 0, .int .i64 0, .int .i64 0] 42)).alloc (c1.alloc c1.size (.cells #[.int .i64 0, .int .i64 0, .int .i64 0] 42)).size (.cells #[.int .i64 0, .int .i64 0, .int .i64 0] 42)) hb2 ((c1.alloc c1.size (.cells #[.int .i64 0, .int .i64 0, .int .i64 0] 42)).alloc (c1.alloc c1.size (.cells #[.int .i64 0, .int .i64 0, .int .i64 0] 42)).size (.cells #[.int .i64 0, .int .i64 0, .int .i64 0] 42)).size; have k6 := K.out _ c2; have s2 := c2.size; have u := ((at3_new 42 v1 (.int .i64 0) (.int .i64 0) (.int .i64 0)).alloc (.cells #[.int .i64 0, .int .i64 0, .int .i64 0] 42)).keep hb2; have uc := cells3 u; have uf := free3 u; obtain ⟨u0, u1, u2⟩ := uc; obtain ⟨u3, u4, u5⟩ := uf; have t := (at3_new2 42 v1 (.cells #[.int .i64 0, .int .i64 0, .int .i64 0] 42)).keep hb2; have tc := cells3 t; have tf := free3 t; obtain ⟨t0, t1, t2⟩ := tc; obtain ⟨t3, t4, t5⟩ := tf; have ux := t_put u t (by omega) (.int .i64 x0) (.int .i64 x1) (.int .i64 x2); have uxc := cells3 ux; have uxf := free3 ux; obtain ⟨ux0, ux1, ux2⟩ := uxc; obtain ⟨ux3, ux4, ux5⟩ := uxf; have uy := t_put t u (by omega) (.int .i64 x0) (.int .i64 x1) (.int .i64 x2); have uyc := cells3 uy; have uyf := free3 uy; obtain ⟨uy0, uy1, uy2⟩ := uyc; obtain ⟨uy3, uy4, uy5⟩ := uyf)
        | ((with_reducible refine (N2.out (v1.alloc (.cells #[.int .i64 0, .int .i64 0, .int .i64 0] 42))).mono ?_); rintro e v2 ⟨rfl, hb2⟩; have c2 := below_keep (c1.alloc c1.size (.cells #[.int .i64 0, .int .i64 0, .int .i64 0] 42)) hb2 (c1.alloc c1.size (.cells #[.int .i64 0, .int .i64 0, .int .i64 0] 42)).size; have k6 := K.out _ c2; have s2 := c2.size; have u := (at3_new 42 v1 (.int .i64 0) (.int .i64 0) (.int .i64 0)).keep hb2; have uc := cells3 u; have uf := free3 u; obtain ⟨u0, u1, u2⟩ := uc; obtain ⟨u3, u4, u5⟩ := uf; have ux := u.alloc (.cells #[.int .i64 0, .int .i64 0, .int .i64 0] 42); have uxc := cells3 ux; have uxf := free3 ux; obtain ⟨ux0, ux1, ux2⟩ := uxc; obtain ⟨ux3, ux4, ux5⟩ := uxf; have uy := u.alloc (.cells #[.int .i64 x0, .int .i64 x1, .int .i64 x2] 42); have uyc := cells3 uy; have uyf := free3 uy; obtain ⟨uy0, uy1, uy2⟩ := uyc; obtain ⟨uy3, uy4, uy5⟩ := uyf; have uz := n_put (v := v2) u (.int .i64 x0) (.int .i64 x1) (.int .i64 x2); have uzc := cells3 uz; have uzf := free3 uz; obtain ⟨uz0, uz1, uz2⟩ := uzc; obtain ⟨uz3, uz4, uz5⟩ := uzf)
        | ((with_reducible refine (N2.out v1).mono ?_); rintro e v2 ⟨rfl, hb2⟩; have c2 := below_keep (c1) hb2 (c1).size; have k6 := K.out _ c2; have s2 := c2.size)
        | ((with_reducible refine (N1.out ((w0.alloc (.cells #[.int .i64 0, .int .i64 0, .int .i64 0] 42)).alloc (.cells #[.int .i64 0, .int .i64 0, .int .i64 0] 42)).drew).mono ?_); rintro e v1 ⟨rfl, hb1⟩; have c1 := below_keep b2 hb1 b2.size; have s1 := c1.size; have k3 := K.out _ c1; have k4 := K.out _ (c1.alloc c1.size (.cells #[.int .i64 0, .int .i64 0, .int .i64 0] 42)); have k5 := K.out _ ((c1.alloc c1.size (.cells #[.int .i64 0, .int .i64 0, .int .i64 0] 42)).alloc (c1.alloc c1.size (.cells #[.int .i64 0, .int .i64 0, .int .i64 0] 42)).size (.cells #[.int .i64 0, .int .i64 0, .int .i64 0] 42)); have hzc := (((at3_new 42 w0 (.int .i64 0) (.int .i64 0) (.int .i64 0)).alloc (.cells #[.int .i64 0, .int .i64 0, .int .i64 0] 42)).drew).keep hb1; have lhzc := heap_lt hzc; have hzd := ((at3_new2 42 w0 (.cells #[.int .i64 0, .int .i64 0, .int .i64 0] 42)).drew).keep hb1; have lhzd := heap_lt hzd)
        | ((with_reducible refine (N1.out (w0.alloc (.cells #[.int .i64 0, .int .i64 0, .int .i64 0] 42)).drew).mono ?_); rintro e v1 ⟨rfl, hb1⟩; have c1 := below_keep b1 hb1 b1.size; have s1 := c1.size; have k3 := K.out _ c1; have k4 := K.out _ (c1.alloc c1.size (.cells #[.int .i64 0, .int .i64 0, .int .i64 0] 42)); have k5 := K.out _ ((c1.alloc c1.size (.cells #[.int .i64 0, .int .i64 0, .int .i64 0] 42)).alloc (c1.alloc c1.size (.cells #[.int .i64 0, .int .i64 0, .int .i64 0] 42)).size (.cells #[.int .i64 0, .int .i64 0, .int .i64 0] 42)); have hzb := ((at3_new 42 w0 (.int .i64 0) (.int .i64 0) (.int .i64 0)).drew).keep hb1; have lhzb := heap_lt hzb)
        | ((with_reducible refine (N1.out w0.drew).mono ?_); rintro e v1 ⟨rfl, hb1⟩; have c1 := below_keep b0 hb1 b0.size; have s1 := c1.size; have k3 := K.out _ c1; have k4 := K.out _ (c1.alloc c1.size (.cells #[.int .i64 0, .int .i64 0, .int .i64 0] 42)); have k5 := K.out _ ((c1.alloc c1.size (.cells #[.int .i64 0, .int .i64 0, .int .i64 0] 42)).alloc (c1.alloc c1.size (.cells #[.int .i64 0, .int .i64 0, .int .i64 0] 42)).size (.cells #[.int .i64 0, .int .i64 0, .int .i64 0] 42))))
    · have hF := two_new (x0 := x0) (x1 := x1) (x2 := x2) (y0 := y0) (y1 := y1) (y2 := y2) c2 s2
      generalize v2.heap.size + 1 = q at hF ⊢
      generalize v2.heap.size = p at hF ⊢
      generalize (v2.alloc (.cells #[.int .i64 x0, .int .i64 x1, .int .i64 x2] 42)).alloc (.cells #[.int .i64 y0, .int .i64 y1, .int .i64 y2] 42) = W at hF ⊢
      exact hG W p q hF
    · have hF := two_new' (x0 := x0) (x1 := x1) (x2 := x2) (y0 := y0) (y1 := y1) (y2 := y2) c2 s2
      have hg := hG _ _ _ hF
      exact hg
    · have hF := put_new (x0 := x0) (x1 := x1) (x2 := x2) (y0 := y0) (y1 := y1) (y2 := y2) c2 s2 u (by omega)
      have hg := hG _ _ _ hF
      exact hg
    · have hF := two_puts (x0 := x0) (x1 := x1) (x2 := x2) (y0 := y0) (y1 := y1) (y2 := y2) c2 u t (by omega) (by omega) (by omega)
      have hg := hG _ _ _ hF
      exact hg
    · have hF := new_put (x0 := x0) (x1 := x1) (x2 := x2) (y0 := y0) (y1 := y1) (y2 := y2) c2 s2 u (by omega)
      have hg := hG _ _ _ hF
      exact hg
    · have hF := two_puts (x0 := x0) (x1 := x1) (x2 := x2) (y0 := y0) (y1 := y1) (y2 := y2) c2 t u (by omega) (by omega) (by omega)
      have hg := hG _ _ _ hF
      exact hg
    · have hF := put_new (x0 := x0) (x1 := x1) (x2 := x2) (y0 := y0) (y1 := y1) (y2 := y2) c2 s2 u (by omega)
      have hg := hG _ _ _ hF
      exact hg
    · have hF := two_puts (x0 := x0) (x1 := x1) (x2 := x2) (y0 := y0) (y1 := y1) (y2 := y2) c2 u t (by omega) (by omega) (by omega)
      have hg := hG _ _ _ hF
      exact hg
    · have hF := two_puts (x0 := x0) (x1 := x1) (x2 := x2) (y0 := y0) (y1 := y1) (y2 := y2) c2 u t (by omega) (by omega) (by omega)
      have hg := hG _ _ _ hF
      exact hg
    · have hF := new_put (x0 := x0) (x1 := x1) (x2 := x2) (y0 := y0) (y1 := y1) (y2 := y2) c2 s2 u (by omega)
      have hg := hG _ _ _ hF
      exact hg
    · have hF := two_puts (x0 := x0) (x1 := x1) (x2 := x2) (y0 := y0) (y1 := y1) (y2 := y2) c2 t u (by omega) (by omega) (by omega)
      have hg := hG _ _ _ hF
      exact hg
    · have hF := two_puts (x0 := x0) (x1 := x1) (x2 := x2) (y0 := y0) (y1 := y1) (y2 := y2) c2 t u (by omega) (by omega) (by omega)
      have hg := hG _ _ _ hF
      exact hg
  · intro W p q hF
    have HB2 := Lib.hid (HB.out.trans (hF.bel.mono (HB.out.size)))
    obtain ⟨p0, p1, p2⟩ := cells3 hF.x
    obtain ⟨q0, q1, q2⟩ := cells3 hF.y
    have HX := Lib.hid (fun w' (hb : Below W.heap.size W w') => cells3 (hF.x.keep hb))
    have HY := Lib.hid (fun w' (hb : Below W.heap.size W w') => cells3 (hF.y.keep hb))
    clear hF K N1 N2
    have hgd := fun x y xs ys w => guard_arr x y xs ys w
    have hv := HV.out
    unfold aheadB at hv
    dsimp only at hv
    by_cases h0 : x0 = y0
    · rw [if_pos h0] at hv
      by_cases h1 : x1 = y1
      · rw [if_pos h1] at hv
        by_cases h2 : x2 = y2
        · have hcmp := fun w => eql_arr x0 x1 x2 y0 y1 y2 w true (by simp [h0, h1, h2])
          have hno : v = false := by rw [← hv]; simp; omega
          subst hno
          clear hv h0 h1 h2
          go_wp2_with fail
          go_ret
          exact ⟨rfl, HB2.out⟩
        · have hcmp := fun w => eql_arr x0 x1 x2 y0 y1 y2 w false (by simp [h2])
          have HV2 := Lib.hid hv
          have e0 : (x0 == y0) = true := by simp [h0]
          have e1 : (x1 == y1) = true := by simp [h1]
          have e2 : (x2 == y2) = false := by simp [h2]
          clear hv h0 h1 h2
          go_wp2_with fail
          go_loopw [7] (fun i wr => (i = .int .i64 0 ∨ i = .int .i64 1 ∨ i = .int .i64 2) ∧ Hid (Below W.heap.size W wr)) (fun i _ => 2 - (intOf i).toNat)
          case atStart => exact ⟨.inl rfl, Below.refl _ W⟩
          case round =>
            obtain ⟨hi, hB⟩ := hrel
            obtain ⟨a0, a1, a2⟩ := HX.out _ hB.out
            obtain ⟨b0, b1, b2⟩ := HY.out _ hB.out
            rcases hi with rfl | rfl | rfl
            · go_wp2_with fail
              go_quiet (fail)
              go_wp2_with fail
              go_roundw
              case rel => exact ⟨.inr (.inl rfl), below_drewN hB.out _⟩
              case measure => simp [intOf]
            · go_wp2_with fail
              go_quiet (fail)
              go_wp2_with fail
              go_roundw
              case rel => exact ⟨.inr (.inr rfl), below_drewN hB.out _⟩
              case measure => simp [intOf]
            · go_wp2_with fail
              go_quiet (fail)
              go_wp2_with fail
              go_quiet (fail)
              go_wp2_with fail
              go_ret
              exact ⟨ret_bool HV2.out.symm, HB2.out.trans ((below_drewN (below_drewN hB.out _) _).mono HB2.out.size)⟩
      · rw [if_neg h1] at hv
        have hcmp := fun w => eql_arr x0 x1 x2 y0 y1 y2 w false (by simp [h1])
        have HV2 := Lib.hid hv
        have e0 : (x0 == y0) = true := by simp [h0]
        have e1 : (x1 == y1) = false := by simp [h1]
        clear hv h0 h1
        go_wp2_with fail
        go_loopw [7] (fun i wr => (i = .int .i64 0 ∨ i = .int .i64 1) ∧ Hid (Below W.heap.size W wr)) (fun i _ => 1 - (intOf i).toNat)
        case atStart => exact ⟨.inl rfl, Below.refl _ W⟩
        case round =>
          obtain ⟨hi, hB⟩ := hrel
          obtain ⟨a0, a1, a2⟩ := HX.out _ hB.out
          obtain ⟨b0, b1, b2⟩ := HY.out _ hB.out
          rcases hi with rfl | rfl
          · go_wp2_with fail
            go_quiet (fail)
            go_wp2_with fail
            go_roundw
            case rel => exact ⟨.inr rfl, below_drewN hB.out _⟩
            case measure => simp [intOf]
          · go_wp2_with fail
            go_quiet (fail)
            go_wp2_with fail
            go_quiet (fail)
            go_wp2_with fail
            go_ret
            exact ⟨ret_bool HV2.out.symm, HB2.out.trans ((below_drewN (below_drewN hB.out _) _).mono HB2.out.size)⟩
    · rw [if_neg h0] at hv
      have hcmp := fun w => eql_arr x0 x1 x2 y0 y1 y2 w false (by simp [h0])
      have HV2 := Lib.hid hv
      have e0 : (x0 == y0) = false := by simp [h0]
      clear hv h0
      go_wp2_with fail
      go_loopw [7] (fun i wr => (i = .int .i64 0) ∧ Hid (Below W.heap.size W wr)) (fun i _ => 0 - (intOf i).toNat)
      case atStart => exact ⟨rfl, Below.refl _ W⟩
      case round =>
        obtain ⟨hi, hB⟩ := hrel
        obtain ⟨a0, a1, a2⟩ := HX.out _ hB.out
        obtain ⟨b0, b1, b2⟩ := HY.out _ hB.out
        rcases hi with rfl
        · go_wp2_with fail
          go_quiet (fail)
          go_wp2_with fail
          go_quiet (fail)
          go_wp2_with fail
          go_ret
          exact ⟨ret_bool HV2.out.symm, HB2.out.trans ((below_drewN (below_drewN hB.out _) _).mono HB2.out.size)⟩
end Go.Proofs.Ytcfjnpepbjaacaa.Timer
