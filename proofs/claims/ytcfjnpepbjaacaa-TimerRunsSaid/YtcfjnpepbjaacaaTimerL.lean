/-
  TimerRuns; what was there stays as it was.
-/
import Derived.Test.YtcfjnpepbjaacaaTimerK
import Derived.Test.YtcfjnpepbjaacaaTimerRun
import Derived.Test.YtcfjnpepbjaacaaRwStep
set_option linter.unusedVariables false
set_option linter.unusedSimpArgs false
set_option maxRecDepth 4000
namespace Go.Proofs.Ytcfjnpepbjaacaa.Timer
open Go.RowKit TimerP
open Go.Proofs.Ytcfjnpepbjaacaa.Kt

theorem vjoin {G : Prop} {F : World → Value → Prop} {P : World → Value → Value → Value → Prop} (main : (∀ w v s t, F w v → P w v s t) → G) (pf : ∀ w v s t, F w v → P w v s t) : G := main pf
/-- A row that comes back is a slice of its timers. -/
theorem RowP.at {w w' : World} {l : List Tm} {e : Ending} {n : Nat} (h : RowP w l e w') (hn : l.length = n) (hs : n ≤ 1000000) :
    ∃ a c, e = .returned (.slice a n c) ∧ n ≤ c ∧ TmAt w' a n l ∧ w'.ownsRow w.heap.size 25 3 (.slice a n c) n (Rw.cells tmS l) ∧ Below w.heap.size w w' := by
  obtain ⟨v, rfl, hO, hb⟩ := h
  rw [hn] at hO
  obtain ⟨a, c, rfl, hc⟩ := Rw.owns_slice hO
  exact ⟨a, c, rfl, hc, Rw.own_at (S := tmS) hO hn (by omega), hO, hb⟩
theorem at_put {w : World} {a : Option Addr} {n k : Nat} {l : List Tm} (h : TmAt w a n l) (hne : n = 0 ∨ ∀ ad, a = some ad → ad.block ≠ k) (v0 v1 v2 : Value) : TmAt (put3 w k v0 v1 v2) a n l := by
  refine ⟨h.1, h.2.1, ?_⟩
  rcases h.2.2 with h0 | ⟨b, off, e, hlt, hc⟩
  · exact .inl h0
  rcases hne with h0 | hne
  · exact .inl h0
  have hb := hne _ e
  refine .inr ⟨b, off, e, by rw [size_put3]; exact hlt, fun j u hu => ?_⟩
  exact (World.cell?_of_block (a := ⟨b, off + j, none⟩) (put3_other v0 v1 v2 hb)).trans (hc j u hu)
theorem at_apart {w : World} {a : Option Addr} {n : Nat} {l : List Tm} (h : TmAt w a n l) : n = 0 ∨ ∀ ad, a = some ad → ad.block ≠ w.heap.size := by
  rcases h.2.2 with h0 | ⟨b, off, e, hlt, _⟩
  · exact .inl h0
  · refine .inr fun ad hd => ?_
    rw [e] at hd; cases hd; exact Nat.ne_of_lt hlt
theorem own_apart {w : World} {B n c k : Nat} {a : Option Addr} {xs : List Value} (h : w.ownsRow B 25 3 (.slice a n c) n xs) (hk : k < B) : n = 0 ∨ ∀ ad, a = some ad → ad.block ≠ k := by
  rcases Rw.owns_form h with ⟨_, h0⟩ | ⟨g, cp, e, hB, _⟩
  · exact .inl h0
  · refine .inr fun ad hd => ?_
    cases e; cases hd
    show g ≠ k
    omega
theorem most_first (N : List Tm) (n j t0 t1 t2 : Int) (h : firstT n N = some ⟨t0, t1, t2⟩) : getT (firstT n N) = ⟨t0, t1, t2⟩ ∧ (firstT n N).isSome = true := by rw [h]; exact ⟨rfl, rfl⟩


theorem own_cells {W : World} {k : Nat} {x0 x1 x2 : Int} (h : At3 25 W k (.int .i64 x0) (.int .i64 x1) (.int .i64 x2)) : ∀ (j : Nat) (u : Value), (tmS.c ⟨x0, x1, x2⟩)[j]? = some u → W.cell? ⟨k, j, none⟩ = some u := by
  intro j u hu
  rw [cell_of_heap h, ← hu]
  simp [tmS, tcell]

set_option maxHeartbeats 16000000 in
theorem runs_any (a : Option Addr) (len cap : Nat) (l : List Tm) (w : World) (h : TmAt w a len l) :
    Calls Try.prog 5 #[.slice a len cap] w fun e w' => e = .returned (.bool true) ∧ Below w.heap.size w w' := by
  have hl := h.2.1
  by_cases h40 : 40 < len
  · have e0 : (40 : Int) < (len : Int) := by omega
    clear h
    go_enter Try.func5, Try.ntmps5
    go_wp2_with fail
    refine (awake_any w).mono ?_
    rintro e w1 ⟨rfl, hb⟩
    have B1 := Lib.hid hb
    clear hb
    go_wp2_with fail
    go_ret
    exact ⟨rfl, B1.out⟩
  have e0 : ¬ (40 : Int) < (len : Int) := by omega
  have HX := Lib.hid h
  clear h
  go_enter Try.func5, Try.ntmps5
  go_wp2_with fail
  go_loopw [3, 4, 5] (fun v3 v4 i wr => ∃ (k : Nat) (N M : List Tm) (a1 : Option Addr) (n1 c1 : Nat) (a2 : Option Addr) (c2 : Nat), k ≤ len ∧ i = .int .i64 (k : Int) ∧ v3 = .slice a1 n1 c1 ∧ v4 = .slice a2 n1 c2 ∧ n1 ≤ c1 ∧ Hid (TmAt wr a1 n1 N) ∧ Hid (TmAt wr a2 n1 M) ∧ Hid (RunP k N M) ∧ Hid (Below w.heap.size w wr)) (fun _ _ i _ => len - (intOf i).toNat)
  case atStart => exact ⟨0, [], [], none, 0, 0, none, 0, Nat.zero_le _, rfl, rfl, rfl, Nat.le_refl _, Rw.At.nil _ _ _, Rw.At.nil _ _ _, runP_zero, Below.refl _ w⟩
  case round =>
    obtain ⟨k, N, M, a1, n1, c1, a2, c2, hk, rfl, rfl, rfl, hc1, hA1, hA2, HRUN, hB⟩ := hrel
    by_cases hlk : k < len
    · have hk40 : k ≤ 40 := by omega
      obtain ⟨b1, o1, x0, x1, x2, rfl, _, _, hcx⟩ := TmAt.at HX.out hlk
      obtain ⟨d0, d1, d2⟩ := hcx wr hB.out
      have hn40 : n1 ≤ 40 := by rw [← hA1.out.1]; have := HRUN.out.le; omega
      have hu1 := (Below.refl wr.heap.size wr).alloc (Nat.le_refl _) (.cells #[.int .i64 x0, .int .i64 x1, .int .i64 x2] 25)
      have hz1 := at3_new 25 wr (.int .i64 x0) (.int .i64 x1) (.int .i64 x2)
      obtain ⟨q0, q1, q2⟩ := cells3 hz1
      obtain ⟨u1, hu⟩ : ∃ u1, wr.alloc (.cells #[.int .i64 x0, .int .i64 x1, .int .i64 x2] 25) = u1 := ⟨_, rfl⟩
      rw [hu] at hu1 hz1
      obtain ⟨b6, hb6⟩ : ∃ b6, wr.heap.size = b6 := ⟨_, rfl⟩
      rw [hb6] at hz1 q0 q1 q2
      have HU := Lib.hid hu
      have HB6 := Lib.hid hb6
      have B1 := Lib.hid (below_keep hB.out hu1 hB.out.size)
      have Z1 := Lib.hid hz1
      have A11 := Lib.hid (hA1.out.keep hu1)
      have A21 := Lib.hid (hA2.out.keep hu1)
      clear hcx hu1 hz1 hu hb6 hA1 hA2 hB
      by_cases h2 : x2 = 0
      · subst h2
        have e2 : ((0 : Int) == 0) = true := rfl
        obtain ⟨n3, hn3⟩ : ∃ n3, (dropT x1 0 N).length = n3 := ⟨_, rfl⟩
        have hr := HRUN.out.drop x1 0
        have hn3' : (dropT x1 0 M).length = n3 := by rw [← hn3]; exact hr.len.symm
        have hs3 : n3 ≤ 1000000 := by rw [← hn3]; have := hr.le; omega
        have HR := Lib.hid hr
        have C1 := Lib.hid ((drop_any a1 n1 c1 N x1 0 (by omega) u1 A11.out).mono fun e w' h => RowP.at h hn3 hs3)
        clear hr q0 q1 q2
        obtain ⟨q0, q1, q2⟩ := cells3 Z1.out
        go_wp2_with fail
        rw [show wr.alloc (.cells #[.int .i64 x0, .int .i64 x1, .int .i64 0] 25) = u1 from HU.out]
        rw [show wr.heap.size = b6 from HB6.out]
        go_wp2_with fail
        refine C1.out.mono ?_
        rintro e u2 ⟨a3, c3, rfl, hc3, hA3, _, hb⟩
        have B2 := Lib.hid (below_keep B1.out hb B1.out.size)
        have Z2 := Lib.hid (Z1.out.keep hb)
        have A32 := Lib.hid hA3
        have C2 := Lib.hid ((rdrop_any a2 n1 c2 M x1 0 (by omega) u2 (A21.out.keep hb)).mono fun e w' h => RowP.at h hn3' hs3)
        clear hb hA3 q0 q1 q2 C1
        obtain ⟨q0, q1, q2⟩ := cells3 Z2.out
        go_wp2_with fail
        refine C2.out.mono ?_
        rintro e u3 ⟨a4, c4, rfl, hc4, hA4, _, hb⟩
        have B3 := Lib.hid (below_keep B2.out hb B2.out.size)
        have A33 := Lib.hid (A32.out.keep hb)
        have A43 := Lib.hid hA4
        clear hb hA4 q0 q1 q2 C2
        have CF := Lib.hid (fit_any a3 n3 c3 (dropT x1 0 N) hc3 true (fitB_iff.2 HR.out.fit) u3 A33.out)
        go_wp2_with fail
        refine CF.out.mono ?_
        rintro e wf ⟨rfl, hb⟩
        have BF := Lib.hid (below_keep B3.out hb B3.out.size)
        have AF1 := Lib.hid (A33.out.keep hb)
        have AF2 := Lib.hid (A43.out.keep hb)
        have hnn : ((n3 : Int) != (n3 : Int)) = false := by simp
        clear hb CF
        go_wp2_with fail
        go_roundw
        case rel => exact ⟨k + 1, (dropT x1 0 N), (dropT x1 0 M), a3, n3, c3, a4, c4, by omega, by go_num, rfl, rfl, hc3, AF1, AF2, HR, BF⟩
        case measure => simp [intOf]; omega
      · have e2 : (x2 == 0) = false := beq_eq_false_iff_ne.2 h2
        cases h1 : oneT ⟨x0, x1, x2⟩ with
        | true =>
          obtain ⟨mm, hmm⟩ : ∃ mm, insT ⟨x0, x1, x2⟩ (dropT x1 x2 N) = mm := ⟨_, rfl⟩
          obtain ⟨m1, hm1⟩ : ∃ m1, mm.length = m1 := ⟨_, rfl⟩
          have hset := HRUN.out.set_is hk40 h1
          simp only [hmm] at hset
          have hs9 : RunP (k + 1) (insT ⟨x0, x1, x2⟩ (dropT x1 x2 N)) (dropT x1 x2 M ++ [⟨x0, x1, x2⟩]) := HRUN.out.set hk40 h1
          rw [hmm] at hs9
          have HM1 := Lib.hid hm1
          have hm40 : m1 ≤ 41 := by rw [← hm1]; have := hs9.le; omega
          have HS9 := Lib.hid hs9
          have C1 := Lib.hid (set_is a1 n1 c1 N mm 0 hc1 x0 x1 x2 hset u1 A11.out)
          clear hset hs9
          go_wp2_with fail
          rw [show wr.alloc (.cells #[.int .i64 x0, .int .i64 x1, .int .i64 x2] 25) = u1 from HU.out]
          refine C1.out.mono ?_
          rintro e u2 ⟨a7, n7, c7, rfl, hc7, hA7, hb⟩
          obtain rfl : m1 = n7 := hm1.symm.trans hA7.1
          have B2 := Lib.hid (below_keep B1.out hb B1.out.size)
          have Z2 := Lib.hid (Z1.out.keep hb)
          have A12 := Lib.hid hA7
          have A22 := Lib.hid (A21.out.keep hb)
          clear hb hA7 q0 q1 q2 C1 hm1
          rw [show wr.heap.size = b6 from HB6.out]
          obtain ⟨q0, q1, q2⟩ := cells3 Z2.out
          go_wp2_with fail
          clear q0 q1 q2
          have K : Hid (∀ w', Below u2.heap.size u2 w' → w'.cell? ⟨b6, 0, none⟩ = some (.int .i64 x0) ∧ w'.cell? ⟨b6, 1, none⟩ = some (.int .i64 x1) ∧ w'.cell? ⟨b6, 2, none⟩ = some (.int .i64 x2)) := fun w' hb => cells3 (Z2.out.keep hb)
          have hm4 : (dropT x1 x2 M).length ≤ 1000000 := by have := List.length_filter_le (leftB x1 x2) M; have := HRUN.out.len; have := HRUN.out.le; unfold dropT; omega
          obtain ⟨ys, hys⟩ : ∃ ys, dropT x1 x2 M = ys := ⟨_, rfl⟩
          have CR := Lib.hid (fun W (hW : Below u2.heap.size u2 W) => rdrop_any a2 n1 c2 M x1 x2 (by omega) W (A22.out.keep hW))
          rw [hys] at CR hm4
          obtain ⟨n4, hn4⟩ : ∃ n4, ys.length = n4 := ⟨_, rfl⟩
          have HN4 := Lib.hid hn4
          rw [hn4] at hm4
          have CR := Lib.hid (fun W (hW : Below u2.heap.size u2 W) => (CR.out W hW).mono fun e w' h => RowP.at h hn4 hm4)
          have HYS := Lib.hid hys
          have hm5 : n4 ≤ 4000000 := by omega
          clear hn4 hys
          apply vjoin (F := fun W v => Below u2.heap.size u2 W ∧ W.ownsRow u2.heap.size 25 3 v (n4 + 1) (Rw.cells tmS (ys ++ [⟨x0, x1, x2⟩])))
          · intro hG
            have b0 : Below u2.heap.size u2 u2.drew := (Below.refl _ u2).drew
            have b1 : Below u2.heap.size u2 (u2.alloc (.cells #[.int .i64 x0, .int .i64 x1, .int .i64 x2] 25)).drew := ((Below.refl _ u2).alloc (Nat.le_refl _) _).drew
            have k0 := K.out _ b0
            have k1 := K.out _ b1
            have k2 := K.out _ ((Below.refl _ u2).alloc (Nat.le_refl _) (.cells #[.int .i64 x0, .int .i64 x1, .int .i64 x2] 25))
            have hzn := at3_new 25 u2 (.int .i64 x0) (.int .i64 x1) (.int .i64 x2)
            go_region_held3 (fun w' => w'.cell? ⟨b6, 0, none⟩ = some (.int .i64 x0) ∧ w'.cell? ⟨b6, 1, none⟩ = some (.int .i64 x1) ∧ w'.cell? ⟨b6, 2, none⟩ = some (.int .i64 x2))
              (first | with_reducible exact k0 | with_reducible exact k1 | with_reducible exact k2 | with_reducible exact k4 | with_reducible exact k5 | with_reducible exact k6)
              (first
                | (refine Rw.step_append_one tmS rfl _ _ rfl u2.heap.size (.slice a4 n4 c4) n4 ys w4.heap.size ⟨x0, x1, x2⟩ (by simp [Act.eval, Act.put]) hO4a (by simp [Act.eval, Act.put]) hc4a hm5 hsz4a ?_; intro v5 w5 hO5 hg5; have b5 := Rw.below_more b4a hsz4a hO4a hg5; have k6 := K.out _ b5)
                | (refine Rw.step_append_one tmS rfl _ _ rfl u2.heap.size (.slice a4 n4 c4) n4 ys u2.heap.size ⟨x0, x1, x2⟩ (by simp [Act.eval, Act.put]) hO4b (by simp [Act.eval, Act.put]) hc4b hm5 hsz4b ?_; intro v5 w5 hO5 hg5; have b5 := Rw.below_more b4b hsz4b hO4b hg5; have k6 := K.out _ b5)
                | ((with_reducible refine (CR.out (u2.alloc (.cells #[.int .i64 x0, .int .i64 x1, .int .i64 x2] 25)).drew b1).mono ?_); rintro e w4 ⟨a4, c4, rfl, hk4, hA4, hO4, hb4⟩; have b4b := below_keep b1 hb4 b1.size; have hsz4b := b4b.size; have hO4b := Rw.owns_base hO4 b1.size; have hc4b := own_cells (hzn.drew.keep hb4); have k4 := K.out _ b4b)
                | ((with_reducible refine (CR.out u2.drew b0).mono ?_); rintro e w4 ⟨a4, c4, rfl, hk4, hA4, hO4, hb4⟩; have b4 := below_keep b0 hb4 b0.size; have b4a := b4.alloc b4.size (.cells #[.int .i64 x0, .int .i64 x1, .int .i64 x2] 25); have hsz4a := b4a.size; have hO4a := (Rw.owns_base hO4 b0.size).alloc (.cells #[.int .i64 x0, .int .i64 x1, .int .i64 x2] 25); have hc4a := own_cells (at3_new 25 w4 (.int .i64 x0) (.int .i64 x1) (.int .i64 x2)); have k4 := K.out _ b4; have k5 := K.out _ b4a))
            all_goals
              have hF : Below u2.heap.size u2 w5 ∧ w5.ownsRow u2.heap.size 25 3 v5 (n4 + 1) (Rw.cells tmS (ys ++ [⟨x0, x1, x2⟩])) := ⟨b5, hO5⟩
              first
                | (generalize Value.slice a4 n4 c4 = s54
                   generalize Value.slice (some ⟨w4.heap.size, 0, none⟩) 1 1 = s56
                   exact hG w5 v5 s54 s56 hF)
                | (generalize Value.slice a4 n4 c4 = s54
                   generalize Value.slice (some ⟨u2.heap.size, 0, none⟩) 1 1 = s56
                   exact hG w5 v5 s54 s56 hF)
          · intro w5 v5 s54 s56 hF
            obtain ⟨a5, c5, rfl, hc5⟩ := Rw.owns_slice hF.2
            have B5 := Lib.hid (below_keep B2.out hF.1 B2.out.size)
            have A15 := Lib.hid (A12.out.keep hF.1)
            have hrun := HS9.out
            have hyl : (dropT x1 x2 M ++ [(⟨x0, x1, x2⟩ : Tm)]).length = m1 := hrun.len.symm.trans HM1.out
            rw [show dropT x1 x2 M = ys from HYS.out] at hyl
            rw [List.length_append, HN4.out] at hyl
            have hyl : n4 + 1 = m1 := hyl
            have hO5 := hF.2
            rw [hyl] at hO5 ⊢
            have A25 := Lib.hid (Rw.own_at (S := tmS) hO5 (by rw [List.length_append, HN4.out]; exact hyl) (by omega))
            have hrun2 := hrun
            simp only [show dropT x1 x2 M = ys from HYS.out] at hrun2
            have HRUN2 := Lib.hid hrun2
            clear hF K CR hrun hrun2 hyl hO5 hc5
            have CF := Lib.hid (fit_any a7 m1 c7 mm hc7 true (fitB_iff.2 HRUN2.out.fit) w5 A15.out)
            go_wp2_with fail
            refine CF.out.mono ?_
            rintro e wf ⟨rfl, hb⟩
            have BF := Lib.hid (below_keep B5.out hb B5.out.size)
            have AF1 := Lib.hid (A15.out.keep hb)
            have AF2 := Lib.hid (A25.out.keep hb)
            have hnn : ((m1 : Int) != (m1 : Int)) = false := by simp
            clear hb CF
            go_wp2_with fail
            go_roundw
            case rel => exact ⟨k + 1, mm, (ys ++ [(⟨x0, x1, x2⟩ : Tm)]), a7, m1, c7, a5, c5, by omega, by go_num, rfl, rfl, hc7, AF1, AF2, HRUN2, BF⟩
            case measure => simp [intOf]; omega
        | false =>
          have hset := HRUN.out.set_not h1
          have C1 := Lib.hid (set_is a1 n1 c1 N [] 1 hc1 x0 x1 x2 hset u1 A11.out)
          have HR := Lib.hid HRUN.out.more
          clear hset
          go_wp2_with fail
          rw [show wr.alloc (.cells #[.int .i64 x0, .int .i64 x1, .int .i64 x2] 25) = u1 from HU.out]
          refine C1.out.mono ?_
          rintro e u2 ⟨a7, n7, c7, rfl, hc7, hA7, hb⟩
          have B2 := Lib.hid (below_keep B1.out hb B1.out.size)
          have Z2 := Lib.hid (Z1.out.keep hb)
          have A12 := Lib.hid (A11.out.keep hb)
          have A22 := Lib.hid (A21.out.keep hb)
          clear hb hA7 q0 q1 q2 C1
          rw [show wr.heap.size = b6 from HB6.out]
          obtain ⟨q0, q1, q2⟩ := cells3 Z2.out
          have C2 := Lib.hid (rone_is x0 x1 x2 false h1 u2)
          go_wp2_with fail
          refine C2.out.mono ?_
          rintro e u3 ⟨rfl, hb⟩
          have B3 := Lib.hid (below_keep B2.out hb B2.out.size)
          have A13 := Lib.hid (A12.out.keep hb)
          have A23 := Lib.hid (A22.out.keep hb)
          clear hb q0 q1 q2 C2
          have CF := Lib.hid (fit_any a1 n1 c1 N hc1 true (fitB_iff.2 HR.out.fit) u3 A13.out)
          go_wp2_with fail
          refine CF.out.mono ?_
          rintro e wf ⟨rfl, hb⟩
          have BF := Lib.hid (below_keep B3.out hb B3.out.size)
          have AF1 := Lib.hid (A13.out.keep hb)
          have AF2 := Lib.hid (A23.out.keep hb)
          have hnn : ((n1 : Int) != (n1 : Int)) = false := by simp
          clear hb CF
          go_wp2_with fail
          go_roundw
          case rel => exact ⟨k + 1, N, M, a1, n1, c1, a2, c2, by omega, by go_num, rfl, rfl, hc1, AF1, AF2, HR, BF⟩
          case measure => simp [intOf]; omega
    · obtain rfl : k = len := by omega
      have HN : Hid (N.length = n1) := hA1.out.1
      obtain ⟨n, hnn⟩ : ∃ n, n1 = n := ⟨_, rfl⟩
      rw [hnn] at hA1 hA2 HN hc1 ⊢
      clear hnn
      have hu0 := (Below.refl wr.heap.size wr).alloc (Nat.le_refl _) (.cells #[.int .i64 0, .int .i64 0, .int .i64 0] 25)
      have hz0 := at3_new 25 wr (.int .i64 0) (.int .i64 0) (.int .i64 0)
      have hne := at_apart hA2.out
      obtain ⟨u0, hu⟩ : ∃ u0, wr.alloc (.cells #[.int .i64 0, .int .i64 0, .int .i64 0] 25) = u0 := ⟨_, rfl⟩
      rw [hu] at hu0 hz0
      obtain ⟨b9, hb9⟩ : ∃ b9, wr.heap.size = b9 := ⟨_, rfl⟩
      rw [hb9] at hz0 hne
      have HB9 : Hid (w.heap.size ≤ b9) := by show _ ≤ _; rw [← hb9]; exact hB.out.size
      have HNE := Lib.hid hne
      have HU := Lib.hid hu
      have HBE := Lib.hid hb9
      have B0 := Lib.hid (below_keep hB.out hu0 hB.out.size)
      have Z0 := Lib.hid hz0
      have A10 := Lib.hid (hA1.out.keep hu0)
      have A20 := Lib.hid (hA2.out.keep hu0)
      clear hne hu0 hz0 hu hb9 hA1 hA2 hB
      go_wp2_with fail
      rw [show wr.alloc (.cells #[.int .i64 0, .int .i64 0, .int .i64 0] 25) = u0 from HU.out]
      rw [show wr.heap.size = b9 from HBE.out]
      go_wp2_with fail
      go_loopw [3, 10] (fun v3 i wq => ∃ (j : Nat) (aj : Option Addr) (cj : Nat) (y0 y1 y2 : Int), j ≤ n ∧ i = .int .i64 (j : Int) ∧ v3 = .slice aj j cj ∧ Hid (TmAt wq aj j (N.drop (n - j))) ∧ Hid (TmAt wq a2 n M) ∧ Hid (At3 25 wq b9 (.int .i64 y0) (.int .i64 y1) (.int .i64 y2)) ∧ Hid (j < n → N.getD (n - j - 1) tm0 = ⟨y0, y1, y2⟩) ∧ Hid (Below w.heap.size w wq)) (fun _ i _ => (intOf i).toNat)
      case atStart => exact ⟨n, a1, c1, 0, 0, 0, Nat.le_refl _, rfl, rfl, by show TmAt _ _ _ _; rw [Nat.sub_self]; exact A10.out, A20, Z0, fun h => absurd h (Nat.lt_irrefl _), B0⟩
      case round =>
        obtain ⟨j, aj, cj, y0, y1, y2, hjn, rfl, rfl, hA1, hA2, hL, hLA, hB⟩ := hrel
        by_cases hj : 0 < j
        · have hji : (0 : Int) < (j : Int) := by omega
          have hwk : IntKind.i64.wrap ((j : Int) - 1) = ((j - 1 : Nat) : Int) := by rw [IntKind.wrap_i64]; have := HN.out; have := HRUN.out.fit.len; omega
          obtain ⟨t0, t1, t2, ht⟩ := tm_split (N.getD (n - j) tm0)
          have hsp := out_split HN.out hj hjn
          have hmem := out_mem HN.out hj hjn
          have hahd := fun h => out_ahead HRUN.out.fit HN.out hj h
          have hfj := fit_drop HRUN.out.fit (n - j)
          rw [ht] at hsp hmem hahd
          have hone : oneT ⟨t0, t1, t2⟩ = true := HRUN.out.fit.one _ hmem
          have hfst := out_first (r := N.drop (n - (j - 1))) hone
          rw [← hsp] at hfst
          have hfnd := out_found HRUN.out hmem
          simp only at hfnd
          rw [hsp] at hfj
          have hdrp := drop_first hfj
          rw [← hsp] at hdrp
          simp only at hdrp
          have hlr : (N.drop (n - (j - 1))).length = j - 1 := by rw [List.length_drop, HN.out]; omega
          have hj64 : j ≤ 64 := by have := HN.out; have := HRUN.out.fit.len; omega
          have C1 := Lib.hid (first_is aj j cj (N.drop (n - j)) 1099511627776 t0 t1 t2 true (by rw [hfst]; rfl) (by rw [hfst]; rfl) wr hA1.out)
          have C2 := Lib.hid (fun W (hW : Below wr.heap.size wr W) => find_is a2 n c2 M t1 t2 t0 t1 t2 true (by rw [hfnd]; rfl) (by rw [hfnd]; rfl) W (hA2.out.keep hW))
          have C4 := Lib.hid (fun W (hW : Below wr.heap.size wr W) => (drop_is aj j cj (N.drop (n - j)) (N.drop (n - (j - 1))) t1 t2 hdrp (by omega) W (hA1.out.keep hW)).mono fun e w' h => RowP.at h hlr (by omega))
          have HT := Lib.hid ht
          have HAH := Lib.hid hahd
          clear ht hsp hmem hahd hfj hone hfst hfnd hdrp hlr
          go_wp2_with fail
          refine C1.out.mono ?_
          rintro e v1 ⟨rfl, hb⟩
          have hb' := hb.alloc hb.size (.cells #[.int .i64 t0, .int .i64 t1, .int .i64 t2] 25)
          have hz := at3_new 25 v1 (.int .i64 t0) (.int .i64 t1) (.int .i64 t2)
          obtain ⟨u1, hu⟩ : ∃ u1, v1.alloc (.cells #[.int .i64 t0, .int .i64 t1, .int .i64 t2] 25) = u1 := ⟨_, rfl⟩
          rw [hu] at hb' hz
          obtain ⟨b11, hbx⟩ : ∃ b11, v1.heap.size = b11 := ⟨_, rfl⟩
          rw [hbx] at hz
          have HU1 := Lib.hid hu
          have HX1 := Lib.hid hbx
          have D1 := Lib.hid hb'
          have B1 := Lib.hid (below_keep hB.out hb' hB.out.size)
          have ZL1 := Lib.hid (hL.out.keep hb')
          have Z11 := Lib.hid hz
          have A21 := Lib.hid (hA2.out.keep hb')
          clear hb hb' hz hu hbx C1
          go_wp2_with fail
          rw [show v1.alloc (.cells #[.int .i64 t0, .int .i64 t1, .int .i64 t2] 25) = u1 from HU1.out]
          rw [show v1.heap.size = b11 from HX1.out]
          go_wp2_with fail
          refine (C2.out u1 D1.out).mono ?_
          rintro e v2 ⟨rfl, hb⟩
          have hb' := hb.alloc hb.size (.cells #[.int .i64 t0, .int .i64 t1, .int .i64 t2] 25)
          obtain ⟨g0, g1, g2⟩ := cells3 (Z11.out.keep hb')
          obtain ⟨l0, l1, l2⟩ := cells3 (ZL1.out.keep hb')
          have hz := at3_new 25 v2 (.int .i64 t0) (.int .i64 t1) (.int .i64 t2)
          obtain ⟨u2, hu⟩ : ∃ u2, v2.alloc (.cells #[.int .i64 t0, .int .i64 t1, .int .i64 t2] 25) = u2 := ⟨_, rfl⟩
          rw [hu] at hb' hz
          have HU2 := Lib.hid hu
          have D2 := Lib.hid (below_keep D1.out hb' D1.out.size)
          have B2 := Lib.hid (below_keep B1.out hb' B1.out.size)
          have ZL2 := Lib.hid (ZL1.out.keep hb')
          have Z12 := Lib.hid (Z11.out.keep hb')
          have A22 := Lib.hid (A21.out.keep hb')
          have hneq := fun w => neq_tm t0 t1 t2 t0 t1 t2 w
          have hgd := fun x y w => guard_tm .neq x y t0 t1 t2 t0 t1 t2 w
          simp only [eqT_self, Bool.not_true] at hneq
          clear hb hb' hz hu C2
          by_cases hjl : j < n
          · have hjd : (j : Int) < (n : Int) := by omega
            have hjd2 : decide ((j : Int) < (n : Int)) = true := by simp; omega
            have hah := HAH.out hjl
            rw [hLA.out hjl] at hah
            have C3 := Lib.hid (rahead_is y0 y1 y2 t0 t1 t2 true hah u2)
            clear hah
            go_wp2_with fail
            rw [show v2.alloc (.cells #[.int .i64 t0, .int .i64 t1, .int .i64 t2] 25) = u2 from HU2.out]
            refine C3.out.mono ?_
            rintro e u3 ⟨rfl, hb⟩
            have B3 := Lib.hid (below_keep B2.out hb B2.out.size)
            have D3 := Lib.hid (below_keep D2.out hb D2.out.size)
            have ZL3 := Lib.hid (ZL2.out.keep hb)
            have Z13 := Lib.hid (Z12.out.keep hb)
            have A23 := Lib.hid (A22.out.keep hb)
            clear hb C3 g0 g1 g2 l0 l1 l2
            obtain ⟨h0, h1, h2⟩ := cells3 Z13.out
            go_wp2_with fail
            clear h0 h1 h2
            obtain ⟨p0, p1, p2⟩ := cells3 Z13.out
            refine (C4.out u3 D3.out).mono ?_
            rintro e u4 ⟨a4, c4, rfl, hc4, hA4, hO4, hb⟩
            have B4 := Lib.hid (below_keep B3.out hb B3.out.size)
            have hzl := ZL3.out.keep hb
            have hz11 := Z13.out.keep hb
            have A24 := Lib.hid (A23.out.keep hb)
            obtain ⟨r0, r1, r2⟩ := cells3 hz11
            obtain ⟨s0, s1, s2⟩ := cells3 hzl
            obtain ⟨f0, f1, f2⟩ := free3 hzl
            have HA4 : Hid (TmAt (put3 u4 b9 (.int .i64 t0) (.int .i64 t1) (.int .i64 t2)) a4 (j - 1) (N.drop (n - (j - 1)))) := at_put hA4 (own_apart hO4 (heap_lt ZL3.out)) _ _ _
            have HA2 : Hid (TmAt (put3 u4 b9 (.int .i64 t0) (.int .i64 t1) (.int .i64 t2)) a2 n M) := at_put A24.out HNE.out _ _ _
            have HL4 : Hid (At3 25 (put3 u4 b9 (.int .i64 t0) (.int .i64 t1) (.int .i64 t2)) b9 (.int .i64 t0) (.int .i64 t1) (.int .i64 t2)) := heap_put3 hzl _ _ _
            have HB4 : Hid (Below w.heap.size w (put3 u4 b9 (.int .i64 t0) (.int .i64 t1) (.int .i64 t2))) := below_put3 B4.out HB9.out _ _ _
            have HLA : Hid (j - 1 < n → N.getD (n - (j - 1) - 1) tm0 = ⟨t0, t1, t2⟩) := fun _ => by rw [show n - (j - 1) - 1 = n - j by omega]; exact HT.out
            clear hA4 hO4 hb hzl hz11 p0 p1 p2
            go_wp2_with fail
            go_roundw
            case rel => exact ⟨j - 1, a4, c4, t0, t1, t2, by omega, by first | rfl | go_num, rfl, HA4, HA2, HL4, HLA, HB4⟩
            case measure => simp [intOf]; omega
          · have hjd : ¬ ((j : Int) < (n : Int)) := by omega
            have hjd2 : decide ((j : Int) < (n : Int)) = false := by simp; omega
            go_wp2_with fail
            rw [show v2.alloc (.cells #[.int .i64 t0, .int .i64 t1, .int .i64 t2] 25) = u2 from HU2.out]
            clear g0 g1 g2 l0 l1 l2
            obtain ⟨p0, p1, p2⟩ := cells3 Z12.out
            refine (C4.out u2 D2.out).mono ?_
            rintro e u4 ⟨a4, c4, rfl, hc4, hA4, hO4, hb⟩
            have B4 := Lib.hid (below_keep B2.out hb B2.out.size)
            have hzl := ZL2.out.keep hb
            have hz11 := Z12.out.keep hb
            have A24 := Lib.hid (A22.out.keep hb)
            obtain ⟨r0, r1, r2⟩ := cells3 hz11
            obtain ⟨s0, s1, s2⟩ := cells3 hzl
            obtain ⟨f0, f1, f2⟩ := free3 hzl
            have HA4 : Hid (TmAt (put3 u4 b9 (.int .i64 t0) (.int .i64 t1) (.int .i64 t2)) a4 (j - 1) (N.drop (n - (j - 1)))) := at_put hA4 (own_apart hO4 (heap_lt ZL2.out)) _ _ _
            have HA2 : Hid (TmAt (put3 u4 b9 (.int .i64 t0) (.int .i64 t1) (.int .i64 t2)) a2 n M) := at_put A24.out HNE.out _ _ _
            have HL4 : Hid (At3 25 (put3 u4 b9 (.int .i64 t0) (.int .i64 t1) (.int .i64 t2)) b9 (.int .i64 t0) (.int .i64 t1) (.int .i64 t2)) := heap_put3 hzl _ _ _
            have HB4 : Hid (Below w.heap.size w (put3 u4 b9 (.int .i64 t0) (.int .i64 t1) (.int .i64 t2))) := below_put3 B4.out HB9.out _ _ _
            have HLA : Hid (j - 1 < n → N.getD (n - (j - 1) - 1) tm0 = ⟨t0, t1, t2⟩) := fun _ => by rw [show n - (j - 1) - 1 = n - j by omega]; exact HT.out
            clear hA4 hO4 hb hzl hz11 p0 p1 p2
            go_wp2_with fail
            go_roundw
            case rel => exact ⟨j - 1, a4, c4, t0, t1, t2, by omega, by first | rfl | go_num, rfl, HA4, HA2, HL4, HLA, HB4⟩
            case measure => simp [intOf]; omega
        · obtain rfl : j = 0 := by omega
          go_wp2_with fail
          refine (awake_any wr).mono ?_
          rintro e w1 ⟨rfl, hb⟩
          have B1 := Lib.hid (below_keep hB.out hb hB.out.size)
          clear hb
          go_wp2_with fail
          go_ret
          exact ⟨rfl, B1.out⟩
end Go.Proofs.Ytcfjnpepbjaacaa.Timer
namespace Go.Proofs.Ytcfjnpepbjaacaa
open Go.RowKit
theorem Contract.timerRuns (a : Option Addr) (len cap : Nat) (W : World) (h : IsTimer W a len cap) :
    Calls Try.prog 5 #[.slice a len cap] W fun e W' => e = .returned (.bool true) ∧ Below W.heap.size W W' := by
  obtain ⟨l, hl, hc⟩ := h
  exact Go.Proofs.Ytcfjnpepbjaacaa.Timer.runs_any a len cap l W hl
end Go.Proofs.Ytcfjnpepbjaacaa
