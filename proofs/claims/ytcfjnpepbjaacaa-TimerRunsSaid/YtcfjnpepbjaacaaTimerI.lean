/-
  The contract of the document's Set: any timers; what was there stays as it was.
-/
import Derived.Test.YtcfjnpepbjaacaaTimerH
set_option linter.unusedVariables false
set_option linter.unusedSimpArgs false
set_option maxRecDepth 4000
namespace Go.Proofs.Ytcfjnpepbjaacaa.Timer
open Go.RowKit TimerP
open Go.Proofs.Ytcfjnpepbjaacaa.Kt
open Go.Proofs.Ytcfjnpepbjaacaa.Rw (add_at)

theorem insA_app (j : Nat) (t : Tm) (l : List Tm) : l.take j ++ [t] ++ l.drop j = insA j t l := by unfold insA; simp

set_option maxHeartbeats 8000000 in
theorem rset_any (a : Option Addr) (len cap : Nat) (l : List Tm) (x0 x1 x2 : Int) (w : World) (h : TmAt w a len l) :
    Calls Try.prog 17 #[.slice a len cap, .agg #[.int .i64 x0, .int .i64 x1, .int .i64 x2]] w (SetR w (setT l ⟨x0, x1, x2⟩).1 (setT l ⟨x0, x1, x2⟩).2) := by
  have hB0 := bx3_new 25 w (.int .i64 x0) (.int .i64 x1) (.int .i64 x2)
  obtain ⟨w0, hw0⟩ : ∃ w0, w.alloc (.cells #[.int .i64 x0, .int .i64 x1, .int .i64 x2] 25) = w0 := ⟨_, rfl⟩
  rw [hw0] at hB0
  have HW := Lib.hid hw0
  have HB0 := Lib.hid hB0
  have HX := Lib.hid h
  have CF := Lib.hid (fun v hv => rfit_any a len cap l v hv w0 (h.keep hB0.bel))
  obtain ⟨c0, c1, c2⟩ := cells3 hB0.box
  clear hw0 hB0 h
  cases hf : fitB l with
  | false =>
    rw [set_bad hf]
    have CF := Lib.hid (CF.out false hf)
    clear hf
    go_enter Try.func17, Try.ntmps17
    go_wp2_with fail
    rw [show w.alloc (.cells #[.int .i64 x0, .int .i64 x1, .int .i64 x2] 25) = w0 from HW.out]
    go_wp2_with fail
    refine CF.out.mono ?_
    rintro e w1 ⟨rfl, hb⟩
    have HB1 := Lib.hid (HB0.out.keep hb)
    clear hb
    clear c0 c1 c2
    go_wp2_with fail
    go_ret2
    exact setR_none HB1.out.bel
  | true =>
    have hlen : len ≤ 64 := by rw [← HX.out.1]; exact (fitB_iff.1 hf).len
    have CF := Lib.hid (CF.out true hf)
    cases h1 : oneT ⟨x0, x1, x2⟩ with
    | false =>
      rw [set_arg hf h1]
      have CV := Lib.hid (rone_is x0 x1 x2 false h1)
      clear hf h1
      go_enter Try.func17, Try.ntmps17
      go_wp2_with fail
      rw [show w.alloc (.cells #[.int .i64 x0, .int .i64 x1, .int .i64 x2] 25) = w0 from HW.out]
      go_wp2_with fail
      refine CF.out.mono ?_
      rintro e w1 ⟨rfl, hb⟩
      have HB1 := Lib.hid (HB0.out.keep hb)
      clear hb
      clear c0 c1 c2
      obtain ⟨c0, c1, c2⟩ := cells3 HB1.out.box
      go_wp2_with fail
      refine (CV.out w1).mono ?_
      rintro e w2 ⟨rfl, hb⟩
      have HB2 := Lib.hid (HB1.out.keep hb)
      clear hb c0 c1 c2
      go_wp2_with fail
      go_ret2
      exact setR_none HB2.out.bel
    | true =>
      have CV := Lib.hid (rone_is x0 x1 x2 true h1)
      have hdf := drop_fitT x1 x2 (fitB_iff.1 hf)
      obtain ⟨rest, hrest⟩ : ∃ rest, dropT x1 x2 l = rest := ⟨_, rfl⟩
      obtain ⟨res, hres⟩ : ∃ res, setT l ⟨x0, x1, x2⟩ = res := ⟨_, rfl⟩
      have HST := Lib.hid (fun h3 => set_full (l := l) (t := ⟨x0, x1, x2⟩) hf h1 h3)
      have HSO := Lib.hid (fun h3 => set_ok (l := l) (t := ⟨x0, x1, x2⟩) hf h1 h3)
      simp only [hrest] at HST HSO hdf
      simp only [hres] at HST HSO
      rw [hres]
      clear hres
      have HDF := Lib.hid hdf
      have HREST := Lib.hid hrest
      clear hf h1 hdf hrest
      go_enter Try.func17, Try.ntmps17
      go_wp2_with fail
      rw [show w.alloc (.cells #[.int .i64 x0, .int .i64 x1, .int .i64 x2] 25) = w0 from HW.out]
      go_wp2_with fail
      refine CF.out.mono ?_
      rintro e w1 ⟨rfl, hb⟩
      have HB1 := Lib.hid (HB0.out.keep hb)
      clear hb
      clear c0 c1 c2
      obtain ⟨c0, c1, c2⟩ := cells3 HB1.out.box
      go_wp2_with fail
      refine (CV.out w1).mono ?_
      rintro e w2 ⟨rfl, hb⟩
      have HB2 := Lib.hid (HB1.out.keep hb)
      clear hb c0 c1 c2
      have CD := rdrop_any a len cap l x1 x2 (by omega) w2 (HX.out.keep HB2.out.bel)
      rw [show dropT x1 x2 l = rest from HREST.out] at CD
      have CD := Lib.hid CD
      obtain ⟨c0, c1, c2⟩ := cells3 HB2.out.box
      go_wp2_with fail
      refine CD.out.mono ?_
      rintro e w3 ⟨v, rfl, hO, hb⟩
      have hform := Rw.owns_form hO
      have hcp0 := Rw.owns_slice hO
      obtain ⟨n, hn⟩ : ∃ n, rest.length = n := ⟨_, rfl⟩
      rw [hn] at hO hform hcp0
      obtain ⟨ad, cp, rfl, hcp⟩ := hcp0
      have hn64 : n ≤ 64 := by rw [← hn]; exact HDF.out.len
      have HB3 := Lib.hid (HB2.out.keep hb)
      have HO3 := Lib.hid hO
      have HN := Lib.hid hn
      have HFO := Lib.hid hform
      clear hO hb hn hform c0 c1 c2
      by_cases h64 : n = 64
      · subst h64
        have HR : Hid (res = ([], 4)) := HST.out HN.out
        go_wp2_with fail
        go_ret2
        rw [HR.out]
        exact setR_none HB3.out.bel
      · have HRS := HSO.out (by rw [HN.out]; exact h64)
        have hn2 : ¬ ((n : Int) = 64) := by omega
        have e64 : ((n : Int) == 64) = false := beq_eq_false_iff_ne.2 hn2
        obtain ⟨j, hj⟩ : ∃ j, posT ⟨x0, x1, x2⟩ rest = j := ⟨_, rfl⟩
        have hjn : j ≤ n := by rw [← hj, ← HN.out]; exact posT_le _ _
        rw [hj] at HRS
        have HRS := Lib.hid HRS
        have HJ := Lib.hid hj
        clear hj
        go_wp2_with fail
        go_loopw [8] (fun i wr => ∃ k : Nat, k ≤ j ∧ i = .int .i64 (k : Int) ∧ Hid (Bx3 25 w wr (.int .i64 x0) (.int .i64 x1) (.int .i64 x2)) ∧ Hid (wr.ownsRow w2.heap.size 25 3 (.slice ad n cp) n (Rw.cells tmS rest))) (fun i _ => j - (intOf i).toNat)
        case atStart => exact ⟨0, Nat.zero_le _, rfl, HB3, HO3⟩
        case round =>
          obtain ⟨k, hk, rfl, hB, hO⟩ := hrel
          by_cases hkn : k < n
          · have hA := Rw.own_at (S := tmS) hO.out HN.out (by omega)
            obtain ⟨b1, o1, y0, y1, y2, rfl, g1, hp, hc1⟩ := TmAt.at hA hkn
            obtain ⟨d0, d1, d2⟩ := hc1 wr (Below.refl _ _)
            have hk0 : (0 : Int) ≤ (k : Int) := by omega
            have hk1 : (k : Int) < (n : Int) := by omega
            have hkd : decide ((k : Int) < (n : Int)) = true := by simp; omega
            have hkd2 : decide (k < n) = true := by simp; omega
            clear hA hc1 g1
            by_cases hkj : k < j
            · have CA := Lib.hid (fun d os => Calls.regrown_of (rahead_is y0 y1 y2 x0 x1 x2 true (posT_low ⟨x0, x1, x2⟩ (by rw [HJ.out]; exact hkj) hp) (Sort.grow (redrawn wr d) os)))
              clear hp
              obtain ⟨C0, C1, C2⟩ := cells3 hB.out.box
              have c0 := fun d os => cell_regrown C0 d os
              have c1 := fun d os => cell_regrown C1 d os
              have c2 := fun d os => cell_regrown C2 d os
              clear C0 C1 C2
              have r0 := fun d os => cell_regrown d0 d os
              have r1 := fun d os => cell_regrown d1 d os
              have r2 := fun d os => cell_regrown d2 d os
              clear d0 d1 d2
              go_wp2_with fail
              refine wp_region_qw (by kernel_rfl) (by kernel_rfl) ?_
              refine qw_take (by kernel_rfl) (fun K hK => ?_); go_simp; first | (refine hK _ ?_; clear hK K) | (apply Exists.intro; refine ⟨fun _ => ?_, hK _ ?_⟩; (first | with_reducible exact CA.out _ _); clear hK K)
              refine qw_take (by kernel_rfl) (fun K hK => ?_); go_simp; first | (refine hK _ ?_; clear hK K) | (apply Exists.intro; refine ⟨fun _ => ?_, hK _ ?_⟩; (first | with_reducible exact CA.out _ _); clear hK K)
              refine qw_take (by kernel_rfl) (fun K hK => ?_); go_simp; first | (refine hK _ ?_; clear hK K) | (apply Exists.intro; refine ⟨fun _ => ?_, hK _ ?_⟩; (first | with_reducible exact CA.out _ _); clear hK K)
              refine qw_take (by kernel_rfl) (fun K hK => ?_); go_simp; first | (refine hK _ ?_; clear hK K) | (apply Exists.intro; refine ⟨fun _ => ?_, hK _ ?_⟩; (first | with_reducible exact CA.out _ _); clear hK K)
              refine qw_take (by kernel_rfl) (fun K hK => ?_); go_simp; first | (refine hK _ ?_; clear hK K) | (apply Exists.intro; refine ⟨fun _ => ?_, hK _ ?_⟩; (first | with_reducible exact CA.out _ _); clear hK K)
              refine qw_take (by kernel_rfl) (fun K hK => ?_); go_simp; first | (refine hK _ ?_; clear hK K) | (apply Exists.intro; refine ⟨fun _ => ?_, hK _ ?_⟩; (first | with_reducible exact CA.out _ _); clear hK K)
              refine qw_take (by kernel_rfl) (fun K hK => ?_); go_simp; first | (refine hK _ ?_; clear hK K) | (apply Exists.intro; refine ⟨fun _ => ?_, hK _ ?_⟩; (first | with_reducible exact CA.out _ _); clear hK K)
              refine qw_take (by kernel_rfl) (fun K hK => ?_); go_simp; first | (refine hK _ ?_; clear hK K) | (apply Exists.intro; refine ⟨fun _ => ?_, hK _ ?_⟩; (first | with_reducible exact CA.out _ _); clear hK K)
              refine qw_take (by kernel_rfl) (fun K hK => ?_); go_simp; first | (refine hK _ ?_; clear hK K) | (apply Exists.intro; refine ⟨fun _ => ?_, hK _ ?_⟩; (first | with_reducible exact CA.out _ _); clear hK K)
              refine qw_take (by kernel_rfl) (fun K hK => ?_); go_simp; first | (refine hK _ ?_; clear hK K) | (apply Exists.intro; refine ⟨fun _ => ?_, hK _ ?_⟩; (first | with_reducible exact CA.out _ _); clear hK K)
              refine qw_take (by kernel_rfl) (fun K hK => ?_); go_simp; first | (refine hK _ ?_; clear hK K) | (apply Exists.intro; refine ⟨fun _ => ?_, hK _ ?_⟩; (first | with_reducible exact CA.out _ _); clear hK K)
              refine qw_take (by kernel_rfl) (fun K hK => ?_); go_simp; first | (refine hK _ ?_; clear hK K) | (apply Exists.intro; refine ⟨fun _ => ?_, hK _ ?_⟩; (first | with_reducible exact CA.out _ _); clear hK K)
              refine qw_nil ?_
              intro _ hw'
              obtain ⟨⟨dq, osq⟩, hw''⟩ := hw'
              subst hw''
              have HBL := Lib.hid (hB.out.keep (below_regrown wr dq osq))
              have HOL := Lib.hid (Rw.owns_below hO.out (below_regrown wr dq osq))
              clear c0 c1 c2 r0 r1 r2 CA
              generalize Sort.grow (redrawn wr dq) osq = wl at *
              go_wp2_with fail
              go_roundw
              case rel => exact ⟨k + 1, by omega, by go_num, HBL, HOL⟩
              case measure => simp [intOf]; omega
            · obtain rfl : k = j := by omega
              have CA := Lib.hid (fun d os => Calls.regrown_of (rahead_is y0 y1 y2 x0 x1 x2 false (posT_at ⟨x0, x1, x2⟩ (by rw [HJ.out, HN.out]; exact hkn) (by rw [HJ.out]; exact hp)) (Sort.grow (redrawn wr d) os)))
              obtain ⟨g2, cp2, e2⟩ : ∃ g2 cp2, (Value.slice (some ⟨b1, o1, none⟩) n cp) = .slice (some ⟨g2, 0, none⟩) n cp2 := by
                rcases HFO.out with ⟨_, h0⟩ | ⟨g2, cp2, e, _⟩
                · omega
                · exact ⟨g2, cp2, e⟩
              simp only [Value.slice.injEq, Option.some.injEq, Addr.mk.injEq, and_true, true_and] at e2
              obtain ⟨⟨rfl, rfl⟩, rfl⟩ := e2
              have hck : ¬ (cp = k) := by omega
              rw [Nat.zero_add] at d0 d1 d2
              clear hp
              obtain ⟨C0, C1, C2⟩ := cells3 hB.out.box
              have c0 := fun d os => cell_regrown C0 d os
              have c1 := fun d os => cell_regrown C1 d os
              have c2 := fun d os => cell_regrown C2 d os
              clear C0 C1 C2
              have r0 := fun d os => cell_regrown d0 d os
              have r1 := fun d os => cell_regrown d1 d os
              have r2 := fun d os => cell_regrown d2 d os
              clear d0 d1 d2
              go_wp2_with fail
              refine wp_region_qw (by kernel_rfl) (by kernel_rfl) ?_
              refine qw_take (by kernel_rfl) (fun K hK => ?_); go_simp; first | (refine hK _ ?_; clear hK K) | (apply Exists.intro; refine ⟨fun _ => ?_, hK _ ?_⟩; (first | with_reducible exact CA.out _ _); clear hK K)
              refine qw_take (by kernel_rfl) (fun K hK => ?_); go_simp; first | (refine hK _ ?_; clear hK K) | (apply Exists.intro; refine ⟨fun _ => ?_, hK _ ?_⟩; (first | with_reducible exact CA.out _ _); clear hK K)
              refine qw_take (by kernel_rfl) (fun K hK => ?_); go_simp; first | (refine hK _ ?_; clear hK K) | (apply Exists.intro; refine ⟨fun _ => ?_, hK _ ?_⟩; (first | with_reducible exact CA.out _ _); clear hK K)
              refine qw_take (by kernel_rfl) (fun K hK => ?_); go_simp; first | (refine hK _ ?_; clear hK K) | (apply Exists.intro; refine ⟨fun _ => ?_, hK _ ?_⟩; (first | with_reducible exact CA.out _ _); clear hK K)
              refine qw_take (by kernel_rfl) (fun K hK => ?_); go_simp; first | (refine hK _ ?_; clear hK K) | (apply Exists.intro; refine ⟨fun _ => ?_, hK _ ?_⟩; (first | with_reducible exact CA.out _ _); clear hK K)
              refine qw_take (by kernel_rfl) (fun K hK => ?_); go_simp; first | (refine hK _ ?_; clear hK K) | (apply Exists.intro; refine ⟨fun _ => ?_, hK _ ?_⟩; (first | with_reducible exact CA.out _ _); clear hK K)
              refine qw_take (by kernel_rfl) (fun K hK => ?_); go_simp; first | (refine hK _ ?_; clear hK K) | (apply Exists.intro; refine ⟨fun _ => ?_, hK _ ?_⟩; (first | with_reducible exact CA.out _ _); clear hK K)
              refine qw_take (by kernel_rfl) (fun K hK => ?_); go_simp; first | (refine hK _ ?_; clear hK K) | (apply Exists.intro; refine ⟨fun _ => ?_, hK _ ?_⟩; (first | with_reducible exact CA.out _ _); clear hK K)
              refine qw_take (by kernel_rfl) (fun K hK => ?_); go_simp; first | (refine hK _ ?_; clear hK K) | (apply Exists.intro; refine ⟨fun _ => ?_, hK _ ?_⟩; (first | with_reducible exact CA.out _ _); clear hK K)
              refine qw_take (by kernel_rfl) (fun K hK => ?_); go_simp; first | (refine hK _ ?_; clear hK K) | (apply Exists.intro; refine ⟨fun _ => ?_, hK _ ?_⟩; (first | with_reducible exact CA.out _ _); clear hK K)
              refine qw_take (by kernel_rfl) (fun K hK => ?_); go_simp; first | (refine hK _ ?_; clear hK K) | (apply Exists.intro; refine ⟨fun _ => ?_, hK _ ?_⟩; (first | with_reducible exact CA.out _ _); clear hK K)
              refine qw_take (by kernel_rfl) (fun K hK => ?_); go_simp; first | (refine hK _ ?_; clear hK K) | (apply Exists.intro; refine ⟨fun _ => ?_, hK _ ?_⟩; (first | with_reducible exact CA.out _ _); clear hK K)
              refine qw_nil ?_
              intro _ hw'
              obtain ⟨⟨dq, osq⟩, hw''⟩ := hw'
              subst hw''
              have HBL := Lib.hid (hB.out.keep (below_regrown wr dq osq))
              have HOL := Lib.hid (Rw.owns_below hO.out (below_regrown wr dq osq))
              clear c0 c1 c2 r0 r1 r2 CA
              generalize Sort.grow (redrawn wr dq) osq = wl at *
              clear hk0 hk1 hkd hkd2
              have HAT := Lib.hid (Rw.own_at (S := tmS) HOL.out HN.out (by omega))
              obtain ⟨u0, u1, u2⟩ := cells3 HBL.out.box
              have hj0 : (0 : Int) ≤ (k : Int) := by omega
              have hj1 : (k : Int) ≤ (n : Int) := by omega
              have hj2 : (k : Int) ≤ (cp : Int) := by omega
              have hj3 : (n : Int) ≤ (cp : Int) := by omega
              go_wp2_with (at_builtin; refine Rw.append_more tmS rfl (.tmp 38) (.tmp 41) rfl wl.heap.size _ 0 [] (rest.take k) (some ⟨b1, 0, none⟩) k cp rfl (World.ownsRow_nil _ _ _ _) rfl (Rw.part_take HAT.out (by omega)) (by omega) (Nat.le_refl _) ?_)
              intro v6 w6 hown6 hg6
              have HO6 : Hid (w6.ownsRow wl.heap.size 25 3 v6 k (Rw.cells tmS (rest.take k))) := by
                first
                  | (rw [Nat.zero_add] at hown6; exact hown6)
                  | exact hown6
              have HB6 : Hid (Below wl.heap.size wl w6) := (Below.refl _ _).grown hg6 (Nat.le_refl _) (fun k hk => by cases hk)
              have HBX6 := Lib.hid (HBL.out.keep HB6.out)
              obtain ⟨v0, v1, v2⟩ := cells3 HBX6.out.box
              have hsz6 := HB6.out.size
              clear hown6 hg6 u0 u1 u2
              go_wp2_with (at_builtin; refine Rw.append_one tmS rfl (.tmp 43) (.tmp 45) rfl wl.heap.size w6 _ rfl ⟨x0, x1, x2⟩ _ rfl _ k (rest.take k) rfl HO6.out rfl (by omega) hsz6 ?_)
              intro v7 w7 hown7 hg7
              have HO7 : Hid (w7.ownsRow wl.heap.size 25 3 v7 (k + 1) (Rw.cells tmS (rest.take k ++ [⟨x0, x1, x2⟩]))) := hown7
              have HB7 : Hid (Below wl.heap.size wl w7) := Rw.below_append HB6.out hsz6 HO6.out hg7
              clear hown7 hg7 v0 v1 v2
              have HI : TmAt w7 (some ⟨b1, k * 3, none⟩) (n - k) (rest.drop k) := Rw.part_drop (cap := cp) (HAT.out.keep HB7.out) (by omega) (by omega) (by rw [if_neg hck]; simp only [Option.map_some, add_at, Nat.zero_add]; rfl)
              have hn8 : k + 1 + (n - k) ≤ 4000000 := by omega
              have hs8 := HB7.out.size
              go_wp2_with (at_builtin; refine Rw.append_more tmS rfl (.tmp 47) (.tmp 50) rfl wl.heap.size v7 (k + 1) (rest.take k ++ [(⟨x0, x1, x2⟩ : Tm)]) (rest.drop k) (some ⟨b1, k * 3, none⟩) (n - k) (cp - k) rfl HO7.out rfl HI hn8 hs8 ?_)
              intro v8 w8 hown8 hg8
              have hins : insA k ⟨x0, x1, x2⟩ rest = rest.take k ++ (⟨x0, x1, x2⟩ : Tm) :: rest.drop k := by
                rfl
              have hown8 : w8.ownsRow wl.heap.size 25 3 v8 (k + 1 + (n - k)) (Rw.cells tmS (rest.take k ++ (⟨x0, x1, x2⟩ : Tm) :: rest.drop k)) := hown8
              have HB8 : Below wl.heap.size wl w8 := HB7.out.grown hg8 HB7.out.size (fun k hk => (HO7.out.lt k hk).1)
              rw [← hins] at hown8
              obtain ⟨a8, c8, rfl, hc8⟩ := Rw.owns_slice hown8
              have hl8 : (insA k ⟨x0, x1, x2⟩ rest).length = (k + 1 + (n - k)) := by (have h9 := insA_len (i := k) (x := (⟨x0, x1, x2⟩ : Tm)) (l := rest) (by have := HN.out; omega)); have := HN.out; omega
              have HR : Hid (SetR w (insA k ⟨x0, x1, x2⟩ rest) 0 (.returned (.tuple #[.slice a8 ((k + 1 + (n - k))) c8, .int .i64 0])) w8) :=
                ⟨a8, _, c8, rfl, hc8, Rw.own_at (S := tmS) hown8 hl8 (by omega), HBL.out.bel.trans (HB8.mono (Nat.le_of_lt HBL.out.lt))⟩
              clear hown8 hg8 HB8 hc8 hl8
              go_wp2_with fail
              go_ret2
              rw [HRS.out]
              exact HR.out
          · obtain rfl : k = n := by omega
            obtain rfl : k = j := by omega
            have hkd : decide ((k : Int) < (k : Int)) = false := by simp
            have hkd2 : ¬ ((k : Int) < (k : Int)) := by omega
            rcases HFO.out with ⟨e2, h0⟩ | ⟨g2, cp2, e2, _⟩
            · simp only [Value.slice.injEq] at e2
              obtain ⟨rfl, h00, rfl⟩ := e2
              subst h00
              obtain ⟨C0, C1, C2⟩ := cells3 hB.out.box
              have c0 := fun d os => cell_regrown C0 d os
              have c1 := fun d os => cell_regrown C1 d os
              have c2 := fun d os => cell_regrown C2 d os
              clear C0 C1 C2
              go_wp2_with fail
              refine wp_region_qw (by kernel_rfl) (by kernel_rfl) ?_
              refine qw_take (by kernel_rfl) (fun K hK => ?_); go_simp; refine hK _ ?_; clear hK K
              refine qw_take (by kernel_rfl) (fun K hK => ?_); go_simp; refine hK _ ?_; clear hK K
              refine qw_take (by kernel_rfl) (fun K hK => ?_); go_simp; refine hK _ ?_; clear hK K
              refine qw_take (by kernel_rfl) (fun K hK => ?_); go_simp; refine hK _ ?_; clear hK K
              refine qw_take (by kernel_rfl) (fun K hK => ?_); go_simp; refine hK _ ?_; clear hK K
              refine qw_skip (by kernel_rfl) ?_; simp only [Act.put, List.setIfInBounds_toArray, List.set_cons_succ, List.set_cons_zero]
              refine qw_skip (by kernel_rfl) ?_; simp only [Act.put, List.setIfInBounds_toArray, List.set_cons_succ, List.set_cons_zero]
              refine qw_skip (by kernel_rfl) ?_; simp only [Act.put, List.setIfInBounds_toArray, List.set_cons_succ, List.set_cons_zero]
              refine qw_skip (by kernel_rfl) ?_; simp only [Act.put, List.setIfInBounds_toArray, List.set_cons_succ, List.set_cons_zero]
              refine qw_skip (by kernel_rfl) ?_; simp only [Act.put, List.setIfInBounds_toArray, List.set_cons_succ, List.set_cons_zero]
              refine qw_skip (by kernel_rfl) ?_; simp only [Act.put, List.setIfInBounds_toArray, List.set_cons_succ, List.set_cons_zero]
              refine qw_take (by kernel_rfl) (fun K hK => ?_); go_simp; refine hK _ ?_; clear hK K
              refine qw_nil ?_
              intro _ hw'
              obtain ⟨⟨dq, osq⟩, hw''⟩ := hw'
              subst hw''
              have HBL := Lib.hid (hB.out.keep (below_regrown wr dq osq))
              have HOL := Lib.hid (Rw.owns_below hO.out (below_regrown wr dq osq))
              clear c0 c1 c2
              generalize Sort.grow (redrawn wr dq) osq = wl at *
              clear hkd hkd2
              have HAT := Lib.hid (Rw.own_at (S := tmS) HOL.out HN.out (by omega))
              obtain ⟨u0, u1, u2⟩ := cells3 HBL.out.box
              have hj0 : (0 : Int) ≤ (0 : Int) := by omega
              have hj1 : (0 : Int) ≤ (0 : Int) := by omega
              have hj2 : (0 : Int) ≤ (0 : Int) := by omega
              have hj3 : (0 : Int) ≤ (0 : Int) := by omega
              go_wp2_with (at_builtin; refine Rw.append_more tmS rfl (.tmp 38) (.tmp 41) rfl wl.heap.size _ 0 [] (rest.take 0) none 0 0 rfl (World.ownsRow_nil _ _ _ _) rfl (Rw.part_take HAT.out (by omega)) (by omega) (Nat.le_refl _) ?_)
              intro v6 w6 hown6 hg6
              have HO6 : Hid (w6.ownsRow wl.heap.size 25 3 v6 0 (Rw.cells tmS (rest.take 0))) := by
                first
                  | (rw [Nat.zero_add] at hown6; exact hown6)
                  | exact hown6
              have HB6 : Hid (Below wl.heap.size wl w6) := (Below.refl _ _).grown hg6 (Nat.le_refl _) (fun k hk => by cases hk)
              have HBX6 := Lib.hid (HBL.out.keep HB6.out)
              obtain ⟨v0, v1, v2⟩ := cells3 HBX6.out.box
              have hsz6 := HB6.out.size
              clear hown6 hg6 u0 u1 u2
              go_wp2_with (at_builtin; refine Rw.append_one tmS rfl (.tmp 43) (.tmp 45) rfl wl.heap.size w6 _ rfl ⟨x0, x1, x2⟩ _ rfl _ 0 (rest.take 0) rfl HO6.out rfl (by omega) hsz6 ?_)
              intro v7 w7 hown7 hg7
              have HO7 : Hid (w7.ownsRow wl.heap.size 25 3 v7 (0 + 1) (Rw.cells tmS (rest.take 0 ++ [⟨x0, x1, x2⟩]))) := hown7
              have HB7 : Hid (Below wl.heap.size wl w7) := Rw.below_append HB6.out hsz6 HO6.out hg7
              clear hown7 hg7 v0 v1 v2
              have HI : TmAt w7 none 0 [] := Rw.At.nil _ _ _
              have hn8 : 0 + 1 + 0 ≤ 4000000 := by omega
              have hs8 := HB7.out.size
              go_wp2_with (at_builtin; refine Rw.append_more tmS rfl (.tmp 47) (.tmp 50) rfl wl.heap.size v7 (0 + 1) (rest.take 0 ++ [(⟨x0, x1, x2⟩ : Tm)]) [] none 0 0 rfl HO7.out rfl HI hn8 hs8 ?_)
              intro v8 w8 hown8 hg8
              have hins : insA 0 ⟨x0, x1, x2⟩ rest = rest.take 0 ++ [(⟨x0, x1, x2⟩ : Tm)] := by
                unfold insA; rw [List.drop_eq_nil_of_le (Nat.le_of_eq HN.out)]
              have hown8 : w8.ownsRow wl.heap.size 25 3 v8 (0 + 1) (Rw.cells tmS (rest.take 0 ++ [(⟨x0, x1, x2⟩ : Tm)])) := hown8
              have HB8 : Below wl.heap.size wl w8 := HB7.out.grown hg8 HB7.out.size (fun k hk => (HO7.out.lt k hk).1)
              rw [← hins] at hown8
              obtain ⟨a8, c8, rfl, hc8⟩ := Rw.owns_slice hown8
              have hl8 : (insA 0 ⟨x0, x1, x2⟩ rest).length = (0 + 1) := by (have h9 := insA_len (i := 0) (x := (⟨x0, x1, x2⟩ : Tm)) (l := rest) (by have := HN.out; omega)); have := HN.out; omega
              have HR : Hid (SetR w (insA 0 ⟨x0, x1, x2⟩ rest) 0 (.returned (.tuple #[.slice a8 ((0 + 1)) c8, .int .i64 0])) w8) :=
                ⟨a8, _, c8, rfl, hc8, Rw.own_at (S := tmS) hown8 hl8 (by omega), HBL.out.bel.trans (HB8.mono (Nat.le_of_lt HBL.out.lt))⟩
              clear hown8 hg8 HB8 hc8 hl8
              go_wp2_with fail
              go_ret2
              rw [HRS.out]
              exact HR.out
            · simp only [Value.slice.injEq, true_and] at e2
              obtain ⟨rfl, rfl⟩ := e2
              by_cases hck : cp = k
              · subst hck
                obtain ⟨C0, C1, C2⟩ := cells3 hB.out.box
                have c0 := fun d os => cell_regrown C0 d os
                have c1 := fun d os => cell_regrown C1 d os
                have c2 := fun d os => cell_regrown C2 d os
                clear C0 C1 C2
                go_wp2_with fail
                refine wp_region_qw (by kernel_rfl) (by kernel_rfl) ?_
                refine qw_take (by kernel_rfl) (fun K hK => ?_); go_simp; refine hK _ ?_; clear hK K
                refine qw_take (by kernel_rfl) (fun K hK => ?_); go_simp; refine hK _ ?_; clear hK K
                refine qw_take (by kernel_rfl) (fun K hK => ?_); go_simp; refine hK _ ?_; clear hK K
                refine qw_take (by kernel_rfl) (fun K hK => ?_); go_simp; refine hK _ ?_; clear hK K
                refine qw_take (by kernel_rfl) (fun K hK => ?_); go_simp; refine hK _ ?_; clear hK K
                refine qw_skip (by kernel_rfl) ?_; simp only [Act.put, List.setIfInBounds_toArray, List.set_cons_succ, List.set_cons_zero]
                refine qw_skip (by kernel_rfl) ?_; simp only [Act.put, List.setIfInBounds_toArray, List.set_cons_succ, List.set_cons_zero]
                refine qw_skip (by kernel_rfl) ?_; simp only [Act.put, List.setIfInBounds_toArray, List.set_cons_succ, List.set_cons_zero]
                refine qw_skip (by kernel_rfl) ?_; simp only [Act.put, List.setIfInBounds_toArray, List.set_cons_succ, List.set_cons_zero]
                refine qw_skip (by kernel_rfl) ?_; simp only [Act.put, List.setIfInBounds_toArray, List.set_cons_succ, List.set_cons_zero]
                refine qw_skip (by kernel_rfl) ?_; simp only [Act.put, List.setIfInBounds_toArray, List.set_cons_succ, List.set_cons_zero]
                refine qw_take (by kernel_rfl) (fun K hK => ?_); go_simp; refine hK _ ?_; clear hK K
                refine qw_nil ?_
                intro _ hw'
                obtain ⟨⟨dq, osq⟩, hw''⟩ := hw'
                subst hw''
                have HBL := Lib.hid (hB.out.keep (below_regrown wr dq osq))
                have HOL := Lib.hid (Rw.owns_below hO.out (below_regrown wr dq osq))
                clear c0 c1 c2
                generalize Sort.grow (redrawn wr dq) osq = wl at *
                clear hkd hkd2
                have HAT := Lib.hid (Rw.own_at (S := tmS) HOL.out HN.out (by omega))
                obtain ⟨u0, u1, u2⟩ := cells3 HBL.out.box
                have hj0 : (0 : Int) ≤ (cp : Int) := by omega
                have hj1 : (cp : Int) ≤ (cp : Int) := by omega
                have hj2 : (cp : Int) ≤ (cp : Int) := by omega
                have hj3 : (cp : Int) ≤ (cp : Int) := by omega
                go_wp2_with (at_builtin; refine Rw.append_more tmS rfl (.tmp 38) (.tmp 41) rfl wl.heap.size _ 0 [] (rest.take cp) (some ⟨g2, 0, none⟩) cp cp rfl (World.ownsRow_nil _ _ _ _) rfl (Rw.part_take HAT.out (by omega)) (by omega) (Nat.le_refl _) ?_)
                intro v6 w6 hown6 hg6
                have HO6 : Hid (w6.ownsRow wl.heap.size 25 3 v6 cp (Rw.cells tmS (rest.take cp))) := by
                  first
                    | (rw [Nat.zero_add] at hown6; exact hown6)
                    | exact hown6
                have HB6 : Hid (Below wl.heap.size wl w6) := (Below.refl _ _).grown hg6 (Nat.le_refl _) (fun k hk => by cases hk)
                have HBX6 := Lib.hid (HBL.out.keep HB6.out)
                obtain ⟨v0, v1, v2⟩ := cells3 HBX6.out.box
                have hsz6 := HB6.out.size
                clear hown6 hg6 u0 u1 u2
                go_wp2_with (at_builtin; refine Rw.append_one tmS rfl (.tmp 43) (.tmp 45) rfl wl.heap.size w6 _ rfl ⟨x0, x1, x2⟩ _ rfl _ cp (rest.take cp) rfl HO6.out rfl (by omega) hsz6 ?_)
                intro v7 w7 hown7 hg7
                have HO7 : Hid (w7.ownsRow wl.heap.size 25 3 v7 (cp + 1) (Rw.cells tmS (rest.take cp ++ [⟨x0, x1, x2⟩]))) := hown7
                have HB7 : Hid (Below wl.heap.size wl w7) := Rw.below_append HB6.out hsz6 HO6.out hg7
                clear hown7 hg7 v0 v1 v2
                have HI : TmAt w7 (some ⟨g2, 0, none⟩) 0 [] := Rw.At.nil _ _ _
                have hn8 : cp + 1 + 0 ≤ 4000000 := by omega
                have hs8 := HB7.out.size
                go_wp2_with (at_builtin; refine Rw.append_more tmS rfl (.tmp 47) (.tmp 50) rfl wl.heap.size v7 (cp + 1) (rest.take cp ++ [(⟨x0, x1, x2⟩ : Tm)]) [] (some ⟨g2, 0, none⟩) 0 0 rfl HO7.out rfl HI hn8 hs8 ?_)
                intro v8 w8 hown8 hg8
                have hins : insA cp ⟨x0, x1, x2⟩ rest = rest.take cp ++ [(⟨x0, x1, x2⟩ : Tm)] := by
                  unfold insA; rw [List.drop_eq_nil_of_le (Nat.le_of_eq HN.out)]
                have hown8 : w8.ownsRow wl.heap.size 25 3 v8 (cp + 1) (Rw.cells tmS (rest.take cp ++ [(⟨x0, x1, x2⟩ : Tm)])) := hown8
                have HB8 : Below wl.heap.size wl w8 := HB7.out.grown hg8 HB7.out.size (fun k hk => (HO7.out.lt k hk).1)
                rw [← hins] at hown8
                obtain ⟨a8, c8, rfl, hc8⟩ := Rw.owns_slice hown8
                have hl8 : (insA cp ⟨x0, x1, x2⟩ rest).length = (cp + 1) := by (have h9 := insA_len (i := cp) (x := (⟨x0, x1, x2⟩ : Tm)) (l := rest) (by have := HN.out; omega)); have := HN.out; omega
                have HR : Hid (SetR w (insA cp ⟨x0, x1, x2⟩ rest) 0 (.returned (.tuple #[.slice a8 ((cp + 1)) c8, .int .i64 0])) w8) :=
                  ⟨a8, _, c8, rfl, hc8, Rw.own_at (S := tmS) hown8 hl8 (by omega), HBL.out.bel.trans (HB8.mono (Nat.le_of_lt HBL.out.lt))⟩
                clear hown8 hg8 HB8 hc8 hl8
                go_wp2_with fail
                go_ret2
                rw [HRS.out]
                exact HR.out
              · obtain ⟨C0, C1, C2⟩ := cells3 hB.out.box
                have c0 := fun d os => cell_regrown C0 d os
                have c1 := fun d os => cell_regrown C1 d os
                have c2 := fun d os => cell_regrown C2 d os
                clear C0 C1 C2
                go_wp2_with fail
                refine wp_region_qw (by kernel_rfl) (by kernel_rfl) ?_
                refine qw_take (by kernel_rfl) (fun K hK => ?_); go_simp; refine hK _ ?_; clear hK K
                refine qw_take (by kernel_rfl) (fun K hK => ?_); go_simp; refine hK _ ?_; clear hK K
                refine qw_take (by kernel_rfl) (fun K hK => ?_); go_simp; refine hK _ ?_; clear hK K
                refine qw_take (by kernel_rfl) (fun K hK => ?_); go_simp; refine hK _ ?_; clear hK K
                refine qw_take (by kernel_rfl) (fun K hK => ?_); go_simp; refine hK _ ?_; clear hK K
                refine qw_skip (by kernel_rfl) ?_; simp only [Act.put, List.setIfInBounds_toArray, List.set_cons_succ, List.set_cons_zero]
                refine qw_skip (by kernel_rfl) ?_; simp only [Act.put, List.setIfInBounds_toArray, List.set_cons_succ, List.set_cons_zero]
                refine qw_skip (by kernel_rfl) ?_; simp only [Act.put, List.setIfInBounds_toArray, List.set_cons_succ, List.set_cons_zero]
                refine qw_skip (by kernel_rfl) ?_; simp only [Act.put, List.setIfInBounds_toArray, List.set_cons_succ, List.set_cons_zero]
                refine qw_skip (by kernel_rfl) ?_; simp only [Act.put, List.setIfInBounds_toArray, List.set_cons_succ, List.set_cons_zero]
                refine qw_skip (by kernel_rfl) ?_; simp only [Act.put, List.setIfInBounds_toArray, List.set_cons_succ, List.set_cons_zero]
                refine qw_take (by kernel_rfl) (fun K hK => ?_); go_simp; refine hK _ ?_; clear hK K
                refine qw_nil ?_
                intro _ hw'
                obtain ⟨⟨dq, osq⟩, hw''⟩ := hw'
                subst hw''
                have HBL := Lib.hid (hB.out.keep (below_regrown wr dq osq))
                have HOL := Lib.hid (Rw.owns_below hO.out (below_regrown wr dq osq))
                clear c0 c1 c2
                generalize Sort.grow (redrawn wr dq) osq = wl at *
                clear hkd hkd2
                have HAT := Lib.hid (Rw.own_at (S := tmS) HOL.out HN.out (by omega))
                obtain ⟨u0, u1, u2⟩ := cells3 HBL.out.box
                have hj0 : (0 : Int) ≤ (k : Int) := by omega
                have hj1 : (k : Int) ≤ (k : Int) := by omega
                have hj2 : (k : Int) ≤ (cp : Int) := by omega
                have hj3 : (k : Int) ≤ (cp : Int) := by omega
                go_wp2_with (at_builtin; refine Rw.append_more tmS rfl (.tmp 38) (.tmp 41) rfl wl.heap.size _ 0 [] (rest.take k) (some ⟨g2, 0, none⟩) k cp rfl (World.ownsRow_nil _ _ _ _) rfl (Rw.part_take HAT.out (by omega)) (by omega) (Nat.le_refl _) ?_)
                intro v6 w6 hown6 hg6
                have HO6 : Hid (w6.ownsRow wl.heap.size 25 3 v6 k (Rw.cells tmS (rest.take k))) := by
                  first
                    | (rw [Nat.zero_add] at hown6; exact hown6)
                    | exact hown6
                have HB6 : Hid (Below wl.heap.size wl w6) := (Below.refl _ _).grown hg6 (Nat.le_refl _) (fun k hk => by cases hk)
                have HBX6 := Lib.hid (HBL.out.keep HB6.out)
                obtain ⟨v0, v1, v2⟩ := cells3 HBX6.out.box
                have hsz6 := HB6.out.size
                clear hown6 hg6 u0 u1 u2
                go_wp2_with (at_builtin; refine Rw.append_one tmS rfl (.tmp 43) (.tmp 45) rfl wl.heap.size w6 _ rfl ⟨x0, x1, x2⟩ _ rfl _ k (rest.take k) rfl HO6.out rfl (by omega) hsz6 ?_)
                intro v7 w7 hown7 hg7
                have HO7 : Hid (w7.ownsRow wl.heap.size 25 3 v7 (k + 1) (Rw.cells tmS (rest.take k ++ [⟨x0, x1, x2⟩]))) := hown7
                have HB7 : Hid (Below wl.heap.size wl w7) := Rw.below_append HB6.out hsz6 HO6.out hg7
                clear hown7 hg7 v0 v1 v2
                have HI : TmAt w7 (some ⟨g2, k * 3, none⟩) 0 [] := Rw.At.nil _ _ _
                have hn8 : k + 1 + 0 ≤ 4000000 := by omega
                have hs8 := HB7.out.size
                go_wp2_with (at_builtin; refine Rw.append_more tmS rfl (.tmp 47) (.tmp 50) rfl wl.heap.size v7 (k + 1) (rest.take k ++ [(⟨x0, x1, x2⟩ : Tm)]) [] (some ⟨g2, k * 3, none⟩) 0 (cp - k) rfl HO7.out rfl HI hn8 hs8 ?_)
                intro v8 w8 hown8 hg8
                have hins : insA k ⟨x0, x1, x2⟩ rest = rest.take k ++ [(⟨x0, x1, x2⟩ : Tm)] := by
                  unfold insA; rw [List.drop_eq_nil_of_le (Nat.le_of_eq HN.out)]
                have hown8 : w8.ownsRow wl.heap.size 25 3 v8 (k + 1) (Rw.cells tmS (rest.take k ++ [(⟨x0, x1, x2⟩ : Tm)])) := hown8
                have HB8 : Below wl.heap.size wl w8 := HB7.out.grown hg8 HB7.out.size (fun k hk => (HO7.out.lt k hk).1)
                rw [← hins] at hown8
                obtain ⟨a8, c8, rfl, hc8⟩ := Rw.owns_slice hown8
                have hl8 : (insA k ⟨x0, x1, x2⟩ rest).length = (k + 1) := by (have h9 := insA_len (i := k) (x := (⟨x0, x1, x2⟩ : Tm)) (l := rest) (by have := HN.out; omega)); have := HN.out; omega
                have HR : Hid (SetR w (insA k ⟨x0, x1, x2⟩ rest) 0 (.returned (.tuple #[.slice a8 ((k + 1)) c8, .int .i64 0])) w8) :=
                  ⟨a8, _, c8, rfl, hc8, Rw.own_at (S := tmS) hown8 hl8 (by omega), HBL.out.bel.trans (HB8.mono (Nat.le_of_lt HBL.out.lt))⟩
                clear hown8 hg8 HB8 hc8 hl8
                go_wp2_with fail
                go_ret2
                rw [HRS.out]
                exact HR.out
end Go.Proofs.Ytcfjnpepbjaacaa.Timer
