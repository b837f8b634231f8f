/-
  The contract of Set: any timers; what was there stays as it was.
-/
import Derived.Test.YtcfjnpepbjaacaaTimerG
set_option linter.unusedVariables false
set_option linter.unusedSimpArgs false
set_option maxRecDepth 4000
namespace Go.Proofs.Ytcfjnpepbjaacaa.Timer
open Go.RowKit TimerP
open Go.Proofs.Ytcfjnpepbjaacaa.Kt

/-- What Set answers: timers, and why there are none. -/
def SetR (w : World) (l : List Tm) (er : Int) (e : Ending) (w' : World) : Prop := ∃ a n c, e = .returned (.tuple #[.slice a n c, .int .i64 er]) ∧ n ≤ c ∧ TmAt w' a n l ∧ Below w.heap.size w w'
theorem setR_none {w w' : World} {er : Int} (hb : Below w.heap.size w w') : SetR w [] er (.returned (.tuple #[.slice none 0 0, .int .i64 er])) w' := ⟨none, 0, 0, rfl, Nat.le_refl _, Rw.At.nil _ _ _, hb⟩
theorem set_bad {l : List Tm} {t : Tm} (h : fitB l = false) : setT l t = ([], 12) := by unfold setT; rw [if_neg (by rw [h]; simp)]
theorem set_arg {l : List Tm} {t : Tm} (h : fitB l = true) (h2 : oneT t = false) : setT l t = ([], 1) := by unfold setT; rw [if_pos h, if_neg (by rw [h2]; simp)]
theorem set_full {l : List Tm} {t : Tm} (h : fitB l = true) (h2 : oneT t = true) (h3 : (dropT t.saga t.kind l).length = 64) : setT l t = ([], 4) := by unfold setT; rw [if_pos h, if_pos h2, if_pos h3]
theorem set_ok {l : List Tm} {t : Tm} (h : fitB l = true) (h2 : oneT t = true) (h3 : ¬ (dropT t.saga t.kind l).length = 64) : setT l t = (insA (posT t (dropT t.saga t.kind l)) t (dropT t.saga t.kind l), 0) := by
  unfold setT; rw [if_pos h, if_pos h2, if_neg h3, insT_at]
theorem kind_ne {x0 x1 x2 : Int} (h : oneT ⟨x0, x1, x2⟩ = true) : x2 ≠ 0 := by have := one_iff.1 h; omega

set_option maxHeartbeats 4000000 in
theorem set_any (a : Option Addr) (len cap : Nat) (l : List Tm) (hcap : len ≤ cap) (x0 x1 x2 : Int) (w : World) (h : TmAt w a len l) :
    Calls Try.prog 16 #[.slice a len cap, .agg #[.int .i64 x0, .int .i64 x1, .int .i64 x2]] w (SetR w (setT l ⟨x0, x1, x2⟩).1 (setT l ⟨x0, x1, x2⟩).2) := by
  have hB0 := bx3_new 25 w (.int .i64 x0) (.int .i64 x1) (.int .i64 x2)
  obtain ⟨w0, hw0⟩ : ∃ w0, w.alloc (.cells #[.int .i64 x0, .int .i64 x1, .int .i64 x2] 25) = w0 := ⟨_, rfl⟩
  rw [hw0] at hB0
  have HW := Lib.hid hw0
  have HB0 := Lib.hid hB0
  have HX := Lib.hid h
  have CF := Lib.hid (fun v hv => fit_any a len cap l hcap v hv w0 (h.keep hB0.bel))
  obtain ⟨c0, c1, c2⟩ := cells3 hB0.box
  clear hw0 hB0 h
  cases hf : fitB l with
  | false =>
    rw [set_bad hf]
    have CF := Lib.hid (CF.out false hf)
    clear hf
    go_enter Try.func16, Try.ntmps16
    go_wp2_with fail
    rw [show w.alloc (.cells #[.int .i64 x0, .int .i64 x1, .int .i64 x2] 25) = w0 from HW.out]
    go_wp2_with fail
    refine CF.out.mono ?_
    rintro e w1 ⟨rfl, hb⟩
    have HB1 := Lib.hid (HB0.out.keep hb)
    clear hb
    clear c0 c1 c2
    go_wp2_with fail
    go_ret2
    exact setR_none HB1.out.bel
  | true =>
    have hlen : len ≤ 64 := by rw [← HX.out.1]; exact (fitB_iff.1 hf).len
    have CF := Lib.hid (CF.out true hf)
    cases h1 : oneT ⟨x0, x1, x2⟩ with
    | false =>
      rw [set_arg hf h1]
      have CV := Lib.hid (valid_is x0 x1 x2 false h1)
      clear hf h1
      go_enter Try.func16, Try.ntmps16
      go_wp2_with fail
      rw [show w.alloc (.cells #[.int .i64 x0, .int .i64 x1, .int .i64 x2] 25) = w0 from HW.out]
      go_wp2_with fail
      refine CF.out.mono ?_
      rintro e w1 ⟨rfl, hb⟩
      have HB1 := Lib.hid (HB0.out.keep hb)
      clear hb
      clear c0 c1 c2
      obtain ⟨c0, c1, c2⟩ := cells3 HB1.out.box
      go_wp2_with fail
      refine (CV.out w1).mono ?_
      rintro e w2 ⟨rfl, hb⟩
      have HB2 := Lib.hid (HB1.out.keep hb)
      clear hb c0 c1 c2
      go_wp2_with fail
      go_ret2
      exact setR_none HB2.out.bel
    | true =>
      have CV := Lib.hid (valid_is x0 x1 x2 true h1)
      have HF := Lib.hid (fitB_iff.1 hf)
      have hk0 := kind_ne h1
      have HNK := Lib.hid (drop_none (t := ⟨x0, x1, x2⟩) l hk0)
      have hdf := drop_fitT x1 x2 HF.out
      obtain ⟨rest, hrest⟩ : ∃ rest, dropT x1 x2 l = rest := ⟨_, rfl⟩
      obtain ⟨res, hres⟩ : ∃ res, setT l ⟨x0, x1, x2⟩ = res := ⟨_, rfl⟩
      have HST := Lib.hid (fun h3 => set_full (l := l) (t := ⟨x0, x1, x2⟩) hf h1 h3)
      have HSO := Lib.hid (fun h3 => set_ok (l := l) (t := ⟨x0, x1, x2⟩) hf h1 h3)
      simp only [hrest] at HNK HST HSO hdf
      simp only [hres] at HST HSO
      rw [hres]
      clear hres
      have HDF := Lib.hid hdf
      have HREST := Lib.hid hrest
      clear hf h1 hk0 hdf hrest
      go_enter Try.func16, Try.ntmps16
      go_wp2_with fail
      rw [show w.alloc (.cells #[.int .i64 x0, .int .i64 x1, .int .i64 x2] 25) = w0 from HW.out]
      go_wp2_with fail
      refine CF.out.mono ?_
      rintro e w1 ⟨rfl, hb⟩
      have HB1 := Lib.hid (HB0.out.keep hb)
      clear hb
      clear c0 c1 c2
      obtain ⟨c0, c1, c2⟩ := cells3 HB1.out.box
      go_wp2_with fail
      refine (CV.out w1).mono ?_
      rintro e w2 ⟨rfl, hb⟩
      have HB2 := Lib.hid (HB1.out.keep hb)
      clear hb c0 c1 c2
      have CD := drop_any a len cap l x1 x2 (by omega) w2 (HX.out.keep HB2.out.bel)
      rw [show dropT x1 x2 l = rest from HREST.out] at CD
      have CD := Lib.hid CD
      obtain ⟨c0, c1, c2⟩ := cells3 HB2.out.box
      go_wp2_with fail
      refine CD.out.mono ?_
      rintro e w3 ⟨v, rfl, hO, hb⟩
      obtain ⟨ad, cp, rfl, hcp⟩ := Rw.owns_slice hO
      obtain ⟨n, hn⟩ : ∃ n, rest.length = n := ⟨_, rfl⟩
      rw [hn] at hO hcp ⊢
      have hn64 : n ≤ 64 := by rw [← hn]; exact HDF.out.len
      have HB3 := Lib.hid (HB2.out.keep hb)
      have hO4 := hO.alloc (.cells #[.slice ad n cp] 22)
      have hBx4 := HB3.out.alloc (.cells #[.slice ad n cp] 22)
      have hr4 : (w3.alloc (.cells #[.slice ad n cp] 22)).cell? ⟨w3.heap.size, 0, none⟩ = some (.slice ad n cp) := by rw [World.cell?_alloc_new]; rfl
      have hlt4 : w3.heap.size < (w3.alloc (.cells #[.slice ad n cp] 22)).heap.size := by simp
      obtain ⟨w4, hw4⟩ : ∃ w4, w3.alloc (.cells #[.slice ad n cp] 22) = w4 := ⟨_, rfl⟩
      rw [hw4] at hO4 hBx4 hr4 hlt4
      have HW4 := Lib.hid hw4
      have HO4 := Lib.hid (Rw.owns_base hO4 (Nat.le_of_lt HB2.out.lt))
      have HB4 := Lib.hid hBx4
      have HR4 := Lib.hid hr4
      have HLT4 := Lib.hid hlt4
      have HN := Lib.hid hn
      obtain ⟨br, hbr⟩ : ∃ br, w3.heap.size = br := ⟨_, rfl⟩
      rw [hbr] at HR4 HLT4 hr4
      have HBR := Lib.hid hbr
      clear hO hb hn hO4 hBx4 hw4 c0 c1 c2 hlt4
      by_cases h64 : n = 64
      · subst h64
        have HR : Hid (res = ([], 4)) := HST.out HN.out
        clear hbr
        go_wp2_with fail
        rw [show w3.alloc (.cells #[.slice ad 64 cp] 22) = w4 from HW4.out]
        rw [show w3.heap.size = br from HBR.out]
        go_wp2_with fail
        go_ret2
        rw [HR.out]
        exact setR_none HB4.out.bel
      · have HRS := HSO.out (by rw [HN.out]; exact h64)
        have hn2 : ¬ ((n : Int) = 64) := by omega
        have e64 : ((n : Int) == 64) = false := beq_eq_false_iff_ne.2 hn2
        obtain ⟨j, hj⟩ : ∃ j, posT ⟨x0, x1, x2⟩ rest = j := ⟨_, rfl⟩
        have hjn : j ≤ n := by rw [← hj, ← HN.out]; exact posT_le _ _
        have hR := Rw.own_at (S := tmS) HO4.out HN.out (by omega)
        have CS := search_any 23 #[.pointer (some ⟨w.heap.size, 0, none⟩), .pointer (some ⟨br, 0, none⟩)] n j (fun i => aheadB ⟨x0, x1, x2⟩ (rest.getD i tm0)) w4 (by omega) hjn rfl ⟨_, _, rfl⟩
          (fun W hW i hi => closure_any w.heap.size br ad n cp i rest x0 x1 x2 _ W hi rfl (HB4.out.keep hW).box ((hW.cell (p := ⟨br, 0, none⟩) HLT4.out).trans HR4.out) (hR.keep hW))
          (fun i hi => low_no (posT_low ⟨x0, x1, x2⟩ (l := rest) (by rw [hj]; exact hi) rfl))
          (fun i h1 h2 => posT_high HDF.out.up HNK.out (by rw [hj]; exact h1) (by rw [HN.out]; exact h2) rfl)
        have CS := Lib.hid CS
        rw [hj] at HRS
        have HRS := Lib.hid HRS
        clear hj hR hbr
        go_wp2_with fail
        rw [show w3.alloc (.cells #[.slice ad n cp] 22) = w4 from HW4.out]
        rw [show w3.heap.size = br from HBR.out]
        go_wp2_with fail
        refine CS.out.mono ?_
        rintro e w5 ⟨rfl, hb⟩
        have HB5 := Lib.hid (HB4.out.keep hb)
        have HO5 := Lib.hid (Rw.owns_below HO4.out hb)
        have hr5 := (hb.cell (p := ⟨br, 0, none⟩) HLT4.out).trans HR4.out
        obtain ⟨c0, c1, c2⟩ := cells3 HB5.out.box
        have CI := Lib.hid (insert_any w.heap.size (.slice ad n cp) n j rest x0 x1 x2 (w5.alloc (.cells #[.int .i64 x0, .int .i64 x1, .int .i64 x2] 25)) w5 (Nat.le_of_lt HB5.out.lt) (by omega) HN.out HO5.out hjn rfl)
        clear hb hr4 CS
        go_wp2_with fail
        refine CI.out.mono ?_
        rintro e w6 ⟨a6, c6, rfl, hc6, hA6, hb6⟩
        have HR : Hid (SetR w (insA j ⟨x0, x1, x2⟩ rest) 0 (.returned (.tuple #[.slice a6 (n + 1) c6, .int .i64 0])) w6) := ⟨_, _, _, rfl, hc6, hA6, (HB5.out.bel.alloc (Nat.le_of_lt HB5.out.lt) (.cells #[.int .i64 x0, .int .i64 x1, .int .i64 x2] 25)).trans hb6⟩
        clear hc6 hA6 hb6
        go_wp2_with fail
        go_ret2
        rw [HRS.out]
        exact HR.out
end Go.Proofs.Ytcfjnpepbjaacaa.Timer
