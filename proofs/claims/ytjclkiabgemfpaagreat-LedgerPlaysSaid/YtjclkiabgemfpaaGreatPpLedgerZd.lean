/-
  LedgerPlays: it returns true for any acts; what was there stays as it was.
-/
import Derived.Test.YtjclkiabgemfpaaGreatPpLedgerY
set_option linter.unusedVariables false
set_option linter.unusedSimpArgs false
set_option maxRecDepth 4000
namespace Go.Proofs.YtjclkiabgemfpaaGreat.Ledger
open Go.RowKit LinesP HoldsP LedgerP
open StockP (Sk sk0)
open Go.Proofs.YtjclkiabgemfpaaGreat.Lines (LsAt Sz SzM ret_bool ret_int below_keep below_drewN)
open Go.Proofs.YtjclkiabgemfpaaGreat.Holds (HsAt SzH SzMH hmf eqH)

theorem pat2_keep {w w' : World} {k : Nat} {v0 v1 : Value} (h : At2 w k v0 v1) (hb : Below w.heap.size w w') : At2 w' k v0 v1 := (hb.block k (heap_lt h)).trans h
theorem pat2_new (w : World) (v0 v1 : Value) : At2 (w.alloc (.cells #[v0, v1] 33)) w.heap.size v0 v1 := heap_alloc_new w _
theorem atB_new (w : World) (v0 v1 : Value) : AtB (w.alloc (.cells #[v0, v1] 25)) w.heap.size v0 v1 := heap_alloc_new w _
theorem pbk_put2 {w : World} {a : Option Addr} {n : Nat} {a2 : Option Addr} {n2 c2 : Nat} {b : Bk} (h : BkAt w a n a2 n2 c2 b) {r : Nat} {p0 p1 : Option Addr} {m0 m1 d0 d1 : Nat} (hr : At2 w r (.slice p0 m0 d0) (.slice p1 m1 d1)) (v0 v1 : Value) : BkAt (put2 w r v0 v1) a n a2 n2 c2 b :=
  ⟨sk_same h.sk (sk_off h.sk hr) (by rw [size_put2]; exact Nat.le_refl _) (fun j hj => put2_other v0 v1 hj), hs_same h.hd hr (by rw [size_put2]; exact Nat.le_refl _) (fun j hj => put2_other v0 v1 hj), h.room⟩
theorem pjoin8 {G : Prop} {P F : World → Nat → Option Addr → Nat → Nat → Option Addr → Nat → Nat → Prop} (main : (∀ w g a n c p m d, F w g a n c p m d → P w g a n c p m d) → G) (pf : ∀ w g a n c p m d, F w g a n c p m d → P w g a n c p m d) : G := main pf
theorem pfew30 (a : Option Addr) (len cap : Nat) (l : List LedgerP.Act) (v : Bool) (hv : fewA 30 l = v) (w : World) (h : AsAt w a len l) (hs : SzMA l) :
    Calls Tryz.prog 6 #[.slice a len cap, .int .i64 30] w fun e w' => e = .returned (.bool v) ∧ Below w.heap.size w w' := by
  have := fewacts_any a len cap l 30 w h hs (by decide)
  rw [hv] at this
  exact this
theorem box_ne {w : World} {j k : Nat} {x0 x1 y0 y1 : Value} (h1 : AtB w j x0 x1) (h2 : At2 w k y0 y1) : j ≠ k := by
  intro e
  subst e
  have h3 : some (Obj.cells #[x0, x1] 25 (0, 0)) = some (Obj.cells #[y0, y1] 33 (0, 0)) := Eq.trans (Eq.symm h1) h2
  simp at h3
structure PlJ (w wr : World) (kb : Nat) (a : Option Addr) (n c : Nat) (a2 : Option Addr) (n2 c2 : Nat) (p : Option Addr) (m d : Nat) (p2 : Option Addr) (m2 d2 : Nat) (b : Bk) : Prop where
  bel : Below w.heap.size w wr
  lo : w.heap.size ≤ kb
  box : At2 wr kb (.slice a n c) (.slice a2 n2 c2)
  boy : AtB wr (kb + 1) (.slice p m d) (.slice p2 m2 d2)
  bk : BkAt wr a n a2 n2 c2 b
  bky : BkAt wr p m p2 m2 d2 b
section
variable {w wr w2 : World} {kb : Nat} {a : Option Addr} {n c : Nat} {a2 : Option Addr} {n2 c2 : Nat} {p : Option Addr} {m d : Nat} {p2 : Option Addr} {m2 d2 : Nat} {b : Bk}
theorem PlJ.keep (h : PlJ w wr kb a n c a2 n2 c2 p m d p2 m2 d2 b) (hb : Below wr.heap.size wr w2) : PlJ w w2 kb a n c a2 n2 c2 p m d p2 m2 d2 b :=
  ⟨Lines.below_keep h.bel hb h.bel.size, h.lo, pat2_keep h.box hb, atB_keep h.boy hb, h.bk.keep hb, h.bky.keep hb⟩
theorem PlJ.put (h : PlJ w wr kb a n c a2 n2 c2 p m d p2 m2 d2 b) {y : Bk} {a' : Option Addr} {n' c' : Nat} {a2' : Option Addr} {n2' c2' : Nat} {p' : Option Addr} {m' d' : Nat} {p2' : Option Addr} {m2' d2' : Nat} (h1 : BkAt wr a' n' a2' n2' c2' y) (h2 : BkAt wr p' m' p2' m2' d2' y) :
    PlJ w (put2 (put2 wr kb (.slice a' n' c') (.slice a2' n2' c2')) (kb + 1) (.slice p' m' d') (.slice p2' m2' d2')) kb a' n' c' a2' n2' c2' p' m' d' p2' m2' d2' y := by
  have hy : AtB (put2 wr kb (.slice a' n' c') (.slice a2' n2' c2')) (kb + 1) (.slice p m d) (.slice p2 m2 d2) := (put2_other _ _ (by omega)).trans h.boy
  exact ⟨below_put2 (below_put2 h.bel h.lo _ _) (by have := h.lo; omega) _ _, h.lo, (put2_other _ _ (by omega)).trans (heap_put2 h.box _ _), heap_put2B hy _ _, bk_sameB (pbk_put2 h1 h.box _ _) hy _ _, bk_sameB (pbk_put2 h2 h.box _ _) hy _ _⟩
end
set_option maxHeartbeats 8000000 in
theorem plays_any (a : Option Addr) (len cap : Nat) (l : List LedgerP.Act) (w : World) (h : AsAt w a len l) (hs : SzMA l) :
    Calls Tryz.prog 4 #[.slice a len cap] w fun e w' => e = .returned (.bool true) ∧ Below w.heap.size w w' := by
  have HX := Lib.hid h
  have HS := Lib.hid hs
  obtain ⟨v, hv⟩ : ∃ v, fewA 30 l = v := ⟨_, rfl⟩
  have HV := Lib.hid hv
  have C := Lib.hid (pfew30 a len cap l v hv w h hs)
  clear hv h hs
  go_enter Tryz.func4, Tryz.ntmps4
  go_wp2_with fail
  refine C.out.mono ?_
  rintro e w1 ⟨rfl, hb⟩
  have HB1 := Lib.hid hb
  clear hb C
  cases v with
  | false =>
    go_wp2_with fail
    refine (awake_any w1).mono ?_
    rintro e w9 ⟨rfl, hb⟩
    have HB9 := Lib.hid (Lines.below_keep HB1.out hb HB1.out.size)
    clear hb
    go_wp2_with fail
    go_ret
    exact ⟨rfl, HB9.out⟩
  | true =>
    have hfm := fewA_mem HV.out HS.out
    have h30 : len ≤ 30 := by rw [← HX.out.len]; exact hfm.1
    have HFM := Lib.hid hfm.2
    clear hfm HV
    have J0 : Hid (PlJ w ((w1.alloc (.cells #[.slice none 0 0, .slice none 0 0] 33)).alloc (.cells #[.slice none 0 0, .slice none 0 0] 25)) w1.heap.size none 0 0 none 0 0 none 0 0 none 0 0 bk0) := by
      have hb2 := (Below.refl _ (w1.alloc (.cells #[.slice none 0 0, .slice none 0 0] 33))).alloc (Nat.le_refl _) (.cells #[.slice none 0 0, .slice none 0 0] 25)
      have h2 := atB_new (w1.alloc (.cells #[.slice none 0 0, .slice none 0 0] 33)) (.slice none 0 0) (.slice none 0 0)
      rw [World.size_alloc] at h2
      exact ⟨Lines.below_keep (HB1.out.alloc HB1.out.size _) hb2 (by have := HB1.out.size; rw [World.size_alloc]; omega), HB1.out.size, pat2_keep (pat2_new w1 _ _) hb2, h2, ⟨SkAt.nil _ _, HsAt.nil _ _, Nat.le_refl _⟩, ⟨SkAt.nil _ _, HsAt.nil _ _, Nat.le_refl _⟩⟩
    go_wp2_with fail
    go_loopw [5] (fun i wr => ∃ (m : Nat) (A : Option Addr) (N C : Nat) (A2 : Option Addr) (N2 C2 : Nat) (D : Option Addr) (M E : Nat) (D2 : Option Addr) (M2 E2 : Nat) (b : Bk), m ≤ len ∧ i = .int .i64 (m : Int) ∧ Hid (PlJ w wr w1.heap.size A N C A2 N2 C2 D M E D2 M2 E2 b) ∧ Hid (FitB b)) (fun i _ => len - (intOf i).toNat)
    case atStart => exact ⟨0, none, 0, 0, none, 0, 0, none, 0, 0, none, 0, 0, bk0, Nat.zero_le _, rfl, J0, Lib.hid fitB_empty⟩
    case round =>
      obtain ⟨m, A, N, C, A2, N2, C2, D, M, E, D2, M2, E2, b, hm, rfl, hJ, hF⟩ := hrel
      by_cases hlt : m < len
      · have hmx : m < l.length := by rw [HX.out.len]; exact hlt
        obtain ⟨b1, o1, kd, sg, q, s, la, lc, ls, rfl, g1, hp, hc1⟩ := HX.out.at hlt
        obtain ⟨hl8, hsz, hs60⟩ := HFM.out _ (amem_getD hmx)
        rw [hp] at hl8 hsz hs60
        simp only at hl8 hsz hs60
        obtain ⟨n, hn⟩ : ∃ n, ls.length = n := ⟨_, rfl⟩
        rw [hn] at hc1 hl8
        have HC1 := Lib.hid hc1
        have HSZ := Lib.hid hsz
        have hdo := do_left b ⟨kd, sg, q, s, ls⟩
        have CD : Hid (∀ w', Below wr.heap.size wr w' → Calls Tryz.prog 8 #[.agg #[.slice A N C, .slice A2 N2 C2], .agg #[.int .i64 kd, .int .i64 sg, .int .i64 q, .string s, .slice la n lc]] w' (BookR w' (doB b ⟨kd, sg, q, s, ls⟩))) :=
          fun w' hb => do_any A N C A2 N2 C2 b kd sg q s la n lc ls w' (hJ.out.bk.keep hb) (fit_szb (fitB_iff.2 hF.out)) (by omega) (HC1.out w' (Lines.below_keep hJ.out.bel hb hJ.out.bel.size)).2.2.2.2.2 HSZ.out (by omega)
        have CR : Hid (∀ w', Below wr.heap.size wr w' → Calls Tryz.prog 10 #[.agg #[.slice D M E, .slice D2 M2 E2], .agg #[.int .i64 kd, .int .i64 sg, .int .i64 q, .string s, .slice la n lc]] w' (BookR w' (doB b ⟨kd, sg, q, s, ls⟩))) :=
          fun w' hb => rdo_any D M E D2 M2 E2 b kd sg q s la n lc ls w' (hJ.out.bky.keep hb) (fit_szb (fitB_iff.2 hF.out)) (by omega) (HC1.out w' (Lines.below_keep hJ.out.bel hb hJ.out.bel.size)).2.2.2.2.2 HSZ.out
        obtain ⟨⟨y, er⟩, hr⟩ : ∃ r, doB b ⟨kd, sg, q, s, ls⟩ = r := ⟨_, rfl⟩
        rw [hr] at CD CR hdo
        unfold BookR at CD CR
        simp only at CD CR hdo
        have hfy : er = 0 → FitB y := by
          intro e0
          rcases hdo with ⟨e, he, hne⟩ | ⟨_, h2, _⟩
          · exact absurd ((congrArg Prod.snd he).symm.trans e0) hne
          · exact h2
        have HFY := Lib.hid hfy
        clear hc1 hsz hdo hfy hr hp hn hmx g1
        go_wp2_with fail
        have K : Hid (∀ w', Below wr.heap.size wr w' → w'.cell? ⟨w1.heap.size, 0, none⟩ = some (.slice A N C) ∧ w'.cell? ⟨w1.heap.size, 1, none⟩ = some (.slice A2 N2 C2) ∧ w'.cell? ⟨b1, o1 + m * 5, none⟩ = some (.int .i64 kd) ∧ w'.cell? ⟨b1, o1 + m * 5 + 1, none⟩ = some (.int .i64 sg) ∧ w'.cell? ⟨b1, o1 + m * 5 + 2, none⟩ = some (.int .i64 q) ∧ w'.cell? ⟨b1, o1 + m * 5 + 3, none⟩ = some (.string s) ∧ w'.cell? ⟨b1, o1 + m * 5 + 4, none⟩ = some (.slice la n lc)) := by
          intro w' hb
          obtain ⟨t0, t1, t2, t3, t4, _⟩ := HC1.out w' (Lines.below_keep hJ.out.bel hb hJ.out.bel.size)
          obtain ⟨u0, u1⟩ := cells2 (hJ.out.keep hb).box
          exact ⟨u0, u1, t0, t1, t2, t3, t4⟩
        apply pjoin8 (F := fun wz bx a4 n4 c4 p4 m4 d4 => Below wr.heap.size wr wz ∧ At2 wz bx (.slice a4 n4 c4) (.slice p4 m4 d4) ∧ BkAt wz a4 n4 p4 m4 d4 y)
        · intro hG
          have b0 : Below wr.heap.size wr wr.drew := (Below.refl _ wr).drew
          have k0 := K.out _ b0
          have b00 : Below wr.heap.size wr (wr.alloc (.cells #[.slice none 0 0, .slice none 0 0] 33)).drew := ((Below.refl _ wr).alloc (Nat.le_refl _) _).drew
          have k00 := K.out _ b00
          have k01 := K.out _ ((Below.refl _ wr).alloc (Nat.le_refl _) (.cells #[.slice none 0 0, .slice none 0 0] 33))
          go_region_held3 (fun w' => w'.cell? ⟨w1.heap.size, 0, none⟩ = some (.slice A N C) ∧ w'.cell? ⟨w1.heap.size, 1, none⟩ = some (.slice A2 N2 C2) ∧ w'.cell? ⟨b1, o1 + m * 5, none⟩ = some (.int .i64 kd) ∧ w'.cell? ⟨b1, o1 + m * 5 + 1, none⟩ = some (.int .i64 sg) ∧ w'.cell? ⟨b1, o1 + m * 5 + 2, none⟩ = some (.int .i64 q) ∧ w'.cell? ⟨b1, o1 + m * 5 + 3, none⟩ = some (.string s) ∧ w'.cell? ⟨b1, o1 + m * 5 + 4, none⟩ = some (.slice la n lc))
            (first | with_reducible exact k0 | with_reducible exact k00 | with_reducible exact k01 | with_reducible exact k4 | with_reducible exact k5 | with_reducible exact k6)
            (first
              | ((with_reducible refine (CD.out (wr.alloc (.cells #[.slice none 0 0, .slice none 0 0] 33)).drew b00).mono ?_); rintro e w4 ⟨a4, n4, c4, p4, m4, d4, rfl, hbk, hb4⟩; have b4 := Lines.below_keep b00 hb4 b00.size; have k4 := K.out _ b4; have k5 := k4; have k6 := K.out _ (below_put2 b4 (Nat.le_refl _) (.slice a4 n4 c4) (.slice p4 m4 d4)); have hz4 := pat2_keep (w := (wr.alloc (.cells #[.slice none 0 0, .slice none 0 0] 33)).drew) (pat2_new wr (.slice none 0 0) (.slice none 0 0)) hb4; obtain ⟨z0, z1⟩ := cells2 hz4; obtain ⟨f0, f1⟩ := free2 hz4)
              | ((with_reducible refine (CD.out wr.drew b0).mono ?_); rintro e w4 ⟨a4, n4, c4, p4, m4, d4, rfl, hbk, hb4⟩; have b4 := Lines.below_keep b0 hb4 b0.size; have k4 := K.out _ b4; have k5 := K.out _ (b4.alloc b4.size (.cells #[.slice none 0 0, .slice none 0 0] 33)); have k6 := K.out _ (b4.alloc b4.size (.cells #[.slice a4 n4 c4, .slice p4 m4 d4] 33))))
          · have hwz0 : Below wr.heap.size wr (w4.alloc (.cells #[.slice a4 n4 c4, .slice p4 m4 d4] 33)) := b4.alloc b4.size _
            have hx0 := pat2_new w4 (.slice a4 n4 c4) (.slice p4 m4 d4)
            have hbk2 := hbk.keep ((Below.refl _ w4).alloc (Nat.le_refl _) (.cells #[.slice a4 n4 c4, .slice p4 m4 d4] 33))
            clear k0 k00 k01 k4 k5 k6 b0 b00 b4 hb4 hbk
            generalize hwz : w4.alloc (.cells #[.slice a4 n4 c4, .slice p4 m4 d4] 33) = wz at hwz0 hx0 hbk2 ⊢
            generalize hbx : w4.heap.size = bx at hx0 ⊢
            exact hG wz bx a4 n4 c4 p4 m4 d4 ⟨hwz0, hx0, hbk2⟩
          · have hwz0 := below_put2 b4 (Nat.le_refl _) (.slice a4 n4 c4) (.slice p4 m4 d4)
            have hx0 := heap_put2 hz4 (.slice a4 n4 c4) (.slice p4 m4 d4)
            have hbk2 := pbk_put2 hbk hz4 (.slice a4 n4 c4) (.slice p4 m4 d4)
            change At2 (put2 w4 wr.heap.size (.slice a4 n4 c4) (.slice p4 m4 d4)) wr.heap.size _ _ at hx0
            change BkAt (put2 w4 wr.heap.size (.slice a4 n4 c4) (.slice p4 m4 d4)) _ _ _ _ _ _ at hbk2
            clear k0 k00 k01 k4 k5 k6 b0 b00 b4 hb4 hz4 z0 z1 f0 f1 hbk
            unfold put2 at hwz0 hx0 hbk2
            generalize hwz : (w4.setCell ⟨wr.heap.size, 0, none⟩ (.slice a4 n4 c4)).setCell ⟨wr.heap.size, 1, none⟩ (.slice p4 m4 d4) = wz at hwz0 hx0 hbk2 ⊢
            obtain ⟨bx, hbx⟩ : ∃ bx, wr.heap.size = bx := ⟨_, rfl⟩
            have hx1 : At2 wz bx (.slice a4 n4 c4) (.slice p4 m4 d4) := hbx ▸ hx0
            rw [hbx]
            exact hG wz bx a4 n4 c4 p4 m4 d4 ⟨hwz0, hx1, hbk2⟩
        · intro wz1 bx1 a4 n4 c4 p4 m4 d4 hF8
          have HJ1 := Lib.hid (hJ.out.keep hF8.1)
          have HBX1 : Hid (At2 wz1 bx1 (.slice a4 n4 c4) (.slice p4 m4 d4)) := hF8.2.1
          have HBK1 : Hid (BkAt wz1 a4 n4 p4 m4 d4 y) := hF8.2.2
          have CR2 := Lib.hid (fun w' (hb : Below wz1.heap.size wz1 w') => CR.out w' (Lines.below_keep hF8.1 hb hF8.1.size))
          clear hF8 CD CR hJ K
          go_wp2_with fail
          have K : Hid (∀ w', Below wz1.heap.size wz1 w' → w'.cell? ⟨w1.heap.size + 1, 0, none⟩ = some (.slice D M E) ∧ w'.cell? ⟨w1.heap.size + 1, 1, none⟩ = some (.slice D2 M2 E2) ∧ w'.cell? ⟨b1, o1 + m * 5, none⟩ = some (.int .i64 kd) ∧ w'.cell? ⟨b1, o1 + m * 5 + 1, none⟩ = some (.int .i64 sg) ∧ w'.cell? ⟨b1, o1 + m * 5 + 2, none⟩ = some (.int .i64 q) ∧ w'.cell? ⟨b1, o1 + m * 5 + 3, none⟩ = some (.string s) ∧ w'.cell? ⟨b1, o1 + m * 5 + 4, none⟩ = some (.slice la n lc)) := by
            intro w' hb
            obtain ⟨t0, t1, t2, t3, t4, _⟩ := HC1.out w' (Lines.below_keep HJ1.out.bel hb HJ1.out.bel.size)
            obtain ⟨u0, u1⟩ := cellsB (HJ1.out.keep hb).boy
            exact ⟨u0, u1, t0, t1, t2, t3, t4⟩
          apply pjoin8 (F := fun wz bx a4 n4 c4 p4 m4 d4 => Below wz1.heap.size wz1 wz ∧ AtB wz bx (.slice a4 n4 c4) (.slice p4 m4 d4) ∧ BkAt wz a4 n4 p4 m4 d4 y)
          · intro hG
            have b0 : Below wz1.heap.size wz1 wz1.drew := (Below.refl _ wz1).drew
            have k0 := K.out _ b0
            have b00 : Below wz1.heap.size wz1 (wz1.alloc (.cells #[.slice none 0 0, .slice none 0 0] 25)).drew := ((Below.refl _ wz1).alloc (Nat.le_refl _) _).drew
            have k00 := K.out _ b00
            have k01 := K.out _ ((Below.refl _ wz1).alloc (Nat.le_refl _) (.cells #[.slice none 0 0, .slice none 0 0] 25))
            go_region_held3 (fun w' => w'.cell? ⟨w1.heap.size + 1, 0, none⟩ = some (.slice D M E) ∧ w'.cell? ⟨w1.heap.size + 1, 1, none⟩ = some (.slice D2 M2 E2) ∧ w'.cell? ⟨b1, o1 + m * 5, none⟩ = some (.int .i64 kd) ∧ w'.cell? ⟨b1, o1 + m * 5 + 1, none⟩ = some (.int .i64 sg) ∧ w'.cell? ⟨b1, o1 + m * 5 + 2, none⟩ = some (.int .i64 q) ∧ w'.cell? ⟨b1, o1 + m * 5 + 3, none⟩ = some (.string s) ∧ w'.cell? ⟨b1, o1 + m * 5 + 4, none⟩ = some (.slice la n lc))
              (first | with_reducible exact k0 | with_reducible exact k00 | with_reducible exact k01 | with_reducible exact k4 | with_reducible exact k5 | with_reducible exact k6)
              (first
                | ((with_reducible refine (CR2.out (wz1.alloc (.cells #[.slice none 0 0, .slice none 0 0] 25)).drew b00).mono ?_); rintro e w4 ⟨a5, n5, c5, p5, m5, d5, rfl, hbk, hb4⟩; have b4 := Lines.below_keep b00 hb4 b00.size; have k4 := K.out _ b4; have k5 := k4; have k6 := K.out _ (below_put2 b4 (Nat.le_refl _) (.slice a5 n5 c5) (.slice p5 m5 d5)); have hz4 := atB_keep (w := (wz1.alloc (.cells #[.slice none 0 0, .slice none 0 0] 25)).drew) (atB_new wz1 (.slice none 0 0) (.slice none 0 0)) hb4; obtain ⟨z0, z1⟩ := cellsB hz4; obtain ⟨f0, f1⟩ := freeB hz4)
                | ((with_reducible refine (CR2.out wz1.drew b0).mono ?_); rintro e w4 ⟨a5, n5, c5, p5, m5, d5, rfl, hbk, hb4⟩; have b4 := Lines.below_keep b0 hb4 b0.size; have k4 := K.out _ b4; have k5 := K.out _ (b4.alloc b4.size (.cells #[.slice none 0 0, .slice none 0 0] 25)); have k6 := K.out _ (b4.alloc b4.size (.cells #[.slice a5 n5 c5, .slice p5 m5 d5] 25))))
            · have hwz0 : Below wz1.heap.size wz1 (w4.alloc (.cells #[.slice a5 n5 c5, .slice p5 m5 d5] 25)) := b4.alloc b4.size _
              have hx0 := atB_new w4 (.slice a5 n5 c5) (.slice p5 m5 d5)
              have hbk2 := hbk.keep ((Below.refl _ w4).alloc (Nat.le_refl _) (.cells #[.slice a5 n5 c5, .slice p5 m5 d5] 25))
              clear k0 k00 k01 k4 k5 k6 b0 b00 b4 hb4 hbk
              generalize hwz : w4.alloc (.cells #[.slice a5 n5 c5, .slice p5 m5 d5] 25) = wz at hwz0 hx0 hbk2 ⊢
              generalize hbx : w4.heap.size = bx at hx0 ⊢
              exact hG wz bx a5 n5 c5 p5 m5 d5 ⟨hwz0, hx0, hbk2⟩
            · have hwz0 := below_put2 b4 (Nat.le_refl _) (.slice a5 n5 c5) (.slice p5 m5 d5)
              have hx0 := heap_put2B hz4 (.slice a5 n5 c5) (.slice p5 m5 d5)
              have hbk2 := bk_sameB hbk hz4 (.slice a5 n5 c5) (.slice p5 m5 d5)
              change AtB (put2 w4 wz1.heap.size (.slice a5 n5 c5) (.slice p5 m5 d5)) wz1.heap.size _ _ at hx0
              change BkAt (put2 w4 wz1.heap.size (.slice a5 n5 c5) (.slice p5 m5 d5)) _ _ _ _ _ _ at hbk2
              clear k0 k00 k01 k4 k5 k6 b0 b00 b4 hb4 hz4 z0 z1 f0 f1 hbk
              unfold put2 at hwz0 hx0 hbk2
              generalize hwz : (w4.setCell ⟨wz1.heap.size, 0, none⟩ (.slice a5 n5 c5)).setCell ⟨wz1.heap.size, 1, none⟩ (.slice p5 m5 d5) = wz at hwz0 hx0 hbk2 ⊢
              obtain ⟨bx, hbx⟩ : ∃ bx, wz1.heap.size = bx := ⟨_, rfl⟩
              have hx1 : AtB wz bx (.slice a5 n5 c5) (.slice p5 m5 d5) := hbx ▸ hx0
              rw [hbx]
              exact hG wz bx a5 n5 c5 p5 m5 d5 ⟨hwz0, hx1, hbk2⟩
          · intro wz2 bx2 a5 n5 c5 p5 m5 d5 hF9
            have HJ2 := Lib.hid (HJ1.out.keep hF9.1)
            have HBX2 := Lib.hid (pat2_keep HBX1.out hF9.1)
            have HBK2 := Lib.hid (HBK1.out.keep hF9.1)
            have HBY2 : Hid (AtB wz2 bx2 (.slice a5 n5 c5) (.slice p5 m5 d5)) := hF9.2.1
            have HYK2 : Hid (BkAt wz2 a5 n5 p5 m5 d5 y) := hF9.2.2
            clear hF9 CR2 HJ1 HBX1 HBK1 K
            have CS := Lib.hid (lsame_any a4 n4 c4 p4 m4 d4 a5 n5 c5 p5 m5 d5 y y true (eqB_iff.2 rfl) wz2 HBK2.out HYK2.out)
            obtain ⟨q0, q1⟩ := cells2 HBX2.out
            obtain ⟨t0, t1⟩ := cellsB HBY2.out
            go_wp2_with fail
            refine CS.out.mono ?_
            rintro e w3 ⟨rfl, hb⟩
            have HJ3 := Lib.hid (HJ2.out.keep hb)
            have HBX3 := Lib.hid (pat2_keep HBX2.out hb)
            have HBY3 := Lib.hid (atB_keep HBY2.out hb)
            have HBK3 := Lib.hid (HBK2.out.keep hb)
            have HYK3 := Lib.hid (HYK2.out.keep hb)
            clear hb q0 q1 t0 t1 CS HJ2 HBX2 HBY2 HBK2 HYK2
            by_cases her : er = 0
            · subst her
              have HFY2 := Lib.hid (HFY.out rfl)
              have HJ4 := Lib.hid (HJ3.out.put (c' := c4) (d' := c5) HBK3.out HYK3.out)
              obtain ⟨q0, q1⟩ := cells2 HBX3.out
              obtain ⟨t0, t1⟩ := cellsB HBY3.out
              obtain ⟨z0, z1⟩ := cells2 HJ3.out.box
              obtain ⟨f0, f1⟩ := free2 HJ3.out.box
              have hy5 : AtB (put2 w3 w1.heap.size (.slice a4 n4 c4) (.slice p4 m4 d4)) bx2 (.slice a5 n5 c5) (.slice p5 m5 d5) := (put2_other _ _ (box_ne HBY3.out HJ3.out.box)).trans HBY3.out
              have hy6 : AtB (put2 w3 w1.heap.size (.slice a4 n4 c4) (.slice p4 m4 d4)) (w1.heap.size + 1) (.slice D M E) (.slice D2 M2 E2) := (put2_other _ _ (by omega)).trans HJ3.out.boy
              unfold put2 at hy5 hy6
              obtain ⟨x0, x1⟩ := cellsB hy5
              obtain ⟨v0, v1⟩ := cellsB hy6
              obtain ⟨g0, g1⟩ := freeB hy6
              clear hy5 hy6
              go_wp2_with fail
              go_roundw
              case rel => exact ⟨m + 1, a4, n4, c4, p4, m4, d4, a5, n5, c5, p5, m5, d5, y, by omega, by go_num, HJ4, HFY2⟩
              case measure => simp [intOf]; omega
            · go_wp2_with fail
              go_roundw
              case rel => exact ⟨m + 1, A, N, C, A2, N2, C2, D, M, E, D2, M2, E2, b, by omega, by go_num, HJ3, hF⟩
              case measure => simp [intOf]; omega
      · obtain rfl : m = len := by omega
        go_wp2_with fail
        refine (awake_any wr).mono ?_
        rintro e w9 ⟨rfl, hb⟩
        have HB9 := Lib.hid (Lines.below_keep hJ.out.bel hb hJ.out.bel.size)
        clear hb
        go_wp2_with fail
        go_ret
        exact ⟨rfl, HB9.out⟩
end Go.Proofs.YtjclkiabgemfpaaGreat.Ledger
