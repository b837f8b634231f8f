/-
  InboxOnce is true of any numbers.
-/
import Derived.Test.YtbnneibceilcjaaInboxJ
import Derived.Test.YtbnneibceilcjaaInboxFr
import Derived.Test.YtbnneibceilcjaaInboxN
import Derived.Deep.RegionHeld3
set_option linter.unusedVariables false
set_option linter.unusedSimpArgs false
set_option maxRecDepth 4000
namespace Go.Proofs.Ytbnneibceilcjaa.Inbox
open Go.RowKit InP
open Go.Proofs.Ytbnneibceilcjaa.Kt
theorem ojoin {G : Prop} {P F : World → Nat → Option Addr → Nat → Prop} (main : (∀ w g a c, F w g a c → P w g a c) → G) (pf : ∀ w g a c, F w g a c → P w g a c) : G := main pf
theorem MarkN.of {b : Bo} {x s l k : Int} {r : List Int} {n : Nat} {w w' : World} {e : Ending} (h : markV b x = (⟨s, l, r⟩, k)) (hn : r.length = n) (hm : MarkN b x w e w') :
    ∃ a c, e = .returned (.tuple #[.agg #[.int .i64 s, .int .i64 l, .slice a n c], .int .i64 k]) ∧ n ≤ c ∧ (∀ W : World, (∀ k, w.heap.size ≤ k → k < w'.heap.size → W.heap[k]? = w'.heap[k]?) → NsAt W a n r) ∧ Below w.heap.size w w' := by
  obtain ⟨a, n', c, rfl, hr, hall, hb⟩ := hm
  rw [h] at hall ⊢
  dsimp only at hall ⊢
  have h1 := (hall w' (fun k _ _ => rfl)).1
  rw [hn] at h1
  subst h1
  exact ⟨a, c, rfl, hr, hall, hb⟩
/-- A box in a new block K, its numbers in new memory. -/
structure EndR (w0 we : World) (K : Nat) (s l : Int) (r : List Int) (a : Option Addr) (n c : Nat) : Prop where
  bel : Below w0.heap.size w0 we
  box : At3 24 we K (.int .i64 s) (.int .i64 l) (.slice a n c)
  new : w0.heap.size ≤ K
  room : n ≤ c
  row : ∀ W : World, (∀ k, w0.heap.size ≤ k → k < we.heap.size → W.heap[k]? = we.heap[k]?) → NsAt W a n r
theorem endR_a {w0 w2 : World} {s l : Int} {r : List Int} {a : Option Addr} {n c : Nat} (hb : Below w0.heap.size w0 w2) (hr : n ≤ c) (hall : ∀ W : World, (∀ k, w0.heap.size ≤ k → k < w2.heap.size → W.heap[k]? = w2.heap[k]?) → NsAt W a n r) :
    EndR w0 (w2.alloc (.cells #[.int .i64 s, .int .i64 l, .slice a n c] 24)) w2.heap.size s l r a n c := by
  refine ⟨hb.alloc hb.size _, at3_new _ w2 _ _ _, hb.size, hr, fun W hW => hall W fun k hk1 hk2 => ?_⟩
  rw [hW k hk1 (by rw [World.size_alloc]; omega)]
  exact ((Below.refl w2.heap.size w2).alloc (Nat.le_refl _) _).block k hk2
theorem endR_b {w0 w1 w2 : World} {s l : Int} {r : List Int} {a : Option Addr} {n c : Nat} {v0 v1 v2 : Value} (hz : At3 24 w2 w0.heap.size v0 v1 v2) (h1 : w1.heap.size = w0.heap.size + 1) (hb : Below w0.heap.size w0 w2) (hr : n ≤ c)
    (hall : ∀ W : World, (∀ k, w1.heap.size ≤ k → k < w2.heap.size → W.heap[k]? = w2.heap[k]?) → NsAt W a n r) :
    EndR w0 (put3 w2 w0.heap.size (.int .i64 s) (.int .i64 l) (.slice a n c)) w0.heap.size s l r a n c := by
  refine ⟨below_put3 hb (Nat.le_refl _) _ _ _, heap_put3 hz _ _ _, Nat.le_refl _, hr, fun W hW => hall W fun k hk1 hk2 => ?_⟩
  rw [hW k (by omega) (by rw [size_put3]; exact hk2)]
  exact put3_other _ _ _ (by omega)
/-- Behind a store into an elder block and an append onto an elder row the new numbers stand. -/
theorem row_after {w0 we wf w5 : World} {B : Nat} {v0 v1 v2 v : Value} {ob : Obj} (hwf : wf = put3 we B v0 v1 v2) (hB : B < w0.heap.size) (hg : (wf.alloc ob).grownBy w5 v.ownBlock) (hv : ∀ g, v.ownBlock = some g → g < w0.heap.size) :
    ∀ k, w0.heap.size ≤ k → k < we.heap.size → w5.heap[k]? = we.heap[k]? := by
  intro k hk1 hk2
  subst hwf
  have h0 : k < (put3 we B v0 v1 v2).heap.size := by rw [size_put3]; exact hk2
  have h1 := hg.block k (by rw [World.size_alloc]; omega) (fun e => by have := hv k e.symm; omega)
  rw [h1, ((Below.refl (put3 we B v0 v1 v2).heap.size (put3 we B v0 v1 v2)).alloc (Nat.le_refl _) ob).block k h0]
  exact put3_other _ _ _ (by omega)
theorem mark_zero {lo x : Int} {xs : List Int} (hf : FitX ⟨1, lo, xs⟩) (h1 : hadB ⟨1, lo, xs⟩ x = true) : (markV ⟨1, lo, xs⟩ x).2 ≠ 0 := by
  unfold markV
  rw [if_pos (fitB_iff.2 hf)]
  split
  · first | (rw [if_pos h1]; decide) | (simp [h1]) | decide
  · decide
theorem next_sv (lo x : Int) (xs : List Int) : (nextB ⟨1, lo, xs⟩ x).sv = 1 := rfl
set_option maxHeartbeats 16000000 in
theorem once_any (al : Option Addr) (len cap : Nat) (ls : List Int) (w : World) (h : NsAt w al len ls) :
    Calls Try.prog 4 #[.slice al len cap] w fun e w' => e = .returned (.bool true) ∧ Below w.heap.size w w' := by
  have hl := h.2.1
  by_cases h60 : 60 < len
  · have e0 : (60 : Int) < (len : Int) := by omega
    clear h
    go_enter Try.func4, Try.ntmps4
    go_wp2_with fail
    refine (awake_any w).mono ?_
    rintro e w1 ⟨rfl, hb⟩
    have B1 := Lib.hid hb
    clear hb
    go_wp2_with fail
    go_ret
    exact ⟨rfl, B1.out⟩
  have e0 : ¬ (60 : Int) < (len : Int) := by omega
  have HX := Lib.hid h
  clear h
  go_enter Try.func4, Try.ntmps4
  go_wp2_with fail
  refine (new_any 1 w).mono ?_
  rintro e w1 ⟨rfl, hb1⟩
  unfold bxV
  have HB1 := Lib.hid (hb1.alloc hb1.size (.cells #[.int .i64 1, .int .i64 0, .slice none 0 0] 24))
  have HX1 := Lib.hid (at3_new 24 w1 (.int .i64 1) (.int .i64 0) (.slice none 0 0))
  have hk1 := hb1.size
  clear hb1
  go_wp2_with fail
  go_loopw [4, 5] (fun s4 i wr => ∃ (j : Nat) (lo : Int) (a : Option Addr) (n c : Nat) (xs ts : List Int) (a4 : Option Addr) (c4 : Nat), j ≤ len ∧ i = .int .i64 (j : Int) ∧ s4 = .slice a4 ts.length c4 ∧ Hid (FitX ⟨1, lo, xs⟩) ∧ Hid (∀ t ∈ ts, Had ⟨1, lo, xs⟩ t) ∧ Hid (wr.ownsRow (w1.heap.size + 1) 3 1 (.slice a4 ts.length c4) ts.length (Rw.cells intS ts)) ∧ ts.length ≤ j ∧ Hid (At3 24 wr w1.heap.size (.int .i64 1) (.int .i64 lo) (.slice a n c)) ∧ Hid (AbAt wr a n c xs) ∧ Hid (Below w.heap.size w wr)) (fun _ i _ => len - (intOf i).toNat)
  case atStart => exact ⟨0, 0, none, 0, 0, [], [], none, 0, Nat.zero_le _, rfl, rfl, fitB_iff.1 rfl, ((fun t ht => (by cases ht)) : ∀ t ∈ ([] : List Int), Had ⟨1, 0, []⟩ t), World.ownsRow_nil _ _ _ _, Nat.le_refl _, HX1, AbAt.nil _, HB1⟩
  case round =>
    obtain ⟨j, lo, a, n, c, xs, ts, a4, c4, hj, rfl, rfl, HFX, HTS, hO, htj, hBX, hA, hB⟩ := hrel
    by_cases hlt : j < len
    · 
      obtain ⟨bx, ox, rfl, gx, hcx⟩ := NsAt.at HX.out hlt
      obtain ⟨x, hx⟩ : ∃ x, ls.getD j 0 = x := ⟨_, rfl⟩
      rw [hx] at hcx
      have HCX := Lib.hid hcx
      have dx := hcx wr hB.out
      obtain ⟨b0, b1, b2⟩ := cells3 hBX.out
      obtain ⟨v, hv⟩ : ∃ v, hadB ⟨1, lo, xs⟩ x = v := ⟨_, rfl⟩
      obtain ⟨ms, ml, mr, mk, hM⟩ : ∃ ms ml mr mk, markV ⟨1, lo, xs⟩ x = (⟨ms, ml, mr⟩, mk) := ⟨_, _, _, _, rfl⟩
      obtain ⟨k3, hk3⟩ : ∃ k3, mr.length = k3 := ⟨_, rfl⟩
      have HM := Lib.hid hM
      have HV := Lib.hid hv
      have HK3 := Lib.hid hk3
      have hjl : (j : Int) < (len : Int) := by omega
      have hjz : (0 : Int) ≤ (j : Int) := by omega
      have V1 := (fun d os => Calls.regrown_of (had_any 1 lo a n c xs x v hv (Sort.grow (redrawn wr d) os) (Rw.At.keep hA.out.at_ (below_regrown wr d os))))
      unfold bxV at V1
      have W1 := Lib.hid V1
      have g0 := fun d os => cell_regrown b0 d os
      have g1 := fun d os => cell_regrown b1 d os
      have g2 := fun d os => cell_regrown b2 d os
      have gx := fun d os => cell_regrown dx d os
      clear V1 b0 b1 b2 dx hx hcx hM hv hk3
      go_wp2_with fail
      refine wp_region_qw (by kernel_rfl) (by kernel_rfl) ?_
      iterate 7 (refine qw_take (by kernel_rfl) (fun K hK => ?_); go_simp; first | (refine hK _ ?_; clear hK K) | (apply Exists.intro; refine ⟨fun _ => ?_, hK _ ?_⟩; (first | with_reducible exact W1.out _ _); clear hK K))
      refine qw_nil ?_
      intro _ hw'
      obtain ⟨⟨dq, osq⟩, hw''⟩ := hw'
      subst hw''
      have hbl := below_regrown wr dq osq
      have BL := Lib.hid (below_keep hB.out hbl hB.out.size)
      have XL := Lib.hid (hBX.out.keep hbl)
      have AL := Lib.hid (hA.out.keep hbl)
      have OL := Lib.hid (Rw.owns_below hO.out hbl)
      clear W1 g0 g1 g2 gx hbl hA hO hB hBX
      generalize Sort.grow (redrawn wr dq) osq = wl at *
      have CM : Hid (∀ W, Below wl.heap.size wl W → Calls Try.prog 7 #[.agg #[.int .i64 1, .int .i64 lo, .slice a n c], .int .i64 x] W (MarkN ⟨1, lo, xs⟩ x W)) := fun W hb => markn_any 1 lo a n c xs x W (AL.out.keep hb)
      have K : Hid (∀ w', Below wl.heap.size wl w' → (w'.cell? ⟨w1.heap.size, 0, none⟩ = some (.int .i64 1) ∧ w'.cell? ⟨w1.heap.size, 1, none⟩ = some (.int .i64 lo) ∧ w'.cell? ⟨w1.heap.size, 2, none⟩ = some (.slice a n c)) ∧ w'.cell? ⟨bx, ox + j, none⟩ = some (.int .i64 x)) := fun w' hb => ⟨cells3 (XL.out.keep hb), HCX.out w' (below_keep BL.out hb BL.out.size)⟩
      go_wp2_with fail
      apply ojoin (F := fun we K a3 c3 => EndR wl we K ms ml mr a3 k3 c3)
      · intro hG
        have b0 : Below wl.heap.size wl wl.drew := (Below.refl _ wl).drew
        have k0 := K.out _ b0
        have b00 : Below wl.heap.size wl (wl.alloc (.cells #[.int .i64 0, .int .i64 0, .slice none 0 0] 24)).drew := ((Below.refl _ wl).alloc (Nat.le_refl _) _).drew
        have k00 := K.out _ b00
        have k01 := K.out _ ((Below.refl _ wl).alloc (Nat.le_refl _) (.cells #[.int .i64 0, .int .i64 0, .slice none 0 0] 24))
        go_region_held3 (fun w' => (w'.cell? ⟨w1.heap.size, 0, none⟩ = some (.int .i64 1) ∧ w'.cell? ⟨w1.heap.size, 1, none⟩ = some (.int .i64 lo) ∧ w'.cell? ⟨w1.heap.size, 2, none⟩ = some (.slice a n c)) ∧ w'.cell? ⟨bx, ox + j, none⟩ = some (.int .i64 x))
          (first | with_reducible exact k0 | with_reducible exact k00 | with_reducible exact k01 | with_reducible exact k4 | with_reducible exact k5 | with_reducible exact k6)
          (first
            | ((with_reducible refine (CM.out (wl.alloc (.cells #[.int .i64 0, .int .i64 0, .slice none 0 0] 24)).drew b00).mono ?_); rintro e w2 hm; obtain ⟨a3, c3, rfl, hr3, hall, hb2⟩ := MarkN.of HM.out HK3.out hm; have b4 := below_keep b00 hb2 b00.size; have k4 := K.out _ b4; have hz4 := At3.keep (At3.drew (at3_new 24 wl (.int .i64 0) (.int .i64 0) (.slice none 0 0))) hb2; obtain ⟨z0, z1, z2⟩ := cells3 hz4; obtain ⟨f0, f1, f2⟩ := free3 hz4; have k5 := K.out _ (below_put3 b4 (Nat.le_refl _) (.int .i64 ms) (.int .i64 ml) (.slice a3 k3 c3)))
            | ((with_reducible refine (CM.out wl.drew b0).mono ?_); rintro e w2 hm; obtain ⟨a3, c3, rfl, hr3, hall, hb2⟩ := MarkN.of HM.out HK3.out hm; have b4 := below_keep b0 hb2 b0.size; have k4 := K.out _ b4; have k5 := K.out _ (b4.alloc b4.size (.cells #[.int .i64 0, .int .i64 0, .slice none 0 0] 24)); have k6 := K.out _ (b4.alloc b4.size (.cells #[.int .i64 ms, .int .i64 ml, .slice a3 k3 c3] 24))))
        all_goals first
          | (have hq := hz4
             have hF := endR_b (r := mr) (s := ms) (l := ml) (w1 := (wl.alloc (.cells #[.int .i64 0, .int .i64 0, .slice none 0 0] 24)).drew) hz4 (World.size_alloc _ _) b4 hr3 hall
             clear hq hz4 b4 hall hb2 hm k0 k00 k01 k4 k5 b0 b00 z0 z1 z2 f0 f1 f2
             unfold put3 at hF
             generalize hwz : ((w2.setCell ⟨wl.heap.size, 0, none⟩ (.int .i64 ms)).setCell ⟨wl.heap.size, 1, none⟩ (.int .i64 ml)).setCell ⟨wl.heap.size, 2, none⟩ (.slice a3 k3 c3) = wz at hF ⊢
             obtain ⟨bz, hbz⟩ : ∃ bz, wl.heap.size = bz := ⟨_, rfl⟩
             have hF2 : EndR wl wz bz ms ml mr a3 k3 c3 := hbz ▸ hF
             rw [hbz]
             exact hG wz bz a3 c3 hF2)
          | (have hF := endR_a (r := mr) (s := ms) (l := ml) b4 hr3 hall
             clear b4 hall hb2 hm k0 k00 k01 k4 k5 k6 b0 b00
             generalize hwz : w2.alloc (.cells #[.int .i64 ms, .int .i64 ml, .slice a3 k3 c3] 24) = wz at hF ⊢
             generalize hbz : w2.heap.size = bz at hF ⊢
             exact hG wz bz a3 c3 hF)
      · intro we K3 a3 c3 hF
        have HF := Lib.hid hF
        clear hF CM K
        have be := below_keep BL.out HF.out.bel BL.out.size
        have BE := Lib.hid be
        have XE := Lib.hid (XL.out.keep HF.out.bel)
        have AE := Lib.hid (AL.out.keep HF.out.bel)
        have OE := Lib.hid (Rw.owns_below OL.out HF.out.bel)
        have dx := HCX.out we be
        clear be
        obtain ⟨p0, p1, p2⟩ := cells3 HF.out.box
        have HMK : Hid (mk = (markV ⟨1, lo, xs⟩ x).2) := by show _ = _; rw [HM.out]
        cases v with
        | true =>
          have hmk : mk ≠ 0 := by rw [HMK.out]; exact mark_zero HFX.out HV.out
          have g0 : (mk == 0) = false := beq_eq_false_iff_ne.2 hmk
          have g1 : (mk != 0) = true := bne_iff_ne.2 hmk
          clear hmk HMK HM HV HF
          go_wp2_with fail
          clear p0 p1 p2 dx
          go_roundw
          case rel => exact ⟨j + 1, lo, a, n, c, xs, ts, a4, c4, by omega, by go_num, rfl, HFX, HTS, OE, by omega, XE, AE, BE⟩
          case measure => simp [intOf]; omega
        | false =>
          by_cases h1 : x < 1
          · have hmk : mk = 1 := HMK.out.trans (by rw [mark_arg (fitB_iff.2 HFX.out) (by omega)])
            subst hmk
            have h1' : ¬ (1 ≤ x) := by omega
            clear HMK HM HV HF
            go_wp2_with fail
            clear p0 p1 p2 dx
            go_roundw
            case rel => exact ⟨j + 1, lo, a, n, c, xs, ts, a4, c4, by omega, by go_num, rfl, HFX, HTS, OE, by omega, XE, AE, BE⟩
            case measure => simp [intOf]; omega
          · have h1' : 1 ≤ x := by omega
            by_cases h2 : 1099511627776 < x
            · have hmk : mk = 1 := HMK.out.trans (by rw [mark_arg (fitB_iff.2 HFX.out) (by omega)])
              subst hmk
              have h2' : ¬ (x ≤ 1099511627776) := by omega
              clear HMK HM HV HF
              go_wp2_with fail
              clear p0 p1 p2 dx
              go_roundw
              case rel => exact ⟨j + 1, lo, a, n, c, xs, ts, a4, c4, by omega, by go_num, rfl, HFX, HTS, OE, by omega, XE, AE, BE⟩
              case measure => simp [intOf]; omega
            · have h2' : x ≤ 1099511627776 := by omega
              obtain ⟨hsv, hml, hmr⟩ : ms = 1 ∧ ml = (nextB ⟨1, lo, xs⟩ x).low ∧ mr = (nextB ⟨1, lo, xs⟩ x).ab := by
                have h := HM.out
                rw [mark_new (fitB_iff.2 HFX.out) ⟨by omega, by omega⟩ HV.out] at h
                have h2 := congrArg Prod.fst h
                have h3 : nextB ⟨1, lo, xs⟩ x = ⟨ms, ml, mr⟩ := h2
                rw [h3]
                exact ⟨(congrArg Bo.sv h3).symm.trans rfl, rfl, rfl⟩
              have hbo : (⟨ms, ml, mr⟩ : Bo) = nextB ⟨1, lo, xs⟩ x := by
                rw [hml, hmr, hsv]; rfl
              have hnot : ¬ Had ⟨1, lo, xs⟩ x := fun h => by have := hadB_iff.2 h; rw [HV.out] at this; cases this
              obtain ⟨q1, q2, q3⟩ := next_spec HFX.out (by omega : 1 ≤ x) (by omega : x ≤ 1099511627776) hnot
              rw [← hbo] at q1 q2 q3
              have HFX2 := Lib.hid q1
              have HTS2 : Hid (∀ t ∈ ts ++ [x], Had ⟨ms, ml, mr⟩ t) := fun t ht => by
                rcases List.mem_append.1 ht with h | h
                · exact q3 t (HTS.out t h)
                · rw [List.mem_singleton.1 h]; exact q2
              have HNE : Hid (∀ t ∈ ts, t ≠ x) := fun t ht e => hnot (e ▸ HTS.out t ht)
              have hmk : mk = 0 := HMK.out.trans (by rw [mark_new (fitB_iff.2 HFX.out) ⟨by omega, by omega⟩ HV.out])
              subst hmk
              clear hml hmr hbo hnot q1 q2 q3 HM HMK HFX HTS
              subst hsv
              obtain ⟨e0, e1, e2⟩ := cells3 XE.out
              obtain ⟨f0, f1, f2⟩ := free3 XE.out
              have hB1 : w1.heap.size < wl.heap.size := heap_lt XL.out
              obtain ⟨wf, hwf⟩ : ∃ wf, put3 we w1.heap.size (.int .i64 1) (.int .i64 ml) (.slice a3 k3 c3) = wf := ⟨_, rfl⟩
              have XF : Hid (At3 24 wf w1.heap.size (.int .i64 1) (.int .i64 ml) (.slice a3 k3 c3)) := by show At3 _ _ _ _ _ _; rw [← hwf]; exact heap_put3 XE.out _ _ _
              have BF : Hid (Below w.heap.size w wf) := by show Below _ _ _; rw [← hwf]; exact below_put3 BE.out hk1 _ _ _
              have OF : Hid (wf.ownsRow (w1.heap.size + 1) 3 1 (.slice a4 ts.length c4) ts.length (Rw.cells intS ts)) := by
                show wf.ownsRow _ _ _ _ _ _
                rw [← hwf]
                exact Rw.owns_heap OE.out fun g hg => by have := (OE.out.lt g hg).1; exact put3_other _ _ _ (by omega)
              have hzf : w1.heap.size + 1 ≤ wf.heap.size := by have := heap_lt XF.out; omega
              have dxf := HCX.out wf BF.out
              have HWF := Lib.hid hwf
              have hm60 : ts.length ≤ 60 := by omega
              go_wp2_with (at_builtin; (first | rw [show (put3 we w1.heap.size (.int .i64 1) (.int .i64 ml) (.slice a3 k3 c3)) = wf from HWF.out] | skip); refine Rw.append_one intS rfl (.tmp 58) (.tmp 63) rfl (w1.heap.size + 1) wf _ rfl x _ rfl (.slice a4 ts.length c4) ts.length ts rfl OF.out rfl (by omega) hzf ?_)
              intro v5 w5 hO5 hg5
              have hagree := row_after (B := w1.heap.size) hwf.symm hB1 hg5 (fun g hg => (OL.out.lt g hg).2)
              have b5 : Below (w1.heap.size + 1) wf w5 := Rw.below_append (Below.refl _ wf) hzf OF.out hg5
              have B5 := Lib.hid (BF.out.trans (b5.mono (by omega : w.heap.size ≤ w1.heap.size + 1)))
              have X5 := Lib.hid (XF.out.keepB b5 (Nat.lt_succ_self _))
              have R5 := Lib.hid (HF.out.row w5 hagree)
              have HROOM := Lib.hid HF.out.room
              obtain ⟨a5, c5, rfl, hc5⟩ := Rw.owns_slice hO5
              obtain ⟨n5, hn5⟩ : ∃ n5, ts.length + 1 = n5 := ⟨_, rfl⟩
              rw [hn5] at hO5 hc5 ⊢
              have hL5 : (ts ++ [x]).length = n5 := by rw [List.length_append]; exact hn5
              have O5 := Lib.hid hO5
              have T5 := Lib.hid (Rw.own_at (S := intS) hO5 hL5 (by omega))
              have HL5 := Lib.hid hL5
              have HN5 := Lib.hid hn5
              have hn61 : n5 ≤ 61 := by omega
              have CF := Lib.hid (fit_any 1 ml a3 k3 c3 mr true (fitB_iff.2 HFX2.out) w5 R5.out)
              clear hagree b5 hg5 hO5 hL5 hwf HWF XF BF OF hzf dxf dx p0 p1 p2 e0 e1 e2 f0 f1 f2 OE AE XE BE OL AL XL BL HF HV hn5
              obtain ⟨p0, p1, p2⟩ := cells3 X5.out
              go_wp2_with fail
              refine CF.out.mono ?_
              rintro e w6 ⟨rfl, hb⟩
              have B6 := Lib.hid (below_keep B5.out hb B5.out.size)
              have X6 := Lib.hid (X5.out.keep hb)
              have R6 := Lib.hid (Rw.At.keep R5.out hb)
              have O6 := Lib.hid (Rw.owns_below O5.out hb)
              have T6 := Lib.hid (Rw.At.keep T5.out hb)
              clear hb B5 X5 R5 O5 T5 CF p0 p1 p2
              go_wp2_with fail
              go_loopw [9] (fun i wm => ∃ k : Nat, k ≤ n5 ∧ i = .int .i64 (k : Int) ∧ Hid (Below w6.heap.size w6 wm)) (fun i _ => n5 - (intOf i).toNat)
              case atStart => exact ⟨0, Nat.zero_le _, rfl, Below.refl _ _⟩
              case round =>
                obtain ⟨k, hk, rfl, hBm⟩ := hrel
                by_cases hkn : k < n5
                · obtain ⟨b7, o7, rfl, g7, hc7⟩ := NsAt.at T6.out hkn
                  obtain ⟨y, hy⟩ : ∃ y, (ts ++ [x]).getD k 0 = y := ⟨_, rfl⟩
                  have d7 := hc7 wr hBm.out
                  rw [hy] at d7
                  have hmem : y ∈ ts ++ [x] := by rw [← hy]; exact getD_mem (by rw [HL5.out]; exact hkn)
                  have hhad : hadB ⟨1, ml, mr⟩ y = true := hadB_iff.2 (HTS2.out y hmem)
                  have dxm := HCX.out wr (below_keep B6.out hBm.out B6.out.size)
                  obtain ⟨p0, p1, p2⟩ := cells3 (X6.out.keep hBm.out)
                  have CH := (fun d os => Calls.regrown_of (had_any 1 ml a3 k3 c3 mr y true hhad (Sort.grow (redrawn wr d) os) (Rw.At.keep R6.out (below_keep hBm.out (below_regrown wr d os) hBm.out.size))))
                  unfold bxV at CH
                  have CH := Lib.hid CH
                  have hwk : IntKind.i64.wrap ((n5 : Int) - 1) = (ts.length : Int) := by rw [IntKind.wrap_i64]; have := HN5.out; omega
                  have hkl : (k : Int) < (n5 : Int) := by omega
                  have hkz : (0 : Int) ≤ (k : Int) := by omega
                  have q0 := fun d os => cell_regrown p0 d os
                  have q1 := fun d os => cell_regrown p1 d os
                  have q2 := fun d os => cell_regrown p2 d os
                  have q3 := fun d os => cell_regrown d7 d os
                  have q4 := fun d os => cell_regrown dxm d os
                  clear p0 p1 p2 d7 dxm hc7 hmem hhad
                  by_cases hkm : k < ts.length
                  · have hyt : ts.getD k 0 = y := by rw [← hy]; simp [List.getD, List.getElem?_append_left hkm]
                    have hyx : (y == x) = false := beq_eq_false_iff_ne.2 (HNE.out y (by rw [← hyt]; exact getD_mem hkm))
                    have hld : decide ((k : Int) < (ts.length : Int)) = true := by simp; omega
                    have hld2 : (k : Int) < (ts.length : Int) := by omega
                    clear hyt hy
                    go_wp2_with fail
                    refine wp_region_qw (by kernel_rfl) (by kernel_rfl) ?_
                    iterate 25 (refine qw_take (by kernel_rfl) (fun K hK => ?_); go_simp; first | (refine hK _ ?_; clear hK K) | (apply Exists.intro; refine ⟨fun _ => ?_, hK _ ?_⟩; (first | with_reducible exact CH.out _ _); clear hK K))
                    refine qw_nil ?_
                    intro _ hw'
                    obtain ⟨⟨dq, osq⟩, hw''⟩ := hw'
                    subst hw''
                    have HBL := Lib.hid (below_keep hBm.out (below_regrown wr dq osq) hBm.out.size)
                    clear q0 q1 q2 q3 q4 CH
                    generalize Sort.grow (redrawn wr dq) osq = wq at *
                    go_wp2_with fail
                    go_roundw
                    case rel => exact ⟨k + 1, by omega, by go_num, HBL⟩
                    case measure => simp [intOf]; omega
                  · have hld : decide ((k : Int) < (ts.length : Int)) = false := by simp; omega
                    have hld2 : ¬ ((k : Int) < (ts.length : Int)) := by omega
                    clear hy
                    go_wp2_with fail
                    refine wp_region_qw (by kernel_rfl) (by kernel_rfl) ?_
                    iterate 14 (refine qw_take (by kernel_rfl) (fun K hK => ?_); go_simp; first | (refine hK _ ?_; clear hK K) | (apply Exists.intro; refine ⟨fun _ => ?_, hK _ ?_⟩; (first | with_reducible exact CH.out _ _); clear hK K))
                    iterate 9 (refine qw_skip (by kernel_rfl) ?_; simp only [Act.put, List.setIfInBounds_toArray, List.set_cons_succ, List.set_cons_zero])
                    iterate 2 (refine qw_take (by kernel_rfl) (fun K hK => ?_); go_simp; first | (refine hK _ ?_; clear hK K) | (apply Exists.intro; refine ⟨fun _ => ?_, hK _ ?_⟩; (first | with_reducible exact CH.out _ _); clear hK K))
                    refine qw_nil ?_
                    intro _ hw'
                    obtain ⟨⟨dq, osq⟩, hw''⟩ := hw'
                    subst hw''
                    have HBL := Lib.hid (below_keep hBm.out (below_regrown wr dq osq) hBm.out.size)
                    clear q0 q1 q2 q3 q4 CH
                    generalize Sort.grow (redrawn wr dq) osq = wq at *
                    go_wp2_with fail
                    go_roundw
                    case rel => exact ⟨k + 1, by omega, by go_num, HBL⟩
                    case measure => simp [intOf]; omega
                · have OM := Lib.hid (Rw.owns_below O6.out hBm.out)
                  have XM := Lib.hid (X6.out.keep hBm.out)
                  have RM : Hid (AbAt wr a3 k3 c3 mr) := ⟨Rw.At.keep R6.out hBm.out, HROOM.out⟩
                  have BM := Lib.hid (below_keep B6.out hBm.out B6.out.size)
                  go_wp2_with fail
                  go_roundw
                  case rel => exact ⟨j + 1, ml, a3, k3, c3, mr, ts ++ [x], a5, c5, by omega, by go_num, by rw [HL5.out], HFX2, HTS2, by rw [HL5.out]; exact OM, by rw [HL5.out]; have := HN5.out; omega, XM, RM, BM⟩
                  case measure => simp [intOf]; omega
    · obtain rfl : j = len := by omega
      go_wp2_with fail
      refine (awake_any wr).mono ?_
      rintro e w2 ⟨rfl, hb⟩
      have B2 := Lib.hid (below_keep hB.out hb hB.out.size)
      clear hb
      go_wp2_with fail
      go_ret
      exact ⟨rfl, B2.out⟩
end Go.Proofs.Ytbnneibceilcjaa.Inbox
namespace Go.Proofs.Ytbnneibceilcjaa
open Go.RowKit
theorem Contract.inboxOnce (a : Option Addr) (len cap : Nat) (zs : List Int) (W : World) (h : IsRow .i64 W a len cap zs) :
    Calls Try.prog 4 #[.slice a len cap] W fun e W' => e = .returned (.bool true) ∧ Below W.heap.size W W' :=
  Go.Proofs.Ytbnneibceilcjaa.Inbox.once_any a len cap _ W (Go.Proofs.Ytbnneibceilcjaa.Inbox.isRow_ns h).1
end Go.Proofs.Ytbnneibceilcjaa
