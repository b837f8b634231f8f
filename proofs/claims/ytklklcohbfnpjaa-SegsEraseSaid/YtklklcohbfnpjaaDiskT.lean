/-
  The contracts of do and of the document's Do: any act.
-/
import Derived.Test.YtklklcohbfnpjaaDiskS
set_option linter.unusedVariables false
set_option maxRecDepth 4000
namespace Go.Proofs.Ytklklcohbfnpjaa
open Go.RowKit DiskP

/-- An act. -/
structure AVal where
  kind : Int
  at_ : Int
  fil : Int
  size : Int
  ka : Option Addr
  kl : Nat
  kc : Nat
  kb : List Bool
structure AVal.Fit (x : AVal) : Prop where
  lo : -9223372036854775808 ≤ x.at_
  hi : x.at_ ≤ 9223372036854775807
  kl : x.kl ≤ 1000000000
/-- What an act does. -/
def step (st : St) (x : AVal) : (ByteArray × Int) × St :=
  if x.kind = 1 then ((⟨#[]⟩, (wr st x.at_ (dat x.fil x.size)).1), (wr st x.at_ (dat x.fil x.size)).2)
  else if x.kind = 2 then ((⟨#[]⟩, (fl st).1), (fl st).2)
  else if x.kind = 3 then ((⟨#[]⟩, 0), fu st x.at_)
  else if x.kind = 4 then ((⟨#[]⟩, 0), cr st x.kb x.at_)
  else (rd st x.at_, st)
theorem step_ok {n : Nat} {st : St} (h : Ok n st) {x : AVal} (hx : x.Fit) : Ok (n + 1) (step st x).2 := by
  unfold step
  split
  · exact wr_ok h _ _
  split
  · exact fl_ok h
  split
  · exact (fu_ok h hx.hi).mono (by omega)
  split
  · exact (cr_ok h _ _).mono (by omega)
  · exact h.mono (by omega)
theorem step_1 {st : St} {at_ fil size : Int} {ka : Option Addr} {kl kc : Nat} {kb : List Bool} : step st ⟨1, at_, fil, size, ka, kl, kc, kb⟩ = ((⟨#[]⟩, (wr st at_ (dat fil size)).1), (wr st at_ (dat fil size)).2) := rfl
theorem step_2 {st : St} {at_ fil size : Int} {ka : Option Addr} {kl kc : Nat} {kb : List Bool} : step st ⟨2, at_, fil, size, ka, kl, kc, kb⟩ = ((⟨#[]⟩, (fl st).1), (fl st).2) := rfl
theorem step_3 {st : St} {at_ fil size : Int} {ka : Option Addr} {kl kc : Nat} {kb : List Bool} : step st ⟨3, at_, fil, size, ka, kl, kc, kb⟩ = ((⟨#[]⟩, 0), fu st at_) := rfl
theorem step_4 {st : St} {at_ fil size : Int} {ka : Option Addr} {kl kc : Nat} {kb : List Bool} : step st ⟨4, at_, fil, size, ka, kl, kc, kb⟩ = ((⟨#[]⟩, 0), cr st kb at_) := rfl
theorem step_5 {st : St} {k at_ fil size : Int} {ka : Option Addr} {kl kc : Nat} {kb : List Bool} (h1 : ¬ k = 1) (h2 : ¬ k = 2) (h3 : ¬ k = 3) (h4 : ¬ k = 4) : step st ⟨k, at_, fil, size, ka, kl, kc, kb⟩ = (rd st at_, st) := by
  unfold step; rw [if_neg h1, if_neg h2, if_neg h3, if_neg h4]
theorem dk_below {w w' : World} {L : List Nat} {b : Nat} {st : St} (h : Dk w L b st) (hb : Below w.heap.size w w') : Dk w' L b st := h.keep fun k hk => hb.block k (h.lt k hk)
theorem rk_below {w w' : World} {L : List Nat} {b : Nat} {st : St} (h : Rk w L b st) (hb : Below w.heap.size w w') : Rk w' L b st := h.keep fun k hk => hb.block k (h.lt k hk)
theorem did_pre {w w0 w2 : World} {L L' : List Nat} {b : Nat} {st' : St} {v : Value} (hb : Below w.heap.size w w0) (hD : Dk w2 L' b st') (hU : Upd L w0 w2 L') : Did w L b st' v (.returned v) w2 := ⟨rfl, L', hD, (Upd.of_below hb).trans hU⟩
theorem rid_pre {w w0 w2 : World} {L L' : List Nat} {b : Nat} {st' : St} {v : Value} (hb : Below w.heap.size w w0) (hD : Rk w2 L' b st') (hU : Upd L w0 w2 L') : Rid w L b st' v (.returned v) w2 := ⟨rfl, L', hD, (Upd.of_below hb).trans hU⟩
set_option maxRecDepth 100000 in
set_option maxHeartbeats 2000000 in
theorem do_rk (b n : Nat) (st : St) (L : List Nat) (x : AVal) (w : World) (h : Rk w L b st) (hok : Ok n st) (hn : n ≤ 1000000000) (hx : x.Fit) (hk : BoolsAt w x.ka x.kl x.kb) (hkf : 0 < x.kl → ∀ y, x.ka = some y → y.block ∉ L) :
    Calls Try.prog 22 #[.pointer (some ⟨b, 0, none⟩), .agg (actV x.kind x.at_ x.fil x.size (.slice x.ka x.kl x.kc))] w (Rid w L b (step st x).2 (.tuple #[.string (step st x).1.1, .int .i64 (step st x).1.2])) := by
  obtain ⟨kind, at_, fil, size, ka, kl, kc, kb⟩ := x
  obtain ⟨p0, p1, p2⟩ := hx
  simp only at hk p0 p1 p2 ⊢
  simp only at hkf
  have hb0 : Below w.heap.size w (w.alloc (.cells (actV kind at_ fil size (.slice ka kl kc)) 42)) := (Below.refl _ w).alloc (Nat.le_refl _) _
  have HB0 := Lib.hid hb0
  have HD0 := Lib.hid (rk_below h hb0)
  have HK0 := Lib.hid (bools_below hk hb0)
  have HH := Lib.hid h
  have HOK := Lib.hid hok
  clear hb0 h hk hok
  by_cases h1 : kind = 1
  · subst h1
    rw [step_1]
    have hss : (dat fil size).size ≤ 9223372036854775807 := by unfold dat; rw [fill_size]; unfold span; omega
    have hda := fun w => data_any 1 at_ fil size (.slice ka kl kc) w rfl
    obtain ⟨dt, hdt⟩ : ∃ dt, dat fil size = dt := ⟨_, rfl⟩
    simp only [hdt] at hss hda ⊢
    have HDA := Lib.hid hda
    have HSS := Lib.hid hss
    clear hss hda hdt
    unfold actV at *
    go_enter Try.func22, Try.ntmps22
    go_wp2_with fail
    refine wp_region_any (by kernel_rfl) ?_
    change wpAny _ _ _ _ _ _ _ (World.drew _)
    refine wpAny_take (i := 0) (v := ?_) rfl (by kernel_rfl) (by kernel_rfl) (by kernel_rfl) (fun _ _ _ h => h) (Or.inl ⟨by rfl, ?_⟩) ?_; rotate_left; focus ((intro w'); go_simp; (try with_reducible rfl))
    refine wpAny_take (i := 1) (v := ?_) rfl (by kernel_rfl) (by kernel_rfl) (by kernel_rfl) (fun _ _ _ h => h) (Or.inl ⟨by rfl, ?_⟩) ?_; rotate_left; focus ((intro w'); go_simp; (try with_reducible rfl))
    have m0 : (w.alloc (.cells #[.int .i64 1, .int .i64 at_, .int .u8 fil, .int .i64 size, .slice ka kl kc] 42)).cell? ⟨w.heap.size, 0, none⟩ = some (.int .i64 1) := by rw [World.cell?_alloc_new]; rfl
    have m1 : (w.alloc (.cells #[.int .i64 1, .int .i64 at_, .int .u8 fil, .int .i64 size, .slice ka kl kc] 42)).cell? ⟨w.heap.size, 1, none⟩ = some (.int .i64 at_) := by rw [World.cell?_alloc_new]; rfl
    have m2 : (w.alloc (.cells #[.int .i64 1, .int .i64 at_, .int .u8 fil, .int .i64 size, .slice ka kl kc] 42)).cell? ⟨w.heap.size, 2, none⟩ = some (.int .u8 fil) := by rw [World.cell?_alloc_new]; rfl
    have m3 : (w.alloc (.cells #[.int .i64 1, .int .i64 at_, .int .u8 fil, .int .i64 size, .slice ka kl kc] 42)).cell? ⟨w.heap.size, 3, none⟩ = some (.int .i64 size) := by rw [World.cell?_alloc_new]; rfl
    have m4 : (w.alloc (.cells #[.int .i64 1, .int .i64 at_, .int .u8 fil, .int .i64 size, .slice ka kl kc] 42)).cell? ⟨w.heap.size, 4, none⟩ = some (.slice ka kl kc) := by rw [World.cell?_alloc_new]; rfl
    have hsz : w.heap.size < (w.alloc (.cells #[.int .i64 1, .int .i64 at_, .int .u8 fil, .int .i64 size, .slice ka kl kc] 42)).heap.size := by simp
    generalize w.alloc (.cells #[.int .i64 1, .int .i64 at_, .int .u8 fil, .int .i64 size, .slice ka kl kc] 42) = w0 at *
    refine wpAny_ready (rs := [2, 3]) (by kernel_rfl) (by simp) ?_
    refine AllReady.cons rfl (fun K hK => ?_) (AllReady.cons rfl (fun K hK => ?_) AllReady.nil)
    · go_simp
      refine hK _ _ ?_
      clear hK K
      refine wpAny_ready (rs := [3]) (by kernel_rfl) (by simp) ?_
      refine AllReady.cons rfl (fun K hK => ?_) AllReady.nil
      go_simp
      refine hK _ _ ?_
      clear hK K
      refine wpAny_ready (rs := [4]) (by kernel_rfl) (by simp) ?_
      refine AllReady.cons rfl (fun K hK => ?_) AllReady.nil
      go_simp
      refine (HDA.out _).mono ?_
      rintro e w1 ⟨rfl, hb1⟩
      have n1 : w1.cell? ⟨w.heap.size, 1, none⟩ = some (.int .i64 at_) := (hb1.cell (p := ⟨w.heap.size, 1, none⟩) hsz).trans m1
      have HB1 := Lib.hid (HB0.out.drew.trans (hb1.mono HB0.out.size))
      have HD1 := Lib.hid (rk_below (w := w0.drew) (HD0.out.keep fun _ _ => rfl) hb1)
      clear hb1
      refine hK _ _ ?_
      clear hK K
      refine Mix.wpAny_of_seqV [5, 6, 7] _ _ _ (by kernel_rfl) ?_
      simp only [Mix.pick, List.filterMap_cons, List.filterMap_nil, List.getElem?_cons_zero, List.getElem?_cons_succ]
      clear HDA
      go_wp2_with fail
      refine (rwrite_rk b n st L at_ dt _ HD1.out HOK.out hn HSS.out).mono ?_
      rintro e w2 ⟨rfl, L2, hD, hU⟩
      have HR := Lib.hid (rid_pre (v := .tuple #[.string ⟨#[]⟩, .int .i64 (wr st at_ dt).1]) HB1.out hD hU)
      clear hD hU
      go_wp2_with fail
      go_ret2
      exact HR.out
    · go_simp
      refine hK _ _ ?_
      clear hK K
      refine wpAny_ready (rs := [2, 4]) (by kernel_rfl) (by simp) ?_
      refine AllReady.cons rfl (fun K hK => ?_) (AllReady.cons rfl (fun K hK => ?_) AllReady.nil)
      · go_simp
        refine hK _ _ ?_
        clear hK K
        refine wpAny_ready (rs := [4]) (by kernel_rfl) (by simp) ?_
        refine AllReady.cons rfl (fun K hK => ?_) AllReady.nil
        go_simp
        refine (HDA.out _).mono ?_
        rintro e w1 ⟨rfl, hb1⟩
        have n1 : w1.cell? ⟨w.heap.size, 1, none⟩ = some (.int .i64 at_) := (hb1.cell (p := ⟨w.heap.size, 1, none⟩) hsz).trans m1
        have HB1 := Lib.hid (HB0.out.drew.trans (hb1.mono HB0.out.size))
        have HD1 := Lib.hid (rk_below (w := w0.drew) (HD0.out.keep fun _ _ => rfl) hb1)
        clear hb1
        refine hK _ _ ?_
        clear hK K
        refine Mix.wpAny_of_seqV [5, 6, 7] _ _ _ (by kernel_rfl) ?_
        simp only [Mix.pick, List.filterMap_cons, List.filterMap_nil, List.getElem?_cons_zero, List.getElem?_cons_succ]
        clear HDA
        go_wp2_with fail
        refine (rwrite_rk b n st L at_ dt _ HD1.out HOK.out hn HSS.out).mono ?_
        rintro e w2 ⟨rfl, L2, hD, hU⟩
        have HR := Lib.hid (rid_pre (v := .tuple #[.string ⟨#[]⟩, .int .i64 (wr st at_ dt).1]) HB1.out hD hU)
        clear hD hU
        go_wp2_with fail
        go_ret2
        exact HR.out
      · go_simp
        refine (HDA.out _).mono ?_
        rintro e w1 ⟨rfl, hb1⟩
        have n1 : w1.cell? ⟨w.heap.size, 1, none⟩ = some (.int .i64 at_) := (hb1.cell (p := ⟨w.heap.size, 1, none⟩) hsz).trans m1
        have HB1 := Lib.hid (HB0.out.drew.trans (hb1.mono HB0.out.size))
        have HD1 := Lib.hid (rk_below (w := w0.drew) (HD0.out.keep fun _ _ => rfl) hb1)
        clear hb1
        refine hK _ _ ?_
        clear hK K
        refine wpAny_ready (rs := [2]) (by kernel_rfl) (by simp) ?_
        refine AllReady.cons rfl (fun K hK => ?_) AllReady.nil
        go_simp
        refine hK _ _ ?_
        clear hK K
        refine Mix.wpAny_of_seqV [5, 6, 7] _ _ _ (by kernel_rfl) ?_
        simp only [Mix.pick, List.filterMap_cons, List.filterMap_nil, List.getElem?_cons_zero, List.getElem?_cons_succ]
        clear HDA
        go_wp2_with fail
        refine (rwrite_rk b n st L at_ dt _ HD1.out HOK.out hn HSS.out).mono ?_
        rintro e w2 ⟨rfl, L2, hD, hU⟩
        have HR := Lib.hid (rid_pre (v := .tuple #[.string ⟨#[]⟩, .int .i64 (wr st at_ dt).1]) HB1.out hD hU)
        clear hD hU
        go_wp2_with fail
        go_ret2
        exact HR.out
  by_cases h2 : kind = 2
  · subst h2
    rw [step_2]
    unfold actV at *
    go_enter Try.func22, Try.ntmps22
    go_wp2_with fail
    refine (rflush_rk b n st L _ HD0.out HOK.out hn).mono ?_
    rintro e w2 ⟨rfl, L2, hD, hU⟩
    have HR := Lib.hid (rid_pre (v := .tuple #[.string ⟨#[]⟩, .int .i64 (fl st).1]) HB0.out hD hU)
    clear hD hU
    go_wp2_with fail
    go_ret2
    exact HR.out
  by_cases h3 : kind = 3
  · subst h3
    rw [step_3]
    unfold actV at *
    go_enter Try.func22, Try.ntmps22
    go_wp2_with fail
    refine (rfuse_rk b st L at_ _ HD0.out p0 p1).mono ?_
    rintro e w2 ⟨rfl, L2, hD, hU⟩
    have HR := Lib.hid (rid_pre (v := .tuple #[.string ⟨#[]⟩, .int .i64 0]) HB0.out hD hU)
    clear hD hU
    go_wp2_with fail
    go_ret2
    exact HR.out
  by_cases h4 : kind = 4
  · subst h4
    rw [step_4]
    unfold actV at *
    go_enter Try.func22, Try.ntmps22
    go_wp2_with fail
    refine (rcrash_rk b n st L ka kl kc kb at_ _ HD0.out HOK.out hn HK0.out p2 hkf).mono ?_
    rintro e w2 ⟨rfl, L2, hD, hU⟩
    have HR := Lib.hid (rid_pre (v := .tuple #[.string ⟨#[]⟩, .int .i64 0]) HB0.out hD hU)
    clear hD hU
    go_wp2_with fail
    go_ret2
    exact HR.out
  · rw [step_5 h1 h2 h3 h4]
    have e1 : (kind == 1) = false := beq_eq_false_iff_ne.2 h1
    have e2 : (kind == 2) = false := beq_eq_false_iff_ne.2 h2
    have e3 : (kind == 3) = false := beq_eq_false_iff_ne.2 h3
    have e4 : (kind == 4) = false := beq_eq_false_iff_ne.2 h4
    clear h1 h2 h3 h4
    unfold actV at *
    go_enter Try.func22, Try.ntmps22
    go_wp2_with fail
    refine (rread_rk b n st L at_ _ HD0.out HOK.out hn).mono ?_
    rintro e w2 ⟨rfl, rfl⟩
    have HR := Lib.hid (show Rid w L b st (.tuple #[.string (rd st at_).1, .int .i64 (rd st at_).2]) (.returned (.tuple #[.string (rd st at_).1, .int .i64 (rd st at_).2])) _ from ⟨rfl, L, HD0.out, Upd.of_below HB0.out⟩)
    go_wp2_with fail
    go_ret2
    exact HR.out
end Go.Proofs.Ytklklcohbfnpjaa
