/-
  The contracts of the program's Put and Drop: any letters, any letter; what was there stays as it was.
-/
import Derived.Test.YtekndioohjlmcaaDoorLetterE
import Derived.Test.YtekndioohjlmcaaDoorMix
set_option linter.unusedVariables false
set_option linter.unusedSimpArgs false
set_option maxRecDepth 4000
namespace Go.Proofs.YtekndioohjlmcaaDoor.Letter
open Go.RowKit LeP
open Go.Proofs.YtekndioohjlmcaaDoor.Kt

/-- Letters that come back, with why there are none. -/
def PutR (w : World) (l : List Lt) (er : Int) (e : Ending) (w' : World) : Prop := ∃ a n c, e = .returned (.tuple #[.slice a n c, .int .i64 er]) ∧ n ≤ c ∧ LtAt w' a n l ∧ Below w.heap.size w w'
theorem putR_none {w w' : World} {l : List Lt} {er er2 : Int} (h : l = []) (h2 : er2 = er) (hb : Below w.heap.size w w') : PutR w l er2 (.returned (.tuple #[.slice none 0 0, .int .i64 er])) w' := by
  subst h; subst h2
  exact ⟨none, 0, 0, rfl, Nat.le_refl _, Rw.At.nil _ _ _, hb⟩
theorem putR_none' {w w' : World} {r : List Lt × Int} {er : Int} (h : r = ([], er)) (hb : Below w.heap.size w w') : PutR w r.1 r.2 (.returned (.tuple #[.slice none 0 0, .int .i64 er])) w' := by
  subst h; exact putR_none rfl rfl hb
theorem putR_row {w w0 w' : World} {r : List Lt × Int} {l : List Lt} {v : Value} (h : r = (l, 0)) (hb0 : Below w.heap.size w w0) (hl : l.length ≤ 1000000) (hv : RowP w0 l (.returned v) w') : PutR w r.1 r.2 (.returned (.tuple #[v, .int .i64 0])) w' := by
  subst h
  obtain ⟨a, c, e, hc, hA, hb⟩ := RowP.at hv rfl hl
  cases e
  exact ⟨a, _, c, rfl, hc, hA, below_keep hb0 hb hb0.size⟩
theorem put_bad {l : List Lt} {t : Lt} (h : fitB l = false) : putL l t = ([], 12) := by unfold putL; rw [if_neg (by rw [h]; simp)]
theorem put_arg {l : List Lt} {t : Lt} (h : fitB l = true) (h2 : oneL t = false) : putL l t = ([], 1) := by unfold putL; rw [if_pos h, if_neg (by rw [h2]; simp)]
theorem put_twice {l : List Lt} {t : Lt} (h : fitB l = true) (h2 : oneL t = true) (h3 : (findL t.saga l).isSome = true) : putL l t = ([], 3) := by unfold putL; rw [if_pos h, if_pos h2, if_pos h3]
theorem put_full {l : List Lt} {t : Lt} (h : fitB l = true) (h2 : oneL t = true) (h3 : (findL t.saga l).isSome = false) (h4 : l.length = 16) : putL l t = ([], 4) := by unfold putL; rw [if_pos h, if_pos h2, if_neg (by rw [h3]; simp), if_pos h4]
theorem put_ok {l : List Lt} {t : Lt} (h : fitB l = true) (h2 : oneL t = true) (h3 : (findL t.saga l).isSome = false) (h4 : ¬ l.length = 16) : putL l t = (insL t l, 0) := by unfold putL; rw [if_pos h, if_pos h2, if_neg (by rw [h3]; simp), if_neg h4]
theorem drop_bad {l : List Lt} {g : Int} (h : fitB l = false) : dropL l g = ([], 12) := by unfold dropL; rw [if_neg (by rw [h]; simp)]
theorem drop_none {l : List Lt} {g : Int} (h : fitB l = true) (h3 : (findL g l).isSome = false) : dropL l g = ([], 2) := by unfold dropL; rw [if_pos h, if_neg (by rw [h3]; simp)]
theorem drop_ok {l : List Lt} {g : Int} (h : fitB l = true) (h3 : (findL g l).isSome = true) : dropL l g = (delL g l, 0) := by unfold dropL; rw [if_pos h, if_pos h3]

set_option maxHeartbeats 4000000 in
theorem put_any (a : Option Addr) (len cap : Nat) (l : List Lt) (hcap : len ≤ cap) (x0 x1 : Int) (x2 : Bool) (x3 x4 : Int) (r : List Lt × Int) (hr : putL l ⟨x0, x1, x2, x3, x4⟩ = r) (w : World) (h : LtAt w a len l) :
    Calls Tryd.prog 13 #[.slice a len cap, .agg #[.int .i64 x0, .int .i64 x1, .bool x2, .int .i64 x3, .int .i64 x4]] w (PutR w r.1 r.2) := by
  have hB0 := bx5_new 24 w (.int .i64 x0) (.int .i64 x1) (.bool x2) (.int .i64 x3) (.int .i64 x4)
  obtain ⟨w0, hw0⟩ : ∃ w0, w.alloc (.cells #[.int .i64 x0, .int .i64 x1, .bool x2, .int .i64 x3, .int .i64 x4] 24) = w0 := ⟨_, rfl⟩
  rw [hw0] at hB0
  have HW := Lib.hid hw0
  have HB0 := Lib.hid hB0
  have HX := Lib.hid h
  have hl := h.2.1
  have CF := Lib.hid (fun v hv => fit_any a len cap l v hv w0 (Rw.At.keep h hB0.bel))
  clear hw0 hB0 h
  cases hf : fitB l with
  | false =>
    have HR : Hid (r = ([], 12)) := by show _ = _; rw [← hr, put_bad hf]
    have CF := Lib.hid (CF.out false hf)
    clear hf hr
    go_enter Tryd.func13, Tryd.ntmps13
    go_wp2_with fail
    rw [show w.alloc (.cells #[.int .i64 x0, .int .i64 x1, .bool x2, .int .i64 x3, .int .i64 x4] 24) = w0 from HW.out]
    go_wp2_with fail
    refine CF.out.mono ?_
    rintro e w1 ⟨rfl, hb⟩
    have HB1 := Lib.hid (HB0.out.keep hb)
    clear hb
    go_wp2_with fail
    go_ret2
    exact putR_none' HR.out HB1.out.bel
  | true =>
    have CF := Lib.hid (CF.out true hf)
    cases h1 : oneL ⟨x0, x1, x2, x3, x4⟩ with
    | false =>
      have HR : Hid (r = ([], 1)) := by show _ = _; rw [← hr, put_arg hf h1]
      have CV := Lib.hid (valid_is x0 x1 x2 x3 x4 false h1)
      clear hf h1 hr
      go_enter Tryd.func13, Tryd.ntmps13
      go_wp2_with fail
      rw [show w.alloc (.cells #[.int .i64 x0, .int .i64 x1, .bool x2, .int .i64 x3, .int .i64 x4] 24) = w0 from HW.out]
      go_wp2_with fail
      refine CF.out.mono ?_
      rintro e w1 ⟨rfl, hb⟩
      have HB1 := Lib.hid (HB0.out.keep hb)
      clear hb
      obtain ⟨d0, d1, d2, d3, d4⟩ := cells5 HB1.out.box
      go_wp2_with fail
      refine (CV.out w1).mono ?_
      rintro e w2 ⟨rfl, hb⟩
      have HB2 := Lib.hid (HB1.out.keep hb)
      clear hb d0 d1 d2 d3 d4
      go_wp2_with fail
      go_ret2
      exact putR_none' HR.out HB2.out.bel
    | true =>
      have CV := Lib.hid (valid_is x0 x1 x2 x3 x4 true h1)
      have hlen : len ≤ 16 := by rw [← HX.out.1]; exact (fitB_iff.1 hf).len
      have HUP := Lib.hid (fitB_iff.1 hf).up
      obtain ⟨p, hp⟩ : ∃ p, posL x0 l = p := ⟨_, rfl⟩
      have hpl : p ≤ len := by rw [← HX.out.1, ← hp]; exact posL_le x0 l
      have HP := Lib.hid hp
      cases h3 : (findL x0 l).isSome with
      | true =>
        have HR : Hid (r = ([], 3)) := by show _ = _; rw [← hr, put_twice hf h1 h3]
        have H3 := Lib.hid h3
        clear hf h1 h3 hr hp
        go_enter Tryd.func13, Tryd.ntmps13
        go_wp2_with fail
        rw [show w.alloc (.cells #[.int .i64 x0, .int .i64 x1, .bool x2, .int .i64 x3, .int .i64 x4] 24) = w0 from HW.out]
        go_wp2_with fail
        refine CF.out.mono ?_
        rintro e w1 ⟨rfl, hb⟩
        have HB1 := Lib.hid (HB0.out.keep hb)
        clear hb
        obtain ⟨d0, d1, d2, d3, d4⟩ := cells5 HB1.out.box
        go_wp2_with fail
        refine (CV.out w1).mono ?_
        rintro e w2 ⟨rfl, hb⟩
        have HB2 := Lib.hid (HB1.out.keep hb)
        clear hb d0 d1 d2 d3 d4
        obtain ⟨d0, d1, d2, d3, d4⟩ := cells5 HB2.out.box
        have CP := Lib.hid (place_any a len cap l x0 p _ HP.out H3.out w2 (Rw.At.keep HX.out HB2.out.bel) (by omega) HUP.out)
        go_wp2_with fail
        refine CP.out.mono ?_
        rintro e w3 ⟨rfl, hb⟩
        have HB3 := Lib.hid (HB2.out.keep hb)
        clear hb CP d0 d1 d2 d3 d4
        go_wp2_with fail
        go_ret2
        exact putR_none' HR.out HB3.out.bel
      | false =>
        have H3 := Lib.hid h3
        by_cases h16 : len = 16
        · have HR : Hid (r = ([], 4)) := by show _ = _; rw [← hr, put_full hf h1 h3 (by rw [HX.out.1]; exact h16)]
          have e16 : ((len : Int) == 16) = true := by rw [h16]; rfl
          clear hf h1 h3 hr hp h16
          go_enter Tryd.func13, Tryd.ntmps13
          go_wp2_with fail
          rw [show w.alloc (.cells #[.int .i64 x0, .int .i64 x1, .bool x2, .int .i64 x3, .int .i64 x4] 24) = w0 from HW.out]
          go_wp2_with fail
          refine CF.out.mono ?_
          rintro e w1 ⟨rfl, hb⟩
          have HB1 := Lib.hid (HB0.out.keep hb)
          clear hb
          obtain ⟨d0, d1, d2, d3, d4⟩ := cells5 HB1.out.box
          go_wp2_with fail
          refine (CV.out w1).mono ?_
          rintro e w2 ⟨rfl, hb⟩
          have HB2 := Lib.hid (HB1.out.keep hb)
          clear hb d0 d1 d2 d3 d4
          obtain ⟨d0, d1, d2, d3, d4⟩ := cells5 HB2.out.box
          have CP := Lib.hid (place_any a len cap l x0 p _ HP.out H3.out w2 (Rw.At.keep HX.out HB2.out.bel) (by omega) HUP.out)
          go_wp2_with fail
          refine CP.out.mono ?_
          rintro e w3 ⟨rfl, hb⟩
          have HB3 := Lib.hid (HB2.out.keep hb)
          clear hb CP d0 d1 d2 d3 d4
          go_wp2_with fail
          go_ret2
          exact putR_none' HR.out HB3.out.bel
        · have hok := put_ok (l := l) (t := ⟨x0, x1, x2, x3, x4⟩) hf h1 h3 (by rw [HX.out.1]; exact h16)
          have hlp : (insL ⟨x0, x1, x2, x3, x4⟩ l).length ≤ 1000000 := by rw [ins_len, HX.out.1]; omega
          unfold insL at hok hlp
          simp only [hp] at hok hlp
          have HLN : Hid ((l.take p ++ ([(⟨x0, x1, x2, x3, x4⟩ : Lt)] ++ l.drop p)).length ≤ 1000000) := hlp
          have HR : Hid (r = (l.take p ++ ([(⟨x0, x1, x2, x3, x4⟩ : Lt)] ++ l.drop p), 0)) := by show _ = _; rw [← hr, hok]; rfl
          have e16 : ((len : Int) == 16) = false := beq_eq_false_iff_ne.2 (by omega)
          have hpc : p ≤ cap := Nat.le_trans hpl hcap
          obtain ⟨A2, hA2⟩ : ∃ A2, (if cap = p then a else Option.map (fun x => x.add (p * 5)) a) = A2 := ⟨_, rfl⟩
          have HA2 := Lib.hid hA2
          have HTOT : Hid ((Rw.cat [(⟨a, p, cap, l.take p⟩ : Rw.Pt Lt), ⟨some ⟨0, 0, none⟩, 1, 1, [⟨x0, x1, x2, x3, x4⟩]⟩, ⟨A2, len - p, cap - p, l.drop p⟩] 3).length ≤ 1000000) := by rw [Rw.cat3]; exact hlp
          clear hf h1 h3 hr hp h16 hA2 hok hlp
          go_enter Tryd.func13, Tryd.ntmps13
          go_wp2_with fail
          rw [show w.alloc (.cells #[.int .i64 x0, .int .i64 x1, .bool x2, .int .i64 x3, .int .i64 x4] 24) = w0 from HW.out]
          go_wp2_with fail
          refine CF.out.mono ?_
          rintro e w1 ⟨rfl, hb⟩
          have HB1 := Lib.hid (HB0.out.keep hb)
          clear hb
          obtain ⟨d0, d1, d2, d3, d4⟩ := cells5 HB1.out.box
          go_wp2_with fail
          refine (CV.out w1).mono ?_
          rintro e w2 ⟨rfl, hb⟩
          have HB2 := Lib.hid (HB1.out.keep hb)
          clear hb d0 d1 d2 d3 d4
          obtain ⟨d0, d1, d2, d3, d4⟩ := cells5 HB2.out.box
          have CP := Lib.hid (place_any a len cap l x0 p _ HP.out H3.out w2 (Rw.At.keep HX.out HB2.out.bel) (by omega) HUP.out)
          go_wp2_with fail
          refine CP.out.mono ?_
          rintro e w3 ⟨rfl, hb⟩
          have HB3 := Lib.hid (HB2.out.keep hb)
          clear hb CP d0 d1 d2 d3 d4
          obtain ⟨d0, d1, d2, d3, d4⟩ := cells5 HB3.out.box
          go_wp2_with fail
          refine wp_region_any (by kernel_rfl) ?_
          change wpAny _ _ _ _ _ _ _ (World.drew _)
          refine wpAny_take (i := 0) (v := ?_) rfl (by kernel_rfl) (by kernel_rfl) (by kernel_rfl) (fun _ _ _ h => h) (Or.inl ⟨by kernel_rfl, ?_⟩) ?_; rotate_left; focus ((intro w'); go_simp; (try with_reducible rfl))
          refine wpAny_take (i := 1) (v := ?_) rfl (by kernel_rfl) (by kernel_rfl) (by kernel_rfl) (fun _ _ _ h => h) (Or.inl ⟨by kernel_rfl, ?_⟩) ?_; rotate_left; focus ((intro w'); go_simp; (try with_reducible rfl))
          refine wpAny_take (i := 2) (v := ?_) rfl (by kernel_rfl) (by kernel_rfl) (by kernel_rfl) (fun _ _ _ h => h) (Or.inl ⟨by kernel_rfl, ?_⟩) ?_; rotate_left; focus ((intro w'); go_simp; (try with_reducible rfl))
          refine wpAny_take (i := 5) (v := ?_) rfl (by kernel_rfl) (by kernel_rfl) (by kernel_rfl) (fun _ _ _ h => h) (Or.inl ⟨by kernel_rfl, ?_⟩) ?_; rotate_left; focus ((intro w'); go_simp; (try with_reducible rfl))
          refine wpAny_take (i := 6) (v := ?_) rfl (by kernel_rfl) (by kernel_rfl) (by kernel_rfl) (fun _ _ _ h => h) (Or.inl ⟨by kernel_rfl, ?_⟩) ?_; rotate_left; focus ((intro w'); go_simp; (try with_reducible rfl))
          have hA2 := HA2.out
          refine wpAny_take (i := 7) (v := ?_) rfl (by kernel_rfl) (by kernel_rfl) (by kernel_rfl) (fun _ _ _ h => h) (Or.inl ⟨by kernel_rfl, ?_⟩) ?_; rotate_left; focus ((intro w'); go_simp; (try with_reducible rfl))
          clear hA2
          refine Mix.wpAny_of_seqV [3, 4, 8, 9, 10, 11] _ _ _ (by kernel_rfl) ?_
          simp only [Mix.pick, List.filterMap_cons, List.filterMap_nil, List.getElem?_cons_zero, List.getElem?_cons_succ]
          refine wpList_plain rfl fun K hK => ?_
          go_simp
          refine hK _ _ ?_
          clear hK K
          refine wpList_plain rfl fun K hK => ?_
          go_simp
          refine hK _ _ ?_
          clear hK K
          refine wpList_plain rfl fun K hK => ?_
          go_simp
          refine hK _ _ ?_
          clear hK K
          clear d0 d1 d2 d3 d4
          have hb3 := HB3.out.bel
          obtain ⟨k, hk⟩ : ∃ k, w3.heap.size = k := ⟨_, rfl⟩
          rw [hk]
          have hx := Rw.one_at ltS w3 ⟨x0, x1, x2, x3, x4⟩
          have hn := heap_alloc_new (w3.alloc (.cells #[.int .i64 x0, .int .i64 x1, .bool x2, .int .i64 x3, .int .i64 x4] 24)) (.cells #[.slice a p cap, .slice (some ⟨k, 0, none⟩) 1 1, .slice A2 (len - p) (cap - p)] 22)
          have hb5 := hb3.alloc hb3.size (.cells #[.int .i64 x0, .int .i64 x1, .bool x2, .int .i64 x3, .int .i64 x4] 24)
          have hb6 := below_drew (hb5.alloc hb5.size (.cells #[.slice a p cap, .slice (some ⟨k, 0, none⟩) 1 1, .slice A2 (len - p) (cap - p)] 22))
          have hx6 := Rw.At.keep hx (below_drew ((Below.refl _ (w3.alloc (.cells #[.int .i64 x0, .int .i64 x1, .bool x2, .int .i64 x3, .int .i64 x4] 24))).alloc (Nat.le_refl _) (.cells #[.slice a p cap, .slice (some ⟨k, 0, none⟩) 1 1, .slice A2 (len - p) (cap - p)] 22)))
          rw [World.size_alloc, hk] at hn
          rw [hk] at hx6
          have hn : ((w3.alloc (.cells #[.int .i64 x0, .int .i64 x1, .bool x2, .int .i64 x3, .int .i64 x4] 24)).alloc (.cells #[.slice a p cap, .slice (some ⟨k, 0, none⟩) 1 1, .slice A2 (len - p) (cap - p)] 22)).drew.heap[k + 1]? = _ := hn
          obtain ⟨w6, hw6⟩ : ∃ w6, ((w3.alloc (.cells #[.int .i64 x0, .int .i64 x1, .bool x2, .int .i64 x3, .int .i64 x4] 24)).alloc (.cells #[.slice a p cap, .slice (some ⟨k, 0, none⟩) 1 1, .slice A2 (len - p) (cap - p)] 22)).drew = w6 := ⟨_, rfl⟩
          rw [hw6] at hn hb6 hx6 ⊢
          have HW6 := Lib.hid hw6
          have CC := concat_any (k + 1) 3 3 [⟨a, p, cap, l.take p⟩, ⟨some ⟨k, 0, none⟩, 1, 1, [⟨x0, x1, x2, x3, x4⟩]⟩, ⟨A2, len - p, cap - p, l.drop p⟩] rfl (by omega) HTOT.out w6
            (Rw.pts3 hn (Rw.part_take (Rw.At.keep HX.out hb6) hpl) hx6 (Rw.part_drop (Rw.At.keep HX.out hb6) hpl hcap HA2.out))
          rw [Rw.cat3] at CC
          have CC := Lib.hid CC
          have HB6 := Lib.hid hb6
          clear hx hn hb5 hb6 hx6 hb3 hw6 hk
          go_wp2_with fail
          refine CC.out.mono ?_
          rintro e w7 hR7
          obtain ⟨v7, rfl, _⟩ := id hR7
          have HE := Lib.hid (putR_row (r := r) HR.out HB6.out HLN.out hR7)
          clear hR7
          go_wp2_with fail
          go_ret2
          exact HE.out

set_option maxHeartbeats 4000000 in
theorem drop_any (a : Option Addr) (len cap : Nat) (l : List Lt) (hcap : len ≤ cap) (g : Int) (r : List Lt × Int) (hr : dropL l g = r) (w : World) (h : LtAt w a len l) :
    Calls Tryd.prog 15 #[.slice a len cap, .int .i64 g] w (PutR w r.1 r.2) := by
  have HX := Lib.hid h
  have hl := h.2.1
  have CF := Lib.hid (fun v hv => fit_any a len cap l v hv w h)
  clear h
  cases hf : fitB l with
  | false =>
    have HR : Hid (r = ([], 12)) := by show _ = _; rw [← hr, drop_bad hf]
    have CF := Lib.hid (CF.out false hf)
    clear hf hr
    go_enter Tryd.func15, Tryd.ntmps15
    go_wp2_with fail
    refine CF.out.mono ?_
    rintro e w1 ⟨rfl, hb⟩
    have HB1 := Lib.hid hb
    clear hb
    go_wp2_with fail
    go_ret2
    exact putR_none' HR.out HB1.out
  | true =>
    have CF := Lib.hid (CF.out true hf)
    have hlen : len ≤ 16 := by rw [← HX.out.1]; exact (fitB_iff.1 hf).len
    have HUP := Lib.hid (fitB_iff.1 hf).up
    obtain ⟨p, hp⟩ : ∃ p, posL g l = p := ⟨_, rfl⟩
    have HP := Lib.hid hp
    cases h3 : (findL g l).isSome with
    | false =>
      have HR : Hid (r = ([], 2)) := by show _ = _; rw [← hr, drop_none hf h3]
      have H3 := Lib.hid h3
      clear hf h3 hr hp
      go_enter Tryd.func15, Tryd.ntmps15
      go_wp2_with fail
      refine CF.out.mono ?_
      rintro e w1 ⟨rfl, hb⟩
      have HB1 := Lib.hid hb
      clear hb
      have CP := Lib.hid (place_any a len cap l g p _ HP.out H3.out w1 (Rw.At.keep HX.out HB1.out) (by omega) HUP.out)
      go_wp2_with fail
      refine CP.out.mono ?_
      rintro e w3 ⟨rfl, hb⟩
      have HB3 := Lib.hid (below_keep HB1.out hb HB1.out.size)
      clear hb CP
      go_wp2_with fail
      go_ret2
      exact putR_none' HR.out HB3.out
    | true =>
      have H3 := Lib.hid h3
      have hpl : p < len := by rw [← HX.out.1, ← hp]; exact (place_found (fitB_iff.1 hf).up h3).1
      obtain ⟨q, hq⟩ : ∃ q, p + 1 = q := ⟨_, rfl⟩
      have hdel := del_parts (fitB_iff.1 hf).up h3
      rw [hp, hq] at hdel
      have HLN : Hid ((l.take p ++ l.drop q).length ≤ 1000000) := by show _ ≤ _; rw [← hdel]; have := del_len g l; have := HX.out.1; omega
      have HR : Hid (r = (l.take p ++ l.drop q, 0)) := by show _ = _; rw [← hr, drop_ok hf h3, hdel]
      obtain ⟨A2, hA2⟩ : ∃ A2, (if cap = q then a else Option.map (fun x => x.add (q * 5)) a) = A2 := ⟨_, rfl⟩
      have HA2 := Lib.hid hA2
      have HTOT : Hid ((Rw.cat [(⟨a, p, cap, l.take p⟩ : Rw.Pt Lt), ⟨A2, len - q, cap - q, l.drop q⟩] 2).length ≤ 1000000) := by rw [Rw.cat2]; exact HLN.out
      have hpc : p ≤ cap := by omega
      have hqc : q ≤ cap := by omega
      have hql : q ≤ len := by omega
      have hpl2 : p ≤ len := by omega
      have hpq : (p : Int) + 1 = (q : Int) := by omega
      have hpw : IntKind.i64.wrap (q : Int) = (q : Int) := by rw [IntWalk.i64_in] <;> omega
      clear hf h3 hr hp hA2 hdel hq
      go_enter Tryd.func15, Tryd.ntmps15
      go_wp2_with fail
      refine CF.out.mono ?_
      rintro e w1 ⟨rfl, hb⟩
      have HB1 := Lib.hid hb
      clear hb
      have CP := Lib.hid (place_any a len cap l g p _ HP.out H3.out w1 (Rw.At.keep HX.out HB1.out) (by omega) HUP.out)
      go_wp2_with fail
      refine CP.out.mono ?_
      rintro e w3 ⟨rfl, hb⟩
      have HB3 := Lib.hid (below_keep HB1.out hb HB1.out.size)
      clear hb CP
      go_wp2_with fail
      refine wp_region_any (by kernel_rfl) ?_
      change wpAny _ _ _ _ _ _ _ (World.drew _)
      refine wpAny_take (i := 0) (v := ?_) rfl (by kernel_rfl) (by kernel_rfl) (by kernel_rfl) (fun _ _ _ h => h) (Or.inl ⟨by kernel_rfl, ?_⟩) ?_; rotate_left; focus ((intro w'); go_simp; (try with_reducible rfl))
      refine wpAny_take (i := 1) (v := ?_) rfl (by kernel_rfl) (by kernel_rfl) (by kernel_rfl) (fun _ _ _ h => h) (Or.inl ⟨by kernel_rfl, ?_⟩) ?_; rotate_left; focus ((intro w'); go_simp; (try with_reducible rfl))
      refine wpAny_take (i := 2) (v := ?_) rfl (by kernel_rfl) (by kernel_rfl) (by kernel_rfl) (fun _ _ _ h => h) (Or.inl ⟨by kernel_rfl, ?_⟩) ?_; rotate_left; focus ((intro w'); go_simp; (try with_reducible rfl))
      refine wpAny_take (i := 3) (v := ?_) rfl (by kernel_rfl) (by kernel_rfl) (by kernel_rfl) (fun _ _ _ h => h) (Or.inl ⟨by kernel_rfl, ?_⟩) ?_; rotate_left; focus ((intro w'); go_simp; (try with_reducible rfl))
      refine wpAny_take (i := 4) (v := ?_) rfl (by kernel_rfl) (by kernel_rfl) (by kernel_rfl) (fun _ _ _ h => h) (Or.inl ⟨by kernel_rfl, ?_⟩) ?_; rotate_left; focus ((intro w'); go_simp; (try with_reducible rfl))
      refine wpAny_take (i := 5) (v := ?_) rfl (by kernel_rfl) (by kernel_rfl) (by kernel_rfl) (fun _ _ _ h => h) (Or.inl ⟨by kernel_rfl, ?_⟩) ?_; rotate_left; focus ((intro w'); go_simp; (try with_reducible rfl))
      have hA2 := HA2.out
      refine wpAny_take (i := 6) (v := ?_) rfl (by kernel_rfl) (by kernel_rfl) (by kernel_rfl) (fun _ _ _ h => h) (Or.inl ⟨by kernel_rfl, ?_⟩) ?_; rotate_left; focus ((intro w'); go_simp; (try with_reducible rfl))
      clear hA2
      refine Mix.wpAny_of_seqV [7, 8, 9, 10] _ _ _ (by kernel_rfl) ?_
      simp only [Mix.pick, List.filterMap_cons, List.filterMap_nil, List.getElem?_cons_zero, List.getElem?_cons_succ]
      refine wpList_plain rfl fun K hK => ?_
      go_simp
      refine hK _ _ ?_
      clear hK K
      have hb3 := HB3.out
      obtain ⟨k, hk⟩ : ∃ k, w3.heap.size = k := ⟨_, rfl⟩
      rw [hk]
      have hn := heap_alloc_new w3 (.cells #[.slice a p cap, .slice A2 (len - q) (cap - q)] 22)
      have hb6 := below_drew (hb3.alloc hb3.size (.cells #[.slice a p cap, .slice A2 (len - q) (cap - q)] 22))
      rw [hk] at hn
      have hn : (w3.alloc (.cells #[.slice a p cap, .slice A2 (len - q) (cap - q)] 22)).drew.heap[k]? = _ := hn
      obtain ⟨w6, hw6⟩ : ∃ w6, (w3.alloc (.cells #[.slice a p cap, .slice A2 (len - q) (cap - q)] 22)).drew = w6 := ⟨_, rfl⟩
      rw [hw6] at hn hb6 ⊢
      have HW6 := Lib.hid hw6
      have CC := concat_any k 2 2 [⟨a, p, cap, l.take p⟩, ⟨A2, len - q, cap - q, l.drop q⟩] rfl (by omega) HTOT.out w6
        (Rw.pts2 hn (Rw.part_take (Rw.At.keep HX.out hb6) hpl2) (Rw.part_drop (Rw.At.keep HX.out hb6) hql hcap HA2.out))
      rw [Rw.cat2] at CC
      have CC := Lib.hid CC
      have HB6 := Lib.hid hb6
      clear hn hb6 hb3 hw6 hk
      go_wp2_with fail
      refine CC.out.mono ?_
      rintro e w7 hR7
      obtain ⟨v7, rfl, _⟩ := id hR7
      have HE := Lib.hid (putR_row (r := r) HR.out HB6.out HLN.out hR7)
      clear hR7
      go_wp2_with fail
      go_ret2
      exact HE.out
end Go.Proofs.YtekndioohjlmcaaDoor.Letter
