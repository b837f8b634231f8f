/-
  DefTells; what was there stays as it was.
-/
import Derived.Test.YtdpgfnnhbfkacaaGreatDoorPtDefFr
import Derived.Test.YtdpgfnnhbfkacaaGreatDoorPtDefJ
set_option linter.unusedVariables false
set_option linter.unusedSimpArgs false
set_option maxRecDepth 4000
namespace Go.Proofs.YtdpgfnnhbfkacaaGreatDoor.Def
open Go.RowKit DefP
open Go.Proofs.YtdpgfnnhbfkacaaGreatDoor.Kt
set_option maxHeartbeats 16000000 in
theorem tells_any (s : ByteArray) (a : Option Addr) (n c : Nat) (l : List Step) (s2 : ByteArray) (a2 : Option Addr) (n2 c2 : Nat) (l2 : List Step) (op : Int) (w : World) (h : StAt w a n l) (hS : ∀ x ∈ l, S64 x) (h2 : StAt w a2 n2 l2) (ht0 : Num.Tab w) (hv : Step.Vars w) :
    Calls Tryz.prog 3 #[.agg #[.string s, .slice a n c], .agg #[.string s2, .slice a2 n2 c2], .int .i64 op] w fun e w' => e = .returned (.bool true) ∧ Below w.heap.size w w' := by
  have h1 : At2 24 ((w.alloc (.cells #[.string s, .slice a n c] 24)).alloc (.cells #[.string s2, .slice a2 n2 c2] 24)) w.heap.size (.string s) (.slice a n c) := (at2_new 24 w (.string s) (.slice a n c)).alloc _
  have h2' : At2 24 ((w.alloc (.cells #[.string s, .slice a n c] 24)).alloc (.cells #[.string s2, .slice a2 n2 c2] 24)) (w.heap.size + 1) (.string s2) (.slice a2 n2 c2) := by
    have := at2_new 24 (w.alloc (.cells #[.string s, .slice a n c] 24)) (.string s2) (.slice a2 n2 c2)
    rw [World.size_alloc] at this
    exact this
  have hb0 : Below w.heap.size w ((w.alloc (.cells #[.string s, .slice a n c] 24)).alloc (.cells #[.string s2, .slice a2 n2 c2] 24)) := ((Below.refl _ w).alloc (Nat.le_refl _) (.cells #[.string s, .slice a n c] 24)).alloc (by rw [World.size_alloc]; omega) (.cells #[.string s2, .slice a2 n2 c2] 24)
  obtain ⟨w0, hw0⟩ : ∃ w0, (w.alloc (.cells #[.string s, .slice a n c] 24)).alloc (.cells #[.string s2, .slice a2 n2 c2] 24) = w0 := ⟨_, rfl⟩
  rw [hw0] at h1 h2' hb0
  have HW := Lib.hid hw0
  have HB0 := Lib.hid hb0
  have HX := Lib.hid h1; have HY := Lib.hid h2'
  have HV := Lib.hid (fun W (hb : Below w.heap.size w W) => hv.keep hb)
  have HT0 := Lib.hid (fun W (hb : Below w.heap.size w W) => ht0.keep hb)
  have HA : Hid (∀ W, Below w.heap.size w W → Calls Tryz.prog 7 #[] W fun e w' => e = .returned (.bool true) ∧ Below w.heap.size w w') := fun W hb => (awake_any W (hv.keep hb)).mono fun e w' hq => ⟨hq.1, below_keep hb hq.2 hb.size⟩
  obtain ⟨d0, d1⟩ := cells2 HX.out
  obtain ⟨e0, e1⟩ := cells2 HY.out
  clear hw0 h1 h2' hb0 hv ht0
  obtain ⟨v1, hv1⟩ : ∃ v, (decide ((s.size : Int) ≤ 60) && decide ((n : Int) ≤ 10)) = v := ⟨_, rfl⟩
  have CF := Lib.hid (fun W => few_is s a n c v1 hv1 W)
  cases v1 with
  | false =>
    clear h h2 hS hv1
    go_enter Tryz.func3, Tryz.ntmps3
    go_wp2_with fail
    rw [show (w.alloc (.cells #[.string s, .slice a n c] 24)).alloc (.cells #[.string s2, .slice a2 n2 c2] 24) = w0 from HW.out]
    go_wp2_with fail
    refine (CF.out _).mono ?_
    rintro e w1 ⟨rfl, hb⟩
    have CA := Lib.hid (HA.out w1 (below_keep HB0.out hb HB0.out.size))
    clear hb
    go_wp2_with fail
    refine CA.out.mono ?_
    rintro e w3 ⟨rfl, hb⟩
    have HB3 := Lib.hid hb
    clear hb
    go_wp2_with fail
    go_ret
    exact ⟨rfl, HB3.out⟩
  | true =>
    obtain ⟨v2, hv2⟩ : ∃ v, (decide ((s2.size : Int) ≤ 60) && decide ((n2 : Int) ≤ 10)) = v := ⟨_, rfl⟩
    have CF2 := Lib.hid (fun W => few_is s2 a2 n2 c2 v2 hv2 W)
    cases v2 with
    | false =>
      clear h h2 hS hv1 hv2
      go_enter Tryz.func3, Tryz.ntmps3
      go_wp2_with fail
      rw [show (w.alloc (.cells #[.string s, .slice a n c] 24)).alloc (.cells #[.string s2, .slice a2 n2 c2] 24) = w0 from HW.out]
      go_wp2_with fail
      refine (CF.out _).mono ?_
      rintro e w1 ⟨rfl, hb⟩
      have HB1 := Lib.hid (below_keep HB0.out hb HB0.out.size)
      have HY1 := Lib.hid (HY.out.keep hb)
      clear hb d0 d1 e0 e1
      obtain ⟨e0, e1⟩ := cells2 HY1.out
      go_wp2_with fail
      refine (CF2.out _).mono ?_
      rintro e w2 ⟨rfl, hb⟩
      have CA := Lib.hid (HA.out w2 (below_keep HB1.out hb HB1.out.size))
      clear hb e0 e1
      go_wp2_with fail
      refine CA.out.mono ?_
      rintro e w3 ⟨rfl, hb⟩
      have HB3 := Lib.hid hb
      clear hb
      go_wp2_with fail
      go_ret
      exact ⟨rfl, HB3.out⟩
    | true =>
      rw [Bool.and_eq_true, decide_eq_true_eq, decide_eq_true_eq] at hv1 hv2
      obtain ⟨hs, hn⟩ := hv1
      clear HA hv2
      obtain ⟨f, hf⟩ : ∃ f, fitD ⟨s, l⟩ = f := ⟨_, rfl⟩
      obtain ⟨p, hp⟩ : ∃ p, placeL l op = p := ⟨_, rfl⟩
      obtain ⟨q, hq⟩ : ∃ q, pivL l = q := ⟨_, rfl⟩
      obtain ⟨t, ht⟩ : ∃ t, Step.bs (textD ⟨s, l⟩) = t := ⟨_, rfl⟩
      obtain ⟨u, hu⟩ : ∃ u, Step.bs (putD ⟨s, l⟩) = u := ⟨_, rfl⟩
      obtain ⟨e, he⟩ : ∃ e, eqD ⟨s, l⟩ ⟨s2, l2⟩ = e := ⟨_, rfl⟩
      have K0 := Lib.hid (fun W1 (HB1 : Hid (Below w.heap.size w W1)) d os => Calls.regrown_of (fit_is s a n c l f hf (Sort.grow (redrawn W1 d) os) (Rw.At.keep h (HB1.out.trans ((below_regrown W1 d os).mono HB1.out.size))) (by omega) (by omega)))
      have K1 := Lib.hid (fun W1 (HB1 : Hid (Below w.heap.size w W1)) d os => Calls.regrown_of (rfit_is s a n c l f hf (Sort.grow (redrawn W1 d) os) (Rw.At.keep h (HB1.out.trans ((below_regrown W1 d os).mono HB1.out.size))) (by omega) (by omega)))
      have K2 := Lib.hid (fun W1 (HB1 : Hid (Below w.heap.size w W1)) d os => Calls.regrown_of (place_is s a n c l op p hp (Sort.grow (redrawn W1 d) os) (Rw.At.keep h (HB1.out.trans ((below_regrown W1 d os).mono HB1.out.size)))))
      have K3 := Lib.hid (fun W1 (HB1 : Hid (Below w.heap.size w W1)) d os => Calls.regrown_of (rplace_is s a n c l op p hp (Sort.grow (redrawn W1 d) os) (Rw.At.keep h (HB1.out.trans ((below_regrown W1 d os).mono HB1.out.size)))))
      have K4 := Lib.hid (fun W1 (HB1 : Hid (Below w.heap.size w W1)) d os => Calls.regrown_of (pivot_is s a n c l q hq (Sort.grow (redrawn W1 d) os) (Rw.At.keep h (HB1.out.trans ((below_regrown W1 d os).mono HB1.out.size)))))
      have K5 := Lib.hid (fun W1 (HB1 : Hid (Below w.heap.size w W1)) d os => Calls.regrown_of (rpivot_is s a n c l q hq (Sort.grow (redrawn W1 d) os) (Rw.At.keep h (HB1.out.trans ((below_regrown W1 d os).mono HB1.out.size)))))
      have K6 := Lib.hid (fun W1 (HB1 : Hid (Below w.heap.size w W1)) d os => Calls.regrown_of (text_is s a n c l t ht (Sort.grow (redrawn W1 d) os) (Rw.At.keep h (HB1.out.trans ((below_regrown W1 d os).mono HB1.out.size))) (by omega) (by omega) (HT0.out (Sort.grow (redrawn W1 d) os) (HB1.out.trans ((below_regrown W1 d os).mono HB1.out.size)))))
      have K7 := Lib.hid (fun W1 (HB1 : Hid (Below w.heap.size w W1)) d os => Calls.regrown_of (rtext_is s a n c l t ht (Sort.grow (redrawn W1 d) os) (Rw.At.keep h (HB1.out.trans ((below_regrown W1 d os).mono HB1.out.size))) (by omega) (by omega)))
      have K8 := Lib.hid (fun W1 (HB1 : Hid (Below w.heap.size w W1)) d os => Calls.regrown_of (put_is s a n c l u hu (Sort.grow (redrawn W1 d) os) (Rw.At.keep h (HB1.out.trans ((below_regrown W1 d os).mono HB1.out.size))) (by omega) (by omega) hS))
      have K9 := Lib.hid (fun W1 (HB1 : Hid (Below w.heap.size w W1)) d os => Calls.regrown_of (rput_is s a n c l u hu (Sort.grow (redrawn W1 d) os) (Rw.At.keep h (HB1.out.trans ((below_regrown W1 d os).mono HB1.out.size))) (by omega) (by omega) hS))
      have K10 := Lib.hid (fun W1 (HB1 : Hid (Below w.heap.size w W1)) d os => Calls.regrown_of (same_is s a n c l s2 a2 n2 c2 l2 e he (Sort.grow (redrawn W1 d) os) (Rw.At.keep h (HB1.out.trans ((below_regrown W1 d os).mono HB1.out.size))) (Rw.At.keep h2 (HB1.out.trans ((below_regrown W1 d os).mono HB1.out.size)))))
      have K11 := Lib.hid (fun W1 (HB1 : Hid (Below w.heap.size w W1)) d os => Calls.regrown_of (rsame_is s a n c l s2 a2 n2 c2 l2 e he (Sort.grow (redrawn W1 d) os) (Rw.At.keep h (HB1.out.trans ((below_regrown W1 d os).mono HB1.out.size))) (Rw.At.keep h2 (HB1.out.trans ((below_regrown W1 d os).mono HB1.out.size)))))
      have K12 := Lib.hid (fun W1 (HB1 : Hid (Below w.heap.size w W1)) d os => Calls.regrown_of (awake_any (Sort.grow (redrawn W1 d) os) (HV.out (Sort.grow (redrawn W1 d) os) (HB1.out.trans ((below_regrown W1 d os).mono HB1.out.size)))))
      have hff : (f == f) = true := by simp
      have hpp : (p == p) = true := by simp
      have hqq : (q == q) = true := by simp
      have htt : (t.toList == t.toList) = true := by simp
      have huu : (u.toList == u.toList) = true := by simp
      have hee : (e == e) = true := by simp
      clear hf hp hq ht hu he h h2 hS hs hn
      go_enter Tryz.func3, Tryz.ntmps3
      go_wp2_with fail
      rw [show (w.alloc (.cells #[.string s, .slice a n c] 24)).alloc (.cells #[.string s2, .slice a2 n2 c2] 24) = w0 from HW.out]
      go_wp2_with fail
      refine (CF.out _).mono ?_
      rintro e_ w1 ⟨rfl, hb⟩
      have HB1 := Lib.hid (below_keep HB0.out hb HB0.out.size)
      have HX1 := Lib.hid (HX.out.keep hb)
      have HY1 := Lib.hid (HY.out.keep hb)
      clear hb d0 d1 e0 e1
      obtain ⟨e0, e1⟩ := cells2 HY1.out
      go_wp2_with fail
      refine (CF2.out _).mono ?_
      rintro e_ w2 ⟨rfl, hb⟩
      have HB2 := Lib.hid (below_keep HB1.out hb HB1.out.size)
      have HX2 := Lib.hid (HX1.out.keep hb)
      have HY2 := Lib.hid (HY1.out.keep hb)
      clear hb e0 e1 HX1 HY1 HX HY CF CF2
      go_wp2_with fail
      have C0 := Lib.hid (K0.out w2 HB2)
      have C1 := Lib.hid (K1.out w2 HB2)
      have C2 := Lib.hid (K2.out w2 HB2)
      have C3 := Lib.hid (K3.out w2 HB2)
      have C4 := Lib.hid (K4.out w2 HB2)
      have C5 := Lib.hid (K5.out w2 HB2)
      have C6 := Lib.hid (K6.out w2 HB2)
      have C7 := Lib.hid (K7.out w2 HB2)
      have C8 := Lib.hid (K8.out w2 HB2)
      have C9 := Lib.hid (K9.out w2 HB2)
      have C10 := Lib.hid (K10.out w2 HB2)
      have C11 := Lib.hid (K11.out w2 HB2)
      have C12 := Lib.hid (K12.out w2 HB2)
      obtain ⟨d0, d1⟩ := cells2 HX2.out
      obtain ⟨e0, e1⟩ := cells2 HY2.out
      have r0 := fun d os => cell_regrown d0 d os
      have r1 := fun d os => cell_regrown d1 d os
      have r2 := fun d os => cell_regrown e0 d os
      have r3 := fun d os => cell_regrown e1 d os
      clear d0 d1 e0 e1 K0 K1 K2 K3 K4 K5 K6 K7 K8 K9 K10 K11 K12
      refine wp_region_qw (by kernel_rfl) (by kernel_rfl) ?_
      iterate 48 (refine qw_take (by kernel_rfl) (fun K hK => ?_); go_simp; first | (refine hK _ ?_; clear hK K) | (apply Exists.intro; refine ⟨fun _ => ?_, hK _ ?_⟩; (first | with_reducible exact C0.out _ _ | with_reducible exact C1.out _ _ | with_reducible exact C2.out _ _ | with_reducible exact C3.out _ _ | with_reducible exact C4.out _ _ | with_reducible exact C5.out _ _ | with_reducible exact C6.out _ _ | with_reducible exact C7.out _ _ | with_reducible exact C8.out _ _ | with_reducible exact C9.out _ _ | with_reducible exact C10.out _ _ | with_reducible exact C11.out _ _ | with_reducible exact C12.out _ _); clear hK K))
      refine qw_nil ?_
      intro _ hw'
      obtain ⟨⟨dq, osq⟩, hw''⟩ := hw'
      subst hw''
      have HBL := Lib.hid (below_keep HB2.out (below_regrown w2 dq osq) HB2.out.size)
      clear C0 C1 C2 C3 C4 C5 C6 C7 C8 C9 C10 C11 C12 r0 r1 r2 r3
      go_wp2_with fail
      go_ret
      exact ⟨rfl, HBL.out⟩
end Go.Proofs.YtdpgfnnhbfkacaaGreatDoor.Def
namespace Go.Proofs.YtdpgfnnhbfkacaaGreatDoor
open Go.RowKit DefP
def Laid (w : World) : Prop := Num.Tab w ∧ Go.Proofs.YtdpgfnnhbfkacaaGreatDoor.Step.Vars w
theorem laid_of {W : World} (h : laidMetH Tryz.prog Rows.defTellsRow.laid W) (hs : W.ShapedOpen Tryz.prog) : Laid W := ⟨tab_of (by kernel_rfl) h, maxLen_of hs⟩
theorem Contract.defTells (s : ByteArray) (a : Option Addr) (n c : Nat) (s2 : ByteArray) (a2 : Option Addr) (n2 c2 : Nat) (op : Int) (W : World) (h1 : DefIn W s a n c) (h2 : DefIn W s2 a2 n2 c2) (_ho : (Lit.int .i64 op).wf = true) (ht : Laid W) :
    Calls Tryz.prog 3 #[Def.dv s a n c, Def.dv s2 a2 n2 c2, .int .i64 op] W fun e W' => e = .returned (.bool true) ∧ Below W.heap.size W W' := by
  obtain ⟨l, k1, k2, _⟩ := h1
  obtain ⟨l2, k3, _, _⟩ := h2
  exact Go.Proofs.YtdpgfnnhbfkacaaGreatDoor.Def.tells_any s a n c l s2 a2 n2 c2 l2 op W k1 k2 k3 ht.1 ht.2
end Go.Proofs.YtdpgfnnhbfkacaaGreatDoor
