/-
  DefBuilt; what was there stays as it was.
-/
import Derived.Test.YtdpgfnnhbfkacaaDoorDefR
import Derived.BigQuiet
set_option linter.unusedVariables false
set_option linter.unusedSimpArgs false
set_option maxRecDepth 4000
namespace Go.Proofs.YtdpgfnnhbfkacaaDoor.Def
open Go.RowKit DefP
open Go.Proofs.YtdpgfnnhbfkacaaDoor.Kt

/-- Names in the order of their octets: each is behind the one ahead of it. -/
def After (x y : ByteArray) : Prop := Go.Op.bytesLess x.toList y.toList = false ∧ (x.toList == y.toList) = false
theorem after1 : After pickupB fulfilB := by unfold After; rw [ByteArray.toList_eq, ByteArray.toList_eq]; exact ⟨rfl, rfl⟩
theorem after2 : After prepaidB pickupB := by unfold After; rw [ByteArray.toList_eq, ByteArray.toList_eq]; exact ⟨rfl, rfl⟩
set_option maxHeartbeats 16000000 in
theorem lbuilt_any (w : World) (htb : Num.Tab w) (hv : Step.Vars w) : Calls Tryd.prog 4 #[] w fun e w' => e = .returned (.bool true) ∧ Below w.heap.size w w' := by
  have HV := Lib.hid (fun W (hb : Below w.heap.size w W) => hv.keep hb)
  have HTab := Lib.hid (fun W (hb : Below w.heap.size w W) => htb.keep hb)
  have C1 := Lib.hid (built_any w hv)
  obtain ⟨t0, ht0⟩ : ∃ t : ByteArray, ⟨#[102, 117, 108, 102, 105, 108, 32, 104, 111, 108, 100, 47, 115, 111, 102, 116, 47, 48, 47, 49, 47, 49, 47, 52, 48, 44, 97, 117, 116, 104, 47, 115, 111, 102, 116, 47, 51, 47, 49, 47, 56, 47, 51, 48, 44, 107, 101, 101, 112, 47, 115, 111, 102, 116, 47, 48, 47, 49, 47, 49, 47, 48, 44, 98, 111, 111, 107, 47, 112, 105, 118, 111, 116, 47, 51, 47, 49, 47, 56, 47, 48, 44, 115, 101, 110, 100, 47, 102, 105, 114, 109, 47, 48, 47, 49, 47, 49, 47, 48, 44, 116, 97, 107, 101, 47, 102, 105, 114, 109, 47, 53, 47, 49, 47, 56, 47, 48]⟩ = t := ⟨_, rfl⟩
  have U0 := Lib.hid ht0
  have T0 : Hid (Step.bs (textD ⟨fulfilB, fulfilS⟩) = t0) := by show _ = _; rw [fulfil_text, ← ht0]; rfl
  have F0 : Hid (fitD ⟨fulfilB, fulfilS⟩ = true) := fitD_iff.2 ⟨fulfil_name, fulfil_fit⟩
  have Z0 : Hid (fulfilB.size ≤ 1000) := by show _ ≤ _; decide
  obtain ⟨t1, ht1⟩ : ∃ t : ByteArray, ⟨#[112, 105, 99, 107, 117, 112, 32, 104, 111, 108, 100, 47, 115, 111, 102, 116, 47, 48, 47, 49, 47, 49, 47, 50, 48, 44, 97, 117, 116, 104, 47, 115, 111, 102, 116, 47, 50, 47, 49, 47, 52, 47, 50, 48, 44, 107, 101, 101, 112, 47, 115, 111, 102, 116, 47, 48, 47, 49, 47, 49, 47, 48, 44, 116, 97, 107, 101, 47, 112, 105, 118, 111, 116, 47, 50, 47, 49, 47, 52, 47, 48, 44, 115, 101, 110, 100, 47, 102, 105, 114, 109, 47, 48, 47, 49, 47, 49, 47, 48]⟩ = t := ⟨_, rfl⟩
  have U1 := Lib.hid ht1
  have T1 : Hid (Step.bs (textD ⟨pickupB, pickupS⟩) = t1) := by show _ = _; rw [pickup_text, ← ht1]; rfl
  have F1 : Hid (fitD ⟨pickupB, pickupS⟩ = true) := fitD_iff.2 ⟨pickup_name, pickup_fit⟩
  have Z1 : Hid (pickupB.size ≤ 1000) := by show _ ≤ _; decide
  obtain ⟨t2, ht2⟩ : ∃ t : ByteArray, ⟨#[112, 114, 101, 112, 97, 105, 100, 32, 97, 117, 116, 104, 47, 115, 111, 102, 116, 47, 51, 47, 50, 47, 56, 47, 48, 44, 116, 97, 107, 101, 47, 115, 111, 102, 116, 47, 51, 47, 50, 47, 56, 47, 48, 44, 98, 111, 111, 107, 47, 115, 111, 102, 116, 47, 51, 47, 49, 47, 52, 47, 53, 48]⟩ = t := ⟨_, rfl⟩
  have U2 := Lib.hid ht2
  have T2 : Hid (Step.bs (textD ⟨prepaidB, prepaidS⟩) = t2) := by show _ = _; rw [prepaid_text, ← ht2]; rfl
  have F2 : Hid (fitD ⟨prepaidB, prepaidS⟩ = true) := fitD_iff.2 ⟨prepaid_name, prepaid_fit⟩
  have Z2 : Hid (prepaidB.size ≤ 1000) := by show _ ≤ _; decide
  have L1 := Lib.hid after1
  have L2 := Lib.hid after2
  clear htb hv ht0 ht1 ht2
  go_enter Tryd.func4, Tryd.ntmps4
  go_wp2_with fail
  refine C1.out.mono ?_
  rintro e w1 ⟨g, cg, x0, x1, x2, rfl, _, h1, hb1⟩
  obtain ⟨a0, c0, a1, c1, a2, c2, rfl, rfl, rfl⟩ := h1.told
  have H1 := Lib.hid h1; have HB1 := Lib.hid hb1
  clear h1 hb1 C1
  go_wp2_with fail
  refine (rbuilt_any w1).mono ?_
  rintro e w2 ⟨h, ch, y0, y1, y2, rfl, _, h2, hb⟩
  obtain ⟨b0, d0, b1, d1, b2, d2, rfl, rfl, rfl⟩ := h2.told
  have H1 := Lib.hid (H1.out.keep hb)
  have H2 := Lib.hid h2
  have HB2 := Lib.hid (below_keep HB1.out hb HB1.out.size)
  clear h2 hb HB1
  generalize fulfilB = n0 at *
  generalize pickupB = n1 at *
  generalize prepaidB = n2 at *
  go_wp2_with fail
  go_loopw [3] (fun i wr => ∃ k : Nat, k ≤ 3 ∧ i = .int .i64 (k : Int) ∧ Hid (Below w2.heap.size w2 wr)) (fun i _ => 3 - (intOf i).toNat)
  case atStart => exact ⟨0, by omega, rfl, Below.refl _ w2⟩
  case round =>
    obtain ⟨k, hk, rfl, hB⟩ := hrel
    match k, hk with
    | 0, hk =>
      rw [show (((0 : Nat)) : Int) = 0 from rfl]
      have X := H1.out.keep hB.out
      have Y := H2.out.keep hB.out
      have e00 : wr.cell? ⟨g, 0, none⟩ = some (.string n0) := X.cells 0 _ rfl
      have e01 : wr.cell? ⟨g, 1, none⟩ = some (.slice a0 6 c0) := X.cells 1 _ rfl
      have f00 : wr.cell? ⟨h, 0, none⟩ = some (.string n0) := Y.cells 0 _ rfl
      have f01 : wr.cell? ⟨h, 1, none⟩ = some (.slice b0 6 d0) := Y.cells 1 _ rfl
      have CS := Lib.hid (fun d os => Calls.regrown_of (rsame_is n0 a0 6 c0 fulfilS n0 b0 6 d0 fulfilS true (eqD_self _) (Sort.grow (redrawn wr d) os) (Rw.At.keep X.t0.at_ (below_regrown wr d os)) (Rw.At.keep Y.t0.at_ (below_regrown wr d os))))
      have CF := Lib.hid (fun d os => Calls.regrown_of (fit_is n0 a0 6 c0 fulfilS true F0.out (Sort.grow (redrawn wr d) os) (Rw.At.keep X.t0.at_ (below_regrown wr d os)) Z0.out (by omega)))
      have r0 := fun d os => cell_regrown e00 d os
      have r1 := fun d os => cell_regrown e01 d os
      have r2 := fun d os => cell_regrown f00 d os
      have r3 := fun d os => cell_regrown f01 d os
      clear X Y e00 e01 f00 f01
      go_wp2_with fail
      refine wp_region_qw (by kernel_rfl) (by kernel_rfl) ?_
      iterate 22 (refine qw_take (by kernel_rfl) (fun K hK => ?_); go_simp; first | (refine hK _ ?_; clear hK K) | (apply Exists.intro; refine ⟨fun _ => ?_, hK _ ?_⟩; (first | with_reducible exact CS.out _ _ | with_reducible exact CF.out _ _); clear hK K))
      iterate 12 (refine qw_skip (by kernel_rfl) ?_; simp only [Act.put, List.setIfInBounds_toArray, List.set_cons_succ, List.set_cons_zero])
      iterate 2 (refine qw_take (by kernel_rfl) (fun K hK => ?_); go_simp; first | (refine hK _ ?_; clear hK K) | (apply Exists.intro; refine ⟨fun _ => ?_, hK _ ?_⟩; (first | with_reducible exact CS.out _ _ | with_reducible exact CF.out _ _); clear hK K))
      refine qw_nil ?_
      intro _ hw'
      obtain ⟨⟨dq, osq⟩, hw''⟩ := hw'
      subst hw''
      have HBN := Lib.hid (below_keep hB.out (below_regrown wr dq osq) hB.out.size)
      clear CS CF
      go_wp2_with fail
      go_roundw
      case rel => exact ⟨1, by omega, by first | rfl | go_num, HBN⟩
      case measure => simp [intOf]
    | 1, hk =>
      rw [show (((1 : Nat)) : Int) = 1 from rfl]
      have X := H1.out.keep hB.out
      have Y := H2.out.keep hB.out
      have e10 : wr.cell? ⟨g, 2, none⟩ = some (.string n1) := X.cells 2 _ rfl
      have e11 : wr.cell? ⟨g, 3, none⟩ = some (.slice a1 5 c1) := X.cells 3 _ rfl
      have f10 : wr.cell? ⟨h, 2, none⟩ = some (.string n1) := Y.cells 2 _ rfl
      have f11 : wr.cell? ⟨h, 3, none⟩ = some (.slice b1 5 d1) := Y.cells 3 _ rfl
      have p0 : wr.cell? ⟨g, 0, none⟩ = some (.string n0) := X.cells 0 _ rfl
      have CS := Lib.hid (fun d os => Calls.regrown_of (rsame_is n1 a1 5 c1 pickupS n1 b1 5 d1 pickupS true (eqD_self _) (Sort.grow (redrawn wr d) os) (Rw.At.keep X.t1.at_ (below_regrown wr d os)) (Rw.At.keep Y.t1.at_ (below_regrown wr d os))))
      have CF := Lib.hid (fun d os => Calls.regrown_of (fit_is n1 a1 5 c1 pickupS true F1.out (Sort.grow (redrawn wr d) os) (Rw.At.keep X.t1.at_ (below_regrown wr d os)) Z1.out (by omega)))
      have r0 := fun d os => cell_regrown e10 d os
      have r1 := fun d os => cell_regrown e11 d os
      have r2 := fun d os => cell_regrown f10 d os
      have r3 := fun d os => cell_regrown f11 d os
      have r4 := fun d os => cell_regrown p0 d os
      clear X Y e10 e11 f10 f11 p0
      have q1 := L1.out.1
      have q2 := L1.out.2
      have qw : IntKind.i64.wrap 0 = 0 := rfl
      go_wp2_with fail
      refine wp_region_qw (by kernel_rfl) (by kernel_rfl) ?_
      iterate 36 (refine qw_take (by kernel_rfl) (fun K hK => ?_); go_simp; first | (refine hK _ ?_; clear hK K) | (apply Exists.intro; refine ⟨fun _ => ?_, hK _ ?_⟩; (first | with_reducible exact CS.out _ _ | with_reducible exact CF.out _ _); clear hK K))
      refine qw_nil ?_
      intro _ hw'
      obtain ⟨⟨dq, osq⟩, hw''⟩ := hw'
      subst hw''
      have HBN := Lib.hid (below_keep hB.out (below_regrown wr dq osq) hB.out.size)
      clear CS CF
      go_wp2_with fail
      go_roundw
      case rel => exact ⟨2, by omega, by first | rfl | go_num, HBN⟩
      case measure => simp [intOf]
    | 2, hk =>
      rw [show (((2 : Nat)) : Int) = 2 from rfl]
      have X := H1.out.keep hB.out
      have Y := H2.out.keep hB.out
      have e20 : wr.cell? ⟨g, 4, none⟩ = some (.string n2) := X.cells 4 _ rfl
      have e21 : wr.cell? ⟨g, 5, none⟩ = some (.slice a2 3 c2) := X.cells 5 _ rfl
      have f20 : wr.cell? ⟨h, 4, none⟩ = some (.string n2) := Y.cells 4 _ rfl
      have f21 : wr.cell? ⟨h, 5, none⟩ = some (.slice b2 3 d2) := Y.cells 5 _ rfl
      have p0 : wr.cell? ⟨g, 2, none⟩ = some (.string n1) := X.cells 2 _ rfl
      have CS := Lib.hid (fun d os => Calls.regrown_of (rsame_is n2 a2 3 c2 prepaidS n2 b2 3 d2 prepaidS true (eqD_self _) (Sort.grow (redrawn wr d) os) (Rw.At.keep X.t2.at_ (below_regrown wr d os)) (Rw.At.keep Y.t2.at_ (below_regrown wr d os))))
      have CF := Lib.hid (fun d os => Calls.regrown_of (fit_is n2 a2 3 c2 prepaidS true F2.out (Sort.grow (redrawn wr d) os) (Rw.At.keep X.t2.at_ (below_regrown wr d os)) Z2.out (by omega)))
      have r0 := fun d os => cell_regrown e20 d os
      have r1 := fun d os => cell_regrown e21 d os
      have r2 := fun d os => cell_regrown f20 d os
      have r3 := fun d os => cell_regrown f21 d os
      have r4 := fun d os => cell_regrown p0 d os
      clear X Y e20 e21 f20 f21 p0
      have q1 := L2.out.1
      have q2 := L2.out.2
      have qw : IntKind.i64.wrap 1 = 1 := rfl
      go_wp2_with fail
      refine wp_region_qw (by kernel_rfl) (by kernel_rfl) ?_
      iterate 36 (refine qw_take (by kernel_rfl) (fun K hK => ?_); go_simp; first | (refine hK _ ?_; clear hK K) | (apply Exists.intro; refine ⟨fun _ => ?_, hK _ ?_⟩; (first | with_reducible exact CS.out _ _ | with_reducible exact CF.out _ _); clear hK K))
      refine qw_nil ?_
      intro _ hw'
      obtain ⟨⟨dq, osq⟩, hw''⟩ := hw'
      subst hw''
      have HBN := Lib.hid (below_keep hB.out (below_regrown wr dq osq) hB.out.size)
      clear CS CF
      go_wp2_with fail
      go_roundw
      case rel => exact ⟨3, by omega, by first | rfl | go_num, HBN⟩
      case measure => simp [intOf]
    | 3, hk =>
      rw [show (((3 : Nat)) : Int) = 3 from rfl]
      have hba := (Below.refl wr.heap.size wr).alloc (Nat.le_refl _) (.cells #[.string ⟨#[102, 117, 108, 102, 105, 108, 32, 104, 111, 108, 100, 47, 115, 111, 102, 116, 47, 48, 47, 49, 47, 49, 47, 52, 48, 44, 97, 117, 116, 104, 47, 115, 111, 102, 116, 47, 51, 47, 49, 47, 56, 47, 51, 48, 44, 107, 101, 101, 112, 47, 115, 111, 102, 116, 47, 48, 47, 49, 47, 49, 47, 48, 44, 98, 111, 111, 107, 47, 112, 105, 118, 111, 116, 47, 51, 47, 49, 47, 56, 47, 48, 44, 115, 101, 110, 100, 47, 102, 105, 114, 109, 47, 48, 47, 49, 47, 49, 47, 48, 44, 116, 97, 107, 101, 47, 102, 105, 114, 109, 47, 53, 47, 49, 47, 56, 47, 48]⟩, .string ⟨#[112, 105, 99, 107, 117, 112, 32, 104, 111, 108, 100, 47, 115, 111, 102, 116, 47, 48, 47, 49, 47, 49, 47, 50, 48, 44, 97, 117, 116, 104, 47, 115, 111, 102, 116, 47, 50, 47, 49, 47, 52, 47, 50, 48, 44, 107, 101, 101, 112, 47, 115, 111, 102, 116, 47, 48, 47, 49, 47, 49, 47, 48, 44, 116, 97, 107, 101, 47, 112, 105, 118, 111, 116, 47, 50, 47, 49, 47, 52, 47, 48, 44, 115, 101, 110, 100, 47, 102, 105, 114, 109, 47, 48, 47, 49, 47, 49, 47, 48]⟩, .string ⟨#[112, 114, 101, 112, 97, 105, 100, 32, 97, 117, 116, 104, 47, 115, 111, 102, 116, 47, 51, 47, 50, 47, 56, 47, 48, 44, 116, 97, 107, 101, 47, 115, 111, 102, 116, 47, 51, 47, 50, 47, 56, 47, 48, 44, 98, 111, 111, 107, 47, 115, 111, 102, 116, 47, 51, 47, 49, 47, 52, 47, 53, 48]⟩] 9)
      have H4 := Lib.hid ((H1.out.keep hB.out).keep hba)
      have HB4 := Lib.hid (below_keep (below_keep HB2.out hB.out HB2.out.size) hba (below_keep HB2.out hB.out HB2.out.size).size)
      have ht : wr.heap.size < (wr.alloc (.cells #[.string ⟨#[102, 117, 108, 102, 105, 108, 32, 104, 111, 108, 100, 47, 115, 111, 102, 116, 47, 48, 47, 49, 47, 49, 47, 52, 48, 44, 97, 117, 116, 104, 47, 115, 111, 102, 116, 47, 51, 47, 49, 47, 56, 47, 51, 48, 44, 107, 101, 101, 112, 47, 115, 111, 102, 116, 47, 48, 47, 49, 47, 49, 47, 48, 44, 98, 111, 111, 107, 47, 112, 105, 118, 111, 116, 47, 51, 47, 49, 47, 56, 47, 48, 44, 115, 101, 110, 100, 47, 102, 105, 114, 109, 47, 48, 47, 49, 47, 49, 47, 48, 44, 116, 97, 107, 101, 47, 102, 105, 114, 109, 47, 53, 47, 49, 47, 56, 47, 48]⟩, .string ⟨#[112, 105, 99, 107, 117, 112, 32, 104, 111, 108, 100, 47, 115, 111, 102, 116, 47, 48, 47, 49, 47, 49, 47, 50, 48, 44, 97, 117, 116, 104, 47, 115, 111, 102, 116, 47, 50, 47, 49, 47, 52, 47, 50, 48, 44, 107, 101, 101, 112, 47, 115, 111, 102, 116, 47, 48, 47, 49, 47, 49, 47, 48, 44, 116, 97, 107, 101, 47, 112, 105, 118, 111, 116, 47, 50, 47, 49, 47, 52, 47, 48, 44, 115, 101, 110, 100, 47, 102, 105, 114, 109, 47, 48, 47, 49, 47, 49, 47, 48]⟩, .string ⟨#[112, 114, 101, 112, 97, 105, 100, 32, 97, 117, 116, 104, 47, 115, 111, 102, 116, 47, 51, 47, 50, 47, 56, 47, 48, 44, 116, 97, 107, 101, 47, 115, 111, 102, 116, 47, 51, 47, 50, 47, 56, 47, 48, 44, 98, 111, 111, 107, 47, 115, 111, 102, 116, 47, 51, 47, 49, 47, 52, 47, 53, 48]⟩] 9)).heap.size ∧ (wr.alloc (.cells #[.string ⟨#[102, 117, 108, 102, 105, 108, 32, 104, 111, 108, 100, 47, 115, 111, 102, 116, 47, 48, 47, 49, 47, 49, 47, 52, 48, 44, 97, 117, 116, 104, 47, 115, 111, 102, 116, 47, 51, 47, 49, 47, 56, 47, 51, 48, 44, 107, 101, 101, 112, 47, 115, 111, 102, 116, 47, 48, 47, 49, 47, 49, 47, 48, 44, 98, 111, 111, 107, 47, 112, 105, 118, 111, 116, 47, 51, 47, 49, 47, 56, 47, 48, 44, 115, 101, 110, 100, 47, 102, 105, 114, 109, 47, 48, 47, 49, 47, 49, 47, 48, 44, 116, 97, 107, 101, 47, 102, 105, 114, 109, 47, 53, 47, 49, 47, 56, 47, 48]⟩, .string ⟨#[112, 105, 99, 107, 117, 112, 32, 104, 111, 108, 100, 47, 115, 111, 102, 116, 47, 48, 47, 49, 47, 49, 47, 50, 48, 44, 97, 117, 116, 104, 47, 115, 111, 102, 116, 47, 50, 47, 49, 47, 52, 47, 50, 48, 44, 107, 101, 101, 112, 47, 115, 111, 102, 116, 47, 48, 47, 49, 47, 49, 47, 48, 44, 116, 97, 107, 101, 47, 112, 105, 118, 111, 116, 47, 50, 47, 49, 47, 52, 47, 48, 44, 115, 101, 110, 100, 47, 102, 105, 114, 109, 47, 48, 47, 49, 47, 49, 47, 48]⟩, .string ⟨#[112, 114, 101, 112, 97, 105, 100, 32, 97, 117, 116, 104, 47, 115, 111, 102, 116, 47, 51, 47, 50, 47, 56, 47, 48, 44, 116, 97, 107, 101, 47, 115, 111, 102, 116, 47, 51, 47, 50, 47, 56, 47, 48, 44, 98, 111, 111, 107, 47, 115, 111, 102, 116, 47, 51, 47, 49, 47, 52, 47, 53, 48]⟩] 9)).cell? ⟨wr.heap.size, 0, none⟩ = some (.string t0) ∧ (wr.alloc (.cells #[.string ⟨#[102, 117, 108, 102, 105, 108, 32, 104, 111, 108, 100, 47, 115, 111, 102, 116, 47, 48, 47, 49, 47, 49, 47, 52, 48, 44, 97, 117, 116, 104, 47, 115, 111, 102, 116, 47, 51, 47, 49, 47, 56, 47, 51, 48, 44, 107, 101, 101, 112, 47, 115, 111, 102, 116, 47, 48, 47, 49, 47, 49, 47, 48, 44, 98, 111, 111, 107, 47, 112, 105, 118, 111, 116, 47, 51, 47, 49, 47, 56, 47, 48, 44, 115, 101, 110, 100, 47, 102, 105, 114, 109, 47, 48, 47, 49, 47, 49, 47, 48, 44, 116, 97, 107, 101, 47, 102, 105, 114, 109, 47, 53, 47, 49, 47, 56, 47, 48]⟩, .string ⟨#[112, 105, 99, 107, 117, 112, 32, 104, 111, 108, 100, 47, 115, 111, 102, 116, 47, 48, 47, 49, 47, 49, 47, 50, 48, 44, 97, 117, 116, 104, 47, 115, 111, 102, 116, 47, 50, 47, 49, 47, 52, 47, 50, 48, 44, 107, 101, 101, 112, 47, 115, 111, 102, 116, 47, 48, 47, 49, 47, 49, 47, 48, 44, 116, 97, 107, 101, 47, 112, 105, 118, 111, 116, 47, 50, 47, 49, 47, 52, 47, 48, 44, 115, 101, 110, 100, 47, 102, 105, 114, 109, 47, 48, 47, 49, 47, 49, 47, 48]⟩, .string ⟨#[112, 114, 101, 112, 97, 105, 100, 32, 97, 117, 116, 104, 47, 115, 111, 102, 116, 47, 51, 47, 50, 47, 56, 47, 48, 44, 116, 97, 107, 101, 47, 115, 111, 102, 116, 47, 51, 47, 50, 47, 56, 47, 48, 44, 98, 111, 111, 107, 47, 115, 111, 102, 116, 47, 51, 47, 49, 47, 52, 47, 53, 48]⟩] 9)).cell? ⟨wr.heap.size, 1, none⟩ = some (.string t1) ∧ (wr.alloc (.cells #[.string ⟨#[102, 117, 108, 102, 105, 108, 32, 104, 111, 108, 100, 47, 115, 111, 102, 116, 47, 48, 47, 49, 47, 49, 47, 52, 48, 44, 97, 117, 116, 104, 47, 115, 111, 102, 116, 47, 51, 47, 49, 47, 56, 47, 51, 48, 44, 107, 101, 101, 112, 47, 115, 111, 102, 116, 47, 48, 47, 49, 47, 49, 47, 48, 44, 98, 111, 111, 107, 47, 112, 105, 118, 111, 116, 47, 51, 47, 49, 47, 56, 47, 48, 44, 115, 101, 110, 100, 47, 102, 105, 114, 109, 47, 48, 47, 49, 47, 49, 47, 48, 44, 116, 97, 107, 101, 47, 102, 105, 114, 109, 47, 53, 47, 49, 47, 56, 47, 48]⟩, .string ⟨#[112, 105, 99, 107, 117, 112, 32, 104, 111, 108, 100, 47, 115, 111, 102, 116, 47, 48, 47, 49, 47, 49, 47, 50, 48, 44, 97, 117, 116, 104, 47, 115, 111, 102, 116, 47, 50, 47, 49, 47, 52, 47, 50, 48, 44, 107, 101, 101, 112, 47, 115, 111, 102, 116, 47, 48, 47, 49, 47, 49, 47, 48, 44, 116, 97, 107, 101, 47, 112, 105, 118, 111, 116, 47, 50, 47, 49, 47, 52, 47, 48, 44, 115, 101, 110, 100, 47, 102, 105, 114, 109, 47, 48, 47, 49, 47, 49, 47, 48]⟩, .string ⟨#[112, 114, 101, 112, 97, 105, 100, 32, 97, 117, 116, 104, 47, 115, 111, 102, 116, 47, 51, 47, 50, 47, 56, 47, 48, 44, 116, 97, 107, 101, 47, 115, 111, 102, 116, 47, 51, 47, 50, 47, 56, 47, 48, 44, 98, 111, 111, 107, 47, 115, 111, 102, 116, 47, 51, 47, 49, 47, 52, 47, 53, 48]⟩] 9)).cell? ⟨wr.heap.size, 2, none⟩ = some (.string t2) := by
        refine ⟨by rw [World.size_alloc]; omega, ?_, ?_, ?_⟩
        · rw [World.cell?_alloc_new, ← U0.out]; rfl
        · rw [World.cell?_alloc_new, ← U1.out]; rfl
        · rw [World.cell?_alloc_new, ← U2.out]; rfl
      obtain ⟨u4, hu4⟩ : ∃ u, wr.alloc (.cells #[.string ⟨#[102, 117, 108, 102, 105, 108, 32, 104, 111, 108, 100, 47, 115, 111, 102, 116, 47, 48, 47, 49, 47, 49, 47, 52, 48, 44, 97, 117, 116, 104, 47, 115, 111, 102, 116, 47, 51, 47, 49, 47, 56, 47, 51, 48, 44, 107, 101, 101, 112, 47, 115, 111, 102, 116, 47, 48, 47, 49, 47, 49, 47, 48, 44, 98, 111, 111, 107, 47, 112, 105, 118, 111, 116, 47, 51, 47, 49, 47, 56, 47, 48, 44, 115, 101, 110, 100, 47, 102, 105, 114, 109, 47, 48, 47, 49, 47, 49, 47, 48, 44, 116, 97, 107, 101, 47, 102, 105, 114, 109, 47, 53, 47, 49, 47, 56, 47, 48]⟩, .string ⟨#[112, 105, 99, 107, 117, 112, 32, 104, 111, 108, 100, 47, 115, 111, 102, 116, 47, 48, 47, 49, 47, 49, 47, 50, 48, 44, 97, 117, 116, 104, 47, 115, 111, 102, 116, 47, 50, 47, 49, 47, 52, 47, 50, 48, 44, 107, 101, 101, 112, 47, 115, 111, 102, 116, 47, 48, 47, 49, 47, 49, 47, 48, 44, 116, 97, 107, 101, 47, 112, 105, 118, 111, 116, 47, 50, 47, 49, 47, 52, 47, 48, 44, 115, 101, 110, 100, 47, 102, 105, 114, 109, 47, 48, 47, 49, 47, 49, 47, 48]⟩, .string ⟨#[112, 114, 101, 112, 97, 105, 100, 32, 97, 117, 116, 104, 47, 115, 111, 102, 116, 47, 51, 47, 50, 47, 56, 47, 48, 44, 116, 97, 107, 101, 47, 115, 111, 102, 116, 47, 51, 47, 50, 47, 56, 47, 48, 44, 98, 111, 111, 107, 47, 115, 111, 102, 116, 47, 51, 47, 49, 47, 52, 47, 53, 48]⟩] 9) = u := ⟨_, rfl⟩
      obtain ⟨gt, hgt⟩ : ∃ g, wr.heap.size = g := ⟨_, rfl⟩
      rw [hu4, hgt] at ht
      rw [hu4] at H4 HB4
      have HT4 := Lib.hid ht
      have HGT := Lib.hid ht.1
      have HU4 := Lib.hid hu4
      have HGE := Lib.hid hgt
      clear hba ht hu4 hgt
      go_wp2_with fail
      rw [show wr.alloc (.cells #[.string ⟨#[102, 117, 108, 102, 105, 108, 32, 104, 111, 108, 100, 47, 115, 111, 102, 116, 47, 48, 47, 49, 47, 49, 47, 52, 48, 44, 97, 117, 116, 104, 47, 115, 111, 102, 116, 47, 51, 47, 49, 47, 56, 47, 51, 48, 44, 107, 101, 101, 112, 47, 115, 111, 102, 116, 47, 48, 47, 49, 47, 49, 47, 48, 44, 98, 111, 111, 107, 47, 112, 105, 118, 111, 116, 47, 51, 47, 49, 47, 56, 47, 48, 44, 115, 101, 110, 100, 47, 102, 105, 114, 109, 47, 48, 47, 49, 47, 49, 47, 48, 44, 116, 97, 107, 101, 47, 102, 105, 114, 109, 47, 53, 47, 49, 47, 56, 47, 48]⟩, .string ⟨#[112, 105, 99, 107, 117, 112, 32, 104, 111, 108, 100, 47, 115, 111, 102, 116, 47, 48, 47, 49, 47, 49, 47, 50, 48, 44, 97, 117, 116, 104, 47, 115, 111, 102, 116, 47, 50, 47, 49, 47, 52, 47, 50, 48, 44, 107, 101, 101, 112, 47, 115, 111, 102, 116, 47, 48, 47, 49, 47, 49, 47, 48, 44, 116, 97, 107, 101, 47, 112, 105, 118, 111, 116, 47, 50, 47, 49, 47, 52, 47, 48, 44, 115, 101, 110, 100, 47, 102, 105, 114, 109, 47, 48, 47, 49, 47, 49, 47, 48]⟩, .string ⟨#[112, 114, 101, 112, 97, 105, 100, 32, 97, 117, 116, 104, 47, 115, 111, 102, 116, 47, 51, 47, 50, 47, 56, 47, 48, 44, 116, 97, 107, 101, 47, 115, 111, 102, 116, 47, 51, 47, 50, 47, 56, 47, 48, 44, 98, 111, 111, 107, 47, 115, 111, 102, 116, 47, 51, 47, 49, 47, 52, 47, 53, 48]⟩] 9) = u4 from HU4.out, show wr.heap.size = gt from HGE.out]
      go_loopw [5] (fun i wr => ∃ k : Nat, k ≤ 3 ∧ i = .int .i64 (k : Int) ∧ Hid (Below u4.heap.size u4 wr)) (fun i _ => 3 - (intOf i).toNat)
      case atStart => exact ⟨0, by omega, rfl, Below.refl _ u4⟩
      case round =>
        obtain ⟨k, hk, rfl, hB2⟩ := hrel
        match k, hk with
        | 0, hk =>
          rw [show (((0 : Nat)) : Int) = 0 from rfl]
          have X := H4.out.keep hB2.out
          have y0 : wr.cell? ⟨gt, 0, none⟩ = some (.string t0) := (hB2.out.cell (p := ⟨gt, 0, none⟩) HGT.out).trans (HT4.out.2.1)
          have e00 : wr.cell? ⟨g, 0, none⟩ = some (.string n0) := X.cells 0 _ rfl
          have e01 : wr.cell? ⟨g, 1, none⟩ = some (.slice a0 6 c0) := X.cells 1 _ rfl
          have CT := Lib.hid (fun d os => Calls.regrown_of (text_is n0 a0 6 c0 fulfilS t0 T0.out (Sort.grow (redrawn wr d) os) (Rw.At.keep X.t0.at_ (below_regrown wr d os)) Z0.out (by omega) (HTab.out _ (below_keep HB4.out (below_keep hB2.out (below_regrown wr d os) hB2.out.size) HB4.out.size))))
          have r0 := fun d os => cell_regrown e00 d os
          have r1 := fun d os => cell_regrown e01 d os
          have r2 := fun d os => cell_regrown y0 d os
          have htt : (t0.toList == t0.toList) = true := by simp
          clear X e00 e01 y0
          go_wp2_with fail
          refine wp_region_qw (by kernel_rfl) (by kernel_rfl) ?_
          iterate 10 (refine qw_take (by kernel_rfl) (fun K hK => ?_); go_simp; first | (refine hK _ ?_; clear hK K) | (apply Exists.intro; refine ⟨fun _ => ?_, hK _ ?_⟩; (first | with_reducible exact CT.out _ _); clear hK K))
          refine qw_nil ?_
          intro _ hw'
          obtain ⟨⟨dq, osq⟩, hw''⟩ := hw'
          subst hw''
          have HBN := Lib.hid (below_keep hB2.out (below_regrown wr dq osq) hB2.out.size)
          clear CT
          go_wp2_with fail
          go_roundw
          case rel => exact ⟨1, by omega, by first | rfl | go_num, HBN⟩
          case measure => simp [intOf]
        | 1, hk =>
          rw [show (((1 : Nat)) : Int) = 1 from rfl]
          have X := H4.out.keep hB2.out
          have y0 : wr.cell? ⟨gt, 1, none⟩ = some (.string t1) := (hB2.out.cell (p := ⟨gt, 1, none⟩) HGT.out).trans (HT4.out.2.2.1)
          have e10 : wr.cell? ⟨g, 2, none⟩ = some (.string n1) := X.cells 2 _ rfl
          have e11 : wr.cell? ⟨g, 3, none⟩ = some (.slice a1 5 c1) := X.cells 3 _ rfl
          have CT := Lib.hid (fun d os => Calls.regrown_of (text_is n1 a1 5 c1 pickupS t1 T1.out (Sort.grow (redrawn wr d) os) (Rw.At.keep X.t1.at_ (below_regrown wr d os)) Z1.out (by omega) (HTab.out _ (below_keep HB4.out (below_keep hB2.out (below_regrown wr d os) hB2.out.size) HB4.out.size))))
          have r0 := fun d os => cell_regrown e10 d os
          have r1 := fun d os => cell_regrown e11 d os
          have r2 := fun d os => cell_regrown y0 d os
          have htt : (t1.toList == t1.toList) = true := by simp
          clear X e10 e11 y0
          go_wp2_with fail
          refine wp_region_qw (by kernel_rfl) (by kernel_rfl) ?_
          iterate 10 (refine qw_take (by kernel_rfl) (fun K hK => ?_); go_simp; first | (refine hK _ ?_; clear hK K) | (apply Exists.intro; refine ⟨fun _ => ?_, hK _ ?_⟩; (first | with_reducible exact CT.out _ _); clear hK K))
          refine qw_nil ?_
          intro _ hw'
          obtain ⟨⟨dq, osq⟩, hw''⟩ := hw'
          subst hw''
          have HBN := Lib.hid (below_keep hB2.out (below_regrown wr dq osq) hB2.out.size)
          clear CT
          go_wp2_with fail
          go_roundw
          case rel => exact ⟨2, by omega, by first | rfl | go_num, HBN⟩
          case measure => simp [intOf]
        | 2, hk =>
          rw [show (((2 : Nat)) : Int) = 2 from rfl]
          have X := H4.out.keep hB2.out
          have y0 : wr.cell? ⟨gt, 2, none⟩ = some (.string t2) := (hB2.out.cell (p := ⟨gt, 2, none⟩) HGT.out).trans (HT4.out.2.2.2)
          have e20 : wr.cell? ⟨g, 4, none⟩ = some (.string n2) := X.cells 4 _ rfl
          have e21 : wr.cell? ⟨g, 5, none⟩ = some (.slice a2 3 c2) := X.cells 5 _ rfl
          have CT := Lib.hid (fun d os => Calls.regrown_of (text_is n2 a2 3 c2 prepaidS t2 T2.out (Sort.grow (redrawn wr d) os) (Rw.At.keep X.t2.at_ (below_regrown wr d os)) Z2.out (by omega) (HTab.out _ (below_keep HB4.out (below_keep hB2.out (below_regrown wr d os) hB2.out.size) HB4.out.size))))
          have r0 := fun d os => cell_regrown e20 d os
          have r1 := fun d os => cell_regrown e21 d os
          have r2 := fun d os => cell_regrown y0 d os
          have htt : (t2.toList == t2.toList) = true := by simp
          clear X e20 e21 y0
          go_wp2_with fail
          refine wp_region_qw (by kernel_rfl) (by kernel_rfl) ?_
          iterate 10 (refine qw_take (by kernel_rfl) (fun K hK => ?_); go_simp; first | (refine hK _ ?_; clear hK K) | (apply Exists.intro; refine ⟨fun _ => ?_, hK _ ?_⟩; (first | with_reducible exact CT.out _ _); clear hK K))
          refine qw_nil ?_
          intro _ hw'
          obtain ⟨⟨dq, osq⟩, hw''⟩ := hw'
          subst hw''
          have HBN := Lib.hid (below_keep hB2.out (below_regrown wr dq osq) hB2.out.size)
          clear CT
          go_wp2_with fail
          go_roundw
          case rel => exact ⟨3, by omega, by first | rfl | go_num, HBN⟩
          case measure => simp [intOf]
        | 3, hk =>
          rw [show (((3 : Nat)) : Int) = 3 from rfl]
          have HBE := Lib.hid (below_keep HB4.out hB2.out HB4.out.size)
          have CA := Lib.hid (awake_any wr (HV.out _ HBE.out))
          go_wp2_with fail
          refine CA.out.mono ?_
          rintro e wz ⟨rfl, hb⟩
          have HBZ := Lib.hid (below_keep HBE.out hb HBE.out.size)
          clear hb
          go_wp2_with fail
          go_ret
          exact ⟨rfl, HBZ.out⟩
        | k + 4, hk => omega
    | k + 4, hk => omega
end Go.Proofs.YtdpgfnnhbfkacaaDoor.Def
namespace Go.Proofs.YtdpgfnnhbfkacaaDoor
open Go.RowKit DefP
/-- What stands in the library's own variables. -/
def Laid (w : World) : Prop := Num.Tab w ∧ Go.Proofs.YtdpgfnnhbfkacaaDoor.Step.Vars w
theorem laid_of {W : World} (h : laidMetH Tryd.prog Rows.defBuiltRow.laid W) (hs : W.ShapedOpen Tryd.prog) : Laid W := ⟨tab_of (by kernel_rfl) h, maxLen_of hs⟩
theorem Contract.defBuilt (W : World) (ht : Laid W) : Calls Tryd.prog 4 #[] W fun e W' => e = .returned (.bool true) ∧ Below W.heap.size W W' :=
  Go.Proofs.YtdpgfnnhbfkacaaDoor.Def.lbuilt_any W ht.1 ht.2
end Go.Proofs.YtdpgfnnhbfkacaaDoor
