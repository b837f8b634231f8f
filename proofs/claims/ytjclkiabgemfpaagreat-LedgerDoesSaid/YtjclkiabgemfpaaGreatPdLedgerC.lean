/-
  The contracts of ascending, agree and Fit: any books; what was there stays as it was.
-/
import Derived.Test.YtjclkiabgemfpaaGreatPdLedgerB
import Derived.BigRegion
set_option linter.unusedVariables false
set_option maxRecDepth 4000
namespace Go.Proofs.YtjclkiabgemfpaaGreat.Ledger
open Go.RowKit LinesP HoldsP LedgerP
open StockP (Sk sk0 fitS Fit fitS_iff)
open Go.Proofs.YtjclkiabgemfpaaGreat.Lines (LsAt Sz SzM ret_bool ret_int below_keep below_drewN owns_form owns_cell owns_below Qw qw_skip qw_take qw_nil wp_region_qw less_total less_not boxed boxed_alloc boxed_below boxed_cells boxed_size)
open Go.Proofs.YtjclkiabgemfpaaGreat.Holds (HsAt SzH hmf box box_below box_cells box_size)

/-! ### in order, and fit each -/
def asU : Option ByteArray → List Sk → Bool
  | _, [] => true
  | none, x :: r => fitS x && asU (some x.nm) r
  | some q, x :: r => fitS x && lss q x.nm && asU (some x.nm) r
def ascS (l : List Sk) : Bool := decide (l.length ≤ 12) && asU none l
theorem as_done {l : List Sk} {k : Nat} (h : ¬ k < l.length) : asU (prevS l k) (l.drop k) = true := by
  rw [List.drop_eq_nil_of_le (by omega)]; cases prevS l k <;> rfl
theorem as_no {l : List Sk} {k : Nat} {x : Sk} (hk : k < l.length) (hx : l.getD k sk0 = x) (h : fitS x = false) : asU (prevS l k) (l.drop k) = false := by
  rw [sdrop_at hk hx]
  cases prevS l k <;> (rw [asU, h]; rfl)
theorem as_less {l : List Sk} {k : Nat} {x y : Sk} (h0 : 0 < k) (hk : k < l.length) (hx : l.getD k sk0 = x) (hy : l.getD (k - 1) sk0 = y) (h : lss y.nm x.nm = false) : asU (prevS l k) (l.drop k) = false := by
  rw [sdrop_at hk hx]
  unfold prevS
  rw [if_neg (by omega), hy, asU, h, Bool.and_false]
  rfl
theorem as_go0 {l : List Sk} {x : Sk} (hk : 0 < l.length) (hx : l.getD 0 sk0 = x) (h1 : fitS x = true) : asU (prevS l 0) (l.drop 0) = asU (prevS l (0 + 1)) (l.drop (0 + 1)) := by
  rw [sdrop_at hk hx, prevS_succ hx]
  unfold prevS
  rw [if_pos rfl, asU, h1]; rfl
theorem as_go {l : List Sk} {k : Nat} {x y : Sk} (h0 : 0 < k) (hk : k < l.length) (hx : l.getD k sk0 = x) (hy : l.getD (k - 1) sk0 = y) (h1 : fitS x = true) (h : lss y.nm x.nm = true) : asU (prevS l k) (l.drop k) = asU (prevS l (k + 1)) (l.drop (k + 1)) := by
  rw [sdrop_at hk hx, prevS_succ hx]
  unfold prevS
  rw [if_neg (by omega), hy, asU, h1, h]; rfl
theorem ascS_short {l : List Sk} (h : l.length ≤ 12) : ascS l = asU (prevS l 0) (l.drop 0) := by
  unfold ascS; rw [decide_eq_true h]; rfl
theorem ascS_long {l : List Sk} (h : ¬ l.length ≤ 12) : ascS l = false := by
  unfold ascS; rw [decide_eq_false h]; rfl
def heldAll (hd : List Hd) (l : List Sk) : Bool := l.all fun x => x.held == sumH x.nm hd
theorem skUp_as (hd : List Hd) : ∀ (q : Option ByteArray) (l : List Sk), skUp hd q l = (asU q l && heldAll hd l)
  | _, [] => by rw [skUp, asU]; rfl
  | none, x :: r => by
    rw [skUp, asU, skUp_as hd _ r]
    show _ = (fitS x && asU (some x.nm) r && ((x.held == sumH x.nm hd) && heldAll hd r))
    unfold oneS
    cases fitS x <;> cases (x.held == sumH x.nm hd) <;> cases asU (some x.nm) r <;> rfl
  | some q, x :: r => by
    rw [skUp, asU, skUp_as hd _ r]
    show _ = (fitS x && lss q x.nm && asU (some x.nm) r && ((x.held == sumH x.nm hd) && heldAll hd r))
    unfold oneS
    cases fitS x <;> cases (x.held == sumH x.nm hd) <;> cases asU (some x.nm) r <;> cases lss q x.nm <;> rfl
def agrB (b : Bk) : Bool := presB b.sk b.hd && heldAll b.hd b.sk
theorem fitB_parts (b : Bk) : fitB b = (ascS b.sk && (fitH b.hd && agrB b)) := by
  unfold fitB ascS agrB
  rw [skUp_as]
  cases decide (b.sk.length ≤ 12) <;> cases fitH b.hd <;> cases asU none b.sk <;> cases heldAll b.hd b.sk <;> cases presB b.sk b.hd <;> rfl
theorem asU_some : ∀ {q : ByteArray} {l : List Sk}, asU (some q) l = true → (∀ x ∈ l, fitS x = true ∧ lt q x.nm) ∧ UpS l
  | q, [], _ => ⟨fun x hx => (by cases hx), List.Pairwise.nil⟩
  | q, x :: r, h => by
    rw [asU] at h
    simp only [Bool.and_eq_true] at h
    obtain ⟨⟨h1, h2⟩, h3⟩ := h
    obtain ⟨h4, h5⟩ := asU_some h3
    have h2 := lss_lt.1 h2
    refine ⟨fun y hy => ?_, List.pairwise_cons.2 ⟨fun y hy => (h4 y hy).2, h5⟩⟩
    rcases List.mem_cons.1 hy with rfl | hy
    · exact ⟨h1, h2⟩
    · exact ⟨(h4 y hy).1, lt_trans h2 (h4 y hy).2⟩
theorem ascS_up {l : List Sk} (h : ascS l = true) : l.length ≤ 12 ∧ (∀ x ∈ l, fitS x = true) ∧ UpS l := by
  unfold ascS at h
  rw [Bool.and_eq_true, decide_eq_true_eq] at h
  refine ⟨h.1, ?_⟩
  cases l with
  | nil => exact ⟨fun x hx => (by cases hx), List.Pairwise.nil⟩
  | cons x r =>
    have h2 := h.2
    rw [asU, Bool.and_eq_true] at h2
    obtain ⟨h4, h5⟩ := asU_some h2.2
    refine ⟨fun y hy => ?_, List.pairwise_cons.2 ⟨fun y hy => (h4 y hy).2, h5⟩⟩
    rcases List.mem_cons.1 hy with rfl | hy
    · exact h2.1
    · exact (h4 y hy).1
theorem SzS.at {l : List Sk} (h : SzS l) {k : Nat} (hk : k < l.length) {x : Sk} (hx : l.getD k sk0 = x) : x.nm.size ≤ 300 := by
  rw [← hx]; exact h _ (smem_getD hk)

set_option maxHeartbeats 1000000 in
theorem asc_any (a : Option Addr) (len cap : Nat) (l : List Sk) (w : World) (h : SkAt w a len l) (hz : SzS l) :
    Calls Tryz.prog 36 #[.slice a len cap] w fun e w' => e = .returned (.bool (ascS l)) ∧ Below w.heap.size w w' := by
  obtain ⟨v, hv⟩ : ∃ v, ascS l = v := ⟨_, rfl⟩
  rw [hv]
  have hl := h.2.1
  by_cases h16 : len ≤ 12
  · have HV : Hid (v = asU (prevS l 0) (l.drop 0)) := (hv.symm.trans (ascS_short (by rw [h.1]; exact h16)))
    have HX := Lib.hid h; have HS := Lib.hid hz
    clear h hv hz
    go_enter Tryz.func36, Tryz.ntmps36
    go_wp2_with fail
    go_loopw [10] (fun i wr => ∃ k : Nat, k ≤ len ∧ i = .int .i64 (k : Int) ∧ Hid (v = asU (prevS l k) (l.drop k)) ∧ Hid (Below w.heap.size w wr)) (fun i _ => len - (intOf i).toNat)
    case atStart => exact ⟨0, Nat.zero_le _, rfl, HV, Below.refl _ w⟩
    case round =>
      obtain ⟨k, hk, rfl, hd, hB⟩ := hrel
      by_cases hlk : k < len
      · have hkx : k < l.length := by rw [HX.out.1]; exact hlk
        obtain ⟨b1, o1, s, x0, x1, x2, x3, x4, rfl, g1, hp, hc1⟩ := HX.out.at hlk
        have hsz : s.size ≤ 4398046511104 := Nat.le_trans (HS.out.at hkx hp) (by decide)
        obtain ⟨d0, d1, d2, d3, d4, d5⟩ := hc1 wr hB.out
        have HN6 := bx_new wr (.string s) (.int .i64 x0) (.int .i64 x1) (.int .i64 x2) (.int .i64 x3) (.int .i64 x4)
        have HB2 := Lib.hid (below_keep hB.out HN6.bel hB.out.size)
        obtain ⟨c0, c1, c2, c3, c4, c5⟩ := cells6 HN6.box
        obtain ⟨W, hW⟩ : ∃ W, wr.alloc (.cells #[.string s, .int .i64 x0, .int .i64 x1, .int .i64 x2, .int .i64 x3, .int .i64 x4] 41) = W := ⟨_, rfl⟩
        rw [hW] at c0 c1 c2 c3 c4 c5 HB2
        have g0 := Lib.hid (fun d os => cell_regrown c0 d os)
        have ga := Lib.hid (fun d os => cell_regrown c1 d os)
        have gb := Lib.hid (fun d os => cell_regrown c2 d os)
        have gc := Lib.hid (fun d os => cell_regrown c3 d os)
        have gd := Lib.hid (fun d os => cell_regrown c4 d os)
        have ge := Lib.hid (fun d os => cell_regrown c5 d os)
        have HW := Lib.hid hW
        clear c0 c1 c2 c3 c4 c5 hW HN6
        cases h1 : fitS ⟨s, x0, x1, x2, x3, x4⟩ with
        | false =>
          have HD := Lib.hid (hd.out.trans (as_no hkx hp h1))
          have C1 := Lib.hid (fun d os => Calls.regrown_of (sfit_is s x0 x1 x2 x3 x4 false (Sort.grow (redrawn W d) os) hsz h1))
          clear hd hp hkx hB hc1 hsz
          go_wp2_with fail
          have e0 := g0.out; have ea := ga.out; have eb := gb.out; have ec := gc.out; have ed := gd.out; have ee := ge.out
          rw [show wr.alloc (.cells #[.string s, .int .i64 x0, .int .i64 x1, .int .i64 x2, .int .i64 x3, .int .i64 x4] 41) = W from HW.out]
          clear d0 d1 d2 d3 d4 d5
          refine wp_region_qw (by kernel_rfl) (by kernel_rfl) ?_
          refine qw_take (by kernel_rfl) (fun K hK => ?_); go_simp; first | (refine hK _ ?_; clear hK K) | (apply Exists.intro; refine ⟨fun _ => ?_, hK _ ?_⟩; (first | with_reducible exact C1.out _ _); clear hK K)
          refine qw_take (by kernel_rfl) (fun K hK => ?_); go_simp; first | (refine hK _ ?_; clear hK K) | (apply Exists.intro; refine ⟨fun _ => ?_, hK _ ?_⟩; (first | with_reducible exact C1.out _ _); clear hK K)
          refine qw_take (by kernel_rfl) (fun K hK => ?_); go_simp; first | (refine hK _ ?_; clear hK K) | (apply Exists.intro; refine ⟨fun _ => ?_, hK _ ?_⟩; (first | with_reducible exact C1.out _ _); clear hK K)
          refine qw_take (by kernel_rfl) (fun K hK => ?_); go_simp; first | (refine hK _ ?_; clear hK K) | (apply Exists.intro; refine ⟨fun _ => ?_, hK _ ?_⟩; (first | with_reducible exact C1.out _ _); clear hK K)
          refine qw_skip (by kernel_rfl) ?_; simp only [Act.put, List.setIfInBounds_toArray, List.set_cons_succ, List.set_cons_zero]
          refine qw_skip (by kernel_rfl) ?_; simp only [Act.put, List.setIfInBounds_toArray, List.set_cons_succ, List.set_cons_zero]
          refine qw_skip (by kernel_rfl) ?_; simp only [Act.put, List.setIfInBounds_toArray, List.set_cons_succ, List.set_cons_zero]
          refine qw_skip (by kernel_rfl) ?_; simp only [Act.put, List.setIfInBounds_toArray, List.set_cons_succ, List.set_cons_zero]
          refine qw_skip (by kernel_rfl) ?_; simp only [Act.put, List.setIfInBounds_toArray, List.set_cons_succ, List.set_cons_zero]
          refine qw_skip (by kernel_rfl) ?_; simp only [Act.put, List.setIfInBounds_toArray, List.set_cons_succ, List.set_cons_zero]
          refine qw_skip (by kernel_rfl) ?_; simp only [Act.put, List.setIfInBounds_toArray, List.set_cons_succ, List.set_cons_zero]
          refine qw_skip (by kernel_rfl) ?_; simp only [Act.put, List.setIfInBounds_toArray, List.set_cons_succ, List.set_cons_zero]
          refine qw_skip (by kernel_rfl) ?_; simp only [Act.put, List.setIfInBounds_toArray, List.set_cons_succ, List.set_cons_zero]
          refine qw_skip (by kernel_rfl) ?_; simp only [Act.put, List.setIfInBounds_toArray, List.set_cons_succ, List.set_cons_zero]
          refine qw_skip (by kernel_rfl) ?_; simp only [Act.put, List.setIfInBounds_toArray, List.set_cons_succ, List.set_cons_zero]
          refine qw_skip (by kernel_rfl) ?_; simp only [Act.put, List.setIfInBounds_toArray, List.set_cons_succ, List.set_cons_zero]
          refine qw_skip (by kernel_rfl) ?_; simp only [Act.put, List.setIfInBounds_toArray, List.set_cons_succ, List.set_cons_zero]
          refine qw_take (by kernel_rfl) (fun K hK => ?_); go_simp; first | (refine hK _ ?_; clear hK K) | (apply Exists.intro; refine ⟨fun _ => ?_, hK _ ?_⟩; (first | with_reducible exact C1.out _ _); clear hK K)
          refine qw_nil ?_
          intro _ hw'
          obtain ⟨⟨dq, osq⟩, hw''⟩ := hw'
          subst hw''
          have HB3 := Lib.hid (HB2.out.trans ((below_regrown W dq osq).mono HB2.out.size))
          clear e0 ea eb ec ed ee C1
          generalize Sort.grow (redrawn W dq) osq = w3 at *
          go_wp2_with fail
          go_ret
          exact ⟨ret_bool HD.out, HB3.out⟩
        | true =>
          by_cases hk0 : k = 0
          · subst hk0
            have HD := Lib.hid (hd.out.trans (as_go0 hkx hp h1))
            rw [Nat.zero_mul, Nat.add_zero] at d0 d1 d2 d3 d4 d5
            have C1 := Lib.hid (fun d os => Calls.regrown_of (sfit_is s x0 x1 x2 x3 x4 true (Sort.grow (redrawn W d) os) hsz h1))
            clear hd hp hkx hB hc1 hsz
            go_wp2_with fail
            have e0 := g0.out; have ea := ga.out; have eb := gb.out; have ec := gc.out; have ed := gd.out; have ee := ge.out
            rw [show wr.alloc (.cells #[.string s, .int .i64 x0, .int .i64 x1, .int .i64 x2, .int .i64 x3, .int .i64 x4] 41) = W from HW.out]
            clear d0 d1 d2 d3 d4 d5
            refine wp_region_qw (by kernel_rfl) (by kernel_rfl) ?_
            refine qw_take (by kernel_rfl) (fun K hK => ?_); go_simp; first | (refine hK _ ?_; clear hK K) | (apply Exists.intro; refine ⟨fun _ => ?_, hK _ ?_⟩; (first | with_reducible exact C1.out _ _); clear hK K)
            refine qw_take (by kernel_rfl) (fun K hK => ?_); go_simp; first | (refine hK _ ?_; clear hK K) | (apply Exists.intro; refine ⟨fun _ => ?_, hK _ ?_⟩; (first | with_reducible exact C1.out _ _); clear hK K)
            refine qw_take (by kernel_rfl) (fun K hK => ?_); go_simp; first | (refine hK _ ?_; clear hK K) | (apply Exists.intro; refine ⟨fun _ => ?_, hK _ ?_⟩; (first | with_reducible exact C1.out _ _); clear hK K)
            refine qw_take (by kernel_rfl) (fun K hK => ?_); go_simp; first | (refine hK _ ?_; clear hK K) | (apply Exists.intro; refine ⟨fun _ => ?_, hK _ ?_⟩; (first | with_reducible exact C1.out _ _); clear hK K)
            refine qw_take (by kernel_rfl) (fun K hK => ?_); go_simp; first | (refine hK _ ?_; clear hK K) | (apply Exists.intro; refine ⟨fun _ => ?_, hK _ ?_⟩; (first | with_reducible exact C1.out _ _); clear hK K)
            refine qw_take (by kernel_rfl) (fun K hK => ?_); go_simp; first | (refine hK _ ?_; clear hK K) | (apply Exists.intro; refine ⟨fun _ => ?_, hK _ ?_⟩; (first | with_reducible exact C1.out _ _); clear hK K)
            refine qw_take (by kernel_rfl) (fun K hK => ?_); go_simp; first | (refine hK _ ?_; clear hK K) | (apply Exists.intro; refine ⟨fun _ => ?_, hK _ ?_⟩; (first | with_reducible exact C1.out _ _); clear hK K)
            refine qw_skip (by kernel_rfl) ?_; simp only [Act.put, List.setIfInBounds_toArray, List.set_cons_succ, List.set_cons_zero]
            refine qw_skip (by kernel_rfl) ?_; simp only [Act.put, List.setIfInBounds_toArray, List.set_cons_succ, List.set_cons_zero]
            refine qw_skip (by kernel_rfl) ?_; simp only [Act.put, List.setIfInBounds_toArray, List.set_cons_succ, List.set_cons_zero]
            refine qw_skip (by kernel_rfl) ?_; simp only [Act.put, List.setIfInBounds_toArray, List.set_cons_succ, List.set_cons_zero]
            refine qw_skip (by kernel_rfl) ?_; simp only [Act.put, List.setIfInBounds_toArray, List.set_cons_succ, List.set_cons_zero]
            refine qw_skip (by kernel_rfl) ?_; simp only [Act.put, List.setIfInBounds_toArray, List.set_cons_succ, List.set_cons_zero]
            refine qw_skip (by kernel_rfl) ?_; simp only [Act.put, List.setIfInBounds_toArray, List.set_cons_succ, List.set_cons_zero]
            refine qw_skip (by kernel_rfl) ?_; simp only [Act.put, List.setIfInBounds_toArray, List.set_cons_succ, List.set_cons_zero]
            refine qw_skip (by kernel_rfl) ?_; simp only [Act.put, List.setIfInBounds_toArray, List.set_cons_succ, List.set_cons_zero]
            refine qw_take (by kernel_rfl) (fun K hK => ?_); go_simp; first | (refine hK _ ?_; clear hK K) | (apply Exists.intro; refine ⟨fun _ => ?_, hK _ ?_⟩; (first | with_reducible exact C1.out _ _); clear hK K)
            refine qw_take (by kernel_rfl) (fun K hK => ?_); go_simp; first | (refine hK _ ?_; clear hK K) | (apply Exists.intro; refine ⟨fun _ => ?_, hK _ ?_⟩; (first | with_reducible exact C1.out _ _); clear hK K)
            refine qw_nil ?_
            intro _ hw'
            obtain ⟨⟨dq, osq⟩, hw''⟩ := hw'
            subst hw''
            have HB3 := Lib.hid (HB2.out.trans ((below_regrown W dq osq).mono HB2.out.size))
            clear e0 ea eb ec ed ee C1
            generalize Sort.grow (redrawn W dq) osq = w3 at *
            go_wp2_with fail
            go_roundw
            case rel => exact ⟨0 + 1, by omega, by go_num, HD, HB3⟩
            case measure => simp [intOf]; omega
          · obtain ⟨j, rfl⟩ : ∃ j, k = j + 1 := ⟨k - 1, by omega⟩
            obtain ⟨b2, o2, t, y0, y1, y2, y3, y4, hab, _, hq2, hc2⟩ := HX.out.at (k := j) (by omega)
            cases hab
            have hq3 : l.getD (j + 1 - 1) sk0 = ⟨t, y0, y1, y2, y3, y4⟩ := hq2
            have d6 := (hc2 W HB2.out).1
            have e6 := fun d os => cell_regrown d6 d os
            have hsub : IntKind.i64.wrap ((((j + 1 : Nat)) : Int) - 1) = (j : Int) := by rw [show (((j + 1 : Nat)) : Int) - 1 = (j : Int) by omega]; exact Lines.wrap_small j (by omega)
            have hsub2 : IntKind.i64.wrap (((j : Int) + 1) - 1) = (j : Int) := by rw [show ((j : Int) + 1) - 1 = (j : Int) by omega]; exact Lines.wrap_small j (by omega)
            have hsub3 := Lines.wrap_small j (by omega)
            have hjl : (j : Int) < (len : Int) := by omega
            have hj1l : (j : Int) + 1 < (len : Int) := by omega
            have hj0 : (0 : Int) ≤ (j : Int) := by omega
            have hj1 : (0 : Int) ≤ (j : Int) + 1 := by omega
            have hgt : decide ((0 : Int) < (j : Int) + 1) = true := decide_eq_true (by omega)
            clear hc2
            cases hls : lss t s with
            | false =>
              have HD := Lib.hid (hd.out.trans (as_less (by omega) hkx hp hq3 hls))
              have hle2 : Op.bytesLess t.toList s.toList = false := by rw [ByteArray.toList_eq, ByteArray.toList_eq]; exact hls
              have C1 := Lib.hid (fun d os => Calls.regrown_of (sfit_is s x0 x1 x2 x3 x4 true (Sort.grow (redrawn W d) os) hsz h1))
              clear hd hp hkx hB hc1 hsz d6 hq2 hq3 hls
              go_wp2_with fail
              have e0 := g0.out; have ea := ga.out; have eb := gb.out; have ec := gc.out; have ed := gd.out; have ee := ge.out
              rw [show wr.alloc (.cells #[.string s, .int .i64 x0, .int .i64 x1, .int .i64 x2, .int .i64 x3, .int .i64 x4] 41) = W from HW.out]
              clear d0 d1 d2 d3 d4 d5
              refine wp_region_qw (by kernel_rfl) (by kernel_rfl) ?_
              refine qw_take (by kernel_rfl) (fun K hK => ?_); go_simp; first | (refine hK _ ?_; clear hK K) | (apply Exists.intro; refine ⟨fun _ => ?_, hK _ ?_⟩; (first | with_reducible exact C1.out _ _); clear hK K)
              refine qw_take (by kernel_rfl) (fun K hK => ?_); go_simp; first | (refine hK _ ?_; clear hK K) | (apply Exists.intro; refine ⟨fun _ => ?_, hK _ ?_⟩; (first | with_reducible exact C1.out _ _); clear hK K)
              refine qw_take (by kernel_rfl) (fun K hK => ?_); go_simp; first | (refine hK _ ?_; clear hK K) | (apply Exists.intro; refine ⟨fun _ => ?_, hK _ ?_⟩; (first | with_reducible exact C1.out _ _); clear hK K)
              refine qw_take (by kernel_rfl) (fun K hK => ?_); go_simp; first | (refine hK _ ?_; clear hK K) | (apply Exists.intro; refine ⟨fun _ => ?_, hK _ ?_⟩; (first | with_reducible exact C1.out _ _); clear hK K)
              refine qw_take (by kernel_rfl) (fun K hK => ?_); go_simp; first | (refine hK _ ?_; clear hK K) | (apply Exists.intro; refine ⟨fun _ => ?_, hK _ ?_⟩; (first | with_reducible exact C1.out _ _); clear hK K)
              refine qw_take (by kernel_rfl) (fun K hK => ?_); go_simp; first | (refine hK _ ?_; clear hK K) | (apply Exists.intro; refine ⟨fun _ => ?_, hK _ ?_⟩; (first | with_reducible exact C1.out _ _); clear hK K)
              refine qw_take (by kernel_rfl) (fun K hK => ?_); go_simp; first | (refine hK _ ?_; clear hK K) | (apply Exists.intro; refine ⟨fun _ => ?_, hK _ ?_⟩; (first | with_reducible exact C1.out _ _); clear hK K)
              refine qw_take (by kernel_rfl) (fun K hK => ?_); go_simp; first | (refine hK _ ?_; clear hK K) | (apply Exists.intro; refine ⟨fun _ => ?_, hK _ ?_⟩; (first | with_reducible exact C1.out _ _); clear hK K)
              refine qw_take (by kernel_rfl) (fun K hK => ?_); go_simp; first | (refine hK _ ?_; clear hK K) | (apply Exists.intro; refine ⟨fun _ => ?_, hK _ ?_⟩; (first | with_reducible exact C1.out _ _); clear hK K)
              refine qw_take (by kernel_rfl) (fun K hK => ?_); go_simp; first | (refine hK _ ?_; clear hK K) | (apply Exists.intro; refine ⟨fun _ => ?_, hK _ ?_⟩; (first | with_reducible exact C1.out _ _); clear hK K)
              refine qw_take (by kernel_rfl) (fun K hK => ?_); go_simp; first | (refine hK _ ?_; clear hK K) | (apply Exists.intro; refine ⟨fun _ => ?_, hK _ ?_⟩; (first | with_reducible exact C1.out _ _); clear hK K)
              refine qw_take (by kernel_rfl) (fun K hK => ?_); go_simp; first | (refine hK _ ?_; clear hK K) | (apply Exists.intro; refine ⟨fun _ => ?_, hK _ ?_⟩; (first | with_reducible exact C1.out _ _); clear hK K)
              refine qw_take (by kernel_rfl) (fun K hK => ?_); go_simp; first | (refine hK _ ?_; clear hK K) | (apply Exists.intro; refine ⟨fun _ => ?_, hK _ ?_⟩; (first | with_reducible exact C1.out _ _); clear hK K)
              refine qw_take (by kernel_rfl) (fun K hK => ?_); go_simp; first | (refine hK _ ?_; clear hK K) | (apply Exists.intro; refine ⟨fun _ => ?_, hK _ ?_⟩; (first | with_reducible exact C1.out _ _); clear hK K)
              refine qw_take (by kernel_rfl) (fun K hK => ?_); go_simp; first | (refine hK _ ?_; clear hK K) | (apply Exists.intro; refine ⟨fun _ => ?_, hK _ ?_⟩; (first | with_reducible exact C1.out _ _); clear hK K)
              refine qw_take (by kernel_rfl) (fun K hK => ?_); go_simp; first | (refine hK _ ?_; clear hK K) | (apply Exists.intro; refine ⟨fun _ => ?_, hK _ ?_⟩; (first | with_reducible exact C1.out _ _); clear hK K)
              refine qw_take (by kernel_rfl) (fun K hK => ?_); go_simp; first | (refine hK _ ?_; clear hK K) | (apply Exists.intro; refine ⟨fun _ => ?_, hK _ ?_⟩; (first | with_reducible exact C1.out _ _); clear hK K)
              refine qw_take (by kernel_rfl) (fun K hK => ?_); go_simp; first | (refine hK _ ?_; clear hK K) | (apply Exists.intro; refine ⟨fun _ => ?_, hK _ ?_⟩; (first | with_reducible exact C1.out _ _); clear hK K)
              refine qw_nil ?_
              intro _ hw'
              obtain ⟨⟨dq, osq⟩, hw''⟩ := hw'
              subst hw''
              have HB3 := Lib.hid (HB2.out.trans ((below_regrown W dq osq).mono HB2.out.size))
              clear e0 ea eb ec ed ee C1
              generalize Sort.grow (redrawn W dq) osq = w3 at *
              go_wp2_with fail
              go_ret
              exact ⟨ret_bool HD.out, HB3.out⟩
            | true =>
              have HD := Lib.hid (hd.out.trans (as_go (by omega) hkx hp hq3 h1 hls))
              have hle2 : Op.bytesLess t.toList s.toList = true := by rw [ByteArray.toList_eq, ByteArray.toList_eq]; exact hls
              have C1 := Lib.hid (fun d os => Calls.regrown_of (sfit_is s x0 x1 x2 x3 x4 true (Sort.grow (redrawn W d) os) hsz h1))
              clear hd hp hkx hB hc1 hsz d6 hq2 hq3 hls
              go_wp2_with fail
              have e0 := g0.out; have ea := ga.out; have eb := gb.out; have ec := gc.out; have ed := gd.out; have ee := ge.out
              rw [show wr.alloc (.cells #[.string s, .int .i64 x0, .int .i64 x1, .int .i64 x2, .int .i64 x3, .int .i64 x4] 41) = W from HW.out]
              clear d0 d1 d2 d3 d4 d5
              refine wp_region_qw (by kernel_rfl) (by kernel_rfl) ?_
              refine qw_take (by kernel_rfl) (fun K hK => ?_); go_simp; first | (refine hK _ ?_; clear hK K) | (apply Exists.intro; refine ⟨fun _ => ?_, hK _ ?_⟩; (first | with_reducible exact C1.out _ _); clear hK K)
              refine qw_take (by kernel_rfl) (fun K hK => ?_); go_simp; first | (refine hK _ ?_; clear hK K) | (apply Exists.intro; refine ⟨fun _ => ?_, hK _ ?_⟩; (first | with_reducible exact C1.out _ _); clear hK K)
              refine qw_take (by kernel_rfl) (fun K hK => ?_); go_simp; first | (refine hK _ ?_; clear hK K) | (apply Exists.intro; refine ⟨fun _ => ?_, hK _ ?_⟩; (first | with_reducible exact C1.out _ _); clear hK K)
              refine qw_take (by kernel_rfl) (fun K hK => ?_); go_simp; first | (refine hK _ ?_; clear hK K) | (apply Exists.intro; refine ⟨fun _ => ?_, hK _ ?_⟩; (first | with_reducible exact C1.out _ _); clear hK K)
              refine qw_take (by kernel_rfl) (fun K hK => ?_); go_simp; first | (refine hK _ ?_; clear hK K) | (apply Exists.intro; refine ⟨fun _ => ?_, hK _ ?_⟩; (first | with_reducible exact C1.out _ _); clear hK K)
              refine qw_take (by kernel_rfl) (fun K hK => ?_); go_simp; first | (refine hK _ ?_; clear hK K) | (apply Exists.intro; refine ⟨fun _ => ?_, hK _ ?_⟩; (first | with_reducible exact C1.out _ _); clear hK K)
              refine qw_take (by kernel_rfl) (fun K hK => ?_); go_simp; first | (refine hK _ ?_; clear hK K) | (apply Exists.intro; refine ⟨fun _ => ?_, hK _ ?_⟩; (first | with_reducible exact C1.out _ _); clear hK K)
              refine qw_take (by kernel_rfl) (fun K hK => ?_); go_simp; first | (refine hK _ ?_; clear hK K) | (apply Exists.intro; refine ⟨fun _ => ?_, hK _ ?_⟩; (first | with_reducible exact C1.out _ _); clear hK K)
              refine qw_take (by kernel_rfl) (fun K hK => ?_); go_simp; first | (refine hK _ ?_; clear hK K) | (apply Exists.intro; refine ⟨fun _ => ?_, hK _ ?_⟩; (first | with_reducible exact C1.out _ _); clear hK K)
              refine qw_take (by kernel_rfl) (fun K hK => ?_); go_simp; first | (refine hK _ ?_; clear hK K) | (apply Exists.intro; refine ⟨fun _ => ?_, hK _ ?_⟩; (first | with_reducible exact C1.out _ _); clear hK K)
              refine qw_take (by kernel_rfl) (fun K hK => ?_); go_simp; first | (refine hK _ ?_; clear hK K) | (apply Exists.intro; refine ⟨fun _ => ?_, hK _ ?_⟩; (first | with_reducible exact C1.out _ _); clear hK K)
              refine qw_take (by kernel_rfl) (fun K hK => ?_); go_simp; first | (refine hK _ ?_; clear hK K) | (apply Exists.intro; refine ⟨fun _ => ?_, hK _ ?_⟩; (first | with_reducible exact C1.out _ _); clear hK K)
              refine qw_take (by kernel_rfl) (fun K hK => ?_); go_simp; first | (refine hK _ ?_; clear hK K) | (apply Exists.intro; refine ⟨fun _ => ?_, hK _ ?_⟩; (first | with_reducible exact C1.out _ _); clear hK K)
              refine qw_take (by kernel_rfl) (fun K hK => ?_); go_simp; first | (refine hK _ ?_; clear hK K) | (apply Exists.intro; refine ⟨fun _ => ?_, hK _ ?_⟩; (first | with_reducible exact C1.out _ _); clear hK K)
              refine qw_take (by kernel_rfl) (fun K hK => ?_); go_simp; first | (refine hK _ ?_; clear hK K) | (apply Exists.intro; refine ⟨fun _ => ?_, hK _ ?_⟩; (first | with_reducible exact C1.out _ _); clear hK K)
              refine qw_take (by kernel_rfl) (fun K hK => ?_); go_simp; first | (refine hK _ ?_; clear hK K) | (apply Exists.intro; refine ⟨fun _ => ?_, hK _ ?_⟩; (first | with_reducible exact C1.out _ _); clear hK K)
              refine qw_take (by kernel_rfl) (fun K hK => ?_); go_simp; first | (refine hK _ ?_; clear hK K) | (apply Exists.intro; refine ⟨fun _ => ?_, hK _ ?_⟩; (first | with_reducible exact C1.out _ _); clear hK K)
              refine qw_take (by kernel_rfl) (fun K hK => ?_); go_simp; first | (refine hK _ ?_; clear hK K) | (apply Exists.intro; refine ⟨fun _ => ?_, hK _ ?_⟩; (first | with_reducible exact C1.out _ _); clear hK K)
              refine qw_nil ?_
              intro _ hw'
              obtain ⟨⟨dq, osq⟩, hw''⟩ := hw'
              subst hw''
              have HB3 := Lib.hid (HB2.out.trans ((below_regrown W dq osq).mono HB2.out.size))
              clear e0 ea eb ec ed ee C1
              generalize Sort.grow (redrawn W dq) osq = w3 at *
              go_wp2_with fail
              go_roundw
              case rel => exact ⟨j + 1 + 1, by omega, by go_num, HD, HB3⟩
              case measure => simp [intOf]; omega
      · obtain rfl : k = len := by omega
        have HD := Lib.hid (hd.out.trans (as_done (by rw [HX.out.1]; exact hlk)))
        clear hd
        go_wp2_with fail
        go_ret
        exact ⟨ret_bool HD.out, hB.out⟩
  · have HD := Lib.hid (hv.symm.trans (ascS_long (by rw [h.1]; omega)))
    clear h hv hz
    go_enter Tryz.func36, Tryz.ntmps36
    go_wp2_with fail
    go_ret
    exact ⟨ret_bool HD.out, Below.refl _ _⟩
end Go.Proofs.YtjclkiabgemfpaaGreat.Ledger
