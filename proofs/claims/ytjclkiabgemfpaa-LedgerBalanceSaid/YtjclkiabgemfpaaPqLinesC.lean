/-
  The contracts of Fit (both): any lines; what was there stays as it was.
-/
import Derived.Test.YtjclkiabgemfpaaPqLinesA
import Derived.Test.YtjclkiabgemfpaaPqNameG
import Derived.OwnWalk
import Derived.Laws.AppendOwn
set_option linter.unusedVariables false
set_option maxRecDepth 4000
set_option maxRecDepth 4000
namespace Go.Proofs.Ytjclkiabgemfpaa.Lines
open Go.RowKit LinesP
theorem nmfit (s : ByteArray) (b : Bool) (h : nm s = b) (hs : s.size ≤ 300) (w : World) : Calls Try.prog 41 #[.string s] w fun e w' => e = .returned (.bool b) ∧ Below w.heap.size w w' :=
  Name.fit_is s b w (by omega) h
theorem qtyfit (n : Int) (b : Bool) (h : qty n = b) (w : World) : Calls Try.prog 60 #[.int .i64 n] w fun e w' => e = .returned (.bool b) ∧ Below w.heap.size w w' := by
  have := quantity_any n w
  rw [h] at this
  exact this
theorem less_total : ∀ x y : List UInt8, Op.bytesLess x y = false → (Op.bytesLess y x || y == x) = true
  | [], [], _ => by simp [Op.bytesLess]
  | [], b :: y, h => by simp [Op.bytesLess] at h
  | a :: x, [], _ => by simp [Op.bytesLess]
  | a :: x, b :: y, h => by
    simp only [Op.bytesLess, Bool.or_eq_false_iff, decide_eq_false_iff_not, Bool.and_eq_false_iff] at h
    rw [UInt8.lt_iff_toNat_lt] at h
    by_cases hab : a = b
    · subst hab
      have := less_total x y (by simpa using h.2)
      simp only [Bool.or_eq_true] at this
      rcases this with t | t
      · simp [Op.bytesLess, t]
      · rw [beq_iff_eq] at t; simp [t]
    · have hlt : b < a := by
        rw [UInt8.lt_iff_toNat_lt]
        have h1 := h.1
        have h2 : a.toNat ≠ b.toNat := fun e => hab (UInt8.toNat_inj.1 e)
        omega
      simp [Op.bytesLess, hlt]
theorem less_not : ∀ x y : List UInt8, Op.bytesLess x y = true → (Op.bytesLess y x || y == x) = false
  | [], [], h => by simp [Op.bytesLess] at h
  | [], b :: y, h => by simp [Op.bytesLess]
  | a :: x, [], h => by simp [Op.bytesLess] at h
  | a :: x, b :: y, h => by
    simp only [Op.bytesLess, Bool.or_eq_true, decide_eq_true_eq, Bool.and_eq_true, beq_iff_eq] at h
    rcases h with h | ⟨rfl, h⟩
    · rw [UInt8.lt_iff_toNat_lt] at h
      have hn : ¬ b < a := by rw [UInt8.lt_iff_toNat_lt]; omega
      have hne : (b == a) = false := by rw [beq_eq_false_iff_ne]; intro e; subst e; omega
      simp [Op.bytesLess, hn, hne]
    · have := less_not x y h
      rw [Bool.or_eq_false_iff] at this
      have hn : ¬ a < a := by rw [UInt8.lt_iff_toNat_lt]; omega
      simp [Op.bytesLess, hn, this.1, beq_eq_false_iff_ne.1 this.2]
structure Qw (P : Program) (ops : Array Oper) (C : World → Prop) (Q : Act → Prop) (l : List Oper) (a : Act) : Prop where
  out : wpQuiet P ops C Q l a
theorem qw_skip {P : Program} {ops : Array Oper} {C : World → Prop} {Q : Act → Prop} {a : Act} {o : Oper} {rest : List Oper} (hw : Region.wanted o (yielded ops a.tmps) = false) (h : Qw P ops C Q rest (a.put o.dst undef)) : Qw P ops C Q (o :: rest) a :=
  ⟨wpQuiet_step fun K hK => by rw [hw]; exact hK _ h.out⟩
theorem qw_take {P : Program} {ops : Array Oper} {C : World → Prop} {Q : Act → Prop} {a : Act} {o : Oper} {rest : List Oper} (hw : Region.wanted o (yielded ops a.tmps) = true) (h : ∀ K : Act → Prop, (∀ a, Qw P ops C Q rest a → K a) → o.quiet P a C K) : Qw P ops C Q (o :: rest) a :=
  ⟨wpQuiet_step fun K hK => by rw [hw]; exact h K fun a h => hK a h.out⟩
theorem qw_nil {P : Program} {ops : Array Oper} {C : World → Prop} {Q : Act → Prop} {a : Act} (h : Q a) : Qw P ops C Q [] a := ⟨h⟩
theorem wp_region_qw {P : Program} {id : Nat} {Q : Exit → Act → World → Prop} {a : Act} {w : World} {l : List Oper} (hm : P.follows .mixedOrders = true) (hB : Region.lexB .any l.toArray = true)
    (h : Qw P l.toArray (fun w' => ∃ p : Regrown, w' = Sort.grow (redrawn w p.d) p.os) (fun a' => ∀ w', (∃ p : Regrown, w' = Sort.grow (redrawn w p.d) p.os) → Q .normal a' w') l a) : (Code.region id l.toArray true).wp P Q a w :=
  wp_region_quiet_below hm hB h.out
theorem wrap_small (j : Nat) (h : j ≤ 1000) : IntKind.i64.wrap (j : Int) = (j : Int) := by
  rw [IntWalk.i64_in] <;> omega
set_option maxHeartbeats 1000000 in
theorem fit_any (a : Option Addr) (len cap : Nat) (l : List Ln) (w : World) (h : LsAt w a len l) (hs : Sz l) :
    Calls Try.prog 33 #[.slice a len cap] w fun e w' => e = .returned (.bool (fitL l)) ∧ Below w.heap.size w w' := by
  obtain ⟨v, hv⟩ : ∃ v, fitL l = v := ⟨_, rfl⟩
  rw [hv]
  have hl := h.2.1
  by_cases h4 : len ≤ 4
  · have HV : Hid (v = okUp (prev l 0) (l.drop 0)) := (hv.symm.trans (fitL_short (by rw [h.1]; exact h4)))
    have HX := Lib.hid h; have HS := Lib.hid hs
    clear h hv hs
    go_enter Try.func33, Try.ntmps33
    go_wp2_with fail
    go_loopw [10] (fun i wr => ∃ k : Nat, k ≤ len ∧ i = .int .i64 (k : Int) ∧ Hid (v = okUp (prev l k) (l.drop k)) ∧ Hid (Below w.heap.size w wr)) (fun i _ => len - (intOf i).toNat)
    case atStart => exact ⟨0, Nat.zero_le _, rfl, HV, Below.refl _ w⟩
    case round =>
      obtain ⟨k, hk, rfl, hd, hB⟩ := hrel
      by_cases hlk : k < len
      · rcases HX.out.2.2 with h0 | ⟨b1, o1, rfl, g1, hc1⟩
        · omega
        have d1 := (hB.out.cell (p := ⟨b1, o1 + k * 2, none⟩) g1).trans (hc1 k hlk).1
        have d2 := (hB.out.cell (p := ⟨b1, o1 + k * 2 + 1, none⟩) g1).trans (hc1 k hlk).2
        have hkx : k < l.length := by rw [HX.out.1]; exact hlk
        have hsz := (HS.out.at hkx).1
        obtain ⟨p, hp⟩ : ∃ p, l.getD k ln0 = p := ⟨_, rfl⟩
        rw [hp] at d1 d2 hsz
        obtain ⟨s, n⟩ := p
        have hsz : s.size ≤ 300 := hsz
        have HB2 := Lib.hid (hB.out.trans ((boxed_below wr s n).mono hB.out.size))
        have hc := boxed_cells wr s n
        obtain ⟨W, hW⟩ : ∃ W, boxed wr s n = W := ⟨_, rfl⟩
        rw [hW] at hc
        rw [hW] at HB2
        have gx := Lib.hid (fun d os => cell_regrown hc.1 d os)
        have gn := Lib.hid (fun d os => cell_regrown hc.2 d os)
        have HW := Lib.hid hW
        clear hc hW
        cases h1 : nm s with
        | false =>
          have HD := Lib.hid (hd.out.trans (okUp_no hkx hp (.inl h1)))
          have C1 := Lib.hid (fun d os => Calls.regrown_of (nmfit s false h1 hsz (Sort.grow (redrawn W d) os)))
          clear hd hp hkx hB hc1
          go_wp2_with fail
          have e1 := gx.out; have e2 := gn.out
          rw [show wr.alloc (.cells #[.string s, .int .i64 n] 53) = W from (boxed_alloc wr s n).symm.trans HW.out]
          clear d1 d2
          refine wp_region_qw (by kernel_rfl) (by kernel_rfl) ?_
          refine qw_take (by kernel_rfl) (fun K hK => ?_); go_simp; first | (refine hK _ ?_; clear hK K) | (apply Exists.intro; refine ⟨fun _ => ?_, hK _ ?_⟩; (first | with_reducible exact C1.out _ _); clear hK K)
          refine qw_take (by kernel_rfl) (fun K hK => ?_); go_simp; first | (refine hK _ ?_; clear hK K) | (apply Exists.intro; refine ⟨fun _ => ?_, hK _ ?_⟩; (first | with_reducible exact C1.out _ _); clear hK K)
          refine qw_take (by kernel_rfl) (fun K hK => ?_); go_simp; first | (refine hK _ ?_; clear hK K) | (apply Exists.intro; refine ⟨fun _ => ?_, hK _ ?_⟩; (first | with_reducible exact C1.out _ _); clear hK K)
          refine qw_take (by kernel_rfl) (fun K hK => ?_); go_simp; first | (refine hK _ ?_; clear hK K) | (apply Exists.intro; refine ⟨fun _ => ?_, hK _ ?_⟩; (first | with_reducible exact C1.out _ _); clear hK K)
          refine qw_take (by kernel_rfl) (fun K hK => ?_); go_simp; first | (refine hK _ ?_; clear hK K) | (apply Exists.intro; refine ⟨fun _ => ?_, hK _ ?_⟩; (first | with_reducible exact C1.out _ _); clear hK K)
          refine qw_skip (by kernel_rfl) ?_; simp only [Act.put, List.setIfInBounds_toArray, List.set_cons_succ, List.set_cons_zero]
          refine qw_skip (by kernel_rfl) ?_; simp only [Act.put, List.setIfInBounds_toArray, List.set_cons_succ, List.set_cons_zero]
          refine qw_skip (by kernel_rfl) ?_; simp only [Act.put, List.setIfInBounds_toArray, List.set_cons_succ, List.set_cons_zero]
          refine qw_skip (by kernel_rfl) ?_; simp only [Act.put, List.setIfInBounds_toArray, List.set_cons_succ, List.set_cons_zero]
          refine qw_take (by kernel_rfl) (fun K hK => ?_); go_simp; first | (refine hK _ ?_; clear hK K) | (apply Exists.intro; refine ⟨fun _ => ?_, hK _ ?_⟩; (first | with_reducible exact C1.out _ _); clear hK K)
          refine qw_take (by kernel_rfl) (fun K hK => ?_); go_simp; first | (refine hK _ ?_; clear hK K) | (apply Exists.intro; refine ⟨fun _ => ?_, hK _ ?_⟩; (first | with_reducible exact C1.out _ _); clear hK K)
          refine qw_skip (by kernel_rfl) ?_; simp only [Act.put, List.setIfInBounds_toArray, List.set_cons_succ, List.set_cons_zero]
          refine qw_skip (by kernel_rfl) ?_; simp only [Act.put, List.setIfInBounds_toArray, List.set_cons_succ, List.set_cons_zero]
          refine qw_skip (by kernel_rfl) ?_; simp only [Act.put, List.setIfInBounds_toArray, List.set_cons_succ, List.set_cons_zero]
          refine qw_skip (by kernel_rfl) ?_; simp only [Act.put, List.setIfInBounds_toArray, List.set_cons_succ, List.set_cons_zero]
          refine qw_skip (by kernel_rfl) ?_; simp only [Act.put, List.setIfInBounds_toArray, List.set_cons_succ, List.set_cons_zero]
          refine qw_skip (by kernel_rfl) ?_; simp only [Act.put, List.setIfInBounds_toArray, List.set_cons_succ, List.set_cons_zero]
          refine qw_skip (by kernel_rfl) ?_; simp only [Act.put, List.setIfInBounds_toArray, List.set_cons_succ, List.set_cons_zero]
          refine qw_skip (by kernel_rfl) ?_; simp only [Act.put, List.setIfInBounds_toArray, List.set_cons_succ, List.set_cons_zero]
          refine qw_skip (by kernel_rfl) ?_; simp only [Act.put, List.setIfInBounds_toArray, List.set_cons_succ, List.set_cons_zero]
          refine qw_skip (by kernel_rfl) ?_; simp only [Act.put, List.setIfInBounds_toArray, List.set_cons_succ, List.set_cons_zero]
          refine qw_skip (by kernel_rfl) ?_; simp only [Act.put, List.setIfInBounds_toArray, List.set_cons_succ, List.set_cons_zero]
          refine qw_skip (by kernel_rfl) ?_; simp only [Act.put, List.setIfInBounds_toArray, List.set_cons_succ, List.set_cons_zero]
          refine qw_skip (by kernel_rfl) ?_; simp only [Act.put, List.setIfInBounds_toArray, List.set_cons_succ, List.set_cons_zero]
          refine qw_take (by kernel_rfl) (fun K hK => ?_); go_simp; first | (refine hK _ ?_; clear hK K) | (apply Exists.intro; refine ⟨fun _ => ?_, hK _ ?_⟩; (first | with_reducible exact C1.out _ _); clear hK K)
          refine qw_nil ?_
          intro _ hw'
          obtain ⟨⟨dq, osq⟩, hw''⟩ := hw'
          subst hw''
          have HB3 := Lib.hid (HB2.out.trans ((below_regrown W dq osq).mono HB2.out.size))
          clear e1 e2 C1 
          generalize Sort.grow (redrawn W dq) osq = w3 at *
          go_wp2_with fail
          go_ret
          exact ⟨ret_bool HD.out, HB3.out⟩
        | true =>
          cases h2 : qty n with
          | false =>
            have HD := Lib.hid (hd.out.trans (okUp_no hkx hp (.inr h2)))
            have C1 := Lib.hid (fun d os => Calls.regrown_of (nmfit s true h1 hsz (Sort.grow (redrawn W d) os)))
            have C2 := Lib.hid (fun d os => Calls.regrown_of (qtyfit n false h2 (Sort.grow (redrawn W d) os)))
            clear hd hp hkx hB hc1
            go_wp2_with fail
            have e1 := gx.out; have e2 := gn.out
            rw [show wr.alloc (.cells #[.string s, .int .i64 n] 53) = W from (boxed_alloc wr s n).symm.trans HW.out]
            clear d1 d2
            refine wp_region_qw (by kernel_rfl) (by kernel_rfl) ?_
            refine qw_take (by kernel_rfl) (fun K hK => ?_); go_simp; first | (refine hK _ ?_; clear hK K) | (apply Exists.intro; refine ⟨fun _ => ?_, hK _ ?_⟩; (first | with_reducible exact C1.out _ _ | with_reducible exact C2.out _ _); clear hK K)
            refine qw_take (by kernel_rfl) (fun K hK => ?_); go_simp; first | (refine hK _ ?_; clear hK K) | (apply Exists.intro; refine ⟨fun _ => ?_, hK _ ?_⟩; (first | with_reducible exact C1.out _ _ | with_reducible exact C2.out _ _); clear hK K)
            refine qw_take (by kernel_rfl) (fun K hK => ?_); go_simp; first | (refine hK _ ?_; clear hK K) | (apply Exists.intro; refine ⟨fun _ => ?_, hK _ ?_⟩; (first | with_reducible exact C1.out _ _ | with_reducible exact C2.out _ _); clear hK K)
            refine qw_take (by kernel_rfl) (fun K hK => ?_); go_simp; first | (refine hK _ ?_; clear hK K) | (apply Exists.intro; refine ⟨fun _ => ?_, hK _ ?_⟩; (first | with_reducible exact C1.out _ _ | with_reducible exact C2.out _ _); clear hK K)
            refine qw_take (by kernel_rfl) (fun K hK => ?_); go_simp; first | (refine hK _ ?_; clear hK K) | (apply Exists.intro; refine ⟨fun _ => ?_, hK _ ?_⟩; (first | with_reducible exact C1.out _ _ | with_reducible exact C2.out _ _); clear hK K)
            refine qw_take (by kernel_rfl) (fun K hK => ?_); go_simp; first | (refine hK _ ?_; clear hK K) | (apply Exists.intro; refine ⟨fun _ => ?_, hK _ ?_⟩; (first | with_reducible exact C1.out _ _ | with_reducible exact C2.out _ _); clear hK K)
            refine qw_take (by kernel_rfl) (fun K hK => ?_); go_simp; first | (refine hK _ ?_; clear hK K) | (apply Exists.intro; refine ⟨fun _ => ?_, hK _ ?_⟩; (first | with_reducible exact C1.out _ _ | with_reducible exact C2.out _ _); clear hK K)
            refine qw_take (by kernel_rfl) (fun K hK => ?_); go_simp; first | (refine hK _ ?_; clear hK K) | (apply Exists.intro; refine ⟨fun _ => ?_, hK _ ?_⟩; (first | with_reducible exact C1.out _ _ | with_reducible exact C2.out _ _); clear hK K)
            refine qw_take (by kernel_rfl) (fun K hK => ?_); go_simp; first | (refine hK _ ?_; clear hK K) | (apply Exists.intro; refine ⟨fun _ => ?_, hK _ ?_⟩; (first | with_reducible exact C1.out _ _ | with_reducible exact C2.out _ _); clear hK K)
            refine qw_take (by kernel_rfl) (fun K hK => ?_); go_simp; first | (refine hK _ ?_; clear hK K) | (apply Exists.intro; refine ⟨fun _ => ?_, hK _ ?_⟩; (first | with_reducible exact C1.out _ _ | with_reducible exact C2.out _ _); clear hK K)
            refine qw_take (by kernel_rfl) (fun K hK => ?_); go_simp; first | (refine hK _ ?_; clear hK K) | (apply Exists.intro; refine ⟨fun _ => ?_, hK _ ?_⟩; (first | with_reducible exact C1.out _ _ | with_reducible exact C2.out _ _); clear hK K)
            refine qw_skip (by kernel_rfl) ?_; simp only [Act.put, List.setIfInBounds_toArray, List.set_cons_succ, List.set_cons_zero]
            refine qw_skip (by kernel_rfl) ?_; simp only [Act.put, List.setIfInBounds_toArray, List.set_cons_succ, List.set_cons_zero]
            refine qw_skip (by kernel_rfl) ?_; simp only [Act.put, List.setIfInBounds_toArray, List.set_cons_succ, List.set_cons_zero]
            refine qw_skip (by kernel_rfl) ?_; simp only [Act.put, List.setIfInBounds_toArray, List.set_cons_succ, List.set_cons_zero]
            refine qw_skip (by kernel_rfl) ?_; simp only [Act.put, List.setIfInBounds_toArray, List.set_cons_succ, List.set_cons_zero]
            refine qw_skip (by kernel_rfl) ?_; simp only [Act.put, List.setIfInBounds_toArray, List.set_cons_succ, List.set_cons_zero]
            refine qw_skip (by kernel_rfl) ?_; simp only [Act.put, List.setIfInBounds_toArray, List.set_cons_succ, List.set_cons_zero]
            refine qw_skip (by kernel_rfl) ?_; simp only [Act.put, List.setIfInBounds_toArray, List.set_cons_succ, List.set_cons_zero]
            refine qw_skip (by kernel_rfl) ?_; simp only [Act.put, List.setIfInBounds_toArray, List.set_cons_succ, List.set_cons_zero]
            refine qw_skip (by kernel_rfl) ?_; simp only [Act.put, List.setIfInBounds_toArray, List.set_cons_succ, List.set_cons_zero]
            refine qw_skip (by kernel_rfl) ?_; simp only [Act.put, List.setIfInBounds_toArray, List.set_cons_succ, List.set_cons_zero]
            refine qw_skip (by kernel_rfl) ?_; simp only [Act.put, List.setIfInBounds_toArray, List.set_cons_succ, List.set_cons_zero]
            refine qw_skip (by kernel_rfl) ?_; simp only [Act.put, List.setIfInBounds_toArray, List.set_cons_succ, List.set_cons_zero]
            refine qw_take (by kernel_rfl) (fun K hK => ?_); go_simp; first | (refine hK _ ?_; clear hK K) | (apply Exists.intro; refine ⟨fun _ => ?_, hK _ ?_⟩; (first | with_reducible exact C1.out _ _ | with_reducible exact C2.out _ _); clear hK K)
            refine qw_nil ?_
            intro _ hw'
            obtain ⟨⟨dq, osq⟩, hw''⟩ := hw'
            subst hw''
            have HB3 := Lib.hid (HB2.out.trans ((below_regrown W dq osq).mono HB2.out.size))
            clear e1 e2 C1 C2
            generalize Sort.grow (redrawn W dq) osq = w3 at *
            go_wp2_with fail
            go_ret
            exact ⟨ret_bool HD.out, HB3.out⟩
          | true =>
            by_cases hk0 : k = 0
            · subst hk0
              have HD := Lib.hid (hd.out.trans (okUp_go0 hkx hp h1 h2))
              rw [Nat.zero_mul, Nat.add_zero] at d1 d2
              have C1 := Lib.hid (fun d os => Calls.regrown_of (nmfit s true h1 hsz (Sort.grow (redrawn W d) os)))
              have C2 := Lib.hid (fun d os => Calls.regrown_of (qtyfit n true h2 (Sort.grow (redrawn W d) os)))
              clear hd hp hkx hB hc1
              go_wp2_with fail
              have e1 := gx.out; have e2 := gn.out
              rw [show wr.alloc (.cells #[.string s, .int .i64 n] 53) = W from (boxed_alloc wr s n).symm.trans HW.out]
              clear d1 d2
              refine wp_region_qw (by kernel_rfl) (by kernel_rfl) ?_
              refine qw_take (by kernel_rfl) (fun K hK => ?_); go_simp; first | (refine hK _ ?_; clear hK K) | (apply Exists.intro; refine ⟨fun _ => ?_, hK _ ?_⟩; (first | with_reducible exact C1.out _ _ | with_reducible exact C2.out _ _); clear hK K)
              refine qw_take (by kernel_rfl) (fun K hK => ?_); go_simp; first | (refine hK _ ?_; clear hK K) | (apply Exists.intro; refine ⟨fun _ => ?_, hK _ ?_⟩; (first | with_reducible exact C1.out _ _ | with_reducible exact C2.out _ _); clear hK K)
              refine qw_take (by kernel_rfl) (fun K hK => ?_); go_simp; first | (refine hK _ ?_; clear hK K) | (apply Exists.intro; refine ⟨fun _ => ?_, hK _ ?_⟩; (first | with_reducible exact C1.out _ _ | with_reducible exact C2.out _ _); clear hK K)
              refine qw_take (by kernel_rfl) (fun K hK => ?_); go_simp; first | (refine hK _ ?_; clear hK K) | (apply Exists.intro; refine ⟨fun _ => ?_, hK _ ?_⟩; (first | with_reducible exact C1.out _ _ | with_reducible exact C2.out _ _); clear hK K)
              refine qw_take (by kernel_rfl) (fun K hK => ?_); go_simp; first | (refine hK _ ?_; clear hK K) | (apply Exists.intro; refine ⟨fun _ => ?_, hK _ ?_⟩; (first | with_reducible exact C1.out _ _ | with_reducible exact C2.out _ _); clear hK K)
              refine qw_take (by kernel_rfl) (fun K hK => ?_); go_simp; first | (refine hK _ ?_; clear hK K) | (apply Exists.intro; refine ⟨fun _ => ?_, hK _ ?_⟩; (first | with_reducible exact C1.out _ _ | with_reducible exact C2.out _ _); clear hK K)
              refine qw_take (by kernel_rfl) (fun K hK => ?_); go_simp; first | (refine hK _ ?_; clear hK K) | (apply Exists.intro; refine ⟨fun _ => ?_, hK _ ?_⟩; (first | with_reducible exact C1.out _ _ | with_reducible exact C2.out _ _); clear hK K)
              refine qw_take (by kernel_rfl) (fun K hK => ?_); go_simp; first | (refine hK _ ?_; clear hK K) | (apply Exists.intro; refine ⟨fun _ => ?_, hK _ ?_⟩; (first | with_reducible exact C1.out _ _ | with_reducible exact C2.out _ _); clear hK K)
              refine qw_take (by kernel_rfl) (fun K hK => ?_); go_simp; first | (refine hK _ ?_; clear hK K) | (apply Exists.intro; refine ⟨fun _ => ?_, hK _ ?_⟩; (first | with_reducible exact C1.out _ _ | with_reducible exact C2.out _ _); clear hK K)
              refine qw_take (by kernel_rfl) (fun K hK => ?_); go_simp; first | (refine hK _ ?_; clear hK K) | (apply Exists.intro; refine ⟨fun _ => ?_, hK _ ?_⟩; (first | with_reducible exact C1.out _ _ | with_reducible exact C2.out _ _); clear hK K)
              refine qw_take (by kernel_rfl) (fun K hK => ?_); go_simp; first | (refine hK _ ?_; clear hK K) | (apply Exists.intro; refine ⟨fun _ => ?_, hK _ ?_⟩; (first | with_reducible exact C1.out _ _ | with_reducible exact C2.out _ _); clear hK K)
              refine qw_take (by kernel_rfl) (fun K hK => ?_); go_simp; first | (refine hK _ ?_; clear hK K) | (apply Exists.intro; refine ⟨fun _ => ?_, hK _ ?_⟩; (first | with_reducible exact C1.out _ _ | with_reducible exact C2.out _ _); clear hK K)
              refine qw_take (by kernel_rfl) (fun K hK => ?_); go_simp; first | (refine hK _ ?_; clear hK K) | (apply Exists.intro; refine ⟨fun _ => ?_, hK _ ?_⟩; (first | with_reducible exact C1.out _ _ | with_reducible exact C2.out _ _); clear hK K)
              refine qw_take (by kernel_rfl) (fun K hK => ?_); go_simp; first | (refine hK _ ?_; clear hK K) | (apply Exists.intro; refine ⟨fun _ => ?_, hK _ ?_⟩; (first | with_reducible exact C1.out _ _ | with_reducible exact C2.out _ _); clear hK K)
              refine qw_skip (by kernel_rfl) ?_; simp only [Act.put, List.setIfInBounds_toArray, List.set_cons_succ, List.set_cons_zero]
              refine qw_skip (by kernel_rfl) ?_; simp only [Act.put, List.setIfInBounds_toArray, List.set_cons_succ, List.set_cons_zero]
              refine qw_skip (by kernel_rfl) ?_; simp only [Act.put, List.setIfInBounds_toArray, List.set_cons_succ, List.set_cons_zero]
              refine qw_skip (by kernel_rfl) ?_; simp only [Act.put, List.setIfInBounds_toArray, List.set_cons_succ, List.set_cons_zero]
              refine qw_skip (by kernel_rfl) ?_; simp only [Act.put, List.setIfInBounds_toArray, List.set_cons_succ, List.set_cons_zero]
              refine qw_skip (by kernel_rfl) ?_; simp only [Act.put, List.setIfInBounds_toArray, List.set_cons_succ, List.set_cons_zero]
              refine qw_skip (by kernel_rfl) ?_; simp only [Act.put, List.setIfInBounds_toArray, List.set_cons_succ, List.set_cons_zero]
              refine qw_skip (by kernel_rfl) ?_; simp only [Act.put, List.setIfInBounds_toArray, List.set_cons_succ, List.set_cons_zero]
              refine qw_skip (by kernel_rfl) ?_; simp only [Act.put, List.setIfInBounds_toArray, List.set_cons_succ, List.set_cons_zero]
              refine qw_take (by kernel_rfl) (fun K hK => ?_); go_simp; first | (refine hK _ ?_; clear hK K) | (apply Exists.intro; refine ⟨fun _ => ?_, hK _ ?_⟩; (first | with_reducible exact C1.out _ _ | with_reducible exact C2.out _ _); clear hK K)
              refine qw_take (by kernel_rfl) (fun K hK => ?_); go_simp; first | (refine hK _ ?_; clear hK K) | (apply Exists.intro; refine ⟨fun _ => ?_, hK _ ?_⟩; (first | with_reducible exact C1.out _ _ | with_reducible exact C2.out _ _); clear hK K)
              refine qw_nil ?_
              intro _ hw'
              obtain ⟨⟨dq, osq⟩, hw''⟩ := hw'
              subst hw''
              have HB3 := Lib.hid (HB2.out.trans ((below_regrown W dq osq).mono HB2.out.size))
              clear e1 e2 C1 C2
              generalize Sort.grow (redrawn W dq) osq = w3 at *
              go_wp2_with fail
              go_roundw
              case rel => exact ⟨0 + 1, by omega, by go_num, HD, HB3⟩
              case measure => simp [intOf]; omega
            · obtain ⟨j, rfl⟩ : ∃ j, k = j + 1 := ⟨k - 1, by omega⟩
              obtain ⟨q, hq2⟩ : ∃ q, l.getD (j + 1 - 1) ln0 = q := ⟨_, rfl⟩
              have d3 := (HB2.out.cell (p := ⟨b1, o1 + j * 2, none⟩) g1).trans (hc1 j (by omega)).1
              rw [show l.getD j ln0 = q from hq2] at d3
              obtain ⟨t, m⟩ := q
              have e3 := fun d os => cell_regrown d3 d os
              have hsub : IntKind.i64.wrap ((((j + 1 : Nat)) : Int) - 1) = (j : Int) := by rw [show (((j + 1 : Nat)) : Int) - 1 = (j : Int) by omega]; exact wrap_small j (by omega)
              have hsub2 : IntKind.i64.wrap (((j : Int) + 1) - 1) = (j : Int) := by rw [show ((j : Int) + 1) - 1 = (j : Int) by omega]; exact wrap_small j (by omega)
              have hsub3 := wrap_small j (by omega)
              have hjl : (j : Int) < (len : Int) := by omega
              have hj1l : (j : Int) + 1 < (len : Int) := by omega
              have hj0 : (0 : Int) ≤ (j : Int) := by omega
              have hj1 : (0 : Int) ≤ (j : Int) + 1 := by omega
              have hgt : decide ((0 : Int) < (j : Int) + 1) = true := decide_eq_true (by omega)
              cases h3 : lss t s with
              | false =>
                have HD := Lib.hid (hd.out.trans (okUp_less (by omega) hkx hp hq2 h3))
                have hls : Op.bytesLess t.toList s.toList = false := by rw [ByteArray.toList_eq, ByteArray.toList_eq]; exact h3
                have hle : (Op.bytesLess s.toList t.toList || s.toList == t.toList) = true := less_total _ _ hls
                have C1 := Lib.hid (fun d os => Calls.regrown_of (nmfit s true h1 hsz (Sort.grow (redrawn W d) os)))
                have C2 := Lib.hid (fun d os => Calls.regrown_of (qtyfit n true h2 (Sort.grow (redrawn W d) os)))
                clear hd hp hkx hB hc1 d3 hq2
                go_wp2_with fail
                have e1 := gx.out; have e2 := gn.out
                rw [show wr.alloc (.cells #[.string s, .int .i64 n] 53) = W from (boxed_alloc wr s n).symm.trans HW.out]
                clear d1 d2
                refine wp_region_qw (by kernel_rfl) (by kernel_rfl) ?_
                refine qw_take (by kernel_rfl) (fun K hK => ?_); go_simp; first | (refine hK _ ?_; clear hK K) | (apply Exists.intro; refine ⟨fun _ => ?_, hK _ ?_⟩; (first | with_reducible exact C1.out _ _ | with_reducible exact C2.out _ _); clear hK K)
                refine qw_take (by kernel_rfl) (fun K hK => ?_); go_simp; first | (refine hK _ ?_; clear hK K) | (apply Exists.intro; refine ⟨fun _ => ?_, hK _ ?_⟩; (first | with_reducible exact C1.out _ _ | with_reducible exact C2.out _ _); clear hK K)
                refine qw_take (by kernel_rfl) (fun K hK => ?_); go_simp; first | (refine hK _ ?_; clear hK K) | (apply Exists.intro; refine ⟨fun _ => ?_, hK _ ?_⟩; (first | with_reducible exact C1.out _ _ | with_reducible exact C2.out _ _); clear hK K)
                refine qw_take (by kernel_rfl) (fun K hK => ?_); go_simp; first | (refine hK _ ?_; clear hK K) | (apply Exists.intro; refine ⟨fun _ => ?_, hK _ ?_⟩; (first | with_reducible exact C1.out _ _ | with_reducible exact C2.out _ _); clear hK K)
                refine qw_take (by kernel_rfl) (fun K hK => ?_); go_simp; first | (refine hK _ ?_; clear hK K) | (apply Exists.intro; refine ⟨fun _ => ?_, hK _ ?_⟩; (first | with_reducible exact C1.out _ _ | with_reducible exact C2.out _ _); clear hK K)
                refine qw_take (by kernel_rfl) (fun K hK => ?_); go_simp; first | (refine hK _ ?_; clear hK K) | (apply Exists.intro; refine ⟨fun _ => ?_, hK _ ?_⟩; (first | with_reducible exact C1.out _ _ | with_reducible exact C2.out _ _); clear hK K)
                refine qw_take (by kernel_rfl) (fun K hK => ?_); go_simp; first | (refine hK _ ?_; clear hK K) | (apply Exists.intro; refine ⟨fun _ => ?_, hK _ ?_⟩; (first | with_reducible exact C1.out _ _ | with_reducible exact C2.out _ _); clear hK K)
                refine qw_take (by kernel_rfl) (fun K hK => ?_); go_simp; first | (refine hK _ ?_; clear hK K) | (apply Exists.intro; refine ⟨fun _ => ?_, hK _ ?_⟩; (first | with_reducible exact C1.out _ _ | with_reducible exact C2.out _ _); clear hK K)
                refine qw_take (by kernel_rfl) (fun K hK => ?_); go_simp; first | (refine hK _ ?_; clear hK K) | (apply Exists.intro; refine ⟨fun _ => ?_, hK _ ?_⟩; (first | with_reducible exact C1.out _ _ | with_reducible exact C2.out _ _); clear hK K)
                refine qw_take (by kernel_rfl) (fun K hK => ?_); go_simp; first | (refine hK _ ?_; clear hK K) | (apply Exists.intro; refine ⟨fun _ => ?_, hK _ ?_⟩; (first | with_reducible exact C1.out _ _ | with_reducible exact C2.out _ _); clear hK K)
                refine qw_take (by kernel_rfl) (fun K hK => ?_); go_simp; first | (refine hK _ ?_; clear hK K) | (apply Exists.intro; refine ⟨fun _ => ?_, hK _ ?_⟩; (first | with_reducible exact C1.out _ _ | with_reducible exact C2.out _ _); clear hK K)
                refine qw_take (by kernel_rfl) (fun K hK => ?_); go_simp; first | (refine hK _ ?_; clear hK K) | (apply Exists.intro; refine ⟨fun _ => ?_, hK _ ?_⟩; (first | with_reducible exact C1.out _ _ | with_reducible exact C2.out _ _); clear hK K)
                refine qw_take (by kernel_rfl) (fun K hK => ?_); go_simp; first | (refine hK _ ?_; clear hK K) | (apply Exists.intro; refine ⟨fun _ => ?_, hK _ ?_⟩; (first | with_reducible exact C1.out _ _ | with_reducible exact C2.out _ _); clear hK K)
                refine qw_take (by kernel_rfl) (fun K hK => ?_); go_simp; first | (refine hK _ ?_; clear hK K) | (apply Exists.intro; refine ⟨fun _ => ?_, hK _ ?_⟩; (first | with_reducible exact C1.out _ _ | with_reducible exact C2.out _ _); clear hK K)
                refine qw_take (by kernel_rfl) (fun K hK => ?_); go_simp; first | (refine hK _ ?_; clear hK K) | (apply Exists.intro; refine ⟨fun _ => ?_, hK _ ?_⟩; (first | with_reducible exact C1.out _ _ | with_reducible exact C2.out _ _); clear hK K)
                refine qw_take (by kernel_rfl) (fun K hK => ?_); go_simp; first | (refine hK _ ?_; clear hK K) | (apply Exists.intro; refine ⟨fun _ => ?_, hK _ ?_⟩; (first | with_reducible exact C1.out _ _ | with_reducible exact C2.out _ _); clear hK K)
                refine qw_take (by kernel_rfl) (fun K hK => ?_); go_simp; first | (refine hK _ ?_; clear hK K) | (apply Exists.intro; refine ⟨fun _ => ?_, hK _ ?_⟩; (first | with_reducible exact C1.out _ _ | with_reducible exact C2.out _ _); clear hK K)
                refine qw_take (by kernel_rfl) (fun K hK => ?_); go_simp; first | (refine hK _ ?_; clear hK K) | (apply Exists.intro; refine ⟨fun _ => ?_, hK _ ?_⟩; (first | with_reducible exact C1.out _ _ | with_reducible exact C2.out _ _); clear hK K)
                refine qw_take (by kernel_rfl) (fun K hK => ?_); go_simp; first | (refine hK _ ?_; clear hK K) | (apply Exists.intro; refine ⟨fun _ => ?_, hK _ ?_⟩; (first | with_reducible exact C1.out _ _ | with_reducible exact C2.out _ _); clear hK K)
                refine qw_take (by kernel_rfl) (fun K hK => ?_); go_simp; first | (refine hK _ ?_; clear hK K) | (apply Exists.intro; refine ⟨fun _ => ?_, hK _ ?_⟩; (first | with_reducible exact C1.out _ _ | with_reducible exact C2.out _ _); clear hK K)
                refine qw_take (by kernel_rfl) (fun K hK => ?_); go_simp; first | (refine hK _ ?_; clear hK K) | (apply Exists.intro; refine ⟨fun _ => ?_, hK _ ?_⟩; (first | with_reducible exact C1.out _ _ | with_reducible exact C2.out _ _); clear hK K)
                refine qw_take (by kernel_rfl) (fun K hK => ?_); go_simp; first | (refine hK _ ?_; clear hK K) | (apply Exists.intro; refine ⟨fun _ => ?_, hK _ ?_⟩; (first | with_reducible exact C1.out _ _ | with_reducible exact C2.out _ _); clear hK K)
                refine qw_take (by kernel_rfl) (fun K hK => ?_); go_simp; first | (refine hK _ ?_; clear hK K) | (apply Exists.intro; refine ⟨fun _ => ?_, hK _ ?_⟩; (first | with_reducible exact C1.out _ _ | with_reducible exact C2.out _ _); clear hK K)
                refine qw_take (by kernel_rfl) (fun K hK => ?_); go_simp; first | (refine hK _ ?_; clear hK K) | (apply Exists.intro; refine ⟨fun _ => ?_, hK _ ?_⟩; (first | with_reducible exact C1.out _ _ | with_reducible exact C2.out _ _); clear hK K)
                refine qw_take (by kernel_rfl) (fun K hK => ?_); go_simp; first | (refine hK _ ?_; clear hK K) | (apply Exists.intro; refine ⟨fun _ => ?_, hK _ ?_⟩; (first | with_reducible exact C1.out _ _ | with_reducible exact C2.out _ _); clear hK K)
                refine qw_nil ?_
                intro _ hw'
                obtain ⟨⟨dq, osq⟩, hw''⟩ := hw'
                subst hw''
                have HB3 := Lib.hid (HB2.out.trans ((below_regrown W dq osq).mono HB2.out.size))
                clear e1 e2 C1 C2
                generalize Sort.grow (redrawn W dq) osq = w3 at *
                go_wp2_with fail
                go_ret
                exact ⟨ret_bool HD.out, HB3.out⟩
              | true =>
                have HD := Lib.hid (hd.out.trans (okUp_go (by omega) hkx hp hq2 h1 h2 h3))
                have hls : Op.bytesLess t.toList s.toList = true := by rw [ByteArray.toList_eq, ByteArray.toList_eq]; exact h3
                have hle : (Op.bytesLess s.toList t.toList || s.toList == t.toList) = false := less_not _ _ hls
                have C1 := Lib.hid (fun d os => Calls.regrown_of (nmfit s true h1 hsz (Sort.grow (redrawn W d) os)))
                have C2 := Lib.hid (fun d os => Calls.regrown_of (qtyfit n true h2 (Sort.grow (redrawn W d) os)))
                clear hd hp hkx hB hc1 d3 hq2
                go_wp2_with fail
                have e1 := gx.out; have e2 := gn.out
                rw [show wr.alloc (.cells #[.string s, .int .i64 n] 53) = W from (boxed_alloc wr s n).symm.trans HW.out]
                clear d1 d2
                refine wp_region_qw (by kernel_rfl) (by kernel_rfl) ?_
                refine qw_take (by kernel_rfl) (fun K hK => ?_); go_simp; first | (refine hK _ ?_; clear hK K) | (apply Exists.intro; refine ⟨fun _ => ?_, hK _ ?_⟩; (first | with_reducible exact C1.out _ _ | with_reducible exact C2.out _ _); clear hK K)
                refine qw_take (by kernel_rfl) (fun K hK => ?_); go_simp; first | (refine hK _ ?_; clear hK K) | (apply Exists.intro; refine ⟨fun _ => ?_, hK _ ?_⟩; (first | with_reducible exact C1.out _ _ | with_reducible exact C2.out _ _); clear hK K)
                refine qw_take (by kernel_rfl) (fun K hK => ?_); go_simp; first | (refine hK _ ?_; clear hK K) | (apply Exists.intro; refine ⟨fun _ => ?_, hK _ ?_⟩; (first | with_reducible exact C1.out _ _ | with_reducible exact C2.out _ _); clear hK K)
                refine qw_take (by kernel_rfl) (fun K hK => ?_); go_simp; first | (refine hK _ ?_; clear hK K) | (apply Exists.intro; refine ⟨fun _ => ?_, hK _ ?_⟩; (first | with_reducible exact C1.out _ _ | with_reducible exact C2.out _ _); clear hK K)
                refine qw_take (by kernel_rfl) (fun K hK => ?_); go_simp; first | (refine hK _ ?_; clear hK K) | (apply Exists.intro; refine ⟨fun _ => ?_, hK _ ?_⟩; (first | with_reducible exact C1.out _ _ | with_reducible exact C2.out _ _); clear hK K)
                refine qw_take (by kernel_rfl) (fun K hK => ?_); go_simp; first | (refine hK _ ?_; clear hK K) | (apply Exists.intro; refine ⟨fun _ => ?_, hK _ ?_⟩; (first | with_reducible exact C1.out _ _ | with_reducible exact C2.out _ _); clear hK K)
                refine qw_take (by kernel_rfl) (fun K hK => ?_); go_simp; first | (refine hK _ ?_; clear hK K) | (apply Exists.intro; refine ⟨fun _ => ?_, hK _ ?_⟩; (first | with_reducible exact C1.out _ _ | with_reducible exact C2.out _ _); clear hK K)
                refine qw_take (by kernel_rfl) (fun K hK => ?_); go_simp; first | (refine hK _ ?_; clear hK K) | (apply Exists.intro; refine ⟨fun _ => ?_, hK _ ?_⟩; (first | with_reducible exact C1.out _ _ | with_reducible exact C2.out _ _); clear hK K)
                refine qw_take (by kernel_rfl) (fun K hK => ?_); go_simp; first | (refine hK _ ?_; clear hK K) | (apply Exists.intro; refine ⟨fun _ => ?_, hK _ ?_⟩; (first | with_reducible exact C1.out _ _ | with_reducible exact C2.out _ _); clear hK K)
                refine qw_take (by kernel_rfl) (fun K hK => ?_); go_simp; first | (refine hK _ ?_; clear hK K) | (apply Exists.intro; refine ⟨fun _ => ?_, hK _ ?_⟩; (first | with_reducible exact C1.out _ _ | with_reducible exact C2.out _ _); clear hK K)
                refine qw_take (by kernel_rfl) (fun K hK => ?_); go_simp; first | (refine hK _ ?_; clear hK K) | (apply Exists.intro; refine ⟨fun _ => ?_, hK _ ?_⟩; (first | with_reducible exact C1.out _ _ | with_reducible exact C2.out _ _); clear hK K)
                refine qw_take (by kernel_rfl) (fun K hK => ?_); go_simp; first | (refine hK _ ?_; clear hK K) | (apply Exists.intro; refine ⟨fun _ => ?_, hK _ ?_⟩; (first | with_reducible exact C1.out _ _ | with_reducible exact C2.out _ _); clear hK K)
                refine qw_take (by kernel_rfl) (fun K hK => ?_); go_simp; first | (refine hK _ ?_; clear hK K) | (apply Exists.intro; refine ⟨fun _ => ?_, hK _ ?_⟩; (first | with_reducible exact C1.out _ _ | with_reducible exact C2.out _ _); clear hK K)
                refine qw_take (by kernel_rfl) (fun K hK => ?_); go_simp; first | (refine hK _ ?_; clear hK K) | (apply Exists.intro; refine ⟨fun _ => ?_, hK _ ?_⟩; (first | with_reducible exact C1.out _ _ | with_reducible exact C2.out _ _); clear hK K)
                refine qw_take (by kernel_rfl) (fun K hK => ?_); go_simp; first | (refine hK _ ?_; clear hK K) | (apply Exists.intro; refine ⟨fun _ => ?_, hK _ ?_⟩; (first | with_reducible exact C1.out _ _ | with_reducible exact C2.out _ _); clear hK K)
                refine qw_take (by kernel_rfl) (fun K hK => ?_); go_simp; first | (refine hK _ ?_; clear hK K) | (apply Exists.intro; refine ⟨fun _ => ?_, hK _ ?_⟩; (first | with_reducible exact C1.out _ _ | with_reducible exact C2.out _ _); clear hK K)
                refine qw_take (by kernel_rfl) (fun K hK => ?_); go_simp; first | (refine hK _ ?_; clear hK K) | (apply Exists.intro; refine ⟨fun _ => ?_, hK _ ?_⟩; (first | with_reducible exact C1.out _ _ | with_reducible exact C2.out _ _); clear hK K)
                refine qw_take (by kernel_rfl) (fun K hK => ?_); go_simp; first | (refine hK _ ?_; clear hK K) | (apply Exists.intro; refine ⟨fun _ => ?_, hK _ ?_⟩; (first | with_reducible exact C1.out _ _ | with_reducible exact C2.out _ _); clear hK K)
                refine qw_take (by kernel_rfl) (fun K hK => ?_); go_simp; first | (refine hK _ ?_; clear hK K) | (apply Exists.intro; refine ⟨fun _ => ?_, hK _ ?_⟩; (first | with_reducible exact C1.out _ _ | with_reducible exact C2.out _ _); clear hK K)
                refine qw_take (by kernel_rfl) (fun K hK => ?_); go_simp; first | (refine hK _ ?_; clear hK K) | (apply Exists.intro; refine ⟨fun _ => ?_, hK _ ?_⟩; (first | with_reducible exact C1.out _ _ | with_reducible exact C2.out _ _); clear hK K)
                refine qw_take (by kernel_rfl) (fun K hK => ?_); go_simp; first | (refine hK _ ?_; clear hK K) | (apply Exists.intro; refine ⟨fun _ => ?_, hK _ ?_⟩; (first | with_reducible exact C1.out _ _ | with_reducible exact C2.out _ _); clear hK K)
                refine qw_take (by kernel_rfl) (fun K hK => ?_); go_simp; first | (refine hK _ ?_; clear hK K) | (apply Exists.intro; refine ⟨fun _ => ?_, hK _ ?_⟩; (first | with_reducible exact C1.out _ _ | with_reducible exact C2.out _ _); clear hK K)
                refine qw_take (by kernel_rfl) (fun K hK => ?_); go_simp; first | (refine hK _ ?_; clear hK K) | (apply Exists.intro; refine ⟨fun _ => ?_, hK _ ?_⟩; (first | with_reducible exact C1.out _ _ | with_reducible exact C2.out _ _); clear hK K)
                refine qw_take (by kernel_rfl) (fun K hK => ?_); go_simp; first | (refine hK _ ?_; clear hK K) | (apply Exists.intro; refine ⟨fun _ => ?_, hK _ ?_⟩; (first | with_reducible exact C1.out _ _ | with_reducible exact C2.out _ _); clear hK K)
                refine qw_take (by kernel_rfl) (fun K hK => ?_); go_simp; first | (refine hK _ ?_; clear hK K) | (apply Exists.intro; refine ⟨fun _ => ?_, hK _ ?_⟩; (first | with_reducible exact C1.out _ _ | with_reducible exact C2.out _ _); clear hK K)
                refine qw_nil ?_
                intro _ hw'
                obtain ⟨⟨dq, osq⟩, hw''⟩ := hw'
                subst hw''
                have HB3 := Lib.hid (HB2.out.trans ((below_regrown W dq osq).mono HB2.out.size))
                clear e1 e2 C1 C2
                generalize Sort.grow (redrawn W dq) osq = w3 at *
                go_wp2_with fail
                go_roundw
                case rel => exact ⟨j + 1 + 1, by omega, by go_num, HD, HB3⟩
                case measure => simp [intOf]; omega
      · obtain rfl : k = len := by omega
        have HD := Lib.hid (hd.out.trans (okUp_done (by rw [HX.out.1]; exact hlk)))
        clear hd
        go_wp2_with fail
        go_ret
        exact ⟨ret_bool HD.out, hB.out⟩
  · have HD := Lib.hid (hv.symm.trans (fitL_long (by rw [h.1]; omega)))
    clear h hv hs
    go_enter Try.func33, Try.ntmps33
    go_wp2_with fail
    go_ret
    exact ⟨ret_bool HD.out, Below.refl _ _⟩
end Go.Proofs.Ytjclkiabgemfpaa.Lines

/-
  Rows of lines and of texts of the call's own, a line or a text more behind them; the world and what it keeps: for the walks that build lists.
-/
set_option linter.unusedVariables false
set_option maxRecDepth 4000
set_option maxRecDepth 4000
namespace Go.Proofs.Ytjclkiabgemfpaa.Lines
open Go.RowKit LinesP
theorem info_line : (Try.prog.info? 53).map (fun i => (i.zero, i.size, i.bytes)) = some (some (.agg #[.string ⟨#[]⟩, .int .i64 0]), 2, 24) := by kernel_rfl
def lcells (l : List Ln) : List Value := l.flatMap fun x => [Value.string x.1, .int .i64 x.2]
theorem lcells_get : ∀ (l : List Ln) (k : Nat) (x : Ln), l[k]? = some x → (lcells l)[k * 2]? = some (.string x.1) ∧ (lcells l)[k * 2 + 1]? = some (.int .i64 x.2)
  | [], k, x, h => by simp at h
  | y :: l, 0, x, h => by simp at h; subst h; exact ⟨rfl, rfl⟩
  | y :: l, k + 1, x, h => by
    have h2 := lcells_get l k x (by simpa using h)
    rw [show (k + 1) * 2 = k * 2 + 1 + 1 by omega]
    exact h2
theorem owns_cell {w : World} {B n size g j : Nat} {e : TypeId} {v u : Value} {xs : List Value} (h : w.ownsRow B e size v n xs) (hg : v.ownBlock = some g) (hu : xs[j]? = some u) : w.cell? ⟨g, j, none⟩ = some u := by
  have h2 := h.cells hg j u hu
  rw [Addr.add_lit, Nat.zero_add] at h2
  exact h2
theorem owns_below {w w' : World} {B n size : Nat} {e : TypeId} {v : Value} {xs : List Value} (h : w.ownsRow B e size v n xs) (hb : Below w.heap.size w w') : w'.ownsRow B e size v n xs := by
  refine ⟨h.1, ?_⟩
  rcases h.2 with hn | ⟨g, cap, cur, hv, hbg, hg, rest⟩
  · exact .inl hn
  · exact .inr ⟨g, cap, cur, hv, hbg, (hb.block g (Array.getElem?_eq_some_iff.1 hg).1).trans hg, rest⟩
theorem own_cap {w : World} {B n g cap : Nat} {e : TypeId} {xs : List Value} {size : Nat} (h : w.ownsRow B e size (.slice (some ⟨g, 0, none⟩) n cap) n xs) : n ≤ cap := by
  rcases h.2 with ⟨e, _⟩ | ⟨g', cap', cur, hv, _, _, h1, _⟩
  · cases e
  · cases hv; exact h1
theorem owns_form {w : World} {B n size : Nat} {e : TypeId} {v : Value} {xs : List Value} (h : w.ownsRow B e size v n xs) : (v = .slice none 0 0 ∧ n = 0) ∨ ∃ g cap, v = .slice (some ⟨g, 0, none⟩) n cap ∧ B ≤ g ∧ g < w.heap.size := by
  rcases h.2 with ⟨rfl, h0⟩ | ⟨g, cap, cur, hv, hb, hg, _⟩
  · exact .inl ⟨rfl, h0⟩
  · exact .inr ⟨g, cap, hv, hb, (Array.getElem?_eq_some_iff.1 hg).1⟩
theorem ls_of {w : World} {B n : Nat} {v : Value} {l : List Ln} (h : w.ownsRow B 53 2 v n (lcells l)) (hn : l.length = n) (hl : n ≤ 1000000000) : ∃ a cap, v = .slice a n cap ∧ LsAt w a n l := by
  rcases owns_form h with ⟨rfl, h0⟩ | ⟨g, cap, rfl, _, hlt⟩
  · exact ⟨none, 0, by rw [h0], hn, by omega, .inl h0⟩
  · refine ⟨_, cap, rfl, hn, by omega, .inr ⟨g, 0, rfl, hlt, fun i hi => ?_⟩⟩
    have hi' : i < l.length := by omega
    obtain ⟨h1, h2⟩ := lcells_get l i l[i] (List.getElem?_eq_getElem hi')
    have e : l.getD i ln0 = l[i] := by simp [List.getD, hi']
    rw [e, Nat.zero_add]
    exact ⟨owns_cell h rfl h1, owns_cell h rfl h2⟩
theorem below_append {B n size : Nat} {w wr w' : World} {e : TypeId} {v : Value} {xs : List Value} {o : Obj} (hb : Below B w wr) (hB : B ≤ wr.heap.size) (hown : wr.ownsRow B e size v n xs) (hg : (wr.alloc o).grownBy w' v.ownBlock) : Below B w w' :=
  (hb.alloc hB o).grown hg (by simp; omega) (fun k hk => (hown.lt k hk).1)
end Go.Proofs.Ytjclkiabgemfpaa.Lines
