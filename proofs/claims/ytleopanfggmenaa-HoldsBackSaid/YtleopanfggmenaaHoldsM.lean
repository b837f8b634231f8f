/-
  The contracts of Total and Due (both): any holds; what was there stays as it was.
-/
import Derived.Test.YtleopanfggmenaaHoldsL
import Derived.Test.YtleopanfggmenaaInts
set_option linter.unusedVariables false
set_option maxRecDepth 4000
namespace Go.Proofs.Ytleopanfggmenaa.Holds
open Go.RowKit LinesP HoldsP
open Go.Proofs.Ytleopanfggmenaa.Lines (LsAt Sz SzM ret_bool ret_int below_keep below_drewN)
open Go.Proofs.Ytleopanfggmenaa.Ints (IntsAt cellsI append_int ints_of_owns owns_slice')

theorem ofL_bound (s : ByteArray) : ∀ {l : List Ln}, (∀ x ∈ l, 1 ≤ x.2 ∧ x.2 ≤ 1048576) → 0 ≤ ofL s l ∧ ofL s l ≤ 1048576
  | [], _ => by simp [ofL]
  | x :: r, h => by
    rw [ofL]
    have h1 := h x List.mem_cons_self
    have h2 := ofL_bound s (l := r) fun y hy => h y (List.mem_cons_of_mem _ hy)
    split <;> omega
theorem ofL_fit {s : ByteArray} {l : List Ln} (h : fitL l = true) : 0 ≤ ofL s l ∧ ofL s l ≤ 1048576 :=
  ofL_bound s fun x hx => qty_iff.1 (fitL_mem h x hx).2
theorem sumH_bound (s : ByteArray) : ∀ {l : List Hd}, (∀ x ∈ l, oneH x = true) → 0 ≤ sumH s l ∧ sumH s l ≤ (l.length : Int) * 1048576
  | [], _ => by simp [sumH]
  | x :: r, h => by
    rw [sumH, List.length_cons]
    have h1 := ofL_fit (s := s) (oneH_fit (h x List.mem_cons_self))
    have h2 := sumH_bound s (l := r) fun y hy => h y (List.mem_cons_of_mem _ hy)
    omega
theorem sumH_take {s : ByteArray} {l : List Hd} (hf : fitH l = true) (k : Nat) : 0 ≤ sumH s (l.take k) ∧ sumH s (l.take k) ≤ 16777216 := by
  obtain ⟨h1, h2, _⟩ := fitH_iff.1 hf
  have h := sumH_bound s (l := l.take k) fun x hx => (h2 x (List.mem_of_mem_take hx)).1
  have hl : (l.take k).length ≤ 16 := by rw [List.length_take]; omega
  have : ((l.take k).length : Int) ≤ 16 := by omega
  omega
theorem sumH_step {s : ByteArray} {l : List Hd} {k : Nat} {x : Hd} (hk : k < l.length) (hx : l.getD k hd0 = x) : sumH s (l.take (k + 1)) = sumH s (l.take k) + ofL s x.ls := by
  rw [take_snocH hk hx, sum_append, sumH, sumH, Int.add_zero]
theorem of_is (la : Option Addr) (n lc : Nat) (ls : List Ln) (s : ByteArray) (v : Int) (hv : ofL s ls = v) (w : World) (h : LsAt w la n ls) :
    Calls Try.prog 31 #[.slice la n lc, .string s] w fun e w' => e = .returned (.int .i64 v) ∧ Below w.heap.size w w' := by
  have := Lines.of_any la n lc ls s w h
  rw [hv] at this
  exact this
theorem rof_is (la : Option Addr) (n lc : Nat) (ls : List Ln) (s : ByteArray) (v : Int) (hv : ofL s ls = v) (w : World) (h : LsAt w la n ls) :
    Calls Try.prog 24 #[.slice la n lc, .string s] w fun e w' => e = .returned (.int .i64 v) ∧ Below w.heap.size w w' := by
  have := Lines.rof_any la n lc ls s w h
  rw [hv] at this
  exact this
set_option maxHeartbeats 1000000 in
theorem total_any (a : Option Addr) (len cap : Nat) (l : List Hd) (s : ByteArray) (w : World) (h : HsAt w a len l) (hz : SzH l) :
    Calls Try.prog 13 #[.slice a len cap, .string s] w fun e w' => e = .returned (.int .i64 (totH l s)) ∧ Below w.heap.size w w' := by
  obtain ⟨v, hv⟩ : ∃ v, totH l s = v := ⟨_, rfl⟩
  rw [hv]
  have hl := h.le
  cases hf : fitH l with
  | false =>
    have C := Lib.hid (fit_is a len cap l false hf w h hz)
    have HD : Hid (v = 0) := by show v = 0; rw [← hv]; unfold totH; rw [hf]; rfl
    clear hv h hz hf
    go_enter Try.func13, Try.ntmps13
    go_wp2_with fail
    refine C.out.mono ?_
    rintro e w1 ⟨rfl, hb⟩
    go_wp2_with fail
    go_ret
    exact ⟨ret_int HD.out, hb⟩
  | true =>
    have C := Lib.hid (fit_is a len cap l true hf w h hz)
    have HD : Hid (v = sumH s l) := by show v = sumH s l; rw [← hv]; unfold totH; rw [hf]; rfl
    have HF := Lib.hid (fun k => sumH_take (s := s) hf k)
    have HX := Lib.hid h
    clear hv h hz hf
    go_enter Try.func13, Try.ntmps13
    go_wp2_with fail
    refine C.out.mono ?_
    rintro e w1 ⟨rfl, hb1⟩
    have HB1 := Lib.hid hb1
    clear hb1
    go_wp2_with fail
    go_loopw [5, 13] (fun t i wr => ∃ k : Nat, k ≤ len ∧ i = .int .i64 (k : Int) ∧ t = .int .i64 (sumH s (l.take k)) ∧ Hid (Below w.heap.size w wr)) (fun _ i _ => len - (intOf i).toNat)
    case atStart => exact ⟨0, Nat.zero_le _, rfl, rfl, HB1⟩
    case round =>
      obtain ⟨k, hk, rfl, rfl, hB⟩ := hrel
      by_cases hlk : k < len
      · have hkx : k < l.length := by rw [HX.out.len]; exact hlk
        obtain ⟨b1, o1, g, la, lc, ls, t, rfl, g1, hp, hc1⟩ := HX.out.at hlk
        obtain ⟨d1, d2, d3, _⟩ := hc1 wr hB.out
        have hstep := sumH_step (s := s) hkx hp
        obtain ⟨m, hm⟩ : ∃ m, ofL s ls = m := ⟨_, rfl⟩
        have hf1 := HF.out k
        have hf2 := HF.out (k + 1)
        rw [hstep] at hf2
        simp only [hm] at hf2 hstep
        have HB2 := Lib.hid (below_keep hB.out (box_below wr g la ls.length lc t) hB.out.size)
        have dL := (hc1 _ HB2.out).2.2.2
        obtain ⟨n, hn⟩ : ∃ n, ls.length = n := ⟨_, rfl⟩
        rw [hn] at d2 dL HB2
        have C2 := Lib.hid (of_is la n lc ls s m hm _ dL)
        obtain ⟨W, hW⟩ : ∃ W, box wr g la n lc t = W := ⟨_, rfl⟩
        have hc0 := box_cells wr g la n lc t (Below.refl _ _)
        rw [hW] at HB2 C2 hc0
        have HW : Hid (wr.alloc (.cells #[.int .i64 g, .slice la n lc, .int .i64 t] 27) = W) := hW
        obtain ⟨u, hu⟩ : ∃ u, sumH s (l.take k) = u := ⟨_, rfl⟩
        rw [hu] at hf1 hf2 hstep ⊢
        have HST := Lib.hid hstep
        have hw : IntKind.i64.wrap (u + m) = u + m := by rw [IntWalk.i64_in] <;> omega
        obtain ⟨c0, c1, c2⟩ := hc0
        clear hc1 g1 hp hkx hstep hu hm hn dL hW
        go_wp2_with fail
        rw [show wr.alloc (.cells #[.int .i64 g, .slice la n lc, .int .i64 t] 27) = W from HW.out]
        go_wp2_with fail
        refine C2.out.mono ?_
        rintro e w3 ⟨rfl, hb⟩
        have HB3 := Lib.hid (below_keep HB2.out hb HB2.out.size)
        clear hb
        go_wp2_with fail
        go_roundw
        case rel => exact ⟨k + 1, by omega, by go_num, by rw [HST.out], HB3⟩
        case measure => simp [intOf]; omega
      · obtain rfl : k = len := by omega
        have ht : v = sumH s (l.take k) := by rw [HD.out, List.take_of_length_le (Nat.le_of_eq HX.out.len)]
        have HT := Lib.hid ht
        clear ht
        generalize sumH s (l.take k) = t at *
        go_wp2_with fail
        go_ret
        exact ⟨ret_int HT.out, hB.out⟩
set_option maxHeartbeats 1000000 in
theorem rtotal_any (a : Option Addr) (len cap : Nat) (l : List Hd) (s : ByteArray) (w : World) (h : HsAt w a len l) (hz : SzH l) :
    Calls Try.prog 14 #[.slice a len cap, .string s] w fun e w' => e = .returned (.int .i64 (totH l s)) ∧ Below w.heap.size w w' := by
  obtain ⟨v, hv⟩ : ∃ v, totH l s = v := ⟨_, rfl⟩
  rw [hv]
  have hl := h.le
  by_cases h0 : len = 0
  · have HD : Hid (v = 0) := by
      show v = 0
      rw [← hv, List.eq_nil_of_length_eq_zero (h.len.trans h0)]; rfl
    subst h0
    clear hv h hz
    go_enter Try.func14, Try.ntmps14
    go_wp2_with fail
    go_loopw [5, 6] (fun t i wr => t = .int .i64 0 ∧ i = .int .i64 0 ∧ Hid (Below w.heap.size w wr)) (fun _ i _ => 0)
    case atStart => exact ⟨rfl, rfl, Below.refl _ w⟩
    case round =>
      obtain ⟨rfl, rfl, hB⟩ := hrel
      go_wp2_with fail
      go_ret
      exact ⟨ret_int HD.out, hB.out⟩
  cases hf : fitH l with
  | false =>
    have C := Lib.hid (fun w' (hb : Below w.heap.size w w') => rfit_is a len cap l false hf w' (h.keep hb) hz)
    have HD : Hid (v = 0) := by show v = 0; rw [← hv]; unfold totH; rw [hf]; rfl
    clear hv h hz hf
    have hlt : (0 : Int) < (len : Int) := by omega
    go_enter Try.func14, Try.ntmps14
    go_wp2_with fail
    go_loopw [5, 6] (fun t i wr => t = .int .i64 0 ∧ i = .int .i64 0 ∧ Hid (Below w.heap.size w wr)) (fun _ i _ => 0)
    case atStart => exact ⟨rfl, rfl, Below.refl _ w⟩
    case round =>
      obtain ⟨rfl, rfl, hB⟩ := hrel
      go_wp2_with fail
      refine (C.out wr hB.out).mono ?_
      rintro e w1 ⟨rfl, hb⟩
      have HB1 := Lib.hid (below_keep hB.out hb hB.out.size)
      clear hb
      go_wp2_with fail
      go_ret
      exact ⟨ret_int HD.out, HB1.out⟩
  | true =>
    have C := Lib.hid (fun w' (hb : Below w.heap.size w w') => rfit_is a len cap l true hf w' (h.keep hb) hz)
    have HD : Hid (v = sumH s l) := by show v = sumH s l; rw [← hv]; unfold totH; rw [hf]; rfl
    have HF := Lib.hid (fun k => sumH_take (s := s) hf k)
    have HX := Lib.hid h
    clear hv h hz hf
    go_enter Try.func14, Try.ntmps14
    go_wp2_with fail
    go_loopw [5, 6] (fun t i wr => ∃ k : Nat, k ≤ len ∧ i = .int .i64 (k : Int) ∧ t = .int .i64 (sumH s (l.take k)) ∧ Hid (Below w.heap.size w wr)) (fun _ i _ => len - (intOf i).toNat)
    case atStart => exact ⟨0, Nat.zero_le _, rfl, rfl, Below.refl _ w⟩
    case round =>
      obtain ⟨k, hk, rfl, rfl, hB⟩ := hrel
      by_cases hlk : k < len
      · have hC := Lib.hid (C.out wr hB.out)
        have hkx : k < l.length := by rw [HX.out.len]; exact hlk
        obtain ⟨b1, o1, g, la, lc, ls, t, rfl, g1, hp, hc1⟩ := HX.out.at hlk
        have HC1 := Lib.hid hc1
        have hstep := sumH_step (s := s) hkx hp
        obtain ⟨m, hm⟩ : ∃ m, ofL s ls = m := ⟨_, rfl⟩
        have HM := Lib.hid hm
        have hf1 := HF.out k
        have hf2 := HF.out (k + 1)
        rw [hstep] at hf2
        simp only [hm] at hf2 hstep
        obtain ⟨u, hu⟩ : ∃ u, sumH s (l.take k) = u := ⟨_, rfl⟩
        rw [hu] at hf1 hf2 hstep ⊢
        have HST := Lib.hid hstep
        have hw : IntKind.i64.wrap (u + m) = u + m := by rw [IntWalk.i64_in] <;> omega
        obtain ⟨n, hn⟩ : ∃ n, ls.length = n := ⟨_, rfl⟩
        have HN := Lib.hid hn
        clear hc1 g1 hp hkx hstep hu hm hn
        go_wp2_with fail
        refine hC.out.mono ?_
        rintro e w1 ⟨rfl, hb⟩
        have HB1 := Lib.hid (below_keep hB.out hb hB.out.size)
        obtain ⟨d1, d2, d3, dL⟩ := HC1.out w1 HB1.out
        rw [HN.out] at d2 dL
        have C2 := Lib.hid (rof_is la n lc ls s m HM.out w1 dL)
        clear hb dL
        go_wp2_with fail
        refine C2.out.mono ?_
        rintro e w3 ⟨rfl, hb⟩
        have HB3 := Lib.hid (below_keep HB1.out hb HB1.out.size)
        clear hb
        go_wp2_with fail
        go_roundw
        case rel => exact ⟨k + 1, by omega, by go_num, by rw [HST.out], HB3⟩
        case measure => simp [intOf]; omega
      · obtain rfl : k = len := by omega
        have ht : v = sumH s (l.take k) := by rw [HD.out, List.take_of_length_le (Nat.le_of_eq HX.out.len)]
        have HT := Lib.hid ht
        clear ht
        generalize sumH s (l.take k) = t at *
        go_wp2_with fail
        go_ret
        exact ⟨ret_int HT.out, hB.out⟩
/-! ### Due -/
theorem append_int_at {ops : Array Oper} {rest : List Oper} {o : Oper} {a : Act} {Q : Exit → Act → World → Prop} (hgd : o.guard = none) (s x : Operand)
    (ho : o.op = .call { callee := .builtin .append, args := #[s, x], argTypes := #[33, 33] }) (base : Nat) (w : World) (k : Nat) (hk : w.heap.size = k) (c : Int)
    (v : Value) (n : Nat) (xs : List Int) (hs : a.eval s = v) (hown : w.ownsRow base 3 1 v n (cellsI xs)) (hx : a.eval x = .slice (some ⟨k, 0, none⟩) 1 1)
    (hn : n ≤ 4000000) (hbase : base ≤ w.heap.size)
    (h : ∀ v' w', w'.ownsRow base 3 1 v' (n + 1) (cellsI (xs ++ [c])) → (w.alloc (.cells #[.int .i64 c] 3)).grownBy w' v.ownBlock → wpList Try.prog ops Q rest (a.put o.dst v') w') :
    wpList Try.prog ops Q (o :: rest) a (w.alloc (.cells #[.int .i64 c] 3)) := by
  subst hk
  exact append_int hgd s x ho base w c v n xs hs hown hx hn hbase h
/-- Each saga is a number. -/
def BdH (l : List Hd) : Prop := ∀ x ∈ l, -9223372036854775808 ≤ x.saga ∧ x.saga ≤ 9223372036854775807
theorem due_bd {l : List Hd} (h : BdH l) (n : Int) : ∀ x ∈ dueH n l, -9223372036854775808 ≤ x ∧ x ≤ 9223372036854775807 := by
  intro x hx
  unfold dueH at hx
  obtain ⟨y, hy, rfl⟩ := List.mem_map.1 hx
  exact h y (List.mem_filter.1 hy).1
/-- What Due tells. -/
def DueP (w : World) (xs : List Int) (e : Ending) (w' : World) : Prop := ∃ a c, e = .returned (.slice a xs.length c) ∧ IntsAt w' a xs.length xs ∧ Below w.heap.size w w'
theorem due_step {l : List Hd} {k : Nat} {x : Hd} (n : Int) (hk : k < l.length) (hx : l.getD k hd0 = x) : dueH n (l.take (k + 1)) = dueH n (l.take k) ++ (if dueB n x = true then [x.saga] else []) := by
  rw [take_snocH hk hx]
  unfold dueH
  rw [List.filter_append, List.map_append]
  congr 1
  simp only [List.filter_cons, List.filter_nil]
  split <;> simp
theorem due_len (n : Int) (l : List Hd) (k : Nat) : (dueH n (l.take k)).length ≤ k := by
  unfold dueH
  rw [List.length_map]
  exact Nat.le_trans (List.length_filter_le _ _) (by rw [List.length_take]; omega)
set_option maxHeartbeats 1000000 in
theorem due_any (a : Option Addr) (len cap : Nat) (l : List Hd) (m : Int) (w : World) (h : HsAt w a len l) (hb : BdH l) (hn : len ≤ 1000000) :
    Calls Try.prog 16 #[.slice a len cap, .int .i64 m] w (DueP w (dueH m l)) := by
  have hl := h.le
  obtain ⟨r, hr⟩ : ∃ r, dueH m l = r := ⟨_, rfl⟩
  rw [hr]
  have HX := Lib.hid h
  have HR := Lib.hid hr
  have HBD := Lib.hid (due_bd hb m)
  rw [hr] at HBD
  clear h hb hr
  go_enter Try.func16, Try.ntmps16
  go_wp2_with fail
  go_loopw [5, 10] (fun v i wr => ∃ (k n : Nat) (u : Value), k ≤ len ∧ u = v ∧ i = .int .i64 (k : Int) ∧ n ≤ k ∧ Hid ((dueH m (l.take k)).length = n) ∧ Hid (wr.ownsRow w.heap.size 3 1 u n (cellsI (dueH m (l.take k)))) ∧ Hid (Below w.heap.size w wr)) (fun _ i _ => len - (intOf i).toNat)
  case atStart => exact ⟨0, 0, _, Nat.zero_le _, rfl, rfl, Nat.le_refl _, Lib.hid rfl, World.ownsRow_nil _ _ _ _, Below.refl _ _⟩
  case round =>
    obtain ⟨k, n, u, hk, rfl, rfl, hnk, hN, hO, hB⟩ := hrel
    by_cases hlk : k < len
    · have hkx : k < l.length := by rw [HX.out.len]; exact hlk
      obtain ⟨b1, o1, g, la, lc, ls, t, rfl, g1, hp, hc1⟩ := HX.out.at hlk
      obtain ⟨d1, d2, d3, _⟩ := hc1 wr hB.out
      have hst := due_step m hkx hp
      obtain ⟨q, hq⟩ : ∃ q, ls.length = q := ⟨_, rfl⟩
      rw [hq] at d2
      have HB1 := Lib.hid (below_keep hB.out (box_below wr g la q lc t) hB.out.size)
      have hc0 := box_cells wr g la q lc t (Below.refl _ _)
      have hO1 := Lines.owns_below hO.out (box_below wr g la q lc t)
      have hsW := box_size wr g la q lc t
      obtain ⟨W, hW⟩ : ∃ W, box wr g la q lc t = W := ⟨_, rfl⟩
      rw [hW] at HB1 hc0 hO1 hsW
      have HW : Hid (wr.alloc (.cells #[.int .i64 g, .slice la q lc, .int .i64 t] 27) = W) := hW
      have HO1 := Lib.hid hO1
      obtain ⟨c0, c1, c2⟩ := hc0
      have hszW := HB1.out.size
      clear hO1 hW
      by_cases h0 : t = 0
      · have hne : (t != 0) = false := by simpa using h0
        have hdb : dueB m ⟨g, ls, t⟩ = false := by unfold dueB; simp [h0]
        have hst2 : dueH m (l.take (k + 1)) = dueH m (l.take k) := by rw [hst, hdb]; simp
        have HN2 : Hid ((dueH m (l.take (k + 1))).length = n) := by show _ = _; rw [hst2]; exact hN.out
        have HO2 : Hid (W.ownsRow w.heap.size 3 1 u n (cellsI (dueH m (l.take (k + 1))))) := by show World.ownsRow _ _ _ _ _ _ _; rw [hst2]; exact HO1.out
        clear hst hst2 hdb hc1 hkx hp hq hO hB h0
        go_wp2_with fail
        rw [show wr.alloc (.cells #[.int .i64 g, .slice la q lc, .int .i64 t] 27) = W from HW.out]
        go_wp2_with fail
        go_roundw
        case rel => exact ⟨k + 1, n, u, by omega, rfl, by go_num, by omega, HN2, HO2, HB1⟩
        case measure => simp [intOf]; omega
      · by_cases h1 : t ≤ m
        · have hne : (t != 0) = true := by simpa using h0
          have hdb : dueB m ⟨g, ls, t⟩ = true := by unfold dueB; simp [h0, h1]
          have hst2 : dueH m (l.take (k + 1)) = dueH m (l.take k) ++ [g] := by rw [hst, hdb]; simp
          have HN2 : Hid ((dueH m (l.take (k + 1))).length = n + 1) := by show _ = _; rw [hst2, List.length_append, hN.out]; rfl
          have HST := Lib.hid hst2
          have hO3 := HO1.out
          obtain ⟨xs, hxs⟩ : ∃ xs, dueH m (l.take k) = xs := ⟨_, rfl⟩
          rw [hxs] at hO3
          have HO3 := Lib.hid hO3
          have HXS := Lib.hid hxs
          clear hst hst2 hdb hc1 hkx hp hq hO hB h0 hxs hO3
          go_wp2_with (at_builtin; rw [show wr.alloc (.cells #[.int .i64 g, .slice la q lc, .int .i64 t] 27) = W from HW.out]; refine append_int_at rfl (.tmp 23) (.tmp 26) rfl w.heap.size W _ hsW g u n xs rfl HO3.out rfl (by omega) hszW ?_)
          intro v' w5 hO5 hg5
          have HO5 : Hid (w5.ownsRow w.heap.size 3 1 v' (n + 1) (cellsI (dueH m (l.take (k + 1))))) := by show World.ownsRow _ _ _ _ _ _ _; rw [HST.out, HXS.out]; exact hO5
          have HB5 : Hid (Below w.heap.size w w5) := Lines.below_append HB1.out hszW HO3.out hg5
          clear hO5 hg5
          go_wp2_with fail
          go_roundw
          case rel => exact ⟨k + 1, n + 1, v', by omega, rfl, by go_num, by omega, HN2, HO5, HB5⟩
          case measure => simp [intOf]; omega
        · have hne : (t != 0) = true := by simpa using h0
          have hdb : dueB m ⟨g, ls, t⟩ = false := by unfold dueB; simp [h1]
          have hst2 : dueH m (l.take (k + 1)) = dueH m (l.take k) := by rw [hst, hdb]; simp
          have HN2 : Hid ((dueH m (l.take (k + 1))).length = n) := by show _ = _; rw [hst2]; exact hN.out
          have HO2 : Hid (W.ownsRow w.heap.size 3 1 u n (cellsI (dueH m (l.take (k + 1))))) := by show World.ownsRow _ _ _ _ _ _ _; rw [hst2]; exact HO1.out
          clear hst hst2 hdb hc1 hkx hp hq hO hB h0
          go_wp2_with fail
          rw [show wr.alloc (.cells #[.int .i64 g, .slice la q lc, .int .i64 t] 27) = W from HW.out]
          go_wp2_with fail
          go_roundw
          case rel => exact ⟨k + 1, n, u, by omega, rfl, by go_num, by omega, HN2, HO2, HB1⟩
          case measure => simp [intOf]; omega
    · obtain rfl : k = len := by omega
      have htk : l.take k = l := List.take_of_length_le (Nat.le_of_eq HX.out.len)
      have hO2 := hO.out
      have hN2 := hN.out
      rw [htk, HR.out] at hO2 hN2
      obtain ⟨a', c', rfl⟩ := owns_slice' hO2
      have HE : Hid (DueP w r (.returned (.slice a' n c')) wr) := ⟨a', c', by rw [hN2], by rw [hN2]; exact (ints_of_owns hO2 hN2.symm HBD.out).1, hB.out⟩
      clear hO2 hN2 htk
      go_wp2_with fail
      go_ret
      exact HE.out
set_option maxHeartbeats 1000000 in
theorem rdue_any (a : Option Addr) (len cap : Nat) (l : List Hd) (m : Int) (w : World) (h : HsAt w a len l) (hb : BdH l) (hn : len ≤ 1000000) :
    Calls Try.prog 17 #[.slice a len cap, .int .i64 m] w (DueP w (dueH m l)) := by
  have hl := h.le
  obtain ⟨r, hr⟩ : ∃ r, dueH m l = r := ⟨_, rfl⟩
  rw [hr]
  have HX := Lib.hid h
  have HR := Lib.hid hr
  have HBD := Lib.hid (due_bd hb m)
  rw [hr] at HBD
  clear h hb hr
  go_enter Try.func17, Try.ntmps17
  go_wp2_with fail
  go_loopw [5, 6] (fun v i wr => ∃ (k n : Nat) (u : Value), k ≤ len ∧ u = v ∧ i = .int .i64 (k : Int) ∧ n ≤ k ∧ Hid ((dueH m (l.take k)).length = n) ∧ Hid (wr.ownsRow w.heap.size 3 1 u n (cellsI (dueH m (l.take k)))) ∧ Hid (Below w.heap.size w wr)) (fun _ i _ => len - (intOf i).toNat)
  case atStart => exact ⟨0, 0, _, Nat.zero_le _, rfl, rfl, Nat.le_refl _, Lib.hid rfl, World.ownsRow_nil _ _ _ _, Below.refl _ _⟩
  case round =>
    obtain ⟨k, n, u, hk, rfl, rfl, hnk, hN, hO, hB⟩ := hrel
    by_cases hlk : k < len
    · have hkx : k < l.length := by rw [HX.out.len]; exact hlk
      obtain ⟨b1, o1, g, la, lc, ls, t, rfl, g1, hp, hc1⟩ := HX.out.at hlk
      obtain ⟨d1, d2, d3, _⟩ := hc1 wr hB.out
      have hst := due_step m hkx hp
      obtain ⟨q, hq⟩ : ∃ q, ls.length = q := ⟨_, rfl⟩
      rw [hq] at d2
      have HB1 := Lib.hid hB.out
      have HO1 := Lib.hid hO.out
      have hszW := HB1.out.size
      by_cases h0 : t = 0
      · have hne : (t != 0) = false := by simpa using h0
        have hdb : dueB m ⟨g, ls, t⟩ = false := by unfold dueB; simp [h0]
        have hst2 : dueH m (l.take (k + 1)) = dueH m (l.take k) := by rw [hst, hdb]; simp
        have HN2 : Hid ((dueH m (l.take (k + 1))).length = n) := by show _ = _; rw [hst2]; exact hN.out
        have HO2 : Hid (wr.ownsRow w.heap.size 3 1 u n (cellsI (dueH m (l.take (k + 1))))) := by show World.ownsRow _ _ _ _ _ _ _; rw [hst2]; exact HO1.out
        clear hst hst2 hdb hc1 hkx hp hq hO hB h0
        go_wp2_with fail
        go_roundw
        case rel => exact ⟨k + 1, n, u, by omega, rfl, by go_num, by omega, HN2, HO2, HB1⟩
        case measure => simp [intOf]; omega
      · by_cases h1 : t ≤ m
        · have hne : (t != 0) = true := by simpa using h0
          have hdb : dueB m ⟨g, ls, t⟩ = true := by unfold dueB; simp [h0, h1]
          have hst2 : dueH m (l.take (k + 1)) = dueH m (l.take k) ++ [g] := by rw [hst, hdb]; simp
          have HN2 : Hid ((dueH m (l.take (k + 1))).length = n + 1) := by show _ = _; rw [hst2, List.length_append, hN.out]; rfl
          have HST := Lib.hid hst2
          have hO3 := HO1.out
          obtain ⟨xs, hxs⟩ : ∃ xs, dueH m (l.take k) = xs := ⟨_, rfl⟩
          rw [hxs] at hO3
          have HO3 := Lib.hid hO3
          have HXS := Lib.hid hxs
          clear hst hst2 hdb hc1 hkx hp hq hO hB h0 hxs hO3
          go_wp2_with (at_builtin; refine append_int rfl (.tmp 28) (.tmp 34) rfl w.heap.size wr g u n xs rfl HO3.out rfl (by omega) hszW ?_)
          intro v' w5 hO5 hg5
          have HO5 : Hid (w5.ownsRow w.heap.size 3 1 v' (n + 1) (cellsI (dueH m (l.take (k + 1))))) := by show World.ownsRow _ _ _ _ _ _ _; rw [HST.out, HXS.out]; exact hO5
          have HB5 : Hid (Below w.heap.size w w5) := Lines.below_append HB1.out hszW HO3.out hg5
          clear hO5 hg5
          go_wp2_with fail
          go_roundw
          case rel => exact ⟨k + 1, n + 1, v', by omega, rfl, by go_num, by omega, HN2, HO5, HB5⟩
          case measure => simp [intOf]; omega
        · have hne : (t != 0) = true := by simpa using h0
          have hdb : dueB m ⟨g, ls, t⟩ = false := by unfold dueB; simp [h1]
          have hst2 : dueH m (l.take (k + 1)) = dueH m (l.take k) := by rw [hst, hdb]; simp
          have HN2 : Hid ((dueH m (l.take (k + 1))).length = n) := by show _ = _; rw [hst2]; exact hN.out
          have HO2 : Hid (wr.ownsRow w.heap.size 3 1 u n (cellsI (dueH m (l.take (k + 1))))) := by show World.ownsRow _ _ _ _ _ _ _; rw [hst2]; exact HO1.out
          clear hst hst2 hdb hc1 hkx hp hq hO hB h0
          go_wp2_with fail
          go_roundw
          case rel => exact ⟨k + 1, n, u, by omega, rfl, by go_num, by omega, HN2, HO2, HB1⟩
          case measure => simp [intOf]; omega
    · obtain rfl : k = len := by omega
      have htk : l.take k = l := List.take_of_length_le (Nat.le_of_eq HX.out.len)
      have hO2 := hO.out
      have hN2 := hN.out
      rw [htk, HR.out] at hO2 hN2
      obtain ⟨a', c', rfl⟩ := owns_slice' hO2
      have HE : Hid (DueP w r (.returned (.slice a' n c')) wr) := ⟨a', c', by rw [hN2], by rw [hN2]; exact (ints_of_owns hO2 hN2.symm HBD.out).1, hB.out⟩
      clear hO2 hN2 htk
      go_wp2_with fail
      go_ret
      exact HE.out
end Go.Proofs.Ytleopanfggmenaa.Holds
