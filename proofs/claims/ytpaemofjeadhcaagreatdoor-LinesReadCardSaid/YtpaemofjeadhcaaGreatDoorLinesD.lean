/-
  Rows of lines and of texts of the call's own, a line or a text more behind them; the world and what it keeps: for the walks that build lists.
-/
import Derived.Test.YtpaemofjeadhcaaGreatDoorLinesC
import Derived.OwnWalk
import Derived.Laws.AppendOwn
set_option linter.unusedVariables false
set_option maxRecDepth 4000
namespace Go.Proofs.YtpaemofjeadhcaaGreatDoor.Lines
open Go.RowKit LinesP

theorem info_line : (Tryz.prog.info? 44).map (fun i => (i.zero, i.size, i.bytes)) = some (some (.agg #[.string ⟨#[]⟩, .int .i64 0]), 2, 24) := by kernel_rfl
theorem info_string : (Tryz.prog.info? 9).map (fun i => (i.zero, i.size, i.bytes)) = some (some (.string ⟨#[]⟩), 1, 16) := by kernel_rfl
def lcells (l : List Ln) : List Value := l.flatMap fun x => [Value.string x.1, .int .i64 x.2]
theorem lcells_append (a b : List Ln) : lcells (a ++ b) = lcells a ++ lcells b := by simp [lcells]
theorem lcells_get : ∀ (l : List Ln) (k : Nat) (x : Ln), l[k]? = some x → (lcells l)[k * 2]? = some (.string x.1) ∧ (lcells l)[k * 2 + 1]? = some (.int .i64 x.2)
  | [], k, x, h => by simp at h
  | y :: l, 0, x, h => by simp at h; subst h; exact ⟨rfl, rfl⟩
  | y :: l, k + 1, x, h => by
    have h2 := lcells_get l k x (by simpa using h)
    rw [show (k + 1) * 2 = k * 2 + 1 + 1 by omega]
    exact h2
theorem owns_cell {w : World} {B n size g j : Nat} {e : TypeId} {v u : Value} {xs : List Value} (h : w.ownsRow B e size v n xs) (hg : v.ownBlock = some g) (hu : xs[j]? = some u) : w.cell? ⟨g, j, none⟩ = some u := by
  have h2 := h.cells hg j u hu
  rw [Addr.add_lit, Nat.zero_add] at h2
  exact h2
theorem owns_below {w w' : World} {B n size : Nat} {e : TypeId} {v : Value} {xs : List Value} (h : w.ownsRow B e size v n xs) (hb : Below w.heap.size w w') : w'.ownsRow B e size v n xs := by
  refine ⟨h.1, ?_⟩
  rcases h.2 with hn | ⟨g, cap, cur, hv, hbg, hg, rest⟩
  · exact .inl hn
  · exact .inr ⟨g, cap, cur, hv, hbg, (hb.block g (Array.getElem?_eq_some_iff.1 hg).1).trans hg, rest⟩
theorem own_cap {w : World} {B n g cap : Nat} {e : TypeId} {xs : List Value} {size : Nat} (h : w.ownsRow B e size (.slice (some ⟨g, 0, none⟩) n cap) n xs) : n ≤ cap := by
  rcases h.2 with ⟨e, _⟩ | ⟨g', cap', cur, hv, _, _, h1, _⟩
  · cases e
  · cases hv; exact h1
theorem owns_form {w : World} {B n size : Nat} {e : TypeId} {v : Value} {xs : List Value} (h : w.ownsRow B e size v n xs) : (v = .slice none 0 0 ∧ n = 0) ∨ ∃ g cap, v = .slice (some ⟨g, 0, none⟩) n cap ∧ B ≤ g ∧ g < w.heap.size := by
  rcases h.2 with ⟨rfl, h0⟩ | ⟨g, cap, cur, hv, hb, hg, _⟩
  · exact .inl ⟨rfl, h0⟩
  · exact .inr ⟨g, cap, hv, hb, (Array.getElem?_eq_some_iff.1 hg).1⟩
/-- A row of lines of the call's own is a slice of these lines. -/
theorem ls_of {w : World} {B n : Nat} {v : Value} {l : List Ln} (h : w.ownsRow B 44 2 v n (lcells l)) (hn : l.length = n) (hl : n ≤ 1000000000) : ∃ a cap, v = .slice a n cap ∧ LsAt w a n l := by
  rcases owns_form h with ⟨rfl, h0⟩ | ⟨g, cap, rfl, _, hlt⟩
  · exact ⟨none, 0, by rw [h0], hn, by omega, .inl h0⟩
  · refine ⟨_, cap, rfl, hn, by omega, .inr ⟨g, 0, rfl, hlt, fun i hi => ?_⟩⟩
    have hi' : i < l.length := by omega
    obtain ⟨h1, h2⟩ := lcells_get l i l[i] (List.getElem?_eq_getElem hi')
    have e : l.getD i ln0 = l[i] := by simp [List.getD, hi']
    rw [e, Nat.zero_add]
    exact ⟨owns_cell h rfl h1, owns_cell h rfl h2⟩
theorem cell_one_new (w : World) (u : Value) (e : TypeId) : ∀ (j : Nat) z, [u][j]? = some z → (w.alloc (.cells #[u] e)).cell? ((⟨w.heap.size, 0, none⟩ : Addr).add j) = some z := by
  intro j z hz
  rw [Addr.add_lit]
  cases j with
  | zero => simp at hz; subst hz; simp
  | succ j => simp at hz
theorem cell_two_new (w : World) (u v : Value) (e : TypeId) : ∀ (j : Nat) z, [u, v][j]? = some z → (w.alloc (.cells #[u, v] e)).cell? ((⟨w.heap.size, 0, none⟩ : Addr).add j) = some z := by
  intro j z hz
  rw [Addr.add_lit]
  match j with
  | 0 => simp at hz; subst hz; simp
  | 1 => simp at hz; subst hz; simp
  | j + 2 => simp at hz
/-- One text more behind a row of the call's own. -/
theorem append_str {ops : Array Oper} {rest : List Oper} {o : Oper} {a : Act} {Q : Exit → Act → World → Prop} (hgd : o.guard = none) (s x : Operand)
    (ho : o.op = .call { callee := .builtin .append, args := #[s, x], argTypes := #[47, 47] }) (base : Nat) (w : World) (k : Nat) (hk : w.heap.size = k) (c : ByteArray)
    (v : Value) (n : Nat) (xs : List ByteArray) (hs : a.eval s = v) (hown : w.ownsRow base 9 1 v n (xs.map Value.string)) (hx : a.eval x = .slice (some ⟨k, 0, none⟩) 1 1)
    (hn : n ≤ 4000000) (hbase : base ≤ w.heap.size)
    (h : ∀ v' w', w'.ownsRow base 9 1 v' (n + 1) ((xs ++ [c]).map Value.string) → (w.alloc (.cells #[.string c] 9)).grownBy w' v.ownBlock → wpList Tryz.prog ops Q rest (a.put o.dst v') w') :
    wpList Tryz.prog ops Q (o :: rest) a (w.alloc (.cells #[.string c] 9)) := by
  subst hk
  obtain ⟨i0, hi, hz0, hz1, hz2⟩ := info_parts info_string
  refine wpList_append_own _ hgd s x 47 ho base 9 i0 _ 1 16 Tryz.underlying47 hi hz0 hz1 hz2 rfl (by decide) v n (xs.map Value.string) hs (hown.alloc _) ⟨w.heap.size, 0, none⟩ 1 1 [.string c] hx rfl (cell_one_new _ _ _) (by simp [Value.oneCell']) ?_ ?_ ?_ fun v' w' h1 h2 _ => h v' w' (by rw [List.map_append]; exact h1) h2
  · unfold maxLen; omega
  · omega
  · simp; omega
/-- One line more behind a row of the call's own. -/
theorem append_line {ops : Array Oper} {rest : List Oper} {o : Oper} {a : Act} {Q : Exit → Act → World → Prop} (hgd : o.guard = none) (s x : Operand)
    (ho : o.op = .call { callee := .builtin .append, args := #[s, x], argTypes := #[22, 22] }) (base : Nat) (w : World) (k : Nat) (hk : w.heap.size = k) (c : ByteArray) (m : Int)
    (v : Value) (n : Nat) (xs : List Ln) (hs : a.eval s = v) (hown : w.ownsRow base 44 2 v n (lcells xs)) (hx : a.eval x = .slice (some ⟨k, 0, none⟩) 1 1)
    (hn : n ≤ 4000000) (hbase : base ≤ w.heap.size)
    (h : ∀ v' w', w'.ownsRow base 44 2 v' (n + 1) (lcells (xs ++ [(c, m)])) → (w.alloc (.cells #[.string c, .int .i64 m] 44)).grownBy w' v.ownBlock → wpList Tryz.prog ops Q rest (a.put o.dst v') w') :
    wpList Tryz.prog ops Q (o :: rest) a (w.alloc (.cells #[.string c, .int .i64 m] 44)) := by
  subst hk
  obtain ⟨i0, hi, hz0, hz1, hz2⟩ := info_parts info_line
  refine wpList_append_own _ hgd s x 22 ho base 44 i0 _ 2 24 Tryz.underlying22 hi hz0 hz1 hz2 rfl (by decide) v n (lcells xs) hs (hown.alloc _) ⟨w.heap.size, 0, none⟩ 1 1 [.string c, .int .i64 m] hx rfl (cell_two_new _ _ _ _) (by simp [Value.oneCell']) ?_ ?_ ?_ fun v' w' h1 h2 _ => h v' w' (by rw [lcells_append]; exact h1) h2
  · unfold maxLen; omega
  · omega
  · simp; omega
theorem below_append {B n size : Nat} {w wr w' : World} {e : TypeId} {v : Value} {xs : List Value} {o : Obj} (hb : Below B w wr) (hB : B ≤ wr.heap.size) (hown : wr.ownsRow B e size v n xs) (hg : (wr.alloc o).grownBy w' v.ownBlock) : Below B w w' :=
  (hb.alloc hB o).grown hg (by simp; omega) (fun k hk => (hown.lt k hk).1)
theorem join0 {G : Prop} {F : Prop} (main : (F → G) → G) (pf : F → G) : G := main pf
theorem join1 {G : Prop} {P F : World → Prop} (main : (∀ w, F w → P w) → G) (pf : ∀ w, F w → P w) : G := main pf
theorem le63 {j n : Nat} (h : j ≤ n) (k : n ≤ 4) : j ≤ 4 := by omega
set_option maxHeartbeats 1000000 in
theorem sum_any (a : Option Addr) (len cap : Nat) (l : List Ln) (w : World) (h : LsAt w a len l) (hs : Sz l) :
    Calls Tryz.prog 12 #[.slice a len cap] w fun e w' => e = .returned (.int .i64 (sumV l)) ∧ Below w.heap.size w w' := by
  obtain ⟨v, hv⟩ : ∃ v, sumV l = v := ⟨_, rfl⟩
  rw [hv]
  have hl := h.2.1
  have C := fit_any a len cap l w h hs
  cases hf : fitL l with
  | false =>
    rw [hf] at C
    have C := Lib.hid C
    have HD : Hid (v = 0) := by show v = 0; rw [← hv]; unfold sumV; rw [hf]; rfl
    clear hv h hs hf
    go_enter Tryz.func12, Tryz.ntmps12
    go_wp2_with fail
    refine C.out.mono ?_
    rintro e w1 ⟨rfl, hb⟩
    go_wp2_with fail
    go_ret
    exact ⟨ret_int HD.out, hb⟩
  | true =>
    rw [hf] at C
    have C := Lib.hid C
    have HD : Hid (v = addL l) := by show v = addL l; rw [← hv]; unfold sumV; rw [hf]; rfl
    have HF := Lib.hid (addL_fit hf)
    have HX := Lib.hid h
    clear hv h hs hf
    go_enter Tryz.func12, Tryz.ntmps12
    go_wp2_with fail
    refine C.out.mono ?_
    rintro e w1 ⟨rfl, hb1⟩
    have HB1 := Lib.hid hb1
    clear hb1
    go_wp2_with fail
    go_loopw [3, 11] (fun t i wr => ∃ k : Nat, k ≤ len ∧ i = .int .i64 (k : Int) ∧ t = .int .i64 (addL (l.take k)) ∧ Hid (Below w.heap.size w wr)) (fun _ i _ => len - (intOf i).toNat)
    case atStart => exact ⟨0, Nat.zero_le _, rfl, rfl, HB1⟩
    case round =>
      obtain ⟨k, hk, rfl, rfl, hB⟩ := hrel
      by_cases hlk : k < len
      · rcases HX.out.2.2 with h0 | ⟨b1, o1, rfl, g1, hc1⟩
        · omega
        have d1 := (hB.out.cell (p := ⟨b1, o1 + k * 2, none⟩) g1).trans (hc1 k hlk).1
        have d2 := (hB.out.cell (p := ⟨b1, o1 + k * 2 + 1, none⟩) g1).trans (hc1 k hlk).2
        have hkx : k < l.length := by rw [HX.out.1]; exact hlk
        obtain ⟨p, hp⟩ : ∃ p, l.getD k ln0 = p := ⟨_, rfl⟩
        rw [hp] at d1 d2
        have hstep := addL_step hkx hp
        obtain ⟨s, n⟩ := p
        have hf1 := HF.out k
        have hf2 := HF.out (k + 1)
        rw [hstep] at hf2
        simp only at hf2
        obtain ⟨t, ht⟩ : ∃ t, addL (l.take k) = t := ⟨_, rfl⟩
        rw [ht] at hf1 hf2 hstep ⊢
        have HST := Lib.hid hstep
        have HB2 := Lib.hid (hB.out.alloc hB.out.size (.cells #[.string s, .int .i64 n] 44))
        have hw : IntKind.i64.wrap (t + n) = t + n := by rw [IntWalk.i64_in] <;> omega
        clear hc1 g1 hp hkx hstep ht hB
        go_wp2_with fail
        go_roundw
        case rel => exact ⟨k + 1, by omega, by go_num, by rw [HST.out], HB2⟩
        case measure => simp [intOf]; omega
      · obtain rfl : k = len := by omega
        have ht : v = addL (l.take k) := by rw [HD.out, List.take_of_length_le (Nat.le_of_eq HX.out.1)]
        have HT := Lib.hid ht
        clear ht
        generalize addL (l.take k) = t at *
        go_wp2_with fail
        go_ret
        exact ⟨ret_int HT.out, hB.out⟩
set_option maxHeartbeats 1000000 in
theorem rsum_any (a : Option Addr) (len cap : Nat) (l : List Ln) (w : World) (h : LsAt w a len l) (hs : Sz l) :
    Calls Tryz.prog 13 #[.slice a len cap] w fun e w' => e = .returned (.int .i64 (sumV l)) ∧ Below w.heap.size w w' := by
  obtain ⟨v, hv⟩ : ∃ v, sumV l = v := ⟨_, rfl⟩
  rw [hv]
  have hl := h.2.1
  have C := fun w' (hb : Below w.heap.size w w') => rfit_any a len cap l w' (h.keep hb) hs
  by_cases h0 : len = 0
  · have HD : Hid (v = 0) := by
      show v = 0
      rw [← hv]; unfold sumV
      rw [List.eq_nil_of_length_eq_zero (h.1.trans h0)]; rfl
    subst h0
    clear hv h hs C
    go_enter Tryz.func13, Tryz.ntmps13
    go_wp2_with fail
    go_loopw [3, 4] (fun t i wr => t = .int .i64 0 ∧ i = .int .i64 0 ∧ Hid (Below w.heap.size w wr)) (fun _ i _ => 0)
    case atStart => exact ⟨rfl, rfl, Below.refl _ w⟩
    case round =>
      obtain ⟨rfl, rfl, hB⟩ := hrel
      go_wp2_with fail
      go_ret
      exact ⟨ret_int HD.out, hB.out⟩
  cases hf : fitL l with
  | false =>
    rw [hf] at C
    have C := Lib.hid C
    have HD : Hid (v = 0) := by show v = 0; rw [← hv]; unfold sumV; rw [hf]; rfl
    clear hv h hs hf
    have hlt : (0 : Int) < (len : Int) := by omega
    go_enter Tryz.func13, Tryz.ntmps13
    go_wp2_with fail
    go_loopw [3, 4] (fun t i wr => t = .int .i64 0 ∧ i = .int .i64 0 ∧ Hid (Below w.heap.size w wr)) (fun _ i _ => 0)
    case atStart => exact ⟨rfl, rfl, Below.refl _ w⟩
    case round =>
      obtain ⟨rfl, rfl, hB⟩ := hrel
      go_wp2_with fail
      refine (C.out wr hB.out).mono ?_
      rintro e w1 ⟨rfl, hb⟩
      have HB1 := Lib.hid (below_keep hB.out hb hB.out.size)
      clear hb
      go_wp2_with fail
      go_ret
      exact ⟨ret_int HD.out, HB1.out⟩
  | true =>
    rw [hf] at C
    have C := Lib.hid C
    have HD : Hid (v = addL l) := by show v = addL l; rw [← hv]; unfold sumV; rw [hf]; rfl
    have HF := Lib.hid (addL_fit hf)
    have HX := Lib.hid h
    clear hv h hs hf
    go_enter Tryz.func13, Tryz.ntmps13
    go_wp2_with fail
    go_loopw [3, 4] (fun t i wr => ∃ k : Nat, k ≤ len ∧ i = .int .i64 (k : Int) ∧ t = .int .i64 (addL (l.take k)) ∧ Hid (Below w.heap.size w wr)) (fun _ i _ => len - (intOf i).toNat)
    case atStart => exact ⟨0, Nat.zero_le _, rfl, rfl, Below.refl _ w⟩
    case round =>
      obtain ⟨k, hk, rfl, rfl, hB⟩ := hrel
      by_cases hlk : k < len
      · have hC := Lib.hid (C.out wr hB.out)
        rcases HX.out.2.2 with h0 | ⟨b1, o1, rfl, g1, hc1⟩
        · omega
        have d2 := Lib.hid (fun w' (hb : Below w.heap.size w w') => (hb.cell (p := ⟨b1, o1 + k * 2 + 1, none⟩) g1).trans (hc1 k hlk).2)
        have hkx : k < l.length := by rw [HX.out.1]; exact hlk
        obtain ⟨p, hp⟩ : ∃ p, l.getD k ln0 = p := ⟨_, rfl⟩
        rw [hp] at d2
        have hstep := addL_step hkx hp
        obtain ⟨s, n⟩ := p
        have hf1 := HF.out k
        have hf2 := HF.out (k + 1)
        rw [hstep] at hf2
        simp only at hf2
        obtain ⟨t, ht⟩ : ∃ t, addL (l.take k) = t := ⟨_, rfl⟩
        rw [ht] at hf1 hf2 hstep ⊢
        have HST := Lib.hid hstep
        have hw : IntKind.i64.wrap (t + n) = t + n := by rw [IntWalk.i64_in] <;> omega
        clear hc1 g1 hp hkx hstep ht
        go_wp2_with fail
        refine hC.out.mono ?_
        rintro e w1 ⟨rfl, hb⟩
        have HB1 := Lib.hid (below_keep hB.out hb hB.out.size)
        have d3 : w1.cell? ⟨b1, o1 + k * 2 + 1, none⟩ = some (.int .i64 n) := d2.out w1 HB1.out
        clear hb hB
        go_wp2_with fail
        go_roundw
        case rel => exact ⟨k + 1, by omega, by go_num, by rw [HST.out], HB1⟩
        case measure => simp [intOf]; omega
      · obtain rfl : k = len := by omega
        have ht : v = addL (l.take k) := by rw [HD.out, List.take_of_length_le (Nat.le_of_eq HX.out.1)]
        have HT := Lib.hid ht
        clear ht
        generalize addL (l.take k) = t at *
        go_wp2_with fail
        go_ret
        exact ⟨ret_int HT.out, hB.out⟩
end Go.Proofs.YtpaemofjeadhcaaGreatDoor.Lines
