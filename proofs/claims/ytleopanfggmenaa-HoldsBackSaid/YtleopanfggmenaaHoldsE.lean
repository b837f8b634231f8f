/-
  Rows of holds of the call's own; what append does to them; the contract of own: the hold with its lines in memory of their own.
-/
import Derived.Test.YtleopanfggmenaaHoldsD
import Derived.Test.YtleopanfggmenaaLinesD
import Derived.Deep.Upon
import Derived.ArgAppend
set_option linter.unusedVariables false
set_option maxRecDepth 4000
namespace Go.Proofs.Ytleopanfggmenaa.Holds
open Go.RowKit LinesP HoldsP
open Go.Proofs.Ytleopanfggmenaa.Lines (LsAt Sz SzM ret_bool ret_int below_keep below_drewN lcells info_line owns_below owns_cell owns_form ls_of lcells_get)

theorem hmf (fn : Fn) (first cap : Array Value) (w : World) : (Instr.makeFunc fn first cap).run Try.prog w = .ok (.func fn first cap) w := rfl
theorem info_hold : (Try.prog.info? 27).map (fun i => (i.zero, i.size, i.bytes)) = some (some (.agg #[.int .i64 0, .slice none 0 0, .int .i64 0]), 3, 40) := by kernel_rfl
/-- The cells of holds. -/
def hcell (z : Hz) : List Value := [.int .i64 z.1.saga, .slice z.2.1 z.1.ls.length z.2.2, .int .i64 z.1.til]
def hcells (zs : List Hz) : List Value := zs.flatMap hcell
theorem hcells_append (a b : List Hz) : hcells (a ++ b) = hcells a ++ hcells b := by simp [hcells]
theorem hcells_len (zs : List Hz) : (hcells zs).length = zs.length * 3 := by
  induction zs with
  | nil => rfl
  | cons z r ih => show (hcell z ++ hcells r).length = _; rw [List.length_append, ih, List.length_cons]; simp [hcell]; omega
theorem hcells_one (zs : List Hz) : ∀ u ∈ hcells zs, u.oneCell' = true := by
  intro u hu
  obtain ⟨z, _, hz⟩ := List.mem_flatMap.1 hu
  simp only [hcell, List.mem_cons, List.mem_nil_iff, or_false] at hz
  rcases hz with rfl | rfl | rfl <;> rfl
theorem hcells_get : ∀ (l : List Hz) (k : Nat) (x : Hz), l[k]? = some x → (hcells l)[k * 3]? = some (.int .i64 x.1.saga) ∧ (hcells l)[k * 3 + 1]? = some (.slice x.2.1 x.1.ls.length x.2.2) ∧ (hcells l)[k * 3 + 2]? = some (.int .i64 x.1.til)
  | [], k, x, h => by simp at h
  | y :: l, 0, x, h => by simp at h; subst h; exact ⟨rfl, rfl, rfl⟩
  | y :: l, k + 1, x, h => by
    have h2 := hcells_get l k x (by simpa using h)
    rw [show (k + 1) * 3 = k * 3 + 1 + 1 + 1 by omega]
    exact h2
/-- Each cell of holds stands at its place. -/
theorem hcells_at {w : World} {b off len : Nat} {zs : List Hz} (hl : zs.length = len)
    (hc : ∀ i, i < len → w.cell? ⟨b, off + i * 3, none⟩ = some (.int .i64 (zs.getD i hz0).1.saga) ∧ w.cell? ⟨b, off + i * 3 + 1, none⟩ = some (.slice (zs.getD i hz0).2.1 (zs.getD i hz0).1.ls.length (zs.getD i hz0).2.2) ∧ w.cell? ⟨b, off + i * 3 + 2, none⟩ = some (.int .i64 (zs.getD i hz0).1.til)) :
    ∀ j u, (hcells zs)[j]? = some u → w.cell? ⟨b, off + j, none⟩ = some u := by
  intro j u hu
  have hj := (List.getElem?_eq_some_iff.1 hu).1
  rw [hcells_len, hl] at hj
  obtain ⟨i, r, hr, rfl⟩ : ∃ i r, r < 3 ∧ j = i * 3 + r := ⟨j / 3, j % 3, by omega, by omega⟩
  have hi : i < len := by omega
  have hiz : i < zs.length := by omega
  have hz : zs[i]? = some (zs.getD i hz0) := by simp [List.getD, hiz]
  obtain ⟨g1, g2, g3⟩ := hcells_get zs i _ hz
  obtain ⟨c1, c2, c3⟩ := hc i hi
  rcases (by omega : r = 0 ∨ r = 1 ∨ r = 2) with rfl | rfl | rfl
  · rw [Nat.add_zero, g1] at hu; cases hu; exact c1
  · rw [g2] at hu; cases hu; rw [← Nat.add_assoc]; exact c2
  · rw [g3] at hu; cases hu; rw [← Nat.add_assoc]; exact c3
/-- A row of holds of the call's own is a slice of these holds. -/
theorem hz_of {w : World} {B n : Nat} {v : Value} {zs : List Hz} (h : w.ownsRow B 27 3 v n (hcells zs)) (hn : zs.length = n) (hl : n ≤ 1000000000) (hL : ∀ z ∈ zs, LsAt w z.2.1 z.1.ls.length z.1.ls) : ∃ a cap, v = .slice a n cap ∧ HzAt w a n zs := by
  rcases owns_form h with ⟨rfl, h0⟩ | ⟨g, cap, rfl, _, hlt⟩
  · exact ⟨none, 0, by rw [h0], hn, by omega, hL, .inl h0⟩
  · refine ⟨_, cap, rfl, hn, by omega, hL, .inr ⟨g, 0, rfl, hlt, fun i hi => ?_⟩⟩
    have hi' : i < zs.length := by omega
    obtain ⟨h1, h2, h3⟩ := hcells_get zs i zs[i] (List.getElem?_eq_getElem hi')
    have e : zs.getD i hz0 = zs[i] := by simp [List.getD, hi']
    rw [e, Nat.zero_add]
    exact ⟨owns_cell h rfl h1, owns_cell h rfl h2, owns_cell h rfl h3⟩
theorem add_at (g j i : Nat) : (⟨g, j, none⟩ : Addr).add i = ⟨g, j + i, none⟩ := by unfold Addr.add; split <;> simp_all
theorem cell_three_new (w : World) (u v x : Value) (e : TypeId) : ∀ (j : Nat) z, [u, v, x][j]? = some z → (w.alloc (.cells #[u, v, x] e)).cell? ((⟨w.heap.size, 0, none⟩ : Addr).add j) = some z := by
  intro j z hz
  rw [Addr.add_lit]
  match j with
  | 0 => simp at hz; subst hz; simp
  | 1 => simp at hz; subst hz; simp
  | 2 => simp at hz; subst hz; simp
  | j + 3 => simp at hz
/-- One hold more behind a row of the call's own. -/
theorem append_hold {ops : Array Oper} {rest : List Oper} {o : Oper} {a : Act} {Q : Exit → Act → World → Prop} (hgd : o.guard = none) (s x : Operand)
    (ho : o.op = .call { callee := .builtin .append, args := #[s, x], argTypes := #[22, 22] }) (base : Nat) (w : World) (k : Nat) (hk : w.heap.size = k) (g : Int) (la : Option Addr) (m lc : Nat) (ls : List Ln) (hm : ls.length = m) (t : Int)
    (v : Value) (n : Nat) (xs : List Hz) (hs : a.eval s = v) (hown : w.ownsRow base 27 3 v n (hcells xs)) (hx : a.eval x = .slice (some ⟨k, 0, none⟩) 1 1)
    (hn : n ≤ 4000000) (hbase : base ≤ w.heap.size)
    (h : ∀ v' w', w'.ownsRow base 27 3 v' (n + 1) (hcells (xs ++ [(⟨g, ls, t⟩, la, lc)])) → (w.alloc (.cells #[.int .i64 g, .slice la m lc, .int .i64 t] 27)).grownBy w' v.ownBlock → wpList Try.prog ops Q rest (a.put o.dst v') w') :
    wpList Try.prog ops Q (o :: rest) a (w.alloc (.cells #[.int .i64 g, .slice la m lc, .int .i64 t] 27)) := by
  subst hk
  subst hm
  obtain ⟨i0, hi, hz0, hz1, hz2⟩ := info_parts info_hold
  refine wpList_append_own _ hgd s x 22 ho base 27 i0 _ 3 40 Try.underlying22 hi hz0 hz1 hz2 rfl (by decide) v n (hcells xs) hs (hown.alloc _) ⟨w.heap.size, 0, none⟩ 1 1 [.int .i64 g, .slice la ls.length lc, .int .i64 t] hx rfl (cell_three_new _ _ _ _ _) (by simp [Value.oneCell']) ?_ ?_ ?_ fun v' w' h1 h2 _ => h v' w' (by rw [hcells_append]; exact h1) h2
  · unfold maxLen; omega
  · omega
  · simp; omega
/-- Nothing is appended: the slice and the world are as they were. -/
theorem append_nothing {ops : Array Oper} {rest : List Oper} {o : Oper} {a : Act} {Q : Exit → Act → World → Prop} {w : World} (hgd : o.guard = none) (s x : Operand) (t e : TypeId)
    (ho : o.op = .call { callee := .builtin .append, args := #[s, x], argTypes := #[t, t] }) (i : TypeInfo) (ht : Try.prog.underlying t = some (.slice e)) (hi : Try.prog.info? e = some i)
    (base : Option Addr) (sLen sCap : Nat) (hle : sLen ≤ sCap) (hs : a.eval s = .slice base sLen sCap) (la : Option Addr) (c : Nat) (hx : a.eval x = .slice la 0 c)
    (h : wpList Try.prog ops Q rest (a.put o.dst (.slice base sLen sCap)) w) : wpList Try.prog ops Q (o :: rest) a w := by
  refine wpList_plain hgd fun K hK => ?_
  have hrun := run_append_nothing (P := Try.prog) w t t o.type e i ht hi base sLen sCap hle (.slice la 0 c) (by
    cases la with
    | none => exact Src.ofNil _ ht c
    | some ad => exact Src.ofSlice _ ht ad 0 c [] (by simp) (fun j u hu => by simp at hu) (fun u hu => by simp at hu))
  unfold Oper.wp
  simp [execOp, ho, resolve, invoke, builtin, hs, hx, hrun, Result.andThen]
  exact hK _ _ h
/-- Cells of lines at their places. -/
theorem lcells_at {w : World} {b off len : Nat} {l : List Ln} (hl : l.length = len)
    (hc : ∀ i, i < len → w.cell? ⟨b, off + i * 2, none⟩ = some (.string (l.getD i ln0).1) ∧ w.cell? ⟨b, off + i * 2 + 1, none⟩ = some (.int .i64 (l.getD i ln0).2)) :
    ∀ j u, (lcells l)[j]? = some u → w.cell? ((⟨b, off, none⟩ : Addr).add j) = some u := by
  intro j u hu
  rw [add_at]
  have hlen : (lcells l).length = l.length * 2 := by
    clear hu hc hl
    induction l with
    | nil => rfl
    | cons z r ih => show ([_, _] ++ lcells r).length = _; rw [List.length_append, ih, List.length_cons]; simp; omega
  have hj := (List.getElem?_eq_some_iff.1 hu).1
  rw [hlen, hl] at hj
  obtain ⟨i, r, hr, rfl⟩ : ∃ i r, r < 2 ∧ j = i * 2 + r := ⟨j / 2, j % 2, by omega, by omega⟩
  have hi : i < len := by omega
  have hiz : i < l.length := by omega
  have hz : l[i]? = some (l.getD i ln0) := by simp [List.getD, hiz]
  obtain ⟨g1, g2⟩ := lcells_get l i _ hz
  obtain ⟨c1, c2⟩ := hc i hi
  rcases (by omega : r = 0 ∨ r = 1) with rfl | rfl
  · rw [Nat.add_zero, g1] at hu; cases hu; exact c1
  · rw [g2] at hu; cases hu; rw [← Nat.add_assoc]; exact c2
theorem lcells_len (l : List Ln) : (lcells l).length = l.length * 2 := by
  induction l with
  | nil => rfl
  | cons z r ih => show ([_, _] ++ lcells r).length = _; rw [List.length_append, ih, List.length_cons]; simp; omega
theorem lcells_one (l : List Ln) : ∀ u ∈ lcells l, u.oneCell' = true := by
  intro u hu
  obtain ⟨z, _, hz⟩ := List.mem_flatMap.1 hu
  simp only [List.mem_cons, List.mem_nil_iff, or_false] at hz
  rcases hz with rfl | rfl <;> rfl
theorem at3_set {w : World} {b k i : Nat} {v0 v1 v2 : Value} (h : At3 w b v0 v1 v2) (hne : b ≠ k) (v : Value) : At3 (w.setCell ⟨k, i, none⟩ v) b v0 v1 v2 := by
  unfold At3
  rw [heap_setCell_other _ _ _ _ (by simpa using hne)]
  exact h
theorem ls_keepB {w w' : World} {a : Option Addr} {n : Nat} {ls : List Ln} (h : LsAt w a n ls) (hs : w.heap.size ≤ w'.heap.size) (hb : ∀ j, (∀ ad, a = some ad → ad.block = j → 0 < n → w'.heap[j]? = w.heap[j]?)) : LsAt w' a n ls :=
  ⟨h.1, h.2.1, h.2.2.imp id (fun ⟨b, off, e, hlt, hc⟩ => by
    by_cases h0 : 0 < n
    · have hx := hb b _ e rfl h0
      refine ⟨b, off, e, by omega, fun i hi => ?_⟩
      simp only [World.cell?] at hc ⊢
      rw [hx]
      exact hc i hi
    · exact ⟨b, off, e, by omega, fun i hi => by omega⟩)⟩
theorem ls_own {w : World} {B n c : Nat} {a : Option Addr} {l : List Ln} (h : w.ownsRow B 45 2 (.slice a n c) n (lcells l)) (hn : l.length = n) (hl : n ≤ 1000000000) : LsAt w a n l := by
  obtain ⟨a', cap, e, k⟩ := ls_of h hn hl
  cases e
  exact k
theorem owns_heap {w w' : World} {B n size : Nat} {e : TypeId} {v : Value} {xs : List Value} (h : w.ownsRow B e size v n xs) (hb : ∀ g, v.ownBlock = some g → w'.heap[g]? = w.heap[g]?) : w'.ownsRow B e size v n xs := by
  refine ⟨h.1, ?_⟩
  rcases h.2 with hn | ⟨g, cap, cur, rfl, hbg, hg, rest⟩
  · exact .inl hn
  · exact .inr ⟨g, cap, cur, rfl, hbg, (hb g rfl).trans hg, rest⟩
theorem owns_base {w : World} {B C n size : Nat} {e : TypeId} {v : Value} {xs : List Value} (h : w.ownsRow B e size v n xs) (hc : C ≤ B) : w.ownsRow C e size v n xs :=
  ⟨h.1, h.2.imp id (fun ⟨g, cap, cur, h1, h2, h3⟩ => ⟨g, cap, cur, h1, Nat.le_trans hc h2, h3⟩)⟩
/-- Two rows of unlike kinds lie in unlike blocks. -/
theorem owns_apart {w : World} {B B' n n' size size' : Nat} {e e' : TypeId} {v v' : Value} {xs xs' : List Value} (hne : e ≠ e') (h : w.ownsRow B e size v n xs) (h' : w.ownsRow B' e' size' v' n' xs') : v.ownBlock = none ∨ v.ownBlock ≠ v'.ownBlock := by
  rcases h.2 with ⟨rfl, _⟩ | ⟨g, cap, cur, rfl, _, hg, _⟩
  · exact .inl rfl
  · refine .inr fun eq => ?_
    rcases h'.2 with ⟨rfl, _⟩ | ⟨g', cap', cur', rfl, _, hg', _⟩
    · simp [Value.ownBlock] at eq
    · simp [Value.ownBlock] at eq
      subst eq
      rw [hg] at hg'
      simp only [Option.some.injEq, Obj.cells.injEq] at hg'
      exact hne hg'.2.1
/-- What own tells: the hold with lines of its own. -/
def OwnP (w : World) (g : Int) (ls : List Ln) (n : Nat) (t : Int) (e : Ending) (w' : World) : Prop :=
  ∃ a c, e = .returned (.agg #[.int .i64 g, .slice a n c, .int .i64 t]) ∧ w'.ownsRow w.heap.size 45 2 (.slice a n c) n (lcells ls) ∧ (∀ ad, a = some ad → w.heap.size ≤ ad.block) ∧ Below w.heap.size w w'
set_option maxHeartbeats 1000000 in
theorem own_any (g t : Int) (la : Option Addr) (n lc : Nat) (ls : List Ln) (w : World) (h : LsAt w la n ls) (hn : n ≤ 1000000) :
    Calls Try.prog 27 #[.agg #[.int .i64 g, .slice la n lc, .int .i64 t]] w (OwnP w g ls n t) := by
  obtain ⟨i0, hi, hz0, hz1, hz2⟩ := info_parts info_line
  have HI := Lib.hid hi; have HZ0 := Lib.hid hz0; have HZ1 := Lib.hid hz1; have HZ2 := Lib.hid hz2
  clear hi hz0 hz1 hz2
  have HS0 : Hid (At3 ((w.alloc (.cells #[.int .i64 g, .slice la n lc, .int .i64 t] 27)).alloc (.cells #[.int .i64 0, .slice none 0 0, .int .i64 0] 27)) w.heap.size (.int .i64 g) (.slice la n lc) (.int .i64 t)) := (at3_new w _ _ _).alloc _
  have HS1 : Hid (At3 ((w.alloc (.cells #[.int .i64 g, .slice la n lc, .int .i64 t] 27)).alloc (.cells #[.int .i64 0, .slice none 0 0, .int .i64 0] 27)) (w.heap.size + 1) (.int .i64 0) (.slice none 0 0) (.int .i64 0)) := by
    have h := at3_new (w.alloc (.cells #[.int .i64 g, .slice la n lc, .int .i64 t] 27)) (.int .i64 0) (.slice none 0 0) (.int .i64 0)
    rw [World.size_alloc] at h
    exact h
  have HB0 : Hid (Below w.heap.size w ((w.alloc (.cells #[.int .i64 g, .slice la n lc, .int .i64 t] 27)).alloc (.cells #[.int .i64 0, .slice none 0 0, .int .i64 0] 27))) :=
    ((Below.refl _ w).alloc (Nat.le_refl _) _).alloc (by rw [World.size_alloc]; omega) _
  have hsz : ((w.alloc (.cells #[.int .i64 g, .slice la n lc, .int .i64 t] 27)).alloc (.cells #[.int .i64 0, .slice none 0 0, .int .i64 0] 27)).heap.size = w.heap.size + 2 := by simp
  obtain ⟨w1, hw1⟩ : ∃ w1, (w.alloc (.cells #[.int .i64 g, .slice la n lc, .int .i64 t] 27)).alloc (.cells #[.int .i64 0, .slice none 0 0, .int .i64 0] 27) = w1 := ⟨_, rfl⟩
  rw [hw1] at HS0 HS1 HB0 hsz
  have HSZ := Lib.hid hsz
  have HW := Lib.hid hw1
  have HL := Lib.hid (h.keep HB0.out)
  have HL0 := Lib.hid h
  clear hsz hw1 h
  by_cases h0 : n = 0
  · subst h0
    have hnil : ls = [] := List.eq_nil_of_length_eq_zero HL.out.1
    subst hnil
    obtain ⟨q0, q1, q2⟩ := cells3 HS0.out
    obtain ⟨f0, f1, f2⟩ := free3 HS0.out
    obtain ⟨z0, z1, z2⟩ := cells3 HS1.out
    obtain ⟨e0, e1, e2⟩ := free3 HS1.out
    go_enter Try.func27, Try.ntmps27
    go_wp2_with (at_builtin; rw [show (w.alloc (.cells #[.int .i64 g, .slice la 0 lc, .int .i64 t] 27)).alloc (.cells #[.int .i64 0, .slice none 0 0, .int .i64 0] 27) = w1 from HW.out]; refine append_nothing rfl _ _ 25 45 rfl i0 Try.underlying25 HI.out none 0 0 (Nat.le_refl _) rfl la lc rfl ?_)
    have HR := Lib.hid (heap_put3 (at3_set (i := 1) HS1.out (Nat.succ_ne_self _) (.slice none 0 0)) (.int .i64 g) (.slice none 0 0) (.int .i64 t))
    have HB2 := Lib.hid (below_put3 (HB0.out.setCell (p := ⟨w.heap.size, 1, none⟩) (Nat.le_refl _) (.slice none 0 0)) (Nat.le_succ w.heap.size) (.int .i64 g) (.slice none 0 0) (.int .i64 t))
    exact bodyPost_ret (results_one (j := 2) rfl _ _ (w.heap.size + 1) _ _ _ rfl HR.out) rfl ⟨none, 0, rfl, World.ownsRow_nil _ _ _ _, (fun ad e => by cases e), HB2.out⟩
  · rcases HL.out.2.2 with h1 | ⟨b, off, rfl, hlt, hc⟩
    · omega
    have HN := Lib.hid (lcells_at HL.out.1 hc)
    have HNL := Lib.hid ((lcells_len ls).trans (by rw [HL.out.1]))
    have HBS : Hid (w.heap.size ≤ w1.heap.size) := by show _ ≤ _; rw [HSZ.out]; omega
    clear hc hlt
    obtain ⟨q0, q1, q2⟩ := cells3 HS0.out
    obtain ⟨f0, f1, f2⟩ := free3 HS0.out
    obtain ⟨z0, z1, z2⟩ := cells3 HS1.out
    obtain ⟨e0, e1, e2⟩ := free3 HS1.out
    go_enter Try.func27, Try.ntmps27
    go_wp2_with (at_builtin; rw [show (w.alloc (.cells #[.int .i64 g, .slice (some ⟨b, off, none⟩) n lc, .int .i64 t] 27)).alloc (.cells #[.int .i64 0, .slice none 0 0, .int .i64 0] 27) = w1 from HW.out]; refine wpList_append_own _ rfl _ _ 25 rfl (w.heap.size + 2) 45 i0 _ 2 24 Try.underlying25 HI.out HZ0.out HZ1.out HZ2.out rfl (by decide) _ 0 [] rfl (World.ownsRow_nil _ _ _ _) ⟨b, off, none⟩ n lc (lcells ls) rfl HNL.out HN.out (lcells_one ls) ?d1 ?d2 ?d3 ?_)
    case d1 => unfold maxLen; omega
    case d2 => omega
    case d3 => exact Nat.le_of_eq HSZ.out.symm
    intro v' w2 hown hg _
    have HOW := Lib.hid hown
    obtain ⟨a', cap', rfl, hA⟩ := ls_of hown HL.out.1 (by omega)
    have HB2 : Hid (Below w.heap.size w w2) := HB0.out.grown hg HBS.out (fun k hk => by cases hk)
    have hS0 : At3 w2 w.heap.size (.int .i64 g) (.slice (some ⟨b, off, none⟩) n lc) (.int .i64 t) := (hg.block _ (heap_lt HS0.out) (by intro e; cases e)).trans HS0.out
    have hS1 : At3 w2 (w.heap.size + 1) (.int .i64 0) (.slice none 0 0) (.int .i64 0) := (hg.block _ (heap_lt HS1.out) (by intro e; cases e)).trans HS1.out
    have HS3 := Lib.hid hS1
    have HBk : Hid (∀ ad, a' = some ad → w.heap.size + 2 ≤ ad.block) := by
      intro ad e
      rcases owns_form hown with ⟨e2, _⟩ | ⟨g', c', e2, hle, _⟩
      · cases e2; cases e
      · cases e2; cases e; exact hle
    clear hown hA hg q0 q1 q2 f0 f1 f2 z0 z1 z2 e0 e1 e2
    obtain ⟨q0, q1, q2⟩ := cells3 hS0
    obtain ⟨f0, f1, f2⟩ := free3 hS0
    obtain ⟨z0, z1, z2⟩ := cells3 hS1
    obtain ⟨e0, e1, e2⟩ := free3 hS1
    clear hS0 hS1
    go_wp2_with fail
    have HR := Lib.hid (heap_put3 (at3_set (i := 1) HS3.out (Nat.succ_ne_self _) (.slice a' n cap')) (.int .i64 g) (.slice a' n cap') (.int .i64 t))
    have HB3 := Lib.hid (below_put3 (HB2.out.setCell (p := ⟨w.heap.size, 1, none⟩) (Nat.le_refl _) (.slice a' n cap')) (Nat.le_succ w.heap.size) (.int .i64 g) (.slice a' n cap') (.int .i64 t))
    have HA3 : Hid ((put3 (w2.setCell ⟨w.heap.size, 1, none⟩ (.slice a' n cap')) (w.heap.size + 1) (.int .i64 g) (.slice a' n cap') (.int .i64 t)).ownsRow w.heap.size 45 2 (.slice a' n cap') n (lcells ls)) := by
      refine owns_base (owns_heap HOW.out fun j e => ?_) (by omega : w.heap.size ≤ w.heap.size + 2)
      have := (HOW.out.lt j e).1
      rw [put3_other _ _ _ (by omega), heap_setCell_other _ _ _ _ (by show j ≠ w.heap.size; omega)]
    exact bodyPost_ret (results_one (j := 2) rfl _ _ (w.heap.size + 1) _ _ _ rfl HR.out) rfl ⟨a', cap', rfl, HA3.out, (fun ad e => by have := HBk.out ad e; omega), HB3.out⟩
end Go.Proofs.Ytleopanfggmenaa.Holds
