/-
  Rows of holds of the call's own; what append does to them; the contract of own: the hold with its lines in memory of their own.
-/
import Derived.Test.YtjclkiabgemfpaaGreatPdHoldsD
import Derived.Test.YtjclkiabgemfpaaGreatPdLinesD
import Derived.Deep.Upon
import Derived.ArgAppend
set_option linter.unusedVariables false
set_option maxRecDepth 4000
set_option maxRecDepth 4000
namespace Go.Proofs.YtjclkiabgemfpaaGreat.Holds
open Go.RowKit LinesP HoldsP
open Go.Proofs.YtjclkiabgemfpaaGreat.Lines (LsAt Sz SzM ret_bool ret_int below_keep below_drewN lcells info_line owns_below owns_cell owns_form ls_of lcells_get)

theorem hmf (fn : Fn) (first cap : Array Value) (w : World) : (Instr.makeFunc fn first cap).run Tryz.prog w = .ok (.func fn first cap) w := rfl
theorem info_hold : (Tryz.prog.info? 69).map (fun i => (i.zero, i.size, i.bytes)) = some (some (.agg #[.int .i64 0, .slice none 0 0, .int .i64 0]), 3, 40) := by kernel_rfl
def hcell (z : Hz) : List Value := [.int .i64 z.1.saga, .slice z.2.1 z.1.ls.length z.2.2, .int .i64 z.1.til]
def hcells (zs : List Hz) : List Value := zs.flatMap hcell
theorem hcells_append (a b : List Hz) : hcells (a ++ b) = hcells a ++ hcells b := by simp [hcells]
theorem hcells_len (zs : List Hz) : (hcells zs).length = zs.length * 3 := by
  induction zs with
  | nil => rfl
  | cons z r ih => show (hcell z ++ hcells r).length = _; rw [List.length_append, ih, List.length_cons]; simp [hcell]; omega
theorem hcells_one (zs : List Hz) : ∀ u ∈ hcells zs, u.oneCell' = true := by
  intro u hu
  obtain ⟨z, _, hz⟩ := List.mem_flatMap.1 hu
  simp only [hcell, List.mem_cons, List.mem_nil_iff, or_false] at hz
  rcases hz with rfl | rfl | rfl <;> rfl
theorem hcells_get : ∀ (l : List Hz) (k : Nat) (x : Hz), l[k]? = some x → (hcells l)[k * 3]? = some (.int .i64 x.1.saga) ∧ (hcells l)[k * 3 + 1]? = some (.slice x.2.1 x.1.ls.length x.2.2) ∧ (hcells l)[k * 3 + 2]? = some (.int .i64 x.1.til)
  | [], k, x, h => by simp at h
  | y :: l, 0, x, h => by simp at h; subst h; exact ⟨rfl, rfl, rfl⟩
  | y :: l, k + 1, x, h => by
    have h2 := hcells_get l k x (by simpa using h)
    rw [show (k + 1) * 3 = k * 3 + 1 + 1 + 1 by omega]
    exact h2
theorem hcells_at {w : World} {b off len : Nat} {zs : List Hz} (hl : zs.length = len)
    (hc : ∀ i, i < len → w.cell? ⟨b, off + i * 3, none⟩ = some (.int .i64 (zs.getD i hz0).1.saga) ∧ w.cell? ⟨b, off + i * 3 + 1, none⟩ = some (.slice (zs.getD i hz0).2.1 (zs.getD i hz0).1.ls.length (zs.getD i hz0).2.2) ∧ w.cell? ⟨b, off + i * 3 + 2, none⟩ = some (.int .i64 (zs.getD i hz0).1.til)) :
    ∀ j u, (hcells zs)[j]? = some u → w.cell? ⟨b, off + j, none⟩ = some u := by
  intro j u hu
  have hj := (List.getElem?_eq_some_iff.1 hu).1
  rw [hcells_len, hl] at hj
  obtain ⟨i, r, hr, rfl⟩ : ∃ i r, r < 3 ∧ j = i * 3 + r := ⟨j / 3, j % 3, by omega, by omega⟩
  have hi : i < len := by omega
  have hiz : i < zs.length := by omega
  have hz : zs[i]? = some (zs.getD i hz0) := by simp [List.getD, hiz]
  obtain ⟨g1, g2, g3⟩ := hcells_get zs i _ hz
  obtain ⟨c1, c2, c3⟩ := hc i hi
  rcases (by omega : r = 0 ∨ r = 1 ∨ r = 2) with rfl | rfl | rfl
  · rw [Nat.add_zero, g1] at hu; cases hu; exact c1
  · rw [g2] at hu; cases hu; rw [← Nat.add_assoc]; exact c2
  · rw [g3] at hu; cases hu; rw [← Nat.add_assoc]; exact c3
theorem hz_of {w : World} {B n : Nat} {v : Value} {zs : List Hz} (h : w.ownsRow B 69 3 v n (hcells zs)) (hn : zs.length = n) (hl : n ≤ 1000000000) (hL : ∀ z ∈ zs, LsAt w z.2.1 z.1.ls.length z.1.ls) : ∃ a cap, v = .slice a n cap ∧ HzAt w a n zs := by
  rcases owns_form h with ⟨rfl, h0⟩ | ⟨g, cap, rfl, _, hlt⟩
  · exact ⟨none, 0, by rw [h0], hn, by omega, hL, .inl h0⟩
  · refine ⟨_, cap, rfl, hn, by omega, hL, .inr ⟨g, 0, rfl, hlt, fun i hi => ?_⟩⟩
    have hi' : i < zs.length := by omega
    obtain ⟨h1, h2, h3⟩ := hcells_get zs i zs[i] (List.getElem?_eq_getElem hi')
    have e : zs.getD i hz0 = zs[i] := by simp [List.getD, hi']
    rw [e, Nat.zero_add]
    exact ⟨owns_cell h rfl h1, owns_cell h rfl h2, owns_cell h rfl h3⟩
theorem add_at (g j i : Nat) : (⟨g, j, none⟩ : Addr).add i = ⟨g, j + i, none⟩ := by unfold Addr.add; split <;> simp_all
theorem cell_three_new (w : World) (u v x : Value) (e : TypeId) : ∀ (j : Nat) z, [u, v, x][j]? = some z → (w.alloc (.cells #[u, v, x] e)).cell? ((⟨w.heap.size, 0, none⟩ : Addr).add j) = some z := by
  intro j z hz
  rw [Addr.add_lit]
  match j with
  | 0 => simp at hz; subst hz; simp
  | 1 => simp at hz; subst hz; simp
  | 2 => simp at hz; subst hz; simp
  | j + 3 => simp at hz
theorem append_hold {ops : Array Oper} {rest : List Oper} {o : Oper} {a : Act} {Q : Exit → Act → World → Prop} (hgd : o.guard = none) (s x : Operand)
    (ho : o.op = .call { callee := .builtin .append, args := #[s, x], argTypes := #[23, 23] }) (base : Nat) (w : World) (k : Nat) (hk : w.heap.size = k) (g : Int) (la : Option Addr) (m lc : Nat) (ls : List Ln) (hm : ls.length = m) (t : Int)
    (v : Value) (n : Nat) (xs : List Hz) (hs : a.eval s = v) (hown : w.ownsRow base 69 3 v n (hcells xs)) (hx : a.eval x = .slice (some ⟨k, 0, none⟩) 1 1)
    (hn : n ≤ 4000000) (hbase : base ≤ w.heap.size)
    (h : ∀ v' w', w'.ownsRow base 69 3 v' (n + 1) (hcells (xs ++ [(⟨g, ls, t⟩, la, lc)])) → (w.alloc (.cells #[.int .i64 g, .slice la m lc, .int .i64 t] 69)).grownBy w' v.ownBlock → wpList Tryz.prog ops Q rest (a.put o.dst v') w') :
    wpList Tryz.prog ops Q (o :: rest) a (w.alloc (.cells #[.int .i64 g, .slice la m lc, .int .i64 t] 69)) := by
  subst hk
  subst hm
  obtain ⟨i0, hi, hz0, hz1, hz2⟩ := info_parts info_hold
  refine wpList_append_own _ hgd s x 23 ho base 69 i0 _ 3 40 Tryz.underlying23 hi hz0 hz1 hz2 rfl (by decide) v n (hcells xs) hs (hown.alloc _) ⟨w.heap.size, 0, none⟩ 1 1 [.int .i64 g, .slice la ls.length lc, .int .i64 t] hx rfl (cell_three_new _ _ _ _ _) (by simp [Value.oneCell']) ?_ ?_ ?_ fun v' w' h1 h2 _ => h v' w' (by rw [hcells_append]; exact h1) h2
  · unfold maxLen; omega
  · omega
  · simp; omega
theorem append_nothing {ops : Array Oper} {rest : List Oper} {o : Oper} {a : Act} {Q : Exit → Act → World → Prop} {w : World} (hgd : o.guard = none) (s x : Operand) (t e : TypeId)
    (ho : o.op = .call { callee := .builtin .append, args := #[s, x], argTypes := #[t, t] }) (i : TypeInfo) (ht : Tryz.prog.underlying t = some (.slice e)) (hi : Tryz.prog.info? e = some i)
    (base : Option Addr) (sLen sCap : Nat) (hle : sLen ≤ sCap) (hs : a.eval s = .slice base sLen sCap) (la : Option Addr) (c : Nat) (hx : a.eval x = .slice la 0 c)
    (h : wpList Tryz.prog ops Q rest (a.put o.dst (.slice base sLen sCap)) w) : wpList Tryz.prog ops Q (o :: rest) a w := by
  refine wpList_plain hgd fun K hK => ?_
  have hrun := run_append_nothing (P := Tryz.prog) w t t o.type e i ht hi base sLen sCap hle (.slice la 0 c) (by
    cases la with
    | none => exact Src.ofNil _ ht c
    | some ad => exact Src.ofSlice _ ht ad 0 c [] (by simp) (fun j u hu => by simp at hu) (fun u hu => by simp at hu))
  unfold Oper.wp
  simp [execOp, ho, resolve, invoke, builtin, hs, hx, hrun, Result.andThen]
  exact hK _ _ h
theorem lcells_at {w : World} {b off len : Nat} {l : List Ln} (hl : l.length = len)
    (hc : ∀ i, i < len → w.cell? ⟨b, off + i * 2, none⟩ = some (.string (l.getD i ln0).1) ∧ w.cell? ⟨b, off + i * 2 + 1, none⟩ = some (.int .i64 (l.getD i ln0).2)) :
    ∀ j u, (lcells l)[j]? = some u → w.cell? ((⟨b, off, none⟩ : Addr).add j) = some u := by
  intro j u hu
  rw [add_at]
  have hlen : (lcells l).length = l.length * 2 := by
    clear hu hc hl
    induction l with
    | nil => rfl
    | cons z r ih => show ([_, _] ++ lcells r).length = _; rw [List.length_append, ih, List.length_cons]; simp; omega
  have hj := (List.getElem?_eq_some_iff.1 hu).1
  rw [hlen, hl] at hj
  obtain ⟨i, r, hr, rfl⟩ : ∃ i r, r < 2 ∧ j = i * 2 + r := ⟨j / 2, j % 2, by omega, by omega⟩
  have hi : i < len := by omega
  have hiz : i < l.length := by omega
  have hz : l[i]? = some (l.getD i ln0) := by simp [List.getD, hiz]
  obtain ⟨g1, g2⟩ := lcells_get l i _ hz
  obtain ⟨c1, c2⟩ := hc i hi
  rcases (by omega : r = 0 ∨ r = 1) with rfl | rfl
  · rw [Nat.add_zero, g1] at hu; cases hu; exact c1
  · rw [g2] at hu; cases hu; rw [← Nat.add_assoc]; exact c2
theorem lcells_len (l : List Ln) : (lcells l).length = l.length * 2 := by
  induction l with
  | nil => rfl
  | cons z r ih => show ([_, _] ++ lcells r).length = _; rw [List.length_append, ih, List.length_cons]; simp; omega
theorem lcells_one (l : List Ln) : ∀ u ∈ lcells l, u.oneCell' = true := by
  intro u hu
  obtain ⟨z, _, hz⟩ := List.mem_flatMap.1 hu
  simp only [List.mem_cons, List.mem_nil_iff, or_false] at hz
  rcases hz with rfl | rfl <;> rfl
theorem at3_set {w : World} {b k i : Nat} {v0 v1 v2 : Value} (h : At3 w b v0 v1 v2) (hne : b ≠ k) (v : Value) : At3 (w.setCell ⟨k, i, none⟩ v) b v0 v1 v2 := by
  unfold At3
  rw [heap_setCell_other _ _ _ _ (by simpa using hne)]
  exact h
theorem ls_keepB {w w' : World} {a : Option Addr} {n : Nat} {ls : List Ln} (h : LsAt w a n ls) (hs : w.heap.size ≤ w'.heap.size) (hb : ∀ j, (∀ ad, a = some ad → ad.block = j → 0 < n → w'.heap[j]? = w.heap[j]?)) : LsAt w' a n ls :=
  ⟨h.1, h.2.1, h.2.2.imp id (fun ⟨b, off, e, hlt, hc⟩ => by
    by_cases h0 : 0 < n
    · have hx := hb b _ e rfl h0
      refine ⟨b, off, e, by omega, fun i hi => ?_⟩
      simp only [World.cell?] at hc ⊢
      rw [hx]
      exact hc i hi
    · exact ⟨b, off, e, by omega, fun i hi => by omega⟩)⟩
theorem ls_own {w : World} {B n c : Nat} {a : Option Addr} {l : List Ln} (h : w.ownsRow B 54 2 (.slice a n c) n (lcells l)) (hn : l.length = n) (hl : n ≤ 1000000000) : LsAt w a n l := by
  obtain ⟨a', cap, e, k⟩ := ls_of h hn hl
  cases e
  exact k
theorem owns_heap {w w' : World} {B n size : Nat} {e : TypeId} {v : Value} {xs : List Value} (h : w.ownsRow B e size v n xs) (hb : ∀ g, v.ownBlock = some g → w'.heap[g]? = w.heap[g]?) : w'.ownsRow B e size v n xs := by
  refine ⟨h.1, ?_⟩
  rcases h.2 with hn | ⟨g, cap, cur, rfl, hbg, hg, rest⟩
  · exact .inl hn
  · exact .inr ⟨g, cap, cur, rfl, hbg, (hb g rfl).trans hg, rest⟩
theorem owns_base {w : World} {B C n size : Nat} {e : TypeId} {v : Value} {xs : List Value} (h : w.ownsRow B e size v n xs) (hc : C ≤ B) : w.ownsRow C e size v n xs :=
  ⟨h.1, h.2.imp id (fun ⟨g, cap, cur, h1, h2, h3⟩ => ⟨g, cap, cur, h1, Nat.le_trans hc h2, h3⟩)⟩
theorem owns_apart {w : World} {B B' n n' size size' : Nat} {e e' : TypeId} {v v' : Value} {xs xs' : List Value} (hne : e ≠ e') (h : w.ownsRow B e size v n xs) (h' : w.ownsRow B' e' size' v' n' xs') : v.ownBlock = none ∨ v.ownBlock ≠ v'.ownBlock := by
  rcases h.2 with ⟨rfl, _⟩ | ⟨g, cap, cur, rfl, _, hg, _⟩
  · exact .inl rfl
  · refine .inr fun eq => ?_
    rcases h'.2 with ⟨rfl, _⟩ | ⟨g', cap', cur', rfl, _, hg', _⟩
    · simp [Value.ownBlock] at eq
    · simp [Value.ownBlock] at eq
      subst eq
      rw [hg] at hg'
      simp only [Option.some.injEq, Obj.cells.injEq] at hg'
      exact hne hg'.2.1
def OwnP (w : World) (g : Int) (ls : List Ln) (n : Nat) (t : Int) (e : Ending) (w' : World) : Prop :=
  ∃ a c, e = .returned (.agg #[.int .i64 g, .slice a n c, .int .i64 t]) ∧ w'.ownsRow w.heap.size 54 2 (.slice a n c) n (lcells ls) ∧ (∀ ad, a = some ad → w.heap.size ≤ ad.block) ∧ Below w.heap.size w w'
set_option maxHeartbeats 1000000 in
theorem own_any (g t : Int) (la : Option Addr) (n lc : Nat) (ls : List Ln) (w : World) (h : LsAt w la n ls) (hn : n ≤ 1000000) :
    Calls Tryz.prog 116 #[.agg #[.int .i64 g, .slice la n lc, .int .i64 t]] w (OwnP w g ls n t) := by
  obtain ⟨i0, hi, hz0, hz1, hz2⟩ := info_parts info_line
  have HI := Lib.hid hi; have HZ0 := Lib.hid hz0; have HZ1 := Lib.hid hz1; have HZ2 := Lib.hid hz2
  clear hi hz0 hz1 hz2
  have HS0 : Hid (At3 ((w.alloc (.cells #[.int .i64 g, .slice la n lc, .int .i64 t] 69)).alloc (.cells #[.int .i64 0, .slice none 0 0, .int .i64 0] 69)) w.heap.size (.int .i64 g) (.slice la n lc) (.int .i64 t)) := (at3_new w _ _ _).alloc _
  have HS1 : Hid (At3 ((w.alloc (.cells #[.int .i64 g, .slice la n lc, .int .i64 t] 69)).alloc (.cells #[.int .i64 0, .slice none 0 0, .int .i64 0] 69)) (w.heap.size + 1) (.int .i64 0) (.slice none 0 0) (.int .i64 0)) := by
    have h := at3_new (w.alloc (.cells #[.int .i64 g, .slice la n lc, .int .i64 t] 69)) (.int .i64 0) (.slice none 0 0) (.int .i64 0)
    rw [World.size_alloc] at h
    exact h
  have HB0 : Hid (Below w.heap.size w ((w.alloc (.cells #[.int .i64 g, .slice la n lc, .int .i64 t] 69)).alloc (.cells #[.int .i64 0, .slice none 0 0, .int .i64 0] 69))) :=
    ((Below.refl _ w).alloc (Nat.le_refl _) _).alloc (by rw [World.size_alloc]; omega) _
  have hsz : ((w.alloc (.cells #[.int .i64 g, .slice la n lc, .int .i64 t] 69)).alloc (.cells #[.int .i64 0, .slice none 0 0, .int .i64 0] 69)).heap.size = w.heap.size + 2 := by simp
  obtain ⟨w1, hw1⟩ : ∃ w1, (w.alloc (.cells #[.int .i64 g, .slice la n lc, .int .i64 t] 69)).alloc (.cells #[.int .i64 0, .slice none 0 0, .int .i64 0] 69) = w1 := ⟨_, rfl⟩
  rw [hw1] at HS0 HS1 HB0 hsz
  have HSZ := Lib.hid hsz
  have HW := Lib.hid hw1
  have HL := Lib.hid (h.keep HB0.out)
  have HL0 := Lib.hid h
  clear hsz hw1 h
  by_cases h0 : n = 0
  · subst h0
    have hnil : ls = [] := List.eq_nil_of_length_eq_zero HL.out.1
    subst hnil
    obtain ⟨q0, q1, q2⟩ := cells3 HS0.out
    obtain ⟨f0, f1, f2⟩ := free3 HS0.out
    obtain ⟨z0, z1, z2⟩ := cells3 HS1.out
    obtain ⟨e0, e1, e2⟩ := free3 HS1.out
    go_enter Tryz.func116, Tryz.ntmps116
    go_wp2_with (at_builtin; rw [show (w.alloc (.cells #[.int .i64 g, .slice la 0 lc, .int .i64 t] 69)).alloc (.cells #[.int .i64 0, .slice none 0 0, .int .i64 0] 69) = w1 from HW.out]; refine append_nothing rfl _ _ 26 54 rfl i0 Tryz.underlying26 HI.out none 0 0 (Nat.le_refl _) rfl la lc rfl ?_)
    have HR := Lib.hid (heap_put3 (at3_set (i := 1) HS1.out (Nat.succ_ne_self _) (.slice none 0 0)) (.int .i64 g) (.slice none 0 0) (.int .i64 t))
    have HB2 := Lib.hid (below_put3 (HB0.out.setCell (p := ⟨w.heap.size, 1, none⟩) (Nat.le_refl _) (.slice none 0 0)) (Nat.le_succ w.heap.size) (.int .i64 g) (.slice none 0 0) (.int .i64 t))
    exact bodyPost_ret (results_one (j := 2) rfl _ _ (w.heap.size + 1) _ _ _ rfl HR.out) rfl ⟨none, 0, rfl, World.ownsRow_nil _ _ _ _, (fun ad e => by cases e), HB2.out⟩
  · rcases HL.out.2.2 with h1 | ⟨b, off, rfl, hlt, hc⟩
    · omega
    have HN := Lib.hid (lcells_at HL.out.1 hc)
    have HNL := Lib.hid ((lcells_len ls).trans (by rw [HL.out.1]))
    have HBS : Hid (w.heap.size ≤ w1.heap.size) := by show _ ≤ _; rw [HSZ.out]; omega
    clear hc hlt
    obtain ⟨q0, q1, q2⟩ := cells3 HS0.out
    obtain ⟨f0, f1, f2⟩ := free3 HS0.out
    obtain ⟨z0, z1, z2⟩ := cells3 HS1.out
    obtain ⟨e0, e1, e2⟩ := free3 HS1.out
    go_enter Tryz.func116, Tryz.ntmps116
    go_wp2_with (at_builtin; rw [show (w.alloc (.cells #[.int .i64 g, .slice (some ⟨b, off, none⟩) n lc, .int .i64 t] 69)).alloc (.cells #[.int .i64 0, .slice none 0 0, .int .i64 0] 69) = w1 from HW.out]; refine wpList_append_own _ rfl _ _ 26 rfl (w.heap.size + 2) 54 i0 _ 2 24 Tryz.underlying26 HI.out HZ0.out HZ1.out HZ2.out rfl (by decide) _ 0 [] rfl (World.ownsRow_nil _ _ _ _) ⟨b, off, none⟩ n lc (lcells ls) rfl HNL.out HN.out (lcells_one ls) ?d1 ?d2 ?d3 ?_)
    case d1 => unfold maxLen; omega
    case d2 => omega
    case d3 => exact Nat.le_of_eq HSZ.out.symm
    intro v' w2 hown hg _
    have HOW := Lib.hid hown
    obtain ⟨a', cap', rfl, hA⟩ := ls_of hown HL.out.1 (by omega)
    have HB2 : Hid (Below w.heap.size w w2) := HB0.out.grown hg HBS.out (fun k hk => by cases hk)
    have hS0 : At3 w2 w.heap.size (.int .i64 g) (.slice (some ⟨b, off, none⟩) n lc) (.int .i64 t) := (hg.block _ (heap_lt HS0.out) (by intro e; cases e)).trans HS0.out
    have hS1 : At3 w2 (w.heap.size + 1) (.int .i64 0) (.slice none 0 0) (.int .i64 0) := (hg.block _ (heap_lt HS1.out) (by intro e; cases e)).trans HS1.out
    have HS3 := Lib.hid hS1
    have HBk : Hid (∀ ad, a' = some ad → w.heap.size + 2 ≤ ad.block) := by
      intro ad e
      rcases owns_form hown with ⟨e2, _⟩ | ⟨g', c', e2, hle, _⟩
      · cases e2; cases e
      · cases e2; cases e; exact hle
    clear hown hA hg q0 q1 q2 f0 f1 f2 z0 z1 z2 e0 e1 e2
    obtain ⟨q0, q1, q2⟩ := cells3 hS0
    obtain ⟨f0, f1, f2⟩ := free3 hS0
    obtain ⟨z0, z1, z2⟩ := cells3 hS1
    obtain ⟨e0, e1, e2⟩ := free3 hS1
    clear hS0 hS1
    go_wp2_with fail
    have HR := Lib.hid (heap_put3 (at3_set (i := 1) HS3.out (Nat.succ_ne_self _) (.slice a' n cap')) (.int .i64 g) (.slice a' n cap') (.int .i64 t))
    have HB3 := Lib.hid (below_put3 (HB2.out.setCell (p := ⟨w.heap.size, 1, none⟩) (Nat.le_refl _) (.slice a' n cap')) (Nat.le_succ w.heap.size) (.int .i64 g) (.slice a' n cap') (.int .i64 t))
    have HA3 : Hid ((put3 (w2.setCell ⟨w.heap.size, 1, none⟩ (.slice a' n cap')) (w.heap.size + 1) (.int .i64 g) (.slice a' n cap') (.int .i64 t)).ownsRow w.heap.size 54 2 (.slice a' n cap') n (lcells ls)) := by
      refine owns_base (owns_heap HOW.out fun j e => ?_) (by omega : w.heap.size ≤ w.heap.size + 2)
      have := (HOW.out.lt j e).1
      rw [put3_other _ _ _ (by omega), heap_setCell_other _ _ _ _ (by show j ≠ w.heap.size; omega)]
    exact bodyPost_ret (results_one (j := 2) rfl _ _ (w.heap.size + 1) _ _ _ rfl HR.out) rfl ⟨a', cap', rfl, HA3.out, (fun ad e => by have := HBk.out ad e; omega), HB3.out⟩
end Go.Proofs.YtjclkiabgemfpaaGreat.Holds

/-
  The contracts of IndexFunc over Find's closure and of Find: any holds; what was there stays as it was.
-/
set_option linter.unusedVariables false
set_option maxRecDepth 4000
set_option maxRecDepth 4000
namespace Go.Proofs.YtjclkiabgemfpaaGreat.Holds
open Go.RowKit LinesP HoldsP
open Go.Proofs.YtjclkiabgemfpaaGreat.Lines (LsAt Sz SzM ret_bool ret_int below_keep below_drewN)

theorem pick_any (g t : Int) (la : Option Addr) (n lc : Nat) (g0 : Int) (bs : Nat) (w : World) (hc : w.cell? ⟨bs, 0, none⟩ = some (.int .i64 g0)) (hlt : bs < w.heap.size) (b : Bool) (hb : (g == g0) = b) :
    Calls Tryz.prog 115 #[.agg #[.int .i64 g, .slice la n lc, .int .i64 t], .pointer (some ⟨bs, 0, none⟩)] w fun e w' => e = .returned (.bool b) ∧ Below w.heap.size w w' := by
  have hc2 : (w.alloc (.cells #[.int .i64 g, .slice la n lc, .int .i64 t] 69)).cell? ⟨bs, 0, none⟩ = some (.int .i64 g0) := (((Below.refl _ w).alloc (Nat.le_refl _) _).cell (p := ⟨bs, 0, none⟩) hlt).trans hc
  have HB := Lib.hid (box_below w g la n lc t)
  unfold box at HB
  have HV := Lib.hid hb
  go_enter Tryz.func115, Tryz.ntmps115
  go_wp2_with fail
  go_ret
  exact ⟨rfl, HB.out⟩
def ixH (g : Int) : Nat → List Hd → Int
  | _, [] => -1
  | k, x :: r => if x.saga = g then (k : Int) else ixH g (k + 1) r
theorem ix_yes {l : List Hd} {k : Nat} {x : Hd} {g : Int} (hk : k < l.length) (hx : l.getD k hd0 = x) (h : x.saga = g) : ixH g k (l.drop k) = (k : Int) := by
  rw [drop_at hk hx, ixH, if_pos h]
theorem ix_no {l : List Hd} {k : Nat} {x : Hd} {g : Int} (hk : k < l.length) (hx : l.getD k hd0 = x) (h : x.saga ≠ g) : ixH g k (l.drop k) = ixH g (k + 1) (l.drop (k + 1)) := by
  rw [drop_at hk hx, ixH, if_neg h]
theorem ix_done {l : List Hd} {k : Nat} {g : Int} (h : ¬ k < l.length) : ixH g k (l.drop k) = -1 := by
  rw [List.drop_eq_nil_of_le (by omega)]; rfl
theorem ix_find : ∀ (g : Int) (l : List Hd) (j : Nat), (findH g l = none ∧ ixH g j l = -1) ∨ ∃ k, k < l.length ∧ ixH g j l = ((j + k : Nat) : Int) ∧ findH g l = some (l.getD k hd0)
  | g, [], j => .inl ⟨rfl, rfl⟩
  | g, x :: r, j => by
    by_cases h : x.saga = g
    · exact .inr ⟨0, by simp, by rw [ixH, if_pos h]; rfl, by rw [findH, if_pos h]; rfl⟩
    · rcases ix_find g r (j + 1) with ⟨h1, h2⟩ | ⟨k, h1, h2, h3⟩
      · exact .inl ⟨by rw [findH, if_neg h]; exact h1, by rw [ixH, if_neg h]; exact h2⟩
      · exact .inr ⟨k + 1, by simpa using h1, by rw [ixH, if_neg h, h2]; omega, by rw [findH, if_neg h, h3]; simp⟩
set_option maxHeartbeats 1000000 in
theorem index_any (a : Option Addr) (len cap : Nat) (l : List Hd) (g0 : Int) (bs : Nat) (w : World) (h : HsAt w a len l) (hc : w.cell? ⟨bs, 0, none⟩ = some (.int .i64 g0)) (hlt : bs < w.heap.size) :
    Calls Tryz.prog 114 #[.slice a len cap, .func (.func 115) #[] #[.pointer (some ⟨bs, 0, none⟩)]] w fun e w' => e = .returned (.int .i64 (ixH g0 0 l)) ∧ Below w.heap.size w w' := by
  have hl := h.le
  obtain ⟨v, hv⟩ : ∃ v, ixH g0 0 l = v := ⟨_, rfl⟩
  rw [hv]
  have HX := Lib.hid h
  have HV : Hid (v = ixH g0 0 (l.drop 0)) := hv.symm
  have HC := Lib.hid (fun (w' : World) (hb : Below w.heap.size w w') => (hb.cell (p := ⟨bs, 0, none⟩) hlt).trans hc)
  have HLT := Lib.hid hlt
  clear h hv hc hlt
  go_enter Tryz.func114, Tryz.ntmps114
  go_wp2_with fail
  go_loopw [8] (fun i wr => ∃ k : Nat, k ≤ len ∧ i = .int .i64 (k : Int) ∧ Hid (v = ixH g0 k (l.drop k)) ∧ Hid (Below w.heap.size w wr)) (fun i _ => len - (intOf i).toNat)
  case atStart => exact ⟨0, Nat.zero_le _, rfl, HV, Below.refl _ w⟩
  case round =>
    obtain ⟨k, hk, rfl, hd, hB⟩ := hrel
    by_cases hlk : k < len
    · have hkx : k < l.length := by rw [HX.out.len]; exact hlk
      obtain ⟨b1, o1, g, la, lc, ls, t, rfl, g1, hp, hc1⟩ := HX.out.at hlk
      obtain ⟨d1, d2, d3, _⟩ := hc1 wr hB.out
      obtain ⟨n, hn⟩ : ∃ n, ls.length = n := ⟨_, rfl⟩
      rw [hn] at d2
      have hlt2 : bs < wr.heap.size := Nat.lt_of_lt_of_le HLT.out hB.out.size
      by_cases heq : g = g0
      · have HD : Hid (v = (k : Int)) := hd.out.trans (ix_yes hkx hp heq)
        have C := Lib.hid (pick_any g t la n lc g0 bs wr (HC.out wr hB.out) hlt2 true (by simpa using heq))
        clear hkx hp hd hn hc1 hlt2 heq
        go_wp2_with fail
        refine C.out.mono ?_
        rintro e w1 ⟨rfl, hb⟩
        have HB1 := Lib.hid (below_keep hB.out hb hB.out.size)
        go_wp2_with fail
        go_ret
        exact ⟨ret_int HD.out, HB1.out⟩
      · have HD := Lib.hid (hd.out.trans (ix_no hkx hp heq))
        have C := Lib.hid (pick_any g t la n lc g0 bs wr (HC.out wr hB.out) hlt2 false (by simpa using heq))
        clear hkx hp hd hn hc1 hlt2 heq
        go_wp2_with fail
        refine C.out.mono ?_
        rintro e w1 ⟨rfl, hb⟩
        have HB1 := Lib.hid (below_keep hB.out hb hB.out.size)
        go_wp2_with fail
        go_roundw
        case rel => exact ⟨k + 1, by omega, by go_num, HD, HB1⟩
        case measure => simp [intOf]; omega
    · obtain rfl : k = len := by omega
      have HD : Hid (v = -1) := hd.out.trans (ix_done (by rw [HX.out.len]; exact hlk))
      clear hd
      go_wp2_with fail
      go_ret
      exact ⟨ret_int HD.out, hB.out⟩
set_option maxHeartbeats 1000000 in
theorem find_any (a : Option Addr) (len cap : Nat) (l : List Hd) (g0 : Int) (w : World) (h : HsAt w a len l) (hs : ∀ x ∈ l, x.ls.length ≤ 1000000) :
    Calls Tryz.prog 94 #[.slice a len cap, .int .i64 g0] w (FindP w (findH g0 l)) := by
  have hf := hmf
  have hl := h.le
  obtain ⟨o, ho⟩ : ∃ o, findH g0 l = o := ⟨_, rfl⟩
  rw [ho]
  have HX := Lib.hid h
  have HS := Lib.hid hs
  have h0 : Hid (Below w.heap.size w ((w.alloc (.cells #[.int .i64 g0] 3)).alloc (.cells #[.int .i64 0, .slice none 0 0, .int .i64 0] 69))) :=
    ((Below.refl _ w).alloc (Nat.le_refl _) _).alloc (by rw [World.size_alloc]; omega) _
  have h1 : Hid (At3 ((w.alloc (.cells #[.int .i64 g0] 3)).alloc (.cells #[.int .i64 0, .slice none 0 0, .int .i64 0] 69)) (w.heap.size + 1) (.int .i64 0) (.slice none 0 0) (.int .i64 0)) := by
    have h := at3_new (w.alloc (.cells #[.int .i64 g0] 3)) (.int .i64 0) (.slice none 0 0) (.int .i64 0)
    rw [World.size_alloc] at h
    exact h
  have h2 : ((w.alloc (.cells #[.int .i64 g0] 3)).alloc (.cells #[.int .i64 0, .slice none 0 0, .int .i64 0] 69)).cell? ⟨w.heap.size, 0, none⟩ = some (.int .i64 g0) := by
    have hb : Below (w.alloc (.cells #[.int .i64 g0] 3)).heap.size (w.alloc (.cells #[.int .i64 g0] 3)) ((w.alloc (.cells #[.int .i64 g0] 3)).alloc (.cells #[.int .i64 0, .slice none 0 0, .int .i64 0] 69)) := (Below.refl _ _).alloc (Nat.le_refl _) _
    rw [hb.cell (p := ⟨w.heap.size, 0, none⟩) (by rw [World.size_alloc]; exact Nat.lt_succ_self _), World.cell?_alloc_new]
    rfl
  have h3 : ((w.alloc (.cells #[.int .i64 g0] 3)).alloc (.cells #[.int .i64 0, .slice none 0 0, .int .i64 0] 69)).heap.size = w.heap.size + 2 := by simp
  obtain ⟨w1, hw1⟩ : ∃ w1, (w.alloc (.cells #[.int .i64 g0] 3)).alloc (.cells #[.int .i64 0, .slice none 0 0, .int .i64 0] 69) = w1 := ⟨_, rfl⟩
  rw [hw1] at h0 h1 h2 h3
  have HW := Lib.hid hw1
  have C := Lib.hid (index_any a len cap l g0 w.heap.size w1 (h.keep h0.out) h2 (by omega))
  have HC := ix_find g0 l 0
  rw [ho] at HC
  have HSZ1 := Lib.hid h3
  clear h hs hw1 h2 h3 ho
  rcases HC with ⟨hn, hi⟩ | ⟨k, hk, hi, hn⟩
  · rw [hi] at C
    have HN := Lib.hid hn
    clear hi hn
    go_enter Tryz.func94, Tryz.ntmps94
    go_wp2_with fail
    rw [show (w.alloc (.cells #[.int .i64 g0] 3)).alloc (.cells #[.int .i64 0, .slice none 0 0, .int .i64 0] 69) = w1 from HW.out]
    refine C.out.mono ?_
    rintro e w2 ⟨rfl, hb⟩
    have HB2 := Lib.hid (below_keep h0.out hb h0.out.size)
    have hA := h1.out.keep hb
    have HA := Lib.hid hA
    obtain ⟨z0, z1, z2⟩ := cells3 hA
    obtain ⟨f0, f1, f2⟩ := free3 hA
    clear hA hb
    go_wp2_with fail
    have HRS := Lib.hid (heap_put3 HA.out (.int .i64 0) (.slice none 0 0) (.int .i64 0))
    have HB3 := Lib.hid (below_put3 HB2.out (Nat.le_succ w.heap.size) (.int .i64 0) (.slice none 0 0) (.int .i64 0))
    exact bodyPost_ret (results_hold (j := 4) (k := 5) rfl _ _ (w.heap.size + 1) _ _ _ rfl HRS.out) rfl (find_no HN.out HB3.out)
  · rw [Nat.zero_add] at hi
    rw [hi] at C
    have hkl : k < len := by rw [← HX.out.len]; exact hk
    obtain ⟨b1, o1, g, la, lc, ls, t, rfl, g1, hp, hc1⟩ := HX.out.at hkl
    have hlen := HS.out _ (mem_getD hk)
    rw [hp] at hlen hn
    simp only at hlen
    obtain ⟨n, hn2⟩ : ∃ n, ls.length = n := ⟨_, rfl⟩
    rw [hn2] at hlen
    have HN := Lib.hid hn
    have HN2 := Lib.hid hn2
    have HC1 := Lib.hid hc1
    clear hi hn hp hn2 hk hc1
    go_enter Tryz.func94, Tryz.ntmps94
    go_wp2_with fail
    rw [show (w.alloc (.cells #[.int .i64 g0] 3)).alloc (.cells #[.int .i64 0, .slice none 0 0, .int .i64 0] 69) = w1 from HW.out]
    refine C.out.mono ?_
    rintro e w2 ⟨rfl, hb⟩
    have HB2 := Lib.hid (below_keep h0.out hb h0.out.size)
    have HS12 := Lib.hid hb.size
    have HA2 := Lib.hid (h1.out.keep hb)
    obtain ⟨d1, d2, d3, dL⟩ := HC1.out w2 HB2.out
    rw [HN2.out] at d2 dL
    have C2 := Lib.hid (own_any g t la n lc ls w2 dL hlen)
    clear hb dL
    go_wp2_with fail
    refine C2.out.mono ?_
    rintro e w3 ⟨a', c', rfl, hO', hfr, hb3⟩
    have hA' := ls_own hO' HN2.out (by omega)
    clear hO'
    have HFR := Lib.hid hfr
    have HSZ : Hid (w.heap.size + 2 ≤ w2.heap.size) := Nat.le_trans (Nat.le_of_eq HSZ1.out.symm) HS12.out
    have HB3 := Lib.hid (below_keep HB2.out hb3 HB2.out.size)
    have hA := HA2.out.keep hb3
    have HA := Lib.hid hA
    have HL := Lib.hid hA'
    obtain ⟨z0, z1, z2⟩ := cells3 hA
    obtain ⟨f0, f1, f2⟩ := free3 hA
    clear hA hb3 hA' hfr
    go_wp2_with fail
    have HRS := Lib.hid (heap_put3 HA.out (.int .i64 g) (.slice a' n c') (.int .i64 t))
    have HB4 := Lib.hid (below_put3 HB3.out (Nat.le_succ w.heap.size) (.int .i64 g) (.slice a' n c') (.int .i64 t))
    have HL4 : Hid (LsAt (put3 w3 (w.heap.size + 1) (.int .i64 g) (.slice a' n c') (.int .i64 t)) a' n ls) := by
      refine ls_keepB HL.out (by rw [size_put3]; exact Nat.le_refl _) fun j ad e hj _ => ?_
      have := HFR.out ad e
      have := HSZ.out
      exact put3_other _ _ _ (by omega)
    exact bodyPost_ret (results_hold (j := 4) (k := 5) rfl _ _ (w.heap.size + 1) _ _ _ rfl HRS.out) rfl (find_yes HN.out HN2.out HL4.out HB4.out)
end Go.Proofs.YtjclkiabgemfpaaGreat.Holds

/-
  The contracts of place, of sort.Search over its closure: fit holds; what was there stays as it was.
-/
set_option linter.unusedVariables false
set_option maxRecDepth 4000
set_option maxRecDepth 4000
namespace Go.Proofs.YtjclkiabgemfpaaGreat.Holds
open Go.RowKit LinesP HoldsP
open Go.Proofs.YtjclkiabgemfpaaGreat.Lines (LsAt Sz SzM ret_bool ret_int below_keep below_drewN)

theorem least_any (i : Nat) (a : Option Addr) (len cap : Nat) (l : List Hd) (g0 : Int) (bl bs : Nat) (w : World) (hl : w.cell? ⟨bl, 0, none⟩ = some (.slice a len cap)) (hs : w.cell? ⟨bs, 0, none⟩ = some (.int .i64 g0))
    (h : HsAt w a len l) (hi : i < len) (b : Bool) (hb : decide (g0 ≤ (l.getD i hd0).saga) = b) :
    Calls Tryz.prog 122 #[.int .i64 (i : Int), .pointer (some ⟨bl, 0, none⟩), .pointer (some ⟨bs, 0, none⟩)] w fun e w' => e = .returned (.bool b) ∧ Below w.heap.size w w' := by
  have hle := h.le
  obtain ⟨b1, o1, g, la, lc, ls, t, rfl, g1, hp, hc1⟩ := h.at hi
  rw [hp] at hb
  simp only at hb
  obtain ⟨d1, _, _, _⟩ := hc1 w (Below.refl _ _)
  have hb2 : decide (g ≥ g0) = b := hb
  clear hp hc1 h g1
  go_enter Tryz.func122, Tryz.ntmps122
  go_wp2_with fail
  go_quiet (fail)
  go_wp2_with fail
  go_ret
  exact ⟨rfl, below_drewN (Below.refl _ _) _⟩
theorem pos_test {l : List Hd} {g : Int} {i : Nat} (hf : fitH l = true) (hi : i < l.length) : decide (g ≤ (l.getD i hd0).saga) = !decide (i < pos g l) := by
  have h := pos_iff (g := g) (fitH_iff.1 hf).2.2 hi
  by_cases hq : i < pos g l
  · rw [decide_eq_true hq, decide_eq_false (by have := h.1 hq; omega)]; rfl
  · rw [decide_eq_false hq, decide_eq_true (by have := fun e => hq (h.2 e); omega)]; rfl
set_option maxHeartbeats 1000000 in
theorem search_any (a : Option Addr) (len cap : Nat) (l : List Hd) (g0 : Int) (bl bs : Nat) (w : World) (hl : w.cell? ⟨bl, 0, none⟩ = some (.slice a len cap)) (hs : w.cell? ⟨bs, 0, none⟩ = some (.int .i64 g0))
    (hbl : bl < w.heap.size) (hbs : bs < w.heap.size) (h : HsAt w a len l) (hf : fitH l = true) :
    Calls Tryz.prog 121 #[.int .i64 (len : Int), .func (.func 122) #[] #[.pointer (some ⟨bl, 0, none⟩), .pointer (some ⟨bs, 0, none⟩)]] w
      fun e w' => e = .returned (.int .i64 ((pos g0 l : Nat) : Int)) ∧ Below w.heap.size w w' := by
  have hlen := h.len
  have h16 : len ≤ 16 := by rw [← hlen]; exact (fitH_iff.1 hf).1
  have hpl : pos g0 l ≤ len := by rw [← hlen]; exact pos_le g0 l
  have HC := Lib.hid (fun (m : Nat) (w' : World) (hb : Below w.heap.size w w') (hm : m < len) =>
    least_any m a len cap l g0 bl bs w' ((hb.cell (p := ⟨bl, 0, none⟩) hbl).trans hl) ((hb.cell (p := ⟨bs, 0, none⟩) hbs).trans hs) (h.keep hb) hm _ (pos_test hf (by rw [hlen]; exact hm)))
  obtain ⟨p, hp⟩ : ∃ p, pos g0 l = p := ⟨_, rfl⟩
  rw [hp] at hpl HC ⊢
  clear hp hl hs hbl hbs h hf hlen
  go_enter Tryz.func121, Tryz.ntmps121
  go_wp2_with fail
  go_loopw [5, 6] (fun i j wr => ∃ lo hi : Nat, i = .int .i64 (lo : Int) ∧ j = .int .i64 (hi : Int) ∧ lo ≤ p ∧ p ≤ hi ∧ hi ≤ len ∧ Hid (Below w.heap.size w wr)) (fun i j _ => (intOf j).toNat - (intOf i).toNat)
  case atStart => exact ⟨0, len, rfl, rfl, Nat.zero_le _, hpl, Nat.le_refl _, Below.refl _ w⟩
  case round =>
    obtain ⟨lo, hi, rfl, rfl, hlo, hhi, hhl, hB⟩ := hrel
    by_cases hlt : lo < hi
    · obtain ⟨m, hm⟩ : ∃ m : Nat, m = (lo + hi) / 2 := ⟨_, rfl⟩
      have hm1 : lo ≤ m := by omega
      have hm2 : m < hi := by omega
      have hdiv : ((lo : Int) + (hi : Int)) / 2 = (m : Int) := by omega
      have C := Lib.hid (HC.out m wr hB.out (by omega))
      cases hq : decide (m < p) with
      | true =>
        have hq' := of_decide_eq_true hq
        rw [hq] at C
        clear hm hq
        go_wp2_with fail
        refine C.out.mono ?_
        rintro e w1 ⟨rfl, hb⟩
        have HB1 := Lib.hid (below_keep hB.out hb hB.out.size)
        go_wp2_with fail
        go_roundw
        case rel => exact ⟨m + 1, hi, by go_num, by go_num, by omega, by omega, by omega, HB1⟩
        case measure => simp [intOf]; omega
      | false =>
        have hq' := of_decide_eq_false hq
        rw [hq] at C
        clear hm hq
        go_wp2_with fail
        refine C.out.mono ?_
        rintro e w1 ⟨rfl, hb⟩
        have HB1 := Lib.hid (below_keep hB.out hb hB.out.size)
        go_wp2_with fail
        go_roundw
        case rel => exact ⟨lo, m, by go_num, by go_num, by omega, by omega, by omega, HB1⟩
        case measure => simp [intOf]; omega
    · obtain rfl : lo = hi := by omega
      obtain rfl : lo = p := by omega
      go_wp2_with fail
      go_ret
      exact ⟨rfl, hB.out⟩
theorem find_pos : ∀ {l : List Hd} {g : Int}, l.Pairwise (fun x y => x.saga < y.saga) → findH g l = if pos g l < l.length ∧ (l.getD (pos g l) hd0).saga = g then some (l.getD (pos g l) hd0) else none
  | [], g, _ => by simp [findH]
  | x :: r, g, hp => by
    have hp2 := List.pairwise_cons.1 hp
    rw [findH, pos]
    by_cases h1 : x.saga = g
    · rw [if_pos h1, if_neg (by omega : ¬ x.saga < g), if_pos ⟨by simp, by simpa using h1⟩]; simp
    · rw [if_neg h1]
      by_cases h2 : x.saga < g
      · rw [if_pos h2, find_pos hp2.2]
        simp only [List.length_cons, Nat.add_lt_add_iff_right, List.getD_cons_succ]
      · rw [if_neg h2, if_neg (by intro h; exact h1 (by simpa using h.2))]
        exact find_none.2 fun y hy => by have := hp2.1 y hy; omega
theorem place_some {l : List Hd} {g : Int} (hf : fitH l = true) (h1 : pos g l < l.length) (h2 : (l.getD (pos g l) hd0).saga = g) : findH g l = some (l.getD (pos g l) hd0) := by
  rw [find_pos (fitH_iff.1 hf).2.2, if_pos ⟨h1, h2⟩]
theorem place_none {l : List Hd} {g : Int} (hf : fitH l = true) (h : ¬ (pos g l < l.length ∧ (l.getD (pos g l) hd0).saga = g)) : findH g l = none := by
  rw [find_pos (fitH_iff.1 hf).2.2, if_neg h]
theorem ret_two {v : Value} {a b : Bool} (h : a = b) : Ending.returned (.tuple #[v, .bool b]) = .returned (.tuple #[v, .bool a]) := by rw [h]
set_option maxHeartbeats 1000000 in
theorem place_any (a : Option Addr) (len cap : Nat) (l : List Hd) (g0 : Int) (w : World) (h : HsAt w a len l) (hf : fitH l = true) :
    Calls Tryz.prog 112 #[.slice a len cap, .int .i64 g0] w fun e w' => e = .returned (.tuple #[.int .i64 ((pos g0 l : Nat) : Int), .bool (findH g0 l).isSome]) ∧ Below w.heap.size w w' := by
  have hmf := hmf
  have hlen := h.len
  have h16 : len ≤ 16 := by rw [← hlen]; exact (fitH_iff.1 hf).1
  have hpl : pos g0 l ≤ len := by rw [← hlen]; exact pos_le g0 l
  have k0 : Hid (Below w.heap.size w ((w.alloc (.cells #[.slice a len cap] 23)).alloc (.cells #[.int .i64 g0] 3))) :=
    ((Below.refl _ w).alloc (Nat.le_refl _) _).alloc (by rw [World.size_alloc]; omega) _
  have k1 : ((w.alloc (.cells #[.slice a len cap] 23)).alloc (.cells #[.int .i64 g0] 3)).cell? ⟨w.heap.size, 0, none⟩ = some (.slice a len cap) := by
    have hb : Below (w.alloc (.cells #[.slice a len cap] 23)).heap.size (w.alloc (.cells #[.slice a len cap] 23)) ((w.alloc (.cells #[.slice a len cap] 23)).alloc (.cells #[.int .i64 g0] 3)) := (Below.refl _ _).alloc (Nat.le_refl _) _
    rw [hb.cell (p := ⟨w.heap.size, 0, none⟩) (by rw [World.size_alloc]; exact Nat.lt_succ_self _), World.cell?_alloc_new]
    rfl
  have k2 : ((w.alloc (.cells #[.slice a len cap] 23)).alloc (.cells #[.int .i64 g0] 3)).cell? ⟨w.heap.size + 1, 0, none⟩ = some (.int .i64 g0) := by
    have := World.cell?_alloc_new (w.alloc (.cells #[.slice a len cap] 23)) #[.int .i64 g0] 3 0
    rw [World.size_alloc] at this
    rw [this]
    rfl
  have k3 : ((w.alloc (.cells #[.slice a len cap] 23)).alloc (.cells #[.int .i64 g0] 3)).heap.size = w.heap.size + 2 := by simp
  obtain ⟨w1, hw1⟩ : ∃ w1, (w.alloc (.cells #[.slice a len cap] 23)).alloc (.cells #[.int .i64 g0] 3) = w1 := ⟨_, rfl⟩
  rw [hw1] at k0 k1 k2 k3
  have HW := Lib.hid hw1
  have C := Lib.hid (search_any a len cap l g0 w.heap.size (w.heap.size + 1) w1 k1 k2 (by omega) (by omega) (h.keep k0.out) hf)
  have HK := Lib.hid (fun (w' : World) (hb : Below w1.heap.size w1 w') => And.intro ((hb.cell (p := ⟨w.heap.size, 0, none⟩) (by show w.heap.size < _; omega)).trans k1) ((hb.cell (p := ⟨w.heap.size + 1, 0, none⟩) (by show w.heap.size + 1 < _; omega)).trans k2))
  have HX := Lib.hid h
  have hps := @place_some l g0 hf
  have hpn := @place_none l g0 hf
  obtain ⟨p, hp⟩ : ∃ p, pos g0 l = p := ⟨_, rfl⟩
  rw [hp] at hpl C hps hpn ⊢
  rw [hlen] at hps hpn
  clear hp hf h hw1 hlen
  by_cases hpt : p < len
  · obtain ⟨b1, o1, g, la, lc, ls, t, rfl, g1, hx, hc1⟩ := HX.out.at hpt
    rw [hx] at hps hpn
    have HC1 := Lib.hid hc1
    simp only at hps hpn
    clear hc1 hx g1
    by_cases heq : g = g0
    · have HV : Hid ((findH g0 l).isSome = true) := by show _ = true; rw [hps hpt heq]; rfl
      clear hps hpn
      go_enter Tryz.func112, Tryz.ntmps112
      go_wp2_with fail
      rw [show (w.alloc (.cells #[.slice (some ⟨b1, o1, none⟩) len cap] 23)).alloc (.cells #[.int .i64 g0] 3) = w1 from HW.out]
      refine C.out.mono ?_
      rintro e w2 ⟨rfl, hb⟩
      have HB2 := Lib.hid (below_keep k0.out hb k0.out.size)
      obtain ⟨q1, q2⟩ := HK.out w2 hb
      obtain ⟨d1, _, _, _⟩ := HC1.out w2 HB2.out
      go_wp2_with fail
      go_quiet (fail)
      go_wp2_with fail
      go_ret2
      exact ⟨ret_two HV.out, below_drewN HB2.out _⟩
    · have HV : Hid ((findH g0 l).isSome = false) := by show _ = false; rw [hpn (fun k => heq k.2)]; rfl
      have hne : (g == g0) = false := by simpa using heq
      clear hps hpn heq
      go_enter Tryz.func112, Tryz.ntmps112
      go_wp2_with fail
      rw [show (w.alloc (.cells #[.slice (some ⟨b1, o1, none⟩) len cap] 23)).alloc (.cells #[.int .i64 g0] 3) = w1 from HW.out]
      refine C.out.mono ?_
      rintro e w2 ⟨rfl, hb⟩
      have HB2 := Lib.hid (below_keep k0.out hb k0.out.size)
      obtain ⟨q1, q2⟩ := HK.out w2 hb
      obtain ⟨d1, _, _, _⟩ := HC1.out w2 HB2.out
      go_wp2_with fail
      go_quiet (fail)
      go_wp2_with fail
      go_ret2
      exact ⟨ret_two HV.out, below_drewN HB2.out _⟩
  · have HV : Hid ((findH g0 l).isSome = false) := by show _ = false; rw [hpn (fun k => hpt k.1)]; rfl
    clear hps hpn
    go_enter Tryz.func112, Tryz.ntmps112
    go_wp2_with fail
    rw [show (w.alloc (.cells #[.slice a len cap] 23)).alloc (.cells #[.int .i64 g0] 3) = w1 from HW.out]
    refine C.out.mono ?_
    rintro e w2 ⟨rfl, hb⟩
    have HB2 := Lib.hid (below_keep k0.out hb k0.out.size)
    obtain ⟨q1, q2⟩ := HK.out w2 hb
    go_wp2_with fail
    go_quiet (fail)
    go_wp2_with fail
    go_ret2
    exact ⟨ret_two HV.out, below_drewN HB2.out _⟩
end Go.Proofs.YtjclkiabgemfpaaGreat.Holds

/-
  The contract of copies: the holds with lines, in memory of their own; what was there stays as it was.
-/
set_option linter.unusedVariables false
set_option maxRecDepth 4000
set_option maxRecDepth 4000
namespace Go.Proofs.YtjclkiabgemfpaaGreat.Holds
open Go.RowKit LinesP HoldsP
open Go.Proofs.YtjclkiabgemfpaaGreat.Lines (LsAt Sz SzM ret_bool ret_int below_keep below_drewN lcells info_line owns_below owns_cell owns_form ls_of lcells_get)

def OwnL (w : World) (B : Nat) (zs : List Hz) : Prop := ∀ z ∈ zs, w.ownsRow B 54 2 (.slice z.2.1 z.1.ls.length z.2.2) z.1.ls.length (lcells z.1.ls)
theorem OwnL.keep {w w' : World} {B : Nat} {zs : List Hz} (h : OwnL w B zs) (hb : Below w.heap.size w w') : OwnL w' B zs := fun z hz => owns_below (h z hz) hb
theorem OwnL.grown {w w' : World} {B C n : Nat} {zs : List Hz} {v : Value} {xs : List Value} (h : OwnL w B zs) (ho : w.ownsRow C 69 3 v n xs) (hg : w.grownBy w' v.ownBlock) : OwnL w' B zs :=
  fun z hz => (h z hz).kept hg (owns_apart (by decide) (h z hz) ho)
theorem OwnL.snoc {w : World} {B : Nat} {zs : List Hz} {z : Hz} (h : OwnL w B zs) (hz : w.ownsRow B 54 2 (.slice z.2.1 z.1.ls.length z.2.2) z.1.ls.length (lcells z.1.ls)) : OwnL w B (zs ++ [z]) := by
  intro y hy
  rcases List.mem_append.1 hy with hy | hy
  · exact h y hy
  · rw [List.mem_singleton.1 hy]; exact hz
theorem OwnL.at {w : World} {B : Nat} {zs : List Hz} (h : OwnL w B zs) (hs : ∀ x ∈ hs zs, x.ls.length ≤ 1000000) : ∀ z ∈ zs, LsAt w z.2.1 z.1.ls.length z.1.ls :=
  fun z hz => ls_own (h z hz) rfl (by have := hs z.1 (List.mem_map_of_mem hz); omega)
def MadeP (w : World) (l : List Hd) (e : Ending) (w' : World) : Prop := ∃ a c, e = .returned (.slice a l.length c) ∧ l.length ≤ c ∧ HsAt w' a l.length l ∧ Below w.heap.size w w'
theorem owns_room {w : World} {B n c size : Nat} {e : TypeId} {a : Option Addr} {xs : List Value} (h : w.ownsRow B e size (.slice a n c) n xs) : n ≤ c := by
  rcases h.2 with ⟨e, h0⟩ | ⟨g, cap, cur, hv, _, _, h1, _⟩
  · omega
  · cases hv; exact h1
set_option maxHeartbeats 2000000 in
theorem copies_any (a : Option Addr) (len cap : Nat) (l : List Hd) (w : World) (h : HsAt w a len l) (hn : len ≤ 1000000) (hs : ∀ x ∈ l, x.ls.length ≤ 1000000) :
    Calls Tryz.prog 113 #[.slice a len cap] w (MadeP w l) := by
  have HX := Lib.hid h
  have HS := Lib.hid hs
  clear h hs
  go_enter Tryz.func113, Tryz.ntmps113
  go_wp2_with fail
  go_loopw [3, 8] (fun v i wr => ∃ (k : Nat) (ys : List Hz), k ≤ len ∧ i = .int .i64 (k : Int) ∧ Hid (Holds.hs ys = l.take k) ∧ Hid (wr.ownsRow w.heap.size 69 3 v k (hcells ys)) ∧ Hid (OwnL wr w.heap.size ys) ∧ Hid (Below w.heap.size w wr)) (fun _ i _ => len - (intOf i).toNat)
  case atStart => exact ⟨0, [], Nat.zero_le _, rfl, rfl, World.ownsRow_nil _ _ _ _, (fun z hz => by cases hz), Below.refl _ _⟩
  case round =>
    obtain ⟨k, ys, hk, rfl, hY, hO, hL, hB⟩ := hrel
    by_cases hlk : k < len
    · have hkx : k < l.length := by rw [HX.out.len]; exact hlk
      obtain ⟨b1, o1, g, la, lc, ls, t, rfl, g1, hp, hc1⟩ := HX.out.at hlk
      obtain ⟨d1, d2, d3, _⟩ := hc1 wr hB.out
      have hln := HS.out _ (mem_getD hkx)
      rw [hp] at hln
      simp only at hln
      obtain ⟨n, hn2⟩ : ∃ n, ls.length = n := ⟨_, rfl⟩
      rw [hn2] at d2 hln
      have HN2 := Lib.hid hn2
      have HB1 := Lib.hid (below_keep hB.out (box_below wr g la n lc t) hB.out.size)
      have hc0 := box_cells wr g la n lc t (Below.refl _ _)
      have hO1 := owns_below hO.out (box_below wr g la n lc t)
      have hL1 := hL.out.keep (box_below wr g la n lc t)
      have hdL := (hc1 _ HB1.out).2.2.2
      rw [hn2] at hdL
      obtain ⟨w1, hw1⟩ : ∃ w1, box wr g la n lc t = w1 := ⟨_, rfl⟩
      rw [hw1] at HB1 hc0 hO1 hL1 hdL
      have HW : Hid (wr.alloc (.cells #[.int .i64 g, .slice la n lc, .int .i64 t] 69) = w1) := hw1
      have HO1 := Lib.hid hO1; have HL1 := Lib.hid hL1
      have C := Lib.hid (own_any g t la n lc ls w1 hdL hln)
      have HST : Hid (l.take (k + 1) = l.take k ++ [⟨g, ls, t⟩]) := take_snocH hkx hp
      obtain ⟨c1, c2, c3⟩ := hc0
      clear hc1 hkx hp hn2 hO1 hL1 hdL hw1
      go_wp2_with fail
      rw [show wr.alloc (.cells #[.int .i64 g, .slice la n lc, .int .i64 t] 69) = w1 from HW.out]
      go_wp2_with fail
      refine C.out.mono ?_
      rintro e w2 ⟨a', c', rfl, hOl, hfr, hb2⟩
      have HB2 := Lib.hid (below_keep HB1.out hb2 HB1.out.size)
      have HO2 := Lib.hid (owns_below HO1.out hb2)
      have HL2 := Lib.hid (HL1.out.keep hb2)
      have HOl : Hid (w2.ownsRow w.heap.size 54 2 (.slice a' n c') n (lcells ls)) := owns_base hOl HB1.out.size
      have hsz2 := HB2.out.size
      clear hOl hfr hb2
      go_wp2_with (at_builtin; refine append_hold rfl (.tmp 12) (.tmp 15) rfl w.heap.size w2 _ rfl g a' n c' ls HN2.out t _ k ys rfl HO2.out rfl (by omega) hsz2 ?_)
      intro v' w4 hO4 hg4
      have HO4 := Lib.hid hO4
      have HB4 := Lib.hid (Lines.below_append HB2.out hsz2 HO2.out hg4)
      have hL3 : OwnL (w2.alloc (.cells #[.int .i64 g, .slice a' n c', .int .i64 t] 69)) w.heap.size (ys ++ [(⟨g, ls, t⟩, a', c')]) := by
        have hb := (Below.refl w2.heap.size w2).alloc (Nat.le_refl _) (.cells #[.int .i64 g, .slice a' n c', .int .i64 t] 69)
        refine (HL2.out.keep hb).snoc ?_
        simp only [HN2.out]
        exact owns_below HOl.out hb
      have HL4 := Lib.hid (hL3.grown (HO2.out.alloc _) hg4)
      clear hO4 hg4 hL3
      go_wp2_with fail
      go_roundw
      case rel => exact ⟨k + 1, ys ++ [(⟨g, ls, t⟩, a', c')], by omega, by go_num, by rw [HST.out, ← hY.out, hs_append]; rfl, HO4, HL4, HB4⟩
      case measure => simp [intOf]; omega
    · obtain rfl : k = len := by omega
      have hyl : hs ys = l := by rw [hY.out]; exact List.take_of_length_le (Nat.le_of_eq HX.out.len)
      have hyn : ys.length = k := by rw [← hs_len, hyl]; exact HX.out.len
      have hL2 := hL.out.at (by rw [hyl]; exact HS.out)
      obtain ⟨a', c', rfl, hz⟩ := hz_of hO.out hyn (by omega) hL2
      have hcap := owns_room hO.out
      have HR : Hid (MadeP w l (.returned (.slice a' k c')) wr) := ⟨a', c', by rw [HX.out.len], by rw [HX.out.len]; exact hcap, ⟨ys, hyl, by rw [HX.out.len]; exact hz⟩, hB.out⟩
      clear hyl hyn hL2 hz hcap
      go_wp2_with fail
      go_ret
      exact HR.out
end Go.Proofs.YtjclkiabgemfpaaGreat.Holds
