/-
  The contract of the program's Put: any holds; what was there stays as it was.
-/
import Derived.Test.YtjclkiabgemfpaaGreatPdHoldsE
import Derived.Test.YtjclkiabgemfpaaGreatPdMix
set_option linter.unusedVariables false
set_option maxRecDepth 4000
set_option maxRecDepth 4000
namespace Go.Proofs.YtjclkiabgemfpaaGreat.Holds
open Go.RowKit LinesP HoldsP
open Go.Proofs.YtjclkiabgemfpaaGreat.Lines (LsAt Sz SzM ret_bool ret_int below_keep below_drewN lcells info_line owns_below owns_cell owns_form ls_of lcells_get own_cap)

def RowH (w : World) (a : Option Addr) (n : Nat) (ys : List Hz) : Prop :=
  ys.length = n ∧ (n = 0 ∨ ∃ b off, a = some ⟨b, off, none⟩ ∧ b < w.heap.size ∧ ∀ j u, (hcells ys)[j]? = some u → w.cell? ⟨b, off + j, none⟩ = some u)
theorem RowH.keep {w w' : World} {a : Option Addr} {n : Nat} {ys : List Hz} (h : RowH w a n ys) (hb : Below w.heap.size w w') : RowH w' a n ys :=
  ⟨h.1, h.2.imp id (fun ⟨b, off, e, hlt, hc⟩ => ⟨b, off, e, by have := hb.size; omega, fun j u hu => (hb.cell (p := ⟨b, off + j, none⟩) hlt).trans (hc j u hu)⟩)⟩
theorem HzAt.row {w : World} {a : Option Addr} {n : Nat} {zs : List Hz} (h : HzAt w a n zs) : RowH w a n zs :=
  ⟨h.1, h.2.2.2.imp id (fun ⟨b, off, e, hlt, hc⟩ => ⟨b, off, e, hlt, hcells_at h.1 hc⟩)⟩
theorem hcells_take (zs : List Hz) (k : Nat) : hcells (zs.take k) = (hcells zs).take (k * 3) := by
  induction zs generalizing k with
  | nil => simp [hcells]
  | cons z r ih =>
    cases k with
    | zero => simp [hcells]
    | succ k =>
      rw [List.take_succ_cons]
      show hcell z ++ hcells (r.take k) = (hcell z ++ hcells r).take ((k + 1) * 3)
      rw [ih, show (k + 1) * 3 = k * 3 + 3 by omega]
      simp [hcell]
theorem hcells_drop (zs : List Hz) (k : Nat) : hcells (zs.drop k) = (hcells zs).drop (k * 3) := by
  induction zs generalizing k with
  | nil => simp [hcells]
  | cons z r ih =>
    cases k with
    | zero => simp [hcells]
    | succ k =>
      rw [List.drop_succ_cons]
      show hcells (r.drop k) = (hcell z ++ hcells r).drop ((k + 1) * 3)
      rw [ih, show (k + 1) * 3 = k * 3 + 3 by omega]
      simp [hcell]
theorem part_take {w : World} {a : Option Addr} {len p : Nat} {zs : List Hz} (h : HzAt w a len zs) (hp : p ≤ len) : RowH w a p (zs.take p) := by
  refine ⟨by rw [List.length_take, h.1]; omega, ?_⟩
  by_cases h0 : p = 0
  · exact .inl h0
  rcases h.row.2 with h1 | ⟨b, off, e, hlt, hc⟩
  · omega
  · refine .inr ⟨b, off, e, hlt, fun j u hu => hc j u ?_⟩
    rw [hcells_take, List.getElem?_take] at hu
    split at hu
    · exact hu
    · cases hu
theorem part_drop {w : World} {a A2 : Option Addr} {len cap p : Nat} {zs : List Hz} (h : HzAt w a len zs) (hp : p ≤ len) (hc : len ≤ cap) (hA : (if cap = p then a else Option.map (fun x => x.add (p * 3)) a) = A2) : RowH w A2 (len - p) (zs.drop p) := by
  refine ⟨by rw [List.length_drop, h.1], ?_⟩
  by_cases h0 : len - p = 0
  · exact .inl h0
  rcases h.row.2 with h1 | ⟨b, off, e, hlt, hcc⟩
  · omega
  · subst e
    rw [if_neg (by omega)] at hA
    refine .inr ⟨b, off + p * 3, by rw [← hA]; simp only [Option.map_some, add_at], hlt, fun j u hu => ?_⟩
    rw [Nat.add_assoc]
    refine hcc _ u ?_
    rw [hcells_drop, List.getElem?_drop] at hu
    exact hu
theorem hs_take (zs : List Hz) (k : Nat) : hs (zs.take k) = (hs zs).take k := by simp [hs, List.map_take]
theorem hs_drop (zs : List Hz) (k : Nat) : hs (zs.drop k) = (hs zs).drop k := by simp [hs, List.map_drop]
theorem append_holds {ops : Array Oper} {rest : List Oper} {o : Oper} {a : Act} {Q : Exit → Act → World → Prop} {w : World} (hgd : o.guard = none) (s x : Operand)
    (ho : o.op = .call { callee := .builtin .append, args := #[s, x], argTypes := #[23, 23] }) (base : Nat)
    (v : Value) (n : Nat) (xs ys : List Hz) (a1 : Option Addr) (l1 c1 : Nat) (hs : a.eval s = v) (hown : w.ownsRow base 69 3 v n (hcells xs)) (hx : a.eval x = .slice a1 l1 c1)
    (hI : RowH w a1 l1 ys) (hn : n + l1 ≤ 4000000) (hbase : base ≤ w.heap.size)
    (h : ∀ v' w', w'.ownsRow base 69 3 v' (n + l1) (hcells (xs ++ ys)) → w.grownBy w' v.ownBlock → wpList Tryz.prog ops Q rest (a.put o.dst v') w') :
    wpList Tryz.prog ops Q (o :: rest) a w := by
  obtain ⟨i0, hi, hz0, hz1, hz2⟩ := info_parts info_hold
  by_cases h0 : l1 = 0
  · subst h0
    have hy : ys = [] := List.eq_nil_of_length_eq_zero hI.1
    subst hy
    have hr : ∃ ad c, v = .slice ad n c ∧ n ≤ c := by
      rcases owns_form hown with ⟨rfl, rfl⟩ | ⟨g, c, rfl, _⟩
      · exact ⟨none, 0, rfl, Nat.le_refl _⟩
      · exact ⟨_, c, rfl, own_cap hown⟩
    obtain ⟨ad, c, rfl, hle⟩ := hr
    refine append_nothing hgd s x 23 69 ho i0 Tryz.underlying23 hi ad n c hle hs a1 c1 hx (h _ w ?_ ⟨rfl, rfl, rfl, Nat.le_refl _, fun _ _ _ => rfl⟩)
    rw [List.append_nil]
    exact hown
  · rcases hI.2 with h1 | ⟨b, off, rfl, _, hc⟩
    · exact absurd h1 h0
    refine wpList_append_own _ hgd s x 23 ho base 69 i0 _ 3 40 Tryz.underlying23 hi hz0 hz1 hz2 rfl (by decide) v n (hcells xs) hs hown ⟨b, off, none⟩ l1 c1 (hcells ys) hx ?_ (fun j u hu => by rw [add_at]; exact hc j u hu) (hcells_one ys) ?_ ?_ hbase fun v' w' h1 h2 _ => h v' w' (by rw [hcells_append]; exact h1) h2
    · rw [hcells_len, hI.1]
    · unfold maxLen; omega
    · omega
theorem append_part {ops : Array Oper} {rest : List Oper} {o : Oper} {a : Act} {Q : Exit → Act → World → Prop} {w : World} (hgd : o.guard = none) (s x : Operand)
    (ho : o.op = .call { callee := .builtin .append, args := #[s, x], argTypes := #[23, 23] })
    (a0 : Option Addr) (n : Nat) (xs ys : List Hz) (a1 : Option Addr) (l1 c1 : Nat) (hs : a.eval s = .slice a0 n n) (hR : RowH w a0 n xs) (hx : a.eval x = .slice a1 l1 c1)
    (hI : RowH w a1 l1 ys) (hpos : 0 < l1) (hn : n + l1 ≤ 4000000)
    (h : ∀ v' w', w'.ownsRow w.heap.size 69 3 v' (n + l1) (hcells (xs ++ ys)) → w.grownBy w' none → wpList Tryz.prog ops Q rest (a.put o.dst v') w') :
    wpList Tryz.prog ops Q (o :: rest) a w := by
  obtain ⟨i0, hi, hz0, hz1, hz2⟩ := info_parts info_hold
  rcases hI.2 with h1 | ⟨b, off, rfl, _, hc⟩
  · omega
  refine wpList_append_grows w hgd s x 23 ho 69 i0 _ 3 40 Tryz.underlying23 hi hz0 hz1 hz2 rfl (by decide) a0 n n (hcells xs) hs ?_ ?_ ?_ ⟨b, off, none⟩ l1 c1 (hcells ys) hx ?_ (fun j u hu => by rw [add_at]; exact hc j u hu) (hcells_one ys) ?_ ?_ ?_ fun v' w' h1 h2 => h v' w' (by rw [hcells_append]; exact h1) h2
  · intro e
    rcases hR.2 with h0 | ⟨_, _, e2, _⟩
    · exact ⟨h0, h0⟩
    · rw [e] at e2; cases e2
  · rw [hcells_len, hR.1]
  · intro ad e j u hu
    rcases hR.2 with h0 | ⟨b2, off2, e2, _, hc2⟩
    · have := (List.getElem?_eq_some_iff.1 hu).1
      rw [hcells_len, hR.1, h0] at this
      omega
    · rw [e] at e2; cases e2
      rw [add_at]; exact hc2 j u hu
  · rw [hcells_len, hI.1]
  · omega
  · unfold maxLen; omega
  · omega
def TurnC (w : World) (r : List Hd × Int) (e : Ending) (w' : World) : Prop := ∃ a c, e = .returned (.tuple #[.slice a r.1.length c, .int .i64 r.2]) ∧ r.1.length ≤ c ∧ HsAt w' a r.1.length r.1 ∧ Below w.heap.size w w'
theorem turn_errc {w w' : World} {r : List Hd × Int} {er : Int} (hr : r = ([], er)) (hb : Below w.heap.size w w') : TurnC w r (.returned (.tuple #[.slice none 0 0, .int .i64 er])) w' := by
  subst hr
  exact ⟨none, 0, rfl, Nat.le_refl _, HsAt.nil _ _, hb⟩
theorem turn_okc {w w' : World} {r : List Hd × Int} {l : List Hd} {a : Option Addr} {n c : Nat} (hr : r = (l, 0)) (hn : l.length = n) (hc : n ≤ c) (h : HsAt w' a n l) (hb : Below w.heap.size w w') : TurnC w r (.returned (.tuple #[.slice a n c, .int .i64 0])) w' := by
  subst hr
  subst hn
  exact ⟨a, c, rfl, hc, h, hb⟩
theorem fit_is (a : Option Addr) (len cap : Nat) (l : List Hd) (b : Bool) (hb : fitH l = b) (w : World) (h : HsAt w a len l) (hz : SzH l) :
    Calls Tryz.prog 37 #[.slice a len cap] w fun e w' => e = .returned (.bool b) ∧ Below w.heap.size w w' := by
  have := fit_any a len cap l w h hz
  rw [hb] at this
  exact this
theorem place_is (a : Option Addr) (len cap : Nat) (l : List Hd) (g0 : Int) (p : Nat) (b : Bool) (hp : pos g0 l = p) (hb : (findH g0 l).isSome = b) (w : World) (h : HsAt w a len l) (hf : fitH l = true) :
    Calls Tryz.prog 112 #[.slice a len cap, .int .i64 g0] w fun e w' => e = .returned (.tuple #[.int .i64 (p : Int), .bool b]) ∧ Below w.heap.size w w' := by
  have := place_any a len cap l g0 w h hf
  rw [hp, hb] at this
  exact this
set_option maxHeartbeats 2000000 in
theorem put_any (a : Option Addr) (len cap : Nat) (l : List Hd) (g t : Int) (la : Option Addr) (n lc : Nat) (ls : List Ln) (w : World) (h : HsAt w a len l) (hc : len ≤ cap) (hL : LsAt w la n ls) (hz : SzH l) (hz2 : Sz ls) (hs : ∀ x ∈ l, x.ls.length ≤ 1000000) (hn : n ≤ 1000000) :
    Calls Tryz.prog 90 #[.slice a len cap, .agg #[.int .i64 g, .slice la n lc, .int .i64 t]] w (TurnC w (putH l ⟨g, ls, t⟩)) := by
  obtain ⟨r, hr⟩ : ∃ r, putH l ⟨g, ls, t⟩ = r := ⟨_, rfl⟩
  rw [hr]
  have hle := h.le
  have HB := Lib.hid (box_below w g la n lc t)
  have HC := Lib.hid (fun w' hb => box_cells w g la n lc t (w' := w') hb)
  have HX := Lib.hid (h.keep (box_below w g la n lc t))
  have HL := Lib.hid (hL.keep (box_below w g la n lc t))
  obtain ⟨W, hW⟩ : ∃ W, box w g la n lc t = W := ⟨_, rfl⟩
  have HW : Hid (w.alloc (.cells #[.int .i64 g, .slice la n lc, .int .i64 t] 69) = W) := hW
  rw [hW] at HB HC HX HL
  have HZ := Lib.hid hz; have HZ2 := Lib.hid hz2; have HS := Lib.hid hs
  clear h hL hz hz2 hs hW
  by_cases h1 : fitH l = true
  · have C1 := Lib.hid (fit_is a len cap l true h1 W HX.out HZ.out)
    cases h2 : oneH ⟨g, ls, t⟩ with
    | true =>
      cases h3 : (findH g l).isSome with
      | true =>
        obtain ⟨p, hp⟩ : ∃ p, pos g l = p := ⟨_, rfl⟩
        have HR : Hid (r = ([], 3)) := by show r = _; rw [← hr]; unfold putH; rw [if_pos h1, if_pos h2]; show (if (findH g l).isSome = true then _ else _) = _; rw [if_pos h3]
        have H1 := Lib.hid h1; have H2 := Lib.hid h2; have H3 := Lib.hid h3; have HP := Lib.hid hp
        clear hr h1 h2 h3 hp
        go_enter Tryz.func90, Tryz.ntmps90
        go_wp2_with fail
        rw [show w.alloc (.cells #[.int .i64 g, .slice la n lc, .int .i64 t] 69) = W from HW.out]
        refine C1.out.mono ?_
        rintro e w1 ⟨rfl, hb1⟩
        have HB1 := Lib.hid hb1
        obtain ⟨q0, q1, q2⟩ := HC.out w1 hb1
        have C2 := Lib.hid (possible_is g t la n lc ls true H2.out w1 (HL.out.keep hb1) HZ2.out)
        clear hb1
        go_wp2_with fail
        refine C2.out.mono ?_
        rintro e w2 ⟨rfl, hb2⟩
        have HB2 := Lib.hid (below_keep HB1.out hb2 HB1.out.size)
        clear hb2
        obtain ⟨r0, r1, r2⟩ := HC.out w2 HB2.out
        have C3 := Lib.hid (place_is a len cap l g p true HP.out H3.out w2 (HX.out.keep HB2.out) H1.out)
        go_wp2_with fail
        refine C3.out.mono ?_
        rintro e w3 ⟨rfl, hb3⟩
        have HE := Lib.hid (turn_errc (r := r) HR.out (below_keep HB.out (below_keep HB2.out hb3 HB2.out.size) HB.out.size))
        clear hb3
        go_wp2_with fail
        go_ret2
        exact HE.out
      | false =>
        by_cases h4 : len = 16
        · obtain ⟨p, hp⟩ : ∃ p, pos g l = p := ⟨_, rfl⟩
          have HR : Hid (r = ([], 4)) := by
            show r = _; rw [← hr]; unfold putH; rw [if_pos h1, if_pos h2]
            show (if (findH g l).isSome = true then _ else _) = _
            rw [h3, if_neg (by decide), if_pos (by rw [HX.out.len]; exact h4)]
          have H1 := Lib.hid h1; have H2 := Lib.hid h2; have H3 := Lib.hid h3; have HP := Lib.hid hp
          have he16 : ((len : Int) == 16) = true := by rw [beq_iff_eq]; omega
          clear hr h1 h2 h3 h4 hp
          go_enter Tryz.func90, Tryz.ntmps90
          go_wp2_with fail
          rw [show w.alloc (.cells #[.int .i64 g, .slice la n lc, .int .i64 t] 69) = W from HW.out]
          refine C1.out.mono ?_
          rintro e w1 ⟨rfl, hb1⟩
          have HB1 := Lib.hid hb1
          obtain ⟨q0, q1, q2⟩ := HC.out w1 hb1
          have C2 := Lib.hid (possible_is g t la n lc ls true H2.out w1 (HL.out.keep hb1) HZ2.out)
          clear hb1
          go_wp2_with fail
          refine C2.out.mono ?_
          rintro e w2 ⟨rfl, hb2⟩
          have HB2 := Lib.hid (below_keep HB1.out hb2 HB1.out.size)
          clear hb2
          obtain ⟨r0, r1, r2⟩ := HC.out w2 HB2.out
          have C3 := Lib.hid (place_is a len cap l g p false HP.out H3.out w2 (HX.out.keep HB2.out) H1.out)
          go_wp2_with fail
          refine C3.out.mono ?_
          rintro e w3 ⟨rfl, hb3⟩
          have HE := Lib.hid (turn_errc (r := r) HR.out (below_keep HB.out (below_keep HB2.out hb3 HB2.out.size) HB.out.size))
          clear hb3
          go_wp2_with fail
          go_ret2
          exact HE.out
        · obtain ⟨p, hp⟩ : ∃ p, pos g l = p := ⟨_, rfl⟩
          have hlen := HX.out.len
          have hpl : p ≤ len := by rw [← hlen, ← hp]; exact pos_le g l
          have h16 : len ≤ 16 := by rw [← hlen]; exact (fitH_iff.1 h1).1
          have hne : ((len : Int) == 16) = false := by rw [beq_eq_false_iff_ne]; omega
          have HR : Hid (r = (l.take p ++ ⟨g, ls, t⟩ :: l.drop p, 0)) := by
            show r = _
            rw [← hr, ← hp]
            unfold putH
            rw [if_pos h1, if_pos h2, h3, if_neg (by decide), if_neg (by rw [hlen]; exact h4)]
            rfl
          obtain ⟨A2, hA2⟩ : ∃ A2, (if cap = p then a else Option.map (fun x => x.add (p * 3)) a) = A2 := ⟨_, rfl⟩
          have HA2 := Lib.hid hA2
          clear hA2
          have hpc : p ≤ cap := Nat.le_trans hpl hc
          have H1 := Lib.hid h1; have H2 := Lib.hid h2; have H3 := Lib.hid h3; have HP := Lib.hid hp
          clear hr h1 h2 h3 h4 hp hlen
          go_enter Tryz.func90, Tryz.ntmps90
          go_wp2_with fail
          rw [show w.alloc (.cells #[.int .i64 g, .slice la n lc, .int .i64 t] 69) = W from HW.out]
          refine C1.out.mono ?_
          rintro e w1 ⟨rfl, hb1⟩
          have HB1 := Lib.hid hb1
          obtain ⟨q0, q1, q2⟩ := HC.out w1 hb1
          have C2 := Lib.hid (possible_is g t la n lc ls true H2.out w1 (HL.out.keep hb1) HZ2.out)
          clear hb1
          go_wp2_with fail
          refine C2.out.mono ?_
          rintro e w2 ⟨rfl, hb2⟩
          have HB2 := Lib.hid (below_keep HB1.out hb2 HB1.out.size)
          clear hb2
          obtain ⟨r0, r1, r2⟩ := HC.out w2 HB2.out
          have C3 := Lib.hid (place_is a len cap l g p false HP.out H3.out w2 (HX.out.keep HB2.out) H1.out)
          go_wp2_with fail
          refine C3.out.mono ?_
          rintro e w3 ⟨rfl, hb3⟩
          have HB3 := Lib.hid (below_keep HB2.out hb3 HB2.out.size)
          clear hb3
          obtain ⟨s0, s1, s2⟩ := HC.out w3 HB3.out
          clear q0 q1 q2 r0 r1 r2 C1 C2 C3
          go_wp2_with fail
          refine wp_region_any (by kernel_rfl) ?_
          change wpAny _ _ _ _ _ _ _ (World.drew _)
          refine wpAny_take (i := 0) (v := ?_) rfl (by kernel_rfl) (by kernel_rfl) (by kernel_rfl) (fun _ _ _ h => h) (Or.inl ⟨by kernel_rfl, ?_⟩) ?_; rotate_left; focus ((intro w'); go_simp; (try with_reducible rfl))
          refine wpAny_take (i := 1) (v := ?_) rfl (by kernel_rfl) (by kernel_rfl) (by kernel_rfl) (fun _ _ _ h => h) (Or.inl ⟨by kernel_rfl, ?_⟩) ?_; rotate_left; focus ((intro w'); go_simp; (try with_reducible rfl))
          refine wpAny_take (i := 2) (v := ?_) rfl (by kernel_rfl) (by kernel_rfl) (by kernel_rfl) (fun _ _ _ h => h) (Or.inl ⟨by kernel_rfl, ?_⟩) ?_; rotate_left; focus ((intro w'); go_simp; (try with_reducible rfl))
          refine wpAny_take (i := 3) (v := ?_) rfl (by kernel_rfl) (by kernel_rfl) (by kernel_rfl) (fun _ _ _ h => h) (Or.inl ⟨by kernel_rfl, ?_⟩) ?_; rotate_left; focus ((intro w'); go_simp; (try with_reducible rfl))
          refine wpAny_take (i := 7) (v := ?_) rfl (by kernel_rfl) (by kernel_rfl) (by kernel_rfl) (fun _ _ _ h => h) (Or.inl ⟨by kernel_rfl, ?_⟩) ?_; rotate_left; focus ((intro w'); go_simp; (try with_reducible rfl))
          refine wpAny_take (i := 8) (v := ?_) rfl (by kernel_rfl) (by kernel_rfl) (by kernel_rfl) (fun _ _ _ h => h) (Or.inl ⟨by kernel_rfl, ?_⟩) ?_; rotate_left; focus ((intro w'); go_simp; (try with_reducible rfl))
          have hA2 := HA2.out
          refine wpAny_take (i := 9) (v := ?_) rfl (by kernel_rfl) (by kernel_rfl) (by kernel_rfl) (fun _ _ _ h => h) (Or.inl ⟨by kernel_rfl, ?_⟩) ?_; rotate_left; focus ((intro w'); go_simp; (try with_reducible rfl))
          clear hA2
          refine Mix.wpAny_of_seqV [4, 5, 6, 10, 11, 12, 13] _ _ _ (by kernel_rfl) ?_
          simp only [Mix.pick, List.filterMap_cons, List.filterMap_nil, List.getElem?_cons_zero, List.getElem?_cons_succ]
          refine wpList_plain rfl fun K hK => ?_
          go_simp
          refine hK _ _ ?_
          clear hK K
          refine wpList_plain rfl fun K hK => ?_
          go_simp
          refine hK _ _ ?_
          clear hK K
          clear s0 s1 s2
          obtain ⟨zs, hzs, hZ⟩ := HX.out.keep HB3.out
          have HB4 : Hid (Below w.heap.size w (w3.drew.alloc (.cells #[.int .i64 g, .slice la n lc, .int .i64 t] 69))) := (below_keep HB.out (below_drewN HB3.out 1) HB.out.size).alloc (Nat.le_trans HB.out.size HB3.out.size) _
          have HK4 : Hid (Below w3.heap.size w3 (w3.drew.alloc (.cells #[.int .i64 g, .slice la n lc, .int .i64 t] 69))) := (below_drewN (Below.refl _ w3) 1).alloc (Nat.le_refl _) _
          have HZ4 := Lib.hid (hZ.keep HK4.out)
          have HL4 := Lib.hid ((HL.out.keep HB3.out).keep HK4.out)
          have HN4 : Hid (∀ j u, (hcells [((⟨g, ls, t⟩ : Hd), la, lc)])[j]? = some u → (w3.drew.alloc (.cells #[.int .i64 g, .slice la n lc, .int .i64 t] 69)).cell? ⟨w3.heap.size, 0 + j, none⟩ = some u) := by
            intro j u hu
            have hln := HL4.out.1
            subst hln
            have := cell_three_new w3.drew (.int .i64 g) (.slice la ls.length lc) (.int .i64 t) 69 j u (by simpa [hcells, hcell] using hu)
            rw [add_at] at this
            exact this
          have HZS := Lib.hid hzs
          clear hzs hZ
          refine append_part rfl (.tmp 28) (.tmp 30) rfl a p (zs.take p) [(⟨g, ls, t⟩, la, lc)] (some ⟨w3.heap.size, 0, none⟩) 1 1 rfl (part_take HZ4.out hpl) rfl ⟨rfl, .inr ⟨_, 0, rfl, by simp, HN4.out⟩⟩ (by omega) (by omega) ?_
          intro v5 w5 hown5 hg5
          have HB5 : Hid (Below w.heap.size w w5) := HB4.out.grown hg5 HB4.out.size (fun k hk => by cases hk)
          have HK5 : Hid (Below (w3.drew.alloc (.cells #[.int .i64 g, .slice la n lc, .int .i64 t] 69)).heap.size (w3.drew.alloc (.cells #[.int .i64 g, .slice la n lc, .int .i64 t] 69)) w5) := (Below.refl _ _).grown hg5 (Nat.le_refl _) (fun k hk => by cases hk)
          have HO5 := Lib.hid hown5
          clear hg5 hown5
          refine append_holds rfl (.tmp 31) (.tmp 34) rfl _ v5 (p + 1) _ (zs.drop p) A2 (len - p) (cap - p) rfl HO5.out rfl (part_drop (HZ4.out.keep HK5.out) hpl hc HA2.out) (by omega) HK5.out.size ?_
          intro v6 w6 hown6 hg6
          have HB6 : Hid (Below w.heap.size w w6) := HB5.out.grown hg6 HB5.out.size (fun k hk => Nat.le_trans HB4.out.size (HO5.out.lt k hk).1)
          have HK6 : Hid (Below (w3.drew.alloc (.cells #[.int .i64 g, .slice la n lc, .int .i64 t] 69)).heap.size (w3.drew.alloc (.cells #[.int .i64 g, .slice la n lc, .int .i64 t] 69)) w6) := HK5.out.grown hg6 HK5.out.size (fun k hk => (HO5.out.lt k hk).1)
          have hlz := HZ4.out.1
          have hzl : (zs.take p ++ [((⟨g, ls, t⟩ : Hd), la, lc)] ++ zs.drop p).length = p + 1 + (len - p) := by simp [hlz]; omega
          have hll : ∀ z ∈ zs.take p ++ [((⟨g, ls, t⟩ : Hd), la, lc)] ++ zs.drop p, LsAt w6 z.2.1 z.1.ls.length z.1.ls := by
            intro z hz
            rcases List.mem_append.1 hz with hz | hz
            · rcases List.mem_append.1 hz with hz | hz
              · exact (HZ4.out.2.2.1 z (List.mem_of_mem_take hz)).keep HK6.out
              · rw [List.mem_singleton.1 hz]
                have := HL4.out.keep HK6.out
                have hln := HL4.out.1
                subst hln
                exact this
            · exact (HZ4.out.2.2.1 z (List.mem_of_mem_drop hz)).keep HK6.out
          obtain ⟨a6, c6, rfl, hz6⟩ := hz_of hown6 hzl (by omega) hll
          have hhs : hs (zs.take p ++ [((⟨g, ls, t⟩ : Hd), la, lc)] ++ zs.drop p) = l.take p ++ ⟨g, ls, t⟩ :: l.drop p := by
            rw [hs_append, hs_append, hs_take, hs_drop, HZS.out, List.append_assoc]; rfl
          obtain ⟨m, hm⟩ : ∃ m, p + 1 + (len - p) = m := ⟨_, rfl⟩
          have hm17 : m ≤ 17 := by omega
          rw [hm] at hz6 hzl ⊢
          have C4 := Lib.hid (copies_any a6 m c6 (l.take p ++ ⟨g, ls, t⟩ :: l.drop p) w6 ⟨_, hhs, hz6⟩ (by omega) (by
            intro x hx
            rcases List.mem_append.1 hx with hx | hx
            · exact HS.out x (List.mem_of_mem_take hx)
            · rcases List.mem_cons.1 hx with rfl | hx
              · show ls.length ≤ _; rw [HL.out.1]; exact hn
              · exact HS.out x (List.mem_of_mem_drop hx)))
          have HM : Hid ((l.take p ++ (⟨g, ls, t⟩ : Hd) :: l.drop p).length = m) := by show _ = m; rw [← hzl, ← hhs, hs_len]
          clear hz6 hzl hhs hll hown6 hg6 hm hlz
          go_wp2_with fail
          refine C4.out.mono ?_
          rintro e w7 ⟨a7, c7, rfl, hc7, hz7, hb7⟩
          rw [HM.out] at hz7 hc7
          rw [HM.out]
          have HB7 := Lib.hid (below_keep HB6.out hb7 HB6.out.size)
          have HE : Hid (TurnC w r (.returned (.tuple #[.slice a7 m c7, .int .i64 0])) w7) := turn_okc HR.out HM.out hc7 hz7 HB7.out
          clear hz7 hb7 hc7
          go_wp2_with fail
          go_ret2
          exact HE.out
    | false =>
      have HR : Hid (r = ([], 1)) := by show r = _; rw [← hr]; unfold putH; rw [if_pos h1, h2, if_neg (by decide)]
      have H2 := Lib.hid h2
      clear hr h1 h2
      go_enter Tryz.func90, Tryz.ntmps90
      go_wp2_with fail
      rw [show w.alloc (.cells #[.int .i64 g, .slice la n lc, .int .i64 t] 69) = W from HW.out]
      refine C1.out.mono ?_
      rintro e w1 ⟨rfl, hb1⟩
      have HB1 := Lib.hid hb1
      obtain ⟨q0, q1, q2⟩ := HC.out w1 hb1
      have C2 := Lib.hid (possible_is g t la n lc ls false H2.out w1 (HL.out.keep hb1) HZ2.out)
      clear hb1
      go_wp2_with fail
      refine C2.out.mono ?_
      rintro e w2 ⟨rfl, hb2⟩
      have HE := Lib.hid (turn_errc (r := r) HR.out (below_keep HB.out (below_keep HB1.out hb2 HB1.out.size) HB.out.size))
      clear hb2
      go_wp2_with fail
      go_ret2
      exact HE.out
  · have C1 := Lib.hid (fit_is a len cap l false (by simpa using h1) W HX.out HZ.out)
    have HR : Hid (r = ([], 12)) := by show r = _; rw [← hr]; unfold putH; rw [if_neg h1]
    clear hr h1
    go_enter Tryz.func90, Tryz.ntmps90
    go_wp2_with fail
    rw [show w.alloc (.cells #[.int .i64 g, .slice la n lc, .int .i64 t] 69) = W from HW.out]
    refine C1.out.mono ?_
    rintro e w1 ⟨rfl, hb1⟩
    have HE := Lib.hid (turn_errc (r := r) HR.out (below_keep HB.out hb1 HB.out.size))
    clear hb1
    go_wp2_with fail
    go_ret2
    exact HE.out
end Go.Proofs.YtjclkiabgemfpaaGreat.Holds

/-
  The contract of the program's Drop: any holds; what was there stays as it was.
-/
set_option linter.unusedVariables false
set_option maxRecDepth 4000
set_option maxRecDepth 4000
namespace Go.Proofs.YtjclkiabgemfpaaGreat.Holds
open Go.RowKit LinesP HoldsP
open Go.Proofs.YtjclkiabgemfpaaGreat.Lines (LsAt Sz SzM ret_bool ret_int below_keep below_drewN lcells info_line owns_below owns_cell owns_form ls_of lcells_get own_cap)

theorem less_pos {l : List Hd} {g : Int} {p : Nat} (hf : fitH l = true) (hp : pos g l = p) (h1 : p < l.length) (h2 : (l.getD p hd0).saga = g) : less g l = l.take p ++ l.drop (p + 1) := by
  have hpw := (fitH_iff.1 hf).2.2
  have hx : l.drop p = l.getD p hd0 :: l.drop (p + 1) := drop_at h1 rfl
  have e : less g l = less g (l.take p ++ l.drop p) := by rw [List.take_append_drop]
  rw [e]
  have hd : (l.drop p).Pairwise (fun x y => x.saga < y.saga) := hpw.sublist (List.drop_sublist _ _)
  rw [hx] at hd ⊢
  have hd2 := (List.pairwise_cons.1 hd).1
  unfold less
  rw [List.filter_append, List.filter_cons]
  have e1 := less_all (g := g) (l := l.take p) fun x hx => by have := pos_take (g := g) (l := l) x (by rw [hp]; exact hx); omega
  have e2 := less_all (g := g) (l := l.drop (p + 1)) fun x hx => by have := hd2 x hx; omega
  unfold less at e1 e2
  rw [e1, e2, h2]
  simp
theorem less_drop_q {l : List Hd} {g : Int} {p q : Nat} (hf : fitH l = true) (hp : pos g l = p) (hs : (findH g l).isSome = true) (hq : p + 1 = q) : p < l.length ∧ less g l = l.take p ++ l.drop q := by
  have h := find_pos (g := g) (fitH_iff.1 hf).2.2
  rw [hp] at h
  by_cases hc : p < l.length ∧ (l.getD p hd0).saga = g
  · exact ⟨hc.1, by rw [← hq]; exact less_pos hf hp hc.1 hc.2⟩
  · rw [if_neg hc] at h; rw [h] at hs; cases hs
theorem hz_take {w : World} {a : Option Addr} {len p : Nat} {zs : List Hz} (h : HzAt w a len zs) (hp : p ≤ len) : HzAt w a p (zs.take p) := by
  refine ⟨by rw [List.length_take, h.1]; omega, by have := h.2.1; omega, fun z hz => h.2.2.1 z (List.mem_of_mem_take hz), ?_⟩
  by_cases h0 : p = 0
  · exact .inl h0
  rcases h.2.2.2 with h1 | ⟨b, off, e, hlt, hc⟩
  · omega
  · refine .inr ⟨b, off, e, hlt, fun i hi => ?_⟩
    have e2 : (zs.take p).getD i hz0 = zs.getD i hz0 := by simp [List.getD, hi]
    rw [e2]
    exact hc i (by omega)
set_option maxHeartbeats 2000000 in
theorem drop_any (a : Option Addr) (len cap : Nat) (l : List Hd) (g : Int) (w : World) (h : HsAt w a len l) (hc : len ≤ cap) (hz : SzH l) (hs : ∀ x ∈ l, x.ls.length ≤ 1000000) :
    Calls Tryz.prog 93 #[.slice a len cap, .int .i64 g] w (TurnC w (dropH l g)) := by
  obtain ⟨r, hr⟩ : ∃ r, dropH l g = r := ⟨_, rfl⟩
  rw [hr]
  have hle := h.le
  have HX := Lib.hid h
  have HZ := Lib.hid hz; have HS := Lib.hid hs
  clear h hz hs
  by_cases h1 : fitH l = true
  · have C1 := Lib.hid (fit_is a len cap l true h1 w HX.out HZ.out)
    have H1 := Lib.hid h1
    obtain ⟨p, hp⟩ : ∃ p, pos g l = p := ⟨_, rfl⟩
    have HP := Lib.hid hp
    cases h3 : (findH g l).isSome with
    | true =>
      obtain ⟨q, hq⟩ : ∃ q, p + 1 = q := ⟨_, rfl⟩
      obtain ⟨hpl, hless⟩ := less_drop_q h1 hp h3 hq
      have HR : Hid (r = (l.take p ++ l.drop q, 0)) := by
        show r = _; rw [← hr]; unfold dropH; rw [if_pos h1, if_pos h3, hless]
      have hlen := HX.out.len
      have h16 : len ≤ 16 := by rw [← hlen]; exact (fitH_iff.1 h1).1
      rw [hlen] at hpl
      obtain ⟨A2, hA2⟩ : ∃ A2, (if cap = q then a else Option.map (fun x => x.add (q * 3)) a) = A2 := ⟨_, rfl⟩
      have HA2 := Lib.hid hA2
      obtain ⟨d, hd⟩ : ∃ d, len - q = d := ⟨_, rfl⟩
      have HD := Lib.hid hd
      obtain ⟨cq, hcq⟩ : ∃ cq, cap - q = cq := ⟨_, rfl⟩
      have HCQ := Lib.hid hcq
      have hpc : p ≤ cap := by omega
      have hqc : q ≤ cap := by omega
      have hql : q ≤ len := by omega
      have hpq : (p : Int) + 1 = (q : Int) := by omega
      have hpw : IntKind.i64.wrap (q : Int) = (q : Int) := by rw [IntWalk.i64_in] <;> omega
      have HQ := Lib.hid hq
      have H3 := Lib.hid h3
      clear hr h1 h3 hp hq hless hlen hA2 hd hcq
      go_enter Tryz.func93, Tryz.ntmps93
      go_wp2_with fail
      refine C1.out.mono ?_
      rintro e w1 ⟨rfl, hb1⟩
      have HB1 := Lib.hid hb1
      have C3 := Lib.hid (place_is a len cap l g p true HP.out H3.out w1 (HX.out.keep hb1) H1.out)
      clear hb1
      go_wp2_with fail
      refine C3.out.mono ?_
      rintro e w2 ⟨rfl, hb2⟩
      have HB2 := Lib.hid (below_keep HB1.out hb2 HB1.out.size)
      clear hb2 C1 C3
      go_wp2_with fail
      refine wp_region_any (by kernel_rfl) ?_
      change wpAny _ _ _ _ _ _ _ (World.drew _)
      refine wpAny_take (i := 0) (v := ?_) rfl (by kernel_rfl) (by kernel_rfl) (by kernel_rfl) (fun _ _ _ h => h) (Or.inl ⟨by kernel_rfl, ?_⟩) ?_; rotate_left; focus ((intro w'); go_simp; (try with_reducible rfl))
      refine wpAny_take (i := 1) (v := ?_) rfl (by kernel_rfl) (by kernel_rfl) (by kernel_rfl) (fun _ _ _ h => h) (Or.inl ⟨by kernel_rfl, ?_⟩) ?_; rotate_left; focus ((intro w'); go_simp; (try with_reducible rfl))
      refine wpAny_take (i := 2) (v := ?_) rfl (by kernel_rfl) (by kernel_rfl) (by kernel_rfl) (fun _ _ _ h => h) (Or.inl ⟨by kernel_rfl, ?_⟩) ?_; rotate_left; focus ((intro w'); go_simp; (try with_reducible rfl))
      refine wpAny_take (i := 3) (v := ?_) rfl (by kernel_rfl) (by kernel_rfl) (by kernel_rfl) (fun _ _ _ h => h) (Or.inl ⟨by kernel_rfl, ?_⟩) ?_; rotate_left; focus ((intro w'); go_simp; (try with_reducible rfl))
      refine wpAny_take (i := 4) (v := ?_) rfl (by kernel_rfl) (by kernel_rfl) (by kernel_rfl) (fun _ _ _ h => h) (Or.inl ⟨by kernel_rfl, ?_⟩) ?_; rotate_left; focus ((intro w'); go_simp; (try with_reducible rfl))
      refine wpAny_take (i := 5) (v := ?_) rfl (by kernel_rfl) (by kernel_rfl) (by kernel_rfl) (fun _ _ _ h => h) (Or.inl ⟨by kernel_rfl, ?_⟩) ?_; rotate_left; focus ((intro w'); go_simp; (try with_reducible rfl))
      refine wpAny_take (i := 6) (v := ?_) rfl (by kernel_rfl) (by kernel_rfl) (by kernel_rfl) (fun _ _ _ h => h) (Or.inl ⟨by kernel_rfl, ?_⟩) ?_; rotate_left; focus ((intro w'); go_simp; (try with_reducible rfl))
      refine Mix.wpAny_of_seqV [7, 8, 9, 10, 11] _ _ _ (by kernel_rfl) ?_
      simp only [Mix.pick, List.filterMap_cons, List.filterMap_nil, List.getElem?_cons_zero, List.getElem?_cons_succ]
      have hA2 := HA2.out; have hd := HD.out; have hcq := HCQ.out
      refine wpList_plain rfl fun K hK => ?_
      go_simp
      refine hK _ _ ?_
      clear hK K
      clear hA2 hcq hpq hpw
      obtain ⟨zs, hzs, hZ⟩ := HX.out.keep HB2.out
      have HZ2 := Lib.hid (hZ.keep (below_drewN (Below.refl _ w2) 1))
      have HB6 := Lib.hid (below_drewN HB2.out 1)
      have HK0 : Hid (RowH w2.drew A2 d (zs.drop q)) := by show RowH _ _ _ _; rw [← hd]; exact part_drop HZ2.out hql hc HA2.out
      have HZS := Lib.hid hzs
      clear hzs hZ
      obtain ⟨w6, hw6⟩ : ∃ w6, w2.drew = w6 := ⟨_, rfl⟩
      have HZ6 : Hid (HzAt w6 a len zs) := by show HzAt _ _ _ _; rw [← hw6]; exact HZ2.out
      have HB6 : Hid (Below w.heap.size w w6) := by show Below _ _ _; rw [← hw6]; exact HB6.out
      have HK6 : Hid (RowH w6 A2 d (zs.drop q)) := by show RowH _ _ _ _; rw [← hw6]; exact HK0.out
      rw [hw6]
      clear hw6 HZ2 HK0
      by_cases hlast : d = 0
      · subst hlast
        obtain ⟨i0, hi, hz0, hz1, hz2⟩ := info_parts info_hold
        refine append_nothing rfl (.tmp 22) (.tmp 26) 23 69 rfl i0 Tryz.underlying23 hi a p p (Nat.le_refl _) rfl A2 cq rfl ?_
        clear hi hz0 hz1 hz2
        obtain ⟨a6, ha6⟩ : ∃ a6, a = a6 := ⟨_, rfl⟩
        obtain ⟨m, hm⟩ : ∃ m, p = m := ⟨_, rfl⟩
        obtain ⟨c6, hc6⟩ : ∃ c6, p = c6 := ⟨_, rfl⟩
        have hz6 : HsAt w6 a p (l.take p ++ l.drop q) := ⟨zs.take p, by
          rw [hs_take, HZS.out, List.drop_eq_nil_of_le (by have := HX.out.len; omega), List.append_nil], hz_take HZ6.out (by omega)⟩
        have C4 := Lib.hid (copies_any a p p (l.take p ++ l.drop q) w6 hz6 (by omega) (by
          intro x hx
          rcases List.mem_append.1 hx with hx | hx
          · exact HS.out x (List.mem_of_mem_take hx)
          · exact HS.out x (List.mem_of_mem_drop hx)))
        have HM : Hid ((l.take p ++ l.drop q).length = p) := hz6.len
        clear hz6 ha6 hm hc6 hd
        go_wp2_with fail
        refine C4.out.mono ?_
        rintro e w7 ⟨a7, c7, rfl, hc7, hz7, hb7⟩
        rw [HM.out] at hz7 hc7
        rw [HM.out]
        have HB7 := Lib.hid (below_keep HB6.out hb7 HB6.out.size)
        have HE : Hid (TurnC w r (.returned (.tuple #[.slice a7 p c7, .int .i64 0])) w7) := turn_okc HR.out HM.out hc7 hz7 HB7.out
        clear hz7 hb7 hc7
        go_wp2_with fail
        go_ret2
        exact HE.out
      · refine append_part rfl (.tmp 22) (.tmp 26) rfl a p (zs.take p) (zs.drop q) A2 d cq rfl (part_take HZ6.out (by omega)) rfl HK6.out (by omega) (by omega) ?_
        intro v5 w5 hown5 hg5
        have HB5 : Hid (Below w.heap.size w w5) := HB6.out.grown hg5 HB6.out.size (fun k hk => by cases hk)
        have HK5 : Hid (Below w6.heap.size w6 w5) := (Below.refl _ _).grown hg5 (Nat.le_refl _) (fun k hk => by cases hk)
        have hlz := HZ6.out.1
        have hzl : (zs.take p ++ zs.drop q).length = p + d := by simp [hlz]; omega
        have hll : ∀ z ∈ zs.take p ++ zs.drop q, LsAt w5 z.2.1 z.1.ls.length z.1.ls := by
          intro z hz
          rcases List.mem_append.1 hz with hz | hz
          · exact (HZ6.out.2.2.1 z (List.mem_of_mem_take hz)).keep HK5.out
          · exact (HZ6.out.2.2.1 z (List.mem_of_mem_drop hz)).keep HK5.out
        obtain ⟨a6, c6, rfl, hz6⟩ := hz_of hown5 hzl (by omega) hll
        obtain ⟨m, hm⟩ : ∃ m, p + d = m := ⟨_, rfl⟩
        have hm17 : m ≤ 17 := by have := HD.out; have := HQ.out; omega
        rw [hm] at hz6 ⊢
        have hz6 : HsAt w5 a6 m (l.take p ++ l.drop q) := ⟨_, by rw [hs_append, hs_take, hs_drop, HZS.out], hz6⟩
        clear hzl hll hown5 hg5 hm hlz hd
        have C4 := Lib.hid (copies_any a6 m c6 (l.take p ++ l.drop q) w5 hz6 (by omega) (by
          intro x hx
          rcases List.mem_append.1 hx with hx | hx
          · exact HS.out x (List.mem_of_mem_take hx)
          · exact HS.out x (List.mem_of_mem_drop hx)))
        have HM : Hid ((l.take p ++ l.drop q).length = m) := hz6.len
        clear hz6
        go_wp2_with fail
        refine C4.out.mono ?_
        rintro e w7 ⟨a7, c7, rfl, hc7, hz7, hb7⟩
        rw [HM.out] at hz7 hc7
        rw [HM.out]
        have HB7 := Lib.hid (below_keep HB5.out hb7 HB5.out.size)
        have HE : Hid (TurnC w r (.returned (.tuple #[.slice a7 m c7, .int .i64 0])) w7) := turn_okc HR.out HM.out hc7 hz7 HB7.out
        clear hz7 hb7 hc7
        go_wp2_with fail
        go_ret2
        exact HE.out
    | false =>
      have HR : Hid (r = ([], 2)) := by show r = _; rw [← hr]; unfold dropH; rw [if_pos h1]; show (if (findH g l).isSome = true then _ else _) = _; rw [h3, if_neg (by decide)]
      have H3 := Lib.hid h3
      clear hr h1 h3 hp
      go_enter Tryz.func93, Tryz.ntmps93
      go_wp2_with fail
      refine C1.out.mono ?_
      rintro e w1 ⟨rfl, hb1⟩
      have HB1 := Lib.hid hb1
      have C3 := Lib.hid (place_is a len cap l g p false HP.out H3.out w1 (HX.out.keep hb1) H1.out)
      clear hb1
      go_wp2_with fail
      refine C3.out.mono ?_
      rintro e w2 ⟨rfl, hb2⟩
      have HE := Lib.hid (turn_errc (r := r) HR.out (below_keep HB1.out hb2 HB1.out.size))
      clear hb2
      go_wp2_with fail
      go_ret2
      exact HE.out
  · have C1 := Lib.hid (fit_is a len cap l false (by simpa using h1) w HX.out HZ.out)
    have HR : Hid (r = ([], 12)) := by show r = _; rw [← hr]; unfold dropH; rw [if_neg h1]
    clear hr h1
    go_enter Tryz.func93, Tryz.ntmps93
    go_wp2_with fail
    refine C1.out.mono ?_
    rintro e w1 ⟨rfl, hb1⟩
    have HE := Lib.hid (turn_errc (r := r) HR.out hb1)
    clear hb1
    go_wp2_with fail
    go_ret2
    exact HE.out
end Go.Proofs.YtjclkiabgemfpaaGreat.Holds

/-
  The contract of the document's Put: any holds; what was there stays as it was.
-/
set_option linter.unusedVariables false
set_option maxRecDepth 4000
set_option maxRecDepth 4000
namespace Go.Proofs.YtjclkiabgemfpaaGreat.Holds
open Go.RowKit LinesP HoldsP
open Go.Proofs.YtjclkiabgemfpaaGreat.Lines (LsAt Sz SzM ret_bool ret_int below_keep below_drewN lcells info_line owns_below owns_cell owns_form ls_of lcells_get own_cap)

theorem rfit_is (a : Option Addr) (len cap : Nat) (l : List Hd) (b : Bool) (hb : fitH l = b) (w : World) (h : HsAt w a len l) (hz : SzH l) :
    Calls Tryz.prog 39 #[.slice a len cap] w fun e w' => e = .returned (.bool b) ∧ Below w.heap.size w w' := by
  have := rfit_any a len cap l w h hz
  rw [hb] at this
  exact this
theorem rfind_b (a : Option Addr) (len cap : Nat) (l : List Hd) (g0 : Int) (b : Bool) (hb : (findH g0 l).isSome = b) (w : World) (h : HsAt w a len l) :
    Calls Tryz.prog 67 #[.slice a len cap, .int .i64 g0] w fun e w' => ∃ g' t' a' n' c', e = .returned (.tuple #[.agg #[.int .i64 g', .slice a' n' c', .int .i64 t'], .bool b]) ∧ Below w.heap.size w w' := by
  refine (rfind_any a len cap l g0 w h).mono ?_
  rintro e w' ⟨a', c', rfl, _, hb'⟩
  exact ⟨_, _, _, _, _, by rw [hb], hb'⟩
end Go.Proofs.YtjclkiabgemfpaaGreat.Holds

/-
  The contracts of Total and Due (both): any holds; what was there stays as it was.
-/
set_option linter.unusedVariables false
set_option maxRecDepth 4000
set_option maxRecDepth 4000
namespace Go.Proofs.YtjclkiabgemfpaaGreat.Holds
open Go.RowKit LinesP HoldsP
open Go.Proofs.YtjclkiabgemfpaaGreat.Lines (LsAt Sz SzM ret_bool ret_int below_keep below_drewN)

theorem ofL_bound (s : ByteArray) : ∀ {l : List Ln}, (∀ x ∈ l, 1 ≤ x.2 ∧ x.2 ≤ 1048576) → 0 ≤ ofL s l ∧ ofL s l ≤ 1048576
  | [], _ => by simp [ofL]
  | x :: r, h => by
    rw [ofL]
    have h1 := h x List.mem_cons_self
    have h2 := ofL_bound s (l := r) fun y hy => h y (List.mem_cons_of_mem _ hy)
    split <;> omega
theorem ofL_fit {s : ByteArray} {l : List Ln} (h : fitL l = true) : 0 ≤ ofL s l ∧ ofL s l ≤ 1048576 :=
  ofL_bound s fun x hx => qty_iff.1 (fitL_mem h x hx).2
theorem sumH_bound (s : ByteArray) : ∀ {l : List Hd}, (∀ x ∈ l, oneH x = true) → 0 ≤ sumH s l ∧ sumH s l ≤ (l.length : Int) * 1048576
  | [], _ => by simp [sumH]
  | x :: r, h => by
    rw [sumH, List.length_cons]
    have h1 := ofL_fit (s := s) (oneH_fit (h x List.mem_cons_self))
    have h2 := sumH_bound s (l := r) fun y hy => h y (List.mem_cons_of_mem _ hy)
    omega
theorem sumH_take {s : ByteArray} {l : List Hd} (hf : fitH l = true) (k : Nat) : 0 ≤ sumH s (l.take k) ∧ sumH s (l.take k) ≤ 16777216 := by
  obtain ⟨h1, h2, _⟩ := fitH_iff.1 hf
  have h := sumH_bound s (l := l.take k) fun x hx => (h2 x (List.mem_of_mem_take hx)).1
  have hl : (l.take k).length ≤ 16 := by rw [List.length_take]; omega
  have : ((l.take k).length : Int) ≤ 16 := by omega
  omega
theorem sumH_step {s : ByteArray} {l : List Hd} {k : Nat} {x : Hd} (hk : k < l.length) (hx : l.getD k hd0 = x) : sumH s (l.take (k + 1)) = sumH s (l.take k) + ofL s x.ls := by
  rw [take_snocH hk hx, sum_append, sumH, sumH, Int.add_zero]
theorem rof_is (la : Option Addr) (n lc : Nat) (ls : List Ln) (s : ByteArray) (v : Int) (hv : ofL s ls = v) (w : World) (h : LsAt w la n ls) :
    Calls Tryz.prog 77 #[.slice la n lc, .string s] w fun e w' => e = .returned (.int .i64 v) ∧ Below w.heap.size w w' := by
  have := Lines.rof_any la n lc ls s w h
  rw [hv] at this
  exact this
set_option maxHeartbeats 1000000 in
theorem rtotal_any (a : Option Addr) (len cap : Nat) (l : List Hd) (s : ByteArray) (w : World) (h : HsAt w a len l) (hz : SzH l) :
    Calls Tryz.prog 41 #[.slice a len cap, .string s] w fun e w' => e = .returned (.int .i64 (totH l s)) ∧ Below w.heap.size w w' := by
  obtain ⟨v, hv⟩ : ∃ v, totH l s = v := ⟨_, rfl⟩
  rw [hv]
  have hl := h.le
  by_cases h0 : len = 0
  · have HD : Hid (v = 0) := by
      show v = 0
      rw [← hv, List.eq_nil_of_length_eq_zero (h.len.trans h0)]; rfl
    subst h0
    clear hv h hz
    go_enter Tryz.func41, Tryz.ntmps41
    go_wp2_with fail
    go_loopw [5, 6] (fun t i wr => t = .int .i64 0 ∧ i = .int .i64 0 ∧ Hid (Below w.heap.size w wr)) (fun _ i _ => 0)
    case atStart => exact ⟨rfl, rfl, Below.refl _ w⟩
    case round =>
      obtain ⟨rfl, rfl, hB⟩ := hrel
      go_wp2_with fail
      go_ret
      exact ⟨ret_int HD.out, hB.out⟩
  cases hf : fitH l with
  | false =>
    have C := Lib.hid (fun w' (hb : Below w.heap.size w w') => rfit_is a len cap l false hf w' (h.keep hb) hz)
    have HD : Hid (v = 0) := by show v = 0; rw [← hv]; unfold totH; rw [hf]; rfl
    clear hv h hz hf
    have hlt : (0 : Int) < (len : Int) := by omega
    go_enter Tryz.func41, Tryz.ntmps41
    go_wp2_with fail
    go_loopw [5, 6] (fun t i wr => t = .int .i64 0 ∧ i = .int .i64 0 ∧ Hid (Below w.heap.size w wr)) (fun _ i _ => 0)
    case atStart => exact ⟨rfl, rfl, Below.refl _ w⟩
    case round =>
      obtain ⟨rfl, rfl, hB⟩ := hrel
      go_wp2_with fail
      refine (C.out wr hB.out).mono ?_
      rintro e w1 ⟨rfl, hb⟩
      have HB1 := Lib.hid (below_keep hB.out hb hB.out.size)
      clear hb
      go_wp2_with fail
      go_ret
      exact ⟨ret_int HD.out, HB1.out⟩
  | true =>
    have C := Lib.hid (fun w' (hb : Below w.heap.size w w') => rfit_is a len cap l true hf w' (h.keep hb) hz)
    have HD : Hid (v = sumH s l) := by show v = sumH s l; rw [← hv]; unfold totH; rw [hf]; rfl
    have HF := Lib.hid (fun k => sumH_take (s := s) hf k)
    have HX := Lib.hid h
    clear hv h hz hf
    go_enter Tryz.func41, Tryz.ntmps41
    go_wp2_with fail
    go_loopw [5, 6] (fun t i wr => ∃ k : Nat, k ≤ len ∧ i = .int .i64 (k : Int) ∧ t = .int .i64 (sumH s (l.take k)) ∧ Hid (Below w.heap.size w wr)) (fun _ i _ => len - (intOf i).toNat)
    case atStart => exact ⟨0, Nat.zero_le _, rfl, rfl, Below.refl _ w⟩
    case round =>
      obtain ⟨k, hk, rfl, rfl, hB⟩ := hrel
      by_cases hlk : k < len
      · have hC := Lib.hid (C.out wr hB.out)
        have hkx : k < l.length := by rw [HX.out.len]; exact hlk
        obtain ⟨b1, o1, g, la, lc, ls, t, rfl, g1, hp, hc1⟩ := HX.out.at hlk
        have HC1 := Lib.hid hc1
        have hstep := sumH_step (s := s) hkx hp
        obtain ⟨m, hm⟩ : ∃ m, ofL s ls = m := ⟨_, rfl⟩
        have HM := Lib.hid hm
        have hf1 := HF.out k
        have hf2 := HF.out (k + 1)
        rw [hstep] at hf2
        simp only [hm] at hf2 hstep
        obtain ⟨u, hu⟩ : ∃ u, sumH s (l.take k) = u := ⟨_, rfl⟩
        rw [hu] at hf1 hf2 hstep ⊢
        have HST := Lib.hid hstep
        have hw : IntKind.i64.wrap (u + m) = u + m := by rw [IntWalk.i64_in] <;> omega
        obtain ⟨n, hn⟩ : ∃ n, ls.length = n := ⟨_, rfl⟩
        have HN := Lib.hid hn
        clear hc1 g1 hp hkx hstep hu hm hn
        go_wp2_with fail
        refine hC.out.mono ?_
        rintro e w1 ⟨rfl, hb⟩
        have HB1 := Lib.hid (below_keep hB.out hb hB.out.size)
        obtain ⟨d1, d2, d3, dL⟩ := HC1.out w1 HB1.out
        rw [HN.out] at d2 dL
        have C2 := Lib.hid (rof_is la n lc ls s m HM.out w1 dL)
        clear hb dL
        go_wp2_with fail
        refine C2.out.mono ?_
        rintro e w3 ⟨rfl, hb⟩
        have HB3 := Lib.hid (below_keep HB1.out hb HB1.out.size)
        clear hb
        go_wp2_with fail
        go_roundw
        case rel => exact ⟨k + 1, by omega, by go_num, by rw [HST.out], HB3⟩
        case measure => simp [intOf]; omega
      · obtain rfl : k = len := by omega
        have ht : v = sumH s (l.take k) := by rw [HD.out, List.take_of_length_le (Nat.le_of_eq HX.out.len)]
        have HT := Lib.hid ht
        clear ht
        generalize sumH s (l.take k) = t at *
        go_wp2_with fail
        go_ret
        exact ⟨ret_int HT.out, hB.out⟩
/-! ### Due -/
end Go.Proofs.YtjclkiabgemfpaaGreat.Holds
