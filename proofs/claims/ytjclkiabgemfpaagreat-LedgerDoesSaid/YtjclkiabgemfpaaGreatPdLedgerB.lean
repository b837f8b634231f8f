/-
  The contracts of slices.Clone (items, holds, lines), of replace and of copies: any items, any holds; what was there stays as it was.
-/
import Derived.Test.YtjclkiabgemfpaaGreatPdLedgerA
import Derived.Lib.SliceRun
import Derived.Laws.OwnMore
set_option linter.unusedVariables false
set_option maxRecDepth 4000
namespace Go.Proofs.YtjclkiabgemfpaaGreat.Ledger
open Go.RowKit LinesP HoldsP LedgerP
open StockP (Sk sk0 fitS Fit fitS_iff)
open Go.Proofs.YtjclkiabgemfpaaGreat.Lines (LsAt Sz SzM ret_bool ret_int below_keep below_drewN owns_form owns_cell owns_below lcells lcells_get info_line)
open Go.Proofs.YtjclkiabgemfpaaGreat.Holds (HsAt HzAt Hz hz0 hs SzH hmf hcells hcells_len hcells_one hcells_at hcell hz_of info_hold append_nothing add_at owns_base lcells_at lcells_len lcells_one ls_keepB ls_own owns_room MadeP hs_len hs_get)

theorem info_sku : (Tryz.prog.info? 41).map (fun i => (i.zero, i.size, i.bytes)) = some (some (.agg #[.string ⟨#[]⟩, .int .i64 0, .int .i64 0, .int .i64 0, .int .i64 0, .int .i64 0]), 6, 56) := by kernel_rfl
def CloneP (w : World) (e : TypeId) (size n : Nat) (cs : List Value) (z : Ending) (w' : World) : Prop :=
  ∃ a c, z = .returned (.slice a n c) ∧ w'.ownsRow w.heap.size e size (.slice a n c) n cs ∧ Below w.heap.size w w'

set_option maxHeartbeats 1000000 in
theorem cloneS (a : Option Addr) (len cap : Nat) (l : List Sk) (w : World) (h : SkAt w a len l) (hb : len ≤ 1000000) :
    Calls Tryz.prog 48 #[.slice a len cap] w (CloneP w 41 6 len (scells l)) := by
  have q : ∀ (w : World) (a : Option Addr) (n c n' c' : Nat), (binOp .eql 22 (.slice a n c) (.slice none n' c')).run Tryz.prog w = .ok (.bool a.isNone) w := fun w a n c n' c' => Lib.run_eql_slice_nil w _ _ a n c n' c' Tryz.underlying22
  obtain ⟨i0, hi, hz0, hz1, hz2⟩ := info_parts info_sku
  have HL := Lib.hid h
  cases a with
  | none =>
    have h0 : len = 0 := by
      rcases h.2.2 with h0 | ⟨b, off, e, _⟩
      · exact h0
      · cases e
    subst h0
    have hnil : scells l = [] := List.eq_nil_of_length_eq_zero (by rw [scells_len]; rw [h.1])
    have HR : Hid (CloneP w 41 6 0 (scells l) (.returned (.slice none 0 0)) w) := ⟨none, 0, rfl, by rw [hnil]; exact World.ownsRow_nil _ _ _ _, Below.refl _ _⟩
    clear hnil h
    go_enter Tryz.func48, Tryz.ntmps48
    go_wp2_with fail
    go_ret
    exact HR.out
  | some ad =>
    by_cases h0 : len = 0
    · subst h0
      have hnil : scells l = [] := List.eq_nil_of_length_eq_zero (by rw [scells_len]; rw [h.1])
      have HR : Hid (CloneP w 41 6 0 (scells l) (.returned (.slice (some ⟨w.heap.size, 0, none⟩) 0 0)) (w.alloc (.cells #[] 41))) :=
        ⟨_, _, rfl, by rw [hnil]; exact World.ownsRow_made w #[] 0 (Nat.le_refl _) (Nat.zero_le _) rfl, (Below.refl _ w).alloc (Nat.le_refl _) _⟩
      clear hnil h
      go_enter Tryz.func48, Tryz.ntmps48
      go_wp2_with (at_builtin; refine append_nothing rfl _ _ 22 41 rfl i0 Tryz.underlying22 hi (some ⟨w.heap.size, 0, none⟩) 0 0 (Nat.le_refl _) rfl _ _ rfl ?_)
      go_wp2_with fail
      go_ret
      exact HR.out
    · rcases h.2.2 with h1 | ⟨b, off, e, hlt, hc⟩
      · exact absurd h1 h0
      cases e
      have hcl : (scells l).length = len * 6 := by rw [scells_len]; rw [h.1]
      have hat := scells_at h.1 hc
      have HAT := Lib.hid hat
      have HONE := Lib.hid (scells_one l)
      obtain ⟨cs, hcs⟩ : ∃ cs, scells l = cs := ⟨_, rfl⟩
      rw [hcs] at hcl HAT HONE ⊢
      clear hat hcs hc h
      go_enter Tryz.func48, Tryz.ntmps48
      go_wp2_with (at_builtin; refine wpList_append_own _ rfl _ _ 22 rfl w.heap.size 41 i0 _ 6 56 Tryz.underlying22 hi hz0 hz1 hz2 rfl (by decide) _ _ _ rfl (World.ownsRow_made w #[] 0 (Nat.le_refl _) (Nat.zero_le _) rfl) ⟨b, off, none⟩ len cap cs rfl hcl ?qc2 HONE.out ?qc4 ?qc5 ?qc6 ?_)
      case qc2 => intro j u hj; rw [add_at]; exact Lib.cell?_alloc_some _ (HAT.out j u hj)
      case qc4 => unfold maxLen; omega
      case qc5 => omega
      case qc6 => simp
      intro v' w1 hown hgrow _
      have hf : ∃ a c, v' = .slice a len c := by
        rcases owns_form hown with ⟨rfl, h0'⟩ | ⟨g, c, rfl, _⟩
        · exact ⟨none, 0, by rw [h0']⟩
        · exact ⟨_, c, rfl⟩
      obtain ⟨a', c', rfl⟩ := hf
      have HB : Hid (Below w.heap.size w w1) := ((Below.refl _ w).alloc (Nat.le_refl _) _).grown hgrow (by simp) (by intro k hk; simp [Value.ownBlock] at hk; omega)
      have HO : Hid (w1.ownsRow w.heap.size 41 6 (.slice a' len c') len cs) := hown
      clear hown hgrow
      go_wp2_with fail
      go_ret
      exact ⟨a', c', rfl, HO.out, HB.out⟩
set_option maxHeartbeats 1000000 in
theorem cloneH (a : Option Addr) (len cap : Nat) (zs : List Hz) (w : World) (h : HzAt w a len zs) (hb : len ≤ 1000000) :
    Calls Tryz.prog 98 #[.slice a len cap] w (CloneP w 69 3 len (hcells zs)) := by
  have q : ∀ (w : World) (a : Option Addr) (n c n' c' : Nat), (binOp .eql 23 (.slice a n c) (.slice none n' c')).run Tryz.prog w = .ok (.bool a.isNone) w := fun w a n c n' c' => Lib.run_eql_slice_nil w _ _ a n c n' c' Tryz.underlying23
  obtain ⟨i0, hi, hz0, hz1, hz2⟩ := info_parts info_hold
  have HL := Lib.hid h
  cases a with
  | none =>
    have h0 : len = 0 := by
      rcases h.2.2.2 with h0 | ⟨b, off, e, _⟩
      · exact h0
      · cases e
    subst h0
    have hnil : hcells zs = [] := List.eq_nil_of_length_eq_zero (by rw [hcells_len]; rw [h.1])
    have HR : Hid (CloneP w 69 3 0 (hcells zs) (.returned (.slice none 0 0)) w) := ⟨none, 0, rfl, by rw [hnil]; exact World.ownsRow_nil _ _ _ _, Below.refl _ _⟩
    clear hnil h
    go_enter Tryz.func98, Tryz.ntmps98
    go_wp2_with fail
    go_ret
    exact HR.out
  | some ad =>
    by_cases h0 : len = 0
    · subst h0
      have hnil : hcells zs = [] := List.eq_nil_of_length_eq_zero (by rw [hcells_len]; rw [h.1])
      have HR : Hid (CloneP w 69 3 0 (hcells zs) (.returned (.slice (some ⟨w.heap.size, 0, none⟩) 0 0)) (w.alloc (.cells #[] 69))) :=
        ⟨_, _, rfl, by rw [hnil]; exact World.ownsRow_made w #[] 0 (Nat.le_refl _) (Nat.zero_le _) rfl, (Below.refl _ w).alloc (Nat.le_refl _) _⟩
      clear hnil h
      go_enter Tryz.func98, Tryz.ntmps98
      go_wp2_with (at_builtin; refine append_nothing rfl _ _ 23 69 rfl i0 Tryz.underlying23 hi (some ⟨w.heap.size, 0, none⟩) 0 0 (Nat.le_refl _) rfl _ _ rfl ?_)
      go_wp2_with fail
      go_ret
      exact HR.out
    · rcases h.2.2.2 with h1 | ⟨b, off, e, hlt, hc⟩
      · exact absurd h1 h0
      cases e
      have hcl : (hcells zs).length = len * 3 := by rw [hcells_len]; rw [h.1]
      have hat := hcells_at h.1 hc
      have HAT := Lib.hid hat
      have HONE := Lib.hid (hcells_one zs)
      obtain ⟨cs, hcs⟩ : ∃ cs, hcells zs = cs := ⟨_, rfl⟩
      rw [hcs] at hcl HAT HONE ⊢
      clear hat hcs hc h
      go_enter Tryz.func98, Tryz.ntmps98
      go_wp2_with (at_builtin; refine wpList_append_own _ rfl _ _ 23 rfl w.heap.size 69 i0 _ 3 40 Tryz.underlying23 hi hz0 hz1 hz2 rfl (by decide) _ _ _ rfl (World.ownsRow_made w #[] 0 (Nat.le_refl _) (Nat.zero_le _) rfl) ⟨b, off, none⟩ len cap cs rfl hcl ?qc2 HONE.out ?qc4 ?qc5 ?qc6 ?_)
      case qc2 => intro j u hj; rw [add_at]; exact Lib.cell?_alloc_some _ (HAT.out j u hj)
      case qc4 => unfold maxLen; omega
      case qc5 => omega
      case qc6 => simp
      intro v' w1 hown hgrow _
      have hf : ∃ a c, v' = .slice a len c := by
        rcases owns_form hown with ⟨rfl, h0'⟩ | ⟨g, c, rfl, _⟩
        · exact ⟨none, 0, by rw [h0']⟩
        · exact ⟨_, c, rfl⟩
      obtain ⟨a', c', rfl⟩ := hf
      have HB : Hid (Below w.heap.size w w1) := ((Below.refl _ w).alloc (Nat.le_refl _) _).grown hgrow (by simp) (by intro k hk; simp [Value.ownBlock] at hk; omega)
      have HO : Hid (w1.ownsRow w.heap.size 69 3 (.slice a' len c') len cs) := hown
      clear hown hgrow
      go_wp2_with fail
      go_ret
      exact ⟨a', c', rfl, HO.out, HB.out⟩
set_option maxHeartbeats 1000000 in
theorem cloneL (a : Option Addr) (len cap : Nat) (l : List Ln) (w : World) (h : LsAt w a len l) (hb : len ≤ 1000000) :
    Calls Tryz.prog 99 #[.slice a len cap] w (CloneP w 54 2 len (lcells l)) := by
  have q : ∀ (w : World) (a : Option Addr) (n c n' c' : Nat), (binOp .eql 26 (.slice a n c) (.slice none n' c')).run Tryz.prog w = .ok (.bool a.isNone) w := fun w a n c n' c' => Lib.run_eql_slice_nil w _ _ a n c n' c' Tryz.underlying26
  obtain ⟨i0, hi, hz0, hz1, hz2⟩ := info_parts info_line
  have HL := Lib.hid h
  cases a with
  | none =>
    have h0 : len = 0 := by
      rcases h.2.2 with h0 | ⟨b, off, e, _⟩
      · exact h0
      · cases e
    subst h0
    have hnil : lcells l = [] := List.eq_nil_of_length_eq_zero (by rw [lcells_len]; rw [h.1])
    have HR : Hid (CloneP w 54 2 0 (lcells l) (.returned (.slice none 0 0)) w) := ⟨none, 0, rfl, by rw [hnil]; exact World.ownsRow_nil _ _ _ _, Below.refl _ _⟩
    clear hnil h
    go_enter Tryz.func99, Tryz.ntmps99
    go_wp2_with fail
    go_ret
    exact HR.out
  | some ad =>
    by_cases h0 : len = 0
    · subst h0
      have hnil : lcells l = [] := List.eq_nil_of_length_eq_zero (by rw [lcells_len]; rw [h.1])
      have HR : Hid (CloneP w 54 2 0 (lcells l) (.returned (.slice (some ⟨w.heap.size, 0, none⟩) 0 0)) (w.alloc (.cells #[] 54))) :=
        ⟨_, _, rfl, by rw [hnil]; exact World.ownsRow_made w #[] 0 (Nat.le_refl _) (Nat.zero_le _) rfl, (Below.refl _ w).alloc (Nat.le_refl _) _⟩
      clear hnil h
      go_enter Tryz.func99, Tryz.ntmps99
      go_wp2_with (at_builtin; refine append_nothing rfl _ _ 26 54 rfl i0 Tryz.underlying26 hi (some ⟨w.heap.size, 0, none⟩) 0 0 (Nat.le_refl _) rfl _ _ rfl ?_)
      go_wp2_with fail
      go_ret
      exact HR.out
    · rcases h.2.2 with h1 | ⟨b, off, e, hlt, hc⟩
      · exact absurd h1 h0
      cases e
      have hcl : (lcells l).length = len * 2 := by rw [lcells_len]; rw [h.1]
      have hat := (fun j u (hj : (lcells l)[j]? = some u) => show w.cell? ⟨b, off + j, none⟩ = some u by rw [← add_at]; exact lcells_at h.1 hc j u hj)
      have HAT := Lib.hid hat
      have HONE := Lib.hid (lcells_one l)
      obtain ⟨cs, hcs⟩ : ∃ cs, lcells l = cs := ⟨_, rfl⟩
      rw [hcs] at hcl HAT HONE ⊢
      clear hat hcs hc h
      go_enter Tryz.func99, Tryz.ntmps99
      go_wp2_with (at_builtin; refine wpList_append_own _ rfl _ _ 26 rfl w.heap.size 54 i0 _ 2 24 Tryz.underlying26 hi hz0 hz1 hz2 rfl (by decide) _ _ _ rfl (World.ownsRow_made w #[] 0 (Nat.le_refl _) (Nat.zero_le _) rfl) ⟨b, off, none⟩ len cap cs rfl hcl ?qc2 HONE.out ?qc4 ?qc5 ?qc6 ?_)
      case qc2 => intro j u hj; rw [add_at]; exact Lib.cell?_alloc_some _ (HAT.out j u hj)
      case qc4 => unfold maxLen; omega
      case qc5 => omega
      case qc6 => simp
      intro v' w1 hown hgrow _
      have hf : ∃ a c, v' = .slice a len c := by
        rcases owns_form hown with ⟨rfl, h0'⟩ | ⟨g, c, rfl, _⟩
        · exact ⟨none, 0, by rw [h0']⟩
        · exact ⟨_, c, rfl⟩
      obtain ⟨a', c', rfl⟩ := hf
      have HB : Hid (Below w.heap.size w w1) := ((Below.refl _ w).alloc (Nat.le_refl _) _).grown hgrow (by simp) (by intro k hk; simp [Value.ownBlock] at hk; omega)
      have HO : Hid (w1.ownsRow w.heap.size 54 2 (.slice a' len c') len cs) := hown
      clear hown hgrow
      go_wp2_with fail
      go_ret
      exact ⟨a', c', rfl, HO.out, HB.out⟩
/-! ### replace -/
theorem scells_set : ∀ (l : List Sk) (p : Nat) (x : Sk), p < l.length → scells (l.set p x) = ((((((scells l).set (p * 6) (.string x.nm)).set (p * 6 + 1) (.int .i64 x.hand)).set (p * 6 + 2) (.int .i64 x.held)).set (p * 6 + 3) (.int .i64 x.kept)).set (p * 6 + 4) (.int .i64 x.sent)).set (p * 6 + 5) (.int .i64 x.inn)
  | [], p, x, h => by simp at h
  | y :: r, 0, x, h => rfl
  | y :: r, p + 1, x, h => by
    have ih := scells_set r p x (by simpa using h)
    show scell y ++ scells (r.set p x) = _
    rw [ih, show (p + 1) * 6 = p * 6 + 1 + 1 + 1 + 1 + 1 + 1 by omega]
    rfl
abbrev put6o (w : World) (g o : Nat) (v0 v1 v2 v3 v4 v5 : Value) : World :=
  (((((w.setCell ⟨g, o, none⟩ v0).setCell ⟨g, o + 1, none⟩ v1).setCell ⟨g, o + 2, none⟩ v2).setCell ⟨g, o + 3, none⟩ v3).setCell ⟨g, o + 4, none⟩ v4).setCell ⟨g, o + 5, none⟩ v5
theorem owns_put6 {w : World} {B g n cap p : Nat} {l : List Sk} (h : w.ownsRow B 41 6 (.slice (some ⟨g, 0, none⟩) n cap) n (scells l)) (hp : p < l.length) (x : Sk) :
    (put6o w g (p * 6) (.string x.nm) (.int .i64 x.hand) (.int .i64 x.held) (.int .i64 x.kept) (.int .i64 x.sent) (.int .i64 x.inn)).ownsRow B 41 6 (.slice (some ⟨g, 0, none⟩) n cap) n (scells (l.set p x)) := by
  rw [scells_set l p x hp]
  have h0 := (h.stored (p * 6) (.string x.nm)).1
  have h1 := (h0.stored (p * 6 + 1) (.int .i64 x.hand)).1
  have h2 := (h1.stored (p * 6 + 2) (.int .i64 x.held)).1
  have h3 := (h2.stored (p * 6 + 3) (.int .i64 x.kept)).1
  have h4 := (h3.stored (p * 6 + 4) (.int .i64 x.sent)).1
  exact (h4.stored (p * 6 + 5) (.int .i64 x.inn)).1
theorem below_put6o {B : Nat} {w0 w : World} {g o : Nat} (h : Below B w0 w) (hk : B ≤ g) (v0 v1 v2 v3 v4 v5 : Value) : Below B w0 (put6o w g o v0 v1 v2 v3 v4 v5) :=
  (((((h.setCell (p := ⟨g, o, none⟩) hk _).setCell (p := ⟨g, o + 1, none⟩) hk _).setCell (p := ⟨g, o + 2, none⟩) hk _).setCell (p := ⟨g, o + 3, none⟩) hk _).setCell (p := ⟨g, o + 4, none⟩) hk _).setCell (p := ⟨g, o + 5, none⟩) hk _
theorem owns_six {w : World} {B g n cap p : Nat} {l : List Sk} (h : w.ownsRow B 41 6 (.slice (some ⟨g, 0, none⟩) n cap) n (scells l)) (hp : p < l.length) :
    (∃ x, l.getD p sk0 = x ∧ w.cell? ⟨g, p * 6, none⟩ = some (.string x.nm) ∧ w.cell? ⟨g, p * 6 + 1, none⟩ = some (.int .i64 x.hand) ∧ w.cell? ⟨g, p * 6 + 2, none⟩ = some (.int .i64 x.held) ∧
      w.cell? ⟨g, p * 6 + 3, none⟩ = some (.int .i64 x.kept) ∧ w.cell? ⟨g, p * 6 + 4, none⟩ = some (.int .i64 x.sent) ∧ w.cell? ⟨g, p * 6 + 5, none⟩ = some (.int .i64 x.inn)) ∧
    w.frozen? ⟨g, p * 6, none⟩ = false ∧ w.frozen? ⟨g, p * 6 + 1, none⟩ = false ∧ w.frozen? ⟨g, p * 6 + 2, none⟩ = false ∧ w.frozen? ⟨g, p * 6 + 3, none⟩ = false ∧ w.frozen? ⟨g, p * 6 + 4, none⟩ = false ∧ w.frozen? ⟨g, p * 6 + 5, none⟩ = false := by
  have hz : l[p]? = some (l.getD p sk0) := by simp [List.getD, hp]
  obtain ⟨h0, h1, h2, h3, h4, h5⟩ := scells_get l p _ hz
  exact ⟨⟨_, rfl, owns_cell h rfl h0, owns_cell h rfl h1, owns_cell h rfl h2, owns_cell h rfl h3, owns_cell h rfl h4, owns_cell h rfl h5⟩, h.frozenAt _, h.frozenAt _, h.frozenAt _, h.frozenAt _, h.frozenAt _, h.frozenAt _⟩
def MadeS (w : World) (l : List Sk) (n : Nat) (e : Ending) (w' : World) : Prop := ∃ a c, e = .returned (.slice a n c) ∧ SkAt w' a n l ∧ Below w.heap.size w w'
set_option maxHeartbeats 1000000 in
theorem replace_any (a : Option Addr) (len cap : Nat) (l : List Sk) (p : Nat) (s : ByteArray) (x0 x1 x2 x3 x4 : Int) (w : World) (h : SkAt w a len l) (hp : p < len) (hb : len ≤ 1000000) :
    Calls Tryz.prog 88 #[.slice a len cap, .int .i64 (p : Int), .agg #[.string s, .int .i64 x0, .int .i64 x1, .int .i64 x2, .int .i64 x3, .int .i64 x4]] w (MadeS w (l.set p ⟨s, x0, x1, x2, x3, x4⟩) len) := by
  have HB := Lib.hid (bx_new w (.string s) (.int .i64 x0) (.int .i64 x1) (.int .i64 x2) (.int .i64 x3) (.int .i64 x4))
  obtain ⟨w0, hw0⟩ : ∃ w0, w.alloc (.cells #[.string s, .int .i64 x0, .int .i64 x1, .int .i64 x2, .int .i64 x3, .int .i64 x4] 41) = w0 := ⟨_, rfl⟩
  rw [hw0] at HB
  have C := Lib.hid (cloneS a len cap l w0 (h.keep HB.out.bel) hb)
  have HW := Lib.hid hw0
  have HLEN := Lib.hid h.1
  clear h hw0
  go_enter Tryz.func88, Tryz.ntmps88
  go_wp2_with fail
  rw [show w.alloc (.cells #[.string s, .int .i64 x0, .int .i64 x1, .int .i64 x2, .int .i64 x3, .int .i64 x4] 41) = w0 from HW.out]
  refine C.out.mono ?_
  rintro e w1 ⟨a', c', rfl, hO, hb1⟩
  have HB1 := Lib.hid (HB.out.keep hb1)
  obtain ⟨q0, q1, q2, q3, q4, q5⟩ := cells6 HB1.out.box
  rcases owns_form hO with ⟨e, h0⟩ | ⟨g, cc, e, hg, hlt⟩
  · omega
  cases e
  have hpl : p < l.length := by rw [HLEN.out]; exact hp
  obtain ⟨⟨x, _, c0, c1, c2, c3, c4, c5⟩, f0, f1, f2, f3, f4, f5⟩ := owns_six hO hpl
  have hgs : w.heap.size ≤ g := Nat.le_trans HB.out.bel.size hg
  have HR : Hid (MadeS w (l.set p ⟨s, x0, x1, x2, x3, x4⟩) len (.returned (.slice (some ⟨g, 0, none⟩) len c')) (put6o w1 g (p * 6) (.string s) (.int .i64 x0) (.int .i64 x1) (.int .i64 x2) (.int .i64 x3) (.int .i64 x4))) :=
    ⟨_, _, rfl, sk_own (owns_put6 hO hpl ⟨s, x0, x1, x2, x3, x4⟩) (by rw [List.length_set]; exact HLEN.out) (by omega), below_put6o HB1.out.bel hgs _ _ _ _ _ _⟩
  clear hO hb1 hpl hg hlt hgs
  go_wp2_with fail
  go_ret
  exact HR.out

/-! ### copies -/
theorem hcells_set : ∀ (zs : List Hz) (p : Nat) (z : Hz) (a : Option Addr) (c : Nat), zs[p]? = some z → (hcells zs).set (p * 3 + 1) (.slice a z.1.ls.length c) = hcells (zs.set p (z.1, a, c))
  | [], p, z, a, c, h => by simp at h
  | y :: r, 0, z, a, c, h => by simp at h; subst h; rfl
  | y :: r, p + 1, z, a, c, h => by
    have ih := hcells_set r p z a c (by simpa using h)
    show _ = hcell y ++ hcells (r.set p (z.1, a, c))
    rw [← ih, show (p + 1) * 3 + 1 = (p * 3 + 1) + 1 + 1 + 1 by omega]
    rfl
def OffL (w : World) (g : Nat) (zs : List Hz) : Prop := ∀ z ∈ zs, LsAt w z.2.1 z.1.ls.length z.1.ls ∧ (∀ ad, z.2.1 = some ad → 0 < z.1.ls.length → ad.block ≠ g)
theorem OffL.keep {w w' : World} {g : Nat} {zs : List Hz} (h : OffL w g zs) (hb : Below w.heap.size w w') : OffL w' g zs := fun z hz => ⟨(h z hz).1.keep hb, (h z hz).2⟩
theorem OffL.stored {w : World} {g : Nat} {zs : List Hz} (h : OffL w g zs) (j : Nat) (u : Value) : OffL (w.setCell ⟨g, j, none⟩ u) g zs := by
  intro z hz
  refine ⟨ls_keepB (h z hz).1 (by simp [World.setCell]) fun j' ad e hj h0 => ?_, (h z hz).2⟩
  exact heap_setCell_other _ _ _ _ (by have := (h z hz).2 ad e h0; simp only; rw [← hj]; exact this)
theorem OffL.set {w : World} {g : Nat} {zs : List Hz} (h : OffL w g zs) (p : Nat) (z : Hz) (hz : LsAt w z.2.1 z.1.ls.length z.1.ls ∧ (∀ ad, z.2.1 = some ad → 0 < z.1.ls.length → ad.block ≠ g)) : OffL w g (zs.set p z) := by
  intro y hy
  rcases List.mem_or_eq_of_mem_set hy with hy | rfl
  · exact h y hy
  · exact hz
theorem hs_set {zs : List Hz} {p : Nat} {z : Hz} {a : Option Addr} {c : Nat} (h : zs[p]? = some z) : hs (zs.set p (z.1, a, c)) = hs zs := by
  unfold hs
  rw [List.map_set]
  apply List.ext_getElem?
  intro i
  rw [List.getElem?_set]
  split
  · rename_i e
    subst e
    have : p < zs.length := (List.getElem?_eq_some_iff.1 h).1
    simp [this]
    have := (List.getElem?_eq_some_iff.1 h).2
    rw [this]
  · rfl
set_option maxHeartbeats 2000000 in
theorem copies_any (a : Option Addr) (len cap : Nat) (l : List Hd) (w : World) (h : HsAt w a len l) (hn : len ≤ 1000000) (hs0 : ∀ x ∈ l, x.ls.length ≤ 1000000) :
    Calls Tryz.prog 58 #[.slice a len cap] w (MadeP w l) := by
  have hlen := h.len
  obtain ⟨zs, hzl, hz⟩ := h
  have C := Lib.hid (cloneH a len cap zs w hz hn)
  have HZ := Lib.hid hz
  have HZL := Lib.hid hzl
  have HS := Lib.hid hs0
  have HLEN := Lib.hid hlen
  clear hz hzl hs0 hlen
  go_enter Tryz.func58, Tryz.ntmps58
  go_wp2_with fail
  refine C.out.mono ?_
  rintro e w1 ⟨a1, c1, rfl, hO, hb1⟩
  have HO1 := Lib.hid hO
  have HB1 := Lib.hid hb1
  clear hb1
  have hroom := owns_room hO
  rcases owns_form hO with ⟨e, h0⟩ | ⟨g, cc, e, hg, hlt⟩
  · cases e
    have hl0 : l = [] := List.eq_nil_of_length_eq_zero (HLEN.out.trans h0)
    have HR : Hid (MadeP w l (.returned (.slice none 0 0)) w1) := by
      rw [hl0]; exact ⟨none, 0, rfl, Nat.le_refl _, HsAt.nil _ _, HB1.out⟩
    clear hO hl0 h0 hroom
    go_wp2_with fail
    go_loopw [9] (fun i wr => i = .int .i64 0 ∧ wr = w1) (fun _ _ => 0)
    case atStart => exact ⟨rfl, rfl⟩
    case round =>
      obtain ⟨rfl, rfl⟩ := hrel
      go_wp2_with fail
      go_ret
      exact HR.out
  · cases e
    have HLO := Lib.hid hg
    have HLT := Lib.hid hlt
    clear hO hg hlt
    go_wp2_with fail
    go_loopw [9] (fun i wr => ∃ (k : Nat) (ys : List Hz), k ≤ len ∧ i = .int .i64 (k : Int) ∧ Hid (hs ys = l) ∧ Hid (wr.ownsRow w.heap.size 69 3 (.slice (some ⟨g, 0, none⟩) len c1) len (hcells ys)) ∧ Hid (OffL wr g ys) ∧ Hid (Below w.heap.size w wr) ∧ Hid (g < wr.heap.size)) (fun i _ => len - (intOf i).toNat)
    case atStart =>
      refine ⟨0, zs, Nat.zero_le _, rfl, HZL.out, HO1.out, fun z hzm => ?_, HB1.out, HLT.out⟩
      have hl := HZ.out.2.2.1 z hzm
      refine ⟨hl.keep HB1.out, fun ad e h0 => ?_⟩
      rcases hl.2.2 with h1 | ⟨b, off, e2, hb, _⟩
      · omega
      · rw [e] at e2; cases e2
        have := HLO.out
        show b ≠ g
        omega
    case round =>
      obtain ⟨k, ys, hk, rfl, hY, hOk, hL, hB, hG⟩ := hrel
      by_cases hlk : k < len
      · have hyn : ys.length = len := by rw [← hs_len, hY.out]; exact HLEN.out
        have hky : k < ys.length := by omega
        obtain ⟨⟨⟨sg, ls, t⟩, la, lc⟩, hzk⟩ : ∃ z, ys[k]? = some z := ⟨ys[k], List.getElem?_eq_getElem hky⟩
        have hmem : ((⟨sg, ls, t⟩, la, lc) : Hz) ∈ ys := List.mem_of_getElem? hzk
        have hoff := hL.out _ hmem
        have hln : ls.length ≤ 1000000 := by
          refine HS.out ⟨sg, ls, t⟩ ?_
          rw [← hY.out]; exact List.mem_map_of_mem (f := (·.1)) hmem
        obtain ⟨g0, g1, g2⟩ := Holds.hcells_get ys k _ hzk
        have d1 := owns_cell hOk.out rfl g1
        have f1 := hOk.out.frozenAt (k * 3 + 1)
        have C2 := Lib.hid (cloneL la ls.length lc ls wr hoff.1 hln)
        simp only at d1
        obtain ⟨n, hn2⟩ : ∃ n, ls.length = n := ⟨_, rfl⟩
        rw [hn2] at d1 C2
        have HN := Lib.hid hn2
        have HLN : Hid (n ≤ 1000000000) := by show n ≤ 1000000000; omega
        have HZK := Lib.hid hzk
        clear hyn hky hmem hoff hln g0 g1 g2 hzk hn2
        go_wp2_with fail
        refine C2.out.mono ?_
        rintro e w2 ⟨a2, c2, rfl, hO2, hb2⟩
        have hlow : ∀ ad, a2 = some ad → wr.heap.size ≤ ad.block := by
          intro ad e
          rcases owns_form hO2 with ⟨e2, _⟩ | ⟨g', cc, e2, hg', _⟩
          · cases e2; cases e
          · cases e2; cases e; exact hg'
        have HLS : Hid (LsAt w2 a2 n ls) := ls_own hO2 HN.out HLN.out
        have HB2 := Lib.hid (below_keep hB.out hb2 hB.out.size)
        have hOk2 := owns_below hOk.out hb2
        have f2 := hOk2.frozenAt (k * 3 + 1)
        have d2 := (hb2.cell (p := ⟨g, k * 3 + 1, none⟩) hG.out).trans d1
        have HO3 : Hid ((w2.setCell ⟨g, k * 3 + 1, none⟩ (.slice a2 n c2)).ownsRow w.heap.size 69 3 (.slice (some ⟨g, 0, none⟩) len c1) len (hcells (ys.set k (⟨sg, ls, t⟩, a2, c2)))) := by
          have e := hcells_set ys k _ a2 c2 HZK.out
          simp only [HN.out] at e
          rw [← e]
          exact (hOk2.stored _ _).1
        have HL3 : Hid (OffL (w2.setCell ⟨g, k * 3 + 1, none⟩ (.slice a2 n c2)) g (ys.set k (⟨sg, ls, t⟩, a2, c2))) := by
          refine OffL.stored (OffL.set (hL.out.keep hb2) k _ ⟨?_, fun ad e _ => ?_⟩) _ _
          · simp only [HN.out]; exact HLS.out
          · have h1 := hlow ad e
            have h2 := hG.out
            omega
        have hY3 := Lib.hid ((hs_set (a := a2) (c := c2) HZK.out).trans hY.out)
        have HB3 : Hid (Below w.heap.size w (w2.setCell ⟨g, k * 3 + 1, none⟩ (.slice a2 n c2))) := HB2.out.setCell (p := ⟨g, k * 3 + 1, none⟩) HLO.out _
        have HG3 : Hid (g < (w2.setCell ⟨g, k * 3 + 1, none⟩ (.slice a2 n c2)).heap.size) := by
          show g < _
          have h1 := hG.out
          have h2 := hb2.size
          simp [World.setCell]; omega
        clear hlow hO2 hb2 hOk2 d1 f1
        go_wp2_with fail
        go_roundw
        case rel => exact ⟨k + 1, _, by omega, by go_num, hY3, HO3, HL3, HB3, HG3⟩
        case measure => simp [intOf]; omega
      · obtain rfl : k = len := by omega
        have hyn : ys.length = k := by rw [← hs_len, hY.out]; exact HLEN.out
        obtain ⟨a', c', e, hz⟩ := hz_of hOk.out hyn (by omega) (fun z hz => (hL.out z hz).1)
        cases e
        have HR : Hid (MadeP w l (.returned (.slice (some ⟨g, 0, none⟩) k c1)) wr) := ⟨_, _, by rw [HLEN.out], by rw [HLEN.out]; exact hroom, ⟨ys, hY.out, by rw [HLEN.out]; exact hz⟩, hB.out⟩
        clear hyn hz
        go_wp2_with fail
        go_ret
        exact HR.out
end Go.Proofs.YtjclkiabgemfpaaGreat.Ledger
