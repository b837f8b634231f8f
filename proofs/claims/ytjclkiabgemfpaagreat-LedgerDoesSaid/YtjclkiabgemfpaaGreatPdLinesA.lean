/-
  How lines stand in memory; the contracts of quantity, of Of (both) and of comparing two lists of lines (both): any lines; what was there stays as it was.
-/
import Derived.Test.YtjclkiabgemfpaaGreatPdLinesPlain
import Derived.Test.YtjclkiabgemfpaaGreatRows
import Derived.Laws.StructEq
import Derived.Lib.Hide
import Derived.Lib.QuietBelow
import Derived.Lib.BufferMore
import Derived.BigQuiet
import Derived.Laws.NewBlocks
import Derived.LoopTactic
set_option linter.unusedVariables false
set_option maxRecDepth 4000
set_option maxRecDepth 4000
namespace Go.Proofs.YtjclkiabgemfpaaGreat.Lines
open Go.RowKit LinesP
def LsAt (w : World) (a : Option Addr) (len : Nat) (l : List Ln) : Prop :=
  l.length = len ∧ len ≤ 9223372036854775807 ∧ (len = 0 ∨ ∃ b off, a = some ⟨b, off, none⟩ ∧ b < w.heap.size ∧ ∀ i, i < len → w.cell? ⟨b, off + i * 2, none⟩ = some (.string (l.getD i ln0).1) ∧ w.cell? ⟨b, off + i * 2 + 1, none⟩ = some (.int .i64 (l.getD i ln0).2))
theorem LsAt.keep {w w' : World} {a : Option Addr} {len : Nat} {l : List Ln} (h : LsAt w a len l) (hb : Below w.heap.size w w') : LsAt w' a len l :=
  ⟨h.1, h.2.1, h.2.2.imp id (fun ⟨b, off, e, hlt, hc⟩ => ⟨b, off, e, by have := hb.size; omega, fun i hi => ⟨(hb.cell (p := ⟨b, off + i * 2, none⟩) hlt).trans (hc i hi).1, (hb.cell (p := ⟨b, off + i * 2 + 1, none⟩) hlt).trans (hc i hi).2⟩⟩)⟩
theorem below_keep {B : Nat} {a b c : World} (h : Below B a b) (k : Below b.heap.size b c) (hB : B ≤ b.heap.size) : Below B a c := h.trans (k.mono hB)
theorem below_drewN {B : Nat} {w w' : World} (h : Below B w w') (n : Nat) : Below B w (w'.drewN n) := ⟨h.os, h.tape, h.output, h.size, h.block⟩
def Sz (l : List Ln) : Prop := ∀ x ∈ l, x.1.size ≤ 300 ∧ -9223372036854775808 ≤ x.2 ∧ x.2 ≤ 9223372036854775807
theorem Sz.at {l : List Ln} (h : Sz l) {k : Nat} (hk : k < l.length) : (l.getD k ln0).1.size ≤ 300 ∧ -9223372036854775808 ≤ (l.getD k ln0).2 ∧ (l.getD k ln0).2 ≤ 9223372036854775807 := by
  have : l.getD k ln0 = l[k] := by simp [List.getD, hk]
  rw [this]; exact h _ (List.getElem_mem hk)
theorem quantity_any (n : Int) (w : World) : Calls Tryz.prog 96 #[.int .i64 n] w fun e w' => e = .returned (.bool (qty n)) ∧ Below w.heap.size w w' := by
  by_cases h1 : 1 ≤ n
  · by_cases h2 : n ≤ 1048576
    · have hq : qty n = true := qty_iff.2 ⟨h1, h2⟩
      go_enter Tryz.func96, Tryz.ntmps96
      rw [hq]
      go_wp2
      go_ret
      exact ⟨rfl, Below.refl _ _⟩
    · have hq : qty n = false := qty_no (.inr (by omega))
      go_enter Tryz.func96, Tryz.ntmps96
      rw [hq]
      go_wp2
      go_ret
      exact ⟨rfl, Below.refl _ _⟩
  · have hq : qty n = false := qty_no (.inl (by omega))
    go_enter Tryz.func96, Tryz.ntmps96
    rw [hq]
    go_wp2
    go_ret
    exact ⟨rfl, Below.refl _ _⟩
/-! ### lists compared -/
def eqUp : List Ln → List Ln → Bool
  | [], [] => true
  | x :: a, y :: b => (x.1.toList == y.1.toList && x.2 == y.2) && eqUp a b
  | _, _ => false
theorem eqUp_iff : ∀ {a b : List Ln}, eqUp a b = true ↔ a = b
  | [], [] => by simp [eqUp]
  | [], y :: b => by simp [eqUp]
  | x :: a, [] => by simp [eqUp]
  | x :: a, y :: b => by
    rw [eqUp, Bool.and_eq_true, eqUp_iff, Bool.and_eq_true, beq_iff_eq, beq_iff_eq, List.cons.injEq]
    constructor
    · rintro ⟨⟨h1, h2⟩, h3⟩
      refine ⟨Prod.ext ?_ h2, h3⟩
      rw [ByteArray.toList_eq, ByteArray.toList_eq] at h1
      obtain ⟨⟨xa⟩, xn⟩ := x
      obtain ⟨⟨ya⟩, yn⟩ := y
      simp at h1
      simp [h1]
    · rintro ⟨rfl, rfl⟩
      exact ⟨⟨rfl, rfl⟩, rfl⟩
theorem eqUp_len {a b : List Ln} (h : a.length ≠ b.length) : eqUp a b = false := by
  cases he : eqUp a b with
  | false => rfl
  | true => exact absurd (congrArg List.length (eqUp_iff.1 he)) h
theorem eqUp_done {a b : List Ln} {k : Nat} (h1 : ¬ k < a.length) (h2 : ¬ k < b.length) : eqUp (a.drop k) (b.drop k) = true := by
  rw [List.drop_eq_nil_of_le (by omega), List.drop_eq_nil_of_le (by omega)]; rfl
theorem eqUp_no {a b : List Ln} {k : Nat} {x y : Ln} (h1 : k < a.length) (h2 : k < b.length) (hx : a.getD k ln0 = x) (hy : b.getD k ln0 = y) (h : (x.1.toList == y.1.toList && x.2 == y.2) = false) : eqUp (a.drop k) (b.drop k) = false := by
  rw [drop_get h1 hx, drop_get h2 hy, eqUp, h]; rfl
theorem eqUp_go {a b : List Ln} {k : Nat} {x y : Ln} (h1 : k < a.length) (h2 : k < b.length) (hx : a.getD k ln0 = x) (hy : b.getD k ln0 = y) (h : (x.1.toList == y.1.toList && x.2 == y.2) = true) : eqUp (a.drop k) (b.drop k) = eqUp (a.drop (k + 1)) (b.drop (k + 1)) := by
  rw [drop_get h1 hx, drop_get h2 hy, eqUp, h]; rfl
theorem ret_bool {a b : Bool} (h : a = b) : Ending.returned (.bool b) = .returned (.bool a) := by rw [h]
theorem ret_int {a b : Int} (h : a = b) : Ending.returned (.int .i64 b) = .returned (.int .i64 a) := by rw [h]
theorem neq_line (s t : ByteArray) (n m : Int) (w : World) : (binOp .neq 54 (.agg #[.string s, .int .i64 n]) (.agg #[.string t, .int .i64 m])).run Tryz.prog w = .ok (.bool (!(s.toList == t.toList && n == m))) w := by
  have hS : Tryz.prog.underlying 54 = some (.struct (Tryz.prog.fieldsOf 54)) := by kernel_rfl
  have hp : Tryz.prog.stoodInHeld 54 = false := by kernel_rfl
  have u3 := Tryz.underlying3
  have u9 := Tryz.underlying9
  have a3 := Tryz.isAgg3
  have a9 := Tryz.isAgg9
  have z3 := Tryz.sizeOf3
  have z9 := Tryz.sizeOf9
  rw [run_neq_struct, show (10000 : Nat) = 9999 + 1 from rfl, run_equalIn_agg w 9999 54 _ _ hS hp]
  simp only [Program.fieldsOf, Tryz.underlying54]
  go_simp
  by_cases h1 : s.toList = t.toList <;> by_cases h2 : n = m <;> simp [h1, h2]
theorem guard_line (x y : Operand) (s t : ByteArray) (n m : Int) (w : World) : (eqGuard .neq 54 x y (.agg #[.string s, .int .i64 n]) (.agg #[.string t, .int .i64 m])).run Tryz.prog w = .ok () w := run_eqGuard_agg w _ _ _ _ _ _ (by kernel_rfl)
set_option maxHeartbeats 2000000 in
theorem equal_any (a c : Option Addr) (la ca lc cc : Nat) (x y : List Ln) (w : World) (h1 : LsAt w a la x) (h2 : LsAt w c lc y) :
    Calls Tryz.prog 108 #[.slice a la ca, .slice c lc cc] w fun e w' => e = .returned (.bool (eqUp x y)) ∧ Below w.heap.size w w' := by
  obtain ⟨v, hv⟩ : ∃ v, eqUp x y = v := ⟨_, rfl⟩
  rw [hv]
  have hla := h1.2.1
  have hlc := h2.2.1
  by_cases hne : la = lc
  · subst hne
    have HX := Lib.hid h1; have HY := Lib.hid h2; have HV := Lib.hid hv
    clear h1 h2 hv hlc
    have NE := Lib.hid neq_line
    go_enter Tryz.func108, Tryz.ntmps108
    go_wp2_with fail
    go_loopw [13] (fun i wr => ∃ k : Nat, k ≤ la ∧ i = .int .i64 (k : Int) ∧ Hid (v = eqUp (x.drop k) (y.drop k)) ∧ Hid (Below w.heap.size w wr)) (fun i _ => la - (intOf i).toNat)
    case atStart => exact ⟨0, Nat.zero_le _, rfl, HV.out.symm, Below.refl _ w⟩
    case round =>
      obtain ⟨k, hk, rfl, hd, hB⟩ := hrel
      by_cases hlk : k < la
      · rcases HX.out.2.2 with h0 | ⟨b1, o1, rfl, g1, hc1⟩
        · omega
        rcases HY.out.2.2 with h0 | ⟨b2, o2, rfl, g2, hc2⟩
        · omega
        have d1 := (hB.out.cell (p := ⟨b1, o1 + k * 2, none⟩) g1).trans (hc1 k hlk).1
        have d2 := (hB.out.cell (p := ⟨b1, o1 + k * 2 + 1, none⟩) g1).trans (hc1 k hlk).2
        have d3 := (hB.out.cell (p := ⟨b2, o2 + k * 2, none⟩) g2).trans (hc2 k hlk).1
        have d4 := (hB.out.cell (p := ⟨b2, o2 + k * 2 + 1, none⟩) g2).trans (hc2 k hlk).2
        obtain ⟨p, hp⟩ : ∃ p, x.getD k ln0 = p := ⟨_, rfl⟩
        obtain ⟨q, hq⟩ : ∃ q, y.getD k ln0 = q := ⟨_, rfl⟩
        rw [hp] at d1 d2
        rw [hq] at d3 d4
        have hkx : k < x.length := by rw [HX.out.1]; exact hlk
        have hky : k < y.length := by rw [HY.out.1]; exact hlk
        clear hc1 hc2 g1 g2
        obtain ⟨s, n⟩ := p
        obtain ⟨t, m⟩ := q
        cases heq : (s.toList == t.toList && n == m) with
        | true =>
          have HD := Lib.hid (hd.out.trans (eqUp_go hkx hky hp hq heq))
          have hneq := fun w => neq_line s t n m w
          have hgd := fun x y w => guard_line x y s t n m w
          rw [heq] at hneq
          have HB2 := Lib.hid hB.out
          clear hd hp hq heq hkx hky hB
          go_wp2_with fail
          go_quiet (fail)
          go_wp2_with fail
          go_roundw
          case rel => exact ⟨k + 1, by omega, by go_num, HD, below_drewN HB2.out _⟩
          case measure => simp [intOf]; omega
        | false =>
          have HD := Lib.hid (hd.out.trans (eqUp_no hkx hky hp hq heq))
          have hneq := fun w => neq_line s t n m w
          have hgd := fun x y w => guard_line x y s t n m w
          rw [heq] at hneq
          have HB2 := Lib.hid hB.out
          clear hd hp hq heq hkx hky hB
          go_wp2_with fail
          go_quiet (fail)
          go_wp2_with fail
          go_ret
          exact ⟨ret_bool HD.out, below_drewN HB2.out _⟩
      · obtain rfl : k = la := by omega
        have HD := Lib.hid (hd.out.trans (eqUp_done (by rw [HX.out.1]; exact hlk) (by rw [HY.out.1]; exact hlk)))
        clear hd
        go_wp2_with fail
        go_ret
        exact ⟨ret_bool HD.out, hB.out⟩
  · have hx := h1.1
    have hy := h2.1
    have hn3 : ((la : Int) != (lc : Int)) = true := by simp; omega
    have HD := Lib.hid (hv.symm.trans (eqUp_len (a := x) (b := y) (by rw [hx, hy]; exact hne)))
    clear h1 h2 hv hx hy
    go_enter Tryz.func108, Tryz.ntmps108
    go_wp2_with fail
    go_ret
    exact ⟨ret_bool HD.out, Below.refl _ _⟩
def boxed (w : World) (s : ByteArray) (n : Int) : World := ((w.alloc (.cells #[.string ⟨#[]⟩, .int .i64 0] 54)).setCell ⟨w.heap.size, 0, none⟩ (.string s)).setCell ⟨w.heap.size, 1, none⟩ (.int .i64 n)
theorem boxed_alloc (w : World) (s : ByteArray) (n : Int) : boxed w s n = w.alloc (.cells #[.string s, .int .i64 n] 54) := by
  unfold boxed
  rw [World.setCell_alloc_at _ _ _ _ _ rfl, World.setCell_alloc_at _ _ _ _ _ rfl]
  rfl
theorem boxed_block (w : World) (s : ByteArray) (n : Int) : (boxed w s n).heap[w.heap.size]? = some (.cells #[.string s, .int .i64 n] 54 (0, 0)) :=
  Lib.heap_setCell_same (Lib.heap_setCell_same (heap_alloc_new w (.cells #[.string ⟨#[]⟩, .int .i64 0] 54)) (.string s)) (.int .i64 n)
theorem boxed_size (w : World) (s : ByteArray) (n : Int) : (boxed w s n).heap.size = w.heap.size + 1 := by unfold boxed; simp [World.setCell]
theorem boxed_below (w : World) (s : ByteArray) (n : Int) : Below w.heap.size w (boxed w s n) :=
  (((Below.refl _ w).alloc (Nat.le_refl _) _).setCell (Nat.le_refl _) _).setCell (Nat.le_refl _) _
theorem boxed_cells (w : World) (s : ByteArray) (n : Int) : (boxed w s n).cell? ⟨w.heap.size, 0, none⟩ = some (.string s) ∧ (boxed w s n).cell? ⟨w.heap.size, 1, none⟩ = some (.int .i64 n) := by
  have h := boxed_block w s n
  constructor
  · rw [show (boxed w s n).cell? ⟨w.heap.size, 0, none⟩ = (#[Value.string s, .int .i64 n] : Array Value)[0]? by simp [World.cell?, h]]; rfl
  · rw [show (boxed w s n).cell? ⟨w.heap.size, 1, none⟩ = (#[Value.string s, .int .i64 n] : Array Value)[1]? by simp [World.cell?, h]]; rfl
end Go.Proofs.YtjclkiabgemfpaaGreat.Lines

/-
  The contracts of Same (both) and Of (both): any lines; what was there stays as it was.
-/
set_option linter.unusedVariables false
set_option maxRecDepth 4000
set_option maxRecDepth 4000
namespace Go.Proofs.YtjclkiabgemfpaaGreat.Lines
open Go.RowKit LinesP
set_option maxHeartbeats 2000000 in
theorem rsame_any (a c : Option Addr) (la ca lc cc : Nat) (x y : List Ln) (w : World) (h1 : LsAt w a la x) (h2 : LsAt w c lc y) :
    Calls Tryz.prog 81 #[.slice a la ca, .slice c lc cc] w fun e w' => e = .returned (.bool (eqUp x y)) ∧ Below w.heap.size w w' := by
  obtain ⟨v, hv⟩ : ∃ v, eqUp x y = v := ⟨_, rfl⟩
  rw [hv]
  have hla := h1.2.1
  have hlc := h2.2.1
  by_cases hne : la = lc
  · subst hne
    have HX := Lib.hid h1; have HY := Lib.hid h2; have HV := Lib.hid hv
    clear h1 h2 hv hlc
    have NE := Lib.hid neq_line
    go_enter Tryz.func81, Tryz.ntmps81
    go_wp2_with fail
    go_loopw [5] (fun i wr => ∃ k : Nat, k ≤ la ∧ i = .int .i64 (k : Int) ∧ Hid (v = eqUp (x.drop k) (y.drop k)) ∧ Hid (Below w.heap.size w wr)) (fun i _ => la - (intOf i).toNat)
    case atStart => exact ⟨0, Nat.zero_le _, rfl, HV.out.symm, Below.refl _ w⟩
    case round =>
      obtain ⟨k, hk, rfl, hd, hB⟩ := hrel
      by_cases hlk : k < la
      · rcases HX.out.2.2 with h0 | ⟨b1, o1, rfl, g1, hc1⟩
        · omega
        rcases HY.out.2.2 with h0 | ⟨b2, o2, rfl, g2, hc2⟩
        · omega
        have d1 := (hB.out.cell (p := ⟨b1, o1 + k * 2, none⟩) g1).trans (hc1 k hlk).1
        have d2 := (hB.out.cell (p := ⟨b1, o1 + k * 2 + 1, none⟩) g1).trans (hc1 k hlk).2
        have d3 := (hB.out.cell (p := ⟨b2, o2 + k * 2, none⟩) g2).trans (hc2 k hlk).1
        have d4 := (hB.out.cell (p := ⟨b2, o2 + k * 2 + 1, none⟩) g2).trans (hc2 k hlk).2
        obtain ⟨p, hp⟩ : ∃ p, x.getD k ln0 = p := ⟨_, rfl⟩
        obtain ⟨q, hq⟩ : ∃ q, y.getD k ln0 = q := ⟨_, rfl⟩
        rw [hp] at d1 d2
        rw [hq] at d3 d4
        have hkx : k < x.length := by rw [HX.out.1]; exact hlk
        have hky : k < y.length := by rw [HY.out.1]; exact hlk
        clear hc1 hc2 g1 g2
        obtain ⟨s, n⟩ := p
        obtain ⟨t, m⟩ := q
        cases heq : (s.toList == t.toList && n == m) with
        | true =>
          have HD := Lib.hid (hd.out.trans (eqUp_go hkx hky hp hq heq))
          have hneq := fun w => neq_line s t n m w
          have hgd := fun x y w => guard_line x y s t n m w
          rw [heq] at hneq
          have HB2 := Lib.hid hB.out
          clear hd hp hq heq hkx hky hB
          go_wp2_with fail
          go_quiet (fail)
          go_wp2_with fail
          go_roundw
          case rel => exact ⟨k + 1, by omega, by go_num, HD, below_drewN HB2.out _⟩
          case measure => simp [intOf]; omega
        | false =>
          have HD := Lib.hid (hd.out.trans (eqUp_no hkx hky hp hq heq))
          have hneq := fun w => neq_line s t n m w
          have hgd := fun x y w => guard_line x y s t n m w
          rw [heq] at hneq
          have HB2 := Lib.hid hB.out
          clear hd hp hq heq hkx hky hB
          go_wp2_with fail
          go_quiet (fail)
          go_wp2_with fail
          go_ret
          exact ⟨ret_bool HD.out, below_drewN HB2.out _⟩
      · obtain rfl : k = la := by omega
        have HD := Lib.hid (hd.out.trans (eqUp_done (by rw [HX.out.1]; exact hlk) (by rw [HY.out.1]; exact hlk)))
        clear hd
        go_wp2_with fail
        go_ret
        exact ⟨ret_bool HD.out, hB.out⟩
  · have hx := h1.1
    have hy := h2.1
    have hn3 : ((la : Int) != (lc : Int)) = true := by simp; omega
    have HD := Lib.hid (hv.symm.trans (eqUp_len (a := x) (b := y) (by rw [hx, hy]; exact hne)))
    clear h1 h2 hv hx hy
    go_enter Tryz.func81, Tryz.ntmps81
    go_wp2_with fail
    go_ret
    exact ⟨ret_bool HD.out, Below.refl _ _⟩
theorem same_any (a c : Option Addr) (la ca lc cc : Nat) (x y : List Ln) (w : World) (h1 : LsAt w a la x) (h2 : LsAt w c lc y) :
    Calls Tryz.prog 80 #[.slice a la ca, .slice c lc cc] w fun e w' => e = .returned (.bool (eqUp x y)) ∧ Below w.heap.size w w' := by
  have C := Lib.hid (equal_any a c la ca lc cc x y w h1 h2)
  clear h1 h2
  go_enter Tryz.func80, Tryz.ntmps80
  go_wp2_with fail
  refine C.out.mono ?_
  rintro e w1 ⟨rfl, hb⟩
  go_wp2_with fail
  go_ret
  exact ⟨rfl, hb⟩
set_option maxHeartbeats 2000000 in
theorem rof_any (a : Option Addr) (len cap : Nat) (l : List Ln) (s : ByteArray) (w : World) (h : LsAt w a len l) :
    Calls Tryz.prog 77 #[.slice a len cap, .string s] w fun e w' => e = .returned (.int .i64 (ofL s l)) ∧ Below w.heap.size w w' := by
  obtain ⟨v, hv⟩ : ∃ v, ofL s l = v := ⟨_, rfl⟩
  rw [hv]
  have hl := h.2.1
  have HX := Lib.hid h; have HV := Lib.hid hv
  clear h hv
  go_enter Tryz.func77, Tryz.ntmps77
  go_wp2_with fail
  go_loopw [5] (fun i wr => ∃ k : Nat, k ≤ len ∧ i = .int .i64 (k : Int) ∧ Hid (v = ofL s (l.drop k)) ∧ Hid (Below w.heap.size w wr)) (fun i _ => len - (intOf i).toNat)
  case atStart => exact ⟨0, Nat.zero_le _, rfl, HV.out.symm, Below.refl _ w⟩
  case round =>
    obtain ⟨k, hk, rfl, hd, hB⟩ := hrel
    by_cases hlk : k < len
    · rcases HX.out.2.2 with h0 | ⟨b1, o1, rfl, g1, hc1⟩
      · omega
      have d1 := (hB.out.cell (p := ⟨b1, o1 + k * 2, none⟩) g1).trans (hc1 k hlk).1
      have d2 := (hB.out.cell (p := ⟨b1, o1 + k * 2 + 1, none⟩) g1).trans (hc1 k hlk).2
      obtain ⟨p, hp⟩ : ∃ p, l.getD k ln0 = p := ⟨_, rfl⟩
      rw [hp] at d1 d2
      have hkx : k < l.length := by rw [HX.out.1]; exact hlk
      clear hc1 g1
      obtain ⟨t, m⟩ := p
      have HB2 := Lib.hid (hB.out.alloc hB.out.size (.cells #[.string t, .int .i64 m] 54))
      have HB3 := Lib.hid hB.out
      cases heq : (t.toList == s.toList) with
      | true =>
        have HD := Lib.hid (hd.out.trans (ofL_yes hkx hp heq))
        clear hd hp hkx hB
        go_wp2_with fail
        go_ret
        exact ⟨ret_int HD.out, HB3.out⟩
      | false =>
        have HD := Lib.hid (hd.out.trans (ofL_no hkx hp heq))
        clear hd hp hkx hB
        go_wp2_with fail
        go_roundw
        case rel => exact ⟨k + 1, by omega, by go_num, HD, HB3⟩
        case measure => simp [intOf]; omega
    · obtain rfl : k = len := by omega
      have HD := Lib.hid (hd.out.trans (ofL_done (by rw [HX.out.1]; exact hlk)))
      clear hd
      go_wp2_with fail
      go_ret
      exact ⟨ret_int HD.out, hB.out⟩
end Go.Proofs.YtjclkiabgemfpaaGreat.Lines

/-
  The contract of Few.
-/
set_option linter.unusedVariables false
set_option maxRecDepth 4000
set_option maxRecDepth 4000
namespace Go.Proofs.YtjclkiabgemfpaaGreat.Lines
open Go.RowKit LinesP
def SzM (l : List Ln) : Prop := ∀ x ∈ l, x.1.size ≤ 9223372036854775807 ∧ -9223372036854775808 ≤ x.2 ∧ x.2 ≤ 9223372036854775807
def shortL (l : List Ln) : Bool := l.all fun x => decide (x.1.size ≤ 60)
def fewV (l : List Ln) : Bool := shortL (l.take 8) && decide (l.length ≤ 8)
theorem few_sz {l : List Ln} (h : fewV l = true) (hm : SzM l) : l.length ≤ 8 ∧ Sz l := by
  unfold fewV at h
  rw [Bool.and_eq_true, decide_eq_true_eq] at h
  refine ⟨h.2, fun x hx => ?_⟩
  rw [List.take_of_length_le h.2] at h
  have h1 := List.all_eq_true.1 h.1 x hx
  have h2 := hm x hx
  simp only [decide_eq_true_eq] at h1
  exact ⟨by omega, h2.2⟩
theorem take_snoc {l : List Ln} {k : Nat} {x : Ln} (hk : k < l.length) (hx : l.getD k ln0 = x) : l.take (k + 1) = l.take k ++ [x] := by
  rw [List.take_succ_eq_append_getElem hk, ← hx]; simp [List.getD, hk]
theorem short_snoc {l : List Ln} {x : Ln} {k : Nat} (hk : k < l.length) (hx : l.getD k ln0 = x) (h : shortL (l.take k) = true) (hq : x.1.size ≤ 60) : shortL (l.take (k + 1)) = true := by
  unfold shortL at *
  rw [take_snoc hk hx, List.all_append, h]; simpa using hq
theorem few_no {l : List Ln} {x : Ln} {k : Nat} (hk : k < l.length) (h8 : k < 8) (hx : l.getD k ln0 = x) (hq : 60 < x.1.size) : fewV l = false := by
  unfold fewV shortL
  have : (l.take 8).all (fun x => decide (x.1.size ≤ 60)) = false := by
    rw [List.all_eq_false]
    refine ⟨x, ?_, by simpa using hq⟩
    rw [← hx, show l.getD k ln0 = l[k] by simp [List.getD, hk]]
    exact List.mem_take_iff_getElem.2 ⟨k, by omega, rfl⟩
  rw [this]; rfl
theorem few_end {l : List Ln} {k : Nat} (hk : k = l.length ∨ k = 8) (h : shortL (l.take k) = true) : fewV l = decide (l.length ≤ 8) := by
  rcases hk with rfl | rfl
  · unfold fewV
    by_cases h8 : l.length ≤ 8
    · rw [List.take_of_length_le h8]; rw [List.take_length] at h; rw [h]; simp
    · simp [h8]
  · unfold fewV; rw [h]; simp
set_option maxHeartbeats 1000000 in
theorem rfew_any (a : Option Addr) (len cap : Nat) (l : List Ln) (w : World) (h : LsAt w a len l) (hs : SzM l) :
    Calls Tryz.prog 19 #[.slice a len cap] w fun e w' => e = .returned (.bool (fewV l)) ∧ Below w.heap.size w w' := by
  have HX := Lib.hid h
  have HS := Lib.hid hs
  obtain ⟨v, hv⟩ : ∃ v, fewV l = v := ⟨_, rfl⟩
  rw [hv]
  have HV := Lib.hid hv
  have hl := h.2.1
  clear hv h hs
  go_enter Tryz.func19, Tryz.ntmps19
  go_wp2_with fail
  go_loopw [3] (fun i wr => ∃ k : Nat, k ≤ len ∧ k ≤ 8 ∧ i = .int .i64 (k : Int) ∧ Hid (shortL (l.take k) = true) ∧ Hid (Below w.heap.size w wr)) (fun i _ => len - (intOf i).toNat)
  case atStart => exact ⟨0, Nat.zero_le _, Nat.zero_le _, rfl, Lib.hid rfl, Below.refl _ _⟩
  case round =>
    obtain ⟨k, hk, hk8, rfl, hF, hB⟩ := hrel
    by_cases hlk : k < len
    · by_cases h8 : k < 8
      · rcases HX.out.2.2 with h0 | ⟨b1, o1, rfl, g1, hc1⟩
        · omega
        have d1 := (hB.out.cell (p := ⟨b1, o1 + k * 2, none⟩) g1).trans (hc1 k hlk).1
        have hkx : k < l.length := by rw [HX.out.1]; exact hlk
        have hsz := (HS.out (l.getD k ln0) (by rw [show l.getD k ln0 = l[k] by simp [List.getD, hkx]]; exact List.getElem_mem hkx)).1
        obtain ⟨p, hp⟩ : ∃ p, l.getD k ln0 = p := ⟨_, rfl⟩
        rw [hp] at d1 hsz
        obtain ⟨s, n⟩ := p
        simp only at d1 hsz
        clear hc1 g1
        by_cases h60 : 60 < s.size
        · have hi : (60 : Int) < (s.size : Int) := by omega
          have HNO : Hid (v = false) := by show v = _; rw [← HV.out]; exact few_no hkx h8 hp h60
          clear hkx hp hF
          go_wp2_with fail
          go_ret
          exact ⟨ret_bool HNO.out, hB.out⟩
        · have hi : ¬ (60 : Int) < (s.size : Int) := by omega
          have HF2 : Hid (shortL (l.take (k + 1)) = true) := short_snoc hkx hp hF.out (by show s.size ≤ 60; omega)
          clear hkx hp hF
          go_wp2_with fail
          go_roundw
          case rel => exact ⟨k + 1, by omega, by omega, by go_num, HF2, hB⟩
          case measure => simp [intOf]; omega
      · obtain rfl : k = 8 := by omega
        have HNO : Hid (v = false) := by
          show v = _
          rw [← HV.out, few_end (.inr rfl) hF.out, HX.out.1]
          exact decide_eq_false (by omega)
        have HD : Hid (false = decide ((len : Int) ≤ 8)) := (decide_eq_false (by omega)).symm
        go_wp2_with fail
        go_ret
        exact ⟨ret_bool (HNO.out.trans HD.out), hB.out⟩
    · obtain rfl : k = len := by omega
      have HE : Hid (v = true) := by show v = _; rw [← HV.out, few_end (.inl HX.out.1.symm) hF.out, HX.out.1]; exact decide_eq_true hk8
      have HD : Hid (true = decide ((k : Int) ≤ 8)) := (decide_eq_true (by omega)).symm
      go_wp2_with fail
      go_ret
      exact ⟨ret_bool (HE.out.trans HD.out), hB.out⟩

end Go.Proofs.YtjclkiabgemfpaaGreat.Lines
