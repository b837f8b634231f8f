/-
  The contract of wire.number: any text.
-/
import Derived.Test.YtamcidlkbhanfaaWireA
import Derived.Lib.LazyBuf
import Derived.Deep.RegionLaw
import Derived.LoopTactic
set_option linter.unusedVariables false
set_option maxRecDepth 4000
namespace Go.Proofs.Ytamcidlkbhanfaa.Wire
open Go.RowKit WireP

theorem heap_setRow_at {w : World} {g : Nat} {cur : Array Value} {t : TypeId} {fr : Nat × Nat} (h : w.heap[g]? = some (.cells cur t fr)) (cs : Array Value) : (w.setRow g cs).heap[g]? = some (.cells cs t fr) := by
  simp [World.setRow, Array.getElem?_modify, h]
theorem below_setRow {B g : Nat} {a w : World} (h : Below B a w) (hg : B ≤ g) (cs : Array Value) : Below B a (w.setRow g cs) :=
  h.trans ⟨rfl, rfl, rfl, by simp, fun k hk => by simp only [World.setRow, Array.getElem?_modify]; rw [if_neg (by omega)]⟩
/-- 'copy(dst, s)', dst in a row whose cells are known, as one step of a region that draws. -/
theorem step_copy_row {P : Program} {ops : Array Oper} {o : Oper} {a : Act} {w : World} {K : Act → World → Prop} {Q : Exit → Act → World → Prop} {E : Prop}
    (hg : o.guard = none) (d x : Operand) (dT sT : TypeId) (hop : o.op = Op.call { callee := Callee.builtin Builtin.copy, args := #[d, x], argTypes := #[dT, sT] })
    (elem : TypeId) (hu : P.underlying dT = some (.slice elem)) (hs : (P.info? elem).map (·.size) = some 1)
    (g off dLen dCap : Nat) (hd : a.eval d = .slice (some ⟨g, off, none⟩) dLen dCap) (t : ByteArray) (hx : a.eval x = .string t) (cur : Array Value) (ty : TypeId)
    (hgh : w.heap[g]? = some (.cells cur ty (0, 0))) (hle : t.size ≤ dLen) (hfit : off + t.size ≤ cur.size)
    (row : Array Value) (hrow : (cur.toList.take off ++ Lib.byteCells t.data.toList ++ cur.toList.drop (off + t.size)).toArray = row)
    (hK : K (a.put o.dst (goInt t.size)) (w.setRow g row)) :
    if Region.wanted o (yielded ops a.tmps) = true then Oper.wp P o a w K Q else E := by
  have hw : Region.wanted o (yielded ops a.tmps) = true := by simp [Region.wanted, hg]
  rw [if_pos hw]
  have hrun := Lib.run_copy_row_string (P := P) w dT sT o.type elem g off dLen dCap t cur ty hu hs hgh hle hfit
  rw [hrow] at hrun
  unfold Oper.wp
  simp [execOp, hop, resolve, invoke, builtin, hd, hx, hrun, Result.andThen]
  exact hK

def z8 : Array Value := #[.int .u8 0, .int .u8 0, .int .u8 0, .int .u8 0, .int .u8 0, .int .u8 0, .int .u8 0, .int .u8 0]
theorem z8_cells : z8.toList = Lib.byteCells (List.replicate 8 0) := rfl
theorem info8 : (Try.prog.info? 5).map (·.size) = some 1 := by kernel_rfl

theorem at_getD (s : ByteArray) (k : Nat) (h : k < s.size) : s.data.toList.getD k 0 = s[k] := by
  have h2 : k < s.data.toList.length := by rw [Array.length_toList]; exact h
  rw [List.getD_eq_getElem?_getD, List.getElem?_eq_getElem h2]; rfl
theorem headD_at (s : ByteArray) (h : 0 < s.size) : s.data.toList.headD 0 = s[0] := by
  rw [← at_getD s 0 h]
  cases s.data.toList <;> rfl
theorem empty_no (s : ByteArray) (h : 0 < s.size) : s.toList.isEmpty = false := by
  rw [ByteArray.toList_eq]
  cases hl : s.data.toList with
  | nil => have := len_list s; rw [hl] at this; simp at this; omega
  | cons a b => rfl
theorem empty_yes (s : ByteArray) (h : s.size = 0) : s.toList.isEmpty = true := by
  rw [ByteArray.toList_eq]
  cases hl : s.data.toList with
  | nil => rfl
  | cons a b => have := len_list s; rw [hl] at this; simp at this; omega

/-- What number gives. -/
def numOut (l : List UInt8) : Int × Int := if ok l = true then (num l, 1 + ((nl l : Nat) : Int)) else (0, 0)
theorem numOut_no {l : List UInt8} (h : ok l = false) : numOut l = (0, 0) := by unfold numOut; rw [h]; rfl
theorem numOut_yes {l : List UInt8} (h : ok l = true) : numOut l = (num l, 1 + ((nl l : Nat) : Int)) := by unfold numOut; rw [if_pos h]
theorem ok_no {l : List UInt8} (h : l = [] ∨ 8 < nl l ∨ l.length ≤ nl l ∨ (nb l).headD 1 = 0) : ok l = false := by
  cases hk : ok l with
  | false => rfl
  | true =>
    have ⟨h0, h1, h2, h3⟩ := ok_iff.1 hk
    rcases h with h | h | h | h
    · exact absurd h h0
    · omega
    · omega
    · exact absurd h h3
theorem nb_head {l : List UInt8} (h : 0 < nl l) (h2 : 1 < l.length) : (nb l).headD 1 = l.getD 1 0 := by
  unfold nb
  match l, h, h2 with
  | a :: b :: r, h, _ =>
    obtain ⟨k, hk⟩ : ∃ k, nl (a :: b :: r) = k + 1 := ⟨nl (a :: b :: r) - 1, by omega⟩
    rw [hk]; rfl
theorem nb_zero {l : List UInt8} (h : nl l = 0) : nb l = [] := by unfold nb; rw [h]; rfl
theorem eight {zs : List UInt8} (h : zs.length = 8) : ∃ a b c d e f g k : UInt8, zs = [a, b, c, d, e, f, g, k] := by
  match zs, h with
  | [a, b, c, d, e, f, g, k], _ => exact ⟨a, b, c, d, e, f, g, k, rfl⟩
theorem cells_row (zs : List UInt8) (m k : Nat) (t : List UInt8) (hm : m + k = 8) (ht : t.length = k) :
    (z8.toList.take m ++ Lib.byteCells t ++ z8.toList.drop (m + k)).toArray = (Lib.byteCells (List.replicate m 0 ++ t)).toArray := by
  have h1 : z8.toList.take m = Lib.byteCells (List.replicate m 0) := by
    rw [z8_cells]; unfold Lib.byteCells; rw [← List.map_take, List.take_replicate, Nat.min_eq_left (by omega)]
  have h2 : z8.toList.drop (m + k) = [] := by rw [hm]; rfl
  rw [h1, h2, List.append_nil, Lib.byteCells_append]
theorem extract_list (s : ByteArray) (i j : Nat) : (s.extract i j).data.toList = (s.data.toList.drop i).take (j - i) := by
  rw [ByteArray.data_extract, Array.toList_extract, List.extract_eq_take_drop]
theorem cell_run {w : World} {g : Nat} {zs : List UInt8} {t : TypeId} (h : w.heap[g]? = some (.cells (Lib.byteCells zs).toArray t (0, 0))) (i : Nat) (hi : i < zs.length) :
    w.cell? ⟨g, i, none⟩ = some (.int .u8 ((zs.getD i 0).toNat : Int)) := by
  rw [cell_of_heap h]
  simp [Lib.byteCells, List.getD, hi]
theorem val_step {zs : List UInt8} {k : Nat} {c : UInt8} (hk : k < zs.length) (hc : zs.getD k 0 = c) : val (zs.take (k + 1)) = val (zs.take k) * 256 + c.toNat := by
  rw [List.take_succ_eq_append_getElem hk, val_snoc, ← hc]
  simp [List.getD, hk]
theorem idx0 (w : World) (v0 v1 v2 v3 v4 v5 v6 v7 : Value) : (Instr.index 92 (.agg #[v0, v1, v2, v3, v4, v5, v6, v7]) (.int .i64 0)).run Try.prog w = .ok v0 w := by kernel_rfl
theorem idx1 (w : World) (v0 v1 v2 v3 v4 v5 v6 v7 : Value) : (Instr.index 92 (.agg #[v0, v1, v2, v3, v4, v5, v6, v7]) (.int .i64 1)).run Try.prog w = .ok v1 w := by kernel_rfl
theorem idx2 (w : World) (v0 v1 v2 v3 v4 v5 v6 v7 : Value) : (Instr.index 92 (.agg #[v0, v1, v2, v3, v4, v5, v6, v7]) (.int .i64 2)).run Try.prog w = .ok v2 w := by kernel_rfl
theorem idx3 (w : World) (v0 v1 v2 v3 v4 v5 v6 v7 : Value) : (Instr.index 92 (.agg #[v0, v1, v2, v3, v4, v5, v6, v7]) (.int .i64 3)).run Try.prog w = .ok v3 w := by kernel_rfl
theorem idx4 (w : World) (v0 v1 v2 v3 v4 v5 v6 v7 : Value) : (Instr.index 92 (.agg #[v0, v1, v2, v3, v4, v5, v6, v7]) (.int .i64 4)).run Try.prog w = .ok v4 w := by kernel_rfl
theorem idx5 (w : World) (v0 v1 v2 v3 v4 v5 v6 v7 : Value) : (Instr.index 92 (.agg #[v0, v1, v2, v3, v4, v5, v6, v7]) (.int .i64 5)).run Try.prog w = .ok v5 w := by kernel_rfl
theorem idx6 (w : World) (v0 v1 v2 v3 v4 v5 v6 v7 : Value) : (Instr.index 92 (.agg #[v0, v1, v2, v3, v4, v5, v6, v7]) (.int .i64 6)).run Try.prog w = .ok v6 w := by kernel_rfl
theorem idx7 (w : World) (v0 v1 v2 v3 v4 v5 v6 v7 : Value) : (Instr.index 92 (.agg #[v0, v1, v2, v3, v4, v5, v6, v7]) (.int .i64 7)).run Try.prog w = .ok v7 w := by kernel_rfl
set_option maxHeartbeats 1000000 in
theorem number_yes (s : ByteArray) (k : Nat) (w : World) (h0 : 0 < s.size) (hs : s.size ≤ 4398046511104) (h1 : s[0].toNat = k) (h2 : k ≤ 8) (h3 : k < s.size) (h4 : 1 ≤ k) (h5 : s[1].toNat ≠ 0) :
    Calls Try.prog 56 #[.string s] w fun e w' => e = .returned (.tuple #[.int .i64 (nx (val ((s.data.toList.drop 1).take k))), .int .i64 (1 + (k : Int))]) ∧ Below w.heap.size w w' := by
  have hemp := empty_no s h0
  obtain ⟨m, hm⟩ : ∃ m, m + k = 8 := ⟨8 - k, by omega⟩
  obtain ⟨t, ht⟩ : ∃ t, (s.data.toList.drop 1).take k = t := ⟨_, rfl⟩
  have htl : t.length = k := by rw [← ht, List.length_take, List.length_drop, len_list]; omega
  have hzl : (List.replicate m (0 : UInt8) ++ t).length = 8 := by simp [htl]; omega
  rw [ht]
  obtain ⟨X, hX⟩ : ∃ X, val t = X := ⟨_, rfl⟩
  rw [hX]
  obtain ⟨zs, hzs⟩ : ∃ zs, List.replicate m (0 : UInt8) ++ t = zs := ⟨_, rfl⟩
  have hvz : val zs = X := by rw [← hzs, val_zeros, hX]
  rw [hzs] at hzl
  have hX8 : X < 18446744073709551616 := by rw [← hvz]; exact val_lt64 (by omega)
  have hrow := cells_row zs m k t hm htl
  rw [hzs] at hrow
  have hex : (s.extract 1 (1 + k)).data.toList = t := by rw [extract_list, ← ht]; congr 1; omega
  have hes : (s.extract 1 (1 + k)).size = k := by rw [ByteArray.size_extract]; omega
  have HROW := Lib.hid hrow; have HEX := Lib.hid hex; have HES := Lib.hid hes; have HZL := Lib.hid hzl; have HVZ := Lib.hid hvz
  clear hrow hex hes hzs hX ht htl hzl hvz
  have hwr : IntKind.i64.wrap (9 - (1 + (k : Int))) = (m : Int) := by rw [IntWalk.i64_in] <;> omega
  have hq1 : 0 ≤ 1 + (k : Int) := by omega
  have hq2 : 1 + (k : Int) ≤ (s.size : Int) := by omega
  have hq3 : (1 : Int) ≤ 1 + (k : Int) := by omega
  have hq4 : (1 + (k : Int)).toNat = 1 + k := by omega
  have hq5 : 8 - m = k := by omega
  have hq6 : ¬ (8 = m) := by omega
  have ham : (m : Int) ≤ 8 := by omega
  have hal : Try.prog.arrayLen 92 = 8 := by kernel_rfl
  go_enter Try.func56, Try.ntmps56
  go_wp2
  go_region_law (refine step_copy_row rfl (.tmp 36) (.tmp 39) 74 9 rfl 5 Try.underlying74 info8 w.heap.size m k k (by simp [Act.eval, Act.put]) (s.extract 1 (1 + k)) (by simp [Act.eval, Act.put]) z8 92 (heap_alloc_new _ _) (Nat.le_of_eq HES.out) (by rw [HES.out]; show m + k ≤ 8; omega) (Lib.byteCells zs).toArray (by rw [HEX.out, HES.out]; exact HROW.out) ?_)
  have hb2 : Below w.heap.size w (((w.alloc (.cells z8 92)).drew).setRow w.heap.size (Lib.byteCells zs).toArray) := below_setRow (((Below.refl _ w).alloc (Nat.le_refl _) _).drew) (Nat.le_refl _) _
  have hh2 : (((w.alloc (.cells z8 92)).drew).setRow w.heap.size (Lib.byteCells zs).toArray).heap[w.heap.size]? = some (.cells (Lib.byteCells zs).toArray 92 (0, 0)) := heap_setRow_at (heap_alloc_new w (.cells z8 92) : (w.alloc (.cells z8 92)).drew.heap[w.heap.size]? = _) (Lib.byteCells zs).toArray
  change Exit.then _ _ _ _ (((w.alloc (.cells z8 92)).drew).setRow w.heap.size (Lib.byteCells zs).toArray)
  generalize (((w.alloc (.cells z8 92)).drew).setRow w.heap.size (Lib.byteCells zs).toArray) = w2 at *
  obtain ⟨a0, a1, a2, a3, a4, a5, a6, a7, rfl⟩ := eight HZL.out
  have c0 := cell_run hh2 0 (by show 0 < 8; decide)
  have c1 := cell_run hh2 1 (by show 1 < 8; decide)
  have c2 := cell_run hh2 2 (by show 2 < 8; decide)
  have c3 := cell_run hh2 3 (by show 3 < 8; decide)
  have c4 := cell_run hh2 4 (by show 4 < 8; decide)
  have c5 := cell_run hh2 5 (by show 5 < 8; decide)
  have c6 := cell_run hh2 6 (by show 6 < 8; decide)
  have c7 := cell_run hh2 7 (by show 7 < 8; decide)
  simp only [List.getD_cons_succ, List.getD_cons_zero] at c0 c1 c2 c3 c4 c5 c6 c7
  clear hh2 HZL HROW HEX HES hwr hq1 hq2 hq3 hq4 hq5 hq6 ham hal
  have l0 := a0.toNat_lt; have l1 := a1.toNat_lt; have l2 := a2.toNat_lt; have l3 := a3.toNat_lt
  have l4 := a4.toNat_lt; have l5 := a5.toNat_lt; have l6 := a6.toNat_lt; have l7 := a7.toNat_lt
  go_wp2
  clear c0 c1 c2 c3 c4 c5 c6 c7
  go_loopw [5, 42] (fun x i wr => ∃ (j Y : Nat), j ≤ 8 ∧ x = .int .u64 (Y : Int) ∧ i = .int .i64 (j : Int) ∧ wr = w2 ∧ Hid (Y = val ([a0, a1, a2, a3, a4, a5, a6, a7].take j))) (fun _ i _ => 8 - (intOf i).toNat)
  case atStart => exact ⟨0, 0, by omega, rfl, rfl, rfl, rfl⟩
  case round =>
    obtain ⟨j, Y, hj, rfl, rfl, rfl, hY⟩ := hrel
    by_cases hlt : j < 8
    · have hY56 : Y ≤ 72057594037927935 := by
        have := val_lt56 (l := [a0, a1, a2, a3, a4, a5, a6, a7].take j) (by rw [List.length_take]; omega)
        rw [← hY.out] at this; omega
      obtain rfl | rfl | rfl | rfl | rfl | rfl | rfl | rfl : j = 0 ∨ j = 1 ∨ j = 2 ∨ j = 3 ∨ j = 4 ∨ j = 5 ∨ j = 6 ∨ j = 7 := by omega
      · have hst := val_step (k := 0) (c := a0) (show 0 < [a0, a1, a2, a3, a4, a5, a6, a7].length by show 0 < 8; decide) rfl
        have hbo := bits_or_byte (x := (Y : Int)) (c := (a0.toNat : Int)) (by omega) (by omega) (by omega) (by omega)
        have HST := Lib.hid hst; clear hst
        have hix := idx0
        go_wp2
        go_roundw
        case rel => exact ⟨1, Y * 256 + a0.toNat, by omega, by simp, by first | rfl | trivial, by first | rfl | trivial, by show _ = _; rw [HST.out, ← hY.out]⟩
        case measure => simp [intOf]
      · have hst := val_step (k := 1) (c := a1) (show 1 < [a0, a1, a2, a3, a4, a5, a6, a7].length by show 1 < 8; decide) rfl
        have hbo := bits_or_byte (x := (Y : Int)) (c := (a1.toNat : Int)) (by omega) (by omega) (by omega) (by omega)
        have HST := Lib.hid hst; clear hst
        have hix := idx1
        go_wp2
        go_roundw
        case rel => exact ⟨2, Y * 256 + a1.toNat, by omega, by simp, by first | rfl | trivial, by first | rfl | trivial, by show _ = _; rw [HST.out, ← hY.out]⟩
        case measure => simp [intOf]
      · have hst := val_step (k := 2) (c := a2) (show 2 < [a0, a1, a2, a3, a4, a5, a6, a7].length by show 2 < 8; decide) rfl
        have hbo := bits_or_byte (x := (Y : Int)) (c := (a2.toNat : Int)) (by omega) (by omega) (by omega) (by omega)
        have HST := Lib.hid hst; clear hst
        have hix := idx2
        go_wp2
        go_roundw
        case rel => exact ⟨3, Y * 256 + a2.toNat, by omega, by simp, by first | rfl | trivial, by first | rfl | trivial, by show _ = _; rw [HST.out, ← hY.out]⟩
        case measure => simp [intOf]
      · have hst := val_step (k := 3) (c := a3) (show 3 < [a0, a1, a2, a3, a4, a5, a6, a7].length by show 3 < 8; decide) rfl
        have hbo := bits_or_byte (x := (Y : Int)) (c := (a3.toNat : Int)) (by omega) (by omega) (by omega) (by omega)
        have HST := Lib.hid hst; clear hst
        have hix := idx3
        go_wp2
        go_roundw
        case rel => exact ⟨4, Y * 256 + a3.toNat, by omega, by simp, by first | rfl | trivial, by first | rfl | trivial, by show _ = _; rw [HST.out, ← hY.out]⟩
        case measure => simp [intOf]
      · have hst := val_step (k := 4) (c := a4) (show 4 < [a0, a1, a2, a3, a4, a5, a6, a7].length by show 4 < 8; decide) rfl
        have hbo := bits_or_byte (x := (Y : Int)) (c := (a4.toNat : Int)) (by omega) (by omega) (by omega) (by omega)
        have HST := Lib.hid hst; clear hst
        have hix := idx4
        go_wp2
        go_roundw
        case rel => exact ⟨5, Y * 256 + a4.toNat, by omega, by simp, by first | rfl | trivial, by first | rfl | trivial, by show _ = _; rw [HST.out, ← hY.out]⟩
        case measure => simp [intOf]
      · have hst := val_step (k := 5) (c := a5) (show 5 < [a0, a1, a2, a3, a4, a5, a6, a7].length by show 5 < 8; decide) rfl
        have hbo := bits_or_byte (x := (Y : Int)) (c := (a5.toNat : Int)) (by omega) (by omega) (by omega) (by omega)
        have HST := Lib.hid hst; clear hst
        have hix := idx5
        go_wp2
        go_roundw
        case rel => exact ⟨6, Y * 256 + a5.toNat, by omega, by simp, by first | rfl | trivial, by first | rfl | trivial, by show _ = _; rw [HST.out, ← hY.out]⟩
        case measure => simp [intOf]
      · have hst := val_step (k := 6) (c := a6) (show 6 < [a0, a1, a2, a3, a4, a5, a6, a7].length by show 6 < 8; decide) rfl
        have hbo := bits_or_byte (x := (Y : Int)) (c := (a6.toNat : Int)) (by omega) (by omega) (by omega) (by omega)
        have HST := Lib.hid hst; clear hst
        have hix := idx6
        go_wp2
        go_roundw
        case rel => exact ⟨7, Y * 256 + a6.toNat, by omega, by simp, by first | rfl | trivial, by first | rfl | trivial, by show _ = _; rw [HST.out, ← hY.out]⟩
        case measure => simp [intOf]
      · have hst := val_step (k := 7) (c := a7) (show 7 < [a0, a1, a2, a3, a4, a5, a6, a7].length by show 7 < 8; decide) rfl
        have hbo := bits_or_byte (x := (Y : Int)) (c := (a7.toNat : Int)) (by omega) (by omega) (by omega) (by omega)
        have HST := Lib.hid hst; clear hst
        have hix := idx7
        go_wp2
        go_roundw
        case rel => exact ⟨8, Y * 256 + a7.toNat, by omega, by simp, by first | rfl | trivial, by first | rfl | trivial, by show _ = _; rw [HST.out, ← hY.out]⟩
        case measure => simp [intOf]
    · obtain rfl : j = 8 := by omega
      have hYX : Y = X := hY.out.trans HVZ.out
      subst hYX
      go_wp2_with fail
      refine (numbered_any Y _ hX8).mono ?_
      rintro e w' ⟨rfl, rfl⟩
      go_wp2_with fail
      go_ret2
      exact ⟨rfl, hb2⟩
set_option maxHeartbeats 1000000 in
theorem number_zero (s : ByteArray) (w : World) (h0 : 0 < s.size) (hs : s.size ≤ 4398046511104) (h1 : s[0].toNat = 0) :
    Calls Try.prog 56 #[.string s] w fun e w' => e = .returned (.tuple #[.int .i64 0, .int .i64 1]) ∧ Below w.heap.size w w' := by
  have hemp := empty_no s h0
  have hne : ¬ s = ByteArray.empty := by intro e; subst e; simp at h0
  have hq1 : (1 : Int) ≤ (s.size : Int) := by omega
  obtain ⟨X, hX⟩ : ∃ X, X = 0 := ⟨0, rfl⟩
  obtain ⟨zs, hzs⟩ : ∃ zs, List.replicate 8 (0 : UInt8) = zs := ⟨_, rfl⟩
  have hzl : zs.length = 8 := by rw [← hzs]; rfl
  have hvz : val zs = X := by rw [← hzs, hX]; rfl
  have hn0 : (0 : Int) = nx X := by rw [hX]; rfl
  have hX8 : X < 18446744073709551616 := by omega
  have hrow : (z8.toList.take 0 ++ Lib.byteCells [] ++ z8.toList.drop (0 + 0)).toArray = (Lib.byteCells zs).toArray := by rw [← hzs]; rfl
  have hex : ByteArray.empty.data.toList = [] := rfl
  have hes : ByteArray.empty.size = 0 := rfl
  have hwr8 : IntKind.i64.wrap 8 = 8 := by decide
  rw [show (Ending.returned (.tuple #[.int .i64 0, .int .i64 1])) = .returned (.tuple #[.int .i64 (nx X), .int .i64 1]) from by rw [← hn0]]
  have HROW := Lib.hid hrow; have HEX := Lib.hid hex; have HES := Lib.hid hes; have HZL := Lib.hid hzl; have HVZ := Lib.hid hvz
  clear hrow hex hes hzs hX hzl hvz hn0
  have hal : Try.prog.arrayLen 92 = 8 := by kernel_rfl
  go_enter Try.func56, Try.ntmps56
  go_wp2
  go_region_law (refine step_copy_row rfl (.tmp 36) (.tmp 39) 74 9 rfl 5 Try.underlying74 info8 w.heap.size 0 0 0 (by simp [Act.eval, Act.put]) ByteArray.empty (by simp [Act.eval, Act.put]) z8 92 (heap_alloc_new _ _) (Nat.le_of_eq HES.out) (by rw [HES.out]; show 0 + 0 ≤ 8; omega) (Lib.byteCells zs).toArray (by rw [HEX.out, HES.out]; exact HROW.out) ?_)
  have hb2 : Below w.heap.size w (((w.alloc (.cells z8 92)).drew).setRow w.heap.size (Lib.byteCells zs).toArray) := below_setRow (((Below.refl _ w).alloc (Nat.le_refl _) _).drew) (Nat.le_refl _) _
  have hh2 : (((w.alloc (.cells z8 92)).drew).setRow w.heap.size (Lib.byteCells zs).toArray).heap[w.heap.size]? = some (.cells (Lib.byteCells zs).toArray 92 (0, 0)) := heap_setRow_at (heap_alloc_new w (.cells z8 92) : (w.alloc (.cells z8 92)).drew.heap[w.heap.size]? = _) (Lib.byteCells zs).toArray
  change Exit.then _ _ _ _ (((w.alloc (.cells z8 92)).drew).setRow w.heap.size (Lib.byteCells zs).toArray)
  generalize (((w.alloc (.cells z8 92)).drew).setRow w.heap.size (Lib.byteCells zs).toArray) = w2 at *
  obtain ⟨a0, a1, a2, a3, a4, a5, a6, a7, rfl⟩ := eight HZL.out
  have c0 := cell_run hh2 0 (by show 0 < 8; decide)
  have c1 := cell_run hh2 1 (by show 1 < 8; decide)
  have c2 := cell_run hh2 2 (by show 2 < 8; decide)
  have c3 := cell_run hh2 3 (by show 3 < 8; decide)
  have c4 := cell_run hh2 4 (by show 4 < 8; decide)
  have c5 := cell_run hh2 5 (by show 5 < 8; decide)
  have c6 := cell_run hh2 6 (by show 6 < 8; decide)
  have c7 := cell_run hh2 7 (by show 7 < 8; decide)
  simp only [List.getD_cons_succ, List.getD_cons_zero] at c0 c1 c2 c3 c4 c5 c6 c7
  clear hh2 HZL HROW HEX HES hal
  have l0 := a0.toNat_lt; have l1 := a1.toNat_lt; have l2 := a2.toNat_lt; have l3 := a3.toNat_lt
  have l4 := a4.toNat_lt; have l5 := a5.toNat_lt; have l6 := a6.toNat_lt; have l7 := a7.toNat_lt
  go_wp2
  clear c0 c1 c2 c3 c4 c5 c6 c7
  go_loopw [5, 42] (fun x i wr => ∃ (j Y : Nat), j ≤ 8 ∧ x = .int .u64 (Y : Int) ∧ i = .int .i64 (j : Int) ∧ wr = w2 ∧ Hid (Y = val ([a0, a1, a2, a3, a4, a5, a6, a7].take j))) (fun _ i _ => 8 - (intOf i).toNat)
  case atStart => exact ⟨0, 0, by omega, rfl, rfl, rfl, rfl⟩
  case round =>
    obtain ⟨j, Y, hj, rfl, rfl, rfl, hY⟩ := hrel
    by_cases hlt : j < 8
    · have hY56 : Y ≤ 72057594037927935 := by
        have := val_lt56 (l := [a0, a1, a2, a3, a4, a5, a6, a7].take j) (by rw [List.length_take]; omega)
        rw [← hY.out] at this; omega
      obtain rfl | rfl | rfl | rfl | rfl | rfl | rfl | rfl : j = 0 ∨ j = 1 ∨ j = 2 ∨ j = 3 ∨ j = 4 ∨ j = 5 ∨ j = 6 ∨ j = 7 := by omega
      · have hst := val_step (k := 0) (c := a0) (show 0 < [a0, a1, a2, a3, a4, a5, a6, a7].length by show 0 < 8; decide) rfl
        have hbo := bits_or_byte (x := (Y : Int)) (c := (a0.toNat : Int)) (by omega) (by omega) (by omega) (by omega)
        have HST := Lib.hid hst; clear hst
        have hix := idx0
        go_wp2
        go_roundw
        case rel => exact ⟨1, Y * 256 + a0.toNat, by omega, by simp, by first | rfl | trivial, by first | rfl | trivial, by show _ = _; rw [HST.out, ← hY.out]⟩
        case measure => simp [intOf]
      · have hst := val_step (k := 1) (c := a1) (show 1 < [a0, a1, a2, a3, a4, a5, a6, a7].length by show 1 < 8; decide) rfl
        have hbo := bits_or_byte (x := (Y : Int)) (c := (a1.toNat : Int)) (by omega) (by omega) (by omega) (by omega)
        have HST := Lib.hid hst; clear hst
        have hix := idx1
        go_wp2
        go_roundw
        case rel => exact ⟨2, Y * 256 + a1.toNat, by omega, by simp, by first | rfl | trivial, by first | rfl | trivial, by show _ = _; rw [HST.out, ← hY.out]⟩
        case measure => simp [intOf]
      · have hst := val_step (k := 2) (c := a2) (show 2 < [a0, a1, a2, a3, a4, a5, a6, a7].length by show 2 < 8; decide) rfl
        have hbo := bits_or_byte (x := (Y : Int)) (c := (a2.toNat : Int)) (by omega) (by omega) (by omega) (by omega)
        have HST := Lib.hid hst; clear hst
        have hix := idx2
        go_wp2
        go_roundw
        case rel => exact ⟨3, Y * 256 + a2.toNat, by omega, by simp, by first | rfl | trivial, by first | rfl | trivial, by show _ = _; rw [HST.out, ← hY.out]⟩
        case measure => simp [intOf]
      · have hst := val_step (k := 3) (c := a3) (show 3 < [a0, a1, a2, a3, a4, a5, a6, a7].length by show 3 < 8; decide) rfl
        have hbo := bits_or_byte (x := (Y : Int)) (c := (a3.toNat : Int)) (by omega) (by omega) (by omega) (by omega)
        have HST := Lib.hid hst; clear hst
        have hix := idx3
        go_wp2
        go_roundw
        case rel => exact ⟨4, Y * 256 + a3.toNat, by omega, by simp, by first | rfl | trivial, by first | rfl | trivial, by show _ = _; rw [HST.out, ← hY.out]⟩
        case measure => simp [intOf]
      · have hst := val_step (k := 4) (c := a4) (show 4 < [a0, a1, a2, a3, a4, a5, a6, a7].length by show 4 < 8; decide) rfl
        have hbo := bits_or_byte (x := (Y : Int)) (c := (a4.toNat : Int)) (by omega) (by omega) (by omega) (by omega)
        have HST := Lib.hid hst; clear hst
        have hix := idx4
        go_wp2
        go_roundw
        case rel => exact ⟨5, Y * 256 + a4.toNat, by omega, by simp, by first | rfl | trivial, by first | rfl | trivial, by show _ = _; rw [HST.out, ← hY.out]⟩
        case measure => simp [intOf]
      · have hst := val_step (k := 5) (c := a5) (show 5 < [a0, a1, a2, a3, a4, a5, a6, a7].length by show 5 < 8; decide) rfl
        have hbo := bits_or_byte (x := (Y : Int)) (c := (a5.toNat : Int)) (by omega) (by omega) (by omega) (by omega)
        have HST := Lib.hid hst; clear hst
        have hix := idx5
        go_wp2
        go_roundw
        case rel => exact ⟨6, Y * 256 + a5.toNat, by omega, by simp, by first | rfl | trivial, by first | rfl | trivial, by show _ = _; rw [HST.out, ← hY.out]⟩
        case measure => simp [intOf]
      · have hst := val_step (k := 6) (c := a6) (show 6 < [a0, a1, a2, a3, a4, a5, a6, a7].length by show 6 < 8; decide) rfl
        have hbo := bits_or_byte (x := (Y : Int)) (c := (a6.toNat : Int)) (by omega) (by omega) (by omega) (by omega)
        have HST := Lib.hid hst; clear hst
        have hix := idx6
        go_wp2
        go_roundw
        case rel => exact ⟨7, Y * 256 + a6.toNat, by omega, by simp, by first | rfl | trivial, by first | rfl | trivial, by show _ = _; rw [HST.out, ← hY.out]⟩
        case measure => simp [intOf]
      · have hst := val_step (k := 7) (c := a7) (show 7 < [a0, a1, a2, a3, a4, a5, a6, a7].length by show 7 < 8; decide) rfl
        have hbo := bits_or_byte (x := (Y : Int)) (c := (a7.toNat : Int)) (by omega) (by omega) (by omega) (by omega)
        have HST := Lib.hid hst; clear hst
        have hix := idx7
        go_wp2
        go_roundw
        case rel => exact ⟨8, Y * 256 + a7.toNat, by omega, by simp, by first | rfl | trivial, by first | rfl | trivial, by show _ = _; rw [HST.out, ← hY.out]⟩
        case measure => simp [intOf]
    · obtain rfl : j = 8 := by omega
      have hYX : Y = X := hY.out.trans HVZ.out
      subst hYX
      go_wp2_with fail
      refine (numbered_any Y _ hX8).mono ?_
      rintro e w' ⟨rfl, rfl⟩
      go_wp2_with fail
      go_ret2
      exact ⟨rfl, hb2⟩
theorem ret_num {a b c d : Int} (h : a = c) (k : b = d) : Ending.returned (.tuple #[.int .i64 a, .int .i64 b]) = .returned (.tuple #[.int .i64 c, .int .i64 d]) := by rw [h, k]
theorem number_any (s : ByteArray) (w : World) (hs : s.size ≤ 4398046511104) :
    Calls Try.prog 56 #[.string s] w fun e w' => e = .returned (.tuple #[.int .i64 (numOut s.data.toList).1, .int .i64 (numOut s.data.toList).2]) ∧ Below w.heap.size w w' := by
  by_cases h0 : s.size = 0
  · have hnil : s.data.toList = [] := List.eq_nil_of_length_eq_zero (by rw [len_list]; exact h0)
    rw [numOut_no (ok_no (.inl hnil))]
    have hemp := empty_yes s h0
    clear hnil
    go_enter Try.func56, Try.ntmps56
    go_wp2
    go_ret2
    exact ⟨rfl, Below.refl _ _⟩
  have h0' : 0 < s.size := by omega
  obtain ⟨k, hk⟩ : ∃ k, s[0].toNat = k := ⟨_, rfl⟩
  have hnl : nl s.data.toList = k := by unfold nl; rw [headD_at s h0', hk]
  have hemp := empty_no s h0'
  by_cases h8 : 8 < k
  · rw [numOut_no (ok_no (.inr (.inl (by omega))))]
    clear hnl
    go_enter Try.func56, Try.ntmps56
    go_wp2
    go_ret2
    exact ⟨rfl, Below.refl _ _⟩
  by_cases hsz : s.size ≤ k
  · rw [numOut_no (ok_no (.inr (.inr (.inl (by rw [len_list]; omega)))))]
    clear hnl
    go_enter Try.func56, Try.ntmps56
    go_wp2
    go_ret2
    exact ⟨rfl, Below.refl _ _⟩
  by_cases hz : k = 0
  · subst hz
    have hok : ok s.data.toList = true := ok_iff.2 ⟨by intro e; have := len_list s; rw [e] at this; simp at this; omega, by omega, by rw [len_list]; omega, by rw [nb_zero hnl]; decide⟩
    rw [numOut_yes hok, hnl]
    refine (number_zero s w h0' hs hk).mono ?_
    rintro e w' ⟨rfl, hb⟩
    exact ⟨ret_num (by unfold num; rw [nb_zero hnl]; rfl) rfl, hb⟩
  have h1' : 1 < s.size := by omega
  by_cases h1 : s[1].toNat = 0
  · have hb : (nb s.data.toList).headD 1 = 0 := by
      rw [nb_head (by omega) (by rw [len_list]; exact h1'), at_getD s 1 h1']
      exact UInt8.toNat_inj.1 h1
    rw [numOut_no (ok_no (.inr (.inr (.inr hb))))]
    clear hnl hb
    go_enter Try.func56, Try.ntmps56
    go_wp2
    go_ret2
    exact ⟨rfl, Below.refl _ _⟩
  · have hb : (nb s.data.toList).headD 1 ≠ 0 := by
      rw [nb_head (by omega) (by rw [len_list]; exact h1'), at_getD s 1 h1']
      exact fun e => h1 (congrArg UInt8.toNat e)
    have hok : ok s.data.toList = true := ok_iff.2 ⟨by intro e; have := len_list s; rw [e] at this; simp at this; omega, by omega, by rw [len_list]; omega, hb⟩
    rw [numOut_yes hok, hnl]
    refine (number_yes s k w h0' hs hk (by omega) (by omega) (by omega) h1).mono ?_
    rintro e w' ⟨rfl, hb2⟩
    exact ⟨ret_num (by unfold num nb; rw [hnl]) rfl, hb2⟩
end Go.Proofs.Ytamcidlkbhanfaa.Wire
