/-
  The contracts of crc.Read and of the document's Read: any text; what was there stays as it was.
-/
import Derived.Test.YtgfgegalffffpaaCrcB
import Derived.Deep.RegionLaw
set_option linter.unusedVariables false
namespace Go.Proofs.Ytgfgegalffffpaa
open Go.RowKit CrcP

theorem heap_setRow_at {w : World} {g : Nat} {cur : Array Value} {t : TypeId} {fr : Nat × Nat} (h : w.heap[g]? = some (.cells cur t fr)) (cs : Array Value) : (w.setRow g cs).heap[g]? = some (.cells cs t fr) := by
  simp [World.setRow, Array.getElem?_modify, h]
theorem below_setRow {B g : Nat} {a w : World} (h : Below B a w) (hg : B ≤ g) (cs : Array Value) : Below B a (w.setRow g cs) :=
  h.trans ⟨rfl, rfl, rfl, by simp, fun k hk => by simp only [World.setRow, Array.getElem?_modify]; rw [if_neg (by omega)]⟩
/-- 'copy(dst, s)', dst in a row whose cells are known, as a law of the walk. -/
theorem wpList_copy_row {P : Program} {ops : Array Oper} {rest : List Oper} {o : Oper} {a : Act} {w : World} {Q : Exit → Act → World → Prop}
    (hgd : o.guard = none) (d x : Operand) (dT sT : TypeId) (hop : o.op = Op.call { callee := Callee.builtin Builtin.copy, args := #[d, x], argTypes := #[dT, sT] })
    (elem : TypeId) (hu : P.underlying dT = some (.slice elem)) (hs : (P.info? elem).map (·.size) = some 1)
    (g off dLen dCap : Nat) (hd : a.eval d = .slice (some ⟨g, off, none⟩) dLen dCap) (t : ByteArray) (hx : a.eval x = .string t) (cur : Array Value) (ty : TypeId)
    (hgh : w.heap[g]? = some (.cells cur ty (0, 0))) (hle : t.size ≤ dLen) (hfit : off + t.size ≤ cur.size)
    (row : Array Value) (hrow : (cur.toList.take off ++ Lib.byteCells t.data.toList ++ cur.toList.drop (off + t.size)).toArray = row)
    (h : ∀ w', w'.heap[g]? = some (.cells row ty (0, 0)) → (∀ B a, B ≤ g → Below B a w → Below B a w') → wpList P ops Q rest (a.put o.dst (goInt t.size)) w') :
    wpList P ops Q (o :: rest) a w := by
  refine wpList_plain hgd fun K hK => ?_
  have hrun := Lib.run_copy_row_string (P := P) w dT sT o.type elem g off dLen dCap t cur ty hu hs hgh hle hfit
  rw [hrow] at hrun
  unfold Oper.wp
  simp [execOp, hop, resolve, invoke, builtin, hd, hx, hrun, Result.andThen]
  exact hK _ _ (h _ (heap_setRow_at hgh row) (fun B a hB hb => below_setRow hb hB row))
def z4 : Array Value := #[.int .u8 0, .int .u8 0, .int .u8 0, .int .u8 0]
theorem info8 : (Try.prog.info? 5).map (·.size) = some 1 := by kernel_rfl
theorem four {zs : List UInt8} (h : zs.length = 4) : ∃ a b c d : UInt8, zs = [a, b, c, d] := by
  match zs, h with
  | [a, b, c, d], _ => exact ⟨a, b, c, d, rfl⟩
theorem cell_run {w : World} {g : Nat} {zs : List UInt8} {t : TypeId} (h : w.heap[g]? = some (.cells (Lib.byteCells zs).toArray t (0, 0))) (i : Nat) (hi : i < zs.length) :
    w.cell? ⟨g, i, none⟩ = some (.int .u8 ((zs.getD i 0).toNat : Int)) := by
  rw [cell_of_heap h]
  simp [Lib.byteCells, List.getD, hi]
theorem idx0 (w : World) (v0 v1 v2 v3 : Value) : (Instr.index 34 (.agg #[v0, v1, v2, v3]) (.int .i64 0)).run Try.prog w = .ok v0 w := by kernel_rfl
theorem idx1 (w : World) (v0 v1 v2 v3 : Value) : (Instr.index 34 (.agg #[v0, v1, v2, v3]) (.int .i64 1)).run Try.prog w = .ok v1 w := by kernel_rfl
theorem idx2 (w : World) (v0 v1 v2 v3 : Value) : (Instr.index 34 (.agg #[v0, v1, v2, v3]) (.int .i64 2)).run Try.prog w = .ok v2 w := by kernel_rfl
theorem idx3 (w : World) (v0 v1 v2 v3 : Value) : (Instr.index 34 (.agg #[v0, v1, v2, v3]) (.int .i64 3)).run Try.prog w = .ok v3 w := by kernel_rfl
theorem bits_or_byte (x c : Nat) (h1 : x ≤ 16777215) (h3 : c ≤ 255) : bits .or .u32 ((x : Int) * 256) (c : Int) = ((x * 256 + c : Nat) : Int) := by
  have h := u32_or_nat (x * 256) c (by omega) (by omega)
  rw [Nat.mul_comm x, show (256 : Nat) = 2 ^ 8 from rfl, ← Nat.two_pow_add_eq_or_of_lt (show c < 2 ^ 8 by omega)] at h
  rw [show (x : Int) * 256 = ((2 ^ 8 * x : Nat) : Int) by omega, h]
  congr 1; omega
theorem num_lt_of (l : List UInt8) {m : Nat} (h : 256 ^ l.length ≤ m) : num l < m := Nat.lt_of_lt_of_le (num_lt l) h
theorem str_eq {s : ByteArray} {l : List UInt8} (h : s.data.toList = l) : s = ⟨l.toArray⟩ := by subst h; cases s; simp
theorem read_four (a b c d : UInt8) (w : World) :
    Calls Try.prog 7 #[.string ⟨#[a, b, c, d]⟩] w fun e w' => e = .returned (.tuple #[.int .u32 ((num [a, b, c, d] : Nat) : Int), .int .i64 0]) ∧ Below w.heap.size w w' := by
  obtain ⟨s, hs⟩ : ∃ s : ByteArray, (⟨#[a, b, c, d]⟩ : ByteArray) = s := ⟨_, rfl⟩
  have hl : s.data.toList = [a, b, c, d] := by rw [← hs]
  have hz : s.size = 4 := by rw [← hs]; rfl
  have hrow : (z4.toList.take 0 ++ Lib.byteCells s.data.toList ++ z4.toList.drop (0 + s.size)).toArray = (Lib.byteCells [a, b, c, d]).toArray := by rw [hl, hz]; rfl
  have ha := a.toNat_lt; have hb := b.toNat_lt; have hc := c.toNat_lt; have hd := d.toNat_lt
  obtain ⟨x1, e1⟩ : ∃ x, num [a] = x := ⟨_, rfl⟩
  obtain ⟨x2, e2⟩ : ∃ x, num [a, b] = x := ⟨_, rfl⟩
  obtain ⟨x3, e3⟩ : ∃ x, num [a, b, c] = x := ⟨_, rfl⟩
  obtain ⟨x4, e4⟩ : ∃ x, num [a, b, c, d] = x := ⟨_, rfl⟩
  have l1 : x1 < 256 := by rw [← e1]; exact num_lt_of [a] (by show 256 ^ 1 ≤ 256; decide)
  have l2 : x2 < 65536 := by rw [← e2]; exact num_lt_of [a, b] (by show 256 ^ 2 ≤ 65536; decide)
  have l3 : x3 < 16777216 := by rw [← e3]; exact num_lt_of [a, b, c] (by show 256 ^ 3 ≤ 16777216; decide)
  have g1 : x1 = a.toNat := by rw [← e1]; simp [num]
  have g2 : x1 * 256 + b.toNat = x2 := by rw [← e1, ← e2]; simp [num]
  have g3 : x2 * 256 + c.toNat = x3 := by rw [← e2, ← e3]; simp [num]
  have g4 : x3 * 256 + d.toNat = x4 := by rw [← e3, ← e4]; simp [num]
  have b1 := bits_or_byte 0 a.toNat (by omega) (by omega)
  have b2 := bits_or_byte x1 b.toNat (by omega) (by omega)
  have b3 := bits_or_byte x2 c.toNat (by omega) (by omega)
  have b4 := bits_or_byte x3 d.toNat (by omega) (by omega)
  have g0 : 0 * 256 + a.toNat = x1 := by rw [Nat.zero_mul, Nat.zero_add, g1]
  rw [g0, show ((0 : Nat) : Int) * 256 = 0 from rfl] at b1
  rw [g2] at b2
  rw [g3] at b3
  rw [g4] at b4
  rw [hs, e4]
  have HROW := Lib.hid hrow; have HZ := Lib.hid (Nat.le_of_eq hz)
  clear g0 hs hl e1 e2 e3 e4 g1 g2 g3 g4 hrow
  have hi0 := idx0; have hi1 := idx1; have hi2 := idx2; have hi3 := idx3
  go_enter Try.func7, Try.ntmps7
  go_wp2_with (refine wpList_copy_row rfl (.tmp 14) (.tmp 15) 33 9 rfl 5 Try.underlying33 info8 w.heap.size 0 4 4 rfl s rfl z4 34 (heap_alloc_new _ _) HZ.out (Nat.le_trans (Nat.add_le_add_left HZ.out 0) (by decide)) _ HROW.out ?_)
  intro w2 hh hbe
  have hb2 : Below w.heap.size w w2 := hbe _ _ (Nat.le_refl _) ((Below.refl _ w).alloc (Nat.le_refl _) _)
  have c0 := cell_run hh 0 (by show 0 < 4; decide)
  have c1 := cell_run hh 1 (by show 1 < 4; decide)
  have c2 := cell_run hh 2 (by show 2 < 4; decide)
  have c3 := cell_run hh 3 (by show 3 < 4; decide)
  simp only [List.getD_cons_succ, List.getD_cons_zero] at c0 c1 c2 c3
  clear hh hbe
  go_wp2
  clear c0 c1 c2 c3
  go_loopw [5, 18] (fun x i wr => ∃ j Y : Nat, j ≤ 4 ∧ x = .int .u32 (Y : Int) ∧ i = .int .i64 (j : Int) ∧ wr = w2 ∧ Hid (Y = [0, x1, x2, x3, x4].getD j 0)) (fun _ i _ => 4 - (intOf i).toNat)
  case atStart => exact ⟨0, 0, by omega, rfl, rfl, rfl, rfl⟩
  case round =>
    obtain ⟨j, Y, hj, rfl, rfl, rfl, hY⟩ := hrel
    by_cases hlt : j < 4
    · obtain rfl | rfl | rfl | rfl : j = 0 ∨ j = 1 ∨ j = 2 ∨ j = 3 := by omega
      · obtain rfl : Y = 0 := hY.out
        go_wp2
        go_roundw
        case rel => exact ⟨1, x1, by omega, rfl, rfl, by trivial, rfl⟩
        case measure => simp [intOf]
      · obtain rfl : Y = x1 := hY.out
        go_wp2
        go_roundw
        case rel => exact ⟨2, x2, by omega, rfl, rfl, by trivial, rfl⟩
        case measure => simp [intOf]
      · obtain rfl : Y = x2 := hY.out
        go_wp2
        go_roundw
        case rel => exact ⟨3, x3, by omega, rfl, rfl, by trivial, rfl⟩
        case measure => simp [intOf]
      · obtain rfl : Y = x3 := hY.out
        go_wp2
        go_roundw
        case rel => exact ⟨4, x4, by omega, rfl, rfl, by trivial, rfl⟩
        case measure => simp [intOf]
    · obtain rfl : j = 4 := by omega
      obtain rfl : Y = x4 := hY.out
      go_wp2
      go_ret2
      exact ⟨rfl, hb2⟩
theorem read_any (s : ByteArray) (w : World) (hs : s.size ≤ 9223372036854775807) :
    Calls Try.prog 7 #[.string s] w fun e w' => e = .returned (.tuple #[.int .u32 ((rd s.data.toList).1 : Int), .int .i64 (rd s.data.toList).2]) ∧ Below w.heap.size w w' := by
  have hl := len_list s
  by_cases h4 : s.size = 4
  · obtain ⟨a, b, c, d, he⟩ := four (zs := s.data.toList) (by rw [hl, h4])
    rw [rd_four (by rw [hl, h4]), he, str_eq he]
    exact read_four a b c d w
  by_cases hlt : s.size < 4
  · rw [rd_short (by omega)]
    clear hl h4
    go_enter Try.func7, Try.ntmps7
    go_wp2
    go_ret2
    exact ⟨rfl, Below.refl _ _⟩
  · have h5 : 4 < s.size := by omega
    rw [rd_long (by omega)]
    clear hl h4 hlt
    go_enter Try.func7, Try.ntmps7
    go_wp2
    go_ret2
    exact ⟨rfl, Below.refl _ _⟩
theorem num_step (s : ByteArray) (j : Nat) (h : j < s.size) : num (s.data.toList.take (j + 1)) = num (s.data.toList.take j) * 256 + s[j].toNat := by
  rw [take_step s j h, num_snoc]
theorem rread_any (s : ByteArray) (w : World) (hs : s.size ≤ 9223372036854775807) :
    Calls Try.prog 8 #[.string s] w fun e w' => e = .returned (.tuple #[.int .u32 ((rd s.data.toList).1 : Int), .int .i64 (rd s.data.toList).2]) ∧ Below w.heap.size w w' := by
  have hl := len_list s
  by_cases h4 : s.size = 4
  · rw [rd_four (by rw [hl, h4])]
    obtain ⟨r, hr⟩ : ∃ r, num s.data.toList = r := ⟨_, rfl⟩
    rw [hr]
    have HR := Lib.hid hr
    clear hl hr
    go_enter Try.func8, Try.ntmps8
    go_wp2
    go_loopw [4, 5] (fun x i wr => ∃ j Y : Nat, j ≤ 4 ∧ x = .int .u32 (Y : Int) ∧ i = .int .i64 (j : Int) ∧ wr = w ∧ Hid (Y = num (s.data.toList.take j))) (fun _ i _ => 4 - (intOf i).toNat)
    case atStart => exact ⟨0, 0, by omega, rfl, rfl, rfl, rfl⟩
    case round =>
      obtain ⟨j, Y, hj, rfl, rfl, rfl, hY⟩ := hrel
      by_cases hlt : j < 4
      · have hjs : j < s.size := by omega
        have hst := num_step s j hjs
        have hY2 : Y ≤ 16777215 := by
          have h1 := num_lt (s.data.toList.take j)
          rw [← hY.out] at h1
          have h2 : 256 ^ (s.data.toList.take j).length ≤ 256 ^ 3 := Nat.pow_le_pow_right (by decide) (by rw [List.length_take]; omega)
          have h3 : (256 : Nat) ^ 3 = 16777216 := by decide
          omega
        have hcl := s[j].toNat_lt
        have HST := Lib.hid hst; clear hst
        go_wp2
        go_roundw
        case rel => exact ⟨j + 1, Y * 256 + s[j].toNat, by omega, by go_num, by go_num, by trivial, by show _ = _; rw [HST.out, ← hY.out]⟩
        case measure => simp [intOf]; omega
      · obtain rfl : j = 4 := by omega
        have hYr : Y = r := by rw [hY.out, ← HR.out]; congr 1; exact List.take_of_length_le (by rw [len_list]; omega)
        subst hYr
        clear hY HR
        go_wp2
        go_ret2
        exact ⟨rfl, Below.refl _ _⟩
  by_cases hlt : s.size < 4
  · rw [rd_short (by omega)]
    clear hl h4
    go_enter Try.func8, Try.ntmps8
    go_wp2
    go_ret2
    exact ⟨rfl, Below.refl _ _⟩
  · have h5 : 4 < s.size := by omega
    rw [rd_long (by omega)]
    clear hl h4 hlt
    go_enter Try.func8, Try.ntmps8
    go_wp2
    go_ret2
    exact ⟨rfl, Below.refl _ _⟩
end Go.Proofs.Ytgfgegalffffpaa
