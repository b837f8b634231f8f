/-
  The contract of wire.appendInt: any row of octets of the caller's own, any number.
-/
import Derived.Test.YtamcidlkbhanfaaWireC
set_option linter.unusedVariables false
set_option maxRecDepth 4000
namespace Go.Proofs.Ytamcidlkbhanfaa.Wire
open Go.RowKit WireP

def zero8 : Array Value := #[.int .u8 0, .int .u8 0, .int .u8 0, .int .u8 0, .int .u8 0, .int .u8 0, .int .u8 0, .int .u8 0]
/-- What is told of the array: eight cells, the last ones these octets. -/
def TailIs (cur : Array Value) (l : List UInt8) : Prop := cur.size = 8 ∧ cur.toList.drop (8 - l.length) = Lib.byteCells l
theorem tailIs_step {cur : Array Value} {l : List UInt8} {j : Nat} {c : UInt8} (h : TailIs cur l) (hj : j + 1 + l.length = 8) : TailIs (cur.setIfInBounds j (.int .u8 (c.toNat : Int))) (c :: l) := by
  obtain ⟨h1, h2⟩ := h
  refine ⟨by simp [h1], ?_⟩
  have e1 : 8 - (c :: l).length = j := by simp; omega
  have e2 : 8 - l.length = j + 1 := by omega
  rw [e1]
  rw [e2] at h2
  have hl : cur.toList.length = 8 := by simp [h1]
  rw [Array.toList_setIfInBounds, List.drop_eq_getElem_cons (by rw [List.length_set]; omega), List.getElem_set_self, List.drop_set_of_lt (by omega), h2]
  rfl
theorem tailIs_cell {cur : Array Value} {l : List UInt8} {i : Nat} {u : Value} {j : Nat} (h : TailIs cur l) (hj : j + l.length = 8) (hu : (Lib.byteCells l)[i]? = some u) : cur[j + i]? = some u := by
  obtain ⟨h1, h2⟩ := h
  rw [show 8 - l.length = j by omega] at h2
  rw [← h2, List.getElem?_drop] at hu
  rw [← Array.getElem?_toList]; exact hu
theorem add_at (g j i : Nat) : (⟨g, j, none⟩ : Addr).add i = ⟨g, j + i, none⟩ := by unfold Addr.add; split <;> simp_all
theorem byteCells_cons (c : UInt8) (l : List UInt8) : Lib.byteCells (c :: l) = .int .u8 (c.toNat : Int) :: Lib.byteCells l := rfl
theorem owns_cast {w : World} {B n m : Nat} {e : TypeId} {v : Value} {xs ys : List Value} (h : w.ownsRow B e 1 v n xs) (hn : n = m) (hx : xs = ys) : w.ownsRow B e 1 v m ys := by rw [← hn, ← hx]; exact h
/-- One octet more, and a row of octets more, behind a row of the call's own. -/
theorem append_one {ops : Array Oper} {rest : List Oper} {o : Oper} {a : Act} {Q : Exit → Act → World → Prop} (hgd : o.guard = none) (s x : Operand)
    (ho : o.op = .call { callee := .builtin .append, args := #[s, x], argTypes := #[74, 74] }) (base : Nat) (w : World) (c : Int)
    (v : Value) (n : Nat) (xs : List Value) (hs : a.eval s = v) (hown : w.ownsRow base 5 1 v n xs) (hx : a.eval x = .slice (some ⟨w.heap.size, 0, none⟩) 1 1)
    (hn : n ≤ 4398046511200) (hbase : base ≤ w.heap.size)
    (h : ∀ v' w', w'.ownsRow base 5 1 v' (n + 1) (xs ++ [.int .u8 c]) → (w.alloc (.cells #[.int .u8 c] 5)).grownBy w' v.ownBlock → wpList Try.prog ops Q rest (a.put o.dst v') w') :
    wpList Try.prog ops Q (o :: rest) a (w.alloc (.cells #[.int .u8 c] 5)) := by
  obtain ⟨i0, hi, hz0, hz1, hz2⟩ := info_parts info_byte
  refine wpList_append_own _ hgd s x 74 ho base 5 i0 (.int .u8 0) 1 1 Try.underlying74 hi hz0 hz1 hz2 rfl (by decide) v n xs hs (hown.alloc _) ⟨w.heap.size, 0, none⟩ 1 1 [.int .u8 c] hx rfl (cell_one_new _ _ _) (by simp [Value.oneCell']) ?_ ?_ ?_ fun v' w' h1 h2 _ => h v' w' h1 h2
  · unfold maxLen; omega
  · omega
  · simp; omega
theorem append_row {ops : Array Oper} {rest : List Oper} {o : Oper} {a : Act} {Q : Exit → Act → World → Prop} (hgd : o.guard = none) (s x : Operand)
    (ho : o.op = .call { callee := .builtin .append, args := #[s, x], argTypes := #[74, 74] }) (base : Nat) (w : World) (l : List UInt8) (ad : Addr) (m k : Nat)
    (v : Value) (n : Nat) (xs : List Value) (hs : a.eval s = v) (hown : w.ownsRow base 5 1 v n xs) (hx : a.eval x = .slice (some ad) m k) (hl : l.length = m) (hcell : ∀ i u, (Lib.byteCells l)[i]? = some u → w.cell? (ad.add i) = some u)
    (hn : n + m ≤ 4398046511300) (hbase : base ≤ w.heap.size)
    (h : ∀ v' w', w'.ownsRow base 5 1 v' (n + m) (xs ++ Lib.byteCells l) → w.grownBy w' v.ownBlock → wpList Try.prog ops Q rest (a.put o.dst v') w') :
    wpList Try.prog ops Q (o :: rest) a w := by
  obtain ⟨i0, hi, hz0, hz1, hz2⟩ := info_parts info_byte
  refine wpList_append_own _ hgd s x 74 ho base 5 i0 (.int .u8 0) 1 1 Try.underlying74 hi hz0 hz1 hz2 rfl (by decide) v n xs hs hown ad m k (Lib.byteCells l) hx (by rw [Lib.byteCells_length, hl]; omega) hcell (Lib.byteCells_one _) ?_ ?_ hbase fun v' w' h1 h2 _ => h v' w' h1 h2
  · unfold maxLen; omega
  · omega
set_option maxHeartbeats 1000000 in
theorem appendInt_any (v : Value) (base : Nat) (pre : List UInt8) (n : Int) (w : World) (h0 : -9223372036854775808 ≤ n) (h1 : n ≤ 9223372036854775807)
    (hown : w.ownsRow base 5 1 v pre.length (Lib.byteCells pre)) (hbase : base ≤ w.heap.size) (hpl : pre.length ≤ 4398046511104) :
    Calls Try.prog 47 #[v, .int .i64 n] w fun e w' => ∃ v', e = .returned v' ∧ w'.ownsRow base 5 1 v' (pre ++ enc n).length (Lib.byteCells (pre ++ enc n)) ∧ Below base w w' := by
  obtain ⟨x, hx⟩ : ∃ x, ix n = x := ⟨_, rfl⟩
  have hx64 : x < 18446744073709551616 := by rw [← hx]; exact ix_lt h0 h1
  have hpl2 := fun w => index_any n w h0 h1
  obtain ⟨E, hE⟩ : ∃ E, enc n = E := ⟨_, rfl⟩
  have hE2 : E = UInt8.ofNat (be x).length :: be x := by rw [← hE, ← hx]; rfl
  rw [hx] at hpl2
  rw [hE]
  obtain ⟨a, cap, rfl⟩ := owns_slice' hown
  have HPL := Lib.hid hpl2; have HE := Lib.hid hE2; have HOWN := Lib.hid hown
  clear hpl2 hx hE hE2 hown
  have hal : Try.prog.arrayLen 92 = 8 := by kernel_rfl
  go_enter Try.func47, Try.ntmps47
  go_wp2_with fail
  refine (HPL.out _).mono ?_
  rintro e w' ⟨rfl, rfl⟩
  clear HPL
  go_wp2_with fail
  go_loopw [6, 7] (fun f p wr => ∃ (y j : Nat) (l : List UInt8) (cur : Array Value), f = .int .i64 (j : Int) ∧ p = .int .u64 (y : Int) ∧ y < 18446744073709551616 ∧ j ≤ 8 ∧ Hid (j + l.length = 8) ∧ Below w.heap.size w wr ∧ Hid (wr.heap[w.heap.size]? = some (.cells cur 92 (0, 0))) ∧ Hid (TailIs cur l) ∧ Hid (BeTo x y l)) (fun _ p _ => (intOf p).toNat)
  case atStart => exact ⟨x, 8, [], zero8, rfl, rfl, hx64, by omega, rfl, (Below.refl _ _).alloc (Nat.le_refl _) _, heap_alloc_new _ _, ⟨rfl, rfl⟩, by show be x = be x ++ []; simp⟩
  case round =>
    obtain ⟨y, j, l, cur, rfl, rfl, hy64, hj8, hjl, hbw, hheap, htail, hto⟩ := hrel
    by_cases hy : 0 < y
    · have hroom := beTo_room hto.out hx64 hy
      obtain ⟨i, rfl⟩ : ∃ i, j = i + 1 := ⟨j - 1, by have := hjl.out; omega⟩
      have HST := Lib.hid (beTo_step hto.out hy)
      have HTL := Lib.hid (tailIs_step (c := UInt8.ofNat (y % 256)) htail.out (by have := hjl.out; omega))
      have hsz : cur.size = 8 := htail.out.1
      have hcell : wr.cell? ⟨w.heap.size, i, none⟩ = some (cur[i]'(by omega)) := by rw [cell_of_heap hheap.out]; exact Array.getElem?_eq_getElem _
      have hfr : wr.frozen? ⟨w.heap.size, i, none⟩ = false := frozen_of_heap hheap.out
      have hsub : ((i + 1 : Nat) : Int) - 1 = (i : Int) := by omega
      have hi8 : (i : Int) < 8 := by omega
      have HS := Lib.hid hsz
      generalize cur[i]'(by rw [HS.out]; omega) = old at hcell
      have hmod : ((UInt8.ofNat (y % 256)).toNat : Int) = (y : Int) % 256 := by rw [ofNat_mod]; omega
      rw [hmod] at HTL
      clear hto htail hsz hmod
      go_wp2
      go_roundw
      case rel => exact ⟨y / 256, i, UInt8.ofNat (y % 256) :: l, _, rfl, by simp, by omega, by omega, by show i + (l.length + 1) = 8; have h : i + 1 + l.length = 8 := hjl.out; omega, hbw.setCell (Nat.le_refl _) _, Lib.heap_setCell_same (i := i) hheap.out _, HTL, HST⟩
      case measure => simp [intOf]; omega
    · obtain rfl : y = 0 := by omega
      have hend := beTo_end hto.out
      have hE3 : E = UInt8.ofNat l.length :: l := by rw [HE.out, hend]
      obtain ⟨L, hL⟩ : ∃ L, l.length = L := ⟨_, rfl⟩
      have hjL : j + L = 8 := by have h : j + l.length = 8 := hjl.out; omega
      have hq : 8 - j = L := by omega
      have hl8 : L ≤ 8 := by omega
      have hofn : ((UInt8.ofNat L).toNat : Int) = (L : Int) := by rw [UInt8.toNat_ofNat']; omega
      have hc : ∀ i u, (Lib.byteCells l)[i]? = some u → wr.cell? ⟨w.heap.size, j + i, none⟩ = some u := fun i u hu => (cell_of_heap hheap.out).trans (tailIs_cell htail.out hjl.out hu)
      have hown2 := owns_below HOWN.out hbw
      have hblk := fun k hk => HOWN.out.lt k hk
      have HBLK := Lib.hid hblk; clear hblk
      have hbw2 := hbw.size
      rw [hL] at hE3
      have HE3 := Lib.hid hE3; have HC := Lib.hid hc; have HOWN2 := Lib.hid hown2; have HL := Lib.hid hL; have HOFN := Lib.hid hofn
      have hB : w.heap.size < wr.heap.size := (Array.getElem?_eq_some_iff.1 hheap.out).1
      clear hto htail hheap hjl hend hE3 hc hown2 hL hofn HE HOWN
      have haj : (j : Int) ≤ 8 := by omega
      by_cases h8 : j = 8
      · subst h8
        obtain rfl : L = 0 := by omega
        obtain rfl : l = [] := List.eq_nil_of_length_eq_zero HL.out
        clear hq
        go_wp2_with (at_builtin; refine append_one rfl (.tmp 23) (.tmp 27) rfl base wr 0 (.slice a pre.length cap) pre.length (Lib.byteCells pre) rfl HOWN2.out rfl (by omega) (by omega) ?_)
        intro v1 w1 hown1 hgrow1
        have hb1 := ((hbw.mono hbase).alloc (Nat.le_trans hbase hbw2) (.cells #[.int .u8 0] 5)).grown hgrow1 (by simp; omega) (fun k hk => (HBLK.out k hk).1)
        have hnews : ∀ i u, (Lib.byteCells [])[i]? = some u → w1.cell? ((⟨w.heap.size, 0, none⟩ : Addr).add i) = some u := fun i u hu => by
          simp [Lib.byteCells] at hu
        have hsz1 := hgrow1.size
        have hbs1 : base ≤ w1.heap.size := by have := hb1.size; omega
        have HN := Lib.hid hnews; have HO := Lib.hid hown1
        clear hgrow1 hnews hown1 hsz1
        go_wp2_with (at_builtin; refine append_row rfl (.tmp 28) (.tmp 29) rfl base w1 [] ⟨w.heap.size, 0, none⟩ 0 0 v1 (pre.length + 1) (Lib.byteCells pre ++ [.int .u8 0]) rfl HO.out rfl HL.out HN.out (by omega) hbs1 ?_)
        intro v2 w2 hown2 hgrow2
        have hb2 := hb1.grown hgrow2 hbs1 (fun k hk => (HO.out.lt k hk).1)
        have HO2 := Lib.hid (owns_cast hown2 (m := (pre ++ E).length) (ys := Lib.byteCells (pre ++ E)) (by have h := HL.out; rw [HE3.out, List.length_append, List.length_cons]; first | omega | rfl | simp) (by rw [HE3.out, Lib.byteCells_append, byteCells_cons, HOFN.out] <;> simp))
        clear hgrow2 hown2
        go_wp2
        go_ret
        exact ⟨v2, rfl, HO2.out, hb2⟩
      · have hj8' : ¬ 8 = j := by omega
        go_wp2_with (at_builtin; refine append_one rfl (.tmp 23) (.tmp 27) rfl base wr (L : Int) (.slice a pre.length cap) pre.length (Lib.byteCells pre) rfl HOWN2.out rfl (by omega) (by omega) ?_)
        intro v1 w1 hown1 hgrow1
        have hb1 := ((hbw.mono hbase).alloc (Nat.le_trans hbase hbw2) (.cells #[.int .u8 (L : Int)] 5)).grown hgrow1 (by simp; omega) (fun k hk => (HBLK.out k hk).1)
        have hnews : ∀ i u, (Lib.byteCells l)[i]? = some u → w1.cell? ((⟨w.heap.size, j, none⟩ : Addr).add i) = some u := fun i u hu => by
          rw [add_at]
          exact hgrow1.cell ((World.cell?_alloc_past _ _ _ hB).trans (HC.out i u hu)) (fun e => by have := (HBLK.out _ e.symm).2; simp at this)
        have hsz1 := hgrow1.size
        have hbs1 : base ≤ w1.heap.size := by have := hb1.size; omega
        have HN := Lib.hid hnews; have HO := Lib.hid hown1
        clear hgrow1 hnews hown1 hsz1
        go_wp2_with (at_builtin; refine append_row rfl (.tmp 28) (.tmp 29) rfl base w1 l ⟨w.heap.size, j, none⟩ L L v1 (pre.length + 1) (Lib.byteCells pre ++ [.int .u8 (L : Int)]) rfl HO.out rfl HL.out HN.out (by omega) hbs1 ?_)
        intro v2 w2 hown2 hgrow2
        have hb2 := hb1.grown hgrow2 hbs1 (fun k hk => (HO.out.lt k hk).1)
        have HO2 := Lib.hid (owns_cast hown2 (m := (pre ++ E).length) (ys := Lib.byteCells (pre ++ E)) (by have h := HL.out; rw [HE3.out, List.length_append, List.length_cons]; first | omega | rfl | simp) (by rw [HE3.out, Lib.byteCells_append, byteCells_cons, HOFN.out] <;> simp))
        clear hgrow2 hown2
        go_wp2
        go_ret
        exact ⟨v2, rfl, HO2.out, hb2⟩
end Go.Proofs.Ytamcidlkbhanfaa.Wire
