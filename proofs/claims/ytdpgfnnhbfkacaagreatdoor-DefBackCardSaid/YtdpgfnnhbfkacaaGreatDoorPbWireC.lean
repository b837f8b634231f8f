/-
  The contracts of wire.appendInt, Int, Text, Ints and of the document's: any numbers of 64 bits, any texts; what was there stays as it was.
-/
import Derived.Test.YtdpgfnnhbfkacaaGreatDoorPbWireA
import Derived.OwnWalk
import Derived.Laws.AppendOwn
import Derived.LoopTactic
import Derived.Lib.LazyBuf
import Derived.Lib.OthersKept
set_option linter.unusedVariables false
set_option maxRecDepth 4000
namespace Go.Proofs.YtdpgfnnhbfkacaaGreatDoor.Wire
open Go.RowKit WireP
theorem info_byte : (Tryz.prog.info? 5).map (fun i => (i.zero, i.size, i.bytes)) = some (some (.int .u8 0), 1, 1) := by kernel_rfl
theorem owns_slice' {w : World} {base n : Nat} {e : TypeId} {v : Value} {xs : List Value} (h : w.ownsRow base e 1 v n xs) : ∃ a cap, v = .slice a n cap := by
  rcases h.2 with ⟨rfl, rfl⟩ | ⟨g, cap, cur, rfl, _⟩
  · exact ⟨none, 0, rfl⟩
  · exact ⟨_, cap, rfl⟩
theorem owns_below {w w' : World} {B n : Nat} {e : TypeId} {v : Value} {xs : List Value} (h : w.ownsRow B e 1 v n xs) (hb : Below w.heap.size w w') : w'.ownsRow B e 1 v n xs := by
  refine ⟨h.1, ?_⟩
  rcases h.2 with hn | ⟨g, cap, cur, hv, hbg, hg, rest⟩
  · exact .inl hn
  · exact .inr ⟨g, cap, cur, hv, hbg, (hb.block g (Array.getElem?_eq_some_iff.1 hg).1).trans hg, rest⟩
theorem strOfNums_bytes (l : List UInt8) : strOfNums (l.map fun c => (c.toNat : Int)) = ⟨l.toArray⟩ := by
  simp only [strOfNums, List.map_map]
  have h : List.map ((fun n : Int => UInt8.ofNat n.toNat) ∘ fun c : UInt8 => (c.toNat : Int)) l = l := by
    induction l with
    | nil => rfl
    | cons c r ih => rw [List.map_cons, ih]; simp
  first
    | rw [h]
    | (simp [h])
theorem owns_text {w : World} {B n cap : Nat} {a : Option Addr} {l : List UInt8} (h : w.ownsRow B 5 1 (.slice a n cap) n (Lib.byteCells l)) :
    (convert 63 9 (.slice a n cap)).run Tryz.prog w = .ok (.string ⟨l.toArray⟩) w := by
  have hl : l.length = n := by have := h.1; simpa [Lib.byteCells] using this
  have hc := fun g hg => h.cells (g := g) hg
  rcases h.2 with ⟨hv, h0⟩ | ⟨g, cap2, cur, hv, _⟩
  · simp only [Value.slice.injEq] at hv
    obtain ⟨rfl, _, _⟩ := hv
    subst h0
    obtain rfl := List.eq_nil_of_length_eq_zero hl
    exact run_convert_bytes_nil w 63 5 Tryz.underlying63 Tryz.underlying5 _ _ 9 Tryz.underlying9
  · simp only [Value.slice.injEq] at hv
    obtain ⟨rfl, _⟩ := hv
    have h2 := run_convert_bytes_arg (P := Tryz.prog) w 63 5 Tryz.underlying63 Tryz.underlying5 g 0 n cap (l.map fun c => (c.toNat : Int)) (by simp [hl]) (fun j hj => by
      have := hc g rfl j (.int .u8 (((l.map fun c => (c.toNat : Int))).getD j 0)) (by simp [Lib.byteCells, List.getD, hl, hj])
      have hadd : (⟨g, 0, none⟩ : Addr).add j = ⟨g, j, none⟩ := by unfold Addr.add; split <;> simp_all
      rw [hadd] at this
      rw [Nat.zero_add]
      exact this) 9 Tryz.underlying9
    rw [strOfNums_bytes] at h2
    exact h2

def BeTo (x y : Nat) (l : List UInt8) : Prop := be x = be y ++ l
theorem beTo_step {x y : Nat} {l : List UInt8} (h : BeTo x y l) (hy : 0 < y) : BeTo x (y / 256) (UInt8.ofNat (y % 256) :: l) := by
  unfold BeTo at *
  rw [h, be_pos hy]; simp
theorem beTo_end {x : Nat} {l : List UInt8} (h : BeTo x 0 l) : be x = l := by unfold BeTo at h; rw [be_zero] at h; exact h
theorem beTo_room {x y : Nat} {l : List UInt8} (h : BeTo x y l) (hx : x < 18446744073709551616) (hy : 0 < y) : l.length + 1 ≤ 8 := by
  have h1 := be_len8 hx
  unfold BeTo at h
  rw [h, be_pos hy] at h1
  simp at h1; omega
end Go.Proofs.YtdpgfnnhbfkacaaGreatDoor.Wire

/-
  The contract of wire.appendInt: any row of octets of the caller's own, any number.
-/
set_option linter.unusedVariables false
set_option maxRecDepth 4000
namespace Go.Proofs.YtdpgfnnhbfkacaaGreatDoor.Wire
open Go.RowKit WireP
def zero8 : Array Value := #[.int .u8 0, .int .u8 0, .int .u8 0, .int .u8 0, .int .u8 0, .int .u8 0, .int .u8 0, .int .u8 0]
def TailIs (cur : Array Value) (l : List UInt8) : Prop := cur.size = 8 ∧ cur.toList.drop (8 - l.length) = Lib.byteCells l
theorem tailIs_step {cur : Array Value} {l : List UInt8} {j : Nat} {c : UInt8} (h : TailIs cur l) (hj : j + 1 + l.length = 8) : TailIs (cur.setIfInBounds j (.int .u8 (c.toNat : Int))) (c :: l) := by
  obtain ⟨h1, h2⟩ := h
  refine ⟨by simp [h1], ?_⟩
  have e1 : 8 - (c :: l).length = j := by simp; omega
  have e2 : 8 - l.length = j + 1 := by omega
  rw [e1]
  rw [e2] at h2
  have hl : cur.toList.length = 8 := by simp [h1]
  rw [Array.toList_setIfInBounds, List.drop_eq_getElem_cons (by rw [List.length_set]; omega), List.getElem_set_self, List.drop_set_of_lt (by omega), h2]
  rfl
theorem tailIs_cell {cur : Array Value} {l : List UInt8} {i : Nat} {u : Value} {j : Nat} (h : TailIs cur l) (hj : j + l.length = 8) (hu : (Lib.byteCells l)[i]? = some u) : cur[j + i]? = some u := by
  obtain ⟨h1, h2⟩ := h
  rw [show 8 - l.length = j by omega] at h2
  rw [← h2, List.getElem?_drop] at hu
  rw [← Array.getElem?_toList]; exact hu
theorem add_at (g j i : Nat) : (⟨g, j, none⟩ : Addr).add i = ⟨g, j + i, none⟩ := by unfold Addr.add; split <;> simp_all
theorem byteCells_cons (c : UInt8) (l : List UInt8) : Lib.byteCells (c :: l) = .int .u8 (c.toNat : Int) :: Lib.byteCells l := rfl
theorem owns_cast {w : World} {B n m : Nat} {e : TypeId} {v : Value} {xs ys : List Value} (h : w.ownsRow B e 1 v n xs) (hn : n = m) (hx : xs = ys) : w.ownsRow B e 1 v m ys := by rw [← hn, ← hx]; exact h
theorem append_one {ops : Array Oper} {rest : List Oper} {o : Oper} {a : Act} {Q : Exit → Act → World → Prop} (hgd : o.guard = none) (s x : Operand)
    (ho : o.op = .call { callee := .builtin .append, args := #[s, x], argTypes := #[63, 63] }) (base : Nat) (w : World) (c : Int)
    (v : Value) (n : Nat) (xs : List Value) (hs : a.eval s = v) (hown : w.ownsRow base 5 1 v n xs) (hx : a.eval x = .slice (some ⟨w.heap.size, 0, none⟩) 1 1)
    (hn : n ≤ 4398046511200) (hbase : base ≤ w.heap.size)
    (h : ∀ v' w', w'.ownsRow base 5 1 v' (n + 1) (xs ++ [.int .u8 c]) → (w.alloc (.cells #[.int .u8 c] 5)).grownBy w' v.ownBlock → wpList Tryz.prog ops Q rest (a.put o.dst v') w') :
    wpList Tryz.prog ops Q (o :: rest) a (w.alloc (.cells #[.int .u8 c] 5)) := by
  obtain ⟨i0, hi, hz0, hz1, hz2⟩ := info_parts info_byte
  refine wpList_append_own _ hgd s x 63 ho base 5 i0 (.int .u8 0) 1 1 Tryz.underlying63 hi hz0 hz1 hz2 rfl (by decide) v n xs hs (hown.alloc _) ⟨w.heap.size, 0, none⟩ 1 1 [.int .u8 c] hx rfl (cell_one_new _ _ _) (by simp [Value.oneCell']) ?_ ?_ ?_ fun v' w' h1 h2 _ => h v' w' h1 h2
  · unfold maxLen; omega
  · omega
  · simp; omega
theorem append_row {ops : Array Oper} {rest : List Oper} {o : Oper} {a : Act} {Q : Exit → Act → World → Prop} (hgd : o.guard = none) (s x : Operand)
    (ho : o.op = .call { callee := .builtin .append, args := #[s, x], argTypes := #[63, 63] }) (base : Nat) (w : World) (l : List UInt8) (ad : Addr) (m k : Nat)
    (v : Value) (n : Nat) (xs : List Value) (hs : a.eval s = v) (hown : w.ownsRow base 5 1 v n xs) (hx : a.eval x = .slice (some ad) m k) (hl : l.length = m) (hcell : ∀ i u, (Lib.byteCells l)[i]? = some u → w.cell? (ad.add i) = some u)
    (hn : n + m ≤ 4398046511300) (hbase : base ≤ w.heap.size)
    (h : ∀ v' w', w'.ownsRow base 5 1 v' (n + m) (xs ++ Lib.byteCells l) → w.grownBy w' v.ownBlock → wpList Tryz.prog ops Q rest (a.put o.dst v') w') :
    wpList Tryz.prog ops Q (o :: rest) a w := by
  obtain ⟨i0, hi, hz0, hz1, hz2⟩ := info_parts info_byte
  refine wpList_append_own _ hgd s x 63 ho base 5 i0 (.int .u8 0) 1 1 Tryz.underlying63 hi hz0 hz1 hz2 rfl (by decide) v n xs hs hown ad m k (Lib.byteCells l) hx (by rw [Lib.byteCells_length, hl]; omega) hcell (Lib.byteCells_one _) ?_ ?_ hbase fun v' w' h1 h2 _ => h v' w' h1 h2
  · unfold maxLen; omega
  · omega
set_option maxHeartbeats 1000000 in
theorem appendInt_any (v : Value) (base : Nat) (pre : List UInt8) (n : Int) (w : World) (h0 : -9223372036854775808 ≤ n) (h1 : n ≤ 9223372036854775807)
    (hown : w.ownsRow base 5 1 v pre.length (Lib.byteCells pre)) (hbase : base ≤ w.heap.size) (hpl : pre.length ≤ 4398046511104) :
    Calls Tryz.prog 97 #[v, .int .i64 n] w fun e w' => ∃ v', e = .returned v' ∧ w'.ownsRow base 5 1 v' (pre ++ enc n).length (Lib.byteCells (pre ++ enc n)) ∧ Below base w w' := by
  obtain ⟨x, hx⟩ : ∃ x, ix n = x := ⟨_, rfl⟩
  have hx64 : x < 18446744073709551616 := by rw [← hx]; exact ix_lt h0 h1
  have hpl2 := fun w => index_any n w h0 h1
  obtain ⟨E, hE⟩ : ∃ E, enc n = E := ⟨_, rfl⟩
  have hE2 : E = UInt8.ofNat (be x).length :: be x := by rw [← hE, ← hx]; rfl
  rw [hx] at hpl2
  rw [hE]
  obtain ⟨a, cap, rfl⟩ := owns_slice' hown
  have HPL := Lib.hid hpl2; have HE := Lib.hid hE2; have HOWN := Lib.hid hown
  clear hpl2 hx hE hE2 hown
  have hal : Tryz.prog.arrayLen 118 = 8 := by kernel_rfl
  go_enter Tryz.func97, Tryz.ntmps97
  go_wp2_with fail
  refine (HPL.out _).mono ?_
  rintro e w' ⟨rfl, rfl⟩
  clear HPL
  go_wp2_with fail
  go_loopw [6, 7] (fun f p wr => ∃ (y j : Nat) (l : List UInt8) (cur : Array Value), f = .int .i64 (j : Int) ∧ p = .int .u64 (y : Int) ∧ y < 18446744073709551616 ∧ j ≤ 8 ∧ Hid (j + l.length = 8) ∧ Below w.heap.size w wr ∧ Hid (wr.heap[w.heap.size]? = some (.cells cur 118 (0, 0))) ∧ Hid (TailIs cur l) ∧ Hid (BeTo x y l)) (fun _ p _ => (intOf p).toNat)
  case atStart => exact ⟨x, 8, [], zero8, rfl, rfl, hx64, by omega, rfl, (Below.refl _ _).alloc (Nat.le_refl _) _, heap_alloc_new _ _, ⟨rfl, rfl⟩, by show be x = be x ++ []; simp⟩
  case round =>
    obtain ⟨y, j, l, cur, rfl, rfl, hy64, hj8, hjl, hbw, hheap, htail, hto⟩ := hrel
    by_cases hy : 0 < y
    · have hroom := beTo_room hto.out hx64 hy
      obtain ⟨i, rfl⟩ : ∃ i, j = i + 1 := ⟨j - 1, by have := hjl.out; omega⟩
      have HST := Lib.hid (beTo_step hto.out hy)
      have HTL := Lib.hid (tailIs_step (c := UInt8.ofNat (y % 256)) htail.out (by have := hjl.out; omega))
      have hsz : cur.size = 8 := htail.out.1
      have hcell : wr.cell? ⟨w.heap.size, i, none⟩ = some (cur[i]'(by omega)) := by rw [cell_of_heap hheap.out]; exact Array.getElem?_eq_getElem _
      have hfr : wr.frozen? ⟨w.heap.size, i, none⟩ = false := frozen_of_heap hheap.out
      have hsub : ((i + 1 : Nat) : Int) - 1 = (i : Int) := by omega
      have hi8 : (i : Int) < 8 := by omega
      have HS := Lib.hid hsz
      generalize cur[i]'(by rw [HS.out]; omega) = old at hcell
      have hmod : ((UInt8.ofNat (y % 256)).toNat : Int) = (y : Int) % 256 := by rw [ofNat_mod]; omega
      rw [hmod] at HTL
      clear hto htail hsz hmod
      go_wp2
      go_roundw
      case rel => exact ⟨y / 256, i, UInt8.ofNat (y % 256) :: l, _, rfl, by simp, by omega, by omega, by show i + (l.length + 1) = 8; have h : i + 1 + l.length = 8 := hjl.out; omega, hbw.setCell (Nat.le_refl _) _, Lib.heap_setCell_same (i := i) hheap.out _, HTL, HST⟩
      case measure => simp [intOf]; omega
    · obtain rfl : y = 0 := by omega
      have hend := beTo_end hto.out
      have hE3 : E = UInt8.ofNat l.length :: l := by rw [HE.out, hend]
      obtain ⟨L, hL⟩ : ∃ L, l.length = L := ⟨_, rfl⟩
      have hjL : j + L = 8 := by have h : j + l.length = 8 := hjl.out; omega
      have hq : 8 - j = L := by omega
      have hl8 : L ≤ 8 := by omega
      have hofn : ((UInt8.ofNat L).toNat : Int) = (L : Int) := by rw [UInt8.toNat_ofNat']; omega
      have hc : ∀ i u, (Lib.byteCells l)[i]? = some u → wr.cell? ⟨w.heap.size, j + i, none⟩ = some u := fun i u hu => (cell_of_heap hheap.out).trans (tailIs_cell htail.out hjl.out hu)
      have hown2 := owns_below HOWN.out hbw
      have hblk := fun k hk => HOWN.out.lt k hk
      have HBLK := Lib.hid hblk; clear hblk
      have hbw2 := hbw.size
      rw [hL] at hE3
      have HE3 := Lib.hid hE3; have HC := Lib.hid hc; have HOWN2 := Lib.hid hown2; have HL := Lib.hid hL; have HOFN := Lib.hid hofn
      have hB : w.heap.size < wr.heap.size := (Array.getElem?_eq_some_iff.1 hheap.out).1
      clear hto htail hheap hjl hend hE3 hc hown2 hL hofn HE HOWN
      have haj : (j : Int) ≤ 8 := by omega
      by_cases h8 : j = 8
      · subst h8
        obtain rfl : L = 0 := by omega
        obtain rfl : l = [] := List.eq_nil_of_length_eq_zero HL.out
        clear hq
        go_wp2_with (at_builtin; refine append_one rfl (.tmp 23) (.tmp 27) rfl base wr 0 (.slice a pre.length cap) pre.length (Lib.byteCells pre) rfl HOWN2.out rfl (by omega) (by omega) ?_)
        intro v1 w1 hown1 hgrow1
        have hb1 := ((hbw.mono hbase).alloc (Nat.le_trans hbase hbw2) (.cells #[.int .u8 0] 5)).grown hgrow1 (by simp; omega) (fun k hk => (HBLK.out k hk).1)
        have hnews : ∀ i u, (Lib.byteCells [])[i]? = some u → w1.cell? ((⟨w.heap.size, 0, none⟩ : Addr).add i) = some u := fun i u hu => by
          simp [Lib.byteCells] at hu
        have hsz1 := hgrow1.size
        have hbs1 : base ≤ w1.heap.size := by have := hb1.size; omega
        have HN := Lib.hid hnews; have HO := Lib.hid hown1
        clear hgrow1 hnews hown1 hsz1
        go_wp2_with (at_builtin; refine append_row rfl (.tmp 28) (.tmp 29) rfl base w1 [] ⟨w.heap.size, 0, none⟩ 0 0 v1 (pre.length + 1) (Lib.byteCells pre ++ [.int .u8 0]) rfl HO.out rfl HL.out HN.out (by omega) hbs1 ?_)
        intro v2 w2 hown2 hgrow2
        have hb2 := hb1.grown hgrow2 hbs1 (fun k hk => (HO.out.lt k hk).1)
        have HO2 := Lib.hid (owns_cast hown2 (m := (pre ++ E).length) (ys := Lib.byteCells (pre ++ E)) (by have h := HL.out; rw [HE3.out, List.length_append, List.length_cons]; first | omega | rfl | simp) (by rw [HE3.out, Lib.byteCells_append, byteCells_cons, HOFN.out] <;> simp))
        clear hgrow2 hown2
        go_wp2
        go_ret
        exact ⟨v2, rfl, HO2.out, hb2⟩
      · have hj8' : ¬ 8 = j := by omega
        go_wp2_with (at_builtin; refine append_one rfl (.tmp 23) (.tmp 27) rfl base wr (L : Int) (.slice a pre.length cap) pre.length (Lib.byteCells pre) rfl HOWN2.out rfl (by omega) (by omega) ?_)
        intro v1 w1 hown1 hgrow1
        have hb1 := ((hbw.mono hbase).alloc (Nat.le_trans hbase hbw2) (.cells #[.int .u8 (L : Int)] 5)).grown hgrow1 (by simp; omega) (fun k hk => (HBLK.out k hk).1)
        have hnews : ∀ i u, (Lib.byteCells l)[i]? = some u → w1.cell? ((⟨w.heap.size, j, none⟩ : Addr).add i) = some u := fun i u hu => by
          rw [add_at]
          exact hgrow1.cell ((World.cell?_alloc_past _ _ _ hB).trans (HC.out i u hu)) (fun e => by have := (HBLK.out _ e.symm).2; simp at this)
        have hsz1 := hgrow1.size
        have hbs1 : base ≤ w1.heap.size := by have := hb1.size; omega
        have HN := Lib.hid hnews; have HO := Lib.hid hown1
        clear hgrow1 hnews hown1 hsz1
        go_wp2_with (at_builtin; refine append_row rfl (.tmp 28) (.tmp 29) rfl base w1 l ⟨w.heap.size, j, none⟩ L L v1 (pre.length + 1) (Lib.byteCells pre ++ [.int .u8 (L : Int)]) rfl HO.out rfl HL.out HN.out (by omega) hbs1 ?_)
        intro v2 w2 hown2 hgrow2
        have hb2 := hb1.grown hgrow2 hbs1 (fun k hk => (HO.out.lt k hk).1)
        have HO2 := Lib.hid (owns_cast hown2 (m := (pre ++ E).length) (ys := Lib.byteCells (pre ++ E)) (by have h := HL.out; rw [HE3.out, List.length_append, List.length_cons]; first | omega | rfl | simp) (by rw [HE3.out, Lib.byteCells_append, byteCells_cons, HOFN.out] <;> simp))
        clear hgrow2 hown2
        go_wp2
        go_ret
        exact ⟨v2, rfl, HO2.out, hb2⟩
end Go.Proofs.YtdpgfnnhbfkacaaGreatDoor.Wire

/-
  The contracts of wire.Int, Text, Ints and of the document's Text, Ints: any numbers, any texts; what was there stays as it was.
-/
set_option linter.unusedVariables false
set_option maxRecDepth 4000
namespace Go.Proofs.YtdpgfnnhbfkacaaGreatDoor.Wire
open Go.RowKit WireP
theorem enc_size {n : Int} (h0 : -9223372036854775808 ≤ n) (h1 : n ≤ 9223372036854775807) : (⟨(enc n).toArray⟩ : ByteArray).size ≤ 9 := by
  have := enc_len h0 h1
  simpa [ByteArray.size] using this
theorem int_any (n : Int) (w : World) (h0 : -9223372036854775808 ≤ n) (h1 : n ≤ 9223372036854775807) :
    Calls Tryz.prog 60 #[.int .i64 n] w fun e w' => e = .returned (.string ⟨(enc n).toArray⟩) ∧ Below w.heap.size w w' := by
  go_enter Tryz.func60, Tryz.ntmps60
  go_wp2_with fail
  refine (appendInt_any (.slice none 0 0) w.heap.size [] n w h0 h1 (World.ownsRow_nil _ _ _ _) (Nat.le_refl _) (by decide)).mono ?_
  rintro e w' ⟨v, rfl, hown, hb⟩
  obtain ⟨a, cap, rfl⟩ := owns_slice' hown
  rw [List.nil_append] at hown
  have hcv := owns_text hown
  clear hown
  go_wp2_with fail
  go_ret
  exact ⟨rfl, hb⟩
theorem text_eq (s : ByteArray) : (⟨(enc (s.size : Int)).toArray⟩ ++ s : ByteArray) = ⟨(text s.data.toList).toArray⟩ := by
  apply str_eq
  rw [ByteArray.data_append, Array.toList_append]
  unfold text
  rw [len_list]
theorem text_any (s : ByteArray) (w : World) (hs : s.size ≤ 4398046511104) :
    Calls Tryz.prog 59 #[.string s] w fun e w' => e = .returned (.string ⟨(text s.data.toList).toArray⟩) ∧ Below w.heap.size w w' := by
  rw [← text_eq]
  have hz := enc_size (n := (s.size : Int)) (by omega) (by omega)
  have hin := fun w => int_any (s.size : Int) w (by omega) (by omega)
  generalize (⟨(enc (s.size : Int)).toArray⟩ : ByteArray) = z at *
  have HIN := Lib.hid hin; clear hin
  go_enter Tryz.func59, Tryz.ntmps59
  go_wp2_with fail
  refine (HIN.out _).mono ?_
  rintro e w' ⟨rfl, hb⟩
  go_wp2_with fail
  go_ret
  exact ⟨rfl, hb⟩
def IntsAt (w : World) (a : Option Addr) (len : Nat) (xs : List Int) : Prop :=
  xs.length = len ∧ (∀ x ∈ xs, -9223372036854775808 ≤ x ∧ x ≤ 9223372036854775807) ∧ (len = 0 ∨ ∃ b off, a = some ⟨b, off, none⟩ ∧ b < w.heap.size ∧ ∀ i, i < len → w.cell? ⟨b, off + i, none⟩ = some (.int .i64 (xs.getD i 0)))
theorem IntsAt.keep {w w' : World} {a : Option Addr} {len : Nat} {xs : List Int} (h : IntsAt w a len xs) (hb : Below w.heap.size w w') : IntsAt w' a len xs := by
  refine ⟨h.1, h.2.1, ?_⟩
  rcases h.2.2 with h0 | ⟨b, off, rfl, hlt, hc⟩
  · exact .inl h0
  · exact .inr ⟨b, off, rfl, by have := hb.size; omega, fun i hi => (hb.cell (p := ⟨b, off + i, none⟩) hlt).trans (hc i hi)⟩
theorem take_snoc (xs : List Int) (k : Nat) (h : k < xs.length) : xs.take (k + 1) = xs.take k ++ [xs.getD k 0] := by
  rw [List.take_succ_eq_append_getElem h]; simp [List.getD, h]
theorem encs_step {xs : List Int} {k : Nat} {x : Int} {acc : List UInt8} (h : acc = encs (xs.take k)) (hk : k < xs.length) (hx : xs.getD k 0 = x) : acc ++ enc x = encs (xs.take (k + 1)) := by
  rw [take_snoc xs k hk, encs_snoc, h, hx]
theorem getD_mem {xs : List Int} {k : Nat} (hk : k < xs.length) : xs.getD k 0 ∈ xs := by
  rw [List.getD_eq_getElem?_getD, List.getElem?_eq_getElem hk]; simp
theorem ints_any (a : Option Addr) (len cap : Nat) (xs : List Int) (w : World) (h : IntsAt w a len xs) (hlen : len ≤ 1000000) :
    Calls Tryz.prog 61 #[.slice a len cap] w fun e w' => e = .returned (.string ⟨(encs xs).toArray⟩) ∧ Below w.heap.size w w' := by
  have HA := Lib.hid h
  obtain ⟨hl, hr, hc⟩ := h
  have HL := Lib.hid hl; have HR := Lib.hid hr; have HC := Lib.hid hc
  clear hl hr hc
  go_enter Tryz.func61, Tryz.ntmps61
  go_wp2
  go_loopw [3, 8] (fun v i wr => ∃ (k : Nat) (acc : List UInt8), k ≤ len ∧ i = .int .i64 (k : Int) ∧ wr.ownsRow w.heap.size 5 1 v acc.length (Lib.byteCells acc) ∧ Below w.heap.size w wr ∧ acc.length ≤ 9 * k ∧ Hid (acc = encs (xs.take k))) (fun _ i _ => len - (intOf i).toNat)
  case atStart => exact ⟨0, [], Nat.zero_le _, rfl, World.ownsRow_nil _ _ _ _, Below.refl _ _, by simp, rfl⟩
  case round =>
    obtain ⟨k, acc, hk, rfl, hown, hbw, hal, hto⟩ := hrel
    obtain ⟨a1, cap1, rfl⟩ := owns_slice' hown
    by_cases hlt : k < len
    · have hlx : k < xs.length := by rw [HL.out]; exact hlt
      obtain ⟨x, hx⟩ : ∃ x, xs.getD k 0 = x := ⟨_, rfl⟩
      have hxr := HR.out _ (getD_mem hlx)
      rw [hx] at hxr
      have hx0 := hxr.1; have hx1 := hxr.2
      have hel := enc_len hx0 hx1
      have HST := Lib.hid (encs_step hto.out hlx hx)
      rcases HC.out with h0 | ⟨b, off, rfl, hlb, hcell⟩
      · omega
      have hg : wr.cell? ⟨b, off + k, none⟩ = some (.int .i64 x) := by rw [hbw.cell (p := ⟨b, off + k, none⟩) hlb, hcell k hlt, hx]
      have HOWN := Lib.hid hown; have HEL := Lib.hid hel
      clear hto hxr hx hel hown HA HC hcell
      go_wp2_with fail
      refine (appendInt_any (.slice a1 acc.length cap1) w.heap.size acc x wr hx0 hx1 HOWN.out hbw.size (by omega)).mono ?_
      rintro e w' ⟨v, rfl, hown2, hb2⟩
      go_wp2_with fail
      go_roundw
      case rel => exact ⟨k + 1, acc ++ enc x, by omega, by go_num, hown2, hbw.trans hb2, by rw [List.length_append]; have := HEL.out; omega, HST.out⟩
      case measure => simp [intOf]; omega
    · have hend : acc = encs xs := by rw [hto.out, List.take_of_length_le (by rw [HL.out]; omega)]
      rw [hend] at hown
      have hcv := owns_text hown
      have hle : acc.length = (encs xs).length := by rw [hend]
      rw [← hle] at hcv
      clear hown hto hend hle
      go_wp2_with fail
      go_ret
      exact ⟨rfl, hbw⟩
end Go.Proofs.YtdpgfnnhbfkacaaGreatDoor.Wire
