/-
  The contracts of both Splits, of the document's Blank and Same.
-/
import Derived.Test.YtigiaiddnbpcmaaStampB
import Derived.OwnWalk
import Derived.Laws.AppendOwn
import Derived.Laws.MakeOwn
import Derived.BigQuiet
import Derived.BigRegion
import Derived.RegionTactic
set_option linter.unusedVariables false
set_option maxRecDepth 4000
namespace Go.Proofs.Ytigiaiddnbpcmaa
open Go.RowKit CrcP StampP

/-- A slice of strings told of its first 'len' cells. -/
def StrsAt (w : World) (a : Option Addr) (len : Nat) (ss : List ByteArray) : Prop :=
  ss.length = len ∧ len ≤ 9223372036854775807 ∧ (len = 0 ∨ ∃ b off, a = some ⟨b, off, none⟩ ∧ b < w.heap.size ∧ ∀ i, i < len → w.cell? ⟨b, off + i, none⟩ = some (.string (ss.getD i ByteArray.empty)))
theorem StrsAt.keep {w w' : World} {a : Option Addr} {len : Nat} {ss : List ByteArray} (h : StrsAt w a len ss) (hb : Below w.heap.size w w') : StrsAt w' a len ss := by
  refine ⟨h.1, h.2.1, ?_⟩
  rcases h.2.2 with h0 | ⟨b, off, rfl, hlt, hc⟩
  · exact .inl h0
  · exact .inr ⟨b, off, rfl, by have := hb.size; omega, fun i hi => (hb.cell (p := ⟨b, off + i, none⟩) hlt).trans (hc i hi)⟩
theorem owns_cell {w : World} {B n size g j : Nat} {e : TypeId} {v u : Value} {xs : List Value} (h : w.ownsRow B e size v n xs) (hg : v.ownBlock = some g) (hu : xs[j]? = some u) : w.cell? ⟨g, j, none⟩ = some u := by
  have h2 := h.cells hg j u hu
  rw [Addr.add_lit, Nat.zero_add] at h2
  exact h2
theorem owns_slice {w : World} {base n : Nat} {e : TypeId} {v : Value} {xs : List Value} (h : w.ownsRow base e 1 v n xs) (hn : 0 < n) : ∃ g cap, v = .slice (some ⟨g, 0, none⟩) n cap := by
  rcases h.2 with ⟨rfl, h0⟩ | ⟨g, cap, cur, rfl, _⟩
  · omega
  · exact ⟨g, cap, rfl⟩
theorem owns_slice0 {w : World} {base n : Nat} {e : TypeId} {v : Value} {xs : List Value} (h : w.ownsRow base e 1 v n xs) : ∃ a cap, v = .slice a n cap := by
  rcases h.2 with ⟨rfl, h0⟩ | ⟨g, cap, cur, rfl, _⟩
  · exact ⟨none, 0, by rw [h0]⟩
  · exact ⟨_, cap, rfl⟩
/-- How many parts there are, and which. -/
def cnt (z : Nat) : Nat := (z - 1) / 104 + 1
def part (s : ByteArray) (j : Nat) : ByteArray := s.extract (104 * j) (min (104 * j + 104) s.size)
def parts (s : ByteArray) : List ByteArray := (List.range (cnt s.size)).map (part s)
theorem parts_length (s : ByteArray) : (parts s).length = cnt s.size := by simp [parts]
theorem parts_get (s : ByteArray) {j : Nat} (h : j < cnt s.size) : (parts s)[j]? = some (part s j) := by simp [parts, h]
def pv (s : ByteArray) : List Value := (parts s).map Value.string
theorem pv_length (s : ByteArray) : (pv s).length = cnt s.size := by rw [pv, List.length_map, parts_length]
theorem pv_take (s : ByteArray) {j : Nat} (h : j < cnt s.size) : (pv s).take (j + 1) = (pv s).take j ++ [Value.string (part s j)] := by
  have hl : j < (pv s).length := by rw [pv_length]; exact h
  rw [List.take_succ_eq_append_getElem hl]
  congr 2
  have := parts_get s h
  simp only [pv, List.getElem_map]
  rw [List.getElem?_eq_getElem (by rw [parts_length]; exact h)] at this
  rw [Option.some.inj this]
theorem pv_all (s : ByteArray) : (pv s).take (cnt s.size) = (parts s).map Value.string := by
  rw [List.take_of_length_le (by rw [pv_length]; exact Nat.le_refl _)]
  rfl
theorem part_size (s : ByteArray) (j : Nat) : (part s j).size = min (104 * j + 104) s.size - 104 * j := by
  unfold part
  rw [ByteArray.size_extract]
  omega
theorem rest_size (s : ByteArray) (j : Nat) : (s.extract (104 * j) s.size).size = s.size - 104 * j := by
  rw [ByteArray.size_extract]; omega
theorem rest_first (s : ByteArray) (j : Nat) : (s.extract (104 * j) s.size).extract 0 104 = part s j := by
  unfold part
  rw [ByteArray.extract_extract]
  congr 1
theorem rest_next (s : ByteArray) (j : Nat) : (s.extract (104 * j) s.size).extract 104 (s.extract (104 * j) s.size).size = s.extract (104 * (j + 1)) s.size := by
  rw [ByteArray.extract_extract, rest_size]
  congr 1
  omega
theorem rest_last (s : ByteArray) (j : Nat) (h : s.size ≤ 104 * j + 104) : s.extract (104 * j) s.size = part s j := by
  unfold part
  rw [Nat.min_eq_right h]
/-- A new slice of the strings S. -/
def SplitMade (w : World) (S : List ByteArray) (e : Ending) (w' : World) : Prop :=
  ∃ g cap, e = .returned (.slice (some ⟨g, 0, none⟩) S.length cap) ∧ StrsAt w' (some ⟨g, 0, none⟩) S.length S ∧ w.heap.size ≤ g ∧ Below w.heap.size w w'
theorem split_made {w w' : World} {g cap n : Nat} {S : List ByteArray} (hn : n ≤ 512) (h : w'.ownsRow w.heap.size 9 1 (.slice (some ⟨g, 0, none⟩) n cap) n (S.map Value.string)) (hb : Below w.heap.size w w') :
    SplitMade w S (.returned (.slice (some ⟨g, 0, none⟩) n cap)) w' := by
  have hl : S.length = n := by have := h.1; simpa using this
  subst hl
  have hg := h.lt g rfl
  exact ⟨g, cap, rfl, ⟨rfl, by omega, .inr ⟨g, 0, rfl, hg.2, fun i hi => by rw [Nat.zero_add]; exact owns_cell h rfl (by simp [List.getD, hi])⟩⟩, hg.1, hb⟩
def strLen : Value → Nat
  | .string s => s.size
  | _ => 0
theorem info_string : (Try.prog.info? 9).map (fun i => (i.zero, i.size, i.bytes)) = some (some (.string ⟨#[]⟩), 1, 16) := by kernel_rfl
theorem info_byte : (Try.prog.info? 5).map (fun i => (i.zero, i.size, i.bytes)) = some (some (.int .u8 0), 1, 1) := by kernel_rfl
theorem made_zero_cells : (madeCells #[Value.int .u8 0] 128).toList = (List.replicate 128 (0 : Int)).map (Value.int .u8) := by kernel_rfl
theorem rep_get {n j : Nat} (hj : j < n) : ((List.replicate n (0 : Int)).map (Value.int .u8))[j]? = some (.int .u8 ((List.replicate n (0 : Int)).getD j 0)) := by simp [List.getD, hj]
theorem blank_nums : strOfNums (List.replicate 128 (0 : Int)) = str zeros := by kernel_rfl
theorem rblank_any (w : World) : Calls Try.prog 22 #[] w fun e w' => e = .returned (.string (str zeros)) ∧ Below w.heap.size w w' := by
  obtain ⟨i0, hi, hz0, hz1, hz2⟩ := info_parts info_byte
  have HI := Lib.hid hi; have HZ0 := Lib.hid hz0; have HZ1 := Lib.hid hz1; have HZ2 := Lib.hid hz2
  clear hi hz0 hz1 hz2
  go_enter Try.func22, Try.ntmps22
  go_wp2_with (at_make; refine wpList_make_full _ rfl (.const (.int .i64 128)) (.const (.int .i64 128)) 64 rfl w.heap.size 5 i0 _ 1 Try.underlying64 HI.out HZ0.out HZ1.out .i64 .i64 128 128 128 rfl rfl rfl rfl ?b2 ?b3 ?b4 ?_)
  case b2 => rw [HZ2.out]; decide
  case b3 => decide
  case b4 => exact Nat.le_refl _
  intro w1 hown hgr
  have hb1 : Below w.heap.size w w1 := (Below.refl _ w).grown hgr (Nat.le_refl _) (fun k e => by cases e)
  rw [made_zero_cells] at hown
  have hcv := run_convert_bytes_arg (P := Try.prog) w1 64 5 Try.underlying64 Try.underlying5 w.heap.size 0 128 128 (List.replicate 128 (0 : Int)) (by simp) (fun j hj => by
    have := owns_cell (j := j) hown rfl (u := .int .u8 ((List.replicate 128 (0 : Int)).getD j 0)) (rep_get hj)
    rw [Nat.zero_add]
    exact this) 9 Try.underlying9
  rw [blank_nums] at hcv
  have HB := Lib.hid hb1
  clear hown hgr hb1
  obtain ⟨bl, hbl⟩ : ∃ bl, str zeros = bl := ⟨_, rfl⟩
  rw [hbl] at hcv
  have HBL := Lib.hid hbl
  clear hbl
  go_wp2_with fail
  go_ret
  exact ⟨by rw [HBL.out]; rfl, HB.out⟩
end Go.Proofs.Ytigiaiddnbpcmaa
