/-
  The contracts of wire.Int, Text, Ints and of the document's Text, Ints: any numbers, any texts; what was there stays as it was.
-/
import Derived.Test.YtpaemofjeadhcaaGreatDoorWireD
set_option linter.unusedVariables false
set_option maxRecDepth 4000
namespace Go.Proofs.YtpaemofjeadhcaaGreatDoor.Wire
open Go.RowKit WireP

theorem enc_size {n : Int} (h0 : -9223372036854775808 ≤ n) (h1 : n ≤ 9223372036854775807) : (⟨(enc n).toArray⟩ : ByteArray).size ≤ 9 := by
  have := enc_len h0 h1
  simpa [ByteArray.size] using this
theorem int_any (n : Int) (w : World) (h0 : -9223372036854775808 ≤ n) (h1 : n ≤ 9223372036854775807) :
    Calls Tryz.prog 37 #[.int .i64 n] w fun e w' => e = .returned (.string ⟨(enc n).toArray⟩) ∧ Below w.heap.size w w' := by
  go_enter Tryz.func37, Tryz.ntmps37
  go_wp2_with fail
  refine (appendInt_any (.slice none 0 0) w.heap.size [] n w h0 h1 (World.ownsRow_nil _ _ _ _) (Nat.le_refl _) (by decide)).mono ?_
  rintro e w' ⟨v, rfl, hown, hb⟩
  obtain ⟨a, cap, rfl⟩ := owns_slice' hown
  rw [List.nil_append] at hown
  have hcv := owns_text hown
  clear hown
  go_wp2_with fail
  go_ret
  exact ⟨rfl, hb⟩
theorem text_eq (s : ByteArray) : (⟨(enc (s.size : Int)).toArray⟩ ++ s : ByteArray) = ⟨(text s.data.toList).toArray⟩ := by
  apply str_eq
  rw [ByteArray.data_append, Array.toList_append]
  unfold text
  rw [len_list]
theorem text_any (s : ByteArray) (w : World) (hs : s.size ≤ 4398046511104) :
    Calls Tryz.prog 38 #[.string s] w fun e w' => e = .returned (.string ⟨(text s.data.toList).toArray⟩) ∧ Below w.heap.size w w' := by
  rw [← text_eq]
  have hz := enc_size (n := (s.size : Int)) (by omega) (by omega)
  have hin := fun w => int_any (s.size : Int) w (by omega) (by omega)
  generalize (⟨(enc (s.size : Int)).toArray⟩ : ByteArray) = z at *
  have HIN := Lib.hid hin; clear hin
  go_enter Tryz.func38, Tryz.ntmps38
  go_wp2_with fail
  refine (HIN.out _).mono ?_
  rintro e w' ⟨rfl, hb⟩
  go_wp2_with fail
  go_ret
  exact ⟨rfl, hb⟩
theorem rtext_any (s : ByteArray) (w : World) (hs : s.size ≤ 4398046511104) :
    Calls Tryz.prog 41 #[.string s] w fun e w' => e = .returned (.string ⟨(text s.data.toList).toArray⟩) ∧ Below w.heap.size w w' := by
  rw [← text_eq]
  have hz := enc_size (n := (s.size : Int)) (by omega) (by omega)
  have hin := fun w => rint_any (s.size : Int) w (by omega) (by omega)
  generalize (⟨(enc (s.size : Int)).toArray⟩ : ByteArray) = z at *
  have HIN := Lib.hid hin; clear hin
  go_enter Tryz.func41, Tryz.ntmps41
  go_wp2_with fail
  refine (HIN.out _).mono ?_
  rintro e w' ⟨rfl, hb⟩
  go_wp2_with fail
  go_ret
  exact ⟨rfl, hb⟩

/-- A slice of integers of 64 bits that lies below block B, told of its first 'len' cells. -/
def IntsAt (w : World) (a : Option Addr) (len : Nat) (xs : List Int) : Prop :=
  xs.length = len ∧ (∀ x ∈ xs, -9223372036854775808 ≤ x ∧ x ≤ 9223372036854775807) ∧ (len = 0 ∨ ∃ b off, a = some ⟨b, off, none⟩ ∧ b < w.heap.size ∧ ∀ i, i < len → w.cell? ⟨b, off + i, none⟩ = some (.int .i64 (xs.getD i 0)))
theorem IntsAt.keep {w w' : World} {a : Option Addr} {len : Nat} {xs : List Int} (h : IntsAt w a len xs) (hb : Below w.heap.size w w') : IntsAt w' a len xs := by
  refine ⟨h.1, h.2.1, ?_⟩
  rcases h.2.2 with h0 | ⟨b, off, rfl, hlt, hc⟩
  · exact .inl h0
  · exact .inr ⟨b, off, rfl, by have := hb.size; omega, fun i hi => (hb.cell (p := ⟨b, off + i, none⟩) hlt).trans (hc i hi)⟩
theorem take_snoc (xs : List Int) (k : Nat) (h : k < xs.length) : xs.take (k + 1) = xs.take k ++ [xs.getD k 0] := by
  rw [List.take_succ_eq_append_getElem h]; simp [List.getD, h]
theorem encs_step {xs : List Int} {k : Nat} {x : Int} {acc : List UInt8} (h : acc = encs (xs.take k)) (hk : k < xs.length) (hx : xs.getD k 0 = x) : acc ++ enc x = encs (xs.take (k + 1)) := by
  rw [take_snoc xs k hk, encs_snoc, h, hx]
theorem getD_mem {xs : List Int} {k : Nat} (hk : k < xs.length) : xs.getD k 0 ∈ xs := by
  rw [List.getD_eq_getElem?_getD, List.getElem?_eq_getElem hk]; simp
end Go.Proofs.YtpaemofjeadhcaaGreatDoor.Wire
