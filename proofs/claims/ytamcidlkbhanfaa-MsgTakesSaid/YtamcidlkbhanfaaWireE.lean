/-
  The contracts of wire.Int, Text, Ints and of the document's Text, Ints: any numbers, any texts; what was there stays as it was.
-/
import Derived.Test.YtamcidlkbhanfaaWireD
set_option linter.unusedVariables false
set_option maxRecDepth 4000
namespace Go.Proofs.Ytamcidlkbhanfaa.Wire
open Go.RowKit WireP

theorem enc_size {n : Int} (h0 : -9223372036854775808 ≤ n) (h1 : n ≤ 9223372036854775807) : (⟨(enc n).toArray⟩ : ByteArray).size ≤ 9 := by
  have := enc_len h0 h1
  simpa [ByteArray.size] using this
theorem int_any (n : Int) (w : World) (h0 : -9223372036854775808 ≤ n) (h1 : n ≤ 9223372036854775807) :
    Calls Try.prog 54 #[.int .i64 n] w fun e w' => e = .returned (.string ⟨(enc n).toArray⟩) ∧ Below w.heap.size w w' := by
  go_enter Try.func54, Try.ntmps54
  go_wp2_with fail
  refine (appendInt_any (.slice none 0 0) w.heap.size [] n w h0 h1 (World.ownsRow_nil _ _ _ _) (Nat.le_refl _) (by decide)).mono ?_
  rintro e w' ⟨v, rfl, hown, hb⟩
  obtain ⟨a, cap, rfl⟩ := owns_slice' hown
  rw [List.nil_append] at hown
  have hcv := owns_text hown
  clear hown
  go_wp2_with fail
  go_ret
  exact ⟨rfl, hb⟩
theorem text_eq (s : ByteArray) : (⟨(enc (s.size : Int)).toArray⟩ ++ s : ByteArray) = ⟨(text s.data.toList).toArray⟩ := by
  apply str_eq
  rw [ByteArray.data_append, Array.toList_append]
  unfold text
  rw [len_list]
/-- A slice of integers of 64 bits that lies below block B, told of its first 'len' cells. -/
def IntsAt (w : World) (a : Option Addr) (len : Nat) (xs : List Int) : Prop :=
  xs.length = len ∧ (∀ x ∈ xs, -9223372036854775808 ≤ x ∧ x ≤ 9223372036854775807) ∧ (len = 0 ∨ ∃ b off, a = some ⟨b, off, none⟩ ∧ b < w.heap.size ∧ ∀ i, i < len → w.cell? ⟨b, off + i, none⟩ = some (.int .i64 (xs.getD i 0)))
theorem IntsAt.keep {w w' : World} {a : Option Addr} {len : Nat} {xs : List Int} (h : IntsAt w a len xs) (hb : Below w.heap.size w w') : IntsAt w' a len xs := by
  refine ⟨h.1, h.2.1, ?_⟩
  rcases h.2.2 with h0 | ⟨b, off, rfl, hlt, hc⟩
  · exact .inl h0
  · exact .inr ⟨b, off, rfl, by have := hb.size; omega, fun i hi => (hb.cell (p := ⟨b, off + i, none⟩) hlt).trans (hc i hi)⟩
theorem take_snoc (xs : List Int) (k : Nat) (h : k < xs.length) : xs.take (k + 1) = xs.take k ++ [xs.getD k 0] := by
  rw [List.take_succ_eq_append_getElem h]; simp [List.getD, h]
theorem encs_step {xs : List Int} {k : Nat} {x : Int} {acc : List UInt8} (h : acc = encs (xs.take k)) (hk : k < xs.length) (hx : xs.getD k 0 = x) : acc ++ enc x = encs (xs.take (k + 1)) := by
  rw [take_snoc xs k hk, encs_snoc, h, hx]
theorem getD_mem {xs : List Int} {k : Nat} (hk : k < xs.length) : xs.getD k 0 ∈ xs := by
  rw [List.getD_eq_getElem?_getD, List.getElem?_eq_getElem hk]; simp
theorem ints_any (a : Option Addr) (len cap : Nat) (xs : List Int) (w : World) (h : IntsAt w a len xs) (hlen : len ≤ 1000000) :
    Calls Try.prog 28 #[.slice a len cap] w fun e w' => e = .returned (.string ⟨(encs xs).toArray⟩) ∧ Below w.heap.size w w' := by
  have HA := Lib.hid h
  obtain ⟨hl, hr, hc⟩ := h
  have HL := Lib.hid hl; have HR := Lib.hid hr; have HC := Lib.hid hc
  clear hl hr hc
  go_enter Try.func28, Try.ntmps28
  go_wp2
  go_loopw [3, 8] (fun v i wr => ∃ (k : Nat) (acc : List UInt8), k ≤ len ∧ i = .int .i64 (k : Int) ∧ wr.ownsRow w.heap.size 5 1 v acc.length (Lib.byteCells acc) ∧ Below w.heap.size w wr ∧ acc.length ≤ 9 * k ∧ Hid (acc = encs (xs.take k))) (fun _ i _ => len - (intOf i).toNat)
  case atStart => exact ⟨0, [], Nat.zero_le _, rfl, World.ownsRow_nil _ _ _ _, Below.refl _ _, by simp, rfl⟩
  case round =>
    obtain ⟨k, acc, hk, rfl, hown, hbw, hal, hto⟩ := hrel
    obtain ⟨a1, cap1, rfl⟩ := owns_slice' hown
    by_cases hlt : k < len
    · have hlx : k < xs.length := by rw [HL.out]; exact hlt
      obtain ⟨x, hx⟩ : ∃ x, xs.getD k 0 = x := ⟨_, rfl⟩
      have hxr := HR.out _ (getD_mem hlx)
      rw [hx] at hxr
      have hx0 := hxr.1; have hx1 := hxr.2
      have hel := enc_len hx0 hx1
      have HST := Lib.hid (encs_step hto.out hlx hx)
      rcases HC.out with h0 | ⟨b, off, rfl, hlb, hcell⟩
      · omega
      have hg : wr.cell? ⟨b, off + k, none⟩ = some (.int .i64 x) := by rw [hbw.cell (p := ⟨b, off + k, none⟩) hlb, hcell k hlt, hx]
      have HOWN := Lib.hid hown; have HEL := Lib.hid hel
      clear hto hxr hx hel hown HA HC hcell
      go_wp2_with fail
      refine (appendInt_any (.slice a1 acc.length cap1) w.heap.size acc x wr hx0 hx1 HOWN.out hbw.size (by omega)).mono ?_
      rintro e w' ⟨v, rfl, hown2, hb2⟩
      go_wp2_with fail
      go_roundw
      case rel => exact ⟨k + 1, acc ++ enc x, by omega, by go_num, hown2, hbw.trans hb2, by rw [List.length_append]; have := HEL.out; omega, HST.out⟩
      case measure => simp [intOf]; omega
    · have hend : acc = encs xs := by rw [hto.out, List.take_of_length_le (by rw [HL.out]; omega)]
      rw [hend] at hown
      have hcv := owns_text hown
      have hle : acc.length = (encs xs).length := by rw [hend]
      rw [← hle] at hcv
      clear hown hto hend hle
      go_wp2_with fail
      go_ret
      exact ⟨rfl, hbw⟩
theorem rints_any (a : Option Addr) (len cap : Nat) (xs : List Int) (w : World) (h : IntsAt w a len xs) (hlen : len ≤ 1000000) :
    Calls Try.prog 39 #[.slice a len cap] w fun e w' => e = .returned (.string ⟨(encs xs).toArray⟩) ∧ Below w.heap.size w w' := by
  have HA := Lib.hid h
  obtain ⟨hl, hr, hc⟩ := h
  have HL := Lib.hid hl; have HR := Lib.hid hr; have HC := Lib.hid hc
  clear hl hr hc
  obtain ⟨R, hR⟩ : ∃ R : ByteArray, (⟨(encs xs).toArray⟩ : ByteArray) = R := ⟨_, rfl⟩
  rw [hR]
  have HRR := Lib.hid hR; clear hR
  go_enter Try.func39, Try.ntmps39
  go_wp2
  go_loopw [3, 4] (fun v i wr => ∃ (k : Nat) (z : ByteArray), k ≤ len ∧ i = .int .i64 (k : Int) ∧ v = .string z ∧ Below w.heap.size w wr ∧ z.size ≤ 9 * k ∧ Hid (z.data.toList = encs (xs.take k))) (fun _ i _ => len - (intOf i).toNat)
  case atStart => exact ⟨0, ⟨#[]⟩, Nat.zero_le _, rfl, rfl, Below.refl _ _, by decide, rfl⟩
  case round =>
    obtain ⟨k, z, hk, rfl, rfl, hbw, hal, hto⟩ := hrel
    by_cases hlt : k < len
    · have hlx : k < xs.length := by rw [HL.out]; exact hlt
      obtain ⟨x, hx⟩ : ∃ x, xs.getD k 0 = x := ⟨_, rfl⟩
      have hxr := HR.out _ (getD_mem hlx)
      rw [hx] at hxr
      have hx0 := hxr.1; have hx1 := hxr.2
      have hel := enc_size hx0 hx1
      have HST := Lib.hid (encs_step hto.out hlx hx)
      rcases HC.out with h0 | ⟨b, off, rfl, hlb, hcell⟩
      · omega
      have hg : wr.cell? ⟨b, off + k, none⟩ = some (.int .i64 x) := by rw [hbw.cell (p := ⟨b, off + k, none⟩) hlb, hcell k hlt, hx]
      have hri := fun w => rint_any x w hx0 hx1
      obtain ⟨y, hy⟩ : ∃ y : ByteArray, (⟨(enc x).toArray⟩ : ByteArray) = y := ⟨_, rfl⟩
      rw [hy] at hel
      simp only [hy] at hri
      have hyl : y.data.toList = enc x := by rw [← hy]
      have HRI := Lib.hid hri; have HYL := Lib.hid hyl
      clear hto hxr hx hy hyl hri HA HC hcell
      go_wp2_with fail
      refine (HRI.out _).mono ?_
      rintro e w' ⟨rfl, hb2⟩
      go_wp2_with fail
      go_roundw
      case rel => exact ⟨k + 1, z ++ y, by omega, by go_num, rfl, hbw.trans (hb2.mono hbw.size), by rw [ByteArray.size_append]; omega, by show _ = _; rw [ByteArray.data_append, Array.toList_append, HYL.out]; exact HST.out⟩
      case measure => simp [intOf]; omega
    · have hend : z = R := by rw [← HRR.out]; exact str_eq (by rw [hto.out, List.take_of_length_le (by rw [HL.out]; omega)])
      subst hend
      clear hto
      go_wp2_with fail
      go_ret
      exact ⟨rfl, hbw⟩
end Go.Proofs.Ytamcidlkbhanfaa.Wire
