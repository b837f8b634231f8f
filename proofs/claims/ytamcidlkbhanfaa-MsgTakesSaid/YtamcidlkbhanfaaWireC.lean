/-
  The contracts of wire.appendInt, Int, Text, Ints and of the document's: any numbers of 64 bits, any texts; what was there stays as it was.
-/
import Derived.Test.YtamcidlkbhanfaaWireA
import Derived.OwnWalk
import Derived.Laws.AppendOwn
import Derived.LoopTactic
import Derived.Lib.LazyBuf
import Derived.Lib.OthersKept
set_option linter.unusedVariables false
set_option maxRecDepth 4000
namespace Go.Proofs.Ytamcidlkbhanfaa.Wire
open Go.RowKit WireP

theorem info_byte : (Try.prog.info? 5).map (fun i => (i.zero, i.size, i.bytes)) = some (some (.int .u8 0), 1, 1) := by kernel_rfl
theorem owns_slice' {w : World} {base n : Nat} {e : TypeId} {v : Value} {xs : List Value} (h : w.ownsRow base e 1 v n xs) : ∃ a cap, v = .slice a n cap := by
  rcases h.2 with ⟨rfl, rfl⟩ | ⟨g, cap, cur, rfl, _⟩
  · exact ⟨none, 0, rfl⟩
  · exact ⟨_, cap, rfl⟩
theorem owns_below {w w' : World} {B n : Nat} {e : TypeId} {v : Value} {xs : List Value} (h : w.ownsRow B e 1 v n xs) (hb : Below w.heap.size w w') : w'.ownsRow B e 1 v n xs := by
  refine ⟨h.1, ?_⟩
  rcases h.2 with hn | ⟨g, cap, cur, hv, hbg, hg, rest⟩
  · exact .inl hn
  · exact .inr ⟨g, cap, cur, hv, hbg, (hb.block g (Array.getElem?_eq_some_iff.1 hg).1).trans hg, rest⟩
theorem one_byte (w : World) (x : Int) : (convert 74 9 (.slice (some ⟨w.heap.size, 0, none⟩) 1 1)).run Try.prog (w.alloc (.cells #[.int .u8 x] 5)) = .ok (.string ⟨#[UInt8.ofNat x.toNat]⟩) (w.alloc (.cells #[.int .u8 x] 5)) := by
  have h := run_convert_bytes_arg (P := Try.prog) (w.alloc (.cells #[.int .u8 x] 5)) 74 5 Try.underlying74 Try.underlying5 w.heap.size 0 1 1 [x] rfl (fun i hi => by
    obtain rfl : i = 0 := by omega
    rw [Nat.zero_add, World.cell?_alloc_new]
    rfl) 9 Try.underlying9
  exact h
theorem strOfNums_bytes (l : List UInt8) : strOfNums (l.map fun c => (c.toNat : Int)) = ⟨l.toArray⟩ := by
  simp only [strOfNums, List.map_map]
  have h : List.map ((fun n : Int => UInt8.ofNat n.toNat) ∘ fun c : UInt8 => (c.toNat : Int)) l = l := by
    induction l with
    | nil => rfl
    | cons c r ih => rw [List.map_cons, ih]; simp
  first
    | rw [h]
    | (simp [h])
/-- The text of the octets that a row of the call's own holds. -/
theorem owns_text {w : World} {B n cap : Nat} {a : Option Addr} {l : List UInt8} (h : w.ownsRow B 5 1 (.slice a n cap) n (Lib.byteCells l)) :
    (convert 74 9 (.slice a n cap)).run Try.prog w = .ok (.string ⟨l.toArray⟩) w := by
  have hl : l.length = n := by have := h.1; simpa [Lib.byteCells] using this
  have hc := fun g hg => h.cells (g := g) hg
  rcases h.2 with ⟨hv, h0⟩ | ⟨g, cap2, cur, hv, _⟩
  · simp only [Value.slice.injEq] at hv
    obtain ⟨rfl, _, _⟩ := hv
    subst h0
    obtain rfl := List.eq_nil_of_length_eq_zero hl
    exact run_convert_bytes_nil w 74 5 Try.underlying74 Try.underlying5 _ _ 9 Try.underlying9
  · simp only [Value.slice.injEq] at hv
    obtain ⟨rfl, _⟩ := hv
    have h2 := run_convert_bytes_arg (P := Try.prog) w 74 5 Try.underlying74 Try.underlying5 g 0 n cap (l.map fun c => (c.toNat : Int)) (by simp [hl]) (fun j hj => by
      have := hc g rfl j (.int .u8 (((l.map fun c => (c.toNat : Int))).getD j 0)) (by simp [Lib.byteCells, List.getD, hl, hj])
      have hadd : (⟨g, 0, none⟩ : Addr).add j = ⟨g, j, none⟩ := by unfold Addr.add; split <;> simp_all
      rw [hadd] at this
      rw [Nat.zero_add]
      exact this) 9 Try.underlying9
    rw [strOfNums_bytes] at h2
    exact h2

/-- What is told of the octets that are laid already: those of x are those of y and these behind. -/
def BeTo (x y : Nat) (l : List UInt8) : Prop := be x = be y ++ l
theorem beTo_step {x y : Nat} {l : List UInt8} (h : BeTo x y l) (hy : 0 < y) : BeTo x (y / 256) (UInt8.ofNat (y % 256) :: l) := by
  unfold BeTo at *
  rw [h, be_pos hy]; simp
theorem beTo_end {x : Nat} {l : List UInt8} (h : BeTo x 0 l) : be x = l := by unfold BeTo at h; rw [be_zero] at h; exact h
theorem beTo_room {x y : Nat} {l : List UInt8} (h : BeTo x y l) (hx : x < 18446744073709551616) (hy : 0 < y) : l.length + 1 ≤ 8 := by
  have h1 := be_len8 hx
  unfold BeTo at h
  rw [h, be_pos hy] at h1
  simp at h1; omega
theorem beTo_le {x y : Nat} {l : List UInt8} (h : BeTo x y l) (hx : x < 18446744073709551616) : l.length ≤ 8 := by
  have h1 := be_len8 hx
  unfold BeTo at h
  rw [h] at h1
  simp at h1; omega

theorem sz1 (c : UInt8) (z : ByteArray) : (((⟨#[c]⟩ ++ z : ByteArray).size : Nat) : Int) = (z.size : Int) + 1 := by
  rw [ByteArray.size_append, show (⟨#[c]⟩ : ByteArray).size = 1 from rfl]; omega
theorem bytes1 (c : UInt8) (z : ByteArray) : (⟨#[c]⟩ ++ z : ByteArray).data.toList = c :: z.data.toList := by
  rw [ByteArray.data_append, Array.toList_append]; rfl
theorem bytes_eq {a b : ByteArray} (h : a.data.toList = b.data.toList) : a = b := by rw [str_eq h, ← str_eq rfl]
theorem rint_any (n : Int) (w : World) (h0 : -9223372036854775808 ≤ n) (h1 : n ≤ 9223372036854775807) :
    Calls Try.prog 30 #[.int .i64 n] w fun e w' => e = .returned (.string ⟨(enc n).toArray⟩) ∧ Below w.heap.size w w' := by
  obtain ⟨x, hx⟩ : ∃ x, ix n = x := ⟨_, rfl⟩
  have hx64 : x < 18446744073709551616 := by rw [← hx]; exact ix_lt h0 h1
  have hpl := place_any n w h0 h1
  obtain ⟨R, hR⟩ : ∃ R : ByteArray, (⟨(enc n).toArray⟩ : ByteArray) = R := ⟨_, rfl⟩
  have hR2 : R.data.toList = UInt8.ofNat (be x).length :: be x := by rw [← hR, ← hx]; rfl
  rw [hx] at hpl
  rw [hR]
  have HPL := Lib.hid hpl; have HR := Lib.hid hR2
  clear hpl hx hR hR2
  have hc1 := fun (w : World) (x : Int) => one_byte w x
  go_enter Try.func30, Try.ntmps30
  go_wp2_with fail
  refine HPL.out.mono ?_
  rintro e w' ⟨rfl, rfl⟩
  clear HPL
  go_wp2_with fail
  go_loopw [3, 4, 5] (fun p s k wr => ∃ (y : Nat) (z : ByteArray), p = .int .u64 (y : Int) ∧ y < 18446744073709551616 ∧ s = .string z ∧ k = .int .i64 (z.size : Int) ∧ z.size ≤ 8 ∧ Below w.heap.size w wr ∧ Hid (BeTo x y z.data.toList)) (fun p _ _ _ => (intOf p).toNat)
  case atStart => exact ⟨x, ⟨#[]⟩, rfl, hx64, rfl, rfl, by decide, Below.refl _ _, by show be x = be x ++ []; simp⟩
  case round =>
    obtain ⟨y, z, rfl, hy64, rfl, rfl, hz8, hbw, hto⟩ := hrel
    by_cases hy : 0 < y
    · have hroom := beTo_room hto.out hx64 hy
      rw [len_list] at hroom
      have HST := Lib.hid (beTo_step hto.out hy)
      clear hto
      go_wp2
      go_roundw
      case rel => exact ⟨y / 256, ⟨#[UInt8.ofNat (y % 256)]⟩ ++ z, by simp, by omega, rfl, by rw [sz1], by rw [ByteArray.size_append]; show 1 + z.size ≤ 8; omega, hbw.alloc hbw.size _, by show BeTo _ _ _; rw [bytes1]; exact HST.out⟩
      case measure => simp [intOf]; omega
    · obtain rfl : y = 0 := by omega
      have hend := beTo_end hto.out
      have hfin : (⟨#[UInt8.ofNat z.size]⟩ ++ z : ByteArray) = R := bytes_eq (by rw [bytes1, HR.out, hend, len_list])
      have HF := Lib.hid hfin
      clear hto hend hfin HR
      go_wp2
      go_ret
      refine ⟨?_, hbw.alloc hbw.size _⟩
      rw [← HF.out]
      simp
end Go.Proofs.Ytamcidlkbhanfaa.Wire
