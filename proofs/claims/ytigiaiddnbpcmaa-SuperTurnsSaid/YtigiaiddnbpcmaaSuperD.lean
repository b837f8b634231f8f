/-
  The contract of distinct: two lists of any numbers.
-/
import Derived.Test.YtigiaiddnbpcmaaSuperC
set_option linter.unusedVariables false
set_option maxRecDepth 4000
namespace Go.Proofs.Ytigiaiddnbpcmaa
open Go.RowKit SuperP
open Wire (IntsAt getD_mem take_snoc)

/-- What was seen: a cell for each segment. -/
def SeenAt (w : World) (b : Nat) (pre : List Int) : Prop := ∃ cur : Array Value, w.heap[b]? = some (.cells cur 83 (0, 0)) ∧ cur.size = 63 ∧ ∀ i : Nat, i < 63 → cur[i]? = some (.bool (decide ((i : Int) ∈ pre)))
theorem SeenAt.cell {w : World} {b : Nat} {pre : List Int} (h : SeenAt w b pre) {i : Nat} (hi : i < 63) : w.cell? ⟨b, i, none⟩ = some (.bool (decide ((i : Int) ∈ pre))) := by
  obtain ⟨cur, h1, h2, h3⟩ := h
  rw [Wire.cell_of_heap h1]; exact h3 i hi
theorem SeenAt.frozen {w : World} {b : Nat} {pre : List Int} (h : SeenAt w b pre) (i : Nat) : w.frozen? ⟨b, i, none⟩ = false := by
  obtain ⟨cur, h1, h2, h3⟩ := h
  exact Wire.frozen_of_heap h1
theorem SeenAt.set {w : World} {b : Nat} {pre : List Int} (h : SeenAt w b pre) {i : Nat} (hi : i < 63) : SeenAt (w.setCell ⟨b, i, none⟩ (.bool true)) b (pre ++ [(i : Int)]) := by
  obtain ⟨cur, h1, h2, h3⟩ := h
  refine ⟨_, Lib.heap_setCell_same (i := i) h1 _, by simp [h2], fun j hj => ?_⟩
  rw [Array.getElem?_setIfInBounds]
  by_cases hij : i = j
  · subst hij
    rw [if_pos rfl, if_pos (by omega)]
    simp
  · rw [if_neg hij, h3 j hj]
    have : ¬ ((j : Int) = (i : Int)) := by omega
    simp [this]
def seen0 : Array Value := Array.replicate 63 (.bool false)
theorem zero_seen (w : World) : (zeroValue 83).run Try.prog w = .ok (.agg seen0) w := by kernel_rfl
theorem seen_new (w : World) : SeenAt (w.alloc (.cells seen0 83)) w.heap.size [] := by
  refine ⟨seen0, heap_alloc_new w _, by simp [seen0], fun i hi => ?_⟩
  unfold seen0
  rw [Array.getElem?_replicate, if_pos hi]
  simp
/-- The numbers of the first lists. -/
def pre2 (xs ys : List Int) (j : Nat) : List Int := if j = 0 then [] else if j = 1 then xs else xs ++ ys
set_option maxHeartbeats 2000000 in
theorem distinct_any (bl off cp : Nat) (a1 a2 : Option Addr) (l1 c1 l2 c2 : Nat) (xs ys : List Int) (w : World) (hbl : bl < w.heap.size) (k1 : w.cell? ⟨bl, off, none⟩ = some (.slice a1 l1 c1)) (k2 : w.cell? ⟨bl, off + 1, none⟩ = some (.slice a2 l2 c2))
    (h1 : IntsAt w a1 l1 xs) (h2 : IntsAt w a2 l2 ys) (hl1 : l1 ≤ 1000000) (hl2 : l2 ≤ 1000000) :
    Calls Try.prog 38 #[.slice (some ⟨bl, off, none⟩) 2 cp] w fun e w' => e = .returned (.bool (decide (Segs (xs ++ ys)))) ∧ Below w.heap.size w w' := by
  have hJ : ∀ j : Nat, j < 2 → ∃ a l c zs rest, w.cell? ⟨bl, off + j, none⟩ = some (.slice a l c) ∧ IntsAt w a l zs ∧ l ≤ 1000000 ∧ pre2 xs ys (j + 1) = pre2 xs ys j ++ zs ∧ xs ++ ys = (pre2 xs ys j ++ zs) ++ rest := by
    intro j hj
    rcases (by omega : j = 0 ∨ j = 1) with rfl | rfl
    · exact ⟨a1, l1, c1, xs, ys, k1, h1, hl1, rfl, rfl⟩
    · exact ⟨a2, l2, c2, ys, [], k2, h2, hl2, rfl, by simp [pre2]⟩
  have hlast : pre2 xs ys 2 = xs ++ ys := rfl
  have hz := zero_seen
  have hn := seen_new w
  have hbz : Below w.heap.size w (w.alloc (.cells seen0 83)) := (Below.refl _ w).alloc (Nat.le_refl _) _
  obtain ⟨R, hR⟩ : ∃ R, decide (Segs (xs ++ ys)) = R := ⟨_, rfl⟩
  rw [hR]
  have HJ := Lib.hid hJ; have HLAST := Lib.hid hlast; have HN := Lib.hid hn; have HR := Lib.hid hR; have HBZ := Lib.hid hbz
  clear hJ hlast hn hR h1 h2 k1 k2 hbz
  generalize seen0 = s0 at *
  go_enter Try.func38, Try.ntmps38
  go_wp2_with fail
  clear hz
  go_loopw [10] (fun i wr => ∃ j : Nat, j ≤ 2 ∧ i = .int .i64 (j : Int) ∧ Hid (Below w.heap.size w wr) ∧ Hid (SeenAt wr w.heap.size (pre2 xs ys j)) ∧ Hid (Segs (pre2 xs ys j))) (fun i _ => 2 - (intOf i).toNat)
  case atStart => exact ⟨0, by omega, rfl, HBZ.out, HN.out, segs_nil⟩
  case round =>
    obtain ⟨j, hj, rfl, hB, hS, hT⟩ := hrel
    by_cases hlt : j < 2
    · obtain ⟨a, l, c, zs, rest, d0, hI, hl, hP, hW⟩ := HJ.out j hlt
      have d1 := (hB.out.cell (p := ⟨bl, off + j, none⟩) hbl).trans d0
      have HL := Lib.hid hI.1; have HC := Lib.hid hI.2.2; have HP := Lib.hid hP; have HW := Lib.hid hW
      generalize pre2 xs ys j = pre at *
      clear d0 hI hP hW
      go_wp2_with fail
      go_loopw [16] (fun i wq => ∃ k : Nat, k ≤ l ∧ i = .int .i64 (k : Int) ∧ Hid (Below w.heap.size w wq) ∧ Hid (SeenAt wq w.heap.size (pre ++ zs.take k)) ∧ Hid (Segs (pre ++ zs.take k))) (fun i _ => l - (intOf i).toNat)
      case atStart => exact ⟨0, Nat.zero_le _, rfl, hB.out, by show SeenAt _ _ (pre ++ List.take 0 zs); simpa using hS.out, by show Segs (pre ++ List.take 0 zs); simpa using hT.out⟩
      case round =>
        clear hB hS hT d1
        obtain ⟨k, hk, rfl, hB, hS, hT⟩ := hrel
        by_cases hkl : k < l
        · obtain ⟨b, o2, rfl, hb, hd⟩ := HC.out.resolve_left (by omega)
          have hkx : k < zs.length := by rw [HL.out]; exact hkl
          have d2 := (hB.out.cell (p := ⟨b, o2 + k, none⟩) hb).trans (hd k hkl)
          have hst := fun h0 h1 hn => segs_step hT.out (n := zs.getD k 0) h0 h1 hn
          rw [List.append_assoc, ← take_snoc zs k hkx] at hst
          have hno := segs_stop (n := zs.getD k 0) (pre := pre ++ zs.take k) (rest := zs.drop (k + 1) ++ rest) (l := xs ++ ys) (by
            rw [HW.out]
            conv => lhs; rw [whole_at hkx]
            simp only [List.append_assoc])
          have hset : ∀ i : Nat, i < 63 → (i : Int) = zs.getD k 0 → SeenAt (wr.setCell ⟨w.heap.size, i, none⟩ (.bool true)) w.heap.size (pre ++ zs.take (k + 1)) := fun i hi e => by
            have := hS.out.set hi
            rw [e, List.append_assoc, ← take_snoc zs k hkx] at this
            exact this
          have HSET := Lib.hid hset; have HST := Lib.hid hst; have HNO := Lib.hid hno
          generalize zs.getD k 0 = u at *
          clear hset hst hno hd hT HC
          by_cases u0 : u < 0
          · have hRf : R = false := by rw [← HR.out]; exact decide_eq_false (HNO.out (.inl u0))
            have t0 : decide (u < 0) = true := decide_eq_true u0
            have HRF := Lib.hid hRf
            clear hRf
            go_wp2_with fail
            go_ret
            exact ⟨by rw [HRF.out]; rfl, hB.out⟩
          have t0 : decide (u < 0) = false := decide_eq_false u0
          by_cases u1 : 63 ≤ u
          · have hRf : R = false := by rw [← HR.out]; exact decide_eq_false (HNO.out (.inr (.inl u1)))
            have t1 : decide (63 ≤ u) = true := decide_eq_true u1
            have HRF := Lib.hid hRf
            clear hRf
            go_wp2_with fail
            go_ret
            exact ⟨by rw [HRF.out]; rfl, hB.out⟩
          clear t0
          obtain ⟨i, rfl⟩ : ∃ i : Nat, u = (i : Int) := ⟨u.toNat, by omega⟩
          have i1 : i < 63 := by omega
          have i2 : (i : Int) < 63 := by omega
          have t0 : decide ((i : Int) < 0) = false := by simp
          have t1 : decide (63 ≤ (i : Int)) = false := by simp; omega
          have d3 := hS.out.cell i1
          have d4 := hS.out.frozen i
          clear u0 u1
          by_cases hm : (i : Int) ∈ pre ++ zs.take k
          · have hRf : R = false := by rw [← HR.out]; exact decide_eq_false (HNO.out (.inr (.inr hm)))
            rw [decide_eq_true hm] at d3
            have HRF := Lib.hid hRf
            clear hRf hm
            go_wp2_with fail
            go_ret
            exact ⟨by rw [HRF.out]; rfl, hB.out⟩
          · have HSEG := Lib.hid (HST.out (by omega) (by omega) hm)
            have HSA := Lib.hid (HSET.out i i1 rfl)
            have HBS := Lib.hid (hB.out.setCell (p := ⟨w.heap.size, i, none⟩) (Nat.le_refl _) (.bool true))
            rw [decide_eq_false hm] at d3
            clear hm HSET HST HNO
            go_wp2_with fail
            go_roundw
            case rel => exact ⟨k + 1, by omega, by go_num, HBS, HSA, HSEG⟩
            case measure => simp [intOf]; omega
        · have e : zs.take k = zs := List.take_of_length_le (by rw [HL.out]; omega)
          rw [e, ← HP.out] at hS hT
          have hS' := Lib.hid hS.out; have hT' := Lib.hid hT.out
          clear e hS hT
          go_wp2_with fail
          go_roundw
          case rel => exact ⟨j + 1, by omega, by go_num, hB, hS', hT'⟩
          case measure => simp [intOf]; omega
    · obtain rfl : j = 2 := by omega
      have hend : R = true := by
        rw [← HR.out]
        have := hT.out
        rw [HLAST.out] at this
        exact decide_eq_true this
      have HE := Lib.hid hend
      clear hend hT
      go_wp2_with fail
      go_ret
      exact ⟨by rw [HE.out]; rfl, hB.out⟩
end Go.Proofs.Ytigiaiddnbpcmaa
