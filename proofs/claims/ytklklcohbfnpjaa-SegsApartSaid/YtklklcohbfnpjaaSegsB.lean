/-
  The contracts of both Frees: any number, up to 80 segments.
-/
import Derived.Test.YtklklcohbfnpjaaSegsA
set_option linter.unusedVariables false
set_option maxRecDepth 4000
namespace Go.Proofs.Ytklklcohbfnpjaa
open Go.RowKit SegsP
open Ints (IntsAt IntsAt.keep take_snoc getD_mem cellsI append_int ints_of_owns owns_slice' owns_cast SeenAt seen0 zero_seen seen_new has_any)

theorem seen_skip {w : World} {b : Nat} {pre : List Int} (h : SeenAt w b pre) {u : Int} (hu : ¬ (0 ≤ u ∧ u < 63)) : SeenAt w b (pre ++ [u]) := by
  obtain ⟨cur, h1, h2, h3⟩ := h
  refine ⟨cur, h1, h2, fun i hi => ?_⟩
  rw [h3 i hi]
  have : ¬ ((i : Int) = u) := by omega
  simp [this]
theorem seen_keep {w w' : World} {B b : Nat} {pre : List Int} (h : SeenAt w b pre) (hb : Below B w w') (hlt : b < B) : SeenAt w' b pre := by
  obtain ⟨cur, h1, h2, h3⟩ := h
  exact ⟨cur, (hb.block b hlt).trans h1, h2, h3⟩
theorem seen_alloc {w : World} {b : Nat} {pre : List Int} {o : Obj} (h : SeenAt w b pre) (hlt : b < w.heap.size) : SeenAt (w.alloc o) b pre := by
  obtain ⟨cur, h1, h2, h3⟩ := h
  exact ⟨cur, (Below.heap_alloc _ _ _ hlt).trans h1, h2, h3⟩
theorem seen_grown {w w' : World} {b : Nat} {g : Option Nat} {pre : List Int} (h : SeenAt w b pre) (hg : w.grownBy w' g) (hlt : b < w.heap.size) (hne : ¬ g = some b) : SeenAt w' b pre := by
  obtain ⟨cur, h1, h2, h3⟩ := h
  exact ⟨cur, (hg.block b hlt (fun e => hne e.symm)).trans h1, h2, h3⟩
theorem fre_fit (n : Nat) (l : List Int) (hn : n ≤ 63) : ∀ x ∈ fre n l, -9223372036854775808 ≤ x ∧ x ≤ 9223372036854775807 := fun x hx => by have := (mem_fre.1 hx).1; omega
set_option maxHeartbeats 1000000 in
theorem free_any (n : Int) (a : Option Addr) (len cap : Nat) (xs : List Int) (w : World) (h0 : -9223372036854775808 ≤ n) (h1 : n ≤ 9223372036854775807) (h : IntsAt w a len xs) (hl : len ≤ 80) :
    Calls Try.prog 14 #[.int .i64 n, .slice a len cap] w (IntsOut (fre (cnt n) xs) w) := by
  have hcnt := fun w => count_any n w h0 h1
  have hc63 := cnt_le n
  generalize cnt n = c at *
  have hfit := fre_fit c xs hc63
  have hlen := fre_len c xs
  have HL := Lib.hid h.1; have HF := Lib.hid h.2.1; have HC := Lib.hid h.2.2; have HFIT := Lib.hid hfit; have HCNT := Lib.hid hcnt
  have hz := zero_seen
  have hn := seen_new w
  have hbz : Below w.heap.size w (w.alloc (.cells seen0 66)) := (Below.refl _ w).alloc (Nat.le_refl _) _
  have hsz : (w.alloc (.cells seen0 66)).heap.size = w.heap.size + 1 := by simp
  have HN := Lib.hid hn; have HBZ := Lib.hid hbz; have HSZ := Lib.hid hsz
  clear h hfit hcnt hn hbz hlen hsz
  generalize seen0 = s0 at *
  go_enter Try.func14, Try.ntmps14
  go_wp2_with fail
  clear hz
  go_loopw [12] (fun i wr => ∃ j : Nat, j ≤ len ∧ i = .int .i64 (j : Int) ∧ Hid (Below w.heap.size w wr) ∧ Hid (SeenAt wr w.heap.size (xs.take j)) ∧ Hid (w.heap.size + 1 ≤ wr.heap.size)) (fun i _ => len - (intOf i).toNat)
  case atStart => exact ⟨0, by omega, rfl, HBZ.out, HN.out, by rw [HSZ.out]; exact Nat.le_refl _⟩
  case round =>
    obtain ⟨j, hj, rfl, hB, hS, hZ⟩ := hrel
    by_cases hlt : j < len
    · obtain ⟨b1, o1, rfl, hb1, hd1⟩ := HC.out.resolve_left (by omega)
      have hjx : j < xs.length := by rw [HL.out]; exact hlt
      have d1 := (hB.out.cell (p := ⟨b1, o1 + j, none⟩) hb1).trans (hd1 j hlt)
      have HTK := Lib.hid (take_snoc xs j hjx)
      obtain ⟨k0, k1⟩ := HF.out _ (getD_mem hjx)
      generalize xs.getD j 0 = u at *
      have HNUM := Lib.hid (fun w => numbers_any u w k0 k1)
      clear hd1
      by_cases hk : 0 ≤ u ∧ u < 63
      · obtain ⟨k, rfl⟩ : ∃ k : Nat, u = (k : Int) := ⟨u.toNat, by omega⟩
        have hk63 : k < 63 := by omega
        have hk63' : (k : Int) < 63 := by omega
        rw [decide_eq_true hk] at HNUM
        have d3 := hS.out.cell hk63
        have d4 := hS.out.frozen k
        have HS2 := Lib.hid (hS.out.set hk63)
        rw [← HTK.out] at HS2
        clear hk k0 k1
        go_wp2_with fail
        refine (HNUM.out _).mono ?_
        rintro e w' ⟨rfl, rfl⟩
        clear d1
        go_wp2_with fail
        go_roundw
        case rel => exact ⟨j + 1, by omega, by go_num, hB.out.setCell (Nat.le_refl _) _, HS2, Lib.hid (by simpa using hZ.out)⟩
        case measure => simp [intOf]; omega
      · rw [decide_eq_false hk] at HNUM
        have HS2 := Lib.hid (seen_skip hS.out hk)
        rw [← HTK.out] at HS2
        clear hk
        go_wp2_with fail
        refine (HNUM.out _).mono ?_
        rintro e w' ⟨rfl, rfl⟩
        clear d1
        go_wp2_with fail
        go_roundw
        case rel => exact ⟨j + 1, by omega, by go_num, hB, HS2, hZ⟩
        case measure => simp [intOf]; omega
    · obtain rfl : j = len := by omega
      have hx : xs.take j = xs := List.take_of_length_le (by rw [HL.out]; omega)
      rw [hx] at hS
      clear hx HC HF HN HBZ HSZ
      go_wp2_with fail
      refine (HCNT.out _).mono ?_
      rintro e w' ⟨rfl, rfl⟩
      clear HCNT
      go_wp2_with fail
      have HB1 := hB; have HS1 := hS; have HZ1 := hZ
      clear hB hS hZ
      go_loopw [8, 23] (fun s i wq => ∃ (k m : Nat), k ≤ c ∧ i = .int .i64 (k : Int) ∧ m ≤ k ∧ Hid (m = (fre k xs).length) ∧ Hid (wq.ownsRow (w.heap.size + 1) 3 1 s m (cellsI (fre k xs))) ∧ Hid (Below w.heap.size w wq) ∧ Hid (SeenAt wq w.heap.size xs) ∧ Hid (w.heap.size + 1 ≤ wq.heap.size)) (fun _ i _ => c - (intOf i).toNat)
      case atStart => exact ⟨0, 0, Nat.zero_le _, rfl, by omega, rfl, World.ownsRow_nil _ _ _ _, HB1, HS1, HZ1⟩
      case round =>
        obtain ⟨k, m, hk, rfl, hm, hM, hO, hB, hS, hZ⟩ := hrel
        by_cases hkc : k < c
        · have hk63 : k < 63 := by omega
          have hk63' : (k : Int) < 63 := by omega
          have d3 := hS.out.cell hk63
          by_cases hmem : (k : Int) ∈ xs
          · rw [decide_eq_true hmem] at d3
            have HF2 := Lib.hid (fre_no hmem)
            clear hmem
            go_wp2_with fail
            go_roundw
            case rel => exact ⟨k + 1, m, by omega, by go_num, by omega, by rw [HF2.out]; exact hM, by rw [HF2.out]; exact hO, hB, hS, hZ⟩
            case measure => simp [intOf]; omega
          · rw [decide_eq_false hmem] at d3
            have HF2 := Lib.hid (fre_yes hmem)
            clear hmem
            obtain ⟨a3, c3, rfl⟩ := owns_slice' hO.out
            have HLT := Lib.hid hO.out.lt
            go_wp2_with (at_builtin; refine append_int rfl (.tmp 30) (.tmp 32) rfl (w.heap.size + 1) wr (k : Int) (.slice a3 m c3) m (fre k xs) rfl hO.out rfl (by omega) hZ.out ?_)
            intro v2 w2 hown2 hgrow2
            have HB2 := Lib.hid ((hB.out.alloc hB.out.size _).grown hgrow2 (by have := hB.out.size; simp; omega) (fun k hk => by have := (HLT.out k hk).1; omega))
            have HS2 := Lib.hid (seen_grown (seen_alloc (o := .cells #[.int .i64 (k : Int)] 3) hS.out (by have := hZ.out; omega)) hgrow2 (by have := hZ.out; simp; omega) (fun e => by have := (HLT.out _ e).1; omega))
            have HZ2 := Lib.hid (show w.heap.size + 1 ≤ w2.heap.size by have := hgrow2.size; have := hZ.out; simp at *; omega)
            have HO2 := Lib.hid (owns_cast hown2 (m := m + 1) (ys := cellsI (fre (k + 1) xs)) rfl (by rw [HF2.out]))
            clear hown2 hgrow2 hO hB hS hZ
            go_wp2_with fail
            go_roundw
            case rel => exact ⟨k + 1, m + 1, by omega, by go_num, by omega, by rw [HF2.out, List.length_append, ← hM.out]; trivial, HO2, HB2, HS2, HZ2⟩
            case measure => simp [intOf]; omega
        · obtain rfl : k = c := by omega
          have HEND := Lib.hid (ints_out (Ints.owns_mono hO.out (Nat.le_succ _)) hM.out HFIT.out hB.out)
          clear hM hO hB hS hZ
          go_wp2_with fail
          go_ret
          exact HEND.out
set_option maxHeartbeats 1000000 in
theorem rfree_any (n : Int) (a : Option Addr) (len cap : Nat) (xs : List Int) (w : World) (h0 : -9223372036854775808 ≤ n) (h1 : n ≤ 9223372036854775807) (h : IntsAt w a len xs) (hl : len ≤ 80) :
    Calls Try.prog 15 #[.int .i64 n, .slice a len cap] w (IntsOut (fre (cnt n) xs) w) := by
  have hcnt := fun w => rcount_any n w h0 h1
  have hc63 := cnt_le n
  generalize cnt n = c at *
  have hfit := fre_fit c xs hc63
  have H := Lib.hid h; have HFIT := Lib.hid hfit; have HCNT := Lib.hid hcnt
  clear h hfit hcnt
  go_enter Try.func15, Try.ntmps15
  go_wp2_with fail
  go_loopw [5, 6] (fun s i wq => ∃ (k m : Nat), k ≤ c ∧ i = .int .i64 (k : Int) ∧ m ≤ k ∧ Hid (m = (fre k xs).length) ∧ Hid (wq.ownsRow w.heap.size 3 1 s m (cellsI (fre k xs))) ∧ Hid (Below w.heap.size w wq)) (fun _ i _ => c - (intOf i).toNat)
  case atStart => exact ⟨0, 0, Nat.zero_le _, rfl, by omega, rfl, World.ownsRow_nil _ _ _ _, Below.refl _ w⟩
  case round =>
    obtain ⟨k, m, hk, rfl, hm, hM, hO, hB⟩ := hrel
    by_cases hkc : k < c
    · have HHAS := Lib.hid (has_any a len cap (k : Int) xs wr (H.out.keep hB.out) (by omega))
      go_wp2_with fail
      refine (HCNT.out _).mono ?_
      rintro e w' ⟨rfl, rfl⟩
      by_cases hmem : (k : Int) ∈ xs
      · rw [decide_eq_true hmem] at HHAS
        have HF2 := Lib.hid (fre_no hmem)
        clear hmem
        go_wp2_with fail
        refine HHAS.out.mono ?_
        rintro e w' ⟨rfl, rfl⟩
        go_wp2_with fail
        go_roundw
        case rel => exact ⟨k + 1, m, by omega, by go_num, by omega, by rw [HF2.out]; exact hM, by rw [HF2.out]; exact hO, hB⟩
        case measure => simp [intOf]; omega
      · rw [decide_eq_false hmem] at HHAS
        have HF2 := Lib.hid (fre_yes hmem)
        clear hmem
        obtain ⟨a3, c3, rfl⟩ := owns_slice' hO.out
        have HLT := Lib.hid hO.out.lt
        go_wp2_with fail
        refine HHAS.out.mono ?_
        rintro e w' ⟨rfl, rfl⟩
        go_wp2_with (at_builtin; refine append_int rfl (.tmp 17) (.tmp 19) rfl w.heap.size wr (k : Int) (.slice a3 m c3) m (fre k xs) rfl hO.out rfl (by omega) hB.out.size ?_)
        intro v2 w2 hown2 hgrow2
        have HB2 := Lib.hid ((hB.out.alloc hB.out.size _).grown hgrow2 (by have := hB.out.size; simp; omega) (fun k hk => (HLT.out k hk).1))
        have HO2 := Lib.hid (owns_cast hown2 (m := m + 1) (ys := cellsI (fre (k + 1) xs)) rfl (by rw [HF2.out]))
        clear hown2 hgrow2 hO hB
        go_wp2_with fail
        go_roundw
        case rel => exact ⟨k + 1, m + 1, by omega, by go_num, by omega, by rw [HF2.out, List.length_append, ← hM.out]; trivial, HO2, HB2⟩
        case measure => simp [intOf]; omega
    · obtain rfl : k = c := by omega
      have HEND := Lib.hid (ints_out hO.out hM.out HFIT.out hB.out)
      clear hM hO hB
      go_wp2_with fail
      refine (HCNT.out _).mono ?_
      rintro e w' ⟨rfl, rfl⟩
      go_wp2_with fail
      go_ret
      exact HEND.out
end Go.Proofs.Ytklklcohbfnpjaa
