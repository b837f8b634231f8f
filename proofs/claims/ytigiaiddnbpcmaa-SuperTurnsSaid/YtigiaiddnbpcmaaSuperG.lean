/-
  The contracts of both octets, of the document's numbers, and of mark.
-/
import Derived.Test.YtigiaiddnbpcmaaSuperF
set_option linter.unusedVariables false
set_option maxRecDepth 4000
namespace Go.Proofs.Ytigiaiddnbpcmaa
open Go.RowKit SuperP
open Wire (IntsAt getD_mem take_snoc owns_text)

theorem info_byte8 : (Try.prog.info? 5).map (fun i => (i.zero, i.size, i.bytes)) = some (some (.int .u8 0), 1, 1) := by kernel_rfl
/-- What stands in the row behind j rounds. -/
def octRow (xs : List Int) (n j : Nat) : List UInt8 := octs (xs.take j) ++ List.replicate (n - j) 0
theorem octRow_zero (xs : List Int) (n : Nat) : octRow xs n 0 = List.replicate n 0 := by simp [octRow, octs]
theorem octRow_all {xs : List Int} {n : Nat} (h : xs.length = n) : octRow xs n n = octs xs := by simp [octRow, ← h]
theorem octs_snoc (l : List Int) (c : Int) : octs (l ++ [c]) = octs l ++ [UInt8.ofNat c.toNat] := by simp [octs]
theorem byte_back {u : Int} (h0 : 0 ≤ u) (h1 : u < 256) : ((UInt8.ofNat u.toNat).toNat : Int) = u := by rw [UInt8.toNat_ofNat']; omega
theorem octRow_step {xs : List Int} {n j : Nat} {u : Int} (h : xs.length = n) (hj : j < n) (hu : xs.getD j 0 = u) (h0 : 0 ≤ u) (h1 : u < 256) :
    (Lib.byteCells (octRow xs n j)).set j (.int .u8 u) = Lib.byteCells (octRow xs n (j + 1)) := by
  unfold octRow
  have hl : (octs (xs.take j)).length = j := by simp [octs, h]; omega
  rw [take_snoc xs j (by omega), octs_snoc, hu, Lib.byteCells_append, List.set_append_right _ _ (by rw [Lib.byteCells_length, hl]; exact Nat.le_refl _), Lib.byteCells_length, hl, Nat.sub_self, show n - j = (n - (j + 1)) + 1 by omega, List.replicate_succ,
    Wire.byteCells_cons, List.set_cons_zero, List.append_assoc, Lib.byteCells_append, List.singleton_append, Wire.byteCells_cons, byte_back h0 h1]
theorem zero_cells (n : Nat) : (madeCells #[Value.int .u8 0] n).toList = Lib.byteCells (List.replicate n 0) := by
  rw [toList_madeCells_one]
  simp [Lib.byteCells]
set_option maxHeartbeats 1000000 in
theorem octets_is (a : Option Addr) (len cap : Nat) (xs : List Int) (w : World) (h : IntsAt w a len xs) (hr : ∀ n ∈ xs, 0 ≤ n ∧ n < 63) (hlen : len ≤ 1000000) :
    Calls Try.prog 49 #[.slice a len cap] w fun e w' => e = .returned (.string ⟨(octs xs).toArray⟩) ∧ Below w.heap.size w w' := by
  obtain ⟨i0, hi, hz0, hz1, hz2⟩ := info_parts info_byte8
  obtain ⟨R, hR⟩ : ∃ R : ByteArray, (⟨(octs xs).toArray⟩ : ByteArray) = R := ⟨_, rfl⟩
  rw [hR]
  have HI := Lib.hid hi; have HZ0 := Lib.hid hz0; have HZ1 := Lib.hid hz1; have HZ2 := Lib.hid hz2
  have HL := Lib.hid h.1; have HC := Lib.hid h.2.2; have HR := Lib.hid hr; have HRR := Lib.hid hR
  clear hi hz0 hz1 hz2 h hr hR
  go_enter Try.func49, Try.ntmps49
  go_wp2_with (at_make; refine wpList_make_full _ rfl (.tmp 7) (.tmp 7) 64 rfl w.heap.size 5 i0 _ 1 Try.underlying64 HI.out HZ0.out HZ1.out .i64 .i64 (len : Int) (len : Int) len rfl rfl rfl rfl ?b2 ?b3 ?b4 ?_)
  case b2 => rw [HZ2.out]; omega
  case b3 => unfold maxLen; omega
  case b4 => exact Nat.le_refl _
  intro w1 hown hgr
  have hb1 : Below w.heap.size w w1 := (Below.refl _ w).grown hgr (Nat.le_refl _) (fun k e => by cases e)
  change w1.ownsRow w.heap.size 5 1 (.slice (some ⟨w.heap.size, 0, none⟩) len len) len (madeCells #[Value.int .u8 0] len).toList at hown
  rw [zero_cells, ← octRow_zero xs len] at hown
  have HB := Lib.hid hb1; have HOWN := Lib.hid hown
  clear hgr hb1 hown
  go_wp2_with fail
  go_loopw [11] (fun i wr => ∃ j : Nat, j ≤ len ∧ i = .int .i64 (j : Int) ∧ Hid (Below w.heap.size w wr) ∧ Hid (wr.ownsRow w.heap.size 5 1 (.slice (some ⟨w.heap.size, 0, none⟩) len len) len (Lib.byteCells (octRow xs len j)))) (fun i _ => len - (intOf i).toNat)
  case atStart => exact ⟨0, Nat.zero_le _, rfl, HB, HOWN⟩
  case round =>
    obtain ⟨j, hj, rfl, hB, hO⟩ := hrel
    by_cases hlt : j < len
    · obtain ⟨b, off, rfl, hb, hd⟩ := HC.out.resolve_left (by omega)
      have hjx : j < xs.length := by rw [HL.out]; exact hlt
      have d1 := (hB.out.cell (p := ⟨b, off + j, none⟩) hb).trans (hd j hlt)
      obtain ⟨u, hu⟩ : ∃ u, xs.getD j 0 = u := ⟨_, rfl⟩
      have hur := HR.out _ (getD_mem hjx)
      rw [hu] at hur d1
      have u0 := hur.1
      have u1 : u < 256 := by omega
      have hst := octRow_step HL.out hlt hu u0 u1
      have d2 := hO.out.cellAt j (by omega)
      rw [List.getElem?_eq_getElem (by rw [hO.out.1]; omega)] at d2
      have d3 := hO.out.frozenAt j
      have hs := (hO.out.stored j (.int .u8 u)).1
      rw [hst] at hs
      have HS := Lib.hid hs; have HBS := Lib.hid (hB.out.setCell (p := ⟨w.heap.size, j, none⟩) (Nat.le_refl _) (.int .u8 u))
      generalize (Lib.byteCells (octRow xs len j))[j]'(by rw [hO.out.1]; omega) = old at d2
      clear hb hd hu hur hst hs hB hO hjx HC
      have hw : IntKind.u8.wrap u = u := by rw [show IntKind.u8.wrap u = u % 256 from rfl]; omega
      go_wp2_with fail
      go_roundw
      case rel => exact ⟨j + 1, by omega, by go_num, HBS, HS⟩
      case measure => simp [intOf]; omega
    · obtain rfl : j = len := by omega
      have ho := hO.out
      rw [octRow_all HL.out] at ho
      have hcv := owns_text ho
      rw [HRR.out] at hcv
      clear ho hO
      go_wp2_with fail
      go_ret
      exact ⟨rfl, hB.out⟩
set_option maxHeartbeats 1000000 in
theorem roctets_is (a : Option Addr) (len cap : Nat) (xs : List Int) (w : World) (h : IntsAt w a len xs) (hr : ∀ n ∈ xs, 0 ≤ n ∧ n < 63) (hlen : len ≤ 1000000) :
    Calls Try.prog 29 #[.slice a len cap] w fun e w' => e = .returned (.string ⟨(octs xs).toArray⟩) ∧ Below w.heap.size w w' := by
  obtain ⟨R, hR⟩ : ∃ R : ByteArray, (⟨(octs xs).toArray⟩ : ByteArray) = R := ⟨_, rfl⟩
  rw [hR]
  have HL := Lib.hid h.1; have HC := Lib.hid h.2.2; have HR := Lib.hid hr; have HRR := Lib.hid hR
  have hc1 := fun (w : World) (x : Int) => Wire.one_byte w x
  clear h hr hR
  go_enter Try.func29, Try.ntmps29
  go_wp2_with fail
  go_loopw [3, 4] (fun v i wr => ∃ (j : Nat) (z : ByteArray), j ≤ len ∧ i = .int .i64 (j : Int) ∧ v = .string z ∧ z.size ≤ j ∧ Hid (Below w.heap.size w wr) ∧ Hid (z.data.toList = octs (xs.take j))) (fun _ i _ => len - (intOf i).toNat)
  case atStart => exact ⟨0, ⟨#[]⟩, Nat.zero_le _, rfl, rfl, by decide, Below.refl _ w, by show [] = octs (List.take 0 xs); simp [octs]⟩
  case round =>
    obtain ⟨j, z, hj, rfl, rfl, hz, hB, hT⟩ := hrel
    by_cases hlt : j < len
    · obtain ⟨b, off, rfl, hb, hd⟩ := HC.out.resolve_left (by omega)
      have hjx : j < xs.length := by rw [HL.out]; exact hlt
      have d1 := (hB.out.cell (p := ⟨b, off + j, none⟩) hb).trans (hd j hlt)
      have hst := octs_snoc (xs.take j) (xs.getD j 0)
      rw [← take_snoc xs j hjx] at hst
      have hur := HR.out _ (getD_mem hjx)
      generalize xs.getD j 0 = u at *
      have u0 := hur.1
      have u1 : u < 256 := by omega
      have HST := Lib.hid hst
      have HBA := Lib.hid (hB.out.alloc hB.out.size (.cells #[.int .u8 u] 5))
      clear hb hd hur hst hB hjx HC
      go_wp2_with fail
      go_roundw
      case rel => exact ⟨j + 1, z ++ ⟨#[UInt8.ofNat u.toNat]⟩, by omega, by go_num, rfl, by rw [ByteArray.size_append]; exact Nat.add_le_add hz (Nat.le_refl 1), HBA, by rw [HST.out, ByteArray.data_append, Array.toList_append, hT.out]; rfl⟩
      case measure => simp [intOf]; omega
    · have hend : z = R := by
        rw [← HRR.out]
        have := hT.out
        rw [List.take_of_length_le (by rw [HL.out]; omega)] at this
        exact Wire.str_eq this
      have HE := Lib.hid hend
      clear hend hT
      go_wp2_with fail
      go_ret
      exact ⟨by rw [← HE.out]; rfl, hB.out⟩
theorem results_mark {fn : Func} (h : fn.results = #[.cell 2 46]) (tmps : Array Value) (w : World) (b : Nat) (x0 x1 x2 : Value) (hp : tmps.getD 2 undef = .pointer (some ⟨b, 0, none⟩))
    (c0 : w.cell? ⟨b, 0, none⟩ = some x0) (c1 : w.cell? ⟨b, 1, none⟩ = some x1) (c2 : w.cell? ⟨b, 2, none⟩ = some x2) :
    (results fn tmps).run Try.prog w = .ok (.agg #[x0, x1, x2]) w := by
  have hp' : tmps[2]?.getD undef = .pointer (some ⟨b, 0, none⟩) := by rw [← hp]; simp
  simp only [results, h]
  go_simp
theorem mark_any (x : Sup) (p q : Value) (w : World) : Calls Try.prog 24 #[supV x p q] w fun e w' => e = .returned (stV x.gen 0 1) ∧ Below w.heap.size w w' := by
  unfold supV stV
  have HB := Lib.hid (((Below.refl _ w).alloc (Nat.le_refl _) (.cells #[.int .i64 x.gen, .int .i64 x.base, .int .i64 x.size, .int .i64 x.cg, p, q] 24)).alloc (by simp) (.cells #[.int .i64 x.gen, .int .i64 0, .int .i64 1] 46))
  have k := cells_second (w := w) (A := #[.int .i64 x.gen, .int .i64 x.base, .int .i64 x.size, .int .i64 x.cg, p, q]) (B := #[.int .i64 x.gen, .int .i64 0, .int .i64 1]) (t := 24) (u := 46)
  have K := Lib.hid k
  clear k
  go_enter Try.func24, Try.ntmps24
  go_wp2_with fail
  refine bodyPost_ret (results_mark rfl _ _ (w.heap.size + 1) _ _ _ rfl ((Wire.cell_of_heap K.out).trans rfl) ((Wire.cell_of_heap K.out).trans rfl) ((Wire.cell_of_heap K.out).trans rfl)) rfl ?_
  exact ⟨rfl, HB.out⟩
end Go.Proofs.Ytigiaiddnbpcmaa
