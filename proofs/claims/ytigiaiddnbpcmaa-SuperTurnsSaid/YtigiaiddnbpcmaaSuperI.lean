/-
  The contract of fields: what the sector of a fit superblock contains.
-/
import Derived.Test.YtigiaiddnbpcmaaSuperH
import Derived.Deep.RegionHeld3
set_option linter.unusedVariables false
set_option maxRecDepth 4000
namespace Go.Proofs.Ytigiaiddnbpcmaa
open Go.RowKit SuperP
open Wire (IntsAt getD_mem take_snoc step_copy_row below_setRow info8)
open WireP (encs text)

/-- The octets l at the beginning of a row of 104, zeros behind them. -/
def row104 (l : List UInt8) : Array Value := (Lib.byteCells (l ++ List.replicate (104 - l.length) 0)).toArray
theorem zero_104 (w : World) : (zeroValue 72).run Try.prog w = .ok (.agg (row104 [])) w := by kernel_rfl
theorem row104_size {l : List UInt8} (h : l.length ≤ 104) : (row104 l).size = 104 := by
  simp only [row104, List.size_toArray, Lib.byteCells_length, List.length_append, List.length_replicate]
  omega
theorem row104_copy {l r : List UInt8} (h : l.length + r.length ≤ 104) : ((row104 l).toList.take l.length ++ Lib.byteCells r ++ (row104 l).toList.drop (l.length + r.length)).toArray = row104 (l ++ r) := by
  unfold row104
  congr 1
  have e1 : (Lib.byteCells (l ++ List.replicate (104 - l.length) 0)).take l.length = Lib.byteCells l := by
    rw [Lib.byteCells_append, List.take_left' (Lib.byteCells_length l)]
  have e2 : (Lib.byteCells (l ++ List.replicate (104 - l.length) 0)).drop (l.length + r.length) = Lib.byteCells (List.replicate (104 - (l ++ r).length) 0) := by
    rw [Lib.byteCells_append, ← List.drop_drop, List.drop_left' (Lib.byteCells_length l)]
    unfold Lib.byteCells
    rw [← List.map_drop, List.drop_replicate, List.length_append]
    congr 2
    omega
  rw [e1, e2, ← Lib.byteCells_append, ← Lib.byteCells_append]
theorem cell_setRow_next (w : World) (B i : Nat) (row : Array Value) : (w.setRow (B + 1) row).cell? ⟨B, i, none⟩ = w.cell? ⟨B, i, none⟩ :=
  World.cell?_of_block (by simp only [World.setRow, Array.getElem?_modify]; rw [if_neg (by omega)])
theorem heap_setRow_next (w : World) (B : Nat) (row : Array Value) : (w.setRow (B + 1) row).heap[B]? = w.heap[B]? := by
  simp only [World.setRow, Array.getElem?_modify]; rw [if_neg (by omega)]
/-- What stands while fields are put into the array behind block B. -/
structure Fd (w0 w : World) (B : Nat) (box : Array Value) (l : List UInt8) : Prop where
  below : Below B w0 w
  box : w.heap[B]? = some (.cells box 24 (0, 0))
  row : w.heap[B + 1]? = some (.cells (row104 l) 72 (0, 0))
theorem Fd.keep {w0 w w' : World} {B : Nat} {box : Array Value} {l : List UInt8} (h : Fd w0 w B box l) (hb : Below w.heap.size w w') : Fd w0 w' B box l := by
  have h1 := (Array.getElem?_eq_some_iff.1 h.row).1
  exact ⟨h.below.trans (hb.mono (by omega)), (hb.block B (by omega)).trans h.box, (hb.block (B + 1) h1).trans h.row⟩
theorem Fd.copy {w0 w : World} {B : Nat} {box : Array Value} {l : List UInt8} (h : Fd w0 w B box l) (r : List UInt8) : Fd w0 (w.setRow (B + 1) (row104 (l ++ r))) B box (l ++ r) :=
  ⟨below_setRow h.below (Nat.le_succ B) _, (heap_setRow_next w B _).trans h.box, heap_setRow_at h.row _⟩
theorem Fd.text {w0 w : World} {B : Nat} {box : Array Value} {l : List UInt8} (h : Fd w0 w B box l) (n cap : Nat) (hn : l.length = n) (hl : n ≤ 104) :
    (convert 64 9 (.slice (some ⟨B + 1, 0, none⟩) n cap)).run Try.prog w = .ok (.string ⟨l.toArray⟩) w := by
  have h2 := run_convert_bytes_arg (P := Try.prog) w 64 5 Try.underlying64 Try.underlying5 (B + 1) 0 n cap (l.map fun c => (c.toNat : Int)) (by simp [hn]) (fun j hj => by
    have hjl : j < l.length := by omega
    rw [Nat.zero_add, Wire.cell_of_heap h.row]
    unfold row104
    rw [List.getElem?_toArray, Lib.byteCells_append, List.getElem?_append_left (by rw [Lib.byteCells_length]; exact hjl)]
    simp [Lib.byteCells, List.getD, hjl]) 9 Try.underlying9
  rw [strOfNums_bytes] at h2
  exact h2
theorem ints_block {w : World} {b : Nat} {xs : List Int} (h : w.heap[b]? = some (.cells (cellsI xs).toArray 3 (0, 0))) (hr : ∀ x ∈ xs, -9223372036854775808 ≤ x ∧ x ≤ 9223372036854775807) : IntsAt w (some ⟨b, 0, none⟩) xs.length xs := by
  refine ⟨rfl, hr, .inr ⟨b, 0, rfl, (Array.getElem?_eq_some_iff.1 h).1, fun i hi => ?_⟩⟩
  rw [Wire.cell_of_heap h]
  simp [cellsI, List.getD, hi]
theorem four_in {x : Sup} (h : Fit x) : ∀ n ∈ [x.gen, x.base, x.size, x.cg], -9223372036854775808 ≤ n ∧ n ≤ 9223372036854775807 := by
  have hp := (fit_parts h).1
  have hz : 0 ≤ x.size ∧ x.size ≤ 52416 := by
    have h9 := h.2.2.2
    have := h.1
    split at h9
    · omega
    · omega
  intro n hn
  simp only [List.mem_cons, List.not_mem_nil, or_false] at hn
  rcases hn with rfl | rfl | rfl | rfl <;> omega
theorem segs_both {x : Sup} (h : Fit x) : (∀ n ∈ x.chk, 0 ≤ n ∧ n < 63) ∧ ∀ n ∈ x.log, 0 ≤ n ∧ n < 63 := by
  have hs := (fit_parts h).2.2.1
  exact ⟨fun n hn => hs.1 n (List.mem_append_left _ hn), fun n hn => hs.1 n (List.mem_append_right _ hn)⟩
theorem list_size (l : List UInt8) : (⟨l.toArray⟩ : ByteArray).size = l.length := by simp [ByteArray.size]
set_option maxHeartbeats 4000000 in
theorem fields_is (x : Sup) (a1 a2 : Option Addr) (l1 c1 l2 c2 : Nat) (w : World) (h : SupAt w x a1 l1 a2 l2) (hf : Fit x) :
    Calls Try.prog 25 #[supV x (.slice a1 l1 c1) (.slice a2 l2 c2)] w fun e w' => e = .returned (.string ⟨(data x).toArray⟩) ∧ Below w.heap.size w w' := by
  have hdl := data_length hf
  obtain ⟨_, _, _, hc63, hl63⟩ := fit_parts hf
  obtain ⟨hrA, hrB⟩ := segs_both hf
  have hlp := (fit_parts hf).2.1
  obtain ⟨s1, hs1⟩ : ∃ s1 : ByteArray, (⟨(encs [x.gen, x.base, x.size, x.cg]).toArray⟩ : ByteArray) = s1 := ⟨_, rfl⟩
  obtain ⟨s2, hs2⟩ : ∃ s2 : ByteArray, (⟨(text (octs x.chk)).toArray⟩ : ByteArray) = s2 := ⟨_, rfl⟩
  obtain ⟨s3, hs3⟩ : ∃ s3 : ByteArray, (⟨(text (octs x.log)).toArray⟩ : ByteArray) = s3 := ⟨_, rfl⟩
  have d1 : s1.data.toList = encs [x.gen, x.base, x.size, x.cg] := by rw [← hs1]
  have d2 : s2.data.toList = text (octs x.chk) := by rw [← hs2]
  have d3 : s3.data.toList = text (octs x.log) := by rw [← hs3]
  have hdat : data x = s1.data.toList ++ (s2.data.toList ++ s3.data.toList) := by rw [d1, d2, d3]; rfl
  have n3 : 0 < s3.size := by
    rw [← Wire.len_list, d3]
    unfold text
    rw [List.length_append]
    have : (octs x.log).length = x.log.length := by simp [octs]
    omega
  rw [hdat] at hdl ⊢
  rw [List.length_append, List.length_append, Wire.len_list, Wire.len_list, Wire.len_list] at hdl
  have hk1 : ∀ (b : Nat) (w : World), w.heap[b]? = some (.cells #[.int .i64 x.gen, .int .i64 x.base, .int .i64 x.size, .int .i64 x.cg] 3 (0, 0)) → Calls Try.prog 47 #[.slice (some ⟨b, 0, none⟩) 4 4] w fun e w' => e = .returned (.string s1) ∧ Below w.heap.size w w' := fun b w hb => by
    rw [← hs1]
    exact Wire.ints_any (some ⟨b, 0, none⟩) 4 4 [x.gen, x.base, x.size, x.cg] w (ints_block hb (four_in hf)) (by decide)
  obtain ⟨o1, ho1⟩ : ∃ o1 : ByteArray, (⟨(octs x.chk).toArray⟩ : ByteArray) = o1 := ⟨_, rfl⟩
  obtain ⟨o2, ho2⟩ : ∃ o2 : ByteArray, (⟨(octs x.log).toArray⟩ : ByteArray) = o2 := ⟨_, rfl⟩
  have hk2 : ∀ w', IntsAt w' a1 l1 x.chk → Calls Try.prog 49 #[.slice a1 l1 c1] w' fun e w'' => e = .returned (.string o1) ∧ Below w'.heap.size w' w'' := fun w' hi => by
    rw [← ho1]
    exact octets_is a1 l1 c1 x.chk w' hi hrA (by rw [← hi.1]; omega)
  have hk3 : ∀ w', IntsAt w' a2 l2 x.log → Calls Try.prog 49 #[.slice a2 l2 c2] w' fun e w'' => e = .returned (.string o2) ∧ Below w'.heap.size w' w'' := fun w' hi => by
    rw [← ho2]
    exact octets_is a2 l2 c2 x.log w' hi hrB (by rw [← hi.1]; omega)
  have hk4 : ∀ w', Calls Try.prog 48 #[.string o1] w' fun e w'' => e = .returned (.string s2) ∧ Below w'.heap.size w' w'' := fun w' =>
    Wire.text_is o1 s2 w' (by rw [← ho1, list_size]; simp [octs]; omega) (by rw [d2, ← ho1])
  have hk5 : ∀ w', Calls Try.prog 48 #[.string o2] w' fun e w'' => e = .returned (.string s3) ∧ Below w'.heap.size w' w'' := fun w' =>
    Wire.text_is o2 s3 w' (by rw [← ho2, list_size]; simp [octs]; omega) (by rw [d3, ← ho2])
  have H := Lib.hid h; have K1 := Lib.hid hk1; have K2 := Lib.hid hk2; have K3 := Lib.hid hk3; have K4 := Lib.hid hk4; have K5 := Lib.hid hk5
  have hz := zero_104
  have hal : Try.prog.arrayLen 72 = 104 := by kernel_rfl
  have hsz0 : (row104 []).size = 104 := row104_size (by decide)
  obtain ⟨z0, hz0⟩ : ∃ z0, row104 [] = z0 := ⟨_, rfl⟩
  rw [hz0] at hz hsz0
  have HZ0 := Lib.hid hz0
  have hb0 : Below w.heap.size w ((w.alloc (.cells #[.int .i64 x.gen, .int .i64 x.base, .int .i64 x.size, .int .i64 x.cg, .slice a1 l1 c1, .slice a2 l2 c2] 24)).alloc (.cells z0 72)) := ((Below.refl _ w).alloc (Nat.le_refl _) _).alloc (by simp) _
  have q1 : ((w.alloc (.cells #[.int .i64 x.gen, .int .i64 x.base, .int .i64 x.size, .int .i64 x.cg, .slice a1 l1 c1, .slice a2 l2 c2] 24)).alloc (.cells z0 72)).heap[w.heap.size]? = some (.cells #[.int .i64 x.gen, .int .i64 x.base, .int .i64 x.size, .int .i64 x.cg, .slice a1 l1 c1, .slice a2 l2 c2] 24 (0, 0)) := (Below.heap_alloc (w.alloc _) _ w.heap.size (by simp)).trans (heap_alloc_new w _)
  have q2 := cells_second (w := w) (A := #[.int .i64 x.gen, .int .i64 x.base, .int .i64 x.size, .int .i64 x.cg, .slice a1 l1 c1, .slice a2 l2 c2]) (B := z0) (t := 24) (u := 72)
  have HF0 := Lib.hid (Fd.mk hb0 q1 (by rw [hz0]; exact q2))
  have HL1 := Lib.hid (Wire.len_list s1); have HL2 := Lib.hid (Wire.len_list s2); have HL3 := Lib.hid (Wire.len_list s3)
  have hr1 : (z0.toList.take 0 ++ Lib.byteCells s1.data.toList ++ z0.toList.drop (0 + s1.size)).toArray = row104 s1.data.toList := by
    have := row104_copy (l := []) (r := s1.data.toList) (by rw [HL1.out]; show 0 + s1.size ≤ 104; omega)
    rw [hz0, HL1.out] at this
    exact this
  have hr2 : ((row104 s1.data.toList).toList.take s1.size ++ Lib.byteCells s2.data.toList ++ (row104 s1.data.toList).toList.drop (s1.size + s2.size)).toArray = row104 (s1.data.toList ++ s2.data.toList) := by
    have := row104_copy (l := s1.data.toList) (r := s2.data.toList) (by rw [HL1.out, HL2.out]; omega)
    rw [HL1.out, HL2.out] at this
    exact this
  have hr3 : ((row104 (s1.data.toList ++ s2.data.toList)).toList.take (s1.size + s2.size) ++ Lib.byteCells s3.data.toList ++ (row104 (s1.data.toList ++ s2.data.toList)).toList.drop (s1.size + s2.size + s3.size)).toArray = row104 (s1.data.toList ++ s2.data.toList ++ s3.data.toList) := by
    have := row104_copy (l := s1.data.toList ++ s2.data.toList) (r := s3.data.toList) (by rw [List.length_append, HL1.out, HL2.out, HL3.out]; omega)
    rw [List.length_append, HL1.out, HL2.out, HL3.out] at this
    exact this
  have HR1 := Lib.hid hr1; have HR2 := Lib.hid hr2; have HR3 := Lib.hid hr3
  have z1 : (row104 s1.data.toList).size = 104 := row104_size (by rw [HL1.out]; omega)
  have z2 : (row104 (s1.data.toList ++ s2.data.toList)).size = 104 := row104_size (by rw [List.length_append, HL1.out, HL2.out]; omega)
  have HZ1 := Lib.hid z1; have HZ2 := Lib.hid z2; have HSZ0 := Lib.hid hsz0
  clear hb0 q1 q2 h hk1 hk2 hk3 hk4 hk5 ho1 ho2 hs1 hs2 hs3 d1 d2 d3 hr1 hr2 hr3 hrA hrB hf hdat hz0 hlp hc63 hl63 z1 z2 hsz0
  unfold supV
  go_enter Try.func25, Try.ntmps25
  go_wp2_with fail
  clear hz
  generalize (w.alloc (.cells #[.int .i64 x.gen, .int .i64 x.base, .int .i64 x.size, .int .i64 x.cg, .slice a1 l1 c1, .slice a2 l2 c2] 24)).alloc (.cells z0 72) = w1 at *
  obtain ⟨p0, p1, p2, p3, p4, p5⟩ := six_cells HF0.out.box
  have hle1 : s1.size ≤ 104 := by omega
  have HC : Hid (∀ w2, Below (w1.drew.alloc (.cells #[.int .i64 x.gen, .int .i64 x.base, .int .i64 x.size, .int .i64 x.cg] 3)).heap.size (w1.drew.alloc (.cells #[.int .i64 x.gen, .int .i64 x.base, .int .i64 x.size, .int .i64 x.cg] 3)) w2 → Fd w w2 w.heap.size #[.int .i64 x.gen, .int .i64 x.base, .int .i64 x.size, .int .i64 x.cg, .slice a1 l1 c1, .slice a2 l2 c2] []) :=
    Lib.hid fun w2 hb => HF0.out.keep (((Below.refl _ w1).drew.alloc (Nat.le_refl _) _).trans (hb.mono (by rw [World.size_alloc]; exact Nat.le_succ _)))
  go_region_held3 (fun w' => w'.cell? ⟨w.heap.size, 0, none⟩ = some (.int .i64 x.gen) ∧ w'.cell? ⟨w.heap.size, 1, none⟩ = some (.int .i64 x.base) ∧ w'.cell? ⟨w.heap.size, 2, none⟩ = some (.int .i64 x.size) ∧ w'.cell? ⟨w.heap.size, 3, none⟩ = some (.int .i64 x.cg))
    (first | exact ⟨p0, p1, p2, p3⟩ | exact ⟨Lib.cell?_alloc_some _ p0, Lib.cell?_alloc_some _ p1, Lib.cell?_alloc_some _ p2, Lib.cell?_alloc_some _ p3⟩ | exact ⟨g0, g1, g2, g3⟩ | exact ⟨(cell_setRow_next _ _ _ _).trans g0, (cell_setRow_next _ _ _ _).trans g1, (cell_setRow_next _ _ _ _).trans g2, (cell_setRow_next _ _ _ _).trans g3⟩)
    (first
      | (go_at_call 47; refine (K1.out _ _ (heap_alloc_new w1.drew _)).mono ?_; rintro e w2 ⟨rfl, hb2⟩; have HF2 := HC.out w2 hb2; obtain ⟨g0, g1, g2, g3, g4, g5⟩ := six_cells HF2.box)
      | (refine step_copy_row rfl (.tmp 5) (.tmp 15) 64 9 rfl 5 Try.underlying64 info8 (w.heap.size + 1) 0 104 104 (by simp [Act.eval]) s1 (by simp [Act.eval]) z0 72 (by rw [← HZ0.out]; exact HF2.row) hle1 (by rw [HSZ0.out]; omega) (row104 s1.data.toList) HR1.out ?_))
  have HF3 := Lib.hid (HF2.copy s1.data.toList)
  rw [List.nil_append] at HF3
  clear HF2 hb2 g0 g1 g2 g3 g4 g5 p0 p1 p2 p3 p4 p5 HC HF0
  generalize w2.setRow (w.heap.size + 1) (row104 s1.data.toList) = w3 at *
  go_wp2_with fail
  obtain ⟨p0, p1, p2, p3, p4, p5⟩ := six_cells HF3.out.box
  have m0 : (0 : Int) ≤ (s1.size : Int) := by omega
  have m1 : (s1.size : Int) ≤ 104 := by omega
  have m2 : ¬ s1.size = 104 := by omega
  have m3 : s1.size < 104 := by omega
  have mle : s2.size ≤ 104 - s1.size := by omega
  have HD : Hid (∀ w2, Below w3.drew.heap.size w3.drew w2 → Fd w w2 w.heap.size #[.int .i64 x.gen, .int .i64 x.base, .int .i64 x.size, .int .i64 x.cg, .slice a1 l1 c1, .slice a2 l2 c2] s1.data.toList) := Lib.hid fun w2 hb => HF3.out.keep ((Below.refl _ w3).drew.trans hb)
  have I3 : Hid (IntsAt w3.drew a1 l1 x.chk) := Lib.hid (H.out.chk.keep HF3.out.below.drew)
  go_region_held3 (fun w' => w'.cell? ⟨w.heap.size, 4, none⟩ = some (.slice a1 l1 c1))
    (first | exact p4 | exact g4 | exact k4 | exact (cell_setRow_next _ _ _ _).trans k4)
    (first
      | (go_at_call 49; refine (K2.out w3.drew I3.out).mono ?_; rintro e w4 ⟨rfl, hb4⟩; have HF4 := HD.out w4 hb4; obtain ⟨g0, g1, g2, g3, g4, g5⟩ := six_cells HF4.box)
      | (go_at_call 48; refine (K4.out _).mono ?_; rintro e w5 ⟨rfl, hb5⟩; have HF5 := HF4.keep hb5; obtain ⟨k0, k1, k2, k3, k4, k5⟩ := six_cells HF5.box)
      | (refine step_copy_row rfl (.tmp 19) (.tmp 23) 64 9 rfl 5 Try.underlying64 info8 (w.heap.size + 1) s1.size (104 - s1.size) (104 - s1.size) (by simp [Act.eval]) s2 (by simp [Act.eval]) (row104 s1.data.toList) 72 HF5.row mle (by rw [HZ1.out]; omega) (row104 (s1.data.toList ++ s2.data.toList)) HR2.out ?_))
  have HF6 := Lib.hid (HF5.copy s2.data.toList)
  clear HF4 HF5 hb4 hb5 g0 g1 g2 g3 g4 g5 k0 k1 k2 k3 k4 k5 p0 p1 p2 p3 p4 p5 HD HF3 I3 m0 m1 m2 m3 mle
  generalize w5.setRow (w.heap.size + 1) (row104 (s1.data.toList ++ s2.data.toList)) = w6 at *
  go_wp2_with fail
  obtain ⟨p0, p1, p2, p3, p4, p5⟩ := six_cells HF6.out.box
  obtain ⟨n2, hn2⟩ : ∃ n2, s1.size + s2.size = n2 := ⟨_, rfl⟩
  have hw2 : IntKind.i64.wrap ((s1.size : Int) + (s2.size : Int)) = (n2 : Int) := by rw [IntWalk.i64_in] <;> omega
  rw [hw2]
  have m0 : (0 : Int) ≤ (n2 : Int) := by omega
  have m1 : (n2 : Int) ≤ 104 := by omega
  have m2 : ¬ n2 = 104 := by omega
  have m3 : n2 < 104 := by omega
  have mle : s3.size ≤ 104 - n2 := by omega
  have hd3 : n2 + s3.size ≤ 104 := by omega
  have HR4 := Lib.hid HR3.out
  rw [hn2] at HR4
  have hll : (s1.data.toList ++ s2.data.toList ++ s3.data.toList).length = n2 + s3.size := by rw [List.length_append, List.length_append, HL1.out, HL2.out, HL3.out, hn2]
  have HLL := Lib.hid hll
  clear hw2 hn2 hdl n3 hll HR3
  have HD : Hid (∀ w2, Below w6.drew.heap.size w6.drew w2 → Fd w w2 w.heap.size #[.int .i64 x.gen, .int .i64 x.base, .int .i64 x.size, .int .i64 x.cg, .slice a1 l1 c1, .slice a2 l2 c2] (s1.data.toList ++ s2.data.toList)) := Lib.hid fun w2 hb => HF6.out.keep ((Below.refl _ w6).drew.trans hb)
  have I3 : Hid (IntsAt w6.drew a2 l2 x.log) := Lib.hid (H.out.log.keep HF6.out.below.drew)
  go_region_held3 (fun w' => w'.cell? ⟨w.heap.size, 5, none⟩ = some (.slice a2 l2 c2))
    (first | exact p5 | exact g5 | exact k5 | exact (cell_setRow_next _ _ _ _).trans k5)
    (first
      | (go_at_call 49; refine (K3.out w6.drew I3.out).mono ?_; rintro e w7 ⟨rfl, hb7⟩; have HF7 := HD.out w7 hb7; obtain ⟨g0, g1, g2, g3, g4, g5⟩ := six_cells HF7.box)
      | (go_at_call 48; refine (K5.out _).mono ?_; rintro e w8 ⟨rfl, hb8⟩; have HF8 := HF7.keep hb8; obtain ⟨k0, k1, k2, k3, k4, k5⟩ := six_cells HF8.box)
      | (refine step_copy_row rfl (.tmp 28) (.tmp 32) 64 9 rfl 5 Try.underlying64 info8 (w.heap.size + 1) n2 (104 - n2) (104 - n2) (by simp [Act.eval]) s3 (by simp [Act.eval]) (row104 (s1.data.toList ++ s2.data.toList)) 72 HF8.row mle (by rw [HZ2.out]; exact hd3) (row104 (s1.data.toList ++ s2.data.toList ++ s3.data.toList)) HR4.out ?_))
  have HF9 := Lib.hid (HF8.copy s3.data.toList)
  clear HF7 HF8 hb7 hb8 g0 g1 g2 g3 g4 g5 k0 k1 k2 k3 k4 k5 p0 p1 p2 p3 p4 p5 HD HF6 I3 m0 m1 m2 m3 mle
  generalize w8.setRow (w.heap.size + 1) (row104 (s1.data.toList ++ s2.data.toList ++ s3.data.toList)) = w9 at *
  obtain ⟨n4, hn4⟩ : ∃ n4, n2 + s3.size = n4 := ⟨_, rfl⟩
  have hw4 : IntKind.i64.wrap ((n2 : Int) + (s3.size : Int)) = (n4 : Int) := by rw [IntWalk.i64_in] <;> omega
  have m0 : (0 : Int) ≤ (n4 : Int) := by omega
  have m1 : (n4 : Int) ≤ 104 := by omega
  have m3 : n4 ≤ 104 := by omega
  have hcv := HF9.out.text n4 104 (by rw [HLL.out, hn4]) m3
  rw [List.append_assoc] at hcv
  rw [hw4]
  clear hn4 hd3 hw4
  go_wp2_with fail
  go_ret
  exact ⟨rfl, HF9.out.below⟩
end Go.Proofs.Ytigiaiddnbpcmaa
