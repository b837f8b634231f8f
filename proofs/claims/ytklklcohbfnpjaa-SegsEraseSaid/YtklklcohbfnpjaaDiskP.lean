/-
  The contracts of the document's Blank and Data: any act.
-/
import Derived.Test.YtklklcohbfnpjaaDiskO
set_option linter.unusedVariables false
set_option maxRecDepth 4000
namespace Go.Proofs.Ytklklcohbfnpjaa
open Go.RowKit DiskP

theorem info_byte : (Try.prog.info? 5).map (fun i => (i.zero, i.size, i.bytes)) = some (some (.int .u8 0), 1, 1) := by kernel_rfl
theorem made_zero_cells : (madeCells #[Value.int .u8 0] 128).toList = (List.replicate 128 (0 : Int)).map (Value.int .u8) := by kernel_rfl
theorem rep_get {n j : Nat} (hj : j < n) : ((List.replicate n (0 : Int)).map (Value.int .u8))[j]? = some (.int .u8 ((List.replicate n (0 : Int)).getD j 0)) := by simp [List.getD, hj]
theorem blank_nums : strOfNums (List.replicate 128 (0 : Int)) = DiskP.blank := by kernel_rfl
theorem blank_rk (w : World) : Calls Try.prog 34 #[] w fun e w' => e = .returned (.string DiskP.blank) ∧ Below w.heap.size w w' := by
  obtain ⟨i0, hi, hz0, hz1, hz2⟩ := info_parts info_byte
  have HI := Lib.hid hi; have HZ0 := Lib.hid hz0; have HZ1 := Lib.hid hz1; have HZ2 := Lib.hid hz2
  clear hi hz0 hz1 hz2
  go_enter Try.func34, Try.ntmps34
  go_wp2_with (at_make; refine wpList_make_full _ rfl (.const (.int .i64 128)) (.const (.int .i64 128)) 76 rfl w.heap.size 5 i0 _ 1 Try.underlying76 HI.out HZ0.out HZ1.out .i64 .i64 128 128 128 rfl rfl rfl rfl ?b2 ?b3 ?b4 ?_)
  case b2 => rw [HZ2.out]; decide
  case b3 => decide
  case b4 => exact Nat.le_refl _
  intro w1 hown hgr
  have hb1 : Below w.heap.size w w1 := (Below.refl _ w).grown hgr (Nat.le_refl _) (fun k e => by cases e)
  rw [made_zero_cells] at hown
  have hcv := run_convert_bytes_arg (P := Try.prog) w1 76 5 Try.underlying76 Try.underlying5 w.heap.size 0 128 128 (List.replicate 128 (0 : Int)) (by simp) (fun j hj => by
    have := owns_cell (j := j) hown rfl (u := .int .u8 ((List.replicate 128 (0 : Int)).getD j 0)) (rep_get hj)
    rw [Nat.zero_add]
    exact this) 9 Try.underlying9
  rw [blank_nums] at hcv
  have HB := Lib.hid hb1
  clear hown hgr hb1
  obtain ⟨bl, hbl⟩ : ∃ bl, DiskP.blank = bl := ⟨_, rfl⟩
  rw [hbl] at hcv
  have HBL := Lib.hid hbl
  clear hbl
  go_wp2_with fail
  go_ret
  exact ⟨by rw [HBL.out]; rfl, HB.out⟩
theorem one_byte (w : World) (x : Int) : (convert 76 9 (.slice (some ⟨w.heap.size, 0, none⟩) 1 1)).run Try.prog (w.alloc (.cells #[.int .u8 x] 5)) = .ok (.string ⟨#[UInt8.ofNat x.toNat]⟩) (w.alloc (.cells #[.int .u8 x] 5)) := by
  have h := run_convert_bytes_arg (P := Try.prog) (w.alloc (.cells #[.int .u8 x] 5)) 76 5 Try.underlying76 Try.underlying5 w.heap.size 0 1 1 [x] rfl (fun i hi => by
    obtain rfl : i = 0 := by omega
    rw [Nat.zero_add, World.cell?_alloc_new]
    rfl) 9 Try.underlying9
  exact h
theorem fill_succ (c : UInt8) (n : Nat) : fill c n ++ ⟨#[c]⟩ = fill c (n + 1) := by
  apply ByteArray.ext
  rw [ByteArray.data_append]
  apply Array.toList_inj.1
  simp [fill, List.replicate_succ']
/-- An act's values. -/
def actV (kind at_ fil size : Int) (kv : Value) : Array Value := #[.int .i64 kind, .int .i64 at_, .int .u8 fil, .int .i64 size, kv]
/-- How many octets there are. -/
def span (size : Int) : Nat := min size.toNat 200
def dat (fil size : Int) : ByteArray := fill (UInt8.ofNat fil.toNat) (span size)
set_option maxRecDepth 100000 in
theorem data_any (kind at_ fil size : Int) (kv : Value) (w : World) (hk : kv.oneCell' = true) :
    Calls Try.prog 20 #[.agg (actV kind at_ fil size kv)] w fun e w' => e = .returned (.string (dat fil size)) ∧ Below w.heap.size w w' := by
  obtain ⟨m, hm⟩ : ∃ m, span size = m := ⟨_, rfl⟩
  have HM := Lib.hid hm
  unfold dat
  rw [hm]
  clear hm
  have hc1 := fun (w : World) (x : Int) => one_byte w x
  unfold actV
  go_enter Try.func20, Try.ntmps20
  go_wp2_with fail
  go_loopw [3, 4] (fun s i wr => ∃ j : Nat, j ≤ m ∧ s = .string (fill (UInt8.ofNat fil.toNat) j) ∧ i = .int .i64 (j : Int) ∧ Hid (Below w.heap.size w wr) ∧ wr.cell? ⟨w.heap.size, 2, none⟩ = some (.int .u8 fil) ∧ wr.cell? ⟨w.heap.size, 3, none⟩ = some (.int .i64 size) ∧ w.heap.size < wr.heap.size) (fun _ i _ => m - (intOf i).toNat)
  case atStart => exact ⟨0, Nat.zero_le _, rfl, rfl, (Below.refl _ w).alloc (Nat.le_refl _) _, by rw [World.cell?_alloc_new]; rfl, by rw [World.cell?_alloc_new]; rfl, by simp⟩
  case round =>
    obtain ⟨j, hj, rfl, rfl, hB, d2, d3, hsz⟩ := hrel
    have hMe : m = min size.toNat 200 := HM.out.symm
    have hsl := fill_size (UInt8.ofNat fil.toNat) j
    have hsuc := fill_succ (UInt8.ofNat fil.toNat) j
    by_cases hlt : j < m
    · have y1 : (j : Int) < size := by omega
      have y2 : (j : Int) < 200 := by omega
      have HS := Lib.hid hsuc
      have HE := Lib.hid hMe
      clear hMe hsuc
      obtain ⟨fn, hfn⟩ : ∃ fn, fill (UInt8.ofNat fil.toNat) (j + 1) = fn := ⟨_, rfl⟩
      obtain ⟨f0, hf0⟩ : ∃ f0, fill (UInt8.ofNat fil.toNat) j = f0 := ⟨_, rfl⟩
      rw [hfn, hf0] at HS
      have HFN := Lib.hid hfn
      rw [hf0]
      rw [hf0] at hsl
      clear hfn hf0
      go_wp2_with fail
      rw [HS.out]
      go_roundw
      case rel => exact ⟨j + 1, by omega, by rw [HFN.out], by go_num, hB.out.alloc hB.out.size _, Lib.cell?_alloc_some _ d2, Lib.cell?_alloc_some _ d3, by simp; omega⟩
      case measure => simp [intOf]; omega
    · obtain rfl : j = m := by omega
      clear hsuc
      obtain ⟨f0, hf0⟩ : ∃ f0, fill (UInt8.ofNat fil.toNat) j = f0 := ⟨_, rfl⟩
      have HF := Lib.hid hf0
      rw [hf0]
      rw [hf0] at hsl
      clear hf0
      by_cases y1 : (j : Int) < size
      · have y2 : ¬ (j : Int) < 200 := by omega
        clear hMe
        go_wp2_with fail
        go_ret
        exact ⟨by rw [HF.out]; rfl, hB.out⟩
      · clear hMe
        go_wp2_with fail
        go_ret
        exact ⟨by rw [HF.out]; rfl, hB.out⟩
end Go.Proofs.Ytklklcohbfnpjaa
