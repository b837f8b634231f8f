/-
  The contracts of the document's octets and Fold: any text; what was there stays as it was.
-/
import Derived.Test.YtpaemofjeadhcaaDoorNameD
set_option linter.unusedVariables false
set_option maxRecDepth 4000
namespace Go.Proofs.YtpaemofjeadhcaaDoor.Name
open Go.RowKit NameP

theorem one_byte (w : World) (x : Int) : (convert 66 9 (.slice (some ⟨w.heap.size, 0, none⟩) 1 1)).run Tryd.prog (w.alloc (.cells #[.int .u8 x] 5)) = .ok (.string ⟨#[UInt8.ofNat x.toNat]⟩) (w.alloc (.cells #[.int .u8 x] 5)) := by
  have h := run_convert_bytes_arg (P := Tryd.prog) (w.alloc (.cells #[.int .u8 x] 5)) 66 5 Tryd.underlying66 Tryd.underlying5 w.heap.size 0 1 1 [x] rfl (fun i hi => by
    obtain rfl : i = 0 := by omega
    rw [Nat.zero_add, World.cell?_alloc_new]
    rfl) 9 Tryd.underlying9
  exact h
theorem two_bytes (w : World) (x y : Int) : (convert 66 9 (.slice (some ⟨w.heap.size, 0, none⟩) 2 2)).run Tryd.prog (w.alloc (.cells #[.int .u8 x, .int .u8 y] 5)) = .ok (.string ⟨#[UInt8.ofNat x.toNat, UInt8.ofNat y.toNat]⟩) (w.alloc (.cells #[.int .u8 x, .int .u8 y] 5)) := by
  have h := run_convert_bytes_arg (P := Tryd.prog) (w.alloc (.cells #[.int .u8 x, .int .u8 y] 5)) 66 5 Tryd.underlying66 Tryd.underlying5 w.heap.size 0 2 2 [x, y] rfl (fun i hi => by
    obtain rfl | rfl : i = 0 ∨ i = 1 := by omega
    · rw [Nat.zero_add, World.cell?_alloc_new]
      rfl
    · rw [Nat.zero_add, World.cell?_alloc_new]
      rfl) 9 Tryd.underlying9
  exact h
theorem octets_any (i : Int) (w : World) (h0 : 0 ≤ i) (h1 : i ≤ 255) :
    Calls Tryd.prog 35 #[.int .i64 i] w fun e w' => e = .returned (.string ⟨(Lib.encodeRune i).toArray⟩) ∧ Below w.heap.size w w' := by
  have hc1 := fun (w : World) (x : Int) => one_byte w x
  have hc2 := fun (w : World) (x y : Int) => two_bytes w x y
  by_cases h : i < 128
  · go_enter Tryd.func35, Tryd.ntmps35
    go_wp2
    go_ret
    unfold Lib.encodeRune
    rw [Lib.encodeRuneZ_one h0 (by omega)]
    exact ⟨rfl, (Below.refl _ _).alloc (Nat.le_refl _) _⟩
  · go_enter Tryd.func35, Tryd.ntmps35
    go_wp2
    go_ret
    unfold Lib.encodeRune
    rw [Lib.encodeRuneZ_two (by omega) (by omega)]
    exact ⟨rfl, (Below.refl _ _).alloc (Nat.le_refl _) _⟩
theorem str_eq {s : ByteArray} {l : List UInt8} (h : s.data.toList = l) : s = ⟨l.toArray⟩ := by subst h; cases s; simp
theorem ret_fold {s : ByteArray} {f : Int} {v : List UInt8 × Int} (h : v = (s.data.toList, f)) : Ending.returned (.tuple #[.string s, .int .i64 f]) = .returned (.tuple #[.string ⟨v.1.toArray⟩, .int .i64 v.2]) := by
  subst h
  rw [← str_eq (s := s) rfl]

/-- What is told of the runes ahead of place k, folded. -/
def FoldTo (xs : List Nat) (k : Nat) (acc : List UInt8) : Prop := acc = encs ((xs.take k).map low) ∧ allNr ((xs.take k).map low) = true
theorem take_snoc (xs : List Nat) (k : Nat) (h : k < xs.length) : xs.take (k + 1) = xs.take k ++ [xs.getD k 0] := by
  rw [List.take_succ_eq_append_getElem h]; simp [List.getD, h]
theorem foldTo_step {xs : List Nat} {k : Nat} {acc t : List UInt8} (h : FoldTo xs k acc) (hk : k < xs.length) (hn : nr ((low (xs.getD k 0) : Nat) : Int) = true) (ht : t = Lib.encodeRune ((low (xs.getD k 0) : Nat) : Int)) : FoldTo xs (k + 1) (acc ++ t) := by
  obtain ⟨h1, h2⟩ := h
  unfold FoldTo
  rw [take_snoc xs k hk, List.map_append]
  constructor
  · rw [h1, ht]
    unfold encs
    rw [List.flatMap_append]
    simp
  · unfold allNr at *
    rw [List.all_append, h2]
    simpa using hn
theorem foldV_bad {xs : List Nat} {k : Nat} (hk : k < xs.length) (hn : nr ((low (xs.getD k 0) : Nat) : Int) = false) : foldV xs = ([], 7) := by
  apply foldV_no
  apply fitV_no
  left
  unfold allNr
  rw [List.all_map]
  rw [List.all_eq_false]
  refine ⟨xs.getD k 0, ?_, by show ¬ nr ((low (xs.getD k 0) : Nat) : Int) = true; rw [hn]; simp⟩
  simp [List.getD, hk]
theorem foldTo_end {xs : List Nat} {k : Nat} {acc : List UInt8} (h : FoldTo xs k acc) (hk : xs.length ≤ k) : acc = encs (xs.map low) := by
  rw [h.1, List.take_of_length_le hk]
theorem low_int (x : Nat) (h : x ≠ 215) : ((low x : Nat) : Int) = x + 32 ∧ (((65 : Int) ≤ x ∧ (x : Int) ≤ 90) ∨ ((192 : Int) ≤ x ∧ (x : Int) ≤ 222)) ∨ ((low x : Nat) : Int) = x ∧ ((x : Int) < 65 ∨ ((91 : Int) ≤ x ∧ (x : Int) ≤ 191) ∨ (222 : Int) < x) := by
  rcases low_cases x with ⟨e, _⟩ | ⟨e, _⟩ | ⟨e, _⟩ | ⟨e, _⟩ | ⟨e, _⟩ | ⟨e, _⟩ | ⟨e, _⟩ <;> omega
theorem foldV_bad0 {l : List UInt8} (h : (rn l).all good = false) : foldV (vals l) = ([], 7) := by
  apply foldV_no
  cases hf : fitV ((vals l).map low) with
  | false => rfl
  | true => rw [good_of_vals l (map_low_bad (fitV_iff.1 hf).1)] at h; cases h
theorem foldV_end {xs : List Nat} {l : List UInt8} {b : Bool} (hl : l = encs (xs.map low)) (hb : b = fitV (xs.map low)) : foldV xs = if b then (l, 0) else ([], 7) := by
  subst hl; subst hb; rfl
set_option maxHeartbeats 2000000 in
theorem rfold_any (s : ByteArray) (w : World) (hs : s.size ≤ 4398046511104) :
    Calls Tryd.prog 20 #[.string s] w fun e w' => e = .returned (.tuple #[.string ⟨(foldV (vals s.data.toList)).1.toArray⟩, .int .i64 (foldV (vals s.data.toList)).2]) ∧ Below w.heap.size w w' := by
  by_cases h48 : 48 < s.size
  · rw [foldV_no (fitV_no (.inr (.inr (.inl (by have := vals_four s.data.toList; rw [len_list] at this; rw [List.length_map]; omega)))))]
    go_enter Tryd.func20, Tryd.ntmps20
    go_wp2
    go_ret2
    exact ⟨rfl, Below.refl _ _⟩
  obtain ⟨xs, hv⟩ : ∃ xs, vals s.data.toList = xs := ⟨_, rfl⟩
  have hxl : xs.length ≤ 48 := by have := vals_len s.data.toList; rw [hv, len_list] at this; omega
  have hxo : ∀ c ∈ xs, okRune c := by rw [← hv]; exact vals_ok _
  rw [hv]
  have HV := Lib.hid hv; have HXO := Lib.hid hxo; clear hv hxo
  go_enter Tryd.func20, Tryd.ntmps20
  go_wp2_with fail
  refine (rrunes_walk s w hs).mono ?_
  rintro e w1 ⟨hb, ⟨hg, rfl⟩ | ⟨hg, a, cap, rfl, hat⟩⟩
  · have HG := Lib.hid hg; clear hg
    go_wp2_with fail
    go_ret2
    exact ⟨ret_fold (by rw [← HV.out]; exact foldV_bad0 HG.out), hb⟩
  clear hg
  rw [HV.out] at hat ⊢
  obtain ⟨n, hn⟩ : ∃ n, xs.length = n := ⟨_, rfl⟩
  rw [hn] at hat hxl ⊢
  have HN := Lib.hid hn; have HAT := Lib.hid hat; clear hn hat
  go_wp2_with fail
  go_loopw [6, 7] (fun o i wr => ∃ (k : Nat) (acc : ByteArray), k ≤ n ∧ i = .int .i64 k ∧ o = .string acc ∧ acc.size ≤ 4 * k ∧ Below w1.heap.size w1 wr ∧ Hid (FoldTo xs k acc.data.toList)) (fun _ i _ => n - (intOf i).toNat)
  case atStart => exact ⟨0, ⟨#[]⟩, Nat.zero_le _, rfl, rfl, by decide, Below.refl _ _, ⟨rfl, rfl⟩⟩
  case round =>
    obtain ⟨k, acc, hk, rfl, rfl, hsz, hbw, hto⟩ := hrel
    have hbw1 := hb.trans (hbw.mono hb.size)
    by_cases hlk : k < n
    · have hat := HAT.out.keep hbw
      rcases hat.2 with h0 | ⟨b, rfl, hltb, hc⟩
      · omega
      have hcell := hc k hlk
      clear hat hc
      obtain ⟨x, hx⟩ : ∃ x, xs.getD k 0 = x := ⟨_, rfl⟩
      rw [hx] at hcell
      have hxok : okRune x := by rw [← hx]; exact HXO.out _ (by simp [List.getD, show k < xs.length by rw [HN.out]; exact hlk])
      have hx1 : (x : Int) ≤ 1114111 := by unfold okRune at hxok; omega
      have hx0 : (0 : Int) ≤ x := by omega
      clear hxok
      have HBAD : Hid (nr ((low x : Nat) : Int) = false → foldV xs = ([], 7)) := fun h => foldV_bad (by rw [HN.out]; exact hlk) (by rw [hx]; exact h)
      have HSTEP : Hid (nr ((low x : Nat) : Int) = true → ∀ t, t = Lib.encodeRune ((low x : Nat) : Int) → FoldTo xs (k + 1) (acc.data.toList ++ t)) := fun h t ht => foldTo_step hto.out (by rw [HN.out]; exact hlk) (by rw [hx]; exact h) (by rw [hx]; exact ht)
      clear hx hto
      by_cases h215 : x = 215
      · subst h215
        clear HSTEP
        have HD := Lib.hid (HBAD.out rfl)
        have hrr := fun w => rrune_any 215 w
        rw [show nr 215 = false from rfl] at hrr
        have HR := Lib.hid hrr
        clear HBAD hrr
        go_wp2_with fail
        refine (HR.out _).mono ?_
        rintro e w' ⟨rfl, rfl⟩
        go_wp2_with fail
        go_ret2
        exact ⟨ret_fold HD.out, hbw1⟩
      have h215b : ((x : Int) != 215) = true := bne_iff_ne.2 (by omega)
      have h215c : ((x : Int) == 215) = false := beq_eq_false_iff_ne.2 (by omega)
      have hl := low_int x h215
      obtain ⟨y, hy⟩ : ∃ y, ((low x : Nat) : Int) = y := ⟨_, rfl⟩
      rw [hy] at hl HBAD HSTEP
      clear hy h215
      generalize (x : Int) = xi at *
      cases hnr : nr y with
      | false =>
        have HD := Lib.hid (HBAD.out hnr)
        have hrr := fun w => rrune_any y w
        rw [hnr] at hrr
        clear hnr HBAD HSTEP
        rcases hl with ⟨rfl, ⟨h2, h3⟩ | ⟨h2, h3⟩⟩ | ⟨rfl, h2 | ⟨h2, h3⟩ | h2⟩
        all_goals
          have HR := Lib.hid hrr
          clear hrr
          go_wp2_with fail
          refine (HR.out _).mono ?_
          rintro e w' ⟨rfl, rfl⟩
          go_wp2_with fail
          go_ret2
          exact ⟨ret_fold HD.out, hbw1⟩
      | true =>
        have hrr := fun w => rrune_any y w
        rw [hnr] at hrr
        have hy := nr_iff.1 hnr
        have hy0 : 0 ≤ y := by omega
        have hy1 : y ≤ 255 := by omega
        have hoc := fun w => octets_any y w hy0 hy1
        have hel := encodeRune_len y
        have HD := Lib.hid (HSTEP.out hnr _ rfl)
        clear hnr HBAD HSTEP hy
        obtain ⟨z, hz⟩ : ∃ z : ByteArray, (⟨(Lib.encodeRune y).toArray⟩ : ByteArray) = z := ⟨_, rfl⟩
        have hzl : z.size ≤ 4 := by rw [← hz]; show (Lib.encodeRune y).toArray.size ≤ 4; rw [List.size_toArray]; exact hel.2
        have HZ : Hid (z.data.toList = Lib.encodeRune y) := by show z.data.toList = _; rw [← hz]
        simp only [hz] at hoc
        clear hel hz
        rcases hl with ⟨rfl, ⟨h2, h3⟩ | ⟨h2, h3⟩⟩ | ⟨rfl, h2 | ⟨h2, h3⟩ | h2⟩
        all_goals
          have HR := Lib.hid hrr
          have HO := Lib.hid hoc
          clear hrr hoc
          go_wp2_with fail
          refine (HR.out _).mono ?_
          rintro e w' ⟨rfl, rfl⟩
          go_wp2_with fail
          refine (HO.out _).mono ?_
          rintro e w2 ⟨rfl, hb2⟩
          go_wp2_with fail
          go_roundw
          case rel => exact ⟨k + 1, acc ++ z, by omega, by go_num, rfl, by rw [ByteArray.size_append]; omega, hbw.trans (hb2.mono hbw.size), by show FoldTo _ _ _; rw [ByteArray.data_append, Array.toList_append, HZ.out]; exact HD.out⟩
          case measure => simp [intOf]; omega
    · have hend := foldTo_end hto.out (by rw [HN.out]; omega)
      have hfv : vals acc.data.toList = xs.map low := by rw [hend]; exact vals_encs _ (map_low_ok HXO.out)
      have hfin := foldV_end hend (b := fitV (vals acc.data.toList)) (by rw [hfv])
      have hft := fun w => rfit_any acc w (by omega)
      clear hfv hend hto
      cases hf : fitV (vals acc.data.toList) with
      | true =>
        rw [hf] at hfin
        simp only [hf] at hft
        have HF := Lib.hid hft; have HD := Lib.hid hfin
        clear hf hfin hft
        go_wp2_with fail
        refine (HF.out _).mono ?_
        rintro e w2 ⟨rfl, hb2⟩
        go_wp2_with fail
        go_ret2
        exact ⟨ret_fold HD.out, hbw1.trans (hb2.mono hbw1.size)⟩
      | false =>
        rw [hf] at hfin
        simp only [hf] at hft
        have HF := Lib.hid hft; have HD := Lib.hid hfin
        clear hf hfin hft
        go_wp2_with fail
        refine (HF.out _).mono ?_
        rintro e w2 ⟨rfl, hb2⟩
        go_wp2_with fail
        go_ret2
        exact ⟨ret_fold HD.out, hbw1.trans (hb2.mono hbw1.size)⟩
end Go.Proofs.YtpaemofjeadhcaaDoor.Name
