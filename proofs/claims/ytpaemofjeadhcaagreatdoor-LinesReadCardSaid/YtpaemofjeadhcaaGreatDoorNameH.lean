/-
  The contract of name.Fold: any text; what was there stays as it was.
-/
import Derived.Test.YtpaemofjeadhcaaGreatDoorNameE
import Derived.Test.YtpaemofjeadhcaaGreatDoorNameG
import Derived.Lib.OthersKept
import Derived.Laws.MakeOwn
set_option linter.unusedVariables false
set_option maxRecDepth 4000
namespace Go.Proofs.YtpaemofjeadhcaaGreatDoor.Name
open Go.RowKit NameP

theorem info_rune : (Tryz.prog.info? 21).map (fun i => (i.zero, i.size, i.bytes)) = some (some (.int .i32 0), 1, 4) := by kernel_rfl
def cellsR (l : List Nat) : List Value := l.map fun (c : Nat) => Value.int .i32 (c : Int)
theorem owns_slice' {w : World} {base n : Nat} {e : TypeId} {v : Value} {xs : List Value} (h : w.ownsRow base e 1 v n xs) : ∃ a cap, v = .slice a n cap := by
  rcases h.2 with ⟨rfl, rfl⟩ | ⟨g, cap, cur, rfl, _⟩
  · exact ⟨none, 0, rfl⟩
  · exact ⟨_, cap, rfl⟩
theorem owns_iterAt {w : World} {B n : Nat} {e : TypeId} {v : Value} {xs : List Value} (h : w.ownsRow B e 1 v n xs) {k : Nat} {s : ByteArray} {pos : Nat} (hk : w.heap[k]? = some (.stringIter s pos)) (pos' : Nat) : (w.iterAt k s pos').ownsRow B e 1 v n xs := by
  refine ⟨h.1, ?_⟩
  rcases h.2 with hn | ⟨g, cap, cur, hv, hbg, hg, rest⟩
  · exact .inl hn
  · have hkg : g ≠ k := by
      intro e1
      rw [e1, hk] at hg
      cases hg
    exact .inr ⟨g, cap, cur, hv, hbg, (Lib.iterAt_other w k g s pos' hkg).trans hg, rest⟩
theorem iter_grown {w w' : World} {B n : Nat} {e : TypeId} {v : Value} {xs : List Value} (h : w.ownsRow B e 1 v n xs) (hg : w.grownBy w' v.ownBlock) {k : Nat} {s : ByteArray} {pos : Nat} (hk : w.heap[k]? = some (.stringIter s pos)) : w'.heap[k]? = some (.stringIter s pos) := by
  rw [hg.block k (Array.getElem?_eq_some_iff.1 hk).1 ?_]
  · exact hk
  · rcases h.2 with ⟨rfl, _⟩ | ⟨g, cap, cur, rfl, _, hgg, _⟩
    · simp [Value.ownBlock]
    · simp [Value.ownBlock]
      intro e1
      rw [← e1, hk] at hgg
      cases hgg
/-- The text of the runes that a row of the call's own holds. -/
theorem owns_text {w : World} {B n cap : Nat} {a : Option Addr} {ns : List Nat} (h : w.ownsRow B 21 1 (.slice a n cap) n (cellsR ns)) :
    (convert 108 9 (.slice a n cap)).run Tryz.prog w = .ok (.string (runesBytes (ns.map fun (c : Nat) => (c : Int)))) w := by
  have hl : ns.length = n := by have := h.1; simpa [cellsR] using this
  have hc := fun g hg => h.cells (g := g) hg
  rcases h.2 with ⟨hv, h0⟩ | ⟨g, cap2, cur, hv, _⟩
  · simp only [Value.slice.injEq] at hv
    obtain ⟨rfl, _, _⟩ := hv
    subst h0
    obtain rfl := List.eq_nil_of_length_eq_zero hl
    exact run_convert_runes_nil w 108 9 21 _ _ Tryz.underlying108 Tryz.underlying21 Tryz.underlying9
  · simp only [Value.slice.injEq] at hv
    obtain ⟨rfl, _⟩ := hv
    have h2 := run_convert_runes w 108 9 21 ⟨g, 0, none⟩ n cap (ns.map fun (c : Nat) => (c : Int)) (by simp [hl]) Tryz.underlying108 Tryz.underlying21 Tryz.underlying9 (fun j hj => by
      rw [List.length_map] at hj
      exact hc g rfl j _ (by simp [cellsR, List.getD, hj]))
    rw [List.take_of_length_le (by simp [hl])] at h2
    exact h2
theorem owns_below {w w' : World} {B n : Nat} {e : TypeId} {v : Value} {xs : List Value} (h : w.ownsRow B e 1 v n xs) (hb : Below w.heap.size w w') : w'.ownsRow B e 1 v n xs := by
  refine ⟨h.1, ?_⟩
  rcases h.2 with hn | ⟨g, cap, cur, hv, hbg, hg, rest⟩
  · exact .inl hn
  · exact .inr ⟨g, cap, cur, hv, hbg, (hb.block g (Array.getElem?_eq_some_iff.1 hg).1).trans hg, rest⟩
theorem foldV_long {xs pre : List Nat} {c : Nat} {r : List Nat} (h : xs = pre ++ c :: r) (hl : pre.length = 12) : foldV xs = ([], 7) := by
  apply foldV_no
  apply fitV_no
  right; right; left
  rw [h]
  simp [hl]
theorem fold_any (s : ByteArray) (w : World) (hs : s.size ≤ 4398046511104) :
    Calls Tryz.prog 78 #[.string s] w fun e w' => e = .returned (.tuple #[.string ⟨(foldV (vals s.data.toList)).1.toArray⟩, .int .i64 (foldV (vals s.data.toList)).2]) ∧ Below w.heap.size w w' := by
  obtain ⟨xs, hv⟩ : ∃ xs, vals s.data.toList = xs := ⟨_, rfl⟩
  have hok : ∀ c ∈ xs, okRune c := by rw [← hv]; exact vals_ok _
  rw [hv]
  have HV := Lib.hid hv; have HOKS := Lib.hid hok; clear hv hok
  have HLEN := Lib.hid (len_list s)
  obtain ⟨i0, hi, hz0, hz1, hz2⟩ := info_parts info_rune
  have HI := Lib.hid hi; have HZ0 := Lib.hid hz0; have HZ1 := Lib.hid hz1; have HZ2 := Lib.hid hz2
  clear hi hz0 hz1 hz2
  have hmk : ∀ w, (Instr.makeSlice 108 (.int .i64 0) (.int .i64 12)).run Tryz.prog w = .ok (.slice (some ⟨w.heap.size, 0, none⟩) 0 12) (w.alloc (.cells #[.int .i32 0, .int .i32 0, .int .i32 0, .int .i32 0, .int .i32 0, .int .i32 0, .int .i32 0, .int .i32 0, .int .i32 0, .int .i32 0, .int .i32 0, .int .i32 0] 21)) := fun _ => by kernel_rfl
  go_enter Tryz.func78, Tryz.ntmps78
  go_wp2
  clear hmk
  go_loopw [4] (fun v wr => ∃ (pos k : Nat) (pre : List Nat), pos ≤ s.size ∧ k ≤ 12 ∧ wr.ownsRow w.heap.size 21 1 v k (cellsR (pre.map low)) ∧ wr.heap[w.heap.size + 1]? = some (.stringIter s pos) ∧ Below w.heap.size w wr ∧ Hid (k = pre.length) ∧ Hid (xs = pre ++ vals (s.data.toList.drop pos))) (fun _ wr => s.size - wr.iterPos (w.heap.size + 1))
  case atStart =>
    refine ⟨0, 0, [], Nat.zero_le _, by omega, ?_, ?_, ((Below.refl _ w).alloc (Nat.le_refl _) _).alloc (by simp) _, rfl, HV.out.symm⟩
    · exact (World.ownsRow_made w _ 12 (Nat.le_refl _) (by decide) rfl).alloc _
    · have := World.iter_heap (w.alloc (.cells #[.int .i32 0, .int .i32 0, .int .i32 0, .int .i32 0, .int .i32 0, .int .i32 0, .int .i32 0, .int .i32 0, .int .i32 0, .int .i32 0, .int .i32 0, .int .i32 0] 21)) s 0
      simpa using this
  case round =>
    obtain ⟨pos, k, pre, hps, hk12, hown, hit, hbw, hkl, hto⟩ := hrel
    obtain ⟨a, cap, rfl⟩ := owns_slice' hown
    have hsz : w.heap.size + 1 < wr.heap.size := (Array.getElem?_eq_some_iff.1 hit).1
    by_cases hp : pos < s.size
    · obtain ⟨c, m, hd⟩ : ∃ c m, Lib.decodeL (s.data.toList.drop pos) = (c, m) := ⟨_, _, rfl⟩
      obtain ⟨m1, m4, hkm, hcl, _⟩ := decode_fits (by rw [HLEN.out]; exact hp) hd
      rw [HLEN.out] at hkm
      have hnx : ∀ ty, (Instr.next (.pointer (some ⟨w.heap.size + 1, 0, none⟩)) true ty).run Tryz.prog wr = .ok (.tuple #[.bool true, .int .i64 pos, .int .i32 (c : Nat)]) (wr.iterAt (w.heap.size + 1) s (pos + m)) := fun ty => by
        have h := Lib.run_next_any_at (P := Tryz.prog) wr (w.heap.size + 1) s pos ty hit hp
        rw [← Lib.decodeL_drop, hd] at h
        exact h
      have hto2 : xs = pre ++ c :: vals (s.data.toList.drop (pos + m)) := by
        have h := hto.out
        rw [vals_drop_step _ _ (by rw [HLEN.out]; exact hp), hd] at h
        exact h
      have HTO := Lib.hid hto2
      have hown2 := owns_iterAt hown hit (pos + m)
      have hit2 := Lib.iterAt_heap wr (w.heap.size + 1) s pos (pos + m) hit
      have hbw2 := Lib.below_iterAt hbw (k := w.heap.size + 1) (by omega) s (pos + m)
      have HOWN := Lib.hid hown2; have HIT := Lib.hid hit2; have HIT0 := Lib.hid (iterPos_of hit)
      clear hto hto2 hd hown hit hown2 hit2
      by_cases h12 : k = 12
      · subst h12
        have HD := Lib.hid (foldV_long HTO.out hkl.out.symm)
        go_wp2
        go_ret2
        exact ⟨ret_fold HD.out, hbw2⟩
      · have h12b : ((k : Int) == 12) = false := beq_eq_false_iff_ne.2 (by omega)
        have hk11 : k ≤ 11 := by omega
        have hsz2 : w.heap.size + 1 < (wr.iterAt (w.heap.size + 1) s (pos + m)).heap.size := by rw [Lib.iterAt_size]; exact hsz
        clear h12
        go_wp2_with fail
        refine (lower_any c _ (by omega)).mono ?_
        rintro e w' ⟨rfl, rfl⟩
        generalize (wr.iterAt (w.heap.size + 1) s (pos + m)) = wi at *
        go_wp2_with (at_builtin; refine wpList_append_own _ rfl _ _ 108 rfl w.heap.size 21 i0 (.int .i32 0) 1 4 Tryz.underlying108 HI.out HZ0.out HZ1.out HZ2.out rfl (by decide) _ _ _ rfl (HOWN.out.alloc _) ⟨wi.heap.size, 0, none⟩ 1 1 [.int .i32 (low c : Nat)] rfl rfl ?c1 ?c2 ?c3 ?c4 ?c5 ?_)
        case c1 => exact cell_one_new _ _ _
        case c2 => simp [Value.oneCell']
        case c3 => unfold maxLen; omega
        case c4 => omega
        case c5 => simp; omega
        intro v' w1 hown1 hgrow _
        have hb1 := (hbw2.alloc (by omega) (.cells #[.int .i32 (low c : Nat)] 21)).grown hgrow (by simp; omega) (fun k hk => (HOWN.out.lt k hk).1)
        have hit1 : w1.heap[w.heap.size + 1]? = some (.stringIter s (pos + m)) := iter_grown (HOWN.out.alloc _) hgrow ((Below.heap_alloc _ _ _ (by omega)).trans HIT.out)
        have HIT1 := Lib.hid hit1
        clear hgrow HOWN HIT hit1
        go_wp2
        go_roundw
        case rel => exact ⟨pos + m, k + 1, pre ++ [c], by omega, by omega, by simpa [cellsR] using hown1, HIT1.out, hb1, by show k + 1 = _; rw [List.length_append, ← hkl.out]; rfl, by show xs = _; rw [HTO.out]; simp⟩
        case measure => rw [iterPos_of HIT1.out, HIT0.out]; omega
    · have hnx : ∀ ty, (Instr.next (.pointer (some ⟨w.heap.size + 1, 0, none⟩)) true ty).run Tryz.prog wr = _ := fun ty => Lib.run_next_end_at wr (w.heap.size + 1) s pos ty hit hp
      have hxp : xs = pre := by have h := hto.out; rw [vals_drop_done _ _ (by rw [HLEN.out]; exact hp), List.append_nil] at h; exact h
      clear hto
      subst hxp
      have hcv := owns_text hown
      have hlow := map_low_ok HOKS.out
      obtain ⟨z, hz⟩ : ∃ z, runesBytes ((xs.map low).map fun (c : Nat) => (c : Int)) = z := ⟨_, rfl⟩
      rw [hz] at hcv
      have hzl : z.data.toList = encs (xs.map low) := by rw [← hz]; exact runesBytes_encs _ hlow
      have hzs : z.size ≤ 4398046511104 := by
        have h := runesBytes_size_le ((xs.map low).map fun (c : Nat) => (c : Int))
        rw [hz, List.length_map, List.length_map, ← hkl.out] at h
        omega
      have hft := fun w => fit_any z w hzs
      have hvz : vals z.data.toList = xs.map low := by rw [hzl]; exact vals_encs _ hlow
      have hfin := foldV_end hzl (b := fitV (vals z.data.toList)) (by rw [hvz])
      have HOWN := Lib.hid hown; have HZ := Lib.hid hz
      clear hown hz hzl hlow hvz hkl hit
      cases hf : fitV (vals z.data.toList) with
      | true =>
        rw [hf] at hfin
        simp only [hf] at hft
        have HF := Lib.hid hft; have HD := Lib.hid hfin
        clear hf hfin hft
        go_wp2_with fail
        refine (HF.out _).mono ?_
        rintro e w2 ⟨rfl, hb2⟩
        have hcv2 := owns_text (owns_below HOWN.out hb2)
        rw [HZ.out] at hcv2
        go_wp2_with fail
        go_ret2
        exact ⟨ret_fold HD.out, hbw.trans (hb2.mono hbw.size)⟩
      | false =>
        rw [hf] at hfin
        simp only [hf] at hft
        have HF := Lib.hid hft; have HD := Lib.hid hfin
        clear hf hfin hft
        go_wp2_with fail
        refine (HF.out _).mono ?_
        rintro e w2 ⟨rfl, hb2⟩
        go_wp2_with fail
        go_ret2
        exact ⟨ret_fold HD.out, hbw.trans (hb2.mono hbw.size)⟩
end Go.Proofs.YtpaemofjeadhcaaGreatDoor.Name
