/-
  The contracts of name.spelled, name.Count and name.Fit: any text; what was there stays as it was.
-/
import Derived.Test.YtdpgfnnhbfkacaaGreatDoorPrNameC
import Derived.Test.YtdpgfnnhbfkacaaGreatDoorPrShelf
import Derived.Laws.RangeAny
set_option linter.unusedVariables false
set_option maxRecDepth 4000
namespace Go.Proofs.YtdpgfnnhbfkacaaGreatDoor.Name
open Go.RowKit NameP
theorem fit_any (s : ByteArray) (w : World) (hs : s.size ≤ 4398046511104) :
    Calls Tryz.prog 31 #[.string s] w fun e w' => e = .returned (.bool (fitV (vals s.data.toList))) ∧ Below w.heap.size w w' := by
  obtain ⟨v, hv⟩ : ∃ v, fitV (vals s.data.toList) = v := ⟨_, rfl⟩
  rw [hv]
  have HV := Lib.hid hv; clear hv
  have HLEN := Lib.hid (len_list s)
  go_enter Tryz.func31, Tryz.ntmps31
  go_wp2
  go_loopw [3] (fun n w' => ∃ pos k : Nat, w' = w.iter s pos ∧ n = .int .i64 k ∧ k ≤ 12 ∧ pos ≤ s.size ∧ Hid (v = fitUp k (vals (s.data.toList.drop pos)))) (fun _ w' => s.size - w'.iterPos w.heap.size)
  case atStart => exact ⟨0, 0, rfl, rfl, by omega, Nat.zero_le _, HV.out.symm⟩
  case round =>
    obtain ⟨pos, k, rfl, rfl, hkp, hps, hc⟩ := hrel
    by_cases hp : pos < s.size
    · obtain ⟨c, m, hd⟩ : ∃ c m, Lib.decodeL (s.data.toList.drop pos) = (c, m) := ⟨_, _, rfl⟩
      obtain ⟨m1, m4, hkm, hcl, hok⟩ := decode_fits (by rw [HLEN.out]; exact hp) hd
      rw [HLEN.out] at hkm
      have hnx : ∀ ty, (Instr.next (.pointer (some ⟨w.heap.size, 0, none⟩)) true ty).run Tryz.prog (w.iter s pos) = .ok (.tuple #[.bool true, .int .i64 pos, .int .i32 (c : Nat)]) (w.iter s (pos + m)) := fun ty => by
        have h := run_next_any (P := Tryz.prog) w s pos ty hp
        rw [← Lib.decodeL_drop, hd] at h
        exact h
      have hc2 : v = fitUp k (c :: vals (s.data.toList.drop (pos + m))) := by
        have h := hc.out
        rw [vals_drop_step _ _ (by rw [HLEN.out]; exact hp), hd] at h
        exact h
      have HC := Lib.hid hc2
      clear hc hc2 hok hd
      cases hnr : nr (c : Int) with
      | false =>
        have hrr := fun w => rune_any (c : Int) w
        simp only [hnr] at hrr
        have HR := Lib.hid hrr
        have HD := Lib.hid (HC.out.trans (fitUp_no (.inl hnr)))
        clear hrr hnr HC
        go_wp2_with fail
        refine (HR.out _).mono ?_
        rintro e w' ⟨rfl, rfl⟩
        go_wp2_with fail
        go_ret
        exact ⟨ret_bool HD.out.symm, (Below.refl _ _).alloc (Nat.le_refl _) _⟩
      | true =>
        have hrr := fun w => rune_any (c : Int) w
        simp only [hnr] at hrr
        have HR := Lib.hid hrr; have HN := Lib.hid hnr
        clear hrr hnr
        by_cases hk0 : k = 0
        · subst hk0
          by_cases h45 : c = 45
          · subst h45
            have HD := Lib.hid (HC.out.trans (fitUp_no (.inr (.inl ⟨rfl, rfl⟩))))
            clear HC
            go_wp2_with fail
            refine (HR.out _).mono ?_
            rintro e w' ⟨rfl, rfl⟩
            go_wp2_with fail
            go_ret
            exact ⟨ret_bool HD.out.symm, (Below.refl _ _).alloc (Nat.le_refl _) _⟩
          · have h45b : ((c : Int) == 45) = false := beq_eq_false_iff_ne.2 (by omega)
            have HD := Lib.hid (HC.out.trans (fitUp_go HN.out (.inr h45) (by omega)))
            clear HC h45
            go_wp2_with fail
            refine (HR.out _).mono ?_
            rintro e w' ⟨rfl, rfl⟩
            go_wp2_with fail
            go_roundw
            case rel => exact ⟨pos + m, 1, rfl, by go_num, by omega, by omega, HD.out⟩
            case measure => simp; omega
        · have hkb : ((k : Int) == 0) = false := beq_eq_false_iff_ne.2 (by omega)
          by_cases h12 : k = 12
          · subst h12
            have HD := Lib.hid (HC.out.trans (fitUp_no (.inr (.inr rfl))))
            clear HC
            go_wp2_with fail
            refine (HR.out _).mono ?_
            rintro e w' ⟨rfl, rfl⟩
            go_wp2_with fail
            go_ret
            exact ⟨ret_bool HD.out.symm, (Below.refl _ _).alloc (Nat.le_refl _) _⟩
          · have h12b : ((k : Int) == 12) = false := beq_eq_false_iff_ne.2 (by omega)
            have HD := Lib.hid (HC.out.trans (fitUp_go HN.out (.inl hk0) h12))
            have hk11 : k ≤ 11 := by omega
            clear HC h12 hk0
            go_wp2_with fail
            refine (HR.out _).mono ?_
            rintro e w' ⟨rfl, rfl⟩
            go_wp2_with fail
            go_roundw
            case rel => exact ⟨pos + m, k + 1, rfl, by go_num, by omega, by omega, HD.out⟩
            case measure => simp; omega
    · have hnx : ∀ ty, (Instr.next (.pointer (some ⟨w.heap.size, 0, none⟩)) true ty).run Tryz.prog (w.iter s pos) = _ := fun ty => run_next_end w s pos ty hp
      have HC := Lib.hid (hc.out.trans (by rw [vals_drop_done _ _ (by rw [HLEN.out]; exact hp)]; rfl : _ = decide (0 < k)))
      clear hc
      go_wp2
      go_ret
      refine ⟨ret_bool ?_, (Below.refl _ _).alloc (Nat.le_refl _) _⟩
      rw [HC.out]
end Go.Proofs.YtdpgfnnhbfkacaaGreatDoor.Name
