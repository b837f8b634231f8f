/-
  The contracts of num.plain and num.value: any text; what was there stays as it was.
-/
import Derived.Test.YtcdinaoenhonbaaDoorNumDig
import Derived.Test.YtcdinaoenhonbaaDoorNumA
import Derived.Outline
import Derived.Laws.RangeAny
set_option maxRecDepth 4000
namespace Go.Proofs.YtcdinaoenhonbaaDoor.Num
open Go.RowKit NumP

theorem plain_empty (s : ByteArray) (w : World) (h : s.size = 0) :
    Calls Tryd.prog 29 #[.string s] w fun e w' => e = .returned (.bool (plainB s.data.toList)) ∧ Below w.heap.size w w' := by
  rw [plainB_empty (by rw [Array.length_toList]; exact h)]
  have hl : s.toList.isEmpty = true := by rw [ByteArray.toList_eq s, List.isEmpty_iff, ← List.length_eq_zero_iff, Array.length_toList]; exact h
  have H := Lib.hid h; clear h
  go_enter Tryd.func29, Tryd.ntmps29
  go_wp2
  go_ret
  exact ⟨rfl, Below.refl _ _⟩
theorem plain_zero (s : ByteArray) (w : World) (h : 1 < s.size) (h0 : s[0].toNat = 48) :
    Calls Tryd.prog 29 #[.string s] w fun e w' => e = .returned (.bool (plainB s.data.toList)) ∧ Below w.heap.size w w' := by
  rw [plainB_zero (by rw [Array.length_toList]; exact h) (at_list s 0 (by omega)) h0]
  have hl : s.toList.isEmpty = false := by
    rw [ByteArray.toList_eq s]
    have : 0 < s.data.toList.length := by rw [Array.length_toList]; show 0 < s.size; omega
    cases hx : s.data.toList with
    | nil => rw [hx] at this; simp at this
    | cons => rfl
  have hz : ((s[0].toNat : Int) == 48) = true := by rw [h0]; rfl
  have H := Lib.hid h0; clear h0
  go_enter Tryd.func29, Tryd.ntmps29
  go_wp2
  go_ret
  exact ⟨rfl, Below.refl _ _⟩

theorem plain_loop (s : ByteArray) (w : World) (hs : 0 < s.size) (hbig : s.size ≤ 9223372036854775807) (h0 : s.size ≤ 1 ∨ s[0].toNat ≠ 48) :
    Calls Tryd.prog 29 #[.string s] w fun e w' => e = .returned (.bool (plainB s.data.toList)) ∧ Below w.heap.size w w' := by
  rw [plainB_rest (by rw [Array.length_toList]; exact hs) (at_list s 0 hs) (by rw [Array.length_toList]; exact h0)]
  have hl : s.toList.isEmpty = false := by
    rw [ByteArray.toList_eq s]
    have : 0 < s.data.toList.length := by rw [Array.length_toList]; exact hs
    cases hx : s.data.toList with
    | nil => rw [hx] at this; simp at this
    | cons => rfl
  by_cases h2 : 1 < s.size
  · have hz : ((s[0].toNat : Int) == 48) = false := by rw [beq_eq_false_iff_ne]; omega
    have H0 := Lib.hid h0; clear h0
    go_enter Tryd.func29, Tryd.ntmps29
    go_wp2
    go_loopw [] (fun w' => ∃ pos : Nat, pos ≤ s.size ∧ w' = w.iter s pos ∧ Hid (allDig s.data.toList = allDig (s.data.toList.drop pos))) (fun w' => s.size - w'.iterPos w.heap.size)
    case atStart => exact ⟨0, Nat.zero_le _, rfl, rfl⟩
    case round =>
      obtain ⟨pos, hp, rfl, hd⟩ := hrel
      by_cases hlt : pos < s.size
      · have hcons := Lib.hid (drop_list s pos hlt)
        obtain ⟨c, hc⟩ : ∃ c : Nat, s[pos].toNat = c := ⟨_, rfl⟩
        by_cases hasc : c < 128
        · have hnx : ∀ ty, (Instr.next (.pointer (some ⟨w.heap.size, 0, none⟩)) true ty).run Tryd.prog (w.iter s pos) = .ok (.tuple #[.bool true, .int .i64 pos, .int .i32 (c : Int)]) (w.iter s (pos + 1)) := fun ty => by
            have := run_next_ascii (P := Tryd.prog) w s pos ty hlt (by rw [hc]; exact hasc)
            rw [hc] at this; exact this
          have HC := Lib.hid hc; clear hc
          by_cases hlo : c < 48
          · go_wp2
            go_ret
            rw [hd.out, hcons.out, allDig, isDig_no (by rw [HC.out]; exact .inl hlo)]
            exact ⟨rfl, (Below.refl _ _).alloc (Nat.le_refl _) _⟩
          · by_cases hhi : 57 < c
            · go_wp2
              go_ret
              rw [hd.out, hcons.out, allDig, isDig_no (by rw [HC.out]; exact .inr hhi)]
              exact ⟨rfl, (Below.refl _ _).alloc (Nat.le_refl _) _⟩
            · go_wp2
              go_roundw
              case rel =>
                refine ⟨pos + 1, by omega, rfl, ?_⟩
                refine hd.out.trans ?_
                rw [hcons.out, allDig, isDig_yes (by rw [HC.out]; omega) (by rw [HC.out]; omega)]
                rfl
              case measure => simp; omega
        · have hh := decode_high s pos hlt (by rw [hc]; omega)
          have hle := decode_le s pos
          have hnx : ∀ ty, (Instr.next (.pointer (some ⟨w.heap.size, 0, none⟩)) true ty).run Tryd.prog (w.iter s pos) = _ := fun ty => run_next_any w s pos ty hlt
          have HC := Lib.hid hc; clear hc
          generalize (Utf8.decode s pos).1 = d at *
          generalize (Utf8.decode s pos).2 = sz at *
          have hd1 := hh.1
          clear hh
          go_wp2
          go_ret
          rw [hd.out, hcons.out, allDig, isDig_no (by rw [HC.out]; omega)]
          exact ⟨rfl, (Below.refl _ _).alloc (Nat.le_refl _) _⟩
      · have hnx : ∀ ty, (Instr.next (.pointer (some ⟨w.heap.size, 0, none⟩)) true ty).run Tryd.prog (w.iter s pos) = _ := fun ty => run_next_end w s pos ty hlt
        go_wp2
        go_ret
        rw [hd.out, drop_done s pos hlt]
        exact ⟨rfl, (Below.refl _ _).alloc (Nat.le_refl _) _⟩
  · have H0 := Lib.hid h0; clear h0
    go_enter Tryd.func29, Tryd.ntmps29
    go_wp2
    go_loopw [] (fun w' => ∃ pos : Nat, pos ≤ s.size ∧ w' = w.iter s pos ∧ Hid (allDig s.data.toList = allDig (s.data.toList.drop pos))) (fun w' => s.size - w'.iterPos w.heap.size)
    case atStart => exact ⟨0, Nat.zero_le _, rfl, rfl⟩
    case round =>
      obtain ⟨pos, hp, rfl, hd⟩ := hrel
      by_cases hlt : pos < s.size
      · have hcons := Lib.hid (drop_list s pos hlt)
        obtain ⟨c, hc⟩ : ∃ c : Nat, s[pos].toNat = c := ⟨_, rfl⟩
        by_cases hasc : c < 128
        · have hnx : ∀ ty, (Instr.next (.pointer (some ⟨w.heap.size, 0, none⟩)) true ty).run Tryd.prog (w.iter s pos) = .ok (.tuple #[.bool true, .int .i64 pos, .int .i32 (c : Int)]) (w.iter s (pos + 1)) := fun ty => by
            have := run_next_ascii (P := Tryd.prog) w s pos ty hlt (by rw [hc]; exact hasc)
            rw [hc] at this; exact this
          have HC := Lib.hid hc; clear hc
          by_cases hlo : c < 48
          · go_wp2
            go_ret
            rw [hd.out, hcons.out, allDig, isDig_no (by rw [HC.out]; exact .inl hlo)]
            exact ⟨rfl, (Below.refl _ _).alloc (Nat.le_refl _) _⟩
          · by_cases hhi : 57 < c
            · go_wp2
              go_ret
              rw [hd.out, hcons.out, allDig, isDig_no (by rw [HC.out]; exact .inr hhi)]
              exact ⟨rfl, (Below.refl _ _).alloc (Nat.le_refl _) _⟩
            · go_wp2
              go_roundw
              case rel =>
                refine ⟨pos + 1, by omega, rfl, ?_⟩
                refine hd.out.trans ?_
                rw [hcons.out, allDig, isDig_yes (by rw [HC.out]; omega) (by rw [HC.out]; omega)]
                rfl
              case measure => simp; omega
        · have hh := decode_high s pos hlt (by rw [hc]; omega)
          have hle := decode_le s pos
          have hnx : ∀ ty, (Instr.next (.pointer (some ⟨w.heap.size, 0, none⟩)) true ty).run Tryd.prog (w.iter s pos) = _ := fun ty => run_next_any w s pos ty hlt
          have HC := Lib.hid hc; clear hc
          generalize (Utf8.decode s pos).1 = d at *
          generalize (Utf8.decode s pos).2 = sz at *
          have hd1 := hh.1
          clear hh
          go_wp2
          go_ret
          rw [hd.out, hcons.out, allDig, isDig_no (by rw [HC.out]; omega)]
          exact ⟨rfl, (Below.refl _ _).alloc (Nat.le_refl _) _⟩
      · have hnx : ∀ ty, (Instr.next (.pointer (some ⟨w.heap.size, 0, none⟩)) true ty).run Tryd.prog (w.iter s pos) = _ := fun ty => run_next_end w s pos ty hlt
        go_wp2
        go_ret
        rw [hd.out, drop_done s pos hlt]
        exact ⟨rfl, (Below.refl _ _).alloc (Nat.le_refl _) _⟩

/-- Is a text the digits of a number that is not negative? Every text. -/
theorem plain_any (s : ByteArray) (w : World) (hbig : s.size ≤ 9223372036854775807) :
    Calls Tryd.prog 29 #[.string s] w fun e w' => e = .returned (.bool (plainB s.data.toList)) ∧ Below w.heap.size w w' := by
  by_cases h : s.size = 0
  · exact plain_empty s w h
  · by_cases h1 : s.size ≤ 1
    · exact plain_loop s w (by omega) hbig (.inl h1)
    · by_cases h2 : s[0].toNat = 48
      · exact plain_zero s w (by omega) h2
      · exact plain_loop s w (by omega) hbig (.inr h2)

/-- The number whose digits a text is. -/
theorem value_any (s : ByteArray) (w : World) (ha : allDig s.data.toList = true) :
    Calls Tryd.prog 30 #[.string s] w fun e w' => e = .returned (.tuple #[.int .i64 (valV s.data.toList), .bool (valB s.data.toList)]) ∧ Below w.heap.size w w' := by
  have HA := Lib.hid ha; clear ha
  go_enter Tryd.func30, Tryd.ntmps30
  go_wp2
  go_loopw [4] (fun v w' => ∃ (pos : Nat) (n : Int), pos ≤ s.size ∧ 0 ≤ n ∧ n ≤ 4611686018427387904 ∧ v = .int .i64 n ∧ w' = w.iter s pos ∧ Hid (valUp 0 s.data.toList = valUp n (s.data.toList.drop pos))) (fun _ w' => s.size - w'.iterPos w.heap.size)
  case atStart => exact ⟨0, 0, Nat.zero_le _, by omega, by omega, rfl, rfl, rfl⟩
  case round =>
    obtain ⟨pos, n, hp, hn0, hn1, rfl, rfl, hd⟩ := hrel
    by_cases hlt : pos < s.size
    · have hcons := Lib.hid (drop_list s pos hlt)
      have hdig := allDig_at HA.out pos s[pos] (at_list s pos hlt)
      obtain ⟨c, hc⟩ : ∃ c : Nat, s[pos].toNat = c := ⟨_, rfl⟩
      rw [hc] at hdig
      have hlo := hdig.1; have hhi := hdig.2
      clear hdig
      have hnx : ∀ ty, (Instr.next (.pointer (some ⟨w.heap.size, 0, none⟩)) true ty).run Tryd.prog (w.iter s pos) = .ok (.tuple #[.bool true, .int .i64 pos, .int .i32 (c : Int)]) (w.iter s (pos + 1)) := fun ty => by
        have := run_next_ascii (P := Tryd.prog) w s pos ty hlt (by rw [hc]; omega)
        rw [hc] at this; exact this
      have HC := Lib.hid hc; clear hc
      by_cases hov : (4611686018427387904 - ((c : Int) - 48)) / 10 < n
      · go_wp2
        go_ret2
        have hv := val_none (hd.out.trans (by rw [hcons.out]; exact valUp_over HC.out hov))
        rw [hv.1, hv.2]
        exact ⟨rfl, (Below.refl _ _).alloc (Nat.le_refl _) _⟩
      · go_wp2
        go_roundw
        case rel =>
          exact ⟨pos + 1, n * 10 + ((c : Int) - 48), by omega, by omega, by omega, rfl, rfl, hd.out.trans (by rw [hcons.out]; exact valUp_fits HC.out hov)⟩
        case measure => simp; omega
    · have hnx : ∀ ty, (Instr.next (.pointer (some ⟨w.heap.size, 0, none⟩)) true ty).run Tryd.prog (w.iter s pos) = _ := fun ty => run_next_end w s pos ty hlt
      go_wp2
      go_ret2
      have hv := val_some (hd.out.trans (by rw [drop_done s pos hlt, valUp]))
      rw [hv.1, hv.2]
      exact ⟨rfl, (Below.refl _ _).alloc (Nat.le_refl _) _⟩
end Go.Proofs.YtcdinaoenhonbaaDoor.Num
