/-
  The contract of the document's Number: any text; the world is as it was.
-/
import Derived.Test.YtcdinaoenhonbaaDoorNumE
set_option maxRecDepth 4000
namespace Go.Proofs.YtcdinaoenhonbaaDoor.Num
open Go.RowKit NumP

theorem rnumber_empty (s : ByteArray) (w : World) (h : s.size = 0) :
    Calls Tryd.prog 22 #[.string s] w fun e w' => e = .returned (.tuple #[.int .i64 (numP s.data.toList).1, .int .i64 (numP s.data.toList).2]) ∧ w = w' := by
  have e : s.data.toList = [] := by apply List.eq_nil_of_length_eq_zero; rw [Array.length_toList]; exact h
  rw [e]
  clear e
  go_enter Tryd.func22, Tryd.ntmps22
  go_wp2
  go_ret2
  exact ⟨rfl, rfl⟩
theorem rnumber_sign (s : ByteArray) (w : World) (hbig : s.size ≤ 9223372036854775807) (hs : 0 < s.size) (h : s[0].toNat = 45) :
    Calls Tryd.prog 22 #[.string s] w fun e w' => e = .returned (.tuple #[.int .i64 (numP s.data.toList).1, .int .i64 (numP s.data.toList).2]) ∧ w = w' := by
  have hP := numP_neg (at_list s 0 hs) h
  have h45 : ((s[0].toNat : Int) == 45) = true := by rw [h]; rfl
  have H := Lib.hid h; clear h
  by_cases h1 : s.size = 1
  · rw [hP, numQ_no (plainB_empty (by rw [len_drop]; omega))]
    have hsz : ((s.size : Int) == 1) = true := by rw [h1]; rfl
    have H1 := Lib.hid h1; clear h1 hP
    go_enter Tryd.func22, Tryd.ntmps22
    go_wp2
    go_ret2
    exact ⟨rfl, rfl⟩
  · have hs2 : 1 < s.size := by omega
    have hsz : ((s.size : Int) == 1) = false := by rw [beq_eq_false_iff_ne]; omega
    by_cases h2 : s[1].toNat = 48
    · rw [hP, numQ_sign_zero (head_drop s 1 hs2) h2]
      have h48 : ((s[1].toNat : Int) == 48) = true := by rw [h2]; rfl
      have H2 := Lib.hid h2; clear h1 h2 hP
      go_enter Tryd.func22, Tryd.ntmps22
      go_wp2
      go_ret2
      exact ⟨rfl, rfl⟩
    · have h48 : ((s[1].toNat : Int) == 48) = false := by rw [beq_eq_false_iff_ne]; omega
      have HALL := Lib.hid (plainB_rest (l := s.data.toList.drop 1) (by rw [len_drop]; omega) (head_drop s 1 hs2) (.inr h2))
      have HK : Hid (true = false ∨ s.data.toList.drop 1 ≠ [48]) := Lib.hid (.inr (not_zero (head_drop s 1 hs2) h2))
      have HPL := Lib.hid hP
      clear hP h1 h2
      go_enter Tryd.func22, Tryd.ntmps22
      go_wp2
      go_loop [5] (fun i => ∃ k : Nat, 1 ≤ k ∧ k ≤ s.size ∧ i = .int .i64 k ∧ Hid (allDig (s.data.toList.drop 1) = allDig (s.data.toList.drop k))) (fun i => s.size - (intOf i).toNat)
      case atStart => exact ⟨1, by omega, by omega, rfl, rfl⟩
      case round =>
        obtain ⟨k, hk0, hk, rfl, hd⟩ := hrel
        by_cases hlt : k < s.size
        · have hcons := Lib.hid (drop_list s k hlt)
          obtain ⟨c, hc⟩ : ∃ c : Nat, s[k].toNat = c := ⟨_, rfl⟩
          have HC := Lib.hid hc
          by_cases hlo : c < 48
          · go_wp2
            go_ret2
            rw [HPL.out, numQ_no (by rw [HALL.out, hd.out, hcons.out, allDig, isDig_no (by rw [HC.out]; exact .inl hlo)]; rfl)]
            exact ⟨rfl, rfl⟩
          · by_cases hhi : 57 < c
            · go_wp2
              go_ret2
              rw [HPL.out, numQ_no (by rw [HALL.out, hd.out, hcons.out, allDig, isDig_no (by rw [HC.out]; exact .inr hhi)]; rfl)]
              exact ⟨rfl, rfl⟩
            · go_wp2
              go_round
              case rel =>
                refine ⟨k + 1, by omega, by omega, by go_num, hd.out.trans ?_⟩
                rw [hcons.out, allDig, isDig_yes (by rw [HC.out]; omega) (by rw [HC.out]; omega)]
                rfl
              case measure => simp [intOf]; omega
        · have HA : Hid (allDig (s.data.toList.drop 1) = true) := Lib.hid (by rw [hd.out, drop_done s k hlt]; rfl)
          clear hd
          go_wp2
          go_loop [6, 7] (fun v i => ∃ (k2 : Nat) (n : Int), 1 ≤ k2 ∧ k2 ≤ s.size ∧ 0 ≤ n ∧ n ≤ 4611686018427387904 ∧ v = .int .i64 n ∧ i = .int .i64 k2 ∧ Hid (valUp 0 (s.data.toList.drop 1) = valUp n (s.data.toList.drop k2))) (fun _ i => s.size - (intOf i).toNat)
          case atStart => exact ⟨1, 0, by omega, by omega, by omega, by omega, rfl, rfl, rfl⟩
          case round =>
            obtain ⟨k2, n, hf2, hk2, hn0, hn1, rfl, rfl, hd⟩ := hrel
            by_cases hlt2 : k2 < s.size
            · have hcons := Lib.hid (drop_list s k2 hlt2)
              have hdig := dig_at s HA.out hf2 hlt2
              obtain ⟨c, hc⟩ : ∃ c : Nat, s[k2].toNat = c := ⟨_, rfl⟩
              have HC := Lib.hid hc
              rw [hc] at hdig
              have hlo := hdig.1; have hhi := hdig.2
              clear hdig
              by_cases hov : (4611686018427387904 - ((c : Int) - 48)) / 10 < n
              · go_wp2
                go_ret2
                rw [HPL.out, numQ_far (by rw [HALL.out]; exact HA.out) HK.out (hd.out.trans (by rw [hcons.out]; exact valUp_over HC.out hov))]
                exact ⟨rfl, rfl⟩
              · go_wp2
                go_round
                case rel =>
                  exact ⟨k2 + 1, 10 * n + ((c : Int) - 48), by omega, by omega, by omega, by omega, rfl, by go_num, hd.out.trans (by rw [hcons.out, valUp_fits HC.out hov, Int.mul_comm])⟩
                case measure => simp [intOf]; omega
            · go_wp2
              go_ret2
              rw [HPL.out, numQ_yes (by rw [HALL.out]; exact HA.out) HK.out (hd.out.trans (by rw [drop_done s k2 hlt2, valUp]))]
              exact ⟨rfl, rfl⟩
theorem rnumber_plain (s : ByteArray) (w : World) (hbig : s.size ≤ 9223372036854775807) (hs : 0 < s.size) (h : s[0].toNat ≠ 45) :
    Calls Tryd.prog 22 #[.string s] w fun e w' => e = .returned (.tuple #[.int .i64 (numP s.data.toList).1, .int .i64 (numP s.data.toList).2]) ∧ w = w' := by
  have hP := numP_pos (l := s.data.toList) (fun c hc => by rw [at_list s 0 hs] at hc; cases hc; exact h)
  have h45 : ((s[0].toNat : Int) == 45) = false := by rw [beq_eq_false_iff_ne]; omega
  have H := Lib.hid h; clear h
  have hsz : ((s.size : Int) == 0) = false := by rw [beq_eq_false_iff_ne]; omega
  by_cases h2 : s[0].toNat = 48
  · have h48 : ((s[0].toNat : Int) == 48) = true := by rw [h2]; rfl
    by_cases h1 : 1 < s.size
    · rw [hP, numQ_no (plainB_zero (by rw [len_drop]; omega) (head_drop s 0 hs) h2)]
      have H2 := Lib.hid h2; clear h2 hP
      go_enter Tryd.func22, Tryd.ntmps22
      go_wp2
      go_ret2
      exact ⟨rfl, rfl⟩
    · have HALL := Lib.hid (plainB_rest (l := s.data.toList.drop 0) (by rw [len_drop]; omega) (head_drop s 0 hs) (.inl (by rw [len_drop]; omega)))
      have HPL := Lib.hid hP
      clear hP h2
      go_enter Tryd.func22, Tryd.ntmps22
      go_wp2
      go_loop [5] (fun i => ∃ k : Nat, 0 ≤ k ∧ k ≤ s.size ∧ i = .int .i64 k ∧ Hid (allDig (s.data.toList.drop 0) = allDig (s.data.toList.drop k))) (fun i => s.size - (intOf i).toNat)
      case atStart => exact ⟨0, by omega, by omega, rfl, rfl⟩
      case round =>
        obtain ⟨k, hk0, hk, rfl, hd⟩ := hrel
        by_cases hlt : k < s.size
        · have hcons := Lib.hid (drop_list s k hlt)
          obtain ⟨c, hc⟩ : ∃ c : Nat, s[k].toNat = c := ⟨_, rfl⟩
          have HC := Lib.hid hc
          by_cases hlo : c < 48
          · go_wp2
            go_ret2
            rw [HPL.out, numQ_no (by rw [HALL.out, hd.out, hcons.out, allDig, isDig_no (by rw [HC.out]; exact .inl hlo)]; rfl)]
            exact ⟨rfl, rfl⟩
          · by_cases hhi : 57 < c
            · go_wp2
              go_ret2
              rw [HPL.out, numQ_no (by rw [HALL.out, hd.out, hcons.out, allDig, isDig_no (by rw [HC.out]; exact .inr hhi)]; rfl)]
              exact ⟨rfl, rfl⟩
            · go_wp2
              go_round
              case rel =>
                refine ⟨k + 1, by omega, by omega, by go_num, hd.out.trans ?_⟩
                rw [hcons.out, allDig, isDig_yes (by rw [HC.out]; omega) (by rw [HC.out]; omega)]
                rfl
              case measure => simp [intOf]; omega
        · have HA : Hid (allDig (s.data.toList.drop 0) = true) := Lib.hid (by rw [hd.out, drop_done s k hlt]; rfl)
          clear hd
          go_wp2
          go_loop [6, 7] (fun v i => ∃ (k2 : Nat) (n : Int), 0 ≤ k2 ∧ k2 ≤ s.size ∧ 0 ≤ n ∧ n ≤ 4611686018427387904 ∧ v = .int .i64 n ∧ i = .int .i64 k2 ∧ Hid (valUp 0 (s.data.toList.drop 0) = valUp n (s.data.toList.drop k2))) (fun _ i => s.size - (intOf i).toNat)
          case atStart => exact ⟨0, 0, by omega, by omega, by omega, by omega, rfl, rfl, rfl⟩
          case round =>
            obtain ⟨k2, n, hf2, hk2, hn0, hn1, rfl, rfl, hd⟩ := hrel
            by_cases hlt2 : k2 < s.size
            · have hcons := Lib.hid (drop_list s k2 hlt2)
              have hdig := dig_at s HA.out hf2 hlt2
              obtain ⟨c, hc⟩ : ∃ c : Nat, s[k2].toNat = c := ⟨_, rfl⟩
              have HC := Lib.hid hc
              rw [hc] at hdig
              have hlo := hdig.1; have hhi := hdig.2
              clear hdig
              by_cases hov : (4611686018427387904 - ((c : Int) - 48)) / 10 < n
              · go_wp2
                go_ret2
                rw [HPL.out, numQ_far (by rw [HALL.out]; exact HA.out) (.inl rfl) (hd.out.trans (by rw [hcons.out]; exact valUp_over HC.out hov))]
                exact ⟨rfl, rfl⟩
              · go_wp2
                go_round
                case rel =>
                  exact ⟨k2 + 1, 10 * n + ((c : Int) - 48), by omega, by omega, by omega, by omega, rfl, by go_num, hd.out.trans (by rw [hcons.out, valUp_fits HC.out hov, Int.mul_comm])⟩
                case measure => simp [intOf]; omega
            · go_wp2
              go_ret2
              rw [HPL.out, numQ_yes (by rw [HALL.out]; exact HA.out) (.inl rfl) (hd.out.trans (by rw [drop_done s k2 hlt2, valUp]))]
              exact ⟨rfl, rfl⟩
  · have h48 : ((s[0].toNat : Int) == 48) = false := by rw [beq_eq_false_iff_ne]; omega
    have HALL := Lib.hid (plainB_rest (l := s.data.toList.drop 0) (by rw [len_drop]; omega) (head_drop s 0 hs) (.inr h2))
    have HPL := Lib.hid hP
    clear hP h2
    go_enter Tryd.func22, Tryd.ntmps22
    go_wp2
    go_loop [5] (fun i => ∃ k : Nat, 0 ≤ k ∧ k ≤ s.size ∧ i = .int .i64 k ∧ Hid (allDig (s.data.toList.drop 0) = allDig (s.data.toList.drop k))) (fun i => s.size - (intOf i).toNat)
    case atStart => exact ⟨0, by omega, by omega, rfl, rfl⟩
    case round =>
      obtain ⟨k, hk0, hk, rfl, hd⟩ := hrel
      by_cases hlt : k < s.size
      · have hcons := Lib.hid (drop_list s k hlt)
        obtain ⟨c, hc⟩ : ∃ c : Nat, s[k].toNat = c := ⟨_, rfl⟩
        have HC := Lib.hid hc
        by_cases hlo : c < 48
        · go_wp2
          go_ret2
          rw [HPL.out, numQ_no (by rw [HALL.out, hd.out, hcons.out, allDig, isDig_no (by rw [HC.out]; exact .inl hlo)]; rfl)]
          exact ⟨rfl, rfl⟩
        · by_cases hhi : 57 < c
          · go_wp2
            go_ret2
            rw [HPL.out, numQ_no (by rw [HALL.out, hd.out, hcons.out, allDig, isDig_no (by rw [HC.out]; exact .inr hhi)]; rfl)]
            exact ⟨rfl, rfl⟩
          · go_wp2
            go_round
            case rel =>
              refine ⟨k + 1, by omega, by omega, by go_num, hd.out.trans ?_⟩
              rw [hcons.out, allDig, isDig_yes (by rw [HC.out]; omega) (by rw [HC.out]; omega)]
              rfl
            case measure => simp [intOf]; omega
      · have HA : Hid (allDig (s.data.toList.drop 0) = true) := Lib.hid (by rw [hd.out, drop_done s k hlt]; rfl)
        clear hd
        go_wp2
        go_loop [6, 7] (fun v i => ∃ (k2 : Nat) (n : Int), 0 ≤ k2 ∧ k2 ≤ s.size ∧ 0 ≤ n ∧ n ≤ 4611686018427387904 ∧ v = .int .i64 n ∧ i = .int .i64 k2 ∧ Hid (valUp 0 (s.data.toList.drop 0) = valUp n (s.data.toList.drop k2))) (fun _ i => s.size - (intOf i).toNat)
        case atStart => exact ⟨0, 0, by omega, by omega, by omega, by omega, rfl, rfl, rfl⟩
        case round =>
          obtain ⟨k2, n, hf2, hk2, hn0, hn1, rfl, rfl, hd⟩ := hrel
          by_cases hlt2 : k2 < s.size
          · have hcons := Lib.hid (drop_list s k2 hlt2)
            have hdig := dig_at s HA.out hf2 hlt2
            obtain ⟨c, hc⟩ : ∃ c : Nat, s[k2].toNat = c := ⟨_, rfl⟩
            have HC := Lib.hid hc
            rw [hc] at hdig
            have hlo := hdig.1; have hhi := hdig.2
            clear hdig
            by_cases hov : (4611686018427387904 - ((c : Int) - 48)) / 10 < n
            · go_wp2
              go_ret2
              rw [HPL.out, numQ_far (by rw [HALL.out]; exact HA.out) (.inl rfl) (hd.out.trans (by rw [hcons.out]; exact valUp_over HC.out hov))]
              exact ⟨rfl, rfl⟩
            · go_wp2
              go_round
              case rel =>
                exact ⟨k2 + 1, 10 * n + ((c : Int) - 48), by omega, by omega, by omega, by omega, rfl, by go_num, hd.out.trans (by rw [hcons.out, valUp_fits HC.out hov, Int.mul_comm])⟩
              case measure => simp [intOf]; omega
          · go_wp2
            go_ret2
            rw [HPL.out, numQ_yes (by rw [HALL.out]; exact HA.out) (.inl rfl) (hd.out.trans (by rw [drop_done s k2 hlt2, valUp]))]
            exact ⟨rfl, rfl⟩
theorem rnumber_any (s : ByteArray) (w : World) (hbig : s.size ≤ 9223372036854775807) :
    Calls Tryd.prog 22 #[.string s] w fun e w' => e = .returned (.tuple #[.int .i64 (numP s.data.toList).1, .int .i64 (numP s.data.toList).2]) ∧ w = w' := by
  by_cases h : s.size = 0
  · exact rnumber_empty s w h
  · by_cases h1 : s[0].toNat = 45
    · exact rnumber_sign s w hbig (by omega) h1
    · exact rnumber_plain s w hbig (by omega) h1
end Go.Proofs.YtcdinaoenhonbaaDoor.Num
