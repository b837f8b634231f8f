/-
  The contracts of Set's closure, of sort.Search over it, and of Set: any timers; what was there stays as it was.
-/
import Derived.Test.YtcfjnpepbjaacaaTimerE
import Derived.Test.YtcfjnpepbjaacaaTimerF
set_option linter.unusedVariables false
set_option linter.unusedSimpArgs false
set_option maxRecDepth 4000
namespace Go.Proofs.Ytcfjnpepbjaacaa.Timer
open Go.RowKit TimerP
open Go.Proofs.Ytcfjnpepbjaacaa.Kt

/-- The place of a timer. -/
def posT (t : Tm) : List Tm → Nat
  | [] => 0
  | y :: r => if aheadB y t = true then posT t r + 1 else 0
theorem posT_le (t : Tm) : ∀ l : List Tm, posT t l ≤ l.length
  | [] => Nat.le_refl _
  | y :: r => by
    rw [posT]
    split
    · have := posT_le t r; simp; omega
    · simp
theorem insT_at (t : Tm) : ∀ l : List Tm, insT t l = insA (posT t l) t l
  | [] => rfl
  | y :: r => by
    rw [insT, posT]
    split
    · rw [insT_at t r]; rfl
    · rfl
theorem posT_low (t : Tm) : ∀ {l : List Tm} {i : Nat} {y : Tm}, i < posT t l → l.getD i tm0 = y → aheadB y t = true
  | [], i, y, h, _ => by simp [posT] at h
  | z :: r, 0, y, h, hy => by
    rw [posT] at h
    split at h
    · rename_i e; simp at hy; rw [← hy]; exact e
    · omega
  | z :: r, i + 1, y, h, hy => by
    rw [posT] at h
    split at h
    · exact posT_low t (l := r) (i := i) (by omega) (by simpa using hy)
    · omega
theorem posT_at (t : Tm) : ∀ {l : List Tm} {y : Tm}, posT t l < l.length → l.getD (posT t l) tm0 = y → aheadB y t = false
  | [], y, h, _ => by simp at h
  | z :: r, y, h, hy => by
    rw [posT] at h hy
    by_cases e : aheadB z t = true
    · rw [if_pos e] at h hy
      exact posT_at t (l := r) (by simpa using h) (by simpa using hy)
    · rw [if_neg e] at hy
      simp at hy
      rw [← hy]; simpa using e
theorem low_no {t y : Tm} (h : aheadB y t = true) : aheadB t y = false := by
  cases e : aheadB t y with
  | false => rfl
  | true => exact absurd (ahead_trans (ahead_iff.1 h) (ahead_iff.1 e)) ahead_irr
theorem getD_idx {l : List Tm} {i : Nat} (h : i < l.length) : l.getD i tm0 = l[i] := by simp [List.getD, h]
theorem posT_high {t : Tm} {l : List Tm} {i : Nat} {y : Tm} (hup : l.Pairwise Ahead) (hk : ∀ z ∈ l, ¬ Key z t) (h1 : posT t l ≤ i) (h2 : i < l.length) (hy : l.getD i tm0 = y) : aheadB t y = true := by
  have hp : posT t l < l.length := by omega
  have h0 := posT_at t hp rfl
  rw [getD_idx hp] at h0
  have hm : l[posT t l] ∈ l := List.getElem_mem _
  have h3 : Ahead t l[posT t l] := ahead_total (fun e => by rw [ahead_iff.2 e] at h0; cases h0) (hk _ hm)
  rw [getD_idx h2] at hy
  rw [← hy, ahead_iff]
  rcases Nat.lt_or_ge (posT t l) i with h | h
  · exact ahead_trans h3 (List.pairwise_iff_getElem.1 hup _ _ hp h2 h)
  · have : posT t l = i := by omega
    subst this
    exact h3

set_option maxHeartbeats 2000000 in
theorem closure_any (bt br : Nat) (a : Option Addr) (n c i : Nat) (l : List Tm) (x0 x1 x2 : Int) (v : Bool) (W : World) (hi : i < n) (hv : aheadB ⟨x0, x1, x2⟩ (l.getD i tm0) = v)
    (ht : At3 25 W bt (.int .i64 x0) (.int .i64 x1) (.int .i64 x2)) (hr : W.cell? ⟨br, 0, none⟩ = some (.slice a n c)) (h : TmAt W a n l) :
    Calls Try.prog 23 #[.int .i64 (i : Int), .pointer (some ⟨bt, 0, none⟩), .pointer (some ⟨br, 0, none⟩)] W fun e w' => e = .returned (.bool v) ∧ Below W.heap.size W w' := by
  have hl := h.2.1
  obtain ⟨b1, o1, y0, y1, y2, rfl, _, hp, hc1⟩ := TmAt.at h hi
  obtain ⟨d0, d1, d2⟩ := hc1 W (Below.refl _ _)
  rw [hp] at hv
  have CA := Lib.hid (fun d os => Calls.regrown_of (ahead_is x0 x1 x2 y0 y1 y2 v hv (Sort.grow (redrawn W d) os)))
  obtain ⟨t0, t1, t2⟩ := cells3 ht
  have hi0 : (0 : Int) ≤ (i : Int) := by omega
  have hi1 : (i : Int) < (n : Int) := by omega
  have e0 := fun d os => cell_regrown d0 d os
  have e1 := fun d os => cell_regrown d1 d os
  have e2 := fun d os => cell_regrown d2 d os
  have f0 := fun d os => cell_regrown t0 d os
  have f1 := fun d os => cell_regrown t1 d os
  have f2 := fun d os => cell_regrown t2 d os
  have g0 := fun d os => cell_regrown hr d os
  clear hc1 hp h ht hv hr d0 d1 d2 t0 t1 t2
  go_enter Try.func23, Try.ntmps23
  go_wp2_with fail
  refine wp_region_qw (by kernel_rfl) (by kernel_rfl) ?_
  refine qw_take (by kernel_rfl) (fun K hK => ?_); go_simp; first | (refine hK _ ?_; clear hK K) | (apply Exists.intro; refine ⟨fun _ => ?_, hK _ ?_⟩; (first | with_reducible exact CA.out _ _); clear hK K)
  refine qw_take (by kernel_rfl) (fun K hK => ?_); go_simp; first | (refine hK _ ?_; clear hK K) | (apply Exists.intro; refine ⟨fun _ => ?_, hK _ ?_⟩; (first | with_reducible exact CA.out _ _); clear hK K)
  refine qw_take (by kernel_rfl) (fun K hK => ?_); go_simp; first | (refine hK _ ?_; clear hK K) | (apply Exists.intro; refine ⟨fun _ => ?_, hK _ ?_⟩; (first | with_reducible exact CA.out _ _); clear hK K)
  refine qw_take (by kernel_rfl) (fun K hK => ?_); go_simp; first | (refine hK _ ?_; clear hK K) | (apply Exists.intro; refine ⟨fun _ => ?_, hK _ ?_⟩; (first | with_reducible exact CA.out _ _); clear hK K)
  refine qw_take (by kernel_rfl) (fun K hK => ?_); go_simp; first | (refine hK _ ?_; clear hK K) | (apply Exists.intro; refine ⟨fun _ => ?_, hK _ ?_⟩; (first | with_reducible exact CA.out _ _); clear hK K)
  refine qw_take (by kernel_rfl) (fun K hK => ?_); go_simp; first | (refine hK _ ?_; clear hK K) | (apply Exists.intro; refine ⟨fun _ => ?_, hK _ ?_⟩; (first | with_reducible exact CA.out _ _); clear hK K)
  refine qw_take (by kernel_rfl) (fun K hK => ?_); go_simp; first | (refine hK _ ?_; clear hK K) | (apply Exists.intro; refine ⟨fun _ => ?_, hK _ ?_⟩; (first | with_reducible exact CA.out _ _); clear hK K)
  refine qw_nil ?_
  intro _ hw'
  obtain ⟨⟨dq, osq⟩, hw''⟩ := hw'
  subst hw''
  have HBL := Lib.hid (below_regrown W dq osq)
  clear e0 e1 e2 f0 f1 f2 g0 CA
  generalize Sort.grow (redrawn W dq) osq = wl at *
  go_wp2_with fail
  go_ret
  exact ⟨rfl, HBL.out⟩
theorem search_any (g : Nat) (cb : Array Value) (n j : Nat) (p : Nat → Bool) (w : World) (hn : n ≤ 1000000) (hjn : j ≤ n) (eg : g = 23) (hcb : ∃ p1 p2, cb = #[.pointer (some p1), .pointer (some p2)])
    (hf : ∀ (W : World), Below w.heap.size w W → ∀ i, i < n → Calls Try.prog g (#[.int .i64 (i : Int)] ++ cb) W fun e w' => e = .returned (.bool (p i)) ∧ Below W.heap.size W w')
    (hlo : ∀ i, i < j → p i = false) (hhi : ∀ i, j ≤ i → i < n → p i = true) :
    Calls Try.prog 22 #[.int .i64 (n : Int), .func (.func g) #[] cb] w fun e w' => e = .returned (.int .i64 (j : Int)) ∧ Below w.heap.size w w' := by
  subst eg
  obtain ⟨p1, p2, rfl⟩ := hcb
  have HF : Hid _ := hf
  have HLO : Hid _ := hlo
  have HHI : Hid _ := hhi
  clear hf hlo hhi
  go_enter Try.func22, Try.ntmps22
  go_wp2_with fail
  go_loopw [5, 6] (fun s5 s6 wr => ∃ lo hi : Nat, s5 = .int .i64 (lo : Int) ∧ s6 = .int .i64 (hi : Int) ∧ lo ≤ j ∧ j ≤ hi ∧ hi ≤ n ∧ Hid (Below w.heap.size w wr)) (fun s5 s6 _ => (intOf s6).toNat - (intOf s5).toNat)
  case atStart => exact ⟨0, n, rfl, rfl, Nat.zero_le _, hjn, Nat.le_refl _, Below.refl _ w⟩
  case round =>
    obtain ⟨lo, hi, rfl, rfl, h1, h2, h3, hB⟩ := hrel
    by_cases hlt : lo < hi
    · obtain ⟨m, hm⟩ : ∃ m, (lo + hi) / 2 = m := ⟨_, rfl⟩
      have hmi : ((lo : Int) + (hi : Int)) / 2 = (m : Int) := by omega
      have hml : lo ≤ m := by omega
      have hmh : m < hi := by omega
      have hltI : (lo : Int) < (hi : Int) := by omega
      have C := HF.out wr hB.out m (by omega)
      simp only [List.append_toArray, List.cons_append, List.nil_append] at C
      by_cases hjm : j ≤ m
      · rw [HHI.out m hjm (by omega)] at C
        have C := Lib.hid C
        clear hm
        go_wp2_with fail
        refine C.out.mono ?_
        rintro e w1 ⟨rfl, hb⟩
        have HB1 := Lib.hid (below_keep hB.out hb hB.out.size)
        clear hb
        go_wp2_with fail
        go_roundw
        case rel => exact ⟨lo, m, rfl, rfl, h1, hjm, by omega, HB1⟩
        case measure => simp [intOf]; omega
      · rw [HLO.out m (by omega)] at C
        have C := Lib.hid C
        clear hm
        go_wp2_with fail
        refine C.out.mono ?_
        rintro e w1 ⟨rfl, hb⟩
        have HB1 := Lib.hid (below_keep hB.out hb hB.out.size)
        clear hb
        go_wp2_with fail
        go_roundw
        case rel => exact ⟨m + 1, hi, by go_num, rfl, by omega, h2, h3, HB1⟩
        case measure => simp [intOf]; omega
    · obtain rfl : lo = j := by omega
      obtain rfl : hi = lo := by omega
      go_wp2_with fail
      go_ret
      exact ⟨rfl, hB.out⟩
end Go.Proofs.Ytcfjnpepbjaacaa.Timer
