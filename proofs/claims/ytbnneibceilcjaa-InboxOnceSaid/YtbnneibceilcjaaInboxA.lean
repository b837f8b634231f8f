/-
  Rows of integers and boxes in memory; the contracts of New, num's Fit (both), isNaN, Less, the document's Has and Same of lists, slices.Index, Contains, Equal and BinarySearch: any numbers; what was there stays as it was.
-/
import Derived.Test.YtbnneibceilcjaaInboxPlain
import Derived.Test.YtbnneibceilcjaaNumA
import Derived.Test.YtbnneibceilcjaaKt
import Derived.Test.YtbnneibceilcjaaRw
import Derived.BigQuiet
import Derived.LoopTactic
set_option linter.unusedVariables false
set_option linter.unusedSimpArgs false
set_option maxRecDepth 4000
namespace Go.Proofs.Ytbnneibceilcjaa.Inbox
open Go.RowKit InP
open Go.Proofs.Ytbnneibceilcjaa.Kt

/-- Integers as elements of a slice. -/
def intS : Rw.Sh Int where
  c := fun x => [.int .i64 x]
  z := 0
  zv := .int .i64 0
  ts := 22
  te := 3
  k := 1
  bytes := 8
  pos := by decide
  small := by decide
  len := fun t => rfl
  one := fun t u hu => by
    rw [List.mem_singleton] at hu
    subst hu
    rfl
  zcells := rfl
  und := Try.underlying22
  info := by kernel_rfl
/-- A slice of integers. -/
abbrev NsAt (w : World) (a : Option Addr) (len : Nat) (l : List Int) : Prop := Rw.At intS w a len l
theorem NsAt.at {w : World} {a : Option Addr} {len : Nat} {l : List Int} (h : NsAt w a len l) {i : Nat} (hi : i < len) :
    ∃ b off, a = some ⟨b, off, none⟩ ∧ b < w.heap.size ∧ ∀ w', Below w.heap.size w w' → w'.cell? ⟨b, off + i, none⟩ = some (.int .i64 (l.getD i 0)) := by
  obtain ⟨b, off, e, hlt, _, hc⟩ := Rw.At.at h hi rfl
  refine ⟨b, off, e, hlt, fun w' hb => ?_⟩
  have h2 := hc w' hb 0 _ rfl
  rw [show intS.k = 1 from rfl, Nat.mul_one, Nat.add_zero] at h2
  exact h2
theorem NsAt.told {w : World} {a : Option Addr} {len : Nat} {l : List Int} (h : NsAt w a len l) : l.length = len ∧ (len = 0 ∨ ∃ b off, a = some ⟨b, off, none⟩ ∧ b < w.heap.size ∧ ∀ i, i < len → w.cell? ⟨b, off + i, none⟩ = some (.int .i64 (l.getD i 0))) := by
  refine ⟨h.1, ?_⟩
  rcases h.2.2 with h0 | ⟨b, off, rfl, hlt, _⟩
  · exact .inl h0
  · refine .inr ⟨b, off, rfl, hlt, fun i hi => ?_⟩
    obtain ⟨b2, off2, e, _, hc⟩ := NsAt.at h hi
    cases e
    exact hc w (Below.refl _ w)
/-- A box as a value. -/
def bxV (s l : Int) (r : Value) : Value := .agg #[.int .i64 s, .int .i64 l, r]
/-- The slice of a box: its numbers, with room. -/
structure AbAt (w : World) (a : Option Addr) (n c : Nat) (l : List Int) : Prop where
  at_ : NsAt w a n l
  room : n ≤ c
theorem AbAt.keep {w w' : World} {a : Option Addr} {n c : Nat} {l : List Int} (h : AbAt w a n c l) (hb : Below w.heap.size w w') : AbAt w' a n c l := ⟨Rw.At.keep h.at_ hb, h.room⟩
theorem AbAt.nil (w : World) : AbAt w none 0 0 [] := ⟨Rw.At.nil _ _ _, Nat.le_refl _⟩
theorem AbAt.len {w : World} {a : Option Addr} {n c : Nat} {l : List Int} (h : AbAt w a n c l) : l.length = n := h.at_.1
theorem results_bx {fn : Func} {j k : Nat} (h : fn.results = #[.cell j 24, .tmp k]) (tmps : Array Value) (w : World) (b : Nat) (v0 v1 v2 : Value) (hp : tmps.getD j undef = .pointer (some ⟨b, 0, none⟩))
    (c : At3 24 w b v0 v1 v2) : (results fn tmps).run Try.prog w = .ok (.tuple #[.agg #[v0, v1, v2], tmps.getD k undef]) w := by
  have hp' : tmps[j]?.getD undef = .pointer (some ⟨b, 0, none⟩) := by rw [← hp]; simp
  obtain ⟨c0, c1, c2⟩ := cells3 c
  simp only [results, h]
  go_simp
theorem results_bx1 {fn : Func} {j : Nat} (h : fn.results = #[.cell j 24]) (tmps : Array Value) (w : World) (b : Nat) (v0 v1 v2 : Value) (hp : tmps.getD j undef = .pointer (some ⟨b, 0, none⟩))
    (c : At3 24 w b v0 v1 v2) : (results fn tmps).run Try.prog w = .ok (.agg #[v0, v1, v2]) w := by
  have hp' : tmps[j]?.getD undef = .pointer (some ⟨b, 0, none⟩) := by rw [← hp]; simp
  obtain ⟨c0, c1, c2⟩ := cells3 c
  simp only [results, h]
  go_simp
theorem new_any (n : Int) (w : World) : Calls Try.prog 15 #[.int .i64 n] w fun e w' => e = .returned (bxV n 0 (.slice none 0 0)) ∧ Below w.heap.size w w' := by
  unfold bxV
  have HN := Lib.hid (at3_new 24 w (.int .i64 n) (.int .i64 0) (.slice none 0 0))
  have HB := Lib.hid ((Below.refl w.heap.size w).alloc (Nat.le_refl _) (.cells #[.int .i64 n, .int .i64 0, .slice none 0 0] 24))
  go_enter Try.func15, Try.ntmps15
  go_wp2_with fail
  exact bodyPost_ret (results_bx1 (j := 2) rfl _ _ w.heap.size _ _ _ rfl HN.out) rfl ⟨rfl, HB.out⟩
/-! ### numbers -/
theorem nfit_is (n : Int) (v : Bool) (hv : amtI n = v) (w : World) : Calls Try.prog 16 #[.int .i64 n] w fun e w' => e = .returned (.bool v) ∧ w = w' := by
  have h := Num.fit_any n w
  rw [show NumP.amt n = amtI n from rfl, hv] at h
  exact h
theorem nrfit_is (n : Int) (v : Bool) (hv : amtI n = v) (w : World) : Calls Try.prog 19 #[.int .i64 n] w fun e w' => e = .returned (.bool v) ∧ w = w' := by
  have h := Num.rfit_any n w
  rw [show NumP.amt n = amtI n from rfl, hv] at h
  exact h
theorem snan_any (n : Int) (w : World) : Calls Try.prog 25 #[.int .i64 n] w fun e w' => e = .returned (.bool false) ∧ w = w' := by
  have hn : (n != n) = false := by simp
  go_enter Try.func25, Try.ntmps25
  go_wp2_with fail
  go_ret
  exact ⟨rfl, rfl⟩
theorem cnan_any (n : Int) (w : World) : Calls Try.prog 27 #[.int .i64 n] w fun e w' => e = .returned (.bool false) ∧ w = w' := by
  have hn : (n != n) = false := by simp
  go_enter Try.func27, Try.ntmps27
  go_wp2_with fail
  go_ret
  exact ⟨rfl, rfl⟩
theorem less_any (n m : Int) (v : Bool) (hv : decide (n < m) = v) (w : World) : Calls Try.prog 24 #[.int .i64 n, .int .i64 m] w fun e w' => e = .returned (.bool v) ∧ w = w' := by
  subst hv
  have K := Lib.hid (cnan_any n w)
  go_enter Try.func24, Try.ntmps24
  go_wp2_with fail
  refine K.out.mono ?_
  rintro e w1 ⟨rfl, rfl⟩
  go_wp2_with fail
  go_ret
  exact ⟨rfl, rfl⟩
/-! ### lists -/
theorem getD_mem {xs : List Int} {k : Nat} (hk : k < xs.length) : xs.getD k 0 ∈ xs := by
  rw [List.getD_eq_getElem?_getD, List.getElem?_eq_getElem hk]; simp
theorem take_snoc (xs : List Int) (k : Nat) (h : k < xs.length) : xs.take (k + 1) = xs.take k ++ [xs.getD k 0] := by
  rw [List.take_succ_eq_append_getElem h]; simp [List.getD, h]
theorem take_same {xs ys : List Int} {k : Nat} (h : xs.take k = ys.take k) (h1 : k < xs.length) (h2 : k < ys.length) (e : xs.getD k 0 = ys.getD k 0) : xs.take (k + 1) = ys.take (k + 1) := by
  rw [take_snoc xs k h1, take_snoc ys k h2, h, e]
theorem same_end {xs ys : List Int} {k : Nat} (h : xs.take k = ys.take k) (h1 : xs.length ≤ k) (h2 : ys.length ≤ k) : xs = ys := by
  rw [List.take_of_length_le h1, List.take_of_length_le h2] at h; exact h
theorem same_not {xs ys : List Int} {k : Nat} (e : ¬ xs.getD k 0 = ys.getD k 0) : ¬ xs = ys := fun h => e (by rw [h])
theorem len_not {xs ys : List Int} {n m : Nat} (h1 : xs.length = n) (h2 : ys.length = m) (e : ¬ n = m) : ¬ xs = ys := fun h => e (by rw [← h1, ← h2, h])
theorem has_end {xs : List Int} {n : Int} {k : Nat} (h : ¬ n ∈ xs.take k) (h1 : xs.length ≤ k) : ¬ n ∈ xs := by
  rw [List.take_of_length_le h1] at h; exact h
theorem has_step {xs : List Int} {n : Int} {k : Nat} (h : ¬ n ∈ xs.take k) (h1 : k < xs.length) (e : ¬ xs.getD k 0 = n) : ¬ n ∈ xs.take (k + 1) := by
  rw [take_snoc xs k h1]
  simp only [List.mem_append, List.mem_singleton, not_or]
  exact ⟨h, fun g => e g.symm⟩
set_option maxHeartbeats 1000000 in
theorem rsame_any (a c : Option Addr) (la ca lc cc : Nat) (xs ys : List Int) (R : Bool) (hR : decide (xs = ys) = R) (w : World) (h1 : NsAt w a la xs) (h2 : NsAt w c lc ys) :
    Calls Try.prog 22 #[.slice a la ca, .slice c lc cc] w fun e w' => e = .returned (.bool R) ∧ Below w.heap.size w w' := by
  have hl1 := h1.2.1
  have hl2 := h2.2.1
  obtain ⟨hx1, hc1⟩ := NsAt.told h1
  obtain ⟨hx2, hc2⟩ := NsAt.told h2
  clear h1 h2
  by_cases hl : la = lc
  · subst hl
    have HL1 := Lib.hid hx1; have HL2 := Lib.hid hx2; have HR := Lib.hid hR
    have HC1 := Lib.hid hc1; have HC2 := Lib.hid hc2
    clear hx1 hx2 hc1 hc2 hR
    go_enter Try.func22, Try.ntmps22
    go_wp2_with fail
    go_loopw [5] (fun i wr => ∃ j : Nat, j ≤ la ∧ i = .int .i64 (j : Int) ∧ Hid (Below w.heap.size w wr) ∧ Hid (xs.take j = ys.take j)) (fun i _ => la - (intOf i).toNat)
    case atStart => exact ⟨0, Nat.zero_le _, rfl, Below.refl _ w, rfl⟩
    case round =>
      obtain ⟨j, hj, rfl, hB, hT⟩ := hrel
      by_cases hlt : j < la
      · obtain ⟨b1, o1, rfl, hb1, hd1⟩ := HC1.out.resolve_left (by omega)
        obtain ⟨b2, o2, rfl, hb2, hd2⟩ := HC2.out.resolve_left (by omega)
        have d1 := (hB.out.cell (p := ⟨b1, o1 + j, none⟩) hb1).trans (hd1 j hlt)
        have d2 := (hB.out.cell (p := ⟨b2, o2 + j, none⟩) hb2).trans (hd2 j hlt)
        have HB := Lib.hid (fun n => below_drewN hB.out n)
        have hy := fun e => take_same hT.out (k := j) (by rw [HL1.out]; exact hlt) (by rw [HL2.out]; exact hlt) e
        have hn := fun e => same_not (xs := xs) (ys := ys) (k := j) e
        clear hB hd1 hd2 hT HC1 HC2
        generalize xs.getD j 0 = u1 at *
        generalize ys.getD j 0 = u2 at *
        have HY := Lib.hid hy; have HN := Lib.hid hn
        clear hy hn
        by_cases he : u1 = u2
        · have HYE := Lib.hid (HY.out he)
          subst he
          go_wp2_with fail
          go_quiet (fail)
          go_wp2_with fail
          go_roundw
          case rel => exact ⟨j + 1, by omega, by go_num, HB.out _, HYE.out⟩
          case measure => simp [intOf]; omega
        · have hne : (u1 != u2) = true := by simpa using he
          go_wp2_with fail
          go_quiet (fail)
          go_wp2_with fail
          go_ret
          exact ⟨by rw [← HR.out, decide_eq_false (HN.out he)]; rfl, HB.out _⟩
      · have hend := same_end hT.out (by rw [HL1.out]; omega) (by rw [HL2.out]; omega)
        have HE := Lib.hid hend
        clear hend hT
        go_wp2_with fail
        go_ret
        exact ⟨by rw [← HR.out, decide_eq_true HE.out]; rfl, hB.out⟩
  · have hn := len_not hx1 hx2 hl
    rw [decide_eq_false hn] at hR
    subst hR
    have hne : ((la : Int) != (lc : Int)) = true := by simp; omega
    clear hx1 hx2 hc1 hc2 hn
    go_enter Try.func22, Try.ntmps22
    go_wp2_with fail
    go_ret
    exact ⟨rfl, Below.refl _ w⟩
set_option maxHeartbeats 1000000 in
theorem equal_any (a c : Option Addr) (la ca lc cc : Nat) (xs ys : List Int) (R : Bool) (hR : decide (xs = ys) = R) (w : World) (h1 : NsAt w a la xs) (h2 : NsAt w c lc ys) :
    Calls Try.prog 23 #[.slice a la ca, .slice c lc cc] w fun e w' => e = .returned (.bool R) ∧ Below w.heap.size w w' := by
  have hl1 := h1.2.1
  have hl2 := h2.2.1
  obtain ⟨hx1, hc1⟩ := NsAt.told h1
  obtain ⟨hx2, hc2⟩ := NsAt.told h2
  clear h1 h2
  by_cases hl : la = lc
  · subst hl
    have HL1 := Lib.hid hx1; have HL2 := Lib.hid hx2; have HR := Lib.hid hR
    have HC1 := Lib.hid hc1; have HC2 := Lib.hid hc2
    clear hx1 hx2 hc1 hc2 hR
    go_enter Try.func23, Try.ntmps23
    go_wp2_with fail
    go_loopw [13] (fun i wr => ∃ j : Nat, j ≤ la ∧ i = .int .i64 (j : Int) ∧ Hid (Below w.heap.size w wr) ∧ Hid (xs.take j = ys.take j)) (fun i _ => la - (intOf i).toNat)
    case atStart => exact ⟨0, Nat.zero_le _, rfl, Below.refl _ w, rfl⟩
    case round =>
      obtain ⟨j, hj, rfl, hB, hT⟩ := hrel
      by_cases hlt : j < la
      · obtain ⟨b1, o1, rfl, hb1, hd1⟩ := HC1.out.resolve_left (by omega)
        obtain ⟨b2, o2, rfl, hb2, hd2⟩ := HC2.out.resolve_left (by omega)
        have d1 := (hB.out.cell (p := ⟨b1, o1 + j, none⟩) hb1).trans (hd1 j hlt)
        have d2 := (hB.out.cell (p := ⟨b2, o2 + j, none⟩) hb2).trans (hd2 j hlt)
        have HB := Lib.hid (fun n => below_drewN hB.out n)
        have hy := fun e => take_same hT.out (k := j) (by rw [HL1.out]; exact hlt) (by rw [HL2.out]; exact hlt) e
        have hn := fun e => same_not (xs := xs) (ys := ys) (k := j) e
        clear hB hd1 hd2 hT HC1 HC2
        generalize xs.getD j 0 = u1 at *
        generalize ys.getD j 0 = u2 at *
        have HY := Lib.hid hy; have HN := Lib.hid hn
        clear hy hn
        by_cases he : u1 = u2
        · have HYE := Lib.hid (HY.out he)
          subst he
          go_wp2_with fail
          go_quiet (fail)
          go_wp2_with fail
          go_roundw
          case rel => exact ⟨j + 1, by omega, by go_num, HB.out _, HYE.out⟩
          case measure => simp [intOf]; omega
        · have hne : (u1 != u2) = true := by simpa using he
          go_wp2_with fail
          go_quiet (fail)
          go_wp2_with fail
          go_ret
          exact ⟨by rw [← HR.out, decide_eq_false (HN.out he)]; rfl, HB.out _⟩
      · have hend := same_end hT.out (by rw [HL1.out]; omega) (by rw [HL2.out]; omega)
        have HE := Lib.hid hend
        clear hend hT
        go_wp2_with fail
        go_ret
        exact ⟨by rw [← HR.out, decide_eq_true HE.out]; rfl, hB.out⟩
  · have hn := len_not hx1 hx2 hl
    rw [decide_eq_false hn] at hR
    subst hR
    have hne : ((la : Int) != (lc : Int)) = true := by simp; omega
    clear hx1 hx2 hc1 hc2 hn
    go_enter Try.func23, Try.ntmps23
    go_wp2_with fail
    go_ret
    exact ⟨rfl, Below.refl _ w⟩
theorem has_any (a : Option Addr) (len cap : Nat) (n : Int) (xs : List Int) (R : Bool) (hR : decide (n ∈ xs) = R) (w : World) (h : NsAt w a len xs) :
    Calls Try.prog 21 #[.slice a len cap, .int .i64 n] w fun e w' => e = .returned (.bool R) ∧ w = w' := by
  have hl := h.2.1
  obtain ⟨hx, hc⟩ := NsAt.told h
  have HL := Lib.hid hx; have HC := Lib.hid hc; have HR := Lib.hid hR
  clear h hx hc hR
  go_enter Try.func21, Try.ntmps21
  go_wp2_with fail
  go_loopw [5] (fun i wr => ∃ j : Nat, j ≤ len ∧ i = .int .i64 (j : Int) ∧ w = wr ∧ Hid (¬ n ∈ xs.take j)) (fun i _ => len - (intOf i).toNat)
  case atStart => exact ⟨0, Nat.zero_le _, rfl, rfl, by show ¬ n ∈ List.take 0 xs; simp⟩
  case round =>
    obtain ⟨j, hj, rfl, rfl, hT⟩ := hrel
    by_cases hlt : j < len
    · obtain ⟨b1, o1, rfl, hb1, hd1⟩ := HC.out.resolve_left (by omega)
      have d1 := hd1 j hlt
      have hy := fun e => has_step hT.out (k := j) (by rw [HL.out]; exact hlt) e
      have hn : xs.getD j 0 = n → n ∈ xs := fun e => e ▸ getD_mem (by rw [HL.out]; exact hlt)
      clear hd1 hT HC
      generalize xs.getD j 0 = u1 at *
      have HY := Lib.hid hy; have HN := Lib.hid hn
      clear hy hn
      by_cases he : u1 = n
      · have HNE := Lib.hid (decide_eq_true (HN.out he))
        subst he
        go_wp2
        go_ret
        exact ⟨by rw [← HR.out, HNE.out]; rfl, rfl⟩
      · have hne : (u1 == n) = false := by simpa using he
        go_wp2
        go_roundw
        case rel => exact ⟨j + 1, by omega, by go_num, by trivial, HY.out he⟩
        case measure => simp [intOf]; omega
    · have hend := has_end hT.out (by rw [HL.out]; omega)
      have HE := Lib.hid hend
      clear hend hT
      go_wp2
      go_ret
      exact ⟨by rw [← HR.out, decide_eq_false HE.out]; rfl, rfl⟩
/-- What Index tells. -/
def IdxR (n : Int) (xs : List Int) (w : World) (e : Ending) (w' : World) : Prop := ∃ r : Int, e = .returned (.int .i64 r) ∧ (0 ≤ r ↔ n ∈ xs) ∧ w = w'
theorem idx_ret {n : Int} {xs : List Int} {w : World} (r : Int) (h : 0 ≤ r ↔ n ∈ xs) : IdxR n xs w (.returned (.int .i64 r)) w := ⟨r, rfl, h, rfl⟩
theorem index_any (a : Option Addr) (len cap : Nat) (n : Int) (xs : List Int) (w : World) (h : NsAt w a len xs) :
    Calls Try.prog 26 #[.slice a len cap, .int .i64 n] w (IdxR n xs w) := by
  have hl := h.2.1
  obtain ⟨hx, hc⟩ := NsAt.told h
  have HL := Lib.hid hx; have HC := Lib.hid hc
  clear h hx hc
  go_enter Try.func26, Try.ntmps26
  go_wp2_with fail
  go_loopw [8] (fun i wr => ∃ j : Nat, j ≤ len ∧ i = .int .i64 (j : Int) ∧ w = wr ∧ Hid (¬ n ∈ xs.take j)) (fun i _ => len - (intOf i).toNat)
  case atStart => exact ⟨0, Nat.zero_le _, rfl, rfl, by show ¬ n ∈ List.take 0 xs; simp⟩
  case round =>
    obtain ⟨j, hj, rfl, rfl, hT⟩ := hrel
    by_cases hlt : j < len
    · obtain ⟨b1, o1, rfl, hb1, hd1⟩ := HC.out.resolve_left (by omega)
      have d1 := hd1 j hlt
      have hy := fun e => has_step hT.out (k := j) (by rw [HL.out]; exact hlt) e
      have hn : xs.getD j 0 = n → n ∈ xs := fun e => e ▸ getD_mem (by rw [HL.out]; exact hlt)
      clear hd1 hT HC
      generalize xs.getD j 0 = u1 at *
      have HY := Lib.hid hy; have HN := Lib.hid hn
      clear hy hn
      by_cases he : u1 = n
      · have HNE := Lib.hid (HN.out he)
        subst he
        go_wp2
        go_ret
        exact idx_ret _ ⟨fun _ => HNE.out, fun _ => by omega⟩
      · have hne : (n == u1) = false := beq_eq_false_iff_ne.2 fun e => he e.symm
        go_wp2
        go_roundw
        case rel => exact ⟨j + 1, by omega, by go_num, by trivial, HY.out he⟩
        case measure => simp [intOf]; omega
    · have hend := has_end hT.out (by rw [HL.out]; omega)
      have HE := Lib.hid hend
      clear hend hT
      go_wp2
      go_ret
      exact idx_ret _ ⟨fun h => by omega, fun h => absurd h HE.out⟩
theorem contains_any (a : Option Addr) (len cap : Nat) (n : Int) (xs : List Int) (R : Bool) (hR : decide (n ∈ xs) = R) (w : World) (h : NsAt w a len xs) :
    Calls Try.prog 20 #[.slice a len cap, .int .i64 n] w fun e w' => e = .returned (.bool R) ∧ w = w' := by
  have K := Lib.hid (index_any a len cap n xs w h)
  have HR := Lib.hid hR
  clear h hR
  go_enter Try.func20, Try.ntmps20
  go_wp2_with fail
  refine K.out.mono ?_
  rintro e w1 ⟨r, rfl, hr, rfl⟩
  have HE : Hid (decide (0 ≤ r) = R) := by show _ = _; rw [← HR.out]; exact decide_eq_decide.2 hr
  clear hr
  go_wp2_with fail
  go_ret
  exact ⟨ret_bool HE.out.symm, rfl⟩
/-! ### the place of a number -/
theorem posI_low (n : Int) : ∀ {l : List Int} {i : Nat}, i < posI n l → l.getD i 0 < n
  | [], i, h => by simp [posI] at h
  | z :: r, 0, h => by
    rw [posI] at h
    split at h
    · rename_i e; simpa using e
    · omega
  | z :: r, i + 1, h => by
    rw [posI] at h
    split at h
    · have := posI_low n (l := r) (i := i) (by omega)
      simpa using this
    · omega
theorem posI_at (n : Int) : ∀ {l : List Int}, posI n l < l.length → ¬ l.getD (posI n l) 0 < n
  | [], h => by simp at h
  | z :: r, h => by
    rw [posI] at h ⊢
    by_cases e : z < n
    · rw [if_pos e] at h ⊢
      have := posI_at n (l := r) (by simpa using h)
      simpa using this
    · rw [if_neg e]
      simpa using e
theorem getD_idx {l : List Int} {i : Nat} (h : i < l.length) : l.getD i 0 = l[i] := by simp [List.getD, h]
theorem posI_high {n : Int} {l : List Int} {i : Nat} (hup : l.Pairwise (· < ·)) (h1 : posI n l ≤ i) (h2 : i < l.length) : ¬ l.getD i 0 < n := by
  have hp : posI n l < l.length := by omega
  have h0 := posI_at n hp
  rw [getD_idx hp] at h0
  rw [getD_idx h2]
  rcases Nat.lt_or_ge (posI n l) i with h | h
  · have := List.pairwise_iff_getElem.1 hup _ _ hp h2 h
    omega
  · have e : posI n l = i := by omega
    subst e
    exact h0
/-- What BinarySearch tells. -/
def BsR (p : Nat) (w : World) (e : Ending) (w' : World) : Prop := ∃ v : Bool, e = .returned (.tuple #[.int .i64 (p : Int), .bool v]) ∧ w = w'
theorem bs_ret {p : Nat} {w : World} (v : Bool) : BsR p w (.returned (.tuple #[.int .i64 (p : Int), .bool v])) w := ⟨v, rfl, rfl⟩
set_option maxHeartbeats 1000000 in
theorem search_any (a : Option Addr) (n c : Nat) (x : Int) (l : List Int) (w : World) (h : NsAt w a n l) (hn : n ≤ 1000) (hup : l.Pairwise (· < ·)) :
    Calls Try.prog 17 #[.slice a n c, .int .i64 x] w (BsR (posI x l) w) := by
  obtain ⟨hx, hc⟩ := NsAt.told h
  obtain ⟨J, hJ⟩ : ∃ J, posI x l = J := ⟨_, rfl⟩
  have hjn : J ≤ n := by rw [← hJ, ← hx]; exact posI_le x l
  have HLO : Hid (∀ i, i < J → l.getD i 0 < x) := fun i hi => posI_low x (by rw [hJ]; exact hi)
  have HHI : Hid (∀ i, J ≤ i → i < n → decide (l.getD i 0 < x) = false) := fun i h1 h2 => decide_eq_false (posI_high (n := x) hup (by rw [hJ]; exact h1) (by rw [hx]; exact h2))
  rw [hJ]
  have HC := Lib.hid hc
  have CL := Lib.hid (fun (y : Int) (v : Bool) (hv : decide (y < x) = v) => less_any y x v hv w)
  have CN := Lib.hid (fun (y : Int) => snan_any y w)
  clear h hx hc hup hJ
  go_enter Try.func17, Try.ntmps17
  go_wp2_with fail
  go_loopw [7, 8] (fun s5 s6 wr => ∃ lo hi : Nat, s5 = .int .i64 (lo : Int) ∧ s6 = .int .i64 (hi : Int) ∧ lo ≤ J ∧ J ≤ hi ∧ hi ≤ n ∧ w = wr) (fun s5 s6 _ => (intOf s6).toNat - (intOf s5).toNat)
  case atStart => exact ⟨0, n, rfl, rfl, Nat.zero_le _, hjn, Nat.le_refl _, rfl⟩
  case round =>
    obtain ⟨lo, hi, rfl, rfl, h1, h2, h3, rfl⟩ := hrel
    by_cases hlt : lo < hi
    · obtain ⟨m, hm⟩ : ∃ m, (lo + hi) / 2 = m := ⟨_, rfl⟩
      have hmi : ((lo : Int) + (hi : Int)) / 2 = (m : Int) := by omega
      have hml : lo ≤ m := by omega
      have hmh : m < hi := by omega
      have hltI : (lo : Int) < (hi : Int) := by omega
      obtain ⟨b1, o1, rfl, hb1, hd1⟩ := HC.out.resolve_left (by omega)
      have d1 := hd1 m (by omega)
      by_cases hjm : J ≤ m
      · have C := CL.out _ false (HHI.out m hjm (by omega))
        generalize l.getD m 0 = u1 at *
        have C := Lib.hid C
        clear hm hd1 HC
        go_wp2_with fail
        refine C.out.mono ?_
        rintro e w1 ⟨rfl, rfl⟩
        go_wp2_with fail
        go_roundw
        case rel => exact ⟨lo, m, rfl, rfl, h1, hjm, by omega, by trivial⟩
        case measure => simp [intOf]; omega
      · have C := CL.out _ true (decide_eq_true (HLO.out m (by omega)))
        generalize l.getD m 0 = u1 at *
        have C := Lib.hid C
        clear hm hd1 HC
        go_wp2_with fail
        refine C.out.mono ?_
        rintro e w1 ⟨rfl, rfl⟩
        go_wp2_with fail
        go_roundw
        case rel => exact ⟨m + 1, hi, by go_num, rfl, by omega, h2, h3, by trivial⟩
        case measure => simp [intOf]; omega
    · obtain rfl : lo = J := by omega
      obtain rfl : hi = lo := by omega
      by_cases hlt2 : hi < n
      · obtain ⟨b1, o1, rfl, hb1, hd1⟩ := HC.out.resolve_left (by omega)
        have d1 := hd1 hi hlt2
        have C := Lib.hid (CN.out (l.getD hi 0))
        generalize l.getD hi 0 = u1 at *
        clear hd1 HC
        by_cases he : u1 = x
        · subst he
          go_wp2_with fail
          go_ret2
          exact bs_ret _
        · have hne : (u1 == x) = false := beq_eq_false_iff_ne.2 he
          go_wp2_with fail
          refine C.out.mono ?_
          rintro e w1 ⟨rfl, rfl⟩
          go_wp2_with fail
          go_ret2
          exact bs_ret _
      · go_wp2_with fail
        go_ret2
        exact bs_ret _
end Go.Proofs.Ytbnneibceilcjaa.Inbox
