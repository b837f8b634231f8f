/-
  The contract of Mark: any box, any number; what was there stays as it was.
-/
import Derived.Test.YtbnneibceilcjaaInboxD
import Derived.Test.YtbnneibceilcjaaRwPart
import Derived.Deep.RegionLaw
set_option linter.unusedVariables false
set_option linter.unusedSimpArgs false
set_option maxRecDepth 4000
namespace Go.Proofs.Ytbnneibceilcjaa.Inbox
open Go.RowKit InP
open Go.Proofs.Ytbnneibceilcjaa.Kt
theorem Two.keep {w wr w2 : World} {s lo : Int} {r : Value} (h : Two w wr s lo r) (hb : Below wr.heap.size wr w2) : Two w w2 s lo r := ⟨below_keep h.bel hb h.bel.size, h.box.keep hb, h.res.keep hb⟩
theorem Two.keepB {w wr w2 : World} {s lo : Int} {r : Value} {B : Nat} (h : Two w wr s lo r) (hb : Below B wr w2) (hB : w.heap.size + 2 ≤ B) : Two w w2 s lo r := ⟨h.bel.trans (hb.mono (by omega)), h.box.keepB hb (by omega), h.res.keepB hb (by omega)⟩
theorem grow5 {w2 w5 : World} {o : Obj} (hg : (w2.alloc o).drew.grownBy w5 none) : Below w2.heap.size w2 w5 ∧ w2.heap.size + 1 ≤ w5.heap.size := by
  have h1 : (w2.alloc o).drew.heap.size = w2.heap.size + 1 := World.size_alloc w2 o
  have h := hg.size
  rw [h1] at h
  exact ⟨(below_drew ((Below.refl w2.heap.size w2).alloc (Nat.le_refl _) o)).grown hg (by rw [h1]; omega) (fun k hk => by cases hk), h⟩
theorem base5 {w2 w5 : World} {o : Obj} {n : Nat} {v : Value} {xs : List Value} {e : TypeId} (h : w5.ownsRow (w2.alloc o).drew.heap.size e 1 v n xs) : w5.ownsRow (w2.heap.size + 1) e 1 v n xs := by
  have h1 : (w2.alloc o).drew.heap.size = w2.heap.size + 1 := World.size_alloc w2 o
  rw [h1] at h
  exact h
theorem after_store {w w2 w6 : World} {s l : Int} {r : Value} {a6 : Option Addr} {N c6 : Nat} {L : List Int} (T : Two w w6 s l r) (hO : w6.ownsRow (w2.heap.size + 1) 3 1 (.slice a6 N c6) N (Rw.cells intS L)) (hz : w.heap.size + 2 ≤ w2.heap.size + 1) :
    Two w (w6.setCell ⟨w.heap.size, 2, none⟩ (.slice a6 N c6)) s l (.slice a6 N c6) ∧ (w6.setCell ⟨w.heap.size, 2, none⟩ (.slice a6 N c6)).ownsRow (w.heap.size + 2) 3 1 (.slice a6 N c6) N (Rw.cells intS L) := by
  refine ⟨T.row _, Rw.owns_heap (Rw.owns_base hO hz) fun g hg => ?_⟩
  have := (hO.lt g hg).1
  exact heap_setCell_other _ _ _ _ (by show g ≠ w.heap.size; omega)
theorem after_put {w w8 : World} {a6 : Option Addr} {N c6 : Nat} {L : List Int} (hO : w8.ownsRow (w.heap.size + 2) 3 1 (.slice a6 N c6) N (Rw.cells intS L)) (v0 v1 v2 : Value) (hL : L.length = N) (hN : N ≤ 1000) : NsAt (put3 w8 (w.heap.size + 1) v0 v1 v2) a6 N L := by
  refine Rw.own_at (S := intS) (B := w.heap.size + 2) (c := c6) (Rw.owns_heap hO fun g hg => ?_) hL (by omega)
  have := (hO.lt g hg).1
  exact put3_other _ _ _ (by omega)
/-- What Mark hands back. -/
def MarkR (b : Bo) (x : Int) (w : World) (e : Ending) (w' : World) : Prop :=
  ∃ a n c, e = .returned (.tuple #[bxV (markV b x).1.sv (markV b x).1.low (.slice a n c), .int .i64 (markV b x).2]) ∧ AbAt w' a n c (markV b x).1.ab ∧ Below w.heap.size w w'
theorem mark_err {b : Bo} {x k : Int} {w w' : World} (h : markV b x = (bo0, k)) (hb : Below w.heap.size w w') : MarkR b x w (.returned (.tuple #[bxV 0 0 (.slice none 0 0), .int .i64 k])) w' := by
  unfold MarkR
  rw [h]
  exact ⟨none, 0, 0, rfl, AbAt.nil _, hb⟩
theorem mark_yes {b : Bo} {x s lo : Int} {r : List Int} {w w' : World} {a : Option Addr} {n c : Nat} (h : markV b x = (⟨s, lo, r⟩, 0)) (ha : NsAt w' a n r) (hr : n ≤ c) (hb : Below w.heap.size w w') : MarkR b x w (.returned (.tuple #[bxV s lo (.slice a n c), .int .i64 0])) w' := by
  unfold MarkR
  rw [h]
  exact ⟨a, n, c, rfl, ⟨ha, hr⟩, hb⟩
theorem mark_bad {b : Bo} {x : Int} (h : fitB b = false) : markV b x = (bo0, 12) := by unfold markV; rw [if_neg (by rw [h]; simp)]
theorem mark_arg {b : Bo} {x : Int} (h : fitB b = true) (h2 : ¬ (1 ≤ x ∧ x ≤ 1099511627776)) : markV b x = (bo0, 1) := by unfold markV; rw [if_pos h, if_neg h2]
theorem mark_old {b : Bo} {x : Int} (h : fitB b = true) (h2 : 1 ≤ x ∧ x ≤ 1099511627776) (h3 : hadB b x = true) : markV b x = (bo0, 14) := by unfold markV; rw [if_pos h, if_pos h2, if_pos h3]
theorem mark_new {b : Bo} {x : Int} (h : fitB b = true) (h2 : 1 ≤ x ∧ x ≤ 1099511627776) (h3 : hadB b x = false) : markV b x = (nextB b x, 0) := by unfold markV; rw [if_pos h, if_pos h2, if_neg (by rw [h3]; simp)]
theorem next_is (s l x : Int) (xs : List Int) : nextB ⟨s, l, xs⟩ x = ⟨s, (plI l (insI x xs)).1, (plI l (insI x xs)).2⟩ := rfl
/-- The numbers of a fit box and one more are amounts. -/
theorem ins_amt {s l x : Int} {xs : List Int} (h : FitX ⟨s, l, xs⟩) (h2 : 1 ≤ x ∧ x ≤ 1099511627776) : ∀ y ∈ insI x xs, 0 ≤ y ∧ y ≤ 1099511627776 := by
  intro y hy
  rcases insI_mem.1 hy with rfl | hy
  · exact ⟨by omega, h2.2⟩
  · have h1 := h.gap y hy
    have h3 := h.low.1
    exact ⟨by show 0 ≤ y; simp at h1 h3; omega, h.amt y hy⟩
set_option maxHeartbeats 8000000 in
theorem mark_any (s l : Int) (a : Option Addr) (n c : Nat) (xs : List Int) (x : Int) (w : World) (h : AbAt w a n c xs) :
    Calls Try.prog 7 #[bxV s l (.slice a n c), .int .i64 x] w (MarkR ⟨s, l, xs⟩ x w) := by
  unfold bxV
  have HT0 := Lib.hid (two_new w s l (.slice a n c))
  have K1 := Lib.hid (fit_any s l a n c xs (fitB ⟨s, l, xs⟩) rfl _ (Rw.At.keep h.at_ HT0.out.bel))
  cases hf : fitB ⟨s, l, xs⟩ with
  | false =>
    rw [hf] at K1
    have HM := Lib.hid (mark_bad (x := x) hf)
    clear h hf
    go_enter Try.func7, Try.ntmps7
    go_wp2_with fail
    refine K1.out.mono ?_
    rintro e w1 ⟨rfl, hb⟩
    have HT1 := Lib.hid (HT0.out.keep hb)
    obtain ⟨B0, B1, B2⟩ := cells3 HT1.out.box
    clear hb
    obtain ⟨R0, R1, R2⟩ := cells3 HT1.out.res
    obtain ⟨F0, F1, F2⟩ := free3 HT1.out.res
    have HQ := Lib.hid (heap_put3 HT1.out.res (.int .i64 0) (.int .i64 0) (.slice none 0 0))
    have HBQ := Lib.hid (below_put3 HT1.out.bel (by omega : w.heap.size ≤ w.heap.size + 1) (.int .i64 0) (.int .i64 0) (.slice none 0 0))
    go_wp2_with fail
    exact bodyPost_ret (results_bx (j := 4) (k := 5) rfl _ _ (w.heap.size + 1) _ _ _ rfl HQ.out) rfl (mark_err HM.out HBQ.out)
  | true =>
    rw [hf] at K1
    have hF := fitB_iff.1 hf
    by_cases h1 : x < 1
    · have HM := Lib.hid (mark_arg (x := x) hf (by omega))
      clear h hf hF
      go_enter Try.func7, Try.ntmps7
      go_wp2_with fail
      refine K1.out.mono ?_
      rintro e w1 ⟨rfl, hb⟩
      have HT1 := Lib.hid (HT0.out.keep hb)
      obtain ⟨B0, B1, B2⟩ := cells3 HT1.out.box
      clear hb
      obtain ⟨R0, R1, R2⟩ := cells3 HT1.out.res
      obtain ⟨F0, F1, F2⟩ := free3 HT1.out.res
      have HQ := Lib.hid (heap_put3 HT1.out.res (.int .i64 0) (.int .i64 0) (.slice none 0 0))
      have HBQ := Lib.hid (below_put3 HT1.out.bel (by omega : w.heap.size ≤ w.heap.size + 1) (.int .i64 0) (.int .i64 0) (.slice none 0 0))
      go_wp2_with fail
      exact bodyPost_ret (results_bx (j := 4) (k := 5) rfl _ _ (w.heap.size + 1) _ _ _ rfl HQ.out) rfl (mark_err HM.out HBQ.out)
    · have K2 := Lib.hid (fun (W : World) => nfit_is x (amtI x) rfl W)
      cases ha : amtI x with
      | false =>
        rw [ha] at K2
        have HM := Lib.hid (mark_arg (x := x) hf (fun e => by rw [amtI_iff.2 ⟨by omega, e.2⟩] at ha; cases ha))
        clear h hf hF ha
        go_enter Try.func7, Try.ntmps7
        go_wp2_with fail
        refine K1.out.mono ?_
        rintro e w1 ⟨rfl, hb⟩
        have HT1 := Lib.hid (HT0.out.keep hb)
        obtain ⟨B0, B1, B2⟩ := cells3 HT1.out.box
        clear hb
        go_wp2_with fail
        refine (K2.out _).mono ?_
        rintro e w1x ⟨rfl, rfl⟩
        obtain ⟨R0, R1, R2⟩ := cells3 HT1.out.res
        obtain ⟨F0, F1, F2⟩ := free3 HT1.out.res
        have HQ := Lib.hid (heap_put3 HT1.out.res (.int .i64 0) (.int .i64 0) (.slice none 0 0))
        have HBQ := Lib.hid (below_put3 HT1.out.bel (by omega : w.heap.size ≤ w.heap.size + 1) (.int .i64 0) (.int .i64 0) (.slice none 0 0))
        go_wp2_with fail
        exact bodyPost_ret (results_bx (j := 4) (k := 5) rfl _ _ (w.heap.size + 1) _ _ _ rfl HQ.out) rfl (mark_err HM.out HBQ.out)
      | true =>
        rw [ha] at K2
        have hx : 1 ≤ x ∧ x ≤ 1099511627776 := ⟨by omega, (amtI_iff.1 ha).2⟩
        have K3 := Lib.hid (fun (W : World) (hb : Below w.heap.size w W) => had_any s l a n c xs x (hadB ⟨s, l, xs⟩ x) rfl W (Rw.At.keep h.at_ hb))
        clear ha
        cases hh : hadB ⟨s, l, xs⟩ x with
        | true =>
          rw [hh] at K3
          have HM := Lib.hid (mark_old hf hx hh)
          clear h hf hF hh hx
          go_enter Try.func7, Try.ntmps7
          go_wp2_with fail
          refine K1.out.mono ?_
          rintro e w1 ⟨rfl, hb⟩
          have HT1 := Lib.hid (HT0.out.keep hb)
          obtain ⟨B0, B1, B2⟩ := cells3 HT1.out.box
          clear hb
          go_wp2_with fail
          refine (K2.out _).mono ?_
          rintro e w1x ⟨rfl, rfl⟩
          go_wp2_with fail
          refine (K3.out _ HT1.out.bel).mono ?_
          rintro e w2 ⟨rfl, hb⟩
          have HT2 := Lib.hid (HT1.out.keep hb)
          clear hb
          obtain ⟨R0, R1, R2⟩ := cells3 HT2.out.res
          obtain ⟨F0, F1, F2⟩ := free3 HT2.out.res
          have HQ := Lib.hid (heap_put3 HT2.out.res (.int .i64 0) (.int .i64 0) (.slice none 0 0))
          have HBQ := Lib.hid (below_put3 HT2.out.bel (by omega : w.heap.size ≤ w.heap.size + 1) (.int .i64 0) (.int .i64 0) (.slice none 0 0))
          go_wp2_with fail
          exact bodyPost_ret (results_bx (j := 4) (k := 5) rfl _ _ (w.heap.size + 1) _ _ _ rfl HQ.out) rfl (mark_err HM.out HBQ.out)
        | false =>
          rw [hh] at K3
          obtain ⟨P, hP⟩ : ∃ P, posI x xs = P := ⟨_, rfl⟩
          have hpn : P ≤ n := by rw [← hP, ← h.len]; exact posI_le x xs
          have hnc := h.room
          have HIN : Hid (xs.take P ++ [x] ++ xs.drop P = insI x xs) := by show _ = _; rw [← hP]; exact (insI_parts x xs).symm
          have h16n : n ≤ 16 := by rw [← h.len]; exact hF.len
          have HAM := Lib.hid (ins_amt hF hx)
          have HLO := Lib.hid hF.low
          have HM := Lib.hid ((mark_new hf hx hh).trans (congrArg (fun b => (b, (0 : Int))) (next_is s l x xs)))
          have K4 := Lib.hid (fun (W : World) (hb : Below w.heap.size w W) => search_any a n c x xs W (Rw.At.keep h.at_ hb) (by omega) hF.up)
          rw [hP] at K4
          have HX := Lib.hid h.at_
          clear h hf hh hF hx hP
          go_enter Try.func7, Try.ntmps7
          go_wp2_with fail
          refine K1.out.mono ?_
          rintro e w1 ⟨rfl, hb⟩
          have HT1 := Lib.hid (HT0.out.keep hb)
          obtain ⟨B0, B1, B2⟩ := cells3 HT1.out.box
          clear hb
          go_wp2_with fail
          refine (K2.out _).mono ?_
          rintro e w1x ⟨rfl, rfl⟩
          go_wp2_with fail
          refine (K3.out _ HT1.out.bel).mono ?_
          rintro e w2 ⟨rfl, hb⟩
          have HT2 := Lib.hid (HT1.out.keep hb)
          clear B0 B1 B2 hb HT1 K1 K2 K3
          obtain ⟨B0, B1, B2⟩ := cells3 HT2.out.box
          go_wp2_with fail
          refine (K4.out _ HT2.out.bel).mono ?_
          rintro e w2x ⟨vb, rfl, rfl⟩
          clear K4
          go_wp2_with fail
          obtain ⟨A2, hA2⟩ : ∃ A2, (if c = P then a else Option.map (fun x => x.add P) a) = A2 := ⟨_, rfl⟩
          have HP1 : Hid (∀ W, Below w.heap.size w W → NsAt W a P (xs.take P)) := fun W hb => Rw.part_take (Rw.At.keep HX.out hb) hpn
          have HD1 : Hid (∀ W, Below w.heap.size w W → NsAt W A2 (n - P) (xs.drop P)) := fun W hb => Rw.part_drop (Rw.At.keep HX.out hb) hpn hnc (by rw [show P * intS.k = P from Nat.mul_one P]; exact hA2)
          have k0 := B2
          have hz2 : w.heap.size + 2 ≤ w2.heap.size + 1 := by have := heap_lt HT2.out.res; omega
          have hpi : (P : Int) ≤ (n : Int) := by omega
          have hpc : (P : Int) ≤ (c : Int) := by omega
          clear B0 B1 B2
          have k1 : (w2.alloc (.cells #[.int .i64 x] 3)).cell? ⟨w.heap.size, 2, none⟩ = some (.slice a n c) := by
            obtain ⟨_, _, g⟩ := cells3 (HT2.out.keep ((Below.refl _ _).alloc (Nat.le_refl _) (.cells #[.int .i64 x] 3))).box
            exact g
          have hbA : Below w.heap.size w (w2.alloc (.cells #[.int .i64 x] 3)) := HT2.out.bel.alloc HT2.out.bel.size _
          have hpA := HP1.out _ hbA
          have hoA := Rw.one_at intS w2 x
          have hdA := HD1.out _ hbA
          have hzA := hbA.size
          have hpB := HP1.out _ (below_drew hbA)
          have hoB : NsAt (w2.alloc (.cells #[.int .i64 x] 3)).drew (some ⟨w2.heap.size, 0, none⟩) 1 [x] := Rw.At.keep hoA (below_drew (Below.refl _ _))
          go_region_law
            (first
              | (refine Rw.step_append_more intS rfl (.tmp 38) (.tmp 42) rfl (w2.heap.size + 1) v5 (P + 1) (xs.take P ++ [x]) (xs.drop P) A2 (n - P) (c - P) (by simp [Act.eval, Act.put]) hO5 (by simp [Act.eval, Act.put]) hd5 (by omega) hz5 ?_; intro v6 w6 hO6 hg6; obtain ⟨a6, c6, rfl, hc6⟩ := Rw.owns_slice hO6; have b6 := Rw.below_more (Below.refl (w2.heap.size + 1) w5) hz5 hO5 hg6; have T6 := T5.keepB b6 hz2; obtain ⟨_, _, k3⟩ := cells3 T6.box; obtain ⟨_, _, g3⟩ := free3 T6.box)
              | (refine Rw.step_append_part intS rfl (.tmp 35) (.tmp 37) rfl a P (xs.take P) [x] (some ⟨w2.heap.size, 0, none⟩) 1 1 (by simp [Act.eval, Act.put]) hpB (by simp [Act.eval, Act.put]) hoB (by omega) (by omega) ?_; intro v5 w5 hO5 hg5; have hO5 := base5 hO5; have hz5 := (grow5 hg5).2; have T5 := HT2.out.keep (grow5 hg5).1; have hd5 := HD1.out _ T5.bel; obtain ⟨_, _, k2⟩ := cells3 T5.box))
          clear k1 hbA hpA hoA hdA hzA hpB hoB k0
          all_goals
            clear k2 k3 g3 hO5 hg5 hz5 T5 hd5 b6 hg6
            rw [HIN.out] at hO6
            have hN1 : (insI x xs).length = P + 1 + (n - P) := by rw [insI_len, HX.out.1]; omega
            have hNs : P + 1 + (n - P) ≤ 17 := by omega
            obtain ⟨N, hN⟩ : ∃ N, P + 1 + (n - P) = N := ⟨_, rfl⟩
            rw [hN] at hO6 hN1 hNs hc6 ⊢
            have HS := after_store T6 hO6 hz2
            have HT7 := Lib.hid HS.1
            have HO7 := Lib.hid HS.2
            clear HS T6 hO6
            generalize w6.setCell ⟨w.heap.size, 2, none⟩ (.slice a6 N c6) = w7 at *
            have KP := Lib.hid (prune_any s l a6 N c6 (insI x xs) w7 (Rw.own_at (S := intS) HO7.out hN1 (by omega)) hc6 (by rw [hN1]; exact hNs) HLO.out HAM.out)
            obtain ⟨B0, B1, B2⟩ := cells3 HT7.out.box
            have HN1 := Lib.hid hN1
            clear hN hN1
            go_wp2_with fail
            refine KP.out.mono ?_
            rintro e w8 ⟨A8, m8, rfl, hall, hb8⟩
            have HT8 := Lib.hid (HT7.out.keep hb8)
            have HO8 := Lib.hid (Rw.owns_below HO7.out hb8)
            have HAL := Lib.hid hall
            clear hall hb8 KP HT7 HO7 B0 B1 B2
            unfold bxV
            generalize hp1 : (plI l (insI x xs)).1 = p1 at *
            generalize hp2 : (plI l (insI x xs)).2 = p2 at *
            obtain ⟨R0, R1, R2⟩ := cells3 HT8.out.res
            obtain ⟨F0, F1, F2⟩ := free3 HT8.out.res
            have HQ := Lib.hid (heap_put3 HT8.out.res (.int .i64 s) (.int .i64 p1) (.slice A8 m8 m8))
            have HBQ := Lib.hid (below_put3 HT8.out.bel (by omega : w.heap.size ≤ w.heap.size + 1) (.int .i64 s) (.int .i64 p1) (.slice A8 m8 m8))
            have HAT := Lib.hid (HAL.out _ (after_put HO8.out (.int .i64 s) (.int .i64 p1) (.slice A8 m8 m8) HN1.out (by omega)))
            clear hp1 hp2 HAL HO8
            go_wp2_with fail
            exact bodyPost_ret (results_bx (j := 4) (k := 5) rfl _ _ (w.heap.size + 1) _ _ _ rfl HQ.out) rfl (mark_yes HM.out HAT.out (Nat.le_refl _) HBQ.out)
end Go.Proofs.Ytbnneibceilcjaa.Inbox
