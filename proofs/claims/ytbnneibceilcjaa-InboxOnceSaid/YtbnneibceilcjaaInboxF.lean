/-
  The contract of the document's Mark: any box, any number; what was there stays as it was.
-/
import Derived.Test.YtbnneibceilcjaaInboxE
set_option linter.unusedVariables false
set_option linter.unusedSimpArgs false
set_option maxRecDepth 4000
namespace Go.Proofs.Ytbnneibceilcjaa.Inbox
open Go.RowKit InP
open Go.Proofs.Ytbnneibceilcjaa.Kt
/-- A slice without its first, whatever its capacity. -/
theorem tail_cap {w : World} {b o m C : Nat} {y : Int} {r : List Int} {A2 : Option Addr} (h : NsAt w (some ⟨b, o, none⟩) m (y :: r)) (h0 : 0 < m) (hC : m ≤ C) (hA : (if C = 1 then some (⟨b, o, none⟩ : Addr) else some ⟨b, o + 1, none⟩) = A2) : NsAt w A2 (m - 1) r := by
  have := Rw.part_drop (S := intS) (p := 1) (cap := C) (A2 := A2) h (by omega) hC (by
    rw [← hA]
    split
    · rfl
    · rw [Option.map_some, Rw.add_at]; rfl)
  exact this
theorem cut_many {low y : Int} {r : List Int} (h : 16 < (y :: r).length) : cutI low (y :: r) = (y, r) := by unfold cutI; rw [if_pos h]
theorem prune_next {low y : Int} {r : List Int} (he : y = low + 1) : pruneI low (y :: r) = pruneI y r := by rw [pruneI, if_pos he]
theorem prune_stop {low y : Int} {r : List Int} (he : ¬ y = low + 1) : pruneI low (y :: r) = (low, y :: r) := by rw [pruneI, if_neg he]
theorem row_put {w w8 : World} {B : Nat} {a6 : Option Addr} {N c6 : Nat} {L : List Int} (hO : w8.ownsRow B 3 1 (.slice a6 N c6) N (Rw.cells intS L)) (hB : w.heap.size + 2 ≤ B) (v0 v1 v2 : Value) (hL : L.length = N) (hN : N ≤ 1000) : NsAt (put3 w8 (w.heap.size + 1) v0 v1 v2) a6 N L :=
  after_put (Rw.owns_base hO hB) v0 v1 v2 hL hN
set_option maxHeartbeats 8000000 in
theorem rmark_any (s l : Int) (a : Option Addr) (n c : Nat) (xs : List Int) (x : Int) (w : World) (h : AbAt w a n c xs) :
    Calls Try.prog 8 #[bxV s l (.slice a n c), .int .i64 x] w (MarkR ⟨s, l, xs⟩ x w) := by
  unfold bxV
  have HT0 := Lib.hid (two_new w s l (.slice a n c))
  have K1 := Lib.hid (rfit_any s l a n c xs (fitB ⟨s, l, xs⟩) rfl _ (Rw.At.keep h.at_ HT0.out.bel))
  cases hf : fitB ⟨s, l, xs⟩ with
  | false =>
    rw [hf] at K1
    have HM := Lib.hid (mark_bad (x := x) hf)
    clear h hf
    go_enter Try.func8, Try.ntmps8
    go_wp2_with fail
    refine K1.out.mono ?_
    rintro e w1 ⟨rfl, hb⟩
    have HT1 := Lib.hid (HT0.out.keep hb)
    obtain ⟨B0, B1, B2⟩ := cells3 HT1.out.box
    clear hb
    obtain ⟨R0, R1, R2⟩ := cells3 HT1.out.res
    obtain ⟨F0, F1, F2⟩ := free3 HT1.out.res
    have HQ := Lib.hid (heap_put3 HT1.out.res (.int .i64 0) (.int .i64 0) (.slice none 0 0))
    have HBQ := Lib.hid (below_put3 HT1.out.bel (by omega : w.heap.size ≤ w.heap.size + 1) (.int .i64 0) (.int .i64 0) (.slice none 0 0))
    go_wp2_with fail
    exact bodyPost_ret (results_bx (j := 4) (k := 5) rfl _ _ (w.heap.size + 1) _ _ _ rfl HQ.out) rfl (mark_err HM.out HBQ.out)
  | true =>
    rw [hf] at K1
    have hF := fitB_iff.1 hf
    by_cases h1 : x < 1
    · have HM := Lib.hid (mark_arg (x := x) hf (by omega))
      clear h hf hF
      go_enter Try.func8, Try.ntmps8
      go_wp2_with fail
      refine K1.out.mono ?_
      rintro e w1 ⟨rfl, hb⟩
      have HT1 := Lib.hid (HT0.out.keep hb)
      obtain ⟨B0, B1, B2⟩ := cells3 HT1.out.box
      clear hb
      obtain ⟨R0, R1, R2⟩ := cells3 HT1.out.res
      obtain ⟨F0, F1, F2⟩ := free3 HT1.out.res
      have HQ := Lib.hid (heap_put3 HT1.out.res (.int .i64 0) (.int .i64 0) (.slice none 0 0))
      have HBQ := Lib.hid (below_put3 HT1.out.bel (by omega : w.heap.size ≤ w.heap.size + 1) (.int .i64 0) (.int .i64 0) (.slice none 0 0))
      go_wp2_with fail
      exact bodyPost_ret (results_bx (j := 4) (k := 5) rfl _ _ (w.heap.size + 1) _ _ _ rfl HQ.out) rfl (mark_err HM.out HBQ.out)
    · by_cases h2 : 1099511627776 < x
      · have HM := Lib.hid (mark_arg (x := x) hf (by omega))
        clear h hf hF
        go_enter Try.func8, Try.ntmps8
        go_wp2_with fail
        refine K1.out.mono ?_
        rintro e w1 ⟨rfl, hb⟩
        have HT1 := Lib.hid (HT0.out.keep hb)
        obtain ⟨B0, B1, B2⟩ := cells3 HT1.out.box
        clear hb
        obtain ⟨R0, R1, R2⟩ := cells3 HT1.out.res
        obtain ⟨F0, F1, F2⟩ := free3 HT1.out.res
        have HQ := Lib.hid (heap_put3 HT1.out.res (.int .i64 0) (.int .i64 0) (.slice none 0 0))
        have HBQ := Lib.hid (below_put3 HT1.out.bel (by omega : w.heap.size ≤ w.heap.size + 1) (.int .i64 0) (.int .i64 0) (.slice none 0 0))
        go_wp2_with fail
        exact bodyPost_ret (results_bx (j := 4) (k := 5) rfl _ _ (w.heap.size + 1) _ _ _ rfl HQ.out) rfl (mark_err HM.out HBQ.out)
      · have hx : 1 ≤ x ∧ x ≤ 1099511627776 := ⟨by omega, by omega⟩
        have K3 := Lib.hid (fun (W : World) (hb : Below w.heap.size w W) => rhad_any s l a n c xs x (hadB ⟨s, l, xs⟩ x) rfl W (Rw.At.keep h.at_ hb))
        cases hh : hadB ⟨s, l, xs⟩ x with
        | true =>
          rw [hh] at K3
          have HM := Lib.hid (mark_old hf hx hh)
          clear h hf hF hh hx
          go_enter Try.func8, Try.ntmps8
          go_wp2_with fail
          refine K1.out.mono ?_
          rintro e w1 ⟨rfl, hb⟩
          have HT1 := Lib.hid (HT0.out.keep hb)
          obtain ⟨B0, B1, B2⟩ := cells3 HT1.out.box
          clear hb
          go_wp2_with fail
          refine (K3.out _ HT1.out.bel).mono ?_
          rintro e w2 ⟨rfl, hb⟩
          have HT2 := Lib.hid (HT1.out.keep hb)
          clear hb
          obtain ⟨R0, R1, R2⟩ := cells3 HT2.out.res
          obtain ⟨F0, F1, F2⟩ := free3 HT2.out.res
          have HQ := Lib.hid (heap_put3 HT2.out.res (.int .i64 0) (.int .i64 0) (.slice none 0 0))
          have HBQ := Lib.hid (below_put3 HT2.out.bel (by omega : w.heap.size ≤ w.heap.size + 1) (.int .i64 0) (.int .i64 0) (.slice none 0 0))
          go_wp2_with fail
          exact bodyPost_ret (results_bx (j := 4) (k := 5) rfl _ _ (w.heap.size + 1) _ _ _ rfl HQ.out) rfl (mark_err HM.out HBQ.out)
        | false =>
          rw [hh] at K3
          obtain ⟨P, hP⟩ : ∃ P, posI x xs = P := ⟨_, rfl⟩
          have hpn : P ≤ n := by rw [← hP, ← h.len]; exact posI_le x xs
          have hnc := h.room
          have HIN : Hid (xs.take P ++ x :: xs.drop P = insI x xs) := by show _ = _; rw [← hP, insI_parts x xs, List.append_assoc]; rfl
          have h16n : n ≤ 16 := by rw [← h.len]; exact hF.len
          have HAM := Lib.hid (ins_amt hF hx)
          have HLO := Lib.hid hF.low
          have HM := Lib.hid ((mark_new hf hx hh).trans (congrArg (fun b => (b, (0 : Int))) (next_is s l x xs)))
          have HPL : Hid (∀ i, i < P → decide (xs.getD i 0 < x) = true) := fun i hi => decide_eq_true (posI_low x (by rw [hP]; exact hi))
          have HPA : Hid (P < n → decide (xs.getD P 0 < x) = false) := fun hi => by have := posI_at x (l := xs) (by rw [hP, h.len]; exact hi); rw [hP] at this; exact decide_eq_false this
          have HX := Lib.hid h.at_
          have hid2 : ¬ (1099511627776 < x) := by omega
          clear h hf hh hF hx hP
          go_enter Try.func8, Try.ntmps8
          go_wp2_with fail
          refine K1.out.mono ?_
          rintro e w1 ⟨rfl, hb⟩
          have HT1 := Lib.hid (HT0.out.keep hb)
          obtain ⟨B0, B1, B2⟩ := cells3 HT1.out.box
          clear hb
          go_wp2_with fail
          refine (K3.out _ HT1.out.bel).mono ?_
          rintro e w2 ⟨rfl, hb⟩
          have HT2 := Lib.hid (HT1.out.keep hb)
          clear B0 B1 B2 hb HT1 K1 K3
          obtain ⟨B0, B1, B2⟩ := cells3 HT2.out.box
          go_wp2_with fail
          go_loopw [7] (fun s7 wr => ∃ k : Nat, k ≤ P ∧ s7 = .int .i64 (k : Int) ∧ w2 = wr) (fun s7 _ => P - (intOf s7).toNat)
          case atStart => exact ⟨0, Nat.zero_le _, rfl, rfl⟩
          case round =>
            obtain ⟨k, hk, rfl, rfl⟩ := hrel
            by_cases hkP : k < P
            · obtain ⟨b1, o1, rfl, g1, hc1⟩ := NsAt.at HX.out (show k < n by omega)
              have d0 := hc1 w2 HT2.out.bel
              have hlt := HPL.out k hkP
              generalize xs.getD k 0 = y at *
              have hkn : (k : Int) < (n : Int) := by omega
              clear hc1 g1
              go_wp2_with fail
              go_roundw
              case rel => exact ⟨k + 1, by omega, by go_num, by trivial⟩
              case measure => simp [intOf]; omega
            · obtain rfl : k = P := by omega
              have HD1 : Hid (∀ W, Below w.heap.size w W → NsAt W a k (xs.take k)) := fun W hb => Rw.part_take (Rw.At.keep HX.out hb) hpn
              obtain ⟨A2, hA2⟩ : ∃ A2, (if c = k then a else Option.map (fun x => x.add k) a) = A2 := ⟨_, rfl⟩
              have HD2 : Hid (∀ W, Below w.heap.size w W → NsAt W A2 (n - k) (xs.drop k)) := fun W hb => Rw.part_drop (Rw.At.keep HX.out hb) hpn hnc (by rw [show k * intS.k = k from Nat.mul_one k]; exact hA2)
              have hsz2 : w.heap.size + 2 ≤ w2.heap.size := by have := heap_lt HT2.out.res; omega
              have hz2 : w.heap.size + 2 ≤ w2.heap.size := hsz2
              have hnil : w2.ownsRow w2.heap.size 3 1 (.slice none 0 0) 0 (Rw.cells intS []) := World.ownsRow_nil w2 _ _ _
              have hlen : n ≤ 9223372036854775807 := HX.out.2.1
              have hpi : (k : Int) ≤ (n : Int) := by omega
              have hpc : (k : Int) ≤ (c : Int) := by omega
              by_cases hkn : k < n
              · obtain ⟨b1, o1, rfl, g1, hc1⟩ := NsAt.at HX.out hkn
                have d0 := hc1 w2 HT2.out.bel
                have hlt := HPA.out hkn
                generalize xs.getD k 0 = y at *
                have hknI : (k : Int) < (n : Int) := by omega
                obtain rfl : A2 = some ⟨b1, o1 + k, none⟩ := by rw [← hA2, if_neg (by omega), Option.map_some, Rw.add_at]
                clear hc1 g1
                go_wp2_with (at_builtin; refine Rw.append_more intS rfl (.tmp 43) (.tmp 47) rfl w2.heap.size (.slice none 0 0) 0 [] (xs.take k) (some ⟨b1, o1, none⟩) k c rfl hnil rfl (HD1.out w2 HT2.out.bel) (by omega) (Nat.le_refl _) ?_)
                intro v3 w3 hO3 hg3
                have b3 := Rw.below_more (Below.refl w2.heap.size w2) (Nat.le_refl _) hnil hg3
                have hsz3 : w2.heap.size ≤ w3.heap.size := b3.size
                have HT3 := Lib.hid (HT2.out.keep b3)
                clear hg3 b3 hnil B0 B1 B2
                go_wp2_with (at_builtin; refine Rw.append_one intS rfl (.tmp 49) (.tmp 51) rfl w2.heap.size w3 _ rfl x _ rfl v3 k (xs.take k) rfl hO3 rfl (by omega) hsz3 ?_)
                intro v4 w4 hO4 hg4
                have b4 := Rw.below_append (Below.refl w2.heap.size w3) hsz3 hO3 hg4
                have hsz4 : w2.heap.size ≤ w4.heap.size := Nat.le_trans hsz3 b4.size
                have HT4 := Lib.hid (HT3.out.keepB b4 hsz2)
                clear hg4 b4 hO3 HT3 hsz3
                obtain ⟨B0, B1, B2⟩ := cells3 HT4.out.box
                have hd4 := HD2.out w4 HT4.out.bel
                go_wp2_with (at_builtin; refine Rw.append_more intS rfl (.tmp 53) (.tmp 57) rfl w2.heap.size v4 (k + 1) (xs.take k ++ [x]) (xs.drop k) (some ⟨b1, o1 + k, none⟩) (n - k) (c - k) rfl hO4 rfl hd4 (by omega) hsz4 ?_)
                intro v5 w5 hO5 hg5
                have b5 := Rw.below_more (Below.refl w2.heap.size w4) hsz4 hO4 hg5
                have HT5 := Lib.hid (HT4.out.keepB b5 hsz2)
                clear hg5 b5 hO4 HT4 hsz4 B0 B1 B2 hd4
                rw [HIN.out] at hO5
                have hN1 : (insI x xs).length = k + 1 + (n - k) := by rw [insI_len, HX.out.1]; omega
                have hNs : k + 1 + (n - k) ≤ 17 := by omega
                obtain ⟨N, hN⟩ : ∃ N, k + 1 + (n - k) = N := ⟨_, rfl⟩
                rw [hN] at hO5 hN1 hNs
                have HN1 := Lib.hid hN1
                obtain ⟨a6, c6, rfl, hc6⟩ := Rw.owns_slice hO5
                have HX5 := Lib.hid (Rw.own_at (S := intS) hO5 hN1 (by omega))
                have HO5 := Lib.hid hO5
                clear hN hN1 hO5 HPL HPA HD1 HD2 hpi hpc hA2 HX
                obtain ⟨B0, B1, B2⟩ := cells3 HT5.out.box
                obtain ⟨R0, R1, R2⟩ := cells3 HT5.out.res
                obtain ⟨F0, F1, F2⟩ := free3 HT5.out.res
                by_cases h16 : 16 < N
                · obtain ⟨y, r, hyr⟩ := head_of HN1.out (by omega : 0 < N)
                  have HX5 := HX5
                  have hX := HX5.out
                  rw [hyr] at hX
                  obtain ⟨b1, o1, rfl, g1, hc1⟩ := NsAt.at hX (by omega : 0 < N)
                  have d0 := hc1 w5 (Below.refl _ _)
                  rw [Nat.add_zero, show (y :: r).getD 0 0 = y from rfl] at d0
                  obtain ⟨A2, hA2⟩ : ∃ A2, (if c6 = 1 then some (⟨b1, o1, none⟩ : Addr) else some ⟨b1, o1 + 1, none⟩) = A2 := ⟨_, rfl⟩
                  have HN : Hid (∀ W, NsAt W (some ⟨b1, o1, none⟩) N (insI x xs) → NsAt W A2 (N - 1) r) := fun W hW => tail_cap (by rw [← hyr]; exact hW) (by omega) hc6 hA2
                  have HGO : Hid (plI l (insI x xs) = pruneI y r) := by
                    show _ = _
                    unfold plI
                    rw [hyr, cut_many (by rw [← hyr, HN1.out]; exact h16)]
                  have HR2 : Hid ((0 ≤ y ∧ y ≤ 1099511627776) ∧ ∀ z ∈ r, 0 ≤ z ∧ z ≤ 1099511627776) := ⟨HAM.out y (by rw [hyr]; exact List.mem_cons_self), fun z hz => HAM.out z (by rw [hyr]; exact List.mem_cons_of_mem _ hz)⟩
                  have hki : (16 : Int) < (N : Int) := by omega
                  have hN0 : (0 : Int) < (N : Int) := by omega
                  clear hX hyr hc1 g1 HAM HLO
                  go_wp2_with fail
                  go_loopw [6, 8] (fun s6 s8 wr => ∃ (A : Option Addr) (m C : Nat) (r : List Int) (lo : Int), s6 = .slice A m C ∧ s8 = .int .i64 lo ∧ m ≤ C ∧ m ≤ 17 ∧ w5 = wr ∧ Hid (∀ W, NsAt W (some ⟨b1, o1, none⟩) N (insI x xs) → NsAt W A m r) ∧ Hid (plI l (insI x xs) = pruneI lo r) ∧ Hid ((0 ≤ lo ∧ lo ≤ 1099511627776) ∧ ∀ y ∈ r, 0 ≤ y ∧ y ≤ 1099511627776)) (fun s6 _ _ => slLen s6)
                  case atStart => exact ⟨A2, N - 1, c6 - 1, r, y, rfl, rfl, by omega, by omega, rfl, HN, HGO, HR2⟩
                  case round =>
                    obtain ⟨A, m, C, r0, lo, rfl, rfl, hmC, hm17, rfl, hXA, hd, hr⟩ := hrel
                    have HX := Lib.hid (hXA.out w5 HX5.out)
                    have hlo0 := hr.out.1.1
                    have hlo1 := hr.out.1.2
                    by_cases hm0 : 0 < m
                    · obtain ⟨y, r, rfl⟩ := head_of HX.out.1 hm0
                      obtain ⟨b2, o2, rfl, g1, hc1⟩ := NsAt.at HX.out hm0
                      have d0 := hc1 w5 (Below.refl _ _)
                      rw [Nat.add_zero, show (y :: r).getD 0 0 = y from rfl] at d0
                      have hmi : (0 : Int) < (m : Int) := by omega
                      by_cases he : y = lo + 1
                      · obtain ⟨A2, hA2⟩ : ∃ A2, (if C = 1 then some (⟨b2, o2, none⟩ : Addr) else some ⟨b2, o2 + 1, none⟩) = A2 := ⟨_, rfl⟩
                        have HN : Hid (∀ W, NsAt W (some ⟨b1, o1, none⟩) N (insI x xs) → NsAt W A2 (m - 1) r) := fun W hW => tail_cap (hXA.out W hW) hm0 hmC hA2
                        have HGO := Lib.hid (hd.out.trans (prune_next he))
                        have HR2 : Hid ((0 ≤ y ∧ y ≤ 1099511627776) ∧ ∀ z ∈ r, 0 ≤ z ∧ z ≤ 1099511627776) := ⟨hr.out.2 y List.mem_cons_self, fun z hz => hr.out.2 z (List.mem_cons_of_mem _ hz)⟩
                        have hee : (y == lo + 1) = true := beq_iff_eq.2 he
                        clear hd hr hXA hc1 g1 he
                        go_wp2_with fail
                        go_roundw
                        case rel => exact ⟨A2, m - 1, C - 1, r, y, rfl, rfl, by omega, by omega, by trivial, HN, HGO, HR2⟩
                        case measure => simp [slLen]; omega
                      · have HE := Lib.hid (hd.out.trans (prune_stop he))
                        have hee : (y == lo + 1) = false := beq_eq_false_iff_ne.2 he
                        clear hd hr hc1 g1 he
                        have HQ := Lib.hid (heap_put3 HT5.out.res (.int .i64 s) (.int .i64 lo) (.slice (some ⟨b2, o2, none⟩) m C))
                        have HBQ := Lib.hid (below_put3 HT5.out.bel (by omega : w.heap.size ≤ w.heap.size + 1) (.int .i64 s) (.int .i64 lo) (.slice (some ⟨b2, o2, none⟩) m C))
                        have HAT := Lib.hid (hXA.out _ (row_put HO5.out hz2 (.int .i64 s) (.int .i64 lo) (.slice (some ⟨b2, o2, none⟩) m C) HN1.out (by omega)))
                        have HM2 := Lib.hid (HM.out.trans (congrArg (fun p => ((⟨s, p.1, p.2⟩ : Bo), (0 : Int))) HE.out))
                        clear hXA HE HM
                        go_wp2_with fail
                        exact bodyPost_ret (results_bx (j := 4) (k := 5) rfl _ _ (w.heap.size + 1) _ _ _ rfl HQ.out) rfl (mark_yes HM2.out HAT.out hmC HBQ.out)
                    · obtain rfl : m = 0 := by omega
                      have hl0 : r0 = [] := List.eq_nil_of_length_eq_zero HX.out.1
                      subst hl0
                      have HE : Hid (plI l (insI x xs) = (lo, [])) := hd.out
                      clear hd hr
                      have HQ := Lib.hid (heap_put3 HT5.out.res (.int .i64 s) (.int .i64 lo) (.slice A 0 C))
                      have HBQ := Lib.hid (below_put3 HT5.out.bel (by omega : w.heap.size ≤ w.heap.size + 1) (.int .i64 s) (.int .i64 lo) (.slice A 0 C))
                      have HAT := Lib.hid (hXA.out _ (row_put HO5.out hz2 (.int .i64 s) (.int .i64 lo) (.slice A 0 C) HN1.out (by omega)))
                      have HM2 := Lib.hid (HM.out.trans (congrArg (fun p => ((⟨s, p.1, p.2⟩ : Bo), (0 : Int))) HE.out))
                      clear hXA HE HM
                      go_wp2_with fail
                      exact bodyPost_ret (results_bx (j := 4) (k := 5) rfl _ _ (w.heap.size + 1) _ _ _ rfl HQ.out) rfl (mark_yes HM2.out HAT.out hmC HBQ.out)
                · have HGO : Hid (plI l (insI x xs) = pruneI l (insI x xs)) := by
                    show _ = _
                    unfold plI
                    rw [cut_few (by rw [HN1.out]; omega)]
                  have HR2 : Hid ((0 ≤ l ∧ l ≤ 1099511627776) ∧ ∀ z ∈ insI x xs, 0 ≤ z ∧ z ≤ 1099511627776) := ⟨HLO.out, HAM.out⟩
                  have hki : ¬ ((16 : Int) < (N : Int)) := by omega
                  clear HAM HLO
                  go_wp2_with fail
                  go_loopw [6, 8] (fun s6 s8 wr => ∃ (A : Option Addr) (m C : Nat) (r : List Int) (lo : Int), s6 = .slice A m C ∧ s8 = .int .i64 lo ∧ m ≤ C ∧ m ≤ 17 ∧ w5 = wr ∧ Hid (∀ W, NsAt W a6 N (insI x xs) → NsAt W A m r) ∧ Hid (plI l (insI x xs) = pruneI lo r) ∧ Hid ((0 ≤ lo ∧ lo ≤ 1099511627776) ∧ ∀ y ∈ r, 0 ≤ y ∧ y ≤ 1099511627776)) (fun s6 _ _ => slLen s6)
                  case atStart => exact ⟨a6, N, c6, insI x xs, l, rfl, rfl, hc6, by omega, rfl, (fun W hW => hW : ∀ W, NsAt W a6 N (insI x xs) → NsAt W a6 N (insI x xs)), HGO, HR2⟩
                  case round =>
                    obtain ⟨A, m, C, r0, lo, rfl, rfl, hmC, hm17, rfl, hXA, hd, hr⟩ := hrel
                    have HX := Lib.hid (hXA.out w5 HX5.out)
                    have hlo0 := hr.out.1.1
                    have hlo1 := hr.out.1.2
                    by_cases hm0 : 0 < m
                    · obtain ⟨y, r, rfl⟩ := head_of HX.out.1 hm0
                      obtain ⟨b1, o1, rfl, g1, hc1⟩ := NsAt.at HX.out hm0
                      have d0 := hc1 w5 (Below.refl _ _)
                      rw [Nat.add_zero, show (y :: r).getD 0 0 = y from rfl] at d0
                      have hmi : (0 : Int) < (m : Int) := by omega
                      by_cases he : y = lo + 1
                      · obtain ⟨A2, hA2⟩ : ∃ A2, (if C = 1 then some (⟨b1, o1, none⟩ : Addr) else some ⟨b1, o1 + 1, none⟩) = A2 := ⟨_, rfl⟩
                        have HN : Hid (∀ W, NsAt W a6 N (insI x xs) → NsAt W A2 (m - 1) r) := fun W hW => tail_cap (hXA.out W hW) hm0 hmC hA2
                        have HGO := Lib.hid (hd.out.trans (prune_next he))
                        have HR2 : Hid ((0 ≤ y ∧ y ≤ 1099511627776) ∧ ∀ z ∈ r, 0 ≤ z ∧ z ≤ 1099511627776) := ⟨hr.out.2 y List.mem_cons_self, fun z hz => hr.out.2 z (List.mem_cons_of_mem _ hz)⟩
                        have hee : (y == lo + 1) = true := beq_iff_eq.2 he
                        clear hd hr hXA hc1 g1 he
                        go_wp2_with fail
                        go_roundw
                        case rel => exact ⟨A2, m - 1, C - 1, r, y, rfl, rfl, by omega, by omega, by trivial, HN, HGO, HR2⟩
                        case measure => simp [slLen]; omega
                      · have HE := Lib.hid (hd.out.trans (prune_stop he))
                        have hee : (y == lo + 1) = false := beq_eq_false_iff_ne.2 he
                        clear hd hr hc1 g1 he
                        have HQ := Lib.hid (heap_put3 HT5.out.res (.int .i64 s) (.int .i64 lo) (.slice (some ⟨b1, o1, none⟩) m C))
                        have HBQ := Lib.hid (below_put3 HT5.out.bel (by omega : w.heap.size ≤ w.heap.size + 1) (.int .i64 s) (.int .i64 lo) (.slice (some ⟨b1, o1, none⟩) m C))
                        have HAT := Lib.hid (hXA.out _ (row_put HO5.out hz2 (.int .i64 s) (.int .i64 lo) (.slice (some ⟨b1, o1, none⟩) m C) HN1.out (by omega)))
                        have HM2 := Lib.hid (HM.out.trans (congrArg (fun p => ((⟨s, p.1, p.2⟩ : Bo), (0 : Int))) HE.out))
                        clear hXA HE HM
                        go_wp2_with fail
                        exact bodyPost_ret (results_bx (j := 4) (k := 5) rfl _ _ (w.heap.size + 1) _ _ _ rfl HQ.out) rfl (mark_yes HM2.out HAT.out hmC HBQ.out)
                    · obtain rfl : m = 0 := by omega
                      have hl0 : r0 = [] := List.eq_nil_of_length_eq_zero HX.out.1
                      subst hl0
                      have HE : Hid (plI l (insI x xs) = (lo, [])) := hd.out
                      clear hd hr
                      have HQ := Lib.hid (heap_put3 HT5.out.res (.int .i64 s) (.int .i64 lo) (.slice A 0 C))
                      have HBQ := Lib.hid (below_put3 HT5.out.bel (by omega : w.heap.size ≤ w.heap.size + 1) (.int .i64 s) (.int .i64 lo) (.slice A 0 C))
                      have HAT := Lib.hid (hXA.out _ (row_put HO5.out hz2 (.int .i64 s) (.int .i64 lo) (.slice A 0 C) HN1.out (by omega)))
                      have HM2 := Lib.hid (HM.out.trans (congrArg (fun p => ((⟨s, p.1, p.2⟩ : Bo), (0 : Int))) HE.out))
                      clear hXA HE HM
                      go_wp2_with fail
                      exact bodyPost_ret (results_bx (j := 4) (k := 5) rfl _ _ (w.heap.size + 1) _ _ _ rfl HQ.out) rfl (mark_yes HM2.out HAT.out hmC HBQ.out)
              · have hknI : ¬ ((k : Int) < (n : Int)) := by omega
                go_wp2_with (at_builtin; refine Rw.append_more intS rfl (.tmp 43) (.tmp 47) rfl w2.heap.size (.slice none 0 0) 0 [] (xs.take k) a k c rfl hnil rfl (HD1.out w2 HT2.out.bel) (by omega) (Nat.le_refl _) ?_)
                intro v3 w3 hO3 hg3
                have b3 := Rw.below_more (Below.refl w2.heap.size w2) (Nat.le_refl _) hnil hg3
                have hsz3 : w2.heap.size ≤ w3.heap.size := b3.size
                have HT3 := Lib.hid (HT2.out.keep b3)
                clear hg3 b3 hnil B0 B1 B2
                go_wp2_with (at_builtin; refine Rw.append_one intS rfl (.tmp 49) (.tmp 51) rfl w2.heap.size w3 _ rfl x _ rfl v3 k (xs.take k) rfl hO3 rfl (by omega) hsz3 ?_)
                intro v4 w4 hO4 hg4
                have b4 := Rw.below_append (Below.refl w2.heap.size w3) hsz3 hO3 hg4
                have hsz4 : w2.heap.size ≤ w4.heap.size := Nat.le_trans hsz3 b4.size
                have HT4 := Lib.hid (HT3.out.keepB b4 hsz2)
                clear hg4 b4 hO3 HT3 hsz3
                obtain ⟨B0, B1, B2⟩ := cells3 HT4.out.box
                have hd4 := HD2.out w4 HT4.out.bel
                go_wp2_with (at_builtin; refine Rw.append_more intS rfl (.tmp 53) (.tmp 57) rfl w2.heap.size v4 (k + 1) (xs.take k ++ [x]) (xs.drop k) A2 (n - k) (c - k) rfl hO4 rfl hd4 (by omega) hsz4 ?_)
                intro v5 w5 hO5 hg5
                have b5 := Rw.below_more (Below.refl w2.heap.size w4) hsz4 hO4 hg5
                have HT5 := Lib.hid (HT4.out.keepB b5 hsz2)
                clear hg5 b5 hO4 HT4 hsz4 B0 B1 B2 hd4
                rw [HIN.out] at hO5
                have hN1 : (insI x xs).length = k + 1 + (n - k) := by rw [insI_len, HX.out.1]; omega
                have hNs : k + 1 + (n - k) ≤ 17 := by omega
                obtain ⟨N, hN⟩ : ∃ N, k + 1 + (n - k) = N := ⟨_, rfl⟩
                rw [hN] at hO5 hN1 hNs
                have HN1 := Lib.hid hN1
                obtain ⟨a6, c6, rfl, hc6⟩ := Rw.owns_slice hO5
                have HX5 := Lib.hid (Rw.own_at (S := intS) hO5 hN1 (by omega))
                have HO5 := Lib.hid hO5
                clear hN hN1 hO5 HPL HPA HD1 HD2 hpi hpc hA2 HX
                obtain ⟨B0, B1, B2⟩ := cells3 HT5.out.box
                obtain ⟨R0, R1, R2⟩ := cells3 HT5.out.res
                obtain ⟨F0, F1, F2⟩ := free3 HT5.out.res
                by_cases h16 : 16 < N
                · obtain ⟨y, r, hyr⟩ := head_of HN1.out (by omega : 0 < N)
                  have HX5 := HX5
                  have hX := HX5.out
                  rw [hyr] at hX
                  obtain ⟨b1, o1, rfl, g1, hc1⟩ := NsAt.at hX (by omega : 0 < N)
                  have d0 := hc1 w5 (Below.refl _ _)
                  rw [Nat.add_zero, show (y :: r).getD 0 0 = y from rfl] at d0
                  obtain ⟨A2, hA2⟩ : ∃ A2, (if c6 = 1 then some (⟨b1, o1, none⟩ : Addr) else some ⟨b1, o1 + 1, none⟩) = A2 := ⟨_, rfl⟩
                  have HN : Hid (∀ W, NsAt W (some ⟨b1, o1, none⟩) N (insI x xs) → NsAt W A2 (N - 1) r) := fun W hW => tail_cap (by rw [← hyr]; exact hW) (by omega) hc6 hA2
                  have HGO : Hid (plI l (insI x xs) = pruneI y r) := by
                    show _ = _
                    unfold plI
                    rw [hyr, cut_many (by rw [← hyr, HN1.out]; exact h16)]
                  have HR2 : Hid ((0 ≤ y ∧ y ≤ 1099511627776) ∧ ∀ z ∈ r, 0 ≤ z ∧ z ≤ 1099511627776) := ⟨HAM.out y (by rw [hyr]; exact List.mem_cons_self), fun z hz => HAM.out z (by rw [hyr]; exact List.mem_cons_of_mem _ hz)⟩
                  have hki : (16 : Int) < (N : Int) := by omega
                  have hN0 : (0 : Int) < (N : Int) := by omega
                  clear hX hyr hc1 g1 HAM HLO
                  go_wp2_with fail
                  go_loopw [6, 8] (fun s6 s8 wr => ∃ (A : Option Addr) (m C : Nat) (r : List Int) (lo : Int), s6 = .slice A m C ∧ s8 = .int .i64 lo ∧ m ≤ C ∧ m ≤ 17 ∧ w5 = wr ∧ Hid (∀ W, NsAt W (some ⟨b1, o1, none⟩) N (insI x xs) → NsAt W A m r) ∧ Hid (plI l (insI x xs) = pruneI lo r) ∧ Hid ((0 ≤ lo ∧ lo ≤ 1099511627776) ∧ ∀ y ∈ r, 0 ≤ y ∧ y ≤ 1099511627776)) (fun s6 _ _ => slLen s6)
                  case atStart => exact ⟨A2, N - 1, c6 - 1, r, y, rfl, rfl, by omega, by omega, rfl, HN, HGO, HR2⟩
                  case round =>
                    obtain ⟨A, m, C, r0, lo, rfl, rfl, hmC, hm17, rfl, hXA, hd, hr⟩ := hrel
                    have HX := Lib.hid (hXA.out w5 HX5.out)
                    have hlo0 := hr.out.1.1
                    have hlo1 := hr.out.1.2
                    by_cases hm0 : 0 < m
                    · obtain ⟨y, r, rfl⟩ := head_of HX.out.1 hm0
                      obtain ⟨b2, o2, rfl, g1, hc1⟩ := NsAt.at HX.out hm0
                      have d0 := hc1 w5 (Below.refl _ _)
                      rw [Nat.add_zero, show (y :: r).getD 0 0 = y from rfl] at d0
                      have hmi : (0 : Int) < (m : Int) := by omega
                      by_cases he : y = lo + 1
                      · obtain ⟨A2, hA2⟩ : ∃ A2, (if C = 1 then some (⟨b2, o2, none⟩ : Addr) else some ⟨b2, o2 + 1, none⟩) = A2 := ⟨_, rfl⟩
                        have HN : Hid (∀ W, NsAt W (some ⟨b1, o1, none⟩) N (insI x xs) → NsAt W A2 (m - 1) r) := fun W hW => tail_cap (hXA.out W hW) hm0 hmC hA2
                        have HGO := Lib.hid (hd.out.trans (prune_next he))
                        have HR2 : Hid ((0 ≤ y ∧ y ≤ 1099511627776) ∧ ∀ z ∈ r, 0 ≤ z ∧ z ≤ 1099511627776) := ⟨hr.out.2 y List.mem_cons_self, fun z hz => hr.out.2 z (List.mem_cons_of_mem _ hz)⟩
                        have hee : (y == lo + 1) = true := beq_iff_eq.2 he
                        clear hd hr hXA hc1 g1 he
                        go_wp2_with fail
                        go_roundw
                        case rel => exact ⟨A2, m - 1, C - 1, r, y, rfl, rfl, by omega, by omega, by trivial, HN, HGO, HR2⟩
                        case measure => simp [slLen]; omega
                      · have HE := Lib.hid (hd.out.trans (prune_stop he))
                        have hee : (y == lo + 1) = false := beq_eq_false_iff_ne.2 he
                        clear hd hr hc1 g1 he
                        have HQ := Lib.hid (heap_put3 HT5.out.res (.int .i64 s) (.int .i64 lo) (.slice (some ⟨b2, o2, none⟩) m C))
                        have HBQ := Lib.hid (below_put3 HT5.out.bel (by omega : w.heap.size ≤ w.heap.size + 1) (.int .i64 s) (.int .i64 lo) (.slice (some ⟨b2, o2, none⟩) m C))
                        have HAT := Lib.hid (hXA.out _ (row_put HO5.out hz2 (.int .i64 s) (.int .i64 lo) (.slice (some ⟨b2, o2, none⟩) m C) HN1.out (by omega)))
                        have HM2 := Lib.hid (HM.out.trans (congrArg (fun p => ((⟨s, p.1, p.2⟩ : Bo), (0 : Int))) HE.out))
                        clear hXA HE HM
                        go_wp2_with fail
                        exact bodyPost_ret (results_bx (j := 4) (k := 5) rfl _ _ (w.heap.size + 1) _ _ _ rfl HQ.out) rfl (mark_yes HM2.out HAT.out hmC HBQ.out)
                    · obtain rfl : m = 0 := by omega
                      have hl0 : r0 = [] := List.eq_nil_of_length_eq_zero HX.out.1
                      subst hl0
                      have HE : Hid (plI l (insI x xs) = (lo, [])) := hd.out
                      clear hd hr
                      have HQ := Lib.hid (heap_put3 HT5.out.res (.int .i64 s) (.int .i64 lo) (.slice A 0 C))
                      have HBQ := Lib.hid (below_put3 HT5.out.bel (by omega : w.heap.size ≤ w.heap.size + 1) (.int .i64 s) (.int .i64 lo) (.slice A 0 C))
                      have HAT := Lib.hid (hXA.out _ (row_put HO5.out hz2 (.int .i64 s) (.int .i64 lo) (.slice A 0 C) HN1.out (by omega)))
                      have HM2 := Lib.hid (HM.out.trans (congrArg (fun p => ((⟨s, p.1, p.2⟩ : Bo), (0 : Int))) HE.out))
                      clear hXA HE HM
                      go_wp2_with fail
                      exact bodyPost_ret (results_bx (j := 4) (k := 5) rfl _ _ (w.heap.size + 1) _ _ _ rfl HQ.out) rfl (mark_yes HM2.out HAT.out hmC HBQ.out)
                · have HGO : Hid (plI l (insI x xs) = pruneI l (insI x xs)) := by
                    show _ = _
                    unfold plI
                    rw [cut_few (by rw [HN1.out]; omega)]
                  have HR2 : Hid ((0 ≤ l ∧ l ≤ 1099511627776) ∧ ∀ z ∈ insI x xs, 0 ≤ z ∧ z ≤ 1099511627776) := ⟨HLO.out, HAM.out⟩
                  have hki : ¬ ((16 : Int) < (N : Int)) := by omega
                  clear HAM HLO
                  go_wp2_with fail
                  go_loopw [6, 8] (fun s6 s8 wr => ∃ (A : Option Addr) (m C : Nat) (r : List Int) (lo : Int), s6 = .slice A m C ∧ s8 = .int .i64 lo ∧ m ≤ C ∧ m ≤ 17 ∧ w5 = wr ∧ Hid (∀ W, NsAt W a6 N (insI x xs) → NsAt W A m r) ∧ Hid (plI l (insI x xs) = pruneI lo r) ∧ Hid ((0 ≤ lo ∧ lo ≤ 1099511627776) ∧ ∀ y ∈ r, 0 ≤ y ∧ y ≤ 1099511627776)) (fun s6 _ _ => slLen s6)
                  case atStart => exact ⟨a6, N, c6, insI x xs, l, rfl, rfl, hc6, by omega, rfl, (fun W hW => hW : ∀ W, NsAt W a6 N (insI x xs) → NsAt W a6 N (insI x xs)), HGO, HR2⟩
                  case round =>
                    obtain ⟨A, m, C, r0, lo, rfl, rfl, hmC, hm17, rfl, hXA, hd, hr⟩ := hrel
                    have HX := Lib.hid (hXA.out w5 HX5.out)
                    have hlo0 := hr.out.1.1
                    have hlo1 := hr.out.1.2
                    by_cases hm0 : 0 < m
                    · obtain ⟨y, r, rfl⟩ := head_of HX.out.1 hm0
                      obtain ⟨b1, o1, rfl, g1, hc1⟩ := NsAt.at HX.out hm0
                      have d0 := hc1 w5 (Below.refl _ _)
                      rw [Nat.add_zero, show (y :: r).getD 0 0 = y from rfl] at d0
                      have hmi : (0 : Int) < (m : Int) := by omega
                      by_cases he : y = lo + 1
                      · obtain ⟨A2, hA2⟩ : ∃ A2, (if C = 1 then some (⟨b1, o1, none⟩ : Addr) else some ⟨b1, o1 + 1, none⟩) = A2 := ⟨_, rfl⟩
                        have HN : Hid (∀ W, NsAt W a6 N (insI x xs) → NsAt W A2 (m - 1) r) := fun W hW => tail_cap (hXA.out W hW) hm0 hmC hA2
                        have HGO := Lib.hid (hd.out.trans (prune_next he))
                        have HR2 : Hid ((0 ≤ y ∧ y ≤ 1099511627776) ∧ ∀ z ∈ r, 0 ≤ z ∧ z ≤ 1099511627776) := ⟨hr.out.2 y List.mem_cons_self, fun z hz => hr.out.2 z (List.mem_cons_of_mem _ hz)⟩
                        have hee : (y == lo + 1) = true := beq_iff_eq.2 he
                        clear hd hr hXA hc1 g1 he
                        go_wp2_with fail
                        go_roundw
                        case rel => exact ⟨A2, m - 1, C - 1, r, y, rfl, rfl, by omega, by omega, by trivial, HN, HGO, HR2⟩
                        case measure => simp [slLen]; omega
                      · have HE := Lib.hid (hd.out.trans (prune_stop he))
                        have hee : (y == lo + 1) = false := beq_eq_false_iff_ne.2 he
                        clear hd hr hc1 g1 he
                        have HQ := Lib.hid (heap_put3 HT5.out.res (.int .i64 s) (.int .i64 lo) (.slice (some ⟨b1, o1, none⟩) m C))
                        have HBQ := Lib.hid (below_put3 HT5.out.bel (by omega : w.heap.size ≤ w.heap.size + 1) (.int .i64 s) (.int .i64 lo) (.slice (some ⟨b1, o1, none⟩) m C))
                        have HAT := Lib.hid (hXA.out _ (row_put HO5.out hz2 (.int .i64 s) (.int .i64 lo) (.slice (some ⟨b1, o1, none⟩) m C) HN1.out (by omega)))
                        have HM2 := Lib.hid (HM.out.trans (congrArg (fun p => ((⟨s, p.1, p.2⟩ : Bo), (0 : Int))) HE.out))
                        clear hXA HE HM
                        go_wp2_with fail
                        exact bodyPost_ret (results_bx (j := 4) (k := 5) rfl _ _ (w.heap.size + 1) _ _ _ rfl HQ.out) rfl (mark_yes HM2.out HAT.out hmC HBQ.out)
                    · obtain rfl : m = 0 := by omega
                      have hl0 : r0 = [] := List.eq_nil_of_length_eq_zero HX.out.1
                      subst hl0
                      have HE : Hid (plI l (insI x xs) = (lo, [])) := hd.out
                      clear hd hr
                      have HQ := Lib.hid (heap_put3 HT5.out.res (.int .i64 s) (.int .i64 lo) (.slice A 0 C))
                      have HBQ := Lib.hid (below_put3 HT5.out.bel (by omega : w.heap.size ≤ w.heap.size + 1) (.int .i64 s) (.int .i64 lo) (.slice A 0 C))
                      have HAT := Lib.hid (hXA.out _ (row_put HO5.out hz2 (.int .i64 s) (.int .i64 lo) (.slice A 0 C) HN1.out (by omega)))
                      have HM2 := Lib.hid (HM.out.trans (congrArg (fun p => ((⟨s, p.1, p.2⟩ : Bo), (0 : Int))) HE.out))
                      clear hXA HE HM
                      go_wp2_with fail
                      exact bodyPost_ret (results_bx (j := 4) (k := 5) rfl _ _ (w.heap.size + 1) _ _ _ rfl HQ.out) rfl (mark_yes HM2.out HAT.out hmC HBQ.out)
end Go.Proofs.Ytbnneibceilcjaa.Inbox
