/-
  The contracts of place, of sort.Search over its closure: fit holds; what was there stays as it was.
-/
import Derived.Test.YtleopanfggmenaaHoldsF
set_option linter.unusedVariables false
set_option maxRecDepth 4000
namespace Go.Proofs.Ytleopanfggmenaa.Holds
open Go.RowKit LinesP HoldsP
open Go.Proofs.Ytleopanfggmenaa.Lines (LsAt Sz SzM ret_bool ret_int below_keep below_drewN)

theorem least_any (i : Nat) (a : Option Addr) (len cap : Nat) (l : List Hd) (g0 : Int) (bl bs : Nat) (w : World) (hl : w.cell? ⟨bl, 0, none⟩ = some (.slice a len cap)) (hs : w.cell? ⟨bs, 0, none⟩ = some (.int .i64 g0))
    (h : HsAt w a len l) (hi : i < len) (b : Bool) (hb : decide (g0 ≤ (l.getD i hd0).saga) = b) :
    Calls Try.prog 43 #[.int .i64 (i : Int), .pointer (some ⟨bl, 0, none⟩), .pointer (some ⟨bs, 0, none⟩)] w fun e w' => e = .returned (.bool b) ∧ Below w.heap.size w w' := by
  have hle := h.le
  obtain ⟨b1, o1, g, la, lc, ls, t, rfl, g1, hp, hc1⟩ := h.at hi
  rw [hp] at hb
  simp only at hb
  obtain ⟨d1, _, _, _⟩ := hc1 w (Below.refl _ _)
  have hb2 : decide (g ≥ g0) = b := hb
  clear hp hc1 h g1
  go_enter Try.func43, Try.ntmps43
  go_wp2_with fail
  go_quiet (fail)
  go_wp2_with fail
  go_ret
  exact ⟨rfl, below_drewN (Below.refl _ _) _⟩
theorem pos_test {l : List Hd} {g : Int} {i : Nat} (hf : fitH l = true) (hi : i < l.length) : decide (g ≤ (l.getD i hd0).saga) = !decide (i < pos g l) := by
  have h := pos_iff (g := g) (fitH_iff.1 hf).2.2 hi
  by_cases hq : i < pos g l
  · rw [decide_eq_true hq, decide_eq_false (by have := h.1 hq; omega)]; rfl
  · rw [decide_eq_false hq, decide_eq_true (by have := fun e => hq (h.2 e); omega)]; rfl
set_option maxHeartbeats 1000000 in
theorem search_any (a : Option Addr) (len cap : Nat) (l : List Hd) (g0 : Int) (bl bs : Nat) (w : World) (hl : w.cell? ⟨bl, 0, none⟩ = some (.slice a len cap)) (hs : w.cell? ⟨bs, 0, none⟩ = some (.int .i64 g0))
    (hbl : bl < w.heap.size) (hbs : bs < w.heap.size) (h : HsAt w a len l) (hf : fitH l = true) :
    Calls Try.prog 42 #[.int .i64 (len : Int), .func (.func 43) #[] #[.pointer (some ⟨bl, 0, none⟩), .pointer (some ⟨bs, 0, none⟩)]] w
      fun e w' => e = .returned (.int .i64 ((pos g0 l : Nat) : Int)) ∧ Below w.heap.size w w' := by
  have hlen := h.len
  have h16 : len ≤ 16 := by rw [← hlen]; exact (fitH_iff.1 hf).1
  have hpl : pos g0 l ≤ len := by rw [← hlen]; exact pos_le g0 l
  have HC := Lib.hid (fun (m : Nat) (w' : World) (hb : Below w.heap.size w w') (hm : m < len) =>
    least_any m a len cap l g0 bl bs w' ((hb.cell (p := ⟨bl, 0, none⟩) hbl).trans hl) ((hb.cell (p := ⟨bs, 0, none⟩) hbs).trans hs) (h.keep hb) hm _ (pos_test hf (by rw [hlen]; exact hm)))
  obtain ⟨p, hp⟩ : ∃ p, pos g0 l = p := ⟨_, rfl⟩
  rw [hp] at hpl HC ⊢
  clear hp hl hs hbl hbs h hf hlen
  go_enter Try.func42, Try.ntmps42
  go_wp2_with fail
  go_loopw [5, 6] (fun i j wr => ∃ lo hi : Nat, i = .int .i64 (lo : Int) ∧ j = .int .i64 (hi : Int) ∧ lo ≤ p ∧ p ≤ hi ∧ hi ≤ len ∧ Hid (Below w.heap.size w wr)) (fun i j _ => (intOf j).toNat - (intOf i).toNat)
  case atStart => exact ⟨0, len, rfl, rfl, Nat.zero_le _, hpl, Nat.le_refl _, Below.refl _ w⟩
  case round =>
    obtain ⟨lo, hi, rfl, rfl, hlo, hhi, hhl, hB⟩ := hrel
    by_cases hlt : lo < hi
    · obtain ⟨m, hm⟩ : ∃ m : Nat, m = (lo + hi) / 2 := ⟨_, rfl⟩
      have hm1 : lo ≤ m := by omega
      have hm2 : m < hi := by omega
      have hdiv : ((lo : Int) + (hi : Int)) / 2 = (m : Int) := by omega
      have C := Lib.hid (HC.out m wr hB.out (by omega))
      cases hq : decide (m < p) with
      | true =>
        have hq' := of_decide_eq_true hq
        rw [hq] at C
        clear hm hq
        go_wp2_with fail
        refine C.out.mono ?_
        rintro e w1 ⟨rfl, hb⟩
        have HB1 := Lib.hid (below_keep hB.out hb hB.out.size)
        go_wp2_with fail
        go_roundw
        case rel => exact ⟨m + 1, hi, by go_num, by go_num, by omega, by omega, by omega, HB1⟩
        case measure => simp [intOf]; omega
      | false =>
        have hq' := of_decide_eq_false hq
        rw [hq] at C
        clear hm hq
        go_wp2_with fail
        refine C.out.mono ?_
        rintro e w1 ⟨rfl, hb⟩
        have HB1 := Lib.hid (below_keep hB.out hb hB.out.size)
        go_wp2_with fail
        go_roundw
        case rel => exact ⟨lo, m, by go_num, by go_num, by omega, by omega, by omega, HB1⟩
        case measure => simp [intOf]; omega
    · obtain rfl : lo = hi := by omega
      obtain rfl : lo = p := by omega
      go_wp2_with fail
      go_ret
      exact ⟨rfl, hB.out⟩
theorem find_pos : ∀ {l : List Hd} {g : Int}, l.Pairwise (fun x y => x.saga < y.saga) → findH g l = if pos g l < l.length ∧ (l.getD (pos g l) hd0).saga = g then some (l.getD (pos g l) hd0) else none
  | [], g, _ => by simp [findH]
  | x :: r, g, hp => by
    have hp2 := List.pairwise_cons.1 hp
    rw [findH, pos]
    by_cases h1 : x.saga = g
    · rw [if_pos h1, if_neg (by omega : ¬ x.saga < g), if_pos ⟨by simp, by simpa using h1⟩]; simp
    · rw [if_neg h1]
      by_cases h2 : x.saga < g
      · rw [if_pos h2, find_pos hp2.2]
        simp only [List.length_cons, Nat.add_lt_add_iff_right, List.getD_cons_succ]
      · rw [if_neg h2, if_neg (by intro h; exact h1 (by simpa using h.2))]
        exact find_none.2 fun y hy => by have := hp2.1 y hy; omega
theorem place_some {l : List Hd} {g : Int} (hf : fitH l = true) (h1 : pos g l < l.length) (h2 : (l.getD (pos g l) hd0).saga = g) : findH g l = some (l.getD (pos g l) hd0) := by
  rw [find_pos (fitH_iff.1 hf).2.2, if_pos ⟨h1, h2⟩]
theorem place_none {l : List Hd} {g : Int} (hf : fitH l = true) (h : ¬ (pos g l < l.length ∧ (l.getD (pos g l) hd0).saga = g)) : findH g l = none := by
  rw [find_pos (fitH_iff.1 hf).2.2, if_neg h]
theorem ret_two {v : Value} {a b : Bool} (h : a = b) : Ending.returned (.tuple #[v, .bool b]) = .returned (.tuple #[v, .bool a]) := by rw [h]
set_option maxHeartbeats 1000000 in
theorem place_any (a : Option Addr) (len cap : Nat) (l : List Hd) (g0 : Int) (w : World) (h : HsAt w a len l) (hf : fitH l = true) :
    Calls Try.prog 35 #[.slice a len cap, .int .i64 g0] w fun e w' => e = .returned (.tuple #[.int .i64 ((pos g0 l : Nat) : Int), .bool (findH g0 l).isSome]) ∧ Below w.heap.size w w' := by
  have hmf := hmf
  have hlen := h.len
  have h16 : len ≤ 16 := by rw [← hlen]; exact (fitH_iff.1 hf).1
  have hpl : pos g0 l ≤ len := by rw [← hlen]; exact pos_le g0 l
  have k0 : Hid (Below w.heap.size w ((w.alloc (.cells #[.slice a len cap] 22)).alloc (.cells #[.int .i64 g0] 3))) :=
    ((Below.refl _ w).alloc (Nat.le_refl _) _).alloc (by rw [World.size_alloc]; omega) _
  have k1 : ((w.alloc (.cells #[.slice a len cap] 22)).alloc (.cells #[.int .i64 g0] 3)).cell? ⟨w.heap.size, 0, none⟩ = some (.slice a len cap) := by
    have hb : Below (w.alloc (.cells #[.slice a len cap] 22)).heap.size (w.alloc (.cells #[.slice a len cap] 22)) ((w.alloc (.cells #[.slice a len cap] 22)).alloc (.cells #[.int .i64 g0] 3)) := (Below.refl _ _).alloc (Nat.le_refl _) _
    rw [hb.cell (p := ⟨w.heap.size, 0, none⟩) (by rw [World.size_alloc]; exact Nat.lt_succ_self _), World.cell?_alloc_new]
    rfl
  have k2 : ((w.alloc (.cells #[.slice a len cap] 22)).alloc (.cells #[.int .i64 g0] 3)).cell? ⟨w.heap.size + 1, 0, none⟩ = some (.int .i64 g0) := by
    have := World.cell?_alloc_new (w.alloc (.cells #[.slice a len cap] 22)) #[.int .i64 g0] 3 0
    rw [World.size_alloc] at this
    rw [this]
    rfl
  have k3 : ((w.alloc (.cells #[.slice a len cap] 22)).alloc (.cells #[.int .i64 g0] 3)).heap.size = w.heap.size + 2 := by simp
  obtain ⟨w1, hw1⟩ : ∃ w1, (w.alloc (.cells #[.slice a len cap] 22)).alloc (.cells #[.int .i64 g0] 3) = w1 := ⟨_, rfl⟩
  rw [hw1] at k0 k1 k2 k3
  have HW := Lib.hid hw1
  have C := Lib.hid (search_any a len cap l g0 w.heap.size (w.heap.size + 1) w1 k1 k2 (by omega) (by omega) (h.keep k0.out) hf)
  have HK := Lib.hid (fun (w' : World) (hb : Below w1.heap.size w1 w') => And.intro ((hb.cell (p := ⟨w.heap.size, 0, none⟩) (by show w.heap.size < _; omega)).trans k1) ((hb.cell (p := ⟨w.heap.size + 1, 0, none⟩) (by show w.heap.size + 1 < _; omega)).trans k2))
  have HX := Lib.hid h
  have hps := @place_some l g0 hf
  have hpn := @place_none l g0 hf
  obtain ⟨p, hp⟩ : ∃ p, pos g0 l = p := ⟨_, rfl⟩
  rw [hp] at hpl C hps hpn ⊢
  rw [hlen] at hps hpn
  clear hp hf h hw1 hlen
  by_cases hpt : p < len
  · obtain ⟨b1, o1, g, la, lc, ls, t, rfl, g1, hx, hc1⟩ := HX.out.at hpt
    rw [hx] at hps hpn
    have HC1 := Lib.hid hc1
    simp only at hps hpn
    clear hc1 hx g1
    by_cases heq : g = g0
    · have HV : Hid ((findH g0 l).isSome = true) := by show _ = true; rw [hps hpt heq]; rfl
      clear hps hpn
      go_enter Try.func35, Try.ntmps35
      go_wp2_with fail
      rw [show (w.alloc (.cells #[.slice (some ⟨b1, o1, none⟩) len cap] 22)).alloc (.cells #[.int .i64 g0] 3) = w1 from HW.out]
      refine C.out.mono ?_
      rintro e w2 ⟨rfl, hb⟩
      have HB2 := Lib.hid (below_keep k0.out hb k0.out.size)
      obtain ⟨q1, q2⟩ := HK.out w2 hb
      obtain ⟨d1, _, _, _⟩ := HC1.out w2 HB2.out
      go_wp2_with fail
      go_quiet (fail)
      go_wp2_with fail
      go_ret2
      exact ⟨ret_two HV.out, below_drewN HB2.out _⟩
    · have HV : Hid ((findH g0 l).isSome = false) := by show _ = false; rw [hpn (fun k => heq k.2)]; rfl
      have hne : (g == g0) = false := by simpa using heq
      clear hps hpn heq
      go_enter Try.func35, Try.ntmps35
      go_wp2_with fail
      rw [show (w.alloc (.cells #[.slice (some ⟨b1, o1, none⟩) len cap] 22)).alloc (.cells #[.int .i64 g0] 3) = w1 from HW.out]
      refine C.out.mono ?_
      rintro e w2 ⟨rfl, hb⟩
      have HB2 := Lib.hid (below_keep k0.out hb k0.out.size)
      obtain ⟨q1, q2⟩ := HK.out w2 hb
      obtain ⟨d1, _, _, _⟩ := HC1.out w2 HB2.out
      go_wp2_with fail
      go_quiet (fail)
      go_wp2_with fail
      go_ret2
      exact ⟨ret_two HV.out, below_drewN HB2.out _⟩
  · have HV : Hid ((findH g0 l).isSome = false) := by show _ = false; rw [hpn (fun k => hpt k.1)]; rfl
    clear hps hpn
    go_enter Try.func35, Try.ntmps35
    go_wp2_with fail
    rw [show (w.alloc (.cells #[.slice a len cap] 22)).alloc (.cells #[.int .i64 g0] 3) = w1 from HW.out]
    refine C.out.mono ?_
    rintro e w2 ⟨rfl, hb⟩
    have HB2 := Lib.hid (below_keep k0.out hb k0.out.size)
    obtain ⟨q1, q2⟩ := HK.out w2 hb
    go_wp2_with fail
    go_quiet (fail)
    go_wp2_with fail
    go_ret2
    exact ⟨ret_two HV.out, below_drewN HB2.out _⟩
end Go.Proofs.Ytleopanfggmenaa.Holds
