/-
  The iterator those: its contract, for whatever asks and whatever is asked for; the three closures that it is given.
-/
import Derived.Test.YtamcidlkbhanfaaOutboxC
import Derived.Test.YtamcidlkbhanfaaIt
set_option linter.unusedVariables false
set_option linter.unusedSimpArgs false
set_option maxRecDepth 4000
set_option maxRecDepth 4000
namespace Go.Proofs.Ytamcidlkbhanfaa.Outbox
open Go.RowKit OutP
open Go.Proofs.Ytamcidlkbhanfaa.Kt
open Go.Proofs.Ytamcidlkbhanfaa.It Go.Shelf
attribute [local go_sem] Oper.semAt_some

theorem find1_any (x0 x1 x2 : Int) (x3 : Bool) (x4 x5 : Int) (x6 : Bool) (Bg : Nat) (g : Int) (v : Bool) (hv : (x1 == g) = v) (w : World) (hg : w.cell? ⟨Bg, 0, none⟩ = some (.int .i64 g)) :
    Calls Try.prog 64 #[.agg #[.int .i64 x0, .int .i64 x1, .int .i64 x2, .bool x3, .int .i64 x4, .int .i64 x5, .bool x6], .pointer (some ⟨Bg, 0, none⟩)] w fun e w' => e = .returned (.bool v) ∧ Below w.heap.size w w' := by
  have hg2 : ∀ o, (w.alloc o).cell? ⟨Bg, 0, none⟩ = some (.int .i64 g) := fun o => Lib.cell?_alloc_some _ hg
  subst hv
  by_cases h1 : x1 = g
  · rw [show ((x1 == g)) = true by simp [h1]]
    have e1 : (x1 == g) = true := beq_iff_eq.2 h1
    go_enter Try.func64, Try.ntmps64
    go_wp2_with fail
    go_ret
    exact ⟨rfl, (Below.refl _ _).alloc (Nat.le_refl _) _⟩
  · rw [show ((x1 == g)) = false by simp [h1]]
    have e1 : (x1 == g) = false := beq_eq_false_iff_ne.2 h1
    go_enter Try.func64, Try.ntmps64
    go_wp2_with fail
    go_ret
    exact ⟨rfl, (Below.refl _ _).alloc (Nat.le_refl _) _⟩

theorem those_any (a : Option Addr) (len cap k : Nat) (lb : Array Value) (w : World) :
    Calls Try.prog 63 #[.slice a len cap, .func (.func k) #[] lb] w fun e w' => e = .returned (.func (.func 67) #[] #[.pointer (some ⟨w.heap.size, 0, none⟩), .pointer (some ⟨w.heap.size + 1, 0, none⟩)]) ∧
      w' = (w.alloc (.cells #[.slice a len cap] 57)).alloc (.cells #[.func (.func k) #[] lb] 58) := by
  go_enter Try.func63, Try.ntmps63
  go_wp2
  go_ret
  exact ⟨rfl, rfl⟩
set_option maxRecDepth 100000 in
set_option maxHeartbeats 4000000 in
theorem those1_in (gA : Nat) (lbA : Array Value) (p : En → Bool) (eA : ∀ args w, (callFunc gA args).run Try.prog w = .ok (.enter gA args) w)
    (l Bs Ba n0 n : Nat) (gs : List Nat) (a : Option Addr) (len cap : Nat) (L : List En) (hn : 2 ≤ n) (J Jx : List En → World → Prop) (w0 w : World)
    (hA : ∀ (x : En) (W' : World), But n0 gs w W' → CallsIn Fence.wide (n - 1) Try.prog gA (#[enV x] ++ lbA) W' fun e W'' => e = .returned (.bool (p x)) ∧ Below W'.heap.size W' W'')
    (hJ : AbidesFrom w.heap.size J)
    (hY : ∀ pre x W1, J pre W1 → pre.length < len → YieldAt Fence.wide (n - 1) Try.prog l #[enV x] W1 fun e W' =>
      (e = .returned (.bool true) ∧ J (pre ++ [x]) W' ∧ But n0 gs W1 W') ∨ (e = .returned (.bool false) ∧ Jx (pre ++ [x]) W'))
    (hBs : w.cell? ⟨Bs, 0, none⟩ = some (.slice a len cap)) (hBa : w.cell? ⟨Ba, 0, none⟩ = some (.func (.func gA) #[] lbA)) (hBan : Ba < n0 ∧ Ba ∉ gs)
    (hX : EnAt w0 a len L) (hW : ∀ W', But n0 gs w W' → Below w0.heap.size w0 W') (hn0 : n0 ≤ w.heap.size) (h0 : J [] w) :
    CallsIn Fence.wide n Try.prog 67 #[.func (.yield l) #[] #[], .pointer (some ⟨Bs, 0, none⟩), .pointer (some ⟨Ba, 0, none⟩)] w fun e W' => (∃ v, e = .returned v) ∧
      ((∃ xs, xs = L.filter p ∧ J xs W') ∨ (∃ pre, (∃ k, k ≤ len ∧ pre = (L.take k).filter p) ∧ Jx pre W')) := by
  have hl := hX.2.1
  have HA := Lib.hid hA; have HJ := Lib.hid hJ; have HY := Lib.hid hY; have HBA := Lib.hid hBa; have HX := Lib.hid hX; have HWK := Lib.hid hW; have H0 := Lib.hid h0
  clear hA hJ hY hBa hX hW h0
  refine callsIn_of_wp Try.func67 rfl trivial ?_ rfl
  simp only [Try.ntmps67, List.size_toArray, List.length_cons, List.length_nil, Nat.reduceAdd, Nat.reduceSub, Array.replicate_succ, Array.replicate_zero, List.push_toArray, List.append_toArray, List.nil_append, List.cons_append]
  gi_wp2_with fail
  gi_loopw [8] (fun i wr => ∃ k : Nat, k ≤ len ∧ i = .int .i64 (k : Int) ∧ Hid (J ((L.take k).filter p) wr) ∧ Hid (But n0 gs w wr)) (fun i _ => len - (intOf i).toNat)
  case atStart => exact ⟨0, Nat.zero_le _, rfl, H0, But.refl _ _ _⟩
  case round =>
    obtain ⟨k, hk, rfl, hJs, hB⟩ := hrel
    by_cases hlt : k < len
    · have hkx : k < L.length := by rw [HX.out.1]; exact hlt
      obtain ⟨b1, o1, x0, x1, x2, x3, x4, x5, x6, rfl, _, hp, hc1⟩ := EnAt.at HX.out hlt
      obtain ⟨d0, d1, d2, d3, d4, d5, d6⟩ := hc1 wr (HWK.out wr hB.out)
      have hba : wr.cell? ⟨Ba, 0, none⟩ = some (.func (.func gA) #[] lbA) := (hB.out.cell hBan.1 hBan.2).trans HBA.out
      have hsz : w.heap.size ≤ wr.heap.size := hB.out.size
      have hba2 : ∀ o, (wr.alloc o).cell? ⟨Ba, 0, none⟩ = some (.func (.func gA) #[] lbA) := fun o => Lib.cell?_alloc_some _ hba
      have hb1 : Below wr.heap.size wr (wr.alloc (.cells #[.int .i64 x0, .int .i64 x1, .int .i64 x2, .bool x3, .int .i64 x4, .int .i64 x5, .bool x6] 23)) := (Below.refl _ wr).alloc (Nat.le_refl _) _
      have HBW := Lib.hid (hB.out.trans (But.of_below (gs := gs) (hb1.mono (show n0 ≤ wr.heap.size by omega))))
      have HJ1 := Lib.hid (HJ.out _ wr (wr.alloc (.cells #[.int .i64 x0, .int .i64 x1, .int .i64 x2, .bool x3, .int .i64 x4, .int .i64 x5, .bool x6] 23)) none hJs.out (World.grownBy_alloc _ _ none) (fun r e => by cases e))
      have HZ := Lib.hid (at7_new 23 wr (.int .i64 x0) (.int .i64 x1) (.int .i64 x2) (.bool x3) (.int .i64 x4) (.int .i64 x5) (.bool x6))
      have HLN : Hid (((L.take k).filter p).length < len) := by
        show _ < _
        have := List.length_filter_le p (L.take k); rw [List.length_take, HX.out.1] at this; omega
      have HAX := Lib.hid (fun W' h => HA.out ⟨x0, x1, x2, x3, x4, x5, x6⟩ W' h)
      cases hq : p ⟨x0, x1, x2, x3, x4, x5, x6⟩ with
      | true =>
        have HSEL := Lib.hid (filt_yes (p := p) hkx hp hq)
        rw [hq] at HAX
        clear hq hp hkx hc1 hb1
        gi_wp2_with fail
        refine ⟨trivial, fun _ => by omega, ?_⟩
        refine (HAX.out _ HBW.out).mono ?_
        rintro e w2 ⟨rfl, hw⟩
        obtain ⟨q0, q1, q2, q3, q4, q5, q6⟩ := cells7 (HZ.out.keep hw)
        have HB2 := Lib.hid (HBW.out.trans (But.of_below (gs := gs) (hw.mono (show n0 ≤ (wr.alloc (.cells #[.int .i64 x0, .int .i64 x1, .int .i64 x2, .bool x3, .int .i64 x4, .int .i64 x5, .bool x6] 23)).heap.size by simp; omega))))
        have HJ2 := Lib.hid (HJ.out _ _ w2 none HJ1.out (grown_of_below hw) (fun r e => by cases e))
        clear hw HBW HJ1 HAX HZ hba hba2 d0 d1 d2 d3 d4 d5 d6 hJs hB
        obtain ⟨fn, tmps, assign, body, hy, hR⟩ := HY.out _ ⟨x0, x1, x2, x3, x4, x5, x6⟩ w2 HJ2.out HLN.out
        have HR := Lib.hid hR
        clear hR
        dsimp only [enV] at hy
        gi_wp2_with fail
        refine ⟨fun _ => by omega, ?_⟩
        refine HR.out.mono ?_
        rintro e w3 (⟨rfl, hJ3, hk3⟩ | ⟨rfl, hJx⟩)
        · have HJ3 := Lib.hid hJ3; have HB3 := Lib.hid (HB2.out.trans hk3)
          clear hJ3 hk3 q0 q1 q2 q3 q4 q5 q6 hy
          gi_wp2_with fail
          go_roundw
          case rel => exact ⟨k + 1, by omega, by go_num, by show J _ _; rw [HSEL.out]; exact HJ3.out, HB3⟩
          case measure => simp [intOf]; omega
        · have HJX := Lib.hid hJx
          clear hJx q0 q1 q2 q3 q4 q5 q6 hy
          gi_wp2_with fail
          refine bodyPost_ret (results_none rfl _ _ _) rfl ?_
          exact ⟨⟨_, rfl⟩, .inr ⟨_, ⟨k + 1, by omega, HSEL.out.symm⟩, HJX.out⟩⟩
      | false =>
        have HSEL := Lib.hid (filt_no (p := p) hkx hp hq)
        rw [hq] at HAX
        clear hq hp hkx hc1 hb1
        gi_wp2_with fail
        refine ⟨trivial, fun _ => by omega, ?_⟩
        refine (HAX.out _ HBW.out).mono ?_
        rintro e w2 ⟨rfl, hw⟩
        obtain ⟨q0, q1, q2, q3, q4, q5, q6⟩ := cells7 (HZ.out.keep hw)
        have HB2 := Lib.hid (HBW.out.trans (But.of_below (gs := gs) (hw.mono (show n0 ≤ (wr.alloc (.cells #[.int .i64 x0, .int .i64 x1, .int .i64 x2, .bool x3, .int .i64 x4, .int .i64 x5, .bool x6] 23)).heap.size by simp; omega))))
        have HJ2 := Lib.hid (HJ.out _ _ w2 none HJ1.out (grown_of_below hw) (fun r e => by cases e))
        clear hw HBW HJ1 HAX HZ hba hba2 d0 d1 d2 d3 d4 d5 d6 hJs hB
        gi_wp2_with fail
        refine ⟨fun _ h => (by cases h), ?_⟩
        gi_wp2_with fail
        go_roundw
        case rel => exact ⟨k + 1, by omega, by go_num, by show J _ _; rw [HSEL.out]; exact HJ2.out, HB2⟩
        case measure => simp [intOf]; omega
    · obtain rfl : k = len := by omega
      have hJ2 := hJs.out
      rw [List.take_of_length_le (Nat.le_of_eq HX.out.1)] at hJ2
      have HJ2 := Lib.hid hJ2
      clear hJ2 hJs
      gi_wp2_with fail
      go_end0
      exact ⟨⟨_, rfl⟩, .inl ⟨_, rfl, HJ2.out⟩⟩

/-- What those hands back, asked in a later world, stops: at what p lets by. -/
theorem those_stops (gA : Nat) (lbA : Array Value) (p : En → Bool) (eA : ∀ args w, (callFunc gA args).run Try.prog w = .ok (.enter gA args) w)
    (Bs Ba n0 n : Nat) (gs : List Nat) (a : Option Addr) (len cap : Nat) (L : List En) (hn : 2 ≤ n) (w0 w : World)
    (hA : ∀ (x : En) (W' : World), But n0 gs w W' → CallsIn Fence.wide (n - 1) Try.prog gA (#[enV x] ++ lbA) W' fun e W'' => e = .returned (.bool (p x)) ∧ Below W'.heap.size W' W'')
    (hBs : w.cell? ⟨Bs, 0, none⟩ = some (.slice a len cap)) (hBa : w.cell? ⟨Ba, 0, none⟩ = some (.func (.func gA) #[] lbA)) (hBan : Ba < n0 ∧ Ba ∉ gs)
    (hX : EnAt w0 a len L) (hW : ∀ W', But n0 gs w W' → Below w0.heap.size w0 W') (hn0 : n0 ≤ w.heap.size) :
    SeqStopsK Fence.wide n Try.prog 67 #[.pointer (some ⟨Bs, 0, none⟩), .pointer (some ⟨Ba, 0, none⟩)] (fun x : En => #[enV x]) (But n0 gs) (fun xs => xs = L.filter p) (fun pre => ∃ k, k ≤ len ∧ pre = (L.take k).filter p) len w := by
  intro l J Jx W1 hw hJ _ hY h0
  have hBu : But n0 gs w W1 := But.of_below (hw.mono hn0)
  have old : ∀ {bb oo : Nat} {v : Value}, w.cell? ⟨bb, oo, none⟩ = some v → W1.cell? ⟨bb, oo, none⟩ = some v := fun h => (hw.cell (p := ⟨_, _, none⟩) (World.block_lt_of_cell? w _ h)).trans h
  exact those1_in gA lbA p eA l Bs Ba n0 n gs a len cap L hn J Jx w0 W1 (fun x W' hb => hA x W' (hBu.trans hb)) hJ hY (old hBs) (old hBa) hBan hX (fun W' hb => hW W' (hBu.trans hb)) (Nat.le_trans hn0 hw.size) h0

end Go.Proofs.Ytamcidlkbhanfaa.Outbox
