/-
  The walk of StockBalance.
-/
import Derived.Test.YtjhfhklgmbghnaaStockK
import Derived.StillTail
import Derived.StillTactics
import Derived.StillTailTactics
import Derived.Deep.CutBlock
import Derived.Deep.CutRange
import Derived.Deep.LoopGhost
import Derived.Test.YtjhfhklgmbghnaaMix
set_option linter.unusedVariables false
set_option maxRecDepth 4000
namespace Go.Proofs.Ytjhfhklgmbghnaa
open Go.RowKit Go.Sort StockP

/-- Acts in memory. -/
def ActsAt (w : World) (a : Option Addr) (len : Nat) (l : List (Int × Int)) : Prop :=
  l.length = len ∧ len ≤ 9223372036854775807 ∧ (len = 0 ∨ ∃ b off, a = some ⟨b, off, none⟩ ∧ b < w.heap.size ∧ ∀ i, i < len → w.cell? ⟨b, off + i * 2, none⟩ = some (.int .i64 (l.getD i (0, 0)).1) ∧ w.cell? ⟨b, off + i * 2 + 1, none⟩ = some (.int .i64 (l.getD i (0, 0)).2))
/-- What stands ahead of each round: the item in block b0, fit, and what was there. -/
structure Bal (w wr : World) (b0 : Nat) (x : Sk) : Prop where
  bel : Below w.heap.size w wr
  le : w.heap.size ≤ b0
  at0 : At6 wr b0 (.string x.nm) (.int .i64 x.hand) (.int .i64 x.held) (.int .i64 x.kept) (.int .i64 x.sent) (.int .i64 x.inn)
  fit : Fit x
  sz : x.nm.size ≤ 60
/-- Within a round: the next item in block b1. -/
structure Rnd (w wr : World) (b0 b1 : Nat) (x y : Sk) : Prop where
  bel : Below w.heap.size w wr
  le : w.heap.size ≤ b0 ∧ b0 < b1
  at0 : At6 wr b0 (.string x.nm) (.int .i64 x.hand) (.int .i64 x.held) (.int .i64 x.kept) (.int .i64 x.sent) (.int .i64 x.inn)
  at1 : At6 wr b1 (.string y.nm) (.int .i64 y.hand) (.int .i64 y.held) (.int .i64 y.kept) (.int .i64 y.sent) (.int .i64 y.inn)
theorem Bal.round {w wr : World} {b0 : Nat} {x : Sk} (h : Bal w wr b0 x) : Rnd w (wr.alloc (.cells #[.string x.nm, .int .i64 x.hand, .int .i64 x.held, .int .i64 x.kept, .int .i64 x.sent, .int .i64 x.inn] 23)) b0 wr.heap.size x x :=
  ⟨h.bel.alloc h.bel.size _, ⟨h.le, heap_lt h.at0⟩, h.at0.alloc _, at6_new wr _ _ _ _ _ _⟩
theorem Rnd.keep {w wr w2 : World} {b0 b1 : Nat} {x y : Sk} (h : Rnd w wr b0 b1 x y) (hb : Below wr.heap.size wr w2) : Rnd w w2 b0 b1 x y := ⟨below_on h.bel h.bel.size hb, h.le, h.at0.keep hb, h.at1.keep hb⟩
theorem Rnd.put {w wr : World} {b0 b1 : Nat} {x y : Sk} (h : Rnd w wr b0 b1 x y) (z : Sk) : Rnd w (put6 wr b1 (.string z.nm) (.int .i64 z.hand) (.int .i64 z.held) (.int .i64 z.kept) (.int .i64 z.sent) (.int .i64 z.inn)) b0 b1 x z :=
  ⟨below_put6 h.bel (by have := h.le; omega) _ _ _ _ _ _, h.le, (put6_other _ _ _ _ _ _ (by have := h.le; omega)).trans h.at0, heap_put6 h.at1 _ _ _ _ _ _⟩
theorem Rnd.drew {w wr : World} {b0 b1 : Nat} {x y : Sk} (h : Rnd w wr b0 b1 x y) : Rnd w wr.drew b0 b1 x y := ⟨h.bel.drew, h.le, h.at0, h.at1⟩
theorem Rnd.skip {w wr : World} {b0 b1 : Nat} {x y : Sk} (h : Rnd w wr b0 b1 x y) (hf : Fit x) (hs : x.nm.size ≤ 60) : Bal w wr b0 x := ⟨h.bel, h.le.1, h.at0, hf, hs⟩
theorem Rnd.turn {w wr : World} {b0 b1 : Nat} {x y : Sk} (h : Rnd w wr b0 b1 x y) : Below w.heap.size w (put6 wr b0 (.string y.nm) (.int .i64 y.hand) (.int .i64 y.held) (.int .i64 y.kept) (.int .i64 y.sent) (.int .i64 y.inn)) ∧ At6 (put6 wr b0 (.string y.nm) (.int .i64 y.hand) (.int .i64 y.held) (.int .i64 y.kept) (.int .i64 y.sent) (.int .i64 y.inn)) b0 (.string y.nm) (.int .i64 y.hand) (.int .i64 y.held) (.int .i64 y.kept) (.int .i64 y.sent) (.int .i64 y.inn) :=
  ⟨below_put6 h.bel h.le.1 _ _ _ _ _ _, heap_put6 h.at0 _ _ _ _ _ _⟩
theorem ActsAt.keep {w w' : World} {a : Option Addr} {len : Nat} {l : List (Int × Int)} (h : ActsAt w a len l) (hb : Below w.heap.size w w') : ActsAt w' a len l :=
  ⟨h.1, h.2.1, h.2.2.imp id (fun ⟨b, off, e, hlt, hc⟩ => ⟨b, off, e, by have := hb.size; omega, fun i hi => ⟨(hb.cell (p := ⟨b, off + i * 2, none⟩) hlt).trans (hc i hi).1, (hb.cell (p := ⟨b, off + i * 2 + 1, none⟩) hlt).trans (hc i hi).2⟩⟩)⟩
theorem min4 {P : Program} {a b c d : Int} (ha : 0 ≤ a) (hb : 0 ≤ b) (hc : 0 ≤ c) (hd : 0 ≤ d) : ∃ m : Int, 0 ≤ m ∧ ∀ ts t w, (Builtin.min_ ts t #[.int .i64 a, .int .i64 b, .int .i64 c, .int .i64 d]).run P w = .ok (.int .i64 m) w := by
  refine ⟨if d < (if c < (if b < a then b else a) then c else (if b < a then b else a)) then d else (if c < (if b < a then b else a) then c else (if b < a then b else a)), ?_, fun _ _ _ => by simp [Builtin.min_, Builtin.min2]⟩
  repeat' split
  all_goals omega
theorem join {G P : Prop} (main : G → P) (pf : G) : P := main pf
theorem turn_nm (x : Sk) (k n : Int) : (turnV x k n).nm = x.nm := by unfold turnV; repeat' split
                                                                     all_goals rfl
/-- An error, or a fit item, of the same name, with a sum known. -/
def Told (x : Sk) (r : Sk × Int) (t : Int) : Prop := (∃ er, r = (sk0, er) ∧ er ≠ 0) ∨ (∃ y, r = (y, 0) ∧ Fit y ∧ y.nm.size ≤ 60 ∧ y.inn = t ∧ -1099511627776 ≤ t ∧ t ≤ 1099511627776)
theorem move_told {x : Sk} (hs : x.nm.size ≤ 60) (k n : Int) : Told x (moveV x k n) x.inn := by
  rcases move_cases x k n with ⟨er, h, hne, _⟩ | ⟨h, hf, h1, h2, ho⟩
  · exact .inl ⟨er, h, hne⟩
  · have ht := turn_fit hf h1 ho
    have hu := hf.up; have hm := hf.most
    exact .inr ⟨_, h, ht.1, by rw [turn_nm]; exact hs, ht.2, by omega, hm⟩
theorem restock_told {x : Sk} (hs : x.nm.size ≤ 60) (n : Int) : Told x (restockV x n) (x.inn + n) := by
  rcases restock_cases x n with ⟨er, h, hne, _⟩ | ⟨h, hf, h1, h2, ho⟩
  · exact .inl ⟨er, h, hne⟩
  · have ht := put_fit (n := n) hf (by have := hf.hand; omega) (by omega)
    have hu := hf.up
    exact .inr ⟨_, h, ht, hs, rfl, by omega, by omega⟩
theorem adjust_told {x : Sk} (hs : x.nm.size ≤ 60) (n : Int) : Told x (adjustV x n) (x.inn + n) := by
  rcases adjust_cases x n with ⟨er, h, hne, _⟩ | ⟨h, hf, h0, h1, h2, h3, h4⟩
  · exact .inl ⟨er, h, hne⟩
  · have ht := put_fit (n := n) hf h3 h4
    have hu := hf.up
    exact .inr ⟨_, h, ht, hs, rfl, by omega, by omega⟩

set_option maxHeartbeats 40000000 in
theorem stockBalance_walk (a : Option Addr) (len cap : Nat) (l : List (Int × Int)) (w : World) (hl : len ≤ 40) (HL : Hid (ActsAt w a len l)) :
    Calls Try.prog 5 #[.slice a len cap] w fun z w' => z = .returned (.bool true) ∧ Below w.heap.size w w' := by
  have H1 := Lib.hid (fun w => snew_is _ _ _ w (by decide) ex_new)
  have HT := Lib.hid (new_fit tea_name)
  have H7 := Lib.hid awake_any
  go_enter Try.func5, Try.ntmps5
  go_wp2_with fail
  refine (H1.out _).mono ?_
  rintro z w1 ⟨rfl, hb⟩
  have HB := Lib.hid (Bal.mk (hb.alloc hb.size _) hb.size (at6_new w1 (.string ⟨#[116, 101, 97]⟩) (.int .i64 0) (.int .i64 0) (.int .i64 0) (.int .i64 0) (.int .i64 0)) HT.out (by decide))
  clear hb
  go_wp2_with fail
  generalize w1.alloc (.cells #[.string ⟨#[116, 101, 97]⟩, .int .i64 0, .int .i64 0, .int .i64 0, .int .i64 0, .int .i64 0] 23) = w2 at *
  generalize w1.heap.size = b0 at *
  go_loopg [5, 6] len (fun g t i wr => ∃ (j : Nat) (x : Sk), j ≤ len ∧ g = len - j ∧ t = .int .i64 x.inn ∧ i = .int .i64 (j : Int) ∧ Hid (Bal w wr b0 x))
  case atStart => exact ⟨0, ⟨⟨#[116, 101, 97]⟩, 0, 0, 0, 0, 0⟩, Nat.zero_le _, rfl, rfl, rfl, HB⟩
  case round =>
    obtain ⟨j, x, hj, rfl, rfl, rfl, hbal⟩ := hrel
    clear HB HT H1
    by_cases hlt : j < len
    · obtain ⟨b, off, rfl, hbl, hcell⟩ := HL.out.2.2.resolve_left (by omega)
      obtain ⟨hk, hn⟩ := hcell j hlt
      generalize l.getD j (0, 0) = kn at hk hn
      obtain ⟨k, n⟩ := kn
      dsimp only at hk hn
      have HR := Lib.hid hbal.out.round
      have HW0 := Lib.hid (And.intro hk hn)
      have HBL := Lib.hid hbl
      have HFX := Lib.hid hbal.out.fit
      have HSX := Lib.hid hbal.out.sz
      have hi0 : (0 : Int) ≤ j := by omega
      have hi1 : (j : Int) < len := by omega
      obtain ⟨q0, q1, q2, q3, q4, q5⟩ := cells6 hbal.out.at0
      clear hcell hk hn hbal hbl
      go_upto_region 9 with fail
      clear q0 q1 q2 q3 q4 q5
      generalize wr.alloc (.cells #[.string x.nm, .int .i64 x.hand, .int .i64 x.held, .int .i64 x.kept, .int .i64 x.sent, .int .i64 x.inn] 23) = c at *
      have hb1 := HR.out.le
      generalize wr.heap.size = b1 at *
      have hne01 : ¬ b0 = b1 := by omega
      have hne10 : ¬ b1 = b0 := by omega
      have ck := (HR.out.bel.cell (p := ⟨b, off + j * 2, none⟩) HBL.out).trans HW0.out.1
      have cn := (HR.out.bel.cell (p := ⟨b, off + j * 2 + 1, none⟩) HBL.out).trans HW0.out.2
      obtain ⟨q0, q1, q2, q3, q4, q5⟩ := cells6 HR.out.at0
      go_upto_block 2 with fail
      go_cut [8] from 25 to 142 (fun f wx => ∃ (y : Sk) (er : Int), f = .int .i64 er ∧ Hid (Rnd w wx b0 b1 x y ∧ Told x (y, er) (if 1 ≤ k ∧ k ≤ 5 then x.inn else x.inn + n)))
      case first =>
        by_cases e6 : k = 6
        · subst e6
          have HC := Lib.hid (fun w y er (h : restockV x n = (y, er)) => srestock_is x n y er w (by have := HSX.out; omega) h)
          have HTD := Lib.hid (restock_told HSX.out n)
          obtain ⟨y, er, hv⟩ : ∃ y er, restockV x n = (y, er) := ⟨_, _, rfl⟩
          rw [hv] at HTD
          have HD := Lib.hid (fun w => HC.out w y er hv)
          clear HC hv
          go_wp2_with fail
          refine wp_region_any (by kernel_rfl) ?_
          change wpAny _ _ _ _ _ _ _ (World.drew _)
          refine wpAny_take (i := 1) (v := ?_) rfl (by kernel_rfl) (by kernel_rfl) (by kernel_rfl) (fun _ _ _ h => h) (Or.inl ⟨by kernel_rfl, ?_⟩) ?_; rotate_left; focus ((intro w'); go_simp; (try with_reducible rfl))
          refine wpAny_take (i := 2) (v := ?_) rfl (by kernel_rfl) (by kernel_rfl) (by kernel_rfl) (fun _ _ _ h => h) (Or.inl ⟨by kernel_rfl, ?_⟩) ?_; rotate_left; focus ((intro w'); go_simp; (try with_reducible rfl))
          refine wpAny_take (i := 3) (v := ?_) rfl (by kernel_rfl) (by kernel_rfl) (by kernel_rfl) (fun _ _ _ h => h) (Or.inl ⟨by kernel_rfl, ?_⟩) ?_; rotate_left; focus ((intro w'); go_simp; (try with_reducible rfl))
          refine wpAny_take (i := 4) (v := ?_) rfl (by kernel_rfl) (by kernel_rfl) (by kernel_rfl) (fun _ _ _ h => h) (Or.inl ⟨by kernel_rfl, ?_⟩) ?_; rotate_left; focus ((intro w'); go_simp; (try with_reducible rfl))
          apply join
          · intro hG
            refine wpAny_ready (rs := [0, 5]) (by kernel_rfl) (by simp) ?_
            refine AllReady.cons rfl (fun K hK => ?_) (AllReady.cons rfl (fun K hK => ?_) AllReady.nil)
            · go_simp
              refine hK _ _ ?_
              clear hK K
              refine wpAny_ready (rs := [5]) (by kernel_rfl) (by simp) ?_
              refine AllReady.cons rfl (fun K hK => ?_) AllReady.nil
              go_simp
              refine hK _ _ ?_
              clear hK K
              exact hG
            · go_simp
              refine hK _ _ ?_
              clear hK K
              refine wpAny_ready (rs := [0]) (by kernel_rfl) (by simp) ?_
              refine AllReady.cons rfl (fun K hK => ?_) AllReady.nil
              go_simp
              refine hK _ _ ?_
              clear hK K
              exact hG
          clear q0 q1 q2 q3 q4 q5 ck cn
          refine wpAny_ready (rs := [6]) (by kernel_rfl) (by simp) ?_
          refine AllReady.cons rfl (fun K hK => ?_) AllReady.nil
          go_simp
          refine (HD.out _).mono ?_
          rintro e c3 ⟨rfl, hb⟩
          have HR3 := Lib.hid (HR.out.drew.keep hb)
          clear HR hb
          refine hK _ _ ?_
          clear hK K
          refine wpAny_take (i := 7) (v := ?_) rfl (by kernel_rfl) (by kernel_rfl) (by kernel_rfl) (fun _ _ _ h => h) (Or.inl ⟨by kernel_rfl, ?_⟩) ?_; rotate_left; focus ((intro w'); go_simp; (try with_reducible rfl))
          refine wpAny_take (i := 8) (v := ?_) rfl (by kernel_rfl) (by kernel_rfl) (by kernel_rfl) (fun _ _ _ h => h) (Or.inl ⟨by kernel_rfl, ?_⟩) ?_; rotate_left; focus ((intro w'); go_simp; (try with_reducible rfl))
          refine wpAny_take (i := 9) (v := ?_) rfl (by kernel_rfl) (by kernel_rfl) (by kernel_rfl) (fun _ _ _ h => h) (Or.inl ⟨by kernel_rfl, ?_⟩) ?_; rotate_left; focus ((intro w'); go_simp; (try with_reducible rfl))
          obtain ⟨z0, z1, z2, z3, z4, z5⟩ := cells6 HR3.out.at1
          obtain ⟨f0, f1, f2, f3, f4, f5⟩ := free6 HR3.out.at1
          refine Mix.wpAny_of_seqV [10, 11] _ _ _ (by kernel_rfl) ?_
          simp only [Mix.pick, List.filterMap_cons, List.filterMap_nil, List.getElem?_cons_zero, List.getElem?_cons_succ]
          go_wp2_with fail
          go_meet
          exact ⟨y, er, rfl, Lib.hid ⟨HR3.out.put y, by rw [if_neg (by decide)]; exact HTD.out⟩⟩
        by_cases e1 : k = 1
        · subst e1
          have HC := Lib.hid (fun w y er (h : moveV x 1 n = (y, er)) => lmove_is x 1 n y er w (by have := HSX.out; omega) h)
          have HTD := Lib.hid (move_told HSX.out 1 n)
          obtain ⟨y, er, hv⟩ : ∃ y er, moveV x 1 n = (y, er) := ⟨_, _, rfl⟩
          rw [hv] at HTD
          have HD := Lib.hid (fun w => HC.out w y er hv)
          clear HC hv
          go_wp2_with fail
          refine wp_region_any (by kernel_rfl) ?_
          change wpAny _ _ _ _ _ _ _ (World.drew _)
          refine wpAny_take (i := 1) (v := ?_) rfl (by kernel_rfl) (by kernel_rfl) (by kernel_rfl) (fun _ _ _ h => h) (Or.inl ⟨by kernel_rfl, ?_⟩) ?_; rotate_left; focus ((intro w'); go_simp; (try with_reducible rfl))
          refine wpAny_take (i := 2) (v := ?_) rfl (by kernel_rfl) (by kernel_rfl) (by kernel_rfl) (fun _ _ _ h => h) (Or.inl ⟨by kernel_rfl, ?_⟩) ?_; rotate_left; focus ((intro w'); go_simp; (try with_reducible rfl))
          refine wpAny_take (i := 3) (v := ?_) rfl (by kernel_rfl) (by kernel_rfl) (by kernel_rfl) (fun _ _ _ h => h) (Or.inl ⟨by kernel_rfl, ?_⟩) ?_; rotate_left; focus ((intro w'); go_simp; (try with_reducible rfl))
          refine wpAny_take (i := 4) (v := ?_) rfl (by kernel_rfl) (by kernel_rfl) (by kernel_rfl) (fun _ _ _ h => h) (Or.inl ⟨by kernel_rfl, ?_⟩) ?_; rotate_left; focus ((intro w'); go_simp; (try with_reducible rfl))
          refine wpAny_take (i := 6) (v := ?_) rfl (by kernel_rfl) (by kernel_rfl) (by kernel_rfl) (fun _ _ _ h => h) (Or.inl ⟨by kernel_rfl, ?_⟩) ?_; rotate_left; focus ((intro w'); go_simp; (try with_reducible rfl))
          refine wpAny_take (i := 7) (v := ?_) rfl (by kernel_rfl) (by kernel_rfl) (by kernel_rfl) (fun _ _ _ h => h) (Or.inl ⟨by kernel_rfl, ?_⟩) ?_; rotate_left; focus ((intro w'); go_simp; (try with_reducible rfl))
          refine wpAny_take (i := 8) (v := ?_) rfl (by kernel_rfl) (by kernel_rfl) (by kernel_rfl) (fun _ _ _ h => h) (Or.inl ⟨by kernel_rfl, ?_⟩) ?_; rotate_left; focus ((intro w'); go_simp; (try with_reducible rfl))
          refine wpAny_take (i := 9) (v := ?_) rfl (by kernel_rfl) (by kernel_rfl) (by kernel_rfl) (fun _ _ _ h => h) (Or.inl ⟨by kernel_rfl, ?_⟩) ?_; rotate_left; focus ((intro w'); go_simp; (try with_reducible rfl))
          apply join
          · intro hG
            refine wpAny_ready (rs := [0, 5, 10]) (by kernel_rfl) (by simp) ?_
            refine AllReady.cons rfl (fun K hK => ?_) (AllReady.cons rfl (fun K hK => ?_) (AllReady.cons rfl (fun K hK => ?_) AllReady.nil))
            · go_simp
              refine hK _ _ ?_
              clear hK K
              refine wpAny_ready (rs := [5, 10]) (by kernel_rfl) (by simp) ?_
              refine AllReady.cons rfl (fun K hK => ?_) (AllReady.cons rfl (fun K hK => ?_) AllReady.nil)
              · go_simp
                refine hK _ _ ?_
                clear hK K
                refine wpAny_ready (rs := [10]) (by kernel_rfl) (by simp) ?_
                refine AllReady.cons rfl (fun K hK => ?_) AllReady.nil
                go_simp
                refine hK _ _ ?_
                clear hK K
                exact hG
              · go_simp
                refine hK _ _ ?_
                clear hK K
                refine wpAny_ready (rs := [5]) (by kernel_rfl) (by simp) ?_
                refine AllReady.cons rfl (fun K hK => ?_) AllReady.nil
                go_simp
                refine hK _ _ ?_
                clear hK K
                exact hG
            · go_simp
              refine hK _ _ ?_
              clear hK K
              refine wpAny_ready (rs := [0, 10]) (by kernel_rfl) (by simp) ?_
              refine AllReady.cons rfl (fun K hK => ?_) (AllReady.cons rfl (fun K hK => ?_) AllReady.nil)
              · go_simp
                refine hK _ _ ?_
                clear hK K
                refine wpAny_ready (rs := [10]) (by kernel_rfl) (by simp) ?_
                refine AllReady.cons rfl (fun K hK => ?_) AllReady.nil
                go_simp
                refine hK _ _ ?_
                clear hK K
                exact hG
              · go_simp
                refine hK _ _ ?_
                clear hK K
                refine wpAny_ready (rs := [0]) (by kernel_rfl) (by simp) ?_
                refine AllReady.cons rfl (fun K hK => ?_) AllReady.nil
                go_simp
                refine hK _ _ ?_
                clear hK K
                exact hG
            · go_simp
              refine hK _ _ ?_
              clear hK K
              refine wpAny_ready (rs := [0, 5]) (by kernel_rfl) (by simp) ?_
              refine AllReady.cons rfl (fun K hK => ?_) (AllReady.cons rfl (fun K hK => ?_) AllReady.nil)
              · go_simp
                refine hK _ _ ?_
                clear hK K
                refine wpAny_ready (rs := [5]) (by kernel_rfl) (by simp) ?_
                refine AllReady.cons rfl (fun K hK => ?_) AllReady.nil
                go_simp
                refine hK _ _ ?_
                clear hK K
                exact hG
              · go_simp
                refine hK _ _ ?_
                clear hK K
                refine wpAny_ready (rs := [0]) (by kernel_rfl) (by simp) ?_
                refine AllReady.cons rfl (fun K hK => ?_) AllReady.nil
                go_simp
                refine hK _ _ ?_
                clear hK K
                exact hG
          clear q0 q1 q2 q3 q4 q5 ck cn
          refine wpAny_ready (rs := [11]) (by kernel_rfl) (by simp) ?_
          refine AllReady.cons rfl (fun K hK => ?_) AllReady.nil
          go_simp
          refine (HD.out _).mono ?_
          rintro e c3 ⟨rfl, hb⟩
          have HR3 := Lib.hid (HR.out.drew.keep hb)
          clear HR hb
          refine hK _ _ ?_
          clear hK K
          refine wpAny_take (i := 12) (v := ?_) rfl (by kernel_rfl) (by kernel_rfl) (by kernel_rfl) (fun _ _ _ h => h) (Or.inl ⟨by kernel_rfl, ?_⟩) ?_; rotate_left; focus ((intro w'); go_simp; (try with_reducible rfl))
          refine wpAny_take (i := 13) (v := ?_) rfl (by kernel_rfl) (by kernel_rfl) (by kernel_rfl) (fun _ _ _ h => h) (Or.inl ⟨by kernel_rfl, ?_⟩) ?_; rotate_left; focus ((intro w'); go_simp; (try with_reducible rfl))
          refine wpAny_take (i := 14) (v := ?_) rfl (by kernel_rfl) (by kernel_rfl) (by kernel_rfl) (fun _ _ _ h => h) (Or.inl ⟨by kernel_rfl, ?_⟩) ?_; rotate_left; focus ((intro w'); go_simp; (try with_reducible rfl))
          obtain ⟨z0, z1, z2, z3, z4, z5⟩ := cells6 HR3.out.at1
          obtain ⟨f0, f1, f2, f3, f4, f5⟩ := free6 HR3.out.at1
          refine Mix.wpAny_of_seqV [15, 16] _ _ _ (by kernel_rfl) ?_
          simp only [Mix.pick, List.filterMap_cons, List.filterMap_nil, List.getElem?_cons_zero, List.getElem?_cons_succ]
          go_wp2_with fail
          go_meet
          exact ⟨y, er, rfl, Lib.hid ⟨HR3.out.put y, by rw [if_pos (by decide)]; exact HTD.out⟩⟩
        by_cases e2 : k = 2
        · subst e2
          have HC := Lib.hid (fun w y er (h : moveV x 2 n = (y, er)) => lmove_is x 2 n y er w (by have := HSX.out; omega) h)
          have HTD := Lib.hid (move_told HSX.out 2 n)
          obtain ⟨y, er, hv⟩ : ∃ y er, moveV x 2 n = (y, er) := ⟨_, _, rfl⟩
          rw [hv] at HTD
          have HD := Lib.hid (fun w => HC.out w y er hv)
          clear HC hv
          go_wp2_with fail
          refine wp_region_any (by kernel_rfl) ?_
          change wpAny _ _ _ _ _ _ _ (World.drew _)
          refine wpAny_take (i := 1) (v := ?_) rfl (by kernel_rfl) (by kernel_rfl) (by kernel_rfl) (fun _ _ _ h => h) (Or.inl ⟨by kernel_rfl, ?_⟩) ?_; rotate_left; focus ((intro w'); go_simp; (try with_reducible rfl))
          refine wpAny_take (i := 2) (v := ?_) rfl (by kernel_rfl) (by kernel_rfl) (by kernel_rfl) (fun _ _ _ h => h) (Or.inl ⟨by kernel_rfl, ?_⟩) ?_; rotate_left; focus ((intro w'); go_simp; (try with_reducible rfl))
          refine wpAny_take (i := 3) (v := ?_) rfl (by kernel_rfl) (by kernel_rfl) (by kernel_rfl) (fun _ _ _ h => h) (Or.inl ⟨by kernel_rfl, ?_⟩) ?_; rotate_left; focus ((intro w'); go_simp; (try with_reducible rfl))
          refine wpAny_take (i := 4) (v := ?_) rfl (by kernel_rfl) (by kernel_rfl) (by kernel_rfl) (fun _ _ _ h => h) (Or.inl ⟨by kernel_rfl, ?_⟩) ?_; rotate_left; focus ((intro w'); go_simp; (try with_reducible rfl))
          refine wpAny_take (i := 6) (v := ?_) rfl (by kernel_rfl) (by kernel_rfl) (by kernel_rfl) (fun _ _ _ h => h) (Or.inl ⟨by kernel_rfl, ?_⟩) ?_; rotate_left; focus ((intro w'); go_simp; (try with_reducible rfl))
          refine wpAny_take (i := 7) (v := ?_) rfl (by kernel_rfl) (by kernel_rfl) (by kernel_rfl) (fun _ _ _ h => h) (Or.inl ⟨by kernel_rfl, ?_⟩) ?_; rotate_left; focus ((intro w'); go_simp; (try with_reducible rfl))
          refine wpAny_take (i := 8) (v := ?_) rfl (by kernel_rfl) (by kernel_rfl) (by kernel_rfl) (fun _ _ _ h => h) (Or.inl ⟨by kernel_rfl, ?_⟩) ?_; rotate_left; focus ((intro w'); go_simp; (try with_reducible rfl))
          refine wpAny_take (i := 9) (v := ?_) rfl (by kernel_rfl) (by kernel_rfl) (by kernel_rfl) (fun _ _ _ h => h) (Or.inl ⟨by kernel_rfl, ?_⟩) ?_; rotate_left; focus ((intro w'); go_simp; (try with_reducible rfl))
          apply join
          · intro hG
            refine wpAny_ready (rs := [0, 5, 10]) (by kernel_rfl) (by simp) ?_
            refine AllReady.cons rfl (fun K hK => ?_) (AllReady.cons rfl (fun K hK => ?_) (AllReady.cons rfl (fun K hK => ?_) AllReady.nil))
            · go_simp
              refine hK _ _ ?_
              clear hK K
              refine wpAny_ready (rs := [5, 10]) (by kernel_rfl) (by simp) ?_
              refine AllReady.cons rfl (fun K hK => ?_) (AllReady.cons rfl (fun K hK => ?_) AllReady.nil)
              · go_simp
                refine hK _ _ ?_
                clear hK K
                refine wpAny_ready (rs := [10]) (by kernel_rfl) (by simp) ?_
                refine AllReady.cons rfl (fun K hK => ?_) AllReady.nil
                go_simp
                refine hK _ _ ?_
                clear hK K
                exact hG
              · go_simp
                refine hK _ _ ?_
                clear hK K
                refine wpAny_ready (rs := [5]) (by kernel_rfl) (by simp) ?_
                refine AllReady.cons rfl (fun K hK => ?_) AllReady.nil
                go_simp
                refine hK _ _ ?_
                clear hK K
                exact hG
            · go_simp
              refine hK _ _ ?_
              clear hK K
              refine wpAny_ready (rs := [0, 10]) (by kernel_rfl) (by simp) ?_
              refine AllReady.cons rfl (fun K hK => ?_) (AllReady.cons rfl (fun K hK => ?_) AllReady.nil)
              · go_simp
                refine hK _ _ ?_
                clear hK K
                refine wpAny_ready (rs := [10]) (by kernel_rfl) (by simp) ?_
                refine AllReady.cons rfl (fun K hK => ?_) AllReady.nil
                go_simp
                refine hK _ _ ?_
                clear hK K
                exact hG
              · go_simp
                refine hK _ _ ?_
                clear hK K
                refine wpAny_ready (rs := [0]) (by kernel_rfl) (by simp) ?_
                refine AllReady.cons rfl (fun K hK => ?_) AllReady.nil
                go_simp
                refine hK _ _ ?_
                clear hK K
                exact hG
            · go_simp
              refine hK _ _ ?_
              clear hK K
              refine wpAny_ready (rs := [0, 5]) (by kernel_rfl) (by simp) ?_
              refine AllReady.cons rfl (fun K hK => ?_) (AllReady.cons rfl (fun K hK => ?_) AllReady.nil)
              · go_simp
                refine hK _ _ ?_
                clear hK K
                refine wpAny_ready (rs := [5]) (by kernel_rfl) (by simp) ?_
                refine AllReady.cons rfl (fun K hK => ?_) AllReady.nil
                go_simp
                refine hK _ _ ?_
                clear hK K
                exact hG
              · go_simp
                refine hK _ _ ?_
                clear hK K
                refine wpAny_ready (rs := [0]) (by kernel_rfl) (by simp) ?_
                refine AllReady.cons rfl (fun K hK => ?_) AllReady.nil
                go_simp
                refine hK _ _ ?_
                clear hK K
                exact hG
          clear q0 q1 q2 q3 q4 q5 ck cn
          refine wpAny_ready (rs := [11]) (by kernel_rfl) (by simp) ?_
          refine AllReady.cons rfl (fun K hK => ?_) AllReady.nil
          go_simp
          refine (HD.out _).mono ?_
          rintro e c3 ⟨rfl, hb⟩
          have HR3 := Lib.hid (HR.out.drew.keep hb)
          clear HR hb
          refine hK _ _ ?_
          clear hK K
          refine wpAny_take (i := 12) (v := ?_) rfl (by kernel_rfl) (by kernel_rfl) (by kernel_rfl) (fun _ _ _ h => h) (Or.inl ⟨by kernel_rfl, ?_⟩) ?_; rotate_left; focus ((intro w'); go_simp; (try with_reducible rfl))
          refine wpAny_take (i := 13) (v := ?_) rfl (by kernel_rfl) (by kernel_rfl) (by kernel_rfl) (fun _ _ _ h => h) (Or.inl ⟨by kernel_rfl, ?_⟩) ?_; rotate_left; focus ((intro w'); go_simp; (try with_reducible rfl))
          refine wpAny_take (i := 14) (v := ?_) rfl (by kernel_rfl) (by kernel_rfl) (by kernel_rfl) (fun _ _ _ h => h) (Or.inl ⟨by kernel_rfl, ?_⟩) ?_; rotate_left; focus ((intro w'); go_simp; (try with_reducible rfl))
          obtain ⟨z0, z1, z2, z3, z4, z5⟩ := cells6 HR3.out.at1
          obtain ⟨f0, f1, f2, f3, f4, f5⟩ := free6 HR3.out.at1
          refine Mix.wpAny_of_seqV [15, 16] _ _ _ (by kernel_rfl) ?_
          simp only [Mix.pick, List.filterMap_cons, List.filterMap_nil, List.getElem?_cons_zero, List.getElem?_cons_succ]
          go_wp2_with fail
          go_meet
          exact ⟨y, er, rfl, Lib.hid ⟨HR3.out.put y, by rw [if_pos (by decide)]; exact HTD.out⟩⟩
        by_cases e3 : k = 3
        · subst e3
          have HC := Lib.hid (fun w y er (h : moveV x 3 n = (y, er)) => lmove_is x 3 n y er w (by have := HSX.out; omega) h)
          have HTD := Lib.hid (move_told HSX.out 3 n)
          obtain ⟨y, er, hv⟩ : ∃ y er, moveV x 3 n = (y, er) := ⟨_, _, rfl⟩
          rw [hv] at HTD
          have HD := Lib.hid (fun w => HC.out w y er hv)
          clear HC hv
          go_wp2_with fail
          refine wp_region_any (by kernel_rfl) ?_
          change wpAny _ _ _ _ _ _ _ (World.drew _)
          refine wpAny_take (i := 1) (v := ?_) rfl (by kernel_rfl) (by kernel_rfl) (by kernel_rfl) (fun _ _ _ h => h) (Or.inl ⟨by kernel_rfl, ?_⟩) ?_; rotate_left; focus ((intro w'); go_simp; (try with_reducible rfl))
          refine wpAny_take (i := 2) (v := ?_) rfl (by kernel_rfl) (by kernel_rfl) (by kernel_rfl) (fun _ _ _ h => h) (Or.inl ⟨by kernel_rfl, ?_⟩) ?_; rotate_left; focus ((intro w'); go_simp; (try with_reducible rfl))
          refine wpAny_take (i := 3) (v := ?_) rfl (by kernel_rfl) (by kernel_rfl) (by kernel_rfl) (fun _ _ _ h => h) (Or.inl ⟨by kernel_rfl, ?_⟩) ?_; rotate_left; focus ((intro w'); go_simp; (try with_reducible rfl))
          refine wpAny_take (i := 4) (v := ?_) rfl (by kernel_rfl) (by kernel_rfl) (by kernel_rfl) (fun _ _ _ h => h) (Or.inl ⟨by kernel_rfl, ?_⟩) ?_; rotate_left; focus ((intro w'); go_simp; (try with_reducible rfl))
          refine wpAny_take (i := 6) (v := ?_) rfl (by kernel_rfl) (by kernel_rfl) (by kernel_rfl) (fun _ _ _ h => h) (Or.inl ⟨by kernel_rfl, ?_⟩) ?_; rotate_left; focus ((intro w'); go_simp; (try with_reducible rfl))
          refine wpAny_take (i := 7) (v := ?_) rfl (by kernel_rfl) (by kernel_rfl) (by kernel_rfl) (fun _ _ _ h => h) (Or.inl ⟨by kernel_rfl, ?_⟩) ?_; rotate_left; focus ((intro w'); go_simp; (try with_reducible rfl))
          refine wpAny_take (i := 8) (v := ?_) rfl (by kernel_rfl) (by kernel_rfl) (by kernel_rfl) (fun _ _ _ h => h) (Or.inl ⟨by kernel_rfl, ?_⟩) ?_; rotate_left; focus ((intro w'); go_simp; (try with_reducible rfl))
          refine wpAny_take (i := 9) (v := ?_) rfl (by kernel_rfl) (by kernel_rfl) (by kernel_rfl) (fun _ _ _ h => h) (Or.inl ⟨by kernel_rfl, ?_⟩) ?_; rotate_left; focus ((intro w'); go_simp; (try with_reducible rfl))
          apply join
          · intro hG
            refine wpAny_ready (rs := [0, 5, 10]) (by kernel_rfl) (by simp) ?_
            refine AllReady.cons rfl (fun K hK => ?_) (AllReady.cons rfl (fun K hK => ?_) (AllReady.cons rfl (fun K hK => ?_) AllReady.nil))
            · go_simp
              refine hK _ _ ?_
              clear hK K
              refine wpAny_ready (rs := [5, 10]) (by kernel_rfl) (by simp) ?_
              refine AllReady.cons rfl (fun K hK => ?_) (AllReady.cons rfl (fun K hK => ?_) AllReady.nil)
              · go_simp
                refine hK _ _ ?_
                clear hK K
                refine wpAny_ready (rs := [10]) (by kernel_rfl) (by simp) ?_
                refine AllReady.cons rfl (fun K hK => ?_) AllReady.nil
                go_simp
                refine hK _ _ ?_
                clear hK K
                exact hG
              · go_simp
                refine hK _ _ ?_
                clear hK K
                refine wpAny_ready (rs := [5]) (by kernel_rfl) (by simp) ?_
                refine AllReady.cons rfl (fun K hK => ?_) AllReady.nil
                go_simp
                refine hK _ _ ?_
                clear hK K
                exact hG
            · go_simp
              refine hK _ _ ?_
              clear hK K
              refine wpAny_ready (rs := [0, 10]) (by kernel_rfl) (by simp) ?_
              refine AllReady.cons rfl (fun K hK => ?_) (AllReady.cons rfl (fun K hK => ?_) AllReady.nil)
              · go_simp
                refine hK _ _ ?_
                clear hK K
                refine wpAny_ready (rs := [10]) (by kernel_rfl) (by simp) ?_
                refine AllReady.cons rfl (fun K hK => ?_) AllReady.nil
                go_simp
                refine hK _ _ ?_
                clear hK K
                exact hG
              · go_simp
                refine hK _ _ ?_
                clear hK K
                refine wpAny_ready (rs := [0]) (by kernel_rfl) (by simp) ?_
                refine AllReady.cons rfl (fun K hK => ?_) AllReady.nil
                go_simp
                refine hK _ _ ?_
                clear hK K
                exact hG
            · go_simp
              refine hK _ _ ?_
              clear hK K
              refine wpAny_ready (rs := [0, 5]) (by kernel_rfl) (by simp) ?_
              refine AllReady.cons rfl (fun K hK => ?_) (AllReady.cons rfl (fun K hK => ?_) AllReady.nil)
              · go_simp
                refine hK _ _ ?_
                clear hK K
                refine wpAny_ready (rs := [5]) (by kernel_rfl) (by simp) ?_
                refine AllReady.cons rfl (fun K hK => ?_) AllReady.nil
                go_simp
                refine hK _ _ ?_
                clear hK K
                exact hG
              · go_simp
                refine hK _ _ ?_
                clear hK K
                refine wpAny_ready (rs := [0]) (by kernel_rfl) (by simp) ?_
                refine AllReady.cons rfl (fun K hK => ?_) AllReady.nil
                go_simp
                refine hK _ _ ?_
                clear hK K
                exact hG
          clear q0 q1 q2 q3 q4 q5 ck cn
          refine wpAny_ready (rs := [11]) (by kernel_rfl) (by simp) ?_
          refine AllReady.cons rfl (fun K hK => ?_) AllReady.nil
          go_simp
          refine (HD.out _).mono ?_
          rintro e c3 ⟨rfl, hb⟩
          have HR3 := Lib.hid (HR.out.drew.keep hb)
          clear HR hb
          refine hK _ _ ?_
          clear hK K
          refine wpAny_take (i := 12) (v := ?_) rfl (by kernel_rfl) (by kernel_rfl) (by kernel_rfl) (fun _ _ _ h => h) (Or.inl ⟨by kernel_rfl, ?_⟩) ?_; rotate_left; focus ((intro w'); go_simp; (try with_reducible rfl))
          refine wpAny_take (i := 13) (v := ?_) rfl (by kernel_rfl) (by kernel_rfl) (by kernel_rfl) (fun _ _ _ h => h) (Or.inl ⟨by kernel_rfl, ?_⟩) ?_; rotate_left; focus ((intro w'); go_simp; (try with_reducible rfl))
          refine wpAny_take (i := 14) (v := ?_) rfl (by kernel_rfl) (by kernel_rfl) (by kernel_rfl) (fun _ _ _ h => h) (Or.inl ⟨by kernel_rfl, ?_⟩) ?_; rotate_left; focus ((intro w'); go_simp; (try with_reducible rfl))
          obtain ⟨z0, z1, z2, z3, z4, z5⟩ := cells6 HR3.out.at1
          obtain ⟨f0, f1, f2, f3, f4, f5⟩ := free6 HR3.out.at1
          refine Mix.wpAny_of_seqV [15, 16] _ _ _ (by kernel_rfl) ?_
          simp only [Mix.pick, List.filterMap_cons, List.filterMap_nil, List.getElem?_cons_zero, List.getElem?_cons_succ]
          go_wp2_with fail
          go_meet
          exact ⟨y, er, rfl, Lib.hid ⟨HR3.out.put y, by rw [if_pos (by decide)]; exact HTD.out⟩⟩
        by_cases e4 : k = 4
        · subst e4
          have HC := Lib.hid (fun w y er (h : moveV x 4 n = (y, er)) => lmove_is x 4 n y er w (by have := HSX.out; omega) h)
          have HTD := Lib.hid (move_told HSX.out 4 n)
          obtain ⟨y, er, hv⟩ : ∃ y er, moveV x 4 n = (y, er) := ⟨_, _, rfl⟩
          rw [hv] at HTD
          have HD := Lib.hid (fun w => HC.out w y er hv)
          clear HC hv
          go_wp2_with fail
          refine wp_region_any (by kernel_rfl) ?_
          change wpAny _ _ _ _ _ _ _ (World.drew _)
          refine wpAny_take (i := 1) (v := ?_) rfl (by kernel_rfl) (by kernel_rfl) (by kernel_rfl) (fun _ _ _ h => h) (Or.inl ⟨by kernel_rfl, ?_⟩) ?_; rotate_left; focus ((intro w'); go_simp; (try with_reducible rfl))
          refine wpAny_take (i := 2) (v := ?_) rfl (by kernel_rfl) (by kernel_rfl) (by kernel_rfl) (fun _ _ _ h => h) (Or.inl ⟨by kernel_rfl, ?_⟩) ?_; rotate_left; focus ((intro w'); go_simp; (try with_reducible rfl))
          refine wpAny_take (i := 3) (v := ?_) rfl (by kernel_rfl) (by kernel_rfl) (by kernel_rfl) (fun _ _ _ h => h) (Or.inl ⟨by kernel_rfl, ?_⟩) ?_; rotate_left; focus ((intro w'); go_simp; (try with_reducible rfl))
          refine wpAny_take (i := 4) (v := ?_) rfl (by kernel_rfl) (by kernel_rfl) (by kernel_rfl) (fun _ _ _ h => h) (Or.inl ⟨by kernel_rfl, ?_⟩) ?_; rotate_left; focus ((intro w'); go_simp; (try with_reducible rfl))
          refine wpAny_take (i := 6) (v := ?_) rfl (by kernel_rfl) (by kernel_rfl) (by kernel_rfl) (fun _ _ _ h => h) (Or.inl ⟨by kernel_rfl, ?_⟩) ?_; rotate_left; focus ((intro w'); go_simp; (try with_reducible rfl))
          refine wpAny_take (i := 7) (v := ?_) rfl (by kernel_rfl) (by kernel_rfl) (by kernel_rfl) (fun _ _ _ h => h) (Or.inl ⟨by kernel_rfl, ?_⟩) ?_; rotate_left; focus ((intro w'); go_simp; (try with_reducible rfl))
          refine wpAny_take (i := 8) (v := ?_) rfl (by kernel_rfl) (by kernel_rfl) (by kernel_rfl) (fun _ _ _ h => h) (Or.inl ⟨by kernel_rfl, ?_⟩) ?_; rotate_left; focus ((intro w'); go_simp; (try with_reducible rfl))
          refine wpAny_take (i := 9) (v := ?_) rfl (by kernel_rfl) (by kernel_rfl) (by kernel_rfl) (fun _ _ _ h => h) (Or.inl ⟨by kernel_rfl, ?_⟩) ?_; rotate_left; focus ((intro w'); go_simp; (try with_reducible rfl))
          apply join
          · intro hG
            refine wpAny_ready (rs := [0, 5, 10]) (by kernel_rfl) (by simp) ?_
            refine AllReady.cons rfl (fun K hK => ?_) (AllReady.cons rfl (fun K hK => ?_) (AllReady.cons rfl (fun K hK => ?_) AllReady.nil))
            · go_simp
              refine hK _ _ ?_
              clear hK K
              refine wpAny_ready (rs := [5, 10]) (by kernel_rfl) (by simp) ?_
              refine AllReady.cons rfl (fun K hK => ?_) (AllReady.cons rfl (fun K hK => ?_) AllReady.nil)
              · go_simp
                refine hK _ _ ?_
                clear hK K
                refine wpAny_ready (rs := [10]) (by kernel_rfl) (by simp) ?_
                refine AllReady.cons rfl (fun K hK => ?_) AllReady.nil
                go_simp
                refine hK _ _ ?_
                clear hK K
                exact hG
              · go_simp
                refine hK _ _ ?_
                clear hK K
                refine wpAny_ready (rs := [5]) (by kernel_rfl) (by simp) ?_
                refine AllReady.cons rfl (fun K hK => ?_) AllReady.nil
                go_simp
                refine hK _ _ ?_
                clear hK K
                exact hG
            · go_simp
              refine hK _ _ ?_
              clear hK K
              refine wpAny_ready (rs := [0, 10]) (by kernel_rfl) (by simp) ?_
              refine AllReady.cons rfl (fun K hK => ?_) (AllReady.cons rfl (fun K hK => ?_) AllReady.nil)
              · go_simp
                refine hK _ _ ?_
                clear hK K
                refine wpAny_ready (rs := [10]) (by kernel_rfl) (by simp) ?_
                refine AllReady.cons rfl (fun K hK => ?_) AllReady.nil
                go_simp
                refine hK _ _ ?_
                clear hK K
                exact hG
              · go_simp
                refine hK _ _ ?_
                clear hK K
                refine wpAny_ready (rs := [0]) (by kernel_rfl) (by simp) ?_
                refine AllReady.cons rfl (fun K hK => ?_) AllReady.nil
                go_simp
                refine hK _ _ ?_
                clear hK K
                exact hG
            · go_simp
              refine hK _ _ ?_
              clear hK K
              refine wpAny_ready (rs := [0, 5]) (by kernel_rfl) (by simp) ?_
              refine AllReady.cons rfl (fun K hK => ?_) (AllReady.cons rfl (fun K hK => ?_) AllReady.nil)
              · go_simp
                refine hK _ _ ?_
                clear hK K
                refine wpAny_ready (rs := [5]) (by kernel_rfl) (by simp) ?_
                refine AllReady.cons rfl (fun K hK => ?_) AllReady.nil
                go_simp
                refine hK _ _ ?_
                clear hK K
                exact hG
              · go_simp
                refine hK _ _ ?_
                clear hK K
                refine wpAny_ready (rs := [0]) (by kernel_rfl) (by simp) ?_
                refine AllReady.cons rfl (fun K hK => ?_) AllReady.nil
                go_simp
                refine hK _ _ ?_
                clear hK K
                exact hG
          clear q0 q1 q2 q3 q4 q5 ck cn
          refine wpAny_ready (rs := [11]) (by kernel_rfl) (by simp) ?_
          refine AllReady.cons rfl (fun K hK => ?_) AllReady.nil
          go_simp
          refine (HD.out _).mono ?_
          rintro e c3 ⟨rfl, hb⟩
          have HR3 := Lib.hid (HR.out.drew.keep hb)
          clear HR hb
          refine hK _ _ ?_
          clear hK K
          refine wpAny_take (i := 12) (v := ?_) rfl (by kernel_rfl) (by kernel_rfl) (by kernel_rfl) (fun _ _ _ h => h) (Or.inl ⟨by kernel_rfl, ?_⟩) ?_; rotate_left; focus ((intro w'); go_simp; (try with_reducible rfl))
          refine wpAny_take (i := 13) (v := ?_) rfl (by kernel_rfl) (by kernel_rfl) (by kernel_rfl) (fun _ _ _ h => h) (Or.inl ⟨by kernel_rfl, ?_⟩) ?_; rotate_left; focus ((intro w'); go_simp; (try with_reducible rfl))
          refine wpAny_take (i := 14) (v := ?_) rfl (by kernel_rfl) (by kernel_rfl) (by kernel_rfl) (fun _ _ _ h => h) (Or.inl ⟨by kernel_rfl, ?_⟩) ?_; rotate_left; focus ((intro w'); go_simp; (try with_reducible rfl))
          obtain ⟨z0, z1, z2, z3, z4, z5⟩ := cells6 HR3.out.at1
          obtain ⟨f0, f1, f2, f3, f4, f5⟩ := free6 HR3.out.at1
          refine Mix.wpAny_of_seqV [15, 16] _ _ _ (by kernel_rfl) ?_
          simp only [Mix.pick, List.filterMap_cons, List.filterMap_nil, List.getElem?_cons_zero, List.getElem?_cons_succ]
          go_wp2_with fail
          go_meet
          exact ⟨y, er, rfl, Lib.hid ⟨HR3.out.put y, by rw [if_pos (by decide)]; exact HTD.out⟩⟩
        by_cases e5 : k = 5
        · subst e5
          have HC := Lib.hid (fun w y er (h : moveV x 5 n = (y, er)) => lmove_is x 5 n y er w (by have := HSX.out; omega) h)
          have HTD := Lib.hid (move_told HSX.out 5 n)
          obtain ⟨y, er, hv⟩ : ∃ y er, moveV x 5 n = (y, er) := ⟨_, _, rfl⟩
          rw [hv] at HTD
          have HD := Lib.hid (fun w => HC.out w y er hv)
          clear HC hv
          go_wp2_with fail
          refine wp_region_any (by kernel_rfl) ?_
          change wpAny _ _ _ _ _ _ _ (World.drew _)
          refine wpAny_take (i := 1) (v := ?_) rfl (by kernel_rfl) (by kernel_rfl) (by kernel_rfl) (fun _ _ _ h => h) (Or.inl ⟨by kernel_rfl, ?_⟩) ?_; rotate_left; focus ((intro w'); go_simp; (try with_reducible rfl))
          refine wpAny_take (i := 2) (v := ?_) rfl (by kernel_rfl) (by kernel_rfl) (by kernel_rfl) (fun _ _ _ h => h) (Or.inl ⟨by kernel_rfl, ?_⟩) ?_; rotate_left; focus ((intro w'); go_simp; (try with_reducible rfl))
          refine wpAny_take (i := 3) (v := ?_) rfl (by kernel_rfl) (by kernel_rfl) (by kernel_rfl) (fun _ _ _ h => h) (Or.inl ⟨by kernel_rfl, ?_⟩) ?_; rotate_left; focus ((intro w'); go_simp; (try with_reducible rfl))
          refine wpAny_take (i := 4) (v := ?_) rfl (by kernel_rfl) (by kernel_rfl) (by kernel_rfl) (fun _ _ _ h => h) (Or.inl ⟨by kernel_rfl, ?_⟩) ?_; rotate_left; focus ((intro w'); go_simp; (try with_reducible rfl))
          refine wpAny_take (i := 6) (v := ?_) rfl (by kernel_rfl) (by kernel_rfl) (by kernel_rfl) (fun _ _ _ h => h) (Or.inl ⟨by kernel_rfl, ?_⟩) ?_; rotate_left; focus ((intro w'); go_simp; (try with_reducible rfl))
          refine wpAny_take (i := 7) (v := ?_) rfl (by kernel_rfl) (by kernel_rfl) (by kernel_rfl) (fun _ _ _ h => h) (Or.inl ⟨by kernel_rfl, ?_⟩) ?_; rotate_left; focus ((intro w'); go_simp; (try with_reducible rfl))
          refine wpAny_take (i := 8) (v := ?_) rfl (by kernel_rfl) (by kernel_rfl) (by kernel_rfl) (fun _ _ _ h => h) (Or.inl ⟨by kernel_rfl, ?_⟩) ?_; rotate_left; focus ((intro w'); go_simp; (try with_reducible rfl))
          refine wpAny_take (i := 9) (v := ?_) rfl (by kernel_rfl) (by kernel_rfl) (by kernel_rfl) (fun _ _ _ h => h) (Or.inl ⟨by kernel_rfl, ?_⟩) ?_; rotate_left; focus ((intro w'); go_simp; (try with_reducible rfl))
          apply join
          · intro hG
            refine wpAny_ready (rs := [0, 5, 10]) (by kernel_rfl) (by simp) ?_
            refine AllReady.cons rfl (fun K hK => ?_) (AllReady.cons rfl (fun K hK => ?_) (AllReady.cons rfl (fun K hK => ?_) AllReady.nil))
            · go_simp
              refine hK _ _ ?_
              clear hK K
              refine wpAny_ready (rs := [5, 10]) (by kernel_rfl) (by simp) ?_
              refine AllReady.cons rfl (fun K hK => ?_) (AllReady.cons rfl (fun K hK => ?_) AllReady.nil)
              · go_simp
                refine hK _ _ ?_
                clear hK K
                refine wpAny_ready (rs := [10]) (by kernel_rfl) (by simp) ?_
                refine AllReady.cons rfl (fun K hK => ?_) AllReady.nil
                go_simp
                refine hK _ _ ?_
                clear hK K
                exact hG
              · go_simp
                refine hK _ _ ?_
                clear hK K
                refine wpAny_ready (rs := [5]) (by kernel_rfl) (by simp) ?_
                refine AllReady.cons rfl (fun K hK => ?_) AllReady.nil
                go_simp
                refine hK _ _ ?_
                clear hK K
                exact hG
            · go_simp
              refine hK _ _ ?_
              clear hK K
              refine wpAny_ready (rs := [0, 10]) (by kernel_rfl) (by simp) ?_
              refine AllReady.cons rfl (fun K hK => ?_) (AllReady.cons rfl (fun K hK => ?_) AllReady.nil)
              · go_simp
                refine hK _ _ ?_
                clear hK K
                refine wpAny_ready (rs := [10]) (by kernel_rfl) (by simp) ?_
                refine AllReady.cons rfl (fun K hK => ?_) AllReady.nil
                go_simp
                refine hK _ _ ?_
                clear hK K
                exact hG
              · go_simp
                refine hK _ _ ?_
                clear hK K
                refine wpAny_ready (rs := [0]) (by kernel_rfl) (by simp) ?_
                refine AllReady.cons rfl (fun K hK => ?_) AllReady.nil
                go_simp
                refine hK _ _ ?_
                clear hK K
                exact hG
            · go_simp
              refine hK _ _ ?_
              clear hK K
              refine wpAny_ready (rs := [0, 5]) (by kernel_rfl) (by simp) ?_
              refine AllReady.cons rfl (fun K hK => ?_) (AllReady.cons rfl (fun K hK => ?_) AllReady.nil)
              · go_simp
                refine hK _ _ ?_
                clear hK K
                refine wpAny_ready (rs := [5]) (by kernel_rfl) (by simp) ?_
                refine AllReady.cons rfl (fun K hK => ?_) AllReady.nil
                go_simp
                refine hK _ _ ?_
                clear hK K
                exact hG
              · go_simp
                refine hK _ _ ?_
                clear hK K
                refine wpAny_ready (rs := [0]) (by kernel_rfl) (by simp) ?_
                refine AllReady.cons rfl (fun K hK => ?_) AllReady.nil
                go_simp
                refine hK _ _ ?_
                clear hK K
                exact hG
          clear q0 q1 q2 q3 q4 q5 ck cn
          refine wpAny_ready (rs := [11]) (by kernel_rfl) (by simp) ?_
          refine AllReady.cons rfl (fun K hK => ?_) AllReady.nil
          go_simp
          refine (HD.out _).mono ?_
          rintro e c3 ⟨rfl, hb⟩
          have HR3 := Lib.hid (HR.out.drew.keep hb)
          clear HR hb
          refine hK _ _ ?_
          clear hK K
          refine wpAny_take (i := 12) (v := ?_) rfl (by kernel_rfl) (by kernel_rfl) (by kernel_rfl) (fun _ _ _ h => h) (Or.inl ⟨by kernel_rfl, ?_⟩) ?_; rotate_left; focus ((intro w'); go_simp; (try with_reducible rfl))
          refine wpAny_take (i := 13) (v := ?_) rfl (by kernel_rfl) (by kernel_rfl) (by kernel_rfl) (fun _ _ _ h => h) (Or.inl ⟨by kernel_rfl, ?_⟩) ?_; rotate_left; focus ((intro w'); go_simp; (try with_reducible rfl))
          refine wpAny_take (i := 14) (v := ?_) rfl (by kernel_rfl) (by kernel_rfl) (by kernel_rfl) (fun _ _ _ h => h) (Or.inl ⟨by kernel_rfl, ?_⟩) ?_; rotate_left; focus ((intro w'); go_simp; (try with_reducible rfl))
          obtain ⟨z0, z1, z2, z3, z4, z5⟩ := cells6 HR3.out.at1
          obtain ⟨f0, f1, f2, f3, f4, f5⟩ := free6 HR3.out.at1
          refine Mix.wpAny_of_seqV [15, 16] _ _ _ (by kernel_rfl) ?_
          simp only [Mix.pick, List.filterMap_cons, List.filterMap_nil, List.getElem?_cons_zero, List.getElem?_cons_succ]
          go_wp2_with fail
          go_meet
          exact ⟨y, er, rfl, Lib.hid ⟨HR3.out.put y, by rw [if_pos (by decide)]; exact HTD.out⟩⟩
        have t6 : (k == 6) = false := beq_eq_false_iff_ne.2 e6
        have t1 : (k == 1) = false := beq_eq_false_iff_ne.2 e1
        have t2 : (k == 2) = false := beq_eq_false_iff_ne.2 e2
        have t3 : (k == 3) = false := beq_eq_false_iff_ne.2 e3
        have t4 : (k == 4) = false := beq_eq_false_iff_ne.2 e4
        have t5 : (k == 5) = false := beq_eq_false_iff_ne.2 e5
        · have hif : ¬ (1 ≤ k ∧ k ≤ 5) := by omega
          clear e6 e1 e2 e3 e4 e5
          have HC := Lib.hid (fun w y er (h : adjustV x n = (y, er)) => sadjust_is x n y er w (by have := HSX.out; omega) h)
          have HTD := Lib.hid (adjust_told HSX.out n)
          obtain ⟨y, er, hv⟩ : ∃ y er, adjustV x n = (y, er) := ⟨_, _, rfl⟩
          rw [hv] at HTD
          have HD := Lib.hid (fun w => HC.out w y er hv)
          clear HC hv
          go_wp2_with fail
          refine wp_region_any (by kernel_rfl) ?_
          change wpAny _ _ _ _ _ _ _ (World.drew _)
          refine wpAny_take (i := 1) (v := ?_) rfl (by kernel_rfl) (by kernel_rfl) (by kernel_rfl) (fun _ _ _ h => h) (Or.inl ⟨by kernel_rfl, ?_⟩) ?_; rotate_left; focus ((intro w'); go_simp; (try with_reducible rfl))
          refine wpAny_take (i := 2) (v := ?_) rfl (by kernel_rfl) (by kernel_rfl) (by kernel_rfl) (fun _ _ _ h => h) (Or.inl ⟨by kernel_rfl, ?_⟩) ?_; rotate_left; focus ((intro w'); go_simp; (try with_reducible rfl))
          refine wpAny_take (i := 3) (v := ?_) rfl (by kernel_rfl) (by kernel_rfl) (by kernel_rfl) (fun _ _ _ h => h) (Or.inl ⟨by kernel_rfl, ?_⟩) ?_; rotate_left; focus ((intro w'); go_simp; (try with_reducible rfl))
          refine wpAny_take (i := 4) (v := ?_) rfl (by kernel_rfl) (by kernel_rfl) (by kernel_rfl) (fun _ _ _ h => h) (Or.inl ⟨by kernel_rfl, ?_⟩) ?_; rotate_left; focus ((intro w'); go_simp; (try with_reducible rfl))
          apply join
          · intro hG
            refine wpAny_ready (rs := [0, 5]) (by kernel_rfl) (by simp) ?_
            refine AllReady.cons rfl (fun K hK => ?_) (AllReady.cons rfl (fun K hK => ?_) AllReady.nil)
            · go_simp
              refine hK _ _ ?_
              clear hK K
              refine wpAny_ready (rs := [5]) (by kernel_rfl) (by simp) ?_
              refine AllReady.cons rfl (fun K hK => ?_) AllReady.nil
              go_simp
              refine hK _ _ ?_
              clear hK K
              exact hG
            · go_simp
              refine hK _ _ ?_
              clear hK K
              refine wpAny_ready (rs := [0]) (by kernel_rfl) (by simp) ?_
              refine AllReady.cons rfl (fun K hK => ?_) AllReady.nil
              go_simp
              refine hK _ _ ?_
              clear hK K
              exact hG
          clear q0 q1 q2 q3 q4 q5 ck cn
          refine wpAny_ready (rs := [6]) (by kernel_rfl) (by simp) ?_
          refine AllReady.cons rfl (fun K hK => ?_) AllReady.nil
          go_simp
          refine (HD.out _).mono ?_
          rintro e c3 ⟨rfl, hb⟩
          have HR3 := Lib.hid (HR.out.drew.keep hb)
          clear HR hb
          refine hK _ _ ?_
          clear hK K
          refine wpAny_take (i := 7) (v := ?_) rfl (by kernel_rfl) (by kernel_rfl) (by kernel_rfl) (fun _ _ _ h => h) (Or.inl ⟨by kernel_rfl, ?_⟩) ?_; rotate_left; focus ((intro w'); go_simp; (try with_reducible rfl))
          refine wpAny_take (i := 8) (v := ?_) rfl (by kernel_rfl) (by kernel_rfl) (by kernel_rfl) (fun _ _ _ h => h) (Or.inl ⟨by kernel_rfl, ?_⟩) ?_; rotate_left; focus ((intro w'); go_simp; (try with_reducible rfl))
          refine wpAny_take (i := 9) (v := ?_) rfl (by kernel_rfl) (by kernel_rfl) (by kernel_rfl) (fun _ _ _ h => h) (Or.inl ⟨by kernel_rfl, ?_⟩) ?_; rotate_left; focus ((intro w'); go_simp; (try with_reducible rfl))
          obtain ⟨z0, z1, z2, z3, z4, z5⟩ := cells6 HR3.out.at1
          obtain ⟨f0, f1, f2, f3, f4, f5⟩ := free6 HR3.out.at1
          refine Mix.wpAny_of_seqV [10, 11] _ _ _ (by kernel_rfl) ?_
          simp only [Mix.pick, List.filterMap_cons, List.filterMap_nil, List.getElem?_cons_zero, List.getElem?_cons_succ]
          go_wp2_with fail
          go_meet
          exact ⟨y, er, rfl, Lib.hid ⟨HR3.out.put y, by rw [if_neg hif]; exact HTD.out⟩⟩
      case rest =>
        obtain ⟨y, er, rfl, hrt⟩ := hcut
        clear HR q0 q1 q2 q3 q4 q5 ck cn
        have HE := Lib.hid hrt.out.1
        have htd := hrt.out.2
        clear hrt
        rcases htd with ⟨er2, h2, hne⟩ | ⟨y2, h2, hfy, hsy, hty, htl, htm⟩
        · simp only [Prod.mk.injEq] at h2
          obtain ⟨rfl, rfl⟩ := h2
          have hne2 : (er != 0) = true := bne_iff_ne.2 hne
          have h1 : At6 wc b1 (.string ⟨#[]⟩) (.int .i64 0) (.int .i64 0) (.int .i64 0) (.int .i64 0) (.int .i64 0) := HE.out.at1
          obtain ⟨z0, z1, z2, z3, z4, z5⟩ := cells6 h1
          clear hne h1
          go_wp2_with fail
          go_roundg (len - (j + 1))
          case measure => omega
          case rel => exact ⟨j + 1, x, by omega, rfl, rfl, by go_num, Lib.hid (HE.out.skip HFX.out HSX.out)⟩
        · simp only [Prod.mk.injEq] at h2
          obtain ⟨rfl, rfl⟩ := h2
          have HFY := Lib.hid hfy
          have HSY := Lib.hid hsy
          have HYF := Lib.hid (fun w => sfit_is y.nm y.hand y.held y.kept y.sent y.inn true w (by have := HSY.out; omega) (fitS_iff.2 hfy))
          have hfu := HFY.out.up; have hfs := HFY.out.sum; have g1 := HFY.out.hand; have g2 := HFY.out.held; have g3 := HFY.out.kept; have g4 := HFY.out.sent
          obtain ⟨g5, g6, g7, g8, _⟩ := hfu
          obtain ⟨m, hm0, hmin⟩ := min4 (P := Try.prog) g1 g2 g3 g4
          have ck := (HE.out.bel.cell (p := ⟨b, off + j * 2, none⟩) HBL.out).trans HW0.out.1
          have cn := (HE.out.bel.cell (p := ⟨b, off + j * 2 + 1, none⟩) HBL.out).trans HW0.out.2
          obtain ⟨q0, q1, q2, q3, q4, q5⟩ := cells6 HE.out.at0
          obtain ⟨k0, k1, k2, k3, k4, k5⟩ := free6 HE.out.at0
          obtain ⟨z0, z1, z2, z3, z4, z5⟩ := cells6 HE.out.at1
          clear hfy hsy
          by_cases hlow : k < 1
          · rw [if_neg (by omega)] at hty htl htm
            have HTY := Lib.hid hty
            have i1 : (y.inn != x.inn + n) = false := by rw [HTY.out]; simp
            have i2 : (y.hand + y.held + y.kept + y.sent != x.inn + n) = false := by rw [hfs, HTY.out]; simp
            clear hfs hty
            go_wp2_with fail
            refine (HYF.out _).mono ?_
            rintro z c5 ⟨rfl, hb⟩
            have HT1 := HE.out.turn
            unfold put6 at HT1
            have HZ := Lib.hid (Bal.mk (below_on HT1.1 HT1.1.size hb) HE.out.le.1 (At6.keep HT1.2 hb) HFY.out HSY.out)
            clear hb HT1
            go_wp2_with fail
            go_roundg (len - (j + 1))
            case measure => omega
            case rel => exact ⟨j + 1, y, by omega, rfl, by rw [HTY.out], by go_num, HZ⟩
          · by_cases hhigh : 5 < k
            · rw [if_neg (by omega)] at hty htl htm
              have HTY := Lib.hid hty
              have i1 : (y.inn != x.inn + n) = false := by rw [HTY.out]; simp
              have i2 : (y.hand + y.held + y.kept + y.sent != x.inn + n) = false := by rw [hfs, HTY.out]; simp
              clear hfs hty
              go_wp2_with fail
              refine (HYF.out _).mono ?_
              rintro z c5 ⟨rfl, hb⟩
              have HT1 := HE.out.turn
              unfold put6 at HT1
              have HZ := Lib.hid (Bal.mk (below_on HT1.1 HT1.1.size hb) HE.out.le.1 (At6.keep HT1.2 hb) HFY.out HSY.out)
              clear hb HT1
              go_wp2_with fail
              go_roundg (len - (j + 1))
              case measure => omega
              case rel => exact ⟨j + 1, y, by omega, rfl, by rw [HTY.out], by go_num, HZ⟩
            · rw [if_pos (by omega)] at hty htl htm
              have HTY := Lib.hid hty
              have i1 : (y.inn != x.inn) = false := by rw [HTY.out]; simp
              have i2 : (y.hand + y.held + y.kept + y.sent != x.inn) = false := by rw [hfs, HTY.out]; simp
              clear hfs hty
              go_wp2_with fail
              refine (HYF.out _).mono ?_
              rintro z c5 ⟨rfl, hb⟩
              have HT1 := HE.out.turn
              unfold put6 at HT1
              have HZ := Lib.hid (Bal.mk (below_on HT1.1 HT1.1.size hb) HE.out.le.1 (At6.keep HT1.2 hb) HFY.out HSY.out)
              clear hb HT1
              go_wp2_with fail
              go_roundg (len - (j + 1))
              case measure => omega
              case rel => exact ⟨j + 1, y, by omega, rfl, by rw [HTY.out], by go_num, HZ⟩
    · go_wp2_with fail
      refine (H7.out _).mono ?_
      rintro z wz ⟨rfl, hb⟩
      have HZ := Lib.hid (below_on hbal.out.bel hbal.out.bel.size hb)
      clear hb
      go_wp2_with fail
      go_ret
      exact ⟨rfl, HZ.out⟩
end Go.Proofs.Ytjhfhklgmbghnaa
