/-
  The contract of copies: the holds with lines, in memory of their own; what was there stays as it was.
-/
import Derived.Test.YtleopanfggmenaaHoldsG
set_option linter.unusedVariables false
set_option maxRecDepth 4000
namespace Go.Proofs.Ytleopanfggmenaa.Holds
open Go.RowKit LinesP HoldsP
open Go.Proofs.Ytleopanfggmenaa.Lines (LsAt Sz SzM ret_bool ret_int below_keep below_drewN lcells info_line owns_below owns_cell owns_form ls_of lcells_get)

/-- Each hold's lines are a row of the call's own. -/
def OwnL (w : World) (B : Nat) (zs : List Hz) : Prop := ∀ z ∈ zs, w.ownsRow B 45 2 (.slice z.2.1 z.1.ls.length z.2.2) z.1.ls.length (lcells z.1.ls)
theorem OwnL.keep {w w' : World} {B : Nat} {zs : List Hz} (h : OwnL w B zs) (hb : Below w.heap.size w w') : OwnL w' B zs := fun z hz => owns_below (h z hz) hb
theorem OwnL.grown {w w' : World} {B C n : Nat} {zs : List Hz} {v : Value} {xs : List Value} (h : OwnL w B zs) (ho : w.ownsRow C 27 3 v n xs) (hg : w.grownBy w' v.ownBlock) : OwnL w' B zs :=
  fun z hz => (h z hz).kept hg (owns_apart (by decide) (h z hz) ho)
theorem OwnL.snoc {w : World} {B : Nat} {zs : List Hz} {z : Hz} (h : OwnL w B zs) (hz : w.ownsRow B 45 2 (.slice z.2.1 z.1.ls.length z.2.2) z.1.ls.length (lcells z.1.ls)) : OwnL w B (zs ++ [z]) := by
  intro y hy
  rcases List.mem_append.1 hy with hy | hy
  · exact h y hy
  · rw [List.mem_singleton.1 hy]; exact hz
theorem OwnL.at {w : World} {B : Nat} {zs : List Hz} (h : OwnL w B zs) (hs : ∀ x ∈ hs zs, x.ls.length ≤ 1000000) : ∀ z ∈ zs, LsAt w z.2.1 z.1.ls.length z.1.ls :=
  fun z hz => ls_own (h z hz) rfl (by have := hs z.1 (List.mem_map_of_mem hz); omega)
/-- What tells holds: a slice of them. -/
def MadeP (w : World) (l : List Hd) (e : Ending) (w' : World) : Prop := ∃ a c, e = .returned (.slice a l.length c) ∧ l.length ≤ c ∧ HsAt w' a l.length l ∧ Below w.heap.size w w'
theorem owns_room {w : World} {B n c size : Nat} {e : TypeId} {a : Option Addr} {xs : List Value} (h : w.ownsRow B e size (.slice a n c) n xs) : n ≤ c := by
  rcases h.2 with ⟨e, h0⟩ | ⟨g, cap, cur, hv, _, _, h1, _⟩
  · omega
  · cases hv; exact h1
set_option maxHeartbeats 2000000 in
theorem copies_any (a : Option Addr) (len cap : Nat) (l : List Hd) (w : World) (h : HsAt w a len l) (hn : len ≤ 1000000) (hs : ∀ x ∈ l, x.ls.length ≤ 1000000) :
    Calls Try.prog 36 #[.slice a len cap] w (MadeP w l) := by
  have HX := Lib.hid h
  have HS := Lib.hid hs
  clear h hs
  go_enter Try.func36, Try.ntmps36
  go_wp2_with fail
  go_loopw [3, 8] (fun v i wr => ∃ (k : Nat) (ys : List Hz), k ≤ len ∧ i = .int .i64 (k : Int) ∧ Hid (Holds.hs ys = l.take k) ∧ Hid (wr.ownsRow w.heap.size 27 3 v k (hcells ys)) ∧ Hid (OwnL wr w.heap.size ys) ∧ Hid (Below w.heap.size w wr)) (fun _ i _ => len - (intOf i).toNat)
  case atStart => exact ⟨0, [], Nat.zero_le _, rfl, rfl, World.ownsRow_nil _ _ _ _, (fun z hz => by cases hz), Below.refl _ _⟩
  case round =>
    obtain ⟨k, ys, hk, rfl, hY, hO, hL, hB⟩ := hrel
    by_cases hlk : k < len
    · have hkx : k < l.length := by rw [HX.out.len]; exact hlk
      obtain ⟨b1, o1, g, la, lc, ls, t, rfl, g1, hp, hc1⟩ := HX.out.at hlk
      obtain ⟨d1, d2, d3, _⟩ := hc1 wr hB.out
      have hln := HS.out _ (mem_getD hkx)
      rw [hp] at hln
      simp only at hln
      obtain ⟨n, hn2⟩ : ∃ n, ls.length = n := ⟨_, rfl⟩
      rw [hn2] at d2 hln
      have HN2 := Lib.hid hn2
      have HB1 := Lib.hid (below_keep hB.out (box_below wr g la n lc t) hB.out.size)
      have hc0 := box_cells wr g la n lc t (Below.refl _ _)
      have hO1 := owns_below hO.out (box_below wr g la n lc t)
      have hL1 := hL.out.keep (box_below wr g la n lc t)
      have hdL := (hc1 _ HB1.out).2.2.2
      rw [hn2] at hdL
      obtain ⟨w1, hw1⟩ : ∃ w1, box wr g la n lc t = w1 := ⟨_, rfl⟩
      rw [hw1] at HB1 hc0 hO1 hL1 hdL
      have HW : Hid (wr.alloc (.cells #[.int .i64 g, .slice la n lc, .int .i64 t] 27) = w1) := hw1
      have HO1 := Lib.hid hO1; have HL1 := Lib.hid hL1
      have C := Lib.hid (own_any g t la n lc ls w1 hdL hln)
      have HST : Hid (l.take (k + 1) = l.take k ++ [⟨g, ls, t⟩]) := take_snocH hkx hp
      obtain ⟨c1, c2, c3⟩ := hc0
      clear hc1 hkx hp hn2 hO1 hL1 hdL hw1
      go_wp2_with fail
      rw [show wr.alloc (.cells #[.int .i64 g, .slice la n lc, .int .i64 t] 27) = w1 from HW.out]
      go_wp2_with fail
      refine C.out.mono ?_
      rintro e w2 ⟨a', c', rfl, hOl, hfr, hb2⟩
      have HB2 := Lib.hid (below_keep HB1.out hb2 HB1.out.size)
      have HO2 := Lib.hid (owns_below HO1.out hb2)
      have HL2 := Lib.hid (HL1.out.keep hb2)
      have HOl : Hid (w2.ownsRow w.heap.size 45 2 (.slice a' n c') n (lcells ls)) := owns_base hOl HB1.out.size
      have hsz2 := HB2.out.size
      clear hOl hfr hb2
      go_wp2_with (at_builtin; refine append_hold rfl (.tmp 12) (.tmp 15) rfl w.heap.size w2 _ rfl g a' n c' ls HN2.out t _ k ys rfl HO2.out rfl (by omega) hsz2 ?_)
      intro v' w4 hO4 hg4
      have HO4 := Lib.hid hO4
      have HB4 := Lib.hid (Lines.below_append HB2.out hsz2 HO2.out hg4)
      have hL3 : OwnL (w2.alloc (.cells #[.int .i64 g, .slice a' n c', .int .i64 t] 27)) w.heap.size (ys ++ [(⟨g, ls, t⟩, a', c')]) := by
        have hb := (Below.refl w2.heap.size w2).alloc (Nat.le_refl _) (.cells #[.int .i64 g, .slice a' n c', .int .i64 t] 27)
        refine (HL2.out.keep hb).snoc ?_
        simp only [HN2.out]
        exact owns_below HOl.out hb
      have HL4 := Lib.hid (hL3.grown (HO2.out.alloc _) hg4)
      clear hO4 hg4 hL3
      go_wp2_with fail
      go_roundw
      case rel => exact ⟨k + 1, ys ++ [(⟨g, ls, t⟩, a', c')], by omega, by go_num, by rw [HST.out, ← hY.out, hs_append]; rfl, HO4, HL4, HB4⟩
      case measure => simp [intOf]; omega
    · obtain rfl : k = len := by omega
      have hyl : hs ys = l := by rw [hY.out]; exact List.take_of_length_le (Nat.le_of_eq HX.out.len)
      have hyn : ys.length = k := by rw [← hs_len, hyl]; exact HX.out.len
      have hL2 := hL.out.at (by rw [hyl]; exact HS.out)
      obtain ⟨a', c', rfl, hz⟩ := hz_of hO.out hyn (by omega) hL2
      have hcap := owns_room hO.out
      have HR : Hid (MadeP w l (.returned (.slice a' k c')) wr) := ⟨a', c', by rw [HX.out.len], by rw [HX.out.len]; exact hcap, ⟨ys, hyl, by rw [HX.out.len]; exact hz⟩, hB.out⟩
      clear hyl hyn hL2 hz hcap
      go_wp2_with fail
      go_ret
      exact HR.out
end Go.Proofs.Ytleopanfggmenaa.Holds
