/-
  The contract of the document's Drop: any holds; what was there stays as it was.
-/
import Derived.Test.YtleopanfggmenaaHoldsK
set_option linter.unusedVariables false
set_option maxRecDepth 4000
namespace Go.Proofs.Ytleopanfggmenaa.Holds
open Go.RowKit LinesP HoldsP
open Go.Proofs.Ytleopanfggmenaa.Lines (LsAt Sz SzM ret_bool ret_int below_keep below_drewN lcells info_line owns_below owns_cell owns_form ls_of lcells_get own_cap)

theorem less_len (g : Int) (l : List Hd) : (less g l).length ≤ l.length := List.length_filter_le _ _
set_option maxHeartbeats 2000000 in
theorem rdrop_any (a : Option Addr) (len cap : Nat) (l : List Hd) (g0 : Int) (w : World) (h : HsAt w a len l) (hz : SzH l) (hn : len ≤ 1000000) :
    Calls Try.prog 23 #[.slice a len cap, .int .i64 g0] w (TurnP w (dropH l g0)) := by
  obtain ⟨r, hr⟩ : ∃ r, dropH l g0 = r := ⟨_, rfl⟩
  rw [hr]
  have hle := h.le
  have HX := Lib.hid h
  have HZ := Lib.hid hz
  clear h hz
  by_cases h1 : fitH l = true
  · have C1 := Lib.hid (rfit_is a len cap l true h1 w HX.out HZ.out)
    cases h3 : (findH g0 l).isSome with
    | true =>
      have HR : Hid (r = (less g0 l, 0)) := by show r = _; rw [← hr]; unfold dropH; rw [if_pos h1, if_pos h3]
      have H3 := Lib.hid h3
      clear hr h1 h3
      go_enter Try.func23, Try.ntmps23
      go_wp2_with fail
      refine C1.out.mono ?_
      rintro e w1 ⟨rfl, hb1⟩
      have HB1 := Lib.hid hb1
      have C3 := Lib.hid (rfind_b a len cap l g0 true H3.out w1 (HX.out.keep hb1))
      clear hb1
      go_wp2_with fail
      refine C3.out.mono ?_
      rintro e w3 ⟨g', t', a', n', c', rfl, hb3⟩
      have HB3 : Hid (Below w.heap.size w (w3.alloc (.cells #[.int .i64 g', .slice a' n' c', .int .i64 t'] 27))) := below_keep HB1.out (hb3.trans ((box_below w3 g' a' n' c' t').mono hb3.size)) HB1.out.size
      clear hb3 C1 C3
      go_wp2_with fail
      generalize w3.alloc (.cells #[.int .i64 g', .slice a' n' c', .int .i64 t'] 27) = w4 at *
      go_loopw [8, 9] (fun v i wr => ∃ (k : Nat) (ys : List Hz), k ≤ len ∧ i = .int .i64 (k : Int) ∧ ys.length ≤ k ∧ Hid (hs ys ++ less g0 (l.drop k) = less g0 l) ∧ Hid (wr.ownsRow w4.heap.size 27 3 v ys.length (hcells ys)) ∧ Hid (∀ z ∈ ys, LsAt w z.2.1 z.1.ls.length z.1.ls) ∧ Hid (Below w.heap.size w wr) ∧ Hid (w4.heap.size ≤ wr.heap.size)) (fun _ i _ => len - (intOf i).toNat)
      case atStart => exact ⟨0, [], Nat.zero_le _, rfl, Nat.zero_le _, rfl, World.ownsRow_nil _ _ _ _, (fun z hz => by cases hz), HB3, Nat.le_refl _⟩
      case round =>
        obtain ⟨k, ys, hk, rfl, hyk, hY, hO, hL, hB, hS⟩ := hrel
        by_cases hlk : k < len
        · have hkx : k < l.length := by rw [HX.out.len]; exact hlk
          obtain ⟨b1, o1, g, la, lc, ls, t, rfl, g1, hp, hc1⟩ := HX.out.at hlk
          obtain ⟨d1, d2, d3, _⟩ := hc1 wr hB.out
          have hLz := (hc1 w (Below.refl _ _)).2.2.2
          obtain ⟨n, hn2⟩ : ∃ n, ls.length = n := ⟨_, rfl⟩
          rw [hn2] at d2
          have HN2 := Lib.hid hn2
          have hld := less_drop g0 hkx hp
          by_cases heq : g = g0
          · have HY : Hid (hs ys ++ less g0 (l.drop (k + 1)) = less g0 l) := by
              show _ = _
              rw [← hY.out, hld]
              simp [heq]
            have hne : (g != g0) = false := by simpa using heq
            clear hc1 hkx hp hn2 hld heq hLz hY
            go_wp2_with fail
            go_roundw
            case rel => exact ⟨k + 1, ys, by omega, by go_num, by omega, HY, hO, hL, hB, hS⟩
            case measure => simp [intOf]; omega
          · have HY : Hid (hs (ys ++ [(⟨g, ls, t⟩, la, lc)]) ++ less g0 (l.drop (k + 1)) = less g0 l) := by
              show _ = _
              rw [← hY.out, hld, hs_append]
              have hx : ¬ (⟨g, ls, t⟩ : Hd).saga = g0 := heq
              rw [if_neg hx, List.append_assoc]
              rfl
            have HL2 : Hid (∀ z ∈ ys ++ [((⟨g, ls, t⟩ : Hd), la, lc)], LsAt w z.2.1 z.1.ls.length z.1.ls) := by
              intro z hz
              rcases List.mem_append.1 hz with hz | hz
              · exact hL.out z hz
              · rw [List.mem_singleton.1 hz]; exact hLz
            have hne : (g != g0) = true := by simpa using heq
            have hsz := Nat.le_trans HB3.out.size hS.out
            have hsz2 := hS.out
            clear hc1 hkx hp hn2 hld heq hLz hY
            go_wp2_with (at_builtin; refine append_hold rfl (.tmp 34) (.tmp 39) rfl w4.heap.size wr _ rfl g la n lc ls HN2.out t _ ys.length ys rfl hO.out rfl (by omega) hsz2 ?_)
            intro v' w5 hO5 hg5
            have HO5 : Hid (w5.ownsRow w4.heap.size 27 3 v' (ys ++ [((⟨g, ls, t⟩ : Hd), la, lc)]).length (hcells (ys ++ [(⟨g, ls, t⟩, la, lc)]))) := by
              show w5.ownsRow _ _ _ _ _ _
              rw [List.length_append]; exact hO5
            have HB5 : Hid (Below w.heap.size w w5) := (hB.out.alloc hB.out.size _).grown hg5 (by simp; omega) (fun k hk => Nat.le_trans HB3.out.size (hO.out.lt k hk).1)
            have HS5 : Hid (w4.heap.size ≤ w5.heap.size) := by
              have := hg5.size
              rw [World.size_alloc] at this
              show _ ≤ _
              omega
            clear hO5 hg5
            go_wp2_with fail
            go_roundw
            case rel => exact ⟨k + 1, ys ++ [(⟨g, ls, t⟩, la, lc)], by omega, by go_num, by simp; omega, HY, HO5, HL2, HB5, HS5⟩
            case measure => simp [intOf]; omega
        · obtain rfl : k = len := by omega
          have hyl : hs ys = less g0 l := by
            have := hY.out
            rw [List.drop_eq_nil_of_le (by rw [HX.out.len]; exact Nat.le_refl _)] at this
            simpa [less] using this
          obtain ⟨a', c', rfl, hz⟩ := hz_of hO.out rfl (by omega) (fun z hz => (hL.out z hz).keep hB.out)
          have hM : (less g0 l).length = ys.length := by rw [← hyl, hs_len]
          have HE : Hid (TurnP w r (.returned (.tuple #[.slice a' ys.length c', .int .i64 0])) wr) := turn_ok HR.out hM ⟨ys, hyl, hz⟩ hB.out
          clear hyl hz hM
          go_wp2_with fail
          go_ret2
          exact HE.out
    | false =>
      have HR : Hid (r = ([], 2)) := by show r = _; rw [← hr]; unfold dropH; rw [if_pos h1]; show (if (findH g0 l).isSome = true then _ else _) = _; rw [h3, if_neg (by decide)]
      have H3 := Lib.hid h3
      clear hr h1 h3
      go_enter Try.func23, Try.ntmps23
      go_wp2_with fail
      refine C1.out.mono ?_
      rintro e w1 ⟨rfl, hb1⟩
      have HB1 := Lib.hid hb1
      have C3 := Lib.hid (rfind_b a len cap l g0 false H3.out w1 (HX.out.keep hb1))
      clear hb1
      go_wp2_with fail
      refine C3.out.mono ?_
      rintro e w3 ⟨g', t', a', n', c', rfl, hb3⟩
      have HE := Lib.hid (turn_err (r := r) HR.out (below_keep HB1.out (hb3.trans ((box_below w3 g' a' n' c' t').mono hb3.size)) HB1.out.size))
      clear hb3
      go_wp2_with fail
      go_ret2
      exact HE.out
  · have C1 := Lib.hid (rfit_is a len cap l false (by simpa using h1) w HX.out HZ.out)
    have HR : Hid (r = ([], 12)) := by show r = _; rw [← hr]; unfold dropH; rw [if_neg h1]
    clear hr h1
    go_enter Try.func23, Try.ntmps23
    go_wp2_with fail
    refine C1.out.mono ?_
    rintro e w1 ⟨rfl, hb1⟩
    have HE := Lib.hid (turn_err (r := r) HR.out hb1)
    clear hb1
    go_wp2_with fail
    go_ret2
    exact HE.out
end Go.Proofs.Ytleopanfggmenaa.Holds
