/-
  The contract of the document's Put: any holds; what was there stays as it was.
-/
import Derived.Test.YtleopanfggmenaaHoldsJ
set_option linter.unusedVariables false
set_option maxRecDepth 4000
namespace Go.Proofs.Ytleopanfggmenaa.Holds
open Go.RowKit LinesP HoldsP
open Go.Proofs.Ytleopanfggmenaa.Lines (LsAt Sz SzM ret_bool ret_int below_keep below_drewN lcells info_line owns_below owns_cell owns_form ls_of lcells_get own_cap)

theorem rfit_is (a : Option Addr) (len cap : Nat) (l : List Hd) (b : Bool) (hb : fitH l = b) (w : World) (h : HsAt w a len l) (hz : SzH l) :
    Calls Try.prog 11 #[.slice a len cap] w fun e w' => e = .returned (.bool b) ∧ Below w.heap.size w w' := by
  have := rfit_any a len cap l w h hz
  rw [hb] at this
  exact this
theorem rfind_b (a : Option Addr) (len cap : Nat) (l : List Hd) (g0 : Int) (b : Bool) (hb : (findH g0 l).isSome = b) (w : World) (h : HsAt w a len l) :
    Calls Try.prog 9 #[.slice a len cap, .int .i64 g0] w fun e w' => ∃ g' t' a' n' c', e = .returned (.tuple #[.agg #[.int .i64 g', .slice a' n' c', .int .i64 t'], .bool b]) ∧ Below w.heap.size w w' := by
  refine (rfind_any a len cap l g0 w h).mono ?_
  rintro e w' ⟨a', c', rfl, _, hb'⟩
  exact ⟨_, _, _, _, _, by rw [hb], hb'⟩
set_option maxHeartbeats 2000000 in
theorem rput_any (a : Option Addr) (len cap : Nat) (l : List Hd) (g t : Int) (la : Option Addr) (n lc : Nat) (ls : List Ln) (w : World) (h : HsAt w a len l) (hc : len ≤ cap) (hL : LsAt w la n ls) (hz : SzH l) (hz2 : Sz ls) :
    Calls Try.prog 21 #[.slice a len cap, .agg #[.int .i64 g, .slice la n lc, .int .i64 t]] w (TurnP w (putH l ⟨g, ls, t⟩)) := by
  obtain ⟨r, hr⟩ : ∃ r, putH l ⟨g, ls, t⟩ = r := ⟨_, rfl⟩
  rw [hr]
  have hle := h.le
  have HB := Lib.hid (box_below w g la n lc t)
  have HC := Lib.hid (fun w' hb => box_cells w g la n lc t (w' := w') hb)
  have HX := Lib.hid (h.keep (box_below w g la n lc t))
  have HL := Lib.hid (hL.keep (box_below w g la n lc t))
  obtain ⟨W, hW⟩ : ∃ W, box w g la n lc t = W := ⟨_, rfl⟩
  have HW : Hid (w.alloc (.cells #[.int .i64 g, .slice la n lc, .int .i64 t] 27) = W) := hW
  rw [hW] at HB HC HX HL
  have HZ := Lib.hid hz; have HZ2 := Lib.hid hz2
  clear h hL hz hz2 hW
  by_cases h1 : fitH l = true
  · have C1 := Lib.hid (rfit_is a len cap l true h1 W HX.out HZ.out)
    cases h2 : oneH ⟨g, ls, t⟩ with
    | true =>
      cases h3 : (findH g l).isSome with
      | true =>
        have HR : Hid (r = ([], 3)) := by show r = _; rw [← hr]; unfold putH; rw [if_pos h1, if_pos h2]; show (if (findH g l).isSome = true then _ else _) = _; rw [if_pos h3]
        have H1 := Lib.hid h1; have H2 := Lib.hid h2; have H3 := Lib.hid h3
        clear hr h1 h2 h3
        go_enter Try.func21, Try.ntmps21
        go_wp2_with fail
        rw [show w.alloc (.cells #[.int .i64 g, .slice la n lc, .int .i64 t] 27) = W from HW.out]
        refine C1.out.mono ?_
        rintro e w1 ⟨rfl, hb1⟩
        have HB1 := Lib.hid hb1
        obtain ⟨q0, q1, q2⟩ := HC.out w1 hb1
        have C2 := Lib.hid (rone_is g t la n lc ls true H2.out w1 (HL.out.keep hb1) HZ2.out)
        clear hb1
        go_wp2_with fail
        refine C2.out.mono ?_
        rintro e w2 ⟨rfl, hb2⟩
        have HB2 := Lib.hid (below_keep HB1.out hb2 HB1.out.size)
        clear hb2
        obtain ⟨r0, r1, r2⟩ := HC.out w2 HB2.out
        have C3 := Lib.hid (rfind_b a len cap l g true H3.out w2 (HX.out.keep HB2.out))
        go_wp2_with fail
        refine C3.out.mono ?_
        rintro e w3 ⟨g', t', a', n', c', rfl, hb3⟩
        clear q0 q1 q2 r0 r1 r2
        have HE := Lib.hid (turn_err (r := r) HR.out (below_keep HB.out (below_keep HB2.out (hb3.trans ((box_below w3 g' a' n' c' t').mono hb3.size)) HB2.out.size) HB.out.size))
        clear hb3
        go_wp2_with fail
        go_ret2
        exact HE.out
      | false =>
        by_cases h4 : len = 16
        · have HR : Hid (r = ([], 4)) := by
            show r = _; rw [← hr]; unfold putH; rw [if_pos h1, if_pos h2]
            show (if (findH g l).isSome = true then _ else _) = _
            rw [h3, if_neg (by decide), if_pos (by rw [HX.out.len]; exact h4)]
          have H1 := Lib.hid h1; have H2 := Lib.hid h2; have H3 := Lib.hid h3
          have he16 : ((len : Int) == 16) = true := by rw [beq_iff_eq]; omega
          clear hr h1 h2 h3 h4
          go_enter Try.func21, Try.ntmps21
          go_wp2_with fail
          rw [show w.alloc (.cells #[.int .i64 g, .slice la n lc, .int .i64 t] 27) = W from HW.out]
          refine C1.out.mono ?_
          rintro e w1 ⟨rfl, hb1⟩
          have HB1 := Lib.hid hb1
          obtain ⟨q0, q1, q2⟩ := HC.out w1 hb1
          have C2 := Lib.hid (rone_is g t la n lc ls true H2.out w1 (HL.out.keep hb1) HZ2.out)
          clear hb1
          go_wp2_with fail
          refine C2.out.mono ?_
          rintro e w2 ⟨rfl, hb2⟩
          have HB2 := Lib.hid (below_keep HB1.out hb2 HB1.out.size)
          clear hb2
          obtain ⟨r0, r1, r2⟩ := HC.out w2 HB2.out
          have C3 := Lib.hid (rfind_b a len cap l g false H3.out w2 (HX.out.keep HB2.out))
          go_wp2_with fail
          refine C3.out.mono ?_
          rintro e w3 ⟨g', t', a', n', c', rfl, hb3⟩
          clear q0 q1 q2 r0 r1 r2
          have HE := Lib.hid (turn_err (r := r) HR.out (below_keep HB.out (below_keep HB2.out (hb3.trans ((box_below w3 g' a' n' c' t').mono hb3.size)) HB2.out.size) HB.out.size))
          clear hb3
          go_wp2_with fail
          go_ret2
          exact HE.out
        · obtain ⟨p, hp⟩ : ∃ p, pos g l = p := ⟨_, rfl⟩
          have hlen := HX.out.len
          have hpl : p ≤ len := by rw [← hlen, ← hp]; exact pos_le g l
          have h16 : len ≤ 16 := by rw [← hlen]; exact (fitH_iff.1 h1).1
          have hne : ((len : Int) == 16) = false := by rw [beq_eq_false_iff_ne]; omega
          have HR : Hid (r = (l.take p ++ ⟨g, ls, t⟩ :: l.drop p, 0)) := by
            show r = _
            rw [← hr, ← hp]
            unfold putH
            rw [if_pos h1, if_pos h2]
            show (if (findH g l).isSome = true then _ else _) = _
            rw [h3, if_neg (by decide), if_neg (by rw [hlen]; exact h4)]
            rfl
          obtain ⟨A2, hA2⟩ : ∃ A2, (if cap = p then a else Option.map (fun x => x.add (p * 3)) a) = A2 := ⟨_, rfl⟩
          have HA2 := Lib.hid hA2
          have hpc : p ≤ cap := Nat.le_trans hpl hc
          have H1 := Lib.hid h1; have H2 := Lib.hid h2; have H3 := Lib.hid h3
          have HP : Hid (0 + pos g (l.drop 0) = p) := by show 0 + pos g l = p; omega
          clear hr h1 h2 h3 h4 hp hlen hA2
          go_enter Try.func21, Try.ntmps21
          go_wp2_with fail
          rw [show w.alloc (.cells #[.int .i64 g, .slice la n lc, .int .i64 t] 27) = W from HW.out]
          refine C1.out.mono ?_
          rintro e w1 ⟨rfl, hb1⟩
          have HB1 := Lib.hid hb1
          obtain ⟨q0, q1, q2⟩ := HC.out w1 hb1
          have C2 := Lib.hid (rone_is g t la n lc ls true H2.out w1 (HL.out.keep hb1) HZ2.out)
          clear hb1
          go_wp2_with fail
          refine C2.out.mono ?_
          rintro e w2 ⟨rfl, hb2⟩
          have HB2 := Lib.hid (below_keep HB1.out hb2 HB1.out.size)
          clear hb2
          obtain ⟨r0, r1, r2⟩ := HC.out w2 HB2.out
          have C3 := Lib.hid (rfind_b a len cap l g false H3.out w2 (HX.out.keep HB2.out))
          go_wp2_with fail
          refine C3.out.mono ?_
          rintro e w3 ⟨g', t', a', n', c', rfl, hb3⟩
          clear q0 q1 q2 r0 r1 r2
          have HB3 : Hid (Below W.heap.size W (w3.alloc (.cells #[.int .i64 g', .slice a' n' c', .int .i64 t'] 27))) := below_keep HB2.out (hb3.trans ((box_below w3 g' a' n' c' t').mono hb3.size)) HB2.out.size
          clear hb3
          go_wp2_with fail
          generalize w3.alloc (.cells #[.int .i64 g', .slice a' n' c', .int .i64 t'] 27) = w4 at *
          go_loopw [9] (fun i wr => ∃ k : Nat, k ≤ len ∧ i = .int .i64 (k : Int) ∧ Hid (k + pos g (l.drop k) = p) ∧ Hid (Below W.heap.size W wr)) (fun i _ => len - (intOf i).toNat)
          case atStart => exact ⟨0, Nat.zero_le _, rfl, HP, HB3⟩
          case round =>
            obtain ⟨k, hk, rfl, hd, hB⟩ := hrel
            obtain ⟨s0, s1, s2⟩ := HC.out wr hB.out
            by_cases hgo : k < len ∧ (l.getD k hd0).saga < g
            · obtain ⟨hlk, hlt⟩ := hgo
              have hkx : k < l.length := by rw [HX.out.len]; exact hlk
              obtain ⟨b1, o1, g5, la5, lc5, ls5, t5, rfl, g1, hx, hc1⟩ := HX.out.at hlk
              rw [hx] at hlt
              have HD := Lib.hid ((pos_drop_go hkx hx hlt).symm.trans hd.out)
              obtain ⟨d1, _, _, _⟩ := hc1 wr hB.out
              have hlt : g5 < g := hlt
              clear hc1 hx hkx hd g1
              go_wp2_with fail
              go_quiet (fail)
              go_wp2_with fail
              go_roundw
              case rel => exact ⟨k + 1, by omega, by go_num, HD, below_drewN hB.out _⟩
              case measure => simp [intOf]; omega
            · have hkp : k = p := by
                by_cases hlk : k < len
                · have := pos_drop_stop (g := g) (k := k) (l := l) (by rw [HX.out.len]; exact hlk) rfl (fun e => hgo ⟨hlk, e⟩)
                  have := hd.out; omega
                · have := pos_drop_done (g := g) (k := k) (l := l) (by rw [HX.out.len]; exact hlk)
                  have := hd.out; omega
              subst hkp
              clear hd
              by_cases hlk : k < len
              · obtain ⟨b1, o1, g5, la5, lc5, ls5, t5, rfl, g1, hx, hc1⟩ := HX.out.at hlk
                rw [hx] at hgo
                have hlt : ¬ g5 < g := fun e => hgo ⟨hlk, e⟩
                obtain ⟨d1, _, _, _⟩ := hc1 wr hB.out
                have hcap : cap ≠ k := by omega
                have HA2 : Hid ((if cap = k then (some ⟨b1, o1, none⟩ : Option Addr) else Option.map (fun (x : Addr) => x.add (k * 3)) (some (⟨b1, o1, none⟩ : Addr))) = some ⟨b1, o1 + k * 3, none⟩) := by
                  show _ = _
                  rw [if_neg hcap]; simp only [Option.map_some, add_at]
                clear hc1 hx g1 hgo
                go_wp2_with fail
                go_quiet (fail)
                generalize hw5 : wr.drewN nq = w5
                skip
                obtain ⟨zs, hzs, hZ⟩ := HX.out.keep hB.out
                have HZS := Lib.hid hzs
                have hB5 : Below W.heap.size W w5 := by rw [← hw5]; exact below_drewN hB.out _
                have hK5 : Below wr.heap.size wr w5 := by rw [← hw5]; exact below_drewN (Below.refl _ _) _
                have HZ5 := Lib.hid (hZ.keep hK5)
                have HL5 := Lib.hid (HL.out.keep hB5)
                have HB5 := Lib.hid hB5
                obtain ⟨u0, u1, u2⟩ := HC.out w5 hB5
                have HC5 := Lib.hid (fun w' (hb : Below w5.heap.size w5 w') => HC.out w' (below_keep hB5 hb hB5.size))
                clear hzs hZ hB5 hK5 hB hw5 s0 s1 s2
                go_wp2_with (at_builtin; refine append_holds rfl (.tmp 43) (.tmp 46) rfl w5.heap.size _ 0 [] (zs.take k) (some ⟨b1, o1, none⟩) k cap rfl (World.ownsRow_nil _ _ _ _) rfl (part_take HZ5.out hk) (by omega) (Nat.le_refl _) ?_)
                intro v6 w6 hown6 hg6
                have HO6 := Lib.hid hown6
                have HB6 : Hid (Below w5.heap.size w5 w6) := (Below.refl _ _).grown hg6 (Nat.le_refl _) (fun k hk => by cases hk)
                obtain ⟨v0, v1, v2⟩ := HC5.out w6 HB6.out
                have hsz6 := HB6.out.size
                clear hown6 hg6 u0 u1 u2
                go_wp2_with (at_builtin; refine append_hold rfl (.tmp 48) (.tmp 50) rfl w5.heap.size w6 _ rfl g la n lc ls HL5.out.1 t _ k (zs.take k) rfl HO6.out rfl (by omega) hsz6 ?_)
                intro v7 w7 hown7 hg7
                have HO7 := Lib.hid hown7
                have HB7 : Hid (Below w5.heap.size w5 w7) := Lines.below_append HB6.out hsz6 HO6.out hg7
                have hA2 := HA2.out
                clear hown7 hg7 v0 v1 v2
                go_wp2_with (at_builtin; refine append_holds rfl (.tmp 52) (.tmp 55) rfl w5.heap.size v7 (k + 1) (zs.take k ++ [(⟨g, ls, t⟩, la, lc)]) (zs.drop k) (some ⟨b1, o1 + k * 3, none⟩) (len - k) (cap - k) rfl HO7.out rfl (part_drop (HZ5.out.keep HB7.out) hk hc hA2) (by omega) HB7.out.size ?_)
                intro v8 w8 hown8 hg8
                have HB8 : Hid (Below w5.heap.size w5 w8) := HB7.out.grown hg8 HB7.out.size (fun k hk => (HO7.out.lt k hk).1)
                have hlz := HZ5.out.1
                have hzl : (zs.take k ++ ((⟨g, ls, t⟩ : Hd), la, lc) :: zs.drop k).length = k + 1 + (len - k) := by simp [hlz]; omega
                have hll : ∀ z ∈ zs.take k ++ ((⟨g, ls, t⟩ : Hd), la, lc) :: zs.drop k, LsAt w8 z.2.1 z.1.ls.length z.1.ls := by
                  intro z hz
                  rcases List.mem_append.1 hz with hz | hz
                  · exact (HZ5.out.2.2.1 z (List.mem_of_mem_take hz)).keep HB8.out
                  · rcases List.mem_cons.1 hz with rfl | hz
                    · have := HL5.out.keep HB8.out
                      have hln := HL5.out.1
                      subst hln
                      exact this
                    · exact (HZ5.out.2.2.1 z (List.mem_of_mem_drop hz)).keep HB8.out
                obtain ⟨a8, c8, rfl, hz8⟩ := hz_of hown8 hzl (by omega) hll
                have hhs : hs (zs.take k ++ ((⟨g, ls, t⟩ : Hd), la, lc) :: zs.drop k) = l.take k ++ ⟨g, ls, t⟩ :: l.drop k := by
                  rw [hs_append, hs_take, ← HZS.out, ← hs_drop]; rfl
                have hM : (l.take k ++ (⟨g, ls, t⟩ : Hd) :: l.drop k).length = k + 1 + (len - k) := by rw [← hzl, ← hhs, hs_len]
                have HE : Hid (TurnP w r (.returned (.tuple #[.slice a8 (k + 1 + (len - k)) c8, .int .i64 0])) w8) := turn_ok HR.out hM ⟨_, hhs, hz8⟩ (below_keep HB.out (below_keep HB5.out HB8.out HB5.out.size) HB.out.size)
                clear hz8 hzl hhs hll hown8 hg8 hlz hA2 hM
                go_wp2_with fail
                go_ret2
                exact HE.out
              · clear hgo
                go_wp2_with fail
                go_quiet (fail)
                generalize hw5 : wr.drewN nq = w5
                skip
                obtain ⟨zs, hzs, hZ⟩ := HX.out.keep hB.out
                have HZS := Lib.hid hzs
                have hB5 : Below W.heap.size W w5 := by rw [← hw5]; exact below_drewN hB.out _
                have hK5 : Below wr.heap.size wr w5 := by rw [← hw5]; exact below_drewN (Below.refl _ _) _
                have HZ5 := Lib.hid (hZ.keep hK5)
                have HL5 := Lib.hid (HL.out.keep hB5)
                have HB5 := Lib.hid hB5
                obtain ⟨u0, u1, u2⟩ := HC.out w5 hB5
                have HC5 := Lib.hid (fun w' (hb : Below w5.heap.size w5 w') => HC.out w' (below_keep hB5 hb hB5.size))
                clear hzs hZ hB5 hK5 hB hw5 s0 s1 s2
                go_wp2_with (at_builtin; refine append_holds rfl (.tmp 43) (.tmp 46) rfl w5.heap.size _ 0 [] (zs.take k) a k cap rfl (World.ownsRow_nil _ _ _ _) rfl (part_take HZ5.out hk) (by omega) (Nat.le_refl _) ?_)
                intro v6 w6 hown6 hg6
                have HO6 := Lib.hid hown6
                have HB6 : Hid (Below w5.heap.size w5 w6) := (Below.refl _ _).grown hg6 (Nat.le_refl _) (fun k hk => by cases hk)
                obtain ⟨v0, v1, v2⟩ := HC5.out w6 HB6.out
                have hsz6 := HB6.out.size
                clear hown6 hg6 u0 u1 u2
                go_wp2_with (at_builtin; refine append_hold rfl (.tmp 48) (.tmp 50) rfl w5.heap.size w6 _ rfl g la n lc ls HL5.out.1 t _ k (zs.take k) rfl HO6.out rfl (by omega) hsz6 ?_)
                intro v7 w7 hown7 hg7
                have HO7 := Lib.hid hown7
                have HB7 : Hid (Below w5.heap.size w5 w7) := Lines.below_append HB6.out hsz6 HO6.out hg7
                have hA2 := HA2.out
                clear hown7 hg7 v0 v1 v2
                go_wp2_with (at_builtin; refine append_holds rfl (.tmp 52) (.tmp 55) rfl w5.heap.size v7 (k + 1) (zs.take k ++ [(⟨g, ls, t⟩, la, lc)]) (zs.drop k) A2 (len - k) (cap - k) rfl HO7.out rfl (part_drop (HZ5.out.keep HB7.out) hk hc hA2) (by omega) HB7.out.size ?_)
                intro v8 w8 hown8 hg8
                have HB8 : Hid (Below w5.heap.size w5 w8) := HB7.out.grown hg8 HB7.out.size (fun k hk => (HO7.out.lt k hk).1)
                have hlz := HZ5.out.1
                have hzl : (zs.take k ++ ((⟨g, ls, t⟩ : Hd), la, lc) :: zs.drop k).length = k + 1 + (len - k) := by simp [hlz]; omega
                have hll : ∀ z ∈ zs.take k ++ ((⟨g, ls, t⟩ : Hd), la, lc) :: zs.drop k, LsAt w8 z.2.1 z.1.ls.length z.1.ls := by
                  intro z hz
                  rcases List.mem_append.1 hz with hz | hz
                  · exact (HZ5.out.2.2.1 z (List.mem_of_mem_take hz)).keep HB8.out
                  · rcases List.mem_cons.1 hz with rfl | hz
                    · have := HL5.out.keep HB8.out
                      have hln := HL5.out.1
                      subst hln
                      exact this
                    · exact (HZ5.out.2.2.1 z (List.mem_of_mem_drop hz)).keep HB8.out
                obtain ⟨a8, c8, rfl, hz8⟩ := hz_of hown8 hzl (by omega) hll
                have hhs : hs (zs.take k ++ ((⟨g, ls, t⟩ : Hd), la, lc) :: zs.drop k) = l.take k ++ ⟨g, ls, t⟩ :: l.drop k := by
                  rw [hs_append, hs_take, ← HZS.out, ← hs_drop]; rfl
                have hM : (l.take k ++ (⟨g, ls, t⟩ : Hd) :: l.drop k).length = k + 1 + (len - k) := by rw [← hzl, ← hhs, hs_len]
                have HE : Hid (TurnP w r (.returned (.tuple #[.slice a8 (k + 1 + (len - k)) c8, .int .i64 0])) w8) := turn_ok HR.out hM ⟨_, hhs, hz8⟩ (below_keep HB.out (below_keep HB5.out HB8.out HB5.out.size) HB.out.size)
                clear hz8 hzl hhs hll hown8 hg8 hlz hA2 hM
                go_wp2_with fail
                go_ret2
                exact HE.out
    | false =>
      have HR : Hid (r = ([], 1)) := by show r = _; rw [← hr]; unfold putH; rw [if_pos h1, h2, if_neg (by decide)]
      have H2 := Lib.hid h2
      clear hr h1 h2
      go_enter Try.func21, Try.ntmps21
      go_wp2_with fail
      rw [show w.alloc (.cells #[.int .i64 g, .slice la n lc, .int .i64 t] 27) = W from HW.out]
      refine C1.out.mono ?_
      rintro e w1 ⟨rfl, hb1⟩
      have HB1 := Lib.hid hb1
      obtain ⟨q0, q1, q2⟩ := HC.out w1 hb1
      have C2 := Lib.hid (rone_is g t la n lc ls false H2.out w1 (HL.out.keep hb1) HZ2.out)
      clear hb1
      go_wp2_with fail
      refine C2.out.mono ?_
      rintro e w2 ⟨rfl, hb2⟩
      have HE := Lib.hid (turn_err (r := r) HR.out (below_keep HB.out (below_keep HB1.out hb2 HB1.out.size) HB.out.size))
      clear hb2
      go_wp2_with fail
      go_ret2
      exact HE.out
  · have C1 := Lib.hid (rfit_is a len cap l false (by simpa using h1) W HX.out HZ.out)
    have HR : Hid (r = ([], 12)) := by show r = _; rw [← hr]; unfold putH; rw [if_neg h1]
    clear hr h1
    go_enter Try.func21, Try.ntmps21
    go_wp2_with fail
    rw [show w.alloc (.cells #[.int .i64 g, .slice la n lc, .int .i64 t] 27) = W from HW.out]
    refine C1.out.mono ?_
    rintro e w1 ⟨rfl, hb1⟩
    have HE := Lib.hid (turn_err (r := r) HR.out (below_keep HB.out hb1 HB.out.size))
    clear hb1
    go_wp2_with fail
    go_ret2
    exact HE.out
end Go.Proofs.Ytleopanfggmenaa.Holds
