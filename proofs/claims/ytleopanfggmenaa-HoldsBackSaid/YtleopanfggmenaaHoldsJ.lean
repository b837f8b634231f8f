/-
  The contract of the program's Drop: any holds; what was there stays as it was.
-/
import Derived.Test.YtleopanfggmenaaHoldsI
set_option linter.unusedVariables false
set_option maxRecDepth 4000
namespace Go.Proofs.Ytleopanfggmenaa.Holds
open Go.RowKit LinesP HoldsP
open Go.Proofs.Ytleopanfggmenaa.Lines (LsAt Sz SzM ret_bool ret_int below_keep below_drewN lcells info_line owns_below owns_cell owns_form ls_of lcells_get own_cap)

theorem less_pos {l : List Hd} {g : Int} {p : Nat} (hf : fitH l = true) (hp : pos g l = p) (h1 : p < l.length) (h2 : (l.getD p hd0).saga = g) : less g l = l.take p ++ l.drop (p + 1) := by
  have hpw := (fitH_iff.1 hf).2.2
  have hx : l.drop p = l.getD p hd0 :: l.drop (p + 1) := drop_at h1 rfl
  have e : less g l = less g (l.take p ++ l.drop p) := by rw [List.take_append_drop]
  rw [e]
  have hd : (l.drop p).Pairwise (fun x y => x.saga < y.saga) := hpw.sublist (List.drop_sublist _ _)
  rw [hx] at hd ⊢
  have hd2 := (List.pairwise_cons.1 hd).1
  unfold less
  rw [List.filter_append, List.filter_cons]
  have e1 := less_all (g := g) (l := l.take p) fun x hx => by have := pos_take (g := g) (l := l) x (by rw [hp]; exact hx); omega
  have e2 := less_all (g := g) (l := l.drop (p + 1)) fun x hx => by have := hd2 x hx; omega
  unfold less at e1 e2
  rw [e1, e2, h2]
  simp
theorem less_drop_q {l : List Hd} {g : Int} {p q : Nat} (hf : fitH l = true) (hp : pos g l = p) (hs : (findH g l).isSome = true) (hq : p + 1 = q) : p < l.length ∧ less g l = l.take p ++ l.drop q := by
  have h := find_pos (g := g) (fitH_iff.1 hf).2.2
  rw [hp] at h
  by_cases hc : p < l.length ∧ (l.getD p hd0).saga = g
  · exact ⟨hc.1, by rw [← hq]; exact less_pos hf hp hc.1 hc.2⟩
  · rw [if_neg hc] at h; rw [h] at hs; cases hs
theorem hz_take {w : World} {a : Option Addr} {len p : Nat} {zs : List Hz} (h : HzAt w a len zs) (hp : p ≤ len) : HzAt w a p (zs.take p) := by
  refine ⟨by rw [List.length_take, h.1]; omega, by have := h.2.1; omega, fun z hz => h.2.2.1 z (List.mem_of_mem_take hz), ?_⟩
  by_cases h0 : p = 0
  · exact .inl h0
  rcases h.2.2.2 with h1 | ⟨b, off, e, hlt, hc⟩
  · omega
  · refine .inr ⟨b, off, e, hlt, fun i hi => ?_⟩
    have e2 : (zs.take p).getD i hz0 = zs.getD i hz0 := by simp [List.getD, hi]
    rw [e2]
    exact hc i (by omega)
set_option maxHeartbeats 2000000 in
theorem drop_any (a : Option Addr) (len cap : Nat) (l : List Hd) (g : Int) (w : World) (h : HsAt w a len l) (hc : len ≤ cap) (hz : SzH l) (hs : ∀ x ∈ l, x.ls.length ≤ 1000000) :
    Calls Try.prog 22 #[.slice a len cap, .int .i64 g] w (TurnC w (dropH l g)) := by
  obtain ⟨r, hr⟩ : ∃ r, dropH l g = r := ⟨_, rfl⟩
  rw [hr]
  have hle := h.le
  have HX := Lib.hid h
  have HZ := Lib.hid hz; have HS := Lib.hid hs
  clear h hz hs
  by_cases h1 : fitH l = true
  · have C1 := Lib.hid (fit_is a len cap l true h1 w HX.out HZ.out)
    have H1 := Lib.hid h1
    obtain ⟨p, hp⟩ : ∃ p, pos g l = p := ⟨_, rfl⟩
    have HP := Lib.hid hp
    cases h3 : (findH g l).isSome with
    | true =>
      obtain ⟨q, hq⟩ : ∃ q, p + 1 = q := ⟨_, rfl⟩
      obtain ⟨hpl, hless⟩ := less_drop_q h1 hp h3 hq
      have HR : Hid (r = (l.take p ++ l.drop q, 0)) := by
        show r = _; rw [← hr]; unfold dropH; rw [if_pos h1, if_pos h3, hless]
      have hlen := HX.out.len
      have h16 : len ≤ 16 := by rw [← hlen]; exact (fitH_iff.1 h1).1
      rw [hlen] at hpl
      obtain ⟨A2, hA2⟩ : ∃ A2, (if cap = q then a else Option.map (fun x => x.add (q * 3)) a) = A2 := ⟨_, rfl⟩
      have HA2 := Lib.hid hA2
      obtain ⟨d, hd⟩ : ∃ d, len - q = d := ⟨_, rfl⟩
      have HD := Lib.hid hd
      obtain ⟨cq, hcq⟩ : ∃ cq, cap - q = cq := ⟨_, rfl⟩
      have HCQ := Lib.hid hcq
      have hpc : p ≤ cap := by omega
      have hqc : q ≤ cap := by omega
      have hql : q ≤ len := by omega
      have hpq : (p : Int) + 1 = (q : Int) := by omega
      have hpw : IntKind.i64.wrap (q : Int) = (q : Int) := by rw [IntWalk.i64_in] <;> omega
      have HQ := Lib.hid hq
      have H3 := Lib.hid h3
      clear hr h1 h3 hp hq hless hlen hA2 hd hcq
      go_enter Try.func22, Try.ntmps22
      go_wp2_with fail
      refine C1.out.mono ?_
      rintro e w1 ⟨rfl, hb1⟩
      have HB1 := Lib.hid hb1
      have C3 := Lib.hid (place_is a len cap l g p true HP.out H3.out w1 (HX.out.keep hb1) H1.out)
      clear hb1
      go_wp2_with fail
      refine C3.out.mono ?_
      rintro e w2 ⟨rfl, hb2⟩
      have HB2 := Lib.hid (below_keep HB1.out hb2 HB1.out.size)
      clear hb2 C1 C3
      go_wp2_with fail
      refine wp_region_any (by kernel_rfl) ?_
      change wpAny _ _ _ _ _ _ _ (World.drew _)
      refine wpAny_take (i := 0) (v := ?_) rfl (by kernel_rfl) (by kernel_rfl) (by kernel_rfl) (fun _ _ _ h => h) (Or.inl ⟨by kernel_rfl, ?_⟩) ?_; rotate_left; focus ((intro w'); go_simp; (try with_reducible rfl))
      refine wpAny_take (i := 1) (v := ?_) rfl (by kernel_rfl) (by kernel_rfl) (by kernel_rfl) (fun _ _ _ h => h) (Or.inl ⟨by kernel_rfl, ?_⟩) ?_; rotate_left; focus ((intro w'); go_simp; (try with_reducible rfl))
      refine wpAny_take (i := 2) (v := ?_) rfl (by kernel_rfl) (by kernel_rfl) (by kernel_rfl) (fun _ _ _ h => h) (Or.inl ⟨by kernel_rfl, ?_⟩) ?_; rotate_left; focus ((intro w'); go_simp; (try with_reducible rfl))
      refine wpAny_take (i := 3) (v := ?_) rfl (by kernel_rfl) (by kernel_rfl) (by kernel_rfl) (fun _ _ _ h => h) (Or.inl ⟨by kernel_rfl, ?_⟩) ?_; rotate_left; focus ((intro w'); go_simp; (try with_reducible rfl))
      refine wpAny_take (i := 4) (v := ?_) rfl (by kernel_rfl) (by kernel_rfl) (by kernel_rfl) (fun _ _ _ h => h) (Or.inl ⟨by kernel_rfl, ?_⟩) ?_; rotate_left; focus ((intro w'); go_simp; (try with_reducible rfl))
      refine wpAny_take (i := 5) (v := ?_) rfl (by kernel_rfl) (by kernel_rfl) (by kernel_rfl) (fun _ _ _ h => h) (Or.inl ⟨by kernel_rfl, ?_⟩) ?_; rotate_left; focus ((intro w'); go_simp; (try with_reducible rfl))
      refine wpAny_take (i := 6) (v := ?_) rfl (by kernel_rfl) (by kernel_rfl) (by kernel_rfl) (fun _ _ _ h => h) (Or.inl ⟨by kernel_rfl, ?_⟩) ?_; rotate_left; focus ((intro w'); go_simp; (try with_reducible rfl))
      refine Mix.wpAny_of_seqV [7, 8, 9, 10, 11] _ _ _ (by kernel_rfl) ?_
      simp only [Mix.pick, List.filterMap_cons, List.filterMap_nil, List.getElem?_cons_zero, List.getElem?_cons_succ]
      have hA2 := HA2.out; have hd := HD.out; have hcq := HCQ.out
      refine wpList_plain rfl fun K hK => ?_
      go_simp
      refine hK _ _ ?_
      clear hK K
      clear hA2 hcq hpq hpw
      obtain ⟨zs, hzs, hZ⟩ := HX.out.keep HB2.out
      have HZ2 := Lib.hid (hZ.keep (below_drewN (Below.refl _ w2) 1))
      have HB6 := Lib.hid (below_drewN HB2.out 1)
      have HK0 : Hid (RowH w2.drew A2 d (zs.drop q)) := by show RowH _ _ _ _; rw [← hd]; exact part_drop HZ2.out hql hc HA2.out
      have HZS := Lib.hid hzs
      clear hzs hZ
      obtain ⟨w6, hw6⟩ : ∃ w6, w2.drew = w6 := ⟨_, rfl⟩
      have HZ6 : Hid (HzAt w6 a len zs) := by show HzAt _ _ _ _; rw [← hw6]; exact HZ2.out
      have HB6 : Hid (Below w.heap.size w w6) := by show Below _ _ _; rw [← hw6]; exact HB6.out
      have HK6 : Hid (RowH w6 A2 d (zs.drop q)) := by show RowH _ _ _ _; rw [← hw6]; exact HK0.out
      rw [hw6]
      clear hw6 HZ2 HK0
      by_cases hlast : d = 0
      · subst hlast
        obtain ⟨i0, hi, hz0, hz1, hz2⟩ := info_parts info_hold
        refine append_nothing rfl (.tmp 22) (.tmp 26) 22 27 rfl i0 Try.underlying22 hi a p p (Nat.le_refl _) rfl A2 cq rfl ?_
        clear hi hz0 hz1 hz2
        obtain ⟨a6, ha6⟩ : ∃ a6, a = a6 := ⟨_, rfl⟩
        obtain ⟨m, hm⟩ : ∃ m, p = m := ⟨_, rfl⟩
        obtain ⟨c6, hc6⟩ : ∃ c6, p = c6 := ⟨_, rfl⟩
        have hz6 : HsAt w6 a p (l.take p ++ l.drop q) := ⟨zs.take p, by
          rw [hs_take, HZS.out, List.drop_eq_nil_of_le (by have := HX.out.len; omega), List.append_nil], hz_take HZ6.out (by omega)⟩
        have C4 := Lib.hid (copies_any a p p (l.take p ++ l.drop q) w6 hz6 (by omega) (by
          intro x hx
          rcases List.mem_append.1 hx with hx | hx
          · exact HS.out x (List.mem_of_mem_take hx)
          · exact HS.out x (List.mem_of_mem_drop hx)))
        have HM : Hid ((l.take p ++ l.drop q).length = p) := hz6.len
        clear hz6 ha6 hm hc6 hd
        go_wp2_with fail
        refine C4.out.mono ?_
        rintro e w7 ⟨a7, c7, rfl, hc7, hz7, hb7⟩
        rw [HM.out] at hz7 hc7
        rw [HM.out]
        have HB7 := Lib.hid (below_keep HB6.out hb7 HB6.out.size)
        have HE : Hid (TurnC w r (.returned (.tuple #[.slice a7 p c7, .int .i64 0])) w7) := turn_okc HR.out HM.out hc7 hz7 HB7.out
        clear hz7 hb7 hc7
        go_wp2_with fail
        go_ret2
        exact HE.out
      · refine append_part rfl (.tmp 22) (.tmp 26) rfl a p (zs.take p) (zs.drop q) A2 d cq rfl (part_take HZ6.out (by omega)) rfl HK6.out (by omega) (by omega) ?_
        intro v5 w5 hown5 hg5
        have HB5 : Hid (Below w.heap.size w w5) := HB6.out.grown hg5 HB6.out.size (fun k hk => by cases hk)
        have HK5 : Hid (Below w6.heap.size w6 w5) := (Below.refl _ _).grown hg5 (Nat.le_refl _) (fun k hk => by cases hk)
        have hlz := HZ6.out.1
        have hzl : (zs.take p ++ zs.drop q).length = p + d := by simp [hlz]; omega
        have hll : ∀ z ∈ zs.take p ++ zs.drop q, LsAt w5 z.2.1 z.1.ls.length z.1.ls := by
          intro z hz
          rcases List.mem_append.1 hz with hz | hz
          · exact (HZ6.out.2.2.1 z (List.mem_of_mem_take hz)).keep HK5.out
          · exact (HZ6.out.2.2.1 z (List.mem_of_mem_drop hz)).keep HK5.out
        obtain ⟨a6, c6, rfl, hz6⟩ := hz_of hown5 hzl (by omega) hll
        obtain ⟨m, hm⟩ : ∃ m, p + d = m := ⟨_, rfl⟩
        have hm17 : m ≤ 17 := by have := HD.out; have := HQ.out; omega
        rw [hm] at hz6 ⊢
        have hz6 : HsAt w5 a6 m (l.take p ++ l.drop q) := ⟨_, by rw [hs_append, hs_take, hs_drop, HZS.out], hz6⟩
        clear hzl hll hown5 hg5 hm hlz hd
        have C4 := Lib.hid (copies_any a6 m c6 (l.take p ++ l.drop q) w5 hz6 (by omega) (by
          intro x hx
          rcases List.mem_append.1 hx with hx | hx
          · exact HS.out x (List.mem_of_mem_take hx)
          · exact HS.out x (List.mem_of_mem_drop hx)))
        have HM : Hid ((l.take p ++ l.drop q).length = m) := hz6.len
        clear hz6
        go_wp2_with fail
        refine C4.out.mono ?_
        rintro e w7 ⟨a7, c7, rfl, hc7, hz7, hb7⟩
        rw [HM.out] at hz7 hc7
        rw [HM.out]
        have HB7 := Lib.hid (below_keep HB5.out hb7 HB5.out.size)
        have HE : Hid (TurnC w r (.returned (.tuple #[.slice a7 m c7, .int .i64 0])) w7) := turn_okc HR.out HM.out hc7 hz7 HB7.out
        clear hz7 hb7 hc7
        go_wp2_with fail
        go_ret2
        exact HE.out
    | false =>
      have HR : Hid (r = ([], 2)) := by show r = _; rw [← hr]; unfold dropH; rw [if_pos h1]; show (if (findH g l).isSome = true then _ else _) = _; rw [h3, if_neg (by decide)]
      have H3 := Lib.hid h3
      clear hr h1 h3 hp
      go_enter Try.func22, Try.ntmps22
      go_wp2_with fail
      refine C1.out.mono ?_
      rintro e w1 ⟨rfl, hb1⟩
      have HB1 := Lib.hid hb1
      have C3 := Lib.hid (place_is a len cap l g p false HP.out H3.out w1 (HX.out.keep hb1) H1.out)
      clear hb1
      go_wp2_with fail
      refine C3.out.mono ?_
      rintro e w2 ⟨rfl, hb2⟩
      have HE := Lib.hid (turn_errc (r := r) HR.out (below_keep HB1.out hb2 HB1.out.size))
      clear hb2
      go_wp2_with fail
      go_ret2
      exact HE.out
  · have C1 := Lib.hid (fit_is a len cap l false (by simpa using h1) w HX.out HZ.out)
    have HR : Hid (r = ([], 12)) := by show r = _; rw [← hr]; unfold dropH; rw [if_neg h1]
    clear hr h1
    go_enter Try.func22, Try.ntmps22
    go_wp2_with fail
    refine C1.out.mono ?_
    rintro e w1 ⟨rfl, hb1⟩
    have HE := Lib.hid (turn_errc (r := r) HR.out hb1)
    clear hb1
    go_wp2_with fail
    go_ret2
    exact HE.out
end Go.Proofs.Ytleopanfggmenaa.Holds
