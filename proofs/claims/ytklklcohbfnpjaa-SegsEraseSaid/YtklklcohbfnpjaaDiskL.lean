/-
  The contract of Read: any disk; the iterator that goes backward.
-/
import Derived.Test.YtklklcohbfnpjaaDiskK
set_option linter.unusedVariables false
set_option maxRecDepth 4000
namespace Go.Proofs.Ytklklcohbfnpjaa
open Go.RowKit Go.Shelf DiskP
attribute [local go_sem] Oper.semAt_some

/-- The writes from the last one on, with their numbers: the first k. -/
def revT (W : List Wr) : Nat → List (Nat × Wr)
  | 0 => []
  | k + 1 => revT W k ++ [(W.length - 1 - k, W.getD (W.length - 1 - k) (0, ByteArray.empty))]
theorem revT_length (W : List Wr) : ∀ k, (revT W k).length = k
  | 0 => rfl
  | k + 1 => by show (revT W k ++ [_]).length = _; rw [List.length_append, revT_length W k]; rfl
theorem revT_snd (W : List Wr) : ∀ k, k ≤ W.length → (revT W k).map (·.2) = W.reverse.take k
  | 0, _ => by simp [revT]
  | k + 1, h => by
    show (revT W k ++ [(W.length - 1 - k, W.getD (W.length - 1 - k) (0, ByteArray.empty))]).map (·.2) = _
    have hlt : k < W.reverse.length := by simp; omega
    have h2 : W.length - 1 - k < W.length := by omega
    rw [List.map_append, revT_snd W k (by omega), List.take_succ_eq_append_getElem hlt]
    simp [List.getD, h2]
theorem backward_any (a : Option Addr) (len cap : Nat) (w : World) :
    Calls Try.prog 48 #[.slice a len cap] w fun e w' => e = .returned (.func (.func 63) #[] #[.pointer (some ⟨w.heap.size, 0, none⟩)]) ∧
      w' = w.alloc (.cells #[.slice a len cap] 55) := by
  go_enter Try.func48, Try.ntmps48
  go_wp2
  go_ret
  exact ⟨rfl, rfl⟩
set_option maxRecDepth 100000 in
set_option maxHeartbeats 4000000 in
theorem back1_in (l Bs n0 n : Nat) (gs : List Nat) (W : List Wr) (wv : Value) (hn : 2 ≤ n) (J Jx : List (Nat × Wr) → World → Prop) (w : World)
    (hY : ∀ pre x W1, J pre W1 → pre.length < W.length → YieldAt Fence.wide (n - 1) Try.prog l #[.int .i64 (x.1 : Int), wval x.2] W1 fun e W' =>
      (e = .returned (.bool true) ∧ J (pre ++ [x]) W' ∧ But n0 gs W1 W') ∨ (e = .returned (.bool false) ∧ Jx (pre ++ [x]) W'))
    (hBs : w.cell? ⟨Bs, 0, none⟩ = some wv) (hBn : Bs < n0 ∧ Bs ∉ gs)
    (hw : w.ownsRow 0 75 2 wv W.length (wcells W)) (hwn : ∀ k, wv.ownBlock = some k → k < n0 ∧ k ∉ gs) (hlen : W.length ≤ 1000000000) (h0 : J [] w) :
    CallsIn Fence.wide n Try.prog 63 #[.func (.yield l) #[] #[], .pointer (some ⟨Bs, 0, none⟩)] w fun e W' => (∃ v, e = .returned v) ∧
      ((∃ xs, xs = revT W W.length ∧ J xs W') ∨ (∃ pre, (∃ k, k ≤ W.length ∧ pre = revT W k) ∧ Jx pre W')) := by
  have HY := Lib.hid hY; have HW := Lib.hid hw; have HWN := Lib.hid hwn; have H0 := Lib.hid h0; have HBS := Lib.hid hBs
  clear hY hw hwn h0
  rcases wts_nil_or HW.out with ⟨rfl, rfl⟩ | ⟨qb, qc, rfl⟩
  · refine callsIn_of_wp Try.func63 rfl trivial ?_ rfl
    simp only [Try.ntmps63, List.size_toArray, List.length_cons, List.length_nil, Nat.reduceAdd, Nat.reduceSub, Array.replicate_succ, Array.replicate_zero, List.push_toArray, List.append_toArray, List.nil_append, List.cons_append]
    gi_wp2
    gi_loopw [3] (fun i wr => i = .int .i64 (-1) ∧ wr = w) (fun _ _ => 0)
    case atStart => exact ⟨rfl, rfl⟩
    case round =>
      obtain ⟨rfl, rfl⟩ := hrel
      gi_wp2
      go_end0
      exact ⟨⟨_, rfl⟩, .inl ⟨_, rfl, H0.out⟩⟩
  · refine callsIn_of_wp Try.func63 rfl trivial ?_ rfl
    simp only [Try.ntmps63, List.size_toArray, List.length_cons, List.length_nil, Nat.reduceAdd, Nat.reduceSub, Array.replicate_succ, Array.replicate_zero, List.push_toArray, List.append_toArray, List.nil_append, List.cons_append]
    gi_wp2
    gi_loopw [3] (fun i wr => ∃ m : Nat, m ≤ W.length ∧ i = .int .i64 ((m : Int) - 1) ∧ Hid (J (revT W (W.length - m)) wr) ∧ Hid (But n0 gs w wr)) (fun i _ => (intOf i + 1).toNat)
    case atStart => exact ⟨W.length, Nat.le_refl _, rfl, by show J _ _; rw [Nat.sub_self]; exact H0.out, But.refl _ _ _⟩
    case round =>
      obtain ⟨m, hm, rfl, hJs, hB⟩ := hrel
      by_cases hlt : 1 ≤ m
      · obtain ⟨k, rfl⟩ : ∃ k, m = k + 1 := ⟨m - 1, by omega⟩
        have e1 : ((k + 1 : Nat) : Int) - 1 = (k : Int) := by omega
        rw [e1]
        have hk : k < W.length := by omega
        have hrk : revT W (W.length - k) = revT W (W.length - (k + 1)) ++ [(k, W[k])] := by
          have e2 : W.length - k = W.length - (k + 1) + 1 := by omega
          have e3 : W.length - 1 - (W.length - (k + 1)) = k := by omega
          rw [e2]
          show revT W (W.length - (k + 1)) ++ [_] = _
          rw [e3]; simp [List.getD, hk]
        obtain ⟨d0, d1⟩ := wts_at HW.out hk
        obtain ⟨hq1, hq2⟩ := HWN.out qb rfl
        rw [← hB.out.cell hq1 hq2] at d0 d1
        have hbs : wr.cell? ⟨Bs, 0, none⟩ = some (.slice (some ⟨qb, 0, none⟩) W.length qc) := (hB.out.cell hBn.1 hBn.2).trans HBS.out
        obtain ⟨x, hx⟩ : ∃ x, W[k] = x := ⟨_, rfl⟩
        rw [hx] at hrk d0 d1
        obtain ⟨fn, tmps, assign, body, hy, hR⟩ := HY.out _ (k, x) wr hJs.out (by rw [revT_length]; omega)
        have HR := Lib.hid hR; have HRK := Lib.hid hrk
        clear hR hrk e1 hq1 hq2 hx hlt
        dsimp only [wval] at hy
        gi_wp2_with fail
        refine ⟨fun _ => by omega, ?_⟩
        refine HR.out.mono ?_
        rintro e w3 (⟨rfl, hJ3, hk3⟩ | ⟨rfl, hJx⟩)
        · have HJ3 := Lib.hid hJ3; have HB3 := Lib.hid (hB.out.trans hk3)
          clear hJ3 hk3 hy d0 d1 hbs hJs hB
          gi_wp2_with fail
          go_roundw
          case rel => exact ⟨k, by omega, by go_num, by show J _ _; rw [HRK.out]; exact HJ3.out, HB3⟩
          case measure => simp [intOf]
        · have HJX := Lib.hid hJx
          clear hJx hy d0 d1 hbs hJs hB
          gi_wp2_with fail
          refine bodyPost_ret (results_none rfl _ _ _) rfl ?_
          exact ⟨⟨_, rfl⟩, .inr ⟨_, ⟨W.length - k, by omega, rfl⟩, by rw [HRK.out]; exact HJX.out⟩⟩
      · obtain rfl : m = 0 := by omega
        have HJ0 := hJs
        clear hJs hB
        gi_wp2
        go_end0
        exact ⟨⟨_, rfl⟩, .inl ⟨_, rfl, HJ0.out⟩⟩
theorem back_stops (Bs n0 n : Nat) (gs : List Nat) (W : List Wr) (wv : Value) (hn : 2 ≤ n) (w : World) (hBs : w.cell? ⟨Bs, 0, none⟩ = some wv) (hBn : Bs < n0 ∧ Bs ∉ gs)
    (hw : w.ownsRow 0 75 2 wv W.length (wcells W)) (hwn : ∀ k, wv.ownBlock = some k → k < n0 ∧ k ∉ gs) (hlen : W.length ≤ 1000000000) :
    SeqStopsK Fence.wide n Try.prog 63 #[.pointer (some ⟨Bs, 0, none⟩)] (fun x : Nat × Wr => #[.int .i64 (x.1 : Int), wval x.2]) (But n0 gs) (fun xs => xs = revT W W.length) (fun pre => ∃ k, k ≤ W.length ∧ pre = revT W k) W.length w := by
  intro l J Jx W1 hW hJ _ hY h0
  have old : ∀ {bb oo : Nat} {v : Value}, w.cell? ⟨bb, oo, none⟩ = some v → W1.cell? ⟨bb, oo, none⟩ = some v := fun h => (hW.cell (p := ⟨_, _, none⟩) (World.block_lt_of_cell? w _ h)).trans h
  exact back1_in l Bs n0 n gs W wv hn J Jx W1 hY (old hBs) hBn (owns_heap hw (fun k e => hW.block k (owns_lt hw e))) hwn hlen h0
theorem read_no (p : Option Addr) (at_ : Int) (w : World) (h : NoDisk w p) : Calls Try.prog 23 #[.pointer p, .int .i64 at_] w fun e w' => e = .returned (.tuple #[.string ⟨#[]⟩, .int .i64 1]) ∧ Below w.heap.size w w' := by
  have hB := ((Below.refl w.heap.size w).alloc (Nat.le_refl _) (.cells #[.int .i64 at_] 3)).alloc (by simp) (.cells #[.string ⟨#[]⟩] 9) |>.alloc (by simp; omega) (.cells #[.int .i64 0] 34)
  have h2 : NoDisk (((w.alloc (.cells #[.int .i64 at_] 3)).alloc (.cells #[.string ⟨#[]⟩] 9)).alloc (.cells #[.int .i64 0] 34)) p := by
    rcases h with rfl | ⟨b, rfl, hc⟩
    · exact .inl rfl
    · exact .inr ⟨b, rfl, Lib.cell?_alloc_some _ (Lib.cell?_alloc_some _ (Lib.cell?_alloc_some _ hc))⟩
  go_enter Try.func23, Try.ntmps23
  go_wp2_with fail
  refine (reach_no p at_ _ h2).mono ?_
  rintro e w' ⟨rfl, rfl⟩
  have HB : Hid (Below w.heap.size w (((w.alloc (.cells #[.int .i64 at_] 3)).alloc (.cells #[.string ⟨#[]⟩] 9)).alloc (.cells #[.int .i64 1] 34))) := (((Below.refl w.heap.size w).alloc (Nat.le_refl _) _).alloc (by simp) _).alloc (by simp; omega) _
  clear hB h2 h
  go_wp2_with fail
  exact bodyPost_ret (v := .tuple #[.string ⟨#[]⟩, .int .i64 1]) (by simp [results, Try.f23, go_sem]) rfl ⟨rfl, HB.out⟩
theorem rp_dead {st : St} (h : st.dead = true) (at_ : Int) : rd st at_ = (ByteArray.empty, 13) := by unfold rd; rw [if_pos h]
theorem rp_out {st : St} (h : st.dead = false) {at_ : Int} (ho : out st.S.length at_ = true) : rd st at_ = (ByteArray.empty, 11) := by unfold rd; rw [if_neg (by simp [h]), if_pos ho]
theorem rp_ok {st : St} (h : st.dead = false) {k : Nat} (ho : out st.S.length (k : Int) = false) : rd st k = (over (st.S.getD k ByteArray.empty) st.W k, 0) := by unfold rd; rw [if_neg (by simp [h]), if_neg (by simp [ho])]; rfl
abbrev rdW (w : World) (at_ : Int) : World := ((w.alloc (.cells #[.int .i64 at_] 3)).alloc (.cells #[.string ⟨#[]⟩] 9)).alloc (.cells #[.int .i64 0] 34)
theorem read_err (b : Nat) (at_ r : Int) (w : World) (hr : Calls Try.prog 39 #[.pointer (some ⟨b, 0, none⟩), .int .i64 at_] (rdW w at_) fun e w' => e = .returned (.int .i64 r) ∧ rdW w at_ = w') (h0 : (r == 0) = false) (h1 : (r != 0) = true) :
    Calls Try.prog 23 #[.pointer (some ⟨b, 0, none⟩), .int .i64 at_] w fun e w' => e = .returned (.tuple #[.string ByteArray.empty, .int .i64 r]) ∧ Below w.heap.size w w' := by
  have HB : Hid (Below w.heap.size w (((w.alloc (.cells #[.int .i64 at_] 3)).alloc (.cells #[.string ⟨#[]⟩] 9)).alloc (.cells #[.int .i64 r] 34))) := (((Below.refl w.heap.size w).alloc (Nat.le_refl _) _).alloc (by simp) _).alloc (by simp; omega) _
  have HR := Lib.hid hr
  clear hr
  go_enter Try.func23, Try.ntmps23
  go_wp2_with fail
  refine HR.out.mono ?_
  rintro e w' ⟨rfl, rfl⟩
  go_wp2_with fail
  exact bodyPost_ret (v := .tuple #[.string ⟨#[]⟩, .int .i64 r]) (by simp [results, Try.f23, go_sem]) rfl ⟨rfl, HB.out⟩
theorem But.below {n0 B : Nat} {gs : List Nat} {w w' : World} (h : But n0 gs w w') (hB : B ≤ n0) (hg : ∀ k ∈ gs, B ≤ k) : Below B w w' := ⟨h.os, h.tape, h.output, h.size, fun k hk => h.block k (by omega) (fun hm => by have := hg k hm; omega)⟩
set_option maxRecDepth 100000 in
set_option maxHeartbeats 4000000 in
theorem read_dk (b n : Nat) (st : St) (L : List Nat) (at_ : Int) (w : World) (h : Dk w L b st) (hok : Ok n st) (hn : n ≤ 1000000000) :
    Calls Try.prog 23 #[.pointer (some ⟨b, 0, none⟩), .int .i64 at_] w fun e w' => e = .returned (.tuple #[.string (rd st at_).1, .int .i64 (rd st at_).2]) ∧ Below w.heap.size w w' := by
  obtain ⟨z, g, cap, wv, h, rfl⟩ := h
  have hb3 : Below w.heap.size w (rdW w at_) := (((Below.refl w.heap.size w).alloc (Nat.le_refl _) _).alloc (by simp) _).alloc (by simp; omega) _
  have h3 : DkAt (rdW w at_) b st z g cap wv := h.keep (fun k hk => hb3.block k (h.lt k hk))
  have hr := reach_dk b st _ at_ _ ⟨z, g, cap, wv, h3, rfl⟩ hok.hi
  have hsl := hok.hi
  have hwn : st.W.length ≤ 1000000000 := by have := hok.wn; omega
  cases hd : st.dead with
  | true =>
    rw [rp_dead hd]
    rw [hd] at hr
    exact read_err b at_ 13 w hr rfl rfl
  | false =>
  rw [hd] at hr
  cases ho : out st.S.length at_ with
  | true =>
    rw [rp_out hd ho]
    rw [ho] at hr
    exact read_err b at_ 11 w hr rfl rfl
  | false =>
  rw [ho] at hr
  obtain ⟨k, rfl⟩ : ∃ k : Nat, at_ = k := ⟨at_.toNat, by have := of_out ho; omega⟩
  have hk2 : k < st.S.length := by have := of_out ho; omega
  rw [rp_ok hd ho]
  obtain ⟨s0, hs0⟩ : ∃ s0, st.S.getD k ByteArray.empty = s0 := ⟨_, rfl⟩
  have hcs := (sec_at h3.sec hk2).1
  rw [hs0] at hcs ⊢
  obtain ⟨w3, hw3⟩ : ∃ w3, rdW w k = w3 := ⟨_, rfl⟩
  have hwt := wts_nil_or h3.wts
  have b0 : (rdW w k).heap[w.heap.size]? = some (.cells #[.int .i64 (k : Int)] 3 (0, 0)) := by
    rw [Below.heap_alloc _ _ _ (by simp; omega), Below.heap_alloc _ _ _ (by simp)]; exact heap_alloc_new w _
  have b1 : (rdW w k).heap[w.heap.size + 1]? = some (.cells #[.string ⟨#[]⟩] 9 (0, 0)) := by
    rw [Below.heap_alloc _ _ _ (by simp)]
    have := heap_alloc_new (w.alloc (.cells #[.int .i64 (k : Int)] 3)) (.cells #[.string ⟨#[]⟩] 9)
    simpa using this
  have b2 : (rdW w k).heap[w.heap.size + 1 + 1]? = some (.cells #[.int .i64 0] 34 (0, 0)) := by
    have := heap_alloc_new ((w.alloc (.cells #[.int .i64 (k : Int)] 3)).alloc (.cells #[.string ⟨#[]⟩] 9)) (.cells #[.int .i64 0] 34)
    simpa using this
  have hz3 : (rdW w k).heap.size = w.heap.size + 3 := by simp
  have HLT := Lib.hid (show ∀ j ∈ foot b g wv, j < w.heap.size from h.lt)
  have hws := h3.wts
  rw [hw3] at h3 hr hb3 hcs b0 b1 b2 hz3 hws
  have HR := Lib.hid hr; have HB3 := Lib.hid hb3; have H3 := Lib.hid h3; have HWT := Lib.hid hwt; have HB0 := Lib.hid b0; have HB1 := Lib.hid b1; have HB2 := Lib.hid b2; have HZ3 := Lib.hid hz3; have HS0 := Lib.hid hs0; have HWS := Lib.hid hws
  have c4 : w3.cell? ⟨b, 4, none⟩ = some wv := cell_of_heap h3.blk
  have a0 : w3.cell? ⟨w.heap.size, 0, none⟩ = some (.int .i64 (k : Int)) := cell_of_heap b0
  clear h h3 hr hb3 hwt ho hd hok hcs hs0 b0 b1 b2 hz3 hws
  refine (callsIn_wide (n := 6)).1 ?_
  refine callsIn_of_wp_marks Try.func23 rfl trivial ?_ rfl
  simp only [Try.ntmps23, List.size_toArray, List.length_cons, List.length_nil, Nat.reduceAdd, Nat.reduceSub, Array.replicate_succ, Array.replicate_zero, List.push_toArray, List.append_toArray, List.nil_append, List.cons_append]
  gi_wp2_with fail
  refine ⟨trivial, ?_⟩
  refine (callsIn_wide.2 HR.out).mono ?_
  rintro e w' ⟨rfl, rfl⟩
  obtain ⟨ao, al, ac, rfl⟩ : ∃ ao al ac, wv = .slice ao al ac := by
    rcases HWT.out with ⟨h, _⟩ | ⟨q, qc, h⟩
    · exact ⟨_, _, _, h⟩
    · exact ⟨_, _, _, h⟩
  have hb4 : Below w3.heap.size w3 (w3.alloc (.cells #[.slice ao al ac] 55)) := (Below.refl _ w3).alloc (Nat.le_refl _) _
  obtain ⟨w4, hw4⟩ : ∃ w4, w3.alloc (.cells #[.slice ao al ac] 55) = w4 := ⟨_, rfl⟩
  have hs4 : w4.heap.size = w3.heap.size + 1 := by rw [← hw4]; show _ = _; simp
  have hbs : w4.cell? ⟨w3.heap.size, 0, none⟩ = some (.slice ao al ac) := by rw [← hw4, World.cell?_alloc_new]; rfl
  rw [hw4] at hb4
  have hseq := back_stops w3.heap.size w4.heap.size 5 [] st.W (.slice ao al ac) (by omega) w4 hbs ⟨by omega, by simp⟩ (owns_heap HWS.out (fun k e => hb4.block k (owns_lt HWS.out e))) (fun k e => ⟨by have := owns_lt HWS.out e; omega, by simp⟩) hwn
  have h4 : DkAt w4 b st z g cap (.slice ao al ac) := H3.out.keep (fun k hk => hb4.block k (H3.out.lt k hk))
  have hz := HZ3.out
  have HSEQ := Lib.hid hseq; have HW4 := Lib.hid hw4; have H4 := Lib.hid h4
  have HC0 := Lib.hid ((hb4.block _ (by omega)).trans HB0.out); have HC1 := Lib.hid ((hb4.block _ (by omega)).trans HB1.out); have HC2 := Lib.hid ((hb4.block _ (by omega)).trans HB2.out)
  have HB4 := Lib.hid (HB3.out.trans (hb4.mono (by omega))); have HSZ := Lib.hid (show w.heap.size + 4 ≤ w4.heap.size by omega)
  clear hb4 hs4 hbs hseq h4 hw4 hz
  gi_wp2_with fail
  refine ⟨trivial, ?_⟩
  refine (callsIn_wide.2 (backward_any ao al ac w3)).mono ?_
  rintro e w4' ⟨rfl, hw4'⟩
  obtain rfl : w4' = w4 := hw4'.trans HW4.out
  clear hw4' HW4 c4 a0
  gi_wp2_with fail
  refine wpIn_rangeFunc_ownH rfl (by omega) (gf := 63) (lb := #[.pointer (some ⟨w3.heap.size, 0, none⟩)]) rfl trivial (enters_of Try.func63 (by kernel_rfl) rfl) HSEQ.out But.trans (but_b (Nat.le_refl _)) (Below.refl _ _) (fun _ => rfl)
    (fun pre W => ((Boxed W w.heap.size 3 (.int .i64 (k : Int)) ∧ Boxed W (w.heap.size + 1) 9 (.string ⟨#[]⟩) ∧ Boxed W (w.heap.size + 1 + 1) 34 (.int .i64 0)) ∧ DkAt W b st z g cap (.slice ao al ac) ∧ (∀ p ∈ pre, p.2.1 ≠ k)) ∧ But w4'.heap.size [] w4' W)
    (fun c pre W => ((∃ ini x, pre = ini ++ [x] ∧ (∀ p ∈ ini, p.2.1 ≠ k) ∧ x.2.1 = k ∧ Boxed W (w.heap.size + 1) 9 (.string x.2.2) ∧ Boxed W (w.heap.size + 1 + 1) 34 (.int .i64 0)) ∧ c = .ret) ∧ But w4'.heap.size [w.heap.size + 1, w.heap.size + 1 + 1] w4' W)
    ?hi ?hix
    ⟨⟨⟨HC0.out, HC1.out, HC2.out⟩, H4.out, fun p hp => by simp at hp⟩, But.refl _ _ _⟩
    (fun x a' W => ∃ Bx, w4'.heap.size ≤ Bx ∧ WBox W Bx x.2 ∧ a' = { tmps := #[.pointer (some ⟨b, 0, none⟩), .int .i64 (k : Int), undef, .pointer (some ⟨w.heap.size, 0, none⟩), .pointer (some ⟨w.heap.size + 1, 0, none⟩), .pointer (some ⟨w.heap.size + 1 + 1, 0, none⟩), .int .i64 0, undef, .pointer (some ⟨Bx, 0, none⟩), .pointer (some ⟨b, 0, none⟩), .int .i64 (k : Int), .int .i64 0, .int .i64 0, .bool false, undef, .pointer (some ⟨b, 0, none⟩), .pointer (some ⟨b, 0, none⟩), .pointer (some ⟨b, 4, none⟩), .slice ao al ac, .func (.func 63) #[] #[.pointer (some ⟨w3.heap.size, 0, none⟩)], .int .i64 (x.1 : Int), wval x.2, undef, undef, undef, undef, undef, undef, undef, undef, undef, undef, undef, undef, undef], defers := [] })
    ?hax ?assign ?body ?done ?stop
  case hi =>
    rintro pre X Y row ⟨⟨⟨h0, h1, h2⟩, hd, hp⟩, hB⟩ hg hr
    have hr2 : ∀ r, row = some r → ∃ o : Obj, X.heap[r]? = some o ∧ o.isCells = false := fun r e => (hr r e).2
    have bk : ∀ {B : Nat} {t : TypeId} {v : Value}, Boxed X B t v → Boxed Y B t v := fun hx => hx.kept hg (fun e => by obtain ⟨o, ho, hc⟩ := hr2 _ e.symm; rw [show X.heap[_]? = _ from hx] at ho; cases ho; cases hc)
    exact ⟨⟨⟨bk h0, bk h1, bk h2⟩, dk_own hd hg hr2, hp⟩, hB.trans (But.of_grown hg hB.size (fun k e => .inl (hr k e).1))⟩
  case hix =>
    rintro c pre X Y row ⟨⟨⟨ini, x, h0, h1, h2, h3, h4⟩, hc⟩, hB⟩ hg hr
    have hr2 : ∀ r, row = some r → ∃ o : Obj, X.heap[r]? = some o ∧ o.isCells = false := fun r e => (hr r e).2
    have bk : ∀ {B : Nat} {t : TypeId} {v : Value}, Boxed X B t v → Boxed Y B t v := fun hx => hx.kept hg (fun e => by obtain ⟨o, ho, hc⟩ := hr2 _ e.symm; rw [show X.heap[_]? = _ from hx] at ho; cases ho; cases hc)
    exact ⟨⟨⟨ini, x, h0, h1, h2, bk h3, bk h4⟩, hc⟩, hB.trans (But.of_grown hg hB.size (fun k e => .inl (hr k e).1))⟩
  case hax =>
    rintro x a' s X Y row ⟨Bx, h1, h2, h3⟩ hg hr
    exact ⟨Bx, h1, wbox_own Bx _ (fun _ : Unit => x.2) () X Y row h2 hg hr, h3⟩
  case assign =>
    rintro l pre x W K ⟨⟨⟨h0, h1, h2⟩, hd, hp⟩, hB⟩ hK
    have hBW : Below W.heap.size W (W.alloc (.cells #[.int .i64 (x.2.1 : Int), .string x.2.2] 75)) := (Below.refl _ W).alloc (Nat.le_refl _) _
    have hsz := hB.size
    have HD := Lib.hid (hd.keep (fun k hk => hBW.block k (hd.lt k hk)))
    have HBB := Lib.hid (But.of_below (gs := []) (hBW.mono hsz))
    have HB := Lib.hid (hB.trans HBB.out)
    have HX0 := Lib.hid (h0.alloc (.cells #[.int .i64 (x.2.1 : Int), .string x.2.2] 75)); have HX1 := Lib.hid (h1.alloc (.cells #[.int .i64 (x.2.1 : Int), .string x.2.2] 75)); have HX2 := Lib.hid (h2.alloc (.cells #[.int .i64 (x.2.1 : Int), .string x.2.2] 75))
    have HP := Lib.hid hp
    clear hd h0 h1 h2 hB hBW hp
    gi_wp2_with fail
    exact hK _ _ ((KeepsOthers.alloc _ _).from _) HBB.out ⟨⟨⟨HX0.out, HX1.out, HX2.out⟩, HD.out, HP.out⟩, HB.out⟩ ⟨W.heap.size, hsz, World.alloc_heap_new W _, rfl⟩
  case body =>
    rintro l pre x a' W hl hr ⟨⟨⟨h0, h1, h2⟩, hd, hp⟩, hB⟩ ⟨Bx, hBx, hxb, rfl⟩ hlt
    have c0 := h0.cell
    have c1 := h1.cell
    have c2 := h2.cell
    have f1 := h1.frozen
    have f2 := h2.frozen
    have x0 := hxb.c0
    have x1 := hxb.c1
    have HP := Lib.hid hp; have HB := Lib.hid hB; have HD := Lib.hid hd; have HX0 := Lib.hid h0; have HX1 := Lib.hid h1; have HX2 := Lib.hid h2
    clear hp hB hd h0 h1 h2
    by_cases he : x.2.1 = k
    · have he2 : (((x.2.1 : Nat) : Int) == (k : Int)) = true := by rw [he]; simp
      have he3 : (x.2.1 == k) = true := by rw [he]; simp
      have HE := Lib.hid he
      clear he
      gi_wp2_with fail
      refine ⟨((KeepsOthers.setCell _ _ _).trans (KeepsOthers.setCell _ _ _)).from _, ⟨⟨pre, x, rfl, HP.out, HE.out, ?_, ?_⟩, rfl⟩, ?_⟩
      · exact (HX1.out.set (.string x.2.2)).other (by omega) _
      · exact (HX2.out.other (by omega) _).set _
      · have hs := HB.out.size
        have g1 := Lib.grownBy_setCell W (w.heap.size + 1) 0 (.string x.2.2)
        exact ((HB.out.mono (fun k hk => by simp at hk)).trans (But.of_grown g1 hs (fun k e => by cases e; exact .inr (by simp)))).trans (But.of_grown (Lib.grownBy_setCell _ (w.heap.size + 1 + 1) 0 (.int .i64 0)) (Nat.le_trans hs g1.size) (fun k e => by cases e; exact .inr (by simp)))
    · have he2 : (((x.2.1 : Nat) : Int) == (k : Int)) = false := beq_eq_false_iff_ne.2 (by omega)
      have he3 : (x.2.1 == k) = false := beq_eq_false_iff_ne.2 he
      have HE := Lib.hid he
      clear he
      gi_wp2_with fail
      exact ⟨KeepsFrom.refl _ _, But.refl _ _ _, ⟨⟨HX0.out, HX1.out, HX2.out⟩, HD.out, fun p hp => by
        rcases List.mem_append.1 hp with hp | hp
        · exact HP.out p hp
        · obtain rfl := List.mem_singleton.1 hp; exact HE.out⟩, HB.out⟩
  case done =>
    rintro D ys W hD hys ⟨⟨⟨h0, h1, h2⟩, hd, hp⟩, hB⟩ hK
    have c0 := h0.cell
    have c1 := h1.cell
    have c2 := h2.cell
    have f1 := h1.frozen
    have f2 := h2.frozen
    have c3 : W.cell? ⟨b, 3, none⟩ = some (.slice (some ⟨g, 0, none⟩) st.S.length cap) := cell_of_heap hd.blk
    have hcs := (sec_at hd.sec hk2).1
    rw [HS0.out] at hcs
    have HX1 := Lib.hid h1; have HX2 := Lib.hid h2; have HB := Lib.hid hB; have HP := Lib.hid hp; have HK := Lib.hid hK; have HYS := Lib.hid hys
    clear h0 h1 h2 hd hp hB hK hys
    gi_wp2_with fail
    refine Mix.wpIn_region_mix Mix.open_wide [0, 1, 2, 3, 4, 5, 6] [7, 8] 7 (by kernel_rfl) (by kernel_rfl) ?_
    simp only [Mix.pick, List.filterMap_cons, List.filterMap_nil, List.getElem?_cons_zero, List.getElem?_cons_succ]
    repeat still_step
    refine wpStill_nil ?_
    gi_wp2_with fail
    have hK2 := ((KeepsOthers.setCell W ⟨w.heap.size + 1, 0, none⟩ (.string s0)).trans (KeepsOthers.setCell _ ⟨w.heap.size + 1 + 1, 0, none⟩ (.int .i64 0))).same D _ HK.out rfl
    have b1 : Boxed ((W.setCell ⟨w.heap.size + 1, 0, none⟩ (.string s0)).setCell ⟨w.heap.size + 1 + 1, 0, none⟩ (.int .i64 0)) (w.heap.size + 1) 9 (.string s0) := (HX1.out.set (.string s0)).other (by omega) _
    have b2 : Boxed ((W.setCell ⟨w.heap.size + 1, 0, none⟩ (.string s0)).setCell ⟨w.heap.size + 1 + 1, 0, none⟩ (.int .i64 0)) (w.heap.size + 1 + 1) 34 (.int .i64 0) := (HX2.out.other (by omega) _).set _
    have hz := HSZ.out
    have b1' : Boxed ((W.setCell ⟨w.heap.size + 1, 0, none⟩ (.string s0)).setCell ⟨w.heap.size + 1 + 1, 0, none⟩ (.int .i64 0)).drew (w.heap.size + 1) 9 (.string s0) := b1
    have b2' : Boxed ((W.setCell ⟨w.heap.size + 1, 0, none⟩ (.string s0)).setCell ⟨w.heap.size + 1 + 1, 0, none⟩ (.int .i64 0)).drew (w.heap.size + 1 + 1) 34 (.int .i64 0) := b2
    have q1 := (b1'.kept (grownBy_putObj' _ D (.deferred none)) (fun e => by cases e; omega)).cell
    have q2 := (b2'.kept (grownBy_putObj' _ D (.deferred none)) (fun e => by cases e; omega)).cell
    have hs := HB.out.size
    have g1 := Lib.grownBy_setCell W (w.heap.size + 1) 0 (.string s0)
    have g2 := Lib.grownBy_setCell (W.setCell ⟨w.heap.size + 1, 0, none⟩ (.string s0)) (w.heap.size + 1 + 1) 0 (.int .i64 0)
    have hbe : Below w.heap.size w (((W.setCell ⟨w.heap.size + 1, 0, none⟩ (.string s0)).setCell ⟨w.heap.size + 1 + 1, 0, none⟩ (.int .i64 0)).drew.putObj D (.deferred none)) :=
      (((HB4.out.trans (HB.out.below (B := w.heap.size) (by omega) (fun k hk => by simp at hk))).grown g1 (by omega) (fun k e => by cases e; omega)).grown g2 (Nat.le_trans (by omega) g1.size) (fun k e => by cases e; omega)).drew.grown (grownBy_putObj' _ D _) (Nat.le_trans (Nat.le_trans (by omega) g1.size) g2.size) (fun k e => by cases e; omega)
    have hov : over s0 st.W k = s0 := over_none _ _ _ (fun x hx => by
      have hm : x ∈ (revT st.W st.W.length).map (·.2) := by rw [revT_snd _ _ (Nat.le_refl _), List.take_of_length_le (by simp)]; simpa using hx
      obtain ⟨p, hp, rfl⟩ := List.mem_map.1 hm
      exact HP.out p (by rw [HYS.out]; exact hp))
    refine ⟨by simp, .inl ⟨_, _, rfl, run_takeDeferred hK2, ?_⟩⟩
    refine ⟨.tuple #[.string s0, .int .i64 0], ?_, by rw [hov], hbe⟩
    simp [results, Try.f23, go_sem, q1, q2]
  case stop =>
    rintro D c pre W hD hpre ⟨⟨⟨ini, x, h0, h1, h2, h3, h4⟩, hc⟩, hB⟩ hK
    subst hc
    have HX1 := Lib.hid h3; have HX2 := Lib.hid h4; have HB := Lib.hid hB; have HK := Lib.hid hK; have HINI := Lib.hid h0; have HP := Lib.hid h1; have HE := Lib.hid h2; have HPRE := Lib.hid hpre
    clear h0 h1 h2 h3 h4 hB hK hpre
    gi_wp2_with fail
    have hz := HSZ.out
    have q1 := (HX1.out.kept (grownBy_putObj' _ D (.deferred none)) (fun e => by cases e; omega)).cell
    have q2 := (HX2.out.kept (grownBy_putObj' _ D (.deferred none)) (fun e => by cases e; omega)).cell
    have hs := HB.out.size
    have hbe : Below w.heap.size w (W.putObj D (.deferred none)) :=
      (HB4.out.trans (HB.out.below (B := w.heap.size) (by omega) (fun k hk => by simp at hk; omega))).grown (grownBy_putObj' _ D _) (by omega) (fun k e => by cases e; omega)
    have hov : over s0 st.W k = x.2.2 := by
      obtain ⟨j, hj, hpj⟩ := HPRE.out
      have h1 := revT_snd st.W j hj
      rw [← hpj, HINI.out, List.map_append] at h1
      have h2 : st.W.reverse = ini.map (·.2) ++ x.2 :: st.W.reverse.drop j := by
        have h3 := (List.take_append_drop j st.W.reverse).symm
        rw [← h1] at h3
        exact h3.trans (by simp)
      exact over_found h2 HE.out (fun y hy => by obtain ⟨p, hp, rfl⟩ := List.mem_map.1 hy; exact HP.out p hp)
    refine ⟨by simp, .inl ⟨_, _, rfl, run_takeDeferred HK.out, ?_⟩⟩
    refine ⟨.tuple #[.string x.2.2, .int .i64 0], ?_, by rw [hov], hbe⟩
    simp [results, Try.f23, go_sem, q1, q2]
end Go.Proofs.Ytklklcohbfnpjaa
