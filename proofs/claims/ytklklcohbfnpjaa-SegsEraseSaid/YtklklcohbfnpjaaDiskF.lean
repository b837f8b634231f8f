/-
  The contract of the document's Flush: any disk.
-/
import Derived.Test.YtklklcohbfnpjaaDiskE
import Derived.Test.YtklklcohbfnpjaaMix
import Derived.StillTactics
set_option linter.unusedVariables false
set_option maxRecDepth 4000
namespace Go.Proofs.Ytklklcohbfnpjaa
open Go.RowKit DiskP

/-- Other sectors, in new memory. -/
theorem rk_with {w w3 : World} {b g cap g3 cap3 n : Nat} {st : St} {wv : Value} {S : List ByteArray} (h : RkAt w b st g cap wv) (hn : S.length = n)
    (hown : w3.ownsRow w.heap.size 9 1 (.slice (some ⟨g3, 0, none⟩) n cap3) n (S.map Value.string)) (hb : Below w.heap.size w w3) :
    w3.heap[b]? = w.heap[b]? ∧ RkAt (w3.setCell ⟨b, 0, none⟩ (.slice (some ⟨g3, 0, none⟩) n cap3)) b { st with S := S } g3 cap3 wv ∧ Upd (foot b g wv) w (w3.setCell ⟨b, 0, none⟩ (.slice (some ⟨g3, 0, none⟩) n cap3)) (foot b g3 wv) := by
  subst hn
  have hbl := heap_lt h.blk
  have hb1 : w3.heap[b]? = w.heap[b]? := hb.block b hbl
  have hg3 : w.heap.size ≤ g3 := (hown.lt g3 rfl).1
  have hs2 := Lib.grownBy_setCell w3 b 0 (.slice (some ⟨g3, 0, none⟩) S.length cap3)
  refine ⟨hb1, ⟨?_, ?_, ?_⟩, ⟨hs2.os.trans hb.os, hs2.tape.trans hb.tape, hs2.output.trans hb.output, Nat.le_trans hb.size hs2.size, fun j hj hnj => ?_, fun j hj => ?_⟩⟩
  · exact Lib.heap_setCell_same (i := 0) (hb1.trans h.blk) _
  · have h0 : w3.ownsRow 0 9 1 (.slice (some ⟨g3, 0, none⟩) S.length cap3) S.length (S.map Value.string) := by
      refine ⟨hown.1, ?_⟩
      rcases hown.2 with hx | ⟨gg, cc, cur, e1, _, rest⟩
      · exact .inl hx
      · exact .inr ⟨gg, cc, cur, e1, Nat.zero_le _, rest⟩
    refine owns_heap h0 (fun j e => ?_)
    obtain rfl : g3 = j := by simpa [Value.ownBlock] using e
    exact hs2.block g3 (hown.lt g3 rfl).2 (fun e2 => by cases e2; omega)
  · exact owns_heap h.wts (fun j e => (hs2.block j (by have := owns_lt h.wts e; have := hb.size; omega) (fun e2 => h.bw e (by cases e2; rfl))).trans (hb.block j (owns_lt h.wts e)))
  · rw [mem_foot] at hnj
    exact (hs2.block j (by have := hb.size; omega) (fun e => hnj (.inl (by cases e; rfl)))).trans (hb.block j hj)
  · rw [mem_foot] at hj ⊢
    rcases hj with e | rfl | e
    · exact .inl (.inl e)
    · exact .inr hg3
    · exact .inl (.inr (.inr e))
theorem RkAt.drew {w : World} {b g cap : Nat} {st : St} {wv : Value} (h : RkAt w b st g cap wv) : RkAt w.drew b st g cap wv := ⟨h.blk, h.sec, h.wts⟩
theorem fl_dead {st : St} (h : st.dead = true) : fl st = (13, st) := by unfold fl; rw [if_pos h]
theorem fl_stop {st : St} (h : st.dead = false) (hp : opd st = true) : fl st = (13, op st) := by unfold fl; rw [if_neg (by simp [h]), if_pos hp]
theorem fl_yes {st : St} (h : st.dead = false) (hp : opd st = false) : fl st = (0, { op st with S := play st.S st.W, W := [] }) := by unfold fl; rw [if_neg (by simp [h]), if_neg (by simp [hp])]
/-- Behind the last write: none is pending. -/
theorem rk_done {w : World} {b g cap : Nat} {st : St} {wv : Value} (h : RkAt w b st g cap wv) : RkAt (w.setCell ⟨b, 1, none⟩ (.slice none 0 0)) b { st with W := [] } g cap (.slice none 0 0) ∧ Upd (foot b g wv) w (w.setCell ⟨b, 1, none⟩ (.slice none 0 0)) (foot b g (.slice none 0 0)) := by
  have hs2 := Lib.grownBy_setCell w b 1 (.slice none 0 0)
  refine ⟨⟨?_, ?_, World.ownsRow_nil _ _ _ _⟩, ⟨hs2.os, hs2.tape, hs2.output, hs2.size, fun j hj hnj => hs2.block j hj (fun e => hnj (by cases e; simp [foot])), fun j hj => ?_⟩⟩
  · exact Lib.heap_setCell_same (i := 1) h.blk _
  · exact owns_heap h.sec (fun j e => hs2.block j (owns_lt h.sec e) (fun e2 => h.bg (by cases e2; simpa [Value.ownBlock] using e.symm)))
  · simp [foot, Value.ownBlock] at hj ⊢
    rcases hj with e | e
    · exact .inl (.inl e)
    · exact .inl (.inr (.inl e))
set_option maxRecDepth 100000 in
set_option maxHeartbeats 2000000 in
theorem rflush_rk (b n : Nat) (st : St) (L : List Nat) (w : World) (h : Rk w L b st) (hok : Ok n st) (hn : n ≤ 1000000000) :
    Calls Try.prog 45 #[.pointer (some ⟨b, 0, none⟩)] w (Rid w L b (fl st).2 (.int .i64 (fl st).1)) := by
  obtain ⟨g, cap, wv, h, rfl⟩ := h
  have c4 : w.cell? ⟨b, 4, none⟩ = some (.bool st.dead) := cell_of_heap h.blk
  have HRK := Lib.hid (show Rk w (foot b g wv) b st from ⟨g, cap, wv, h, rfl⟩)
  have hsl := hok.hi
  cases hd : st.dead with
  | true =>
    rw [fl_dead hd]
    rw [hd] at c4
    clear h hok hd
    go_enter Try.func45, Try.ntmps45
    go_wp2_with fail
    go_ret
    exact rid_int rfl rfl HRK.out
  | false =>
  rw [hd] at c4
  have hop := rop_any b st _ _ w h.blk (by have := hok.ops; omega) hok.left
  have hwn : st.W.length ≤ 1000000000 := by have := hok.wn; omega
  cases hp : opd st with
  | true =>
    rw [fl_stop hd hp]
    rw [hp] at hop
    have HH := Lib.hid h; have HO := Lib.hid hop
    clear h hop hok hd hp
    go_enter Try.func45, Try.ntmps45
    go_wp2_with fail
    refine HO.out.mono ?_
    rintro e w1 ⟨rfl, hb, hg⟩
    have HD := Lib.hid (show Rid w (foot b g wv) b (op st) (.int .i64 13) (.returned (.int .i64 13)) w1 from ⟨rfl, _, ⟨g, cap, wv, rk_op HH.out hb hg, rfl⟩, Upd.of_grown hg (by simp [foot])⟩)
    clear hb hg
    go_wp2_with fail
    go_ret
    exact HD.out
  | false =>
    rw [fl_yes hd hp]
    rw [hp] at hop
    have HAT := Lib.hid (fun x hx => hok.wat x hx)
    have HH := Lib.hid h; have HO := Lib.hid hop
    have hcs := wts_cases h.wts
    have HCS := Lib.hid hcs
    clear h hop hok hd hp hcs
    go_enter Try.func45, Try.ntmps45
    go_wp2_with fail
    refine HO.out.mono ?_
    rintro e w1 ⟨rfl, hb, hg⟩
    have HD1 := Lib.hid (rk_op HH.out hb hg)
    have HU1 := Lib.hid (Upd.of_grown hg (show b ∈ foot b g wv by simp [foot]))
    clear hb hg
    go_wp2_with fail
    go_loopw [3] (fun i wr => ∃ j g1 cap1 : Nat, j ≤ st.W.length ∧ i = .int .i64 (j : Int) ∧ Hid (RkAt wr b { op st with S := play st.S (st.W.take j) } g1 cap1 wv) ∧ Hid (Upd (foot b g wv) w wr (foot b g1 wv))) (fun i _ => st.W.length - (intOf i).toNat)
    case atStart => exact ⟨0, g, cap, Nat.zero_le _, rfl, HD1, HU1⟩
    case round =>
      obtain ⟨j, g1, cap1, hj, rfl, hR, hU⟩ := hrel
      by_cases hlt : j < st.W.length
      · rcases HCS.out with ⟨_, h0⟩ | ⟨q, qc, rfl⟩
        · rw [h0] at hlt; simp at hlt
        have HSUC := Lib.hid (play_take (S := st.S) hlt)
        have HL := Lib.hid (play_length st.S (st.W.take j))
        obtain ⟨d0, d1⟩ := wts_cells hR.out.wts hlt
        have hat := HAT.out st.W[j] (List.getElem_mem hlt)
        have hsec := hR.out.sec
        have hblk := hR.out.blk
        simp only [HL.out] at hsec hblk
        obtain ⟨x, hx⟩ : ∃ x, st.W[j].1 = x := ⟨_, rfl⟩
        obtain ⟨y, hy⟩ : ∃ y, st.W[j].2 = y := ⟨_, rfl⟩
        rw [hx, hy] at HSUC
        rw [hx] at d0 hat
        rw [hy] at d1
        have e0 : wr.cell? ⟨b, 0, none⟩ = some (.slice (some ⟨g1, 0, none⟩) st.S.length cap1) := cell_of_heap hblk
        have e1 : wr.cell? ⟨b, 1, none⟩ = some (.slice (some ⟨q, 0, none⟩) st.W.length qc) := cell_of_heap hblk
        have HSE : Hid (wr.drew.ownsRow 0 9 1 (.slice (some ⟨g1, 0, none⟩) st.S.length cap1) st.S.length ((play st.S (st.W.take j)).map Value.string)) := hsec
        have HR2 := Lib.hid hR.out.drew
        have HU2 := Lib.hid hU.out.drew
        clear hx hy hR hU hsec hblk
        go_wp2_with fail
        refine Mix.wp_region_mix [0] [1, 2, 3, 4, 5, 6, 7, 8, 9, 10, 11, 12, 13, 14, 15, 16, 17, 18, 19, 20] [21, 22, 23, 24] 21 (by kernel_rfl) (by kernel_rfl) (fun _ _ d _ _ h => by cases d <;> exact h) ?_
        simp only [Mix.pick, List.filterMap_cons, List.filterMap_nil, List.getElem?_cons_zero, List.getElem?_cons_succ]
        repeat (refine Mix.wpFree_step ?_ (by rfl) ?_ ?_; rotate_left; focus ((intro w'); go_simp; (try with_reducible rfl)))
        refine Mix.wpFree_nil ?_
        repeat still_step
        refine wpStill_nil ?_
        clear d0 d1 e0 e1
        generalize wr.drew = w2 at *
        go_wp2_with fail
        refine (with_any g1 cap1 x st.S.length _ y w2 HSE.out hat hsl).mono ?_
        rintro e w3 ⟨g3, cap3, rfl, hown, hb3⟩
        obtain ⟨hbb, hR3, hU3⟩ := rk_with HR2.out (by rw [List.length_set]; exact HL.out) hown hb3
        have f0 : w3.frozen? ⟨b, 0, none⟩ = false := frozen_of_heap (hbb.trans HR2.out.blk)
        have e0 : ∃ v, w3.cell? ⟨b, 0, none⟩ = some v ∧ v.oneCell' = true := ⟨_, cell_of_heap (hbb.trans HR2.out.blk), rfl⟩
        obtain ⟨v0, e0, ev⟩ := e0
        have HR3 := Lib.hid hR3; have HU3 := Lib.hid (HU2.out.trans hU3)
        clear hown hb3 hbb hR3 hU3
        go_wp2_with fail
        go_roundw
        case rel => exact ⟨j + 1, g3, cap3, by omega, by go_num, by show RkAt _ b _ _ _ _; rw [HSUC.out]; exact HR3.out, HU3⟩
        case measure => simp [intOf]; omega
      · have hje : st.W.take j = st.W := List.take_of_length_le (by omega)
        have hR2 := hR.out
        rw [hje] at hR2
        have hblk := hR2.blk
        have e1 : wr.cell? ⟨b, 1, none⟩ = some wv := cell_of_heap hblk
        have f1 : wr.frozen? ⟨b, 1, none⟩ = false := frozen_of_heap hblk
        obtain ⟨hR3, hU3⟩ := rk_done hR2
        have HR3 := Lib.hid hR3; have HU3 := Lib.hid (hU.out.trans hU3)
        clear hje hR2 hblk hR3 hU3 hR hU
        rcases HCS.out with ⟨rfl, h0⟩ | ⟨q, qc, rfl⟩
        · clear h0
          go_wp2_with fail
          go_ret
          exact ⟨rfl, _, ⟨_, _, _, HR3.out, rfl⟩, HU3.out⟩
        · go_wp2_with fail
          go_ret
          exact ⟨rfl, _, ⟨_, _, _, HR3.out, rfl⟩, HU3.out⟩
end Go.Proofs.Ytklklcohbfnpjaa
