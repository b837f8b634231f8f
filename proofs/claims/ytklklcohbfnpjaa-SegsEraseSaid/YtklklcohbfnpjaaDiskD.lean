/-
  The contracts of the document's op, Fuse and Write: any disk, any numbers.
-/
import Derived.Test.YtklklcohbfnpjaaDiskC
set_option linter.unusedVariables false
set_option maxRecDepth 4000
namespace Go.Proofs.Ytklklcohbfnpjaa
open Go.RowKit DiskP

theorem rop_any (b : Nat) (st : St) (x0 x1 : Value) (w : World) (h : w.heap[b]? = some (.cells #[x0, x1, .int .i64 (st.left : Int), .int .i64 (st.ops : Int), .bool st.dead] 57 (0, 0)))
    (ho : st.ops ≤ 4611686018427387904) (hz : st.left ≤ 9223372036854775807) :
    Calls Try.prog 61 #[.pointer (some ⟨b, 0, none⟩)] w fun e w' => e = .returned (.bool (!opd st)) ∧
      w'.heap[b]? = some (.cells #[x0, x1, .int .i64 ((op st).left : Int), .int .i64 ((op st).ops : Int), .bool (op st).dead] 57 (0, 0)) ∧ w.grownBy w' (some b) := by
  have c2 : w.cell? ⟨b, 2, none⟩ = some (.int .i64 (st.left : Int)) := cell_of_heap h
  have c3 : w.cell? ⟨b, 3, none⟩ = some (.int .i64 (st.ops : Int)) := cell_of_heap h
  have c4 : w.cell? ⟨b, 4, none⟩ = some (.bool st.dead) := cell_of_heap h
  have f2 : w.frozen? ⟨b, 2, none⟩ = false := frozen_of_heap h
  have f3 : w.frozen? ⟨b, 3, none⟩ = false := frozen_of_heap h
  have f4 : w.frozen? ⟨b, 4, none⟩ = false := frozen_of_heap h
  obtain ⟨S, W, left, ops, dead⟩ := st
  simp only [op, opd] at *
  have HH := Lib.hid h
  clear h
  by_cases h1 : left = 0
  · subst h1
    simp only [Nat.lt_irrefl, if_false]
    go_enter Try.func61, Try.ntmps61
    go_wp2
    go_ret
    refine ⟨rfl, ?_, Lib.grownBy_setCell w b 3 _⟩
    exact Lib.heap_setCell_same (i := 3) HH.out _
  · by_cases h2 : left = 1
    · subst h2
      clear h1
      simp only [Nat.lt_one_iff, if_true]
      go_enter Try.func61, Try.ntmps61
      go_wp2
      go_ret
      refine ⟨rfl, ?_, ((Lib.grownBy_setCell w b 3 _).trans (Lib.grownBy_setCell _ b 2 _)).trans (Lib.grownBy_setCell _ b 4 _)⟩
      exact Lib.heap_setCell_same (i := 4) (Lib.heap_setCell_same (i := 2) (Lib.heap_setCell_same (i := 3) HH.out _) _) _
    · obtain ⟨m, rfl⟩ : ∃ m, left = m + 2 := ⟨left - 2, by omega⟩
      have hd : (((m + 2 : Nat) : Int) - 1 == 0) = false := beq_eq_false_iff_ne.2 (by omega)
      have e1 : 0 < m + 2 := by omega
      have hl : ((m + 2 - 1 : Nat) : Int) = ((m + 2 : Nat) : Int) - 1 := by omega
      simp only [if_pos e1, if_neg h2]
      rw [hl]
      generalize ((m + 2 : Nat) : Int) = y at *
      have y1 : 2 ≤ y := by omega
      have y2 : y ≤ 9223372036854775807 := by omega
      clear h1 h2 e1 hl
      go_enter Try.func61, Try.ntmps61
      go_wp2
      go_ret
      refine ⟨rfl, ?_, ((Lib.grownBy_setCell w b 3 _).trans (Lib.grownBy_setCell _ b 2 _)).trans (Lib.grownBy_setCell _ b 4 _)⟩
      exact Lib.heap_setCell_same (i := 4) (Lib.heap_setCell_same (i := 2) (Lib.heap_setCell_same (i := 3) HH.out _) _) _
theorem rfuse_rk (b : Nat) (st : St) (L : List Nat) (k : Int) (w : World) (h : Rk w L b st) (h0 : -9223372036854775808 ≤ k) (h1 : k ≤ 9223372036854775807) :
    Calls Try.prog 25 #[.pointer (some ⟨b, 0, none⟩), .int .i64 k] w (Rid w L b (fu st k) (.tuple #[])) := by
  obtain ⟨g, cap, wv, h, rfl⟩ := h
  have c2 : w.cell? ⟨b, 2, none⟩ = some (.int .i64 (st.left : Int)) := cell_of_heap h.blk
  have f2 : w.frozen? ⟨b, 2, none⟩ = false := frozen_of_heap h.blk
  have hd : ∀ j : Int, j = (k.toNat : Int) → Rid w (foot b g wv) b (fu st k) (.tuple #[]) (.returned (.tuple #[])) (w.setCell ⟨b, 2, none⟩ (.int .i64 j)) := by
    rintro j rfl
    have hg := Lib.grownBy_setCell w b 2 (.int .i64 (k.toNat : Int))
    have hu : Upd (foot b g wv) w (w.setCell ⟨b, 2, none⟩ (.int .i64 (k.toNat : Int))) (foot b g wv) := Upd.of_grown hg (by simp [foot])
    refine ⟨rfl, foot b g wv, ⟨g, cap, wv, ⟨?_, ?_, ?_⟩, rfl⟩, hu⟩
    · exact Lib.heap_setCell_same (i := 2) h.blk _
    · exact owns_heap h.sec (fun j e => hg.block j (owns_lt h.sec e) (fun e2 => h.bg (by cases e2; simpa [Value.ownBlock] using e.symm)))
    · exact owns_heap h.wts (fun j e => hg.block j (owns_lt h.wts e) (fun e2 => h.bw e (by cases e2; rfl)))
  have HD := Lib.hid hd
  clear h hd
  by_cases hk : 0 ≤ k
  · go_enter Try.func25, Try.ntmps25
    go_wp2
    go_end0
    exact HD.out _ (by omega)
  · have hk' : k < 0 := by omega
    go_enter Try.func25, Try.ntmps25
    go_wp2
    go_end0
    exact HD.out _ (by omega)
theorem rk_op {w w' : World} {b g cap : Nat} {st : St} {wv : Value} (h : RkAt w b st g cap wv)
    (hb : w'.heap[b]? = some (.cells #[.slice (some ⟨g, 0, none⟩) st.S.length cap, wv, .int .i64 ((op st).left : Int), .int .i64 ((op st).ops : Int), .bool (op st).dead] 57 (0, 0)))
    (hg : w.grownBy w' (some b)) : RkAt w' b (op st) g cap wv :=
  ⟨hb, owns_heap h.sec (fun j e => hg.block j (owns_lt h.sec e) (fun e2 => h.bg (by cases e2; simpa [Value.ownBlock] using e.symm))),
    owns_heap h.wts (fun j e => hg.block j (owns_lt h.wts e) (fun e2 => h.bw e (by cases e2; rfl)))⟩
theorem rid_int {w : World} {L : List Nat} {b : Nat} {st : St} {r r' : Int} {st' : St} (he : r' = r) (hs : st' = st) (h : Rk w L b st) : Rid w L b st' (.int .i64 r') (.returned (.int .i64 r)) w := by
  subst he hs; exact ⟨rfl, L, h, Upd.refl L w⟩
set_option maxRecDepth 100000 in
set_option maxHeartbeats 1000000 in
theorem rwrite_rk (b n : Nat) (st : St) (L : List Nat) (at_ : Int) (s : ByteArray) (w : World) (h : Rk w L b st) (hok : Ok n st) (hn : n ≤ 1000000000) (hss : s.size ≤ 9223372036854775807) :
    Calls Try.prog 44 #[.pointer (some ⟨b, 0, none⟩), .int .i64 at_, .string s] w (Rid w L b (wr st at_ s).2 (.int .i64 (wr st at_ s).1)) := by
  obtain ⟨g, cap, wv, h, rfl⟩ := h
  have c0 : w.cell? ⟨b, 0, none⟩ = some (.slice (some ⟨g, 0, none⟩) st.S.length cap) := cell_of_heap h.blk
  have c4 : w.cell? ⟨b, 4, none⟩ = some (.bool st.dead) := cell_of_heap h.blk
  have HRK := Lib.hid (show Rk w (foot b g wv) b st from ⟨g, cap, wv, h, rfl⟩)
  have hsl := hok.hi
  cases hd : st.dead with
  | true =>
    rw [wr_dead hd]
    rw [hd] at c4
    clear h hok hd c0
    go_enter Try.func44, Try.ntmps44
    go_wp2_with fail
    go_ret
    exact rid_int rfl rfl HRK.out
  | false =>
  rw [hd] at c4
  cases ho : out st.S.length at_ with
  | true =>
    rw [wr_out hd ho]
    have ho2 := of_decide_eq_true ho
    obtain ⟨n, hl⟩ : ∃ n, st.S.length = n := ⟨_, rfl⟩
    rw [hl] at c0 ho2 hsl
    clear h hok hd ho hl
    by_cases h1 : at_ < 0
    · clear ho2
      go_enter Try.func44, Try.ntmps44
      go_wp2_with fail
      go_ret
      exact rid_int rfl rfl HRK.out
    · have h1' : 0 ≤ at_ := by omega
      have h2' : (n : Int) ≤ at_ := by omega
      clear ho2 h1
      go_enter Try.func44, Try.ntmps44
      go_wp2_with fail
      go_ret
      exact rid_int rfl rfl HRK.out
  | false =>
  obtain ⟨k, rfl⟩ : ∃ k : Nat, at_ = k := ⟨at_.toNat, by have := of_out ho; omega⟩
  have hk1 : (k : Int) < (st.S.length : Int) := (of_out ho).2
  by_cases hs : s.size = 128
  · have hop := rop_any b st _ _ w h.blk (by have := hok.ops; omega) hok.left
    have hwn : st.W.length ≤ 1000000000 := by have := hok.wn; omega
    cases hp : opd st with
    | true =>
      rw [wr_stop hd ho hs hp]
      rw [hp] at hop
      have hs2 : ((s.size : Int) != 128) = false := by rw [hs]; rfl
      have HH := Lib.hid h; have HO := Lib.hid hop
      clear h hop hok hd ho hs hp
      go_enter Try.func44, Try.ntmps44
      go_wp2_with fail
      refine HO.out.mono ?_
      rintro e w1 ⟨rfl, hb, hg⟩
      have HD := Lib.hid (show Rid w (foot b g wv) b (op st) (.int .i64 13) (.returned (.int .i64 13)) w1 from ⟨rfl, _, ⟨g, cap, wv, rk_op HH.out hb hg, rfl⟩, Upd.of_grown hg (by simp [foot])⟩)
      clear hb hg
      go_wp2_with fail
      go_ret
      exact HD.out
    | false =>
      rw [wr_ok2 hd ho hs hp]
      rw [hp] at hop
      have hs2 : ((s.size : Int) != 128) = false := by rw [hs]; rfl
      have HH := Lib.hid h; have HO := Lib.hid hop
      clear h hop hok hd ho hs hp
      obtain ⟨i0, hi, hz0, hz1, hz2⟩ := info_parts info_write
      have HI := Lib.hid hi; have HZ0 := Lib.hid hz0; have HZ1 := Lib.hid hz1; have HZ2 := Lib.hid hz2
      clear hi hz0 hz1 hz2
      go_enter Try.func44, Try.ntmps44
      go_wp2_with fail
      refine HO.out.mono ?_
      rintro e w1 ⟨rfl, hb, hg⟩
      have hD1 := rk_op HH.out hb hg
      have HU1 := Lib.hid (Upd.of_grown hg (show b ∈ foot b g wv by simp [foot]))
      have c1 : w1.cell? ⟨b, 1, none⟩ = some wv := cell_of_heap hb
      have HD1 := Lib.hid hD1
      clear hb hg hD1 c0 c4
      go_wp2_with (at_builtin; refine wpList_append_new _ rfl (.tmp 32) (.tmp 36) 55 rfl 75 i0 _ 2 24 Try.underlying55 HI.out HZ0.out HZ1.out HZ2.out rfl (by decide) wv st.W.length (wcells st.W) rfl (HD1.out.wts.alloc _) ⟨w1.heap.size, 0, none⟩ 1 1 [.int .i64 (k : Int), .string s] rfl rfl (cell_two_new _ _ _ _) ?c2 ?c3 ?c4 ?_)
      case c2 => simp [Value.oneCell']
      case c3 => unfold maxLen; omega
      case c4 => omega
      intro v' w2 hown' hgrow hnew
      obtain ⟨hb2, hD2, hU2⟩ := rk_pend HD1.out _ hgrow hown' hnew
      have hbb := hb2.trans HD1.out.blk
      have d4 : w2.cell? ⟨b, 1, none⟩ = some wv := cell_of_heap hbb
      have f4 : w2.frozen? ⟨b, 1, none⟩ = false := frozen_of_heap hbb
      obtain ⟨g', cap', rfl⟩ := owns_succ hown'
      have HD2 := Lib.hid hD2; have HU2 := Lib.hid (HU1.out.trans hU2)
      clear hown' hgrow hnew hb2 hD2 hU2 hbb c1
      go_wp2_with fail
      go_ret
      exact ⟨rfl, _, ⟨_, _, _, HD2.out, rfl⟩, HU2.out⟩
  · rw [wr_long hd ho hs]
    have hs2 : ((s.size : Int) != 128) = true := by rw [bne_iff_ne]; omega
    clear h hok hd ho hs
    go_enter Try.func44, Try.ntmps44
    go_wp2_with fail
    go_ret
    exact rid_int rfl rfl HRK.out
end Go.Proofs.Ytklklcohbfnpjaa
