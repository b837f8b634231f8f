/-
  The contracts of the document's with, Read and Flush: any disk, any numbers.
-/
import Derived.Test.YtklklcohbfnpjaaDiskD
import Derived.StillTailTactics
import Derived.LoopTactic
set_option linter.unusedVariables false
set_option maxRecDepth 4000
namespace Go.Proofs.Ytklklcohbfnpjaa
open Go.RowKit DiskP

theorem info_string : (Try.prog.info? 9).map (fun i => (i.zero, i.size, i.bytes)) = some (some (.string ⟨#[]⟩), 1, 16) := by kernel_rfl
/-- A slice of n strings of the call's own, in new memory. -/
def Fresh (w : World) (n : Nat) (S : List ByteArray) (e : Ending) (w' : World) : Prop :=
  ∃ g cap, e = .returned (.slice (some ⟨g, 0, none⟩) n cap) ∧ w'.ownsRow w.heap.size 9 1 (.slice (some ⟨g, 0, none⟩) n cap) n (S.map Value.string) ∧ Below w.heap.size w w'
theorem with_any (g cap k n : Nat) (S : List ByteArray) (s : ByteArray) (w : World) (h : w.ownsRow 0 9 1 (.slice (some ⟨g, 0, none⟩) n cap) n (S.map Value.string)) (hk : k < n) (hn : n ≤ 512) :
    Calls Try.prog 62 #[.slice (some ⟨g, 0, none⟩) n cap, .int .i64 (k : Int), .string s] w (Fresh w n (S.set k s)) := by
  have hl : (S.map Value.string).length = n := by have := h.1; simpa using this
  have hc : ∀ j u, (S.map Value.string)[j]? = some u → w.cell? ((⟨g, 0, none⟩ : Addr).add j) = some u := h.cells (g := g) rfl
  obtain ⟨xs, hx⟩ : ∃ xs, S.map Value.string = xs := ⟨_, rfl⟩
  have hx2 : (S.set k s).map Value.string = xs.set k (.string s) := by rw [← hx, List.map_set]
  have h1 : ∀ u ∈ xs, u.oneCell' = true := by
    rw [← hx]; intro u hu; obtain ⟨x, _, rfl⟩ := List.mem_map.1 hu; rfl
  unfold Fresh
  rw [hx2]
  rw [hx] at hc hl
  obtain ⟨i0, hi, hz0, hz1, hz2⟩ := info_parts info_string
  have HI := Lib.hid hi; have HZ0 := Lib.hid hz0; have HZ1 := Lib.hid hz1; have HZ2 := Lib.hid hz2
  have HC := Lib.hid hc; have HL := Lib.hid hl; have H1 := Lib.hid h1
  clear hi hz0 hz1 hz2 hc hl h1 h hx hx2
  go_enter Try.func62, Try.ntmps62
  go_wp2_with (at_builtin; refine wpList_append_own _ rfl _ _ 48 rfl w.heap.size 9 i0 _ 1 16 Try.underlying48 HI.out HZ0.out HZ1.out HZ2.out rfl (by decide) _ _ _ rfl (World.ownsRow_nil _ _ _ _) ⟨g, 0, none⟩ n cap xs rfl ?c1 HC.out H1.out ?c3 ?c4 ?c5 ?_)
  case c1 => rw [HL.out, Nat.mul_one]
  case c3 => unfold maxLen; omega
  case c4 => omega
  case c5 => exact Nat.le_refl _
  intro v' w1 hown hgrow _
  obtain ⟨m, rfl⟩ : ∃ m, n = m + 1 := ⟨n - 1, by omega⟩
  obtain ⟨g', cap', rfl⟩ := owns_succ hown
  have hb1 : Below w.heap.size w w1 := (Below.refl _ w).grown hgrow (Nat.le_refl _) (fun k e => by simp [Value.ownBlock] at e)
  have hlk : k < xs.length := by rw [HL.out]; exact hk
  have c0 : w1.cell? ⟨g', k, none⟩ = some xs[k] := owns_cell hown rfl (List.getElem?_eq_getElem hlk)
  have f0 : w1.frozen? ⟨g', k, none⟩ = false := owns_frozen hown rfl
  have hgb : w.heap.size ≤ g' := (hown.lt g' rfl).1
  have hst := (World.ownsRow.stored hown k (.string s)).1
  have HST := Lib.hid hst; have HB := Lib.hid (hb1.setCell (p := ⟨g', k, none⟩) hgb (.string s)); have HO := Lib.hid (H1.out _ (List.getElem_mem hlk))
  clear hst hown hgrow hb1
  generalize xs[k] = x0 at *
  go_wp2
  go_ret
  exact ⟨g', cap', rfl, HST.out, HB.out⟩

/-- The cells of the pending writes. -/
theorem wts_cells {w : World} {q cap k : Nat} {W : List Wr} (h : w.ownsRow 0 75 2 (.slice (some ⟨q, 0, none⟩) W.length cap) W.length (wcells W)) (hk : k < W.length) :
    w.cell? ⟨q, k * 2, none⟩ = some (.int .i64 (W[k].1 : Int)) ∧ w.cell? ⟨q, k * 2 + 1, none⟩ = some (.string W[k].2) := by
  obtain ⟨h1, h2⟩ := wcells_get W k W[k] (List.getElem?_eq_getElem hk)
  exact ⟨owns_cell h rfl h1, owns_cell h rfl h2⟩
theorem wts_cases {w : World} {wv : Value} {W : List Wr} (h : w.ownsRow 0 75 2 wv W.length (wcells W)) : (wv = .slice none 0 0 ∧ W = []) ∨ ∃ q cap, wv = .slice (some ⟨q, 0, none⟩) W.length cap := by
  rcases h.2 with ⟨h1, h2⟩ | ⟨q, cap, cur, h1, _⟩
  · exact .inl ⟨h1, List.eq_nil_of_length_eq_zero h2⟩
  · exact .inr ⟨q, cap, h1⟩
theorem sec_cell {w : World} {g cap k n : Nat} {S : List ByteArray} (h : w.ownsRow 0 9 1 (.slice (some ⟨g, 0, none⟩) n cap) n (S.map Value.string)) (hk : k < S.length) :
    w.cell? ⟨g, k, none⟩ = some (.string (S.getD k ByteArray.empty)) :=
  owns_cell h rfl (by simp [List.getD, hk])
theorem ret_str {s t : ByteArray} (h : s = t) : Ending.returned (.tuple #[.string s, .int .i64 0]) = .returned (.tuple #[.string t, .int .i64 0]) := by rw [h]
theorem rd_dead {st : St} (h : st.dead = true) (at_ : Int) : rd st at_ = (ByteArray.empty, 13) := by unfold rd; rw [if_pos h]
theorem rd_out {st : St} (h : st.dead = false) {at_ : Int} (ho : out st.S.length at_ = true) : rd st at_ = (ByteArray.empty, 11) := by unfold rd; rw [if_neg (by simp [h]), if_pos ho]
theorem rd_ok {st : St} (h : st.dead = false) {k : Nat} (ho : out st.S.length (k : Int) = false) : rd st k = (over (st.S.getD k ByteArray.empty) st.W k, 0) := by unfold rd; rw [if_neg (by simp [h]), if_neg (by simp [ho])]; rfl
set_option maxRecDepth 100000 in
set_option maxHeartbeats 1000000 in
theorem rread_rk (b n : Nat) (st : St) (L : List Nat) (at_ : Int) (w : World) (h : Rk w L b st) (hok : Ok n st) (hn : n ≤ 1000000000) :
    Calls Try.prog 47 #[.pointer (some ⟨b, 0, none⟩), .int .i64 at_] w fun e w' => e = .returned (.tuple #[.string (rd st at_).1, .int .i64 (rd st at_).2]) ∧ w = w' := by
  obtain ⟨g, cap, wv, h, rfl⟩ := h
  have c0 : w.cell? ⟨b, 0, none⟩ = some (.slice (some ⟨g, 0, none⟩) st.S.length cap) := cell_of_heap h.blk
  have c1 : w.cell? ⟨b, 1, none⟩ = some wv := cell_of_heap h.blk
  have c4 : w.cell? ⟨b, 4, none⟩ = some (.bool st.dead) := cell_of_heap h.blk
  have hsl := hok.hi
  cases hd : st.dead with
  | true =>
    rw [rd_dead hd]
    rw [hd] at c4
    clear h hok hd c0 c1
    go_enter Try.func47, Try.ntmps47
    go_wp2_with fail
    go_ret2
    exact ⟨rfl, rfl⟩
  | false =>
  rw [hd] at c4
  cases ho : out st.S.length at_ with
  | true =>
    rw [rd_out hd ho]
    have ho2 := of_decide_eq_true ho
    obtain ⟨n, hl⟩ : ∃ n, st.S.length = n := ⟨_, rfl⟩
    rw [hl] at c0 ho2 hsl
    clear h hok hd ho hl c1
    by_cases h1 : at_ < 0
    · clear ho2
      go_enter Try.func47, Try.ntmps47
      go_wp2_with fail
      go_ret2
      exact ⟨rfl, rfl⟩
    · have h1' : 0 ≤ at_ := by omega
      have h2' : (n : Int) ≤ at_ := by omega
      clear ho2 h1
      go_enter Try.func47, Try.ntmps47
      go_wp2_with fail
      go_ret2
      exact ⟨rfl, rfl⟩
  | false =>
  obtain ⟨k, rfl⟩ : ∃ k : Nat, at_ = k := ⟨at_.toNat, by have := of_out ho; omega⟩
  have hk1 : (k : Int) < (st.S.length : Int) := (of_out ho).2
  have hk2 : k < st.S.length := by omega
  rw [rd_ok hd ho]
  have cs := sec_cell h.sec hk2
  obtain ⟨s0, hs0⟩ : ∃ s0, st.S.getD k ByteArray.empty = s0 := ⟨_, rfl⟩
  rw [hs0] at cs ⊢
  obtain ⟨r, hr⟩ : ∃ r, over s0 st.W k = r := ⟨_, rfl⟩
  rw [hr]
  have hwn : st.W.length ≤ 1000000000 := by have := hok.wn; omega
  have hw := h.wts
  have HR := Lib.hid hr
  clear ho hd hok hr
  obtain ⟨W, hW⟩ : ∃ W, st.W = W := ⟨_, rfl⟩
  rw [hW] at hw hwn HR
  clear h hW hs0
  rcases wts_cases hw with ⟨rfl, rfl⟩ | ⟨q, qc, rfl⟩
  · have HRS := Lib.hid (show s0 = r from HR.out)
    clear hw HR
    go_enter Try.func47, Try.ntmps47
    go_wp2_with fail
    go_loop [6, 7] (fun s i => s = .string s0 ∧ i = .int .i64 0) (fun _ _ => 0)
    case atStart => exact ⟨rfl, rfl⟩
    case round =>
      obtain ⟨rfl, rfl⟩ := hrel
      go_wp2_with fail
      go_ret2
      exact ⟨ret_str HRS.out, rfl⟩
  · have HC := Lib.hid (fun k hk => wts_cells (k := k) hw hk)
    clear hw
    go_enter Try.func47, Try.ntmps47
    go_wp2_with fail
    go_loop [6, 7] (fun s i => ∃ (j : Nat) (z : ByteArray), j ≤ W.length ∧ i = .int .i64 (j : Int) ∧ s = .string z ∧ Hid (z = over s0 (W.take j) k)) (fun _ i => W.length - (intOf i).toNat)
    case atStart => exact ⟨0, s0, Nat.zero_le _, rfl, rfl, rfl⟩
    case round =>
      obtain ⟨j, z, hj, rfl, rfl, hz⟩ := hrel
      by_cases hlt : j < W.length
      · obtain ⟨d0, d1⟩ := HC.out j hlt
        have HT := Lib.hid (over_take (s := s0) hlt k)
        obtain ⟨x, hx⟩ : ∃ x, W[j].1 = x := ⟨_, rfl⟩
        obtain ⟨y, hy⟩ : ∃ y, W[j].2 = y := ⟨_, rfl⟩
        rw [hx, hy] at HT
        rw [hx] at d0
        rw [hy] at d1
        clear hx hy
        by_cases he : x = k
        · subst he
          have HZ := Lib.hid (show y = over s0 (W.take (j + 1)) x by rw [HT.out, if_pos rfl])
          clear HT hz
          go_wp2_with fail
          go_round
          case rel => exact ⟨j + 1, y, by omega, by go_num, rfl, HZ⟩
          case measure => simp [intOf]; omega
        · have he1 : ((x : Int) == (k : Int)) = false := beq_eq_false_iff_ne.2 (by omega)
          have he2 : (x == k) = false := beq_eq_false_iff_ne.2 he
          have HZ := Lib.hid (show z = over s0 (W.take (j + 1)) k by rw [HT.out, if_neg he]; exact hz.out)
          clear HT hz
          go_wp2_with fail
          go_round
          case rel => exact ⟨j + 1, z, by omega, by go_num, rfl, HZ⟩
          case measure => simp [intOf]; omega
      · have hje : W.take j = W := List.take_of_length_le (by omega)
        have HZ := Lib.hid (show z = r by rw [← HR.out, ← hje]; exact hz.out)
        clear hje hz
        go_wp2_with fail
        go_ret2
        exact ⟨ret_str HZ.out, rfl⟩
end Go.Proofs.Ytklklcohbfnpjaa
