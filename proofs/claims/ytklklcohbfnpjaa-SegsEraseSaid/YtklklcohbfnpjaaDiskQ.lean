/-
  The contracts of the document's New and Load: any number, any texts.
-/
import Derived.Test.YtklklcohbfnpjaaDiskP
set_option linter.unusedVariables false
set_option maxRecDepth 4000
namespace Go.Proofs.Ytklklcohbfnpjaa
open Go.RowKit DiskP

/-- The document's disk, as it is made, in new memory. -/
structure Part (w wr : World) (b k : Nat) (sv : Value) (S : List ByteArray) : Prop where
  blk : wr.heap[b]? = some (.cells #[sv, .slice none 0 0, .int .i64 0, .int .i64 0, .bool false] 57 (0, 0))
  row : wr.ownsRow w.heap.size 9 1 sv k (S.map Value.string)
  bel : Below w.heap.size w wr
  new : w.heap.size ≤ b
theorem part_first (w : World) : Part w (w.alloc (.cells #[.slice none 0 0, .slice none 0 0, .int .i64 0, .int .i64 0, .bool false] 57)) w.heap.size 0 (.slice none 0 0) [] :=
  ⟨heap_alloc_new w _, World.ownsRow_nil _ _ _ _, (Below.refl _ w).alloc (Nat.le_refl _) _, Nat.le_refl _⟩
theorem Part.drew {w wr : World} {b k : Nat} {sv : Value} {S : List ByteArray} (h : Part w wr b k sv S) : Part w wr.drew b k sv S := ⟨h.blk, h.row, h.bel.drew, h.new⟩
theorem Part.keep {w wr w2 : World} {b k : Nat} {sv : Value} {S : List ByteArray} (h : Part w wr b k sv S) (hb : Below wr.heap.size wr w2) : Part w w2 b k sv S :=
  ⟨(hb.block b (heap_lt h.blk)).trans h.blk, owns_heap h.row (fun j e => hb.block j (owns_lt h.row e)), h.bel.trans (hb.mono h.bel.size), h.new⟩
theorem Part.next {w w2 w3 : World} {b k : Nat} {sv v' : Value} {S : List ByteArray} {s : ByteArray} (h : Part w w2 b k sv S) (hown : w3.ownsRow w.heap.size 9 1 v' (k + 1) (S.map Value.string ++ [.string s])) (hg : w2.grownBy w3 sv.ownBlock) :
    w3.heap[b]? = w2.heap[b]? ∧ Part w (w3.setCell ⟨b, 0, none⟩ v') b (k + 1) v' (S ++ [s]) := by
  have hb3 : w3.heap[b]? = w2.heap[b]? := hg.block b (heap_lt h.blk) (fun e => by
    obtain ⟨cur, hc⟩ := owns_type h.row e.symm
    exact not_type h.blk hc (by decide) rfl)
  have hs := Lib.grownBy_setCell w3 b 0 v'
  refine ⟨hb3, ⟨Lib.heap_setCell_same (i := 0) (hb3.trans h.blk) _, ?_, ?_, h.new⟩⟩
  · have e : (S ++ [s]).map Value.string = S.map Value.string ++ [.string s] := by simp
    rw [e]
    refine owns_heap hown (fun j ej => hs.block j (owns_lt hown ej) (fun e2 => ?_))
    obtain rfl : j = b := by cases e2; rfl
    obtain ⟨cur, hc⟩ := owns_type hown ej
    exact not_type (hb3.trans h.blk) hc (by decide) rfl
  · exact (h.bel.grown hg h.bel.size (fun j e => (h.row.lt j e).1)).setCell (p := ⟨b, 0, none⟩) h.new v'
theorem cell_one_new (w : World) (v : Value) (t : TypeId) : ∀ j u, [v][j]? = some u → (w.alloc (.cells #[v] t)).cell? ((⟨w.heap.size, 0, none⟩ : Addr).add j) = some u := fun j u h => by
  match j, h with
  | 0, h =>
    simp at h
    subst h
    rw [Addr.add_lit, World.cell?_alloc_new]
    rfl
  | j + 1, h => simp at h
theorem owns_one {w : World} {B n size : Nat} {e : TypeId} {v : Value} {xs : List Value} (h : w.ownsRow B e size v n xs) : v.oneCell' = true := by
  rcases h.2 with ⟨rfl, _⟩ | ⟨g, cap, cur, rfl, _⟩
  · rfl
  · rfl
/-- The document's new disk, in new memory. -/
def RMade (w : World) (S : List ByteArray) (e : Ending) (w' : World) : Prop :=
  ∃ b L, e = .returned (.tuple #[.pointer (some ⟨b, 0, none⟩), .int .i64 0]) ∧ Rk w' L b (fresh S) ∧ (∀ k ∈ L, w.heap.size ≤ k) ∧ Below w.heap.size w w'
theorem part_made {w wr : World} {b n : Nat} {sv : Value} {S : List ByteArray} (h : Part w wr b n sv S) (hn : 0 < n) : RMade w S (.returned (.tuple #[.pointer (some ⟨b, 0, none⟩), .int .i64 0])) wr := by
  obtain ⟨m, rfl⟩ : ∃ m, n = m + 1 := ⟨n - 1, by omega⟩
  obtain ⟨g, cap, rfl⟩ := owns_succ h.row
  have hl : m + 1 = S.length := by have := h.row.1; simpa using this.symm
  refine ⟨b, foot b g (.slice none 0 0), rfl, ⟨g, cap, .slice none 0 0, ⟨?_, ?_, World.ownsRow_nil _ _ _ _⟩, rfl⟩, fun k hk => ?_, h.bel⟩
  · have := h.blk
    rw [hl] at this
    exact this
  · have := owns_mono h.row (Nat.zero_le _)
    rw [hl] at this
    exact this
  · rcases mem_foot.1 hk with rfl | rfl | e
    · exact h.new
    · exact (h.row.lt _ rfl).1
    · simp [Value.ownBlock] at e
theorem rnew_range (n : Int) (w : World) (h : ¬ (2 ≤ n ∧ n ≤ 512)) :
    Calls Try.prog 18 #[.int .i64 n] w fun e w' => e = .returned (.tuple #[.pointer none, .int .i64 11]) ∧ w = w' := by
  by_cases h1 : n < 2
  · go_enter Try.func18, Try.ntmps18
    go_wp2_with fail
    go_ret2
    exact ⟨rfl, rfl⟩
  · have h2 : 512 < n := by omega
    have h1' : 2 ≤ n := by omega
    go_enter Try.func18, Try.ntmps18
    go_wp2_with fail
    go_ret2
    exact ⟨rfl, rfl⟩
set_option maxRecDepth 100000 in
set_option maxHeartbeats 2000000 in
theorem rnew_yes (n : Nat) (w : World) (h1 : 2 ≤ n) (h2 : n ≤ 512) :
    Calls Try.prog 18 #[.int .i64 (n : Int)] w (RMade w (List.replicate n DiskP.blank)) := by
  have HBK := Lib.hid blank_rk
  have hb128 : DiskP.blank.size = 128 := fill_size 0 128
  generalize DiskP.blank = bl at *
  obtain ⟨i0, hi, hz0, hz1, hz2⟩ := info_parts info_string
  have HI := Lib.hid hi; have HZ0 := Lib.hid hz0; have HZ1 := Lib.hid hz1; have HZ2 := Lib.hid hz2
  clear hi hz0 hz1 hz2
  have y1 : (2 : Int) ≤ (n : Int) := by omega
  have y2 : (n : Int) ≤ 512 := by omega
  go_enter Try.func18, Try.ntmps18
  go_wp2_with fail
  go_loopw [5] (fun i wr => ∃ (j : Nat) (sv : Value), j ≤ n ∧ i = .int .i64 (j : Int) ∧ Hid (Part w wr w.heap.size j sv (List.replicate j bl))) (fun i _ => n - (intOf i).toNat)
  case atStart => exact ⟨0, .slice none 0 0, Nat.zero_le _, rfl, part_first w⟩
  case round =>
    obtain ⟨j, sv, hj, rfl, hP⟩ := hrel
    by_cases hlt : j < n
    · have hP2 := hP.out.drew
      have HP := Lib.hid hP2
      have d0 : wr.drew.cell? ⟨w.heap.size, 0, none⟩ = some sv := cell_of_heap hP2.blk
      have hbk := HBK.out wr.drew
      clear hP hP2
      go_wp2_with fail
      refine wp_region_any (by kernel_rfl) ?_
      change wpAny _ _ _ _ _ _ _ (World.drew _)
      refine wpAny_take (i := 0) (v := ?_) rfl (by kernel_rfl) (by kernel_rfl) (by kernel_rfl) (fun _ _ _ h => h) (Or.inl ⟨by rfl, ?_⟩) ?_; rotate_left; focus ((intro w'); go_simp; (try with_reducible rfl))
      refine wpAny_take (i := 1) (v := ?_) rfl (by kernel_rfl) (by kernel_rfl) (by kernel_rfl) (fun _ _ _ h => h) (Or.inl ⟨by rfl, ?_⟩) ?_; rotate_left; focus ((intro w'); go_simp; (try with_reducible rfl))
      refine wpAny_take (i := 2) (v := ?_) rfl (by kernel_rfl) (by kernel_rfl) (by kernel_rfl) (fun _ _ _ h => h) (Or.inl ⟨by rfl, ?_⟩) ?_; rotate_left; focus ((intro w'); go_simp; (try with_reducible rfl))
      refine wpAny_take (i := 3) (v := ?_) rfl (by kernel_rfl) (by kernel_rfl) (by kernel_rfl) (fun _ _ _ h => h) (Or.inl ⟨by rfl, ?_⟩) ?_; rotate_left; focus ((intro w'); go_simp; (try with_reducible rfl))
      refine wpAny_ready (rs := [4, 5]) (by kernel_rfl) (by simp) ?_
      refine AllReady.cons rfl (fun K hK => ?_) (AllReady.cons rfl (fun K hK => ?_) AllReady.nil)
      · go_simp
        refine hK _ _ ?_
        clear hK K
        refine wpAny_ready (rs := [5]) (by kernel_rfl) (by simp) ?_
        refine AllReady.cons rfl (fun K hK => ?_) AllReady.nil
        go_simp
        refine hbk.mono ?_
        rintro e w1 ⟨rfl, hb⟩
        have HP1 := Lib.hid (HP.out.keep (hb.alloc hb.size (.cells #[.string bl] 9)))
        have d1 : w1.cell? ⟨w.heap.size, 0, none⟩ = some sv := cell_of_heap (HP.out.keep hb).blk
        have d2 : (w1.alloc (.cells #[.string bl] 9)).cell? ⟨w.heap.size, 0, none⟩ = some sv := cell_of_heap HP1.out.blk
        clear hb hbk
        refine hK _ _ ?_
        clear hK K
        refine wpAny_ready (rs := [6]) (by kernel_rfl) (by simp) ?_
        refine AllReady.cons rfl (fun K hK => ?_) AllReady.nil
        go_simp
        refine hK _ _ ?_
        clear hK K
        refine Mix.wpAny_of_seqV [7, 8, 9, 10] _ _ _ (by kernel_rfl) ?_
        simp only [Mix.pick, List.filterMap_cons, List.filterMap_nil, List.getElem?_cons_zero, List.getElem?_cons_succ]
        refine wpList_append_own _ rfl (.tmp 23) (.tmp 25) 48 rfl w.heap.size 9 i0 _ 1 16 Try.underlying48 HI.out HZ0.out HZ1.out HZ2.out rfl (by decide) sv j _ rfl HP1.out.row ⟨w1.heap.size, 0, none⟩ 1 1 [.string bl] rfl rfl ?c1 ?c2 ?c3 ?c4 ?c5 ?_
        case c1 => exact cell_one_new _ _ _
        case c2 => intro u hu; obtain rfl := List.mem_singleton.1 hu; rfl
        case c3 => unfold maxLen; omega
        case c4 => omega
        case c5 => exact HP1.out.bel.size
        intro v' w3 hown hgrow _
        obtain ⟨hb3, hP3⟩ := HP1.out.next hown hgrow
        rw [← List.replicate_succ'] at hP3
        have d3 : w3.cell? ⟨w.heap.size, 0, none⟩ = some sv := cell_of_heap (hb3.trans HP1.out.blk)
        have f3 : w3.frozen? ⟨w.heap.size, 0, none⟩ = false := frozen_of_heap (hb3.trans HP1.out.blk)
        have o3 : sv.oneCell' = true := owns_one HP1.out.row
        obtain ⟨g', cap', rfl⟩ := owns_succ hown
        have HP3 := Lib.hid hP3
        clear hown hgrow hb3 hP3 d0 d1 d2
        go_wp2_with fail
        go_roundw
        case rel => exact ⟨j + 1, _, by omega, by go_num, HP3⟩
        case measure => simp [intOf]; omega
      · go_simp
        refine hbk.mono ?_
        rintro e w1 ⟨rfl, hb⟩
        have HP1 := Lib.hid (HP.out.keep (hb.alloc hb.size (.cells #[.string bl] 9)))
        have d1 : w1.cell? ⟨w.heap.size, 0, none⟩ = some sv := cell_of_heap (HP.out.keep hb).blk
        have d2 : (w1.alloc (.cells #[.string bl] 9)).cell? ⟨w.heap.size, 0, none⟩ = some sv := cell_of_heap HP1.out.blk
        clear hb hbk
        refine hK _ _ ?_
        clear hK K
        refine wpAny_ready (rs := [4, 6]) (by kernel_rfl) (by simp) ?_
        refine AllReady.cons rfl (fun K hK => ?_) (AllReady.cons rfl (fun K hK => ?_) AllReady.nil)
        · go_simp
          refine hK _ _ ?_
          clear hK K
          refine wpAny_ready (rs := [6]) (by kernel_rfl) (by simp) ?_
          refine AllReady.cons rfl (fun K hK => ?_) AllReady.nil
          go_simp
          refine hK _ _ ?_
          clear hK K
          refine Mix.wpAny_of_seqV [7, 8, 9, 10] _ _ _ (by kernel_rfl) ?_
          simp only [Mix.pick, List.filterMap_cons, List.filterMap_nil, List.getElem?_cons_zero, List.getElem?_cons_succ]
          refine wpList_append_own _ rfl (.tmp 23) (.tmp 25) 48 rfl w.heap.size 9 i0 _ 1 16 Try.underlying48 HI.out HZ0.out HZ1.out HZ2.out rfl (by decide) sv j _ rfl HP1.out.row ⟨w1.heap.size, 0, none⟩ 1 1 [.string bl] rfl rfl ?c1 ?c2 ?c3 ?c4 ?c5 ?_
          case c1 => exact cell_one_new _ _ _
          case c2 => intro u hu; obtain rfl := List.mem_singleton.1 hu; rfl
          case c3 => unfold maxLen; omega
          case c4 => omega
          case c5 => exact HP1.out.bel.size
          intro v' w3 hown hgrow _
          obtain ⟨hb3, hP3⟩ := HP1.out.next hown hgrow
          rw [← List.replicate_succ'] at hP3
          have d3 : w3.cell? ⟨w.heap.size, 0, none⟩ = some sv := cell_of_heap (hb3.trans HP1.out.blk)
          have f3 : w3.frozen? ⟨w.heap.size, 0, none⟩ = false := frozen_of_heap (hb3.trans HP1.out.blk)
          have o3 : sv.oneCell' = true := owns_one HP1.out.row
          obtain ⟨g', cap', rfl⟩ := owns_succ hown
          have HP3 := Lib.hid hP3
          clear hown hgrow hb3 hP3 d0 d1 d2
          go_wp2_with fail
          go_roundw
          case rel => exact ⟨j + 1, _, by omega, by go_num, HP3⟩
          case measure => simp [intOf]; omega
        · go_simp
          refine hK _ _ ?_
          clear hK K
          refine wpAny_ready (rs := [4]) (by kernel_rfl) (by simp) ?_
          refine AllReady.cons rfl (fun K hK => ?_) AllReady.nil
          go_simp
          refine hK _ _ ?_
          clear hK K
          refine Mix.wpAny_of_seqV [7, 8, 9, 10] _ _ _ (by kernel_rfl) ?_
          simp only [Mix.pick, List.filterMap_cons, List.filterMap_nil, List.getElem?_cons_zero, List.getElem?_cons_succ]
          refine wpList_append_own _ rfl (.tmp 23) (.tmp 25) 48 rfl w.heap.size 9 i0 _ 1 16 Try.underlying48 HI.out HZ0.out HZ1.out HZ2.out rfl (by decide) sv j _ rfl HP1.out.row ⟨w1.heap.size, 0, none⟩ 1 1 [.string bl] rfl rfl ?c1 ?c2 ?c3 ?c4 ?c5 ?_
          case c1 => exact cell_one_new _ _ _
          case c2 => intro u hu; obtain rfl := List.mem_singleton.1 hu; rfl
          case c3 => unfold maxLen; omega
          case c4 => omega
          case c5 => exact HP1.out.bel.size
          intro v' w3 hown hgrow _
          obtain ⟨hb3, hP3⟩ := HP1.out.next hown hgrow
          rw [← List.replicate_succ'] at hP3
          have d3 : w3.cell? ⟨w.heap.size, 0, none⟩ = some sv := cell_of_heap (hb3.trans HP1.out.blk)
          have f3 : w3.frozen? ⟨w.heap.size, 0, none⟩ = false := frozen_of_heap (hb3.trans HP1.out.blk)
          have o3 : sv.oneCell' = true := owns_one HP1.out.row
          obtain ⟨g', cap', rfl⟩ := owns_succ hown
          have HP3 := Lib.hid hP3
          clear hown hgrow hb3 hP3 d0 d1 d2
          go_wp2_with fail
          go_roundw
          case rel => exact ⟨j + 1, _, by omega, by go_num, HP3⟩
          case measure => simp [intOf]; omega
    · obtain rfl : j = n := by omega
      have HM := Lib.hid (part_made hP.out (by omega))
      clear hP
      go_wp2_with fail
      go_ret2
      exact HM.out
end Go.Proofs.Ytklklcohbfnpjaa
