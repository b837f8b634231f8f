/-
  The contracts of both Texts: any definition; what was there stays as it was.
-/
import Derived.Test.YtdpgfnnhbfkacaaDoorDefE
import Derived.Test.YtdpgfnnhbfkacaaDoorDefRead
import Derived.Test.YtdpgfnnhbfkacaaDoorStepF
import Derived.Test.YtdpgfnnhbfkacaaDoorRwName
set_option linter.unusedVariables false
set_option linter.unusedSimpArgs false
set_option maxRecDepth 4000
set_option maxRecDepth 4000
namespace Go.Proofs.YtdpgfnnhbfkacaaDoor.Def
open Go.RowKit DefP
open StP (textS)
open Go.Proofs.YtdpgfnnhbfkacaaDoor.Kt

theorem join_le (m : Nat) : ∀ (xs : List (List UInt8)), (∀ x ∈ xs, x.length ≤ m) → (Lib.join xs [44]).length ≤ xs.length * (m + 1)
  | [], _ => by rw [Lib.join_nil]; simp
  | [x], h => by rw [Lib.join_one]; have := h x (by simp); simp; omega
  | x :: y :: r, h => by
    rw [StP.join_cons2, List.length_append, List.length_cons]
    have h1 := h x (by simp)
    have h2 := join_le m (y :: r) fun z hz => h z (List.mem_cons_of_mem _ hz)
    rw [show (x :: y :: r).length * (m + 1) = (m + 1) + (y :: r).length * (m + 1) by rw [List.length_cons, Nat.add_mul, Nat.one_mul, Nat.add_comm]]
    omega
theorem join_snoc (c : UInt8) : ∀ (xs : List (List UInt8)) (y : List UInt8), xs ≠ [] → Lib.join (xs ++ [y]) [c] = Lib.join xs [c] ++ c :: y
  | [], y, h => absurd rfl h
  | [x], y, _ => by rw [List.cons_append, List.nil_append, StP.join_cons2, Lib.join_one, Lib.join_one]
  | x :: z :: r, y, _ => by
    rw [List.cons_append, List.cons_append, StP.join_cons2, ← List.cons_append, join_snoc c (z :: r) y (by simp), StP.join_cons2]
    simp
theorem textS_len (x : Step) : (textS x).length ≤ 1000 := by
  cases h : StP.fitS x with
  | false => rw [StP.text_no h]; exact Nat.zero_le _
  | true =>
    rw [← Step.join_words h]
    exact Step.join_small _ (Step.words_small (StP.fitS_of h)) (by rw [List.length_append, List.length_take]; simp; omega)
def tx (x : Step) : ByteArray := Step.bs (textS x)
theorem tx_data (x : Step) : (tx x).data.toList = textS x := Step.data_bs _
theorem tx_size (x : Step) : (tx x).size ≤ 1000 := by
  have := textS_len x
  show (Step.bs (textS x)).size ≤ 1000
  simpa [Step.bs, ByteArray.size] using this
def words (l : List Step) : List ByteArray := l.map tx
theorem words_data (l : List Step) : (words l).map (·.data.toList) = l.map textS := by
  unfold words
  rw [List.map_map]
  exact List.map_congr_left fun x _ => tx_data x
theorem words_take {l : List Step} {k : Nat} {x : Step} (h : l[k]? = some x) : words (l.take (k + 1)) = words (l.take k) ++ [tx x] := by
  unfold words; rw [take_get h, List.map_append]; rfl
theorem stepsT_len (l : List Step) : (stepsT l).length ≤ l.length * 1001 := by
  have := join_le 1000 (l.map textS) (fun y hy => by obtain ⟨x, _, rfl⟩ := List.mem_map.1 hy; exact textS_len x)
  rw [List.length_map] at this
  exact this
theorem stepsT_first {l : List Step} {x : Step} (h : l[0]? = some x) : stepsT (l.take 1) = textS x := by
  rw [show (1 : Nat) = 0 + 1 from rfl, take_get h]
  unfold stepsT
  rw [List.take_zero, List.nil_append, List.map_cons, List.map_nil, Lib.join_one]
theorem stepsT_more {l : List Step} {k : Nat} {x : Step} (hk : 0 < k) (h : l[k]? = some x) : stepsT (l.take (k + 1)) = stepsT (l.take k) ++ 44 :: textS x := by
  unfold stepsT
  rw [take_get h, List.map_append, List.map_cons, List.map_nil]
  refine join_snoc 44 _ _ fun e => ?_
  have he := congrArg List.length e
  have := (List.getElem?_eq_some_iff.1 h).1
  rw [List.length_map, List.length_take, List.length_nil] at he
  omega
theorem text_is1 (x0 x1 x2 x3 x4 x5 : Int) (z : ByteArray) (hz : tx ⟨x0, x1, x2, x3, x4, x5⟩ = z) (w : World) (hv : Num.Tab w) : Calls Tryd.prog 37 #[.agg #[.int .i64 x0, .int .i64 x1, .int .i64 x2, .int .i64 x3, .int .i64 x4, .int .i64 x5]] w fun e w' => e = .returned (.string z) ∧ Below w.heap.size w w' := by
  rw [← hz]; exact Step.text_any x0 x1 x2 x3 x4 x5 w hv
/-- The steps' texts joined. -/
theorem join_steps {pb : Nat} (l : List Step) (n : Nat) (s : ByteArray) (v : Value) (hl : l.length = n) (h1 : 1 ≤ n) (hs : Step.bs (stepsT l) = s) (hn : n ≤ 1000) (w : World) (h : w.ownsRow pb 9 1 v n (Rw.cells Rw.strS (words l))) :
    ∃ g c, v = .slice (some ⟨g, 0, none⟩) n c ∧ g < w.heap.size ∧ ∀ W, Below w.heap.size w W → Calls Tryd.prog 38 #[.slice (some ⟨g, 0, none⟩) n c, .string ⟨#[44]⟩] W fun e w' => e = .returned (.string s) ∧ Below W.heap.size W w' := by
  rcases Rw.owns_form h with ⟨rfl, h3⟩ | ⟨g, cap, rfl, _, hlt⟩
  · omega
  refine ⟨g, cap, rfl, hlt, fun W hb => ?_⟩
  have hwl : (words l).length = n := by unfold words; rw [List.length_map, hl]
  have hj := Tryd.strings_Join g 0 cap (words l) ⟨#[44]⟩ W (fun j x hx => by rw [Nat.zero_add]; exact Rw.owns_cell (Rw.owns_below h hb) rfl (Rw.str_get hx)) (by have := hb.size; omega) (by omega) (by rw [hwl]; exact Rw.owns_room h)
    (by rw [words_data]; have := stepsT_len l; rw [show Lib.join (l.map textS) (⟨#[44]⟩ : ByteArray).data.toList = stepsT l from rfl]; exact Nat.le_trans this (by rw [hl]; omega))
  rw [words_data, show Lib.join (l.map textS) (⟨#[44]⟩ : ByteArray).data.toList = stepsT l from rfl, hwl] at hj
  rw [← hs]
  exact hj

set_option maxHeartbeats 8000000 in
theorem text_is (s : ByteArray) (a : Option Addr) (n c : Nat) (l : List Step) (t : ByteArray) (ht : Step.bs (textD ⟨s, l⟩) = t) (w : World) (h : StAt w a n l) (hs : s.size ≤ 1000) (hn : n ≤ 1000000) (hv : Num.Tab w) :
    Calls Tryd.prog 12 #[.agg #[.string s, .slice a n c]] w fun e w' => e = .returned (.string t) ∧ Below w.heap.size w w' := by
  have hl := h.1
  have HB0 := Lib.hid (bx2_new 24 w (.string s) (.slice a n c))
  obtain ⟨u0, u1⟩ := cells2 HB0.out.box
  obtain ⟨b, hb⟩ : ∃ b, fitD ⟨s, l⟩ = b := ⟨_, rfl⟩
  have CF := Lib.hid (fit_is s a n c l b hb (w.alloc (.cells #[.string s, .slice a n c] 24)) (Rw.At.keep h HB0.out.bel) hs hn)
  have HV := Lib.hid (fun W (hb : Below w.heap.size w W) => hv.keep hb)
  cases b with
  | false =>
    have HE : Hid ((⟨#[]⟩ : ByteArray) = t) := by show _ = _; rw [← ht, textD_no hb]; rfl
    clear ht h hb hv
    go_enter Tryd.func12, Tryd.ntmps12
    go_wp2_with fail
    refine CF.out.mono ?_
    rintro e w1 ⟨rfl, hb⟩
    have HB1 := Lib.hid (HB0.out.keep hb)
    obtain ⟨z0, z1⟩ := cells2 HB1.out.box
    clear hb u0 u1 CF
    go_wp2_with fail
    go_ret
    exact ⟨Step.ret_str HE.out, HB1.out.bel⟩
  | true =>
    have hfl := (fitD_iff.1 hb).2
    have hn1 := (fitL_len hfl).1
    have hn6 := (fitL_len hfl).2
    simp only at hn1 hn6
    rw [hl] at hn1 hn6
    have zT1 : ¬ (9223372036854775807 < s.size + 1) := by omega
    obtain ⟨J, hJ⟩ : ∃ J, Step.bs (stepsT l) = J := ⟨_, rfl⟩
    have sJ : J.size ≤ 6006 := by
      rw [← hJ]
      have := stepsT_len l
      rw [hl] at this
      show (Step.bs (stepsT l)).size ≤ 6006
      have h2 : (Step.bs (stepsT l)).size = (stepsT l).length := by simp [Step.bs, ByteArray.size]
      omega
    have zT2 : ¬ (9223372036854775807 < s.size + 1 + J.size) := by omega
    have HE : Hid (s ++ ⟨#[32]⟩ ++ J = t) := by
      show _ = _
      rw [← ht, ← hJ]
      unfold textD
      rw [if_pos hb]
      apply Step.str_eq
      rw [Step.data_bs, ByteArray.data_append, ByteArray.data_append, Array.toList_append, Array.toList_append, Step.data_bs]
      simp
    have HX := Lib.hid h
    have HJ := Lib.hid hJ
    have HL := Lib.hid hl
    clear ht h hb hv hfl hJ hl
    go_enter Tryd.func12, Tryd.ntmps12
    go_wp2_with fail
    refine CF.out.mono ?_
    rintro e w1 ⟨rfl, hb⟩
    have HB1 := Lib.hid (HB0.out.keep hb)
    obtain ⟨z0, z1⟩ := cells2 HB1.out.box
    clear hb u0 u1 CF
    go_wp2_with fail
    go_loopw [3, 12] (fun t i wr => ∃ k : Nat, k ≤ n ∧ i = .int .i64 (k : Int) ∧ Hid (wr.ownsRow w1.heap.size 9 1 t k (Rw.cells Rw.strS (words (l.take k)))) ∧ Hid (Bx2 24 w wr (.string s) (.slice a n c)) ∧ Hid (w1.heap.size ≤ wr.heap.size)) (fun _ i _ => n - (intOf i).toNat)
    case atStart => exact ⟨0, Nat.zero_le _, rfl, Lib.hid (World.ownsRow_nil _ _ _ _), HB1, Nat.le_refl _⟩
    case round =>
      obtain ⟨k, hk, rfl, hO, hB, hS⟩ := hrel
      clear z0 z1
      by_cases hlk : k < n
      · obtain ⟨b1, o1, x0, x1, x2, x3, x4, x5, rfl, g1, hp, hc1⟩ := StAt.at HX.out hlk
        obtain ⟨d0, d1, d2, d3, d4, d5⟩ := hc1 wr hB.out.bel
        have hY := at6_new 29 wr (.int .i64 x0) (.int .i64 x1) (.int .i64 x2) (.int .i64 x3) (.int .i64 x4) (.int .i64 x5)
        obtain ⟨y0, y1, y2, y3, y4, y5⟩ := cells6 hY
        obtain ⟨z, hz⟩ : ∃ z, tx ⟨x0, x1, x2, x3, x4, x5⟩ = z := ⟨_, rfl⟩
        have HB2 := Lib.hid (hB.out.alloc (.cells #[.int .i64 x0, .int .i64 x1, .int .i64 x2, .int .i64 x3, .int .i64 x4, .int .i64 x5] 29))
        have CT := Lib.hid (text_is1 x0 x1 x2 x3 x4 x5 z hz (wr.alloc (.cells #[.int .i64 x0, .int .i64 x1, .int .i64 x2, .int .i64 x3, .int .i64 x4, .int .i64 x5] 29)) (HV.out _ HB2.out.bel))
        have HO2 := Lib.hid (Rw.owns_below hO.out ((Below.refl _ wr).alloc (Nat.le_refl _) (.cells #[.int .i64 x0, .int .i64 x1, .int .i64 x2, .int .i64 x3, .int .i64 x4, .int .i64 x5] 29)))
        have HW : Hid (words (l.take (k + 1)) = words (l.take k) ++ [z]) := by show _ = _; rw [words_take hp, hz]
        have hS2 : w1.heap.size ≤ (wr.alloc (.cells #[.int .i64 x0, .int .i64 x1, .int .i64 x2, .int .i64 x3, .int .i64 x4, .int .i64 x5] 29)).heap.size := by rw [World.size_alloc]; have := hS.out; omega
        clear hp hz hc1 hY
        go_wp2_with fail
        refine CT.out.mono ?_
        rintro e w8 ⟨rfl, hb⟩
        have HO8 := Lib.hid (Rw.owns_below HO2.out hb)
        have HB8 := Lib.hid (HB2.out.keep hb)
        have hS8 : w1.heap.size ≤ w8.heap.size := Nat.le_trans hS2 hb.size
        clear hb CT HO2 HB2 hB hS2 d0 d1 d2 d3 d4 d5 y0 y1 y2 y3 y4 y5
        go_wp2_with (first
          | (at_builtin; refine Rw.append_one Rw.strS rfl (.tmp 16) (.tmp 19) rfl w1.heap.size w8 _ rfl z _ rfl _ k (words (l.take k)) rfl HO8.out rfl (by omega) hS8 ?_)
          | fail)
        intro v' w9 hown hgrow
        have HO9 : Hid (w9.ownsRow w1.heap.size 9 1 v' (k + 1) (Rw.cells Rw.strS (words (l.take (k + 1))))) := by
          show World.ownsRow _ _ _ _ _ _ _
          rw [HW.out]
          exact hown
        have hbb : Below w1.heap.size w8 w9 := Rw.below_append (Below.refl w1.heap.size w8) hS8 HO8.out hgrow
        have HB9 : Hid (Bx2 24 w w9 (.string s) (.slice (some ⟨b1, o1, none⟩) n c)) := ⟨HB8.out.bel.trans (hbb.mono (Nat.le_of_lt HB1.out.lt)), HB8.out.box.keepB hbb HB1.out.lt⟩
        have HS9 : Hid (w1.heap.size ≤ w9.heap.size) := Nat.le_trans hS8 hbb.size
        clear hown hgrow hbb HO8 HB8 hO
        go_wp2_with fail
        go_roundw
        case rel => exact ⟨k + 1, by omega, by go_num, HO9, HB9, HS9⟩
        case measure => simp [intOf]; omega
      · obtain rfl : k = n := by omega
        have hO2 := hO.out
        rw [List.take_of_length_le (by rw [HL.out]; exact Nat.le_refl _)] at hO2
        obtain ⟨g, cp, hvs, hlt, CJ0⟩ := join_steps l k J _ HL.out hn1 HJ.out (by omega) wr hO2
        subst hvs
        have CJ := Lib.hid (fun d os => Calls.regrown_of (CJ0 (Sort.grow (redrawn wr d) os) (below_regrown wr d os)))
        clear hO hO2 hlt CJ0
        obtain ⟨q0, q1⟩ := cells2 hB.out.box
        have s0 := fun d os => cell_regrown q0 d os
        have s1 := fun d os => cell_regrown q1 d os
        go_wp2_with fail
        clear q0 q1
        refine wp_region_qw (by kernel_rfl) (by kernel_rfl) ?_
        iterate 7 (refine qw_take (by kernel_rfl) (fun K hK => ?_); go_simp; first | (refine hK _ ?_; clear hK K) | (apply Exists.intro; refine ⟨fun _ => ?_, hK _ ?_⟩; (first | with_reducible exact CJ.out _ _); clear hK K))
        refine qw_nil ?_
        intro _ hw'
        obtain ⟨⟨dq, osq⟩, hw''⟩ := hw'
        subst hw''
        have HB3 := Lib.hid (hB.out.keep (below_regrown wr dq osq))
        clear s0 s1 CJ
        go_wp2_with fail
        go_ret
        exact ⟨Step.ret_str HE.out, HB3.out.bel⟩

end Go.Proofs.YtdpgfnnhbfkacaaDoor.Def
