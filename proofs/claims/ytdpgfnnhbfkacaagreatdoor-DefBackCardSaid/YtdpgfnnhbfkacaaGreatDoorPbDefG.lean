/-
  The contracts of both Texts: any definition; what was there stays as it was.
-/
import Derived.Test.YtdpgfnnhbfkacaaGreatDoorPbDefPlain
import Derived.Test.YtdpgfnnhbfkacaaGreatDoorPbNameC
import Derived.Test.YtdpgfnnhbfkacaaGreatDoorPbDefE
import Derived.Test.YtdpgfnnhbfkacaaGreatDoorPbRwName
import Derived.Test.YtdpgfnnhbfkacaaGreatDoorPbStepD
import Derived.Test.YtdpgfnnhbfkacaaGreatDoorPbStepG
set_option linter.unusedVariables false
set_option linter.unusedSimpArgs false
set_option maxRecDepth 4000
namespace Go.Proofs.YtdpgfnnhbfkacaaGreatDoor.Def
open Go.RowKit DefP
open StP (textS)
open Go.Proofs.YtdpgfnnhbfkacaaGreatDoor.Kt
theorem join_le (m : Nat) : ∀ (xs : List (List UInt8)), (∀ x ∈ xs, x.length ≤ m) → (Lib.join xs [44]).length ≤ xs.length * (m + 1)
  | [], _ => by rw [Lib.join_nil]; simp
  | [x], h => by rw [Lib.join_one]; have := h x (by simp); simp; omega
  | x :: y :: r, h => by
    rw [StP.join_cons2, List.length_append, List.length_cons]
    have h1 := h x (by simp)
    have h2 := join_le m (y :: r) fun z hz => h z (List.mem_cons_of_mem _ hz)
    rw [show (x :: y :: r).length * (m + 1) = (m + 1) + (y :: r).length * (m + 1) by rw [List.length_cons, Nat.add_mul, Nat.one_mul, Nat.add_comm]]
    omega
theorem textS_len (x : Step) : (textS x).length ≤ 1000 := by
  cases h : StP.fitS x with
  | false => rw [StP.text_no h]; exact Nat.zero_le _
  | true =>
    rw [← Step.join_words h]
    exact Step.join_small _ (Step.words_small (StP.fitS_of h)) (by rw [List.length_append, List.length_take]; simp; omega)
def tx (x : Step) : ByteArray := Step.bs (textS x)
theorem tx_data (x : Step) : (tx x).data.toList = textS x := Step.data_bs _
def words (l : List Step) : List ByteArray := l.map tx
theorem words_data (l : List Step) : (words l).map (·.data.toList) = l.map textS := by
  unfold words
  rw [List.map_map]
  exact List.map_congr_left fun x _ => tx_data x
theorem words_take {l : List Step} {k : Nat} {x : Step} (h : l[k]? = some x) : words (l.take (k + 1)) = words (l.take k) ++ [tx x] := by
  unfold words; rw [take_get h, List.map_append]; rfl
theorem stepsT_len (l : List Step) : (stepsT l).length ≤ l.length * 1001 := by
  have := join_le 1000 (l.map textS) (fun y hy => by obtain ⟨x, _, rfl⟩ := List.mem_map.1 hy; exact textS_len x)
  rw [List.length_map] at this
  exact this
theorem text_is1 (x0 x1 x2 x3 x4 x5 : Int) (z : ByteArray) (hz : tx ⟨x0, x1, x2, x3, x4, x5⟩ = z) (w : World) (hv : Num.Tab w) : Calls Tryz.prog 55 #[.agg #[.int .i64 x0, .int .i64 x1, .int .i64 x2, .int .i64 x3, .int .i64 x4, .int .i64 x5]] w fun e w' => e = .returned (.string z) ∧ Below w.heap.size w w' := by
  rw [← hz]; exact Step.text_any x0 x1 x2 x3 x4 x5 w hv
theorem join_steps {pb : Nat} (l : List Step) (n : Nat) (s : ByteArray) (v : Value) (hl : l.length = n) (h1 : 1 ≤ n) (hs : Step.bs (stepsT l) = s) (hn : n ≤ 1000) (w : World) (h : w.ownsRow pb 9 1 v n (Rw.cells Rw.strS (words l))) :
    ∃ g c, v = .slice (some ⟨g, 0, none⟩) n c ∧ g < w.heap.size ∧ ∀ W, Below w.heap.size w W → Calls Tryz.prog 56 #[.slice (some ⟨g, 0, none⟩) n c, .string ⟨#[44]⟩] W fun e w' => e = .returned (.string s) ∧ Below W.heap.size W w' := by
  rcases Rw.owns_form h with ⟨rfl, h3⟩ | ⟨g, cap, rfl, _, hlt⟩
  · omega
  refine ⟨g, cap, rfl, hlt, fun W hb => ?_⟩
  have hwl : (words l).length = n := by unfold words; rw [List.length_map, hl]
  have hj := Tryz.strings_Join g 0 cap (words l) ⟨#[44]⟩ W (fun j x hx => by rw [Nat.zero_add]; exact Rw.owns_cell (Rw.owns_below h hb) rfl (Rw.str_get hx)) (by have := hb.size; omega) (by omega) (by rw [hwl]; exact Rw.owns_room h)
    (by rw [words_data]; have := stepsT_len l; rw [show Lib.join (l.map textS) (⟨#[44]⟩ : ByteArray).data.toList = stepsT l from rfl]; exact Nat.le_trans this (by rw [hl]; omega))
  rw [words_data, show Lib.join (l.map textS) (⟨#[44]⟩ : ByteArray).data.toList = stepsT l from rfl, hwl] at hj
  rw [← hs]
  exact hj

set_option maxHeartbeats 8000000 in
theorem text_is (s : ByteArray) (a : Option Addr) (n c : Nat) (l : List Step) (t : ByteArray) (ht : Step.bs (textD ⟨s, l⟩) = t) (w : World) (h : StAt w a n l) (hs : s.size ≤ 1000) (hn : n ≤ 1000000) (hv : Num.Tab w) :
    Calls Tryz.prog 14 #[.agg #[.string s, .slice a n c]] w fun e w' => e = .returned (.string t) ∧ Below w.heap.size w w' := by
  have hl := h.1
  have HB0 := Lib.hid (bx2_new 24 w (.string s) (.slice a n c))
  obtain ⟨u0, u1⟩ := cells2 HB0.out.box
  obtain ⟨b, hb⟩ : ∃ b, fitD ⟨s, l⟩ = b := ⟨_, rfl⟩
  have CF := Lib.hid (fit_is s a n c l b hb (w.alloc (.cells #[.string s, .slice a n c] 24)) (Rw.At.keep h HB0.out.bel) hs hn)
  have HV := Lib.hid (fun W (hb : Below w.heap.size w W) => hv.keep hb)
  cases b with
  | false =>
    have HE : Hid ((⟨#[]⟩ : ByteArray) = t) := by show _ = _; rw [← ht, textD_no hb]; rfl
    clear ht h hb hv
    go_enter Tryz.func14, Tryz.ntmps14
    go_wp2_with fail
    refine CF.out.mono ?_
    rintro e w1 ⟨rfl, hb⟩
    have HB1 := Lib.hid (HB0.out.keep hb)
    obtain ⟨z0, z1⟩ := cells2 HB1.out.box
    clear hb u0 u1 CF
    go_wp2_with fail
    go_ret
    exact ⟨Step.ret_str HE.out, HB1.out.bel⟩
  | true =>
    have hfl := (fitD_iff.1 hb).2
    have hn1 := (fitL_len hfl).1
    have hn6 := (fitL_len hfl).2
    simp only at hn1 hn6
    rw [hl] at hn1 hn6
    have zT1 : ¬ (9223372036854775807 < s.size + 1) := by omega
    obtain ⟨J, hJ⟩ : ∃ J, Step.bs (stepsT l) = J := ⟨_, rfl⟩
    have sJ : J.size ≤ 6006 := by
      rw [← hJ]
      have := stepsT_len l
      rw [hl] at this
      show (Step.bs (stepsT l)).size ≤ 6006
      have h2 : (Step.bs (stepsT l)).size = (stepsT l).length := by simp [Step.bs, ByteArray.size]
      omega
    have zT2 : ¬ (9223372036854775807 < s.size + 1 + J.size) := by omega
    have HE : Hid (s ++ ⟨#[32]⟩ ++ J = t) := by
      show _ = _
      rw [← ht, ← hJ]
      unfold textD
      rw [if_pos hb]
      apply Step.str_eq
      rw [Step.data_bs, ByteArray.data_append, ByteArray.data_append, Array.toList_append, Array.toList_append, Step.data_bs]
      simp
    have HX := Lib.hid h
    have HJ := Lib.hid hJ
    have HL := Lib.hid hl
    clear ht h hb hv hfl hJ hl
    go_enter Tryz.func14, Tryz.ntmps14
    go_wp2_with fail
    refine CF.out.mono ?_
    rintro e w1 ⟨rfl, hb⟩
    have HB1 := Lib.hid (HB0.out.keep hb)
    obtain ⟨z0, z1⟩ := cells2 HB1.out.box
    clear hb u0 u1 CF
    go_wp2_with fail
    go_loopw [3, 12] (fun t i wr => ∃ k : Nat, k ≤ n ∧ i = .int .i64 (k : Int) ∧ Hid (wr.ownsRow w1.heap.size 9 1 t k (Rw.cells Rw.strS (words (l.take k)))) ∧ Hid (Bx2 24 w wr (.string s) (.slice a n c)) ∧ Hid (w1.heap.size ≤ wr.heap.size)) (fun _ i _ => n - (intOf i).toNat)
    case atStart => exact ⟨0, Nat.zero_le _, rfl, Lib.hid (World.ownsRow_nil _ _ _ _), HB1, Nat.le_refl _⟩
    case round =>
      obtain ⟨k, hk, rfl, hO, hB, hS⟩ := hrel
      clear z0 z1
      by_cases hlk : k < n
      · obtain ⟨b1, o1, x0, x1, x2, x3, x4, x5, rfl, g1, hp, hc1⟩ := StAt.at HX.out hlk
        obtain ⟨d0, d1, d2, d3, d4, d5⟩ := hc1 wr hB.out.bel
        have hY := at6_new 49 wr (.int .i64 x0) (.int .i64 x1) (.int .i64 x2) (.int .i64 x3) (.int .i64 x4) (.int .i64 x5)
        obtain ⟨y0, y1, y2, y3, y4, y5⟩ := cells6 hY
        obtain ⟨z, hz⟩ : ∃ z, tx ⟨x0, x1, x2, x3, x4, x5⟩ = z := ⟨_, rfl⟩
        have HB2 := Lib.hid (hB.out.alloc (.cells #[.int .i64 x0, .int .i64 x1, .int .i64 x2, .int .i64 x3, .int .i64 x4, .int .i64 x5] 49))
        have CT := Lib.hid (text_is1 x0 x1 x2 x3 x4 x5 z hz (wr.alloc (.cells #[.int .i64 x0, .int .i64 x1, .int .i64 x2, .int .i64 x3, .int .i64 x4, .int .i64 x5] 49)) (HV.out _ HB2.out.bel))
        have HO2 := Lib.hid (Rw.owns_below hO.out ((Below.refl _ wr).alloc (Nat.le_refl _) (.cells #[.int .i64 x0, .int .i64 x1, .int .i64 x2, .int .i64 x3, .int .i64 x4, .int .i64 x5] 49)))
        have HW : Hid (words (l.take (k + 1)) = words (l.take k) ++ [z]) := by show _ = _; rw [words_take hp, hz]
        have hS2 : w1.heap.size ≤ (wr.alloc (.cells #[.int .i64 x0, .int .i64 x1, .int .i64 x2, .int .i64 x3, .int .i64 x4, .int .i64 x5] 49)).heap.size := by rw [World.size_alloc]; have := hS.out; omega
        clear hp hz hc1 hY
        go_wp2_with fail
        refine CT.out.mono ?_
        rintro e w8 ⟨rfl, hb⟩
        have HO8 := Lib.hid (Rw.owns_below HO2.out hb)
        have HB8 := Lib.hid (HB2.out.keep hb)
        have hS8 : w1.heap.size ≤ w8.heap.size := Nat.le_trans hS2 hb.size
        clear hb CT HO2 HB2 hB hS2 d0 d1 d2 d3 d4 d5 y0 y1 y2 y3 y4 y5
        go_wp2_with (first
          | (at_builtin; refine Rw.append_one Rw.strS rfl (.tmp 16) (.tmp 19) rfl w1.heap.size w8 _ rfl z _ rfl _ k (words (l.take k)) rfl HO8.out rfl (by omega) hS8 ?_)
          | fail)
        intro v' w9 hown hgrow
        have HO9 : Hid (w9.ownsRow w1.heap.size 9 1 v' (k + 1) (Rw.cells Rw.strS (words (l.take (k + 1))))) := by
          show World.ownsRow _ _ _ _ _ _ _
          rw [HW.out]
          exact hown
        have hbb : Below w1.heap.size w8 w9 := Rw.below_append (Below.refl w1.heap.size w8) hS8 HO8.out hgrow
        have HB9 : Hid (Bx2 24 w w9 (.string s) (.slice (some ⟨b1, o1, none⟩) n c)) := ⟨HB8.out.bel.trans (hbb.mono (Nat.le_of_lt HB1.out.lt)), HB8.out.box.keepB hbb HB1.out.lt⟩
        have HS9 : Hid (w1.heap.size ≤ w9.heap.size) := Nat.le_trans hS8 hbb.size
        clear hown hgrow hbb HO8 HB8 hO
        go_wp2_with fail
        go_roundw
        case rel => exact ⟨k + 1, by omega, by go_num, HO9, HB9, HS9⟩
        case measure => simp [intOf]; omega
      · obtain rfl : k = n := by omega
        have hO2 := hO.out
        rw [List.take_of_length_le (by rw [HL.out]; exact Nat.le_refl _)] at hO2
        obtain ⟨g, cp, hvs, hlt, CJ0⟩ := join_steps l k J _ HL.out hn1 HJ.out (by omega) wr hO2
        subst hvs
        have CJ := Lib.hid (fun d os => Calls.regrown_of (CJ0 (Sort.grow (redrawn wr d) os) (below_regrown wr d os)))
        clear hO hO2 hlt CJ0
        obtain ⟨q0, q1⟩ := cells2 hB.out.box
        have s0 := fun d os => cell_regrown q0 d os
        have s1 := fun d os => cell_regrown q1 d os
        go_wp2_with fail
        clear q0 q1
        refine wp_region_qw (by kernel_rfl) (by kernel_rfl) ?_
        iterate 7 (refine qw_take (by kernel_rfl) (fun K hK => ?_); go_simp; first | (refine hK _ ?_; clear hK K) | (apply Exists.intro; refine ⟨fun _ => ?_, hK _ ?_⟩; (first | with_reducible exact CJ.out _ _); clear hK K))
        refine qw_nil ?_
        intro _ hw'
        obtain ⟨⟨dq, osq⟩, hw''⟩ := hw'
        subst hw''
        have HB3 := Lib.hid (hB.out.keep (below_regrown wr dq osq))
        clear s0 s1 CJ
        go_wp2_with fail
        go_ret
        exact ⟨Step.ret_str HE.out, HB3.out.bel⟩

end Go.Proofs.YtdpgfnnhbfkacaaGreatDoor.Def

/-
  The contract of the program's Read: any text of up to 300 octets, where the library's variables stand; what was there stays as it was.
-/
set_option linter.unusedVariables false
set_option linter.unusedSimpArgs false
set_option maxRecDepth 4000
namespace Go.Proofs.YtdpgfnnhbfkacaaGreatDoor.Def
open Go.RowKit DefP
open Go.Proofs.YtdpgfnnhbfkacaaGreatDoor.Kt
theorem cut_call (s a b : ByteArray) (ha : cutN s.data.toList = a.data.toList) (hb : cutB s.data.toList = b.data.toList) (w : World) (hs : s.size ≤ 300) (hv : Step.Vars w) :
    Calls Tryz.prog 67 #[.string s, .string ⟨#[32]⟩] w fun e w' => (∃ f, e = .returned (.tuple #[.string a, .string b, .bool f])) ∧ Below w.heap.size w w' := by
  obtain ⟨m, hm⟩ := hv
  refine (Tryz.strings_Cut s ⟨#[32]⟩ m w (by omega) hm).mono ?_
  rintro e w' ⟨he, n, rfl⟩
  refine ⟨?_, below_drewN (Below.refl _ _) _⟩
  rw [show (⟨#[32]⟩ : ByteArray).data.toList = [32] from rfl, StP.cut_lib] at he
  unfold cutN at ha
  unfold cutB at hb
  cases hc : StP.cutAt 32 s.data.toList with
  | none =>
    rw [hc] at he ha hb
    have e1 : s = a := Step.str_eq ha
    have e2 : (⟨#[]⟩ : ByteArray) = b := Step.str_eq hb
    subst e1; subst e2
    refine ⟨false, ?_⟩
    refine he.trans ?_
    show Ending.returned (.tuple #[.string (Step.bs s.data.toList), .string ⟨#[]⟩, .bool false]) = _
    rw [Step.bs_data]
  | some q =>
    obtain ⟨x, y⟩ := q
    rw [hc] at he ha hb
    refine ⟨true, ?_⟩
    rw [he]
    show Ending.returned (.tuple #[.string (Step.bs x), .string (Step.bs y), .bool true]) = _
    rw [show x = a.data.toList from ha, show y = b.data.toList from hb, Step.bs_data, Step.bs_data]
def prt (s : ByteArray) : List ByteArray := Lib.splitB ⟨#[44]⟩ 0 (min 7 (s.size + 1) - 1) s
theorem prt_data (s : ByteArray) : (prt s).map (·.data.toList) = StP.partsF 44 (min 7 (s.data.toList.length + 1) - 1) s.data.toList := by
  unfold prt
  rw [Lib.splitB_data, show (⟨#[44]⟩ : ByteArray).data.toList = [44] from rfl, StP.splitK_parts, Step.size_list]
theorem prt_len (s : ByteArray) : (prt s).length ≤ 7 := by
  have := Lib.splitB_length_le ⟨#[44]⟩ 0 (min 7 (s.size + 1) - 1) s
  unfold prt; omega
theorem prt_size (s : ByteArray) : ∀ x ∈ prt s, x.size ≤ s.size := by
  intro x hx
  rw [Step.size_list, Step.size_list]
  refine StP.partsF_small 44 (min 7 (s.data.toList.length + 1) - 1) _ _ ?_
  rw [← prt_data]; exact List.mem_map.2 ⟨x, hx, rfl⟩
def SplitR (s : ByteArray) (w : World) (e : Ending) (w' : World) : Prop := ∃ cap, e = .returned (.slice (some ⟨w.heap.size, 0, none⟩) (prt s).length cap) ∧ Step.PaAt w' w.heap.size (prt s) ∧ Below w.heap.size w w'
theorem split_call (s : ByteArray) (w : World) (hs : s.size ≤ 300) (hv : Step.Vars w) :
    Calls Tryz.prog 68 #[.string s, .string ⟨#[44]⟩, .int .i64 7] w (SplitR s w) := by
  obtain ⟨m, hm⟩ := hv
  refine (Tryz.strings_SplitN s ⟨#[44]⟩ 7 m w (by omega) hm (by decide) (by omega) (by omega)).mono ?_
  rintro e w' ⟨he, hw⟩
  refine ⟨min 7 (s.size + 1), he, ⟨by rw [hw]; simp, fun i x hx => ?_⟩, by rw [hw]; exact (Below.refl _ _).alloc (Nat.le_refl _) _⟩
  rw [hw]
  have hi : i < (prt s).length := by
    rcases Nat.lt_or_ge i (prt s).length with h | h
    · exact h
    · rw [List.getElem?_eq_none h] at hx; cases hx
  rw [World.cell?_alloc_at _ _ _ _ rfl]
  unfold Lib.cellsOf
  rw [List.getElem?_toArray, List.getElem?_append_left (by rw [List.length_map]; exact hi), List.getElem?_map]
  rw [show (Lib.splitB ⟨#[44]⟩ 0 (min 7 (s.size + 1) - 1) s)[i]? = some x from hx]
  rfl
structure DS (w W : World) (d h base : Nat) (P : List ByteArray) (n : ByteArray) (v : Value) : Prop where
  bel : Below w.heap.size w W
  res : At2 24 W w.heap.size (.string ⟨#[]⟩) (.slice none 0 0)
  box : At2 24 W d (.string n) v
  prt : Step.PaAt W h P
  dlt : w.heap.size < d
  dhb : d < base
  hlt : h < base
  hge : w.heap.size < h
  hne : h ≠ d
  siz : base ≤ W.heap.size
theorem DS.keep {w W W' : World} {d h base : Nat} {P : List ByteArray} {n : ByteArray} {v : Value} (r : DS w W d h base P n v) (hb : Below W.heap.size W W') : DS w W' d h base P n v :=
  ⟨below_keep r.bel hb r.bel.size, r.res.keep hb, r.box.keep hb, r.prt.keep hb, r.dlt, r.dhb, r.hlt, r.hge, r.hne, Nat.le_trans r.siz hb.size⟩
theorem DS.grown {w W W' : World} {d h base : Nat} {P : List ByteArray} {n : ByteArray} {v : Value} (r : DS w W d h base P n v) (hb : Below base W W') : DS w W' d h base P n v :=
  have hd := r.dlt
  have hb2 := r.dhb
  ⟨r.bel.trans (hb.mono (by omega)), r.res.keepB hb (by omega), r.box.keepB hb r.dhb, r.prt.keepH hb.size (hb.block h r.hlt), r.dlt, r.dhb, r.hlt, r.hge, r.hne, Nat.le_trans r.siz hb.size⟩
theorem DS.set {w W : World} {d h base : Nat} {P : List ByteArray} {n : ByteArray} {v : Value} (r : DS w W d h base P n v) (u : Value) : DS w (W.setCell ⟨d, 1, none⟩ u) d h base P n u := by
  have hs : (W.setCell ⟨d, 1, none⟩ u).heap.size = W.heap.size := by simp
  have ho : ∀ k, k ≠ d → (W.setCell ⟨d, 1, none⟩ u).heap[k]? = W.heap[k]? := fun k hk => heap_setCell_other _ _ _ _ (by exact hk)
  have hd := r.dlt
  refine ⟨r.bel.setCell (p := ⟨d, 1, none⟩) (Nat.le_of_lt r.dlt) _, (ho _ (by omega)).trans r.res, ?_, r.prt.keepH (Nat.le_of_eq hs.symm) (ho _ r.hne), r.dlt, r.dhb, r.hlt, r.hge, r.hne, by rw [hs]; exact r.siz⟩
  have h1 := Lib.heap_setCell_same (i := 1) r.box u
  unfold At2
  rw [h1]
  rfl
theorem owns_set {W : World} {d base k : Nat} {v u : Value} {xs : List Value} (h : W.ownsRow base 49 6 v k xs) (hd : d < base) : (W.setCell ⟨d, 1, none⟩ u).ownsRow base 49 6 v k xs := by
  refine Rw.owns_heap h fun g hg => heap_setCell_other _ _ _ _ ?_
  have := (h.lt g hg).1
  show g ≠ d
  omega
theorem ds_new {w W1 W2 : World} {n : ByteArray} {P : List ByteArray} (hb1 : Below (w.alloc (.cells #[.string ⟨#[]⟩, .slice none 0 0] 24)).heap.size (w.alloc (.cells #[.string ⟨#[]⟩, .slice none 0 0] 24)) W1)
    (hp : Step.PaAt W2 (W1.alloc (.cells #[.string n, .slice none 0 0] 24)).heap.size P) (hb2 : Below (W1.alloc (.cells #[.string n, .slice none 0 0] 24)).heap.size (W1.alloc (.cells #[.string n, .slice none 0 0] 24)) W2) :
    DS w W2 W1.heap.size (W1.heap.size + 1) W2.heap.size P n (.slice none 0 0) := by
  have hz : (w.alloc (.cells #[.string ⟨#[]⟩, .slice none 0 0] 24)).heap.size = w.heap.size + 1 := by simp
  have hz2 : (W1.alloc (.cells #[.string n, .slice none 0 0] 24)).heap.size = W1.heap.size + 1 := by simp
  have a0 : At2 24 (w.alloc (.cells #[.string ⟨#[]⟩, .slice none 0 0] 24)) w.heap.size (.string ⟨#[]⟩) (.slice none 0 0) := at2_new 24 w _ _
  have a1 := at2_new 24 W1 (.string n) (.slice none 0 0)
  have hb0 : Below w.heap.size w (w.alloc (.cells #[.string ⟨#[]⟩, .slice none 0 0] 24)) := (Below.refl _ _).alloc (Nat.le_refl _) _
  have h1 := hb1.size
  rw [hz] at h1
  have hs := hb2.size
  rw [hz2] at hs
  have hp0 := hp.1
  rw [hz2] at hp hp0
  have hba : Below w.heap.size w (W1.alloc (.cells #[.string n, .slice none 0 0] 24)) := (below_keep hb0 hb1 hb0.size).alloc (by omega) _
  exact ⟨below_keep hba hb2 (by omega), ((a0.keep hb1).alloc _).keep hb2, a1.keep hb2, hp, by omega, by omega, hp0, by omega, by omega, Nat.le_refl _⟩
theorem read_is1 (s : ByteArray) (x0 x1 x2 x3 x4 x5 : Int) (er : Int) (hx : StP.gotS (StP.readS s.data.toList) = ⟨x0, x1, x2, x3, x4, x5⟩) (he : StP.errS (StP.readS s.data.toList) = er) (hs : s.size ≤ 300) (w : World) (hv : Step.Vars w) :
    Calls Tryz.prog 69 #[.string s] w fun e w' => e = .returned (.tuple #[.agg #[.int .i64 x0, .int .i64 x1, .int .i64 x2, .int .i64 x3, .int .i64 x4, .int .i64 x5], .int .i64 er]) ∧ Below w.heap.size w w' := by
  have h := Step.read_any s w hs hv
  rw [hx, he] at h
  exact h
def DfZ (w : World) (d : Df) (er : Int) (e : Ending) (w' : World) : Prop :=
  ∃ a c, e = .returned (.tuple #[dv d.name a d.steps.length c, .int .i64 er]) ∧ d.steps.length ≤ c ∧ StAt w' a d.steps.length d.steps ∧ (d.steps.length = 0 ∨ ∃ g, a = some ⟨g, 0, none⟩) ∧ Below w.heap.size w w'
theorem DfZ.at {w w' : World} {d : Df} {s : ByteArray} {l : List Step} {n : Nat} {er : Int} {e : Ending} (h : DfZ w d er e w') (hd : d = ⟨s, l⟩) (hn : l.length = n) : ∃ a c, e = .returned (.tuple #[dv s a n c, .int .i64 er]) ∧ n ≤ c ∧ StAt w' a n l ∧ (n = 0 ∨ ∃ g, a = some ⟨g, 0, none⟩) ∧ Below w.heap.size w w' := by
  subst hd; subst hn; exact h
theorem dfZ_of {w w' : World} {d : Df} {s : ByteArray} {l : List Step} {n : Nat} {er : Int} {a : Option Addr} {c : Nat} (hd : d = ⟨s, l⟩) (hn : l.length = n) (hc : n ≤ c) (ha : StAt w' a n l) (h0 : n = 0 ∨ ∃ g, a = some ⟨g, 0, none⟩) (hb : Below w.heap.size w w') : DfZ w d er (.returned (.tuple #[dv s a n c, .int .i64 er])) w' := by
  subst hd; subst hn; exact ⟨a, c, rfl, hc, ha, h0, hb⟩
theorem dfZ_none {w w' : World} {d : Df} {er : Int} (hd : d = df0) (hb : Below w.heap.size w w') : DfZ w d er (.returned (.tuple #[dv ⟨#[]⟩ none 0 0, .int .i64 er])) w' := by
  subst hd; exact ⟨none, 0, rfl, Nat.le_refl _, Rw.At.nil _ _ _, .inl rfl, hb⟩
theorem off0 {W : World} {B n c size : Nat} {e : TypeId} {a : Option Addr} {xs : List Value} (h : W.ownsRow B e size (.slice a n c) n xs) : n = 0 ∨ ∃ g, a = some ⟨g, 0, none⟩ := by
  rcases Rw.owns_form h with ⟨_, h0⟩ | ⟨g, cap, e, _, _⟩
  · exact .inl h0
  · cases e; exact .inr ⟨g, rfl⟩
theorem bs_arr (n : ByteArray) : (⟨n.data.toList.toArray⟩ : ByteArray) = n := Step.bs_data n

set_option maxHeartbeats 8000000 in
theorem read_any (s : ByteArray) (w : World) (hs : s.size ≤ 300) (hv : Step.Vars w) : Calls Tryz.prog 20 #[.string s] w (DfZ w (gotD (readD s.data.toList)) (errD (readD s.data.toList))) := by
  obtain ⟨R, hR⟩ : ∃ R, readD s.data.toList = R := ⟨_, rfl⟩
  rw [hR]
  have hcl := cut_len s.data.toList
  obtain ⟨na, hna⟩ : ∃ na : ByteArray, cutN s.data.toList = na.data.toList := ⟨Step.bs (cutN s.data.toList), (Step.data_bs _).symm⟩
  obtain ⟨rb, hrb⟩ : ∃ rb : ByteArray, cutB s.data.toList = rb.data.toList := ⟨Step.bs (cutB s.data.toList), (Step.data_bs _).symm⟩
  have hns : na.size ≤ 300 := by rw [Step.size_list] at hs ⊢; rw [← hna]; omega
  have hrs : rb.size ≤ 300 := by rw [Step.size_list] at hs ⊢; rw [← hrb]; omega
  have hR2 : R = finD na.data.toList (goL [] (((prt rb).map (·.data.toList)).drop 0)) := by
    rw [List.drop_zero, prt_data, ← hrb, ← hna, prog_read s.data.toList _ rfl, hR]
  have HR := Lib.hid hR2
  have HV := Lib.hid (fun W (hb : Below w.heap.size w W) => hv.keep hb)
  have hb0 : Below w.heap.size w (w.alloc (.cells #[.string ⟨#[]⟩, .slice none 0 0] 24)) := (Below.refl _ _).alloc (Nat.le_refl _) _
  have CC := Lib.hid (cut_call s na rb hna hrb (w.alloc (.cells #[.string ⟨#[]⟩, .slice none 0 0] 24)) hs (hv.keep hb0))
  clear hR hcl hna hrb hR2 hs hv
  go_enter Tryz.func20, Tryz.ntmps20
  go_wp2_with fail
  refine CC.out.mono ?_
  rintro e w1 ⟨⟨f, rfl⟩, hb1⟩
  have hz1 : w.heap.size ≤ w1.heap.size := by have := hb1.size; rw [World.size_alloc] at this; omega
  have hba : Below w.heap.size w (w1.alloc (.cells #[.string na, .slice none 0 0] 24)) := (below_keep hb0 hb1 hb0.size).alloc hz1 _
  have CS := Lib.hid (split_call rb (w1.alloc (.cells #[.string na, .slice none 0 0] 24)) hrs (HV.out _ hba))
  have HB1 := Lib.hid hb1
  clear hb1 hba CC hb0
  go_wp2_with fail
  refine CS.out.mono ?_
  rintro e w3 ⟨cp, rfl, hP, hb2⟩
  have HS := Lib.hid (ds_new HB1.out hP hb2)
  have HPZ := Lib.hid (prt_size rb)
  have hP7 := prt_len rb
  obtain ⟨P, hPr⟩ : ∃ P, prt rb = P := ⟨_, rfl⟩
  rw [hPr] at HS HPZ hP7 HR
  rw [hPr]
  obtain ⟨n, hn⟩ : ∃ n, P.length = n := ⟨_, rfl⟩
  rw [hn] at hP7
  rw [hn]
  have HN := Lib.hid hn
  obtain ⟨d, hd⟩ : ∃ d, w1.heap.size = d := ⟨_, rfl⟩
  rw [World.size_alloc]
  rw [hd] at HS
  rw [hd]
  obtain ⟨h, hh⟩ : ∃ h, d + 1 = h := ⟨_, rfl⟩
  rw [hh] at HS
  rw [hh]
  clear hP hb2 HB1 CS hPr hn hd hh hz1
  go_wp2_with fail
  go_loopw [23] (fun i wr => ∃ (k : Nat) (acc : List Step) (a : Option Addr) (c : Nat), k ≤ n ∧ i = .int .i64 (k : Int) ∧ acc.length = k ∧ Hid (R = finD na.data.toList (goL acc ((P.map (·.data.toList)).drop k))) ∧ Hid (wr.ownsRow w3.heap.size 49 6 (.slice a k c) k (Rw.cells stS acc)) ∧ Hid (DS w wr d h w3.heap.size P na (.slice a k c))) (fun i _ => n - (intOf i).toNat)
  case atStart => exact ⟨0, [], none, 0, Nat.zero_le _, rfl, rfl, HR, Lib.hid (World.ownsRow_nil _ _ _ _), HS⟩
  case round =>
    obtain ⟨k, acc, a, c, hk, rfl, hal, hD, hO, hS⟩ := hrel
    by_cases hlk : k < n
    · obtain ⟨p, hp⟩ : ∃ p, P[k]? = some p := ⟨P[k]'(by rw [HN.out]; exact hlk), List.getElem?_eq_getElem (by rw [HN.out]; exact hlk)⟩
      have d1 := hS.out.prt.2 k p hp
      have hps : p.size ≤ 300 := Nat.le_trans (HPZ.out p (List.mem_of_getElem? hp)) hrs
      have hpm : (P.map (·.data.toList))[k]? = some p.data.toList := by rw [List.getElem?_map, hp]; rfl
      have hvr := HV.out wr hS.out.bel
      cases hr : StP.readS p.data.toList with
      | none =>
        have HNN : Hid (R = none) := hD.out.trans (by rw [goL_no hpm hr]; rfl)
        have CR := Lib.hid (read_is1 p 0 0 0 0 0 0 7 (by rw [hr]; rfl) (by rw [hr]; rfl) hps wr hvr)
        clear hD hr hpm hp hps hvr
        go_wp2_with fail
        refine CR.out.mono ?_
        rintro e w8 ⟨rfl, hb⟩
        have HS8 := Lib.hid ((hS.out.keep hb).keep ((Below.refl w8.heap.size w8).alloc (Nat.le_refl _) (.cells #[.int .i64 0, .int .i64 0, .int .i64 0, .int .i64 0, .int .i64 0, .int .i64 0] 49)))
        clear hb d1 CR
        obtain ⟨e0, e1⟩ := cells2 HS8.out.res
        obtain ⟨f0, f1⟩ := free2 HS8.out.res
        have HRS := Lib.hid (heap_put2 HS8.out.res (.string ⟨#[]⟩) (.slice none 0 0))
        have HBR := Lib.hid (below_put2 HS8.out.bel (Nat.le_refl _) (.string ⟨#[]⟩) (.slice none 0 0))
        go_wp2_with fail
        exact bodyPost_ret (results_df (j := 2) (k := 3) rfl _ _ w.heap.size _ _ rfl HRS.out) rfl (by rw [HNN.out]; exact dfZ_none rfl HBR.out)
      | some x =>
        obtain ⟨x0, x1, x2, x3, x4, x5⟩ := x
        have HD2 : Hid (R = finD na.data.toList (goL (acc ++ [⟨x0, x1, x2, x3, x4, x5⟩]) ((P.map (·.data.toList)).drop (k + 1)))) := hD.out.trans (by rw [goL_go hpm hr])
        have CR := Lib.hid (read_is1 p x0 x1 x2 x3 x4 x5 0 (by rw [hr]; rfl) (by rw [hr]; rfl) hps wr hvr)
        clear hD hr hpm hp hps hvr
        go_wp2_with fail
        refine CR.out.mono ?_
        rintro e w8 ⟨rfl, hb⟩
        have hba := (Below.refl w8.heap.size w8).alloc (Nat.le_refl _) (.cells #[.int .i64 x0, .int .i64 x1, .int .i64 x2, .int .i64 x3, .int .i64 x4, .int .i64 x5] 49)
        have HS8 := Lib.hid (hS.out.keep hb)
        have HO8 := Lib.hid (Rw.owns_below (Rw.owns_below hO.out hb) hba)
        have HS9 := Lib.hid (HS8.out.keep hba)
        have hsz : w3.heap.size ≤ (w8.alloc (.cells #[.int .i64 x0, .int .i64 x1, .int .i64 x2, .int .i64 x3, .int .i64 x4, .int .i64 x5] 49)).heap.size := HS9.out.siz
        have HY := at6_new 49 w8 (.int .i64 x0) (.int .i64 x1) (.int .i64 x2) (.int .i64 x3) (.int .i64 x4) (.int .i64 x5)
        obtain ⟨y0, y1, y2, y3, y4, y5⟩ := cells6 HY
        obtain ⟨g0, g1⟩ := cells2 HS9.out.box
        clear hb d1 CR hba HY HS8 hS hO
        go_wp2_with (first
          | (at_builtin; refine Rw.append_one stS rfl (.tmp 36) (.tmp 38) rfl w3.heap.size (w8.alloc (.cells #[.int .i64 x0, .int .i64 x1, .int .i64 x2, .int .i64 x3, .int .i64 x4, .int .i64 x5] 49)) _ (World.size_alloc _ _) ⟨x0, x1, x2, x3, x4, x5⟩ _ rfl (.slice a k c) k acc rfl HO8.out rfl (by omega) hsz ?_)
          | fail)
        intro v' w9 hown hgrow
        obtain ⟨a9, c9, rfl, hc9⟩ := Rw.owns_slice hown
        have hbb : Below w3.heap.size (w8.alloc (.cells #[.int .i64 x0, .int .i64 x1, .int .i64 x2, .int .i64 x3, .int .i64 x4, .int .i64 x5] 49)) w9 := Rw.below_append (Below.refl _ _) hsz HO8.out hgrow
        have HSA := Lib.hid (HS9.out.grown hbb)
        have HSB := Lib.hid (HSA.out.set (.slice a9 (k + 1) c9))
        have HOB := Lib.hid (owns_set (u := .slice a9 (k + 1) c9) hown HSA.out.dhb)
        obtain ⟨g0, g1⟩ := cells2 HSA.out.box
        obtain ⟨f0, f1⟩ := free2 HSA.out.box
        clear hown hgrow hbb HO8 HS9 y0 y1 y2 y3 y4 y5
        go_wp2_with fail
        go_roundw
        case rel => exact ⟨k + 1, acc ++ [⟨x0, x1, x2, x3, x4, x5⟩], a9, c9, by omega, by go_num, by rw [List.length_append, hal]; rfl, HD2, HOB, HSB⟩
        case measure => simp [intOf]; omega
    · obtain rfl : k = n := by omega
      have hD2 : R = finD na.data.toList (some acc) := hD.out.trans (by rw [goL_end (by rw [List.length_map, HN.out]; exact Nat.le_refl _)])
      have hat : StAt wr a k acc := Rw.own_at (S := stS) hO.out hal (by omega)
      obtain ⟨v, hv⟩ : ∃ v, fitD ⟨na, acc⟩ = v := ⟨_, rfl⟩
      have CF := Lib.hid (fit_is na a k c acc v hv wr hat (by omega) (by omega))
      have hac := Rw.owns_room hO.out
      obtain ⟨g0, g1⟩ := cells2 hS.out.box
      cases v with
      | false =>
        have HNN : Hid (R = none) := hD2.trans (fin_no (by rw [bs_arr]; exact hv))
        clear hD hD2 hat hv
        go_wp2_with fail
        refine CF.out.mono ?_
        rintro e w8 ⟨rfl, hb⟩
        have HS8 := Lib.hid (hS.out.keep hb)
        clear hb g0 g1
        obtain ⟨e0, e1⟩ := cells2 HS8.out.res
        obtain ⟨f0, f1⟩ := free2 HS8.out.res
        have HRS := Lib.hid (heap_put2 HS8.out.res (.string ⟨#[]⟩) (.slice none 0 0))
        have HBR := Lib.hid (below_put2 HS8.out.bel (Nat.le_refl _) (.string ⟨#[]⟩) (.slice none 0 0))
        go_wp2_with fail
        exact bodyPost_ret (results_df (j := 2) (k := 3) rfl _ _ w.heap.size _ _ rfl HRS.out) rfl (by rw [HNN.out]; exact dfZ_none rfl HBR.out)
      | true =>
        have HYY : Hid (R = some ⟨na, acc⟩) := hD2.trans (by rw [fin_yes (by rw [bs_arr]; exact hv), bs_arr])
        clear hD hD2 hv hat
        go_wp2_with fail
        refine CF.out.mono ?_
        rintro e w8 ⟨rfl, hb⟩
        have HS8 := Lib.hid (hS.out.keep hb)
        have HO8 := Lib.hid (Rw.owns_below hO.out hb)
        clear hb g0 g1
        obtain ⟨g0, g1⟩ := cells2 HS8.out.box
        obtain ⟨e0, e1⟩ := cells2 HS8.out.res
        obtain ⟨f0, f1⟩ := free2 HS8.out.res
        have HRS := Lib.hid (heap_put2 HS8.out.res (.string na) (.slice a k c))
        have HBR := Lib.hid (below_put2 HS8.out.bel (Nat.le_refl _) (.string na) (.slice a k c))
        have HAT : Hid (StAt (put2 w8 w.heap.size (.string na) (.slice a k c)) a k acc) := Rw.own_at (S := stS) (Rw.owns_heap HO8.out fun g hg => put2_other _ _ (by have := (HO8.out.lt g hg).1; have h1 := HS8.out.dlt; have h2 := HS8.out.dhb; omega)) hal (by omega)
        go_wp2_with fail
        exact bodyPost_ret (results_df (j := 2) (k := 3) rfl _ _ w.heap.size _ _ rfl HRS.out) rfl (by rw [HYY.out]; exact dfZ_of rfl hal hac HAT.out (off0 hO.out) HBR.out)
theorem read_is (s : ByteArray) (na : ByteArray) (l : List Step) (n : Nat) (er : Int) (hd : gotD (readD s.data.toList) = ⟨na, l⟩) (he : errD (readD s.data.toList) = er) (hl : l.length = n) (w : World) (hs : s.size ≤ 300) (hv : Step.Vars w) :
    Calls Tryz.prog 20 #[.string s] w fun e w' => ∃ a c, e = .returned (.tuple #[dv na a n c, .int .i64 er]) ∧ n ≤ c ∧ StAt w' a n l ∧ (n = 0 ∨ ∃ g, a = some ⟨g, 0, none⟩) ∧ Below w.heap.size w w' := by
  refine (read_any s w hs hv).mono ?_
  intro e w' h
  rw [he] at h
  exact h.at hd hl
end Go.Proofs.YtdpgfnnhbfkacaaGreatDoor.Def

/-
  The contracts of the program's Built and of the laws' awake; what was there stays as it was.
-/
set_option linter.unusedVariables false
set_option linter.unusedSimpArgs false
set_option maxRecDepth 4000
namespace Go.Proofs.YtdpgfnnhbfkacaaGreatDoor.Def
open Go.RowKit DefP
open Go.Proofs.YtdpgfnnhbfkacaaGreatDoor.Kt
structure DV where
  name : ByteArray
  a : Option Addr
  n : Nat
  c : Nat
def dcell (t : DV) : List Value := [.string t.name, .slice t.a t.n t.c]
def dvS : Rw.Sh DV where
  c := dcell
  z := ⟨⟨#[]⟩, none, 0, 0⟩
  zv := .agg #[.string ⟨#[]⟩, .slice none 0 0]
  ts := 45
  te := 24
  k := 2
  bytes := 40
  pos := by decide
  small := by decide
  len := fun t => rfl
  one := fun t u hu => by
    simp only [dcell, List.mem_cons, List.mem_nil_iff, or_false] at hu
    rcases hu with rfl | rfl <;> rfl
  zcells := rfl
  und := Tryz.underlying45
  info := by kernel_rfl
structure Tells (w : World) (x : DV) (d : Df) : Prop where
  nm : x.name = d.name
  ln : x.n = d.steps.length
  room : x.n ≤ x.c
  at_ : StAt w x.a x.n d.steps
  off : ∃ g, x.a = some ⟨g, 0, none⟩
theorem Tells.keep {w w' : World} {x : DV} {d : Df} (h : Tells w x d) (hb : Below w.heap.size w w') : Tells w' x d := ⟨h.nm, h.ln, h.room, h.at_.keep hb, h.off⟩
theorem Tells.pos {w : World} {x : DV} {d : Df} (h : Tells w x d) (hd : 1 ≤ d.steps.length) {g : Nat} (hg : x.a = some ⟨g, 0, none⟩) : g < w.heap.size ∧ ∃ q, w.cell? ⟨g, 0, none⟩ = some (.int .i64 q) := by
  have hn : 0 < x.n := by rw [h.ln]; omega
  obtain ⟨b, off, x0, x1, x2, x3, x4, x5, e, hlt, _, hc⟩ := StAt.at h.at_ hn
  rw [hg] at e
  cases e
  have := (hc w (Below.refl _ w)).1
  rw [Nat.zero_mul, Nat.zero_add] at this
  exact ⟨hlt, _, this⟩
theorem Tells.grown {w w' : World} {x : DV} {d : Df} {r : Option Nat} (h : Tells w x d) (hd : 1 ≤ d.steps.length) (hg : w.grownBy w' r) (hr : ∀ g, r = some g → ∃ z, w.cell? ⟨g, 0, none⟩ = some (.string z)) : Tells w' x d := by
  obtain ⟨g, e⟩ := h.off
  obtain ⟨hlt, q, hq⟩ := h.pos hd e
  have hne : r ≠ some g := fun er => by
    obtain ⟨z, hz⟩ := hr g er
    rw [hz] at hq; cases hq
  have hblk : w'.heap[g]? = w.heap[g]? := hg.block g hlt (fun e => hne e.symm)
  refine ⟨h.nm, h.ln, h.room, ⟨h.at_.1, h.at_.2.1, ?_⟩, h.off⟩
  rcases h.at_.2.2 with h0 | ⟨b, off, e2, hlt2, hc⟩
  · exact .inl h0
  · rw [e] at e2
    cases e2
    exact .inr ⟨g, 0, e, Nat.lt_of_lt_of_le hlt hg.size, fun j u hu => (World.cell?_of_block (a := ⟨g, 0 + j, none⟩) hblk).trans (hc j u hu)⟩
def builtD : List Df := [⟨fulfilB, fulfilS⟩, ⟨pickupB, pickupS⟩, ⟨prepaidB, prepaidS⟩]
def builtT : List ByteArray := [⟨#[102, 117, 108, 102, 105, 108, 32, 104, 111, 108, 100, 47, 115, 111, 102, 116, 47, 48, 47, 49, 47, 49, 47, 52, 48, 44, 97, 117, 116, 104, 47, 115, 111, 102, 116, 47, 51, 47, 49, 47, 56, 47, 51, 48, 44, 107, 101, 101, 112, 47, 115, 111, 102, 116, 47, 48, 47, 49, 47, 49, 47, 48, 44, 98, 111, 111, 107, 47, 112, 105, 118, 111, 116, 47, 51, 47, 49, 47, 56, 47, 48, 44, 115, 101, 110, 100, 47, 102, 105, 114, 109, 47, 48, 47, 49, 47, 49, 47, 48, 44, 116, 97, 107, 101, 47, 102, 105, 114, 109, 47, 53, 47, 49, 47, 56, 47, 48]⟩, ⟨#[112, 105, 99, 107, 117, 112, 32, 104, 111, 108, 100, 47, 115, 111, 102, 116, 47, 48, 47, 49, 47, 49, 47, 50, 48, 44, 97, 117, 116, 104, 47, 115, 111, 102, 116, 47, 50, 47, 49, 47, 52, 47, 50, 48, 44, 107, 101, 101, 112, 47, 115, 111, 102, 116, 47, 48, 47, 49, 47, 49, 47, 48, 44, 116, 97, 107, 101, 47, 112, 105, 118, 111, 116, 47, 50, 47, 49, 47, 52, 47, 48, 44, 115, 101, 110, 100, 47, 102, 105, 114, 109, 47, 48, 47, 49, 47, 49, 47, 48]⟩, ⟨#[112, 114, 101, 112, 97, 105, 100, 32, 97, 117, 116, 104, 47, 115, 111, 102, 116, 47, 51, 47, 50, 47, 56, 47, 48, 44, 116, 97, 107, 101, 47, 115, 111, 102, 116, 47, 51, 47, 50, 47, 56, 47, 48, 44, 98, 111, 111, 107, 47, 115, 111, 102, 116, 47, 51, 47, 49, 47, 52, 47, 53, 48]⟩]
theorem built_read (k : Nat) (hk : k < 3) : ∃ s d, builtT[k]? = some s ∧ builtD[k]? = some d ∧ readD s.data.toList = some d ∧ s.size ≤ 300 ∧ 1 ≤ d.steps.length := by
  match k, hk with
  | 0, _ => exact ⟨_, _, rfl, rfl, fulfil_read, by decide, by decide⟩
  | 1, _ => exact ⟨_, _, rfl, rfl, pickup_read, by decide, by decide⟩
  | 2, _ => exact ⟨_, _, rfl, rfl, prepaid_read, by decide, by decide⟩
structure BuiltAt (w : World) (g : Nat) (x0 x1 x2 : DV) : Prop where
  lt : g < w.heap.size
  cells : ∀ j u, (Rw.cells dvS [x0, x1, x2])[j]? = some u → w.cell? ⟨g, j, none⟩ = some u
  t0 : Tells w x0 ⟨fulfilB, fulfilS⟩
  t1 : Tells w x1 ⟨pickupB, pickupS⟩
  t2 : Tells w x2 ⟨prepaidB, prepaidS⟩
theorem BuiltAt.keep {w w' : World} {g : Nat} {x0 x1 x2 : DV} (h : BuiltAt w g x0 x1 x2) (hb : Below w.heap.size w w') : BuiltAt w' g x0 x1 x2 :=
  ⟨Nat.lt_of_lt_of_le h.lt hb.size, fun j u hu => (hb.cell (p := ⟨g, j, none⟩) h.lt).trans (h.cells j u hu), h.t0.keep hb, h.t1.keep hb, h.t2.keep hb⟩
theorem BuiltAt.told {w : World} {g : Nat} {x0 x1 x2 : DV} (h : BuiltAt w g x0 x1 x2) : ∃ a0 c0 a1 c1 a2 c2, x0 = ⟨fulfilB, a0, 6, c0⟩ ∧ x1 = ⟨pickupB, a1, 5, c1⟩ ∧ x2 = ⟨prepaidB, a2, 3, c2⟩ := by
  obtain ⟨n0, a0, m0, c0⟩ := x0
  obtain ⟨n1, a1, m1, c1⟩ := x1
  obtain ⟨n2, a2, m2, c2⟩ := x2
  obtain rfl : n0 = fulfilB := h.t0.nm
  obtain rfl : m0 = 6 := h.t0.ln
  obtain rfl : n1 = pickupB := h.t1.nm
  obtain rfl : m1 = 5 := h.t1.ln
  obtain rfl : n2 = prepaidB := h.t2.nm
  obtain rfl : m2 = 3 := h.t2.ln
  exact ⟨a0, c0, a1, c1, a2, c2, rfl, rfl, rfl⟩
def BuiltR (w : World) (e : Ending) (w' : World) : Prop := ∃ g c x0 x1 x2, e = .returned (.slice (some ⟨g, 0, none⟩) 3 c) ∧ 3 ≤ c ∧ BuiltAt w' g x0 x1 x2 ∧ Below w.heap.size w w'

set_option maxHeartbeats 8000000 in
theorem built_any (w : World) (hv : Step.Vars w) : Calls Tryz.prog 29 #[] w (BuiltR w) := by
  have hb1 : Below w.heap.size w (w.alloc (.cells #[.string ⟨#[102, 117, 108, 102, 105, 108, 32, 104, 111, 108, 100, 47, 115, 111, 102, 116, 47, 48, 47, 49, 47, 49, 47, 52, 48, 44, 97, 117, 116, 104, 47, 115, 111, 102, 116, 47, 51, 47, 49, 47, 56, 47, 51, 48, 44, 107, 101, 101, 112, 47, 115, 111, 102, 116, 47, 48, 47, 49, 47, 49, 47, 48, 44, 98, 111, 111, 107, 47, 112, 105, 118, 111, 116, 47, 51, 47, 49, 47, 56, 47, 48, 44, 115, 101, 110, 100, 47, 102, 105, 114, 109, 47, 48, 47, 49, 47, 49, 47, 48, 44, 116, 97, 107, 101, 47, 102, 105, 114, 109, 47, 53, 47, 49, 47, 56, 47, 48]⟩, .string ⟨#[112, 105, 99, 107, 117, 112, 32, 104, 111, 108, 100, 47, 115, 111, 102, 116, 47, 48, 47, 49, 47, 49, 47, 50, 48, 44, 97, 117, 116, 104, 47, 115, 111, 102, 116, 47, 50, 47, 49, 47, 52, 47, 50, 48, 44, 107, 101, 101, 112, 47, 115, 111, 102, 116, 47, 48, 47, 49, 47, 49, 47, 48, 44, 116, 97, 107, 101, 47, 112, 105, 118, 111, 116, 47, 50, 47, 49, 47, 52, 47, 48, 44, 115, 101, 110, 100, 47, 102, 105, 114, 109, 47, 48, 47, 49, 47, 49, 47, 48]⟩, .string ⟨#[112, 114, 101, 112, 97, 105, 100, 32, 97, 117, 116, 104, 47, 115, 111, 102, 116, 47, 51, 47, 50, 47, 56, 47, 48, 44, 116, 97, 107, 101, 47, 115, 111, 102, 116, 47, 51, 47, 50, 47, 56, 47, 48, 44, 98, 111, 111, 107, 47, 115, 111, 102, 116, 47, 51, 47, 49, 47, 52, 47, 53, 48]⟩] 9)) := (Below.refl _ _).alloc (Nat.le_refl _) _
  have ht1 : ∀ j s, builtT[j]? = some s → (w.alloc (.cells #[.string ⟨#[102, 117, 108, 102, 105, 108, 32, 104, 111, 108, 100, 47, 115, 111, 102, 116, 47, 48, 47, 49, 47, 49, 47, 52, 48, 44, 97, 117, 116, 104, 47, 115, 111, 102, 116, 47, 51, 47, 49, 47, 56, 47, 51, 48, 44, 107, 101, 101, 112, 47, 115, 111, 102, 116, 47, 48, 47, 49, 47, 49, 47, 48, 44, 98, 111, 111, 107, 47, 112, 105, 118, 111, 116, 47, 51, 47, 49, 47, 56, 47, 48, 44, 115, 101, 110, 100, 47, 102, 105, 114, 109, 47, 48, 47, 49, 47, 49, 47, 48, 44, 116, 97, 107, 101, 47, 102, 105, 114, 109, 47, 53, 47, 49, 47, 56, 47, 48]⟩, .string ⟨#[112, 105, 99, 107, 117, 112, 32, 104, 111, 108, 100, 47, 115, 111, 102, 116, 47, 48, 47, 49, 47, 49, 47, 50, 48, 44, 97, 117, 116, 104, 47, 115, 111, 102, 116, 47, 50, 47, 49, 47, 52, 47, 50, 48, 44, 107, 101, 101, 112, 47, 115, 111, 102, 116, 47, 48, 47, 49, 47, 49, 47, 48, 44, 116, 97, 107, 101, 47, 112, 105, 118, 111, 116, 47, 50, 47, 49, 47, 52, 47, 48, 44, 115, 101, 110, 100, 47, 102, 105, 114, 109, 47, 48, 47, 49, 47, 49, 47, 48]⟩, .string ⟨#[112, 114, 101, 112, 97, 105, 100, 32, 97, 117, 116, 104, 47, 115, 111, 102, 116, 47, 51, 47, 50, 47, 56, 47, 48, 44, 116, 97, 107, 101, 47, 115, 111, 102, 116, 47, 51, 47, 50, 47, 56, 47, 48, 44, 98, 111, 111, 107, 47, 115, 111, 102, 116, 47, 51, 47, 49, 47, 52, 47, 53, 48]⟩] 9)).cell? ⟨w.heap.size, j, none⟩ = some (.string s) := by
    intro j s hs
    rw [World.cell?_alloc_new]
    match j with
    | 0 => cases hs; rfl
    | 1 => cases hs; rfl
    | 2 => cases hs; rfl
    | j + 3 => exact absurd hs (by simp [builtT])
  have hlt : w.heap.size < (w.alloc (.cells #[.string ⟨#[102, 117, 108, 102, 105, 108, 32, 104, 111, 108, 100, 47, 115, 111, 102, 116, 47, 48, 47, 49, 47, 49, 47, 52, 48, 44, 97, 117, 116, 104, 47, 115, 111, 102, 116, 47, 51, 47, 49, 47, 56, 47, 51, 48, 44, 107, 101, 101, 112, 47, 115, 111, 102, 116, 47, 48, 47, 49, 47, 49, 47, 48, 44, 98, 111, 111, 107, 47, 112, 105, 118, 111, 116, 47, 51, 47, 49, 47, 56, 47, 48, 44, 115, 101, 110, 100, 47, 102, 105, 114, 109, 47, 48, 47, 49, 47, 49, 47, 48, 44, 116, 97, 107, 101, 47, 102, 105, 114, 109, 47, 53, 47, 49, 47, 56, 47, 48]⟩, .string ⟨#[112, 105, 99, 107, 117, 112, 32, 104, 111, 108, 100, 47, 115, 111, 102, 116, 47, 48, 47, 49, 47, 49, 47, 50, 48, 44, 97, 117, 116, 104, 47, 115, 111, 102, 116, 47, 50, 47, 49, 47, 52, 47, 50, 48, 44, 107, 101, 101, 112, 47, 115, 111, 102, 116, 47, 48, 47, 49, 47, 49, 47, 48, 44, 116, 97, 107, 101, 47, 112, 105, 118, 111, 116, 47, 50, 47, 49, 47, 52, 47, 48, 44, 115, 101, 110, 100, 47, 102, 105, 114, 109, 47, 48, 47, 49, 47, 49, 47, 48]⟩, .string ⟨#[112, 114, 101, 112, 97, 105, 100, 32, 97, 117, 116, 104, 47, 115, 111, 102, 116, 47, 51, 47, 50, 47, 56, 47, 48, 44, 116, 97, 107, 101, 47, 115, 111, 102, 116, 47, 51, 47, 50, 47, 56, 47, 48, 44, 98, 111, 111, 107, 47, 115, 111, 102, 116, 47, 51, 47, 49, 47, 52, 47, 53, 48]⟩] 9)).heap.size := by rw [World.size_alloc]; omega
  obtain ⟨w1, hw1⟩ : ∃ w1, w.alloc (.cells #[.string ⟨#[102, 117, 108, 102, 105, 108, 32, 104, 111, 108, 100, 47, 115, 111, 102, 116, 47, 48, 47, 49, 47, 49, 47, 52, 48, 44, 97, 117, 116, 104, 47, 115, 111, 102, 116, 47, 51, 47, 49, 47, 56, 47, 51, 48, 44, 107, 101, 101, 112, 47, 115, 111, 102, 116, 47, 48, 47, 49, 47, 49, 47, 48, 44, 98, 111, 111, 107, 47, 112, 105, 118, 111, 116, 47, 51, 47, 49, 47, 56, 47, 48, 44, 115, 101, 110, 100, 47, 102, 105, 114, 109, 47, 48, 47, 49, 47, 49, 47, 48, 44, 116, 97, 107, 101, 47, 102, 105, 114, 109, 47, 53, 47, 49, 47, 56, 47, 48]⟩, .string ⟨#[112, 105, 99, 107, 117, 112, 32, 104, 111, 108, 100, 47, 115, 111, 102, 116, 47, 48, 47, 49, 47, 49, 47, 50, 48, 44, 97, 117, 116, 104, 47, 115, 111, 102, 116, 47, 50, 47, 49, 47, 52, 47, 50, 48, 44, 107, 101, 101, 112, 47, 115, 111, 102, 116, 47, 48, 47, 49, 47, 49, 47, 48, 44, 116, 97, 107, 101, 47, 112, 105, 118, 111, 116, 47, 50, 47, 49, 47, 52, 47, 48, 44, 115, 101, 110, 100, 47, 102, 105, 114, 109, 47, 48, 47, 49, 47, 49, 47, 48]⟩, .string ⟨#[112, 114, 101, 112, 97, 105, 100, 32, 97, 117, 116, 104, 47, 115, 111, 102, 116, 47, 51, 47, 50, 47, 56, 47, 48, 44, 116, 97, 107, 101, 47, 115, 111, 102, 116, 47, 51, 47, 50, 47, 56, 47, 48, 44, 98, 111, 111, 107, 47, 115, 111, 102, 116, 47, 51, 47, 49, 47, 52, 47, 53, 48]⟩] 9) = w1 := ⟨_, rfl⟩
  rw [hw1] at hb1 ht1 hlt
  have HW := Lib.hid hw1
  have HB1 := Lib.hid hb1; have HT1 := Lib.hid ht1; have HLT := Lib.hid hlt
  have HV := Lib.hid (fun W (hb : Below w.heap.size w W) => hv.keep hb)
  clear hw1 hb1 ht1 hlt hv
  go_enter Tryz.func29, Tryz.ntmps29
  go_wp2_with fail
  rw [show w.alloc (.cells #[.string ⟨#[102, 117, 108, 102, 105, 108, 32, 104, 111, 108, 100, 47, 115, 111, 102, 116, 47, 48, 47, 49, 47, 49, 47, 52, 48, 44, 97, 117, 116, 104, 47, 115, 111, 102, 116, 47, 51, 47, 49, 47, 56, 47, 51, 48, 44, 107, 101, 101, 112, 47, 115, 111, 102, 116, 47, 48, 47, 49, 47, 49, 47, 48, 44, 98, 111, 111, 107, 47, 112, 105, 118, 111, 116, 47, 51, 47, 49, 47, 56, 47, 48, 44, 115, 101, 110, 100, 47, 102, 105, 114, 109, 47, 48, 47, 49, 47, 49, 47, 48, 44, 116, 97, 107, 101, 47, 102, 105, 114, 109, 47, 53, 47, 49, 47, 56, 47, 48]⟩, .string ⟨#[112, 105, 99, 107, 117, 112, 32, 104, 111, 108, 100, 47, 115, 111, 102, 116, 47, 48, 47, 49, 47, 49, 47, 50, 48, 44, 97, 117, 116, 104, 47, 115, 111, 102, 116, 47, 50, 47, 49, 47, 52, 47, 50, 48, 44, 107, 101, 101, 112, 47, 115, 111, 102, 116, 47, 48, 47, 49, 47, 49, 47, 48, 44, 116, 97, 107, 101, 47, 112, 105, 118, 111, 116, 47, 50, 47, 49, 47, 52, 47, 48, 44, 115, 101, 110, 100, 47, 102, 105, 114, 109, 47, 48, 47, 49, 47, 49, 47, 48]⟩, .string ⟨#[112, 114, 101, 112, 97, 105, 100, 32, 97, 117, 116, 104, 47, 115, 111, 102, 116, 47, 51, 47, 50, 47, 56, 47, 48, 44, 116, 97, 107, 101, 47, 115, 111, 102, 116, 47, 51, 47, 50, 47, 56, 47, 48, 44, 98, 111, 111, 107, 47, 115, 111, 102, 116, 47, 51, 47, 49, 47, 52, 47, 53, 48]⟩] 9) = w1 from HW.out]
  clear HW
  go_loopw [1, 8] (fun v i wr => ∃ (k : Nat) (xs : List DV), k ≤ 3 ∧ i = .int .i64 (k : Int) ∧ xs.length = k ∧ (k = 0 → v = .slice none 0 0) ∧ Hid (wr.ownsRow w1.heap.size 24 2 v k (Rw.cells dvS xs)) ∧ Hid (∀ (j : Nat) x d, xs[j]? = some x → builtD[j]? = some d → Tells wr x d) ∧ Hid (Below w1.heap.size w1 wr)) (fun _ i _ => 3 - (intOf i).toNat)
  case atStart => exact ⟨0, [], by omega, rfl, rfl, fun _ => rfl, Lib.hid (World.ownsRow_nil _ _ _ _), Lib.hid (fun j x d hx _ => by simp at hx), Lib.hid (Below.refl _ w1)⟩
  case round =>
    obtain ⟨k, xs, hk, rfl, hxl, hv0, hO, hTl, hB⟩ := hrel
    by_cases hlk : k < 3
    · have hki : (k : Int) < 3 := by omega
      obtain ⟨s, d, hs, hd, hrd, hs3, hd1⟩ := built_read k hlk
      have q1 := (hB.out.cell (p := ⟨w.heap.size, k, none⟩) HLT.out).trans (HT1.out k s hs)
      have hbw := below_keep HB1.out hB.out HB1.out.size
      obtain ⟨na, l⟩ := d
      obtain ⟨m, hm⟩ : ∃ m, l.length = m := ⟨_, rfl⟩
      have CR := Lib.hid (read_is s na l m 0 (by rw [hrd]; rfl) (by rw [hrd]; rfl) hm wr hs3 (HV.out wr hbw))
      have HD := Lib.hid hd
      clear hs hd hrd hs3 hbw
      go_wp2_with fail
      refine CR.out.mono ?_
      rintro e w8 ⟨a, c, rfl, hc, hat, hof, hb⟩
      have HO8 := Lib.hid (Rw.owns_below (Rw.owns_below hO.out hb) ((Below.refl w8.heap.size w8).alloc (Nat.le_refl _) (.cells #[.string na, .slice a m c] 24)))
      have hba := (Below.refl w8.heap.size w8).alloc (Nat.le_refl _) (.cells #[.string na, .slice a m c] 24)
      have hx8 : Tells w8 ⟨na, a, m, c⟩ ⟨na, l⟩ := ⟨rfl, hm.symm, hc, hat, by rcases hof with h0 | h0; (exact absurd h0 (by have : 1 ≤ l.length := hd1; omega)); exact h0⟩
      have HX := Lib.hid (hx8.keep hba)
      have HTK := Lib.hid (fun (j : Nat) x d hx hd => ((hTl.out j x d hx hd).keep hb).keep hba)
      have HB8 := Lib.hid ((below_keep hB.out hb hB.out.size).alloc (below_keep hB.out hb hB.out.size).size (.cells #[.string na, .slice a m c] 24))
      have hy := at2_new 24 w8 (.string na) (.slice a m c)
      obtain ⟨y0, y1⟩ := cells2 hy
      clear hb hba hx8 hat hof hc hO hTl hB CR hy q1
      go_wp2_with (first
        | (at_builtin; refine Rw.append_one dvS rfl (.tmp 17) (.tmp 19) rfl w1.heap.size (w8.alloc (.cells #[.string na, .slice a m c] 24)) _ (World.size_alloc _ _) ⟨na, a, m, c⟩ _ rfl _ k xs rfl HO8.out rfl (by omega) HB8.out.size ?_)
        | fail)
      intro v' w9 hown hgrow
      have hbb := Rw.below_append HB8.out HB8.out.size HO8.out hgrow
      have hgg : ∀ (x : DV) (d : Df), 1 ≤ d.steps.length → Tells (w8.alloc (.cells #[.string na, .slice a m c] 24)) x d → Tells w9 x d := by
        intro x d hd h
        refine (h.keep ((Below.refl _ _).alloc (Nat.le_refl _) _)).grown hd hgrow fun g hg => ?_
        have hkp : 0 < k := by
          rcases Nat.eq_zero_or_pos k with h0 | h0
          · rw [hv0 h0] at hg; cases hg
          · exact h0
        obtain ⟨x0, hx0⟩ : ∃ x0, xs[0]? = some x0 := ⟨xs[0]'(by omega), List.getElem?_eq_getElem (by omega)⟩
        have hc0 := fun o => Rw.owns_cell (Rw.owns_below HO8.out ((Below.refl _ _).alloc (Nat.le_refl _) o)) hg (Rw.cells_get dvS xs 0 x0 hx0 0 (.string x0.name) rfl)
        simp only [Nat.zero_mul, Nat.zero_add] at hc0
        exact ⟨_, hc0 _⟩
      have HO9 : Hid (w9.ownsRow w1.heap.size 24 2 v' (k + 1) (Rw.cells dvS (xs ++ [⟨na, a, m, c⟩]))) := hown
      have HB9 := Lib.hid hbb
      have HT9 : Hid (∀ (j : Nat) x d, (xs ++ [⟨na, a, m, c⟩])[j]? = some x → builtD[j]? = some d → Tells w9 x d) := by
        intro j x d hx hdj
        have hd1' : 1 ≤ d.steps.length := by
          have hj3 : j < 3 := (List.getElem?_eq_some_iff.1 hdj).1
          obtain ⟨_, d', _, hd', _, _, hl'⟩ := built_read j hj3
          rw [hd'] at hdj; cases hdj; exact hl'
        rcases Nat.lt_or_ge j xs.length with hj | hj
        · rw [List.getElem?_append_left hj] at hx
          exact hgg x d hd1' (HTK.out j x d hx hdj)
        · rw [List.getElem?_append_right hj] at hx
          have hj0 : j - xs.length = 0 := by have := (List.getElem?_eq_some_iff.1 hx).1; simp at this; omega
          rw [hj0] at hx
          have hjk : j = k := by omega
          subst hjk
          rw [HD.out] at hdj
          cases hdj
          simp at hx
          subst hx
          exact hgg _ _ hd1 HX.out
      clear hown hgrow hbb hgg HO8 HTK HB8 HX hv0 y0 y1
      go_wp2_with fail
      go_roundw
      case rel => exact ⟨k + 1, xs ++ [⟨na, a, m, c⟩], by omega, by go_num, by rw [List.length_append, hxl]; rfl, fun h => absurd h (Nat.succ_ne_zero k), HO9, HT9, HB9⟩
      case measure => simp [intOf]; omega
    · obtain rfl : k = 3 := by omega
      rcases Rw.owns_form hO.out with ⟨_, h0⟩ | ⟨g, c, rfl, _, hlt⟩
      · exact absurd h0 (by omega)
      match xs, hxl with
      | [x0, x1, x2], _ =>
        have HE : Hid (BuiltR w (.returned (.slice (some ⟨g, 0, none⟩) 3 c)) wr) := ⟨g, c, x0, x1, x2, rfl, Rw.owns_room hO.out, ⟨hlt, fun j u hu => Rw.owns_cell hO.out rfl hu, hTl.out 0 _ _ rfl rfl, hTl.out 1 _ _ rfl rfl, hTl.out 2 _ _ rfl rfl⟩, below_keep HB1.out hB.out HB1.out.size⟩
        clear hlt hO hTl hv0
        have h33 : ¬ ((3 : Int) < 3) := by omega
        rw [show (((3 : Nat)) : Int) = 3 from rfl]
        go_wp2_with fail
        go_ret
        exact HE.out

theorem text_x : readD (⟨#[120, 32, 107, 101, 101, 112, 47, 115, 111, 102, 116, 47, 48, 47, 49, 47, 49, 47, 48]⟩ : ByteArray).data.toList = none := keep_alone
set_option maxHeartbeats 8000000 in
theorem awake_any (w : World) (hv : Step.Vars w) : Calls Tryz.prog 7 #[] w fun e w' => e = .returned (.bool true) ∧ Below w.heap.size w w' := by
  have HV := Lib.hid (fun W (hb : Below w.heap.size w W) => hv.keep hb)
  have C0 := Lib.hid (built_any w hv)
  clear hv
  go_enter Tryz.func7, Tryz.ntmps7
  go_wp2_with fail
  refine C0.out.mono ?_
  rintro e w1 ⟨g, cp, x0, x1, x2, rfl, _, hba, hb1⟩
  have HBA := Lib.hid hba; have HB1 := Lib.hid hb1
  have C1 := Lib.hid (read_is ⟨#[120, 32, 107, 101, 101, 112, 47, 115, 111, 102, 116, 47, 48, 47, 49, 47, 49, 47, 48]⟩ ⟨#[]⟩ [] 0 7 (by rw [text_x]; rfl) (by rw [text_x]; rfl) rfl w1 (by decide) (HV.out _ hb1))
  clear hba hb1 C0
  obtain ⟨a0, c0, a1, c1, a2, c2, rfl, rfl, rfl⟩ := HBA.out.told
  go_wp2_with fail
  refine C1.out.mono ?_
  rintro e w2 ⟨a, c, rfl, _, _, _, hb⟩
  have hbz := (Below.refl w2.heap.size w2).alloc (Nat.le_refl _) (.cells #[.string ⟨#[]⟩, .slice a 0 c] 24)
  have HBA2 := Lib.hid ((HBA.out.keep hb).keep hbz)
  have HB2 := Lib.hid (below_keep (below_keep HB1.out hb HB1.out.size) hbz (below_keep HB1.out hb HB1.out.size).size)
  clear hb hbz HBA HB1 C1
  obtain ⟨w3, hw3⟩ : ∃ w3, w2.alloc (.cells #[.string ⟨#[]⟩, .slice a 0 c] 24) = w3 := ⟨_, rfl⟩
  rw [hw3] at HBA2 HB2
  have HW3 := Lib.hid hw3
  have e00 : (w2.alloc (.cells #[.string ⟨#[]⟩, .slice a 0 c] 24)).cell? ⟨g, 0, none⟩ = some (.string ⟨#[102, 117, 108, 102, 105, 108]⟩) := (show BuiltAt (w2.alloc (.cells #[.string ⟨#[]⟩, .slice a 0 c] 24)) g _ _ _ by rw [hw3]; exact HBA2.out).cells 0 _ rfl
  have e01 : (w2.alloc (.cells #[.string ⟨#[]⟩, .slice a 0 c] 24)).cell? ⟨g, 1, none⟩ = some (.slice a0 6 c0) := (show BuiltAt (w2.alloc (.cells #[.string ⟨#[]⟩, .slice a 0 c] 24)) g _ _ _ by rw [hw3]; exact HBA2.out).cells 1 _ rfl
  have e20 : (w2.alloc (.cells #[.string ⟨#[]⟩, .slice a 0 c] 24)).cell? ⟨g, 2, none⟩ = some (.string ⟨#[112, 105, 99, 107, 117, 112]⟩) := (show BuiltAt (w2.alloc (.cells #[.string ⟨#[]⟩, .slice a 0 c] 24)) g _ _ _ by rw [hw3]; exact HBA2.out).cells 2 _ rfl
  have e21 : (w2.alloc (.cells #[.string ⟨#[]⟩, .slice a 0 c] 24)).cell? ⟨g, 3, none⟩ = some (.slice a1 5 c1) := (show BuiltAt (w2.alloc (.cells #[.string ⟨#[]⟩, .slice a 0 c] 24)) g _ _ _ by rw [hw3]; exact HBA2.out).cells 3 _ rfl
  have e40 : (w2.alloc (.cells #[.string ⟨#[]⟩, .slice a 0 c] 24)).cell? ⟨g, 4, none⟩ = some (.string ⟨#[112, 114, 101, 112, 97, 105, 100]⟩) := (show BuiltAt (w2.alloc (.cells #[.string ⟨#[]⟩, .slice a 0 c] 24)) g _ _ _ by rw [hw3]; exact HBA2.out).cells 4 _ rfl
  have e41 : (w2.alloc (.cells #[.string ⟨#[]⟩, .slice a 0 c] 24)).cell? ⟨g, 5, none⟩ = some (.slice a2 3 c2) := (show BuiltAt (w2.alloc (.cells #[.string ⟨#[]⟩, .slice a 0 c] 24)) g _ _ _ by rw [hw3]; exact HBA2.out).cells 5 _ rfl
  clear hw3
  have C2 := Lib.hid (pivot_is fulfilB a0 6 c0 fulfilS 3 fulfil_piv w3 HBA2.out.t0.at_)
  go_wp2_with fail
  rw [show w2.alloc (.cells #[.string ⟨#[]⟩, .slice a 0 c] 24) = w3 from HW3.out]
  refine C2.out.mono ?_
  rintro e w4 ⟨rfl, hb⟩
  have HBA4 := Lib.hid (HBA2.out.keep hb)
  have HB4 := Lib.hid (below_keep HB2.out hb HB2.out.size)
  clear hb e00 e01 e20 e21 e40 e41 HBA2 HB2 C2 HW3
  have e00 : w4.cell? ⟨g, 0, none⟩ = some (.string ⟨#[102, 117, 108, 102, 105, 108]⟩) := HBA4.out.cells 0 _ rfl
  have e01 : w4.cell? ⟨g, 1, none⟩ = some (.slice a0 6 c0) := HBA4.out.cells 1 _ rfl
  have e20 : w4.cell? ⟨g, 2, none⟩ = some (.string ⟨#[112, 105, 99, 107, 117, 112]⟩) := HBA4.out.cells 2 _ rfl
  have e21 : w4.cell? ⟨g, 3, none⟩ = some (.slice a1 5 c1) := HBA4.out.cells 3 _ rfl
  have e40 : w4.cell? ⟨g, 4, none⟩ = some (.string ⟨#[112, 114, 101, 112, 97, 105, 100]⟩) := HBA4.out.cells 4 _ rfl
  have e41 : w4.cell? ⟨g, 5, none⟩ = some (.slice a2 3 c2) := HBA4.out.cells 5 _ rfl
  have C3 := Lib.hid (pivot_is prepaidB a2 3 c2 prepaidS (-1) prepaid_piv w4 HBA4.out.t2.at_)
  go_wp2_with fail
  refine C3.out.mono ?_
  rintro e w5 ⟨rfl, hb⟩
  have HBA5 := Lib.hid (HBA4.out.keep hb)
  have HB5 := Lib.hid (below_keep HB4.out hb HB4.out.size)
  clear hb e00 e01 e20 e21 e40 e41 HBA4 HB4 C3
  have e00 : w5.cell? ⟨g, 0, none⟩ = some (.string ⟨#[102, 117, 108, 102, 105, 108]⟩) := HBA5.out.cells 0 _ rfl
  have e01 : w5.cell? ⟨g, 1, none⟩ = some (.slice a0 6 c0) := HBA5.out.cells 1 _ rfl
  have e20 : w5.cell? ⟨g, 2, none⟩ = some (.string ⟨#[112, 105, 99, 107, 117, 112]⟩) := HBA5.out.cells 2 _ rfl
  have e21 : w5.cell? ⟨g, 3, none⟩ = some (.slice a1 5 c1) := HBA5.out.cells 3 _ rfl
  have e40 : w5.cell? ⟨g, 4, none⟩ = some (.string ⟨#[112, 114, 101, 112, 97, 105, 100]⟩) := HBA5.out.cells 4 _ rfl
  have e41 : w5.cell? ⟨g, 5, none⟩ = some (.slice a2 3 c2) := HBA5.out.cells 5 _ rfl
  have C4 := Lib.hid (place_is pickupB a1 5 c1 pickupS 6 3 pickup_take w5 HBA5.out.t1.at_)
  go_wp2_with fail
  refine C4.out.mono ?_
  rintro e w6 ⟨rfl, hb⟩
  have HB6 := Lib.hid (below_keep HB5.out hb HB5.out.size)
  clear hb e00 e01 e20 e21 e40 e41 HBA5 HB5 C4
  go_wp2_with fail
  go_ret
  exact ⟨rfl, HB6.out⟩
end Go.Proofs.YtdpgfnnhbfkacaaGreatDoor.Def
