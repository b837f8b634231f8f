/-
  The contracts of Text (both): any lines, where the table of the powers of ten stands; what was there stays as it was.
-/
import Derived.Test.YtpaemofjeadhcaaGreatDoorLinesD
import Derived.Test.YtpaemofjeadhcaaGreatDoorNumH
import Derived.Test.YtpaemofjeadhcaaGreatDoorShelf
import Derived.StillTail
import Derived.StillTactics
import Derived.Test.YtpaemofjeadhcaaGreatDoorMix
set_option linter.unusedVariables false
set_option maxRecDepth 4000
namespace Go.Proofs.YtpaemofjeadhcaaGreatDoor.Lines
open Go.RowKit LinesP

/-- The octets of a list as a text. -/
def bs (l : List UInt8) : ByteArray := ⟨l.toArray⟩
theorem bs_data (l : List UInt8) : (bs l).data.toList = l := rfl
theorem bs_of (s : ByteArray) : bs s.data.toList = s := by cases s; simp [bs]
theorem bs_size (l : List UInt8) : (bs l).size = l.length := rfl
theorem data_append (a b : ByteArray) : (a ++ b).data.toList = a.data.toList ++ b.data.toList := by
  simp [ByteArray.data_append]
theorem size_list (s : ByteArray) : s.size = s.data.toList.length := (Array.length_toList).symm
theorem join_snoc (c : UInt8) : ∀ (ys : List (List UInt8)) (y : List UInt8), ys ≠ [] → Lib.join (ys ++ [y]) [c] = Lib.join ys [c] ++ c :: y
  | [], _, h => absurd rfl h
  | [x], y, _ => by rw [show [x] ++ [y] = [x, y] from rfl, join_cons2, Lib.join_one, Lib.join_one]
  | x :: z :: r, y, _ => by
    have ih := join_snoc c (z :: r) y (by simp)
    rw [show (x :: z :: r) ++ [y] = x :: z :: (r ++ [y]) from rfl, join_cons2, show z :: (r ++ [y]) = (z :: r) ++ [y] from rfl, ih, join_cons2]
    simp
theorem join_small {xs : List (List UInt8)} (h : ∀ x ∈ xs, x.length ≤ 70) (hl : xs.length ≤ 4) : (Lib.join xs [44]).length ≤ 300 := by
  cases xs with
  | nil => simp [Lib.join_nil]
  | cons x r =>
    rw [Lib.join_cons, List.length_append]
    have h1 := h x (by simp)
    have h2 := joinTail_small (xs := r) fun y hy => h y (List.mem_cons_of_mem _ hy)
    simp only [List.length_cons] at hl
    omega
theorem take_snoc {l : List Ln} {k : Nat} {x : Ln} (hk : k < l.length) (hx : l.getD k ln0 = x) : l.take (k + 1) = l.take k ++ [x] := by
  rw [List.take_succ_eq_append_getElem hk, ← hx]; simp [List.getD, hk]
theorem fit_at {l : List Ln} (h : fitL l = true) {k : Nat} {x : Ln} (hk : k < l.length) (hx : l.getD k ln0 = x) : x.1.size ≤ 48 ∧ 1 ≤ x.2 ∧ x.2 ≤ 1048576 := by
  have e : x = l[k] := by rw [← hx]; simp [List.getD, hk]
  have := fitL_mem h x (by rw [e]; exact List.getElem_mem hk)
  have h2 := qty_iff.1 this.2
  have h3 := nm_len this.1
  exact ⟨by rw [size_list]; exact h3, h2.1, h2.2⟩
/-- The text of the first k lines. -/
def tk (l : List Ln) (k : Nat) : List UInt8 := Lib.join ((l.take k).map tx) [44]
theorem tk_zero (l : List Ln) : tk l 0 = [] := rfl
theorem tk_one {l : List Ln} {x : Ln} (hk : 0 < l.length) (hx : l.getD 0 ln0 = x) : tk l (0 + 1) = tx x := by
  unfold tk; rw [take_snoc hk hx]; exact Lib.join_one _ _
theorem tk_step {l : List Ln} {k : Nat} {x : Ln} (h0 : 0 < k) (hk : k < l.length) (hx : l.getD k ln0 = x) : tk l (k + 1) = tk l k ++ 44 :: tx x := by
  unfold tk
  rw [take_snoc hk hx, List.map_append, List.map_cons, List.map_nil, join_snoc]
  intro e
  have := congrArg List.length e
  simp only [List.length_map, List.length_take, List.length_nil] at this
  omega
theorem tk_size {l : List Ln} (h : fitL l = true) (k : Nat) : (tk l k).length ≤ 300 := by
  refine join_small (fun y hy => ?_) (by rw [List.length_map, List.length_take]; have := fitL_len h; omega)
  obtain ⟨z, hz, rfl⟩ := List.mem_map.1 hy
  have := fitL_mem h z (List.mem_of_mem_take hz)
  exact tx_len this.1 this.2
theorem ret_text {l : List Ln} {v : List UInt8} (h : v = textV l) {s : ByteArray} (hs : s.data.toList = textV l) : Ending.returned (.string s) = .returned (.string (bs v)) := by
  rw [h, ← hs, bs_of]
theorem ret_str {s t : ByteArray} (h : s = t) : Ending.returned (.string s) = .returned (.string t) := by rw [h]
theorem str_eq2 {s t : ByteArray} (h : s.data.toList = t.data.toList) : s = t := by rw [← bs_of s, ← bs_of t, h]
theorem rdigits_is (n : Int) (s : ByteArray) (w : World) (h0 : -9223372036854775808 ≤ n) (h1 : n ≤ 9223372036854775807) (e1 : Lib.itoa n = s.data.toList) : Calls Tryz.prog 35 #[.int .i64 n] w fun e w' => e = .returned (.string s) ∧ Below w.heap.size w w' := by
  have h2 := Num.rdigits_any n w h0 h1
  rw [e1, show (⟨s.data.toList.toArray⟩ : ByteArray) = s from bs_of s] at h2
  exact h2
set_option maxHeartbeats 2000000 in
theorem text_any (a : Option Addr) (len cap : Nat) (l : List Ln) (w : World) (h : LsAt w a len l) (hs : Sz l) (ht : Num.Tab w) :
    Calls Tryz.prog 14 #[.slice a len cap] w fun e w' => e = .returned (.string (bs (textV l))) ∧ Below w.heap.size w w' := by
  obtain ⟨v, hv⟩ : ∃ v, bs (textV l) = v := ⟨_, rfl⟩
  rw [hv]
  have hl := h.2.1
  have C := fit_any a len cap l w h hs
  cases hf : fitL l with
  | false =>
    rw [hf] at C
    have C := Lib.hid C
    have HD : Hid (⟨#[]⟩ = v) := by show _ = v; rw [← hv, textV_no hf]; rfl
    clear hv h hs hf
    go_enter Tryz.func14, Tryz.ntmps14
    go_wp2_with fail
    refine C.out.mono ?_
    rintro e w1 ⟨rfl, hb⟩
    go_wp2_with fail
    go_ret
    exact ⟨ret_str HD.out, hb⟩
  | true =>
    rw [hf] at C
    have C := Lib.hid C
    have h4 : len ≤ 4 := by rw [← h.1]; exact fitL_len hf
    have HD : Hid (bs (tk l len) = v) := by
      show _ = v
      rw [← hv]; unfold tk textV
      rw [hf, List.take_of_length_le (Nat.le_of_eq h.1)]; rfl
    have HF := Lib.hid (fun (k : Nat) (x : Ln) hk hx => fit_at hf (k := k) (x := x) hk hx)
    have HTK := Lib.hid (tk_size hf)
    have HX := Lib.hid h; have HT := Lib.hid ht
    clear hv h hs hf ht
    go_enter Tryz.func14, Tryz.ntmps14
    go_wp2_with fail
    refine C.out.mono ?_
    rintro e w1 ⟨rfl, hb1⟩
    have HB1 := Lib.hid hb1
    clear hb1
    go_wp2_with fail
    go_loopw [3, 11] (fun t i wr => ∃ k : Nat, k ≤ len ∧ i = .int .i64 (k : Int) ∧ Hid (wr.ownsRow w.heap.size 9 1 t k (((l.take k).map fun x => bs (tx x)).map Value.string)) ∧ Hid (Below w.heap.size w wr)) (fun _ i _ => len - (intOf i).toNat)
    case atStart => exact ⟨0, Nat.zero_le _, rfl, Lib.hid (World.ownsRow_nil _ _ _ _), HB1⟩
    case round =>
      obtain ⟨k, hk, rfl, hO, hB⟩ := hrel
      by_cases hlk : k < len
      · rcases HX.out.2.2 with h0 | ⟨b1, o1, rfl, g1, hc1⟩
        · omega
        have d1 := (hB.out.cell (p := ⟨b1, o1 + k * 2, none⟩) g1).trans (hc1 k hlk).1
        have d2 := (hB.out.cell (p := ⟨b1, o1 + k * 2 + 1, none⟩) g1).trans (hc1 k hlk).2
        have hkx : k < l.length := by rw [HX.out.1]; exact hlk
        obtain ⟨p, hp⟩ : ∃ p, l.getD k ln0 = p := ⟨_, rfl⟩
        rw [hp] at d1 d2
        obtain ⟨hs1, hn1, hn2⟩ := HF.out k p hkx hp
        have hst := take_snoc hkx hp
        obtain ⟨s, n⟩ := p
        simp only at hs1 hn1 hn2
        obtain ⟨dg, hdg⟩ : ∃ dg : ByteArray, Lib.itoa n = dg.data.toList := ⟨bs (Lib.itoa n), rfl⟩
        have hdl : dg.size ≤ 21 := by rw [size_list, ← hdg]; exact itoa_short (qty_iff.2 ⟨hn1, hn2⟩)
        obtain ⟨T1, hT1⟩ : ∃ T1 : ByteArray, s ++ ⟨#[58]⟩ = T1 := ⟨_, rfl⟩
        obtain ⟨T, hT⟩ : ∃ T : ByteArray, T1 ++ dg = T := ⟨_, rfl⟩
        have hTb : T = bs (tx (s, n)) := by
          apply str_eq2
          rw [← hT, data_append, ← hT1, data_append, bs_data, ← hdg]
          simp [tx]
        have HTB := Lib.hid hTb
        have sz1 : ¬ (9223372036854775807 < s.size + 1) := by omega
        have sT1 : T1.size = s.size + 1 := by rw [← hT1, ByteArray.size_append]; rfl
        have sz2 : ¬ (9223372036854775807 < T1.size + dg.size) := by omega
        have HST := Lib.hid hst
        have HB2 := Lib.hid (hB.out.alloc (Nat.le_trans hB.out.size (Nat.le_refl _)) (.cells #[.string s, .int .i64 n] 44))
        have HO2 := Lib.hid (hO.out.alloc (.cells #[.string s, .int .i64 n] 44))
        have hc := boxed_cells wr s n
        rw [boxed_alloc] at hc
        obtain ⟨W, hW⟩ : ∃ W, wr.alloc (.cells #[.string s, .int .i64 n] 44) = W := ⟨_, rfl⟩
        rw [hW] at hc HB2 HO2
        have c0 : W.drew.cell? ⟨wr.heap.size, 0, none⟩ = some (.string s) := hc.1
        have c1 : W.drew.cell? ⟨wr.heap.size, 1, none⟩ = some (.int .i64 n) := hc.2
        have HC0 := Lib.hid c0; have HC1 := Lib.hid c1
        have HDG := Lib.hid (fun w' (hb : Below W.drew.heap.size W.drew w') => Num.digits_is n dg w' (by omega) (by omega) (HT.out.keep (HB2.out.drew.trans (hb.mono HB2.out.size))) hdg)
        have HW := Lib.hid hW
        have HLT := Lib.hid (World.block_lt_of_cell? _ _ c0)
        clear hc hW hc1 g1 hp hkx hst hdg hTb hB hO sT1 hs1 hn1 hn2
        go_wp2_with fail
        have e1 := HC0.out
        rw [show wr.alloc (.cells #[.string s, .int .i64 n] 44) = W from HW.out]
        clear d1 d2 e1
        refine wp_region_any (by kernel_rfl) ?_
        change wpAny _ _ _ _ _ _ _ (World.drew _)
        refine wpAny_take (i := 0) (v := ?_) rfl (by kernel_rfl) (by kernel_rfl) (by kernel_rfl) (fun _ _ _ h => h) (Or.inl ⟨by kernel_rfl, ?_⟩) ?_; rotate_left; focus ((intro w'); go_simp; (try with_reducible rfl))
        refine wpAny_take (i := 1) (v := ?_) rfl (by kernel_rfl) (by kernel_rfl) (by kernel_rfl) (fun _ _ _ h => h) (Or.inl ⟨by kernel_rfl, ?_⟩) ?_; rotate_left; focus ((intro w'); go_simp; (try with_reducible rfl))
        refine wpAny_take (i := 4) (v := ?_) rfl (by kernel_rfl) (by kernel_rfl) (by kernel_rfl) (fun _ _ _ h => h) (Or.inl ⟨by kernel_rfl, ?_⟩) ?_; rotate_left; focus ((intro w'); go_simp; (try with_reducible rfl))
        apply join1 (F := fun w4 => Below W.drew.heap.size W.drew w4)
        · intro hG
          refine wpAny_ready (rs := [2, 5]) (by kernel_rfl) (by simp) ?_
          refine AllReady.cons rfl (fun K hK => ?_) (AllReady.cons rfl (fun K hK => ?_) AllReady.nil)
          · go_simp
            refine hK _ _ ?_
            clear hK K
            refine wpAny_take (i := 3) (v := ?_) rfl (by kernel_rfl) (by kernel_rfl) (by kernel_rfl) (fun _ _ _ h => h) (Or.inl ⟨by kernel_rfl, ?_⟩) ?_; rotate_left; focus ((intro w'); go_simp; (try with_reducible rfl))
            refine wpAny_ready (rs := [5]) (by kernel_rfl) (by simp) ?_
            refine AllReady.cons rfl (fun K hK => ?_) AllReady.nil
            go_simp
            refine hK _ _ ?_
            clear hK K
            refine wpAny_ready (rs := [6]) (by kernel_rfl) (by simp) ?_
            refine AllReady.cons rfl (fun K hK => ?_) AllReady.nil
            go_simp
            refine (HDG.out _ (Below.refl _ _)).mono ?_
            rintro e w4 ⟨rfl, hb⟩
            refine hK _ _ ?_
            clear hK K
            refine wpAny_take (i := 7) (v := ?_) rfl (by kernel_rfl) (by kernel_rfl) (by kernel_rfl) (fun _ _ _ h => h) (Or.inl ⟨by kernel_rfl, ?_⟩) ?_; rotate_left; focus ((intro w'); go_simp; (try with_reducible rfl))
            exact hG _ hb
          · go_simp
            refine hK _ _ ?_
            clear hK K
            refine wpAny_ready (rs := [2, 6]) (by kernel_rfl) (by simp) ?_
            refine AllReady.cons rfl (fun K hK => ?_) (AllReady.cons rfl (fun K hK => ?_) AllReady.nil)
            · go_simp
              refine hK _ _ ?_
              clear hK K
              refine wpAny_take (i := 3) (v := ?_) rfl (by kernel_rfl) (by kernel_rfl) (by kernel_rfl) (fun _ _ _ h => h) (Or.inl ⟨by kernel_rfl, ?_⟩) ?_; rotate_left; focus ((intro w'); go_simp; (try with_reducible rfl))
              refine wpAny_ready (rs := [6]) (by kernel_rfl) (by simp) ?_
              refine AllReady.cons rfl (fun K hK => ?_) AllReady.nil
              go_simp
              refine (HDG.out _ (Below.refl _ _)).mono ?_
              rintro e w4 ⟨rfl, hb⟩
              refine hK _ _ ?_
              clear hK K
              refine wpAny_take (i := 7) (v := ?_) rfl (by kernel_rfl) (by kernel_rfl) (by kernel_rfl) (fun _ _ _ h => h) (Or.inl ⟨by kernel_rfl, ?_⟩) ?_; rotate_left; focus ((intro w'); go_simp; (try with_reducible rfl))
              exact hG _ hb
            · go_simp
              refine (HDG.out _ (Below.refl _ _)).mono ?_
              rintro e w4 ⟨rfl, hb⟩
              have e4 := (hb.cell (p := ⟨wr.heap.size, 0, none⟩) HLT.out).trans HC0.out
              refine hK _ _ ?_
              clear hK K
              refine wpAny_ready (rs := [2]) (by kernel_rfl) (by simp) ?_
              refine AllReady.cons rfl (fun K hK => ?_) AllReady.nil
              go_simp
              refine hK _ _ ?_
              clear hK K
              refine wpAny_take (i := 3) (v := ?_) rfl (by kernel_rfl) (by kernel_rfl) (by kernel_rfl) (fun _ _ _ h => h) (Or.inl ⟨by kernel_rfl, ?_⟩) ?_; rotate_left; focus ((intro w'); go_simp; (try with_reducible rfl))
              refine wpAny_take (i := 7) (v := ?_) rfl (by kernel_rfl) (by kernel_rfl) (by kernel_rfl) (fun _ _ _ h => h) (Or.inl ⟨by kernel_rfl, ?_⟩) ?_; rotate_left; focus ((intro w'); go_simp; (try with_reducible rfl))
              exact hG _ hb
        · intro w4 hb4
          have HB4 := Lib.hid (HB2.out.drew.trans (hb4.mono HB2.out.size))
          have HO4 := Lib.hid (owns_below (w := W.drew) (by exact HO2.out) hb4)
          clear hb4 c0 c1
          refine wpAny_ready (rs := [8]) (by kernel_rfl) (by simp) ?_
          refine AllReady.cons rfl (fun K hK => ?_) AllReady.nil
          go_simp
          refine hK _ _ ?_
          clear hK K
          refine Mix.wpAny_of_seqV [9, 10] _ _ _ (by kernel_rfl) ?_
          simp only [Mix.pick, List.filterMap_cons, List.filterMap_nil, List.getElem?_cons_zero, List.getElem?_cons_succ]
          refine append_str rfl (.tmp 15) (.tmp 23) rfl w.heap.size w4 _ rfl T _ k _ rfl HO4.out rfl (by omega) HB4.out.size ?_
          intro v' w5 hown hgrow
          have HB5 := Lib.hid (below_append HB4.out HB4.out.size HO4.out hgrow)
          have HO5 : Hid (w5.ownsRow w.heap.size 9 1 v' (k + 1) (((l.take (k + 1)).map fun x => bs (tx x)).map Value.string)) := by
            show w5.ownsRow _ _ _ _ _ _
            rw [HST.out, List.map_append, List.map_cons, List.map_nil, ← HTB.out]
            exact hown
          clear hown hgrow
          go_wp2_with fail
          go_roundw
          case rel => exact ⟨k + 1, by omega, by go_num, HO5, HB5⟩
          case measure => simp [intOf]; omega
      · obtain rfl : k = len := by omega
        rw [List.take_of_length_le (Nat.le_of_eq HX.out.1)] at hO
        rcases owns_form hO.out with ⟨rfl, h0⟩ | ⟨g, cp, rfl, _, hlt⟩
        · have CJ := Lib.hid (Tryz.strings_Join_none none 0 ⟨#[44]⟩ wr)
          subst h0
          have HD2 : Hid (⟨#[]⟩ = v) := by show _ = v; rw [← HD.out, tk_zero]; rfl
          clear hO
          go_wp2_with fail
          refine CJ.out.mono ?_
          rintro e w2 ⟨rfl, rfl⟩
          go_wp2_with fail
          go_ret
          exact ⟨ret_str HD2.out, hB.out⟩
        · have hcell : ∀ (j : Nat) x, (l.map fun x => bs (tx x))[j]? = some x → wr.cell? ⟨g, 0 + j, none⟩ = some (.string x) := fun j x hx => by
            rw [Nat.zero_add]; exact owns_cell hO.out rfl (by rw [List.getElem?_map, hx]; rfl)
          have hml : (l.map fun x => bs (tx x)).length = k := by rw [List.length_map]; exact HX.out.1
          have hmm : (l.map fun x => bs (tx x)).map (·.data.toList) = l.map tx := by rw [List.map_map]; exact List.map_congr_left fun x _ => rfl
          have htk : tk l k = Lib.join (l.map tx) [44] := by unfold tk; rw [List.take_of_length_le (Nat.le_of_eq HX.out.1)]
          have hjn := Tryz.strings_Join g 0 cp (l.map fun x => bs (tx x)) ⟨#[44]⟩ wr hcell hlt (by rw [hml]; omega) (by rw [hml]; exact own_cap hO.out) (by rw [hmm]; have := HTK.out k; rw [htk] at this; exact Nat.le_trans this (by omega))
          rw [hml, hmm, show (⟨#[44]⟩ : ByteArray).data.toList = [44] from rfl, ← htk, show (⟨(tk l k).toArray⟩ : ByteArray) = v from HD.out] at hjn
          have CJ := Lib.hid hjn
          clear hO hcell hml hmm htk hjn
          go_wp2_with fail
          refine CJ.out.mono ?_
          rintro e w2 ⟨rfl, hb⟩
          have HB2 := Lib.hid (below_keep hB.out hb hB.out.size)
          go_wp2_with fail
          go_ret
          exact ⟨rfl, HB2.out⟩
set_option maxHeartbeats 2000000 in
theorem rtext_any (a : Option Addr) (len cap : Nat) (l : List Ln) (w : World) (h : LsAt w a len l) (hs : Sz l) :
    Calls Tryz.prog 15 #[.slice a len cap] w fun e w' => e = .returned (.string (bs (textV l))) ∧ Below w.heap.size w w' := by
  obtain ⟨v, hv⟩ : ∃ v, bs (textV l) = v := ⟨_, rfl⟩
  rw [hv]
  have hl := h.2.1
  have C := fun w' (hb : Below w.heap.size w w') => rfit_any a len cap l w' (h.keep hb) hs
  by_cases h0 : len = 0
  · have HD : Hid (⟨#[]⟩ = v) := by
      show _ = v
      rw [← hv]; unfold textV
      rw [List.eq_nil_of_length_eq_zero (h.1.trans h0)]; rfl
    subst h0
    clear hv h hs C
    go_enter Tryz.func15, Tryz.ntmps15
    go_wp2_with fail
    go_loopw [3, 4] (fun t i wr => t = .string ⟨#[]⟩ ∧ i = .int .i64 0 ∧ Hid (Below w.heap.size w wr)) (fun _ i _ => 0)
    case atStart => exact ⟨rfl, rfl, Below.refl _ w⟩
    case round =>
      obtain ⟨rfl, rfl, hB⟩ := hrel
      go_wp2_with fail
      go_ret
      exact ⟨ret_str HD.out, hB.out⟩
  cases hf : fitL l with
  | false =>
    rw [hf] at C
    have C := Lib.hid C
    have HD : Hid (⟨#[]⟩ = v) := by show _ = v; rw [← hv, textV_no hf]; rfl
    clear hv h hs hf
    have hlt : (0 : Int) < (len : Int) := by omega
    go_enter Tryz.func15, Tryz.ntmps15
    go_wp2_with fail
    go_loopw [3, 4] (fun t i wr => t = .string ⟨#[]⟩ ∧ i = .int .i64 0 ∧ Hid (Below w.heap.size w wr)) (fun _ i _ => 0)
    case atStart => exact ⟨rfl, rfl, Below.refl _ w⟩
    case round =>
      obtain ⟨rfl, rfl, hB⟩ := hrel
      go_wp2_with fail
      refine (C.out wr hB.out).mono ?_
      rintro e w1 ⟨rfl, hb⟩
      have HB1 := Lib.hid (below_keep hB.out hb hB.out.size)
      clear hb
      go_wp2_with fail
      go_ret
      exact ⟨ret_str HD.out, HB1.out⟩
  | true =>
    rw [hf] at C
    have C := Lib.hid C
    have HD : Hid (bs (tk l len) = v) := by
      show _ = v
      rw [← hv]; unfold tk textV
      rw [hf, List.take_of_length_le (Nat.le_of_eq h.1)]; rfl
    have HF := Lib.hid (fun (k : Nat) (x : Ln) hk hx => fit_at hf (k := k) (x := x) hk hx)
    have HTK := Lib.hid (tk_size hf)
    have HX := Lib.hid h
    clear hv h hs hf
    go_enter Tryz.func15, Tryz.ntmps15
    go_wp2_with fail
    go_loopw [3, 4] (fun t i wr => ∃ (k : Nat) (acc : ByteArray), k ≤ len ∧ i = .int .i64 (k : Int) ∧ t = .string acc ∧ Hid (bs (tk l k) = acc) ∧ Hid (Below w.heap.size w wr)) (fun _ i _ => len - (intOf i).toNat)
    case atStart => exact ⟨0, ⟨#[]⟩, Nat.zero_le _, rfl, rfl, Lib.hid rfl, Below.refl _ w⟩
    case round =>
      obtain ⟨k, acc, hk, rfl, rfl, hA, hB⟩ := hrel
      have hacc : acc.size ≤ 300 := by rw [← hA.out, bs_size]; exact HTK.out k
      by_cases hlk : k < len
      · have hC := Lib.hid (C.out wr hB.out)
        rcases HX.out.2.2 with h0 | ⟨b1, o1, rfl, g1, hc1⟩
        · omega
        have d1 := Lib.hid (fun w' (hb : Below w.heap.size w w') => (hb.cell (p := ⟨b1, o1 + k * 2, none⟩) g1).trans (hc1 k hlk).1)
        have d2 := Lib.hid (fun w' (hb : Below w.heap.size w w') => (hb.cell (p := ⟨b1, o1 + k * 2 + 1, none⟩) g1).trans (hc1 k hlk).2)
        have hkx : k < l.length := by rw [HX.out.1]; exact hlk
        obtain ⟨p, hp⟩ : ∃ p, l.getD k ln0 = p := ⟨_, rfl⟩
        rw [hp] at d1 d2
        obtain ⟨hs1, hn1, hn2⟩ := HF.out k p hkx hp
        obtain ⟨s, n⟩ := p
        simp only at hs1 hn1 hn2
        obtain ⟨dg, hdg⟩ : ∃ dg : ByteArray, Lib.itoa n = dg.data.toList := ⟨bs (Lib.itoa n), rfl⟩
        have hdl : dg.size ≤ 21 := by rw [size_list, ← hdg]; exact itoa_short (qty_iff.2 ⟨hn1, hn2⟩)
        have HDG := Lib.hid (fun w' => rdigits_is n dg w' (by omega) (by omega) hdg)
        by_cases hk0 : k = 0
        · subst hk0
          obtain ⟨A1, hA1⟩ : ∃ A1 : ByteArray, acc = A1 := ⟨_, rfl⟩
          have hD1 : A1.data.toList = [] := by rw [← hA1, ← hA.out, tk_zero]; rfl
          have hD2 : tk l (0 + 1) = A1.data.toList ++ tx (s, n) := by rw [hD1, tk_one hkx hp]; rfl
          subst hA1
          have sA1 : acc.size ≤ 301 := by omega
          obtain ⟨T1, hT1⟩ : ∃ T1 : ByteArray, acc ++ s = T1 := ⟨_, rfl⟩
          obtain ⟨T2, hT2⟩ : ∃ T2 : ByteArray, T1 ++ ⟨#[58]⟩ = T2 := ⟨_, rfl⟩
          obtain ⟨T3, hT3⟩ : ∃ T3 : ByteArray, T2 ++ dg = T3 := ⟨_, rfl⟩
          have sT1 : T1.size = acc.size + s.size := by rw [← hT1, ByteArray.size_append]
          have sT2 : T2.size = T1.size + 1 := by rw [← hT2, ByteArray.size_append]; rfl
          have hT : bs (tk l (0 + 1)) = T3 := by
            apply str_eq2
            rw [bs_data, hD2, ← hT3, data_append, ← hT2, data_append, ← hT1, data_append, ← hdg]
            simp [tx]
          have HT3 := Lib.hid hT
          have z1 : ¬ (9223372036854775807 < acc.size + s.size) := by omega
          have z2 : ¬ (9223372036854775807 < T1.size + 1) := by omega
          have z3 : ¬ (9223372036854775807 < T2.size + dg.size) := by omega
          clear hdg hp hkx hc1 g1 hs1 hn1 hn2 sT1 sT2 hT hD2 hD1
          go_wp2_with fail
          refine hC.out.mono ?_
          rintro e w1 ⟨rfl, hb⟩
          have HB1 := Lib.hid (below_keep hB.out hb hB.out.size)
          have e1 : w1.cell? ⟨b1, o1 + 0 * 2, none⟩ = some (.string s) := d1.out w1 HB1.out
          have e2 : w1.cell? ⟨b1, o1 + 0 * 2 + 1, none⟩ = some (.int .i64 n) := d2.out w1 HB1.out
          rw [Nat.zero_mul, Nat.add_zero] at e1 e2
          have q1 := fun d os => cell_regrown e1 d os
          have q2 := fun d os => cell_regrown e2 d os
          have C1 := Lib.hid (fun d os => Calls.regrown_of (HDG.out (Sort.grow (redrawn w1 d) os)))
          clear hb hB e1 e2
          go_wp2_with fail
          refine wp_region_qw (by kernel_rfl) (by kernel_rfl) ?_
          refine qw_take (by kernel_rfl) (fun K hK => ?_); go_simp; first | (refine hK _ ?_; clear hK K) | (apply Exists.intro; refine ⟨fun _ => ?_, hK _ ?_⟩; (first | with_reducible exact C1.out _ _); clear hK K)
          refine qw_take (by kernel_rfl) (fun K hK => ?_); go_simp; first | (refine hK _ ?_; clear hK K) | (apply Exists.intro; refine ⟨fun _ => ?_, hK _ ?_⟩; (first | with_reducible exact C1.out _ _); clear hK K)
          refine qw_take (by kernel_rfl) (fun K hK => ?_); go_simp; first | (refine hK _ ?_; clear hK K) | (apply Exists.intro; refine ⟨fun _ => ?_, hK _ ?_⟩; (first | with_reducible exact C1.out _ _); clear hK K)
          refine qw_take (by kernel_rfl) (fun K hK => ?_); go_simp; first | (refine hK _ ?_; clear hK K) | (apply Exists.intro; refine ⟨fun _ => ?_, hK _ ?_⟩; (first | with_reducible exact C1.out _ _); clear hK K)
          refine qw_take (by kernel_rfl) (fun K hK => ?_); go_simp; first | (refine hK _ ?_; clear hK K) | (apply Exists.intro; refine ⟨fun _ => ?_, hK _ ?_⟩; (first | with_reducible exact C1.out _ _); clear hK K)
          refine qw_take (by kernel_rfl) (fun K hK => ?_); go_simp; first | (refine hK _ ?_; clear hK K) | (apply Exists.intro; refine ⟨fun _ => ?_, hK _ ?_⟩; (first | with_reducible exact C1.out _ _); clear hK K)
          refine qw_take (by kernel_rfl) (fun K hK => ?_); go_simp; first | (refine hK _ ?_; clear hK K) | (apply Exists.intro; refine ⟨fun _ => ?_, hK _ ?_⟩; (first | with_reducible exact C1.out _ _); clear hK K)
          refine qw_take (by kernel_rfl) (fun K hK => ?_); go_simp; first | (refine hK _ ?_; clear hK K) | (apply Exists.intro; refine ⟨fun _ => ?_, hK _ ?_⟩; (first | with_reducible exact C1.out _ _); clear hK K)
          refine qw_take (by kernel_rfl) (fun K hK => ?_); go_simp; first | (refine hK _ ?_; clear hK K) | (apply Exists.intro; refine ⟨fun _ => ?_, hK _ ?_⟩; (first | with_reducible exact C1.out _ _); clear hK K)
          refine qw_take (by kernel_rfl) (fun K hK => ?_); go_simp; first | (refine hK _ ?_; clear hK K) | (apply Exists.intro; refine ⟨fun _ => ?_, hK _ ?_⟩; (first | with_reducible exact C1.out _ _); clear hK K)
          refine qw_take (by kernel_rfl) (fun K hK => ?_); go_simp; first | (refine hK _ ?_; clear hK K) | (apply Exists.intro; refine ⟨fun _ => ?_, hK _ ?_⟩; (first | with_reducible exact C1.out _ _); clear hK K)
          refine qw_take (by kernel_rfl) (fun K hK => ?_); go_simp; first | (refine hK _ ?_; clear hK K) | (apply Exists.intro; refine ⟨fun _ => ?_, hK _ ?_⟩; (first | with_reducible exact C1.out _ _); clear hK K)
          refine qw_take (by kernel_rfl) (fun K hK => ?_); go_simp; first | (refine hK _ ?_; clear hK K) | (apply Exists.intro; refine ⟨fun _ => ?_, hK _ ?_⟩; (first | with_reducible exact C1.out _ _); clear hK K)
          refine qw_take (by kernel_rfl) (fun K hK => ?_); go_simp; first | (refine hK _ ?_; clear hK K) | (apply Exists.intro; refine ⟨fun _ => ?_, hK _ ?_⟩; (first | with_reducible exact C1.out _ _); clear hK K)
          refine qw_take (by kernel_rfl) (fun K hK => ?_); go_simp; first | (refine hK _ ?_; clear hK K) | (apply Exists.intro; refine ⟨fun _ => ?_, hK _ ?_⟩; (first | with_reducible exact C1.out _ _); clear hK K)
          refine qw_take (by kernel_rfl) (fun K hK => ?_); go_simp; first | (refine hK _ ?_; clear hK K) | (apply Exists.intro; refine ⟨fun _ => ?_, hK _ ?_⟩; (first | with_reducible exact C1.out _ _); clear hK K)
          refine qw_nil ?_
          intro _ hw'
          obtain ⟨⟨dq, osq⟩, hw''⟩ := hw'
          subst hw''
          have HB3 := Lib.hid (HB1.out.trans ((below_regrown w1 dq osq).mono HB1.out.size))
          clear q1 q2 C1 HDG
          generalize Sort.grow (redrawn w1 dq) osq = w3 at *
          go_wp2_with fail
          go_roundw
          case rel => exact ⟨0 + 1, T3, by omega, by go_num, rfl, HT3, HB3⟩
          case measure => simp [intOf]; omega
        · obtain ⟨A1, hA1⟩ : ∃ A1 : ByteArray, acc ++ ⟨#[44]⟩ = A1 := ⟨_, rfl⟩
          have hD2 : tk l (k + 1) = A1.data.toList ++ tx (s, n) := by rw [tk_step (by omega) hkx hp, ← hA1, data_append, ← hA.out]; simp [bs]
          have hgt : decide ((0 : Int) < (k : Int)) = true := decide_eq_true (by omega)
          have sA1 : A1.size ≤ 301 := by rw [← hA1, ByteArray.size_append]; show acc.size + 1 ≤ 301; omega
          obtain ⟨T1, hT1⟩ : ∃ T1 : ByteArray, A1 ++ s = T1 := ⟨_, rfl⟩
          obtain ⟨T2, hT2⟩ : ∃ T2 : ByteArray, T1 ++ ⟨#[58]⟩ = T2 := ⟨_, rfl⟩
          obtain ⟨T3, hT3⟩ : ∃ T3 : ByteArray, T2 ++ dg = T3 := ⟨_, rfl⟩
          have sT1 : T1.size = A1.size + s.size := by rw [← hT1, ByteArray.size_append]
          have sT2 : T2.size = T1.size + 1 := by rw [← hT2, ByteArray.size_append]; rfl
          have hT : bs (tk l (k + 1)) = T3 := by
            apply str_eq2
            rw [bs_data, hD2, ← hT3, data_append, ← hT2, data_append, ← hT1, data_append, ← hdg]
            simp [tx]
          have HT3 := Lib.hid hT
          have z1 : ¬ (9223372036854775807 < A1.size + s.size) := by omega
          have z2 : ¬ (9223372036854775807 < T1.size + 1) := by omega
          have z3 : ¬ (9223372036854775807 < T2.size + dg.size) := by omega
          clear hdg hp hkx hc1 g1 hs1 hn1 hn2 sT1 sT2 hT hD2
          go_wp2_with fail
          refine hC.out.mono ?_
          rintro e w1 ⟨rfl, hb⟩
          have HB1 := Lib.hid (below_keep hB.out hb hB.out.size)
          have e1 : w1.cell? ⟨b1, o1 + k * 2, none⟩ = some (.string s) := d1.out w1 HB1.out
          have e2 : w1.cell? ⟨b1, o1 + k * 2 + 1, none⟩ = some (.int .i64 n) := d2.out w1 HB1.out
          have q1 := fun d os => cell_regrown e1 d os
          have q2 := fun d os => cell_regrown e2 d os
          have C1 := Lib.hid (fun d os => Calls.regrown_of (HDG.out (Sort.grow (redrawn w1 d) os)))
          clear hb hB e1 e2
          go_wp2_with fail
          refine wp_region_qw (by kernel_rfl) (by kernel_rfl) ?_
          refine qw_take (by kernel_rfl) (fun K hK => ?_); go_simp; first | (refine hK _ ?_; clear hK K) | (apply Exists.intro; refine ⟨fun _ => ?_, hK _ ?_⟩; (first | with_reducible exact C1.out _ _); clear hK K)
          refine qw_take (by kernel_rfl) (fun K hK => ?_); go_simp; first | (refine hK _ ?_; clear hK K) | (apply Exists.intro; refine ⟨fun _ => ?_, hK _ ?_⟩; (first | with_reducible exact C1.out _ _); clear hK K)
          refine qw_take (by kernel_rfl) (fun K hK => ?_); go_simp; first | (refine hK _ ?_; clear hK K) | (apply Exists.intro; refine ⟨fun _ => ?_, hK _ ?_⟩; (first | with_reducible exact C1.out _ _); clear hK K)
          refine qw_take (by kernel_rfl) (fun K hK => ?_); go_simp; first | (refine hK _ ?_; clear hK K) | (apply Exists.intro; refine ⟨fun _ => ?_, hK _ ?_⟩; (first | with_reducible exact C1.out _ _); clear hK K)
          refine qw_take (by kernel_rfl) (fun K hK => ?_); go_simp; first | (refine hK _ ?_; clear hK K) | (apply Exists.intro; refine ⟨fun _ => ?_, hK _ ?_⟩; (first | with_reducible exact C1.out _ _); clear hK K)
          refine qw_take (by kernel_rfl) (fun K hK => ?_); go_simp; first | (refine hK _ ?_; clear hK K) | (apply Exists.intro; refine ⟨fun _ => ?_, hK _ ?_⟩; (first | with_reducible exact C1.out _ _); clear hK K)
          refine qw_take (by kernel_rfl) (fun K hK => ?_); go_simp; first | (refine hK _ ?_; clear hK K) | (apply Exists.intro; refine ⟨fun _ => ?_, hK _ ?_⟩; (first | with_reducible exact C1.out _ _); clear hK K)
          refine qw_take (by kernel_rfl) (fun K hK => ?_); go_simp; first | (refine hK _ ?_; clear hK K) | (apply Exists.intro; refine ⟨fun _ => ?_, hK _ ?_⟩; (first | with_reducible exact C1.out _ _); clear hK K)
          refine qw_take (by kernel_rfl) (fun K hK => ?_); go_simp; first | (refine hK _ ?_; clear hK K) | (apply Exists.intro; refine ⟨fun _ => ?_, hK _ ?_⟩; (first | with_reducible exact C1.out _ _); clear hK K)
          refine qw_take (by kernel_rfl) (fun K hK => ?_); go_simp; first | (refine hK _ ?_; clear hK K) | (apply Exists.intro; refine ⟨fun _ => ?_, hK _ ?_⟩; (first | with_reducible exact C1.out _ _); clear hK K)
          refine qw_take (by kernel_rfl) (fun K hK => ?_); go_simp; first | (refine hK _ ?_; clear hK K) | (apply Exists.intro; refine ⟨fun _ => ?_, hK _ ?_⟩; (first | with_reducible exact C1.out _ _); clear hK K)
          refine qw_take (by kernel_rfl) (fun K hK => ?_); go_simp; first | (refine hK _ ?_; clear hK K) | (apply Exists.intro; refine ⟨fun _ => ?_, hK _ ?_⟩; (first | with_reducible exact C1.out _ _); clear hK K)
          refine qw_take (by kernel_rfl) (fun K hK => ?_); go_simp; first | (refine hK _ ?_; clear hK K) | (apply Exists.intro; refine ⟨fun _ => ?_, hK _ ?_⟩; (first | with_reducible exact C1.out _ _); clear hK K)
          refine qw_take (by kernel_rfl) (fun K hK => ?_); go_simp; first | (refine hK _ ?_; clear hK K) | (apply Exists.intro; refine ⟨fun _ => ?_, hK _ ?_⟩; (first | with_reducible exact C1.out _ _); clear hK K)
          refine qw_take (by kernel_rfl) (fun K hK => ?_); go_simp; first | (refine hK _ ?_; clear hK K) | (apply Exists.intro; refine ⟨fun _ => ?_, hK _ ?_⟩; (first | with_reducible exact C1.out _ _); clear hK K)
          refine qw_take (by kernel_rfl) (fun K hK => ?_); go_simp; first | (refine hK _ ?_; clear hK K) | (apply Exists.intro; refine ⟨fun _ => ?_, hK _ ?_⟩; (first | with_reducible exact C1.out _ _); clear hK K)
          refine qw_nil ?_
          intro _ hw'
          obtain ⟨⟨dq, osq⟩, hw''⟩ := hw'
          subst hw''
          have HB3 := Lib.hid (HB1.out.trans ((below_regrown w1 dq osq).mono HB1.out.size))
          clear q1 q2 C1 HDG
          generalize Sort.grow (redrawn w1 dq) osq = w3 at *
          go_wp2_with fail
          go_roundw
          case rel => exact ⟨k + 1, T3, by omega, by go_num, rfl, HT3, HB3⟩
          case measure => simp [intOf]; omega
      · obtain rfl : k = len := by omega
        have HE : Hid (acc = v) := by show acc = v; rw [← hA.out, HD.out]
        go_wp2_with fail
        go_ret
        exact ⟨ret_str HE.out, hB.out⟩
end Go.Proofs.YtpaemofjeadhcaaGreatDoor.Lines
