/-
  The contract of the program's Text: any step, where the table of the powers of ten stands; what was there stays as it was.
-/
import Derived.Test.YtdpgfnnhbfkacaaGreatDoorPtShelf
import Derived.Test.YtdpgfnnhbfkacaaGreatDoorPtStepC
import Derived.Test.YtdpgfnnhbfkacaaGreatDoorPtRwName
import Derived.Test.YtdpgfnnhbfkacaaGreatDoorPtNumG
import Derived.Lib.ItoaLen
import Derived.BigRegion
set_option linter.unusedVariables false
set_option linter.unusedSimpArgs false
set_option maxRecDepth 4000
set_option maxRecDepth 4000
namespace Go.Proofs.YtdpgfnnhbfkacaaGreatDoor.Step
open Go.RowKit StP
open Go.Proofs.YtdpgfnnhbfkacaaGreatDoor.Kt
theorem ops_at {w : World} {b : Nat} (h : At7 94 w b (.string ⟨#[]⟩) (.string ⟨#[104, 111, 108, 100]⟩) (.string ⟨#[97, 117, 116, 104]⟩) (.string ⟨#[107, 101, 101, 112]⟩) (.string ⟨#[98, 111, 111, 107]⟩) (.string ⟨#[115, 101, 110, 100]⟩) (.string ⟨#[116, 97, 107, 101]⟩)) {n : Nat} (h0 : 1 ≤ n) (h1 : n ≤ 6) : w.cell? ⟨b, n, none⟩ = some (.string (bs (opL (n : Int)))) := by
  obtain ⟨c0, c1, c2, c3, c4, c5, c6⟩ := cells7 h
  rcases (by omega : n = 1 ∨ n = 2 ∨ n = 3 ∨ n = 4 ∨ n = 5 ∨ n = 6) with rfl | rfl | rfl | rfl | rfl | rfl
  · exact c1
  · exact c2
  · exact c3
  · exact c4
  · exact c5
  · exact c6
theorem cls_at {w : World} {b : Nat} (h : At4 96 w b (.string ⟨#[]⟩) (.string ⟨#[115, 111, 102, 116]⟩) (.string ⟨#[112, 105, 118, 111, 116]⟩) (.string ⟨#[102, 105, 114, 109]⟩)) {n : Nat} (h0 : 1 ≤ n) (h1 : n ≤ 3) : w.cell? ⟨b, n, none⟩ = some (.string (bs (clL (n : Int)))) := by
  obtain ⟨c0, c1, c2, c3⟩ := cells4 h
  rcases (by omega : n = 1 ∨ n = 2 ∨ n = 3) with rfl | rfl | rfl
  · exact c1
  · exact c2
  · exact c3
theorem lit_owns (w : World) (A B : Obj) (W0 W1 : ByteArray) : ((((w.alloc A).alloc B).alloc (.cells #[.string W0, .string W1] 9)).drew).ownsRow (w.heap.size + 2) 9 1 (.slice (some ⟨w.heap.size + 1 + 1, 0, none⟩) 2 2) 2 (Rw.cells Rw.strS [W0, W1]) := by
  have h := World.ownsRow_lit (base := w.heap.size + 2) (e := 9) (size := 1) ((w.alloc A).alloc B) #[.string W0, .string W1] 2 (by simp) (by decide) rfl
  rw [World.size_alloc, World.size_alloc] at h
  exact h.drew
theorem own_ne {w : World} {B n g b : Nat} {v : Value} {xs : List Value} (h : w.ownsRow B 9 1 v n xs) (hp : PtrsAt w g b) : some g ≠ v.ownBlock := by
  rcases h.2 with ⟨rfl, _⟩ | ⟨g2, cap, cur, rfl, _, hg, _⟩
  · intro e; cases e
  · intro e
    have e2 : g = g2 := Option.some.inj e
    subst e2
    have hp2 : w.heap[g]? = _ := hp
    rw [hp2] at hg
    have := Option.some.inj hg
    simp at this
theorem ptrs_grown {w w' : World} {B n g b : Nat} {v : Value} {xs : List Value} {o : Obj} (h : w.ownsRow B 9 1 v n xs) (hp : PtrsAt w g b) (hg : (w.alloc o).grownBy w' v.ownBlock) : PtrsAt w' g b := by
  have h1 : PtrsAt (w.alloc o) g b := At4.alloc hp o
  exact (hg.block g (heap_lt h1) (own_ne h hp)).trans h1
theorem num_at {w : World} {b : Nat} (x0 x1 x2 x3 x4 x5 : Int) (h : At6 49 w b (.int .i64 x0) (.int .i64 x1) (.int .i64 x2) (.int .i64 x3) (.int .i64 x4) (.int .i64 x5)) {k : Nat} (hk : k < 4) : w.cell? ⟨b, 2 + k, none⟩ = some (.int .i64 ((nums ⟨x0, x1, x2, x3, x4, x5⟩).getD k 0)) := by
  obtain ⟨c0, c1, c2, c3, c4, c5⟩ := cells6 h
  rcases (by omega : k = 0 ∨ k = 1 ∨ k = 2 ∨ k = 3) with rfl | rfl | rfl | rfl
  · exact c2
  · exact c3
  · exact c4
  · exact c5
theorem nums_fit {x : St} (h : FitS x) : ∀ k, 0 ≤ (nums x).getD k 0 ∧ (nums x).getD k 0 ≤ 100 := by
  intro k
  have h4 := h.tries0; have h5 := h.tries1; have h6 := h.base0; have h7 := h.base1; have h8 := h.cap0; have h9 := h.cap1; have h10 := h.wait0; have h11 := h.wait1
  match k with
  | 0 => exact ⟨h4, by show x.tries ≤ 100; omega⟩
  | 1 => exact ⟨by show 0 ≤ x.base; omega, by show x.base ≤ 100; omega⟩
  | 2 => exact ⟨by show 0 ≤ x.cap; omega, by show x.cap ≤ 100; omega⟩
  | 3 => exact ⟨h10, h11⟩
  | n + 4 => exact ⟨by simp [nums], by simp [nums]⟩
def digs (x : St) : List ByteArray := (nums x).map fun n => bs (Lib.itoa n)
theorem digs_take {x : St} {k : Nat} (hk : k < 4) : (digs x).take (k + 1) = (digs x).take k ++ [bs (Lib.itoa ((nums x).getD k 0))] := by
  match k with
  | 0 => rfl
  | 1 => rfl
  | 2 => rfl
  | 3 => rfl
  | n + 4 => omega
theorem join_words {x : St} (h : fitS x = true) : Lib.join (([bs (opL x.op), bs (clL x.cls)] ++ (digs x).take 4).map (·.data.toList)) [47] = textS x := by
  unfold textS
  rw [if_pos h]
  unfold partsS digs nums
  simp [data_bs]
theorem words_small {x : St} (h : FitS x) : ∀ y ∈ [bs (opL x.op), bs (clL x.cls)] ++ (digs x).take 4, y.size ≤ 21 := by
  have hs : ∀ l : List UInt8, (bs l).size = l.length := fun l => by simp [bs, ByteArray.size]
  intro y hy
  simp only [List.mem_append, List.mem_cons, List.mem_nil_iff, or_false] at hy
  rcases hy with (rfl | rfl) | hy
  · rw [hs, opL_len]; omega
  · rw [hs]; have := clL_len x.cls; omega
  · have hy2 := List.mem_of_mem_take hy
    unfold digs at hy2
    obtain ⟨n, hn, rfl⟩ := List.mem_map.1 hy2
    rw [hs]
    obtain ⟨k, hk, e⟩ := List.mem_iff_getElem.1 hn
    have := nums_fit h k
    rw [show (nums x).getD k 0 = n by rw [← e]; simp [List.getD, hk]] at this
    exact itoa_fit_len this.1 this.2
theorem join_small (xs : List ByteArray) (h : ∀ x ∈ xs, x.size ≤ 21) (hl : xs.length ≤ 8) : (Lib.join (xs.map (·.data.toList)) [47]).length ≤ 1000 := by
  cases xs with
  | nil => simp [Lib.join_nil]
  | cons x r =>
    rw [List.map_cons, Lib.join_length]
    have hs : ∀ l : List ByteArray, (∀ x ∈ l, x.size ≤ 21) → Lib.lens (l.map (·.data.toList)) ≤ 21 * l.length := by
      intro l hl
      induction l with
      | nil => simp [Lib.lens]
      | cons y q ih =>
        have h1 := ih fun z hz => hl z (List.mem_cons_of_mem _ hz)
        have h2 := hl y List.mem_cons_self
        have h3 : y.data.toList.length = y.size := Array.length_toList
        simp only [Lib.lens, List.map_cons, List.sum_cons, List.length_cons] at h1 ⊢
        omega
    have := hs (x :: r) h
    simp only [List.map_cons, List.length_cons, List.length_map, List.length_nil] at this hl ⊢
    omega
theorem join_any {pb : Nat} (s : ByteArray) (A B : List ByteArray) (v : Value) (hl : (A ++ B).length = 6) (hs : bs (Lib.join ((A ++ B).map (·.data.toList)) [47]) = s) (hx : ∀ x ∈ A ++ B, x.size ≤ 21) (w : World) (h : w.ownsRow pb 9 1 v (2 + 4) (Rw.cells Rw.strS (A ++ B))) :
    ∃ g c, v = .slice (some ⟨g, 0, none⟩) 6 c ∧ g < w.heap.size ∧ Calls Tryz.prog 56 #[.slice (some ⟨g, 0, none⟩) 6 c, .string ⟨#[47]⟩] w fun e w' => e = .returned (.string s) ∧ Below w.heap.size w w' := by
  rcases Rw.owns_form h with ⟨rfl, h3⟩ | ⟨g, cap, rfl, _, hlt⟩
  · omega
  refine ⟨g, cap, rfl, hlt, ?_⟩
  have hj := Tryz.strings_Join g 0 cap (A ++ B) ⟨#[47]⟩ w (fun j x hx => by rw [Nat.zero_add]; exact Rw.owns_cell h rfl (Rw.str_get hx)) hlt (by omega) (by rw [hl]; exact Rw.owns_room h) (by have := join_small (A ++ B) hx (by omega); exact Nat.le_trans this (by omega))
  rw [show (⟨#[47]⟩ : ByteArray).data.toList = [47] from rfl, hl] at hj
  rw [← hs]
  exact hj
theorem digits_say (n : Int) (s : ByteArray) (hs : bs (Lib.itoa n) = s) (h0 : 0 ≤ n) (h1 : n ≤ 100) (w : World) (ht : Num.Tab w) : Calls Tryz.prog 91 #[.int .i64 n] w fun e w' => e = .returned (.string s) ∧ Below w.heap.size w w' :=
  Num.digits_is n s w (by omega) (by omega) ht (by rw [← hs, data_bs])

set_option maxHeartbeats 8000000 in
theorem text_any (x0 x1 x2 x3 x4 x5 : Int) (w : World) (ht : Num.Tab w) :
    Calls Tryz.prog 55 #[.agg #[.int .i64 x0, .int .i64 x1, .int .i64 x2, .int .i64 x3, .int .i64 x4, .int .i64 x5]] w fun e w' => e = .returned (.string (bs (textS ⟨x0, x1, x2, x3, x4, x5⟩))) ∧ Below w.heap.size w w' := by
  have hB0 := bx6_new 49 w (.int .i64 x0) (.int .i64 x1) (.int .i64 x2) (.int .i64 x3) (.int .i64 x4) (.int .i64 x5)
  obtain ⟨w0, hw0⟩ : ∃ w0, w.alloc (.cells #[.int .i64 x0, .int .i64 x1, .int .i64 x2, .int .i64 x3, .int .i64 x4, .int .i64 x5] 49) = w0 := ⟨_, rfl⟩
  rw [hw0] at hB0
  have HW := Lib.hid hw0
  have HB0 := Lib.hid hB0
  have HT := Lib.hid ht
  obtain ⟨d0, d1, d2, d3, d4, d5⟩ := cells6 hB0.box
  obtain ⟨s, hs⟩ : ∃ s, bs (textS ⟨x0, x1, x2, x3, x4, x5⟩) = s := ⟨_, rfl⟩
  rw [hs]
  have HV := Lib.hid hs
  clear hw0 hB0 ht hs
  cases h1 : fitS ⟨x0, x1, x2, x3, x4, x5⟩ with
  | false =>
    have CV := Lib.hid (fit_is x0 x1 x2 x3 x4 x5 false h1)
    have HE : Hid ((⟨#[]⟩ : ByteArray) = s) := by show _ = _; rw [← HV.out, text_no h1]; rfl
    clear h1
    go_enter Tryz.func55, Tryz.ntmps55
    go_wp2_with fail
    rw [show w.alloc (.cells #[.int .i64 x0, .int .i64 x1, .int .i64 x2, .int .i64 x3, .int .i64 x4, .int .i64 x5] 49) = w0 from HW.out]
    go_wp2_with fail
    refine (CV.out w0).mono ?_
    rintro e w1 ⟨rfl, hb⟩
    have HB1 := Lib.hid (HB0.out.keep hb)
    clear hb d0 d1 d2 d3 d4 d5
    go_wp2_with fail
    go_ret
    exact ⟨ret_str HE.out, HB1.out.bel⟩
  | true =>
    have CV := Lib.hid (fit_is x0 x1 x2 x3 x4 x5 true h1)
    have HF := Lib.hid (fitS_of h1)
    have H1 := Lib.hid h1
    clear h1
    go_enter Tryz.func55, Tryz.ntmps55
    go_wp2_with fail
    rw [show w.alloc (.cells #[.int .i64 x0, .int .i64 x1, .int .i64 x2, .int .i64 x3, .int .i64 x4, .int .i64 x5] 49) = w0 from HW.out]
    go_wp2_with fail
    refine (CV.out w0).mono ?_
    rintro e w1 ⟨rfl, hb⟩
    have HB1 := Lib.hid (HB0.out.keep hb)
    clear hb d0 d1 d2 d3 d4 d5
    go_wp2_with fail
    refine (ops_any w1).mono ?_
    rintro e w2 ⟨rfl, hb⟩
    have HB2 := Lib.hid (HB1.out.keep hb)
    clear hb HB1
    go_wp2_with fail
    refine (cls_any w2).mono ?_
    rintro e w3 ⟨rfl, hb⟩
    have HB3 := Lib.hid (HB2.out.keep hb)
    clear hb HB2
    obtain ⟨n0, hn0⟩ : ∃ n0 : Nat, x0 = (n0 : Int) := ⟨x0.toNat, by have := HF.out.op0; simp only at this; omega⟩
    obtain ⟨n1, hn1⟩ : ∃ n1 : Nat, x1 = (n1 : Int) := ⟨x1.toNat, by have := HF.out.cls0; simp only at this; omega⟩
    have g0 : 1 ≤ n0 := by have := HF.out.op0; simp only at this; omega
    have g1 : n0 ≤ 6 := by have := HF.out.op1; simp only at this; omega
    have g2 : 1 ≤ n1 := by have := HF.out.cls0; simp only at this; omega
    have g3 : n1 ≤ 3 := by have := HF.out.cls1; simp only at this; omega
    have hO := at7_new 94 w3 (.string ⟨#[]⟩) (.string ⟨#[104, 111, 108, 100]⟩) (.string ⟨#[97, 117, 116, 104]⟩) (.string ⟨#[107, 101, 101, 112]⟩) (.string ⟨#[98, 111, 111, 107]⟩) (.string ⟨#[115, 101, 110, 100]⟩) (.string ⟨#[116, 97, 107, 101]⟩)
    have hC := at4_new 96 (w3.alloc (.cells #[.string ⟨#[]⟩, .string ⟨#[104, 111, 108, 100]⟩, .string ⟨#[97, 117, 116, 104]⟩, .string ⟨#[107, 101, 101, 112]⟩, .string ⟨#[98, 111, 111, 107]⟩, .string ⟨#[115, 101, 110, 100]⟩, .string ⟨#[116, 97, 107, 101]⟩] 94)) (.string ⟨#[]⟩) (.string ⟨#[115, 111, 102, 116]⟩) (.string ⟨#[112, 105, 118, 111, 116]⟩) (.string ⟨#[102, 105, 114, 109]⟩)
    rw [World.size_alloc] at hC
    have e0 := ops_at (hO.alloc (.cells #[.string ⟨#[]⟩, .string ⟨#[115, 111, 102, 116]⟩, .string ⟨#[112, 105, 118, 111, 116]⟩, .string ⟨#[102, 105, 114, 109]⟩] 96)) g0 g1
    have e1 := cls_at hC g2 g3
    have HB4 := Lib.hid ((HB3.out.alloc (.cells #[.string ⟨#[]⟩, .string ⟨#[104, 111, 108, 100]⟩, .string ⟨#[97, 117, 116, 104]⟩, .string ⟨#[107, 101, 101, 112]⟩, .string ⟨#[98, 111, 111, 107]⟩, .string ⟨#[115, 101, 110, 100]⟩, .string ⟨#[116, 97, 107, 101]⟩] 94)).alloc (.cells #[.string ⟨#[]⟩, .string ⟨#[115, 111, 102, 116]⟩, .string ⟨#[112, 105, 118, 111, 116]⟩, .string ⟨#[102, 105, 114, 109]⟩] 96))
    have HL3 := Lib.hid HB3.out.lt
    rw [← hn0] at e0
    rw [← hn1] at e1
    obtain ⟨W0, hW0⟩ : ∃ W0, bs (opL x0) = W0 := ⟨_, rfl⟩
    obtain ⟨W1, hW1⟩ : ∃ W1, bs (clL x1) = W1 := ⟨_, rfl⟩
    rw [hW0] at e0
    rw [hW1] at e1
    have HW0 := Lib.hid hW0; have HW1 := Lib.hid hW1
    have HN0 := Lib.hid hn0; have HN1 := Lib.hid hn1
    obtain ⟨d0, d1, d2, d3, d4, d5⟩ := cells6 HB4.out.box
    have i0 : (n0 : Int) < 7 := by omega
    have i1 : (n1 : Int) < 4 := by omega
    clear hO hC hW0 hW1 HB3
    subst hn0 hn1
    clear HN0 HN1
    go_wp2_with fail
    go_region
    have HB5 := Lib.hid (((HB4.out.alloc (.cells #[.string W0, .string W1] 9)).keep (Below.refl _ _).drew))
    have HS5 : Hid (w3.heap.size + 2 ≤ ((((w3.alloc (.cells #[.string ⟨#[]⟩, .string ⟨#[104, 111, 108, 100]⟩, .string ⟨#[97, 117, 116, 104]⟩, .string ⟨#[107, 101, 101, 112]⟩, .string ⟨#[98, 111, 111, 107]⟩, .string ⟨#[115, 101, 110, 100]⟩, .string ⟨#[116, 97, 107, 101]⟩] 94)).alloc (.cells #[.string ⟨#[]⟩, .string ⟨#[115, 111, 102, 116]⟩, .string ⟨#[112, 105, 118, 111, 116]⟩, .string ⟨#[102, 105, 114, 109]⟩] 96)).alloc (.cells #[.string W0, .string W1] 9)).drew).heap.size) := by show _ ≤ _; simp
    obtain ⟨w5, hw5⟩ : ∃ w5, ((((w3.alloc (.cells #[.string ⟨#[]⟩, .string ⟨#[104, 111, 108, 100]⟩, .string ⟨#[97, 117, 116, 104]⟩, .string ⟨#[107, 101, 101, 112]⟩, .string ⟨#[98, 111, 111, 107]⟩, .string ⟨#[115, 101, 110, 100]⟩, .string ⟨#[116, 97, 107, 101]⟩] 94)).alloc (.cells #[.string ⟨#[]⟩, .string ⟨#[115, 111, 102, 116]⟩, .string ⟨#[112, 105, 118, 111, 116]⟩, .string ⟨#[102, 105, 114, 109]⟩] 96)).alloc (.cells #[.string W0, .string W1] 9)).drew) = w5 := ⟨_, rfl⟩
    have HO6 : Hid (w5.ownsRow (w3.heap.size + 2) 9 1 (.slice (some ⟨w3.heap.size + 1 + 1, 0, none⟩) 2 2) 2 (Rw.cells Rw.strS [W0, W1])) := by
      show World.ownsRow _ _ _ _ _ _ _
      rw [← hw5]
      exact lit_owns w3 _ _ W0 W1
    have HPB : Hid (w.heap.size < w3.heap.size + 2) := by show _ < _; have := HL3.out; omega
    rw [hw5] at HB5 HS5
    rw [hw5]
    generalize ((some ⟨w3.heap.size + 1 + 1, 0, none⟩ : Option Addr)) = pa at *
    obtain ⟨pb, hpb⟩ : ∃ pb, w3.heap.size + 2 = pb := ⟨_, rfl⟩
    rw [hpb] at HO6 HPB HS5
    clear HB4 d0 d1 d2 d3 d4 d5 e0 e1 i0 i1 g0 g1 g2 g3
    have HT5 := Lib.hid (HT.out.keep HB5.out.bel)
    go_wp2_with fail
    refine (numbers_any w.heap.size w5).mono ?_
    rintro e w6 ⟨g, rfl, hG, hb, hg⟩
    have HB6 := Lib.hid (HB5.out.keep hb)
    have HO7 := Lib.hid (Rw.owns_below HO6.out hb)
    have HG := Lib.hid hG
    have HS6 : Hid (pb ≤ w6.heap.size) := Nat.le_trans HS5.out hb.size
    have HL6 := Lib.hid (nums_fit HF.out)
    have HX : Hid (∀ w', At6 49 w' w.heap.size (.int .i64 (n0 : Int)) (.int .i64 (n1 : Int)) (.int .i64 x2) (.int .i64 x3) (.int .i64 x4) (.int .i64 x5) → ∀ k, k < 4 → w'.cell? ⟨w.heap.size, 2 + k, none⟩ = some (.int .i64 ((nums ⟨(n0 : Int), (n1 : Int), x2, x3, x4, x5⟩).getD k 0))) := fun w' h k hk => num_at _ _ _ _ _ _ h hk
    have HD : Hid (∀ k, k < 4 → (digs ⟨(n0 : Int), (n1 : Int), x2, x3, x4, x5⟩).take (k + 1) = (digs ⟨(n0 : Int), (n1 : Int), x2, x3, x4, x5⟩).take k ++ [bs (Lib.itoa ((nums ⟨(n0 : Int), (n1 : Int), x2, x3, x4, x5⟩).getD k 0))]) := fun k hk => digs_take hk
    have HJ : Hid (bs (Lib.join (([W0, W1] ++ (digs ⟨(n0 : Int), (n1 : Int), x2, x3, x4, x5⟩).take 4).map (·.data.toList)) [47]) = s) := by
      show _ = _
      rw [← HW0.out, ← HW1.out, ← HV.out, ← join_words H1.out]
    have HZ : Hid (∀ y ∈ [W0, W1] ++ (digs ⟨(n0 : Int), (n1 : Int), x2, x3, x4, x5⟩).take 4, y.size ≤ 21) := by
      show ∀ y ∈ _, _
      rw [← HW0.out, ← HW1.out]
      exact words_small HF.out
    obtain ⟨NS, hNS⟩ : ∃ NS, nums ⟨(n0 : Int), (n1 : Int), x2, x3, x4, x5⟩ = NS := ⟨_, rfl⟩
    obtain ⟨DS, hDS⟩ : ∃ DS, digs ⟨(n0 : Int), (n1 : Int), x2, x3, x4, x5⟩ = DS := ⟨_, rfl⟩
    have HDL : Hid (DS.length = 4) := by show _ = _; rw [← hDS]; rfl
    rw [hNS] at HX HD HL6
    rw [hDS] at HD HJ HZ
    clear hb hG hg HB5 HO6 HS5 HT5 HV H1 HF HW0 HW1 hNS hDS
    go_wp2_with fail
    go_loopw [5, 24] (fun t i wr => ∃ k : Nat, k ≤ 4 ∧ i = .int .i64 (k : Int) ∧ Hid (wr.ownsRow pb 9 1 t (2 + k) (Rw.cells Rw.strS ([W0, W1] ++ DS.take k))) ∧ Hid (PtrsAt wr g w.heap.size) ∧ Hid (Bx6 49 w wr (.int .i64 (n0 : Int)) (.int .i64 (n1 : Int)) (.int .i64 x2) (.int .i64 x3) (.int .i64 x4) (.int .i64 x5)) ∧ Hid (pb ≤ wr.heap.size)) (fun _ i _ => 4 - (intOf i).toNat)
    case atStart => exact ⟨0, Nat.zero_le _, rfl, HO7, HG, HB6, HS6⟩
    case round =>
      obtain ⟨k, hk, rfl, hO, hP, hB, hS⟩ := hrel
      by_cases hlk : k < 4
      · have d0 := PtrsAt.at hP.out hlk
        have d1 := HX.out wr hB.out.box k hlk
        have hki : (k : Int) < 4 := by omega
        obtain ⟨hz0, hz1⟩ := HL6.out k
        have hDk := HD.out k hlk
        obtain ⟨y, hy⟩ : ∃ y, NS.getD k 0 = y := ⟨_, rfl⟩
        rw [hy] at d1 hz0 hz1 hDk
        obtain ⟨z, hz⟩ : ∃ z, bs (Lib.itoa y) = z := ⟨_, rfl⟩
        rw [hz] at hDk
        have HDk := Lib.hid hDk
        have CD := Lib.hid (fun w => digits_say y z hz hz0 hz1 w)
        have HTr := Lib.hid (HT.out.keep hB.out.bel)
        have hDl : (DS.take k).length = k := by rw [List.length_take, HDL.out]; omega
        have HXL : Hid (([W0, W1] ++ DS.take k).length = 2 + k) := by show _ = _; rw [List.length_append, hDl]; rfl
        clear hDk hz hz0 hz1 hy hDl
        go_wp2_with fail
        refine (CD.out wr HTr.out).mono ?_
        rintro e w8 ⟨rfl, hb⟩
        have HO8 := Lib.hid (Rw.owns_below hO.out hb)
        have HP8 := Lib.hid (hP.out.keep hb)
        have HB8 := Lib.hid (hB.out.keep hb)
        have hS8 : pb ≤ w8.heap.size := Nat.le_trans hS.out hb.size
        obtain ⟨xs, hxs⟩ : ∃ xs, [W0, W1] ++ DS.take k = xs := ⟨_, rfl⟩
        rw [hxs] at HO8
        have HXS := Lib.hid hxs
        clear hb hxs d0 d1 CD HTr
        go_wp2_with (first
          | (at_builtin; refine Rw.append_one Rw.strS rfl (.tmp 28) (.tmp 33) rfl pb w8 _ rfl z _ rfl _ (2 + k) xs rfl HO8.out rfl (by omega) hS8 ?_)
          | fail)
        intro v' w9 hown hgrow
        have HO9 : Hid (w9.ownsRow pb 9 1 v' (2 + (k + 1)) (Rw.cells Rw.strS ([W0, W1] ++ DS.take (k + 1)))) := by
          show World.ownsRow _ _ _ _ _ _ _
          rw [HDk.out, ← List.append_assoc, HXS.out]
          exact hown
        have HP9 := Lib.hid (ptrs_grown HO8.out HP8.out hgrow)
        have hbb : Below pb w8 w9 := Rw.below_append (Below.refl pb w8) hS8 HO8.out hgrow
        have HB9 : Hid (Bx6 49 w w9 (.int .i64 (n0 : Int)) (.int .i64 (n1 : Int)) (.int .i64 x2) (.int .i64 x3) (.int .i64 x4) (.int .i64 x5)) := ⟨HB8.out.bel.trans (hbb.mono (Nat.le_of_lt HPB.out)), HB8.out.box.keepB hbb HPB.out⟩
        have HS9 : Hid (pb ≤ w9.heap.size) := Nat.le_trans hS8 hbb.size
        clear hown hgrow hbb HO8 HP8 HB8 hO hP hB
        go_wp2_with fail
        go_roundw
        case rel => exact ⟨k + 1, by omega, by go_num, HO9, HP9, HB9, HS9⟩
        case measure => simp [intOf]; omega
      · obtain rfl : k = 4 := by omega
        obtain ⟨q, c, rfl, hlt, CJ⟩ := join_any s [W0, W1] (DS.take 4) u5 (by rw [List.length_append, List.length_take, HDL.out]; rfl) HJ.out HZ.out wr hO.out
        have CJ := Lib.hid CJ
        clear hlt
        go_wp2_with fail
        refine CJ.out.mono ?_
        rintro e w9 ⟨rfl, hb⟩
        have HBE := Lib.hid (hB.out.keep hb)
        clear hb
        go_wp2_with fail
        go_ret
        exact ⟨rfl, HBE.out.bel⟩

end Go.Proofs.YtdpgfnnhbfkacaaGreatDoor.Step

/-
  The contract of the document's Text: any step; what was there stays as it was.
-/
set_option linter.unusedVariables false
set_option linter.unusedSimpArgs false
set_option maxRecDepth 4000
set_option maxRecDepth 4000
namespace Go.Proofs.YtdpgfnnhbfkacaaGreatDoor.Step
open Go.RowKit StP
open Go.Proofs.YtdpgfnnhbfkacaaGreatDoor.Kt
theorem rdigits_say (n : Int) (s : ByteArray) (hs : bs (Lib.itoa n) = s) (h0 : 0 ≤ n) (h1 : n ≤ 100) (w : World) : Calls Tryz.prog 95 #[.int .i64 n] w fun e w' => e = .returned (.string s) ∧ Below w.heap.size w w' := by
  have h := Num.rdigits_any n w (by omega) (by omega)
  refine h.mono ?_
  rintro e w' ⟨rfl, hb⟩
  exact ⟨by rw [← hs]; rfl, hb⟩
theorem rop_below (n : Int) (s : ByteArray) (hs : bs (opL n) = s) (w : World) : Calls Tryz.prog 93 #[.int .i64 n] w fun e w' => e = .returned (.string s) ∧ Below w.heap.size w w' := by
  refine (rop_is n s hs w).mono ?_
  rintro e w' ⟨rfl, rfl⟩
  exact ⟨rfl, Below.refl _ _⟩
theorem rcl_below (n : Int) (s : ByteArray) (hs : bs (clL n) = s) (w : World) : Calls Tryz.prog 94 #[.int .i64 n] w fun e w' => e = .returned (.string s) ∧ Below w.heap.size w w' := by
  refine (rcl_is n s hs w).mono ?_
  rintro e w' ⟨rfl, rfl⟩
  exact ⟨rfl, Below.refl _ _⟩
theorem data_append (a b : ByteArray) : (a ++ b).data.toList = a.data.toList ++ b.data.toList := by
  simp [ByteArray.data_append]
theorem bs_size (l : List UInt8) : (bs l).size = l.length := by simp [bs, ByteArray.size]

set_option maxHeartbeats 8000000 in
theorem rtext_any (x0 x1 x2 x3 x4 x5 : Int) (w : World) :
    Calls Tryz.prog 57 #[.agg #[.int .i64 x0, .int .i64 x1, .int .i64 x2, .int .i64 x3, .int .i64 x4, .int .i64 x5]] w fun e w' => e = .returned (.string (bs (textS ⟨x0, x1, x2, x3, x4, x5⟩))) ∧ Below w.heap.size w w' := by
  have hB0 := bx6_new 49 w (.int .i64 x0) (.int .i64 x1) (.int .i64 x2) (.int .i64 x3) (.int .i64 x4) (.int .i64 x5)
  obtain ⟨w0, hw0⟩ : ∃ w0, w.alloc (.cells #[.int .i64 x0, .int .i64 x1, .int .i64 x2, .int .i64 x3, .int .i64 x4, .int .i64 x5] 49) = w0 := ⟨_, rfl⟩
  rw [hw0] at hB0
  have HW := Lib.hid hw0
  have HB0 := Lib.hid hB0
  obtain ⟨d0, d1, d2, d3, d4, d5⟩ := cells6 hB0.box
  obtain ⟨s, hs⟩ : ∃ s, bs (textS ⟨x0, x1, x2, x3, x4, x5⟩) = s := ⟨_, rfl⟩
  rw [hs]
  have HV := Lib.hid hs
  clear hw0 hB0 hs
  cases h1 : fitS ⟨x0, x1, x2, x3, x4, x5⟩ with
  | false =>
    have CV := Lib.hid (rfit_is x0 x1 x2 x3 x4 x5 false h1)
    have HE : Hid ((⟨#[]⟩ : ByteArray) = s) := by show _ = _; rw [← HV.out, text_no h1]; rfl
    clear h1
    go_enter Tryz.func57, Tryz.ntmps57
    go_wp2_with fail
    rw [show w.alloc (.cells #[.int .i64 x0, .int .i64 x1, .int .i64 x2, .int .i64 x3, .int .i64 x4, .int .i64 x5] 49) = w0 from HW.out]
    go_wp2_with fail
    refine (CV.out w0).mono ?_
    rintro e w1 ⟨rfl, hb⟩
    have HB1 := Lib.hid (HB0.out.keep hb)
    clear hb d0 d1 d2 d3 d4 d5
    go_wp2_with fail
    go_ret
    exact ⟨ret_str HE.out, HB1.out.bel⟩
  | true =>
    have CV := Lib.hid (rfit_is x0 x1 x2 x3 x4 x5 true h1)
    have ho := fitS_of h1
    have HL2 : Hid (0 ≤ x2) := by show _ ≤ _; have := ho.tries0; simp only at this; omega
    have HU2 : Hid (x2 ≤ 100) := by show _ ≤ _; have := ho.tries1; simp only at this; omega
    have HL3 : Hid (0 ≤ x3) := by show _ ≤ _; have := ho.base0; simp only at this; omega
    have HU3 : Hid (x3 ≤ 100) := by show _ ≤ _; have := ho.base1; simp only at this; omega
    have HL4 : Hid (0 ≤ x4) := by show _ ≤ _; have := ho.cap0; simp only at this; omega
    have HU4 : Hid (x4 ≤ 100) := by show _ ≤ _; have := ho.cap1; simp only at this; omega
    have HL5 : Hid (0 ≤ x5) := by show _ ≤ _; have := ho.wait0; simp only at this; omega
    have HU5 : Hid (x5 ≤ 100) := by show _ ≤ _; have := ho.wait1; simp only at this; omega
    obtain ⟨D0, hD0⟩ : ∃ D0, bs (opL x0) = D0 := ⟨_, rfl⟩
    obtain ⟨D1, hD1⟩ : ∃ D1, bs (clL x1) = D1 := ⟨_, rfl⟩
    obtain ⟨D2, hD2⟩ : ∃ D2, bs (Lib.itoa x2) = D2 := ⟨_, rfl⟩
    obtain ⟨D3, hD3⟩ : ∃ D3, bs (Lib.itoa x3) = D3 := ⟨_, rfl⟩
    obtain ⟨D4, hD4⟩ : ∃ D4, bs (Lib.itoa x4) = D4 := ⟨_, rfl⟩
    obtain ⟨D5, hD5⟩ : ∃ D5, bs (Lib.itoa x5) = D5 := ⟨_, rfl⟩
    have hZ0 : D0.size ≤ 21 := by rw [← hD0, bs_size, opL_len]; omega
    have hZ1 : D1.size ≤ 21 := by rw [← hD1, bs_size]; have := clL_len x1; omega
    have hZ2 : D2.size ≤ 21 := by rw [← hD2, bs_size]; exact itoa_fit_len HL2.out HU2.out
    have hZ3 : D3.size ≤ 21 := by rw [← hD3, bs_size]; exact itoa_fit_len HL3.out HU3.out
    have hZ4 : D4.size ≤ 21 := by rw [← hD4, bs_size]; exact itoa_fit_len HL4.out HU4.out
    have hZ5 : D5.size ≤ 21 := by rw [← hD5, bs_size]; exact itoa_fit_len HL5.out HU5.out
    have HD0 := Lib.hid hD0
    have HD1 := Lib.hid hD1
    have HD2 := Lib.hid hD2
    have HD3 := Lib.hid hD3
    have HD4 := Lib.hid hD4
    have HD5 := Lib.hid hD5
    have H1 := Lib.hid h1
    clear h1 ho hD0 hD1 hD2 hD3 hD4 hD5
    obtain ⟨T1, hT1⟩ : ∃ T1 : ByteArray, D0 ++ ⟨#[47]⟩ = T1 := ⟨_, rfl⟩
    have sT1 : T1.size = D0.size + 1 := by rw [← hT1, ByteArray.size_append]; first | done | rfl
    have zT1 : ¬ (9223372036854775807 < D0.size + 1) := by omega
    obtain ⟨T2, hT2⟩ : ∃ T2 : ByteArray, T1 ++ D1 = T2 := ⟨_, rfl⟩
    have sT2 : T2.size = T1.size + D1.size := by rw [← hT2, ByteArray.size_append]; first | done | rfl
    have zT2 : ¬ (9223372036854775807 < T1.size + D1.size) := by omega
    obtain ⟨T3, hT3⟩ : ∃ T3 : ByteArray, T2 ++ ⟨#[47]⟩ = T3 := ⟨_, rfl⟩
    have sT3 : T3.size = T2.size + 1 := by rw [← hT3, ByteArray.size_append]; first | done | rfl
    have zT3 : ¬ (9223372036854775807 < T2.size + 1) := by omega
    obtain ⟨T4, hT4⟩ : ∃ T4 : ByteArray, T3 ++ D2 = T4 := ⟨_, rfl⟩
    have sT4 : T4.size = T3.size + D2.size := by rw [← hT4, ByteArray.size_append]; first | done | rfl
    have zT4 : ¬ (9223372036854775807 < T3.size + D2.size) := by omega
    obtain ⟨T5, hT5⟩ : ∃ T5 : ByteArray, T4 ++ ⟨#[47]⟩ = T5 := ⟨_, rfl⟩
    have sT5 : T5.size = T4.size + 1 := by rw [← hT5, ByteArray.size_append]; first | done | rfl
    have zT5 : ¬ (9223372036854775807 < T4.size + 1) := by omega
    obtain ⟨T6, hT6⟩ : ∃ T6 : ByteArray, T5 ++ D3 = T6 := ⟨_, rfl⟩
    have sT6 : T6.size = T5.size + D3.size := by rw [← hT6, ByteArray.size_append]; first | done | rfl
    have zT6 : ¬ (9223372036854775807 < T5.size + D3.size) := by omega
    obtain ⟨T7, hT7⟩ : ∃ T7 : ByteArray, T6 ++ ⟨#[47]⟩ = T7 := ⟨_, rfl⟩
    have sT7 : T7.size = T6.size + 1 := by rw [← hT7, ByteArray.size_append]; first | done | rfl
    have zT7 : ¬ (9223372036854775807 < T6.size + 1) := by omega
    obtain ⟨T8, hT8⟩ : ∃ T8 : ByteArray, T7 ++ D4 = T8 := ⟨_, rfl⟩
    have sT8 : T8.size = T7.size + D4.size := by rw [← hT8, ByteArray.size_append]; first | done | rfl
    have zT8 : ¬ (9223372036854775807 < T7.size + D4.size) := by omega
    obtain ⟨T9, hT9⟩ : ∃ T9 : ByteArray, T8 ++ ⟨#[47]⟩ = T9 := ⟨_, rfl⟩
    have sT9 : T9.size = T8.size + 1 := by rw [← hT9, ByteArray.size_append]; first | done | rfl
    have zT9 : ¬ (9223372036854775807 < T8.size + 1) := by omega
    obtain ⟨T10, hT10⟩ : ∃ T10 : ByteArray, T9 ++ D5 = T10 := ⟨_, rfl⟩
    have sT10 : T10.size = T9.size + D5.size := by rw [← hT10, ByteArray.size_append]; first | done | rfl
    have zT10 : ¬ (9223372036854775807 < T9.size + D5.size) := by omega
    have HE : Hid (T10 = s) := by
      show _ = _
      rw [← HV.out]
      apply str_eq
      rw [← hT10, data_append, ← hT9, data_append, ← hT8, data_append, ← hT7, data_append, ← hT6, data_append, ← hT5, data_append, ← hT4, data_append, ← hT3, data_append, ← hT2, data_append, ← hT1, data_append, ← HD0.out, ← HD1.out, ← HD2.out, ← HD3.out, ← HD4.out, ← HD5.out]
      show _ = textS _
      unfold textS
      rw [if_pos H1.out]
      unfold partsS
      simp only [join_cons2, Lib.join_one]
      simp [bs]
    clear sT1 sT2 sT3 sT4 sT5 sT6 sT7 sT8 sT9 sT10 hZ0 hZ1 hZ2 hZ3 hZ4 hZ5
    go_enter Tryz.func57, Tryz.ntmps57
    go_wp2_with fail
    rw [show w.alloc (.cells #[.int .i64 x0, .int .i64 x1, .int .i64 x2, .int .i64 x3, .int .i64 x4, .int .i64 x5] 49) = w0 from HW.out]
    go_wp2_with fail
    refine (CV.out w0).mono ?_
    rintro e w1 ⟨rfl, hb⟩
    have HB1 := Lib.hid (HB0.out.keep hb)
    clear hb d0 d1 d2 d3 d4 d5
    have C0 := Lib.hid (fun d os => Calls.regrown_of (rop_below x0 D0 HD0.out (Sort.grow (redrawn w1 d) os)))
    have C1 := Lib.hid (fun d os => Calls.regrown_of (rcl_below x1 D1 HD1.out (Sort.grow (redrawn w1 d) os)))
    have C2 := Lib.hid (fun d os => Calls.regrown_of (rdigits_say x2 D2 HD2.out HL2.out HU2.out (Sort.grow (redrawn w1 d) os)))
    have C3 := Lib.hid (fun d os => Calls.regrown_of (rdigits_say x3 D3 HD3.out HL3.out HU3.out (Sort.grow (redrawn w1 d) os)))
    have C4 := Lib.hid (fun d os => Calls.regrown_of (rdigits_say x4 D4 HD4.out HL4.out HU4.out (Sort.grow (redrawn w1 d) os)))
    have C5 := Lib.hid (fun d os => Calls.regrown_of (rdigits_say x5 D5 HD5.out HL5.out HU5.out (Sort.grow (redrawn w1 d) os)))
    obtain ⟨e0, e1, e2, e3, e4, e5⟩ := cells6 HB1.out.box
    have r0 := fun d os => cell_regrown e0 d os
    have r1 := fun d os => cell_regrown e1 d os
    have r2 := fun d os => cell_regrown e2 d os
    have r3 := fun d os => cell_regrown e3 d os
    have r4 := fun d os => cell_regrown e4 d os
    have r5 := fun d os => cell_regrown e5 d os
    clear e0 e1 e2 e3 e4 e5
    go_wp2_with fail
    refine wp_region_qw (by kernel_rfl) (by kernel_rfl) ?_
    iterate 29 (refine qw_take (by kernel_rfl) (fun K hK => ?_); go_simp; first | (refine hK _ ?_; clear hK K) | (apply Exists.intro; refine ⟨fun _ => ?_, hK _ ?_⟩; (first | with_reducible exact C0.out _ _ | with_reducible exact C1.out _ _ | with_reducible exact C2.out _ _ | with_reducible exact C3.out _ _ | with_reducible exact C4.out _ _ | with_reducible exact C5.out _ _); clear hK K))
    refine qw_nil ?_
    intro _ hw'
    obtain ⟨⟨dq, osq⟩, hw''⟩ := hw'
    subst hw''
    have HBL := Lib.hid (HB1.out.keep (below_regrown w1 dq osq))
    clear r0 r1 r2 r3 r4 r5 C0 C1 C2 C3 C4 C5 HB1
    generalize Sort.grow (redrawn w1 dq) osq = wl at *
    go_wp2_with fail
    go_ret
    exact ⟨ret_str HE.out, HBL.out.bel⟩
end Go.Proofs.YtdpgfnnhbfkacaaGreatDoor.Step

/-
  What the program's Read shares: the library's variables, the parts of a text, what stands while it reads, a store into one cell of its step.
-/
set_option linter.unusedVariables false
set_option linter.unusedSimpArgs false
set_option maxRecDepth 4000
set_option maxRecDepth 4000
namespace Go.Proofs.YtdpgfnnhbfkacaaGreatDoor.Step
open Go.RowKit StP
open Go.Proofs.YtdpgfnnhbfkacaaGreatDoor.Kt
def Vars (w : World) : Prop := ∃ m, w.cell? ⟨0, 0, none⟩ = some (.int .i64 m)
theorem Vars.keep {w w' : World} (h : Vars w) (hb : Below w.heap.size w w') : Vars w' := by
  obtain ⟨m, hm⟩ := h
  refine ⟨m, ?_⟩
  exact (hb.cell (World.block_lt_of_cell? _ _ hm)).trans hm
def prt (s : ByteArray) : List ByteArray := Lib.splitB ⟨#[47]⟩ 0 (min 7 (s.size + 1) - 1) s
theorem size_list (s : ByteArray) : s.size = s.data.toList.length := Array.length_toList.symm
theorem prt_data (s : ByteArray) : (prt s).map (·.data.toList) = partsF 47 (min 7 (s.data.toList.length + 1) - 1) s.data.toList := by
  unfold prt
  rw [Lib.splitB_data, show (⟨#[47]⟩ : ByteArray).data.toList = [47] from rfl, splitK_parts, size_list]
theorem prt_len (s : ByteArray) : (prt s).length ≤ 7 := by
  have := Lib.splitB_length_le ⟨#[47]⟩ 0 (min 7 (s.size + 1) - 1) s
  unfold prt; omega
theorem prt_size (s : ByteArray) : ∀ x ∈ prt s, x.size ≤ s.size := by
  intro x hx
  rw [size_list, size_list]
  refine partsF_small 47 (min 7 (s.data.toList.length + 1) - 1) _ _ ?_
  rw [← prt_data]; exact List.mem_map.2 ⟨x, hx, rfl⟩
theorem prt_read (s : ByteArray) : readQ ((prt s).map (·.data.toList)) = readS s.data.toList := by
  rw [prt_data]; exact read_few _ _ rfl
def PaAt (w : World) (h : Nat) (P : List ByteArray) : Prop := h < w.heap.size ∧ ∀ i x, P[i]? = some x → w.cell? ⟨h, i, none⟩ = some (.string x)
theorem PaAt.keep {w w' : World} {h : Nat} {P : List ByteArray} (p : PaAt w h P) (hb : Below w.heap.size w w') : PaAt w' h P :=
  ⟨by have := p.1; have := hb.size; omega, fun i x hx => (hb.cell (p := ⟨h, i, none⟩) p.1).trans (p.2 i x hx)⟩
theorem PaAt.keepH {w w' : World} {h : Nat} {P : List ByteArray} (p : PaAt w h P) (hs : w.heap.size ≤ w'.heap.size) (hb : w'.heap[h]? = w.heap[h]?) : PaAt w' h P :=
  ⟨by have := p.1; omega, fun i x hx => (World.cell?_of_block (a := ⟨h, i, none⟩) hb).trans (p.2 i x hx)⟩
def SplitR (s : ByteArray) (w : World) (e : Ending) (w' : World) : Prop := ∃ cap, e = .returned (.slice (some ⟨w.heap.size, 0, none⟩) (prt s).length cap) ∧ PaAt w' w.heap.size (prt s) ∧ Below w.heap.size w w'
theorem split_call (s : ByteArray) (w : World) (hs : s.size ≤ 300) (hv : Vars w) :
    Calls Tryz.prog 68 #[.string s, .string ⟨#[47]⟩, .int .i64 7] w (SplitR s w) := by
  obtain ⟨m, hm⟩ := hv
  refine (Tryz.strings_SplitN s ⟨#[47]⟩ 7 m w (by omega) hm (by decide) (by omega) (by omega)).mono ?_
  rintro e w' ⟨he, hw⟩
  refine ⟨min 7 (s.size + 1), he, ⟨by rw [hw]; simp, fun i x hx => ?_⟩, by rw [hw]; exact (Below.refl _ _).alloc (Nat.le_refl _) _⟩
  rw [hw]
  have hi : i < (prt s).length := by
    rcases Nat.lt_or_ge i (prt s).length with h | h
    · exact h
    · rw [List.getElem?_eq_none h] at hx; cases hx
  rw [World.cell?_alloc_at _ _ _ _ rfl]
  unfold Lib.cellsOf
  rw [List.getElem?_toArray, List.getElem?_append_left (by rw [List.length_map]; exact hi), List.getElem?_map]
  rw [show (Lib.splitB ⟨#[47]⟩ 0 (min 7 (s.size + 1) - 1) s)[i]? = some x from hx]
  rfl
structure RS (w W : World) (g h : Nat) (P : List ByteArray) (v0 v1 v2 v3 v4 v5 : Value) : Prop where
  bel : Below w.heap.size w W
  res : At6 49 W w.heap.size (.int .i64 0) (.int .i64 0) (.int .i64 0) (.int .i64 0) (.int .i64 0) (.int .i64 0)
  box : At6 49 W (w.heap.size + 1) v0 v1 v2 v3 v4 v5
  ptr : PtrsAt W g (w.heap.size + 1)
  prt : PaAt W h P
  gne : w.heap.size + 2 ≤ g
  hne : w.heap.size + 2 ≤ h
theorem RS.keep {w W W' : World} {g h : Nat} {P : List ByteArray} {v0 v1 v2 v3 v4 v5 : Value} (r : RS w W g h P v0 v1 v2 v3 v4 v5) (hb : Below W.heap.size W W') : RS w W' g h P v0 v1 v2 v3 v4 v5 :=
  ⟨below_keep r.bel hb r.bel.size, r.res.keep hb, r.box.keep hb, r.ptr.keep hb, r.prt.keep hb, r.gne, r.hne⟩

theorem RS.set0 {w W : World} {g h : Nat} {P : List ByteArray} {v0 v1 v2 v3 v4 v5 : Value} (r : RS w W g h P v0 v1 v2 v3 v4 v5) (u : Value) : RS w (W.setCell ⟨w.heap.size + 1, 0, none⟩ u) g h P u v1 v2 v3 v4 v5 := by
  have hs : (W.setCell ⟨w.heap.size + 1, 0, none⟩ u).heap.size = W.heap.size := by simp
  have ho : ∀ k, k ≠ w.heap.size + 1 → (W.setCell ⟨w.heap.size + 1, 0, none⟩ u).heap[k]? = W.heap[k]? := fun k hk => heap_setCell_other _ _ _ _ (by exact hk)
  have hg := r.gne
  have hh := r.hne
  refine ⟨r.bel.setCell (p := ⟨w.heap.size + 1, 0, none⟩) (Nat.le_succ _) _, (ho _ (by omega)).trans r.res, ?_, (ho _ (by omega)).trans r.ptr, r.prt.keepH (Nat.le_of_eq hs.symm) (ho _ (by omega)), r.gne, r.hne⟩
  have h1 := Lib.heap_setCell_same (i := 0) r.box u
  unfold At6
  rw [h1]
  rfl

theorem RS.set1 {w W : World} {g h : Nat} {P : List ByteArray} {v0 v1 v2 v3 v4 v5 : Value} (r : RS w W g h P v0 v1 v2 v3 v4 v5) (u : Value) : RS w (W.setCell ⟨w.heap.size + 1, 1, none⟩ u) g h P v0 u v2 v3 v4 v5 := by
  have hs : (W.setCell ⟨w.heap.size + 1, 1, none⟩ u).heap.size = W.heap.size := by simp
  have ho : ∀ k, k ≠ w.heap.size + 1 → (W.setCell ⟨w.heap.size + 1, 1, none⟩ u).heap[k]? = W.heap[k]? := fun k hk => heap_setCell_other _ _ _ _ (by exact hk)
  have hg := r.gne
  have hh := r.hne
  refine ⟨r.bel.setCell (p := ⟨w.heap.size + 1, 1, none⟩) (Nat.le_succ _) _, (ho _ (by omega)).trans r.res, ?_, (ho _ (by omega)).trans r.ptr, r.prt.keepH (Nat.le_of_eq hs.symm) (ho _ (by omega)), r.gne, r.hne⟩
  have h1 := Lib.heap_setCell_same (i := 1) r.box u
  unfold At6
  rw [h1]
  rfl

theorem RS.set2 {w W : World} {g h : Nat} {P : List ByteArray} {v0 v1 v2 v3 v4 v5 : Value} (r : RS w W g h P v0 v1 v2 v3 v4 v5) (u : Value) : RS w (W.setCell ⟨w.heap.size + 1, 2, none⟩ u) g h P v0 v1 u v3 v4 v5 := by
  have hs : (W.setCell ⟨w.heap.size + 1, 2, none⟩ u).heap.size = W.heap.size := by simp
  have ho : ∀ k, k ≠ w.heap.size + 1 → (W.setCell ⟨w.heap.size + 1, 2, none⟩ u).heap[k]? = W.heap[k]? := fun k hk => heap_setCell_other _ _ _ _ (by exact hk)
  have hg := r.gne
  have hh := r.hne
  refine ⟨r.bel.setCell (p := ⟨w.heap.size + 1, 2, none⟩) (Nat.le_succ _) _, (ho _ (by omega)).trans r.res, ?_, (ho _ (by omega)).trans r.ptr, r.prt.keepH (Nat.le_of_eq hs.symm) (ho _ (by omega)), r.gne, r.hne⟩
  have h1 := Lib.heap_setCell_same (i := 2) r.box u
  unfold At6
  rw [h1]
  rfl

theorem RS.set3 {w W : World} {g h : Nat} {P : List ByteArray} {v0 v1 v2 v3 v4 v5 : Value} (r : RS w W g h P v0 v1 v2 v3 v4 v5) (u : Value) : RS w (W.setCell ⟨w.heap.size + 1, 3, none⟩ u) g h P v0 v1 v2 u v4 v5 := by
  have hs : (W.setCell ⟨w.heap.size + 1, 3, none⟩ u).heap.size = W.heap.size := by simp
  have ho : ∀ k, k ≠ w.heap.size + 1 → (W.setCell ⟨w.heap.size + 1, 3, none⟩ u).heap[k]? = W.heap[k]? := fun k hk => heap_setCell_other _ _ _ _ (by exact hk)
  have hg := r.gne
  have hh := r.hne
  refine ⟨r.bel.setCell (p := ⟨w.heap.size + 1, 3, none⟩) (Nat.le_succ _) _, (ho _ (by omega)).trans r.res, ?_, (ho _ (by omega)).trans r.ptr, r.prt.keepH (Nat.le_of_eq hs.symm) (ho _ (by omega)), r.gne, r.hne⟩
  have h1 := Lib.heap_setCell_same (i := 3) r.box u
  unfold At6
  rw [h1]
  rfl

theorem RS.set4 {w W : World} {g h : Nat} {P : List ByteArray} {v0 v1 v2 v3 v4 v5 : Value} (r : RS w W g h P v0 v1 v2 v3 v4 v5) (u : Value) : RS w (W.setCell ⟨w.heap.size + 1, 4, none⟩ u) g h P v0 v1 v2 v3 u v5 := by
  have hs : (W.setCell ⟨w.heap.size + 1, 4, none⟩ u).heap.size = W.heap.size := by simp
  have ho : ∀ k, k ≠ w.heap.size + 1 → (W.setCell ⟨w.heap.size + 1, 4, none⟩ u).heap[k]? = W.heap[k]? := fun k hk => heap_setCell_other _ _ _ _ (by exact hk)
  have hg := r.gne
  have hh := r.hne
  refine ⟨r.bel.setCell (p := ⟨w.heap.size + 1, 4, none⟩) (Nat.le_succ _) _, (ho _ (by omega)).trans r.res, ?_, (ho _ (by omega)).trans r.ptr, r.prt.keepH (Nat.le_of_eq hs.symm) (ho _ (by omega)), r.gne, r.hne⟩
  have h1 := Lib.heap_setCell_same (i := 4) r.box u
  unfold At6
  rw [h1]
  rfl

theorem RS.set5 {w W : World} {g h : Nat} {P : List ByteArray} {v0 v1 v2 v3 v4 v5 : Value} (r : RS w W g h P v0 v1 v2 v3 v4 v5) (u : Value) : RS w (W.setCell ⟨w.heap.size + 1, 5, none⟩ u) g h P v0 v1 v2 v3 v4 u := by
  have hs : (W.setCell ⟨w.heap.size + 1, 5, none⟩ u).heap.size = W.heap.size := by simp
  have ho : ∀ k, k ≠ w.heap.size + 1 → (W.setCell ⟨w.heap.size + 1, 5, none⟩ u).heap[k]? = W.heap[k]? := fun k hk => heap_setCell_other _ _ _ _ (by exact hk)
  have hg := r.gne
  have hh := r.hne
  refine ⟨r.bel.setCell (p := ⟨w.heap.size + 1, 5, none⟩) (Nat.le_succ _) _, (ho _ (by omega)).trans r.res, ?_, (ho _ (by omega)).trans r.ptr, r.prt.keepH (Nat.le_of_eq hs.symm) (ho _ (by omega)), r.gne, r.hne⟩
  have h1 := Lib.heap_setCell_same (i := 5) r.box u
  unfold At6
  rw [h1]
  rfl

theorem rs_new {w W1 W2 : World} {g : Nat} {P : List ByteArray} (h1 : PtrsAt W1 g (w.heap.size + 1)) (hb1 : Below ((w.alloc (.cells #[.int .i64 0, .int .i64 0, .int .i64 0, .int .i64 0, .int .i64 0, .int .i64 0] 49)).alloc (.cells #[.int .i64 0, .int .i64 0, .int .i64 0, .int .i64 0, .int .i64 0, .int .i64 0] 49)).heap.size ((w.alloc (.cells #[.int .i64 0, .int .i64 0, .int .i64 0, .int .i64 0, .int .i64 0, .int .i64 0] 49)).alloc (.cells #[.int .i64 0, .int .i64 0, .int .i64 0, .int .i64 0, .int .i64 0, .int .i64 0] 49)) W1) (hg : w.heap.size + 2 ≤ g) (hp : PaAt W2 W1.heap.size P) (hb2 : Below W1.heap.size W1 W2) : RS w W2 g W1.heap.size P (.int .i64 0) (.int .i64 0) (.int .i64 0) (.int .i64 0) (.int .i64 0) (.int .i64 0) := by
  have hz : ((w.alloc (.cells #[.int .i64 0, .int .i64 0, .int .i64 0, .int .i64 0, .int .i64 0, .int .i64 0] 49)).alloc (.cells #[.int .i64 0, .int .i64 0, .int .i64 0, .int .i64 0, .int .i64 0, .int .i64 0] 49)).heap.size = w.heap.size + 2 := by simp
  have a0 : At6 49 ((w.alloc (.cells #[.int .i64 0, .int .i64 0, .int .i64 0, .int .i64 0, .int .i64 0, .int .i64 0] 49)).alloc (.cells #[.int .i64 0, .int .i64 0, .int .i64 0, .int .i64 0, .int .i64 0, .int .i64 0] 49)) w.heap.size (.int .i64 0) (.int .i64 0) (.int .i64 0) (.int .i64 0) (.int .i64 0) (.int .i64 0) := (at6_new 49 w _ _ _ _ _ _).alloc _
  have a1 : At6 49 ((w.alloc (.cells #[.int .i64 0, .int .i64 0, .int .i64 0, .int .i64 0, .int .i64 0, .int .i64 0] 49)).alloc (.cells #[.int .i64 0, .int .i64 0, .int .i64 0, .int .i64 0, .int .i64 0, .int .i64 0] 49)) (w.heap.size + 1) (.int .i64 0) (.int .i64 0) (.int .i64 0) (.int .i64 0) (.int .i64 0) (.int .i64 0) := by
    have := at6_new 49 (w.alloc (.cells #[.int .i64 0, .int .i64 0, .int .i64 0, .int .i64 0, .int .i64 0, .int .i64 0] 49)) (.int .i64 0) (.int .i64 0) (.int .i64 0) (.int .i64 0) (.int .i64 0) (.int .i64 0)
    rw [World.size_alloc] at this
    exact this
  have hb0 : Below w.heap.size w ((w.alloc (.cells #[.int .i64 0, .int .i64 0, .int .i64 0, .int .i64 0, .int .i64 0, .int .i64 0] 49)).alloc (.cells #[.int .i64 0, .int .i64 0, .int .i64 0, .int .i64 0, .int .i64 0, .int .i64 0] 49)) := ((Below.refl _ _).alloc (Nat.le_refl _) _).alloc (by simp) _
  have hs := hb1.size
  rw [hz] at hs
  exact ⟨below_keep (below_keep hb0 hb1 hb0.size) hb2 (by omega), (a0.keep hb1).keep hb2, (a1.keep hb1).keep hb2, h1.keep hb2, hp, hg, hs⟩
end Go.Proofs.YtdpgfnnhbfkacaaGreatDoor.Step
