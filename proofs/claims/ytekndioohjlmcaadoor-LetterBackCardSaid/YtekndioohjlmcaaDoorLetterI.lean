/-
  The contract of the program's Text: any letter, where the table of the powers of ten stands; what was there stays as it was.
-/
import Derived.Test.YtekndioohjlmcaaDoorLetterH
import Derived.Deep.RegionHeld3
set_option linter.unusedVariables false
set_option linter.unusedSimpArgs false
set_option maxRecDepth 4000
namespace Go.Proofs.YtekndioohjlmcaaDoor.Letter
open Go.RowKit LeP
open Go.Proofs.YtekndioohjlmcaaDoor.Kt

theorem reason_below (n : Int) (s : ByteArray) (hs : bs (whyL n) = s) (w : World) : Calls Tryd.prog 24 #[.int .i64 n] w fun e w' => e = .returned (.string s) ∧ Below w.heap.size w w' := by
  refine (reason_is n s hs w).mono ?_
  rintro e w' ⟨rfl, rfl⟩
  exact ⟨rfl, Below.refl _ w⟩
theorem digits_say (n : Int) (s : ByteArray) (hs : bs (Lib.itoa n) = s) (h0 : 0 ≤ n) (h1 : n ≤ 1099511627776) (w : World) (ht : Num.Tab w) : Calls Tryd.prog 23 #[.int .i64 n] w fun e w' => e = .returned (.string s) ∧ Below w.heap.size w w' := by
  rw [← hs]; exact digits_is n h0 h1 w ht
theorem why_len (n : Int) : (bs (whyL n)).size ≤ 21 := by
  unfold whyL
  split
  · decide
  · split <;> decide

set_option maxHeartbeats 8000000 in
theorem text_any (x0 x1 : Int) (x2 : Bool) (x3 x4 : Int) (w : World) (ht : Num.Tab w) :
    Calls Tryd.prog 11 #[.agg #[.int .i64 x0, .int .i64 x1, .bool x2, .int .i64 x3, .int .i64 x4]] w fun e w' => e = .returned (.string (bs (textL ⟨x0, x1, x2, x3, x4⟩))) ∧ Below w.heap.size w w' := by
  have hB0 := bx5_new 24 w (.int .i64 x0) (.int .i64 x1) (.bool x2) (.int .i64 x3) (.int .i64 x4)
  obtain ⟨w0, hw0⟩ : ∃ w0, w.alloc (.cells #[.int .i64 x0, .int .i64 x1, .bool x2, .int .i64 x3, .int .i64 x4] 24) = w0 := ⟨_, rfl⟩
  rw [hw0] at hB0
  have HW := Lib.hid hw0
  have HB0 := Lib.hid hB0
  have HT := Lib.hid ht
  obtain ⟨d0, d1, d2, d3, d4⟩ := cells5 hB0.box
  obtain ⟨s, hs⟩ : ∃ s, bs (textL ⟨x0, x1, x2, x3, x4⟩) = s := ⟨_, rfl⟩
  rw [hs]
  have HV := Lib.hid hs
  clear hw0 hB0 ht hs
  cases h1 : oneL ⟨x0, x1, x2, x3, x4⟩ with
  | false =>
    have CV := Lib.hid (valid_is x0 x1 x2 x3 x4 false h1)
    have HE : Hid ((⟨#[]⟩ : ByteArray) = s) := by show _ = _; rw [← HV.out]; unfold textL; rw [h1]; rfl
    clear h1
    go_enter Tryd.func11, Tryd.ntmps11
    go_wp2_with fail
    rw [show w.alloc (.cells #[.int .i64 x0, .int .i64 x1, .bool x2, .int .i64 x3, .int .i64 x4] 24) = w0 from HW.out]
    go_wp2_with fail
    refine (CV.out w0).mono ?_
    rintro e w1 ⟨rfl, hb⟩
    have HB1 := Lib.hid (HB0.out.keep hb)
    clear hb d0 d1 d2 d3 d4
    go_wp2_with fail
    go_ret
    exact ⟨ret_str HE.out, HB1.out.bel⟩
  | true =>
    have CV := Lib.hid (valid_is x0 x1 x2 x3 x4 true h1)
    have ho := oneL_iff.1 h1
    have s0 : 0 ≤ x0 := by have := ho.saga0; simp only at this; omega
    have HS0 := Lib.hid s0
    have HS1 : Hid (x0 ≤ 1099511627776) := ho.saga1
    have HP0 : Hid (0 ≤ x1) := ho.step0
    have p1 : x1 ≤ 1099511627776 := by have := ho.step1; simp only at this; omega
    have HP1 := Lib.hid p1
    have HA0 : Hid (0 ≤ x4) := ho.at0
    have HA1 : Hid (x4 ≤ 1099511627776) := ho.at1
    obtain ⟨D0, hD0⟩ : ∃ D0, bs (Lib.itoa x0) = D0 := ⟨_, rfl⟩
    obtain ⟨D1, hD1⟩ : ∃ D1, bs (Lib.itoa x1) = D1 := ⟨_, rfl⟩
    obtain ⟨D4, hD4⟩ : ∃ D4, bs (Lib.itoa x4) = D4 := ⟨_, rfl⟩
    obtain ⟨DW, hDW⟩ : ∃ DW, bs (whyL x3) = DW := ⟨_, rfl⟩
    have HZ : Hid (D0.size ≤ 21 ∧ D1.size ≤ 21 ∧ D4.size ≤ 21 ∧ DW.size ≤ 21) := by
      refine ⟨?_, ?_, ?_, ?_⟩
      · rw [← hD0]; exact itoa_len HS0.out HS1.out
      · rw [← hD1]; exact itoa_len HP0.out HP1.out
      · rw [← hD4]; exact itoa_len HA0.out HA1.out
      · rw [← hDW]; exact why_len _
    have HD0 := Lib.hid hD0; have HD1 := Lib.hid hD1; have HD4 := Lib.hid hD4; have HDW := Lib.hid hDW
    have H1 := Lib.hid h1
    clear h1 ho s0 p1 hD0 hD1 hD4 hDW
    go_enter Tryd.func11, Tryd.ntmps11
    go_wp2_with fail
    rw [show w.alloc (.cells #[.int .i64 x0, .int .i64 x1, .bool x2, .int .i64 x3, .int .i64 x4] 24) = w0 from HW.out]
    go_wp2_with fail
    refine (CV.out w0).mono ?_
    rintro e w1 ⟨rfl, hb⟩
    have HB1 := Lib.hid (HB0.out.keep hb)
    clear hb d0 d1 d2 d3 d4
    have hN := wd_new w1
    have hb2 := (Below.refl w1.heap.size w1).alloc (Nat.le_refl _) (.cells #[.slice none 0 0] 40)
    have hlt := HB1.out.lt
    obtain ⟨w2, hw2⟩ : ∃ w2, w1.alloc (.cells #[.slice none 0 0] 40) = w2 := ⟨_, rfl⟩
    have HB2 := HB1.out.keep hb2
    rw [hw2] at hN HB2
    obtain ⟨b, hbx⟩ : ∃ b, w1.heap.size = b := ⟨_, rfl⟩
    rw [hbx] at hN hlt
    have HW2 := Lib.hid hw2
    have HBX := Lib.hid hbx
    have HB2 := Lib.hid HB2
    have HD2 := Lib.hid hN
    have HLT := Lib.hid hlt
    clear hN hb2 hlt hw2 hbx
    go_wp2_with fail
    rw [show w1.alloc (.cells #[.slice none 0 0] 40) = w2 from HW2.out]
    rw [show w1.heap.size = b from HBX.out]
    have KS : Hid (∀ w', Below b w2 w' → w'.cell? ⟨w.heap.size, 0, none⟩ = some (.int .i64 x0) ∧ w'.cell? ⟨w.heap.size, 1, none⟩ = some (.int .i64 x1)) := fun w' hb => (by
      obtain ⟨c0, c1, c2, c3, c4⟩ := cells5 (HB2.out.box.keepB hb HLT.out)
      exact ⟨c0, c1⟩)
    have HT2 := Lib.hid (fun W (hW : Below b w2 W) => HT.out.keep (HB2.out.bel.trans (hW.mono (Nat.le_of_lt HLT.out))))
    have CA := Lib.hid (fun W (hW : Below b w2 W) => digits_say x0 D0 HD0.out HS0.out HS1.out W (HT2.out W hW))
    have CB := Lib.hid (fun W (hW : Below b w2 W) => digits_say x1 D1 HD1.out HP0.out HP1.out W (HT2.out W hW))
    have HSB := Lib.hid (Nat.le_of_succ_le (wd_lt HD2.out))
    have CC := Lib.hid (fun W (hW : Below w2.heap.size w2 W) => add_any b W.heap.size 4 4 ([] : List ByteArray) ([⟨#[115, 97, 103, 97]⟩, D0, ⟨#[115, 116, 101, 112]⟩, D1] : List ByteArray) rfl (by simp) (by omega) (W.alloc (.cells #[.string ⟨#[115, 97, 103, 97]⟩, .string D0, .string ⟨#[115, 116, 101, 112]⟩, .string D1] 9)) (Wd.keep HD2.out (hW.alloc hW.size _)) (Rw.strs_block (heap_alloc_new W _) rfl))
    go_wp2_with fail
    apply djoin (F := fun W p => Wd W b (([] : List ByteArray) ++ ([⟨#[115, 97, 103, 97]⟩, D0, ⟨#[115, 116, 101, 112]⟩, D1] : List ByteArray)) ∧ Below b w2 W)
    · intro hG
      have n0 : Below w2.heap.size w2 w2.drew := (Below.refl _ w2).drew
      have b0 : Below b w2 w2.drew := n0.mono HSB.out
      have k0 := KS.out _ b0
      go_region_held3 (fun w' => w'.cell? ⟨w.heap.size, 0, none⟩ = some (.int .i64 x0) ∧ w'.cell? ⟨w.heap.size, 1, none⟩ = some (.int .i64 x1))
        (first | with_reducible exact k0 | with_reducible exact k4 | with_reducible exact k5 | with_reducible exact k6 | with_reducible exact k7)
        (first
          | ((with_reducible refine (CC.out w5 n5).mono ?_); rintro e w7 ⟨rfl, hD7, hb7⟩; have b7 := b6.trans hb7; have k7 := KS.out _ b7)
          | ((with_reducible refine (CB.out w4 b4).mono ?_); rintro e w5 ⟨rfl, hb5⟩; have n5 := below_keep n4 hb5 n4.size; have b5 := n5.mono HSB.out; have k5 := KS.out _ b5; have b6 := b5.alloc (Nat.le_trans HSB.out n5.size) (.cells #[.string ⟨#[115, 97, 103, 97]⟩, .string D0, .string ⟨#[115, 116, 101, 112]⟩, .string D1] 9); have k6 := KS.out _ b6)
          | ((with_reducible refine (CA.out w2.drew b0).mono ?_); rintro e w4 ⟨rfl, hb4⟩; have n4 := below_keep n0 hb4 n0.size; have b4 := n4.mono HSB.out; have k4 := KS.out _ b4))
      · have hF := And.intro hD7 b7
        generalize w5.heap.size = p
        exact hG w7 p hF
    · intro W p hF
      obtain ⟨hD9, hb9⟩ := hF
      have HD9 := Lib.hid hD9
      have HB9 : Hid (Bx5 24 w W (.int .i64 x0) (.int .i64 x1) (.bool x2) (.int .i64 x3) (.int .i64 x4)) := ⟨HB2.out.bel.trans (hb9.mono (Nat.le_of_lt HLT.out)), HB2.out.box.keepB hb9 HLT.out⟩
      clear hD9 hb9 KS HT2 CA CB CC HSB
      obtain ⟨c0, c1, c2, c3, c4⟩ := cells5 HB9.out.box
      cases x2 with
      | true =>
        have CC := Lib.hid (add_any b W.heap.size 1 1 (([] : List ByteArray) ++ ([⟨#[115, 97, 103, 97]⟩, D0, ⟨#[115, 116, 101, 112]⟩, D1] : List ByteArray)) ([⟨#[98, 97, 99, 107]⟩] : List ByteArray) rfl (by simp) (by omega) (W.alloc (.cells #[.string ⟨#[98, 97, 99, 107]⟩] 9)) (Wd.keep HD9.out ((Below.refl W.heap.size W).alloc (Nat.le_refl _) _)) (Rw.strs_block (heap_alloc_new W _) rfl))
        have HBA := Lib.hid ((Below.refl W.heap.size W).alloc (Nat.le_refl _) (.cells #[.string ⟨#[98, 97, 99, 107]⟩] 9))
        have HSW := Lib.hid (Nat.le_of_succ_le (wd_lt HD9.out))
        go_wp2_with fail
        refine CC.out.mono ?_
        rintro e u2 ⟨rfl, hD, hb⟩
        have hb3 : Below b W u2 := (HBA.out.mono HSW.out).trans hb
        have HB3 : Hid (Bx5 24 w u2 (.int .i64 x0) (.int .i64 x1) (.bool true) (.int .i64 x3) (.int .i64 x4)) := ⟨HB9.out.bel.trans (hb3.mono (Nat.le_of_lt HLT.out)), HB9.out.box.keepB hb3 HLT.out⟩
        have HD3 := Lib.hid hD
        clear hD hb hb3 CC HBA HSW HD2 HB2 HD9 HB9 c0 c1 c2 c3 c4
        have HB2 := Lib.hid HB3.out
        have HD2 := Lib.hid HD3.out
        clear HB3 HD3
        rename_i W0
        have HSZ : Hid (∀ x ∈ (((([] : List ByteArray) ++ ([⟨#[115, 97, 103, 97]⟩, D0, ⟨#[115, 116, 101, 112]⟩, D1] : List ByteArray)) ++ ([⟨#[98, 97, 99, 107]⟩] : List ByteArray)) ++ ([DW, ⟨#[97, 116]⟩, D4] : List ByteArray)), x.size ≤ 21) := fun x hx => (by
          simp only [List.mem_append, List.mem_cons, List.mem_nil_iff, or_false, false_or] at hx
          have z0 := HZ.out.1; have z1 := HZ.out.2.1; have z4 := HZ.out.2.2.1; have zw := HZ.out.2.2.2
          rcases hx with (((rfl | rfl | rfl | rfl) | rfl) | (rfl | rfl | rfl)) <;> first | assumption | decide)
        have HS : Hid (Lib.join ((((([] : List ByteArray) ++ ([⟨#[115, 97, 103, 97]⟩, D0, ⟨#[115, 116, 101, 112]⟩, D1] : List ByteArray)) ++ ([⟨#[98, 97, 99, 107]⟩] : List ByteArray)) ++ ([DW, ⟨#[97, 116]⟩, D4] : List ByteArray)).map (·.data.toList)) [32] = s.data.toList) := by
          show _ = _
          rw [← HV.out, ← HD0.out, ← HD1.out, ← HD4.out, ← HDW.out]
          unfold textL
          rw [if_pos H1.out]
          rfl
        have KS : Hid (∀ w', Below b u2 w' → w'.cell? ⟨w.heap.size, 3, none⟩ = some (.int .i64 x3) ∧ w'.cell? ⟨w.heap.size, 4, none⟩ = some (.int .i64 x4)) := fun w' hb => (by
          obtain ⟨c0, c1, c2, c3, c4⟩ := cells5 (HB2.out.box.keepB hb HLT.out)
          exact ⟨c3, c4⟩)
        have HT2 := Lib.hid (fun W (hW : Below b u2 W) => HT.out.keep (HB2.out.bel.trans (hW.mono (Nat.le_of_lt HLT.out))))
        have CA := Lib.hid (fun W (hW : Below b u2 W) => reason_below x3 DW HDW.out W)
        have CB := Lib.hid (fun W (hW : Below b u2 W) => digits_say x4 D4 HD4.out HA0.out HA1.out W (HT2.out W hW))
        have HSB := Lib.hid (Nat.le_of_succ_le (wd_lt HD2.out))
        have CC := Lib.hid (fun W (hW : Below u2.heap.size u2 W) => add_any b W.heap.size 3 3 ((([] : List ByteArray) ++ ([⟨#[115, 97, 103, 97]⟩, D0, ⟨#[115, 116, 101, 112]⟩, D1] : List ByteArray)) ++ ([⟨#[98, 97, 99, 107]⟩] : List ByteArray)) ([DW, ⟨#[97, 116]⟩, D4] : List ByteArray) rfl (by simp) (by omega) (W.alloc (.cells #[.string DW, .string ⟨#[97, 116]⟩, .string D4] 9)) (Wd.keep HD2.out (hW.alloc hW.size _)) (Rw.strs_block (heap_alloc_new W _) rfl))
        go_wp2_with fail
        apply djoin (F := fun W p => Wd W b (((([] : List ByteArray) ++ ([⟨#[115, 97, 103, 97]⟩, D0, ⟨#[115, 116, 101, 112]⟩, D1] : List ByteArray)) ++ ([⟨#[98, 97, 99, 107]⟩] : List ByteArray)) ++ ([DW, ⟨#[97, 116]⟩, D4] : List ByteArray)) ∧ Below b u2 W)
        · intro hG
          have n0 : Below u2.heap.size u2 u2.drew := (Below.refl _ u2).drew
          have b0 : Below b u2 u2.drew := n0.mono HSB.out
          have k0 := KS.out _ b0
          go_region_held3 (fun w' => w'.cell? ⟨w.heap.size, 3, none⟩ = some (.int .i64 x3) ∧ w'.cell? ⟨w.heap.size, 4, none⟩ = some (.int .i64 x4))
            (first | with_reducible exact k0 | with_reducible exact k4 | with_reducible exact k5 | with_reducible exact k6 | with_reducible exact k7)
            (first
              | ((with_reducible refine (CC.out w5 n5).mono ?_); rintro e w7 ⟨rfl, hD7, hb7⟩; have b7 := b6.trans hb7; have k7 := KS.out _ b7)
              | ((with_reducible refine (CB.out w4 b4).mono ?_); rintro e w5 ⟨rfl, hb5⟩; have n5 := below_keep n4 hb5 n4.size; have b5 := n5.mono HSB.out; have k5 := KS.out _ b5; have b6 := b5.alloc (Nat.le_trans HSB.out n5.size) (.cells #[.string DW, .string ⟨#[97, 116]⟩, .string D4] 9); have k6 := KS.out _ b6)
              | ((with_reducible refine (CA.out u2.drew b0).mono ?_); rintro e w4 ⟨rfl, hb4⟩; have n4 := below_keep n0 hb4 n0.size; have b4 := n4.mono HSB.out; have k4 := KS.out _ b4))
          · have hF := And.intro hD7 b7
            generalize w5.heap.size = p
            exact hG w7 p hF
        · intro W p hF
          obtain ⟨hD9, hb9⟩ := hF
          have HD9 := Lib.hid hD9
          have HB9 : Hid (Bx5 24 w W (.int .i64 x0) (.int .i64 x1) (.bool true) (.int .i64 x3) (.int .i64 x4)) := ⟨HB2.out.bel.trans (hb9.mono (Nat.le_of_lt HLT.out)), HB2.out.box.keepB hb9 HLT.out⟩
          clear hD9 hb9 KS HT2 CA CB CC HSB
          obtain ⟨v9, c9, CJ⟩ := join_any b (((([] : List ByteArray) ++ ([⟨#[115, 97, 103, 97]⟩, D0, ⟨#[115, 116, 101, 112]⟩, D1] : List ByteArray)) ++ ([⟨#[98, 97, 99, 107]⟩] : List ByteArray)) ++ ([DW, ⟨#[97, 116]⟩, D4] : List ByteArray)) s HS.out HSZ.out (by simp) (by simp) W HD9.out
          have CJ := Lib.hid CJ
          go_wp2_with fail
          refine CJ.out.mono ?_
          rintro e w9 ⟨rfl, hb⟩
          have HBE := Lib.hid (HB9.out.keep hb)
          clear hb
          go_wp2_with fail
          go_ret
          exact ⟨rfl, HBE.out.bel⟩
      | false =>
        clear HD2 HB2 c0 c1 c2 c3 c4
        obtain ⟨u2, hu2⟩ : ∃ u2, W = u2 := ⟨_, rfl⟩
        subst hu2
        have HB2 := Lib.hid HB9.out
        have HD2 := Lib.hid HD9.out
        have q2 := (cells5 HB2.out.box).2.2.1
        clear HB9 HD9
        go_wp2_with fail
        clear q2
        obtain ⟨u2, hu2⟩ : ∃ u2, W = u2 := ⟨_, rfl⟩
        rw [hu2] at HB2 HD2 ⊢
        have HSZ : Hid (∀ x ∈ ((([] : List ByteArray) ++ ([⟨#[115, 97, 103, 97]⟩, D0, ⟨#[115, 116, 101, 112]⟩, D1] : List ByteArray)) ++ ([DW, ⟨#[97, 116]⟩, D4] : List ByteArray)), x.size ≤ 21) := fun x hx => (by
          simp only [List.mem_append, List.mem_cons, List.mem_nil_iff, or_false, false_or] at hx
          have z0 := HZ.out.1; have z1 := HZ.out.2.1; have z4 := HZ.out.2.2.1; have zw := HZ.out.2.2.2
          rcases hx with ((rfl | rfl | rfl | rfl) | (rfl | rfl | rfl)) <;> first | assumption | decide)
        have HS : Hid (Lib.join (((([] : List ByteArray) ++ ([⟨#[115, 97, 103, 97]⟩, D0, ⟨#[115, 116, 101, 112]⟩, D1] : List ByteArray)) ++ ([DW, ⟨#[97, 116]⟩, D4] : List ByteArray)).map (·.data.toList)) [32] = s.data.toList) := by
          show _ = _
          rw [← HV.out, ← HD0.out, ← HD1.out, ← HD4.out, ← HDW.out]
          unfold textL
          rw [if_pos H1.out]
          rfl
        have KS : Hid (∀ w', Below b u2 w' → w'.cell? ⟨w.heap.size, 3, none⟩ = some (.int .i64 x3) ∧ w'.cell? ⟨w.heap.size, 4, none⟩ = some (.int .i64 x4)) := fun w' hb => (by
          obtain ⟨c0, c1, c2, c3, c4⟩ := cells5 (HB2.out.box.keepB hb HLT.out)
          exact ⟨c3, c4⟩)
        have HT2 := Lib.hid (fun W (hW : Below b u2 W) => HT.out.keep (HB2.out.bel.trans (hW.mono (Nat.le_of_lt HLT.out))))
        have CA := Lib.hid (fun W (hW : Below b u2 W) => reason_below x3 DW HDW.out W)
        have CB := Lib.hid (fun W (hW : Below b u2 W) => digits_say x4 D4 HD4.out HA0.out HA1.out W (HT2.out W hW))
        have HSB := Lib.hid (Nat.le_of_succ_le (wd_lt HD2.out))
        have CC := Lib.hid (fun W (hW : Below u2.heap.size u2 W) => add_any b W.heap.size 3 3 (([] : List ByteArray) ++ ([⟨#[115, 97, 103, 97]⟩, D0, ⟨#[115, 116, 101, 112]⟩, D1] : List ByteArray)) ([DW, ⟨#[97, 116]⟩, D4] : List ByteArray) rfl (by simp) (by omega) (W.alloc (.cells #[.string DW, .string ⟨#[97, 116]⟩, .string D4] 9)) (Wd.keep HD2.out (hW.alloc hW.size _)) (Rw.strs_block (heap_alloc_new W _) rfl))
        go_wp2_with fail
        apply djoin (F := fun W p => Wd W b ((([] : List ByteArray) ++ ([⟨#[115, 97, 103, 97]⟩, D0, ⟨#[115, 116, 101, 112]⟩, D1] : List ByteArray)) ++ ([DW, ⟨#[97, 116]⟩, D4] : List ByteArray)) ∧ Below b u2 W)
        · intro hG
          have n0 : Below u2.heap.size u2 u2.drew := (Below.refl _ u2).drew
          have b0 : Below b u2 u2.drew := n0.mono HSB.out
          have k0 := KS.out _ b0
          go_region_held3 (fun w' => w'.cell? ⟨w.heap.size, 3, none⟩ = some (.int .i64 x3) ∧ w'.cell? ⟨w.heap.size, 4, none⟩ = some (.int .i64 x4))
            (first | with_reducible exact k0 | with_reducible exact k4 | with_reducible exact k5 | with_reducible exact k6 | with_reducible exact k7)
            (first
              | ((with_reducible refine (CC.out w5 n5).mono ?_); rintro e w7 ⟨rfl, hD7, hb7⟩; have b7 := b6.trans hb7; have k7 := KS.out _ b7)
              | ((with_reducible refine (CB.out w4 b4).mono ?_); rintro e w5 ⟨rfl, hb5⟩; have n5 := below_keep n4 hb5 n4.size; have b5 := n5.mono HSB.out; have k5 := KS.out _ b5; have b6 := b5.alloc (Nat.le_trans HSB.out n5.size) (.cells #[.string DW, .string ⟨#[97, 116]⟩, .string D4] 9); have k6 := KS.out _ b6)
              | ((with_reducible refine (CA.out u2.drew b0).mono ?_); rintro e w4 ⟨rfl, hb4⟩; have n4 := below_keep n0 hb4 n0.size; have b4 := n4.mono HSB.out; have k4 := KS.out _ b4))
          · have hF := And.intro hD7 b7
            generalize w5.heap.size = p
            exact hG w7 p hF
        · intro W p hF
          obtain ⟨hD9, hb9⟩ := hF
          have HD9 := Lib.hid hD9
          have HB9 : Hid (Bx5 24 w W (.int .i64 x0) (.int .i64 x1) (.bool false) (.int .i64 x3) (.int .i64 x4)) := ⟨HB2.out.bel.trans (hb9.mono (Nat.le_of_lt HLT.out)), HB2.out.box.keepB hb9 HLT.out⟩
          clear hD9 hb9 KS HT2 CA CB CC HSB
          obtain ⟨v9, c9, CJ⟩ := join_any b ((([] : List ByteArray) ++ ([⟨#[115, 97, 103, 97]⟩, D0, ⟨#[115, 116, 101, 112]⟩, D1] : List ByteArray)) ++ ([DW, ⟨#[97, 116]⟩, D4] : List ByteArray)) s HS.out HSZ.out (by simp) (by simp) W HD9.out
          have CJ := Lib.hid CJ
          go_wp2_with fail
          refine CJ.out.mono ?_
          rintro e w9 ⟨rfl, hb⟩
          have HBE := Lib.hid (HB9.out.keep hb)
          clear hb
          go_wp2_with fail
          go_ret
          exact ⟨rfl, HBE.out.bel⟩

end Go.Proofs.YtekndioohjlmcaaDoor.Letter
