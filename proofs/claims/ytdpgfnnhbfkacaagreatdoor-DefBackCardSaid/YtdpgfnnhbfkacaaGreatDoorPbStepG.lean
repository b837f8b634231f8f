/-
  The contract of the program's Read: any text of up to 300 octets, where the library's variables stand; what was there stays as it was.
-/
import Derived.Test.YtdpgfnnhbfkacaaGreatDoorPbNumE
import Derived.Test.YtdpgfnnhbfkacaaGreatDoorPbStepD
import Derived.Deep.RegionHeld3
set_option linter.unusedVariables false
set_option linter.unusedSimpArgs false
set_option maxRecDepth 4000
set_option maxRecDepth 4000
namespace Go.Proofs.YtdpgfnnhbfkacaaGreatDoor.Step
open Go.RowKit StP
open Go.Proofs.YtdpgfnnhbfkacaaGreatDoor.Kt
theorem read_no {R : Option St} (h : R = none) : Ending.returned (.tuple #[.agg #[.int .i64 0, .int .i64 0, .int .i64 0, .int .i64 0, .int .i64 0, .int .i64 0], .int .i64 7]) = .returned (.tuple #[stV (gotS R), .int .i64 (errS R)]) := by subst h; rfl
theorem read_yes {R : Option St} {x0 x1 x2 x3 x4 x5 : Int} (h : R = some ⟨x0, x1, x2, x3, x4, x5⟩) : Ending.returned (.tuple #[.agg #[.int .i64 x0, .int .i64 x1, .int .i64 x2, .int .i64 x3, .int .i64 x4, .int .i64 x5], .int .i64 0]) = .returned (.tuple #[stV (gotS R), .int .i64 (errS R)]) := by subst h; rfl
theorem gjoin {G : Prop} {F P : World → Prop} (main : (∀ w, F w → P w) → G) (pf : ∀ w, F w → P w) : G := main pf

theorem opsB_at {w : World} {b : Nat} (h : At7 94 w b (.string ⟨#[]⟩) (.string ⟨#[104, 111, 108, 100]⟩) (.string ⟨#[97, 117, 116, 104]⟩) (.string ⟨#[107, 101, 101, 112]⟩) (.string ⟨#[98, 111, 111, 107]⟩) (.string ⟨#[115, 101, 110, 100]⟩) (.string ⟨#[116, 97, 107, 101]⟩)) : ∀ j x, opsB[j]? = some x → w.cell? ⟨b, j, none⟩ = some (.string x) := by
  intro j x hx
  rw [cell_of_heap h]
  unfold opsB at hx
  match j with
  | 0 => simp at hx; subst hx; rfl
  | 1 => simp at hx; subst hx; rfl
  | 2 => simp at hx; subst hx; rfl
  | 3 => simp at hx; subst hx; rfl
  | 4 => simp at hx; subst hx; rfl
  | 5 => simp at hx; subst hx; rfl
  | 6 => simp at hx; subst hx; rfl
  | k + 7 => simp at hx

theorem clsB_at {w : World} {b : Nat} (h : At4 96 w b (.string ⟨#[]⟩) (.string ⟨#[115, 111, 102, 116]⟩) (.string ⟨#[112, 105, 118, 111, 116]⟩) (.string ⟨#[102, 105, 114, 109]⟩)) : ∀ j x, clsB[j]? = some x → w.cell? ⟨b, j, none⟩ = some (.string x) := by
  intro j x hx
  rw [cell_of_heap h]
  unfold clsB at hx
  match j with
  | 0 => simp at hx; subst hx; rfl
  | 1 => simp at hx; subst hx; rfl
  | 2 => simp at hx; subst hx; rfl
  | 3 => simp at hx; subst hx; rfl
  | k + 4 => simp at hx

theorem index_say (g n : Nat) (l : List ByteArray) (p : ByteArray) (r : Int) (hr : ixUp p.data.toList 0 (l.map (·.data.toList)) = r) (w : World) (hl : l.length = n) (hn : n ≤ 100) (hc : ∀ j x, l[j]? = some x → w.cell? ⟨g, j, none⟩ = some (.string x)) :
    Calls Tryz.prog 101 #[.slice (some ⟨g, 0, none⟩) n n, .string p] w fun e w' => e = .returned (.int .i64 r) ∧ Below w.heap.size w w' := by
  refine (index_any g n l p r hr w hl hn hc).mono ?_
  rintro e w' ⟨rfl, rfl⟩
  exact ⟨rfl, Below.refl _ _⟩

set_option maxHeartbeats 8000000 in
theorem read_any (s : ByteArray) (w : World) (hs : s.size ≤ 300) (hv : Vars w) : Calls Tryz.prog 69 #[.string s] w fun e w' => e = .returned (.tuple #[stV (gotS (readS s.data.toList)), .int .i64 (errS (readS s.data.toList))]) ∧ Below w.heap.size w w' := by
  obtain ⟨R, hR⟩ : ∃ R, readS s.data.toList = R := ⟨_, rfl⟩
  rw [hR]
  have HR := Lib.hid ((prt_read s).trans hR)
  have HV := Lib.hid hv
  have HSZ := Lib.hid hs
  have CN := Lib.hid (numbers_any (w.heap.size + 1) ((w.alloc (.cells #[.int .i64 0, .int .i64 0, .int .i64 0, .int .i64 0, .int .i64 0, .int .i64 0] 49)).alloc (.cells #[.int .i64 0, .int .i64 0, .int .i64 0, .int .i64 0, .int .i64 0, .int .i64 0] 49)))
  clear hR hv
  go_enter Tryz.func69, Tryz.ntmps69
  go_wp2_with fail
  refine CN.out.mono ?_
  rintro e w1 ⟨g, rfl, hG, hb1, hg⟩
  have hg2 : w.heap.size + 2 ≤ g := by simpa using hg
  have hV1 : Vars w1 := HV.out.keep (below_keep (((Below.refl _ _).alloc (Nat.le_refl _) _).alloc (by simp) _) hb1 (by simp; omega))
  have CS := Lib.hid (split_call s w1 hs hV1)
  clear CN
  go_wp2_with fail
  refine CS.out.mono ?_
  rintro e w2 ⟨cp, rfl, hP, hb2⟩
  have HS2 := Lib.hid (rs_new hG hb1 hg2 hP hb2)
  obtain ⟨h, hh⟩ : ∃ h, w1.heap.size = h := ⟨_, rfl⟩
  rw [hh] at HS2
  obtain ⟨P, hPr⟩ : ∃ P, prt s = P := ⟨_, rfl⟩
  have HPZ := Lib.hid (prt_size s)
  have hP7 := prt_len s
  rw [hPr] at HS2 HR HPZ hP7
  rw [hh, hPr]
  obtain ⟨n, hn⟩ : ∃ n, P.length = n := ⟨_, rfl⟩
  rw [hn] at hP7
  rw [hn]
  clear hG hb1 hg hg2 hV1 CS hP hb2 hh hPr hs
  by_cases h6 : n = 6
  rotate_left
  · have HN : Hid (R = none) := by show _ = _; rw [← HR.out]; exact readQ_long (by rw [List.length_map, hn]; exact h6)
    have hq : ((n : Int) != 6) = true := by simp; omega
    clear HR
    obtain ⟨z0, z1, z2, z3, z4, z5⟩ := cells6 HS2.out.res
    obtain ⟨f0, f1, f2, f3, f4, f5⟩ := free6 HS2.out.res
    have HQ := Lib.hid (heap_put6 HS2.out.res (.int .i64 0) (.int .i64 0) (.int .i64 0) (.int .i64 0) (.int .i64 0) (.int .i64 0))
    have HBQ := Lib.hid (below_put6 HS2.out.bel (Nat.le_refl _) (.int .i64 0) (.int .i64 0) (.int .i64 0) (.int .i64 0) (.int .i64 0) (.int .i64 0))
    go_wp2_with fail
    exact bodyPost_ret (results_st (j := 2) (k := 3) rfl _ _ w.heap.size _ _ _ _ _ _ rfl HQ.out) rfl ⟨read_no HN.out, HBQ.out⟩
  subst h6
  clear hP7
  obtain ⟨p0, p1, p2, p3, p4, p5, rfl⟩ : ∃ p0 p1 p2 p3 p4 p5, P = [p0, p1, p2, p3, p4, p5] := by
    match P, hn with
    | [p0, p1, p2, p3, p4, p5], _ => exact ⟨p0, p1, p2, p3, p4, p5, rfl⟩
  clear hn
  go_wp2_with fail
  refine (ops_any w2).mono ?_
  rintro e w3 ⟨rfl, hb⟩
  have HS3 := Lib.hid (HS2.out.keep hb)
  clear hb HS2
  go_wp2_with fail
  refine (cls_any w3).mono ?_
  rintro e w4 ⟨rfl, hb⟩
  have HS4 := Lib.hid ((HS3.out.keep hb).keep (((Below.refl w4.heap.size w4).alloc (Nat.le_refl _) (.cells #[.string ⟨#[]⟩, .string ⟨#[104, 111, 108, 100]⟩, .string ⟨#[97, 117, 116, 104]⟩, .string ⟨#[107, 101, 101, 112]⟩, .string ⟨#[98, 111, 111, 107]⟩, .string ⟨#[115, 101, 110, 100]⟩, .string ⟨#[116, 97, 107, 101]⟩] 94)).alloc (by simp) (.cells #[.string ⟨#[]⟩, .string ⟨#[115, 111, 102, 116]⟩, .string ⟨#[112, 105, 118, 111, 116]⟩, .string ⟨#[102, 105, 114, 109]⟩] 96)))
  have hO := (at7_new 94 w4 (.string ⟨#[]⟩) (.string ⟨#[104, 111, 108, 100]⟩) (.string ⟨#[97, 117, 116, 104]⟩) (.string ⟨#[107, 101, 101, 112]⟩) (.string ⟨#[98, 111, 111, 107]⟩) (.string ⟨#[115, 101, 110, 100]⟩) (.string ⟨#[116, 97, 107, 101]⟩)).alloc (.cells #[.string ⟨#[]⟩, .string ⟨#[115, 111, 102, 116]⟩, .string ⟨#[112, 105, 118, 111, 116]⟩, .string ⟨#[102, 105, 114, 109]⟩] 96)
  have hC := at4_new 96 (w4.alloc (.cells #[.string ⟨#[]⟩, .string ⟨#[104, 111, 108, 100]⟩, .string ⟨#[97, 117, 116, 104]⟩, .string ⟨#[107, 101, 101, 112]⟩, .string ⟨#[98, 111, 111, 107]⟩, .string ⟨#[115, 101, 110, 100]⟩, .string ⟨#[116, 97, 107, 101]⟩] 94)) (.string ⟨#[]⟩) (.string ⟨#[115, 111, 102, 116]⟩) (.string ⟨#[112, 105, 118, 111, 116]⟩) (.string ⟨#[102, 105, 114, 109]⟩)
  rw [World.size_alloc] at hC
  have HO := Lib.hid hO
  have HC := Lib.hid hC
  clear hb HS3 hO hC
  obtain ⟨w5, hw5⟩ : ∃ w5, (w4.alloc (.cells #[.string ⟨#[]⟩, .string ⟨#[104, 111, 108, 100]⟩, .string ⟨#[97, 117, 116, 104]⟩, .string ⟨#[107, 101, 101, 112]⟩, .string ⟨#[98, 111, 111, 107]⟩, .string ⟨#[115, 101, 110, 100]⟩, .string ⟨#[116, 97, 107, 101]⟩] 94)).alloc (.cells #[.string ⟨#[]⟩, .string ⟨#[115, 111, 102, 116]⟩, .string ⟨#[112, 105, 118, 111, 116]⟩, .string ⟨#[102, 105, 114, 109]⟩] 96) = w5 := ⟨_, rfl⟩
  have HW5 := Lib.hid hw5
  rw [hw5] at HS4 HO HC
  clear hw5
  obtain ⟨o, ho⟩ : ∃ o, ixUp p0.data.toList 0 opsL = o := ⟨_, rfl⟩
  obtain ⟨c, hc⟩ : ∃ c, ixUp p1.data.toList 0 clsL = c := ⟨_, rfl⟩
  have HIO := Lib.hid ho; have HIC := Lib.hid hc
  have CA := Lib.hid (fun W (hW : Below w5.heap.size w5 W) => index_say w4.heap.size 7 opsB p0 o ho W rfl (by omega) (opsB_at (At7.keep HO.out hW)))
  have CB := Lib.hid (fun W (hW : Below w5.heap.size w5 W) => index_say (w4.heap.size + 1) 4 clsB p1 c hc W rfl (by omega) (clsB_at (At4.keep HC.out hW)))
  have KS : Hid (∀ W, Below w5.heap.size w5 W → W.cell? ⟨h, 0, none⟩ = some (.string p0) ∧ W.cell? ⟨h, 1, none⟩ = some (.string p1)) := fun W hW => (by
    have hp := (HS4.out.keep hW).prt.2
    exact ⟨hp 0 p0 rfl, hp 1 p1 rfl⟩)
  clear ho hc
  go_wp2_with fail
  rw [show (w4.alloc (.cells #[.string ⟨#[]⟩, .string ⟨#[104, 111, 108, 100]⟩, .string ⟨#[97, 117, 116, 104]⟩, .string ⟨#[107, 101, 101, 112]⟩, .string ⟨#[98, 111, 111, 107]⟩, .string ⟨#[115, 101, 110, 100]⟩, .string ⟨#[116, 97, 107, 101]⟩] 94)).alloc (.cells #[.string ⟨#[]⟩, .string ⟨#[115, 111, 102, 116]⟩, .string ⟨#[112, 105, 118, 111, 116]⟩, .string ⟨#[102, 105, 114, 109]⟩] 96) = w5 from HW5.out]
  apply gjoin (F := fun W => RS w W g h [p0, p1, p2, p3, p4, p5] (.int .i64 o) (.int .i64 c) (.int .i64 0) (.int .i64 0) (.int .i64 0) (.int .i64 0))
  · intro hG
    have b0 : Below w5.heap.size w5 w5.drew := (Below.refl _ w5).drew
    have k0 := KS.out _ b0
    go_region_held3 (fun w' => w'.cell? ⟨h, 0, none⟩ = some (.string p0) ∧ w'.cell? ⟨h, 1, none⟩ = some (.string p1))
      (first | with_reducible exact k0 | with_reducible exact k6 | with_reducible exact k7 | with_reducible exact k8 | with_reducible exact k9)
      (first
        | ((with_reducible refine (CB.out w6 b6).mono ?_); rintro e w7 ⟨rfl, hb7⟩; have b7 := below_keep b6 hb7 b6.size; have k7 := KS.out _ b7; have r7 := HS4.out.keep b7; obtain ⟨z0, z1, _, _, _, _⟩ := cells6 r7.box; obtain ⟨f0, f1, _, _, _, _⟩ := free6 r7.box; have r8 := r7.set0 (.int .i64 o); obtain ⟨_, y1, _, _, _, _⟩ := cells6 r8.box; obtain ⟨_, g1, _, _, _, _⟩ := free6 r8.box; have k8 : _ ∧ _ := ⟨r8.prt.2 0 p0 rfl, r8.prt.2 1 p1 rfl⟩; have r9 := r8.set1 (.int .i64 c); have k9 : _ ∧ _ := ⟨r9.prt.2 0 p0 rfl, r9.prt.2 1 p1 rfl⟩)
        | ((with_reducible refine (CA.out w5.drew b0).mono ?_); rintro e w6 ⟨rfl, hb6⟩; have b6 := below_keep b0 hb6 b0.size; have k6 := KS.out _ b6))
    exact hG _ r9
  · intro W hW
    have HSW := Lib.hid hW
    clear hW HO HC
    obtain ⟨m0, e0, hn0⟩ : ∃ m e, NumP.numP p2.data.toList = (m, e) := ⟨_, _, rfl⟩
    obtain ⟨m1, e1, hn1⟩ : ∃ m e, NumP.numP p3.data.toList = (m, e) := ⟨_, _, rfl⟩
    obtain ⟨m2, e2, hn2⟩ : ∃ m e, NumP.numP p4.data.toList = (m, e) := ⟨_, _, rfl⟩
    obtain ⟨m3, e3, hn3⟩ : ∃ m e, NumP.numP p5.data.toList = (m, e) := ⟨_, _, rfl⟩
    have HE0 : Hid (e0 ≠ 0 → R = none) := by
      show _ → _
      intro hne
      rw [← HR.out]
      show readQ [p0.data.toList, p1.data.toList, p2.data.toList, p3.data.toList, p4.data.toList, p5.data.toList] = none
      unfold readQ
      simp only [hn0, hn1, hn2, hn3]
      exact if_neg fun hh => hne hh.1
    have HE1 : Hid (e1 ≠ 0 → R = none) := by
      show _ → _
      intro hne
      rw [← HR.out]
      show readQ [p0.data.toList, p1.data.toList, p2.data.toList, p3.data.toList, p4.data.toList, p5.data.toList] = none
      unfold readQ
      simp only [hn0, hn1, hn2, hn3]
      exact if_neg fun hh => hne hh.2.1
    have HE2 : Hid (e2 ≠ 0 → R = none) := by
      show _ → _
      intro hne
      rw [← HR.out]
      show readQ [p0.data.toList, p1.data.toList, p2.data.toList, p3.data.toList, p4.data.toList, p5.data.toList] = none
      unfold readQ
      simp only [hn0, hn1, hn2, hn3]
      exact if_neg fun hh => hne hh.2.2.1
    have HE3 : Hid (e3 ≠ 0 → R = none) := by
      show _ → _
      intro hne
      rw [← HR.out]
      show readQ [p0.data.toList, p1.data.toList, p2.data.toList, p3.data.toList, p4.data.toList, p5.data.toList] = none
      unfold readQ
      simp only [hn0, hn1, hn2, hn3]
      exact if_neg fun hh => hne hh.2.2.2
    have HOK : Hid (e0 = 0 → e1 = 0 → e2 = 0 → e3 = 0 → R = if fitS ⟨o, c, m0, m1, m2, m3⟩ = true then some ⟨o, c, m0, m1, m2, m3⟩ else none) := by
      show _ → _
      intro h0 h1 h2 h3
      rw [← HR.out, ← HIO.out, ← HIC.out]
      show readQ [p0.data.toList, p1.data.toList, p2.data.toList, p3.data.toList, p4.data.toList, p5.data.toList] = _
      unfold readQ
      simp only [hn0, hn1, hn2, hn3]
      exact if_pos ⟨h0, h1, h2, h3⟩
    have CN0 := Lib.hid (fun W => Num.number_is p2 m0 e0 W (by have := HPZ.out p2 (by simp); have := HSZ.out; omega) hn0)
    have CN1 := Lib.hid (fun W => Num.number_is p3 m1 e1 W (by have := HPZ.out p3 (by simp); have := HSZ.out; omega) hn1)
    have CN2 := Lib.hid (fun W => Num.number_is p4 m2 e2 W (by have := HPZ.out p4 (by simp); have := HSZ.out; omega) hn2)
    have CN3 := Lib.hid (fun W => Num.number_is p5 m3 e3 W (by have := HPZ.out p5 (by simp); have := HSZ.out; omega) hn3)
    clear hn0 hn1 hn2 hn3 HR HIO HIC HPZ HSZ
    go_wp2_with fail
    go_loopw [43] (fun i wr => ∃ k : Nat, k ≤ 4 ∧ i = .int .i64 (k : Int) ∧ Hid (RS w wr g h [p0, p1, p2, p3, p4, p5] (.int .i64 o) (.int .i64 c) (.int .i64 (if 0 < k then m0 else 0)) (.int .i64 (if 1 < k then m1 else 0)) (.int .i64 (if 2 < k then m2 else 0)) (.int .i64 (if 3 < k then m3 else 0))) ∧ Hid ((0 < k → e0 = 0) ∧ (1 < k → e1 = 0) ∧ (2 < k → e2 = 0) ∧ (3 < k → e3 = 0))) (fun i _ => 4 - (intOf i).toNat)
    case atStart => exact ⟨0, Nat.zero_le _, rfl, HSW, ⟨by omega, by omega, by omega, by omega⟩⟩
    case round =>
      obtain ⟨k, hk, rfl, hS, hE⟩ := hrel
      rcases (by omega : k = 0 ∨ k = 1 ∨ k = 2 ∨ k = 3 ∨ k = 4) with rfl | rfl | rfl | rfl | rfl
      · have HSk : Hid (RS w wr g h [p0, p1, p2, p3, p4, p5] (.int .i64 o) (.int .i64 c) (.int .i64 0) (.int .i64 0) (.int .i64 0) (.int .i64 0)) := hS
        have t0 := PtrsAt.at HSk.out.ptr (k := 0) (by omega)
        have t1 := HSk.out.prt.2 2 p2 rfl
        clear hS
        go_wp2_with fail
        refine (CN0.out _).mono ?_
        rintro e w8 ⟨rfl, hb⟩
        have HS8 := Lib.hid (HSk.out.keep hb)
        clear hb t0 t1 HSk
        by_cases hz : e0 = 0
        · have HN : Hid ((0 < 0 + 1 → e0 = 0) ∧ (1 < 0 + 1 → e1 = 0) ∧ (2 < 0 + 1 → e2 = 0) ∧ (3 < 0 + 1 → e3 = 0)) := ⟨fun _ => hz, by omega, by omega, by omega⟩
          have hq : (e0 != 0) = false := by simp; exact hz
          obtain ⟨_, _, z2, _, _, _⟩ := cells6 HS8.out.box
          obtain ⟨_, _, f2, _, _, _⟩ := free6 HS8.out.box
          have HS9 := Lib.hid (HS8.out.set2 (.int .i64 m0))
          clear hz hE
          go_wp2_with fail
          go_roundw
          case rel => exact ⟨1, by omega, by go_num, HS9, HN⟩
          case measure => simp [intOf]
        · have HN := Lib.hid (HE0.out hz)
          have hq : (e0 != 0) = true := by simp; exact hz
          clear hz hE
          obtain ⟨z0, z1, z2, z3, z4, z5⟩ := cells6 HS8.out.res
          obtain ⟨f0, f1, f2, f3, f4, f5⟩ := free6 HS8.out.res
          have HQ := Lib.hid (heap_put6 HS8.out.res (.int .i64 0) (.int .i64 0) (.int .i64 0) (.int .i64 0) (.int .i64 0) (.int .i64 0))
          have HBQ := Lib.hid (below_put6 HS8.out.bel (Nat.le_refl _) (.int .i64 0) (.int .i64 0) (.int .i64 0) (.int .i64 0) (.int .i64 0) (.int .i64 0))
          go_wp2_with fail
          exact bodyPost_ret (results_st (j := 2) (k := 3) rfl _ _ w.heap.size _ _ _ _ _ _ rfl HQ.out) rfl ⟨read_no HN.out, HBQ.out⟩
      · have HSk : Hid (RS w wr g h [p0, p1, p2, p3, p4, p5] (.int .i64 o) (.int .i64 c) (.int .i64 m0) (.int .i64 0) (.int .i64 0) (.int .i64 0)) := hS
        have t0 := PtrsAt.at HSk.out.ptr (k := 1) (by omega)
        have t1 := HSk.out.prt.2 3 p3 rfl
        clear hS
        go_wp2_with fail
        refine (CN1.out _).mono ?_
        rintro e w8 ⟨rfl, hb⟩
        have HS8 := Lib.hid (HSk.out.keep hb)
        clear hb t0 t1 HSk
        by_cases hz : e1 = 0
        · have HN : Hid ((0 < 1 + 1 → e0 = 0) ∧ (1 < 1 + 1 → e1 = 0) ∧ (2 < 1 + 1 → e2 = 0) ∧ (3 < 1 + 1 → e3 = 0)) := ⟨fun _ => hE.out.1 (by omega), fun _ => hz, by omega, by omega⟩
          have hq : (e1 != 0) = false := by simp; exact hz
          obtain ⟨_, _, _, z3, _, _⟩ := cells6 HS8.out.box
          obtain ⟨_, _, _, f3, _, _⟩ := free6 HS8.out.box
          have HS9 := Lib.hid (HS8.out.set3 (.int .i64 m1))
          clear hz hE
          go_wp2_with fail
          go_roundw
          case rel => exact ⟨2, by omega, by go_num, HS9, HN⟩
          case measure => simp [intOf]
        · have HN := Lib.hid (HE1.out hz)
          have hq : (e1 != 0) = true := by simp; exact hz
          clear hz hE
          obtain ⟨z0, z1, z2, z3, z4, z5⟩ := cells6 HS8.out.res
          obtain ⟨f0, f1, f2, f3, f4, f5⟩ := free6 HS8.out.res
          have HQ := Lib.hid (heap_put6 HS8.out.res (.int .i64 0) (.int .i64 0) (.int .i64 0) (.int .i64 0) (.int .i64 0) (.int .i64 0))
          have HBQ := Lib.hid (below_put6 HS8.out.bel (Nat.le_refl _) (.int .i64 0) (.int .i64 0) (.int .i64 0) (.int .i64 0) (.int .i64 0) (.int .i64 0))
          go_wp2_with fail
          exact bodyPost_ret (results_st (j := 2) (k := 3) rfl _ _ w.heap.size _ _ _ _ _ _ rfl HQ.out) rfl ⟨read_no HN.out, HBQ.out⟩
      · have HSk : Hid (RS w wr g h [p0, p1, p2, p3, p4, p5] (.int .i64 o) (.int .i64 c) (.int .i64 m0) (.int .i64 m1) (.int .i64 0) (.int .i64 0)) := hS
        have t0 := PtrsAt.at HSk.out.ptr (k := 2) (by omega)
        have t1 := HSk.out.prt.2 4 p4 rfl
        clear hS
        go_wp2_with fail
        refine (CN2.out _).mono ?_
        rintro e w8 ⟨rfl, hb⟩
        have HS8 := Lib.hid (HSk.out.keep hb)
        clear hb t0 t1 HSk
        by_cases hz : e2 = 0
        · have HN : Hid ((0 < 2 + 1 → e0 = 0) ∧ (1 < 2 + 1 → e1 = 0) ∧ (2 < 2 + 1 → e2 = 0) ∧ (3 < 2 + 1 → e3 = 0)) := ⟨fun _ => hE.out.1 (by omega), fun _ => hE.out.2.1 (by omega), fun _ => hz, by omega⟩
          have hq : (e2 != 0) = false := by simp; exact hz
          obtain ⟨_, _, _, _, z4, _⟩ := cells6 HS8.out.box
          obtain ⟨_, _, _, _, f4, _⟩ := free6 HS8.out.box
          have HS9 := Lib.hid (HS8.out.set4 (.int .i64 m2))
          clear hz hE
          go_wp2_with fail
          go_roundw
          case rel => exact ⟨3, by omega, by go_num, HS9, HN⟩
          case measure => simp [intOf]
        · have HN := Lib.hid (HE2.out hz)
          have hq : (e2 != 0) = true := by simp; exact hz
          clear hz hE
          obtain ⟨z0, z1, z2, z3, z4, z5⟩ := cells6 HS8.out.res
          obtain ⟨f0, f1, f2, f3, f4, f5⟩ := free6 HS8.out.res
          have HQ := Lib.hid (heap_put6 HS8.out.res (.int .i64 0) (.int .i64 0) (.int .i64 0) (.int .i64 0) (.int .i64 0) (.int .i64 0))
          have HBQ := Lib.hid (below_put6 HS8.out.bel (Nat.le_refl _) (.int .i64 0) (.int .i64 0) (.int .i64 0) (.int .i64 0) (.int .i64 0) (.int .i64 0))
          go_wp2_with fail
          exact bodyPost_ret (results_st (j := 2) (k := 3) rfl _ _ w.heap.size _ _ _ _ _ _ rfl HQ.out) rfl ⟨read_no HN.out, HBQ.out⟩
      · have HSk : Hid (RS w wr g h [p0, p1, p2, p3, p4, p5] (.int .i64 o) (.int .i64 c) (.int .i64 m0) (.int .i64 m1) (.int .i64 m2) (.int .i64 0)) := hS
        have t0 := PtrsAt.at HSk.out.ptr (k := 3) (by omega)
        have t1 := HSk.out.prt.2 5 p5 rfl
        clear hS
        go_wp2_with fail
        refine (CN3.out _).mono ?_
        rintro e w8 ⟨rfl, hb⟩
        have HS8 := Lib.hid (HSk.out.keep hb)
        clear hb t0 t1 HSk
        by_cases hz : e3 = 0
        · have HN : Hid ((0 < 3 + 1 → e0 = 0) ∧ (1 < 3 + 1 → e1 = 0) ∧ (2 < 3 + 1 → e2 = 0) ∧ (3 < 3 + 1 → e3 = 0)) := ⟨fun _ => hE.out.1 (by omega), fun _ => hE.out.2.1 (by omega), fun _ => hE.out.2.2.1 (by omega), fun _ => hz⟩
          have hq : (e3 != 0) = false := by simp; exact hz
          obtain ⟨_, _, _, _, _, z5⟩ := cells6 HS8.out.box
          obtain ⟨_, _, _, _, _, f5⟩ := free6 HS8.out.box
          have HS9 := Lib.hid (HS8.out.set5 (.int .i64 m3))
          clear hz hE
          go_wp2_with fail
          go_roundw
          case rel => exact ⟨4, by omega, by go_num, HS9, HN⟩
          case measure => simp [intOf]
        · have HN := Lib.hid (HE3.out hz)
          have hq : (e3 != 0) = true := by simp; exact hz
          clear hz hE
          obtain ⟨z0, z1, z2, z3, z4, z5⟩ := cells6 HS8.out.res
          obtain ⟨f0, f1, f2, f3, f4, f5⟩ := free6 HS8.out.res
          have HQ := Lib.hid (heap_put6 HS8.out.res (.int .i64 0) (.int .i64 0) (.int .i64 0) (.int .i64 0) (.int .i64 0) (.int .i64 0))
          have HBQ := Lib.hid (below_put6 HS8.out.bel (Nat.le_refl _) (.int .i64 0) (.int .i64 0) (.int .i64 0) (.int .i64 0) (.int .i64 0) (.int .i64 0))
          go_wp2_with fail
          exact bodyPost_ret (results_st (j := 2) (k := 3) rfl _ _ w.heap.size _ _ _ _ _ _ rfl HQ.out) rfl ⟨read_no HN.out, HBQ.out⟩
      · have HSk : Hid (RS w wr g h [p0, p1, p2, p3, p4, p5] (.int .i64 o) (.int .i64 c) (.int .i64 m0) (.int .i64 m1) (.int .i64 m2) (.int .i64 m3)) := hS
        have HD := Lib.hid (HOK.out (hE.out.1 (by omega)) (hE.out.2.1 (by omega)) (hE.out.2.2.1 (by omega)) (hE.out.2.2.2 (by omega)))
        obtain ⟨y0, y1, y2, y3, y4, y5⟩ := cells6 HSk.out.box
        clear hS hE HE0 HE1 HE2 HE3 CN0 CN1 CN2 CN3 HOK
        cases hf : fitS ⟨o, c, m0, m1, m2, m3⟩ with
        | false =>
          have CF := Lib.hid (fit_is o c m0 m1 m2 m3 false hf wr)
          have HN : Hid (R = none) := by show _ = _; rw [HD.out, hf]; rfl
          clear hf
          go_wp2_with fail
          refine CF.out.mono ?_
          rintro e w8 ⟨rfl, hb⟩
          have HS8 := Lib.hid (HSk.out.keep hb)
          clear hb y0 y1 y2 y3 y4 y5
          obtain ⟨z0, z1, z2, z3, z4, z5⟩ := cells6 HS8.out.res
          obtain ⟨f0, f1, f2, f3, f4, f5⟩ := free6 HS8.out.res
          have HQ := Lib.hid (heap_put6 HS8.out.res (.int .i64 0) (.int .i64 0) (.int .i64 0) (.int .i64 0) (.int .i64 0) (.int .i64 0))
          have HBQ := Lib.hid (below_put6 HS8.out.bel (Nat.le_refl _) (.int .i64 0) (.int .i64 0) (.int .i64 0) (.int .i64 0) (.int .i64 0) (.int .i64 0))
          go_wp2_with fail
          exact bodyPost_ret (results_st (j := 2) (k := 3) rfl _ _ w.heap.size _ _ _ _ _ _ rfl HQ.out) rfl ⟨read_no HN.out, HBQ.out⟩
        | true =>
          have CF := Lib.hid (fit_is o c m0 m1 m2 m3 true hf wr)
          have HN : Hid (R = some ⟨o, c, m0, m1, m2, m3⟩) := by show _ = _; rw [HD.out, hf]; rfl
          clear hf
          go_wp2_with fail
          refine CF.out.mono ?_
          rintro e w8 ⟨rfl, hb⟩
          have HS8 := Lib.hid (HSk.out.keep hb)
          clear hb y0 y1 y2 y3 y4 y5
          obtain ⟨y0, y1, y2, y3, y4, y5⟩ := cells6 HS8.out.box
          obtain ⟨z0, z1, z2, z3, z4, z5⟩ := cells6 HS8.out.res
          obtain ⟨f0, f1, f2, f3, f4, f5⟩ := free6 HS8.out.res
          have HQ := Lib.hid (heap_put6 HS8.out.res (.int .i64 o) (.int .i64 c) (.int .i64 m0) (.int .i64 m1) (.int .i64 m2) (.int .i64 m3))
          have HBQ := Lib.hid (below_put6 HS8.out.bel (Nat.le_refl _) (.int .i64 o) (.int .i64 c) (.int .i64 m0) (.int .i64 m1) (.int .i64 m2) (.int .i64 m3))
          go_wp2_with fail
          exact bodyPost_ret (results_st (j := 2) (k := 3) rfl _ _ w.heap.size _ _ _ _ _ _ rfl HQ.out) rfl ⟨read_yes HN.out, HBQ.out⟩

end Go.Proofs.YtdpgfnnhbfkacaaGreatDoor.Step

/-
  The contracts of the document's Split and Number: texts of up to 300 octets; what was there stays as it was.
-/
set_option linter.unusedVariables false
set_option linter.unusedSimpArgs false
set_option maxRecDepth 4000
set_option maxRecDepth 4000
namespace Go.Proofs.YtdpgfnnhbfkacaaGreatDoor.Step
open Go.RowKit StP
open Go.Proofs.YtdpgfnnhbfkacaaGreatDoor.Kt
def Cuts (c : UInt8) (L : List UInt8) (D : List ByteArray) (f k : Nat) : Prop :=
  parts c L = D.map (·.data.toList) ++ parts c (L.drop f) ∧ c ∉ (L.drop f).take (k - f) ∧ D.length ≤ k
theorem Cuts.done {c : UInt8} {s : ByteArray} {D : List ByteArray} {f : Nat} (h : Cuts c s.data.toList D f s.size) : (D ++ [s.extract f s.size]).map (·.data.toList) = parts c s.data.toList := by
  have h2 : (s.data.toList.drop f).take (s.size - f) = s.data.toList.drop f := List.take_of_length_le (by rw [List.length_drop, ← size_list]; exact Nat.le_refl _)
  have h3 := h.2.1
  rw [h2] at h3
  rw [h.1, parts_one (cut_none h3), List.map_append]
  simp [h2]
end Go.Proofs.YtdpgfnnhbfkacaaGreatDoor.Step

/-
  The contract of the document's Read: any text of up to 300 octets; what was there stays as it was.
-/
set_option linter.unusedVariables false
set_option linter.unusedSimpArgs false
set_option maxRecDepth 4000
set_option maxRecDepth 4000
namespace Go.Proofs.YtdpgfnnhbfkacaaGreatDoor.Step
open Go.RowKit StP
open Go.Proofs.YtdpgfnnhbfkacaaGreatDoor.Kt
structure RD (w W : World) (b h : Nat) (P : List ByteArray) (v0 v1 v2 v3 v4 v5 : Value) : Prop where
  bel : Below w.heap.size w W
  res : At6 49 W w.heap.size (.int .i64 0) (.int .i64 0) (.int .i64 0) (.int .i64 0) (.int .i64 0) (.int .i64 0)
  box : At6 49 W b v0 v1 v2 v3 v4 v5
  prt : PaAt W h P
  bne : w.heap.size < b
  hne : h ≠ b
theorem RD.keep {w W W' : World} {b h : Nat} {P : List ByteArray} {v0 v1 v2 v3 v4 v5 : Value} (r : RD w W b h P v0 v1 v2 v3 v4 v5) (hb : Below W.heap.size W W') : RD w W' b h P v0 v1 v2 v3 v4 v5 :=
  ⟨below_keep r.bel hb r.bel.size, r.res.keep hb, r.box.keep hb, r.prt.keep hb, r.bne, r.hne⟩

end Go.Proofs.YtdpgfnnhbfkacaaGreatDoor.Step
