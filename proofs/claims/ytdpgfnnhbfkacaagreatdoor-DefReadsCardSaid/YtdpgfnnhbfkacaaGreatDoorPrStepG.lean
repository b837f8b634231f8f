/-
  The contract of the program's Read: any text of up to 300 octets, where the library's variables stand; what was there stays as it was.
-/
import Derived.Test.YtdpgfnnhbfkacaaGreatDoorPrNumE
import Derived.Test.YtdpgfnnhbfkacaaGreatDoorPrStepE
import Derived.Deep.RegionHeld3
set_option linter.unusedVariables false
set_option linter.unusedSimpArgs false
set_option maxRecDepth 4000
set_option maxRecDepth 4000
namespace Go.Proofs.YtdpgfnnhbfkacaaGreatDoor.Step
open Go.RowKit StP
open Go.Proofs.YtdpgfnnhbfkacaaGreatDoor.Kt
theorem read_no {R : Option St} (h : R = none) : Ending.returned (.tuple #[.agg #[.int .i64 0, .int .i64 0, .int .i64 0, .int .i64 0, .int .i64 0, .int .i64 0], .int .i64 7]) = .returned (.tuple #[stV (gotS R), .int .i64 (errS R)]) := by subst h; rfl
theorem read_yes {R : Option St} {x0 x1 x2 x3 x4 x5 : Int} (h : R = some ⟨x0, x1, x2, x3, x4, x5⟩) : Ending.returned (.tuple #[.agg #[.int .i64 x0, .int .i64 x1, .int .i64 x2, .int .i64 x3, .int .i64 x4, .int .i64 x5], .int .i64 0]) = .returned (.tuple #[stV (gotS R), .int .i64 (errS R)]) := by subst h; rfl
theorem gjoin {G : Prop} {F P : World → Prop} (main : (∀ w, F w → P w) → G) (pf : ∀ w, F w → P w) : G := main pf

theorem opsB_at {w : World} {b : Nat} (h : At7 94 w b (.string ⟨#[]⟩) (.string ⟨#[104, 111, 108, 100]⟩) (.string ⟨#[97, 117, 116, 104]⟩) (.string ⟨#[107, 101, 101, 112]⟩) (.string ⟨#[98, 111, 111, 107]⟩) (.string ⟨#[115, 101, 110, 100]⟩) (.string ⟨#[116, 97, 107, 101]⟩)) : ∀ j x, opsB[j]? = some x → w.cell? ⟨b, j, none⟩ = some (.string x) := by
  intro j x hx
  rw [cell_of_heap h]
  unfold opsB at hx
  match j with
  | 0 => simp at hx; subst hx; rfl
  | 1 => simp at hx; subst hx; rfl
  | 2 => simp at hx; subst hx; rfl
  | 3 => simp at hx; subst hx; rfl
  | 4 => simp at hx; subst hx; rfl
  | 5 => simp at hx; subst hx; rfl
  | 6 => simp at hx; subst hx; rfl
  | k + 7 => simp at hx

theorem clsB_at {w : World} {b : Nat} (h : At4 96 w b (.string ⟨#[]⟩) (.string ⟨#[115, 111, 102, 116]⟩) (.string ⟨#[112, 105, 118, 111, 116]⟩) (.string ⟨#[102, 105, 114, 109]⟩)) : ∀ j x, clsB[j]? = some x → w.cell? ⟨b, j, none⟩ = some (.string x) := by
  intro j x hx
  rw [cell_of_heap h]
  unfold clsB at hx
  match j with
  | 0 => simp at hx; subst hx; rfl
  | 1 => simp at hx; subst hx; rfl
  | 2 => simp at hx; subst hx; rfl
  | 3 => simp at hx; subst hx; rfl
  | k + 4 => simp at hx

theorem index_say (g n : Nat) (l : List ByteArray) (p : ByteArray) (r : Int) (hr : ixUp p.data.toList 0 (l.map (·.data.toList)) = r) (w : World) (hl : l.length = n) (hn : n ≤ 100) (hc : ∀ j x, l[j]? = some x → w.cell? ⟨g, j, none⟩ = some (.string x)) :
    Calls Tryz.prog 101 #[.slice (some ⟨g, 0, none⟩) n n, .string p] w fun e w' => e = .returned (.int .i64 r) ∧ Below w.heap.size w w' := by
  refine (index_any g n l p r hr w hl hn hc).mono ?_
  rintro e w' ⟨rfl, rfl⟩
  exact ⟨rfl, Below.refl _ _⟩

set_option maxHeartbeats 8000000 in
theorem read_any (s : ByteArray) (w : World) (hs : s.size ≤ 300) (hv : Vars w) : Calls Tryz.prog 69 #[.string s] w fun e w' => e = .returned (.tuple #[stV (gotS (readS s.data.toList)), .int .i64 (errS (readS s.data.toList))]) ∧ Below w.heap.size w w' := by
  obtain ⟨R, hR⟩ : ∃ R, readS s.data.toList = R := ⟨_, rfl⟩
  rw [hR]
  have HR := Lib.hid ((prt_read s).trans hR)
  have HV := Lib.hid hv
  have HSZ := Lib.hid hs
  have CN := Lib.hid (numbers_any (w.heap.size + 1) ((w.alloc (.cells #[.int .i64 0, .int .i64 0, .int .i64 0, .int .i64 0, .int .i64 0, .int .i64 0] 49)).alloc (.cells #[.int .i64 0, .int .i64 0, .int .i64 0, .int .i64 0, .int .i64 0, .int .i64 0] 49)))
  clear hR hv
  go_enter Tryz.func69, Tryz.ntmps69
  go_wp2_with fail
  refine CN.out.mono ?_
  rintro e w1 ⟨g, rfl, hG, hb1, hg⟩
  have hg2 : w.heap.size + 2 ≤ g := by simpa using hg
  have hV1 : Vars w1 := HV.out.keep (below_keep (((Below.refl _ _).alloc (Nat.le_refl _) _).alloc (by simp) _) hb1 (by simp; omega))
  have CS := Lib.hid (split_call s w1 hs hV1)
  clear CN
  go_wp2_with fail
  refine CS.out.mono ?_
  rintro e w2 ⟨cp, rfl, hP, hb2⟩
  have HS2 := Lib.hid (rs_new hG hb1 hg2 hP hb2)
  obtain ⟨h, hh⟩ : ∃ h, w1.heap.size = h := ⟨_, rfl⟩
  rw [hh] at HS2
  obtain ⟨P, hPr⟩ : ∃ P, prt s = P := ⟨_, rfl⟩
  have HPZ := Lib.hid (prt_size s)
  have hP7 := prt_len s
  rw [hPr] at HS2 HR HPZ hP7
  rw [hh, hPr]
  obtain ⟨n, hn⟩ : ∃ n, P.length = n := ⟨_, rfl⟩
  rw [hn] at hP7
  rw [hn]
  clear hG hb1 hg hg2 hV1 CS hP hb2 hh hPr hs
  by_cases h6 : n = 6
  rotate_left
  · have HN : Hid (R = none) := by show _ = _; rw [← HR.out]; exact readQ_long (by rw [List.length_map, hn]; exact h6)
    have hq : ((n : Int) != 6) = true := by simp; omega
    clear HR
    obtain ⟨z0, z1, z2, z3, z4, z5⟩ := cells6 HS2.out.res
    obtain ⟨f0, f1, f2, f3, f4, f5⟩ := free6 HS2.out.res
    have HQ := Lib.hid (heap_put6 HS2.out.res (.int .i64 0) (.int .i64 0) (.int .i64 0) (.int .i64 0) (.int .i64 0) (.int .i64 0))
    have HBQ := Lib.hid (below_put6 HS2.out.bel (Nat.le_refl _) (.int .i64 0) (.int .i64 0) (.int .i64 0) (.int .i64 0) (.int .i64 0) (.int .i64 0))
    go_wp2_with fail
    exact bodyPost_ret (results_st (j := 2) (k := 3) rfl _ _ w.heap.size _ _ _ _ _ _ rfl HQ.out) rfl ⟨read_no HN.out, HBQ.out⟩
  subst h6
  clear hP7
  obtain ⟨p0, p1, p2, p3, p4, p5, rfl⟩ : ∃ p0 p1 p2 p3 p4 p5, P = [p0, p1, p2, p3, p4, p5] := by
    match P, hn with
    | [p0, p1, p2, p3, p4, p5], _ => exact ⟨p0, p1, p2, p3, p4, p5, rfl⟩
  clear hn
  go_wp2_with fail
  refine (ops_any w2).mono ?_
  rintro e w3 ⟨rfl, hb⟩
  have HS3 := Lib.hid (HS2.out.keep hb)
  clear hb HS2
  go_wp2_with fail
  refine (cls_any w3).mono ?_
  rintro e w4 ⟨rfl, hb⟩
  have HS4 := Lib.hid ((HS3.out.keep hb).keep (((Below.refl w4.heap.size w4).alloc (Nat.le_refl _) (.cells #[.string ⟨#[]⟩, .string ⟨#[104, 111, 108, 100]⟩, .string ⟨#[97, 117, 116, 104]⟩, .string ⟨#[107, 101, 101, 112]⟩, .string ⟨#[98, 111, 111, 107]⟩, .string ⟨#[115, 101, 110, 100]⟩, .string ⟨#[116, 97, 107, 101]⟩] 94)).alloc (by simp) (.cells #[.string ⟨#[]⟩, .string ⟨#[115, 111, 102, 116]⟩, .string ⟨#[112, 105, 118, 111, 116]⟩, .string ⟨#[102, 105, 114, 109]⟩] 96)))
  have hO := (at7_new 94 w4 (.string ⟨#[]⟩) (.string ⟨#[104, 111, 108, 100]⟩) (.string ⟨#[97, 117, 116, 104]⟩) (.string ⟨#[107, 101, 101, 112]⟩) (.string ⟨#[98, 111, 111, 107]⟩) (.string ⟨#[115, 101, 110, 100]⟩) (.string ⟨#[116, 97, 107, 101]⟩)).alloc (.cells #[.string ⟨#[]⟩, .string ⟨#[115, 111, 102, 116]⟩, .string ⟨#[112, 105, 118, 111, 116]⟩, .string ⟨#[102, 105, 114, 109]⟩] 96)
  have hC := at4_new 96 (w4.alloc (.cells #[.string ⟨#[]⟩, .string ⟨#[104, 111, 108, 100]⟩, .string ⟨#[97, 117, 116, 104]⟩, .string ⟨#[107, 101, 101, 112]⟩, .string ⟨#[98, 111, 111, 107]⟩, .string ⟨#[115, 101, 110, 100]⟩, .string ⟨#[116, 97, 107, 101]⟩] 94)) (.string ⟨#[]⟩) (.string ⟨#[115, 111, 102, 116]⟩) (.string ⟨#[112, 105, 118, 111, 116]⟩) (.string ⟨#[102, 105, 114, 109]⟩)
  rw [World.size_alloc] at hC
  have HO := Lib.hid hO
  have HC := Lib.hid hC
  clear hb HS3 hO hC
  obtain ⟨w5, hw5⟩ : ∃ w5, (w4.alloc (.cells #[.string ⟨#[]⟩, .string ⟨#[104, 111, 108, 100]⟩, .string ⟨#[97, 117, 116, 104]⟩, .string ⟨#[107, 101, 101, 112]⟩, .string ⟨#[98, 111, 111, 107]⟩, .string ⟨#[115, 101, 110, 100]⟩, .string ⟨#[116, 97, 107, 101]⟩] 94)).alloc (.cells #[.string ⟨#[]⟩, .string ⟨#[115, 111, 102, 116]⟩, .string ⟨#[112, 105, 118, 111, 116]⟩, .string ⟨#[102, 105, 114, 109]⟩] 96) = w5 := ⟨_, rfl⟩
  have HW5 := Lib.hid hw5
  rw [hw5] at HS4 HO HC
  clear hw5
  obtain ⟨o, ho⟩ : ∃ o, ixUp p0.data.toList 0 opsL = o := ⟨_, rfl⟩
  obtain ⟨c, hc⟩ : ∃ c, ixUp p1.data.toList 0 clsL = c := ⟨_, rfl⟩
  have HIO := Lib.hid ho; have HIC := Lib.hid hc
  have CA := Lib.hid (fun W (hW : Below w5.heap.size w5 W) => index_say w4.heap.size 7 opsB p0 o ho W rfl (by omega) (opsB_at (At7.keep HO.out hW)))
  have CB := Lib.hid (fun W (hW : Below w5.heap.size w5 W) => index_say (w4.heap.size + 1) 4 clsB p1 c hc W rfl (by omega) (clsB_at (At4.keep HC.out hW)))
  have KS : Hid (∀ W, Below w5.heap.size w5 W → W.cell? ⟨h, 0, none⟩ = some (.string p0) ∧ W.cell? ⟨h, 1, none⟩ = some (.string p1)) := fun W hW => (by
    have hp := (HS4.out.keep hW).prt.2
    exact ⟨hp 0 p0 rfl, hp 1 p1 rfl⟩)
  clear ho hc
  go_wp2_with fail
  rw [show (w4.alloc (.cells #[.string ⟨#[]⟩, .string ⟨#[104, 111, 108, 100]⟩, .string ⟨#[97, 117, 116, 104]⟩, .string ⟨#[107, 101, 101, 112]⟩, .string ⟨#[98, 111, 111, 107]⟩, .string ⟨#[115, 101, 110, 100]⟩, .string ⟨#[116, 97, 107, 101]⟩] 94)).alloc (.cells #[.string ⟨#[]⟩, .string ⟨#[115, 111, 102, 116]⟩, .string ⟨#[112, 105, 118, 111, 116]⟩, .string ⟨#[102, 105, 114, 109]⟩] 96) = w5 from HW5.out]
  apply gjoin (F := fun W => RS w W g h [p0, p1, p2, p3, p4, p5] (.int .i64 o) (.int .i64 c) (.int .i64 0) (.int .i64 0) (.int .i64 0) (.int .i64 0))
  · intro hG
    have b0 : Below w5.heap.size w5 w5.drew := (Below.refl _ w5).drew
    have k0 := KS.out _ b0
    go_region_held3 (fun w' => w'.cell? ⟨h, 0, none⟩ = some (.string p0) ∧ w'.cell? ⟨h, 1, none⟩ = some (.string p1))
      (first | with_reducible exact k0 | with_reducible exact k6 | with_reducible exact k7 | with_reducible exact k8 | with_reducible exact k9)
      (first
        | ((with_reducible refine (CB.out w6 b6).mono ?_); rintro e w7 ⟨rfl, hb7⟩; have b7 := below_keep b6 hb7 b6.size; have k7 := KS.out _ b7; have r7 := HS4.out.keep b7; obtain ⟨z0, z1, _, _, _, _⟩ := cells6 r7.box; obtain ⟨f0, f1, _, _, _, _⟩ := free6 r7.box; have r8 := r7.set0 (.int .i64 o); obtain ⟨_, y1, _, _, _, _⟩ := cells6 r8.box; obtain ⟨_, g1, _, _, _, _⟩ := free6 r8.box; have k8 : _ ∧ _ := ⟨r8.prt.2 0 p0 rfl, r8.prt.2 1 p1 rfl⟩; have r9 := r8.set1 (.int .i64 c); have k9 : _ ∧ _ := ⟨r9.prt.2 0 p0 rfl, r9.prt.2 1 p1 rfl⟩)
        | ((with_reducible refine (CA.out w5.drew b0).mono ?_); rintro e w6 ⟨rfl, hb6⟩; have b6 := below_keep b0 hb6 b0.size; have k6 := KS.out _ b6))
    exact hG _ r9
  · intro W hW
    have HSW := Lib.hid hW
    clear hW HO HC
    obtain ⟨m0, e0, hn0⟩ : ∃ m e, NumP.numP p2.data.toList = (m, e) := ⟨_, _, rfl⟩
    obtain ⟨m1, e1, hn1⟩ : ∃ m e, NumP.numP p3.data.toList = (m, e) := ⟨_, _, rfl⟩
    obtain ⟨m2, e2, hn2⟩ : ∃ m e, NumP.numP p4.data.toList = (m, e) := ⟨_, _, rfl⟩
    obtain ⟨m3, e3, hn3⟩ : ∃ m e, NumP.numP p5.data.toList = (m, e) := ⟨_, _, rfl⟩
    have HE0 : Hid (e0 ≠ 0 → R = none) := by
      show _ → _
      intro hne
      rw [← HR.out]
      show readQ [p0.data.toList, p1.data.toList, p2.data.toList, p3.data.toList, p4.data.toList, p5.data.toList] = none
      unfold readQ
      simp only [hn0, hn1, hn2, hn3]
      exact if_neg fun hh => hne hh.1
    have HE1 : Hid (e1 ≠ 0 → R = none) := by
      show _ → _
      intro hne
      rw [← HR.out]
      show readQ [p0.data.toList, p1.data.toList, p2.data.toList, p3.data.toList, p4.data.toList, p5.data.toList] = none
      unfold readQ
      simp only [hn0, hn1, hn2, hn3]
      exact if_neg fun hh => hne hh.2.1
    have HE2 : Hid (e2 ≠ 0 → R = none) := by
      show _ → _
      intro hne
      rw [← HR.out]
      show readQ [p0.data.toList, p1.data.toList, p2.data.toList, p3.data.toList, p4.data.toList, p5.data.toList] = none
      unfold readQ
      simp only [hn0, hn1, hn2, hn3]
      exact if_neg fun hh => hne hh.2.2.1
    have HE3 : Hid (e3 ≠ 0 → R = none) := by
      show _ → _
      intro hne
      rw [← HR.out]
      show readQ [p0.data.toList, p1.data.toList, p2.data.toList, p3.data.toList, p4.data.toList, p5.data.toList] = none
      unfold readQ
      simp only [hn0, hn1, hn2, hn3]
      exact if_neg fun hh => hne hh.2.2.2
    have HOK : Hid (e0 = 0 → e1 = 0 → e2 = 0 → e3 = 0 → R = if fitS ⟨o, c, m0, m1, m2, m3⟩ = true then some ⟨o, c, m0, m1, m2, m3⟩ else none) := by
      show _ → _
      intro h0 h1 h2 h3
      rw [← HR.out, ← HIO.out, ← HIC.out]
      show readQ [p0.data.toList, p1.data.toList, p2.data.toList, p3.data.toList, p4.data.toList, p5.data.toList] = _
      unfold readQ
      simp only [hn0, hn1, hn2, hn3]
      exact if_pos ⟨h0, h1, h2, h3⟩
    have CN0 := Lib.hid (fun W => Num.number_is p2 m0 e0 W (by have := HPZ.out p2 (by simp); have := HSZ.out; omega) hn0)
    have CN1 := Lib.hid (fun W => Num.number_is p3 m1 e1 W (by have := HPZ.out p3 (by simp); have := HSZ.out; omega) hn1)
    have CN2 := Lib.hid (fun W => Num.number_is p4 m2 e2 W (by have := HPZ.out p4 (by simp); have := HSZ.out; omega) hn2)
    have CN3 := Lib.hid (fun W => Num.number_is p5 m3 e3 W (by have := HPZ.out p5 (by simp); have := HSZ.out; omega) hn3)
    clear hn0 hn1 hn2 hn3 HR HIO HIC HPZ HSZ
    go_wp2_with fail
    go_loopw [43] (fun i wr => ∃ k : Nat, k ≤ 4 ∧ i = .int .i64 (k : Int) ∧ Hid (RS w wr g h [p0, p1, p2, p3, p4, p5] (.int .i64 o) (.int .i64 c) (.int .i64 (if 0 < k then m0 else 0)) (.int .i64 (if 1 < k then m1 else 0)) (.int .i64 (if 2 < k then m2 else 0)) (.int .i64 (if 3 < k then m3 else 0))) ∧ Hid ((0 < k → e0 = 0) ∧ (1 < k → e1 = 0) ∧ (2 < k → e2 = 0) ∧ (3 < k → e3 = 0))) (fun i _ => 4 - (intOf i).toNat)
    case atStart => exact ⟨0, Nat.zero_le _, rfl, HSW, ⟨by omega, by omega, by omega, by omega⟩⟩
    case round =>
      obtain ⟨k, hk, rfl, hS, hE⟩ := hrel
      rcases (by omega : k = 0 ∨ k = 1 ∨ k = 2 ∨ k = 3 ∨ k = 4) with rfl | rfl | rfl | rfl | rfl
      · have HSk : Hid (RS w wr g h [p0, p1, p2, p3, p4, p5] (.int .i64 o) (.int .i64 c) (.int .i64 0) (.int .i64 0) (.int .i64 0) (.int .i64 0)) := hS
        have t0 := PtrsAt.at HSk.out.ptr (k := 0) (by omega)
        have t1 := HSk.out.prt.2 2 p2 rfl
        clear hS
        go_wp2_with fail
        refine (CN0.out _).mono ?_
        rintro e w8 ⟨rfl, hb⟩
        have HS8 := Lib.hid (HSk.out.keep hb)
        clear hb t0 t1 HSk
        by_cases hz : e0 = 0
        · have HN : Hid ((0 < 0 + 1 → e0 = 0) ∧ (1 < 0 + 1 → e1 = 0) ∧ (2 < 0 + 1 → e2 = 0) ∧ (3 < 0 + 1 → e3 = 0)) := ⟨fun _ => hz, by omega, by omega, by omega⟩
          have hq : (e0 != 0) = false := by simp; exact hz
          obtain ⟨_, _, z2, _, _, _⟩ := cells6 HS8.out.box
          obtain ⟨_, _, f2, _, _, _⟩ := free6 HS8.out.box
          have HS9 := Lib.hid (HS8.out.set2 (.int .i64 m0))
          clear hz hE
          go_wp2_with fail
          go_roundw
          case rel => exact ⟨1, by omega, by go_num, HS9, HN⟩
          case measure => simp [intOf]
        · have HN := Lib.hid (HE0.out hz)
          have hq : (e0 != 0) = true := by simp; exact hz
          clear hz hE
          obtain ⟨z0, z1, z2, z3, z4, z5⟩ := cells6 HS8.out.res
          obtain ⟨f0, f1, f2, f3, f4, f5⟩ := free6 HS8.out.res
          have HQ := Lib.hid (heap_put6 HS8.out.res (.int .i64 0) (.int .i64 0) (.int .i64 0) (.int .i64 0) (.int .i64 0) (.int .i64 0))
          have HBQ := Lib.hid (below_put6 HS8.out.bel (Nat.le_refl _) (.int .i64 0) (.int .i64 0) (.int .i64 0) (.int .i64 0) (.int .i64 0) (.int .i64 0))
          go_wp2_with fail
          exact bodyPost_ret (results_st (j := 2) (k := 3) rfl _ _ w.heap.size _ _ _ _ _ _ rfl HQ.out) rfl ⟨read_no HN.out, HBQ.out⟩
      · have HSk : Hid (RS w wr g h [p0, p1, p2, p3, p4, p5] (.int .i64 o) (.int .i64 c) (.int .i64 m0) (.int .i64 0) (.int .i64 0) (.int .i64 0)) := hS
        have t0 := PtrsAt.at HSk.out.ptr (k := 1) (by omega)
        have t1 := HSk.out.prt.2 3 p3 rfl
        clear hS
        go_wp2_with fail
        refine (CN1.out _).mono ?_
        rintro e w8 ⟨rfl, hb⟩
        have HS8 := Lib.hid (HSk.out.keep hb)
        clear hb t0 t1 HSk
        by_cases hz : e1 = 0
        · have HN : Hid ((0 < 1 + 1 → e0 = 0) ∧ (1 < 1 + 1 → e1 = 0) ∧ (2 < 1 + 1 → e2 = 0) ∧ (3 < 1 + 1 → e3 = 0)) := ⟨fun _ => hE.out.1 (by omega), fun _ => hz, by omega, by omega⟩
          have hq : (e1 != 0) = false := by simp; exact hz
          obtain ⟨_, _, _, z3, _, _⟩ := cells6 HS8.out.box
          obtain ⟨_, _, _, f3, _, _⟩ := free6 HS8.out.box
          have HS9 := Lib.hid (HS8.out.set3 (.int .i64 m1))
          clear hz hE
          go_wp2_with fail
          go_roundw
          case rel => exact ⟨2, by omega, by go_num, HS9, HN⟩
          case measure => simp [intOf]
        · have HN := Lib.hid (HE1.out hz)
          have hq : (e1 != 0) = true := by simp; exact hz
          clear hz hE
          obtain ⟨z0, z1, z2, z3, z4, z5⟩ := cells6 HS8.out.res
          obtain ⟨f0, f1, f2, f3, f4, f5⟩ := free6 HS8.out.res
          have HQ := Lib.hid (heap_put6 HS8.out.res (.int .i64 0) (.int .i64 0) (.int .i64 0) (.int .i64 0) (.int .i64 0) (.int .i64 0))
          have HBQ := Lib.hid (below_put6 HS8.out.bel (Nat.le_refl _) (.int .i64 0) (.int .i64 0) (.int .i64 0) (.int .i64 0) (.int .i64 0) (.int .i64 0))
          go_wp2_with fail
          exact bodyPost_ret (results_st (j := 2) (k := 3) rfl _ _ w.heap.size _ _ _ _ _ _ rfl HQ.out) rfl ⟨read_no HN.out, HBQ.out⟩
      · have HSk : Hid (RS w wr g h [p0, p1, p2, p3, p4, p5] (.int .i64 o) (.int .i64 c) (.int .i64 m0) (.int .i64 m1) (.int .i64 0) (.int .i64 0)) := hS
        have t0 := PtrsAt.at HSk.out.ptr (k := 2) (by omega)
        have t1 := HSk.out.prt.2 4 p4 rfl
        clear hS
        go_wp2_with fail
        refine (CN2.out _).mono ?_
        rintro e w8 ⟨rfl, hb⟩
        have HS8 := Lib.hid (HSk.out.keep hb)
        clear hb t0 t1 HSk
        by_cases hz : e2 = 0
        · have HN : Hid ((0 < 2 + 1 → e0 = 0) ∧ (1 < 2 + 1 → e1 = 0) ∧ (2 < 2 + 1 → e2 = 0) ∧ (3 < 2 + 1 → e3 = 0)) := ⟨fun _ => hE.out.1 (by omega), fun _ => hE.out.2.1 (by omega), fun _ => hz, by omega⟩
          have hq : (e2 != 0) = false := by simp; exact hz
          obtain ⟨_, _, _, _, z4, _⟩ := cells6 HS8.out.box
          obtain ⟨_, _, _, _, f4, _⟩ := free6 HS8.out.box
          have HS9 := Lib.hid (HS8.out.set4 (.int .i64 m2))
          clear hz hE
          go_wp2_with fail
          go_roundw
          case rel => exact ⟨3, by omega, by go_num, HS9, HN⟩
          case measure => simp [intOf]
        · have HN := Lib.hid (HE2.out hz)
          have hq : (e2 != 0) = true := by simp; exact hz
          clear hz hE
          obtain ⟨z0, z1, z2, z3, z4, z5⟩ := cells6 HS8.out.res
          obtain ⟨f0, f1, f2, f3, f4, f5⟩ := free6 HS8.out.res
          have HQ := Lib.hid (heap_put6 HS8.out.res (.int .i64 0) (.int .i64 0) (.int .i64 0) (.int .i64 0) (.int .i64 0) (.int .i64 0))
          have HBQ := Lib.hid (below_put6 HS8.out.bel (Nat.le_refl _) (.int .i64 0) (.int .i64 0) (.int .i64 0) (.int .i64 0) (.int .i64 0) (.int .i64 0))
          go_wp2_with fail
          exact bodyPost_ret (results_st (j := 2) (k := 3) rfl _ _ w.heap.size _ _ _ _ _ _ rfl HQ.out) rfl ⟨read_no HN.out, HBQ.out⟩
      · have HSk : Hid (RS w wr g h [p0, p1, p2, p3, p4, p5] (.int .i64 o) (.int .i64 c) (.int .i64 m0) (.int .i64 m1) (.int .i64 m2) (.int .i64 0)) := hS
        have t0 := PtrsAt.at HSk.out.ptr (k := 3) (by omega)
        have t1 := HSk.out.prt.2 5 p5 rfl
        clear hS
        go_wp2_with fail
        refine (CN3.out _).mono ?_
        rintro e w8 ⟨rfl, hb⟩
        have HS8 := Lib.hid (HSk.out.keep hb)
        clear hb t0 t1 HSk
        by_cases hz : e3 = 0
        · have HN : Hid ((0 < 3 + 1 → e0 = 0) ∧ (1 < 3 + 1 → e1 = 0) ∧ (2 < 3 + 1 → e2 = 0) ∧ (3 < 3 + 1 → e3 = 0)) := ⟨fun _ => hE.out.1 (by omega), fun _ => hE.out.2.1 (by omega), fun _ => hE.out.2.2.1 (by omega), fun _ => hz⟩
          have hq : (e3 != 0) = false := by simp; exact hz
          obtain ⟨_, _, _, _, _, z5⟩ := cells6 HS8.out.box
          obtain ⟨_, _, _, _, _, f5⟩ := free6 HS8.out.box
          have HS9 := Lib.hid (HS8.out.set5 (.int .i64 m3))
          clear hz hE
          go_wp2_with fail
          go_roundw
          case rel => exact ⟨4, by omega, by go_num, HS9, HN⟩
          case measure => simp [intOf]
        · have HN := Lib.hid (HE3.out hz)
          have hq : (e3 != 0) = true := by simp; exact hz
          clear hz hE
          obtain ⟨z0, z1, z2, z3, z4, z5⟩ := cells6 HS8.out.res
          obtain ⟨f0, f1, f2, f3, f4, f5⟩ := free6 HS8.out.res
          have HQ := Lib.hid (heap_put6 HS8.out.res (.int .i64 0) (.int .i64 0) (.int .i64 0) (.int .i64 0) (.int .i64 0) (.int .i64 0))
          have HBQ := Lib.hid (below_put6 HS8.out.bel (Nat.le_refl _) (.int .i64 0) (.int .i64 0) (.int .i64 0) (.int .i64 0) (.int .i64 0) (.int .i64 0))
          go_wp2_with fail
          exact bodyPost_ret (results_st (j := 2) (k := 3) rfl _ _ w.heap.size _ _ _ _ _ _ rfl HQ.out) rfl ⟨read_no HN.out, HBQ.out⟩
      · have HSk : Hid (RS w wr g h [p0, p1, p2, p3, p4, p5] (.int .i64 o) (.int .i64 c) (.int .i64 m0) (.int .i64 m1) (.int .i64 m2) (.int .i64 m3)) := hS
        have HD := Lib.hid (HOK.out (hE.out.1 (by omega)) (hE.out.2.1 (by omega)) (hE.out.2.2.1 (by omega)) (hE.out.2.2.2 (by omega)))
        obtain ⟨y0, y1, y2, y3, y4, y5⟩ := cells6 HSk.out.box
        clear hS hE HE0 HE1 HE2 HE3 CN0 CN1 CN2 CN3 HOK
        cases hf : fitS ⟨o, c, m0, m1, m2, m3⟩ with
        | false =>
          have CF := Lib.hid (fit_is o c m0 m1 m2 m3 false hf wr)
          have HN : Hid (R = none) := by show _ = _; rw [HD.out, hf]; rfl
          clear hf
          go_wp2_with fail
          refine CF.out.mono ?_
          rintro e w8 ⟨rfl, hb⟩
          have HS8 := Lib.hid (HSk.out.keep hb)
          clear hb y0 y1 y2 y3 y4 y5
          obtain ⟨z0, z1, z2, z3, z4, z5⟩ := cells6 HS8.out.res
          obtain ⟨f0, f1, f2, f3, f4, f5⟩ := free6 HS8.out.res
          have HQ := Lib.hid (heap_put6 HS8.out.res (.int .i64 0) (.int .i64 0) (.int .i64 0) (.int .i64 0) (.int .i64 0) (.int .i64 0))
          have HBQ := Lib.hid (below_put6 HS8.out.bel (Nat.le_refl _) (.int .i64 0) (.int .i64 0) (.int .i64 0) (.int .i64 0) (.int .i64 0) (.int .i64 0))
          go_wp2_with fail
          exact bodyPost_ret (results_st (j := 2) (k := 3) rfl _ _ w.heap.size _ _ _ _ _ _ rfl HQ.out) rfl ⟨read_no HN.out, HBQ.out⟩
        | true =>
          have CF := Lib.hid (fit_is o c m0 m1 m2 m3 true hf wr)
          have HN : Hid (R = some ⟨o, c, m0, m1, m2, m3⟩) := by show _ = _; rw [HD.out, hf]; rfl
          clear hf
          go_wp2_with fail
          refine CF.out.mono ?_
          rintro e w8 ⟨rfl, hb⟩
          have HS8 := Lib.hid (HSk.out.keep hb)
          clear hb y0 y1 y2 y3 y4 y5
          obtain ⟨y0, y1, y2, y3, y4, y5⟩ := cells6 HS8.out.box
          obtain ⟨z0, z1, z2, z3, z4, z5⟩ := cells6 HS8.out.res
          obtain ⟨f0, f1, f2, f3, f4, f5⟩ := free6 HS8.out.res
          have HQ := Lib.hid (heap_put6 HS8.out.res (.int .i64 o) (.int .i64 c) (.int .i64 m0) (.int .i64 m1) (.int .i64 m2) (.int .i64 m3))
          have HBQ := Lib.hid (below_put6 HS8.out.bel (Nat.le_refl _) (.int .i64 o) (.int .i64 c) (.int .i64 m0) (.int .i64 m1) (.int .i64 m2) (.int .i64 m3))
          go_wp2_with fail
          exact bodyPost_ret (results_st (j := 2) (k := 3) rfl _ _ w.heap.size _ _ _ _ _ _ rfl HQ.out) rfl ⟨read_yes HN.out, HBQ.out⟩

end Go.Proofs.YtdpgfnnhbfkacaaGreatDoor.Step

/-
  The contracts of the document's Split and Number: texts of up to 300 octets; what was there stays as it was.
-/
set_option linter.unusedVariables false
set_option linter.unusedSimpArgs false
set_option maxRecDepth 4000
set_option maxRecDepth 4000
namespace Go.Proofs.YtdpgfnnhbfkacaaGreatDoor.Step
open Go.RowKit StP
open Go.Proofs.YtdpgfnnhbfkacaaGreatDoor.Kt
theorem cons_at (s : ByteArray) (k : Nat) (h : k < s.size) : s.data.toList.drop k = s[k] :: s.data.toList.drop (k + 1) := by
  have h2 : k < s.data.toList.length := by rw [← size_list]; exact h
  rw [List.drop_eq_getElem_cons h2]
  rfl
def Cuts (c : UInt8) (L : List UInt8) (D : List ByteArray) (f k : Nat) : Prop :=
  parts c L = D.map (·.data.toList) ++ parts c (L.drop f) ∧ c ∉ (L.drop f).take (k - f) ∧ D.length ≤ k
theorem Cuts.start (c : UInt8) (L : List UInt8) : Cuts c L [] 0 0 := ⟨rfl, by simp, Nat.le_refl _⟩
theorem Cuts.no {c : UInt8} {s : ByteArray} {D : List ByteArray} {f k : Nat} (h : Cuts c s.data.toList D f k) (hf : f ≤ k) (hk : k < s.size) (hc : s[k] ≠ c) : Cuts c s.data.toList D f (k + 1) := by
  refine ⟨h.1, ?_, by have := h.2.2; omega⟩
  have h3 : ((s.data.toList.drop f).take (k + 1 - f)) = (s.data.toList.drop f).take (k - f) ++ [s[k]] := by
    have e : k + 1 - f = (k - f) + 1 := by omega
    have h2 : k - f < (s.data.toList.drop f).length := by rw [List.length_drop, ← size_list]; omega
    rw [e, List.take_succ_eq_append_getElem h2]
    congr 1
    have := cons_at s k hk
    have e2 : (s.data.toList.drop f).drop (k - f) = s.data.toList.drop k := by rw [List.drop_drop]; congr 1; omega
    have h4 := List.drop_eq_getElem_cons h2
    rw [e2, this] at h4
    rw [(List.cons.inj h4).1]
  rw [h3]
  intro hm
  rcases List.mem_append.1 hm with hm | hm
  · exact h.2.1 hm
  · simp at hm; exact hc hm.symm
theorem Cuts.yes {c : UInt8} {s : ByteArray} {D : List ByteArray} {f k : Nat} (h : Cuts c s.data.toList D f k) (hf : f ≤ k) (hk : k < s.size) (hc : s[k] = c) : Cuts c s.data.toList (D ++ [s.extract f k]) (k + 1) (k + 1) := by
  refine ⟨?_, by simp, by have := h.2.2; simp; omega⟩
  have e2 : (s.data.toList.drop f).drop (k - f) = s.data.toList.drop k := by rw [List.drop_drop]; congr 1; omega
  have h5 : s.data.toList.drop f = (s.data.toList.drop f).take (k - f) ++ c :: s.data.toList.drop (k + 1) := by
    rw [← hc, ← cons_at s k hk, ← e2, List.take_append_drop]
  have h6 : parts c (s.data.toList.drop f) = (s.data.toList.drop f).take (k - f) :: parts c (s.data.toList.drop (k + 1)) := by
    refine parts_more ?_
    rw (occs := .pos [1]) [h5]
    exact cut_mk _ _ h.2.1
  rw [h.1, h6, List.map_append]
  simp
theorem Cuts.done {c : UInt8} {s : ByteArray} {D : List ByteArray} {f : Nat} (h : Cuts c s.data.toList D f s.size) : (D ++ [s.extract f s.size]).map (·.data.toList) = parts c s.data.toList := by
  have h2 : (s.data.toList.drop f).take (s.size - f) = s.data.toList.drop f := List.take_of_length_le (by rw [List.length_drop, ← size_list]; exact Nat.le_refl _)
  have h3 := h.2.1
  rw [h2] at h3
  rw [h.1, parts_one (cut_none h3), List.map_append]
  simp [h2]
def SplitOut (w : World) (ps : List (List UInt8)) (e : Ending) (w' : World) : Prop :=
  Below w.heap.size w w' ∧ ∃ (P : List ByteArray) (g cap : Nat), P.map (·.data.toList) = ps ∧ e = .returned (.slice (some ⟨g, 0, none⟩) P.length cap) ∧ PaAt w' g P ∧ w.heap.size ≤ g
theorem split_out {w w' : World} {ps : List (List UInt8)} {P : List ByteArray} {n : Nat} {v : Value} (h : P.map (·.data.toList) = ps) (hn : P.length = n) (h1 : 0 < n) (ho : w'.ownsRow w.heap.size 9 1 v n (Rw.cells Rw.strS P)) (hb : Below w.heap.size w w') : SplitOut w ps (.returned v) w' := by
  subst hn
  rcases Rw.owns_form ho with ⟨_, h0⟩ | ⟨g, cap, rfl, hge, hlt⟩
  · omega
  · exact ⟨hb, P, g, cap, h, rfl, ⟨hlt, fun i x hx => Rw.owns_cell ho rfl (Rw.str_get hx)⟩, hge⟩
set_option maxHeartbeats 2000000 in
theorem rsplit_any (s : ByteArray) (c : UInt8) (ci : Int) (hci : ci = (c.toNat : Int)) (w : World) (hs : s.size ≤ 300) :
    Calls Tryz.prog 70 #[.string s, .int .u8 ci] w (SplitOut w (parts c s.data.toList)) := by
  obtain ⟨ps, hps⟩ : ∃ ps, parts c s.data.toList = ps := ⟨_, rfl⟩
  rw [hps]
  have HPS := Lib.hid hps
  have HCI := Lib.hid hci
  clear hps hci
  go_enter Tryz.func70, Tryz.ntmps70
  go_wp2_with fail
  go_loopw [5, 6, 7] (fun t fr i wr => ∃ (k f : Nat) (D : List ByteArray), k ≤ s.size ∧ f ≤ k ∧ i = .int .i64 (k : Int) ∧ fr = .int .i64 (f : Int) ∧ Hid (Cuts c s.data.toList D f k) ∧ Hid (wr.ownsRow w.heap.size 9 1 t D.length (Rw.cells Rw.strS D)) ∧ Hid (Below w.heap.size w wr)) (fun _ _ i _ => s.size - (intOf i).toNat)
  case atStart => exact ⟨0, 0, [], Nat.zero_le _, Nat.le_refl _, rfl, rfl, Lib.hid (Cuts.start c _), Lib.hid (World.ownsRow_nil _ _ _ _), Lib.hid (Below.refl _ _)⟩
  case round =>
    obtain ⟨k, f, D, hk, hf, rfl, rfl, hC, hO, hB⟩ := hrel
    have hdl := hC.out.2.2
    by_cases hlk : k < s.size
    · obtain ⟨b, hb⟩ : ∃ b : UInt8, s[k] = b := ⟨_, rfl⟩
      by_cases hbc : b = c
      · have HC2 : Hid (Cuts c s.data.toList (D ++ [s.extract f k]) (k + 1) (k + 1)) := hC.out.yes hf hlk (hb.trans hbc)
        have hq : ((b.toNat : Int) == ci) = true := by rw [HCI.out, hbc]; simp
        have hsz5 : w.heap.size ≤ wr.heap.size := hB.out.size
        obtain ⟨x, hx⟩ : ∃ x, s.extract f k = x := ⟨_, rfl⟩
        rw [hx] at HC2
        have HX := Lib.hid hx
        obtain ⟨L, hL⟩ : ∃ L, D.length = L := ⟨_, rfl⟩
        rw [hL] at hO hdl
        have HLN : Hid ((D ++ [x]).length = L + 1) := by show _ = _; rw [List.length_append, hL]; rfl
        have hkf : (f : Int) ≤ (k : Int) := by omega
        clear hbc hC hL
        go_wp2_with (first
          | (at_builtin; refine Rw.append_one Rw.strS rfl (.tmp 19) (.tmp 24) rfl w.heap.size wr _ rfl x _ rfl _ L D rfl hO.out rfl (by omega) hsz5 ?_)
          | fail)
        intro v' w6 hown6 hgrow6
        have HO6 : Hid (w6.ownsRow w.heap.size 9 1 v' (D ++ [x]).length (Rw.cells Rw.strS (D ++ [x]))) := by
          show w6.ownsRow _ _ _ _ _ _
          rw [HLN.out]; exact hown6
        have HB6 := Lib.hid (Rw.below_append hB.out hB.out.size hO.out hgrow6)
        clear hown6 hgrow6
        go_wp2_with fail
        go_roundw
        case rel => exact ⟨k + 1, k + 1, D ++ [x], by omega, Nat.le_refl _, by go_num, by go_num, HC2, HO6, HB6⟩
        case measure => simp [intOf]; omega
      · have HC2 : Hid (Cuts c s.data.toList D f (k + 1)) := hC.out.no hf hlk (by rw [hb]; exact hbc)
        have hq : ((b.toNat : Int) == ci) = false := by
          rw [HCI.out, beq_eq_false_iff_ne]
          intro e
          exact hbc (UInt8.toNat_inj.1 (by omega))
        clear hbc hC
        go_wp2_with fail
        go_roundw
        case rel => exact ⟨k + 1, f, D, by omega, by omega, by go_num, rfl, HC2, hO, hB⟩
        case measure => simp [intOf]; omega
    · obtain rfl : k = s.size := by omega
      have HD := Lib.hid (hC.out.done.trans HPS.out)
      have hsz5 : w.heap.size ≤ wr.heap.size := hB.out.size
      obtain ⟨x, hx⟩ : ∃ x, s.extract f s.size = x := ⟨_, rfl⟩
      rw [hx] at HD
      have HX := Lib.hid hx
      obtain ⟨L, hL⟩ : ∃ L, D.length = L := ⟨_, rfl⟩
      rw [hL] at hO hdl
      have HLN : Hid ((D ++ [x]).length = L + 1) := by show _ = _; rw [List.length_append, hL]; rfl
      have hkf : (f : Int) ≤ (s.size : Int) := by omega
      clear hC hL
      go_wp2_with (first
        | (at_builtin; refine Rw.append_one Rw.strS rfl (.tmp 28) (.tmp 32) rfl w.heap.size wr _ rfl x _ rfl _ L D rfl hO.out rfl (by omega) hsz5 ?_)
        | fail)
      intro v' w6 hown6 hgrow6
      have HO6 : Hid (w6.ownsRow w.heap.size 9 1 v' (L + 1) (Rw.cells Rw.strS (D ++ [x]))) := by
        show w6.ownsRow _ _ _ _ _ _
        exact hown6
      have HB6 := Lib.hid (Rw.below_append hB.out hB.out.size hO.out hgrow6)
      clear hown6 hgrow6
      go_wp2_with fail
      go_ret
      exact split_out HD.out HLN.out (Nat.succ_pos _) HO6.out HB6.out
theorem rnumber_is (s : ByteArray) (p q : Int) (w : World) (hs : s.size ≤ 9223372036854775807) (e1 : NumP.numP s.data.toList = (p, q)) :
    Calls Tryz.prog 103 #[.string s] w fun e w' => e = .returned (.tuple #[.int .i64 p, .int .i64 q]) ∧ w = w' := by
  have := Num.rnumber_any s w hs
  rw [e1] at this
  exact this
end Go.Proofs.YtdpgfnnhbfkacaaGreatDoor.Step

/-
  The contract of the document's Read: any text of up to 300 octets; what was there stays as it was.
-/
set_option linter.unusedVariables false
set_option linter.unusedSimpArgs false
set_option maxRecDepth 4000
set_option maxRecDepth 4000
namespace Go.Proofs.YtdpgfnnhbfkacaaGreatDoor.Step
open Go.RowKit StP
open Go.Proofs.YtdpgfnnhbfkacaaGreatDoor.Kt
structure RD (w W : World) (b h : Nat) (P : List ByteArray) (v0 v1 v2 v3 v4 v5 : Value) : Prop where
  bel : Below w.heap.size w W
  res : At6 49 W w.heap.size (.int .i64 0) (.int .i64 0) (.int .i64 0) (.int .i64 0) (.int .i64 0) (.int .i64 0)
  box : At6 49 W b v0 v1 v2 v3 v4 v5
  prt : PaAt W h P
  bne : w.heap.size < b
  hne : h ≠ b
theorem RD.keep {w W W' : World} {b h : Nat} {P : List ByteArray} {v0 v1 v2 v3 v4 v5 : Value} (r : RD w W b h P v0 v1 v2 v3 v4 v5) (hb : Below W.heap.size W W') : RD w W' b h P v0 v1 v2 v3 v4 v5 :=
  ⟨below_keep r.bel hb r.bel.size, r.res.keep hb, r.box.keep hb, r.prt.keep hb, r.bne, r.hne⟩

theorem RD.set0 {w W : World} {b h : Nat} {P : List ByteArray} {v0 v1 v2 v3 v4 v5 : Value} (r : RD w W b h P v0 v1 v2 v3 v4 v5) (u : Value) : RD w (W.setCell ⟨b, 0, none⟩ u) b h P u v1 v2 v3 v4 v5 := by
  have hs : (W.setCell ⟨b, 0, none⟩ u).heap.size = W.heap.size := by simp
  have ho : ∀ k, k ≠ b → (W.setCell ⟨b, 0, none⟩ u).heap[k]? = W.heap[k]? := fun k hk => heap_setCell_other _ _ _ _ (by exact hk)
  have hg := r.bne
  have hh := r.hne
  refine ⟨r.bel.setCell (p := ⟨b, 0, none⟩) (Nat.le_of_lt hg) _, (ho _ (by omega)).trans r.res, ?_, r.prt.keepH (Nat.le_of_eq hs.symm) (ho _ hh), r.bne, r.hne⟩
  have h1 := Lib.heap_setCell_same (i := 0) r.box u
  unfold At6
  rw [h1]
  rfl

theorem RD.set1 {w W : World} {b h : Nat} {P : List ByteArray} {v0 v1 v2 v3 v4 v5 : Value} (r : RD w W b h P v0 v1 v2 v3 v4 v5) (u : Value) : RD w (W.setCell ⟨b, 1, none⟩ u) b h P v0 u v2 v3 v4 v5 := by
  have hs : (W.setCell ⟨b, 1, none⟩ u).heap.size = W.heap.size := by simp
  have ho : ∀ k, k ≠ b → (W.setCell ⟨b, 1, none⟩ u).heap[k]? = W.heap[k]? := fun k hk => heap_setCell_other _ _ _ _ (by exact hk)
  have hg := r.bne
  have hh := r.hne
  refine ⟨r.bel.setCell (p := ⟨b, 1, none⟩) (Nat.le_of_lt hg) _, (ho _ (by omega)).trans r.res, ?_, r.prt.keepH (Nat.le_of_eq hs.symm) (ho _ hh), r.bne, r.hne⟩
  have h1 := Lib.heap_setCell_same (i := 1) r.box u
  unfold At6
  rw [h1]
  rfl

theorem RD.set2 {w W : World} {b h : Nat} {P : List ByteArray} {v0 v1 v2 v3 v4 v5 : Value} (r : RD w W b h P v0 v1 v2 v3 v4 v5) (u : Value) : RD w (W.setCell ⟨b, 2, none⟩ u) b h P v0 v1 u v3 v4 v5 := by
  have hs : (W.setCell ⟨b, 2, none⟩ u).heap.size = W.heap.size := by simp
  have ho : ∀ k, k ≠ b → (W.setCell ⟨b, 2, none⟩ u).heap[k]? = W.heap[k]? := fun k hk => heap_setCell_other _ _ _ _ (by exact hk)
  have hg := r.bne
  have hh := r.hne
  refine ⟨r.bel.setCell (p := ⟨b, 2, none⟩) (Nat.le_of_lt hg) _, (ho _ (by omega)).trans r.res, ?_, r.prt.keepH (Nat.le_of_eq hs.symm) (ho _ hh), r.bne, r.hne⟩
  have h1 := Lib.heap_setCell_same (i := 2) r.box u
  unfold At6
  rw [h1]
  rfl

theorem RD.set3 {w W : World} {b h : Nat} {P : List ByteArray} {v0 v1 v2 v3 v4 v5 : Value} (r : RD w W b h P v0 v1 v2 v3 v4 v5) (u : Value) : RD w (W.setCell ⟨b, 3, none⟩ u) b h P v0 v1 v2 u v4 v5 := by
  have hs : (W.setCell ⟨b, 3, none⟩ u).heap.size = W.heap.size := by simp
  have ho : ∀ k, k ≠ b → (W.setCell ⟨b, 3, none⟩ u).heap[k]? = W.heap[k]? := fun k hk => heap_setCell_other _ _ _ _ (by exact hk)
  have hg := r.bne
  have hh := r.hne
  refine ⟨r.bel.setCell (p := ⟨b, 3, none⟩) (Nat.le_of_lt hg) _, (ho _ (by omega)).trans r.res, ?_, r.prt.keepH (Nat.le_of_eq hs.symm) (ho _ hh), r.bne, r.hne⟩
  have h1 := Lib.heap_setCell_same (i := 3) r.box u
  unfold At6
  rw [h1]
  rfl

theorem RD.set4 {w W : World} {b h : Nat} {P : List ByteArray} {v0 v1 v2 v3 v4 v5 : Value} (r : RD w W b h P v0 v1 v2 v3 v4 v5) (u : Value) : RD w (W.setCell ⟨b, 4, none⟩ u) b h P v0 v1 v2 v3 u v5 := by
  have hs : (W.setCell ⟨b, 4, none⟩ u).heap.size = W.heap.size := by simp
  have ho : ∀ k, k ≠ b → (W.setCell ⟨b, 4, none⟩ u).heap[k]? = W.heap[k]? := fun k hk => heap_setCell_other _ _ _ _ (by exact hk)
  have hg := r.bne
  have hh := r.hne
  refine ⟨r.bel.setCell (p := ⟨b, 4, none⟩) (Nat.le_of_lt hg) _, (ho _ (by omega)).trans r.res, ?_, r.prt.keepH (Nat.le_of_eq hs.symm) (ho _ hh), r.bne, r.hne⟩
  have h1 := Lib.heap_setCell_same (i := 4) r.box u
  unfold At6
  rw [h1]
  rfl

theorem RD.set5 {w W : World} {b h : Nat} {P : List ByteArray} {v0 v1 v2 v3 v4 v5 : Value} (r : RD w W b h P v0 v1 v2 v3 v4 v5) (u : Value) : RD w (W.setCell ⟨b, 5, none⟩ u) b h P v0 v1 v2 v3 v4 u := by
  have hs : (W.setCell ⟨b, 5, none⟩ u).heap.size = W.heap.size := by simp
  have ho : ∀ k, k ≠ b → (W.setCell ⟨b, 5, none⟩ u).heap[k]? = W.heap[k]? := fun k hk => heap_setCell_other _ _ _ _ (by exact hk)
  have hg := r.bne
  have hh := r.hne
  refine ⟨r.bel.setCell (p := ⟨b, 5, none⟩) (Nat.le_of_lt hg) _, (ho _ (by omega)).trans r.res, ?_, r.prt.keepH (Nat.le_of_eq hs.symm) (ho _ hh), r.bne, r.hne⟩
  have h1 := Lib.heap_setCell_same (i := 5) r.box u
  unfold At6
  rw [h1]
  rfl

theorem rd_new {w W : World} {h : Nat} {P : List ByteArray} (hb : Below (w.alloc (.cells #[.int .i64 0, .int .i64 0, .int .i64 0, .int .i64 0, .int .i64 0, .int .i64 0] 49)).heap.size (w.alloc (.cells #[.int .i64 0, .int .i64 0, .int .i64 0, .int .i64 0, .int .i64 0, .int .i64 0] 49)) W) (hp : PaAt W h P) : RD w (W.alloc (.cells #[.int .i64 0, .int .i64 0, .int .i64 0, .int .i64 0, .int .i64 0, .int .i64 0] 49)) W.heap.size h P (.int .i64 0) (.int .i64 0) (.int .i64 0) (.int .i64 0) (.int .i64 0) (.int .i64 0) := by
  have a0 := at6_new 49 w (.int .i64 0) (.int .i64 0) (.int .i64 0) (.int .i64 0) (.int .i64 0) (.int .i64 0)
  have hz : (w.alloc (.cells #[.int .i64 0, .int .i64 0, .int .i64 0, .int .i64 0, .int .i64 0, .int .i64 0] 49)).heap.size = w.heap.size + 1 := by simp
  have hs := hb.size
  rw [hz] at hs
  have hb0 : Below w.heap.size w (w.alloc (.cells #[.int .i64 0, .int .i64 0, .int .i64 0, .int .i64 0, .int .i64 0, .int .i64 0] 49)) := (Below.refl _ _).alloc (Nat.le_refl _) _
  have hb1 := below_keep hb0 hb (by omega)
  exact ⟨hb1.alloc (by omega) _, (a0.keep hb).alloc _, at6_new 49 W _ _ _ _ _ _, hp.keep ((Below.refl _ _).alloc (Nat.le_refl _) _), by omega, by have := hp.1; omega⟩
theorem up_hit {L : Int → List UInt8} {p : List UInt8} {k : Nat} (h : p = L ((k : Int) + 1)) : upO L p (k + 1) = (k : Int) + 1 := by rw [upO, if_pos h]
theorem up_miss {L : Int → List UInt8} {p : List UInt8} {k : Nat} (h : ¬ p = L ((k : Int) + 1)) : upO L p (k + 1) = upO L p k := by rw [upO, if_neg h]
theorem bs_ne {p : ByteArray} {l : List UInt8} (h : ¬ p.data.toList = l) : (p.toList == (bs l).toList) = false := by
  rw [beq_eq_false_iff_ne, ByteArray.toList_eq, ByteArray.toList_eq, data_bs]; exact h
theorem bs_eq {p : ByteArray} {l : List UInt8} (h : p.data.toList = l) : (p.toList == (bs l).toList) = true := by
  rw [beq_iff_eq, ByteArray.toList_eq, ByteArray.toList_eq, data_bs]; exact h

set_option maxHeartbeats 8000000 in
theorem rread_any (s : ByteArray) (w : World) (hs : s.size ≤ 300) : Calls Tryz.prog 71 #[.string s] w fun e w' => e = .returned (.tuple #[stV (gotS (readS s.data.toList)), .int .i64 (errS (readS s.data.toList))]) ∧ Below w.heap.size w w' := by
  obtain ⟨R, hR⟩ : ∃ R, readS s.data.toList = R := ⟨_, rfl⟩
  rw [hR]
  have hR2 := (readD_eq s.data.toList).trans hR
  obtain ⟨ps, hps⟩ : ∃ ps, parts 47 s.data.toList = ps := ⟨_, rfl⟩
  have CS := Lib.hid (rsplit_any s 47 47 rfl (w.alloc (.cells #[.int .i64 0, .int .i64 0, .int .i64 0, .int .i64 0, .int .i64 0, .int .i64 0] 49)) hs)
  rw [hps] at hR2 CS
  have HSM : Hid (∀ p ∈ ps, p.length ≤ 300) := by
    show ∀ p ∈ ps, _
    rw [← hps]
    intro p hp
    have := partsF_small 47 _ _ p hp
    have h2 : s.data.toList.length = s.size := Array.length_toList
    omega
  have HR := Lib.hid hR2
  clear hR hR2 hps
  go_enter Tryz.func71, Tryz.ntmps71
  go_wp2_with fail
  refine CS.out.mono ?_
  rintro e w1 ⟨hb, P, h, cp, rfl, rfl, hP⟩
  clear CS
  have HS := Lib.hid (rd_new hb hP.1)
  obtain ⟨n, hn⟩ : ∃ n, P.length = n := ⟨_, rfl⟩
  rw [hn]
  by_cases h6 : n = 6
  rotate_left
  · have HN : Hid (R = none) := by show _ = _; rw [← HR.out]; exact readD_long (by rw [List.length_map, hn]; exact h6)
    have hq : ((n : Int) != 6) = true := by simp; omega
    have a0 : At6 49 w1 w.heap.size (.int .i64 0) (.int .i64 0) (.int .i64 0) (.int .i64 0) (.int .i64 0) (.int .i64 0) := (at6_new 49 w _ _ _ _ _ _).keep hb
    have hb2 : Below w.heap.size w w1 := below_keep ((Below.refl _ _).alloc (Nat.le_refl _) (.cells #[.int .i64 0, .int .i64 0, .int .i64 0, .int .i64 0, .int .i64 0, .int .i64 0] 49)) hb (by simp)
    clear HR HS
    obtain ⟨z0, z1, z2, z3, z4, z5⟩ := cells6 a0
    obtain ⟨f0, f1, f2, f3, f4, f5⟩ := free6 a0
    have HQ := Lib.hid (heap_put6 a0 (.int .i64 0) (.int .i64 0) (.int .i64 0) (.int .i64 0) (.int .i64 0) (.int .i64 0))
    have HBQ := Lib.hid (below_put6 hb2 (Nat.le_refl _) (.int .i64 0) (.int .i64 0) (.int .i64 0) (.int .i64 0) (.int .i64 0) (.int .i64 0))
    clear hb hP a0 hb2
    go_wp2_with fail
    exact bodyPost_ret (results_st (j := 2) (k := 3) rfl _ _ w.heap.size _ _ _ _ _ _ rfl HQ.out) rfl ⟨read_no HN.out, HBQ.out⟩
  subst h6
  obtain ⟨p0, p1, p2, p3, p4, p5, rfl⟩ : ∃ p0 p1 p2 p3 p4 p5, P = [p0, p1, p2, p3, p4, p5] := by
    match P, hn with
    | [p0, p1, p2, p3, p4, p5], _ => exact ⟨p0, p1, p2, p3, p4, p5, rfl⟩
  clear hn hb hP
  go_wp2_with fail
  generalize w1.alloc (.cells #[.int .i64 0, .int .i64 0, .int .i64 0, .int .i64 0, .int .i64 0, .int .i64 0] 49) = w2 at *
  generalize w1.heap.size = b at *
  go_loopw [6] (fun i wr => ∃ k : Nat, k ≤ 6 ∧ i = .int .i64 ((k : Int) + 1) ∧ Hid (RD w wr b h [p0, p1, p2, p3, p4, p5] (.int .i64 (upO opL p0.data.toList k)) (.int .i64 0) (.int .i64 0) (.int .i64 0) (.int .i64 0) (.int .i64 0))) (fun i _ => 7 - (intOf i).toNat)
  case atStart => exact ⟨0, by omega, rfl, HS⟩
  case round =>
    obtain ⟨k, hk, rfl, hS⟩ := hrel
    by_cases hlk : k < 6
    · have hki : (k : Int) + 1 ≤ 6 := by omega
      obtain ⟨W0, hW0⟩ : ∃ W0, bs (opL ((k : Int) + 1)) = W0 := ⟨_, rfl⟩
      have C0 := Lib.hid (fun d os => Calls.regrown_of (rop_below ((k : Int) + 1) W0 hW0 (Sort.grow (redrawn wr d) os)))
      have r0 := fun d os => cell_regrown (hS.out.prt.2 0 p0 rfl) d os
      by_cases he : p0.data.toList = opL ((k : Int) + 1)
      · have hq := bs_eq he
        have HU : Hid (upO opL p0.data.toList (k + 1) = (k : Int) + 1) := up_hit he
        rw [hW0] at hq
        clear he hW0
        go_wp2_with fail
        refine wp_region_qw (by kernel_rfl) (by kernel_rfl) ?_
        iterate 6 (refine qw_take (by kernel_rfl) (fun K hK => ?_); go_simp; first | (refine hK _ ?_; clear hK K) | (apply Exists.intro; refine ⟨fun _ => ?_, hK _ ?_⟩; (first | with_reducible exact C0.out _ _); clear hK K))
        refine qw_nil ?_
        intro _ hw'
        obtain ⟨⟨dq, osq⟩, hw''⟩ := hw'
        subst hw''
        have HSL := Lib.hid (hS.out.keep (below_regrown wr dq osq))
        clear r0 C0 hS
        generalize Sort.grow (redrawn wr dq) osq = wl at *
        obtain ⟨z0, _, _, _, _, _⟩ := cells6 HSL.out.box
        obtain ⟨f0, _, _, _, _, _⟩ := free6 HSL.out.box
        have HS9 := Lib.hid (HSL.out.set0 (.int .i64 ((k : Int) + 1)))
        go_wp2_with fail
        go_roundw
        case rel => exact ⟨k + 1, by omega, by go_num, by show RD _ _ _ _ _ _ _ _ _ _ _; rw [HU.out]; exact HS9.out⟩
        case measure => simp [intOf]; omega
      · have hq := bs_ne he
        have HU : Hid (upO opL p0.data.toList (k + 1) = upO opL p0.data.toList k) := up_miss he
        rw [hW0] at hq
        clear he hW0
        go_wp2_with fail
        refine wp_region_qw (by kernel_rfl) (by kernel_rfl) ?_
        iterate 6 (refine qw_take (by kernel_rfl) (fun K hK => ?_); go_simp; first | (refine hK _ ?_; clear hK K) | (apply Exists.intro; refine ⟨fun _ => ?_, hK _ ?_⟩; (first | with_reducible exact C0.out _ _); clear hK K))
        refine qw_nil ?_
        intro _ hw'
        obtain ⟨⟨dq, osq⟩, hw''⟩ := hw'
        subst hw''
        have HSL := Lib.hid (hS.out.keep (below_regrown wr dq osq))
        clear r0 C0 hS
        generalize Sort.grow (redrawn wr dq) osq = wl at *
        go_wp2_with fail
        go_roundw
        case rel => exact ⟨k + 1, by omega, by go_num, by show RD _ _ _ _ _ _ _ _ _ _ _; rw [HU.out]; exact HSL.out⟩
        case measure => simp [intOf]; omega
    · obtain rfl : k = 6 := by omega
      rw [show ((6 : Nat) : Int) + 1 = 7 from rfl]
      have HS := Lib.hid hS.out
      clear hS
      go_wp2_with fail
      go_loopw [7] (fun i wr => ∃ k : Nat, k ≤ 3 ∧ i = .int .i64 ((k : Int) + 1) ∧ Hid (RD w wr b h [p0, p1, p2, p3, p4, p5] (.int .i64 (upO opL p0.data.toList 6)) (.int .i64 (upO clL p1.data.toList k)) (.int .i64 0) (.int .i64 0) (.int .i64 0) (.int .i64 0))) (fun i _ => 4 - (intOf i).toNat)
      case atStart => exact ⟨0, by omega, rfl, HS⟩
      case round =>
        obtain ⟨k, hk, rfl, hS⟩ := hrel
        by_cases hlk : k < 3
        · have hki : (k : Int) + 1 ≤ 3 := by omega
          obtain ⟨W0, hW0⟩ : ∃ W0, bs (clL ((k : Int) + 1)) = W0 := ⟨_, rfl⟩
          have C0 := Lib.hid (fun d os => Calls.regrown_of (rcl_below ((k : Int) + 1) W0 hW0 (Sort.grow (redrawn wr d) os)))
          have r0 := fun d os => cell_regrown (hS.out.prt.2 1 p1 rfl) d os
          by_cases he : p1.data.toList = clL ((k : Int) + 1)
          · have hq := bs_eq he
            have HU : Hid (upO clL p1.data.toList (k + 1) = (k : Int) + 1) := up_hit he
            rw [hW0] at hq
            clear he hW0
            go_wp2_with fail
            refine wp_region_qw (by kernel_rfl) (by kernel_rfl) ?_
            iterate 6 (refine qw_take (by kernel_rfl) (fun K hK => ?_); go_simp; first | (refine hK _ ?_; clear hK K) | (apply Exists.intro; refine ⟨fun _ => ?_, hK _ ?_⟩; (first | with_reducible exact C0.out _ _); clear hK K))
            refine qw_nil ?_
            intro _ hw'
            obtain ⟨⟨dq, osq⟩, hw''⟩ := hw'
            subst hw''
            have HSL := Lib.hid (hS.out.keep (below_regrown wr dq osq))
            clear r0 C0 hS
            generalize Sort.grow (redrawn wr dq) osq = wl at *
            obtain ⟨_, z0, _, _, _, _⟩ := cells6 HSL.out.box
            obtain ⟨_, f0, _, _, _, _⟩ := free6 HSL.out.box
            have HS9 := Lib.hid (HSL.out.set1 (.int .i64 ((k : Int) + 1)))
            go_wp2_with fail
            go_roundw
            case rel => exact ⟨k + 1, by omega, by go_num, by show RD _ _ _ _ _ _ _ _ _ _ _; rw [HU.out]; exact HS9.out⟩
            case measure => simp [intOf]; omega
          · have hq := bs_ne he
            have HU : Hid (upO clL p1.data.toList (k + 1) = upO clL p1.data.toList k) := up_miss he
            rw [hW0] at hq
            clear he hW0
            go_wp2_with fail
            refine wp_region_qw (by kernel_rfl) (by kernel_rfl) ?_
            iterate 6 (refine qw_take (by kernel_rfl) (fun K hK => ?_); go_simp; first | (refine hK _ ?_; clear hK K) | (apply Exists.intro; refine ⟨fun _ => ?_, hK _ ?_⟩; (first | with_reducible exact C0.out _ _); clear hK K))
            refine qw_nil ?_
            intro _ hw'
            obtain ⟨⟨dq, osq⟩, hw''⟩ := hw'
            subst hw''
            have HSL := Lib.hid (hS.out.keep (below_regrown wr dq osq))
            clear r0 C0 hS
            generalize Sort.grow (redrawn wr dq) osq = wl at *
            go_wp2_with fail
            go_roundw
            case rel => exact ⟨k + 1, by omega, by go_num, by show RD _ _ _ _ _ _ _ _ _ _ _; rw [HU.out]; exact HSL.out⟩
            case measure => simp [intOf]; omega
        · obtain rfl : k = 3 := by omega
          rw [show ((3 : Nat) : Int) + 1 = 4 from rfl]
          have HS := Lib.hid hS.out
          clear hS
          obtain ⟨O, hO⟩ : ∃ O, upO opL p0.data.toList 6 = O := ⟨_, rfl⟩
          obtain ⟨C, hC⟩ : ∃ C, upO clL p1.data.toList 3 = C := ⟨_, rfl⟩
          rw [hO, hC] at HS
          obtain ⟨m0, e0, hn0⟩ : ∃ m e, NumP.numP p2.data.toList = (m, e) := ⟨_, _, rfl⟩
          have CN0 := Lib.hid (fun W => rnumber_is p2 m0 e0 W (by have := HSM.out p2.data.toList (by simp); have h2 : p2.data.toList.length = p2.size := Array.length_toList; omega) hn0)
          obtain ⟨m1, e1, hn1⟩ : ∃ m e, NumP.numP p3.data.toList = (m, e) := ⟨_, _, rfl⟩
          have CN1 := Lib.hid (fun W => rnumber_is p3 m1 e1 W (by have := HSM.out p3.data.toList (by simp); have h2 : p3.data.toList.length = p3.size := Array.length_toList; omega) hn1)
          obtain ⟨m2, e2, hn2⟩ : ∃ m e, NumP.numP p4.data.toList = (m, e) := ⟨_, _, rfl⟩
          have CN2 := Lib.hid (fun W => rnumber_is p4 m2 e2 W (by have := HSM.out p4.data.toList (by simp); have h2 : p4.data.toList.length = p4.size := Array.length_toList; omega) hn2)
          obtain ⟨m3, e3, hn3⟩ : ∃ m e, NumP.numP p5.data.toList = (m, e) := ⟨_, _, rfl⟩
          have CN3 := Lib.hid (fun W => rnumber_is p5 m3 e3 W (by have := HSM.out p5.data.toList (by simp); have h2 : p5.data.toList.length = p5.size := Array.length_toList; omega) hn3)
          have HD : Hid (R = if fitS ⟨O, C, m0, m1, m2, m3⟩ = true ∧ textS ⟨O, C, m0, m1, m2, m3⟩ = s.data.toList then some ⟨O, C, m0, m1, m2, m3⟩ else none) := by
            show _ = _
            rw [← HR.out, ← hO, ← hC]
            show readD _ [p0.data.toList, p1.data.toList, p2.data.toList, p3.data.toList, p4.data.toList, p5.data.toList] = _
            unfold readD
            simp only [hn0, hn1, hn2, hn3]
          clear hO hC hn0 hn1 hn2 hn3 HR HSM
          have t0 := HS.out.prt.2 2 p2 rfl
          have t1 := HS.out.prt.2 3 p3 rfl
          have t2 := HS.out.prt.2 4 p4 rfl
          have t3 := HS.out.prt.2 5 p5 rfl
          go_wp2_with fail
          refine (CN0.out _).mono ?_
          rintro e w3 ⟨rfl, rfl⟩
          go_wp2_with fail
          refine (CN1.out _).mono ?_
          rintro e w3 ⟨rfl, rfl⟩
          go_wp2_with fail
          refine (CN2.out _).mono ?_
          rintro e w3 ⟨rfl, rfl⟩
          go_wp2_with fail
          refine (CN3.out _).mono ?_
          rintro e w3 ⟨rfl, rfl⟩
          clear t0 t1 t2 t3 CN0 CN1 CN2 CN3
          have HT0 := Lib.hid (HS.out.set2 (.int .i64 m0))
          obtain ⟨_, _, z2, _, _, _⟩ := cells6 HS.out.box
          obtain ⟨_, _, f2, _, _, _⟩ := free6 HS.out.box
          have HT1 := Lib.hid (HT0.out.set3 (.int .i64 m1))
          obtain ⟨_, _, _, z3, _, _⟩ := cells6 HT0.out.box
          obtain ⟨_, _, _, f3, _, _⟩ := free6 HT0.out.box
          have HT2 := Lib.hid (HT1.out.set4 (.int .i64 m2))
          obtain ⟨_, _, _, _, z4, _⟩ := cells6 HT1.out.box
          obtain ⟨_, _, _, _, f4, _⟩ := free6 HT1.out.box
          have HT3 := Lib.hid (HT2.out.set5 (.int .i64 m3))
          obtain ⟨_, _, _, _, _, z5⟩ := cells6 HT2.out.box
          obtain ⟨_, _, _, _, _, f5⟩ := free6 HT2.out.box
          obtain ⟨wq, hwq⟩ : ∃ wq, ((((wr.setCell ⟨b, 2, none⟩ (.int .i64 m0)).setCell ⟨b, 3, none⟩ (.int .i64 m1)).setCell ⟨b, 4, none⟩ (.int .i64 m2)).setCell ⟨b, 5, none⟩ (.int .i64 m3)) = wq := ⟨_, rfl⟩
          have HT : Hid (RD w wq b h [p0, p1, p2, p3, p4, p5] (.int .i64 O) (.int .i64 C) (.int .i64 m0) (.int .i64 m1) (.int .i64 m2) (.int .i64 m3)) := by show RD _ _ _ _ _ _ _ _ _ _ _; rw [← hwq]; exact HT3.out
          obtain ⟨d0, d1, d2, d3, d4, d5⟩ := cells6 HT3.out.box
          have HWQ := Lib.hid hwq
          clear HT0 HT1 HT2 HT3 HS hwq
          cases hf : fitS ⟨O, C, m0, m1, m2, m3⟩ with
          | false =>
            have HN : Hid (R = none) := by show _ = _; rw [HD.out, hf]; rfl
            have CF := Lib.hid (rfit_is O C m0 m1 m2 m3 false hf wq)
            go_wp2_with fail
            rw [show ((((wr.setCell ⟨b, 2, none⟩ (.int .i64 m0)).setCell ⟨b, 3, none⟩ (.int .i64 m1)).setCell ⟨b, 4, none⟩ (.int .i64 m2)).setCell ⟨b, 5, none⟩ (.int .i64 m3)) = wq from HWQ.out]
            refine CF.out.mono ?_
            rintro e w8 ⟨rfl, hb⟩
            have HS8 := Lib.hid (HT.out.keep hb)
            clear hb CF
            clear hf d0 d1 d2 d3 d4 d5 z2 z3 z4 z5 f2 f3 f4 f5
            obtain ⟨z0, z1, z2, z3, z4, z5⟩ := cells6 HS8.out.res
            obtain ⟨f0, f1, f2, f3, f4, f5⟩ := free6 HS8.out.res
            have HQ := Lib.hid (heap_put6 HS8.out.res (.int .i64 0) (.int .i64 0) (.int .i64 0) (.int .i64 0) (.int .i64 0) (.int .i64 0))
            have HBQ := Lib.hid (below_put6 HS8.out.bel (Nat.le_refl _) (.int .i64 0) (.int .i64 0) (.int .i64 0) (.int .i64 0) (.int .i64 0) (.int .i64 0))
            go_wp2_with fail
            exact bodyPost_ret (results_st (j := 2) (k := 3) rfl _ _ w.heap.size _ _ _ _ _ _ rfl HQ.out) rfl ⟨read_no HN.out, HBQ.out⟩
          | true =>
            have CF := Lib.hid (rfit_is O C m0 m1 m2 m3 true hf wq)
            go_wp2_with fail
            rw [show ((((wr.setCell ⟨b, 2, none⟩ (.int .i64 m0)).setCell ⟨b, 3, none⟩ (.int .i64 m1)).setCell ⟨b, 4, none⟩ (.int .i64 m2)).setCell ⟨b, 5, none⟩ (.int .i64 m3)) = wq from HWQ.out]
            refine CF.out.mono ?_
            rintro e w8 ⟨rfl, hb⟩
            have HS8 := Lib.hid (HT.out.keep hb)
            clear hb CF
            clear d0 d1 d2 d3 d4 d5 z2 z3 z4 z5 f2 f3 f4 f5
            obtain ⟨d0, d1, d2, d3, d4, d5⟩ := cells6 HS8.out.box
            have CT := Lib.hid (rtext_any O C m0 m1 m2 m3 w8)
            obtain ⟨X, hX⟩ : ∃ X, bs (textS ⟨O, C, m0, m1, m2, m3⟩) = X := ⟨_, rfl⟩
            rw [hX] at CT
            by_cases ht : textS ⟨O, C, m0, m1, m2, m3⟩ = s.data.toList
            · have HN : Hid (R = some ⟨O, C, m0, m1, m2, m3⟩) := by show _ = _; rw [HD.out, if_pos ⟨hf, ht⟩]
              have hXs : X = s := by rw [← hX, ht]; exact bs_data s
              have hq : (s.toList == s.toList) = true := by simp
              rw [hXs] at CT
              clear hf ht hX hXs
              go_wp2_with fail
              refine CT.out.mono ?_
              rintro e w9 ⟨rfl, hb⟩
              have HS9 := Lib.hid (HS8.out.keep hb)
              clear hb CT d0 d1 d2 d3 d4 d5
              obtain ⟨d0, d1, d2, d3, d4, d5⟩ := cells6 HS9.out.box
              obtain ⟨z0, z1, z2, z3, z4, z5⟩ := cells6 HS9.out.res
              obtain ⟨f0, f1, f2, f3, f4, f5⟩ := free6 HS9.out.res
              have HQ := Lib.hid (heap_put6 HS9.out.res (.int .i64 O) (.int .i64 C) (.int .i64 m0) (.int .i64 m1) (.int .i64 m2) (.int .i64 m3))
              have HBQ := Lib.hid (below_put6 HS9.out.bel (Nat.le_refl _) (.int .i64 O) (.int .i64 C) (.int .i64 m0) (.int .i64 m1) (.int .i64 m2) (.int .i64 m3))
              go_wp2_with fail
              exact bodyPost_ret (results_st (j := 2) (k := 3) rfl _ _ w.heap.size _ _ _ _ _ _ rfl HQ.out) rfl ⟨read_yes HN.out, HBQ.out⟩
            · have HN : Hid (R = none) := by show _ = _; rw [HD.out, if_neg (fun e => ht e.2)]
              have hXs : ¬ X = s := fun e => ht (by rw [← e, ← hX, data_bs])
              have hq : (X.toList == s.toList) = false := by rw [beq_eq_false_iff_ne, ByteArray.toList_eq, ByteArray.toList_eq]; exact fun e => hXs (str_eq e)
              clear hf ht hX hXs
              go_wp2_with fail
              refine CT.out.mono ?_
              rintro e w9 ⟨rfl, hb⟩
              have HS9 := Lib.hid (HS8.out.keep hb)
              clear hb CT d0 d1 d2 d3 d4 d5
              obtain ⟨z0, z1, z2, z3, z4, z5⟩ := cells6 HS9.out.res
              obtain ⟨f0, f1, f2, f3, f4, f5⟩ := free6 HS9.out.res
              have HQ := Lib.hid (heap_put6 HS9.out.res (.int .i64 0) (.int .i64 0) (.int .i64 0) (.int .i64 0) (.int .i64 0) (.int .i64 0))
              have HBQ := Lib.hid (below_put6 HS9.out.bel (Nat.le_refl _) (.int .i64 0) (.int .i64 0) (.int .i64 0) (.int .i64 0) (.int .i64 0) (.int .i64 0))
              go_wp2_with fail
              exact bodyPost_ret (results_st (j := 2) (k := 3) rfl _ _ w.heap.size _ _ _ _ _ _ rfl HQ.out) rfl ⟨read_no HN.out, HBQ.out⟩

end Go.Proofs.YtdpgfnnhbfkacaaGreatDoor.Step
