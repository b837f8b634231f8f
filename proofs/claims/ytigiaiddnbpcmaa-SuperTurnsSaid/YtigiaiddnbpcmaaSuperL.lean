/-
  The contract of the program's Decode.
-/
import Derived.Test.YtigiaiddnbpcmaaSuperK
set_option linter.unusedVariables false
set_option maxRecDepth 4000
namespace Go.Proofs.Ytigiaiddnbpcmaa
open Go.RowKit SuperP CrcP StampP
open Wire (IntsAt getD_mem take_snoc RdAt RqAt RdStep)
open WireP (rdText rdInt St done)

def zeroSup : Sup := ⟨0, 0, 0, 0, [], []⟩
/-- What a sector is decoded as, and the error. -/
def decY (l : List UInt8) : Sup := (dec l).getD zeroSup
def decE (l : List UInt8) : Int := if (dec l).isSome then 0 else 12
theorem dec_no {l : List UInt8} (h : dec l = none) : decY l = zeroSup ∧ decE l = 12 := by unfold decY decE; rw [h]; exact ⟨rfl, rfl⟩
theorem dec_yes {l : List UInt8} {x : Sup} (h : dec l = some x) : decY l = x ∧ decE l = 0 := by unfold decY decE; rw [h]; exact ⟨rfl, rfl⟩
theorem fit_lens {x : Sup} (h : Fit x) : x.chk.length ≤ 63 ∧ x.log.length ≤ 63 := ⟨h.1, h.2.1⟩
/-- A list lies in block k or later, or is none. -/
def Far (a : Option Addr) (len k : Nat) : Prop := len = 0 ∨ ∀ ad, a = some ad → k < ad.block
theorem ints_at_far {w w' : World} {k len : Nat} {a : Option Addr} {xs : List Int} (h : IntsAt w a len xs) (hk : Far a len k) (hsz : w.heap.size ≤ w'.heap.size) (hb : ∀ j, j ≠ k → w'.heap[j]? = w.heap[j]?) : IntsAt w' a len xs :=
  ints_other h (hk.imp id fun g ad he => by have := g ad he; omega) hsz hb
/-- The zero superblock is handed on. -/
theorem made_zero_sup {w w' : World} {v : Value} (hb : Below w.heap.size w w') : SupMade w zeroSup v (.returned (.tuple #[supV zeroSup (.slice none 0 0) (.slice none 0 0), v])) w' :=
  ⟨⟨none, 0, none, 0, rfl, ⟨⟨rfl, by simp [zeroSup], .inl rfl⟩, ⟨rfl, by simp [zeroSup], .inl rfl⟩, Nat.zero_le _, Nat.zero_le _⟩, fun _ => rfl, fun _ => rfl, fun ad he => (by cases he), fun ad he => (by cases he)⟩, hb⟩
theorem zero_stored {w w1 : World} {v : Value} (hb : Below w.heap.size w w1) : SupMade w zeroSup v (.returned (.tuple #[.agg #[.int .i64 0, .int .i64 0, .int .i64 0, .int .i64 0, .slice none 0 0, .slice none 0 0], v])) (put6 w1 w.heap.size (.int .i64 0) (.int .i64 0) (.int .i64 0) (.int .i64 0) (.slice none 0 0) (.slice none 0 0)) :=
  made_zero_sup (below_put6 hb (Nat.le_refl _) _ _ _ _ _ _)
theorem sup_stored {w w2 : World} {y : Sup} {a1 a2 : Option Addr} {d1 c2 : Nat} {v : Value} (hb : Below w.heap.size w w2) (h : SupAt w2 y a1 y.chk.length a2 y.log.length) (k1 : ∀ ad, a1 = some ad → w.heap.size < ad.block) (k2 : ∀ ad, a2 = some ad → w.heap.size < ad.block)
    (n1 : a1 = none → d1 = 0) (n2 : a2 = none → c2 = 0) : SupMade w y v (.returned (.tuple #[.agg #[.int .i64 y.gen, .int .i64 y.base, .int .i64 y.size, .int .i64 y.cg, .slice a1 y.chk.length d1, .slice a2 y.log.length c2], v])) (put6 w2 w.heap.size (.int .i64 y.gen) (.int .i64 y.base) (.int .i64 y.size) (.int .i64 y.cg) (.slice a1 y.chk.length d1) (.slice a2 y.log.length c2)) :=
  ⟨⟨a1, d1, a2, c2, rfl, ⟨ints_other h.chk (.inr fun ad he => by have := k1 ad he; omega) (size_put6 _ _ _ _ _ _ _ _) (fun j hj => put6_other _ _ _ _ _ _ hj), ints_other h.log (.inr fun ad he => by have := k2 ad he; omega) (size_put6 _ _ _ _ _ _ _ _) (fun j hj => put6_other _ _ _ _ _ _ hj), h.big1, h.big2⟩, n1, n2, fun ad he => Nat.le_of_lt (k1 ad he), fun ad he => Nat.le_of_lt (k2 ad he)⟩,
    below_put6 hb (Nat.le_refl _) _ _ _ _ _ _⟩
set_option maxHeartbeats 4000000 in
theorem decode_none (s : ByteArray) (w : World) (HO : Hid (∀ w, Calls Try.prog 30 #[.string s] w fun e w' => e = .returned (.tuple #[.agg #[.int .i64 0, .int .i64 0, .int .i64 0], .string ⟨#[]⟩, .int .i64 12]) ∧ Below w.heap.size w w')) :
    Calls Try.prog 11 #[.string s] w (SupMade w zeroSup (.int .i64 12)) := by
  obtain ⟨Z, hZ⟩ : ∃ Z, zeroSup = Z := ⟨_, rfl⟩
  rw [hZ]
  have HZZ := Lib.hid hZ
  clear hZ
  go_enter Try.func11, Try.ntmps11
  go_wp2_with fail
  refine (HO.out _).mono ?_
  rintro e w1 ⟨rfl, hb1⟩
  have hB1 := ((Below.refl _ w).alloc (Nat.le_refl _) zsup).trans (hb1.mono (by rw [World.size_alloc]; exact Nat.le_succ _))
  have hz1 := (hb1.block w.heap.size (by simp)).trans (heap_alloc_new w zsup)
  have hlt1 : w.heap.size < w1.heap.size := by have := hb1.size; rw [World.size_alloc] at this; omega
  have hzA : (w1.alloc (.cells #[.int .i64 0, .int .i64 0, .int .i64 0] 46)).heap[w.heap.size]? = some (.cells #[.int .i64 0, .int .i64 0, .int .i64 0, .int .i64 0, .slice none 0 0, .slice none 0 0] 24 (0, 0)) := (Below.heap_alloc w1 _ _ hlt1).trans hz1
  have hbA := hB1.alloc (Nat.le_of_lt hlt1) (.cells #[.int .i64 0, .int .i64 0, .int .i64 0] 46)
  obtain ⟨⟨q0, q1, q2, q3, q4, q5⟩, r0, r1, r2, r3, r4, r5⟩ := zero_cells6 hzA
  have hf := zero_stored (v := .int .i64 12) hbA
  rw [HZZ.out] at hf
  have HF := Lib.hid hf
  have HRS := Lib.hid (six_cells (heap_put6 hzA (.int .i64 0) (.int .i64 0) (.int .i64 0) (.int .i64 0) (.slice none 0 0) (.slice none 0 0)))
  clear hb1 hB1 hz1 hzA hbA hf hlt1
  go_wp2_with fail
  generalize w1.alloc (.cells #[.int .i64 0, .int .i64 0, .int .i64 0] 46) = w2 at *
  go_wp2_with fail
  refine bodyPost_ret (results_two rfl _ _ w.heap.size _ _ _ _ _ _ rfl HRS.out) rfl ?_
  exact HF.out
theorem three_cells {w : World} {v0 v1 v2 : Value} {b : Nat} (h : w.heap[b]? = some (.cells #[v0, v1, v2] 46 (0, 0))) :
    w.cell? ⟨b, 0, none⟩ = some v0 ∧ w.cell? ⟨b, 1, none⟩ = some v1 ∧ w.cell? ⟨b, 2, none⟩ = some v2 := by
  refine ⟨?_, ?_, ?_⟩ <;> (rw [Wire.cell_of_heap h]; rfl)
set_option maxHeartbeats 4000000 in
theorem decode_bad (s z : ByteArray) (gn gi gc : Int) (y : Sup) (w : World)  (HO : Hid (∀ w, Calls Try.prog 30 #[.string s] w fun e w' => e = .returned (.tuple #[.agg #[.int .i64 gn, .int .i64 gi, .int .i64 gc], .string z, .int .i64 0]) ∧ Below w.heap.size w w'))
    (HR : Hid (∀ w, Calls Try.prog 31 #[.string z] w (SupMade w y (.bool false)))) :
    Calls Try.prog 11 #[.string s] w (SupMade w zeroSup (.int .i64 12)) := by
  obtain ⟨Z, hZ⟩ : ∃ Z, zeroSup = Z := ⟨_, rfl⟩
  rw [hZ]
  have HZZ := Lib.hid hZ
  clear hZ
  go_enter Try.func11, Try.ntmps11
  go_wp2_with fail
  refine (HO.out _).mono ?_
  rintro e w1 ⟨rfl, hb1⟩
  have hB1 := ((Below.refl _ w).alloc (Nat.le_refl _) zsup).trans (hb1.mono (by rw [World.size_alloc]; exact Nat.le_succ _))
  have hz1 := (hb1.block w.heap.size (by simp)).trans (heap_alloc_new w zsup)
  have hlt1 : w.heap.size < w1.heap.size := by have := hb1.size; rw [World.size_alloc] at this; omega
  have hzA := (Below.heap_alloc w1 (.cells #[.int .i64 gn, .int .i64 gi, .int .i64 gc] 46) _ hlt1).trans hz1
  have hsA := heap_alloc_new w1 (.cells #[.int .i64 gn, .int .i64 gi, .int .i64 gc] 46)
  have hbA := hB1.alloc (Nat.le_of_lt hlt1) (.cells #[.int .i64 gn, .int .i64 gi, .int .i64 gc] 46)
  have HZA := Lib.hid hzA; have HBA := Lib.hid hbA; have HSA := Lib.hid hsA
  have HLT := Lib.hid hlt1
  clear hb1 hB1 hz1 hzA hbA hsA hlt1
  go_wp2_with fail
  refine (HR.out _).mono ?_
  rintro e w3 ⟨⟨a1, d1, a2, d2, rfl, hsup, n1, n2, f1, f2⟩, hb3⟩
  simp only [supV]
  have hlt2 : (w1.alloc (.cells #[.int .i64 gn, .int .i64 gi, .int .i64 gc] 46)).heap.size = w1.heap.size + 1 := by simp
  rw [hlt2] at f1 f2
  have hz3 := (hb3.block w.heap.size (by rw [hlt2]; have := HLT.out; omega)).trans HZA.out
  have hs3 := (hb3.block w1.heap.size (by rw [hlt2]; omega)).trans HSA.out
  have hB3 := HBA.out.trans (hb3.mono (by rw [hlt2]; have := HLT.out; omega))
  have hk3 : w1.heap.size < w3.heap.size := by have := hb3.size; omega
  have hlt3 := HLT.out
  have hz4 := (Below.heap_alloc w3 (.cells #[.int .i64 y.gen, .int .i64 y.base, .int .i64 y.size, .int .i64 y.cg, .slice a1 y.chk.length d1, .slice a2 y.log.length d2] 24) _ (Nat.lt_trans hlt3 hk3)).trans hz3
  have hs4 := (Below.heap_alloc w3 (.cells #[.int .i64 y.gen, .int .i64 y.base, .int .i64 y.size, .int .i64 y.cg, .slice a1 y.chk.length d1, .slice a2 y.log.length d2] 24) _ hk3).trans hs3
  have hy4 := heap_alloc_new w3 (.cells #[.int .i64 y.gen, .int .i64 y.base, .int .i64 y.size, .int .i64 y.cg, .slice a1 y.chk.length d1, .slice a2 y.log.length d2] 24)
  have hB4 := hB3.alloc hB3.size (.cells #[.int .i64 y.gen, .int .i64 y.base, .int .i64 y.size, .int .i64 y.cg, .slice a1 y.chk.length d1, .slice a2 y.log.length d2] 24)
  have hsup4 := hsup.keep ((Below.refl _ w3).alloc (Nat.le_refl _) (.cells #[.int .i64 y.gen, .int .i64 y.base, .int .i64 y.size, .int .i64 y.cg, .slice a1 y.chk.length d1, .slice a2 y.log.length d2] 24))
  have g1 : ∀ ad, a1 = some ad → w.heap.size < ad.block := fun ad he => by have := f1 ad he; omega
  have g2 : ∀ ad, a2 = some ad → w.heap.size < ad.block := fun ad he => by have := f2 ad he; omega
  have HZ4 := Lib.hid hz4; have HS4 := Lib.hid hs4; have HY4 := Lib.hid hy4; have HB4 := Lib.hid hB4; have HSUP := Lib.hid hsup4; have G1 := Lib.hid g1; have G2 := Lib.hid g2; have N1 := Lib.hid n1; have N2 := Lib.hid n2
  clear hb3 hsup f1 f2 hlt2 hz3 hs3 hB3 hz4 hs4 hy4 hB4 hsup4 g1 g2 n1 n2 hk3 hlt3 HZA HBA HSA HR HO HLT
  go_wp2_with fail
  generalize w3.alloc (.cells #[.int .i64 y.gen, .int .i64 y.base, .int .i64 y.size, .int .i64 y.cg, .slice a1 y.chk.length d1, .slice a2 y.log.length d2] 24) = w4 at *
  clear HS4 HY4 HSUP
  go_quiet (fail)
  have hz5 : (w4.drewN nq).heap[w.heap.size]? = some (.cells #[.int .i64 0, .int .i64 0, .int .i64 0, .int .i64 0, .slice none 0 0, .slice none 0 0] 24 (0, 0)) := HZ4.out
  have hb5 := below_drewN' HB4.out nq
  obtain ⟨⟨q0, q1, q2, q3, q4, q5⟩, r0, r1, r2, r3, r4, r5⟩ := zero_cells6 hz5
  have hf := zero_stored (v := .int .i64 12) hb5
  rw [HZZ.out] at hf
  have HF := Lib.hid hf
  have HRS := Lib.hid (six_cells (heap_put6 hz5 (.int .i64 0) (.int .i64 0) (.int .i64 0) (.int .i64 0) (.slice none 0 0) (.slice none 0 0)))
  clear hf hz5 hb5
  go_wp2_with fail
  refine bodyPost_ret (results_two rfl _ _ w.heap.size _ _ _ _ _ _ rfl HRS.out) rfl ?_
  exact HF.out
set_option maxHeartbeats 4000000 in
theorem decode_ne1 (s z : ByteArray) (gn gi gc : Int) (y : Sup) (w : World) (hq : ¬ gn = y.gen) (HO : Hid (∀ w, Calls Try.prog 30 #[.string s] w fun e w' => e = .returned (.tuple #[.agg #[.int .i64 gn, .int .i64 gi, .int .i64 gc], .string z, .int .i64 0]) ∧ Below w.heap.size w w'))
    (HR : Hid (∀ w, Calls Try.prog 31 #[.string z] w (SupMade w y (.bool true)))) :
    Calls Try.prog 11 #[.string s] w (SupMade w zeroSup (.int .i64 12)) := by
  obtain ⟨Z, hZ⟩ : ∃ Z, zeroSup = Z := ⟨_, rfl⟩
  rw [hZ]
  have HZZ := Lib.hid hZ
  clear hZ
  go_enter Try.func11, Try.ntmps11
  go_wp2_with fail
  refine (HO.out _).mono ?_
  rintro e w1 ⟨rfl, hb1⟩
  have hB1 := ((Below.refl _ w).alloc (Nat.le_refl _) zsup).trans (hb1.mono (by rw [World.size_alloc]; exact Nat.le_succ _))
  have hz1 := (hb1.block w.heap.size (by simp)).trans (heap_alloc_new w zsup)
  have hlt1 : w.heap.size < w1.heap.size := by have := hb1.size; rw [World.size_alloc] at this; omega
  have hzA := (Below.heap_alloc w1 (.cells #[.int .i64 gn, .int .i64 gi, .int .i64 gc] 46) _ hlt1).trans hz1
  have hsA := heap_alloc_new w1 (.cells #[.int .i64 gn, .int .i64 gi, .int .i64 gc] 46)
  have hbA := hB1.alloc (Nat.le_of_lt hlt1) (.cells #[.int .i64 gn, .int .i64 gi, .int .i64 gc] 46)
  have HZA := Lib.hid hzA; have HBA := Lib.hid hbA; have HSA := Lib.hid hsA
  have HLT := Lib.hid hlt1
  clear hb1 hB1 hz1 hzA hbA hsA hlt1
  go_wp2_with fail
  refine (HR.out _).mono ?_
  rintro e w3 ⟨⟨a1, d1, a2, d2, rfl, hsup, n1, n2, f1, f2⟩, hb3⟩
  simp only [supV]
  have hlt2 : (w1.alloc (.cells #[.int .i64 gn, .int .i64 gi, .int .i64 gc] 46)).heap.size = w1.heap.size + 1 := by simp
  rw [hlt2] at f1 f2
  have hz3 := (hb3.block w.heap.size (by rw [hlt2]; have := HLT.out; omega)).trans HZA.out
  have hs3 := (hb3.block w1.heap.size (by rw [hlt2]; omega)).trans HSA.out
  have hB3 := HBA.out.trans (hb3.mono (by rw [hlt2]; have := HLT.out; omega))
  have hk3 : w1.heap.size < w3.heap.size := by have := hb3.size; omega
  have hlt3 := HLT.out
  have hz4 := (Below.heap_alloc w3 (.cells #[.int .i64 y.gen, .int .i64 y.base, .int .i64 y.size, .int .i64 y.cg, .slice a1 y.chk.length d1, .slice a2 y.log.length d2] 24) _ (Nat.lt_trans hlt3 hk3)).trans hz3
  have hs4 := (Below.heap_alloc w3 (.cells #[.int .i64 y.gen, .int .i64 y.base, .int .i64 y.size, .int .i64 y.cg, .slice a1 y.chk.length d1, .slice a2 y.log.length d2] 24) _ hk3).trans hs3
  have hy4 := heap_alloc_new w3 (.cells #[.int .i64 y.gen, .int .i64 y.base, .int .i64 y.size, .int .i64 y.cg, .slice a1 y.chk.length d1, .slice a2 y.log.length d2] 24)
  have hB4 := hB3.alloc hB3.size (.cells #[.int .i64 y.gen, .int .i64 y.base, .int .i64 y.size, .int .i64 y.cg, .slice a1 y.chk.length d1, .slice a2 y.log.length d2] 24)
  have hsup4 := hsup.keep ((Below.refl _ w3).alloc (Nat.le_refl _) (.cells #[.int .i64 y.gen, .int .i64 y.base, .int .i64 y.size, .int .i64 y.cg, .slice a1 y.chk.length d1, .slice a2 y.log.length d2] 24))
  have g1 : ∀ ad, a1 = some ad → w.heap.size < ad.block := fun ad he => by have := f1 ad he; omega
  have g2 : ∀ ad, a2 = some ad → w.heap.size < ad.block := fun ad he => by have := f2 ad he; omega
  have HZ4 := Lib.hid hz4; have HS4 := Lib.hid hs4; have HY4 := Lib.hid hy4; have HB4 := Lib.hid hB4; have HSUP := Lib.hid hsup4; have G1 := Lib.hid g1; have G2 := Lib.hid g2; have N1 := Lib.hid n1; have N2 := Lib.hid n2
  clear hb3 hsup f1 f2 hlt2 hz3 hs3 hB3 hz4 hs4 hy4 hB4 hsup4 g1 g2 n1 n2 hk3 hlt3 HZA HBA HSA HR HO HLT
  go_wp2_with fail
  generalize w3.alloc (.cells #[.int .i64 y.gen, .int .i64 y.base, .int .i64 y.size, .int .i64 y.cg, .slice a1 y.chk.length d1, .slice a2 y.log.length d2] 24) = w4 at *
  have qs := three_cells HS4.out
  have qy := six_cells HY4.out
  have hM := fun w => mark_any y (.slice a1 y.chk.length d1) (.slice a2 y.log.length d2) w
  unfold supV stV at hM
  have HM := Lib.hid hM
  clear hM
  go_region_held3 (fun w' => (w'.cell? ⟨w1.heap.size, 0, none⟩ = some (.int .i64 gn) ∧ w'.cell? ⟨w1.heap.size, 1, none⟩ = some (.int .i64 gi) ∧ w'.cell? ⟨w1.heap.size, 2, none⟩ = some (.int .i64 gc)) ∧ w'.cell? ⟨w3.heap.size, 0, none⟩ = some (.int .i64 y.gen) ∧ w'.cell? ⟨w3.heap.size, 1, none⟩ = some (.int .i64 y.base) ∧ w'.cell? ⟨w3.heap.size, 2, none⟩ = some (.int .i64 y.size) ∧ w'.cell? ⟨w3.heap.size, 3, none⟩ = some (.int .i64 y.cg) ∧ w'.cell? ⟨w3.heap.size, 4, none⟩ = some (.slice a1 y.chk.length d1) ∧ w'.cell? ⟨w3.heap.size, 5, none⟩ = some (.slice a2 y.log.length d2))
    (first | exact ⟨qs, qy⟩ | exact ⟨qs5, qy5⟩)
    (first
      | (go_at_call 24; refine (HM.out w4.drew).mono ?_; rintro e w5 ⟨rfl, hb5⟩; have hs5 := (hb5.block w1.heap.size (Array.getElem?_eq_some_iff.1 HS4.out).1).trans HS4.out; have hy5 := (hb5.block w3.heap.size (Array.getElem?_eq_some_iff.1 HY4.out).1).trans HY4.out; have hz5 := (hb5.block w.heap.size (Array.getElem?_eq_some_iff.1 HZ4.out).1).trans HZ4.out; have qs5 := three_cells hs5; have qy5 := six_cells hy5))
  have hb5' := HB4.out.drew.trans (hb5.mono HB4.out.size)
  have hsup5 := HSUP.out.keep ((Below.refl _ w4).drew.trans hb5)
  clear hb5 qs5 qy5 hs5 qs qy HM HS4 HY4 HSUP
  have hb5 := hb5'
  clear hb5'
  obtain ⟨⟨q0, q1, q2, q3, q4, q5⟩, r0, r1, r2, r3, r4, r5⟩ := zero_cells6 hz5
  have hf := zero_stored (v := .int .i64 12) hb5
  rw [HZZ.out] at hf
  have HF := Lib.hid hf
  have HRS := Lib.hid (six_cells (heap_put6 hz5 (.int .i64 0) (.int .i64 0) (.int .i64 0) (.int .i64 0) (.slice none 0 0) (.slice none 0 0)))
  clear hf hz5 hb5
  go_wp2_with fail
  refine bodyPost_ret (results_two rfl _ _ w.heap.size _ _ _ _ _ _ rfl HRS.out) rfl ?_
  exact HF.out
set_option maxHeartbeats 4000000 in
theorem decode_ne2 (s z : ByteArray) (gi gc : Int) (y : Sup) (w : World) (hq : ¬ gi = 0) (HO : Hid (∀ w, Calls Try.prog 30 #[.string s] w fun e w' => e = .returned (.tuple #[.agg #[.int .i64 y.gen, .int .i64 gi, .int .i64 gc], .string z, .int .i64 0]) ∧ Below w.heap.size w w'))
    (HR : Hid (∀ w, Calls Try.prog 31 #[.string z] w (SupMade w y (.bool true)))) :
    Calls Try.prog 11 #[.string s] w (SupMade w zeroSup (.int .i64 12)) := by
  obtain ⟨Z, hZ⟩ : ∃ Z, zeroSup = Z := ⟨_, rfl⟩
  rw [hZ]
  have HZZ := Lib.hid hZ
  clear hZ
  go_enter Try.func11, Try.ntmps11
  go_wp2_with fail
  refine (HO.out _).mono ?_
  rintro e w1 ⟨rfl, hb1⟩
  have hB1 := ((Below.refl _ w).alloc (Nat.le_refl _) zsup).trans (hb1.mono (by rw [World.size_alloc]; exact Nat.le_succ _))
  have hz1 := (hb1.block w.heap.size (by simp)).trans (heap_alloc_new w zsup)
  have hlt1 : w.heap.size < w1.heap.size := by have := hb1.size; rw [World.size_alloc] at this; omega
  have hzA := (Below.heap_alloc w1 (.cells #[.int .i64 y.gen, .int .i64 gi, .int .i64 gc] 46) _ hlt1).trans hz1
  have hsA := heap_alloc_new w1 (.cells #[.int .i64 y.gen, .int .i64 gi, .int .i64 gc] 46)
  have hbA := hB1.alloc (Nat.le_of_lt hlt1) (.cells #[.int .i64 y.gen, .int .i64 gi, .int .i64 gc] 46)
  have HZA := Lib.hid hzA; have HBA := Lib.hid hbA; have HSA := Lib.hid hsA
  have HLT := Lib.hid hlt1
  clear hb1 hB1 hz1 hzA hbA hsA hlt1
  go_wp2_with fail
  refine (HR.out _).mono ?_
  rintro e w3 ⟨⟨a1, d1, a2, d2, rfl, hsup, n1, n2, f1, f2⟩, hb3⟩
  simp only [supV]
  have hlt2 : (w1.alloc (.cells #[.int .i64 y.gen, .int .i64 gi, .int .i64 gc] 46)).heap.size = w1.heap.size + 1 := by simp
  rw [hlt2] at f1 f2
  have hz3 := (hb3.block w.heap.size (by rw [hlt2]; have := HLT.out; omega)).trans HZA.out
  have hs3 := (hb3.block w1.heap.size (by rw [hlt2]; omega)).trans HSA.out
  have hB3 := HBA.out.trans (hb3.mono (by rw [hlt2]; have := HLT.out; omega))
  have hk3 : w1.heap.size < w3.heap.size := by have := hb3.size; omega
  have hlt3 := HLT.out
  have hz4 := (Below.heap_alloc w3 (.cells #[.int .i64 y.gen, .int .i64 y.base, .int .i64 y.size, .int .i64 y.cg, .slice a1 y.chk.length d1, .slice a2 y.log.length d2] 24) _ (Nat.lt_trans hlt3 hk3)).trans hz3
  have hs4 := (Below.heap_alloc w3 (.cells #[.int .i64 y.gen, .int .i64 y.base, .int .i64 y.size, .int .i64 y.cg, .slice a1 y.chk.length d1, .slice a2 y.log.length d2] 24) _ hk3).trans hs3
  have hy4 := heap_alloc_new w3 (.cells #[.int .i64 y.gen, .int .i64 y.base, .int .i64 y.size, .int .i64 y.cg, .slice a1 y.chk.length d1, .slice a2 y.log.length d2] 24)
  have hB4 := hB3.alloc hB3.size (.cells #[.int .i64 y.gen, .int .i64 y.base, .int .i64 y.size, .int .i64 y.cg, .slice a1 y.chk.length d1, .slice a2 y.log.length d2] 24)
  have hsup4 := hsup.keep ((Below.refl _ w3).alloc (Nat.le_refl _) (.cells #[.int .i64 y.gen, .int .i64 y.base, .int .i64 y.size, .int .i64 y.cg, .slice a1 y.chk.length d1, .slice a2 y.log.length d2] 24))
  have g1 : ∀ ad, a1 = some ad → w.heap.size < ad.block := fun ad he => by have := f1 ad he; omega
  have g2 : ∀ ad, a2 = some ad → w.heap.size < ad.block := fun ad he => by have := f2 ad he; omega
  have HZ4 := Lib.hid hz4; have HS4 := Lib.hid hs4; have HY4 := Lib.hid hy4; have HB4 := Lib.hid hB4; have HSUP := Lib.hid hsup4; have G1 := Lib.hid g1; have G2 := Lib.hid g2; have N1 := Lib.hid n1; have N2 := Lib.hid n2
  clear hb3 hsup f1 f2 hlt2 hz3 hs3 hB3 hz4 hs4 hy4 hB4 hsup4 g1 g2 n1 n2 hk3 hlt3 HZA HBA HSA HR HO HLT
  go_wp2_with fail
  generalize w3.alloc (.cells #[.int .i64 y.gen, .int .i64 y.base, .int .i64 y.size, .int .i64 y.cg, .slice a1 y.chk.length d1, .slice a2 y.log.length d2] 24) = w4 at *
  have qs := three_cells HS4.out
  have qy := six_cells HY4.out
  have hM := fun w => mark_any y (.slice a1 y.chk.length d1) (.slice a2 y.log.length d2) w
  unfold supV stV at hM
  have HM := Lib.hid hM
  clear hM
  go_region_held3 (fun w' => (w'.cell? ⟨w1.heap.size, 0, none⟩ = some (.int .i64 y.gen) ∧ w'.cell? ⟨w1.heap.size, 1, none⟩ = some (.int .i64 gi) ∧ w'.cell? ⟨w1.heap.size, 2, none⟩ = some (.int .i64 gc)) ∧ w'.cell? ⟨w3.heap.size, 0, none⟩ = some (.int .i64 y.gen) ∧ w'.cell? ⟨w3.heap.size, 1, none⟩ = some (.int .i64 y.base) ∧ w'.cell? ⟨w3.heap.size, 2, none⟩ = some (.int .i64 y.size) ∧ w'.cell? ⟨w3.heap.size, 3, none⟩ = some (.int .i64 y.cg) ∧ w'.cell? ⟨w3.heap.size, 4, none⟩ = some (.slice a1 y.chk.length d1) ∧ w'.cell? ⟨w3.heap.size, 5, none⟩ = some (.slice a2 y.log.length d2))
    (first | exact ⟨qs, qy⟩ | exact ⟨qs5, qy5⟩)
    (first
      | (go_at_call 24; refine (HM.out w4.drew).mono ?_; rintro e w5 ⟨rfl, hb5⟩; have hs5 := (hb5.block w1.heap.size (Array.getElem?_eq_some_iff.1 HS4.out).1).trans HS4.out; have hy5 := (hb5.block w3.heap.size (Array.getElem?_eq_some_iff.1 HY4.out).1).trans HY4.out; have hz5 := (hb5.block w.heap.size (Array.getElem?_eq_some_iff.1 HZ4.out).1).trans HZ4.out; have qs5 := three_cells hs5; have qy5 := six_cells hy5))
  have hb5' := HB4.out.drew.trans (hb5.mono HB4.out.size)
  have hsup5 := HSUP.out.keep ((Below.refl _ w4).drew.trans hb5)
  clear hb5 qs5 qy5 hs5 qs qy HM HS4 HY4 HSUP
  have hb5 := hb5'
  clear hb5'
  obtain ⟨⟨q0, q1, q2, q3, q4, q5⟩, r0, r1, r2, r3, r4, r5⟩ := zero_cells6 hz5
  have hf := zero_stored (v := .int .i64 12) hb5
  rw [HZZ.out] at hf
  have HF := Lib.hid hf
  have HRS := Lib.hid (six_cells (heap_put6 hz5 (.int .i64 0) (.int .i64 0) (.int .i64 0) (.int .i64 0) (.slice none 0 0) (.slice none 0 0)))
  clear hf hz5 hb5
  go_wp2_with fail
  refine bodyPost_ret (results_two rfl _ _ w.heap.size _ _ _ _ _ _ rfl HRS.out) rfl ?_
  exact HF.out
set_option maxHeartbeats 4000000 in
theorem decode_ne3 (s z : ByteArray) (gc : Int) (y : Sup) (w : World) (hq : ¬ gc = 1) (HO : Hid (∀ w, Calls Try.prog 30 #[.string s] w fun e w' => e = .returned (.tuple #[.agg #[.int .i64 y.gen, .int .i64 0, .int .i64 gc], .string z, .int .i64 0]) ∧ Below w.heap.size w w'))
    (HR : Hid (∀ w, Calls Try.prog 31 #[.string z] w (SupMade w y (.bool true)))) :
    Calls Try.prog 11 #[.string s] w (SupMade w zeroSup (.int .i64 12)) := by
  obtain ⟨Z, hZ⟩ : ∃ Z, zeroSup = Z := ⟨_, rfl⟩
  rw [hZ]
  have HZZ := Lib.hid hZ
  clear hZ
  go_enter Try.func11, Try.ntmps11
  go_wp2_with fail
  refine (HO.out _).mono ?_
  rintro e w1 ⟨rfl, hb1⟩
  have hB1 := ((Below.refl _ w).alloc (Nat.le_refl _) zsup).trans (hb1.mono (by rw [World.size_alloc]; exact Nat.le_succ _))
  have hz1 := (hb1.block w.heap.size (by simp)).trans (heap_alloc_new w zsup)
  have hlt1 : w.heap.size < w1.heap.size := by have := hb1.size; rw [World.size_alloc] at this; omega
  have hzA := (Below.heap_alloc w1 (.cells #[.int .i64 y.gen, .int .i64 0, .int .i64 gc] 46) _ hlt1).trans hz1
  have hsA := heap_alloc_new w1 (.cells #[.int .i64 y.gen, .int .i64 0, .int .i64 gc] 46)
  have hbA := hB1.alloc (Nat.le_of_lt hlt1) (.cells #[.int .i64 y.gen, .int .i64 0, .int .i64 gc] 46)
  have HZA := Lib.hid hzA; have HBA := Lib.hid hbA; have HSA := Lib.hid hsA
  have HLT := Lib.hid hlt1
  clear hb1 hB1 hz1 hzA hbA hsA hlt1
  go_wp2_with fail
  refine (HR.out _).mono ?_
  rintro e w3 ⟨⟨a1, d1, a2, d2, rfl, hsup, n1, n2, f1, f2⟩, hb3⟩
  simp only [supV]
  have hlt2 : (w1.alloc (.cells #[.int .i64 y.gen, .int .i64 0, .int .i64 gc] 46)).heap.size = w1.heap.size + 1 := by simp
  rw [hlt2] at f1 f2
  have hz3 := (hb3.block w.heap.size (by rw [hlt2]; have := HLT.out; omega)).trans HZA.out
  have hs3 := (hb3.block w1.heap.size (by rw [hlt2]; omega)).trans HSA.out
  have hB3 := HBA.out.trans (hb3.mono (by rw [hlt2]; have := HLT.out; omega))
  have hk3 : w1.heap.size < w3.heap.size := by have := hb3.size; omega
  have hlt3 := HLT.out
  have hz4 := (Below.heap_alloc w3 (.cells #[.int .i64 y.gen, .int .i64 y.base, .int .i64 y.size, .int .i64 y.cg, .slice a1 y.chk.length d1, .slice a2 y.log.length d2] 24) _ (Nat.lt_trans hlt3 hk3)).trans hz3
  have hs4 := (Below.heap_alloc w3 (.cells #[.int .i64 y.gen, .int .i64 y.base, .int .i64 y.size, .int .i64 y.cg, .slice a1 y.chk.length d1, .slice a2 y.log.length d2] 24) _ hk3).trans hs3
  have hy4 := heap_alloc_new w3 (.cells #[.int .i64 y.gen, .int .i64 y.base, .int .i64 y.size, .int .i64 y.cg, .slice a1 y.chk.length d1, .slice a2 y.log.length d2] 24)
  have hB4 := hB3.alloc hB3.size (.cells #[.int .i64 y.gen, .int .i64 y.base, .int .i64 y.size, .int .i64 y.cg, .slice a1 y.chk.length d1, .slice a2 y.log.length d2] 24)
  have hsup4 := hsup.keep ((Below.refl _ w3).alloc (Nat.le_refl _) (.cells #[.int .i64 y.gen, .int .i64 y.base, .int .i64 y.size, .int .i64 y.cg, .slice a1 y.chk.length d1, .slice a2 y.log.length d2] 24))
  have g1 : ∀ ad, a1 = some ad → w.heap.size < ad.block := fun ad he => by have := f1 ad he; omega
  have g2 : ∀ ad, a2 = some ad → w.heap.size < ad.block := fun ad he => by have := f2 ad he; omega
  have HZ4 := Lib.hid hz4; have HS4 := Lib.hid hs4; have HY4 := Lib.hid hy4; have HB4 := Lib.hid hB4; have HSUP := Lib.hid hsup4; have G1 := Lib.hid g1; have G2 := Lib.hid g2; have N1 := Lib.hid n1; have N2 := Lib.hid n2
  clear hb3 hsup f1 f2 hlt2 hz3 hs3 hB3 hz4 hs4 hy4 hB4 hsup4 g1 g2 n1 n2 hk3 hlt3 HZA HBA HSA HR HO HLT
  go_wp2_with fail
  generalize w3.alloc (.cells #[.int .i64 y.gen, .int .i64 y.base, .int .i64 y.size, .int .i64 y.cg, .slice a1 y.chk.length d1, .slice a2 y.log.length d2] 24) = w4 at *
  have qs := three_cells HS4.out
  have qy := six_cells HY4.out
  have hM := fun w => mark_any y (.slice a1 y.chk.length d1) (.slice a2 y.log.length d2) w
  unfold supV stV at hM
  have HM := Lib.hid hM
  clear hM
  go_region_held3 (fun w' => (w'.cell? ⟨w1.heap.size, 0, none⟩ = some (.int .i64 y.gen) ∧ w'.cell? ⟨w1.heap.size, 1, none⟩ = some (.int .i64 0) ∧ w'.cell? ⟨w1.heap.size, 2, none⟩ = some (.int .i64 gc)) ∧ w'.cell? ⟨w3.heap.size, 0, none⟩ = some (.int .i64 y.gen) ∧ w'.cell? ⟨w3.heap.size, 1, none⟩ = some (.int .i64 y.base) ∧ w'.cell? ⟨w3.heap.size, 2, none⟩ = some (.int .i64 y.size) ∧ w'.cell? ⟨w3.heap.size, 3, none⟩ = some (.int .i64 y.cg) ∧ w'.cell? ⟨w3.heap.size, 4, none⟩ = some (.slice a1 y.chk.length d1) ∧ w'.cell? ⟨w3.heap.size, 5, none⟩ = some (.slice a2 y.log.length d2))
    (first | exact ⟨qs, qy⟩ | exact ⟨qs5, qy5⟩)
    (first
      | (go_at_call 24; refine (HM.out w4.drew).mono ?_; rintro e w5 ⟨rfl, hb5⟩; have hs5 := (hb5.block w1.heap.size (Array.getElem?_eq_some_iff.1 HS4.out).1).trans HS4.out; have hy5 := (hb5.block w3.heap.size (Array.getElem?_eq_some_iff.1 HY4.out).1).trans HY4.out; have hz5 := (hb5.block w.heap.size (Array.getElem?_eq_some_iff.1 HZ4.out).1).trans HZ4.out; have qs5 := three_cells hs5; have qy5 := six_cells hy5))
  have hb5' := HB4.out.drew.trans (hb5.mono HB4.out.size)
  have hsup5 := HSUP.out.keep ((Below.refl _ w4).drew.trans hb5)
  clear hb5 qs5 qy5 hs5 qs qy HM HS4 HY4 HSUP
  have hb5 := hb5'
  clear hb5'
  obtain ⟨⟨q0, q1, q2, q3, q4, q5⟩, r0, r1, r2, r3, r4, r5⟩ := zero_cells6 hz5
  have hf := zero_stored (v := .int .i64 12) hb5
  rw [HZZ.out] at hf
  have HF := Lib.hid hf
  have HRS := Lib.hid (six_cells (heap_put6 hz5 (.int .i64 0) (.int .i64 0) (.int .i64 0) (.int .i64 0) (.slice none 0 0) (.slice none 0 0)))
  clear hf hz5 hb5
  go_wp2_with fail
  refine bodyPost_ret (results_two rfl _ _ w.heap.size _ _ _ _ _ _ rfl HRS.out) rfl ?_
  exact HF.out
set_option maxHeartbeats 4000000 in
theorem decode_eq (s z : ByteArray) (gn gi gc : Int) (y : Sup) (w : World) (h1 : gn = y.gen) (h2 : gi = 0) (h3 : gc = 1) (HO : Hid (∀ w, Calls Try.prog 30 #[.string s] w fun e w' => e = .returned (.tuple #[.agg #[.int .i64 gn, .int .i64 gi, .int .i64 gc], .string z, .int .i64 0]) ∧ Below w.heap.size w w'))
    (HR : Hid (∀ w, Calls Try.prog 31 #[.string z] w (SupMade w y (.bool true)))) :
    Calls Try.prog 11 #[.string s] w (SupMade w y (.int .i64 0)) := by
  subst h1 h2 h3
  go_enter Try.func11, Try.ntmps11
  go_wp2_with fail
  refine (HO.out _).mono ?_
  rintro e w1 ⟨rfl, hb1⟩
  have hB1 := ((Below.refl _ w).alloc (Nat.le_refl _) zsup).trans (hb1.mono (by rw [World.size_alloc]; exact Nat.le_succ _))
  have hz1 := (hb1.block w.heap.size (by simp)).trans (heap_alloc_new w zsup)
  have hlt1 : w.heap.size < w1.heap.size := by have := hb1.size; rw [World.size_alloc] at this; omega
  have hzA := (Below.heap_alloc w1 (.cells #[.int .i64 y.gen, .int .i64 0, .int .i64 1] 46) _ hlt1).trans hz1
  have hsA := heap_alloc_new w1 (.cells #[.int .i64 y.gen, .int .i64 0, .int .i64 1] 46)
  have hbA := hB1.alloc (Nat.le_of_lt hlt1) (.cells #[.int .i64 y.gen, .int .i64 0, .int .i64 1] 46)
  have HZA := Lib.hid hzA; have HBA := Lib.hid hbA; have HSA := Lib.hid hsA
  have HLT := Lib.hid hlt1
  clear hb1 hB1 hz1 hzA hbA hsA hlt1
  go_wp2_with fail
  refine (HR.out _).mono ?_
  rintro e w3 ⟨⟨a1, d1, a2, d2, rfl, hsup, n1, n2, f1, f2⟩, hb3⟩
  simp only [supV]
  have hlt2 : (w1.alloc (.cells #[.int .i64 y.gen, .int .i64 0, .int .i64 1] 46)).heap.size = w1.heap.size + 1 := by simp
  rw [hlt2] at f1 f2
  have hz3 := (hb3.block w.heap.size (by rw [hlt2]; have := HLT.out; omega)).trans HZA.out
  have hs3 := (hb3.block w1.heap.size (by rw [hlt2]; omega)).trans HSA.out
  have hB3 := HBA.out.trans (hb3.mono (by rw [hlt2]; have := HLT.out; omega))
  have hk3 : w1.heap.size < w3.heap.size := by have := hb3.size; omega
  have hlt3 := HLT.out
  have hz4 := (Below.heap_alloc w3 (.cells #[.int .i64 y.gen, .int .i64 y.base, .int .i64 y.size, .int .i64 y.cg, .slice a1 y.chk.length d1, .slice a2 y.log.length d2] 24) _ (Nat.lt_trans hlt3 hk3)).trans hz3
  have hs4 := (Below.heap_alloc w3 (.cells #[.int .i64 y.gen, .int .i64 y.base, .int .i64 y.size, .int .i64 y.cg, .slice a1 y.chk.length d1, .slice a2 y.log.length d2] 24) _ hk3).trans hs3
  have hy4 := heap_alloc_new w3 (.cells #[.int .i64 y.gen, .int .i64 y.base, .int .i64 y.size, .int .i64 y.cg, .slice a1 y.chk.length d1, .slice a2 y.log.length d2] 24)
  have hB4 := hB3.alloc hB3.size (.cells #[.int .i64 y.gen, .int .i64 y.base, .int .i64 y.size, .int .i64 y.cg, .slice a1 y.chk.length d1, .slice a2 y.log.length d2] 24)
  have hsup4 := hsup.keep ((Below.refl _ w3).alloc (Nat.le_refl _) (.cells #[.int .i64 y.gen, .int .i64 y.base, .int .i64 y.size, .int .i64 y.cg, .slice a1 y.chk.length d1, .slice a2 y.log.length d2] 24))
  have g1 : ∀ ad, a1 = some ad → w.heap.size < ad.block := fun ad he => by have := f1 ad he; omega
  have g2 : ∀ ad, a2 = some ad → w.heap.size < ad.block := fun ad he => by have := f2 ad he; omega
  have HZ4 := Lib.hid hz4; have HS4 := Lib.hid hs4; have HY4 := Lib.hid hy4; have HB4 := Lib.hid hB4; have HSUP := Lib.hid hsup4; have G1 := Lib.hid g1; have G2 := Lib.hid g2; have N1 := Lib.hid n1; have N2 := Lib.hid n2
  clear hb3 hsup f1 f2 hlt2 hz3 hs3 hB3 hz4 hs4 hy4 hB4 hsup4 g1 g2 n1 n2 hk3 hlt3 HZA HBA HSA HR HO HLT
  go_wp2_with fail
  generalize w3.alloc (.cells #[.int .i64 y.gen, .int .i64 y.base, .int .i64 y.size, .int .i64 y.cg, .slice a1 y.chk.length d1, .slice a2 y.log.length d2] 24) = w4 at *
  have qs := three_cells HS4.out
  have qy := six_cells HY4.out
  have hM := fun w => mark_any y (.slice a1 y.chk.length d1) (.slice a2 y.log.length d2) w
  unfold supV stV at hM
  have HM := Lib.hid hM
  clear hM
  go_region_held3 (fun w' => (w'.cell? ⟨w1.heap.size, 0, none⟩ = some (.int .i64 y.gen) ∧ w'.cell? ⟨w1.heap.size, 1, none⟩ = some (.int .i64 0) ∧ w'.cell? ⟨w1.heap.size, 2, none⟩ = some (.int .i64 1)) ∧ w'.cell? ⟨w3.heap.size, 0, none⟩ = some (.int .i64 y.gen) ∧ w'.cell? ⟨w3.heap.size, 1, none⟩ = some (.int .i64 y.base) ∧ w'.cell? ⟨w3.heap.size, 2, none⟩ = some (.int .i64 y.size) ∧ w'.cell? ⟨w3.heap.size, 3, none⟩ = some (.int .i64 y.cg) ∧ w'.cell? ⟨w3.heap.size, 4, none⟩ = some (.slice a1 y.chk.length d1) ∧ w'.cell? ⟨w3.heap.size, 5, none⟩ = some (.slice a2 y.log.length d2))
    (first | exact ⟨qs, qy⟩ | exact ⟨qs5, qy5⟩)
    (first
      | (go_at_call 24; refine (HM.out w4.drew).mono ?_; rintro e w5 ⟨rfl, hb5⟩; have hs5 := (hb5.block w1.heap.size (Array.getElem?_eq_some_iff.1 HS4.out).1).trans HS4.out; have hy5 := (hb5.block w3.heap.size (Array.getElem?_eq_some_iff.1 HY4.out).1).trans HY4.out; have hz5 := (hb5.block w.heap.size (Array.getElem?_eq_some_iff.1 HZ4.out).1).trans HZ4.out; have qs5 := three_cells hs5; have qy5 := six_cells hy5))
  have hb5' := HB4.out.drew.trans (hb5.mono HB4.out.size)
  have hsup5 := HSUP.out.keep ((Below.refl _ w4).drew.trans hb5)
  clear hb5 qs5 qy5 hs5 qs qy HM HS4 HY4 HSUP
  have hb5 := hb5'
  clear hb5'
  obtain ⟨⟨q0, q1, q2, q3, q4, q5⟩, r0, r1, r2, r3, r4, r5⟩ := zero_cells6 hz5
  obtain ⟨y0, y1, y2, y3, y4, y5⟩ := six_cells hy5
  have hf := sup_stored (v := .int .i64 0) hb5 hsup5 G1.out G2.out N1.out N2.out
  have HF := Lib.hid hf
  have HRS := Lib.hid (six_cells (heap_put6 hz5 (.int .i64 y.gen) (.int .i64 y.base) (.int .i64 y.size) (.int .i64 y.cg) (.slice a1 y.chk.length d1) (.slice a2 y.log.length d2)))
  clear hf hz5 hb5 hsup5 hy5
  go_wp2_with fail
  refine bodyPost_ret (results_two rfl _ _ w.heap.size _ _ _ _ _ _ rfl HRS.out) rfl ?_
  exact HF.out
theorem decode_any (s : ByteArray) (w : World) (hs : s.size ≤ 1000000) :
    Calls Try.prog 11 #[.string s] w (SupMade w (decY s.data.toList) (.int .i64 (decE s.data.toList))) := by
  have hO := fun w => open_any s w (by omega)
  rcases ho : opn s.data.toList with _ | ⟨n, i, c, t⟩
  · obtain ⟨e1, e2⟩ := dec_no (dec_none ho)
    rw [e1, e2]
    rw [ho] at hO
    exact decode_none s w (Lib.hid hO)
  · obtain ⟨hy, hn⟩ := dec_prog ho
    have hlt := (opn_some ho).2.2
    rw [ho] at hO
    have hR := fun w => read_any (str t) w (by rw [str_size]; omega)
    rw [show (str t).data.toList = t from rfl] at hR
    by_cases hB : (rdX 1 t).2 = true ∧ Fit (rdX 1 t).1
    · rw [hB.1, decide_eq_true hB.2, Bool.and_self] at hR
      have HO : Hid (∀ w, Calls Try.prog 30 #[.string s] w fun e w' => e = .returned (.tuple #[.agg #[.int .i64 (n : Int), .int .i64 (i : Int), .int .i64 (c : Int)], .string (str t), .int .i64 0]) ∧ Below w.heap.size w w') := Lib.hid hO
      by_cases h1 : (n : Int) = (rdX 1 t).1.gen
      · by_cases h2 : (i : Int) = 0
        · by_cases h3 : (c : Int) = 1
          · obtain ⟨e1, e2⟩ := dec_yes (hy ⟨hB, h1, by omega, by omega⟩)
            rw [e1, e2]
            exact decode_eq s (str t) n i c (rdX 1 t).1 w h1 h2 h3 HO (Lib.hid hR)
          · obtain ⟨e1, e2⟩ := dec_no (hn fun g => h3 (by omega))
            rw [e1, e2]
            rw [h1, h2] at HO
            exact decode_ne3 s (str t) c (rdX 1 t).1 w h3 HO (Lib.hid hR)
        · obtain ⟨e1, e2⟩ := dec_no (hn fun g => h2 (by omega))
          rw [e1, e2]
          rw [h1] at HO
          exact decode_ne2 s (str t) i c (rdX 1 t).1 w h2 HO (Lib.hid hR)
      · obtain ⟨e1, e2⟩ := dec_no (hn fun g => h1 g.2.1)
        rw [e1, e2]
        exact decode_ne1 s (str t) n i c (rdX 1 t).1 w h1 HO (Lib.hid hR)
    · have hF : ((rdX 1 t).2 && decide (Fit (rdX 1 t).1)) = false := by
        rw [Bool.and_eq_false_iff, decide_eq_false_iff_not]
        by_cases g : (rdX 1 t).2 = true
        · exact .inr fun f => hB ⟨g, f⟩
        · exact .inl (by simpa using g)
      rw [hF] at hR
      obtain ⟨e1, e2⟩ := dec_no (hn fun g => hB g.1)
      rw [e1, e2]
      exact decode_bad s (str t) n i c (rdX 1 t).1 w (Lib.hid hO) (Lib.hid hR)
end Go.Proofs.Ytigiaiddnbpcmaa
