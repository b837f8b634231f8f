/-
  The contracts of both Bests.
-/
import Derived.Test.YtigiaiddnbpcmaaSuperM
set_option linter.unusedVariables false
set_option maxRecDepth 4000
namespace Go.Proofs.Ytigiaiddnbpcmaa
open Go.RowKit SuperP
open Wire (IntsAt)

/-- A superblock, its slot and the error, as Best tells them. -/
structure BestMade (w : World) (y : Sup) (n er : Int) (e : Ending) (w' : World) : Prop where
  out : ∃ a1 c1 a2 c2, e = .returned (.tuple #[supV y (.slice a1 y.chk.length c1) (.slice a2 y.log.length c2), .int .i64 n, .int .i64 er]) ∧ SupAt w' y a1 y.chk.length a2 y.log.length ∧ (a1 = none → c1 = 0) ∧ (a2 = none → c2 = 0)
  below : Below w.heap.size w w'
theorem results_three {fn : Func} (h : fn.results = #[.cell 4 24, .tmp 5, .tmp 6]) (tmps : Array Value) (w : World) (b : Nat) (x0 x1 x2 x3 x4 x5 : Value) (hp : tmps.getD 4 undef = .pointer (some ⟨b, 0, none⟩))
    (c : w.cell? ⟨b, 0, none⟩ = some x0 ∧ w.cell? ⟨b, 1, none⟩ = some x1 ∧ w.cell? ⟨b, 2, none⟩ = some x2 ∧ w.cell? ⟨b, 3, none⟩ = some x3 ∧ w.cell? ⟨b, 4, none⟩ = some x4 ∧ w.cell? ⟨b, 5, none⟩ = some x5) :
    (results fn tmps).run Try.prog w = .ok (.tuple #[.agg #[x0, x1, x2, x3, x4, x5], tmps.getD 5 undef, tmps.getD 6 undef]) w := by
  have hp' : tmps[4]?.getD undef = .pointer (some ⟨b, 0, none⟩) := by rw [← hp]; simp
  obtain ⟨c0, c1, c2, c3, c4, c5⟩ := c
  simp only [results, h]
  go_simp
theorem best_zero {w w1 : World} {n er : Int} (hb : Below w.heap.size w w1) : BestMade w zeroSup n er (.returned (.tuple #[.agg #[.int .i64 0, .int .i64 0, .int .i64 0, .int .i64 0, .slice none 0 0, .slice none 0 0], .int .i64 n, .int .i64 er])) (put6 w1 w.heap.size (.int .i64 0) (.int .i64 0) (.int .i64 0) (.int .i64 0) (.slice none 0 0) (.slice none 0 0)) :=
  ⟨⟨none, 0, none, 0, rfl, ⟨⟨rfl, by simp [zeroSup], .inl rfl⟩, ⟨rfl, by simp [zeroSup], .inl rfl⟩, Nat.zero_le _, Nat.zero_le _⟩, fun _ => rfl, fun _ => rfl⟩, below_put6 hb (Nat.le_refl _) _ _ _ _ _ _⟩
theorem best_sup {w w2 : World} {y : Sup} {a1 a2 : Option Addr} {d1 c2 : Nat} {n er : Int} (hb : Below w.heap.size w w2) (h : SupAt w2 y a1 y.chk.length a2 y.log.length) (k1 : ∀ ad, a1 = some ad → w.heap.size < ad.block) (k2 : ∀ ad, a2 = some ad → w.heap.size < ad.block)
    (n1 : a1 = none → d1 = 0) (n2 : a2 = none → c2 = 0) : BestMade w y n er (.returned (.tuple #[.agg #[.int .i64 y.gen, .int .i64 y.base, .int .i64 y.size, .int .i64 y.cg, .slice a1 y.chk.length d1, .slice a2 y.log.length c2], .int .i64 n, .int .i64 er])) (put6 w2 w.heap.size (.int .i64 y.gen) (.int .i64 y.base) (.int .i64 y.size) (.int .i64 y.cg) (.slice a1 y.chk.length d1) (.slice a2 y.log.length c2)) :=
  ⟨⟨a1, d1, a2, c2, rfl, ⟨ints_other h.chk (.inr fun ad he => by have := k1 ad he; omega) (size_put6 _ _ _ _ _ _ _ _) (fun j hj => put6_other _ _ _ _ _ _ hj), ints_other h.log (.inr fun ad he => by have := k2 ad he; omega) (size_put6 _ _ _ _ _ _ _ _) (fun j hj => put6_other _ _ _ _ _ _ hj), h.big1, h.big2⟩, n1, n2⟩,
    below_put6 hb (Nat.le_refl _) _ _ _ _ _ _⟩
/-- What Best tells of two sectors. -/
def bestY (a b : List UInt8) : Sup := ((best a b).map (·.1)).getD zeroSup
def bestN (a b : List UInt8) : Int := if ((best a b).map (·.2)).getD false then 1 else 0
def bestE (a b : List UInt8) : Int := if (best a b).isSome then 0 else 12
theorem best_is {a b : List UInt8} {r : Option (Sup × Bool)} (h : best a b = r) : bestY a b = (r.map (·.1)).getD zeroSup ∧ bestN a b = (if (r.map (·.2)).getD false then 1 else 0) ∧ bestE a b = (if r.isSome then 0 else 12) := by
  unfold bestY bestN bestE
  rw [h]
  exact ⟨rfl, rfl, rfl⟩
set_option maxHeartbeats 4000000 in
theorem sbest_none (a b : ByteArray) (x y : Sup) (w : World) (HA : Hid (∀ w, Calls Try.prog 11 #[.string a] w (SupMade w x (.int .i64 12)))) (HB : Hid (∀ w, Calls Try.prog 11 #[.string b] w (SupMade w y (.int .i64 12)))) :
    Calls Try.prog 19 #[.string a, .string b] w (BestMade w zeroSup 0 12) := by
  obtain ⟨Z, hZ⟩ : ∃ Z, zeroSup = Z := ⟨_, rfl⟩
  rw [hZ]
  have HZZ := Lib.hid hZ
  clear hZ
  go_enter Try.func19, Try.ntmps19
  go_wp2_with fail
  refine (HA.out _).mono ?_
  rintro e w1 ⟨⟨a1, d1, a2, d2, rfl, hx, m1, m2, u1, u2⟩, hb1⟩
  simp only [supV]
  rw [World.size_alloc] at u1 u2 hb1
  have hB1 := ((Below.refl _ w).alloc (Nat.le_refl _) zsup).trans (hb1.mono (Nat.le_succ _))
  have hs1 := hb1.size
  rw [World.size_alloc] at hs1
  have hz1 := (hb1.block w.heap.size (Nat.lt_succ_self _)).trans (heap_alloc_new w zsup)
  have hz2 := (Below.heap_alloc w1 (.cells #[.int .i64 x.gen, .int .i64 x.base, .int .i64 x.size, .int .i64 x.cg, .slice a1 x.chk.length d1, .slice a2 x.log.length d2] 24) _ (by omega)).trans hz1
  have hx2 := heap_alloc_new w1 (.cells #[.int .i64 x.gen, .int .i64 x.base, .int .i64 x.size, .int .i64 x.cg, .slice a1 x.chk.length d1, .slice a2 x.log.length d2] 24)
  have hB2 := hB1.alloc hB1.size (.cells #[.int .i64 x.gen, .int .i64 x.base, .int .i64 x.size, .int .i64 x.cg, .slice a1 x.chk.length d1, .slice a2 x.log.length d2] 24)
  have hxs2 := hx.keep ((Below.refl _ w1).alloc (Nat.le_refl _) (.cells #[.int .i64 x.gen, .int .i64 x.base, .int .i64 x.size, .int .i64 x.cg, .slice a1 x.chk.length d1, .slice a2 x.log.length d2] 24))
  have hw2 : (w1.alloc (.cells #[.int .i64 x.gen, .int .i64 x.base, .int .i64 x.size, .int .i64 x.cg, .slice a1 x.chk.length d1, .slice a2 x.log.length d2] 24)).heap.size = w1.heap.size + 1 := by simp
  have HZ2 := Lib.hid hz2; have HX2 := Lib.hid hx2; have HB2 := Lib.hid hB2; have HXS2 := Lib.hid hxs2; have HW2 := Lib.hid hw2; have HS1 := Lib.hid hs1
  have U1 := Lib.hid u1; have U2 := Lib.hid u2; have M1 := Lib.hid m1; have M2 := Lib.hid m2
  clear hb1 hB1 hs1 hz1 hz2 hx2 hB2 hxs2 hx u1 u2 m1 m2 hw2
  go_wp2_with fail
  refine (HB.out _).mono ?_
  rintro e w3 ⟨⟨b1, f1, b2, f2, rfl, hy, l1, l2, v1, v2⟩, hb3⟩
  simp only [supV]
  rw [HW2.out] at v1 v2
  have hh := HS1.out
  have hw2 := HW2.out
  have hz3 := (hb3.block w.heap.size (by omega)).trans HZ2.out
  have hx3 := (hb3.block w1.heap.size (by omega)).trans HX2.out
  have hB3 := HB2.out.trans (hb3.mono (by omega))
  have hxs3 := HXS2.out.keep hb3
  have hs3 := hb3.size
  have hz4 := (Below.heap_alloc w3 (.cells #[.int .i64 y.gen, .int .i64 y.base, .int .i64 y.size, .int .i64 y.cg, .slice b1 y.chk.length f1, .slice b2 y.log.length f2] 24) _ (by omega)).trans hz3
  have hx4 := (Below.heap_alloc w3 (.cells #[.int .i64 y.gen, .int .i64 y.base, .int .i64 y.size, .int .i64 y.cg, .slice b1 y.chk.length f1, .slice b2 y.log.length f2] 24) _ (by omega)).trans hx3
  have hy4 := heap_alloc_new w3 (.cells #[.int .i64 y.gen, .int .i64 y.base, .int .i64 y.size, .int .i64 y.cg, .slice b1 y.chk.length f1, .slice b2 y.log.length f2] 24)
  have hB4 := hB3.alloc hB3.size (.cells #[.int .i64 y.gen, .int .i64 y.base, .int .i64 y.size, .int .i64 y.cg, .slice b1 y.chk.length f1, .slice b2 y.log.length f2] 24)
  have hxs4 := hxs3.keep ((Below.refl _ w3).alloc (Nat.le_refl _) (.cells #[.int .i64 y.gen, .int .i64 y.base, .int .i64 y.size, .int .i64 y.cg, .slice b1 y.chk.length f1, .slice b2 y.log.length f2] 24))
  have hys4 := hy.keep ((Below.refl _ w3).alloc (Nat.le_refl _) (.cells #[.int .i64 y.gen, .int .i64 y.base, .int .i64 y.size, .int .i64 y.cg, .slice b1 y.chk.length f1, .slice b2 y.log.length f2] 24))
  have g1 : ∀ ad, a1 = some ad → w.heap.size < ad.block := fun ad he => by have := U1.out ad he; omega
  have g2 : ∀ ad, a2 = some ad → w.heap.size < ad.block := fun ad he => by have := U2.out ad he; omega
  have g3 : ∀ ad, b1 = some ad → w.heap.size < ad.block := fun ad he => by have := v1 ad he; omega
  have g4 : ∀ ad, b2 = some ad → w.heap.size < ad.block := fun ad he => by have := v2 ad he; omega
  obtain ⟨⟨q0, q1, q2, q3, q4, q5⟩, r0, r1, r2, r3, r4, r5⟩ := zero_cells6 hz4
  obtain ⟨p0, p1, p2, p3, p4, p5⟩ := six_cells hx4
  obtain ⟨s0, s1, s2, s3, s4, s5⟩ := six_cells hy4
  have hf := best_zero (n := 0) (er := 12) hB4
  rw [HZZ.out] at hf
  have HRS := Lib.hid (six_cells (heap_put6 hz4 (.int .i64 0) (.int .i64 0) (.int .i64 0) (.int .i64 0) (.slice none 0 0) (.slice none 0 0)))
  have HF := Lib.hid hf
  clear hf hz3 hx3 hB3 hxs3 hs3 hz4 hx4 hy4 hB4 hxs4 hys4 g1 g2 g3 g4 hy l1 l2 v1 v2 hb3 hh hw2 HZ2 HX2 HB2 HXS2 HW2 HS1 U1 U2 M1 M2 HA HB

  go_wp2_with fail
  refine bodyPost_ret (results_three rfl _ _ w.heap.size _ _ _ _ _ _ rfl HRS.out) rfl ?_
  exact HF.out
set_option maxHeartbeats 4000000 in
theorem sbest_left (a b : ByteArray) (x y : Sup) (w : World) (HA : Hid (∀ w, Calls Try.prog 11 #[.string a] w (SupMade w x (.int .i64 0)))) (HB : Hid (∀ w, Calls Try.prog 11 #[.string b] w (SupMade w y (.int .i64 12)))) :
    Calls Try.prog 19 #[.string a, .string b] w (BestMade w x 0 0) := by
  go_enter Try.func19, Try.ntmps19
  go_wp2_with fail
  refine (HA.out _).mono ?_
  rintro e w1 ⟨⟨a1, d1, a2, d2, rfl, hx, m1, m2, u1, u2⟩, hb1⟩
  simp only [supV]
  rw [World.size_alloc] at u1 u2 hb1
  have hB1 := ((Below.refl _ w).alloc (Nat.le_refl _) zsup).trans (hb1.mono (Nat.le_succ _))
  have hs1 := hb1.size
  rw [World.size_alloc] at hs1
  have hz1 := (hb1.block w.heap.size (Nat.lt_succ_self _)).trans (heap_alloc_new w zsup)
  have hz2 := (Below.heap_alloc w1 (.cells #[.int .i64 x.gen, .int .i64 x.base, .int .i64 x.size, .int .i64 x.cg, .slice a1 x.chk.length d1, .slice a2 x.log.length d2] 24) _ (by omega)).trans hz1
  have hx2 := heap_alloc_new w1 (.cells #[.int .i64 x.gen, .int .i64 x.base, .int .i64 x.size, .int .i64 x.cg, .slice a1 x.chk.length d1, .slice a2 x.log.length d2] 24)
  have hB2 := hB1.alloc hB1.size (.cells #[.int .i64 x.gen, .int .i64 x.base, .int .i64 x.size, .int .i64 x.cg, .slice a1 x.chk.length d1, .slice a2 x.log.length d2] 24)
  have hxs2 := hx.keep ((Below.refl _ w1).alloc (Nat.le_refl _) (.cells #[.int .i64 x.gen, .int .i64 x.base, .int .i64 x.size, .int .i64 x.cg, .slice a1 x.chk.length d1, .slice a2 x.log.length d2] 24))
  have hw2 : (w1.alloc (.cells #[.int .i64 x.gen, .int .i64 x.base, .int .i64 x.size, .int .i64 x.cg, .slice a1 x.chk.length d1, .slice a2 x.log.length d2] 24)).heap.size = w1.heap.size + 1 := by simp
  have HZ2 := Lib.hid hz2; have HX2 := Lib.hid hx2; have HB2 := Lib.hid hB2; have HXS2 := Lib.hid hxs2; have HW2 := Lib.hid hw2; have HS1 := Lib.hid hs1
  have U1 := Lib.hid u1; have U2 := Lib.hid u2; have M1 := Lib.hid m1; have M2 := Lib.hid m2
  clear hb1 hB1 hs1 hz1 hz2 hx2 hB2 hxs2 hx u1 u2 m1 m2 hw2
  go_wp2_with fail
  refine (HB.out _).mono ?_
  rintro e w3 ⟨⟨b1, f1, b2, f2, rfl, hy, l1, l2, v1, v2⟩, hb3⟩
  simp only [supV]
  rw [HW2.out] at v1 v2
  have hh := HS1.out
  have hw2 := HW2.out
  have hz3 := (hb3.block w.heap.size (by omega)).trans HZ2.out
  have hx3 := (hb3.block w1.heap.size (by omega)).trans HX2.out
  have hB3 := HB2.out.trans (hb3.mono (by omega))
  have hxs3 := HXS2.out.keep hb3
  have hs3 := hb3.size
  have hz4 := (Below.heap_alloc w3 (.cells #[.int .i64 y.gen, .int .i64 y.base, .int .i64 y.size, .int .i64 y.cg, .slice b1 y.chk.length f1, .slice b2 y.log.length f2] 24) _ (by omega)).trans hz3
  have hx4 := (Below.heap_alloc w3 (.cells #[.int .i64 y.gen, .int .i64 y.base, .int .i64 y.size, .int .i64 y.cg, .slice b1 y.chk.length f1, .slice b2 y.log.length f2] 24) _ (by omega)).trans hx3
  have hy4 := heap_alloc_new w3 (.cells #[.int .i64 y.gen, .int .i64 y.base, .int .i64 y.size, .int .i64 y.cg, .slice b1 y.chk.length f1, .slice b2 y.log.length f2] 24)
  have hB4 := hB3.alloc hB3.size (.cells #[.int .i64 y.gen, .int .i64 y.base, .int .i64 y.size, .int .i64 y.cg, .slice b1 y.chk.length f1, .slice b2 y.log.length f2] 24)
  have hxs4 := hxs3.keep ((Below.refl _ w3).alloc (Nat.le_refl _) (.cells #[.int .i64 y.gen, .int .i64 y.base, .int .i64 y.size, .int .i64 y.cg, .slice b1 y.chk.length f1, .slice b2 y.log.length f2] 24))
  have hys4 := hy.keep ((Below.refl _ w3).alloc (Nat.le_refl _) (.cells #[.int .i64 y.gen, .int .i64 y.base, .int .i64 y.size, .int .i64 y.cg, .slice b1 y.chk.length f1, .slice b2 y.log.length f2] 24))
  have g1 : ∀ ad, a1 = some ad → w.heap.size < ad.block := fun ad he => by have := U1.out ad he; omega
  have g2 : ∀ ad, a2 = some ad → w.heap.size < ad.block := fun ad he => by have := U2.out ad he; omega
  have g3 : ∀ ad, b1 = some ad → w.heap.size < ad.block := fun ad he => by have := v1 ad he; omega
  have g4 : ∀ ad, b2 = some ad → w.heap.size < ad.block := fun ad he => by have := v2 ad he; omega
  obtain ⟨⟨q0, q1, q2, q3, q4, q5⟩, r0, r1, r2, r3, r4, r5⟩ := zero_cells6 hz4
  obtain ⟨p0, p1, p2, p3, p4, p5⟩ := six_cells hx4
  obtain ⟨s0, s1, s2, s3, s4, s5⟩ := six_cells hy4
  have hf := best_sup (n := 0) (er := 0) hB4 hxs4 g1 g2 M1.out M2.out
  have HRS := Lib.hid (six_cells (heap_put6 hz4 (.int .i64 x.gen) (.int .i64 x.base) (.int .i64 x.size) (.int .i64 x.cg) (.slice a1 x.chk.length d1) (.slice a2 x.log.length d2)))
  have HF := Lib.hid hf
  clear hf hz3 hx3 hB3 hxs3 hs3 hz4 hx4 hy4 hB4 hxs4 hys4 g1 g2 g3 g4 hy l1 l2 v1 v2 hb3 hh hw2 HZ2 HX2 HB2 HXS2 HW2 HS1 U1 U2 M1 M2 HA HB

  go_wp2_with fail
  refine bodyPost_ret (results_three rfl _ _ w.heap.size _ _ _ _ _ _ rfl HRS.out) rfl ?_
  exact HF.out
set_option maxHeartbeats 4000000 in
theorem sbest_right (a b : ByteArray) (x y : Sup) (w : World) (HA : Hid (∀ w, Calls Try.prog 11 #[.string a] w (SupMade w x (.int .i64 12)))) (HB : Hid (∀ w, Calls Try.prog 11 #[.string b] w (SupMade w y (.int .i64 0)))) :
    Calls Try.prog 19 #[.string a, .string b] w (BestMade w y 1 0) := by
  go_enter Try.func19, Try.ntmps19
  go_wp2_with fail
  refine (HA.out _).mono ?_
  rintro e w1 ⟨⟨a1, d1, a2, d2, rfl, hx, m1, m2, u1, u2⟩, hb1⟩
  simp only [supV]
  rw [World.size_alloc] at u1 u2 hb1
  have hB1 := ((Below.refl _ w).alloc (Nat.le_refl _) zsup).trans (hb1.mono (Nat.le_succ _))
  have hs1 := hb1.size
  rw [World.size_alloc] at hs1
  have hz1 := (hb1.block w.heap.size (Nat.lt_succ_self _)).trans (heap_alloc_new w zsup)
  have hz2 := (Below.heap_alloc w1 (.cells #[.int .i64 x.gen, .int .i64 x.base, .int .i64 x.size, .int .i64 x.cg, .slice a1 x.chk.length d1, .slice a2 x.log.length d2] 24) _ (by omega)).trans hz1
  have hx2 := heap_alloc_new w1 (.cells #[.int .i64 x.gen, .int .i64 x.base, .int .i64 x.size, .int .i64 x.cg, .slice a1 x.chk.length d1, .slice a2 x.log.length d2] 24)
  have hB2 := hB1.alloc hB1.size (.cells #[.int .i64 x.gen, .int .i64 x.base, .int .i64 x.size, .int .i64 x.cg, .slice a1 x.chk.length d1, .slice a2 x.log.length d2] 24)
  have hxs2 := hx.keep ((Below.refl _ w1).alloc (Nat.le_refl _) (.cells #[.int .i64 x.gen, .int .i64 x.base, .int .i64 x.size, .int .i64 x.cg, .slice a1 x.chk.length d1, .slice a2 x.log.length d2] 24))
  have hw2 : (w1.alloc (.cells #[.int .i64 x.gen, .int .i64 x.base, .int .i64 x.size, .int .i64 x.cg, .slice a1 x.chk.length d1, .slice a2 x.log.length d2] 24)).heap.size = w1.heap.size + 1 := by simp
  have HZ2 := Lib.hid hz2; have HX2 := Lib.hid hx2; have HB2 := Lib.hid hB2; have HXS2 := Lib.hid hxs2; have HW2 := Lib.hid hw2; have HS1 := Lib.hid hs1
  have U1 := Lib.hid u1; have U2 := Lib.hid u2; have M1 := Lib.hid m1; have M2 := Lib.hid m2
  clear hb1 hB1 hs1 hz1 hz2 hx2 hB2 hxs2 hx u1 u2 m1 m2 hw2
  go_wp2_with fail
  refine (HB.out _).mono ?_
  rintro e w3 ⟨⟨b1, f1, b2, f2, rfl, hy, l1, l2, v1, v2⟩, hb3⟩
  simp only [supV]
  rw [HW2.out] at v1 v2
  have hh := HS1.out
  have hw2 := HW2.out
  have hz3 := (hb3.block w.heap.size (by omega)).trans HZ2.out
  have hx3 := (hb3.block w1.heap.size (by omega)).trans HX2.out
  have hB3 := HB2.out.trans (hb3.mono (by omega))
  have hxs3 := HXS2.out.keep hb3
  have hs3 := hb3.size
  have hz4 := (Below.heap_alloc w3 (.cells #[.int .i64 y.gen, .int .i64 y.base, .int .i64 y.size, .int .i64 y.cg, .slice b1 y.chk.length f1, .slice b2 y.log.length f2] 24) _ (by omega)).trans hz3
  have hx4 := (Below.heap_alloc w3 (.cells #[.int .i64 y.gen, .int .i64 y.base, .int .i64 y.size, .int .i64 y.cg, .slice b1 y.chk.length f1, .slice b2 y.log.length f2] 24) _ (by omega)).trans hx3
  have hy4 := heap_alloc_new w3 (.cells #[.int .i64 y.gen, .int .i64 y.base, .int .i64 y.size, .int .i64 y.cg, .slice b1 y.chk.length f1, .slice b2 y.log.length f2] 24)
  have hB4 := hB3.alloc hB3.size (.cells #[.int .i64 y.gen, .int .i64 y.base, .int .i64 y.size, .int .i64 y.cg, .slice b1 y.chk.length f1, .slice b2 y.log.length f2] 24)
  have hxs4 := hxs3.keep ((Below.refl _ w3).alloc (Nat.le_refl _) (.cells #[.int .i64 y.gen, .int .i64 y.base, .int .i64 y.size, .int .i64 y.cg, .slice b1 y.chk.length f1, .slice b2 y.log.length f2] 24))
  have hys4 := hy.keep ((Below.refl _ w3).alloc (Nat.le_refl _) (.cells #[.int .i64 y.gen, .int .i64 y.base, .int .i64 y.size, .int .i64 y.cg, .slice b1 y.chk.length f1, .slice b2 y.log.length f2] 24))
  have g1 : ∀ ad, a1 = some ad → w.heap.size < ad.block := fun ad he => by have := U1.out ad he; omega
  have g2 : ∀ ad, a2 = some ad → w.heap.size < ad.block := fun ad he => by have := U2.out ad he; omega
  have g3 : ∀ ad, b1 = some ad → w.heap.size < ad.block := fun ad he => by have := v1 ad he; omega
  have g4 : ∀ ad, b2 = some ad → w.heap.size < ad.block := fun ad he => by have := v2 ad he; omega
  obtain ⟨⟨q0, q1, q2, q3, q4, q5⟩, r0, r1, r2, r3, r4, r5⟩ := zero_cells6 hz4
  obtain ⟨p0, p1, p2, p3, p4, p5⟩ := six_cells hx4
  obtain ⟨s0, s1, s2, s3, s4, s5⟩ := six_cells hy4
  have hf := best_sup (n := 1) (er := 0) hB4 hys4 g3 g4 l1 l2
  have HRS := Lib.hid (six_cells (heap_put6 hz4 (.int .i64 y.gen) (.int .i64 y.base) (.int .i64 y.size) (.int .i64 y.cg) (.slice b1 y.chk.length f1) (.slice b2 y.log.length f2)))
  have HF := Lib.hid hf
  clear hf hz3 hx3 hB3 hxs3 hs3 hz4 hx4 hy4 hB4 hxs4 hys4 g1 g2 g3 g4 hy l1 l2 v1 v2 hb3 hh hw2 HZ2 HX2 HB2 HXS2 HW2 HS1 U1 U2 M1 M2 HA HB

  go_wp2_with fail
  refine bodyPost_ret (results_three rfl _ _ w.heap.size _ _ _ _ _ _ rfl HRS.out) rfl ?_
  exact HF.out
set_option maxHeartbeats 4000000 in
theorem sbest_lt (a b : ByteArray) (x y : Sup) (w : World) (hg : x.gen < y.gen) (HA : Hid (∀ w, Calls Try.prog 11 #[.string a] w (SupMade w x (.int .i64 0)))) (HB : Hid (∀ w, Calls Try.prog 11 #[.string b] w (SupMade w y (.int .i64 0)))) :
    Calls Try.prog 19 #[.string a, .string b] w (BestMade w y 1 0) := by
  have tg : decide (x.gen < y.gen) = true := decide_eq_true hg
  go_enter Try.func19, Try.ntmps19
  go_wp2_with fail
  refine (HA.out _).mono ?_
  rintro e w1 ⟨⟨a1, d1, a2, d2, rfl, hx, m1, m2, u1, u2⟩, hb1⟩
  simp only [supV]
  rw [World.size_alloc] at u1 u2 hb1
  have hB1 := ((Below.refl _ w).alloc (Nat.le_refl _) zsup).trans (hb1.mono (Nat.le_succ _))
  have hs1 := hb1.size
  rw [World.size_alloc] at hs1
  have hz1 := (hb1.block w.heap.size (Nat.lt_succ_self _)).trans (heap_alloc_new w zsup)
  have hz2 := (Below.heap_alloc w1 (.cells #[.int .i64 x.gen, .int .i64 x.base, .int .i64 x.size, .int .i64 x.cg, .slice a1 x.chk.length d1, .slice a2 x.log.length d2] 24) _ (by omega)).trans hz1
  have hx2 := heap_alloc_new w1 (.cells #[.int .i64 x.gen, .int .i64 x.base, .int .i64 x.size, .int .i64 x.cg, .slice a1 x.chk.length d1, .slice a2 x.log.length d2] 24)
  have hB2 := hB1.alloc hB1.size (.cells #[.int .i64 x.gen, .int .i64 x.base, .int .i64 x.size, .int .i64 x.cg, .slice a1 x.chk.length d1, .slice a2 x.log.length d2] 24)
  have hxs2 := hx.keep ((Below.refl _ w1).alloc (Nat.le_refl _) (.cells #[.int .i64 x.gen, .int .i64 x.base, .int .i64 x.size, .int .i64 x.cg, .slice a1 x.chk.length d1, .slice a2 x.log.length d2] 24))
  have hw2 : (w1.alloc (.cells #[.int .i64 x.gen, .int .i64 x.base, .int .i64 x.size, .int .i64 x.cg, .slice a1 x.chk.length d1, .slice a2 x.log.length d2] 24)).heap.size = w1.heap.size + 1 := by simp
  have HZ2 := Lib.hid hz2; have HX2 := Lib.hid hx2; have HB2 := Lib.hid hB2; have HXS2 := Lib.hid hxs2; have HW2 := Lib.hid hw2; have HS1 := Lib.hid hs1
  have U1 := Lib.hid u1; have U2 := Lib.hid u2; have M1 := Lib.hid m1; have M2 := Lib.hid m2
  clear hb1 hB1 hs1 hz1 hz2 hx2 hB2 hxs2 hx u1 u2 m1 m2 hw2
  go_wp2_with fail
  refine (HB.out _).mono ?_
  rintro e w3 ⟨⟨b1, f1, b2, f2, rfl, hy, l1, l2, v1, v2⟩, hb3⟩
  simp only [supV]
  rw [HW2.out] at v1 v2
  have hh := HS1.out
  have hw2 := HW2.out
  have hz3 := (hb3.block w.heap.size (by omega)).trans HZ2.out
  have hx3 := (hb3.block w1.heap.size (by omega)).trans HX2.out
  have hB3 := HB2.out.trans (hb3.mono (by omega))
  have hxs3 := HXS2.out.keep hb3
  have hs3 := hb3.size
  have hz4 := (Below.heap_alloc w3 (.cells #[.int .i64 y.gen, .int .i64 y.base, .int .i64 y.size, .int .i64 y.cg, .slice b1 y.chk.length f1, .slice b2 y.log.length f2] 24) _ (by omega)).trans hz3
  have hx4 := (Below.heap_alloc w3 (.cells #[.int .i64 y.gen, .int .i64 y.base, .int .i64 y.size, .int .i64 y.cg, .slice b1 y.chk.length f1, .slice b2 y.log.length f2] 24) _ (by omega)).trans hx3
  have hy4 := heap_alloc_new w3 (.cells #[.int .i64 y.gen, .int .i64 y.base, .int .i64 y.size, .int .i64 y.cg, .slice b1 y.chk.length f1, .slice b2 y.log.length f2] 24)
  have hB4 := hB3.alloc hB3.size (.cells #[.int .i64 y.gen, .int .i64 y.base, .int .i64 y.size, .int .i64 y.cg, .slice b1 y.chk.length f1, .slice b2 y.log.length f2] 24)
  have hxs4 := hxs3.keep ((Below.refl _ w3).alloc (Nat.le_refl _) (.cells #[.int .i64 y.gen, .int .i64 y.base, .int .i64 y.size, .int .i64 y.cg, .slice b1 y.chk.length f1, .slice b2 y.log.length f2] 24))
  have hys4 := hy.keep ((Below.refl _ w3).alloc (Nat.le_refl _) (.cells #[.int .i64 y.gen, .int .i64 y.base, .int .i64 y.size, .int .i64 y.cg, .slice b1 y.chk.length f1, .slice b2 y.log.length f2] 24))
  have g1 : ∀ ad, a1 = some ad → w.heap.size < ad.block := fun ad he => by have := U1.out ad he; omega
  have g2 : ∀ ad, a2 = some ad → w.heap.size < ad.block := fun ad he => by have := U2.out ad he; omega
  have g3 : ∀ ad, b1 = some ad → w.heap.size < ad.block := fun ad he => by have := v1 ad he; omega
  have g4 : ∀ ad, b2 = some ad → w.heap.size < ad.block := fun ad he => by have := v2 ad he; omega
  obtain ⟨⟨q0, q1, q2, q3, q4, q5⟩, r0, r1, r2, r3, r4, r5⟩ := zero_cells6 hz4
  obtain ⟨p0, p1, p2, p3, p4, p5⟩ := six_cells hx4
  obtain ⟨s0, s1, s2, s3, s4, s5⟩ := six_cells hy4
  have hf := best_sup (n := 1) (er := 0) hB4 hys4 g3 g4 l1 l2
  have HRS := Lib.hid (six_cells (heap_put6 hz4 (.int .i64 y.gen) (.int .i64 y.base) (.int .i64 y.size) (.int .i64 y.cg) (.slice b1 y.chk.length f1) (.slice b2 y.log.length f2)))
  have HF := Lib.hid hf
  clear hf hz3 hx3 hB3 hxs3 hs3 hz4 hx4 hy4 hB4 hxs4 hys4 g1 g2 g3 g4 hy l1 l2 v1 v2 hb3 hh hw2 HZ2 HX2 HB2 HXS2 HW2 HS1 U1 U2 M1 M2 HA HB

  go_wp2_with fail
  refine bodyPost_ret (results_three rfl _ _ w.heap.size _ _ _ _ _ _ rfl HRS.out) rfl ?_
  exact HF.out
set_option maxHeartbeats 4000000 in
theorem sbest_ge (a b : ByteArray) (x y : Sup) (w : World) (hg : ¬ x.gen < y.gen) (HA : Hid (∀ w, Calls Try.prog 11 #[.string a] w (SupMade w x (.int .i64 0)))) (HB : Hid (∀ w, Calls Try.prog 11 #[.string b] w (SupMade w y (.int .i64 0)))) :
    Calls Try.prog 19 #[.string a, .string b] w (BestMade w x 0 0) := by
  have tg : decide (x.gen < y.gen) = false := decide_eq_false hg
  go_enter Try.func19, Try.ntmps19
  go_wp2_with fail
  refine (HA.out _).mono ?_
  rintro e w1 ⟨⟨a1, d1, a2, d2, rfl, hx, m1, m2, u1, u2⟩, hb1⟩
  simp only [supV]
  rw [World.size_alloc] at u1 u2 hb1
  have hB1 := ((Below.refl _ w).alloc (Nat.le_refl _) zsup).trans (hb1.mono (Nat.le_succ _))
  have hs1 := hb1.size
  rw [World.size_alloc] at hs1
  have hz1 := (hb1.block w.heap.size (Nat.lt_succ_self _)).trans (heap_alloc_new w zsup)
  have hz2 := (Below.heap_alloc w1 (.cells #[.int .i64 x.gen, .int .i64 x.base, .int .i64 x.size, .int .i64 x.cg, .slice a1 x.chk.length d1, .slice a2 x.log.length d2] 24) _ (by omega)).trans hz1
  have hx2 := heap_alloc_new w1 (.cells #[.int .i64 x.gen, .int .i64 x.base, .int .i64 x.size, .int .i64 x.cg, .slice a1 x.chk.length d1, .slice a2 x.log.length d2] 24)
  have hB2 := hB1.alloc hB1.size (.cells #[.int .i64 x.gen, .int .i64 x.base, .int .i64 x.size, .int .i64 x.cg, .slice a1 x.chk.length d1, .slice a2 x.log.length d2] 24)
  have hxs2 := hx.keep ((Below.refl _ w1).alloc (Nat.le_refl _) (.cells #[.int .i64 x.gen, .int .i64 x.base, .int .i64 x.size, .int .i64 x.cg, .slice a1 x.chk.length d1, .slice a2 x.log.length d2] 24))
  have hw2 : (w1.alloc (.cells #[.int .i64 x.gen, .int .i64 x.base, .int .i64 x.size, .int .i64 x.cg, .slice a1 x.chk.length d1, .slice a2 x.log.length d2] 24)).heap.size = w1.heap.size + 1 := by simp
  have HZ2 := Lib.hid hz2; have HX2 := Lib.hid hx2; have HB2 := Lib.hid hB2; have HXS2 := Lib.hid hxs2; have HW2 := Lib.hid hw2; have HS1 := Lib.hid hs1
  have U1 := Lib.hid u1; have U2 := Lib.hid u2; have M1 := Lib.hid m1; have M2 := Lib.hid m2
  clear hb1 hB1 hs1 hz1 hz2 hx2 hB2 hxs2 hx u1 u2 m1 m2 hw2
  go_wp2_with fail
  refine (HB.out _).mono ?_
  rintro e w3 ⟨⟨b1, f1, b2, f2, rfl, hy, l1, l2, v1, v2⟩, hb3⟩
  simp only [supV]
  rw [HW2.out] at v1 v2
  have hh := HS1.out
  have hw2 := HW2.out
  have hz3 := (hb3.block w.heap.size (by omega)).trans HZ2.out
  have hx3 := (hb3.block w1.heap.size (by omega)).trans HX2.out
  have hB3 := HB2.out.trans (hb3.mono (by omega))
  have hxs3 := HXS2.out.keep hb3
  have hs3 := hb3.size
  have hz4 := (Below.heap_alloc w3 (.cells #[.int .i64 y.gen, .int .i64 y.base, .int .i64 y.size, .int .i64 y.cg, .slice b1 y.chk.length f1, .slice b2 y.log.length f2] 24) _ (by omega)).trans hz3
  have hx4 := (Below.heap_alloc w3 (.cells #[.int .i64 y.gen, .int .i64 y.base, .int .i64 y.size, .int .i64 y.cg, .slice b1 y.chk.length f1, .slice b2 y.log.length f2] 24) _ (by omega)).trans hx3
  have hy4 := heap_alloc_new w3 (.cells #[.int .i64 y.gen, .int .i64 y.base, .int .i64 y.size, .int .i64 y.cg, .slice b1 y.chk.length f1, .slice b2 y.log.length f2] 24)
  have hB4 := hB3.alloc hB3.size (.cells #[.int .i64 y.gen, .int .i64 y.base, .int .i64 y.size, .int .i64 y.cg, .slice b1 y.chk.length f1, .slice b2 y.log.length f2] 24)
  have hxs4 := hxs3.keep ((Below.refl _ w3).alloc (Nat.le_refl _) (.cells #[.int .i64 y.gen, .int .i64 y.base, .int .i64 y.size, .int .i64 y.cg, .slice b1 y.chk.length f1, .slice b2 y.log.length f2] 24))
  have hys4 := hy.keep ((Below.refl _ w3).alloc (Nat.le_refl _) (.cells #[.int .i64 y.gen, .int .i64 y.base, .int .i64 y.size, .int .i64 y.cg, .slice b1 y.chk.length f1, .slice b2 y.log.length f2] 24))
  have g1 : ∀ ad, a1 = some ad → w.heap.size < ad.block := fun ad he => by have := U1.out ad he; omega
  have g2 : ∀ ad, a2 = some ad → w.heap.size < ad.block := fun ad he => by have := U2.out ad he; omega
  have g3 : ∀ ad, b1 = some ad → w.heap.size < ad.block := fun ad he => by have := v1 ad he; omega
  have g4 : ∀ ad, b2 = some ad → w.heap.size < ad.block := fun ad he => by have := v2 ad he; omega
  obtain ⟨⟨q0, q1, q2, q3, q4, q5⟩, r0, r1, r2, r3, r4, r5⟩ := zero_cells6 hz4
  obtain ⟨p0, p1, p2, p3, p4, p5⟩ := six_cells hx4
  obtain ⟨s0, s1, s2, s3, s4, s5⟩ := six_cells hy4
  have hf := best_sup (n := 0) (er := 0) hB4 hxs4 g1 g2 M1.out M2.out
  have HRS := Lib.hid (six_cells (heap_put6 hz4 (.int .i64 x.gen) (.int .i64 x.base) (.int .i64 x.size) (.int .i64 x.cg) (.slice a1 x.chk.length d1) (.slice a2 x.log.length d2)))
  have HF := Lib.hid hf
  clear hf hz3 hx3 hB3 hxs3 hs3 hz4 hx4 hy4 hB4 hxs4 hys4 g1 g2 g3 g4 hy l1 l2 v1 v2 hb3 hh hw2 HZ2 HX2 HB2 HXS2 HW2 HS1 U1 U2 M1 M2 HA HB

  go_wp2_with fail
  refine bodyPost_ret (results_three rfl _ _ w.heap.size _ _ _ _ _ _ rfl HRS.out) rfl ?_
  exact HF.out
theorem sbest_any (a b : ByteArray) (w : World) (ha : a.size ≤ 1000000) (hb : b.size ≤ 1000000) :
    Calls Try.prog 19 #[.string a, .string b] w (BestMade w (bestY a.data.toList b.data.toList) (bestN a.data.toList b.data.toList) (bestE a.data.toList b.data.toList)) := by
  have hA := fun w => decode_any a w ha
  have hB := fun w => decode_any b w hb
  rcases h1 : dec a.data.toList with _ | x
  · rw [(dec_no h1).1, (dec_no h1).2] at hA
    rcases h2 : dec b.data.toList with _ | y
    · rw [(dec_no h2).1, (dec_no h2).2] at hB
      obtain ⟨e1, e2, e3⟩ := best_is (best_none h1 h2)
      rw [e1, e2, e3]
      exact sbest_none a b zeroSup zeroSup w (Lib.hid hA) (Lib.hid hB)
    · rw [(dec_yes h2).1, (dec_yes h2).2] at hB
      obtain ⟨e1, e2, e3⟩ := best_is (best_right h1 h2)
      rw [e1, e2, e3]
      exact sbest_right a b zeroSup y w (Lib.hid hA) (Lib.hid hB)
  · rw [(dec_yes h1).1, (dec_yes h1).2] at hA
    rcases h2 : dec b.data.toList with _ | y
    · rw [(dec_no h2).1, (dec_no h2).2] at hB
      obtain ⟨e1, e2, e3⟩ := best_is (best_left h1 h2)
      rw [e1, e2, e3]
      exact sbest_left a b x zeroSup w (Lib.hid hA) (Lib.hid hB)
    · rw [(dec_yes h2).1, (dec_yes h2).2] at hB
      have hbo := best_both h1 h2
      by_cases hg : x.gen < y.gen
      · rw [if_pos hg] at hbo
        obtain ⟨e1, e2, e3⟩ := best_is hbo
        rw [e1, e2, e3]
        exact sbest_lt a b x y w hg (Lib.hid hA) (Lib.hid hB)
      · rw [if_neg hg] at hbo
        obtain ⟨e1, e2, e3⟩ := best_is hbo
        rw [e1, e2, e3]
        exact sbest_ge a b x y w hg (Lib.hid hA) (Lib.hid hB)
set_option maxHeartbeats 4000000 in
theorem rbest_none (a b : ByteArray) (x y : Sup) (w : World) (HA : Hid (∀ w, Calls Try.prog 12 #[.string a] w (SupMade w x (.int .i64 12)))) (HB : Hid (∀ w, Calls Try.prog 12 #[.string b] w (SupMade w y (.int .i64 12)))) :
    Calls Try.prog 20 #[.string a, .string b] w (BestMade w zeroSup 0 12) := by
  obtain ⟨Z, hZ⟩ : ∃ Z, zeroSup = Z := ⟨_, rfl⟩
  rw [hZ]
  have HZZ := Lib.hid hZ
  clear hZ
  go_enter Try.func20, Try.ntmps20
  go_wp2_with fail
  refine (HA.out _).mono ?_
  rintro e w1 ⟨⟨a1, d1, a2, d2, rfl, hx, m1, m2, u1, u2⟩, hb1⟩
  simp only [supV]
  rw [World.size_alloc] at u1 u2 hb1
  have hB1 := ((Below.refl _ w).alloc (Nat.le_refl _) zsup).trans (hb1.mono (Nat.le_succ _))
  have hs1 := hb1.size
  rw [World.size_alloc] at hs1
  have hz1 := (hb1.block w.heap.size (Nat.lt_succ_self _)).trans (heap_alloc_new w zsup)
  have hz2 := (Below.heap_alloc w1 (.cells #[.int .i64 x.gen, .int .i64 x.base, .int .i64 x.size, .int .i64 x.cg, .slice a1 x.chk.length d1, .slice a2 x.log.length d2] 24) _ (by omega)).trans hz1
  have hx2 := heap_alloc_new w1 (.cells #[.int .i64 x.gen, .int .i64 x.base, .int .i64 x.size, .int .i64 x.cg, .slice a1 x.chk.length d1, .slice a2 x.log.length d2] 24)
  have hB2 := hB1.alloc hB1.size (.cells #[.int .i64 x.gen, .int .i64 x.base, .int .i64 x.size, .int .i64 x.cg, .slice a1 x.chk.length d1, .slice a2 x.log.length d2] 24)
  have hxs2 := hx.keep ((Below.refl _ w1).alloc (Nat.le_refl _) (.cells #[.int .i64 x.gen, .int .i64 x.base, .int .i64 x.size, .int .i64 x.cg, .slice a1 x.chk.length d1, .slice a2 x.log.length d2] 24))
  have hw2 : (w1.alloc (.cells #[.int .i64 x.gen, .int .i64 x.base, .int .i64 x.size, .int .i64 x.cg, .slice a1 x.chk.length d1, .slice a2 x.log.length d2] 24)).heap.size = w1.heap.size + 1 := by simp
  have HZ2 := Lib.hid hz2; have HX2 := Lib.hid hx2; have HB2 := Lib.hid hB2; have HXS2 := Lib.hid hxs2; have HW2 := Lib.hid hw2; have HS1 := Lib.hid hs1
  have U1 := Lib.hid u1; have U2 := Lib.hid u2; have M1 := Lib.hid m1; have M2 := Lib.hid m2
  clear hb1 hB1 hs1 hz1 hz2 hx2 hB2 hxs2 hx u1 u2 m1 m2 hw2
  go_wp2_with fail
  refine (HB.out _).mono ?_
  rintro e w3 ⟨⟨b1, f1, b2, f2, rfl, hy, l1, l2, v1, v2⟩, hb3⟩
  simp only [supV]
  rw [HW2.out] at v1 v2
  have hh := HS1.out
  have hw2 := HW2.out
  have hz3 := (hb3.block w.heap.size (by omega)).trans HZ2.out
  have hx3 := (hb3.block w1.heap.size (by omega)).trans HX2.out
  have hB3 := HB2.out.trans (hb3.mono (by omega))
  have hxs3 := HXS2.out.keep hb3
  have hs3 := hb3.size
  have hz4 := (Below.heap_alloc w3 (.cells #[.int .i64 y.gen, .int .i64 y.base, .int .i64 y.size, .int .i64 y.cg, .slice b1 y.chk.length f1, .slice b2 y.log.length f2] 24) _ (by omega)).trans hz3
  have hx4 := (Below.heap_alloc w3 (.cells #[.int .i64 y.gen, .int .i64 y.base, .int .i64 y.size, .int .i64 y.cg, .slice b1 y.chk.length f1, .slice b2 y.log.length f2] 24) _ (by omega)).trans hx3
  have hy4 := heap_alloc_new w3 (.cells #[.int .i64 y.gen, .int .i64 y.base, .int .i64 y.size, .int .i64 y.cg, .slice b1 y.chk.length f1, .slice b2 y.log.length f2] 24)
  have hB4 := hB3.alloc hB3.size (.cells #[.int .i64 y.gen, .int .i64 y.base, .int .i64 y.size, .int .i64 y.cg, .slice b1 y.chk.length f1, .slice b2 y.log.length f2] 24)
  have hxs4 := hxs3.keep ((Below.refl _ w3).alloc (Nat.le_refl _) (.cells #[.int .i64 y.gen, .int .i64 y.base, .int .i64 y.size, .int .i64 y.cg, .slice b1 y.chk.length f1, .slice b2 y.log.length f2] 24))
  have hys4 := hy.keep ((Below.refl _ w3).alloc (Nat.le_refl _) (.cells #[.int .i64 y.gen, .int .i64 y.base, .int .i64 y.size, .int .i64 y.cg, .slice b1 y.chk.length f1, .slice b2 y.log.length f2] 24))
  have g1 : ∀ ad, a1 = some ad → w.heap.size < ad.block := fun ad he => by have := U1.out ad he; omega
  have g2 : ∀ ad, a2 = some ad → w.heap.size < ad.block := fun ad he => by have := U2.out ad he; omega
  have g3 : ∀ ad, b1 = some ad → w.heap.size < ad.block := fun ad he => by have := v1 ad he; omega
  have g4 : ∀ ad, b2 = some ad → w.heap.size < ad.block := fun ad he => by have := v2 ad he; omega
  obtain ⟨⟨q0, q1, q2, q3, q4, q5⟩, r0, r1, r2, r3, r4, r5⟩ := zero_cells6 hz4
  obtain ⟨p0, p1, p2, p3, p4, p5⟩ := six_cells hx4
  obtain ⟨s0, s1, s2, s3, s4, s5⟩ := six_cells hy4
  have hf := best_zero (n := 0) (er := 12) hB4
  rw [HZZ.out] at hf
  have HRS := Lib.hid (six_cells (heap_put6 hz4 (.int .i64 0) (.int .i64 0) (.int .i64 0) (.int .i64 0) (.slice none 0 0) (.slice none 0 0)))
  have HF := Lib.hid hf
  clear hf hz3 hx3 hB3 hxs3 hs3 hz4 hx4 hy4 hB4 hxs4 hys4 g1 g2 g3 g4 hy l1 l2 v1 v2 hb3 hh hw2 HZ2 HX2 HB2 HXS2 HW2 HS1 U1 U2 M1 M2 HA HB

  go_wp2_with fail
  refine bodyPost_ret (results_three rfl _ _ w.heap.size _ _ _ _ _ _ rfl HRS.out) rfl ?_
  exact HF.out
set_option maxHeartbeats 4000000 in
theorem rbest_left (a b : ByteArray) (x y : Sup) (w : World) (HA : Hid (∀ w, Calls Try.prog 12 #[.string a] w (SupMade w x (.int .i64 0)))) (HB : Hid (∀ w, Calls Try.prog 12 #[.string b] w (SupMade w y (.int .i64 12)))) :
    Calls Try.prog 20 #[.string a, .string b] w (BestMade w x 0 0) := by
  go_enter Try.func20, Try.ntmps20
  go_wp2_with fail
  refine (HA.out _).mono ?_
  rintro e w1 ⟨⟨a1, d1, a2, d2, rfl, hx, m1, m2, u1, u2⟩, hb1⟩
  simp only [supV]
  rw [World.size_alloc] at u1 u2 hb1
  have hB1 := ((Below.refl _ w).alloc (Nat.le_refl _) zsup).trans (hb1.mono (Nat.le_succ _))
  have hs1 := hb1.size
  rw [World.size_alloc] at hs1
  have hz1 := (hb1.block w.heap.size (Nat.lt_succ_self _)).trans (heap_alloc_new w zsup)
  have hz2 := (Below.heap_alloc w1 (.cells #[.int .i64 x.gen, .int .i64 x.base, .int .i64 x.size, .int .i64 x.cg, .slice a1 x.chk.length d1, .slice a2 x.log.length d2] 24) _ (by omega)).trans hz1
  have hx2 := heap_alloc_new w1 (.cells #[.int .i64 x.gen, .int .i64 x.base, .int .i64 x.size, .int .i64 x.cg, .slice a1 x.chk.length d1, .slice a2 x.log.length d2] 24)
  have hB2 := hB1.alloc hB1.size (.cells #[.int .i64 x.gen, .int .i64 x.base, .int .i64 x.size, .int .i64 x.cg, .slice a1 x.chk.length d1, .slice a2 x.log.length d2] 24)
  have hxs2 := hx.keep ((Below.refl _ w1).alloc (Nat.le_refl _) (.cells #[.int .i64 x.gen, .int .i64 x.base, .int .i64 x.size, .int .i64 x.cg, .slice a1 x.chk.length d1, .slice a2 x.log.length d2] 24))
  have hw2 : (w1.alloc (.cells #[.int .i64 x.gen, .int .i64 x.base, .int .i64 x.size, .int .i64 x.cg, .slice a1 x.chk.length d1, .slice a2 x.log.length d2] 24)).heap.size = w1.heap.size + 1 := by simp
  have HZ2 := Lib.hid hz2; have HX2 := Lib.hid hx2; have HB2 := Lib.hid hB2; have HXS2 := Lib.hid hxs2; have HW2 := Lib.hid hw2; have HS1 := Lib.hid hs1
  have U1 := Lib.hid u1; have U2 := Lib.hid u2; have M1 := Lib.hid m1; have M2 := Lib.hid m2
  clear hb1 hB1 hs1 hz1 hz2 hx2 hB2 hxs2 hx u1 u2 m1 m2 hw2
  go_wp2_with fail
  refine (HB.out _).mono ?_
  rintro e w3 ⟨⟨b1, f1, b2, f2, rfl, hy, l1, l2, v1, v2⟩, hb3⟩
  simp only [supV]
  rw [HW2.out] at v1 v2
  have hh := HS1.out
  have hw2 := HW2.out
  have hz3 := (hb3.block w.heap.size (by omega)).trans HZ2.out
  have hx3 := (hb3.block w1.heap.size (by omega)).trans HX2.out
  have hB3 := HB2.out.trans (hb3.mono (by omega))
  have hxs3 := HXS2.out.keep hb3
  have hs3 := hb3.size
  have hz4 := (Below.heap_alloc w3 (.cells #[.int .i64 y.gen, .int .i64 y.base, .int .i64 y.size, .int .i64 y.cg, .slice b1 y.chk.length f1, .slice b2 y.log.length f2] 24) _ (by omega)).trans hz3
  have hx4 := (Below.heap_alloc w3 (.cells #[.int .i64 y.gen, .int .i64 y.base, .int .i64 y.size, .int .i64 y.cg, .slice b1 y.chk.length f1, .slice b2 y.log.length f2] 24) _ (by omega)).trans hx3
  have hy4 := heap_alloc_new w3 (.cells #[.int .i64 y.gen, .int .i64 y.base, .int .i64 y.size, .int .i64 y.cg, .slice b1 y.chk.length f1, .slice b2 y.log.length f2] 24)
  have hB4 := hB3.alloc hB3.size (.cells #[.int .i64 y.gen, .int .i64 y.base, .int .i64 y.size, .int .i64 y.cg, .slice b1 y.chk.length f1, .slice b2 y.log.length f2] 24)
  have hxs4 := hxs3.keep ((Below.refl _ w3).alloc (Nat.le_refl _) (.cells #[.int .i64 y.gen, .int .i64 y.base, .int .i64 y.size, .int .i64 y.cg, .slice b1 y.chk.length f1, .slice b2 y.log.length f2] 24))
  have hys4 := hy.keep ((Below.refl _ w3).alloc (Nat.le_refl _) (.cells #[.int .i64 y.gen, .int .i64 y.base, .int .i64 y.size, .int .i64 y.cg, .slice b1 y.chk.length f1, .slice b2 y.log.length f2] 24))
  have g1 : ∀ ad, a1 = some ad → w.heap.size < ad.block := fun ad he => by have := U1.out ad he; omega
  have g2 : ∀ ad, a2 = some ad → w.heap.size < ad.block := fun ad he => by have := U2.out ad he; omega
  have g3 : ∀ ad, b1 = some ad → w.heap.size < ad.block := fun ad he => by have := v1 ad he; omega
  have g4 : ∀ ad, b2 = some ad → w.heap.size < ad.block := fun ad he => by have := v2 ad he; omega
  obtain ⟨⟨q0, q1, q2, q3, q4, q5⟩, r0, r1, r2, r3, r4, r5⟩ := zero_cells6 hz4
  obtain ⟨p0, p1, p2, p3, p4, p5⟩ := six_cells hx4
  obtain ⟨s0, s1, s2, s3, s4, s5⟩ := six_cells hy4
  have hf := best_sup (n := 0) (er := 0) hB4 hxs4 g1 g2 M1.out M2.out
  have HRS := Lib.hid (six_cells (heap_put6 hz4 (.int .i64 x.gen) (.int .i64 x.base) (.int .i64 x.size) (.int .i64 x.cg) (.slice a1 x.chk.length d1) (.slice a2 x.log.length d2)))
  have HF := Lib.hid hf
  clear hf hz3 hx3 hB3 hxs3 hs3 hz4 hx4 hy4 hB4 hxs4 hys4 g1 g2 g3 g4 hy l1 l2 v1 v2 hb3 hh hw2 HZ2 HX2 HB2 HXS2 HW2 HS1 U1 U2 M1 M2 HA HB

  go_wp2_with fail
  refine bodyPost_ret (results_three rfl _ _ w.heap.size _ _ _ _ _ _ rfl HRS.out) rfl ?_
  exact HF.out
set_option maxHeartbeats 4000000 in
theorem rbest_right (a b : ByteArray) (x y : Sup) (w : World) (HA : Hid (∀ w, Calls Try.prog 12 #[.string a] w (SupMade w x (.int .i64 12)))) (HB : Hid (∀ w, Calls Try.prog 12 #[.string b] w (SupMade w y (.int .i64 0)))) :
    Calls Try.prog 20 #[.string a, .string b] w (BestMade w y 1 0) := by
  go_enter Try.func20, Try.ntmps20
  go_wp2_with fail
  refine (HA.out _).mono ?_
  rintro e w1 ⟨⟨a1, d1, a2, d2, rfl, hx, m1, m2, u1, u2⟩, hb1⟩
  simp only [supV]
  rw [World.size_alloc] at u1 u2 hb1
  have hB1 := ((Below.refl _ w).alloc (Nat.le_refl _) zsup).trans (hb1.mono (Nat.le_succ _))
  have hs1 := hb1.size
  rw [World.size_alloc] at hs1
  have hz1 := (hb1.block w.heap.size (Nat.lt_succ_self _)).trans (heap_alloc_new w zsup)
  have hz2 := (Below.heap_alloc w1 (.cells #[.int .i64 x.gen, .int .i64 x.base, .int .i64 x.size, .int .i64 x.cg, .slice a1 x.chk.length d1, .slice a2 x.log.length d2] 24) _ (by omega)).trans hz1
  have hx2 := heap_alloc_new w1 (.cells #[.int .i64 x.gen, .int .i64 x.base, .int .i64 x.size, .int .i64 x.cg, .slice a1 x.chk.length d1, .slice a2 x.log.length d2] 24)
  have hB2 := hB1.alloc hB1.size (.cells #[.int .i64 x.gen, .int .i64 x.base, .int .i64 x.size, .int .i64 x.cg, .slice a1 x.chk.length d1, .slice a2 x.log.length d2] 24)
  have hxs2 := hx.keep ((Below.refl _ w1).alloc (Nat.le_refl _) (.cells #[.int .i64 x.gen, .int .i64 x.base, .int .i64 x.size, .int .i64 x.cg, .slice a1 x.chk.length d1, .slice a2 x.log.length d2] 24))
  have hw2 : (w1.alloc (.cells #[.int .i64 x.gen, .int .i64 x.base, .int .i64 x.size, .int .i64 x.cg, .slice a1 x.chk.length d1, .slice a2 x.log.length d2] 24)).heap.size = w1.heap.size + 1 := by simp
  have HZ2 := Lib.hid hz2; have HX2 := Lib.hid hx2; have HB2 := Lib.hid hB2; have HXS2 := Lib.hid hxs2; have HW2 := Lib.hid hw2; have HS1 := Lib.hid hs1
  have U1 := Lib.hid u1; have U2 := Lib.hid u2; have M1 := Lib.hid m1; have M2 := Lib.hid m2
  clear hb1 hB1 hs1 hz1 hz2 hx2 hB2 hxs2 hx u1 u2 m1 m2 hw2
  go_wp2_with fail
  refine (HB.out _).mono ?_
  rintro e w3 ⟨⟨b1, f1, b2, f2, rfl, hy, l1, l2, v1, v2⟩, hb3⟩
  simp only [supV]
  rw [HW2.out] at v1 v2
  have hh := HS1.out
  have hw2 := HW2.out
  have hz3 := (hb3.block w.heap.size (by omega)).trans HZ2.out
  have hx3 := (hb3.block w1.heap.size (by omega)).trans HX2.out
  have hB3 := HB2.out.trans (hb3.mono (by omega))
  have hxs3 := HXS2.out.keep hb3
  have hs3 := hb3.size
  have hz4 := (Below.heap_alloc w3 (.cells #[.int .i64 y.gen, .int .i64 y.base, .int .i64 y.size, .int .i64 y.cg, .slice b1 y.chk.length f1, .slice b2 y.log.length f2] 24) _ (by omega)).trans hz3
  have hx4 := (Below.heap_alloc w3 (.cells #[.int .i64 y.gen, .int .i64 y.base, .int .i64 y.size, .int .i64 y.cg, .slice b1 y.chk.length f1, .slice b2 y.log.length f2] 24) _ (by omega)).trans hx3
  have hy4 := heap_alloc_new w3 (.cells #[.int .i64 y.gen, .int .i64 y.base, .int .i64 y.size, .int .i64 y.cg, .slice b1 y.chk.length f1, .slice b2 y.log.length f2] 24)
  have hB4 := hB3.alloc hB3.size (.cells #[.int .i64 y.gen, .int .i64 y.base, .int .i64 y.size, .int .i64 y.cg, .slice b1 y.chk.length f1, .slice b2 y.log.length f2] 24)
  have hxs4 := hxs3.keep ((Below.refl _ w3).alloc (Nat.le_refl _) (.cells #[.int .i64 y.gen, .int .i64 y.base, .int .i64 y.size, .int .i64 y.cg, .slice b1 y.chk.length f1, .slice b2 y.log.length f2] 24))
  have hys4 := hy.keep ((Below.refl _ w3).alloc (Nat.le_refl _) (.cells #[.int .i64 y.gen, .int .i64 y.base, .int .i64 y.size, .int .i64 y.cg, .slice b1 y.chk.length f1, .slice b2 y.log.length f2] 24))
  have g1 : ∀ ad, a1 = some ad → w.heap.size < ad.block := fun ad he => by have := U1.out ad he; omega
  have g2 : ∀ ad, a2 = some ad → w.heap.size < ad.block := fun ad he => by have := U2.out ad he; omega
  have g3 : ∀ ad, b1 = some ad → w.heap.size < ad.block := fun ad he => by have := v1 ad he; omega
  have g4 : ∀ ad, b2 = some ad → w.heap.size < ad.block := fun ad he => by have := v2 ad he; omega
  obtain ⟨⟨q0, q1, q2, q3, q4, q5⟩, r0, r1, r2, r3, r4, r5⟩ := zero_cells6 hz4
  obtain ⟨p0, p1, p2, p3, p4, p5⟩ := six_cells hx4
  obtain ⟨s0, s1, s2, s3, s4, s5⟩ := six_cells hy4
  have hf := best_sup (n := 1) (er := 0) hB4 hys4 g3 g4 l1 l2
  have HRS := Lib.hid (six_cells (heap_put6 hz4 (.int .i64 y.gen) (.int .i64 y.base) (.int .i64 y.size) (.int .i64 y.cg) (.slice b1 y.chk.length f1) (.slice b2 y.log.length f2)))
  have HF := Lib.hid hf
  clear hf hz3 hx3 hB3 hxs3 hs3 hz4 hx4 hy4 hB4 hxs4 hys4 g1 g2 g3 g4 hy l1 l2 v1 v2 hb3 hh hw2 HZ2 HX2 HB2 HXS2 HW2 HS1 U1 U2 M1 M2 HA HB

  go_wp2_with fail
  refine bodyPost_ret (results_three rfl _ _ w.heap.size _ _ _ _ _ _ rfl HRS.out) rfl ?_
  exact HF.out
set_option maxHeartbeats 4000000 in
theorem rbest_lt (a b : ByteArray) (x y : Sup) (w : World) (hg : x.gen < y.gen) (HA : Hid (∀ w, Calls Try.prog 12 #[.string a] w (SupMade w x (.int .i64 0)))) (HB : Hid (∀ w, Calls Try.prog 12 #[.string b] w (SupMade w y (.int .i64 0)))) :
    Calls Try.prog 20 #[.string a, .string b] w (BestMade w y 1 0) := by
  have tg : decide (x.gen < y.gen) = true := decide_eq_true hg
  go_enter Try.func20, Try.ntmps20
  go_wp2_with fail
  refine (HA.out _).mono ?_
  rintro e w1 ⟨⟨a1, d1, a2, d2, rfl, hx, m1, m2, u1, u2⟩, hb1⟩
  simp only [supV]
  rw [World.size_alloc] at u1 u2 hb1
  have hB1 := ((Below.refl _ w).alloc (Nat.le_refl _) zsup).trans (hb1.mono (Nat.le_succ _))
  have hs1 := hb1.size
  rw [World.size_alloc] at hs1
  have hz1 := (hb1.block w.heap.size (Nat.lt_succ_self _)).trans (heap_alloc_new w zsup)
  have hz2 := (Below.heap_alloc w1 (.cells #[.int .i64 x.gen, .int .i64 x.base, .int .i64 x.size, .int .i64 x.cg, .slice a1 x.chk.length d1, .slice a2 x.log.length d2] 24) _ (by omega)).trans hz1
  have hx2 := heap_alloc_new w1 (.cells #[.int .i64 x.gen, .int .i64 x.base, .int .i64 x.size, .int .i64 x.cg, .slice a1 x.chk.length d1, .slice a2 x.log.length d2] 24)
  have hB2 := hB1.alloc hB1.size (.cells #[.int .i64 x.gen, .int .i64 x.base, .int .i64 x.size, .int .i64 x.cg, .slice a1 x.chk.length d1, .slice a2 x.log.length d2] 24)
  have hxs2 := hx.keep ((Below.refl _ w1).alloc (Nat.le_refl _) (.cells #[.int .i64 x.gen, .int .i64 x.base, .int .i64 x.size, .int .i64 x.cg, .slice a1 x.chk.length d1, .slice a2 x.log.length d2] 24))
  have hw2 : (w1.alloc (.cells #[.int .i64 x.gen, .int .i64 x.base, .int .i64 x.size, .int .i64 x.cg, .slice a1 x.chk.length d1, .slice a2 x.log.length d2] 24)).heap.size = w1.heap.size + 1 := by simp
  have HZ2 := Lib.hid hz2; have HX2 := Lib.hid hx2; have HB2 := Lib.hid hB2; have HXS2 := Lib.hid hxs2; have HW2 := Lib.hid hw2; have HS1 := Lib.hid hs1
  have U1 := Lib.hid u1; have U2 := Lib.hid u2; have M1 := Lib.hid m1; have M2 := Lib.hid m2
  clear hb1 hB1 hs1 hz1 hz2 hx2 hB2 hxs2 hx u1 u2 m1 m2 hw2
  go_wp2_with fail
  refine (HB.out _).mono ?_
  rintro e w3 ⟨⟨b1, f1, b2, f2, rfl, hy, l1, l2, v1, v2⟩, hb3⟩
  simp only [supV]
  rw [HW2.out] at v1 v2
  have hh := HS1.out
  have hw2 := HW2.out
  have hz3 := (hb3.block w.heap.size (by omega)).trans HZ2.out
  have hx3 := (hb3.block w1.heap.size (by omega)).trans HX2.out
  have hB3 := HB2.out.trans (hb3.mono (by omega))
  have hxs3 := HXS2.out.keep hb3
  have hs3 := hb3.size
  have hz4 := (Below.heap_alloc w3 (.cells #[.int .i64 y.gen, .int .i64 y.base, .int .i64 y.size, .int .i64 y.cg, .slice b1 y.chk.length f1, .slice b2 y.log.length f2] 24) _ (by omega)).trans hz3
  have hx4 := (Below.heap_alloc w3 (.cells #[.int .i64 y.gen, .int .i64 y.base, .int .i64 y.size, .int .i64 y.cg, .slice b1 y.chk.length f1, .slice b2 y.log.length f2] 24) _ (by omega)).trans hx3
  have hy4 := heap_alloc_new w3 (.cells #[.int .i64 y.gen, .int .i64 y.base, .int .i64 y.size, .int .i64 y.cg, .slice b1 y.chk.length f1, .slice b2 y.log.length f2] 24)
  have hB4 := hB3.alloc hB3.size (.cells #[.int .i64 y.gen, .int .i64 y.base, .int .i64 y.size, .int .i64 y.cg, .slice b1 y.chk.length f1, .slice b2 y.log.length f2] 24)
  have hxs4 := hxs3.keep ((Below.refl _ w3).alloc (Nat.le_refl _) (.cells #[.int .i64 y.gen, .int .i64 y.base, .int .i64 y.size, .int .i64 y.cg, .slice b1 y.chk.length f1, .slice b2 y.log.length f2] 24))
  have hys4 := hy.keep ((Below.refl _ w3).alloc (Nat.le_refl _) (.cells #[.int .i64 y.gen, .int .i64 y.base, .int .i64 y.size, .int .i64 y.cg, .slice b1 y.chk.length f1, .slice b2 y.log.length f2] 24))
  have g1 : ∀ ad, a1 = some ad → w.heap.size < ad.block := fun ad he => by have := U1.out ad he; omega
  have g2 : ∀ ad, a2 = some ad → w.heap.size < ad.block := fun ad he => by have := U2.out ad he; omega
  have g3 : ∀ ad, b1 = some ad → w.heap.size < ad.block := fun ad he => by have := v1 ad he; omega
  have g4 : ∀ ad, b2 = some ad → w.heap.size < ad.block := fun ad he => by have := v2 ad he; omega
  obtain ⟨⟨q0, q1, q2, q3, q4, q5⟩, r0, r1, r2, r3, r4, r5⟩ := zero_cells6 hz4
  obtain ⟨p0, p1, p2, p3, p4, p5⟩ := six_cells hx4
  obtain ⟨s0, s1, s2, s3, s4, s5⟩ := six_cells hy4
  have hf := best_sup (n := 1) (er := 0) hB4 hys4 g3 g4 l1 l2
  have HRS := Lib.hid (six_cells (heap_put6 hz4 (.int .i64 y.gen) (.int .i64 y.base) (.int .i64 y.size) (.int .i64 y.cg) (.slice b1 y.chk.length f1) (.slice b2 y.log.length f2)))
  have HF := Lib.hid hf
  clear hf hz3 hx3 hB3 hxs3 hs3 hz4 hx4 hy4 hB4 hxs4 hys4 g1 g2 g3 g4 hy l1 l2 v1 v2 hb3 hh hw2 HZ2 HX2 HB2 HXS2 HW2 HS1 U1 U2 M1 M2 HA HB

  go_wp2_with fail
  refine bodyPost_ret (results_three rfl _ _ w.heap.size _ _ _ _ _ _ rfl HRS.out) rfl ?_
  exact HF.out
set_option maxHeartbeats 4000000 in
theorem rbest_ge (a b : ByteArray) (x y : Sup) (w : World) (hg : ¬ x.gen < y.gen) (HA : Hid (∀ w, Calls Try.prog 12 #[.string a] w (SupMade w x (.int .i64 0)))) (HB : Hid (∀ w, Calls Try.prog 12 #[.string b] w (SupMade w y (.int .i64 0)))) :
    Calls Try.prog 20 #[.string a, .string b] w (BestMade w x 0 0) := by
  have tg : decide (x.gen < y.gen) = false := decide_eq_false hg
  go_enter Try.func20, Try.ntmps20
  go_wp2_with fail
  refine (HA.out _).mono ?_
  rintro e w1 ⟨⟨a1, d1, a2, d2, rfl, hx, m1, m2, u1, u2⟩, hb1⟩
  simp only [supV]
  rw [World.size_alloc] at u1 u2 hb1
  have hB1 := ((Below.refl _ w).alloc (Nat.le_refl _) zsup).trans (hb1.mono (Nat.le_succ _))
  have hs1 := hb1.size
  rw [World.size_alloc] at hs1
  have hz1 := (hb1.block w.heap.size (Nat.lt_succ_self _)).trans (heap_alloc_new w zsup)
  have hz2 := (Below.heap_alloc w1 (.cells #[.int .i64 x.gen, .int .i64 x.base, .int .i64 x.size, .int .i64 x.cg, .slice a1 x.chk.length d1, .slice a2 x.log.length d2] 24) _ (by omega)).trans hz1
  have hx2 := heap_alloc_new w1 (.cells #[.int .i64 x.gen, .int .i64 x.base, .int .i64 x.size, .int .i64 x.cg, .slice a1 x.chk.length d1, .slice a2 x.log.length d2] 24)
  have hB2 := hB1.alloc hB1.size (.cells #[.int .i64 x.gen, .int .i64 x.base, .int .i64 x.size, .int .i64 x.cg, .slice a1 x.chk.length d1, .slice a2 x.log.length d2] 24)
  have hxs2 := hx.keep ((Below.refl _ w1).alloc (Nat.le_refl _) (.cells #[.int .i64 x.gen, .int .i64 x.base, .int .i64 x.size, .int .i64 x.cg, .slice a1 x.chk.length d1, .slice a2 x.log.length d2] 24))
  have hw2 : (w1.alloc (.cells #[.int .i64 x.gen, .int .i64 x.base, .int .i64 x.size, .int .i64 x.cg, .slice a1 x.chk.length d1, .slice a2 x.log.length d2] 24)).heap.size = w1.heap.size + 1 := by simp
  have HZ2 := Lib.hid hz2; have HX2 := Lib.hid hx2; have HB2 := Lib.hid hB2; have HXS2 := Lib.hid hxs2; have HW2 := Lib.hid hw2; have HS1 := Lib.hid hs1
  have U1 := Lib.hid u1; have U2 := Lib.hid u2; have M1 := Lib.hid m1; have M2 := Lib.hid m2
  clear hb1 hB1 hs1 hz1 hz2 hx2 hB2 hxs2 hx u1 u2 m1 m2 hw2
  go_wp2_with fail
  refine (HB.out _).mono ?_
  rintro e w3 ⟨⟨b1, f1, b2, f2, rfl, hy, l1, l2, v1, v2⟩, hb3⟩
  simp only [supV]
  rw [HW2.out] at v1 v2
  have hh := HS1.out
  have hw2 := HW2.out
  have hz3 := (hb3.block w.heap.size (by omega)).trans HZ2.out
  have hx3 := (hb3.block w1.heap.size (by omega)).trans HX2.out
  have hB3 := HB2.out.trans (hb3.mono (by omega))
  have hxs3 := HXS2.out.keep hb3
  have hs3 := hb3.size
  have hz4 := (Below.heap_alloc w3 (.cells #[.int .i64 y.gen, .int .i64 y.base, .int .i64 y.size, .int .i64 y.cg, .slice b1 y.chk.length f1, .slice b2 y.log.length f2] 24) _ (by omega)).trans hz3
  have hx4 := (Below.heap_alloc w3 (.cells #[.int .i64 y.gen, .int .i64 y.base, .int .i64 y.size, .int .i64 y.cg, .slice b1 y.chk.length f1, .slice b2 y.log.length f2] 24) _ (by omega)).trans hx3
  have hy4 := heap_alloc_new w3 (.cells #[.int .i64 y.gen, .int .i64 y.base, .int .i64 y.size, .int .i64 y.cg, .slice b1 y.chk.length f1, .slice b2 y.log.length f2] 24)
  have hB4 := hB3.alloc hB3.size (.cells #[.int .i64 y.gen, .int .i64 y.base, .int .i64 y.size, .int .i64 y.cg, .slice b1 y.chk.length f1, .slice b2 y.log.length f2] 24)
  have hxs4 := hxs3.keep ((Below.refl _ w3).alloc (Nat.le_refl _) (.cells #[.int .i64 y.gen, .int .i64 y.base, .int .i64 y.size, .int .i64 y.cg, .slice b1 y.chk.length f1, .slice b2 y.log.length f2] 24))
  have hys4 := hy.keep ((Below.refl _ w3).alloc (Nat.le_refl _) (.cells #[.int .i64 y.gen, .int .i64 y.base, .int .i64 y.size, .int .i64 y.cg, .slice b1 y.chk.length f1, .slice b2 y.log.length f2] 24))
  have g1 : ∀ ad, a1 = some ad → w.heap.size < ad.block := fun ad he => by have := U1.out ad he; omega
  have g2 : ∀ ad, a2 = some ad → w.heap.size < ad.block := fun ad he => by have := U2.out ad he; omega
  have g3 : ∀ ad, b1 = some ad → w.heap.size < ad.block := fun ad he => by have := v1 ad he; omega
  have g4 : ∀ ad, b2 = some ad → w.heap.size < ad.block := fun ad he => by have := v2 ad he; omega
  obtain ⟨⟨q0, q1, q2, q3, q4, q5⟩, r0, r1, r2, r3, r4, r5⟩ := zero_cells6 hz4
  obtain ⟨p0, p1, p2, p3, p4, p5⟩ := six_cells hx4
  obtain ⟨s0, s1, s2, s3, s4, s5⟩ := six_cells hy4
  have hf := best_sup (n := 0) (er := 0) hB4 hxs4 g1 g2 M1.out M2.out
  have HRS := Lib.hid (six_cells (heap_put6 hz4 (.int .i64 x.gen) (.int .i64 x.base) (.int .i64 x.size) (.int .i64 x.cg) (.slice a1 x.chk.length d1) (.slice a2 x.log.length d2)))
  have HF := Lib.hid hf
  clear hf hz3 hx3 hB3 hxs3 hs3 hz4 hx4 hy4 hB4 hxs4 hys4 g1 g2 g3 g4 hy l1 l2 v1 v2 hb3 hh hw2 HZ2 HX2 HB2 HXS2 HW2 HS1 U1 U2 M1 M2 HA HB

  go_wp2_with fail
  refine bodyPost_ret (results_three rfl _ _ w.heap.size _ _ _ _ _ _ rfl HRS.out) rfl ?_
  exact HF.out
theorem rbest_any (a b : ByteArray) (w : World) (ha : a.size ≤ 1000000) (hb : b.size ≤ 1000000) :
    Calls Try.prog 20 #[.string a, .string b] w (BestMade w (bestY a.data.toList b.data.toList) (bestN a.data.toList b.data.toList) (bestE a.data.toList b.data.toList)) := by
  have hA := fun w => rdecode_any a w ha
  have hB := fun w => rdecode_any b w hb
  rcases h1 : dec a.data.toList with _ | x
  · rw [(dec_no h1).1, (dec_no h1).2] at hA
    rcases h2 : dec b.data.toList with _ | y
    · rw [(dec_no h2).1, (dec_no h2).2] at hB
      obtain ⟨e1, e2, e3⟩ := best_is (best_none h1 h2)
      rw [e1, e2, e3]
      exact rbest_none a b zeroSup zeroSup w (Lib.hid hA) (Lib.hid hB)
    · rw [(dec_yes h2).1, (dec_yes h2).2] at hB
      obtain ⟨e1, e2, e3⟩ := best_is (best_right h1 h2)
      rw [e1, e2, e3]
      exact rbest_right a b zeroSup y w (Lib.hid hA) (Lib.hid hB)
  · rw [(dec_yes h1).1, (dec_yes h1).2] at hA
    rcases h2 : dec b.data.toList with _ | y
    · rw [(dec_no h2).1, (dec_no h2).2] at hB
      obtain ⟨e1, e2, e3⟩ := best_is (best_left h1 h2)
      rw [e1, e2, e3]
      exact rbest_left a b x zeroSup w (Lib.hid hA) (Lib.hid hB)
    · rw [(dec_yes h2).1, (dec_yes h2).2] at hB
      have hbo := best_both h1 h2
      by_cases hg : x.gen < y.gen
      · rw [if_pos hg] at hbo
        obtain ⟨e1, e2, e3⟩ := best_is hbo
        rw [e1, e2, e3]
        exact rbest_lt a b x y w hg (Lib.hid hA) (Lib.hid hB)
      · rw [if_neg hg] at hbo
        obtain ⟨e1, e2, e3⟩ := best_is hbo
        rw [e1, e2, e3]
        exact rbest_ge a b x y w hg (Lib.hid hA) (Lib.hid hB)
end Go.Proofs.Ytigiaiddnbpcmaa
