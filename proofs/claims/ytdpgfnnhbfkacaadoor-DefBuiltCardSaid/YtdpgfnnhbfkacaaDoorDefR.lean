/-
  The contract of the document's Built; what was there stays as it was.
-/
import Derived.Test.YtdpgfnnhbfkacaaDoorDefFr
set_option linter.unusedVariables false
set_option linter.unusedSimpArgs false
set_option maxRecDepth 4000
namespace Go.Proofs.YtdpgfnnhbfkacaaDoor.Def
open Go.RowKit DefP
open Go.Proofs.YtdpgfnnhbfkacaaDoor.Kt

theorem results_s1 {fn : Func} {j : Nat} (h : fn.results = #[.cell j 29]) (tmps : Array Value) (w : World) (b : Nat) (v0 v1 v2 v3 v4 v5 : Value) (hp : tmps.getD j undef = .pointer (some ⟨b, 0, none⟩))
    (c : At6 29 w b v0 v1 v2 v3 v4 v5) : (results fn tmps).run Tryd.prog w = .ok (.agg #[v0, v1, v2, v3, v4, v5]) w := by
  have hp' : tmps[j]?.getD undef = .pointer (some ⟨b, 0, none⟩) := by rw [← hp]; simp
  obtain ⟨c0, c1, c2, c3, c4, c5⟩ := cells6 c
  simp only [results, h]
  go_simp
theorem of_any (x0 x1 x2 x3 x4 x5 : Int) (w : World) : Calls Tryd.prog 36 #[.int .i64 x0, .int .i64 x1, .int .i64 x2, .int .i64 x3, .int .i64 x4, .int .i64 x5] w fun e w' => e = .returned (.agg #[.int .i64 x0, .int .i64 x1, .int .i64 x2, .int .i64 x3, .int .i64 x4, .int .i64 x5]) ∧ Below w.heap.size w w' := by
  have h0 := at6_new 29 w (.int .i64 0) (.int .i64 0) (.int .i64 0) (.int .i64 0) (.int .i64 0) (.int .i64 0)
  obtain ⟨z0, z1, z2, z3, z4, z5⟩ := cells6 h0
  obtain ⟨f0, f1, f2, f3, f4, f5⟩ := free6 h0
  have HRS := Lib.hid (heap_put6 h0 (.int .i64 x0) (.int .i64 x1) (.int .i64 x2) (.int .i64 x3) (.int .i64 x4) (.int .i64 x5))
  have HB := Lib.hid (below_put6 ((Below.refl _ w).alloc (Nat.le_refl _) (.cells #[.int .i64 0, .int .i64 0, .int .i64 0, .int .i64 0, .int .i64 0, .int .i64 0] 29)) (Nat.le_refl _) (.int .i64 x0) (.int .i64 x1) (.int .i64 x2) (.int .i64 x3) (.int .i64 x4) (.int .i64 x5))
  have HR2 := Lib.hid (at6_new 29 w (.int .i64 x0) (.int .i64 x1) (.int .i64 x2) (.int .i64 x3) (.int .i64 x4) (.int .i64 x5))
  have HB2 := Lib.hid ((Below.refl _ w).alloc (Nat.le_refl _) (.cells #[.int .i64 x0, .int .i64 x1, .int .i64 x2, .int .i64 x3, .int .i64 x4, .int .i64 x5] 29))
  clear h0
  go_enter Tryd.func36, Tryd.ntmps36
  go_wp2_with fail
  first
    | exact bodyPost_ret (results_s1 (j := 12) rfl _ _ w.heap.size _ _ _ _ _ _ rfl HR2.out) rfl ⟨rfl, HB2.out⟩
    | exact bodyPost_ret (results_s1 (j := 12) rfl _ _ w.heap.size _ _ _ _ _ _ rfl HRS.out) rfl ⟨rfl, HB.out⟩
theorem st_block (w : World) (l : List Step) (cs : Array Value) (h : (Rw.cells stS l).toArray = cs) (n : Nat) (hn : l.length = n) (hs : n ≤ 100) : StAt (w.alloc (.cells cs 29)) (some ⟨w.heap.size, 0, none⟩) n l := by
  subst h
  refine ⟨hn, by omega, .inr ⟨w.heap.size, 0, rfl, by rw [World.size_alloc]; omega, fun j u hu => ?_⟩⟩
  rw [Nat.zero_add, World.cell?_alloc_new]
  simpa using hu

set_option maxHeartbeats 8000000 in
theorem rbuilt_any (w : World) : Calls Tryd.prog 10 #[] w (BuiltR w) := by
  have HB0 : Hid (Below w.heap.size w w) := Below.refl _ _
  go_enter Tryd.func10, Tryd.ntmps10
  go_wp2_with fail
  refine (of_any 1 1 0 1 1 40 w).mono ?_
  rintro e w1 ⟨rfl, hb⟩
  have HB1 := Lib.hid (below_keep HB0.out hb HB0.out.size)
  clear hb
  go_wp2_with fail
  refine (of_any 2 1 3 1 8 30 w1).mono ?_
  rintro e w2 ⟨rfl, hb⟩
  have HB2 := Lib.hid (below_keep HB1.out hb HB1.out.size)
  clear hb
  go_wp2_with fail
  refine (of_any 3 1 0 1 1 0 w2).mono ?_
  rintro e w3 ⟨rfl, hb⟩
  have HB3 := Lib.hid (below_keep HB2.out hb HB2.out.size)
  clear hb
  go_wp2_with fail
  refine (of_any 4 2 3 1 8 0 w3).mono ?_
  rintro e w4 ⟨rfl, hb⟩
  have HB4 := Lib.hid (below_keep HB3.out hb HB3.out.size)
  clear hb
  go_wp2_with fail
  refine (of_any 5 3 0 1 1 0 w4).mono ?_
  rintro e w5 ⟨rfl, hb⟩
  have HB5 := Lib.hid (below_keep HB4.out hb HB4.out.size)
  clear hb
  go_wp2_with fail
  refine (of_any 6 3 5 1 8 0 w5).mono ?_
  rintro e w6 ⟨rfl, hb⟩
  have HB6 := Lib.hid (below_keep HB5.out hb HB5.out.size)
  clear hb
  have Sfulfil := Lib.hid (st_block w6 fulfilS _ rfl 6 rfl (by omega))
  have hba := (Below.refl w6.heap.size w6).alloc (Nat.le_refl _) (.cells #[.int .i64 1, .int .i64 1, .int .i64 0, .int .i64 1, .int .i64 1, .int .i64 40, .int .i64 2, .int .i64 1, .int .i64 3, .int .i64 1, .int .i64 8, .int .i64 30, .int .i64 3, .int .i64 1, .int .i64 0, .int .i64 1, .int .i64 1, .int .i64 0, .int .i64 4, .int .i64 2, .int .i64 3, .int .i64 1, .int .i64 8, .int .i64 0, .int .i64 5, .int .i64 3, .int .i64 0, .int .i64 1, .int .i64 1, .int .i64 0, .int .i64 6, .int .i64 3, .int .i64 5, .int .i64 1, .int .i64 8, .int .i64 0] 29)
  have HBX := Lib.hid (below_keep HB6.out hba HB6.out.size)
  obtain ⟨u6, hu⟩ : ∃ u, w6.alloc (.cells #[.int .i64 1, .int .i64 1, .int .i64 0, .int .i64 1, .int .i64 1, .int .i64 40, .int .i64 2, .int .i64 1, .int .i64 3, .int .i64 1, .int .i64 8, .int .i64 30, .int .i64 3, .int .i64 1, .int .i64 0, .int .i64 1, .int .i64 1, .int .i64 0, .int .i64 4, .int .i64 2, .int .i64 3, .int .i64 1, .int .i64 8, .int .i64 0, .int .i64 5, .int .i64 3, .int .i64 0, .int .i64 1, .int .i64 1, .int .i64 0, .int .i64 6, .int .i64 3, .int .i64 5, .int .i64 1, .int .i64 8, .int .i64 0] 29) = u := ⟨_, rfl⟩
  obtain ⟨gfulfil, hg⟩ : ∃ g, w6.heap.size = g := ⟨_, rfl⟩
  have Sfulfil : Hid (StAt (w6.alloc (.cells #[.int .i64 1, .int .i64 1, .int .i64 0, .int .i64 1, .int .i64 1, .int .i64 40, .int .i64 2, .int .i64 1, .int .i64 3, .int .i64 1, .int .i64 8, .int .i64 30, .int .i64 3, .int .i64 1, .int .i64 0, .int .i64 1, .int .i64 1, .int .i64 0, .int .i64 4, .int .i64 2, .int .i64 3, .int .i64 1, .int .i64 8, .int .i64 0, .int .i64 5, .int .i64 3, .int .i64 0, .int .i64 1, .int .i64 1, .int .i64 0, .int .i64 6, .int .i64 3, .int .i64 5, .int .i64 1, .int .i64 8, .int .i64 0] 29)) (some ⟨w6.heap.size, 0, none⟩) 6 fulfilS) := Sfulfil
  rw [hu, hg] at Sfulfil
  rw [hu] at HBX
  have HUfulfil := Lib.hid hu
  have HGfulfil := Lib.hid hg
  clear hba hu hg
  go_wp2_with fail
  rw [show w6.alloc (.cells #[.int .i64 1, .int .i64 1, .int .i64 0, .int .i64 1, .int .i64 1, .int .i64 40, .int .i64 2, .int .i64 1, .int .i64 3, .int .i64 1, .int .i64 8, .int .i64 30, .int .i64 3, .int .i64 1, .int .i64 0, .int .i64 1, .int .i64 1, .int .i64 0, .int .i64 4, .int .i64 2, .int .i64 3, .int .i64 1, .int .i64 8, .int .i64 0, .int .i64 5, .int .i64 3, .int .i64 0, .int .i64 1, .int .i64 1, .int .i64 0, .int .i64 6, .int .i64 3, .int .i64 5, .int .i64 1, .int .i64 8, .int .i64 0] 29) = u6 from HUfulfil.out, show w6.heap.size = gfulfil from HGfulfil.out]
  refine (of_any 1 1 0 1 1 20 u6).mono ?_
  rintro e w7 ⟨rfl, hb⟩
  have HB7 := Lib.hid (below_keep HBX.out hb HBX.out.size)
  have Sfulfil := Lib.hid (Sfulfil.out.keep hb)
  clear hb
  go_wp2_with fail
  refine (of_any 2 1 2 1 4 20 w7).mono ?_
  rintro e w8 ⟨rfl, hb⟩
  have HB8 := Lib.hid (below_keep HB7.out hb HB7.out.size)
  have Sfulfil := Lib.hid (Sfulfil.out.keep hb)
  clear hb
  go_wp2_with fail
  refine (of_any 3 1 0 1 1 0 w8).mono ?_
  rintro e w9 ⟨rfl, hb⟩
  have HB9 := Lib.hid (below_keep HB8.out hb HB8.out.size)
  have Sfulfil := Lib.hid (Sfulfil.out.keep hb)
  clear hb
  go_wp2_with fail
  refine (of_any 6 2 2 1 4 0 w9).mono ?_
  rintro e w10 ⟨rfl, hb⟩
  have HB10 := Lib.hid (below_keep HB9.out hb HB9.out.size)
  have Sfulfil := Lib.hid (Sfulfil.out.keep hb)
  clear hb
  go_wp2_with fail
  refine (of_any 5 3 0 1 1 0 w10).mono ?_
  rintro e w11 ⟨rfl, hb⟩
  have HB11 := Lib.hid (below_keep HB10.out hb HB10.out.size)
  have Sfulfil := Lib.hid (Sfulfil.out.keep hb)
  clear hb
  have Spickup := Lib.hid (st_block w11 pickupS _ rfl 5 rfl (by omega))
  have hba := (Below.refl w11.heap.size w11).alloc (Nat.le_refl _) (.cells #[.int .i64 1, .int .i64 1, .int .i64 0, .int .i64 1, .int .i64 1, .int .i64 20, .int .i64 2, .int .i64 1, .int .i64 2, .int .i64 1, .int .i64 4, .int .i64 20, .int .i64 3, .int .i64 1, .int .i64 0, .int .i64 1, .int .i64 1, .int .i64 0, .int .i64 6, .int .i64 2, .int .i64 2, .int .i64 1, .int .i64 4, .int .i64 0, .int .i64 5, .int .i64 3, .int .i64 0, .int .i64 1, .int .i64 1, .int .i64 0] 29)
  have HBX := Lib.hid (below_keep HB11.out hba HB11.out.size)
  have Sfulfil := Lib.hid (Sfulfil.out.keep hba)
  obtain ⟨u11, hu⟩ : ∃ u, w11.alloc (.cells #[.int .i64 1, .int .i64 1, .int .i64 0, .int .i64 1, .int .i64 1, .int .i64 20, .int .i64 2, .int .i64 1, .int .i64 2, .int .i64 1, .int .i64 4, .int .i64 20, .int .i64 3, .int .i64 1, .int .i64 0, .int .i64 1, .int .i64 1, .int .i64 0, .int .i64 6, .int .i64 2, .int .i64 2, .int .i64 1, .int .i64 4, .int .i64 0, .int .i64 5, .int .i64 3, .int .i64 0, .int .i64 1, .int .i64 1, .int .i64 0] 29) = u := ⟨_, rfl⟩
  obtain ⟨gpickup, hg⟩ : ∃ g, w11.heap.size = g := ⟨_, rfl⟩
  have Spickup : Hid (StAt (w11.alloc (.cells #[.int .i64 1, .int .i64 1, .int .i64 0, .int .i64 1, .int .i64 1, .int .i64 20, .int .i64 2, .int .i64 1, .int .i64 2, .int .i64 1, .int .i64 4, .int .i64 20, .int .i64 3, .int .i64 1, .int .i64 0, .int .i64 1, .int .i64 1, .int .i64 0, .int .i64 6, .int .i64 2, .int .i64 2, .int .i64 1, .int .i64 4, .int .i64 0, .int .i64 5, .int .i64 3, .int .i64 0, .int .i64 1, .int .i64 1, .int .i64 0] 29)) (some ⟨w11.heap.size, 0, none⟩) 5 pickupS) := Spickup
  rw [hu, hg] at Spickup
  rw [hu] at HBX Sfulfil
  have HUpickup := Lib.hid hu
  have HGpickup := Lib.hid hg
  clear hba hu hg
  go_wp2_with fail
  rw [show w11.alloc (.cells #[.int .i64 1, .int .i64 1, .int .i64 0, .int .i64 1, .int .i64 1, .int .i64 20, .int .i64 2, .int .i64 1, .int .i64 2, .int .i64 1, .int .i64 4, .int .i64 20, .int .i64 3, .int .i64 1, .int .i64 0, .int .i64 1, .int .i64 1, .int .i64 0, .int .i64 6, .int .i64 2, .int .i64 2, .int .i64 1, .int .i64 4, .int .i64 0, .int .i64 5, .int .i64 3, .int .i64 0, .int .i64 1, .int .i64 1, .int .i64 0] 29) = u11 from HUpickup.out, show w11.heap.size = gpickup from HGpickup.out]
  refine (of_any 2 1 3 2 8 0 u11).mono ?_
  rintro e w12 ⟨rfl, hb⟩
  have HB12 := Lib.hid (below_keep HBX.out hb HBX.out.size)
  have Sfulfil := Lib.hid (Sfulfil.out.keep hb)
  have Spickup := Lib.hid (Spickup.out.keep hb)
  clear hb
  go_wp2_with fail
  refine (of_any 6 1 3 2 8 0 w12).mono ?_
  rintro e w13 ⟨rfl, hb⟩
  have HB13 := Lib.hid (below_keep HB12.out hb HB12.out.size)
  have Sfulfil := Lib.hid (Sfulfil.out.keep hb)
  have Spickup := Lib.hid (Spickup.out.keep hb)
  clear hb
  go_wp2_with fail
  refine (of_any 4 1 3 1 4 50 w13).mono ?_
  rintro e w14 ⟨rfl, hb⟩
  have HB14 := Lib.hid (below_keep HB13.out hb HB13.out.size)
  have Sfulfil := Lib.hid (Sfulfil.out.keep hb)
  have Spickup := Lib.hid (Spickup.out.keep hb)
  clear hb
  have hba := (Below.refl w14.heap.size w14).alloc (Nat.le_refl _) (.cells #[.int .i64 2, .int .i64 1, .int .i64 3, .int .i64 2, .int .i64 8, .int .i64 0, .int .i64 6, .int .i64 1, .int .i64 3, .int .i64 2, .int .i64 8, .int .i64 0, .int .i64 4, .int .i64 1, .int .i64 3, .int .i64 1, .int .i64 4, .int .i64 50] 29)
  have hbb := (Below.refl (w14.alloc (.cells #[.int .i64 2, .int .i64 1, .int .i64 3, .int .i64 2, .int .i64 8, .int .i64 0, .int .i64 6, .int .i64 1, .int .i64 3, .int .i64 2, .int .i64 8, .int .i64 0, .int .i64 4, .int .i64 1, .int .i64 3, .int .i64 1, .int .i64 4, .int .i64 50] 29)).heap.size (w14.alloc (.cells #[.int .i64 2, .int .i64 1, .int .i64 3, .int .i64 2, .int .i64 8, .int .i64 0, .int .i64 6, .int .i64 1, .int .i64 3, .int .i64 2, .int .i64 8, .int .i64 0, .int .i64 4, .int .i64 1, .int .i64 3, .int .i64 1, .int .i64 4, .int .i64 50] 29))).alloc (Nat.le_refl _) (.cells #[.string ⟨#[102, 117, 108, 102, 105, 108]⟩, .slice (some ⟨gfulfil, 0, none⟩) 6 6, .string ⟨#[112, 105, 99, 107, 117, 112]⟩, .slice (some ⟨gpickup, 0, none⟩) 5 5, .string ⟨#[112, 114, 101, 112, 97, 105, 100]⟩, .slice (some ⟨w14.heap.size, 0, none⟩) 3 3] 24)
  have Sprepaid : StAt (w14.alloc (.cells #[.int .i64 2, .int .i64 1, .int .i64 3, .int .i64 2, .int .i64 8, .int .i64 0, .int .i64 6, .int .i64 1, .int .i64 3, .int .i64 2, .int .i64 8, .int .i64 0, .int .i64 4, .int .i64 1, .int .i64 3, .int .i64 1, .int .i64 4, .int .i64 50] 29)) (some ⟨w14.heap.size, 0, none⟩) 3 prepaidS := st_block w14 prepaidS _ rfl 3 rfl (by omega)
  have HE : Hid (BuiltR w (.returned (.slice (some ⟨w14.heap.size + 1, 0, none⟩) 3 3)) ((w14.alloc (.cells #[.int .i64 2, .int .i64 1, .int .i64 3, .int .i64 2, .int .i64 8, .int .i64 0, .int .i64 6, .int .i64 1, .int .i64 3, .int .i64 2, .int .i64 8, .int .i64 0, .int .i64 4, .int .i64 1, .int .i64 3, .int .i64 1, .int .i64 4, .int .i64 50] 29)).alloc (.cells #[.string ⟨#[102, 117, 108, 102, 105, 108]⟩, .slice (some ⟨gfulfil, 0, none⟩) 6 6, .string ⟨#[112, 105, 99, 107, 117, 112]⟩, .slice (some ⟨gpickup, 0, none⟩) 5 5, .string ⟨#[112, 114, 101, 112, 97, 105, 100]⟩, .slice (some ⟨w14.heap.size, 0, none⟩) 3 3] 24))) := by
    refine ⟨w14.heap.size + 1, 3, ⟨fulfilB, some ⟨gfulfil, 0, none⟩, 6, 6⟩, ⟨pickupB, some ⟨gpickup, 0, none⟩, 5, 5⟩, ⟨prepaidB, some ⟨w14.heap.size, 0, none⟩, 3, 3⟩, rfl, Nat.le_refl _, ⟨by rw [World.size_alloc, World.size_alloc]; omega, fun j u hu => ?_, ⟨rfl, rfl, Nat.le_refl _, (Sfulfil.out.keep hba).keep hbb, _, rfl⟩, ⟨rfl, rfl, Nat.le_refl _, (Spickup.out.keep hba).keep hbb, _, rfl⟩, ⟨rfl, rfl, Nat.le_refl _, Sprepaid.keep hbb, _, rfl⟩⟩, ?_⟩
    · have h2 := World.cell?_alloc_new (w14.alloc (.cells #[.int .i64 2, .int .i64 1, .int .i64 3, .int .i64 2, .int .i64 8, .int .i64 0, .int .i64 6, .int .i64 1, .int .i64 3, .int .i64 2, .int .i64 8, .int .i64 0, .int .i64 4, .int .i64 1, .int .i64 3, .int .i64 1, .int .i64 4, .int .i64 50] 29)) #[.string ⟨#[102, 117, 108, 102, 105, 108]⟩, .slice (some ⟨gfulfil, 0, none⟩) 6 6, .string ⟨#[112, 105, 99, 107, 117, 112]⟩, .slice (some ⟨gpickup, 0, none⟩) 5 5, .string ⟨#[112, 114, 101, 112, 97, 105, 100]⟩, .slice (some ⟨w14.heap.size, 0, none⟩) 3 3] 24 j
      rw [World.size_alloc] at h2
      rw [h2, ← hu]
      simp [Rw.cells, dvS, dcell, fulfilB, pickupB, prepaidB]
    · exact below_keep (below_keep HB14.out hba HB14.out.size) hbb (below_keep HB14.out hba HB14.out.size).size
  clear hba hbb Sprepaid
  go_wp2_with fail
  go_ret
  exact HE.out
end Go.Proofs.YtdpgfnnhbfkacaaDoor.Def
