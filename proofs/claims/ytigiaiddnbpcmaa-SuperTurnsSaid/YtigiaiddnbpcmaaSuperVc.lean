/-
  The contract of SuperTurns in the frame's form: it returns true; what was there stays as it was; nothing is asked.
-/
import Derived.Test.YtigiaiddnbpcmaaSuperV
import Derived.Laws.IdiomArrays
set_option linter.unusedVariables false
namespace Go.Proofs.Ytigiaiddnbpcmaa
open Go.RowKit SuperP
theorem cells_tears : Try.prog.cellsOf 39 = 4 := by kernel_rfl
theorem array_wide {P : Program} {w : World} {r : Reach} {b0 n : Nat} {t e : TypeId} {v : Value} (ht : P.underlying t = some (.array n e)) (h : Value.okWide P w r b0 t v) : ∃ cs, v = .agg cs ∧ cs.size = P.cellsOf t := by
  simp only [Value.okWide, ht] at h
  obtain ⟨cs, h1, h2, _⟩ := h
  exact ⟨cs, h1, h2⟩
theorem four_of {cs : Array Value} (h : cs.size = 4) : ∃ c0 c1 c2 c3, cs = #[c0, c1, c2, c3] := by
  obtain ⟨l⟩ := cs
  match l, h with
  | [c0, c1, c2, c3], _ => exact ⟨c0, c1, c2, c3, rfl⟩
theorem openArr {H : Type} {enc : TypeId × Value → H} {W : World} {r : Reach} {b0 base : Nat} {spare : Nat → Bool} {held : Bool} {v : Value} {d : DataW H} {p : List MemPlace}
    (hv : Value.okWide Try.prog W r b0 39 v) (h : DataW.Trod enc Try.prog W base spare held 39 v d p) : ∃ t0 t1 t2 t3 : Int, v = .agg #[.int .i64 t0, .int .i64 t1, .int .i64 t2, .int .i64 t3] := by
  obtain ⟨cs, rfl, hsz⟩ := array_wide Try.underlying39 hv
  rw [cells_tears] at hsz
  obtain ⟨c0, c1, c2, c3, rfl⟩ := four_of hsz
  obtain ⟨fuel, hf⟩ := h
  obtain ⟨y0, y1, y2, y3, n, _, h0, h1, h2, h3⟩ := Go.ChangeShapes.trod_array4 Try.underlying39 cells_int hf
  obtain ⟨n0, e0, _, _⟩ := DataW.trod_int Try.underlying3 h0
  obtain ⟨n1, e1, _, _⟩ := DataW.trod_int Try.underlying3 h1
  obtain ⟨n2, e2, _, _⟩ := DataW.trod_int Try.underlying3 h2
  obtain ⟨n3, e3, _, _⟩ := DataW.trod_int Try.underlying3 h3
  cases e0; cases e1; cases e2; cases e3
  exact ⟨n0, n1, n2, n3, rfl⟩
namespace Contract
theorem superTurns (x : Sup) (a1 : Option Addr) (l1 c1 : Nat) (b1 : Option Addr) (m1 d1 : Nat) (y : Sup) (a2 : Option Addr) (l2 c2 : Nat) (b2 : Option Addr) (m2 d2 : Nat) (z : Sup) (a3 : Option Addr) (l3 c3 : Nat) (b3 : Option Addr) (m3 d3 : Nat) (t0 t1 t2 t3 : Int) (W : World) (w0 : SupIn W x a1 l1 c1 b1 m1 d1) (w1 : SupIn W y a2 l2 c2 b2 m2 d2) (w2 : SupIn W z a3 l3 c3 b3 m3 d3) :
    Calls Try.prog 6 #[supV x (.slice a1 l1 c1) (.slice b1 m1 d1), supV y (.slice a2 l2 c2) (.slice b2 m2 d2), supV z (.slice a3 l3 c3) (.slice b3 m3 d3), .agg #[.int .i64 t0, .int .i64 t1, .int .i64 t2, .int .i64 t3]] W fun e w' => e = .returned (.bool true) ∧ Below W.heap.size W w' := by
  cases hf1 : fewB x
  · exact superTurns_x x y z a1 l1 c1 b1 m1 d1 a2 l2 c2 b2 m2 d2 a3 l3 c3 b3 m3 d3 t0 t1 t2 t3 W w0.at_ w1.at_ w2.at_ hf1
  cases hf2 : fewB y
  · exact superTurns_y x y z a1 l1 c1 b1 m1 d1 a2 l2 c2 b2 m2 d2 a3 l3 c3 b3 m3 d3 t0 t1 t2 t3 W w0.at_ w1.at_ w2.at_ hf1 hf2
  cases hf3 : fewB z
  · exact superTurns_z x y z a1 l1 c1 b1 m1 d1 a2 l2 c2 b2 m2 d2 a3 l3 c3 b3 m3 d3 t0 t1 t2 t3 W w0.at_ w1.at_ w2.at_ hf1 hf2 hf3
  have k1 := few_lens hf1
  have k2 := few_lens hf2
  have k3 := few_lens hf3
  rw [w0.at_.chk.1, w0.at_.log.1] at k1
  rw [w1.at_.chk.1, w1.at_.log.1] at k2
  rw [w2.at_.chk.1, w2.at_.log.1] at k3
  have no := fun (A B C : ByteArray) (e1 e2 e3 : Int) q1 q2 q3 h => superTurns_no x y z a1 l1 c1 b1 m1 d1 a2 l2 c2 b2 m2 d2 a3 l3 c3 b3 m3 d3 t0 t1 t2 t3 W w0.at_ w1.at_ w2.at_ hf1 hf2 hf3 k1 k2 k3 A B C e1 e2 e3 q1 q2 q3 h
  have en : ∀ x : Sup, (Fit x ∧ enR x = (str (sect x), 0)) ∨ (¬ Fit x ∧ enR x = (⟨#[]⟩, 1)) := fun x => by
    by_cases h : Fit x
    · exact .inl ⟨h, if_pos h⟩
    · exact .inr ⟨h, if_neg h⟩
  rcases en x with ⟨fx, ex⟩ | ⟨fx, ex⟩
  · rcases en y with ⟨fy, ey⟩ | ⟨fy, ey⟩
    · rcases en z with ⟨fz, ez⟩ | ⟨fz, ez⟩
      · by_cases g1 : y.gen ≤ x.gen
        · exact no _ _ _ _ _ _ ex ey ez (.inr (.inr (.inr (.inl ⟨rfl, rfl, rfl, g1⟩))))
        · by_cases g2 : x.gen ≤ z.gen
          · exact no _ _ _ _ _ _ ex ey ez (.inr (.inr (.inr (.inr ⟨rfl, rfl, rfl, g1, g2⟩))))
          · exact superTurns_walk x y z a1 l1 c1 b1 m1 d1 a2 l2 c2 b2 m2 d2 a3 l3 c3 b3 m3 d3 t0 t1 t2 t3 W w0.at_ w1.at_ w2.at_ hf1 hf2 hf3 k1 k2 k3 fx fy fz (by omega) (by omega)
      · exact no _ _ _ _ _ _ ex ey ez (.inr (.inr (.inl ⟨rfl, rfl, by decide⟩)))
    · rcases hz : enR z with ⟨C, e3⟩
      exact no _ _ _ _ _ _ ex ey hz (.inr (.inl ⟨rfl, by decide⟩))
  · rcases hy : enR y with ⟨B, e2⟩
    rcases hz : enR z with ⟨C, e3⟩
    exact no _ _ _ _ _ _ ex hy hz (.inl (by decide))
end Contract
end Go.Proofs.Ytigiaiddnbpcmaa
