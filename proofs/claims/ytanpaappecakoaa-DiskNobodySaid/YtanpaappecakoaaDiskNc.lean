/-
  An act that came in by value; the contract of DiskNobody in the frame's form.
-/
import Derived.Test.YtanpaappecakoaaDiskNb
set_option linter.unusedVariables false
namespace Go.Proofs.Ytanpaappecakoaa
open Go.RowKit DiskP

theorem openAct {H : Type} {enc : TypeId × Value → H} {w : World} {r : Reach} {b0 base : Nat} {spare : Nat → Bool} {held : Bool} {v : Value} {d : DataW H} {p : List MemPlace}
    (hv : Value.okWide Try.prog w r b0 36 v) (h : DataW.Trod enc Try.prog w base spare held 36 v d p) :
    ∃ x : {x : AVal // x.kl ≤ 9223372036854775807}, v = .agg (actV x.1.kind x.1.at_ x.1.fil x.1.size (.slice x.1.ka x.1.kl x.1.kc)) := by
  obtain ⟨cs, rfl, hsz⟩ := Go.WideShapes.okWide_struct Try.underlying36 hv
  rw [cells_act] at hsz
  obtain ⟨fuel, ht⟩ := h
  obtain ⟨cs', hcs⟩ : ∃ l, cs.toList = l := ⟨_, rfl⟩
  have hcl : cs'.length = 5 := by rw [← hcs, Array.length_toList]; exact hsz
  change DataW.trod enc Try.prog w base spare held fuel 36 cs.toList = some (d, p) at ht
  rw [hcs] at ht
  obtain ⟨ys, n', _, _, _, hyl, hf⟩ := DataW.trod_struct Try.underlying36 ht
  have hys : ys.length = 5 := hyl
  have g0 : DataW.trod enc Try.prog w base spare held n' 3 ((cs'.drop 0).take 1) = ys[0]? := by
    have h := hf 0 _ rfl
    change DataW.trod enc Try.prog w base spare held n' 3 ((cs'.drop 0).take (Try.prog.cellsOf 3)) = ys[0]? at h
    rw [cells_int] at h; exact h
  have g1 : DataW.trod enc Try.prog w base spare held n' 3 ((cs'.drop 1).take 1) = ys[1]? := by
    have h := hf 1 _ rfl
    change DataW.trod enc Try.prog w base spare held n' 3 ((cs'.drop 1).take (Try.prog.cellsOf 3)) = ys[1]? at h
    rw [cells_int] at h; exact h
  have g2 : DataW.trod enc Try.prog w base spare held n' 5 ((cs'.drop 2).take 1) = ys[2]? := by
    have h := hf 2 _ rfl
    change DataW.trod enc Try.prog w base spare held n' 5 ((cs'.drop 2).take (Try.prog.cellsOf 5)) = ys[2]? at h
    rw [cells_byte] at h; exact h
  have g3 : DataW.trod enc Try.prog w base spare held n' 3 ((cs'.drop 3).take 1) = ys[3]? := by
    have h := hf 3 _ rfl
    change DataW.trod enc Try.prog w base spare held n' 3 ((cs'.drop 3).take (Try.prog.cellsOf 3)) = ys[3]? at h
    rw [cells_int] at h; exact h
  have g4 : DataW.trod enc Try.prog w base spare held n' 34 ((cs'.drop 4).take 1) = ys[4]? := by
    have h := hf 4 _ rfl
    change DataW.trod enc Try.prog w base spare held n' 34 ((cs'.drop 4).take (Try.prog.cellsOf 34)) = ys[4]? at h
    rw [cells_bools] at h; exact h
  obtain ⟨k0, v0, _⟩ := field_int Try.underlying3 (show 0 < cs'.length by omega) (show (ys[0]?).isSome = true by simp [hys]) g0
  obtain ⟨k1, v1, _⟩ := field_int Try.underlying3 (show 1 < cs'.length by omega) (show (ys[1]?).isSome = true by simp [hys]) g1
  obtain ⟨k2, v2, _⟩ := field_int Try.underlying5 (show 2 < cs'.length by omega) (show (ys[2]?).isSome = true by simp [hys]) g2
  obtain ⟨k3, v3, _⟩ := field_int Try.underlying3 (show 3 < cs'.length by omega) (show (ys[3]?).isSome = true by simp [hys]) g3
  have l4 : 4 < cs'.length := by omega
  have d4 : (cs'.drop 4).take 1 = [cs'[4]] := by rw [List.drop_eq_getElem_cons l4, List.take_succ_cons, List.take_zero]
  rw [d4] at g4
  obtain ⟨y4, hy4⟩ : ∃ y4, ys[4]? = some y4 := ⟨_, List.getElem?_eq_getElem (by omega)⟩
  rw [hy4] at g4
  have hv4 : ∃ ka kl kc, cs'[4] = .slice ka kl kc := by
    rcases Go.Deep.open_slice Try.underlying34 g4 with ⟨h5, _⟩ | ⟨a5, l5, c5, _, _, _, _, h5, _⟩
    · exact ⟨none, 0, 0, (List.cons.inj h5).1⟩
    · exact ⟨some a5, l5, c5, (List.cons.inj h5).1⟩
  obtain ⟨ka, kl, kc, e4⟩ := hv4
  obtain ⟨b1, ⟨ks, b2⟩, b3⟩ := isBools_of g4 (by rw [e4])
  refine ⟨⟨⟨k0, k1, k2, k3, ka, kl, kc, ks⟩, b1⟩, ?_⟩
  congr 1
  apply Array.toList_inj.1
  rw [hcs]
  apply List.ext_getElem?
  intro i
  match i with
  | 0 => rw [v0]; rfl
  | 1 => rw [v1]; rfl
  | 2 => rw [v2]; rfl
  | 3 => rw [v3]; rfl
  | 4 => rw [List.getElem?_eq_getElem l4, e4]; rfl
  | i + 5 => rw [List.getElem?_eq_none (by omega)]; rfl
namespace Contract
theorem diskNobody (x : {x : AVal // x.kl ≤ 9223372036854775807}) (W : World) :
    Calls Try.prog 7 #[.agg (actV x.1.kind x.1.at_ x.1.fil x.1.size (.slice x.1.ka x.1.kl x.1.kc))] W fun e w' => e = .returned (.bool true) ∧ Below W.heap.size W w' := by
  by_cases h : x.1.kl ≤ 100
  · exact diskNobody_walk x.1 W h
  · exact diskNobody_long x.1 W (by omega) x.2
end Contract
end Go.Proofs.Ytanpaappecakoaa
