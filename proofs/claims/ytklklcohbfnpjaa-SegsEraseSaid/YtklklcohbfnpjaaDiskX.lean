/-
  The walk of DiskPlays: any number, any acts.
-/
import Derived.Test.YtklklcohbfnpjaaDiskW
import Derived.Lib.QuietBelow
set_option linter.unusedVariables false
set_option maxRecDepth 4000
namespace Go.Proofs.Ytklklcohbfnpjaa
open Go.RowKit DiskP

/-- Both disks, in memory that is new since w0, apart from each other. -/
def Both (w0 w : World) (d x : Nat) (st sr : St) : Prop := ∃ L M, Dk w L d st ∧ Rk w M x sr ∧ (∀ k ∈ L, w0.heap.size ≤ k ∧ k ∉ M) ∧ (∀ k ∈ M, w0.heap.size ≤ k) ∧ Below w0.heap.size w0 w
theorem Both.bel {w0 w : World} {d x : Nat} {st sr : St} (h : Both w0 w d x st sr) : Below w0.heap.size w0 w := by obtain ⟨L, M, _, _, _, _, hB⟩ := h; exact hB
theorem Both.stepD {w0 w : World} {d x : Nat} {st sr st' : St} {f : Nat} {args : Array Value} {v : Value} (h : Both w0 w d x st sr) (hc : ∀ L, Dk w L d st → Calls Try.prog f args w (Did w L d st' v)) :
    Calls Try.prog f args w fun e w' => e = .returned v ∧ Both w0 w' d x st' sr := by
  obtain ⟨L, M, hD, hR, hL, hM, hB⟩ := h
  refine (hc L hD).mono ?_
  rintro e w' ⟨rfl, L', hD', hU⟩
  refine ⟨rfl, L', M, hD', hR.keep (fun k hk => hU.block k (hR.lt k hk) (fun hkL => (hL k hkL).2 hk)), fun k hk => ?_, hM, hB.trans (hU.below (fun k hk => (hL k hk).1) hB.size)⟩
  rcases hU.sub k hk with h | h
  · exact hL k h
  · exact ⟨Nat.le_trans hB.size h, fun hkM => by have := hR.lt k hkM; omega⟩
theorem Both.stepR {w0 w : World} {d x : Nat} {st sr sr' : St} {f : Nat} {args : Array Value} {v : Value} (h : Both w0 w d x st sr) (hc : ∀ M, Rk w M x sr → (∀ k ∈ M, w0.heap.size ≤ k) → Calls Try.prog f args w (Rid w M x sr' v)) :
    Calls Try.prog f args w fun e w' => e = .returned v ∧ Both w0 w' d x st sr' := by
  obtain ⟨L, M, hD, hR, hL, hM, hB⟩ := h
  refine (hc M hR hM).mono ?_
  rintro e w' ⟨rfl, M', hR', hU⟩
  refine ⟨rfl, L, M', hD.keep (fun k hk => hU.block k (hD.lt k hk) (hL k hk).2), hR', fun k hk => ⟨(hL k hk).1, fun hkM => ?_⟩, fun k hk => ?_, hB.trans (hU.below hM hB.size)⟩
  · rcases hU.sub k hkM with h | h
    · exact (hL k hk).2 h
    · have := hD.lt k hk; omega
  · rcases hU.sub k hk with h | h
    · exact hM k h
    · exact Nat.le_trans hB.size h
theorem Both.below {w0 w w' : World} {d x : Nat} {st sr : St} (h : Both w0 w d x st sr) (hb : Below w.heap.size w w') : Both w0 w' d x st sr := by
  obtain ⟨L, M, hD, hR, hL, hM, hB⟩ := h
  exact ⟨L, M, dk_below hD hb, rk_below hR hb, hL, hM, hB.trans (hb.mono hB.size)⟩
theorem Both.drew {w0 w : World} {d x : Nat} {st sr : St} (h : Both w0 w d x st sr) : Both w0 w.drew d x st sr := by
  obtain ⟨L, M, hD, hR, hL, hM, hB⟩ := h
  exact ⟨L, M, hD.keep fun _ _ => rfl, hR.keep fun _ _ => rfl, hL, hM, hB.drew⟩
theorem step_len {st : St} {x : AVal} : (step st x).2.S.length = st.S.length := by
  unfold step
  split
  · show (wr st _ _).2.S.length = _
    unfold wr
    split
    · rfl
    split
    · rfl
    split
    · rfl
    split <;> rfl
  split
  · show (fl st).2.S.length = _
    unfold fl
    split
    · rfl
    split
    · rfl
    · exact play_length _ _
  split
  · rfl
  split
  · exact crS_length _ _ _
  · rfl
theorem ActAt.below {w w' : World} {b off : Nat} {x : AVal} (h : ActAt w b off x) (hb : Below w.heap.size w w') : ActAt w' b off x := by
  have hlt := World.block_lt_of_cell? w _ h.c0
  exact ⟨(hb.cell (p := ⟨b, off, none⟩) hlt).trans h.c0, (hb.cell (p := ⟨b, off + 1, none⟩) hlt).trans h.c1, (hb.cell (p := ⟨b, off + 2, none⟩) hlt).trans h.c2, (hb.cell (p := ⟨b, off + 3, none⟩) hlt).trans h.c3, (hb.cell (p := ⟨b, off + 4, none⟩) hlt).trans h.c4,
    h.lo, h.hi, h.kl, bools_below h.kb hb, fun h0 y hy => Nat.lt_of_lt_of_le (h.kn h0 y hy) hb.size⟩
theorem ActAt.fit {w : World} {b off : Nat} {x : AVal} (h : ActAt w b off x) (hk : x.kl ≤ 100) : x.Fit := ⟨h.lo, h.hi, by omega⟩
theorem join {G P : Prop} (main : G → P) (pf : G) : P := main pf
end Go.Proofs.Ytklklcohbfnpjaa
