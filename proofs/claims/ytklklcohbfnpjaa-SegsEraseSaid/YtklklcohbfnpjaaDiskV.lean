/-
  A disk of the call's own; the chapter's examples (awake); do at a disk that nobody made.
-/
import Derived.Test.YtklklcohbfnpjaaDiskU
set_option linter.unusedVariables false
set_option maxRecDepth 4000
namespace Go.Proofs.Ytklklcohbfnpjaa
open Go.RowKit DiskP

/-- A disk in memory that is new since w0. -/
def Own (w0 w : World) (b : Nat) (st : St) : Prop := ∃ L, Dk w L b st ∧ (∀ k ∈ L, w0.heap.size ≤ k) ∧ Below w0.heap.size w0 w
theorem Own.step {w0 w : World} {b : Nat} {st st' : St} {f : Nat} {args : Array Value} {v : Value} (h : Own w0 w b st) (hc : ∀ L, Dk w L b st → Calls Try.prog f args w (Did w L b st' v)) :
    Calls Try.prog f args w fun e w' => e = .returned v ∧ Own w0 w' b st' := by
  obtain ⟨L, hD, hL, hB⟩ := h
  refine (hc L hD).mono ?_
  rintro e w' ⟨rfl, L', hD', hU⟩
  exact ⟨rfl, L', hD', fun k hk => (hU.sub k hk).elim (hL k) (fun h => Nat.le_trans hB.size h), hB.trans (hU.below hL hB.size)⟩
theorem Own.below {w0 w w' : World} {b : Nat} {st : St} (h : Own w0 w b st) (hb : Below w.heap.size w w') : Own w0 w' b st := by
  obtain ⟨L, hD, hL, hB⟩ := h
  exact ⟨L, dk_below hD hb, hL, hB.trans (hb.mono hB.size)⟩
theorem Own.bel {w0 w : World} {b : Nat} {st : St} (h : Own w0 w b st) : Below w0.heap.size w0 w := h.choose_spec.2.2
theorem Own.still {w0 w : World} {b : Nat} {st : St} {f : Nat} {args : Array Value} {v : Value} (h : Own w0 w b st) (hc : ∀ L, Dk w L b st → Calls Try.prog f args w fun e w' => e = .returned v ∧ Below w.heap.size w w') :
    Calls Try.prog f args w fun e w' => e = .returned v ∧ Own w0 w' b st := by
  obtain ⟨L, hD, hL, hB⟩ := h
  refine (hc L hD).mono ?_
  rintro e w' ⟨rfl, hb⟩
  exact ⟨rfl, L, dk_below hD hb, hL, hB.trans (hb.mono hB.size)⟩
theorem own_new (n : Nat) (w0 w : World) (h1 : 2 ≤ n) (h2 : n ≤ 512) (hB : Below w0.heap.size w0 w) :
    Calls Try.prog 17 #[.int .i64 (n : Int)] w fun e w' => ∃ b, e = .returned (.tuple #[.pointer (some ⟨b, 0, none⟩), .int .i64 0]) ∧ Own w0 w' b (fresh (List.replicate n DiskP.blank)) := by
  refine (new_yes n w h1 h2).mono ?_
  rintro e w' ⟨b, L, rfl, hD, hL, hb⟩
  exact ⟨b, rfl, L, hD, fun k hk => Nat.le_trans hB.size (hL k hk), hB.trans (hb.mono hB.size)⟩
theorem new_ok (n : Nat) (h1 : 2 ≤ n) (h2 : n ≤ 512) : Ok 0 (fresh (List.replicate n DiskP.blank)) :=
  fresh_ok (by simpa using h1) (by simpa using h2) (fun s hs => by rw [(List.mem_replicate.1 hs).2]; exact fill_size 0 128)

def exA : ByteArray := dat 97 128
def exB : ByteArray := dat 98 128
def ex0 : St := fresh (List.replicate 2 DiskP.blank)
def ex1 : St := (wr ex0 1 exA).2
def ex2 : St := cr ex1 [] 0
def ex3 : St := (wr ex2 1 exA).2
def ex4 : St := (fl ex3).2
def ex5 : St := (wr ex4 1 exB).2
def ex6 : St := cr ex5 [true] 1
theorem ok0 : Ok 0 ex0 := new_ok 2 (by decide) (by decide)
theorem ok1 : Ok 1 ex1 := wr_ok ok0 _ _
theorem ok2 : Ok 1 ex2 := cr_ok ok1 _ _
theorem ok3 : Ok 2 ex3 := wr_ok ok2 _ _
theorem ok4 : Ok 3 ex4 := fl_ok ok3
theorem ok5 : Ok 4 ex5 := wr_ok ok4 _ _
theorem ok6 : Ok 4 ex6 := cr_ok ok5 _ _
theorem exw1 : (wr ex0 1 exA).1 = 0 := by kernel_rfl
theorem exw3 : (wr ex2 1 exA).1 = 0 := by kernel_rfl
theorem exf4 : (fl ex3).1 = 0 := by kernel_rfl
theorem exw5 : (wr ex4 1 exB).1 = 0 := by kernel_rfl
theorem exr1 : rd ex6 1 = (⟨#[98]⟩ ++ exA.extract 1 exA.size, 0) := by kernel_rfl
theorem exr0 : rd ex6 0 = (DiskP.blank, 0) := by kernel_rfl
theorem exo : ex6.ops = 4 := by kernel_rfl
theorem exw7 : (wr ex6 2 exA).1 = 11 := by kernel_rfl
theorem exa : exA.size = 128 := by kernel_rfl
theorem exb : exB.size = 128 := by kernel_rfl
/-! do at a disk that nobody made. -/
theorem noDisk_below {w w' : World} {p : Option Addr} (h : NoDisk w p) (hb : Below w.heap.size w w') : NoDisk w' p := by
  rcases h with rfl | ⟨b, rfl, hc⟩
  · exact .inl rfl
  · exact .inr ⟨b, rfl, (hb.cell (World.block_lt_of_cell? w _ hc)).trans hc⟩

end Go.Proofs.Ytklklcohbfnpjaa
