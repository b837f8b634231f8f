/-
  The contracts of the program's Built and of the laws' awake; what was there stays as it was.
-/
import Derived.Test.YtdpgfnnhbfkacaaDoorDefH
import Derived.Test.YtdpgfnnhbfkacaaDoorDefBuilt
set_option linter.unusedVariables false
set_option linter.unusedSimpArgs false
set_option maxRecDepth 4000
set_option maxRecDepth 4000
namespace Go.Proofs.YtdpgfnnhbfkacaaDoor.Def
open Go.RowKit DefP
open Go.Proofs.YtdpgfnnhbfkacaaDoor.Kt

/-- A definition's value. -/
structure DV where
  name : ByteArray
  a : Option Addr
  n : Nat
  c : Nat
def dcell (t : DV) : List Value := [.string t.name, .slice t.a t.n t.c]
/-- Definitions as elements of a slice. -/
def dvS : Rw.Sh DV where
  c := dcell
  z := ⟨⟨#[]⟩, none, 0, 0⟩
  zv := .agg #[.string ⟨#[]⟩, .slice none 0 0]
  ts := 30
  te := 24
  k := 2
  bytes := 40
  pos := by decide
  small := by decide
  len := fun t => rfl
  one := fun t u hu => by
    simp only [dcell, List.mem_cons, List.mem_nil_iff, or_false] at hu
    rcases hu with rfl | rfl <;> rfl
  zcells := rfl
  und := Tryd.underlying30
  info := by kernel_rfl
/-- A value that tells a definition of one step at least. -/
structure Tells (w : World) (x : DV) (d : Df) : Prop where
  nm : x.name = d.name
  ln : x.n = d.steps.length
  room : x.n ≤ x.c
  at_ : StAt w x.a x.n d.steps
  off : ∃ g, x.a = some ⟨g, 0, none⟩
theorem Tells.keep {w w' : World} {x : DV} {d : Df} (h : Tells w x d) (hb : Below w.heap.size w w') : Tells w' x d := ⟨h.nm, h.ln, h.room, h.at_.keep hb, h.off⟩
theorem Tells.pos {w : World} {x : DV} {d : Df} (h : Tells w x d) (hd : 1 ≤ d.steps.length) {g : Nat} (hg : x.a = some ⟨g, 0, none⟩) : g < w.heap.size ∧ ∃ q, w.cell? ⟨g, 0, none⟩ = some (.int .i64 q) := by
  have hn : 0 < x.n := by rw [h.ln]; omega
  obtain ⟨b, off, x0, x1, x2, x3, x4, x5, e, hlt, _, hc⟩ := StAt.at h.at_ hn
  rw [hg] at e
  cases e
  have := (hc w (Below.refl _ w)).1
  rw [Nat.zero_mul, Nat.zero_add] at this
  exact ⟨hlt, _, this⟩
/-- What a row that grows leaves: it lies apart from any steps, for its first cell is a text. -/
theorem Tells.grown {w w' : World} {x : DV} {d : Df} {r : Option Nat} (h : Tells w x d) (hd : 1 ≤ d.steps.length) (hg : w.grownBy w' r) (hr : ∀ g, r = some g → ∃ z, w.cell? ⟨g, 0, none⟩ = some (.string z)) : Tells w' x d := by
  obtain ⟨g, e⟩ := h.off
  obtain ⟨hlt, q, hq⟩ := h.pos hd e
  have hne : r ≠ some g := fun er => by
    obtain ⟨z, hz⟩ := hr g er
    rw [hz] at hq; cases hq
  have hblk : w'.heap[g]? = w.heap[g]? := hg.block g hlt (fun e => hne e.symm)
  refine ⟨h.nm, h.ln, h.room, ⟨h.at_.1, h.at_.2.1, ?_⟩, h.off⟩
  rcases h.at_.2.2 with h0 | ⟨b, off, e2, hlt2, hc⟩
  · exact .inl h0
  · rw [e] at e2
    cases e2
    exact .inr ⟨g, 0, e, Nat.lt_of_lt_of_le hlt hg.size, fun j u hu => (World.cell?_of_block (a := ⟨g, 0 + j, none⟩) hblk).trans (hc j u hu)⟩
def builtD : List Df := [⟨fulfilB, fulfilS⟩, ⟨pickupB, pickupS⟩, ⟨prepaidB, prepaidS⟩]
def builtT : List ByteArray := [⟨#[102, 117, 108, 102, 105, 108, 32, 104, 111, 108, 100, 47, 115, 111, 102, 116, 47, 48, 47, 49, 47, 49, 47, 52, 48, 44, 97, 117, 116, 104, 47, 115, 111, 102, 116, 47, 51, 47, 49, 47, 56, 47, 51, 48, 44, 107, 101, 101, 112, 47, 115, 111, 102, 116, 47, 48, 47, 49, 47, 49, 47, 48, 44, 98, 111, 111, 107, 47, 112, 105, 118, 111, 116, 47, 51, 47, 49, 47, 56, 47, 48, 44, 115, 101, 110, 100, 47, 102, 105, 114, 109, 47, 48, 47, 49, 47, 49, 47, 48, 44, 116, 97, 107, 101, 47, 102, 105, 114, 109, 47, 53, 47, 49, 47, 56, 47, 48]⟩, ⟨#[112, 105, 99, 107, 117, 112, 32, 104, 111, 108, 100, 47, 115, 111, 102, 116, 47, 48, 47, 49, 47, 49, 47, 50, 48, 44, 97, 117, 116, 104, 47, 115, 111, 102, 116, 47, 50, 47, 49, 47, 52, 47, 50, 48, 44, 107, 101, 101, 112, 47, 115, 111, 102, 116, 47, 48, 47, 49, 47, 49, 47, 48, 44, 116, 97, 107, 101, 47, 112, 105, 118, 111, 116, 47, 50, 47, 49, 47, 52, 47, 48, 44, 115, 101, 110, 100, 47, 102, 105, 114, 109, 47, 48, 47, 49, 47, 49, 47, 48]⟩, ⟨#[112, 114, 101, 112, 97, 105, 100, 32, 97, 117, 116, 104, 47, 115, 111, 102, 116, 47, 51, 47, 50, 47, 56, 47, 48, 44, 116, 97, 107, 101, 47, 115, 111, 102, 116, 47, 51, 47, 50, 47, 56, 47, 48, 44, 98, 111, 111, 107, 47, 115, 111, 102, 116, 47, 51, 47, 49, 47, 52, 47, 53, 48]⟩]
theorem built_read (k : Nat) (hk : k < 3) : ∃ s d, builtT[k]? = some s ∧ builtD[k]? = some d ∧ readD s.data.toList = some d ∧ s.size ≤ 300 ∧ 1 ≤ d.steps.length := by
  match k, hk with
  | 0, _ => exact ⟨_, _, rfl, rfl, fulfil_read, by decide, by decide⟩
  | 1, _ => exact ⟨_, _, rfl, rfl, pickup_read, by decide, by decide⟩
  | 2, _ => exact ⟨_, _, rfl, rfl, prepaid_read, by decide, by decide⟩
/-- The definitions that are built in, in a block. -/
structure BuiltAt (w : World) (g : Nat) (x0 x1 x2 : DV) : Prop where
  lt : g < w.heap.size
  cells : ∀ j u, (Rw.cells dvS [x0, x1, x2])[j]? = some u → w.cell? ⟨g, j, none⟩ = some u
  t0 : Tells w x0 ⟨fulfilB, fulfilS⟩
  t1 : Tells w x1 ⟨pickupB, pickupS⟩
  t2 : Tells w x2 ⟨prepaidB, prepaidS⟩
theorem BuiltAt.keep {w w' : World} {g : Nat} {x0 x1 x2 : DV} (h : BuiltAt w g x0 x1 x2) (hb : Below w.heap.size w w') : BuiltAt w' g x0 x1 x2 :=
  ⟨Nat.lt_of_lt_of_le h.lt hb.size, fun j u hu => (hb.cell (p := ⟨g, j, none⟩) h.lt).trans (h.cells j u hu), h.t0.keep hb, h.t1.keep hb, h.t2.keep hb⟩
/-- Told by plain words. -/
theorem BuiltAt.told {w : World} {g : Nat} {x0 x1 x2 : DV} (h : BuiltAt w g x0 x1 x2) : ∃ a0 c0 a1 c1 a2 c2, x0 = ⟨fulfilB, a0, 6, c0⟩ ∧ x1 = ⟨pickupB, a1, 5, c1⟩ ∧ x2 = ⟨prepaidB, a2, 3, c2⟩ := by
  obtain ⟨n0, a0, m0, c0⟩ := x0
  obtain ⟨n1, a1, m1, c1⟩ := x1
  obtain ⟨n2, a2, m2, c2⟩ := x2
  obtain rfl : n0 = fulfilB := h.t0.nm
  obtain rfl : m0 = 6 := h.t0.ln
  obtain rfl : n1 = pickupB := h.t1.nm
  obtain rfl : m1 = 5 := h.t1.ln
  obtain rfl : n2 = prepaidB := h.t2.nm
  obtain rfl : m2 = 3 := h.t2.ln
  exact ⟨a0, c0, a1, c1, a2, c2, rfl, rfl, rfl⟩
def BuiltR (w : World) (e : Ending) (w' : World) : Prop := ∃ g c x0 x1 x2, e = .returned (.slice (some ⟨g, 0, none⟩) 3 c) ∧ 3 ≤ c ∧ BuiltAt w' g x0 x1 x2 ∧ Below w.heap.size w w'

set_option maxHeartbeats 8000000 in
theorem built_any (w : World) (hv : Step.Vars w) : Calls Tryd.prog 9 #[] w (BuiltR w) := by
  have hb1 : Below w.heap.size w (w.alloc (.cells #[.string ⟨#[102, 117, 108, 102, 105, 108, 32, 104, 111, 108, 100, 47, 115, 111, 102, 116, 47, 48, 47, 49, 47, 49, 47, 52, 48, 44, 97, 117, 116, 104, 47, 115, 111, 102, 116, 47, 51, 47, 49, 47, 56, 47, 51, 48, 44, 107, 101, 101, 112, 47, 115, 111, 102, 116, 47, 48, 47, 49, 47, 49, 47, 48, 44, 98, 111, 111, 107, 47, 112, 105, 118, 111, 116, 47, 51, 47, 49, 47, 56, 47, 48, 44, 115, 101, 110, 100, 47, 102, 105, 114, 109, 47, 48, 47, 49, 47, 49, 47, 48, 44, 116, 97, 107, 101, 47, 102, 105, 114, 109, 47, 53, 47, 49, 47, 56, 47, 48]⟩, .string ⟨#[112, 105, 99, 107, 117, 112, 32, 104, 111, 108, 100, 47, 115, 111, 102, 116, 47, 48, 47, 49, 47, 49, 47, 50, 48, 44, 97, 117, 116, 104, 47, 115, 111, 102, 116, 47, 50, 47, 49, 47, 52, 47, 50, 48, 44, 107, 101, 101, 112, 47, 115, 111, 102, 116, 47, 48, 47, 49, 47, 49, 47, 48, 44, 116, 97, 107, 101, 47, 112, 105, 118, 111, 116, 47, 50, 47, 49, 47, 52, 47, 48, 44, 115, 101, 110, 100, 47, 102, 105, 114, 109, 47, 48, 47, 49, 47, 49, 47, 48]⟩, .string ⟨#[112, 114, 101, 112, 97, 105, 100, 32, 97, 117, 116, 104, 47, 115, 111, 102, 116, 47, 51, 47, 50, 47, 56, 47, 48, 44, 116, 97, 107, 101, 47, 115, 111, 102, 116, 47, 51, 47, 50, 47, 56, 47, 48, 44, 98, 111, 111, 107, 47, 115, 111, 102, 116, 47, 51, 47, 49, 47, 52, 47, 53, 48]⟩] 9)) := (Below.refl _ _).alloc (Nat.le_refl _) _
  have ht1 : ∀ j s, builtT[j]? = some s → (w.alloc (.cells #[.string ⟨#[102, 117, 108, 102, 105, 108, 32, 104, 111, 108, 100, 47, 115, 111, 102, 116, 47, 48, 47, 49, 47, 49, 47, 52, 48, 44, 97, 117, 116, 104, 47, 115, 111, 102, 116, 47, 51, 47, 49, 47, 56, 47, 51, 48, 44, 107, 101, 101, 112, 47, 115, 111, 102, 116, 47, 48, 47, 49, 47, 49, 47, 48, 44, 98, 111, 111, 107, 47, 112, 105, 118, 111, 116, 47, 51, 47, 49, 47, 56, 47, 48, 44, 115, 101, 110, 100, 47, 102, 105, 114, 109, 47, 48, 47, 49, 47, 49, 47, 48, 44, 116, 97, 107, 101, 47, 102, 105, 114, 109, 47, 53, 47, 49, 47, 56, 47, 48]⟩, .string ⟨#[112, 105, 99, 107, 117, 112, 32, 104, 111, 108, 100, 47, 115, 111, 102, 116, 47, 48, 47, 49, 47, 49, 47, 50, 48, 44, 97, 117, 116, 104, 47, 115, 111, 102, 116, 47, 50, 47, 49, 47, 52, 47, 50, 48, 44, 107, 101, 101, 112, 47, 115, 111, 102, 116, 47, 48, 47, 49, 47, 49, 47, 48, 44, 116, 97, 107, 101, 47, 112, 105, 118, 111, 116, 47, 50, 47, 49, 47, 52, 47, 48, 44, 115, 101, 110, 100, 47, 102, 105, 114, 109, 47, 48, 47, 49, 47, 49, 47, 48]⟩, .string ⟨#[112, 114, 101, 112, 97, 105, 100, 32, 97, 117, 116, 104, 47, 115, 111, 102, 116, 47, 51, 47, 50, 47, 56, 47, 48, 44, 116, 97, 107, 101, 47, 115, 111, 102, 116, 47, 51, 47, 50, 47, 56, 47, 48, 44, 98, 111, 111, 107, 47, 115, 111, 102, 116, 47, 51, 47, 49, 47, 52, 47, 53, 48]⟩] 9)).cell? ⟨w.heap.size, j, none⟩ = some (.string s) := by
    intro j s hs
    rw [World.cell?_alloc_new]
    match j with
    | 0 => cases hs; rfl
    | 1 => cases hs; rfl
    | 2 => cases hs; rfl
    | j + 3 => exact absurd hs (by simp [builtT])
  have hlt : w.heap.size < (w.alloc (.cells #[.string ⟨#[102, 117, 108, 102, 105, 108, 32, 104, 111, 108, 100, 47, 115, 111, 102, 116, 47, 48, 47, 49, 47, 49, 47, 52, 48, 44, 97, 117, 116, 104, 47, 115, 111, 102, 116, 47, 51, 47, 49, 47, 56, 47, 51, 48, 44, 107, 101, 101, 112, 47, 115, 111, 102, 116, 47, 48, 47, 49, 47, 49, 47, 48, 44, 98, 111, 111, 107, 47, 112, 105, 118, 111, 116, 47, 51, 47, 49, 47, 56, 47, 48, 44, 115, 101, 110, 100, 47, 102, 105, 114, 109, 47, 48, 47, 49, 47, 49, 47, 48, 44, 116, 97, 107, 101, 47, 102, 105, 114, 109, 47, 53, 47, 49, 47, 56, 47, 48]⟩, .string ⟨#[112, 105, 99, 107, 117, 112, 32, 104, 111, 108, 100, 47, 115, 111, 102, 116, 47, 48, 47, 49, 47, 49, 47, 50, 48, 44, 97, 117, 116, 104, 47, 115, 111, 102, 116, 47, 50, 47, 49, 47, 52, 47, 50, 48, 44, 107, 101, 101, 112, 47, 115, 111, 102, 116, 47, 48, 47, 49, 47, 49, 47, 48, 44, 116, 97, 107, 101, 47, 112, 105, 118, 111, 116, 47, 50, 47, 49, 47, 52, 47, 48, 44, 115, 101, 110, 100, 47, 102, 105, 114, 109, 47, 48, 47, 49, 47, 49, 47, 48]⟩, .string ⟨#[112, 114, 101, 112, 97, 105, 100, 32, 97, 117, 116, 104, 47, 115, 111, 102, 116, 47, 51, 47, 50, 47, 56, 47, 48, 44, 116, 97, 107, 101, 47, 115, 111, 102, 116, 47, 51, 47, 50, 47, 56, 47, 48, 44, 98, 111, 111, 107, 47, 115, 111, 102, 116, 47, 51, 47, 49, 47, 52, 47, 53, 48]⟩] 9)).heap.size := by rw [World.size_alloc]; omega
  obtain ⟨w1, hw1⟩ : ∃ w1, w.alloc (.cells #[.string ⟨#[102, 117, 108, 102, 105, 108, 32, 104, 111, 108, 100, 47, 115, 111, 102, 116, 47, 48, 47, 49, 47, 49, 47, 52, 48, 44, 97, 117, 116, 104, 47, 115, 111, 102, 116, 47, 51, 47, 49, 47, 56, 47, 51, 48, 44, 107, 101, 101, 112, 47, 115, 111, 102, 116, 47, 48, 47, 49, 47, 49, 47, 48, 44, 98, 111, 111, 107, 47, 112, 105, 118, 111, 116, 47, 51, 47, 49, 47, 56, 47, 48, 44, 115, 101, 110, 100, 47, 102, 105, 114, 109, 47, 48, 47, 49, 47, 49, 47, 48, 44, 116, 97, 107, 101, 47, 102, 105, 114, 109, 47, 53, 47, 49, 47, 56, 47, 48]⟩, .string ⟨#[112, 105, 99, 107, 117, 112, 32, 104, 111, 108, 100, 47, 115, 111, 102, 116, 47, 48, 47, 49, 47, 49, 47, 50, 48, 44, 97, 117, 116, 104, 47, 115, 111, 102, 116, 47, 50, 47, 49, 47, 52, 47, 50, 48, 44, 107, 101, 101, 112, 47, 115, 111, 102, 116, 47, 48, 47, 49, 47, 49, 47, 48, 44, 116, 97, 107, 101, 47, 112, 105, 118, 111, 116, 47, 50, 47, 49, 47, 52, 47, 48, 44, 115, 101, 110, 100, 47, 102, 105, 114, 109, 47, 48, 47, 49, 47, 49, 47, 48]⟩, .string ⟨#[112, 114, 101, 112, 97, 105, 100, 32, 97, 117, 116, 104, 47, 115, 111, 102, 116, 47, 51, 47, 50, 47, 56, 47, 48, 44, 116, 97, 107, 101, 47, 115, 111, 102, 116, 47, 51, 47, 50, 47, 56, 47, 48, 44, 98, 111, 111, 107, 47, 115, 111, 102, 116, 47, 51, 47, 49, 47, 52, 47, 53, 48]⟩] 9) = w1 := ⟨_, rfl⟩
  rw [hw1] at hb1 ht1 hlt
  have HW := Lib.hid hw1
  have HB1 := Lib.hid hb1; have HT1 := Lib.hid ht1; have HLT := Lib.hid hlt
  have HV := Lib.hid (fun W (hb : Below w.heap.size w W) => hv.keep hb)
  clear hw1 hb1 ht1 hlt hv
  go_enter Tryd.func9, Tryd.ntmps9
  go_wp2_with fail
  rw [show w.alloc (.cells #[.string ⟨#[102, 117, 108, 102, 105, 108, 32, 104, 111, 108, 100, 47, 115, 111, 102, 116, 47, 48, 47, 49, 47, 49, 47, 52, 48, 44, 97, 117, 116, 104, 47, 115, 111, 102, 116, 47, 51, 47, 49, 47, 56, 47, 51, 48, 44, 107, 101, 101, 112, 47, 115, 111, 102, 116, 47, 48, 47, 49, 47, 49, 47, 48, 44, 98, 111, 111, 107, 47, 112, 105, 118, 111, 116, 47, 51, 47, 49, 47, 56, 47, 48, 44, 115, 101, 110, 100, 47, 102, 105, 114, 109, 47, 48, 47, 49, 47, 49, 47, 48, 44, 116, 97, 107, 101, 47, 102, 105, 114, 109, 47, 53, 47, 49, 47, 56, 47, 48]⟩, .string ⟨#[112, 105, 99, 107, 117, 112, 32, 104, 111, 108, 100, 47, 115, 111, 102, 116, 47, 48, 47, 49, 47, 49, 47, 50, 48, 44, 97, 117, 116, 104, 47, 115, 111, 102, 116, 47, 50, 47, 49, 47, 52, 47, 50, 48, 44, 107, 101, 101, 112, 47, 115, 111, 102, 116, 47, 48, 47, 49, 47, 49, 47, 48, 44, 116, 97, 107, 101, 47, 112, 105, 118, 111, 116, 47, 50, 47, 49, 47, 52, 47, 48, 44, 115, 101, 110, 100, 47, 102, 105, 114, 109, 47, 48, 47, 49, 47, 49, 47, 48]⟩, .string ⟨#[112, 114, 101, 112, 97, 105, 100, 32, 97, 117, 116, 104, 47, 115, 111, 102, 116, 47, 51, 47, 50, 47, 56, 47, 48, 44, 116, 97, 107, 101, 47, 115, 111, 102, 116, 47, 51, 47, 50, 47, 56, 47, 48, 44, 98, 111, 111, 107, 47, 115, 111, 102, 116, 47, 51, 47, 49, 47, 52, 47, 53, 48]⟩] 9) = w1 from HW.out]
  clear HW
  go_loopw [1, 8] (fun v i wr => ∃ (k : Nat) (xs : List DV), k ≤ 3 ∧ i = .int .i64 (k : Int) ∧ xs.length = k ∧ (k = 0 → v = .slice none 0 0) ∧ Hid (wr.ownsRow w1.heap.size 24 2 v k (Rw.cells dvS xs)) ∧ Hid (∀ (j : Nat) x d, xs[j]? = some x → builtD[j]? = some d → Tells wr x d) ∧ Hid (Below w1.heap.size w1 wr)) (fun _ i _ => 3 - (intOf i).toNat)
  case atStart => exact ⟨0, [], by omega, rfl, rfl, fun _ => rfl, Lib.hid (World.ownsRow_nil _ _ _ _), Lib.hid (fun j x d hx _ => by simp at hx), Lib.hid (Below.refl _ w1)⟩
  case round =>
    obtain ⟨k, xs, hk, rfl, hxl, hv0, hO, hTl, hB⟩ := hrel
    by_cases hlk : k < 3
    · have hki : (k : Int) < 3 := by omega
      obtain ⟨s, d, hs, hd, hrd, hs3, hd1⟩ := built_read k hlk
      have q1 := (hB.out.cell (p := ⟨w.heap.size, k, none⟩) HLT.out).trans (HT1.out k s hs)
      have hbw := below_keep HB1.out hB.out HB1.out.size
      obtain ⟨na, l⟩ := d
      obtain ⟨m, hm⟩ : ∃ m, l.length = m := ⟨_, rfl⟩
      have CR := Lib.hid (read_is s na l m 0 (by rw [hrd]; rfl) (by rw [hrd]; rfl) hm wr hs3 (HV.out wr hbw))
      have HD := Lib.hid hd
      clear hs hd hrd hs3 hbw
      go_wp2_with fail
      refine CR.out.mono ?_
      rintro e w8 ⟨a, c, rfl, hc, hat, hof, hb⟩
      have HO8 := Lib.hid (Rw.owns_below (Rw.owns_below hO.out hb) ((Below.refl w8.heap.size w8).alloc (Nat.le_refl _) (.cells #[.string na, .slice a m c] 24)))
      have hba := (Below.refl w8.heap.size w8).alloc (Nat.le_refl _) (.cells #[.string na, .slice a m c] 24)
      have hx8 : Tells w8 ⟨na, a, m, c⟩ ⟨na, l⟩ := ⟨rfl, hm.symm, hc, hat, by rcases hof with h0 | h0; (exact absurd h0 (by have : 1 ≤ l.length := hd1; omega)); exact h0⟩
      have HX := Lib.hid (hx8.keep hba)
      have HTK := Lib.hid (fun (j : Nat) x d hx hd => ((hTl.out j x d hx hd).keep hb).keep hba)
      have HB8 := Lib.hid ((below_keep hB.out hb hB.out.size).alloc (below_keep hB.out hb hB.out.size).size (.cells #[.string na, .slice a m c] 24))
      have hy := at2_new 24 w8 (.string na) (.slice a m c)
      obtain ⟨y0, y1⟩ := cells2 hy
      clear hb hba hx8 hat hof hc hO hTl hB CR hy q1
      go_wp2_with (first
        | (at_builtin; refine Rw.append_one dvS rfl (.tmp 17) (.tmp 19) rfl w1.heap.size (w8.alloc (.cells #[.string na, .slice a m c] 24)) _ (World.size_alloc _ _) ⟨na, a, m, c⟩ _ rfl _ k xs rfl HO8.out rfl (by omega) HB8.out.size ?_)
        | fail)
      intro v' w9 hown hgrow
      have hbb := Rw.below_append HB8.out HB8.out.size HO8.out hgrow
      have hgg : ∀ (x : DV) (d : Df), 1 ≤ d.steps.length → Tells (w8.alloc (.cells #[.string na, .slice a m c] 24)) x d → Tells w9 x d := by
        intro x d hd h
        refine (h.keep ((Below.refl _ _).alloc (Nat.le_refl _) _)).grown hd hgrow fun g hg => ?_
        have hkp : 0 < k := by
          rcases Nat.eq_zero_or_pos k with h0 | h0
          · rw [hv0 h0] at hg; cases hg
          · exact h0
        obtain ⟨x0, hx0⟩ : ∃ x0, xs[0]? = some x0 := ⟨xs[0]'(by omega), List.getElem?_eq_getElem (by omega)⟩
        have hc0 := fun o => Rw.owns_cell (Rw.owns_below HO8.out ((Below.refl _ _).alloc (Nat.le_refl _) o)) hg (Rw.cells_get dvS xs 0 x0 hx0 0 (.string x0.name) rfl)
        simp only [Nat.zero_mul, Nat.zero_add] at hc0
        exact ⟨_, hc0 _⟩
      have HO9 : Hid (w9.ownsRow w1.heap.size 24 2 v' (k + 1) (Rw.cells dvS (xs ++ [⟨na, a, m, c⟩]))) := hown
      have HB9 := Lib.hid hbb
      have HT9 : Hid (∀ (j : Nat) x d, (xs ++ [⟨na, a, m, c⟩])[j]? = some x → builtD[j]? = some d → Tells w9 x d) := by
        intro j x d hx hdj
        have hd1' : 1 ≤ d.steps.length := by
          have hj3 : j < 3 := (List.getElem?_eq_some_iff.1 hdj).1
          obtain ⟨_, d', _, hd', _, _, hl'⟩ := built_read j hj3
          rw [hd'] at hdj; cases hdj; exact hl'
        rcases Nat.lt_or_ge j xs.length with hj | hj
        · rw [List.getElem?_append_left hj] at hx
          exact hgg x d hd1' (HTK.out j x d hx hdj)
        · rw [List.getElem?_append_right hj] at hx
          have hj0 : j - xs.length = 0 := by have := (List.getElem?_eq_some_iff.1 hx).1; simp at this; omega
          rw [hj0] at hx
          have hjk : j = k := by omega
          subst hjk
          rw [HD.out] at hdj
          cases hdj
          simp at hx
          subst hx
          exact hgg _ _ hd1 HX.out
      clear hown hgrow hbb hgg HO8 HTK HB8 HX hv0 y0 y1
      go_wp2_with fail
      go_roundw
      case rel => exact ⟨k + 1, xs ++ [⟨na, a, m, c⟩], by omega, by go_num, by rw [List.length_append, hxl]; rfl, fun h => absurd h (Nat.succ_ne_zero k), HO9, HT9, HB9⟩
      case measure => simp [intOf]; omega
    · obtain rfl : k = 3 := by omega
      rcases Rw.owns_form hO.out with ⟨_, h0⟩ | ⟨g, c, rfl, _, hlt⟩
      · exact absurd h0 (by omega)
      match xs, hxl with
      | [x0, x1, x2], _ =>
        have HE : Hid (BuiltR w (.returned (.slice (some ⟨g, 0, none⟩) 3 c)) wr) := ⟨g, c, x0, x1, x2, rfl, Rw.owns_room hO.out, ⟨hlt, fun j u hu => Rw.owns_cell hO.out rfl hu, hTl.out 0 _ _ rfl rfl, hTl.out 1 _ _ rfl rfl, hTl.out 2 _ _ rfl rfl⟩, below_keep HB1.out hB.out HB1.out.size⟩
        clear hlt hO hTl hv0
        have h33 : ¬ ((3 : Int) < 3) := by omega
        rw [show (((3 : Nat)) : Int) = 3 from rfl]
        go_wp2_with fail
        go_ret
        exact HE.out

theorem text_x : readD (⟨#[120, 32, 107, 101, 101, 112, 47, 115, 111, 102, 116, 47, 48, 47, 49, 47, 49, 47, 48]⟩ : ByteArray).data.toList = none := keep_alone
set_option maxHeartbeats 8000000 in
theorem awake_any (w : World) (hv : Step.Vars w) : Calls Tryd.prog 7 #[] w fun e w' => e = .returned (.bool true) ∧ Below w.heap.size w w' := by
  have HV := Lib.hid (fun W (hb : Below w.heap.size w W) => hv.keep hb)
  have C0 := Lib.hid (built_any w hv)
  clear hv
  go_enter Tryd.func7, Tryd.ntmps7
  go_wp2_with fail
  refine C0.out.mono ?_
  rintro e w1 ⟨g, cp, x0, x1, x2, rfl, _, hba, hb1⟩
  have HBA := Lib.hid hba; have HB1 := Lib.hid hb1
  have C1 := Lib.hid (read_is ⟨#[120, 32, 107, 101, 101, 112, 47, 115, 111, 102, 116, 47, 48, 47, 49, 47, 49, 47, 48]⟩ ⟨#[]⟩ [] 0 7 (by rw [text_x]; rfl) (by rw [text_x]; rfl) rfl w1 (by decide) (HV.out _ hb1))
  clear hba hb1 C0
  obtain ⟨a0, c0, a1, c1, a2, c2, rfl, rfl, rfl⟩ := HBA.out.told
  go_wp2_with fail
  refine C1.out.mono ?_
  rintro e w2 ⟨a, c, rfl, _, _, _, hb⟩
  have hbz := (Below.refl w2.heap.size w2).alloc (Nat.le_refl _) (.cells #[.string ⟨#[]⟩, .slice a 0 c] 24)
  have HBA2 := Lib.hid ((HBA.out.keep hb).keep hbz)
  have HB2 := Lib.hid (below_keep (below_keep HB1.out hb HB1.out.size) hbz (below_keep HB1.out hb HB1.out.size).size)
  clear hb hbz HBA HB1 C1
  obtain ⟨w3, hw3⟩ : ∃ w3, w2.alloc (.cells #[.string ⟨#[]⟩, .slice a 0 c] 24) = w3 := ⟨_, rfl⟩
  rw [hw3] at HBA2 HB2
  have HW3 := Lib.hid hw3
  have e00 : (w2.alloc (.cells #[.string ⟨#[]⟩, .slice a 0 c] 24)).cell? ⟨g, 0, none⟩ = some (.string ⟨#[102, 117, 108, 102, 105, 108]⟩) := (show BuiltAt (w2.alloc (.cells #[.string ⟨#[]⟩, .slice a 0 c] 24)) g _ _ _ by rw [hw3]; exact HBA2.out).cells 0 _ rfl
  have e01 : (w2.alloc (.cells #[.string ⟨#[]⟩, .slice a 0 c] 24)).cell? ⟨g, 1, none⟩ = some (.slice a0 6 c0) := (show BuiltAt (w2.alloc (.cells #[.string ⟨#[]⟩, .slice a 0 c] 24)) g _ _ _ by rw [hw3]; exact HBA2.out).cells 1 _ rfl
  have e20 : (w2.alloc (.cells #[.string ⟨#[]⟩, .slice a 0 c] 24)).cell? ⟨g, 2, none⟩ = some (.string ⟨#[112, 105, 99, 107, 117, 112]⟩) := (show BuiltAt (w2.alloc (.cells #[.string ⟨#[]⟩, .slice a 0 c] 24)) g _ _ _ by rw [hw3]; exact HBA2.out).cells 2 _ rfl
  have e21 : (w2.alloc (.cells #[.string ⟨#[]⟩, .slice a 0 c] 24)).cell? ⟨g, 3, none⟩ = some (.slice a1 5 c1) := (show BuiltAt (w2.alloc (.cells #[.string ⟨#[]⟩, .slice a 0 c] 24)) g _ _ _ by rw [hw3]; exact HBA2.out).cells 3 _ rfl
  have e40 : (w2.alloc (.cells #[.string ⟨#[]⟩, .slice a 0 c] 24)).cell? ⟨g, 4, none⟩ = some (.string ⟨#[112, 114, 101, 112, 97, 105, 100]⟩) := (show BuiltAt (w2.alloc (.cells #[.string ⟨#[]⟩, .slice a 0 c] 24)) g _ _ _ by rw [hw3]; exact HBA2.out).cells 4 _ rfl
  have e41 : (w2.alloc (.cells #[.string ⟨#[]⟩, .slice a 0 c] 24)).cell? ⟨g, 5, none⟩ = some (.slice a2 3 c2) := (show BuiltAt (w2.alloc (.cells #[.string ⟨#[]⟩, .slice a 0 c] 24)) g _ _ _ by rw [hw3]; exact HBA2.out).cells 5 _ rfl
  clear hw3
  have C2 := Lib.hid (pivot_is fulfilB a0 6 c0 fulfilS 3 fulfil_piv w3 HBA2.out.t0.at_)
  go_wp2_with fail
  rw [show w2.alloc (.cells #[.string ⟨#[]⟩, .slice a 0 c] 24) = w3 from HW3.out]
  refine C2.out.mono ?_
  rintro e w4 ⟨rfl, hb⟩
  have HBA4 := Lib.hid (HBA2.out.keep hb)
  have HB4 := Lib.hid (below_keep HB2.out hb HB2.out.size)
  clear hb e00 e01 e20 e21 e40 e41 HBA2 HB2 C2 HW3
  have e00 : w4.cell? ⟨g, 0, none⟩ = some (.string ⟨#[102, 117, 108, 102, 105, 108]⟩) := HBA4.out.cells 0 _ rfl
  have e01 : w4.cell? ⟨g, 1, none⟩ = some (.slice a0 6 c0) := HBA4.out.cells 1 _ rfl
  have e20 : w4.cell? ⟨g, 2, none⟩ = some (.string ⟨#[112, 105, 99, 107, 117, 112]⟩) := HBA4.out.cells 2 _ rfl
  have e21 : w4.cell? ⟨g, 3, none⟩ = some (.slice a1 5 c1) := HBA4.out.cells 3 _ rfl
  have e40 : w4.cell? ⟨g, 4, none⟩ = some (.string ⟨#[112, 114, 101, 112, 97, 105, 100]⟩) := HBA4.out.cells 4 _ rfl
  have e41 : w4.cell? ⟨g, 5, none⟩ = some (.slice a2 3 c2) := HBA4.out.cells 5 _ rfl
  have C3 := Lib.hid (pivot_is prepaidB a2 3 c2 prepaidS (-1) prepaid_piv w4 HBA4.out.t2.at_)
  go_wp2_with fail
  refine C3.out.mono ?_
  rintro e w5 ⟨rfl, hb⟩
  have HBA5 := Lib.hid (HBA4.out.keep hb)
  have HB5 := Lib.hid (below_keep HB4.out hb HB4.out.size)
  clear hb e00 e01 e20 e21 e40 e41 HBA4 HB4 C3
  have e00 : w5.cell? ⟨g, 0, none⟩ = some (.string ⟨#[102, 117, 108, 102, 105, 108]⟩) := HBA5.out.cells 0 _ rfl
  have e01 : w5.cell? ⟨g, 1, none⟩ = some (.slice a0 6 c0) := HBA5.out.cells 1 _ rfl
  have e20 : w5.cell? ⟨g, 2, none⟩ = some (.string ⟨#[112, 105, 99, 107, 117, 112]⟩) := HBA5.out.cells 2 _ rfl
  have e21 : w5.cell? ⟨g, 3, none⟩ = some (.slice a1 5 c1) := HBA5.out.cells 3 _ rfl
  have e40 : w5.cell? ⟨g, 4, none⟩ = some (.string ⟨#[112, 114, 101, 112, 97, 105, 100]⟩) := HBA5.out.cells 4 _ rfl
  have e41 : w5.cell? ⟨g, 5, none⟩ = some (.slice a2 3 c2) := HBA5.out.cells 5 _ rfl
  have C4 := Lib.hid (place_is pickupB a1 5 c1 pickupS 6 3 pickup_take w5 HBA5.out.t1.at_)
  go_wp2_with fail
  refine C4.out.mono ?_
  rintro e w6 ⟨rfl, hb⟩
  have HB6 := Lib.hid (below_keep HB5.out hb HB5.out.size)
  clear hb e00 e01 e20 e21 e40 e41 HBA5 HB5 C4
  go_wp2_with fail
  go_ret
  exact ⟨rfl, HB6.out⟩
end Go.Proofs.YtdpgfnnhbfkacaaDoor.Def
