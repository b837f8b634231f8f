/-
  The contracts of the four laws of layer 1 in the frame's form: each returns true; what was there stays as it was; asked is only that the table of powers of ten is as the program's text lays it.
-/
import Derived.Test.YtmieghihapkgeaaDoorNumI
import Derived.Test.YtmieghihapkgeaaDoorNumJ
import Derived.Test.YtmieghihapkgeaaDoorRows
import Derived.OpenShut
import Derived.LaidHandle
import Derived.LaidSub
import Derived.Lib.LaidTab
namespace Go.Proofs.YtmieghihapkgeaaDoor
open Go.RowKit NumP

/-- What the walk is told of a slice of integers that came in: it is nil, or it leads to its cells. -/
def IsRow (k : IntKind) (w : World) (a : Option Addr) (len cap : Nat) (zs : List Int) : Prop :=
  (a = none ∧ len = 0 ∧ cap = 0 ∧ zs = []) ∨
  ∃ x, a = some x ∧ len ≤ cap ∧ cap ≤ maxLen ∧ zs.length = cap ∧ (∀ i, i < zs.length → w.cell? (x.add i) = some (.int k (zs.getD i 0))) ∧ ∀ n ∈ zs, (Lit.int k n).wf = true
theorem IsRow.at {w : World} {a : Option Addr} {len cap : Nat} {zs : List Int} (h : IsRow .i64 w a len cap zs) : IntsAt w a len (zs.take len) := by
  rcases h with ⟨rfl, rfl, _, rfl⟩ | ⟨x, rfl, hl, hm, hz, hc, _⟩
  · exact ⟨rfl, by omega, .inl rfl⟩
  · refine ⟨by rw [List.length_take]; omega, by unfold maxLen at hm; omega, ?_⟩
    by_cases h0 : len = 0
    · exact .inl h0
    · right
      obtain ⟨b, off, rfl, hcell⟩ := ints_at hc (by omega)
      exact ⟨b, off, rfl, fun i hi => by rw [hcell i (by omega)]; simp [List.getD, hi]⟩
def Laid (w : World) : Prop := Tab w
theorem gPowType : (Tryd.prog.globals[0]?).map (·.type) = some 52 := by kernel_rfl
theorem cellsPow : Tryd.prog.cellsOf 52 = 20 := by kernel_rfl
theorem cellsU64 : Tryd.prog.cellsOf 45 = 1 := by kernel_rfl
theorem laid_one : (Rows.numSumsRow.laid.filter fun x => x.1 == "internal/strconv.uint64pow10") = [("internal/strconv.uint64pow10", Lib.tabData .u64 Lib.pow10Tab)] := by kernel_rfl
theorem laid_of {W : World} (h : laidMetH Tryd.prog Rows.numSumsRow.laid W) : Laid W := by
  have h1 := h.filter fun x => x.1 == "internal/strconv.uint64pow10"
  rw [laid_one] at h1
  rw [MakeChecks.laidMetH_plain _ _ _ (by kernel_rfl)] at h1
  exact Lib.tabIs_of_head gPow gPowType Tryd.underlying52 Tryd.underlying45 cellsU64 cellsPow h1
namespace Contract
theorem numSums (a0 : Option Addr) (len0 cap0 : Nat) (z0 : List Int) (a1 a2 : Int) (W : World) (w0 : IsRow .i64 W a0 len0 cap0 z0) (_w1 : (Lit.int .i64 a1).wf = true) (_w2 : (Lit.int .i64 a2).wf = true) (ht : Laid W) :
    Calls Tryd.prog 3 #[.slice a0 len0 cap0, .int .i64 a1, .int .i64 a2] W fun e w' => e = .returned (.bool true) ∧ Below W.heap.size W w' := by
  by_cases h : len0 ≤ 40
  · exact numSums_walk a0 len0 cap0 _ a1 a2 W w0.at h ht
  · exact numSums_long a0 len0 cap0 a1 a2 W (by omega) w0.at.2.1 ht
theorem numDigits (a0 : Int) (a1 : ByteArray) (W : World) (w0 : (Lit.int .i64 a0).wf = true) (w1 : a1.size ≤ maxLen) (ht : Laid W) :
    Calls Tryd.prog 4 #[.int .i64 a0, .string a1] W fun e w' => e = .returned (.bool true) ∧ Below W.heap.size W w' := by
  have hb := bounds_i64 w0
  unfold maxLen at w1
  by_cases h : a1.size ≤ 40
  · exact numDigits_walk a0 a1 W hb.1 hb.2 h ht
  · exact numDigits_long a0 a1 W (by omega) (by omega) ht
theorem numThere (a0 a1 : Int) (W : World) (_w0 : (Lit.int .i64 a0).wf = true) (_w1 : (Lit.int .i64 a1).wf = true) (ht : Laid W) :
    Calls Tryd.prog 5 #[.int .i64 a0, .int .i64 a1] W fun e w' => e = .returned (.bool true) ∧ Below W.heap.size W w' := numThere_walk a0 a1 W ht
theorem numBack (a0 : Int) (a1 : ByteArray) (W : World) (w0 : (Lit.int .i64 a0).wf = true) (w1 : a1.size ≤ maxLen) (ht : Laid W) :
    Calls Tryd.prog 6 #[.int .i64 a0, .string a1] W fun e w' => e = .returned (.bool true) ∧ Below W.heap.size W w' := by
  have hb := bounds_i64 w0
  unfold maxLen at w1
  exact numBack_walk a0 a1 W hb.1 hb.2 (by omega) ht
end Contract
end Go.Proofs.YtmieghihapkgeaaDoor
