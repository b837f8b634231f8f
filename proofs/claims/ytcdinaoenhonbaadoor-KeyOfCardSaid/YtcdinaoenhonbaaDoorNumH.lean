/-
  The contract of the laws' own 'awake': the chapter's examples; it asks that the table of powers of ten is as the program's text lays it.
-/
import Derived.Test.YtcdinaoenhonbaaDoorNumG
import Derived.Test.YtcdinaoenhonbaaDoorNumA
set_option maxRecDepth 4000
namespace Go.Proofs.YtcdinaoenhonbaaDoor.Num
open Go.RowKit NumP

def Tab (w : World) : Prop := Lib.TabIs Tryd.prog w "internal/strconv.uint64pow10" .u64 Lib.pow10Tab
theorem gPow : Tryd.prog.globalNamed "internal/strconv.uint64pow10" = some 1 := by kernel_rfl
theorem Tab.size {w : World} (h : Tab w) : 1 < w.heap.size := by
  unfold Tab Lib.TabIs World.var? at h
  rw [gPow] at h
  simp only [Option.bind_some] at h
  split at h
  · rename_i hx
    exact (Array.getElem?_eq_some_iff.1 hx).1
  · cases h
theorem Tab.keep {w w' : World} (h : Tab w) (hb : Below w.heap.size w w') : Tab w' := var?_below hb gPow h.size h
theorem Tab.alloc {w : World} (h : Tab w) (o : Obj) : Tab (w.alloc o) := h.keep ((Below.refl _ _).alloc (Nat.le_refl _) o)

theorem number_is (s : ByteArray) (p q : Int) (w : World) (hs : s.size ≤ 9223372036854775807) (e1 : numP s.data.toList = (p, q)) :
    Calls Tryd.prog 20 #[.string s] w fun e w' => e = .returned (.tuple #[.int .i64 p, .int .i64 q]) ∧ Below w.heap.size w w' := by
  have := number_any s w hs
  rw [e1] at this
  exact this
theorem digits_is (n : Int) (s : ByteArray) (w : World) (h0 : -9223372036854775808 ≤ n) (h1 : n ≤ 9223372036854775807) (ht : Tab w) (e1 : Lib.itoa n = s.data.toList) :
    Calls Tryd.prog 23 #[.int .i64 n] w fun e w' => e = .returned (.string s) ∧ Below w.heap.size w w' := by
  have := digits_any n w h0 h1 ht
  rw [e1, Lib.mk_data] at this
  exact this
theorem itoa_m12 : Lib.itoa (-12) = [45, 49, 50] := by
  rw [itoa_step_neg (m := 12) (by omega), itoa_small_neg (m := 12 / 10) (by omega) (by omega)]
  rfl

end Go.Proofs.YtcdinaoenhonbaaDoor.Num
