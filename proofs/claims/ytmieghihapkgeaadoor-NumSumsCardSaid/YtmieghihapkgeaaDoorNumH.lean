/-
  The contract of the laws' own 'awake': the chapter's examples; it asks that the table of powers of ten is as the program's text lays it.
-/
import Derived.Test.YtmieghihapkgeaaDoorNumG
import Derived.Test.YtmieghihapkgeaaDoorNumC
namespace Go.Proofs.YtmieghihapkgeaaDoor
open Go.RowKit NumP

def Tab (w : World) : Prop := Lib.TabIs Tryd.prog w "internal/strconv.uint64pow10" .u64 Lib.pow10Tab
theorem gPow : Tryd.prog.globalNamed "internal/strconv.uint64pow10" = some 0 := by kernel_rfl
theorem Tab.size {w : World} (h : Tab w) : 0 < w.heap.size := by
  unfold Tab Lib.TabIs World.var? at h
  rw [gPow] at h
  simp only [Option.bind_some] at h
  split at h
  · rename_i hx
    exact (Array.getElem?_eq_some_iff.1 hx).1
  · cases h
theorem Tab.keep {w w' : World} (h : Tab w) (hb : Below w.heap.size w w') : Tab w' := var?_below hb gPow h.size h
theorem Tab.alloc {w : World} (h : Tab w) (o : Obj) : Tab (w.alloc o) := h.keep ((Below.refl _ _).alloc (Nat.le_refl _) o)

theorem sum_is (a : Option Addr) (len cap : Nat) (xs : List Int) (p q : Int) (w : World) (h : IntsAt w a len xs) (e1 : sumP xs = (p, q)) :
    Calls Tryd.prog 8 #[.slice a len cap] w fun e w' => e = .returned (.tuple #[.int .i64 p, .int .i64 q]) ∧ w = w' := by
  have := sum_any a len cap xs w h
  rw [e1] at this
  exact this
theorem shift_is (a b p q : Int) (w : World) (e1 : shiftP a b = (p, q)) :
    Calls Tryd.prog 14 #[.int .i64 a, .int .i64 b] w fun e w' => e = .returned (.tuple #[.int .i64 p, .int .i64 q]) ∧ w = w' := by
  have := shift_any a b w
  rw [e1] at this
  exact this
theorem number_is (s : ByteArray) (p q : Int) (w : World) (hs : s.size ≤ 9223372036854775807) (e1 : numP s.data.toList = (p, q)) :
    Calls Tryd.prog 18 #[.string s] w fun e w' => e = .returned (.tuple #[.int .i64 p, .int .i64 q]) ∧ Below w.heap.size w w' := by
  have := number_any s w hs
  rw [e1] at this
  exact this
theorem digits_is (n : Int) (s : ByteArray) (w : World) (h0 : -9223372036854775808 ≤ n) (h1 : n ≤ 9223372036854775807) (ht : Tab w) (e1 : Lib.itoa n = s.data.toList) :
    Calls Tryd.prog 20 #[.int .i64 n] w fun e w' => e = .returned (.string s) ∧ Below w.heap.size w w' := by
  have := digits_any n w h0 h1 ht
  rw [e1, Lib.mk_data] at this
  exact this
theorem itoa_m12 : Lib.itoa (-12) = [45, 49, 50] := by
  rw [itoa_step_neg (m := 12) (by omega), itoa_small_neg (m := 12 / 10) (by omega) (by omega)]
  rfl

theorem awake_any (w : World) (ht : Tab w) :
    Calls Tryd.prog 7 #[] w fun e w' => e = .returned (.bool true) ∧ Below w.heap.size w w' := by
  have HT := Lib.hid ht; clear ht
  go_enter Tryd.func7, Tryd.ntmps7
  go_wp2_with fail
  refine (sum_is _ _ _ [2, 3] 5 0 _ (intsAt_two w 2 3) (by decide)).mono ?_
  rintro e w' ⟨rfl, rfl⟩
  have hb0 : Below w.heap.size w (w.alloc (.cells #[.int .i64 2, .int .i64 3] 3)) := (Below.refl _ _).alloc (Nat.le_refl _) _
  generalize (w.alloc (.cells #[.int .i64 2, .int .i64 3] 3)) = w1 at *
  go_wp2_with fail
  refine (shift_is 2 (-3) 0 6 _ (by decide)).mono ?_
  rintro e w' ⟨rfl, rfl⟩
  go_wp2_with fail
  refine (number_is _ 0 7 _ (by decide) (by decide)).mono ?_
  rintro e w2 ⟨rfl, hb1⟩
  have hc1 := hb0.trans (hb1.mono hb0.size)
  go_wp2_with fail
  refine (number_is _ (-12) 0 _ (by decide) (by decide)).mono ?_
  rintro e w3 ⟨rfl, hb2⟩
  have hc2 := hc1.trans (hb2.mono hc1.size)
  clear hc1 hb1 hb2 hb0
  go_wp2_with fail
  refine (digits_is (-12) ⟨#[45, 49, 50]⟩ _ (by omega) (by omega) (HT.out.keep hc2) itoa_m12).mono ?_
  rintro e w4 ⟨rfl, hb3⟩
  have hc3 := hc2.trans (hb3.mono hc2.size)
  clear hc2 hb3
  go_wp2_with fail
  refine (fit_yes 0 _ (by omega) (by omega)).mono ?_
  rintro e w5 ⟨rfl, rfl⟩
  go_wp2_with fail
  refine (fit_no (-1) _ (by omega)).mono ?_
  rintro e w5 ⟨rfl, rfl⟩
  go_wp2_with fail
  go_ret
  exact ⟨rfl, hc3⟩
end Go.Proofs.YtmieghihapkgeaaDoor
