/-
  The contract of Waits: any disk.
-/
import Derived.Test.YtklklcohbfnpjaaDiskI
set_option linter.unusedVariables false
set_option maxRecDepth 4000
namespace Go.Proofs.Ytklklcohbfnpjaa
open Go.RowKit Go.Shelf DiskP

theorem owns_mono {w : World} {B B' n size : Nat} {e : TypeId} {v : Value} {xs : List Value} (h : w.ownsRow B e size v n xs) (hB : B' ≤ B) : w.ownsRow B' e size v n xs := by
  refine ⟨h.1, ?_⟩
  rcases h.2 with hn | ⟨g, cap, cur, hv, hbg, rest⟩
  · exact .inl hn
  · exact .inr ⟨g, cap, cur, hv, Nat.le_trans hB hbg, rest⟩
theorem each_in (i : Nat) (n : Nat) (w : World) : CallsIn Fence.wide n Try.prog 43 (#[.int .i64 (i : Int)] ++ #[]) w fun e w' => e = .returned (.bool true) ∧ w = w' := callsIn_wide.2 (each_any (i : Int) w)
theorem cell_two {w : World} {v1 v2 : Value} {t1 t2 : TypeId} :
    ((w.alloc (.cells #[v1] t1)).alloc (.cells #[v2] t2)).cell? ⟨w.heap.size, 0, none⟩ = some v1 ∧ ((w.alloc (.cells #[v1] t1)).alloc (.cells #[v2] t2)).cell? ⟨w.heap.size + 1, 0, none⟩ = some v2 := by
  have h1 : (w.alloc (.cells #[v1] t1)).heap[w.heap.size]? = some (.cells #[v1] t1) := heap_alloc_new w _
  have h2 : ((w.alloc (.cells #[v1] t1)).alloc (.cells #[v2] t2)).heap[w.heap.size + 1]? = some (.cells #[v2] t2) := by
    have := heap_alloc_new (w.alloc (.cells #[v1] t1)) (.cells #[v2] t2)
    simpa using this
  refine ⟨?_, cell_of_heap h2⟩
  exact cell_of_heap (i := 0) ((Below.heap_alloc _ _ _ (by simp)).trans h1)
/-- What pending hands back when each is asked for. -/
theorem pend_each (b : Nat) (st : St) (L : List Nat) (n : Nat) (gs : List Nat) (w : World) (h : Dk w L b st) (hn : st.W.length ≤ 1000000000) (h2 : 2 ≤ n) (hgs : ∀ g z cap wv, DkAt w b st z g cap wv → ∀ k, k = w.heap.size + 1 ∨ wv.ownBlock = some k → k ∉ gs) :
    SeqStopsK Fence.wide n Try.prog 60 #[.pointer (some ⟨w.heap.size, 0, none⟩), .pointer (some ⟨w.heap.size + 1, 0, none⟩)] (fun x : Wr => #[wval x]) (But (w.heap.size + 2) gs) (fun xs => xs = st.W) (fun _ => True) st.W.length
      ((w.alloc (.cells #[.pointer (some ⟨b, 0, none⟩)] 33)).alloc (.cells #[.func (.func 43) #[] #[]] 65)) := by
  obtain ⟨z, g, cap, wv, h, rfl⟩ := h
  have hc := cell_two (w := w) (v1 := .pointer (some ⟨b, 0, none⟩)) (v2 := .func (.func 43) #[] #[]) (t1 := 33) (t2 := 65)
  have hb : Below w.heap.size w ((w.alloc (.cells #[.pointer (some ⟨b, 0, none⟩)] 33)).alloc (.cells #[.func (.func 43) #[] #[]] 65)) := ((Below.refl _ w).alloc (Nat.le_refl _) _).alloc (by simp) _
  have hs := pend_stops 43 #[] (fun _ => true) (enters_of Try.func43 (by kernel_rfl) rfl) w.heap.size (w.heap.size + 1) b (w.heap.size + 2) n gs st.W wv h2 _
    (fun i W' _ _ => each_in i _ W') hc.1 hc.2 ⟨by omega, hgs _ _ _ _ h _ (.inl rfl)⟩ ((hb.cell (p := ⟨b, 4, none⟩) (heap_lt h.blk)).trans (cell_of_heap h.blk)) (owns_heap h.wts (fun k e => hb.block k (owns_lt h.wts e)))
    (fun k e => ⟨by have := owns_lt h.wts e; omega, hgs _ _ _ _ h _ (.inr e)⟩) hn (by simp)
  rw [selT_all _ _ (Nat.le_refl _), List.take_length] at hs
  exact hs
theorem waits_no (p : Option Addr) (w : World) (h : NoDisk w p) : Calls Try.prog 31 #[.pointer p] w fun e w' => e = .returned (.slice none 0 0) ∧ w = w' := by
  go_enter Try.func31, Try.ntmps31
  go_wp2_with fail
  refine (made_no p w h).mono ?_
  rintro e w' ⟨rfl, rfl⟩
  go_wp2_with fail
  go_ret
  exact ⟨rfl, rfl⟩
theorem waits_dk (b n : Nat) (st : St) (L : List Nat) (w : World) (h : Dk w L b st) (hok : Ok n st) (hn : n ≤ 1000000000) :
    Calls Try.prog 31 #[.pointer (some ⟨b, 0, none⟩)] w (Gathers w st.W) := by
  have hm := made_dk b st L w h
  have hwn : st.W.length ≤ 1000000000 := by have := hok.wn; omega
  have hp := pend_each b st L 4 [] w h hwn (by omega) (fun _ _ _ _ _ k _ => by simp)
  have HM := Lib.hid hm; have HP := Lib.hid hp
  clear hm hp hok h
  go_enter Try.func31, Try.ntmps31
  go_wp2_with fail
  refine HM.out.mono ?_
  rintro e w' ⟨rfl, rfl⟩
  go_wp2_with fail
  refine (pending_any b 43 #[] w).mono ?_
  rintro e w1 ⟨rfl, hw1⟩
  have hsz : w1.heap.size = w.heap.size + 2 := by rw [hw1]; simp
  have hb1 : Below w.heap.size w w1 := by rw [hw1]; exact ((Below.refl _ w).alloc (Nat.le_refl _) _).alloc (by simp) _
  have hp := HP.out
  rw [← hw1, ← hsz] at hp
  have HC := Lib.hid (collect_any _ _ (enters_of Try.func60 (by kernel_rfl) rfl) st.W _ [] w1 hp hwn)
  have HB1 := Lib.hid hb1; have HSZ := Lib.hid hsz
  clear hp hw1 hsz hb1
  go_wp2_with fail
  refine HC.out.mono ?_
  rintro e w2 ⟨v, rfl, hown, hb⟩
  have HO := Lib.hid (owns_mono hown (show w.heap.size ≤ w1.heap.size by rw [HSZ.out]; omega)); have HB := Lib.hid (HB1.out.trans (hb.mono (show w.heap.size ≤ w1.heap.size by rw [HSZ.out]; omega)))
  clear hown hb
  go_wp2_with fail
  go_ret
  exact ⟨v, rfl, HO.out, HB.out⟩
end Go.Proofs.Ytklklcohbfnpjaa
