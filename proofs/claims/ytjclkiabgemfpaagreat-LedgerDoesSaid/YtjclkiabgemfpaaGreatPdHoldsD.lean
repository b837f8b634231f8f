/-
  The contracts of the document's Few and Find: any holds; what was there stays as it was.
-/
import Derived.Test.YtjclkiabgemfpaaGreatPdHoldsC
import Derived.Lib.BufferWrite
set_option linter.unusedVariables false
set_option maxRecDepth 4000
set_option maxRecDepth 4000
namespace Go.Proofs.YtjclkiabgemfpaaGreat.Holds
open Go.RowKit LinesP HoldsP
open Go.Proofs.YtjclkiabgemfpaaGreat.Lines (LsAt Sz SzM ret_bool ret_int below_keep below_drewN fewV)

theorem cell_of_heap {w : World} {b i : Nat} {cs : Array Value} {t : TypeId} {fr : Nat × Nat} (h : w.heap[b]? = some (.cells cs t fr)) : w.cell? ⟨b, i, none⟩ = cs[i]? := by simp [World.cell?, h]
theorem frozen_of_heap {w : World} {b i : Nat} {cs : Array Value} {t : TypeId} (h : w.heap[b]? = some (.cells cs t (0, 0))) : w.frozen? ⟨b, i, none⟩ = false := by simp [World.frozen?, h]
theorem heap_lt {w : World} {b : Nat} {o : Obj} (h : w.heap[b]? = some o) : b < w.heap.size := (Array.getElem?_eq_some_iff.1 h).1
abbrev At3 (w : World) (b : Nat) (v0 v1 v2 : Value) : Prop := w.heap[b]? = some (.cells #[v0, v1, v2] 69 (0, 0))
theorem cells3 {w : World} {v0 v1 v2 : Value} {b : Nat} (h : At3 w b v0 v1 v2) : w.cell? ⟨b, 0, none⟩ = some v0 ∧ w.cell? ⟨b, 1, none⟩ = some v1 ∧ w.cell? ⟨b, 2, none⟩ = some v2 := by
  refine ⟨?_, ?_, ?_⟩ <;> (rw [cell_of_heap h]; rfl)
theorem free3 {w : World} {v0 v1 v2 : Value} {b : Nat} (h : At3 w b v0 v1 v2) : w.frozen? ⟨b, 0, none⟩ = false ∧ w.frozen? ⟨b, 1, none⟩ = false ∧ w.frozen? ⟨b, 2, none⟩ = false :=
  ⟨frozen_of_heap h, frozen_of_heap h, frozen_of_heap h⟩
theorem At3.keep {w w' : World} {v0 v1 v2 : Value} {b : Nat} (h : At3 w b v0 v1 v2) (hb : Below w.heap.size w w') : At3 w' b v0 v1 v2 := (hb.block b (heap_lt h)).trans h
theorem at3_new (w : World) (v0 v1 v2 : Value) : At3 (w.alloc (.cells #[v0, v1, v2] 69)) w.heap.size v0 v1 v2 := heap_alloc_new w _
theorem At3.alloc {w : World} {v0 v1 v2 : Value} {b : Nat} (h : At3 w b v0 v1 v2) (o : Obj) : At3 (w.alloc o) b v0 v1 v2 := h.keep ((Below.refl _ _).alloc (Nat.le_refl _) o)
theorem At3.drewN {w : World} {v0 v1 v2 : Value} {b : Nat} (h : At3 w b v0 v1 v2) (n : Nat) : At3 (w.drewN n) b v0 v1 v2 := h
abbrev put3 (w : World) (k : Nat) (v0 v1 v2 : Value) : World := ((w.setCell ⟨k, 0, none⟩ v0).setCell ⟨k, 1, none⟩ v1).setCell ⟨k, 2, none⟩ v2
theorem heap_put3 {w : World} {k : Nat} {x0 x1 x2 : Value} (h : At3 w k x0 x1 x2) (v0 v1 v2 : Value) : At3 (put3 w k v0 v1 v2) k v0 v1 v2 := by
  have h1 := Lib.heap_setCell_same (i := 0) h v0
  have h2 := Lib.heap_setCell_same (i := 1) h1 v1
  exact Lib.heap_setCell_same (i := 2) h2 v2
theorem put3_other {w : World} {k : Nat} (v0 v1 v2 : Value) {j : Nat} (h : j ≠ k) : (put3 w k v0 v1 v2).heap[j]? = w.heap[j]? := by
  unfold put3
  rw [heap_setCell_other _ _ _ _ (by exact h), heap_setCell_other _ _ _ _ (by exact h), heap_setCell_other _ _ _ _ (by exact h)]
theorem size_put3 (w : World) (k : Nat) (v0 v1 v2 : Value) : (put3 w k v0 v1 v2).heap.size = w.heap.size := by simp [put3]
theorem below_put3 {B : Nat} {w0 w : World} {k : Nat} (h : Below B w0 w) (hk : B ≤ k) (v0 v1 v2 : Value) : Below B w0 (put3 w k v0 v1 v2) :=
  ((h.setCell (p := ⟨k, 0, none⟩) hk _).setCell (p := ⟨k, 1, none⟩) hk _).setCell (p := ⟨k, 2, none⟩) hk _
theorem results_hold {fn : Func} {j k : Nat} (h : fn.results = #[.cell j 69, .tmp k]) (tmps : Array Value) (w : World) (b : Nat) (x0 x1 x2 : Value) (hp : tmps.getD j undef = .pointer (some ⟨b, 0, none⟩))
    (c : At3 w b x0 x1 x2) : (results fn tmps).run Tryz.prog w = .ok (.tuple #[.agg #[x0, x1, x2], tmps.getD k undef]) w := by
  have hp' : tmps[j]?.getD undef = .pointer (some ⟨b, 0, none⟩) := by rw [← hp]; simp
  obtain ⟨c0, c1, c2⟩ := cells3 c
  simp only [results, h]
  go_simp
theorem results_one {fn : Func} {j : Nat} (h : fn.results = #[.cell j 69]) (tmps : Array Value) (w : World) (b : Nat) (x0 x1 x2 : Value) (hp : tmps.getD j undef = .pointer (some ⟨b, 0, none⟩))
    (c : At3 w b x0 x1 x2) : (results fn tmps).run Tryz.prog w = .ok (.agg #[x0, x1, x2]) w := by
  have hp' : tmps[j]?.getD undef = .pointer (some ⟨b, 0, none⟩) := by rw [← hp]; simp
  obtain ⟨c0, c1, c2⟩ := cells3 c
  simp only [results, h]
  go_simp
/-! ### Few -/
def shortH (l : List Hd) : Bool := l.all fun x => fewV x.ls
def fewH (l : List Hd) : Bool := shortH (l.take 20) && decide (l.length ≤ 20)
def SzMH (l : List Hd) : Prop := ∀ x ∈ l, SzM x.ls
theorem fewH_sz {l : List Hd} (h : fewH l = true) (hm : SzMH l) : l.length ≤ 20 ∧ SzH l ∧ ∀ x ∈ l, x.ls.length ≤ 8 := by
  unfold fewH at h
  rw [Bool.and_eq_true, decide_eq_true_eq] at h
  rw [List.take_of_length_le h.2] at h
  have h1 := List.all_eq_true.1 h.1
  exact ⟨h.2, fun x hx => (Lines.few_sz (h1 x hx) (hm x hx)).2, fun x hx => (Lines.few_sz (h1 x hx) (hm x hx)).1⟩
theorem take_snocH {l : List Hd} {k : Nat} {x : Hd} (hk : k < l.length) (hx : l.getD k hd0 = x) : l.take (k + 1) = l.take k ++ [x] := by
  rw [List.take_succ_eq_append_getElem hk, ← hx]; simp [List.getD, hk]
theorem mem_getD {l : List Hd} {k : Nat} (hk : k < l.length) : l.getD k hd0 ∈ l := by
  rw [show l.getD k hd0 = l[k] by simp [List.getD, hk]]; exact List.getElem_mem hk
theorem shortH_snoc {l : List Hd} {x : Hd} {k : Nat} (hk : k < l.length) (hx : l.getD k hd0 = x) (h : shortH (l.take k) = true) (hq : fewV x.ls = true) : shortH (l.take (k + 1)) = true := by
  unfold shortH at *
  rw [take_snocH hk hx, List.all_append, h]; simpa using hq
theorem fewH_no {l : List Hd} {x : Hd} {k : Nat} (hk : k < l.length) (h20 : k < 20) (hx : l.getD k hd0 = x) (hq : fewV x.ls = false) : fewH l = false := by
  unfold fewH shortH
  have : (l.take 20).all (fun x => fewV x.ls) = false := by
    rw [List.all_eq_false]
    refine ⟨x, ?_, by simpa using hq⟩
    rw [← hx, show l.getD k hd0 = l[k] by simp [List.getD, hk]]
    exact List.mem_take_iff_getElem.2 ⟨k, by omega, rfl⟩
  rw [this]; rfl
theorem fewH_end {l : List Hd} {k : Nat} (hk : k = l.length ∨ k = 20) (h : shortH (l.take k) = true) : fewH l = decide (l.length ≤ 20) := by
  rcases hk with rfl | rfl
  · unfold fewH
    by_cases h8 : l.length ≤ 20
    · rw [List.take_of_length_le h8]; rw [List.take_length] at h; rw [h]; simp
    · simp [h8]
  · unfold fewH; rw [h]; simp
theorem rfewL_is (la : Option Addr) (n lc : Nat) (ls : List Ln) (b : Bool) (hb : fewV ls = b) (w : World) (h : LsAt w la n ls) (hs : SzM ls) :
    Calls Tryz.prog 19 #[.slice la n lc] w fun e w' => e = .returned (.bool b) ∧ Below w.heap.size w w' := by
  have := Lines.rfew_any la n lc ls w h hs
  rw [hb] at this
  exact this
set_option maxHeartbeats 1000000 in
theorem rfew_any (a : Option Addr) (len cap : Nat) (l : List Hd) (w : World) (h : HsAt w a len l) (hs : SzMH l) :
    Calls Tryz.prog 18 #[.slice a len cap] w fun e w' => e = .returned (.bool (fewH l)) ∧ Below w.heap.size w w' := by
  have HX := Lib.hid h
  have HS := Lib.hid hs
  obtain ⟨v, hv⟩ : ∃ v, fewH l = v := ⟨_, rfl⟩
  rw [hv]
  have HV := Lib.hid hv
  have hl := h.le
  clear hv h hs
  go_enter Tryz.func18, Tryz.ntmps18
  go_wp2_with fail
  go_loopw [3] (fun i wr => ∃ k : Nat, k ≤ len ∧ k ≤ 20 ∧ i = .int .i64 (k : Int) ∧ Hid (shortH (l.take k) = true) ∧ Hid (Below w.heap.size w wr)) (fun i _ => len - (intOf i).toNat)
  case atStart => exact ⟨0, Nat.zero_le _, Nat.zero_le _, rfl, Lib.hid rfl, Below.refl _ _⟩
  case round =>
    obtain ⟨k, hk, hk20, rfl, hF, hB⟩ := hrel
    by_cases hlk : k < len
    · by_cases h20 : k < 20
      · have hkx : k < l.length := by rw [HX.out.len]; exact hlk
        obtain ⟨b1, o1, g, la, lc, ls, t, rfl, g1, hp, hc1⟩ := HX.out.at hlk
        have hsz := HS.out _ (mem_getD hkx)
        rw [hp] at hsz
        obtain ⟨_, d2, _, dL⟩ := hc1 wr hB.out
        obtain ⟨n, hn⟩ : ∃ n, ls.length = n := ⟨_, rfl⟩
        rw [hn] at d2 dL
        clear hn hc1
        cases hq : fewV ls with
        | false =>
          have C := Lib.hid (rfewL_is la n lc ls false hq wr dL hsz)
          have HNO : Hid (v = false) := by show v = _; rw [← HV.out]; exact fewH_no hkx h20 hp hq
          clear hkx hp hF dL hsz hq
          go_wp2_with fail
          refine C.out.mono ?_
          rintro e w1 ⟨rfl, hb⟩
          have HB1 := Lib.hid (below_keep hB.out hb hB.out.size)
          go_wp2_with fail
          go_ret
          exact ⟨ret_bool HNO.out, HB1.out⟩
        | true =>
          have C := Lib.hid (rfewL_is la n lc ls true hq wr dL hsz)
          have HF2 : Hid (shortH (l.take (k + 1)) = true) := shortH_snoc hkx hp hF.out hq
          clear hkx hp hF dL hsz hq
          go_wp2_with fail
          refine C.out.mono ?_
          rintro e w1 ⟨rfl, hb⟩
          have HB1 := Lib.hid (below_keep hB.out hb hB.out.size)
          go_wp2_with fail
          go_roundw
          case rel => exact ⟨k + 1, by omega, by omega, by go_num, HF2, HB1⟩
          case measure => simp [intOf]; omega
      · obtain rfl : k = 20 := by omega
        have HNO : Hid (v = false) := by
          show v = _
          rw [← HV.out, fewH_end (.inr rfl) hF.out, HX.out.len]
          exact decide_eq_false (by omega)
        have HD : Hid (false = decide ((len : Int) ≤ 20)) := (decide_eq_false (by omega)).symm
        go_wp2_with fail
        go_ret
        exact ⟨ret_bool (HNO.out.trans HD.out), hB.out⟩
    · obtain rfl : k = len := by omega
      have HE : Hid (v = true) := by show v = _; rw [← HV.out, fewH_end (.inl HX.out.len.symm) hF.out, HX.out.len]; exact decide_eq_true hk20
      have HD : Hid (true = decide ((k : Int) ≤ 20)) := (decide_eq_true (by omega)).symm
      go_wp2_with fail
      go_ret
      exact ⟨ret_bool (HE.out.trans HD.out), hB.out⟩
/-! ### Find -/
def FindP (w : World) (o : Option Hd) (e : Ending) (w' : World) : Prop :=
  ∃ a c, e = .returned (.tuple #[.agg #[.int .i64 (o.getD hd0).saga, .slice a (o.getD hd0).ls.length c, .int .i64 (o.getD hd0).til], .bool o.isSome]) ∧ LsAt w' a (o.getD hd0).ls.length (o.getD hd0).ls ∧ Below w.heap.size w w'
theorem find_no {w w' : World} {o : Option Hd} (ho : o = none) (hb : Below w.heap.size w w') : FindP w o (.returned (.tuple #[.agg #[.int .i64 0, .slice none 0 0, .int .i64 0], .bool false])) w' := by
  subst ho
  exact ⟨none, 0, rfl, ⟨rfl, by decide, .inl rfl⟩, hb⟩
theorem find_yes {w w' : World} {o : Option Hd} {g : Int} {ls : List Ln} {t : Int} {a : Option Addr} {n c : Nat} (ho : o = some ⟨g, ls, t⟩) (hn : ls.length = n) (hL : LsAt w' a n ls) (hb : Below w.heap.size w w') :
    FindP w o (.returned (.tuple #[.agg #[.int .i64 g, .slice a n c, .int .i64 t], .bool true])) w' := by
  subst ho
  subst hn
  exact ⟨a, c, rfl, hL, hb⟩
set_option maxHeartbeats 1000000 in
theorem rfind_any (a : Option Addr) (len cap : Nat) (l : List Hd) (g0 : Int) (w : World) (h : HsAt w a len l) :
    Calls Tryz.prog 67 #[.slice a len cap, .int .i64 g0] w (FindP w (findH g0 l)) := by
  have hl := h.le
  obtain ⟨o, ho⟩ : ∃ o, findH g0 l = o := ⟨_, rfl⟩
  rw [ho]
  have HX := Lib.hid h
  have HV : Hid (o = findH g0 (l.drop 0)) := ho.symm
  clear h ho
  have H0 := Lib.hid (at3_new w (.int .i64 0) (.slice none 0 0) (.int .i64 0))
  have HB0 := Lib.hid (box_below w 0 none 0 0 0)
  unfold box at HB0
  go_enter Tryz.func67, Tryz.ntmps67
  go_wp2_with fail
  go_loopw [6] (fun i wr => ∃ k : Nat, k ≤ len ∧ i = .int .i64 (k : Int) ∧ Hid (o = findH g0 (l.drop k)) ∧ Hid (Below w.heap.size w wr) ∧ Hid (At3 wr w.heap.size (.int .i64 0) (.slice none 0 0) (.int .i64 0))) (fun i _ => len - (intOf i).toNat)
  case atStart => exact ⟨0, Nat.zero_le _, rfl, HV, HB0, H0⟩
  case round =>
    obtain ⟨k, hk, rfl, hd, hB, hA⟩ := hrel
    obtain ⟨z0, z1, z2⟩ := cells3 hA.out
    obtain ⟨f0, f1, f2⟩ := free3 hA.out
    by_cases hlk : k < len
    · have hkx : k < l.length := by rw [HX.out.len]; exact hlk
      obtain ⟨b1, o1, g, la, lc, ls, t, rfl, g1, hp, hc1⟩ := HX.out.at hlk
      obtain ⟨d1, d2, d3, dL⟩ := hc1 wr hB.out
      obtain ⟨n, hn⟩ : ∃ n, ls.length = n := ⟨_, rfl⟩
      rw [hn] at d2 dL
      have HN := Lib.hid hn
      by_cases heq : g = g0
      · subst heq
        have HD : Hid (o = some ⟨g, ls, t⟩) := hd.out.trans (find_drop_yes hkx hp rfl)
        have HB2 := Lib.hid (below_put3 hB.out (Nat.le_refl _) (.int .i64 g) (.slice la n lc) (.int .i64 t))
        have HL2 : Hid (LsAt (put3 wr w.heap.size (.int .i64 g) (.slice la n lc) (.int .i64 t)) la n ls) := by have := (hc1 _ HB2.out).2.2.2; rw [hn] at this; exact this
        clear hkx hp hd hn hc1 dL
        go_wp2_with fail
        have HRS := Lib.hid (heap_put3 hA.out (.int .i64 g) (.slice la n lc) (.int .i64 t))
        exact bodyPost_ret (results_hold (j := 4) (k := 5) rfl _ _ w.heap.size _ _ _ rfl HRS.out) rfl (find_yes HD.out HN.out HL2.out HB2.out)
      · have HD := Lib.hid (hd.out.trans (find_drop_no hkx hp heq))
        clear hkx hp hd hn hc1 dL
        go_wp2_with fail
        go_roundw
        case rel => exact ⟨k + 1, by omega, by go_num, HD, hB, hA⟩
        case measure => simp [intOf]; omega
    · obtain rfl : k = len := by omega
      have HD : Hid (o = none) := hd.out.trans (find_drop_done (by rw [HX.out.len]; exact hlk))
      have HB2 := Lib.hid (below_put3 hB.out (Nat.le_refl _) (.int .i64 0) (.slice none 0 0) (.int .i64 0))
      clear hd
      go_wp2_with fail
      have HRS := Lib.hid (heap_put3 hA.out (.int .i64 0) (.slice none 0 0) (.int .i64 0))
      exact bodyPost_ret (results_hold (j := 4) (k := 5) rfl _ _ w.heap.size _ _ _ rfl HRS.out) rfl (find_no HD.out HB2.out)
end Go.Proofs.YtjclkiabgemfpaaGreat.Holds
