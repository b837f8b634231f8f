/-
  The contracts of the document's Split and Number: texts of up to 300 octets; what was there stays as it was.
-/
import Derived.Test.YtcdinaoenhonbaaDoorKeyB
import Derived.Test.YtcdinaoenhonbaaDoorNumF
import Derived.Test.YtcdinaoenhonbaaDoorRwName
set_option linter.unusedVariables false
set_option linter.unusedSimpArgs false
set_option maxRecDepth 4000
namespace Go.Proofs.YtcdinaoenhonbaaDoor.Key
open Go.RowKit KeyP
open Go.Proofs.YtcdinaoenhonbaaDoor.Kt
open StP (parts cutAt parts_one parts_more cut_mk cut_none)
/-- Texts in a block. -/
def PaAt (w : World) (h : Nat) (P : List ByteArray) : Prop := h < w.heap.size ∧ ∀ i x, P[i]? = some x → w.cell? ⟨h, i, none⟩ = some (.string x)
theorem PaAt.keep {w w' : World} {h : Nat} {P : List ByteArray} (p : PaAt w h P) (hb : Below w.heap.size w w') : PaAt w' h P :=
  ⟨by have := p.1; have := hb.size; omega, fun i x hx => (hb.cell (p := ⟨h, i, none⟩) p.1).trans (p.2 i x hx)⟩
theorem PaAt.keepH {w w' : World} {h : Nat} {P : List ByteArray} (p : PaAt w h P) (hs : w.heap.size ≤ w'.heap.size) (hb : w'.heap[h]? = w.heap[h]?) : PaAt w' h P :=
  ⟨by have := p.1; omega, fun i x hx => (World.cell?_of_block (a := ⟨h, i, none⟩) hb).trans (p.2 i x hx)⟩
theorem cons_at (s : ByteArray) (k : Nat) (h : k < s.size) : s.data.toList.drop k = s[k] :: s.data.toList.drop (k + 1) := by
  have h2 : k < s.data.toList.length := by rw [← size_list]; exact h
  rw [List.drop_eq_getElem_cons h2]
  rfl
theorem ext_list (s : ByteArray) (i j : Nat) : (s.extract i j).data.toList = (s.data.toList.drop i).take (j - i) := by
  rw [ByteArray.data_extract, Array.toList_extract, List.extract_eq_take_drop]
/-- What Split has told so far: the parts, where the next one begins. -/
def Cuts (c : UInt8) (L : List UInt8) (D : List ByteArray) (f k : Nat) : Prop :=
  parts c L = D.map (·.data.toList) ++ parts c (L.drop f) ∧ c ∉ (L.drop f).take (k - f) ∧ D.length ≤ k
theorem Cuts.start (c : UInt8) (L : List UInt8) : Cuts c L [] 0 0 := ⟨rfl, by simp, Nat.le_refl _⟩
theorem Cuts.no {c : UInt8} {s : ByteArray} {D : List ByteArray} {f k : Nat} (h : Cuts c s.data.toList D f k) (hf : f ≤ k) (hk : k < s.size) (hc : s[k] ≠ c) : Cuts c s.data.toList D f (k + 1) := by
  refine ⟨h.1, ?_, by have := h.2.2; omega⟩
  have h3 : ((s.data.toList.drop f).take (k + 1 - f)) = (s.data.toList.drop f).take (k - f) ++ [s[k]] := by
    have e : k + 1 - f = (k - f) + 1 := by omega
    have h2 : k - f < (s.data.toList.drop f).length := by rw [List.length_drop, ← size_list]; omega
    rw [e, List.take_succ_eq_append_getElem h2]
    congr 1
    have := cons_at s k hk
    have e2 : (s.data.toList.drop f).drop (k - f) = s.data.toList.drop k := by rw [List.drop_drop]; congr 1; omega
    have h4 := List.drop_eq_getElem_cons h2
    rw [e2, this] at h4
    rw [(List.cons.inj h4).1]
  rw [h3]
  intro hm
  rcases List.mem_append.1 hm with hm | hm
  · exact h.2.1 hm
  · simp at hm; exact hc hm.symm
theorem Cuts.yes {c : UInt8} {s : ByteArray} {D : List ByteArray} {f k : Nat} (h : Cuts c s.data.toList D f k) (hf : f ≤ k) (hk : k < s.size) (hc : s[k] = c) : Cuts c s.data.toList (D ++ [s.extract f k]) (k + 1) (k + 1) := by
  refine ⟨?_, by simp, by have := h.2.2; simp; omega⟩
  have e2 : (s.data.toList.drop f).drop (k - f) = s.data.toList.drop k := by rw [List.drop_drop]; congr 1; omega
  have h5 : s.data.toList.drop f = (s.data.toList.drop f).take (k - f) ++ c :: s.data.toList.drop (k + 1) := by
    rw [← hc, ← cons_at s k hk, ← e2, List.take_append_drop]
  have h6 : parts c (s.data.toList.drop f) = (s.data.toList.drop f).take (k - f) :: parts c (s.data.toList.drop (k + 1)) := by
    refine parts_more ?_
    rw (occs := .pos [1]) [h5]
    exact cut_mk _ _ h.2.1
  rw [h.1, h6, List.map_append]
  simp
theorem Cuts.done {c : UInt8} {s : ByteArray} {D : List ByteArray} {f : Nat} (h : Cuts c s.data.toList D f s.size) : (D ++ [s.extract f s.size]).map (·.data.toList) = parts c s.data.toList := by
  have h2 : (s.data.toList.drop f).take (s.size - f) = s.data.toList.drop f := List.take_of_length_le (by rw [List.length_drop, ← size_list]; exact Nat.le_refl _)
  have h3 := h.2.1
  rw [h2] at h3
  rw [h.1, parts_one (cut_none h3), List.map_append]
  simp [h2]
theorem ext_all (s : ByteArray) (f : Nat) (h : f ≤ s.size) : (s.extract f s.size).size ≤ s.size := by rw [ByteArray.size_extract]; omega
/-- Texts in memory, at least one. -/
def SplitOut (w : World) (ps : List (List UInt8)) (e : Ending) (w' : World) : Prop :=
  Below w.heap.size w w' ∧ ∃ (P : List ByteArray) (g cap : Nat), P.map (·.data.toList) = ps ∧ e = .returned (.slice (some ⟨g, 0, none⟩) P.length cap) ∧ PaAt w' g P ∧ w.heap.size ≤ g
theorem split_out {w w' : World} {ps : List (List UInt8)} {P : List ByteArray} {n : Nat} {v : Value} (h : P.map (·.data.toList) = ps) (hn : P.length = n) (h1 : 0 < n) (ho : w'.ownsRow w.heap.size 9 1 v n (Rw.cells Rw.strS P)) (hb : Below w.heap.size w w') : SplitOut w ps (.returned v) w' := by
  subst hn
  rcases Rw.owns_form ho with ⟨_, h0⟩ | ⟨g, cap, rfl, hge, hlt⟩
  · omega
  · exact ⟨hb, P, g, cap, h, rfl, ⟨hlt, fun i x hx => Rw.owns_cell ho rfl (Rw.str_get hx)⟩, hge⟩
set_option maxHeartbeats 2000000 in
theorem rsplit_any (s : ByteArray) (c : UInt8) (ci : Int) (hci : ci = (c.toNat : Int)) (w : World) (hs : s.size ≤ 300) :
    Calls Tryd.prog 21 #[.string s, .int .u8 ci] w (SplitOut w (parts c s.data.toList)) := by
  obtain ⟨ps, hps⟩ : ∃ ps, parts c s.data.toList = ps := ⟨_, rfl⟩
  rw [hps]
  have HPS := Lib.hid hps
  have HCI := Lib.hid hci
  clear hps hci
  go_enter Tryd.func21, Tryd.ntmps21
  go_wp2_with fail
  go_loopw [5, 6, 7] (fun t fr i wr => ∃ (k f : Nat) (D : List ByteArray), k ≤ s.size ∧ f ≤ k ∧ i = .int .i64 (k : Int) ∧ fr = .int .i64 (f : Int) ∧ Hid (Cuts c s.data.toList D f k) ∧ Hid (wr.ownsRow w.heap.size 9 1 t D.length (Rw.cells Rw.strS D)) ∧ Hid (Below w.heap.size w wr)) (fun _ _ i _ => s.size - (intOf i).toNat)
  case atStart => exact ⟨0, 0, [], Nat.zero_le _, Nat.le_refl _, rfl, rfl, Lib.hid (Cuts.start c _), Lib.hid (World.ownsRow_nil _ _ _ _), Lib.hid (Below.refl _ _)⟩
  case round =>
    obtain ⟨k, f, D, hk, hf, rfl, rfl, hC, hO, hB⟩ := hrel
    have hdl := hC.out.2.2
    by_cases hlk : k < s.size
    · obtain ⟨b, hb⟩ : ∃ b : UInt8, s[k] = b := ⟨_, rfl⟩
      by_cases hbc : b = c
      · have HC2 : Hid (Cuts c s.data.toList (D ++ [s.extract f k]) (k + 1) (k + 1)) := hC.out.yes hf hlk (hb.trans hbc)
        have hq : ((b.toNat : Int) == ci) = true := by rw [HCI.out, hbc]; simp
        have hsz5 : w.heap.size ≤ wr.heap.size := hB.out.size
        obtain ⟨x, hx⟩ : ∃ x, s.extract f k = x := ⟨_, rfl⟩
        rw [hx] at HC2
        have HX := Lib.hid hx
        obtain ⟨L, hL⟩ : ∃ L, D.length = L := ⟨_, rfl⟩
        rw [hL] at hO hdl
        have HLN : Hid ((D ++ [x]).length = L + 1) := by show _ = _; rw [List.length_append, hL]; rfl
        have hkf : (f : Int) ≤ (k : Int) := by omega
        clear hbc hC hL
        go_wp2_with (first
          | (at_builtin; refine Rw.append_one Rw.strS rfl (.tmp 19) (.tmp 24) rfl w.heap.size wr _ rfl x _ rfl _ L D rfl hO.out rfl (by omega) hsz5 ?_)
          | fail)
        intro v' w6 hown6 hgrow6
        have HO6 : Hid (w6.ownsRow w.heap.size 9 1 v' (D ++ [x]).length (Rw.cells Rw.strS (D ++ [x]))) := by
          show w6.ownsRow _ _ _ _ _ _
          rw [HLN.out]; exact hown6
        have HB6 := Lib.hid (Rw.below_append hB.out hB.out.size hO.out hgrow6)
        clear hown6 hgrow6
        go_wp2_with fail
        go_roundw
        case rel => exact ⟨k + 1, k + 1, D ++ [x], by omega, Nat.le_refl _, by go_num, by go_num, HC2, HO6, HB6⟩
        case measure => simp [intOf]; omega
      · have HC2 : Hid (Cuts c s.data.toList D f (k + 1)) := hC.out.no hf hlk (by rw [hb]; exact hbc)
        have hq : ((b.toNat : Int) == ci) = false := by
          rw [HCI.out, beq_eq_false_iff_ne]
          intro e
          exact hbc (UInt8.toNat_inj.1 (by omega))
        clear hbc hC
        go_wp2_with fail
        go_roundw
        case rel => exact ⟨k + 1, f, D, by omega, by omega, by go_num, rfl, HC2, hO, hB⟩
        case measure => simp [intOf]; omega
    · obtain rfl : k = s.size := by omega
      have HD := Lib.hid (hC.out.done.trans HPS.out)
      have hsz5 : w.heap.size ≤ wr.heap.size := hB.out.size
      obtain ⟨x, hx⟩ : ∃ x, s.extract f s.size = x := ⟨_, rfl⟩
      rw [hx] at HD
      have HX := Lib.hid hx
      obtain ⟨L, hL⟩ : ∃ L, D.length = L := ⟨_, rfl⟩
      rw [hL] at hO hdl
      have HLN : Hid ((D ++ [x]).length = L + 1) := by show _ = _; rw [List.length_append, hL]; rfl
      have hkf : (f : Int) ≤ (s.size : Int) := by omega
      clear hC hL
      go_wp2_with (first
        | (at_builtin; refine Rw.append_one Rw.strS rfl (.tmp 28) (.tmp 32) rfl w.heap.size wr _ rfl x _ rfl _ L D rfl hO.out rfl (by omega) hsz5 ?_)
        | fail)
      intro v' w6 hown6 hgrow6
      have HO6 : Hid (w6.ownsRow w.heap.size 9 1 v' (L + 1) (Rw.cells Rw.strS (D ++ [x]))) := by
        show w6.ownsRow _ _ _ _ _ _
        exact hown6
      have HB6 := Lib.hid (Rw.below_append hB.out hB.out.size hO.out hgrow6)
      clear hown6 hgrow6
      go_wp2_with fail
      go_ret
      exact split_out HD.out HLN.out (Nat.succ_pos _) HO6.out HB6.out
theorem rnumber_is (s : ByteArray) (p q : Int) (w : World) (hs : s.size ≤ 9223372036854775807) (e1 : NumP.numP s.data.toList = (p, q)) :
    Calls Tryd.prog 22 #[.string s] w fun e w' => e = .returned (.tuple #[.int .i64 p, .int .i64 q]) ∧ w = w' := by
  have := Num.rnumber_any s w hs
  rw [e1] at this
  exact this
end Go.Proofs.YtcdinaoenhonbaaDoor.Key
