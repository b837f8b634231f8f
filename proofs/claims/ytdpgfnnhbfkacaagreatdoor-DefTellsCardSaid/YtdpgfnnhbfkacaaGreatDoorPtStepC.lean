/-
  The contracts of the arrays of words, of the row of pointers to a step's numbers, and of slices.Index; what was there stays as it was.
-/
import Derived.Test.YtdpgfnnhbfkacaaGreatDoorPtStepA
import Derived.Test.YtdpgfnnhbfkacaaGreatDoorPtKt7
import Derived.Test.YtdpgfnnhbfkacaaGreatDoorPtKt4
import Derived.Lib.MapLaws
import Derived.BigRegion
import Derived.LoopTactic
set_option linter.unusedVariables false
set_option linter.unusedSimpArgs false
set_option maxRecDepth 4000
set_option maxRecDepth 4000
namespace Go.Proofs.YtdpgfnnhbfkacaaGreatDoor.Step
open Go.RowKit StP
open Go.Proofs.YtdpgfnnhbfkacaaGreatDoor.Kt
theorem results_ops {fn : Func} {j : Nat} (h : fn.results = #[.cell j 94]) (tmps : Array Value) (w : World) (b : Nat) (v0 v1 v2 v3 v4 v5 v6 : Value) (hp : tmps.getD j undef = .pointer (some ⟨b, 0, none⟩))
    (c : At7 94 w b v0 v1 v2 v3 v4 v5 v6) : (results fn tmps).run Tryz.prog w = .ok (.agg #[v0, v1, v2, v3, v4, v5, v6]) w := by
  have hp' : tmps[j]?.getD undef = .pointer (some ⟨b, 0, none⟩) := by rw [← hp]; simp
  obtain ⟨c0, c1, c2, c3, c4, c5, c6⟩ := cells7 c
  simp only [results, h]
  go_simp
abbrev opsV : Value := .agg #[.string ⟨#[]⟩, .string ⟨#[104, 111, 108, 100]⟩, .string ⟨#[97, 117, 116, 104]⟩, .string ⟨#[107, 101, 101, 112]⟩, .string ⟨#[98, 111, 111, 107]⟩, .string ⟨#[115, 101, 110, 100]⟩, .string ⟨#[116, 97, 107, 101]⟩]
def opsB : List ByteArray := [⟨#[]⟩, ⟨#[104, 111, 108, 100]⟩, ⟨#[97, 117, 116, 104]⟩, ⟨#[107, 101, 101, 112]⟩, ⟨#[98, 111, 111, 107]⟩, ⟨#[115, 101, 110, 100]⟩, ⟨#[116, 97, 107, 101]⟩]
theorem ops_any (w : World) : Calls Tryz.prog 88 #[] w fun e w' => e = .returned opsV ∧ Below w.heap.size w w' := by
  go_enter Tryz.func88, Tryz.ntmps88
  go_wp2_with fail
  exact bodyPost_ret (results_ops (j := 0) rfl _ _ w.heap.size _ _ _ _ _ _ _ rfl (at7_new 94 w _ _ _ _ _ _ _)) rfl ⟨rfl, (Below.refl w.heap.size w).alloc (Nat.le_refl _) _⟩

theorem results_cls {fn : Func} {j : Nat} (h : fn.results = #[.cell j 96]) (tmps : Array Value) (w : World) (b : Nat) (v0 v1 v2 v3 : Value) (hp : tmps.getD j undef = .pointer (some ⟨b, 0, none⟩))
    (c : At4 96 w b v0 v1 v2 v3) : (results fn tmps).run Tryz.prog w = .ok (.agg #[v0, v1, v2, v3]) w := by
  have hp' : tmps[j]?.getD undef = .pointer (some ⟨b, 0, none⟩) := by rw [← hp]; simp
  obtain ⟨c0, c1, c2, c3⟩ := cells4 c
  simp only [results, h]
  go_simp
abbrev clsV : Value := .agg #[.string ⟨#[]⟩, .string ⟨#[115, 111, 102, 116]⟩, .string ⟨#[112, 105, 118, 111, 116]⟩, .string ⟨#[102, 105, 114, 109]⟩]
def clsB : List ByteArray := [⟨#[]⟩, ⟨#[115, 111, 102, 116]⟩, ⟨#[112, 105, 118, 111, 116]⟩, ⟨#[102, 105, 114, 109]⟩]
theorem cls_any (w : World) : Calls Tryz.prog 89 #[] w fun e w' => e = .returned clsV ∧ Below w.heap.size w w' := by
  go_enter Tryz.func89, Tryz.ntmps89
  go_wp2_with fail
  exact bodyPost_ret (results_cls (j := 0) rfl _ _ w.heap.size _ _ _ _ rfl (at4_new 96 w _ _ _ _)) rfl ⟨rfl, (Below.refl w.heap.size w).alloc (Nat.le_refl _) _⟩

theorem str_eq {s t : ByteArray} (h : s.data.toList = t.data.toList) : s = t := by
  cases s with | mk a => cases t with | mk b => simp at h; rw [h]
def PtrsAt (w : World) (g b : Nat) : Prop := At4 101 w g (.pointer (some ⟨b, 2, none⟩)) (.pointer (some ⟨b, 3, none⟩)) (.pointer (some ⟨b, 4, none⟩)) (.pointer (some ⟨b, 5, none⟩))
theorem PtrsAt.keep {w w' : World} {g b : Nat} (h : PtrsAt w g b) (hb : Below w.heap.size w w') : PtrsAt w' g b := At4.keep h hb
theorem PtrsAt.at {w : World} {g b : Nat} (h : PtrsAt w g b) {k : Nat} (hk : k < 4) : w.cell? ⟨g, k, none⟩ = some (.pointer (some ⟨b, 2 + k, none⟩)) := by
  obtain ⟨c0, c1, c2, c3⟩ := cells4 h
  rcases (by omega : k = 0 ∨ k = 1 ∨ k = 2 ∨ k = 3) with rfl | rfl | rfl | rfl
  · exact c0
  · exact c1
  · exact c2
  · exact c3
def NumsR (w : World) (b : Nat) (e : Ending) (w' : World) : Prop := ∃ g, e = .returned (.slice (some ⟨g, 0, none⟩) 4 4) ∧ PtrsAt w' g b ∧ Below w.heap.size w w' ∧ w.heap.size ≤ g
theorem numbers_any (b : Nat) (w : World) : Calls Tryz.prog 90 #[.pointer (some ⟨b, 0, none⟩)] w (NumsR w b) := by
  go_enter Tryz.func90, Tryz.ntmps90
  go_wp2_with fail
  go_region
  go_wp2_with fail
  go_ret
  exact ⟨_, rfl, (at4_new 101 w _ _ _ _).drew, ((Below.refl w.heap.size w).alloc (Nat.le_refl _) _).drew, Nat.le_refl _⟩
/-! ### the place of a text -/
theorem ix_hit {p : List UInt8} {L : List (List UInt8)} {k : Nat} (h : L[k]? = some p) : ixUp p k (L.drop k) = (k : Int) := by
  have hk : k < L.length := by
    rcases Nat.lt_or_ge k L.length with h1 | h1
    · exact h1
    · rw [List.getElem?_eq_none h1] at h; cases h
  rw [List.drop_eq_getElem_cons hk]
  have : L[k] = p := by rw [List.getElem?_eq_getElem hk] at h; exact Option.some.inj h
  rw [ixUp, this, if_pos rfl]
theorem ix_miss {p x : List UInt8} {L : List (List UInt8)} {k : Nat} (h : L[k]? = some x) (hne : p ≠ x) : ixUp p k (L.drop k) = ixUp p (k + 1) (L.drop (k + 1)) := by
  have hk : k < L.length := by
    rcases Nat.lt_or_ge k L.length with h1 | h1
    · exact h1
    · rw [List.getElem?_eq_none h1] at h; cases h
  rw [List.drop_eq_getElem_cons hk]
  have : L[k] = x := by rw [List.getElem?_eq_getElem hk] at h; exact Option.some.inj h
  rw [ixUp, this, if_neg hne]
theorem ix_end {p : List UInt8} {L : List (List UInt8)} {k : Nat} (h : L.length ≤ k) : ixUp p k (L.drop k) = -1 := by
  rw [List.drop_eq_nil_of_le h]; rfl
theorem index_any (g n : Nat) (l : List ByteArray) (p : ByteArray) (r : Int) (hr : ixUp p.data.toList 0 (l.map (·.data.toList)) = r) (w : World) (hl : l.length = n) (hn : n ≤ 100) (hc : ∀ j x, l[j]? = some x → w.cell? ⟨g, j, none⟩ = some (.string x)) :
    Calls Tryz.prog 101 #[.slice (some ⟨g, 0, none⟩) n n, .string p] w fun e w' => e = .returned (.int .i64 r) ∧ w = w' := by
  have hr0 : ixUp p.data.toList 0 ((l.map (·.data.toList)).drop 0) = r := by rw [List.drop_zero]; exact hr
  have HC := Lib.hid hc
  have HR := Lib.hid hr0
  have HL := Lib.hid hl
  clear hr hr0 hc hl
  go_enter Tryz.func101, Tryz.ntmps101
  go_wp2_with fail
  go_loopw [8] (fun i wr => ∃ j : Nat, j ≤ n ∧ i = .int .i64 (j : Int) ∧ w = wr ∧ Hid (ixUp p.data.toList j ((l.map (·.data.toList)).drop j) = r)) (fun i _ => n - (intOf i).toNat)
  case atStart => exact ⟨0, Nat.zero_le _, rfl, rfl, HR⟩
  case round =>
    obtain ⟨j, hj, rfl, rfl, hT⟩ := hrel
    by_cases hlt : j < n
    · obtain ⟨x, hx⟩ : ∃ x, l[j]? = some x := ⟨l[j]'(by rw [HL.out]; exact hlt), by simp⟩
      have d1 := HC.out j x hx
      have hL : (l.map (·.data.toList))[j]? = some x.data.toList := by rw [List.getElem?_map, hx]; rfl
      have hji : (j : Int) < (n : Int) := by omega
      by_cases he : p = x
      · have HE : Hid (r = (j : Int)) := by show _ = _; rw [← hT.out]; exact ix_hit (by rw [he]; exact hL)
        have hq : (p.toList == x.toList) = true := by rw [he]; simp
        clear he hT hL hx
        go_wp2_with fail
        go_ret
        exact ⟨ret_int HE.out, rfl⟩
      · have HE := Lib.hid ((ix_miss hL (fun e => he (str_eq e))).symm.trans hT.out)
        have hq : (p.toList == x.toList) = false := by rw [beq_eq_false_iff_ne, ByteArray.toList_eq, ByteArray.toList_eq]; exact fun e => he (str_eq e)
        clear he hT hL hx
        go_wp2_with fail
        go_roundw
        case rel => exact ⟨j + 1, by omega, by go_num, by trivial, HE⟩
        case measure => simp [intOf]; omega
    · have HE : Hid (r = -1) := by show _ = _; rw [← hT.out]; exact ix_end (by rw [List.length_map, HL.out]; omega)
      have hji : ¬ ((j : Int) < (n : Int)) := by omega
      clear hT
      go_wp2_with fail
      go_ret
      exact ⟨ret_int HE.out, rfl⟩

end Go.Proofs.YtdpgfnnhbfkacaaGreatDoor.Step
