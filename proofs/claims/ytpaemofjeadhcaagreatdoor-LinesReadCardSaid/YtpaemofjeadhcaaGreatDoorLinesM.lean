/-
  The contracts of Few and of the laws' own awake: the chapter's examples.
-/
import Derived.Test.YtpaemofjeadhcaaGreatDoorLinesJ
import Derived.Test.YtpaemofjeadhcaaGreatDoorLinesG
import Derived.Test.YtpaemofjeadhcaaGreatDoorLinesB
set_option linter.unusedVariables false
set_option maxRecDepth 4000
namespace Go.Proofs.YtpaemofjeadhcaaGreatDoor.Lines
open Go.RowKit LinesP NameP
open NumP (numP numP_cases)

/-- Every Sku is as long as a text can be, and every number is one. -/
def SzM (l : List Ln) : Prop := ∀ x ∈ l, x.1.size ≤ 9223372036854775807 ∧ -9223372036854775808 ≤ x.2 ∧ x.2 ≤ 9223372036854775807
def shortL (l : List Ln) : Bool := l.all fun x => decide (x.1.size ≤ 60)
def fewV (l : List Ln) : Bool := shortL (l.take 8) && decide (l.length ≤ 8)
theorem few_sz {l : List Ln} (h : fewV l = true) (hm : SzM l) : l.length ≤ 8 ∧ Sz l := by
  unfold fewV at h
  rw [Bool.and_eq_true, decide_eq_true_eq] at h
  refine ⟨h.2, fun x hx => ?_⟩
  rw [List.take_of_length_le h.2] at h
  have h1 := List.all_eq_true.1 h.1 x hx
  have h2 := hm x hx
  simp only [decide_eq_true_eq] at h1
  exact ⟨by omega, h2.2⟩
theorem short_snoc {l : List Ln} {x : Ln} {k : Nat} (hk : k < l.length) (hx : l.getD k ln0 = x) (h : shortL (l.take k) = true) (hq : x.1.size ≤ 60) : shortL (l.take (k + 1)) = true := by
  unfold shortL at *
  rw [take_snoc hk hx, List.all_append, h]; simpa using hq
theorem few_no {l : List Ln} {x : Ln} {k : Nat} (hk : k < l.length) (h8 : k < 8) (hx : l.getD k ln0 = x) (hq : 60 < x.1.size) : fewV l = false := by
  unfold fewV shortL
  have : (l.take 8).all (fun x => decide (x.1.size ≤ 60)) = false := by
    rw [List.all_eq_false]
    refine ⟨x, ?_, by simpa using hq⟩
    rw [← hx, show l.getD k ln0 = l[k] by simp [List.getD, hk]]
    exact List.mem_take_iff_getElem.2 ⟨k, by omega, rfl⟩
  rw [this]; rfl
theorem few_end {l : List Ln} {k : Nat} (hk : k = l.length ∨ k = 8) (h : shortL (l.take k) = true) : fewV l = decide (l.length ≤ 8) := by
  rcases hk with rfl | rfl
  · unfold fewV
    by_cases h8 : l.length ≤ 8
    · rw [List.take_of_length_le h8]; rw [List.take_length] at h; rw [h]; simp
    · simp [h8]
  · unfold fewV; rw [h]; simp
set_option maxHeartbeats 1000000 in
theorem rfew_any (a : Option Addr) (len cap : Nat) (l : List Ln) (w : World) (h : LsAt w a len l) (hs : SzM l) :
    Calls Tryz.prog 6 #[.slice a len cap] w fun e w' => e = .returned (.bool (fewV l)) ∧ Below w.heap.size w w' := by
  have HX := Lib.hid h
  have HS := Lib.hid hs
  obtain ⟨v, hv⟩ : ∃ v, fewV l = v := ⟨_, rfl⟩
  rw [hv]
  have HV := Lib.hid hv
  have hl := h.2.1
  clear hv h hs
  go_enter Tryz.func6, Tryz.ntmps6
  go_wp2_with fail
  go_loopw [3] (fun i wr => ∃ k : Nat, k ≤ len ∧ k ≤ 8 ∧ i = .int .i64 (k : Int) ∧ Hid (shortL (l.take k) = true) ∧ Hid (Below w.heap.size w wr)) (fun i _ => len - (intOf i).toNat)
  case atStart => exact ⟨0, Nat.zero_le _, Nat.zero_le _, rfl, Lib.hid rfl, Below.refl _ _⟩
  case round =>
    obtain ⟨k, hk, hk8, rfl, hF, hB⟩ := hrel
    by_cases hlk : k < len
    · by_cases h8 : k < 8
      · rcases HX.out.2.2 with h0 | ⟨b1, o1, rfl, g1, hc1⟩
        · omega
        have d1 := (hB.out.cell (p := ⟨b1, o1 + k * 2, none⟩) g1).trans (hc1 k hlk).1
        have hkx : k < l.length := by rw [HX.out.1]; exact hlk
        have hsz := (HS.out (l.getD k ln0) (by rw [show l.getD k ln0 = l[k] by simp [List.getD, hkx]]; exact List.getElem_mem hkx)).1
        obtain ⟨p, hp⟩ : ∃ p, l.getD k ln0 = p := ⟨_, rfl⟩
        rw [hp] at d1 hsz
        obtain ⟨s, n⟩ := p
        simp only at d1 hsz
        clear hc1 g1
        by_cases h60 : 60 < s.size
        · have hi : (60 : Int) < (s.size : Int) := by omega
          have HNO : Hid (v = false) := by show v = _; rw [← HV.out]; exact few_no hkx h8 hp h60
          clear hkx hp hF
          go_wp2_with fail
          go_ret
          exact ⟨ret_bool HNO.out, hB.out⟩
        · have hi : ¬ (60 : Int) < (s.size : Int) := by omega
          have HF2 : Hid (shortL (l.take (k + 1)) = true) := short_snoc hkx hp hF.out (by show s.size ≤ 60; omega)
          clear hkx hp hF
          go_wp2_with fail
          go_roundw
          case rel => exact ⟨k + 1, by omega, by omega, by go_num, HF2, hB⟩
          case measure => simp [intOf]; omega
      · obtain rfl : k = 8 := by omega
        have HNO : Hid (v = false) := by
          show v = _
          rw [← HV.out, few_end (.inr rfl) hF.out, HX.out.1]
          exact decide_eq_false (by omega)
        have HD : Hid (false = decide ((len : Int) ≤ 8)) := (decide_eq_false (by omega)).symm
        go_wp2_with fail
        go_ret
        exact ⟨ret_bool (HNO.out.trans HD.out), hB.out⟩
    · obtain rfl : k = len := by omega
      have HE : Hid (v = true) := by show v = _; rw [← HV.out, few_end (.inl HX.out.1.symm) hF.out, HX.out.1]; exact decide_eq_true hk8
      have HD : Hid (true = decide ((k : Int) ≤ 8)) := (decide_eq_true (by omega)).symm
      go_wp2_with fail
      go_ret
      exact ⟨ret_bool (HE.out.trans HD.out), hB.out⟩

/-! ### the chapter's examples -/
def tea : ByteArray := ⟨#[116, 101, 97]⟩
def tEA : ByteArray := ⟨#[84, 101, 97]⟩
def salt : ByteArray := ⟨#[115, 97, 108, 116]⟩
def exl : List Ln := [(tEA, 2), (salt, 1), (tea, 3)]
def exm : List Ln := [(salt, 1), (tea, 5)]
theorem ex_norm : normV exl = (exm, 0) := by decide +kernel
theorem ex_read : readV [116, 101, 97, 58, 48] = none := by decide +kernel
theorem ex_fit : fitL exm = true := by decide +kernel
theorem ex_itoa : Lib.itoa 1 = [49] ∧ Lib.itoa 5 = [53] := by
  constructor
  · rw [NumP.itoa_small (by omega) (by omega)]; rfl
  · rw [NumP.itoa_small (by omega) (by omega)]; rfl
theorem ex_text : bs (textV exm) = ⟨#[115, 97, 108, 116, 58, 49, 44, 116, 101, 97, 58, 53]⟩ := by
  unfold textV
  rw [ex_fit]
  simp only [exm, List.map_cons, List.map_nil, tx, ex_itoa.1, ex_itoa.2]
  rfl
theorem ex_of : ofL tea exm = 5 := by decide +kernel
theorem ex_same : eqUp exm exm = true := eqUp_iff.2 rfl
theorem sz_ex : Sz exl ∧ Sz exm := by
  constructor
  · intro x hx
    simp only [exl, List.mem_cons, List.mem_nil_iff, or_false] at hx
    rcases hx with rfl | rfl | rfl <;> exact ⟨by decide, by decide, by decide⟩
  · intro x hx
    simp only [exm, List.mem_cons, List.mem_nil_iff, or_false] at hx
    rcases hx with rfl | rfl <;> exact ⟨by decide, by decide, by decide⟩
theorem cell_new (w : World) (cs : Array Value) (e : TypeId) {i : Nat} {v : Value} (h : cs[i]? = some v) : (w.alloc (.cells cs e)).cell? ⟨w.heap.size, i, none⟩ = some v := by
  rw [World.cell?_alloc_at _ _ _ _ rfl]; exact h
theorem ls_new3 (w : World) (a b c : Ln) : LsAt (w.alloc (.cells #[.string a.1, .int .i64 a.2, .string b.1, .int .i64 b.2, .string c.1, .int .i64 c.2] 44)) (some ⟨w.heap.size, 0, none⟩) 3 [a, b, c] := by
  refine ⟨rfl, by omega, .inr ⟨_, 0, rfl, by simp, fun i hi => ?_⟩⟩
  match i, hi with
  | 0, _ => exact ⟨cell_new _ _ _ rfl, cell_new _ _ _ rfl⟩
  | 1, _ => exact ⟨cell_new _ _ _ rfl, cell_new _ _ _ rfl⟩
  | 2, _ => exact ⟨cell_new _ _ _ rfl, cell_new _ _ _ rfl⟩
theorem ls_new2 (w : World) (a b : Ln) : LsAt (w.alloc (.cells #[.string a.1, .int .i64 a.2, .string b.1, .int .i64 b.2] 44)) (some ⟨w.heap.size, 0, none⟩) 2 [a, b] := by
  refine ⟨rfl, by omega, .inr ⟨_, 0, rfl, by simp, fun i hi => ?_⟩⟩
  match i, hi with
  | 0, _ => exact ⟨cell_new _ _ _ rfl, cell_new _ _ _ rfl⟩
  | 1, _ => exact ⟨cell_new _ _ _ rfl, cell_new _ _ _ rfl⟩
set_option maxHeartbeats 1000000 in
theorem awake_any (w : World) (hv : Vars w) :
    Calls Tryz.prog 7 #[] w fun e w' => e = .returned (.bool true) ∧ Below w.heap.size w w' := by
  have HV := Lib.hid (fun w' (hb : Below w.heap.size w w') => hv.keep hb)
  have h1 := ls_new3 w (tEA, 2) (salt, 1) (tea, 3)
  have HB0 : Hid (Below w.heap.size w (w.alloc (.cells #[.string tEA, .int .i64 2, .string salt, .int .i64 1, .string tea, .int .i64 3] 44))) := (Below.refl _ _).alloc (Nat.le_refl _) _
  obtain ⟨W, hW⟩ : ∃ W, w.alloc (.cells #[.string tEA, .int .i64 2, .string salt, .int .i64 1, .string tea, .int .i64 3] 44) = W := ⟨_, rfl⟩
  simp only at h1
  rw [hW] at h1 HB0
  have HW := Lib.hid hW
  have C1 := norm_any (some ⟨w.heap.size, 0, none⟩) 3 3 exl W h1 sz_ex.1 (by omega)
  rw [ex_norm] at C1
  have C1 := Lib.hid C1
  clear hv h1 hW
  go_enter Tryz.func7, Tryz.ntmps7
  go_wp2_with fail
  rw [show w.alloc (.cells #[.string ⟨#[84, 101, 97]⟩, .int .i64 2, .string ⟨#[115, 97, 108, 116]⟩, .int .i64 1, .string ⟨#[116, 101, 97]⟩, .int .i64 3] 44) = W from HW.out]
  refine C1.out.mono ?_
  rintro e w1 ⟨hb1, a1, cap1, rfl, hA1, _⟩
  have HB1 := Lib.hid (below_keep HB0.out hb1 HB0.out.size)
  have HA1 := Lib.hid hA1
  have hlen : exm.length = 2 := rfl
  have C2 := read_any ⟨#[116, 101, 97, 58, 48]⟩ w1 (by decide) (HV.out w1 HB1.out)
  rw [show (⟨#[116, 101, 97, 58, 48]⟩ : ByteArray).data.toList = [116, 101, 97, 58, 48] from rfl, ex_read] at C2
  have C2 := Lib.hid C2
  clear hb1 hA1 HB0 C1
  rw [hlen]
  have HA1 : Hid (LsAt w1 a1 2 exm) := HA1
  clear hlen
  go_wp2_with fail
  refine C2.out.mono ?_
  rintro e w2 ⟨hb2, h2⟩
  obtain rfl : e = .returned (.tuple #[.slice none 0 0, .int .i64 7]) := by
    rcases h2 with ⟨_, h⟩ | ⟨l, _, _, hl, _⟩
    · exact h
    · cases hl
  clear h2
  have HB2 := Lib.hid (below_keep HB1.out hb2 HB1.out.size)
  have HA2 := Lib.hid (HA1.out.keep hb2)
  clear hb2 HB1 HA1 C2
  have h3 := ls_new2 w2 (salt, 1) (tea, 5)
  have HB3 := Lib.hid (HB2.out.alloc HB2.out.size (.cells #[.string salt, .int .i64 1, .string tea, .int .i64 5] 44))
  have HA3 := Lib.hid (HA2.out.keep ((Below.refl _ w2).alloc (Nat.le_refl _) (.cells #[.string salt, .int .i64 1, .string tea, .int .i64 5] 44)))
  obtain ⟨W3, hW3⟩ : ∃ W3, w2.alloc (.cells #[.string salt, .int .i64 1, .string tea, .int .i64 5] 44) = W3 := ⟨_, rfl⟩
  simp only at h3
  rw [hW3] at h3 HB3 HA3
  have HW3 := Lib.hid hW3
  have C3 := same_any a1 (some ⟨w2.heap.size, 0, none⟩) 2 cap1 2 2 exm exm W3 HA3.out h3
  rw [ex_same] at C3
  have C3 := Lib.hid C3
  clear h3 hW3
  go_wp2_with fail
  rw [show w2.alloc (.cells #[.string ⟨#[115, 97, 108, 116]⟩, .int .i64 1, .string ⟨#[116, 101, 97]⟩, .int .i64 5] 44) = W3 from HW3.out]
  refine C3.out.mono ?_
  rintro e w4 ⟨rfl, hb4⟩
  have HB4 := Lib.hid (below_keep HB3.out hb4 HB3.out.size)
  have HA4 := Lib.hid (HA3.out.keep hb4)
  have C4 := text_any a1 2 cap1 exm w4 HA4.out sz_ex.2 (HV.out w4 HB4.out).1
  rw [ex_text] at C4
  have C4 := Lib.hid C4
  clear hb4 HB3 HA3 C3
  go_wp2_with fail
  refine C4.out.mono ?_
  rintro e w5 ⟨rfl, hb5⟩
  have HB5 := Lib.hid (below_keep HB4.out hb5 HB4.out.size)
  have HA5 := Lib.hid (HA4.out.keep hb5)
  have C5 := fit_any none 0 0 [] w5 (ls_nil _ _) sz_nil
  rw [show fitL [] = true from rfl] at C5
  have C5 := Lib.hid C5
  clear hb5 HB4 HA4 C4
  go_wp2_with fail
  refine C5.out.mono ?_
  rintro e w6 ⟨rfl, hb6⟩
  have HB6 := Lib.hid (below_keep HB5.out hb6 HB5.out.size)
  have C6 := of_any a1 2 cap1 exm tea w6 (HA5.out.keep hb6)
  rw [ex_of] at C6
  have C6 := Lib.hid C6
  clear hb6 HB5 HA5 C5
  go_wp2_with fail
  refine C6.out.mono ?_
  rintro e w7 ⟨rfl, hb7⟩
  have HB7 := Lib.hid (below_keep HB6.out hb7 HB6.out.size)
  clear hb7 HB6 C6
  go_wp2_with fail
  go_ret
  exact ⟨rfl, HB7.out⟩
end Go.Proofs.YtpaemofjeadhcaaGreatDoor.Lines
