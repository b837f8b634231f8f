/-
  The contracts of both Encodes.
-/
import Derived.Test.YtigiaiddnbpcmaaSuperI
set_option linter.unusedVariables false
set_option maxRecDepth 4000
namespace Go.Proofs.Ytigiaiddnbpcmaa
open Go.RowKit SuperP
open Wire (IntsAt getD_mem take_snoc)
open WireP (encs text)

/-- What both Encodes return. -/
def enR (x : Sup) : ByteArray × Int := if Fit x then (str (sect x), 0) else (⟨#[]⟩, 1)
theorem slR_fit {x : Sup} (h : Fit x) : slR x.gen 0 1 (str (data x)) = (str (sect x), 0) := by
  have hf := fit_stamp h
  have hp := (fit_parts h).1
  have hg : ((x.gen.toNat : Nat) : Int) = x.gen := by omega
  rw [hg] at hf
  have hd := data_length h
  have hf2 : StampP.fit x.gen 0 1 := hf
  unfold slR
  rw [if_pos hf2, if_pos (by rw [str_size]; exact hd)]
  rfl
theorem seal_fit {x : Sup} (h : Fit x) (w : World) : Calls Try.prog 23 #[stV x.gen 0 1, .string ⟨(data x).toArray⟩] w fun e w' => e = .returned (.tuple #[.string (str (sect x)), .int .i64 0]) ∧ Below w.heap.size w w' := by
  have hd := data_length h
  have := seal_any x.gen 0 1 (str (data x)) w (by rw [str_size]; omega)
  rw [slR_fit h] at this
  exact this
theorem rseal_fit {x : Sup} (h : Fit x) (w : World) : Calls Try.prog 26 #[stV x.gen 0 1, .string ⟨(data x).toArray⟩] w fun e w' => e = .returned (.tuple #[.string (str (sect x)), .int .i64 0]) ∧ Below w.heap.size w w' := by
  have hd := data_length h
  have := rseal_any x.gen 0 1 (str (data x)) w (by rw [str_size]; omega)
  rw [slR_fit h] at this
  exact this
/-- What stands while a boxed superblock is read. -/
structure Bo (w0 w : World) (B : Nat) (box : Array Value) : Prop where
  below : Below B w0 w
  box : w.heap[B]? = some (.cells box 24 (0, 0))
theorem Bo.keep {w0 w w' : World} {B : Nat} {box : Array Value} (h : Bo w0 w B box) (hb : Below w.heap.size w w') : Bo w0 w' B box := by
  have h1 := (Array.getElem?_eq_some_iff.1 h.box).1
  exact ⟨h.below.trans (hb.mono (by omega)), (hb.block B h1).trans h.box⟩
theorem bo_new (w : World) (box : Array Value) : Bo w (w.alloc (.cells box 24)) w.heap.size box := ⟨(Below.refl _ w).alloc (Nat.le_refl _) _, heap_alloc_new w _⟩
theorem Bo.drew {w0 w : World} {B : Nat} {box : Array Value} (h : Bo w0 w B box) : Bo w0 w.drew B box := ⟨h.below.drew, h.box⟩
set_option maxHeartbeats 4000000 in
theorem encode_any (x : Sup) (a1 a2 : Option Addr) (l1 c1 l2 c2 : Nat) (w : World) (h : SupAt w x a1 l1 a2 l2) (hl1 : l1 ≤ 1000000) (hl2 : l2 ≤ 1000000) :
    Calls Try.prog 9 #[supV x (.slice a1 l1 c1) (.slice a2 l2 c2)] w fun e w' => e = .returned (.tuple #[.string (enR x).1, .int .i64 (enR x).2]) ∧ Below w.heap.size w w' := by
  have h0 := bo_new w #[.int .i64 x.gen, .int .i64 x.base, .int .i64 x.size, .int .i64 x.cg, .slice a1 l1 c1, .slice a2 l2 c2]
  have hF := supfit_any x a1 a2 l1 c1 l2 c2 _ (h.keep h0.below) hl1 hl2
  have HB0 := Lib.hid h0; have HF := Lib.hid hF
  by_cases hf : Fit x
  · have hen : enR x = (str (sect x), 0) := if_pos hf
    rw [hen]
    have hm := fun w => mark_any x (.slice a1 l1 c1) (.slice a2 l2 c2) w
    have hd := fun (w' : World) (hb : Below w.heap.size w w') => fields_is x a1 a2 l1 c1 l2 c2 w' (h.keep hb) hf
    have hs := fun w => seal_fit hf w
    rw [decide_eq_true hf] at HF
    generalize str (sect x) = z at *
    obtain ⟨d, hd0⟩ : ∃ d : ByteArray, (⟨(data x).toArray⟩ : ByteArray) = d := ⟨_, rfl⟩
    rw [hd0] at hd hs
    unfold supV stV at *
    have HM := Lib.hid hm; have HD := Lib.hid hd; have HS := Lib.hid hs
    clear h h0 hF hen hm hd hs hd0 hf
    go_enter Try.func9, Try.ntmps9
    go_wp2_with fail
    refine HF.out.mono ?_
    rintro e w1 ⟨rfl, hb1⟩
    have HB1 := Lib.hid (HB0.out.keep hb1)
    clear hb1 HF HB0
    obtain ⟨p0, p1, p2, p3, p4, p5⟩ := six_cells HB1.out.box
    go_wp2_with fail
    have HC : Hid (∀ w2, Below w1.drew.heap.size w1.drew w2 → Bo w w2 w.heap.size #[.int .i64 x.gen, .int .i64 x.base, .int .i64 x.size, .int .i64 x.cg, .slice a1 l1 c1, .slice a2 l2 c2]) := Lib.hid fun w2 hb => HB1.out.drew.keep hb
    go_region_held3 (fun w' => w'.cell? ⟨w.heap.size, 0, none⟩ = some (.int .i64 x.gen) ∧ w'.cell? ⟨w.heap.size, 1, none⟩ = some (.int .i64 x.base) ∧ w'.cell? ⟨w.heap.size, 2, none⟩ = some (.int .i64 x.size) ∧ w'.cell? ⟨w.heap.size, 3, none⟩ = some (.int .i64 x.cg) ∧ w'.cell? ⟨w.heap.size, 4, none⟩ = some (.slice a1 l1 c1) ∧ w'.cell? ⟨w.heap.size, 5, none⟩ = some (.slice a2 l2 c2))
      (first | exact ⟨p0, p1, p2, p3, p4, p5⟩ | exact hq2 | exact hq3 | exact hq4)
      (first
        | (go_at_call 24; refine (HM.out _).mono ?_; rintro e w2 ⟨rfl, hb2⟩; have hB2 := HC.out w2 hb2; have hq2 := six_cells hB2.box)
        | (go_at_call 25; refine (HD.out _ hB2.below).mono ?_; rintro e w3 ⟨rfl, hb3⟩; have hB3 := hB2.keep hb3; have hq3 := six_cells hB3.box)
        | (go_at_call 23; refine (HS.out _).mono ?_; rintro e w4 ⟨rfl, hb4⟩; have hB4 := hB3.keep hb4; have hq4 := six_cells hB4.box))
    have HB4 := Lib.hid hB4.below
    clear hB2 hB3 hB4 hq2 hq3 hq4 hb2 hb3 hb4 p0 p1 p2 p3 p4 p5
    go_wp2_with fail
    go_ret2
    exact ⟨rfl, HB4.out⟩
  · have hen : enR x = (⟨#[]⟩, 1) := if_neg hf
    rw [hen]
    rw [decide_eq_false hf] at HF
    unfold supV at *
    clear h h0 hF hen hf
    go_enter Try.func9, Try.ntmps9
    go_wp2_with fail
    refine HF.out.mono ?_
    rintro e w1 ⟨rfl, hb1⟩
    have HB1 := Lib.hid (HB0.out.keep hb1).below
    clear hb1 HF HB0
    go_wp2_with fail
    go_ret2
    exact ⟨rfl, HB1.out⟩
set_option maxHeartbeats 8000000 in
theorem rencode_any (x : Sup) (a1 a2 : Option Addr) (l1 c1 l2 c2 : Nat) (w : World) (h : SupAt w x a1 l1 a2 l2) (hl1 : l1 ≤ 1000000) (hl2 : l2 ≤ 1000000) (hn1 : a1 = none → c1 = 0) (hn2 : a2 = none → c2 = 0) :
    Calls Try.prog 10 #[supV x (.slice a1 l1 c1) (.slice a2 l2 c2)] w fun e w' => e = .returned (.tuple #[.string (enR x).1, .int .i64 (enR x).2]) ∧ Below w.heap.size w w' := by
  have h0 := bo_new w #[.int .i64 x.gen, .int .i64 x.base, .int .i64 x.size, .int .i64 x.cg, .slice a1 l1 c1, .slice a2 l2 c2]
  have hF := rsupfit_any x a1 a2 l1 c1 l2 c2 _ (h.keep h0.below) hl1 hl2 hn1 hn2
  have HB0 := Lib.hid h0; have HF := Lib.hid hF
  by_cases hf : Fit x
  · have hen : enR x = (str (sect x), 0) := if_pos hf
    rw [hen]
    have hdl := data_length hf
    obtain ⟨_, _, _, hc63, hl63⟩ := fit_parts hf
    obtain ⟨hrA, hrB⟩ := segs_both hf
    obtain ⟨s1, hs1⟩ : ∃ s1 : ByteArray, (⟨(encs [x.gen, x.base, x.size, x.cg]).toArray⟩ : ByteArray) = s1 := ⟨_, rfl⟩
    obtain ⟨s2, hs2⟩ : ∃ s2 : ByteArray, (⟨(text (octs x.chk)).toArray⟩ : ByteArray) = s2 := ⟨_, rfl⟩
    obtain ⟨s3, hs3⟩ : ∃ s3 : ByteArray, (⟨(text (octs x.log)).toArray⟩ : ByteArray) = s3 := ⟨_, rfl⟩
    have d1 : s1.data.toList = encs [x.gen, x.base, x.size, x.cg] := by rw [← hs1]
    have d2 : s2.data.toList = text (octs x.chk) := by rw [← hs2]
    have d3 : s3.data.toList = text (octs x.log) := by rw [← hs3]
    have hdat : data x = s1.data.toList ++ (s2.data.toList ++ s3.data.toList) := by rw [d1, d2, d3]; rfl
    have hds : (⟨(data x).toArray⟩ : ByteArray) = s1 ++ s2 ++ s3 := by
      symm
      apply Wire.str_eq
      rw [hdat, ByteArray.data_append, ByteArray.data_append, Array.toList_append, Array.toList_append, List.append_assoc]
    rw [hdat] at hdl
    rw [List.length_append, List.length_append, Wire.len_list, Wire.len_list, Wire.len_list] at hdl
    have hk1 : ∀ (b : Nat) (w : World), w.heap[b]? = some (.cells #[.int .i64 x.gen, .int .i64 x.base, .int .i64 x.size, .int .i64 x.cg] 3 (0, 0)) → Calls Try.prog 27 #[.slice (some ⟨b, 0, none⟩) 4 4] w fun e w' => e = .returned (.string s1) ∧ Below w.heap.size w w' := fun b w hb => by
      rw [← hs1]
      exact Wire.rints_any (some ⟨b, 0, none⟩) 4 4 [x.gen, x.base, x.size, x.cg] w (ints_block hb (four_in hf)) (by decide)
    obtain ⟨o1, ho1⟩ : ∃ o1 : ByteArray, (⟨(octs x.chk).toArray⟩ : ByteArray) = o1 := ⟨_, rfl⟩
    obtain ⟨o2, ho2⟩ : ∃ o2 : ByteArray, (⟨(octs x.log).toArray⟩ : ByteArray) = o2 := ⟨_, rfl⟩
    have hk2 : ∀ w', Below w.heap.size w w' → Calls Try.prog 29 #[.slice a1 l1 c1] w' fun e w'' => e = .returned (.string o1) ∧ Below w'.heap.size w' w'' := fun w' hb => by
      rw [← ho1]
      exact roctets_is a1 l1 c1 x.chk w' (h.chk.keep hb) hrA hl1
    have hk3 : ∀ w', Below w.heap.size w w' → Calls Try.prog 29 #[.slice a2 l2 c2] w' fun e w'' => e = .returned (.string o2) ∧ Below w'.heap.size w' w'' := fun w' hb => by
      rw [← ho2]
      exact roctets_is a2 l2 c2 x.log w' (h.log.keep hb) hrB hl2
    have ht : ∀ (s z : ByteArray) (w' : World), s.size ≤ 4398046511104 → z.data.toList = text s.data.toList → Calls Try.prog 28 #[.string s] w' fun e w'' => e = .returned (.string z) ∧ Below w'.heap.size w' w'' := fun s z w' hs hz => by
      have := Wire.rtext_any s w' hs
      rw [← Wire.str_eq hz] at this
      exact this
    have hk4 := fun w' => ht o1 s2 w' (by rw [← ho1, list_size]; simp [octs]; omega) (by rw [d2, ← ho1])
    have hk5 := fun w' => ht o2 s3 w' (by rw [← ho2, list_size]; simp [octs]; omega) (by rw [d3, ← ho2])
    have hs := fun w => rseal_fit hf w
    rw [hds] at hs
    rw [decide_eq_true hf] at HF
    generalize str (sect x) = z at *
    unfold supV stV at *
    have K1 := Lib.hid hk1; have K2 := Lib.hid hk2; have K3 := Lib.hid hk3; have K4 := Lib.hid hk4; have K5 := Lib.hid hk5; have HS := Lib.hid hs
    have hs12 : ¬ (9223372036854775807 < s1.size + s2.size) := by omega
    have hs123 : ¬ (9223372036854775807 < s1.size + s2.size + s3.size) := by omega
    clear h h0 hF hen hk1 hk2 hk3 hk4 hk5 hs ht hds hdat d1 d2 d3 hs1 hs2 hs3 ho1 ho2 hrA hrB hc63 hl63 hf hdl
    go_enter Try.func10, Try.ntmps10
    go_wp2_with fail
    refine HF.out.mono ?_
    rintro e w1 ⟨rfl, hb1⟩
    have HB1 := Lib.hid (HB0.out.keep hb1)
    clear hb1 HF HB0
    obtain ⟨p0, p1, p2, p3, p4, p5⟩ := six_cells HB1.out.box
    go_wp2_with fail
    have HC : Hid (∀ w2, Below (w1.drew.alloc (.cells #[.int .i64 x.gen, .int .i64 x.base, .int .i64 x.size, .int .i64 x.cg] 3)).heap.size (w1.drew.alloc (.cells #[.int .i64 x.gen, .int .i64 x.base, .int .i64 x.size, .int .i64 x.cg] 3)) w2 → Bo w w2 w.heap.size #[.int .i64 x.gen, .int .i64 x.base, .int .i64 x.size, .int .i64 x.cg, .slice a1 l1 c1, .slice a2 l2 c2]) :=
      Lib.hid fun w2 hb => HB1.out.keep (((Below.refl _ w1).drew.alloc (Nat.le_refl _) _).trans (hb.mono (by rw [World.size_alloc]; exact Nat.le_succ _)))
    go_region_held3 (fun w' => w'.cell? ⟨w.heap.size, 0, none⟩ = some (.int .i64 x.gen) ∧ w'.cell? ⟨w.heap.size, 1, none⟩ = some (.int .i64 x.base) ∧ w'.cell? ⟨w.heap.size, 2, none⟩ = some (.int .i64 x.size) ∧ w'.cell? ⟨w.heap.size, 3, none⟩ = some (.int .i64 x.cg) ∧ w'.cell? ⟨w.heap.size, 4, none⟩ = some (.slice a1 l1 c1) ∧ w'.cell? ⟨w.heap.size, 5, none⟩ = some (.slice a2 l2 c2))
      (first | exact ⟨p0, p1, p2, p3, p4, p5⟩ | exact ⟨Lib.cell?_alloc_some _ p0, Lib.cell?_alloc_some _ p1, Lib.cell?_alloc_some _ p2, Lib.cell?_alloc_some _ p3, Lib.cell?_alloc_some _ p4, Lib.cell?_alloc_some _ p5⟩ | exact hq2 | exact hq3 | exact hq4 | exact hq5 | exact hq6 | exact hq7)
      (first
        | (go_at_call 26; refine (HS.out _).mono ?_; rintro e w7 ⟨rfl, hb7⟩; have hB7 := hB6.keep hb7; have hq7 := six_cells hB7.box)
        | (go_at_call 28; refine (K5.out _).mono ?_; rintro e w6 ⟨rfl, hb6⟩; have hB6 := hB5.keep hb6; have hq6 := six_cells hB6.box)
        | (go_at_call 29; refine (K3.out _ hB4.below).mono ?_; rintro e w5 ⟨rfl, hb5⟩; have hB5 := hB4.keep hb5; have hq5 := six_cells hB5.box)
        | (go_at_call 28; refine (K4.out _).mono ?_; rintro e w4 ⟨rfl, hb4⟩; have hB4 := hB3.keep hb4; have hq4 := six_cells hB4.box)
        | (go_at_call 29; refine (K2.out _ hB2.below).mono ?_; rintro e w3 ⟨rfl, hb3⟩; have hB3 := hB2.keep hb3; have hq3 := six_cells hB3.box)
        | (go_at_call 27; refine (K1.out _ _ (heap_alloc_new w1.drew _)).mono ?_; rintro e w2 ⟨rfl, hb2⟩; have hB2 := HC.out w2 hb2; have hq2 := six_cells hB2.box))
    have HB4 := Lib.hid hB7.below
    clear hB2 hB3 hB4 hB5 hB6 hB7 hq2 hq3 hq4 hq5 hq6 hq7 hb2 hb3 hb4 hb5 hb6 hb7 p0 p1 p2 p3 p4 p5
    go_wp2_with fail
    go_ret2
    exact ⟨rfl, HB4.out⟩
  · have hen : enR x = (⟨#[]⟩, 1) := if_neg hf
    rw [hen]
    rw [decide_eq_false hf] at HF
    unfold supV at *
    clear h h0 hF hen hf
    go_enter Try.func10, Try.ntmps10
    go_wp2_with fail
    refine HF.out.mono ?_
    rintro e w1 ⟨rfl, hb1⟩
    have HB1 := Lib.hid (HB0.out.keep hb1).below
    clear hb1 HF HB0
    go_wp2_with fail
    go_ret2
    exact ⟨rfl, HB1.out⟩
end Go.Proofs.Ytigiaiddnbpcmaa
