/-
  The law WireReads, walked: it returns true, and leaves what was there.
-/
import Derived.Test.YtjenhgbighlooaaWireK
import Derived.Deep.RegionHeld3
import Derived.Deep.RegionWith
set_option linter.unusedVariables false
namespace Go.Proofs.Ytjenhgbighlooaa
open Go.RowKit WireP

/-- A slice of asks that lies below the call's own memory: each has its three numbers. -/
def AsksAt (w : World) (a : Option Addr) (len : Nat) : Prop :=
  len ≤ 9223372036854775807 ∧ (len = 0 ∨ ∃ b off, a = some ⟨b, off, none⟩ ∧ b < w.heap.size ∧ ∀ i, i < len → ∃ k lo hi : Int, w.cell? ⟨b, off + i * 3, none⟩ = some (.int .i64 k) ∧ w.cell? ⟨b, off + i * 3 + 1, none⟩ = some (.int .i64 lo) ∧ w.cell? ⟨b, off + i * 3 + 2, none⟩ = some (.int .i64 hi))
theorem wireReads_long (s : ByteArray) (a : Option Addr) (len cap : Nat) (W : World) (h : 300 < s.size ∨ (s.size ≤ 300 ∧ 20 < len)) (hl : len ≤ 9223372036854775807) (hs : s.size ≤ 9223372036854775807) :
    Calls Try.prog 4 #[.string s, .slice a len cap] W fun e w' => e = .returned (.bool true) ∧ Below W.heap.size W w' := by
  rcases h with h | ⟨h, h2⟩
  all_goals
    go_enter Try.func4, Try.ntmps4
    go_wp2_with fail
    refine (awake_any W).mono ?_
    rintro e w' ⟨rfl, hb⟩
    go_wp2_with fail
    go_ret
    exact ⟨rfl, hb⟩
/-- Both readers stand alike. -/
def TwoAt (B : Nat) (w : World) (st : St) : Prop := RdAt w B st ∧ RqAt w (B + 1) st
theorem two_new {W w1 : World} {s : ByteArray} (h : RdAt w1 W.heap.size (some s.data.toList)) (hb : Below W.heap.size W w1) (hs : s.size ≤ 4398046511104) (hsz : w1.heap.size = W.heap.size + 1) : TwoAt W.heap.size (w1.alloc (.cells #[.string s, .bool false] 35)) (some s.data.toList) := by
  refine ⟨h.keep (Below.heap_alloc _ _ _ h.lt), s, ?_, rfl, hs⟩
  rw [← hsz]
  exact heap_alloc_new _ _
theorem new_size (s : ByteArray) (w : World) (hs : s.size ≤ 4398046511104) :
    Calls Try.prog 16 #[.string s] w fun e w' => e = .returned (.pointer (some ⟨w.heap.size, 0, none⟩)) ∧ RdAt w' w.heap.size (some s.data.toList) ∧ Below w.heap.size w w' ∧ w'.heap.size = w.heap.size + 1 := by
  go_enter Try.func16, Try.ntmps16
  go_wp2
  go_ret
  exact ⟨rfl, ⟨s, heap_alloc_new _ _, rfl, hs⟩, (Below.refl _ _).alloc (Nat.le_refl _) _, by simp⟩
/-- The program's reader has taken a step, the document's not yet. -/
def HalfAt (B : Nat) (w : World) (st2 st : St) : Prop := RdAt w B st2 ∧ RqAt w (B + 1) st
/-- What is kept of two cells that were there. -/
def TwoCells (w : World) (b x y : Nat) (u v : Value) : Prop := w.cell? ⟨b, x, none⟩ = some u ∧ w.cell? ⟨b, y, none⟩ = some v
theorem step_half {B b x y : Nat} {w w' : World} {st st2 : St} {u v : Value} (hT : TwoAt B w st) (hs : RdStep w B st2 w') (hb : b < B) (d1 : w.cell? ⟨b, x, none⟩ = some u) (d2 : w.cell? ⟨b, y, none⟩ = some v) :
    HalfAt B w' st2 st ∧ w'.cell? ⟨b, x, none⟩ = some u ∧ w'.cell? ⟨b, y, none⟩ = some v ∧ Below B w w' := by
  have hbel := hs.below hT.1 (Nat.le_refl _)
  exact ⟨⟨hs.1, hT.2.keep (hs.2.block _ hT.2.lt (by simp))⟩, (hbel.cell (p := ⟨b, x, none⟩) hb).trans d1, (hbel.cell (p := ⟨b, y, none⟩) hb).trans d2, hbel⟩
theorem step_two {B b x y : Nat} {w w' : World} {st st2 : St} {u v : Value} (hT : HalfAt B w st2 st) (hr : RqAt w' (B + 1) st2) (hg : w.grownBy w' (some (B + 1))) (hb : b < B) (d1 : w.cell? ⟨b, x, none⟩ = some u) (d2 : w.cell? ⟨b, y, none⟩ = some v) :
    TwoAt B w' st2 ∧ w'.cell? ⟨b, x, none⟩ = some u ∧ w'.cell? ⟨b, y, none⟩ = some v ∧ Below B w w' := by
  have hbel := below_of_grown hg (B := B) (by omega) hT.2.lt
  exact ⟨⟨hT.1.keep (hg.block _ hT.1.lt (by simp)), hr⟩, (hbel.cell (p := ⟨b, x, none⟩) hb).trans d1, (hbel.cell (p := ⟨b, y, none⟩) hb).trans d2, hbel⟩
theorem two_int1 (B b x y : Nat) (st st2 : St) (lo hi : Int) (r : Int) (u v : Value) (w : World) (hT : TwoAt B w st) (hres : rdInt lo hi st = (r, st2)) (hb : b < B) (d1 : w.cell? ⟨b, x, none⟩ = some u) (d2 : w.cell? ⟨b, y, none⟩ = some v) :
    Calls Try.prog 17 #[.pointer (some ⟨B, 0, none⟩), .int .i64 lo, .int .i64 hi] w fun e w' => e = .returned (.int .i64 r) ∧ HalfAt B w' st2 st ∧ w'.cell? ⟨b, x, none⟩ = some u ∧ w'.cell? ⟨b, y, none⟩ = some v ∧ Below B w w' := by
  have h := rdint_any B st lo hi w hT.1
  rw [hres] at h
  exact h.mono fun e w' ⟨he, hr⟩ => ⟨he, step_half hT hr hb d1 d2⟩
theorem two_int2 (B b x y : Nat) (st st2 : St) (lo hi : Int) (r : Int) (u v : Value) (w : World) (hT : HalfAt B w st2 st) (hres : rdInt lo hi st = (r, st2)) (hb : b < B) (d1 : w.cell? ⟨b, x, none⟩ = some u) (d2 : w.cell? ⟨b, y, none⟩ = some v) :
    Calls Try.prog 18 #[.pointer (some ⟨B + 1, 0, none⟩), .int .i64 lo, .int .i64 hi] w fun e w' => e = .returned (.int .i64 r) ∧ TwoAt B w' st2 ∧ w'.cell? ⟨b, x, none⟩ = some u ∧ w'.cell? ⟨b, y, none⟩ = some v ∧ Below B w w' := by
  have h := rqint_any (B + 1) st lo hi w hT.2
  rw [hres] at h
  exact h.mono fun e w' ⟨he, hr, hg⟩ => ⟨he, step_two hT hr hg hb d1 d2⟩
theorem two_flag1 (B b x y : Nat) (st st2 : St) (lo hi : Int) (r : Bool) (u v : Value) (w : World) (hT : TwoAt B w st) (hres : rdFlag st = (r, st2)) (hb : b < B) (d1 : w.cell? ⟨b, x, none⟩ = some u) (d2 : w.cell? ⟨b, y, none⟩ = some v) :
    Calls Try.prog 19 #[.pointer (some ⟨B, 0, none⟩)] w fun e w' => e = .returned (.bool r) ∧ HalfAt B w' st2 st ∧ w'.cell? ⟨b, x, none⟩ = some u ∧ w'.cell? ⟨b, y, none⟩ = some v ∧ Below B w w' := by
  have h := rdflag_any B st w hT.1
  rw [hres] at h
  exact h.mono fun e w' ⟨he, hr⟩ => ⟨he, step_half hT hr hb d1 d2⟩
theorem two_flag2 (B b x y : Nat) (st st2 : St) (lo hi : Int) (r : Bool) (u v : Value) (w : World) (hT : HalfAt B w st2 st) (hres : rdFlag st = (r, st2)) (hb : b < B) (d1 : w.cell? ⟨b, x, none⟩ = some u) (d2 : w.cell? ⟨b, y, none⟩ = some v) :
    Calls Try.prog 20 #[.pointer (some ⟨B + 1, 0, none⟩)] w fun e w' => e = .returned (.bool r) ∧ TwoAt B w' st2 ∧ w'.cell? ⟨b, x, none⟩ = some u ∧ w'.cell? ⟨b, y, none⟩ = some v ∧ Below B w w' := by
  have h := rqflag_any (B + 1) st w hT.2
  rw [hres] at h
  exact h.mono fun e w' ⟨he, hr, hg⟩ => ⟨he, step_two hT hr hg hb d1 d2⟩
theorem two_list1 (B b x y : Nat) (st st2 : St) (lo hi : Int) (r : Int) (u v : Value) (w : World) (hT : TwoAt B w st) (hres : rdList hi st = (r, st2)) (hb : b < B) (d1 : w.cell? ⟨b, x, none⟩ = some u) (d2 : w.cell? ⟨b, y, none⟩ = some v) :
    Calls Try.prog 23 #[.pointer (some ⟨B, 0, none⟩), .int .i64 hi] w fun e w' => e = .returned (.int .i64 r) ∧ HalfAt B w' st2 st ∧ w'.cell? ⟨b, x, none⟩ = some u ∧ w'.cell? ⟨b, y, none⟩ = some v ∧ Below B w w' := by
  have h := rdlist_any B st hi w hT.1
  rw [hres] at h
  exact h.mono fun e w' ⟨he, hr⟩ => ⟨he, step_half hT hr hb d1 d2⟩
theorem two_list2 (B b x y : Nat) (st st2 : St) (lo hi : Int) (r : Int) (u v : Value) (w : World) (hT : HalfAt B w st2 st) (hres : rdList hi st = (r, st2)) (hb : b < B) (d1 : w.cell? ⟨b, x, none⟩ = some u) (d2 : w.cell? ⟨b, y, none⟩ = some v) :
    Calls Try.prog 24 #[.pointer (some ⟨B + 1, 0, none⟩), .int .i64 hi] w fun e w' => e = .returned (.int .i64 r) ∧ TwoAt B w' st2 ∧ w'.cell? ⟨b, x, none⟩ = some u ∧ w'.cell? ⟨b, y, none⟩ = some v ∧ Below B w w' := by
  have h := rqlist_any (B + 1) st hi w hT.2
  rw [hres] at h
  exact h.mono fun e w' ⟨he, hr, hg⟩ => ⟨he, step_two hT hr hg hb d1 d2⟩
theorem two_text1 (B b x y : Nat) (st st2 : St) (lo hi : Int) (r : List UInt8) (u v : Value) (w : World) (hT : TwoAt B w st) (hres : rdText hi st = (r, st2)) (hb : b < B) (d1 : w.cell? ⟨b, x, none⟩ = some u) (d2 : w.cell? ⟨b, y, none⟩ = some v) :
    Calls Try.prog 21 #[.pointer (some ⟨B, 0, none⟩), .int .i64 hi] w fun e w' => e = .returned (.string ⟨r.toArray⟩) ∧ HalfAt B w' st2 st ∧ w'.cell? ⟨b, x, none⟩ = some u ∧ w'.cell? ⟨b, y, none⟩ = some v ∧ Below B w w' := by
  have h := rdtext_any B st hi w hT.1
  rw [hres] at h
  exact h.mono fun e w' ⟨he, hr⟩ => ⟨he, step_half hT hr hb d1 d2⟩
theorem two_text2 (B b x y : Nat) (st st2 : St) (lo hi : Int) (r : List UInt8) (u v : Value) (w : World) (hT : HalfAt B w st2 st) (hres : rdText hi st = (r, st2)) (hb : b < B) (d1 : w.cell? ⟨b, x, none⟩ = some u) (d2 : w.cell? ⟨b, y, none⟩ = some v) :
    Calls Try.prog 22 #[.pointer (some ⟨B + 1, 0, none⟩), .int .i64 hi] w fun e w' => e = .returned (.string ⟨r.toArray⟩) ∧ TwoAt B w' st2 ∧ w'.cell? ⟨b, x, none⟩ = some u ∧ w'.cell? ⟨b, y, none⟩ = some v ∧ Below B w w' := by
  have h := rqtext_any (B + 1) st hi w hT.2
  rw [hres] at h
  exact h.mono fun e w' ⟨he, hr, hg⟩ => ⟨he, step_two hT hr hg hb d1 d2⟩
theorem rqdone_is (b : Nat) (st : St) (v : Bool) (w : World) (h : RqAt w b st) (hr : done st = v) :
    Calls Try.prog 28 #[.pointer (some ⟨b, 0, none⟩)] w fun e w' => e = .returned (.bool v) ∧ Below w.heap.size w w' := by
  have h2 := rqdone_any b st w h
  rw [hr] at h2
  exact h2
theorem two_done {B : Nat} {w w' : World} {st : St} (hT : TwoAt B w st) (hb : Below w.heap.size w w') : TwoAt B w' st := ⟨hT.1.keep (hb.block _ hT.1.lt), hT.2.keep (hb.block _ hT.2.lt)⟩
set_option maxRecDepth 100000 in
set_option maxHeartbeats 4000000 in
theorem wireReads_walk (s : ByteArray) (a : Option Addr) (len cap : Nat) (W : World) (h : AsksAt W a len) (hs : s.size ≤ 300) (hl : len ≤ 20) :
    Calls Try.prog 4 #[.string s, .slice a len cap] W fun e w' => e = .returned (.bool true) ∧ Below W.heap.size W w' := by
  have HC := Lib.hid h.2
  clear h
  go_enter Try.func4, Try.ntmps4
  go_wp2_with fail
  refine (new_size s W (by omega)).mono ?_
  rintro e w1 ⟨rfl, hr1, hb1, hsz1⟩
  have HT1 := Lib.hid (two_new hr1 hb1 (by omega) hsz1)
  have HB1 := Lib.hid (hb1.alloc hb1.size (.cells #[.string s, .bool false] 35))
  clear hr1 hb1
  go_wp2_with fail
  go_loopw [7] (fun i wr => ∃ (k : Nat) (st : St), k ≤ len ∧ i = .int .i64 (k : Int) ∧ Hid (TwoAt W.heap.size wr st) ∧ Hid (Below W.heap.size W wr)) (fun i _ => len - (intOf i).toNat)
  case atStart => exact ⟨0, _, by omega, rfl, HT1, HB1⟩
  case round =>
    obtain ⟨k, st, hk, rfl, hT, hB⟩ := hrel
    by_cases hlt : k < len
    · rcases HC.out with h0 | ⟨b, off, rfl, hbl, hcell⟩
      · omega
      obtain ⟨kd, lo, hi, c0, c1, c2⟩ := hcell k hlt
      have hr := hB.out
      have d0 : wr.cell? ⟨b, off + k * 3, none⟩ = some (.int .i64 kd) := (hr.cell (p := ⟨b, off + k * 3, none⟩) hbl).trans c0
      have d1 : wr.cell? ⟨b, off + k * 3 + 1, none⟩ = some (.int .i64 lo) := (hr.cell (p := ⟨b, off + k * 3 + 1, none⟩) hbl).trans c1
      have d2 : wr.cell? ⟨b, off + k * 3 + 2, none⟩ = some (.int .i64 hi) := (hr.cell (p := ⟨b, off + k * 3 + 2, none⟩) hbl).trans c2
      clear hr HC hcell
      by_cases k0 : kd = 0
      · subst k0
        obtain ⟨r, st2, hres⟩ : ∃ r st2, rdInt lo hi st = (r, st2) := ⟨_, _, rfl⟩
        obtain ⟨dn, hdn⟩ : ∃ dn, done st2 = dn := ⟨_, rfl⟩
        have HRES := Lib.hid hres; have HD := Lib.hid hdn
        clear hres hdn
        go_wp2_with fail
        go_region_held3 (fun w' => w'.cell? ⟨b, off + k * 3 + 1, none⟩ = some (.int .i64 lo) ∧ w'.cell? ⟨b, off + k * 3 + 2, none⟩ = some (.int .i64 hi)) (first | exact ⟨d1, d2⟩ | exact ⟨e1, e2⟩ | exact ⟨g1, g2⟩)
          (first
            | (go_at_call 17; refine (two_int1 W.heap.size b (off + k * 3 + 1) (off + k * 3 + 2) st st2 lo hi r _ _ wr.drew hT.out HRES.out hbl d1 d2).mono ?_; rintro e w2 ⟨rfl, hH, e1, e2, hbA⟩)
            | (go_at_call 18; refine (two_int2 W.heap.size b (off + k * 3 + 1) (off + k * 3 + 2) st st2 lo hi r _ _ _ hH HRES.out hbl e1 e2).mono ?_; rintro e w3 ⟨rfl, hT2, g1, g2, hbB⟩))
        have HT2 := Lib.hid hT2; have HB2 := Lib.hid (((hB.out.drew.trans hbA).trans hbB))
        clear hT2 hbA hbB e1 e2 g1 g2
        go_wp2_with fail
        refine (left_any W.heap.size st2 w3 HT2.out.1).mono ?_
        rintro e w4 ⟨rfl, rfl⟩
        go_wp2_with fail
        refine (rqleft_any (W.heap.size + 1) st2 w3 HT2.out.2).mono ?_
        rintro e w4 ⟨rfl, rfl⟩
        go_wp2_with fail
        refine (rddone_is W.heap.size st2 dn w3 HT2.out.1 HD.out).mono ?_
        rintro e w4 ⟨rfl, hb4⟩
        have HT4 := Lib.hid (two_done HT2.out hb4); have HB4 := Lib.hid (below_keep HB2.out hb4 HB2.out.size)
        clear hb4
        go_wp2_with fail
        refine (rqdone_is (W.heap.size + 1) st2 dn w4 HT4.out.2 HD.out).mono ?_
        rintro e w5 ⟨rfl, hb5⟩
        have HT5 := Lib.hid (two_done HT4.out hb5); have HB5 := Lib.hid (below_keep HB4.out hb5 HB4.out.size)
        clear hb5
        go_wp2_with fail
        go_roundw
        case rel => exact ⟨k + 1, st2, by omega, by go_num, HT5, HB5⟩
        case measure => simp [intOf]; omega
      by_cases k1 : kd = 1
      · subst k1
        obtain ⟨r, st2, hres⟩ : ∃ r st2, rdFlag st = (r, st2) := ⟨_, _, rfl⟩
        obtain ⟨dn, hdn⟩ : ∃ dn, done st2 = dn := ⟨_, rfl⟩
        have HRES := Lib.hid hres; have HD := Lib.hid hdn
        clear hres hdn
        go_wp2_with fail
        refine (two_flag1 W.heap.size b (off + k * 3 + 1) (off + k * 3 + 2) st st2 lo hi r _ _ wr hT.out HRES.out hbl d1 d2).mono ?_
        rintro e w2 ⟨rfl, hH, e1, e2, hbA⟩
        go_wp2_with fail
        refine (two_flag2 W.heap.size b (off + k * 3 + 1) (off + k * 3 + 2) st st2 lo hi r _ _ w2 hH HRES.out hbl e1 e2).mono ?_
        rintro e w3 ⟨rfl, hT2, g1, g2, hbB⟩
        have HT2 := Lib.hid hT2; have HB2 := Lib.hid (((hB.out.trans hbA).trans hbB))
        clear hT2 hbA hbB e1 e2 g1 g2
        go_wp2_with fail
        refine (left_any W.heap.size st2 w3 HT2.out.1).mono ?_
        rintro e w4 ⟨rfl, rfl⟩
        go_wp2_with fail
        refine (rqleft_any (W.heap.size + 1) st2 w3 HT2.out.2).mono ?_
        rintro e w4 ⟨rfl, rfl⟩
        go_wp2_with fail
        refine (rddone_is W.heap.size st2 dn w3 HT2.out.1 HD.out).mono ?_
        rintro e w4 ⟨rfl, hb4⟩
        have HT4 := Lib.hid (two_done HT2.out hb4); have HB4 := Lib.hid (below_keep HB2.out hb4 HB2.out.size)
        clear hb4
        go_wp2_with fail
        refine (rqdone_is (W.heap.size + 1) st2 dn w4 HT4.out.2 HD.out).mono ?_
        rintro e w5 ⟨rfl, hb5⟩
        have HT5 := Lib.hid (two_done HT4.out hb5); have HB5 := Lib.hid (below_keep HB4.out hb5 HB4.out.size)
        clear hb5
        go_wp2_with fail
        go_roundw
        case rel => exact ⟨k + 1, st2, by omega, by go_num, HT5, HB5⟩
        case measure => simp [intOf]; omega
      by_cases k2 : kd = 2
      · subst k2
        obtain ⟨r, st2, hres⟩ : ∃ r st2, rdText hi st = (r, st2) := ⟨_, _, rfl⟩
        obtain ⟨dn, hdn⟩ : ∃ dn, done st2 = dn := ⟨_, rfl⟩
        have HRES := Lib.hid hres; have HD := Lib.hid hdn
        clear hres hdn
        go_wp2_with fail
        go_region_held3 (fun w' => w'.cell? ⟨b, off + k * 3 + 2, none⟩ = some (.int .i64 hi)) (first | exact d2 | exact e2 | exact g2)
          (first
            | (go_at_call 21; refine (two_text1 W.heap.size b (off + k * 3 + 1) (off + k * 3 + 2) st st2 lo hi r _ _ wr.drew hT.out HRES.out hbl d1 d2).mono ?_; rintro e w2 ⟨rfl, hH, e1, e2, hbA⟩)
            | (go_at_call 22; refine (two_text2 W.heap.size b (off + k * 3 + 1) (off + k * 3 + 2) st st2 lo hi r _ _ _ hH HRES.out hbl e1 e2).mono ?_; rintro e w3 ⟨rfl, hT2, g1, g2, hbB⟩))
        have HT2 := Lib.hid hT2; have HB2 := Lib.hid (((hB.out.drew.trans hbA).trans hbB))
        clear hT2 hbA hbB e1 e2 g1 g2
        go_wp2_with fail
        refine (left_any W.heap.size st2 w3 HT2.out.1).mono ?_
        rintro e w4 ⟨rfl, rfl⟩
        go_wp2_with fail
        refine (rqleft_any (W.heap.size + 1) st2 w3 HT2.out.2).mono ?_
        rintro e w4 ⟨rfl, rfl⟩
        go_wp2_with fail
        refine (rddone_is W.heap.size st2 dn w3 HT2.out.1 HD.out).mono ?_
        rintro e w4 ⟨rfl, hb4⟩
        have HT4 := Lib.hid (two_done HT2.out hb4); have HB4 := Lib.hid (below_keep HB2.out hb4 HB2.out.size)
        clear hb4
        go_wp2_with fail
        refine (rqdone_is (W.heap.size + 1) st2 dn w4 HT4.out.2 HD.out).mono ?_
        rintro e w5 ⟨rfl, hb5⟩
        have HT5 := Lib.hid (two_done HT4.out hb5); have HB5 := Lib.hid (below_keep HB4.out hb5 HB4.out.size)
        clear hb5
        go_wp2_with fail
        go_roundw
        case rel => exact ⟨k + 1, st2, by omega, by go_num, HT5, HB5⟩
        case measure => simp [intOf]; omega
      · have q0 : (kd == 0) = false := beq_eq_false_iff_ne.2 k0
        have q1 : (kd == 1) = false := beq_eq_false_iff_ne.2 k1
        have q2 : (kd == 2) = false := beq_eq_false_iff_ne.2 k2
        obtain ⟨r, st2, hres⟩ : ∃ r st2, rdList hi st = (r, st2) := ⟨_, _, rfl⟩
        obtain ⟨dn, hdn⟩ : ∃ dn, done st2 = dn := ⟨_, rfl⟩
        have HRES := Lib.hid hres; have HD := Lib.hid hdn
        clear hres hdn
        go_wp2_with fail
        go_region_held3 (fun w' => w'.cell? ⟨b, off + k * 3 + 2, none⟩ = some (.int .i64 hi)) (first | exact d2 | exact e2 | exact g2)
          (first
            | (go_at_call 23; refine (two_list1 W.heap.size b (off + k * 3 + 1) (off + k * 3 + 2) st st2 lo hi r _ _ wr.drew hT.out HRES.out hbl d1 d2).mono ?_; rintro e w2 ⟨rfl, hH, e1, e2, hbA⟩)
            | (go_at_call 24; refine (two_list2 W.heap.size b (off + k * 3 + 1) (off + k * 3 + 2) st st2 lo hi r _ _ _ hH HRES.out hbl e1 e2).mono ?_; rintro e w3 ⟨rfl, hT2, g1, g2, hbB⟩))
        have HT2 := Lib.hid hT2; have HB2 := Lib.hid (((hB.out.drew.trans hbA).trans hbB))
        clear hT2 hbA hbB e1 e2 g1 g2
        go_wp2_with fail
        refine (left_any W.heap.size st2 w3 HT2.out.1).mono ?_
        rintro e w4 ⟨rfl, rfl⟩
        go_wp2_with fail
        refine (rqleft_any (W.heap.size + 1) st2 w3 HT2.out.2).mono ?_
        rintro e w4 ⟨rfl, rfl⟩
        go_wp2_with fail
        refine (rddone_is W.heap.size st2 dn w3 HT2.out.1 HD.out).mono ?_
        rintro e w4 ⟨rfl, hb4⟩
        have HT4 := Lib.hid (two_done HT2.out hb4); have HB4 := Lib.hid (below_keep HB2.out hb4 HB2.out.size)
        clear hb4
        go_wp2_with fail
        refine (rqdone_is (W.heap.size + 1) st2 dn w4 HT4.out.2 HD.out).mono ?_
        rintro e w5 ⟨rfl, hb5⟩
        have HT5 := Lib.hid (two_done HT4.out hb5); have HB5 := Lib.hid (below_keep HB4.out hb5 HB4.out.size)
        clear hb5
        go_wp2_with fail
        go_roundw
        case rel => exact ⟨k + 1, st2, by omega, by go_num, HT5, HB5⟩
        case measure => simp [intOf]; omega
    · go_wp2_with fail
      refine (awake_any wr).mono ?_
      rintro e w2 ⟨rfl, hb2⟩
      have HB2 := Lib.hid (below_keep hB.out hb2 hB.out.size)
      clear hb2
      go_wp2_with fail
      go_ret
      exact ⟨rfl, HB2.out⟩
end Go.Proofs.Ytjenhgbighlooaa
