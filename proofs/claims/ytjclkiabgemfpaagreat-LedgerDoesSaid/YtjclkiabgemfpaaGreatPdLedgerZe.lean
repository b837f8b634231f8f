/-
  LedgerDoes: it returns true for any books and any act; what was there stays as it was.
-/
import Derived.Test.YtjclkiabgemfpaaGreatPdLedgerY
set_option linter.unusedVariables false
set_option linter.unusedSimpArgs false
set_option maxRecDepth 4000
namespace Go.Proofs.YtjclkiabgemfpaaGreat.Ledger
open Go.RowKit LinesP HoldsP LedgerP
open StockP (Sk sk0)
open Go.Proofs.YtjclkiabgemfpaaGreat.Lines (LsAt Sz SzM ret_bool ret_int below_keep below_drewN Qw qw_skip qw_take qw_nil wp_region_qw)
open Go.Proofs.YtjclkiabgemfpaaGreat.Holds (HsAt SzH SzMH hmf eqH)

def FewC (w : World) (a : Option Addr) (len cap : Nat) (a2 : Option Addr) (len2 cap2 : Nat) (v : Bool) : Prop :=
  (∀ w', Below w.heap.size w w' → Calls Tryz.prog 5 #[.agg #[.slice a len cap, .slice a2 len2 cap2]] w' fun e w'' => e = .returned (.bool v) ∧ Below w'.heap.size w' w'') ∧ (v = true → ∃ b, BkAt w a len a2 len2 cap2 b ∧ SzB b)
theorem fewC_book {w : World} {a : Option Addr} {len cap : Nat} {a2 : Option Addr} {len2 cap2 : Nat} {b : Bk} (h : BkAt w a len a2 len2 cap2 b) (hs : SzMB b) : FewC w a len cap a2 len2 cap2 (fewB b) :=
  ⟨fun w' hb => few_any a len cap a2 len2 cap2 b _ rfl w' (h.keep hb) hs, fun hv => ⟨b, h, (fewB_szb hv hs).1⟩⟩
structure DzJ (w wr : World) (a : Option Addr) (len cap : Nat) (a2 : Option Addr) (len2 cap2 : Nat) (kd sg q : Int) (s : ByteArray) (la : Option Addr) (n lc : Nat) (d : Option Addr) (m e : Nat) (d2 : Option Addr) (m2 e2 : Nat) : Prop where
  bel : Below w.heap.size w wr
  bo : AtB wr w.heap.size (.slice a len cap) (.slice a2 len2 cap2)
  ac : wr.heap[w.heap.size + 1]? = some (.cells #[.int .i64 kd, .int .i64 sg, .int .i64 q, .string s, .slice la n lc] 28 (0, 0))
  co : AtB wr (w.heap.size + 2) (.slice d m e) (.slice d2 m2 e2)
section
variable {w wr w2 : World} {a : Option Addr} {len cap : Nat} {a2 : Option Addr} {len2 cap2 : Nat} {kd sg q : Int} {s : ByteArray} {la : Option Addr} {n lc : Nat} {d : Option Addr} {m e : Nat} {d2 : Option Addr} {m2 e2 : Nat}
theorem DzJ.keep (h : DzJ w wr a len cap a2 len2 cap2 kd sg q s la n lc d m e d2 m2 e2) (hb : Below wr.heap.size wr w2) : DzJ w w2 a len cap a2 len2 cap2 kd sg q s la n lc d m e d2 m2 e2 :=
  ⟨Lines.below_keep h.bel hb h.bel.size, atB_keep h.bo hb, (hb.block _ (heap_lt h.ac)).trans h.ac, atB_keep h.co hb⟩
theorem DzJ.cells (h : DzJ w wr a len cap a2 len2 cap2 kd sg q s la n lc d m e d2 m2 e2) : (wr.cell? ⟨w.heap.size, 0, none⟩ = some (.slice a len cap) ∧ wr.cell? ⟨w.heap.size, 1, none⟩ = some (.slice a2 len2 cap2)) ∧ (wr.cell? ⟨w.heap.size + 1, 0, none⟩ = some (.int .i64 kd) ∧ wr.cell? ⟨w.heap.size + 1, 1, none⟩ = some (.int .i64 sg) ∧ wr.cell? ⟨w.heap.size + 1, 2, none⟩ = some (.int .i64 q) ∧ wr.cell? ⟨w.heap.size + 1, 3, none⟩ = some (.string s) ∧ wr.cell? ⟨w.heap.size + 1, 4, none⟩ = some (.slice la n lc)) ∧ (wr.cell? ⟨w.heap.size + 2, 0, none⟩ = some (.slice d m e) ∧ wr.cell? ⟨w.heap.size + 2, 1, none⟩ = some (.slice d2 m2 e2)) := by
  refine ⟨cellsB h.bo, ⟨?_, ?_, ?_, ?_, ?_⟩, cellsB h.co⟩ <;> (rw [cell_of_heap h.ac]; rfl)
theorem dz_new (w : World) (a : Option Addr) (len cap : Nat) (a2 : Option Addr) (len2 cap2 : Nat) (kd sg q : Int) (s : ByteArray) (la : Option Addr) (n lc : Nat) (d : Option Addr) (m e : Nat) (d2 : Option Addr) (m2 e2 : Nat) : DzJ w (((w.alloc (.cells #[.slice a len cap, .slice a2 len2 cap2] 25)).alloc (.cells #[.int .i64 kd, .int .i64 sg, .int .i64 q, .string s, .slice la n lc] 28)).alloc (.cells #[.slice d m e, .slice d2 m2 e2] 25)) a len cap a2 len2 cap2 kd sg q s la n lc d m e d2 m2 e2 := by
  have s1 : (w.alloc (.cells #[.slice a len cap, .slice a2 len2 cap2] 25)).heap.size = w.heap.size + 1 := World.size_alloc _ _
  have s2 : ((w.alloc (.cells #[.slice a len cap, .slice a2 len2 cap2] 25)).alloc (.cells #[.int .i64 kd, .int .i64 sg, .int .i64 q, .string s, .slice la n lc] 28)).heap.size = w.heap.size + 2 := by rw [World.size_alloc, s1]
  have b1 : Below w.heap.size w (w.alloc (.cells #[.slice a len cap, .slice a2 len2 cap2] 25)) := (Below.refl _ w).alloc (Nat.le_refl _) _
  have b2 := (Below.refl _ (w.alloc (.cells #[.slice a len cap, .slice a2 len2 cap2] 25))).alloc (Nat.le_refl _) (.cells #[.int .i64 kd, .int .i64 sg, .int .i64 q, .string s, .slice la n lc] 28)
  have b3 := (Below.refl _ ((w.alloc (.cells #[.slice a len cap, .slice a2 len2 cap2] 25)).alloc (.cells #[.int .i64 kd, .int .i64 sg, .int .i64 q, .string s, .slice la n lc] 28))).alloc (Nat.le_refl _) (.cells #[.slice d m e, .slice d2 m2 e2] 25)
  have h1 : AtB (w.alloc (.cells #[.slice a len cap, .slice a2 len2 cap2] 25)) w.heap.size _ _ := heap_alloc_new w _
  have h2 := heap_alloc_new (w.alloc (.cells #[.slice a len cap, .slice a2 len2 cap2] 25)) (.cells #[.int .i64 kd, .int .i64 sg, .int .i64 q, .string s, .slice la n lc] 28)
  have h3 := heap_alloc_new ((w.alloc (.cells #[.slice a len cap, .slice a2 len2 cap2] 25)).alloc (.cells #[.int .i64 kd, .int .i64 sg, .int .i64 q, .string s, .slice la n lc] 28)) (.cells #[.slice d m e, .slice d2 m2 e2] 25)
  rw [s1] at h2
  rw [s2] at h3
  exact ⟨Lines.below_keep (Lines.below_keep b1 b2 b1.size) b3 (Lines.below_keep b1 b2 b1.size).size, atB_keep (atB_keep h1 b2) b3, (b3.block _ (heap_lt h2)).trans h2, h3⟩
end
theorem as_one (w : World) (kd sg q : Int) (s : ByteArray) (la : Option Addr) (n lc : Nat) (ls : List Ln) (hL : LsAt w la n ls) : AsAt (w.alloc (.cells #[.int .i64 kd, .int .i64 sg, .int .i64 q, .string s, .slice la n lc] 28)) (some ⟨w.heap.size, 0, none⟩) 1 [⟨kd, sg, q, s, ls⟩] := by
  have hn : ls.length = n := hL.1
  subst hn
  have h2 := heap_alloc_new w (.cells #[.int .i64 kd, .int .i64 sg, .int .i64 q, .string s, .slice la ls.length lc] 28)
  have hb := (Below.refl _ w).alloc (Nat.le_refl _) (.cells #[.int .i64 kd, .int .i64 sg, .int .i64 q, .string s, .slice la ls.length lc] 28)
  refine ⟨[(⟨kd, sg, q, s, ls⟩, la, lc)], rfl, rfl, by omega, fun z hz => ?_, .inr ⟨w.heap.size, 0, rfl, by rw [World.size_alloc]; omega, fun i hi => ?_⟩⟩
  · rw [List.mem_singleton] at hz
    subst hz
    exact hL.keep hb
  · obtain rfl : i = 0 := by omega
    refine ⟨?_, ?_, ?_, ?_, ?_⟩ <;> (rw [cell_of_heap h2]; rfl)
theorem pfew1 (a : Option Addr) (len cap : Nat) (l : List LedgerP.Act) (v : Bool) (hv : fewA 1 l = v) (w : World) (h : AsAt w a len l) (hs : SzMA l) :
    Calls Tryz.prog 6 #[.slice a len cap, .int .i64 1] w fun e w' => e = .returned (.bool v) ∧ Below w.heap.size w w' := by
  have := fewacts_any a len cap l 1 w h hs (by decide)
  rw [hv] at this
  exact this
theorem pjoin2 {G : Prop} {P F : World → Nat → Prop} (main : (∀ w g, F w g → P w g) → G) (pf : ∀ w g, F w g → P w g) : G := main pf
set_option maxHeartbeats 8000000 in
theorem does_any (a : Option Addr) (len cap : Nat) (a2 : Option Addr) (len2 cap2 : Nat) (v1 : Bool) (kd sg q : Int) (s : ByteArray) (la : Option Addr) (n lc : Nat) (ls : List Ln) (d : Option Addr) (m e : Nat) (d2 : Option Addr) (m2 e2 : Nat) (v2 : Bool) (w : World)
    (hB : FewC w a len cap a2 len2 cap2 v1) (hC : FewC w d m e d2 m2 e2 v2) (hL : LsAt w la n ls) (hm : SzM ls) (hs : s.size ≤ 9223372036854775807) :
    Calls Tryz.prog 3 #[.agg #[.slice a len cap, .slice a2 len2 cap2], .agg #[.int .i64 kd, .int .i64 sg, .int .i64 q, .string s, .slice la n lc], .agg #[.slice d m e, .slice d2 m2 e2]] w fun e w' => e = .returned (.bool true) ∧ Below w.heap.size w w' := by
  have HB := Lib.hid hB; have HC := Lib.hid hC; have HL := Lib.hid hL; have HM := Lib.hid hm; have HS := Lib.hid hs
  have hj := dz_new w a len cap a2 len2 cap2 kd sg q s la n lc d m e d2 m2 e2
  obtain ⟨w1, hw1⟩ : ∃ w1, (((w.alloc (.cells #[.slice a len cap, .slice a2 len2 cap2] 25)).alloc (.cells #[.int .i64 kd, .int .i64 sg, .int .i64 q, .string s, .slice la n lc] 28)).alloc (.cells #[.slice d m e, .slice d2 m2 e2] 25)) = w1 := ⟨_, rfl⟩
  rw [hw1] at hj
  have J1 := Lib.hid hj
  have HW := Lib.hid hw1
  clear hB hC hL hm hs hj hw1
  have C := Lib.hid (HB.out.1 w1 J1.out.bel)
  obtain ⟨⟨u0, u1⟩, ⟨u2, u3, u4, u5, u6⟩, ⟨u7, u8⟩⟩ := J1.out.cells
  go_enter Tryz.func3, Tryz.ntmps3
  go_wp2_with fail
  rw [show (((w.alloc (.cells #[.slice a len cap, .slice a2 len2 cap2] 25)).alloc (.cells #[.int .i64 kd, .int .i64 sg, .int .i64 q, .string s, .slice la n lc] 28)).alloc (.cells #[.slice d m e, .slice d2 m2 e2] 25)) = w1 from HW.out]
  go_wp2_with fail
  refine C.out.mono ?_
  rintro e w2 ⟨rfl, hb⟩
  have J2 := Lib.hid (J1.out.keep hb)
  clear hb C u0 u1 u2 u3 u4 u5 u6 u7 u8 J1 HW
  cases v1 with
  | false =>
    go_wp2_with fail
    refine (awake_any w2).mono ?_
    rintro e w9 ⟨rfl, hb⟩
    have J9 := Lib.hid (J2.out.keep hb)
    clear hb
    go_wp2_with fail
    go_ret
    exact ⟨rfl, J9.out.bel⟩
  | true =>
    have C := Lib.hid (HC.out.1 w2 J2.out.bel)
    obtain ⟨⟨u0, u1⟩, ⟨u2, u3, u4, u5, u6⟩, ⟨u7, u8⟩⟩ := J2.out.cells
    go_wp2_with fail
    refine C.out.mono ?_
    rintro e w3 ⟨rfl, hb⟩
    have J3 := Lib.hid (J2.out.keep hb)
    clear hb C u0 u1 u2 u3 u4 u5 u6 u7 u8 J2
    cases v2 with
    | false =>
      go_wp2_with fail
      refine (awake_any w3).mono ?_
      rintro e w9 ⟨rfl, hb⟩
      have J9 := Lib.hid (J3.out.keep hb)
      clear hb
      go_wp2_with fail
      go_ret
      exact ⟨rfl, J9.out.bel⟩
    | true =>
      have L3 := Lib.hid (HL.out.keep J3.out.bel)
      have hma : SzMA [⟨kd, sg, q, s, ls⟩] := by
        intro x hx
        rw [List.mem_singleton] at hx
        subst hx
        exact ⟨HM.out, HS.out⟩
      obtain ⟨v3, hv3⟩ : ∃ v3, fewA 1 [⟨kd, sg, q, s, ls⟩] = v3 := ⟨_, rfl⟩
      have hbx := (Below.refl _ w3).alloc (Nat.le_refl _) (.cells #[.int .i64 kd, .int .i64 sg, .int .i64 q, .string s, .slice la n lc] 28)
      have C := Lib.hid (pfew1 _ 1 1 _ v3 hv3 _ (as_one w3 kd sg q s la n lc ls L3.out) hma)
      have HV3 := Lib.hid hv3
      have HMA := Lib.hid hma
      have J3b := Lib.hid (J3.out.keep hbx)
      obtain ⟨⟨u0, u1⟩, ⟨u2, u3, u4, u5, u6⟩, ⟨u7, u8⟩⟩ := J3.out.cells
      clear hv3 hma hbx L3
      go_wp2_with fail
      refine C.out.mono ?_
      rintro e w4 ⟨rfl, hb⟩
      have J4 := Lib.hid (J3b.out.keep hb)
      clear hb C u0 u1 u2 u3 u4 u5 u6 u7 u8 J3 J3b
      cases v3 with
      | false =>
        go_wp2_with fail
        refine (awake_any w4).mono ?_
        rintro e w9 ⟨rfl, hb⟩
        have J9 := Lib.hid (J4.out.keep hb)
        clear hb
        go_wp2_with fail
        go_ret
        exact ⟨rfl, J9.out.bel⟩
      | true =>
        have hfm := (fewA_mem HV3.out HMA.out).2 _ (List.mem_singleton.2 rfl)
        simp only at hfm
        obtain ⟨hl8, hsz, hs60⟩ := hfm
        obtain ⟨b, hbk, hzb⟩ := HB.out.2 rfl
        obtain ⟨c, hck, hzc⟩ := HC.out.2 rfl
        have ZB := Lib.hid hzb; have ZC := Lib.hid hzc
        have BK := Lib.hid hbk; have CK := Lib.hid hck
        have hn8 : n ≤ 1000000 := by have := HL.out.1; omega
        have CO := Lib.hid (fun w' => of_any (.slice a len cap) (.slice a2 len2 cap2) w' ⟨_, _, _, rfl⟩ ⟨_, _, _, rfl⟩)
        have CD : Hid (∀ w', Below w4.heap.size w4 w' → Calls Tryz.prog 8 #[.agg #[.slice a len cap, .slice a2 len2 cap2], .agg #[.int .i64 kd, .int .i64 sg, .int .i64 q, .string s, .slice la n lc]] w' (BookR w' (doB b ⟨kd, sg, q, s, ls⟩))) :=
          fun w' hb => do_any a len cap a2 len2 cap2 b kd sg q s la n lc ls w' (BK.out.keep (J4.out.keep hb).bel) ZB.out (by omega) (HL.out.keep (J4.out.keep hb).bel) hsz (by omega)
        have CR : Hid (∀ w', Below w.heap.size w w' → Calls Tryz.prog 10 #[.agg #[.slice a len cap, .slice a2 len2 cap2], .agg #[.int .i64 kd, .int .i64 sg, .int .i64 q, .string s, .slice la n lc]] w' (BookR w' (doB b ⟨kd, sg, q, s, ls⟩))) :=
          fun w' hb => rdo_any a len cap a2 len2 cap2 b kd sg q s la n lc ls w' (BK.out.keep hb) ZB.out (by omega) (HL.out.keep hb) hsz
        obtain ⟨⟨y, er⟩, hr⟩ : ∃ r, doB b ⟨kd, sg, q, s, ls⟩ = r := ⟨_, rfl⟩
        rw [hr] at CD CR
        unfold BookR at CD CR
        simp only at CD CR
        clear hr hbk hck hzb hzc HV3 HMA hl8 hsz hs60 hn8
        go_wp2_with fail
        have K : Hid (∀ w', Below w4.heap.size w4 w' → (w'.cell? ⟨w.heap.size, 0, none⟩ = some (.slice a len cap) ∧ w'.cell? ⟨w.heap.size, 1, none⟩ = some (.slice a2 len2 cap2)) ∧ w'.cell? ⟨w.heap.size + 1, 0, none⟩ = some (.int .i64 kd) ∧ w'.cell? ⟨w.heap.size + 1, 1, none⟩ = some (.int .i64 sg) ∧ w'.cell? ⟨w.heap.size + 1, 2, none⟩ = some (.int .i64 q) ∧ w'.cell? ⟨w.heap.size + 1, 3, none⟩ = some (.string s) ∧ w'.cell? ⟨w.heap.size + 1, 4, none⟩ = some (.slice la n lc)) := by
          intro w' hb
          obtain ⟨⟨u0, u1⟩, ⟨u2, u3, u4, u5, u6⟩, _⟩ := (J4.out.keep hb).cells
          exact ⟨⟨u0, u1⟩, u2, u3, u4, u5, u6⟩
        apply pjoin8 (F := fun wz bx a4 n4 c4 p4 m4 d4 => Below w4.heap.size w4 wz ∧ At2 wz bx (.slice a4 n4 c4) (.slice p4 m4 d4) ∧ BkAt wz a4 n4 p4 m4 d4 y)
        · intro hG
          have b0 : Below w4.heap.size w4 w4.drew := (Below.refl _ w4).drew
          have k0 := K.out _ b0
          have b00 : Below w4.heap.size w4 (w4.alloc (.cells #[.slice none 0 0, .slice none 0 0] 33)).drew := ((Below.refl _ w4).alloc (Nat.le_refl _) _).drew
          have k00 := K.out _ b00
          have k01 := K.out _ ((Below.refl _ w4).alloc (Nat.le_refl _) (.cells #[.slice none 0 0, .slice none 0 0] 33))
          go_region_held3 (fun w' => (w'.cell? ⟨w.heap.size, 0, none⟩ = some (.slice a len cap) ∧ w'.cell? ⟨w.heap.size, 1, none⟩ = some (.slice a2 len2 cap2)) ∧ w'.cell? ⟨w.heap.size + 1, 0, none⟩ = some (.int .i64 kd) ∧ w'.cell? ⟨w.heap.size + 1, 1, none⟩ = some (.int .i64 sg) ∧ w'.cell? ⟨w.heap.size + 1, 2, none⟩ = some (.int .i64 q) ∧ w'.cell? ⟨w.heap.size + 1, 3, none⟩ = some (.string s) ∧ w'.cell? ⟨w.heap.size + 1, 4, none⟩ = some (.slice la n lc))
            (first | with_reducible exact k0 | with_reducible exact k00 | with_reducible exact k01 | with_reducible exact k4 | with_reducible exact k5 | with_reducible exact k6 | with_reducible exact k7 | with_reducible exact k8)
            (first
              | ((with_reducible refine (CO.out (w4.alloc (.cells #[.slice none 0 0, .slice none 0 0] 33)).drew).mono ?_); rintro e v4 ⟨rfl, hb4⟩; have b4 := Lines.below_keep b00 hb4 b00.size; have k4 := K.out _ b4; have hz4 := pat2_keep (w := (w4.alloc (.cells #[.slice none 0 0, .slice none 0 0] 33)).drew) (pat2_new w4 (.slice none 0 0) (.slice none 0 0)) hb4)
              | ((with_reducible refine (CO.out w4.drew).mono ?_); rintro e v4 ⟨rfl, hb4⟩; have b4 := Lines.below_keep b0 hb4 b0.size; have k4 := K.out _ b4; have b5 := b4.alloc b4.size (.cells #[.slice none 0 0, .slice none 0 0] 33); have k5 := K.out _ b5; have hz5 := pat2_new v4 (.slice none 0 0) (.slice none 0 0))
              | ((with_reducible refine (CD.out (v4.alloc (.cells #[.slice none 0 0, .slice none 0 0] 33)) b5).mono ?_); rintro e v6 ⟨a4, n4, c4, p4, m4, d4, rfl, hbk, hb6⟩; have b6 := Lines.below_keep b5 hb6 b5.size; have k6 := K.out _ b6; have hz6 := pat2_keep hz5 hb6; obtain ⟨z0, z1⟩ := cells2 hz6; obtain ⟨f0, f1⟩ := free2 hz6; have k7 := K.out _ (below_put2 b6 b4.size (.slice a4 n4 c4) (.slice p4 m4 d4)))
              | ((with_reducible refine (CD.out v4 b4).mono ?_); rintro e v6 ⟨a4, n4, c4, p4, m4, d4, rfl, hbk, hb6⟩; have b6 := Lines.below_keep b4 hb6 b4.size; have k6 := K.out _ b6; have hz6 := pat2_keep hz4 hb6; obtain ⟨z0, z1⟩ := cells2 hz6; obtain ⟨f0, f1⟩ := free2 hz6; have k7 := K.out _ (below_put2 b6 (Nat.le_refl _) (.slice a4 n4 c4) (.slice p4 m4 d4)))
              | ((with_reducible refine (CD.out v4 b4).mono ?_); rintro e v6 ⟨a4, n4, c4, p4, m4, d4, rfl, hbk, hb6⟩; have b6 := Lines.below_keep b4 hb6 b4.size; have k6 := K.out _ b6; have k7 := K.out _ (b6.alloc b6.size (.cells #[.slice none 0 0, .slice none 0 0] 33)); have k8 := K.out _ (b6.alloc b6.size (.cells #[.slice a4 n4 c4, .slice p4 m4 d4] 33))))
          all_goals first
            | (have hq := hz4
               have hwz0 := below_put2 b6 (Nat.le_refl _) (.slice a4 n4 c4) (.slice p4 m4 d4)
               have hx0 := heap_put2 hz6 (.slice a4 n4 c4) (.slice p4 m4 d4)
               have hbk2 := pbk_put2 hbk hz6 (.slice a4 n4 c4) (.slice p4 m4 d4)
               change At2 (put2 v6 w4.heap.size (.slice a4 n4 c4) (.slice p4 m4 d4)) w4.heap.size _ _ at hx0
               change BkAt (put2 v6 w4.heap.size (.slice a4 n4 c4) (.slice p4 m4 d4)) _ _ _ _ _ _ at hbk2
               unfold put2 at hwz0 hx0 hbk2
               generalize hwz : ((v6.setCell ⟨w4.heap.size, 0, none⟩ (.slice a4 n4 c4)).setCell ⟨w4.heap.size, 1, none⟩ (.slice p4 m4 d4)) = wz at hwz0 hx0 hbk2 ⊢
               obtain ⟨bz, hbz⟩ : ∃ bz, w4.heap.size = bz := ⟨_, rfl⟩
               have hx1 : At2 wz bz (.slice a4 n4 c4) (.slice p4 m4 d4) := hbz ▸ hx0
               rw [hbz]
               exact hG wz bz a4 n4 c4 p4 m4 d4 ⟨hwz0, hx1, hbk2⟩)
            | (have hq := hz6
               have hwz0 := below_put2 b6 b4.size (.slice a4 n4 c4) (.slice p4 m4 d4)
               have hx0 := heap_put2 hz6 (.slice a4 n4 c4) (.slice p4 m4 d4)
               have hbk2 := pbk_put2 hbk hz6 (.slice a4 n4 c4) (.slice p4 m4 d4)
               change At2 (put2 v6 v4.heap.size (.slice a4 n4 c4) (.slice p4 m4 d4)) v4.heap.size _ _ at hx0
               change BkAt (put2 v6 v4.heap.size (.slice a4 n4 c4) (.slice p4 m4 d4)) _ _ _ _ _ _ at hbk2
               unfold put2 at hwz0 hx0 hbk2
               generalize hwz : ((v6.setCell ⟨v4.heap.size, 0, none⟩ (.slice a4 n4 c4)).setCell ⟨v4.heap.size, 1, none⟩ (.slice p4 m4 d4)) = wz at hwz0 hx0 hbk2 ⊢
               obtain ⟨bz, hbz⟩ : ∃ bz, v4.heap.size = bz := ⟨_, rfl⟩
               have hx1 : At2 wz bz (.slice a4 n4 c4) (.slice p4 m4 d4) := hbz ▸ hx0
               rw [hbz]
               exact hG wz bz a4 n4 c4 p4 m4 d4 ⟨hwz0, hx1, hbk2⟩)
            | (have hwz0 : Below w4.heap.size w4 (v6.alloc (.cells #[.slice a4 n4 c4, .slice p4 m4 d4] 33)) := b6.alloc b6.size _
               have hx0 := pat2_new v6 (.slice a4 n4 c4) (.slice p4 m4 d4)
               have hbk2 := hbk.keep ((Below.refl _ v6).alloc (Nat.le_refl _) (.cells #[.slice a4 n4 c4, .slice p4 m4 d4] 33))
               clear k0 k00 k01 k4 k6 b0 b00 b4 b6 hb4 hb6 hbk
               generalize hwz : v6.alloc (.cells #[.slice a4 n4 c4, .slice p4 m4 d4] 33) = wz at hwz0 hx0 hbk2 ⊢
               generalize hbz : v6.heap.size = bz at hx0 ⊢
               exact hG wz bz a4 n4 c4 p4 m4 d4 ⟨hwz0, hx0, hbk2⟩)
        · intro w5 bx a4 n4 c4 p4 m4 d4 hF
          have J5 := Lib.hid (J4.out.keep hF.1)
          have BX5 : Hid (At2 w5 bx (.slice a4 n4 c4) (.slice p4 m4 d4)) := hF.2.1
          have XK5 : Hid (BkAt w5 a4 n4 p4 m4 d4 y) := hF.2.2
          have C := Lib.hid (CR.out w5 J5.out.bel)
          clear hF CD CR J4 K
          obtain ⟨⟨u0, u1⟩, ⟨u2, u3, u4, u5, u6⟩, ⟨u7, u8⟩⟩ := J5.out.cells
          go_wp2_with fail
          refine C.out.mono ?_
          rintro e v5 ⟨a5, n5, c5, p5, m5, d5, rfl, hbk, hb⟩
          have hba := Lines.below_keep hb ((Below.refl _ v5).alloc (Nat.le_refl _) (.cells #[.slice a5 n5 c5, .slice p5 m5 d5] 25)) hb.size
          have J6 := Lib.hid (J5.out.keep hba)
          have BX6 := Lib.hid (pat2_keep BX5.out hba)
          have XK6 := Lib.hid (XK5.out.keep hba)
          have BY6 := Lib.hid (atB_new v5 (.slice a5 n5 c5) (.slice p5 m5 d5))
          have YK6 := Lib.hid (hbk.keep ((Below.refl _ v5).alloc (Nat.le_refl _) (.cells #[.slice a5 n5 c5, .slice p5 m5 d5] 25)))
          clear hba hbk hb C u0 u1 u2 u3 u4 u5 u6 u7 u8 J5 BX5 XK5
          obtain ⟨⟨pn, x0, x1, x2, x3, x4⟩, hg⟩ : ∃ r, getS (findS s b.sk) = r := ⟨_, rfl⟩
          obtain ⟨iz, hiz⟩ : ∃ iz, (findS s b.sk).isSome = iz := ⟨_, rfl⟩
          go_wp2_with fail
          obtain ⟨by6, hby⟩ : ∃ k, v5.heap.size = k := ⟨_, rfl⟩
          rw [hby] at BY6 ⊢
          clear hby
          generalize v5.alloc (.cells #[.slice a5 n5 c5, .slice p5 m5 d5] 25) = w6 at J6 BX6 XK6 BY6 YK6 ⊢
          have CF : Hid (∀ w', Below w6.heap.size w6 w' → Calls Tryz.prog 11 #[.agg #[.slice a len cap, .slice a2 len2 cap2], .string s] w' fun e w'' => e = .returned (.tuple #[.agg #[.string pn, .int .i64 x0, .int .i64 x1, .int .i64 x2, .int .i64 x3, .int .i64 x4], .bool iz]) ∧ Below w'.heap.size w' w'') := by
            intro w' hb
            have h := find_any a len cap a2 len2 cap2 b s _ rfl w' (BK.out.keep (J6.out.keep hb).bel).sk
            rw [hg, hiz] at h
            exact h
          have CG : Hid (∀ w', Below w.heap.size w w' → Calls Tryz.prog 12 #[.agg #[.slice a len cap, .slice a2 len2 cap2], .string s] w' fun e w'' => e = .returned (.tuple #[.agg #[.string pn, .int .i64 x0, .int .i64 x1, .int .i64 x2, .int .i64 x3, .int .i64 x4], .bool iz]) ∧ Below w'.heap.size w' w'') := by
            intro w' hb
            have h := rfind_any a len cap a2 len2 cap2 b s _ rfl w' (BK.out.keep hb).sk
            rw [hg, hiz] at h
            exact h
          clear hg hiz
          have K : Hid (∀ w', Below w6.heap.size w6 w' → (w'.cell? ⟨w.heap.size, 0, none⟩ = some (.slice a len cap) ∧ w'.cell? ⟨w.heap.size, 1, none⟩ = some (.slice a2 len2 cap2)) ∧ w'.cell? ⟨w.heap.size + 1, 3, none⟩ = some (.string s)) := by
            intro w' hb
            obtain ⟨⟨u0, u1⟩, ⟨u2, u3, u4, u5, u6⟩, _⟩ := (J6.out.keep hb).cells
            exact ⟨⟨u0, u1⟩, u5⟩
          apply pjoin2 (F := fun wz bx => Below w6.heap.size w6 wz ∧ At6 wz bx (.string pn) (.int .i64 x0) (.int .i64 x1) (.int .i64 x2) (.int .i64 x3) (.int .i64 x4))
          · intro hG
            have b0 : Below w6.heap.size w6 w6.drew := (Below.refl _ w6).drew
            have k0 := K.out _ b0
            have b00 : Below w6.heap.size w6 (w6.alloc (.cells #[.string ⟨#[]⟩, .int .i64 0, .int .i64 0, .int .i64 0, .int .i64 0, .int .i64 0] 41)).drew := ((Below.refl _ w6).alloc (Nat.le_refl _) _).drew
            have k00 := K.out _ b00
            have k01 := K.out _ ((Below.refl _ w6).alloc (Nat.le_refl _) (.cells #[.string ⟨#[]⟩, .int .i64 0, .int .i64 0, .int .i64 0, .int .i64 0, .int .i64 0] 41))
            go_region_held3 (fun w' => (w'.cell? ⟨w.heap.size, 0, none⟩ = some (.slice a len cap) ∧ w'.cell? ⟨w.heap.size, 1, none⟩ = some (.slice a2 len2 cap2)) ∧ w'.cell? ⟨w.heap.size + 1, 3, none⟩ = some (.string s))
              (first | with_reducible exact k0 | with_reducible exact k00 | with_reducible exact k01 | with_reducible exact k4 | with_reducible exact k5 | with_reducible exact k6 | with_reducible exact k7 | with_reducible exact k8)
              (first
                | ((with_reducible refine (CO.out (w6.alloc (.cells #[.string ⟨#[]⟩, .int .i64 0, .int .i64 0, .int .i64 0, .int .i64 0, .int .i64 0] 41)).drew).mono ?_); rintro e v4 ⟨rfl, hb4⟩; have b4 := Lines.below_keep b00 hb4 b00.size; have k4 := K.out _ b4; have hz4 := At6.keep (w := (w6.alloc (.cells #[.string ⟨#[]⟩, .int .i64 0, .int .i64 0, .int .i64 0, .int .i64 0, .int .i64 0] 41)).drew) (at6_new w6 (.string ⟨#[]⟩) (.int .i64 0) (.int .i64 0) (.int .i64 0) (.int .i64 0) (.int .i64 0)) hb4)
                | ((with_reducible refine (CO.out w6.drew).mono ?_); rintro e v4 ⟨rfl, hb4⟩; have b4 := Lines.below_keep b0 hb4 b0.size; have k4 := K.out _ b4; have b5 := b4.alloc b4.size (.cells #[.string ⟨#[]⟩, .int .i64 0, .int .i64 0, .int .i64 0, .int .i64 0, .int .i64 0] 41); have k5 := K.out _ b5; have hz5 := at6_new v4 (.string ⟨#[]⟩) (.int .i64 0) (.int .i64 0) (.int .i64 0) (.int .i64 0) (.int .i64 0))
                | ((with_reducible refine (CF.out (v4.alloc (.cells #[.string ⟨#[]⟩, .int .i64 0, .int .i64 0, .int .i64 0, .int .i64 0, .int .i64 0] 41)) b5).mono ?_); rintro e v6 ⟨rfl, hb6⟩; have b6 := Lines.below_keep b5 hb6 b5.size; have k6 := K.out _ b6; have hz6 := At6.keep hz5 hb6; obtain ⟨z0, z1, z2, z3, z4, z5⟩ := cells6 hz6; obtain ⟨f0, f1, f2, f3, f4, f5⟩ := free6 hz6; have k7 := K.out _ (below_put6 b6 b4.size (.string pn) (.int .i64 x0) (.int .i64 x1) (.int .i64 x2) (.int .i64 x3) (.int .i64 x4)))
                | ((with_reducible refine (CF.out v4 b4).mono ?_); rintro e v6 ⟨rfl, hb6⟩; have b6 := Lines.below_keep b4 hb6 b4.size; have k6 := K.out _ b6; have hz6 := At6.keep hz4 hb6; obtain ⟨z0, z1, z2, z3, z4, z5⟩ := cells6 hz6; obtain ⟨f0, f1, f2, f3, f4, f5⟩ := free6 hz6; have k7 := K.out _ (below_put6 b6 (Nat.le_refl _) (.string pn) (.int .i64 x0) (.int .i64 x1) (.int .i64 x2) (.int .i64 x3) (.int .i64 x4)))
                | ((with_reducible refine (CF.out v4 b4).mono ?_); rintro e v6 ⟨rfl, hb6⟩; have b6 := Lines.below_keep b4 hb6 b4.size; have k6 := K.out _ b6; have k7 := K.out _ (b6.alloc b6.size (.cells #[.string ⟨#[]⟩, .int .i64 0, .int .i64 0, .int .i64 0, .int .i64 0, .int .i64 0] 41)); have k8 := K.out _ (b6.alloc b6.size (.cells #[.string pn, .int .i64 x0, .int .i64 x1, .int .i64 x2, .int .i64 x3, .int .i64 x4] 41))))
            all_goals first
              | (have hq := hz4
                 have hwz0 := below_put6 b6 (Nat.le_refl _) (.string pn) (.int .i64 x0) (.int .i64 x1) (.int .i64 x2) (.int .i64 x3) (.int .i64 x4)
                 have hx0 := heap_put6 hz6 (.string pn) (.int .i64 x0) (.int .i64 x1) (.int .i64 x2) (.int .i64 x3) (.int .i64 x4)
                 change At6 (put6 v6 w6.heap.size (.string pn) (.int .i64 x0) (.int .i64 x1) (.int .i64 x2) (.int .i64 x3) (.int .i64 x4)) w6.heap.size _ _ _ _ _ _ at hx0
                 unfold put6 at hwz0 hx0
                 generalize hwz : ((((((v6.setCell ⟨w6.heap.size, 0, none⟩ (.string pn)).setCell ⟨w6.heap.size, 1, none⟩ (.int .i64 x0)).setCell ⟨w6.heap.size, 2, none⟩ (.int .i64 x1)).setCell ⟨w6.heap.size, 3, none⟩ (.int .i64 x2)).setCell ⟨w6.heap.size, 4, none⟩ (.int .i64 x3)).setCell ⟨w6.heap.size, 5, none⟩ (.int .i64 x4)) = wz at hwz0 hx0 ⊢
                 obtain ⟨bz, hbz⟩ : ∃ bz, w6.heap.size = bz := ⟨_, rfl⟩
                 have hx1 : At6 wz bz (.string pn) (.int .i64 x0) (.int .i64 x1) (.int .i64 x2) (.int .i64 x3) (.int .i64 x4) := hbz ▸ hx0
                 rw [hbz]
                 exact hG wz bz  ⟨hwz0, hx1⟩)
              | (have hq := hz6
                 have hwz0 := below_put6 b6 b4.size (.string pn) (.int .i64 x0) (.int .i64 x1) (.int .i64 x2) (.int .i64 x3) (.int .i64 x4)
                 have hx0 := heap_put6 hz6 (.string pn) (.int .i64 x0) (.int .i64 x1) (.int .i64 x2) (.int .i64 x3) (.int .i64 x4)
                 change At6 (put6 v6 v4.heap.size (.string pn) (.int .i64 x0) (.int .i64 x1) (.int .i64 x2) (.int .i64 x3) (.int .i64 x4)) v4.heap.size _ _ _ _ _ _ at hx0
                 unfold put6 at hwz0 hx0
                 generalize hwz : ((((((v6.setCell ⟨v4.heap.size, 0, none⟩ (.string pn)).setCell ⟨v4.heap.size, 1, none⟩ (.int .i64 x0)).setCell ⟨v4.heap.size, 2, none⟩ (.int .i64 x1)).setCell ⟨v4.heap.size, 3, none⟩ (.int .i64 x2)).setCell ⟨v4.heap.size, 4, none⟩ (.int .i64 x3)).setCell ⟨v4.heap.size, 5, none⟩ (.int .i64 x4)) = wz at hwz0 hx0 ⊢
                 obtain ⟨bz, hbz⟩ : ∃ bz, v4.heap.size = bz := ⟨_, rfl⟩
                 have hx1 : At6 wz bz (.string pn) (.int .i64 x0) (.int .i64 x1) (.int .i64 x2) (.int .i64 x3) (.int .i64 x4) := hbz ▸ hx0
                 rw [hbz]
                 exact hG wz bz  ⟨hwz0, hx1⟩)
              | (have hwz0 : Below w6.heap.size w6 (v6.alloc (.cells #[.string pn, .int .i64 x0, .int .i64 x1, .int .i64 x2, .int .i64 x3, .int .i64 x4] 41)) := b6.alloc b6.size _
                 have hx0 := at6_new v6 (.string pn) (.int .i64 x0) (.int .i64 x1) (.int .i64 x2) (.int .i64 x3) (.int .i64 x4)
                 skip
                 clear k0 k00 k01 k4 k6 b0 b00 b4 b6 hb4 hb6
                 generalize hwz : v6.alloc (.cells #[.string pn, .int .i64 x0, .int .i64 x1, .int .i64 x2, .int .i64 x3, .int .i64 x4] 41) = wz at hwz0 hx0 ⊢
                 generalize hbz : v6.heap.size = bz at hx0 ⊢
                 exact hG wz bz  ⟨hwz0, hx0⟩)
          · intro w7 sx  hF
            have J7 := Lib.hid (J6.out.keep hF.1)
            have BX7 := Lib.hid (pat2_keep BX6.out hF.1)
            have XK7 := Lib.hid (XK6.out.keep hF.1)
            have BY7 := Lib.hid (atB_keep BY6.out hF.1)
            have YK7 := Lib.hid (YK6.out.keep hF.1)
            have SX7 : Hid (At6 w7 sx (.string pn) (.int .i64 x0) (.int .i64 x1) (.int .i64 x2) (.int .i64 x3) (.int .i64 x4)) := hF.2
            have C := Lib.hid (CG.out w7 J7.out.bel)
            clear hF CF CG J6 K BX6 XK6 BY6 YK6
            obtain ⟨⟨u0, u1⟩, ⟨u2, u3, u4, u5, u6⟩, ⟨u7, u8⟩⟩ := J7.out.cells
            go_wp2_with fail
            refine C.out.mono ?_
            rintro e v7 ⟨rfl, hb⟩
            have hba := Lines.below_keep hb ((Below.refl _ v7).alloc (Nat.le_refl _) (.cells #[.string pn, .int .i64 x0, .int .i64 x1, .int .i64 x2, .int .i64 x3, .int .i64 x4] 41)) hb.size
            have J8 := Lib.hid (J7.out.keep hba)
            have BX8 := Lib.hid (pat2_keep BX7.out hba)
            have XK8 := Lib.hid (XK7.out.keep hba)
            have BY8 := Lib.hid (atB_keep BY7.out hba)
            have YK8 := Lib.hid (YK7.out.keep hba)
            have SX8 := Lib.hid (At6.keep SX7.out hba)
            have TX8 := Lib.hid (at6_new v7 (.string pn) (.int .i64 x0) (.int .i64 x1) (.int .i64 x2) (.int .i64 x3) (.int .i64 x4))
            clear hba hb C u0 u1 u2 u3 u4 u5 u6 u7 u8 J7 BX7 XK7 BY7 YK7 SX7
            go_wp2_with fail
            obtain ⟨tx, htx⟩ : ∃ k, v7.heap.size = k := ⟨_, rfl⟩
            rw [htx] at TX8 ⊢
            clear htx
            generalize v7.alloc (.cells #[.string pn, .int .i64 x0, .int .i64 x1, .int .i64 x2, .int .i64 x3, .int .i64 x4] 41) = w8 at J8 BX8 XK8 BY8 YK8 SX8 TX8 ⊢
            obtain ⟨vf, hvf⟩ : ∃ vf, fitB b = vf := ⟨_, rfl⟩
            obtain ⟨vq, hvq⟩ : ∃ vq, eqB b c = vq := ⟨_, rfl⟩
            have CO7 := Lib.hid (fun d' os => Calls.regrown_of (CO.out (Sort.grow (redrawn w8 d') os)))
            have CO8 := Lib.hid (fun d' os => Calls.regrown_of (of_any (.slice d m e) (.slice d2 m2 e2) (Sort.grow (redrawn w8 d') os) ⟨_, _, _, rfl⟩ ⟨_, _, _, rfl⟩))
            have CS := Lib.hid (fun d' os => Calls.regrown_of (lsame_any a4 n4 c4 p4 m4 d4 a5 n5 c5 p5 m5 d5 y y true (eqB_iff.2 rfl) (Sort.grow (redrawn w8 d') os) (XK8.out.keep (below_regrown w8 d' os)) (YK8.out.keep (below_regrown w8 d' os))))
            have CF1 := Lib.hid (fun d' os => Calls.regrown_of (fit_any a len cap a2 len2 cap2 b vf hvf (Sort.grow (redrawn w8 d') os) (BK.out.keep (J8.out.keep (below_regrown w8 d' os)).bel) ZB.out))
            have CF2 := Lib.hid (fun d' os => Calls.regrown_of (rfitb_any a len cap a2 len2 cap2 b vf hvf (Sort.grow (redrawn w8 d') os) (BK.out.keep (J8.out.keep (below_regrown w8 d' os)).bel) ZB.out))
            have CQ1 := Lib.hid (fun d' os => Calls.regrown_of (same_any a len cap a2 len2 cap2 d m e d2 m2 e2 b c vq hvq (Sort.grow (redrawn w8 d') os) (BK.out.keep (J8.out.keep (below_regrown w8 d' os)).bel) (CK.out.keep (J8.out.keep (below_regrown w8 d' os)).bel)))
            have CQ2 := Lib.hid (fun d' os => Calls.regrown_of (rsame_any a len cap a2 len2 cap2 d m e d2 m2 e2 b c vq hvq (Sort.grow (redrawn w8 d') os) (BK.out.keep (J8.out.keep (below_regrown w8 d' os)).bel) (CK.out.keep (J8.out.keep (below_regrown w8 d' os)).bel)))
            have CA := Lib.hid (fun d' os => Calls.regrown_of (awake_any (Sort.grow (redrawn w8 d') os)))
            have hneq := fun w' => eql_sku pn pn x0 x1 x2 x3 x4 x0 x1 x2 x3 x4 w'
            have hgd := fun x y w' => guard_eql x y pn pn x0 x1 x2 x3 x4 x0 x1 x2 x3 x4 w'
            rw [show eqS ⟨pn, x0, x1, x2, x3, x4⟩ ⟨pn, x0, x1, x2, x3, x4⟩ = true from eqS_iff.2 rfl] at hneq
            unfold sv at hneq hgd
            obtain ⟨⟨u0, u1⟩, ⟨u2, u3, u4, u5, u6⟩, ⟨u7, u8⟩⟩ := J8.out.cells
            have g0 := fun d' os => cell_regrown u0 d' os
            have g1 := fun d' os => cell_regrown u1 d' os
            have g7 := fun d' os => cell_regrown u7 d' os
            have g8 := fun d' os => cell_regrown u8 d' os
            have gx0 := fun d' os => cell_regrown (cells2 BX8.out).1 d' os
            have gx1 := fun d' os => cell_regrown (cells2 BX8.out).2 d' os
            have gy0 := fun d' os => cell_regrown (cellsB BY8.out).1 d' os
            have gy1 := fun d' os => cell_regrown (cellsB BY8.out).2 d' os
            obtain ⟨s0, s1, s2, s3, s4, s5⟩ := cells6 SX8.out
            obtain ⟨t0, t1, t2, t3, t4, t5⟩ := cells6 TX8.out
            have h0 := fun d' os => cell_regrown s0 d' os
            have h1 := fun d' os => cell_regrown s1 d' os
            have h2 := fun d' os => cell_regrown s2 d' os
            have h3 := fun d' os => cell_regrown s3 d' os
            have h4 := fun d' os => cell_regrown s4 d' os
            have h5 := fun d' os => cell_regrown s5 d' os
            have i0 := fun d' os => cell_regrown t0 d' os
            have i1 := fun d' os => cell_regrown t1 d' os
            have i2 := fun d' os => cell_regrown t2 d' os
            have i3 := fun d' os => cell_regrown t3 d' os
            have i4 := fun d' os => cell_regrown t4 d' os
            have i5 := fun d' os => cell_regrown t5 d' os
            have J8' := Lib.hid J8.out.bel
            clear u0 u1 u2 u3 u4 u5 u6 u7 u8 s0 s1 s2 s3 s4 s5 t0 t1 t2 t3 t4 t5 J8 BX8 XK8 BY8 YK8 SX8 TX8 BK CK ZB ZC HB HC HL HM HS CO hvf hvq
            refine wp_region_qw (by kernel_rfl) (by kernel_rfl) ?_
            refine qw_take (by kernel_rfl) (fun K hK => ?_); go_simp; first | (refine hK _ ?_; clear hK K) | (apply Exists.intro; refine ⟨fun _ => ?_, hK _ ?_⟩; (first | with_reducible exact CO7.out _ _ | with_reducible exact CO8.out _ _ | with_reducible exact CS.out _ _ | with_reducible exact CF1.out _ _ | with_reducible exact CF2.out _ _ | with_reducible exact CQ1.out _ _ | with_reducible exact CQ2.out _ _ | with_reducible exact CA.out _ _); clear hK K)
            refine qw_take (by kernel_rfl) (fun K hK => ?_); go_simp; first | (refine hK _ ?_; clear hK K) | (apply Exists.intro; refine ⟨fun _ => ?_, hK _ ?_⟩; (first | with_reducible exact CO7.out _ _ | with_reducible exact CO8.out _ _ | with_reducible exact CS.out _ _ | with_reducible exact CF1.out _ _ | with_reducible exact CF2.out _ _ | with_reducible exact CQ1.out _ _ | with_reducible exact CQ2.out _ _ | with_reducible exact CA.out _ _); clear hK K)
            refine qw_take (by kernel_rfl) (fun K hK => ?_); go_simp; first | (refine hK _ ?_; clear hK K) | (apply Exists.intro; refine ⟨fun _ => ?_, hK _ ?_⟩; (first | with_reducible exact CO7.out _ _ | with_reducible exact CO8.out _ _ | with_reducible exact CS.out _ _ | with_reducible exact CF1.out _ _ | with_reducible exact CF2.out _ _ | with_reducible exact CQ1.out _ _ | with_reducible exact CQ2.out _ _ | with_reducible exact CA.out _ _); clear hK K)
            refine qw_take (by kernel_rfl) (fun K hK => ?_); go_simp; first | (refine hK _ ?_; clear hK K) | (apply Exists.intro; refine ⟨fun _ => ?_, hK _ ?_⟩; (first | with_reducible exact CO7.out _ _ | with_reducible exact CO8.out _ _ | with_reducible exact CS.out _ _ | with_reducible exact CF1.out _ _ | with_reducible exact CF2.out _ _ | with_reducible exact CQ1.out _ _ | with_reducible exact CQ2.out _ _ | with_reducible exact CA.out _ _); clear hK K)
            refine qw_take (by kernel_rfl) (fun K hK => ?_); go_simp; first | (refine hK _ ?_; clear hK K) | (apply Exists.intro; refine ⟨fun _ => ?_, hK _ ?_⟩; (first | with_reducible exact CO7.out _ _ | with_reducible exact CO8.out _ _ | with_reducible exact CS.out _ _ | with_reducible exact CF1.out _ _ | with_reducible exact CF2.out _ _ | with_reducible exact CQ1.out _ _ | with_reducible exact CQ2.out _ _ | with_reducible exact CA.out _ _); clear hK K)
            refine qw_take (by kernel_rfl) (fun K hK => ?_); go_simp; first | (refine hK _ ?_; clear hK K) | (apply Exists.intro; refine ⟨fun _ => ?_, hK _ ?_⟩; (first | with_reducible exact CO7.out _ _ | with_reducible exact CO8.out _ _ | with_reducible exact CS.out _ _ | with_reducible exact CF1.out _ _ | with_reducible exact CF2.out _ _ | with_reducible exact CQ1.out _ _ | with_reducible exact CQ2.out _ _ | with_reducible exact CA.out _ _); clear hK K)
            refine qw_take (by kernel_rfl) (fun K hK => ?_); go_simp; first | (refine hK _ ?_; clear hK K) | (apply Exists.intro; refine ⟨fun _ => ?_, hK _ ?_⟩; (first | with_reducible exact CO7.out _ _ | with_reducible exact CO8.out _ _ | with_reducible exact CS.out _ _ | with_reducible exact CF1.out _ _ | with_reducible exact CF2.out _ _ | with_reducible exact CQ1.out _ _ | with_reducible exact CQ2.out _ _ | with_reducible exact CA.out _ _); clear hK K)
            refine qw_take (by kernel_rfl) (fun K hK => ?_); go_simp; first | (refine hK _ ?_; clear hK K) | (apply Exists.intro; refine ⟨fun _ => ?_, hK _ ?_⟩; (first | with_reducible exact CO7.out _ _ | with_reducible exact CO8.out _ _ | with_reducible exact CS.out _ _ | with_reducible exact CF1.out _ _ | with_reducible exact CF2.out _ _ | with_reducible exact CQ1.out _ _ | with_reducible exact CQ2.out _ _ | with_reducible exact CA.out _ _); clear hK K)
            refine qw_take (by kernel_rfl) (fun K hK => ?_); go_simp; first | (refine hK _ ?_; clear hK K) | (apply Exists.intro; refine ⟨fun _ => ?_, hK _ ?_⟩; (first | with_reducible exact CO7.out _ _ | with_reducible exact CO8.out _ _ | with_reducible exact CS.out _ _ | with_reducible exact CF1.out _ _ | with_reducible exact CF2.out _ _ | with_reducible exact CQ1.out _ _ | with_reducible exact CQ2.out _ _ | with_reducible exact CA.out _ _); clear hK K)
            refine qw_take (by kernel_rfl) (fun K hK => ?_); go_simp; first | (refine hK _ ?_; clear hK K) | (apply Exists.intro; refine ⟨fun _ => ?_, hK _ ?_⟩; (first | with_reducible exact CO7.out _ _ | with_reducible exact CO8.out _ _ | with_reducible exact CS.out _ _ | with_reducible exact CF1.out _ _ | with_reducible exact CF2.out _ _ | with_reducible exact CQ1.out _ _ | with_reducible exact CQ2.out _ _ | with_reducible exact CA.out _ _); clear hK K)
            refine qw_take (by kernel_rfl) (fun K hK => ?_); go_simp; first | (refine hK _ ?_; clear hK K) | (apply Exists.intro; refine ⟨fun _ => ?_, hK _ ?_⟩; (first | with_reducible exact CO7.out _ _ | with_reducible exact CO8.out _ _ | with_reducible exact CS.out _ _ | with_reducible exact CF1.out _ _ | with_reducible exact CF2.out _ _ | with_reducible exact CQ1.out _ _ | with_reducible exact CQ2.out _ _ | with_reducible exact CA.out _ _); clear hK K)
            refine qw_take (by kernel_rfl) (fun K hK => ?_); go_simp; first | (refine hK _ ?_; clear hK K) | (apply Exists.intro; refine ⟨fun _ => ?_, hK _ ?_⟩; (first | with_reducible exact CO7.out _ _ | with_reducible exact CO8.out _ _ | with_reducible exact CS.out _ _ | with_reducible exact CF1.out _ _ | with_reducible exact CF2.out _ _ | with_reducible exact CQ1.out _ _ | with_reducible exact CQ2.out _ _ | with_reducible exact CA.out _ _); clear hK K)
            refine qw_take (by kernel_rfl) (fun K hK => ?_); go_simp; first | (refine hK _ ?_; clear hK K) | (apply Exists.intro; refine ⟨fun _ => ?_, hK _ ?_⟩; (first | with_reducible exact CO7.out _ _ | with_reducible exact CO8.out _ _ | with_reducible exact CS.out _ _ | with_reducible exact CF1.out _ _ | with_reducible exact CF2.out _ _ | with_reducible exact CQ1.out _ _ | with_reducible exact CQ2.out _ _ | with_reducible exact CA.out _ _); clear hK K)
            refine qw_take (by kernel_rfl) (fun K hK => ?_); go_simp; first | (refine hK _ ?_; clear hK K) | (apply Exists.intro; refine ⟨fun _ => ?_, hK _ ?_⟩; (first | with_reducible exact CO7.out _ _ | with_reducible exact CO8.out _ _ | with_reducible exact CS.out _ _ | with_reducible exact CF1.out _ _ | with_reducible exact CF2.out _ _ | with_reducible exact CQ1.out _ _ | with_reducible exact CQ2.out _ _ | with_reducible exact CA.out _ _); clear hK K)
            refine qw_take (by kernel_rfl) (fun K hK => ?_); go_simp; first | (refine hK _ ?_; clear hK K) | (apply Exists.intro; refine ⟨fun _ => ?_, hK _ ?_⟩; (first | with_reducible exact CO7.out _ _ | with_reducible exact CO8.out _ _ | with_reducible exact CS.out _ _ | with_reducible exact CF1.out _ _ | with_reducible exact CF2.out _ _ | with_reducible exact CQ1.out _ _ | with_reducible exact CQ2.out _ _ | with_reducible exact CA.out _ _); clear hK K)
            refine qw_take (by kernel_rfl) (fun K hK => ?_); go_simp; first | (refine hK _ ?_; clear hK K) | (apply Exists.intro; refine ⟨fun _ => ?_, hK _ ?_⟩; (first | with_reducible exact CO7.out _ _ | with_reducible exact CO8.out _ _ | with_reducible exact CS.out _ _ | with_reducible exact CF1.out _ _ | with_reducible exact CF2.out _ _ | with_reducible exact CQ1.out _ _ | with_reducible exact CQ2.out _ _ | with_reducible exact CA.out _ _); clear hK K)
            refine qw_take (by kernel_rfl) (fun K hK => ?_); go_simp; first | (refine hK _ ?_; clear hK K) | (apply Exists.intro; refine ⟨fun _ => ?_, hK _ ?_⟩; (first | with_reducible exact CO7.out _ _ | with_reducible exact CO8.out _ _ | with_reducible exact CS.out _ _ | with_reducible exact CF1.out _ _ | with_reducible exact CF2.out _ _ | with_reducible exact CQ1.out _ _ | with_reducible exact CQ2.out _ _ | with_reducible exact CA.out _ _); clear hK K)
            refine qw_take (by kernel_rfl) (fun K hK => ?_); go_simp; first | (refine hK _ ?_; clear hK K) | (apply Exists.intro; refine ⟨fun _ => ?_, hK _ ?_⟩; (first | with_reducible exact CO7.out _ _ | with_reducible exact CO8.out _ _ | with_reducible exact CS.out _ _ | with_reducible exact CF1.out _ _ | with_reducible exact CF2.out _ _ | with_reducible exact CQ1.out _ _ | with_reducible exact CQ2.out _ _ | with_reducible exact CA.out _ _); clear hK K)
            refine qw_take (by kernel_rfl) (fun K hK => ?_); go_simp; first | (refine hK _ ?_; clear hK K) | (apply Exists.intro; refine ⟨fun _ => ?_, hK _ ?_⟩; (first | with_reducible exact CO7.out _ _ | with_reducible exact CO8.out _ _ | with_reducible exact CS.out _ _ | with_reducible exact CF1.out _ _ | with_reducible exact CF2.out _ _ | with_reducible exact CQ1.out _ _ | with_reducible exact CQ2.out _ _ | with_reducible exact CA.out _ _); clear hK K)
            refine qw_take (by kernel_rfl) (fun K hK => ?_); go_simp; first | (refine hK _ ?_; clear hK K) | (apply Exists.intro; refine ⟨fun _ => ?_, hK _ ?_⟩; (first | with_reducible exact CO7.out _ _ | with_reducible exact CO8.out _ _ | with_reducible exact CS.out _ _ | with_reducible exact CF1.out _ _ | with_reducible exact CF2.out _ _ | with_reducible exact CQ1.out _ _ | with_reducible exact CQ2.out _ _ | with_reducible exact CA.out _ _); clear hK K)
            refine qw_take (by kernel_rfl) (fun K hK => ?_); go_simp; first | (refine hK _ ?_; clear hK K) | (apply Exists.intro; refine ⟨fun _ => ?_, hK _ ?_⟩; (first | with_reducible exact CO7.out _ _ | with_reducible exact CO8.out _ _ | with_reducible exact CS.out _ _ | with_reducible exact CF1.out _ _ | with_reducible exact CF2.out _ _ | with_reducible exact CQ1.out _ _ | with_reducible exact CQ2.out _ _ | with_reducible exact CA.out _ _); clear hK K)
            refine qw_take (by kernel_rfl) (fun K hK => ?_); go_simp; first | (refine hK _ ?_; clear hK K) | (apply Exists.intro; refine ⟨fun _ => ?_, hK _ ?_⟩; (first | with_reducible exact CO7.out _ _ | with_reducible exact CO8.out _ _ | with_reducible exact CS.out _ _ | with_reducible exact CF1.out _ _ | with_reducible exact CF2.out _ _ | with_reducible exact CQ1.out _ _ | with_reducible exact CQ2.out _ _ | with_reducible exact CA.out _ _); clear hK K)
            refine qw_take (by kernel_rfl) (fun K hK => ?_); go_simp; first | (refine hK _ ?_; clear hK K) | (apply Exists.intro; refine ⟨fun _ => ?_, hK _ ?_⟩; (first | with_reducible exact CO7.out _ _ | with_reducible exact CO8.out _ _ | with_reducible exact CS.out _ _ | with_reducible exact CF1.out _ _ | with_reducible exact CF2.out _ _ | with_reducible exact CQ1.out _ _ | with_reducible exact CQ2.out _ _ | with_reducible exact CA.out _ _); clear hK K)
            refine qw_take (by kernel_rfl) (fun K hK => ?_); go_simp; first | (refine hK _ ?_; clear hK K) | (apply Exists.intro; refine ⟨fun _ => ?_, hK _ ?_⟩; (first | with_reducible exact CO7.out _ _ | with_reducible exact CO8.out _ _ | with_reducible exact CS.out _ _ | with_reducible exact CF1.out _ _ | with_reducible exact CF2.out _ _ | with_reducible exact CQ1.out _ _ | with_reducible exact CQ2.out _ _ | with_reducible exact CA.out _ _); clear hK K)
            refine qw_take (by kernel_rfl) (fun K hK => ?_); go_simp; first | (refine hK _ ?_; clear hK K) | (apply Exists.intro; refine ⟨fun _ => ?_, hK _ ?_⟩; (first | with_reducible exact CO7.out _ _ | with_reducible exact CO8.out _ _ | with_reducible exact CS.out _ _ | with_reducible exact CF1.out _ _ | with_reducible exact CF2.out _ _ | with_reducible exact CQ1.out _ _ | with_reducible exact CQ2.out _ _ | with_reducible exact CA.out _ _); clear hK K)
            refine qw_take (by kernel_rfl) (fun K hK => ?_); go_simp; first | (refine hK _ ?_; clear hK K) | (apply Exists.intro; refine ⟨fun _ => ?_, hK _ ?_⟩; (first | with_reducible exact CO7.out _ _ | with_reducible exact CO8.out _ _ | with_reducible exact CS.out _ _ | with_reducible exact CF1.out _ _ | with_reducible exact CF2.out _ _ | with_reducible exact CQ1.out _ _ | with_reducible exact CQ2.out _ _ | with_reducible exact CA.out _ _); clear hK K)
            refine qw_take (by kernel_rfl) (fun K hK => ?_); go_simp; first | (refine hK _ ?_; clear hK K) | (apply Exists.intro; refine ⟨fun _ => ?_, hK _ ?_⟩; (first | with_reducible exact CO7.out _ _ | with_reducible exact CO8.out _ _ | with_reducible exact CS.out _ _ | with_reducible exact CF1.out _ _ | with_reducible exact CF2.out _ _ | with_reducible exact CQ1.out _ _ | with_reducible exact CQ2.out _ _ | with_reducible exact CA.out _ _); clear hK K)
            refine qw_take (by kernel_rfl) (fun K hK => ?_); go_simp; first | (refine hK _ ?_; clear hK K) | (apply Exists.intro; refine ⟨fun _ => ?_, hK _ ?_⟩; (first | with_reducible exact CO7.out _ _ | with_reducible exact CO8.out _ _ | with_reducible exact CS.out _ _ | with_reducible exact CF1.out _ _ | with_reducible exact CF2.out _ _ | with_reducible exact CQ1.out _ _ | with_reducible exact CQ2.out _ _ | with_reducible exact CA.out _ _); clear hK K)
            refine qw_take (by kernel_rfl) (fun K hK => ?_); go_simp; first | (refine hK _ ?_; clear hK K) | (apply Exists.intro; refine ⟨fun _ => ?_, hK _ ?_⟩; (first | with_reducible exact CO7.out _ _ | with_reducible exact CO8.out _ _ | with_reducible exact CS.out _ _ | with_reducible exact CF1.out _ _ | with_reducible exact CF2.out _ _ | with_reducible exact CQ1.out _ _ | with_reducible exact CQ2.out _ _ | with_reducible exact CA.out _ _); clear hK K)
            refine qw_take (by kernel_rfl) (fun K hK => ?_); go_simp; first | (refine hK _ ?_; clear hK K) | (apply Exists.intro; refine ⟨fun _ => ?_, hK _ ?_⟩; (first | with_reducible exact CO7.out _ _ | with_reducible exact CO8.out _ _ | with_reducible exact CS.out _ _ | with_reducible exact CF1.out _ _ | with_reducible exact CF2.out _ _ | with_reducible exact CQ1.out _ _ | with_reducible exact CQ2.out _ _ | with_reducible exact CA.out _ _); clear hK K)
            refine qw_take (by kernel_rfl) (fun K hK => ?_); go_simp; first | (refine hK _ ?_; clear hK K) | (apply Exists.intro; refine ⟨fun _ => ?_, hK _ ?_⟩; (first | with_reducible exact CO7.out _ _ | with_reducible exact CO8.out _ _ | with_reducible exact CS.out _ _ | with_reducible exact CF1.out _ _ | with_reducible exact CF2.out _ _ | with_reducible exact CQ1.out _ _ | with_reducible exact CQ2.out _ _ | with_reducible exact CA.out _ _); clear hK K)
            refine qw_take (by kernel_rfl) (fun K hK => ?_); go_simp; first | (refine hK _ ?_; clear hK K) | (apply Exists.intro; refine ⟨fun _ => ?_, hK _ ?_⟩; (first | with_reducible exact CO7.out _ _ | with_reducible exact CO8.out _ _ | with_reducible exact CS.out _ _ | with_reducible exact CF1.out _ _ | with_reducible exact CF2.out _ _ | with_reducible exact CQ1.out _ _ | with_reducible exact CQ2.out _ _ | with_reducible exact CA.out _ _); clear hK K)
            refine qw_take (by kernel_rfl) (fun K hK => ?_); go_simp; first | (refine hK _ ?_; clear hK K) | (apply Exists.intro; refine ⟨fun _ => ?_, hK _ ?_⟩; (first | with_reducible exact CO7.out _ _ | with_reducible exact CO8.out _ _ | with_reducible exact CS.out _ _ | with_reducible exact CF1.out _ _ | with_reducible exact CF2.out _ _ | with_reducible exact CQ1.out _ _ | with_reducible exact CQ2.out _ _ | with_reducible exact CA.out _ _); clear hK K)
            refine qw_take (by kernel_rfl) (fun K hK => ?_); go_simp; first | (refine hK _ ?_; clear hK K) | (apply Exists.intro; refine ⟨fun _ => ?_, hK _ ?_⟩; (first | with_reducible exact CO7.out _ _ | with_reducible exact CO8.out _ _ | with_reducible exact CS.out _ _ | with_reducible exact CF1.out _ _ | with_reducible exact CF2.out _ _ | with_reducible exact CQ1.out _ _ | with_reducible exact CQ2.out _ _ | with_reducible exact CA.out _ _); clear hK K)
            refine qw_take (by kernel_rfl) (fun K hK => ?_); go_simp; first | (refine hK _ ?_; clear hK K) | (apply Exists.intro; refine ⟨fun _ => ?_, hK _ ?_⟩; (first | with_reducible exact CO7.out _ _ | with_reducible exact CO8.out _ _ | with_reducible exact CS.out _ _ | with_reducible exact CF1.out _ _ | with_reducible exact CF2.out _ _ | with_reducible exact CQ1.out _ _ | with_reducible exact CQ2.out _ _ | with_reducible exact CA.out _ _); clear hK K)
            refine qw_take (by kernel_rfl) (fun K hK => ?_); go_simp; first | (refine hK _ ?_; clear hK K) | (apply Exists.intro; refine ⟨fun _ => ?_, hK _ ?_⟩; (first | with_reducible exact CO7.out _ _ | with_reducible exact CO8.out _ _ | with_reducible exact CS.out _ _ | with_reducible exact CF1.out _ _ | with_reducible exact CF2.out _ _ | with_reducible exact CQ1.out _ _ | with_reducible exact CQ2.out _ _ | with_reducible exact CA.out _ _); clear hK K)
            refine qw_take (by kernel_rfl) (fun K hK => ?_); go_simp; first | (refine hK _ ?_; clear hK K) | (apply Exists.intro; refine ⟨fun _ => ?_, hK _ ?_⟩; (first | with_reducible exact CO7.out _ _ | with_reducible exact CO8.out _ _ | with_reducible exact CS.out _ _ | with_reducible exact CF1.out _ _ | with_reducible exact CF2.out _ _ | with_reducible exact CQ1.out _ _ | with_reducible exact CQ2.out _ _ | with_reducible exact CA.out _ _); clear hK K)
            refine qw_take (by kernel_rfl) (fun K hK => ?_); go_simp; first | (refine hK _ ?_; clear hK K) | (apply Exists.intro; refine ⟨fun _ => ?_, hK _ ?_⟩; (first | with_reducible exact CO7.out _ _ | with_reducible exact CO8.out _ _ | with_reducible exact CS.out _ _ | with_reducible exact CF1.out _ _ | with_reducible exact CF2.out _ _ | with_reducible exact CQ1.out _ _ | with_reducible exact CQ2.out _ _ | with_reducible exact CA.out _ _); clear hK K)
            refine qw_take (by kernel_rfl) (fun K hK => ?_); go_simp; first | (refine hK _ ?_; clear hK K) | (apply Exists.intro; refine ⟨fun _ => ?_, hK _ ?_⟩; (first | with_reducible exact CO7.out _ _ | with_reducible exact CO8.out _ _ | with_reducible exact CS.out _ _ | with_reducible exact CF1.out _ _ | with_reducible exact CF2.out _ _ | with_reducible exact CQ1.out _ _ | with_reducible exact CQ2.out _ _ | with_reducible exact CA.out _ _); clear hK K)
            refine qw_take (by kernel_rfl) (fun K hK => ?_); go_simp; first | (refine hK _ ?_; clear hK K) | (apply Exists.intro; refine ⟨fun _ => ?_, hK _ ?_⟩; (first | with_reducible exact CO7.out _ _ | with_reducible exact CO8.out _ _ | with_reducible exact CS.out _ _ | with_reducible exact CF1.out _ _ | with_reducible exact CF2.out _ _ | with_reducible exact CQ1.out _ _ | with_reducible exact CQ2.out _ _ | with_reducible exact CA.out _ _); clear hK K)
            refine qw_take (by kernel_rfl) (fun K hK => ?_); go_simp; first | (refine hK _ ?_; clear hK K) | (apply Exists.intro; refine ⟨fun _ => ?_, hK _ ?_⟩; (first | with_reducible exact CO7.out _ _ | with_reducible exact CO8.out _ _ | with_reducible exact CS.out _ _ | with_reducible exact CF1.out _ _ | with_reducible exact CF2.out _ _ | with_reducible exact CQ1.out _ _ | with_reducible exact CQ2.out _ _ | with_reducible exact CA.out _ _); clear hK K)
            refine qw_nil ?_
            intro _ hw'
            obtain ⟨⟨dq, osq⟩, hw''⟩ := hw'
            subst hw''
            have HBL := Lib.hid (Lines.below_keep J8'.out (below_regrown w8 dq osq) J8'.out.size)
            clear g0 g1 g7 g8 gx0 gx1 gy0 gy1 h0 h1 h2 h3 h4 h5 i0 i1 i2 i3 i4 i5 CO7 CO8 CS CF1 CF2 CQ1 CQ2 CA hneq hgd J8'
            generalize Sort.grow (redrawn w8 dq) osq = wl at *
            go_wp2_with fail
            go_ret
            exact ⟨rfl, HBL.out⟩
end Go.Proofs.YtjclkiabgemfpaaGreat.Ledger
