/-
  The contract of the laws' own awake: the chapter's example.
-/
import Derived.Test.YtjclkiabgemfpaaGreatPpLedgerK
set_option linter.unusedVariables false
set_option maxRecDepth 4000
namespace Go.Proofs.YtjclkiabgemfpaaGreat.Ledger
open Go.RowKit LinesP HoldsP LedgerP
open StockP (Sk sk0 fitS Fit fitS_iff fromV turnV moveV turn_fit)
open Go.Proofs.YtjclkiabgemfpaaGreat.Lines (LsAt Sz SzM ret_bool ret_int below_keep below_drewN owns_form owns_cell owns_below)
open Go.Proofs.YtjclkiabgemfpaaGreat.Holds (HsAt SzH SzMH hmf)

theorem eql_sku (s t : ByteArray) (x0 x1 x2 x3 x4 y0 y1 y2 y3 y4 : Int) (w : World) : (binOp .eql 41 (sv s x0 x1 x2 x3 x4) (sv t y0 y1 y2 y3 y4)).run Tryz.prog w = .ok (.bool (eqS ⟨s, x0, x1, x2, x3, x4⟩ ⟨t, y0, y1, y2, y3, y4⟩)) w := by
  have hS : Tryz.prog.underlying 41 = some (.struct (Tryz.prog.fieldsOf 41)) := by kernel_rfl
  have hp : Tryz.prog.stoodInHeld 41 = false := by kernel_rfl
  have u3 := Tryz.underlying3
  have u9 := Tryz.underlying9
  have a3 := Tryz.isAgg3
  have a9 := Tryz.isAgg9
  have z3 := Tryz.sizeOf3
  have z9 := Tryz.sizeOf9
  rw [run_eql_struct, show (10000 : Nat) = 9999 + 1 from rfl, run_equalIn_agg w 9999 41 _ _ hS hp]
  simp only [Program.fieldsOf, Tryz.underlying41]
  go_simp
  unfold eqS
  by_cases h0 : s.toList = t.toList
  · by_cases h1 : x0 = y0
    · by_cases h2 : x1 = y1
      · by_cases h3 : x2 = y2
        · by_cases h4 : x3 = y3
          · by_cases h5 : x4 = y4 <;> simp [h0, h1, h2, h3, h4, h5]
          · simp [h0, h1, h2, h3, h4]
        · simp [h0, h1, h2, h3]
      · simp [h0, h1, h2]
    · simp [h0, h1]
  · simp [h0]
theorem guard_eql (x y : Operand) (s t : ByteArray) (x0 x1 x2 x3 x4 y0 y1 y2 y3 y4 : Int) (w : World) : (eqGuard .eql 41 x y (sv s x0 x1 x2 x3 x4) (sv t y0 y1 y2 y3 y4)).run Tryz.prog w = .ok () w := run_eqGuard_agg w _ _ _ _ _ _ (by kernel_rfl)
def tea : ByteArray := ⟨#[116, 101, 97]⟩
def e1 : Bk × Int := restockB bk0 tea 5
def e2 : Bk × Int := heldB e1.1 1 [(tea, 3)] 0 1
def e3 : Bk × Int := dropB e2.1 1 3
def e4 : Bk × Int := sendB e3.1 [(tea, 3)]
def e5 : Bk × Int := heldB e1.1 1 [(tea, 6)] 0 1
theorem ex1 : e1.2 = 0 ∧ fitB e1.1 = true := by decide +kernel
theorem ex2 : e2.2 = 0 ∧ fitB e2.1 = true ∧ e2.1.hd.length = 1 := by decide +kernel
theorem ex3 : e3.2 = 0 ∧ fitB e3.1 = true ∧ e3.1.hd.length = 0 := by decide +kernel
theorem ex4 : e4.2 = 0 ∧ fitB e4.1 = true ∧ (findS tea e4.1.sk).map (fun x => (x.nm, x.hand, x.held, x.kept, x.sent, x.inn)) = some (tea, 2, 0, 0, 3, 5) := by decide +kernel
theorem ex5 : e5.2 = 6 := by decide +kernel
theorem ex6 : findS tea e4.1.sk = some ⟨tea, 2, 0, 0, 3, 5⟩ := by
  have h := ex4.2.2
  cases hq : findS tea e4.1.sk with
  | none => rw [hq] at h; cases h
  | some x =>
    rw [hq] at h
    simp only [Option.map_some, Option.some.injEq, Prod.mk.injEq] at h
    obtain ⟨h0, h1, h2, h3, h4, h5⟩ := h
    rw [show x = ⟨tea, 2, 0, 0, 3, 5⟩ from StockP.sk_ext h0 h1 h2 h3 h4 h5]
theorem sz_tea (n : Int) (h : 0 ≤ n ∧ n ≤ 10) : Sz [(tea, n)] := by
  intro x hx
  rw [List.mem_singleton.1 hx]
  exact ⟨by show tea.size ≤ 300; decide, by show -9223372036854775808 ≤ n; omega, by show n ≤ 9223372036854775807; omega⟩
theorem ls_tea (n : Int) (w : World) : LsAt (w.alloc (.cells #[.string tea, .int .i64 n] 54)) (some ⟨w.heap.size, 0, none⟩) 1 [(tea, n)] := by
  refine ⟨rfl, by omega, .inr ⟨w.heap.size, 0, rfl, by simp, fun i hi => ?_⟩⟩
  obtain rfl : i = 0 := by omega
  constructor
  · rw [World.cell?_alloc_new]; rfl
  · rw [World.cell?_alloc_new]; rfl
structure Bx2 (w w' : World) (k : Nat) (a : Option Addr) (n c : Nat) (a2 : Option Addr) (n2 c2 : Nat) (b : Bk) : Prop where
  bel : Below w.heap.size w w'
  box : At2 w' k (.slice a n c) (.slice a2 n2 c2)
  bk : BkAt w' a n a2 n2 c2 b
theorem Bx2.keep {w w' w2 : World} {k : Nat} {a : Option Addr} {n c : Nat} {a2 : Option Addr} {n2 c2 : Nat} {b : Bk} (h : Bx2 w w' k a n c a2 n2 c2 b) (hb : Below w'.heap.size w' w2) : Bx2 w w2 k a n c a2 n2 c2 b :=
  ⟨h.bel.trans (hb.mono h.bel.size), (hb.block k (heap_lt h.box)).trans h.box, h.bk.keep hb⟩
theorem bx2_new {w w' : World} {a : Option Addr} {n c : Nat} {a2 : Option Addr} {n2 c2 : Nat} {b : Bk} (hb : Below w.heap.size w w') (h : BkAt w' a n a2 n2 c2 b) : Bx2 w (w'.alloc (.cells #[.slice a n c, .slice a2 n2 c2] 33)) w'.heap.size a n c a2 n2 c2 b :=
  ⟨hb.alloc hb.size _, heap_alloc_new w' _, h.keep ((Below.refl _ w').alloc (Nat.le_refl _) _)⟩
theorem bx2_after {w w1 w2 : World} {k : Nat} {a : Option Addr} {n c : Nat} {a2 : Option Addr} {n2 c2 : Nat} {b : Bk} (h : Bx2 w w1 k a n c a2 n2 c2 b) (hb : Below w1.heap.size w1 w2) (o : Obj) : Bx2 w (w2.alloc o) k a n c a2 n2 c2 b :=
  h.keep (Lines.below_keep hb ((Below.refl _ w2).alloc (Nat.le_refl _) o) hb.size)
def BookE (w : World) (b : Bk) (er : Int) (e : Ending) (w' : World) : Prop :=
  ∃ a n c a2 n2 c2, e = .returned (.tuple #[.agg #[.slice a n c, .slice a2 n2 c2], .int .i64 er]) ∧ BkAt w' a n a2 n2 c2 b ∧ Below w.heap.size w w'
theorem book_e {w : World} {b : Bk} {er : Int} {r : Bk × Int} {f : FuncId} {args : Array Value} (hr : r = (b, er)) (h : Calls Tryz.prog f args w (BookR w r)) : Calls Tryz.prog f args w (BookE w b er) := by
  subst hr; exact h
set_option maxHeartbeats 4000000 in
theorem awake_any (w : World) : Calls Tryz.prog 7 #[] w fun e w' => e = .returned (.bool true) ∧ Below w.heap.size w w' := by
  have hb0 : Below w.heap.size w (w.alloc (.cells #[.string tea, .int .i64 3] 54)) := (Below.refl _ w).alloc (Nat.le_refl _) _
  have C1 := Lib.hid (restock_any none 0 0 none 0 0 bk0 tea 5 (w.alloc (.cells #[.string tea, .int .i64 3] 54)) ⟨SkAt.nil _ _, HsAt.nil _ _, Nat.le_refl _⟩ (fit_szb (by decide +kernel)) (by decide))
  have H0 := Lib.hid hb0
  have HL := Lib.hid (ls_tea 3 w)
  have HE1 : Hid (restockB bk0 tea 5 = (e1.1, 0)) := by show restockB bk0 tea 5 = _; rw [← ex1.1]; rfl
  have HE2 : Hid (heldB e1.1 1 [(tea, 3)] 0 1 = (e2.1, 0)) := by show heldB e1.1 1 [(tea, 3)] 0 1 = _; rw [← ex2.1]; rfl
  have HE3 : Hid (dropB e2.1 1 3 = (e3.1, 0)) := by show dropB e2.1 1 3 = _; rw [← ex3.1]; rfl
  have HE4 : Hid (sendB e3.1 [(tea, 3)] = (e4.1, 0)) := by show sendB e3.1 [(tea, 3)] = _; rw [← ex4.1]; rfl
  have HE5 : Hid (heldB e1.1 1 [(tea, 6)] 0 1 = (e5.1, 6)) := by show heldB e1.1 1 [(tea, 6)] 0 1 = _; rw [← ex5]; rfl
  have S1 := Lib.hid (fit_szb ex1.2); have S2 := Lib.hid (fit_szb ex2.2.1); have S3 := Lib.hid (fit_szb ex3.2.1); have S4 := Lib.hid (fit_szb ex4.2.1)
  have L2 := Lib.hid ex2.2.2; have L3 := Lib.hid ex3.2.2; have X6 := Lib.hid ex6
  have HNE := Lib.hid (fun w => eql_sku tea tea 2 0 0 3 5 2 0 0 3 5 w)
  have hgd := fun x y w => guard_eql x y tea tea 2 0 0 3 5 2 0 0 3 5 w
  have hT : Hid (tea = ⟨#[116, 101, 97]⟩) := rfl
  have Z3 := Lib.hid (sz_tea 3 (by decide)); have Z6 := Lib.hid (sz_tea 6 (by decide))
  have L6 := Lib.hid (fun w => ls_tea 6 w)
  generalize e5.1 = b5 at HE5
  generalize e4.1 = b4 at HE4 S4 X6
  generalize e3.1 = b3 at HE3 HE4 S3 L3
  generalize e2.1 = b2 at HE2 HE3 S2 L2
  generalize e1.1 = b1 at HE1 HE2 HE5 S1
  clear hb0
  have C1 := Lib.hid (book_e HE1.out C1.out)
  unfold sv at HNE hgd
  rw [show eqS ⟨tea, 2, 0, 0, 3, 5⟩ ⟨tea, 2, 0, 0, 3, 5⟩ = true from eqS_iff.2 rfl] at HNE
  have hneq := HNE.out
  generalize htt : tea = tt at *
  have htt2 : (⟨#[116, 101, 97]⟩ : ByteArray) = tt := htt
  have HTT2 := Lib.hid htt2
  go_enter Tryz.func7, Tryz.ntmps7
  rw [htt2]
  clear htt htt2 HNE
  go_wp2_with fail
  refine C1.out.mono ?_
  rintro e w1 ⟨a1, n1, c1, p1, m1, d1, rfl, hbk, hb⟩
  have B1 := Lib.hid (bx2_new (c := c1) (Lines.below_keep H0.out hb H0.out.size) hbk)
  have HL1 := Lib.hid ((HL.out.keep hb).keep ((Below.refl _ w1).alloc (Nat.le_refl _) (.cells #[.slice a1 n1 c1, .slice p1 m1 d1] 33)))
  clear hbk hb
  have C2 := Lib.hid (book_e HE2.out (hold_any a1 n1 c1 p1 m1 d1 b1 1 0 _ 1 1 [(tt, 3)] _ B1.out.bk S1.out HL1.out Z3.out (by decide)))
  obtain ⟨q0, q1⟩ := cells2 B1.out.box
  go_wp2_with fail
  refine C2.out.mono ?_
  rintro e w2 ⟨a2, n2, c2, p2, m2, d2, rfl, hbk, hb⟩
  have B2 := Lib.hid (bx2_new (c := c2) (Lines.below_keep B1.out.bel hb B1.out.bel.size) hbk)
  have B12 := Lib.hid (bx2_after B1.out hb (.cells #[.slice a2 n2 c2, .slice p2 m2 d2] 33))
  have HL2 := Lib.hid ((HL1.out.keep hb).keep ((Below.refl _ w2).alloc (Nat.le_refl _) (.cells #[.slice a2 n2 c2, .slice p2 m2 d2] 33)))
  have hm2 : p2 = p2 ∧ m2 = 1 := ⟨rfl, by rw [← hbk.hd.len]; exact L2.out⟩
  obtain ⟨_, rfl⟩ := hm2
  clear hbk hb q0 q1
  have C3 := Lib.hid (book_e HE3.out (keep_any a2 n2 c2 p2 1 d2 b2 1 _ B2.out.bk S2.out))
  obtain ⟨q0, q1⟩ := cells2 B2.out.box
  go_wp2_with fail
  refine C3.out.mono ?_
  rintro e w3 ⟨a3, n3, c3, p3, m3, d3, rfl, hbk, hb⟩
  have B3 := Lib.hid (bx2_new (c := c3) (Lines.below_keep B2.out.bel hb B2.out.bel.size) hbk)
  have B13 := Lib.hid (bx2_after B12.out hb (.cells #[.slice a3 n3 c3, .slice p3 m3 d3] 33))
  have B23 := Lib.hid (bx2_after B2.out hb (.cells #[.slice a3 n3 c3, .slice p3 m3 d3] 33))
  have HL3 := Lib.hid ((HL2.out.keep hb).keep ((Below.refl _ w3).alloc (Nat.le_refl _) (.cells #[.slice a3 n3 c3, .slice p3 m3 d3] 33)))
  have hm3 : p3 = p3 ∧ m3 = 0 := ⟨rfl, by rw [← hbk.hd.len]; exact L3.out⟩
  obtain ⟨_, rfl⟩ := hm3
  clear hbk hb q0 q1
  have C4 := Lib.hid (book_e HE4.out (send_any a3 n3 c3 p3 0 d3 b3 _ 1 1 [(tt, 3)] _ B3.out.bk S3.out HL3.out Z3.out (by decide)))
  obtain ⟨q0, q1⟩ := cells2 B3.out.box
  go_wp2_with fail
  refine C4.out.mono ?_
  rintro e w4 ⟨a4, n4, c4, p4, m4, d4, rfl, hbk, hb⟩
  have B4 := Lib.hid (bx2_new (c := c4) (Lines.below_keep B3.out.bel hb B3.out.bel.size) hbk)
  have B14 := Lib.hid (bx2_after B13.out hb (.cells #[.slice a4 n4 c4, .slice p4 m4 d4] 33))
  have B24 := Lib.hid (bx2_after B23.out hb (.cells #[.slice a4 n4 c4, .slice p4 m4 d4] 33))
  have B34 := Lib.hid (bx2_after B3.out hb (.cells #[.slice a4 n4 c4, .slice p4 m4 d4] 33))
  clear hbk hb q0 q1
  have hw4 := L6.out (w4.alloc (.cells #[.slice a4 n4 c4, .slice p4 m4 d4] 33))
  rw [World.size_alloc] at hw4
  have HW4 := Lib.hid hw4
  clear hw4
  have hal := (Below.refl _ (w4.alloc (.cells #[.slice a4 n4 c4, .slice p4 m4 d4] 33))).alloc (Nat.le_refl _) (.cells #[.string tt, .int .i64 6] 54)
  have D1 := Lib.hid (B14.out.keep hal); have D2 := Lib.hid (B24.out.keep hal); have D3 := Lib.hid (B34.out.keep hal); have D4 := Lib.hid (B4.out.keep hal)
  clear hal
  have C5 := Lib.hid (book_e HE5.out (hold_any a1 n1 c1 p1 m1 d1 b1 1 0 _ 1 1 [(tt, 6)] _ D1.out.bk S1.out HW4.out Z6.out (by decide)))
  obtain ⟨q0, q1⟩ := cells2 B14.out.box
  go_wp2_with fail
  refine C5.out.mono ?_
  rintro e w5 ⟨a5, n5, c5, p5, m5, d5, rfl, hbk, hb⟩
  have F2 := Lib.hid (bx2_after D2.out hb (.cells #[.slice a5 n5 c5, .slice p5 m5 d5] 33))
  have F3 := Lib.hid (bx2_after D3.out hb (.cells #[.slice a5 n5 c5, .slice p5 m5 d5] 33))
  have F4 := Lib.hid (bx2_after D4.out hb (.cells #[.slice a5 n5 c5, .slice p5 m5 d5] 33))
  clear hbk hb q0 q1
  have C6 := Lib.hid (find_any a4 n4 c4 p4 m4 d4 b4 tt _ X6.out _ F4.out.bk.sk)
  obtain ⟨q0, q1⟩ := cells2 F4.out.box
  unfold skV getS at C6
  go_wp2_with fail
  refine C6.out.mono ?_
  rintro e w6 ⟨rfl, hb⟩
  have G2 := Lib.hid (bx2_after F2.out hb (.cells #[.string tt, .int .i64 2, .int .i64 0, .int .i64 0, .int .i64 3, .int .i64 5] 41))
  have G3 := Lib.hid (bx2_after F3.out hb (.cells #[.string tt, .int .i64 2, .int .i64 0, .int .i64 0, .int .i64 3, .int .i64 5] 41))
  clear hb q0 q1
  simp only [Option.getD_some, Option.isSome_some]
  obtain ⟨u0, u1⟩ := cells2 G2.out.box
  obtain ⟨v0, v1⟩ := cells2 G3.out.box
  go_wp2_with fail
  go_ret
  exact ⟨rfl, G3.out.bel⟩
end Go.Proofs.YtjclkiabgemfpaaGreat.Ledger

/-
  The contracts of the document's place, Find and Same, and of the law's same; what was there stays as it was.
-/
set_option linter.unusedVariables false
set_option maxRecDepth 4000
namespace Go.Proofs.YtjclkiabgemfpaaGreat.Ledger
open Go.RowKit LinesP HoldsP LedgerP
open StockP (Sk sk0 fitS Fit fitS_iff fromV turnV moveV turn_fit)
open Go.Proofs.YtjclkiabgemfpaaGreat.Lines (LsAt Sz SzM ret_bool ret_int below_keep below_drewN owns_form owns_cell owns_below)
open Go.Proofs.YtjclkiabgemfpaaGreat.Holds (HsAt SzH SzMH hmf eqH)

theorem cmp_or (t s : ByteArray) : (t.toList == s.toList) = true ∨ (t.toList == s.toList) = false := by cases (t.toList == s.toList) <;> simp
set_option maxHeartbeats 2000000 in
theorem rplace_any (a : Option Addr) (len cap : Nat) (l : List Sk) (s : ByteArray) (v : Int) (hv : ixS s 0 l = v) (w : World) (h : SkAt w a len l) :
    Calls Tryz.prog 35 #[.slice a len cap, .string s] w fun e w' => e = .returned (.int .i64 v) ∧ Below w.heap.size w w' := by
  have hl := h.2.1
  have HX := Lib.hid h
  have HV := Lib.hid hv
  clear h hv
  go_enter Tryz.func35, Tryz.ntmps35
  go_wp2_with fail
  go_loopw [5] (fun i wr => ∃ k : Nat, k ≤ len ∧ i = .int .i64 (k : Int) ∧ Hid (v = ixS s k (l.drop k)) ∧ Hid (Below w.heap.size w wr)) (fun i _ => len - (intOf i).toNat)
  case atStart => exact ⟨0, Nat.zero_le _, rfl, HV.out.symm, Below.refl _ w⟩
  case round =>
    obtain ⟨k, hk, rfl, hd, hB⟩ := hrel
    by_cases hlk : k < len
    · have hkx : k < l.length := by rw [HX.out.1]; exact hlk
      obtain ⟨b1, o1, t, x0, x1, x2, x3, x4, rfl, g1, hp, hc1⟩ := HX.out.at hlk
      obtain ⟨d0, d1, d2, d3, d4, d5⟩ := hc1 wr hB.out
      clear hc1 g1
      rcases cmp_or t s with hcmp | hcmp
      · have HD := Lib.hid (hd.out.trans (ixS_yes hkx hp hcmp))
        clear hd hp hkx
        go_wp2_with fail
        go_ret
        exact ⟨ret_int HD.out, hB.out⟩
      · have HD := Lib.hid (hd.out.trans (ixS_no hkx hp hcmp))
        clear hd hp hkx
        go_wp2_with fail
        go_roundw
        case rel => exact ⟨k + 1, by omega, by go_num, HD, hB⟩
        case measure => simp [intOf]; omega
    · obtain rfl : k = len := by omega
      have HD := Lib.hid (hd.out.trans (ixS_done (by rw [HX.out.1]; exact hlk)))
      clear hd
      go_wp2_with fail
      go_ret
      exact ⟨ret_int HD.out, hB.out⟩
theorem bbr_new (w : World) (a : Option Addr) (len cap : Nat) (a2 : Option Addr) (len2 cap2 : Nat) : BB w (w.alloc (.cells #[.slice a len cap, .slice a2 len2 cap2] 25)) a len cap a2 len2 cap2 :=
  ⟨(Below.refl _ w).alloc (Nat.le_refl _) _, by rw [World.size_alloc]; omega, by rw [World.cell?_alloc_new]; rfl, by rw [World.cell?_alloc_new]; rfl⟩
set_option maxHeartbeats 2000000 in
theorem rfind_any (a : Option Addr) (len cap : Nat) (a2 : Option Addr) (len2 cap2 : Nat) (b : Bk) (s : ByteArray) (o : Option Sk) (ho : findS s b.sk = o) (w : World) (h : SkAt w a len b.sk) :
    Calls Tryz.prog 12 #[.agg #[.slice a len cap, .slice a2 len2 cap2], .string s] w fun e w' => e = .returned (.tuple #[skV (getS o), .bool o.isSome]) ∧ Below w.heap.size w w' := by
  have hl := h.2.1
  have HX := Lib.hid h
  have HN := bbr_new w a len cap a2 len2 cap2
  have k3 := at6_new (w.alloc (.cells #[.slice a len cap, .slice a2 len2 cap2] 25)) (.string ⟨#[]⟩) (.int .i64 0) (.int .i64 0) (.int .i64 0) (.int .i64 0) (.int .i64 0)
  have hN2 := HN.keep ((Below.refl _ (w.alloc (.cells #[.slice a len cap, .slice a2 len2 cap2] 25))).alloc (Nat.le_refl _) (.cells #[.string ⟨#[]⟩, .int .i64 0, .int .i64 0, .int .i64 0, .int .i64 0, .int .i64 0] 41))
  rw [World.size_alloc] at k3
  obtain ⟨w0, he⟩ : ∃ w0, (w.alloc (.cells #[.slice a len cap, .slice a2 len2 cap2] 25)).alloc (.cells #[.string ⟨#[]⟩, .int .i64 0, .int .i64 0, .int .i64 0, .int .i64 0, .int .i64 0] 41) = w0 := ⟨_, rfl⟩
  rw [he] at hN2 k3
  have HW := Lib.hid he
  have HN := Lib.hid hN2
  have H6 : Hid (At6 w0 (w.heap.size + 1) (.string ⟨#[]⟩) (.int .i64 0) (.int .i64 0) (.int .i64 0) (.int .i64 0) (.int .i64 0)) := k3
  have hc := hN2.c0
  rcases ixS_find s b.sk 0 with ⟨hn, hi⟩ | ⟨k, hk, hi, hn⟩
  · have C := Lib.hid (rplace_any a len cap b.sk s (-1) hi w0 (h.keep hN2.bel))
    have hno : o = none := ho.symm.trans hn
    subst hno
    clear hi hn ho h hN2 k3 he
    go_enter Tryz.func12, Tryz.ntmps12
    go_wp2_with fail
    rw [show (w.alloc (.cells #[.slice a len cap, .slice a2 len2 cap2] 25)).alloc (.cells #[.string ⟨#[]⟩, .int .i64 0, .int .i64 0, .int .i64 0, .int .i64 0, .int .i64 0] 41) = w0 from HW.out]
    go_wp2_with fail
    refine C.out.mono ?_
    rintro e w2 ⟨rfl, hb⟩
    have HB2 := Lib.hid (HN.out.keep hb)
    have hA := H6.out.keep hb
    have HA := Lib.hid hA
    obtain ⟨z0, z1, z2, z3, z4, z5⟩ := cells6 hA
    obtain ⟨f0, f1, f2, f3, f4, f5⟩ := free6 hA
    clear hA hb hc
    go_wp2_with fail
    have HRS := Lib.hid (heap_put6 HA.out (.string ⟨#[]⟩) (.int .i64 0) (.int .i64 0) (.int .i64 0) (.int .i64 0) (.int .i64 0))
    have HB3 := Lib.hid (below_put6 HB2.out.bel (show w.heap.size ≤ w.heap.size + 1 by omega) (.string ⟨#[]⟩) (.int .i64 0) (.int .i64 0) (.int .i64 0) (.int .i64 0) (.int .i64 0))
    exact bodyPost_ret (results_sku (j := 4) (k := 5) rfl _ _ (w.heap.size + 1) _ _ _ _ _ _ rfl HRS.out) rfl ⟨rfl, HB3.out⟩
  · rw [Nat.zero_add] at hi
    have C := Lib.hid (rplace_any a len cap b.sk s (k : Int) hi w0 (h.keep hN2.bel))
    have hkl : k < len := by rw [← HX.out.1]; exact hk
    obtain ⟨b1, o1, t, x0, x1, x2, x3, x4, rfl, g1, hp, hc1⟩ := HX.out.at hkl
    have hno : o = some ⟨t, x0, x1, x2, x3, x4⟩ := by rw [← ho, hn, hp]
    subst hno
    have HC1 := Lib.hid hc1
    clear hi hn ho hp hk hc1 h hN2 k3 he
    go_enter Tryz.func12, Tryz.ntmps12
    go_wp2_with fail
    rw [show (w.alloc (.cells #[.slice (some ⟨b1, o1, none⟩) len cap, .slice a2 len2 cap2] 25)).alloc (.cells #[.string ⟨#[]⟩, .int .i64 0, .int .i64 0, .int .i64 0, .int .i64 0, .int .i64 0] 41) = w0 from HW.out]
    go_wp2_with fail
    refine C.out.mono ?_
    rintro e w2 ⟨rfl, hb⟩
    have HB2 := Lib.hid (HN.out.keep hb)
    have hA := H6.out.keep hb
    have HA := Lib.hid hA
    obtain ⟨z0, z1, z2, z3, z4, z5⟩ := cells6 hA
    obtain ⟨f0, f1, f2, f3, f4, f5⟩ := free6 hA
    obtain ⟨d0, d1, d2, d3, d4, d5⟩ := HC1.out w2 HB2.out.bel
    have hc2 := HB2.out.c0
    clear hA hb hc
    go_wp2_with fail
    have HRS := Lib.hid (heap_put6 HA.out (.string t) (.int .i64 x0) (.int .i64 x1) (.int .i64 x2) (.int .i64 x3) (.int .i64 x4))
    have HB3 := Lib.hid (below_put6 HB2.out.bel (show w.heap.size ≤ w.heap.size + 1 by omega) (.string t) (.int .i64 x0) (.int .i64 x1) (.int .i64 x2) (.int .i64 x3) (.int .i64 x4))
    exact bodyPost_ret (results_sku (j := 4) (k := 5) rfl _ _ (w.heap.size + 1) _ _ _ _ _ _ rfl HRS.out) rfl ⟨rfl, HB3.out⟩
/-! ### Same -/
theorem rhsame_is (a c : Option Addr) (la ca lc cc : Nat) (x y : List Hd) (v : Bool) (hv : eqH x y = v) (w : World) (h1 : HsAt w a la x) (h2 : HsAt w c lc y) :
    Calls Tryz.prog 44 #[.slice a la ca, .slice c lc cc] w fun e w' => e = .returned (.bool v) ∧ Below w.heap.size w w' := by
  have := Holds.rsame_any a c la ca lc cc x y w h1 h2
  rw [hv] at this
  exact this
theorem eqB_and (x y : Bk) : eqB x y = (eqH x.hd y.hd && eqU x.sk y.sk) := by unfold eqB; rw [Bool.and_comm]
set_option maxHeartbeats 4000000 in
theorem rsame_any (a : Option Addr) (n cap : Nat) (a2 : Option Addr) (n2 cap2 : Nat) (c : Option Addr) (m cap3 : Nat) (c2 : Option Addr) (m2 cap4 : Nat) (x y : Bk) (v : Bool) (hv : eqB x y = v) (w : World) (h : BkAt w a n a2 n2 cap2 x) (k : BkAt w c m c2 m2 cap4 y) :
    Calls Tryz.prog 17 #[.agg #[.slice a n cap, .slice a2 n2 cap2], .agg #[.slice c m cap3, .slice c2 m2 cap4]] w fun e w' => e = .returned (.bool v) ∧ Below w.heap.size w w' := by
  have N1 := bbr_new w a n cap a2 n2 cap2
  have N2 := bbr_new (w.alloc (.cells #[.slice a n cap, .slice a2 n2 cap2] 25)) c m cap3 c2 m2 cap4
  have N1' := N1.keep N2.bel
  obtain ⟨w1, hw1⟩ : ∃ w1, (w.alloc (.cells #[.slice a n cap, .slice a2 n2 cap2] 25)).alloc (.cells #[.slice c m cap3, .slice c2 m2 cap4] 25) = w1 := ⟨_, rfl⟩
  rw [hw1] at N2 N1'
  have hs1 : (w.alloc (.cells #[.slice a n cap, .slice a2 n2 cap2] 25)).heap.size = w.heap.size + 1 := World.size_alloc _ _
  have e0 := N2.c0
  have e1 := N2.c1
  have hlt2 := N2.lt
  rw [hs1] at e0 e1 hlt2
  have HLT2 := Lib.hid hlt2
  have HW := Lib.hid hw1
  have HB := Lib.hid N1'
  have HE0 := Lib.hid e0; have HE1 := Lib.hid e1
  have hla := h.sk.2.1
  have hlc := k.sk.2.1
  have HX := Lib.hid h; have HY := Lib.hid k
  have CS := Lib.hid (fun v hv => rhsame_is a2 c2 n2 cap2 m2 cap4 x.hd y.hd v hv w1 (h.hd.keep N1'.bel) (k.hd.keep N1'.bel))
  have HV := Lib.hid ((eqB_and x y).symm.trans hv)
  have hc := N1'.c0
  have hc1 := N1'.c1
  clear N1 N2 N1' hw1 hs1 hlt2 h k hv
  by_cases hne : n = m
  · subst hne
    obtain ⟨vh, hvh⟩ : ∃ vh, eqH x.hd y.hd = vh := ⟨_, rfl⟩
    have C := Lib.hid (CS.out vh hvh)
    rw [hvh] at HV
    have hnn : ((n : Int) != (n : Int)) = false := by simp
    clear hvh CS
    go_enter Tryz.func17, Tryz.ntmps17
    go_wp2_with fail
    rw [show (w.alloc (.cells #[.slice a n cap, .slice a2 n2 cap2] 25)).alloc (.cells #[.slice c n cap3, .slice c2 m2 cap4] 25) = w1 from HW.out]
    go_wp2_with fail
    refine C.out.mono ?_
    rintro e w2 ⟨rfl, hb⟩
    have HB2 := Lib.hid (HB.out.keep hb)
    have HD0 := Lib.hid ((hb.cell (p := ⟨w.heap.size + 1, 0, none⟩) HLT2.out).trans HE0.out)
    have HL2 := Lib.hid (Nat.lt_of_lt_of_le HLT2.out hb.size)
    clear hb C e0 e1 hc hc1
    cases vh with
    | false =>
      have HF := Lib.hid HV.out.symm
      go_wp2_with fail
      go_ret
      exact ⟨ret_bool HF.out, HB2.out.bel⟩
    | true =>
      have HV2 : Hid (v = eqU x.sk y.sk) := HV.out.symm
      go_wp2_with fail
      go_loopw [5] (fun i wr => ∃ k : Nat, k ≤ n ∧ i = .int .i64 (k : Int) ∧ Hid (v = eqU (x.sk.drop k) (y.sk.drop k)) ∧ Hid (BB w wr a n cap a2 n2 cap2) ∧ Hid (wr.cell? ⟨w.heap.size + 1, 0, none⟩ = some (.slice c n cap3)) ∧ Hid (w.heap.size + 1 < wr.heap.size)) (fun i _ => n - (intOf i).toNat)
      case atStart => exact ⟨0, Nat.zero_le _, rfl, HV2, HB2, HD0, HL2⟩
      case round =>
        obtain ⟨k, hk, rfl, hd, hB, hE, hL⟩ := hrel
        have c0 := hB.out.c0
        have c2' := hE.out
        by_cases hlk : k < n
        · have hkx : k < x.sk.length := by rw [HX.out.sk.1]; exact hlk
          have hky : k < y.sk.length := by rw [HY.out.sk.1]; exact hlk
          obtain ⟨b1, o1, s, x0, x1, x2, x3, x4, rfl, g1, hp, hc1⟩ := HX.out.sk.at hlk
          obtain ⟨b2, o2, t, y0, y1, y2, y3, y4, rfl, g2, hq, hc2⟩ := HY.out.sk.at hlk
          obtain ⟨d0, d1, d2, d3, d4, d5⟩ := hc1 wr hB.out.bel
          obtain ⟨e0, e1, e2, e3, e4, e5⟩ := hc2 wr hB.out.bel
          clear hc1 hc2 g1 g2
          have hneq := fun w => eql_in_sku s t x0 x1 x2 x3 x4 y0 y1 y2 y3 y4 w
          have hgd := fun x y w => guard_sku x y s t x0 x1 x2 x3 x4 y0 y1 y2 y3 y4 w
          cases heq : eqS ⟨s, x0, x1, x2, x3, x4⟩ ⟨t, y0, y1, y2, y3, y4⟩ with
          | true =>
            have HD := Lib.hid (hd.out.trans (eqU_go hkx hky hp hq heq))
            rw [heq] at hneq
            clear hd hp hq heq hkx hky
            go_wp2_with fail
            go_quiet (fail)
            go_wp2_with fail
            go_roundw
            case rel => exact ⟨k + 1, by omega, by go_num, HD, hB.out.keep (below_drewN (Below.refl _ _) _), hE, hL⟩
            case measure => simp [intOf]; omega
          | false =>
            have HD := Lib.hid (hd.out.trans (eqU_no hkx hky hp hq heq))
            rw [heq] at hneq
            clear hd hp hq heq hkx hky
            go_wp2_with fail
            go_quiet (fail)
            go_wp2_with fail
            go_ret
            exact ⟨ret_bool HD.out, below_drewN hB.out.bel _⟩
        · obtain rfl : k = n := by omega
          have HD := Lib.hid (hd.out.trans (eqU_done (by rw [HX.out.sk.1]; exact hlk) (by rw [HY.out.sk.1]; exact hlk)))
          clear hd
          go_wp2_with fail
          go_ret
          exact ⟨ret_bool HD.out, hB.out.bel⟩
  · have hx := HX.out.sk.1
    have hy := HY.out.sk.1
    have hn3 : ((n : Int) != (m : Int)) = true := by simp; omega
    have HD : Hid (v = false) := by
      have h1 := HV.out.symm
      rw [eqU_len (a := x.sk) (b := y.sk) (by rw [hx, hy]; exact hne), Bool.and_false] at h1
      exact h1
    clear hx hy
    go_enter Tryz.func17, Tryz.ntmps17
    go_wp2_with fail
    rw [show (w.alloc (.cells #[.slice a n cap, .slice a2 n2 cap2] 25)).alloc (.cells #[.slice c m cap3, .slice c2 m2 cap4] 25) = w1 from HW.out]
    go_wp2_with fail
    go_ret
    exact ⟨ret_bool HD.out, HB.out.bel⟩
end Go.Proofs.YtjclkiabgemfpaaGreat.Ledger

/-
  The contract of the document's with: a book with an item in its place; what was there stays as it was.
-/
set_option linter.unusedVariables false
set_option linter.unusedSimpArgs false
set_option maxRecDepth 4000
namespace Go.Proofs.YtjclkiabgemfpaaGreat.Ledger
open Go.RowKit LinesP HoldsP LedgerP
open StockP (Sk sk0 fitS Fit fitS_iff fromV turnV moveV turn_fit)
open Go.Proofs.YtjclkiabgemfpaaGreat.Lines (LsAt Sz SzM ret_bool ret_int below_keep below_drewN below_append owns_form owns_cell owns_below)
open Go.RowKit
open Go.Proofs.YtjclkiabgemfpaaGreat.Holds (HsAt SzH SzMH hmf eqH)

theorem cell_six (w : World) (u0 u1 u2 u3 u4 u5 : Value) (e : TypeId) : ∀ (j : Nat) z, [u0, u1, u2, u3, u4, u5][j]? = some z → (w.alloc (.cells #[u0, u1, u2, u3, u4, u5] e)).cell? ((⟨w.heap.size, 0, none⟩ : Addr).add j) = some z := by
  intro j z hz
  rw [Addr.add_lit]
  match j with
  | 0 => simp at hz; subst hz; simp
  | 1 => simp at hz; subst hz; simp
  | 2 => simp at hz; subst hz; simp
  | 3 => simp at hz; subst hz; simp
  | 4 => simp at hz; subst hz; simp
  | 5 => simp at hz; subst hz; simp
  | j + 6 => simp at hz
theorem append_sku {ops : Array Oper} {rest : List Oper} {o : Oper} {a : Act} {Q : Exit → Act → World → Prop} (hgd : o.guard = none) (s x : Operand)
    (ho : o.op = .call { callee := .builtin .append, args := #[s, x], argTypes := #[22, 22] }) (base : Nat) (w : World) (k : Nat) (hk : w.heap.size = k) (t : ByteArray) (y0 y1 y2 y3 y4 : Int)
    (v : Value) (n : Nat) (xs : List Sk) (hs : a.eval s = v) (hown : w.ownsRow base 41 6 v n (scells xs)) (hx : a.eval x = .slice (some ⟨k, 0, none⟩) 1 1)
    (hn : n ≤ 4000000) (hbase : base ≤ w.heap.size)
    (h : ∀ v' w', w'.ownsRow base 41 6 v' (n + 1) (scells (xs ++ [⟨t, y0, y1, y2, y3, y4⟩])) → (w.alloc (.cells #[.string t, .int .i64 y0, .int .i64 y1, .int .i64 y2, .int .i64 y3, .int .i64 y4] 41)).grownBy w' v.ownBlock → wpList Tryz.prog ops Q rest (a.put o.dst v') w') :
    wpList Tryz.prog ops Q (o :: rest) a (w.alloc (.cells #[.string t, .int .i64 y0, .int .i64 y1, .int .i64 y2, .int .i64 y3, .int .i64 y4] 41)) := by
  subst hk
  obtain ⟨i0, hi, hz0, hz1, hz2⟩ := info_parts info_sku
  refine wpList_append_own _ hgd s x 22 ho base 41 i0 _ 6 56 Tryz.underlying22 hi hz0 hz1 hz2 rfl (by decide) v n (scells xs) hs (hown.alloc _) ⟨w.heap.size, 0, none⟩ 1 1 [.string t, .int .i64 y0, .int .i64 y1, .int .i64 y2, .int .i64 y3, .int .i64 y4] hx rfl (cell_six _ _ _ _ _ _ _ _) (by simp [Value.oneCell']) ?_ ?_ ?_ fun v' w' h1 h2 _ => h v' w' (by rw [scells_append]; exact h1) h2
  · unfold maxLen; omega
  · omega
  · simp; omega
abbrev AtB (w : World) (b : Nat) (v0 v1 : Value) : Prop := w.heap[b]? = some (.cells #[v0, v1] 25 (0, 0))
theorem cellsB {w : World} {b : Nat} {v0 v1 : Value} (h : AtB w b v0 v1) : w.cell? ⟨b, 0, none⟩ = some v0 ∧ w.cell? ⟨b, 1, none⟩ = some v1 := by
  refine ⟨?_, ?_⟩ <;> (rw [cell_of_heap h]; rfl)
theorem freeB {w : World} {v0 v1 : Value} {b : Nat} (h : AtB w b v0 v1) : w.frozen? ⟨b, 0, none⟩ = false ∧ w.frozen? ⟨b, 1, none⟩ = false := ⟨frozen_of_heap h, frozen_of_heap h⟩
theorem atB_keep {w w' : World} {k : Nat} {v0 v1 : Value} (h : AtB w k v0 v1) (hb : Below w.heap.size w w') : AtB w' k v0 v1 := (hb.block k (heap_lt h)).trans h
theorem heap_put2B {w : World} {k : Nat} {x0 x1 : Value} (h : AtB w k x0 x1) (v0 v1 : Value) : AtB (put2 w k v0 v1) k v0 v1 := by
  have h1 := Lib.heap_setCell_same (i := 0) h v0
  exact Lib.heap_setCell_same (i := 1) h1 v1
theorem results_oneR {fn : Func} {j : Nat} (h : fn.results = #[.cell j 25]) (tmps : Array Value) (w : World) (b : Nat) (x0 x1 : Value) (hp : tmps.getD j undef = .pointer (some ⟨b, 0, none⟩))
    (c : AtB w b x0 x1) : (results fn tmps).run Tryz.prog w = .ok (.agg #[x0, x1]) w := by
  have hp' : tmps[j]?.getD undef = .pointer (some ⟨b, 0, none⟩) := by rw [← hp]; simp
  obtain ⟨c0, c1⟩ := cellsB c
  simp only [results, h]
  go_simp
theorem results_bookR {fn : Func} {j k : Nat} (h : fn.results = #[.cell j 25, .tmp k]) (tmps : Array Value) (w : World) (b : Nat) (x0 x1 : Value) (hp : tmps.getD j undef = .pointer (some ⟨b, 0, none⟩))
    (c : AtB w b x0 x1) : (results fn tmps).run Tryz.prog w = .ok (.tuple #[.agg #[x0, x1], tmps.getD k undef]) w := by
  have hp' : tmps[j]?.getD undef = .pointer (some ⟨b, 0, none⟩) := by rw [← hp]; simp
  obtain ⟨c0, c1⟩ := cellsB c
  simp only [results, h]
  go_simp
theorem sk_offB {w : World} {a : Option Addr} {n : Nat} {l : List Sk} (h : SkAt w a n l) {r : Nat} {p0 p1 : Option Addr} {m0 m1 d0 d1 : Nat} (hr : AtB w r (.slice p0 m0 d0) (.slice p1 m1 d1)) : n = 0 ∨ ∃ b off, a = some ⟨b, off, none⟩ ∧ b ≠ r := by
  rcases h.2.2 with h0 | ⟨b, off, e, hlt, hc⟩
  · exact .inl h0
  · by_cases h0 : n = 0
    · exact .inl h0
    · refine .inr ⟨b, off, e, fun k => ?_⟩
      subst k
      have h1 := (hc 0 (by omega)).1
      rw [cell_of_heap hr] at h1
      rcases (by omega : off + 0 * 6 = 0 ∨ off + 0 * 6 = 1 ∨ 2 ≤ off + 0 * 6) with e1 | e1 | e1
      · rw [e1] at h1; cases h1
      · rw [e1] at h1; cases h1
      · rw [Array.getElem?_eq_none (by simpa using e1)] at h1; cases h1
theorem sk_putR {w : World} {a : Option Addr} {n : Nat} {l : List Sk} (h : SkAt w a n l) {r : Nat} {p0 p1 : Option Addr} {m0 m1 d0 d1 : Nat} (hr : AtB w r (.slice p0 m0 d0) (.slice p1 m1 d1)) (v0 v1 : Value) : SkAt (put2 w r v0 v1) a n l :=
  sk_same h (sk_offB h hr) (by rw [size_put2]; exact Nat.le_refl _) (fun j hj => put2_other v0 v1 hj)
structure WB (w w' : World) (a : Option Addr) (len cap : Nat) (a2 : Option Addr) (len2 cap2 : Nat) (x : Sk) : Prop where
  bk : BB w w' a len cap a2 len2 cap2
  x6 : At6 w' (w.heap.size + 1) (.string x.nm) (.int .i64 x.hand) (.int .i64 x.held) (.int .i64 x.kept) (.int .i64 x.sent) (.int .i64 x.inn)
  res : AtB w' (w.heap.size + 2) (.slice none 0 0) (.slice none 0 0)
theorem WB.keep {w w' w2 : World} {a : Option Addr} {len cap : Nat} {a2 : Option Addr} {len2 cap2 : Nat} {x : Sk} (h : WB w w' a len cap a2 len2 cap2 x) (hb : Below w'.heap.size w' w2) : WB w w2 a len cap a2 len2 cap2 x :=
  ⟨h.bk.keep hb, h.x6.keep hb, atB_keep h.res hb⟩
theorem wb_new (w : World) (a : Option Addr) (len cap : Nat) (a2 : Option Addr) (len2 cap2 : Nat) (xn : ByteArray) (x0 x1 x2 x3 x4 : Int) : WB w (((w.alloc (.cells #[.slice a len cap, .slice a2 len2 cap2] 25)).alloc (.cells #[.string xn, .int .i64 x0, .int .i64 x1, .int .i64 x2, .int .i64 x3, .int .i64 x4] 41)).alloc (.cells #[.slice none 0 0, .slice none 0 0] 25)) a len cap a2 len2 cap2 ⟨xn, x0, x1, x2, x3, x4⟩ := by
  have h1 := (Below.refl _ (w.alloc (.cells #[.slice a len cap, .slice a2 len2 cap2] 25))).alloc (Nat.le_refl _) (.cells #[.string xn, .int .i64 x0, .int .i64 x1, .int .i64 x2, .int .i64 x3, .int .i64 x4] 41)
  have h2 := (Below.refl _ ((w.alloc (.cells #[.slice a len cap, .slice a2 len2 cap2] 25)).alloc (.cells #[.string xn, .int .i64 x0, .int .i64 x1, .int .i64 x2, .int .i64 x3, .int .i64 x4] 41))).alloc (Nat.le_refl _) (.cells #[.slice none 0 0, .slice none 0 0] 25)
  have s1 : (w.alloc (.cells #[.slice a len cap, .slice a2 len2 cap2] 25)).heap.size = w.heap.size + 1 := World.size_alloc _ _
  have s2 : ((w.alloc (.cells #[.slice a len cap, .slice a2 len2 cap2] 25)).alloc (.cells #[.string xn, .int .i64 x0, .int .i64 x1, .int .i64 x2, .int .i64 x3, .int .i64 x4] 41)).heap.size = w.heap.size + 2 := by rw [World.size_alloc, s1]
  refine ⟨((bbr_new w a len cap a2 len2 cap2).keep h1).keep h2, ?_, ?_⟩
  · have := (at6_new (w.alloc (.cells #[.slice a len cap, .slice a2 len2 cap2] 25)) (.string xn) (.int .i64 x0) (.int .i64 x1) (.int .i64 x2) (.int .i64 x3) (.int .i64 x4)).keep h2
    rw [s1] at this
    exact this
  · have : AtB _ _ _ _ := heap_alloc_new ((w.alloc (.cells #[.slice a len cap, .slice a2 len2 cap2] 25)).alloc (.cells #[.string xn, .int .i64 x0, .int .i64 x1, .int .i64 x2, .int .i64 x3, .int .i64 x4] 41)) (.cells #[.slice none 0 0, .slice none 0 0] 25)
    rw [s2] at this
    exact this
theorem geq_of {t xn : ByteArray} {v : Bool} (h : lss t xn = v) : Op.bytesLess t.toList xn.toList = v := by
  rw [ByteArray.toList_eq, ByteArray.toList_eq]; exact h
set_option maxHeartbeats 8000000 in
theorem with_any (a : Option Addr) (len cap : Nat) (a2 : Option Addr) (len2 cap2 : Nat) (b : Bk) (xn : ByteArray) (x0 x1 x2 x3 x4 : Int) (w : World) (h : BkAt w a len a2 len2 cap2 b) (h12 : len ≤ 1000000) :
    Calls Tryz.prog 64 #[.agg #[.slice a len cap, .slice a2 len2 cap2], .agg #[.string xn, .int .i64 x0, .int .i64 x1, .int .i64 x2, .int .i64 x3, .int .i64 x4]] w
      fun e w' => ∃ a' n' c', e = .returned (.agg #[.slice a' n' c', .slice a2 len2 cap2]) ∧ SkAt w' a' n' (withF ⟨xn, x0, x1, x2, x3, x4⟩ false b.sk) ∧ Below w.heap.size w w' := by
  have HN := wb_new w a len cap a2 len2 cap2 xn x0 x1 x2 x3 x4
  have hs3 : (((w.alloc (.cells #[.slice a len cap, .slice a2 len2 cap2] 25)).alloc (.cells #[.string xn, .int .i64 x0, .int .i64 x1, .int .i64 x2, .int .i64 x3, .int .i64 x4] 41)).alloc (.cells #[.slice none 0 0, .slice none 0 0] 25)).heap.size = w.heap.size + 3 := by simp
  obtain ⟨w0, hw0⟩ : ∃ w0, (((w.alloc (.cells #[.slice a len cap, .slice a2 len2 cap2] 25)).alloc (.cells #[.string xn, .int .i64 x0, .int .i64 x1, .int .i64 x2, .int .i64 x3, .int .i64 x4] 41)).alloc (.cells #[.slice none 0 0, .slice none 0 0] 25)) = w0 := ⟨_, rfl⟩
  rw [hw0] at HN hs3
  have HW := Lib.hid hw0; have HW0 := Lib.hid HN; have HS3 := Lib.hid hs3
  have HX := Lib.hid h
  have hc := HN.bk.c0
  clear hw0 HN hs3 h
  go_enter Tryz.func64, Tryz.ntmps64
  go_wp2_with fail
  rw [show (((w.alloc (.cells #[.slice a len cap, .slice a2 len2 cap2] 25)).alloc (.cells #[.string xn, .int .i64 x0, .int .i64 x1, .int .i64 x2, .int .i64 x3, .int .i64 x4] 41)).alloc (.cells #[.slice none 0 0, .slice none 0 0] 25)) = w0 from HW.out]
  go_wp2_with fail
  go_loopw [5, 6, 7] (fun v5 v6 i wr => ∃ (k n : Nat) (done : Bool) (out : List Sk), k ≤ len ∧ n ≤ k + 1 ∧ out.length = n ∧ i = .int .i64 (k : Int) ∧ v6 = .bool done ∧ Hid (wr.ownsRow w0.heap.size 41 6 v5 n (scells out)) ∧ Hid (out ++ withF ⟨xn, x0, x1, x2, x3, x4⟩ done (b.sk.drop k) = withF ⟨xn, x0, x1, x2, x3, x4⟩ false b.sk) ∧ Hid (Below w0.heap.size w0 wr) ∧ (done = false → n ≤ k)) (fun _ _ i _ => len - (intOf i).toNat)
  case atStart => exact ⟨0, 0, false, [], Nat.zero_le _, by omega, rfl, rfl, rfl, World.ownsRow_nil _ _ _ _, Lib.hid rfl, Lib.hid (Below.refl _ _), fun _ => Nat.le_refl _⟩
  case round =>
    obtain ⟨k, n, done, out, hk, hnk, hon, rfl, rfl, hO, hE, hB, hdn⟩ := hrel
    have HWr := Lib.hid (HW0.out.keep hB.out)
    have hcr := HWr.out.bk.c0
    by_cases hlk : k < len
    · have hkx : k < b.sk.length := by rw [HX.out.sk.1]; exact hlk
      obtain ⟨b1, o1, t, y0, y1, y2, y3, y4, rfl, g1, hp, hc1⟩ := HX.out.sk.at hlk
      have HC1 := Lib.hid hc1
      have hwd := with_drop (x := ⟨xn, x0, x1, x2, x3, x4⟩) done hkx hp
      simp only at hwd
      obtain ⟨d0, d1, d2, d3, d4, d5⟩ := hc1 wr HWr.out.bk.bel
      obtain ⟨x60, x61, x62, x63, x64, x65⟩ := cells6 HWr.out.x6
      have hsz := hB.out.size
      clear hc1 g1 hp hkx
      cases done with
      | false =>
        have hnk2 := hdn rfl
        cases hls : lss t xn with
        | false =>
          have hle := geq_of hls
          rw [hls] at hwd
          simp only [if_true, and_self, Bool.not_false, Bool.or_true] at hwd
          go_wp2_with fail
          go_quiet (fail)
          go_wp2_with (at_builtin; refine append_sku rfl (.tmp 28) (.tmp 30) rfl w0.heap.size _ _ rfl xn x0 x1 x2 x3 x4 _ n out rfl hO.out rfl (by omega) hsz ?_)
          intro v' wa hr hg
          have HBa := Lib.hid (show Below w0.heap.size w0 wa from by
            refine below_append (e := 41) (size := 6) (n := n) (xs := scells out) ?_ ?_ ?_ hg
            · first | exact below_drewN (below_drewN hB.out _) _ | exact below_drewN hB.out _ | exact hB.out
            · exact hsz
            · exact hO.out)
          obtain ⟨o2, ho2⟩ : ∃ o2, out ++ [(⟨xn, x0, x1, x2, x3, x4⟩ : Sk)] = o2 := ⟨_, rfl⟩
          have HOa := Lib.hid hr
          rw [ho2] at HOa
          have HWa := Lib.hid (HW0.out.keep HBa.out)
          have hon2 : o2.length = n + 1 := by rw [← ho2]; simp [hon]
          clear hr hg d0 d1 d2 d3 d4 d5 x60 x61 x62 x63 x64 x65 hcr hsz
          obtain ⟨d0, d1, d2, d3, d4, d5⟩ := HC1.out wa HWa.out.bk.bel
          obtain ⟨x60, x61, x62, x63, x64, x65⟩ := cells6 HWa.out.x6
          have hcr := HWa.out.bk.c0
          have hsz := HBa.out.size
          rcases cmp_or t xn with hcmp | hcmp
          · have heq := same_iff.1 hcmp
            rw [if_pos heq] at hwd
            simp only [List.append_nil, List.nil_append] at hwd
            have HEb : Hid ((o2) ++ withF ⟨xn, x0, x1, x2, x3, x4⟩ true (b.sk.drop (k + 1)) = withF ⟨xn, x0, x1, x2, x3, x4⟩ false b.sk) := by
              show (o2) ++ _ = _
              rw [← hE.out, hwd, ← ho2, List.append_assoc]
            go_wp2_with fail
            go_quiet (fail)
            go_wp2_with fail
            go_roundw
            case rel => exact ⟨k + 1, n + 1, true, _, by omega, by omega, hon2, by go_num, rfl, Lib.hid (by exact HOa.out), HEb, Lib.hid (by first | exact below_drewN (below_drewN HBa.out _) _ | exact below_drewN HBa.out _), fun e => by cases e⟩
            case measure => simp [intOf]; omega
          · have hne : ¬ t = xn := fun e => by rw [same_iff.2 e] at hcmp; cases hcmp
            rw [if_neg hne] at hwd
            have HEb : Hid (((o2) ++ [(⟨t, y0, y1, y2, y3, y4⟩ : Sk)]) ++ withF ⟨xn, x0, x1, x2, x3, x4⟩ true (b.sk.drop (k + 1)) = withF ⟨xn, x0, x1, x2, x3, x4⟩ false b.sk) := by
              show ((o2) ++ [(⟨t, y0, y1, y2, y3, y4⟩ : Sk)]) ++ _ = _
              rw [← hE.out, hwd, ← ho2]; simp only [List.append_assoc, List.nil_append]
            go_wp2_with fail
            go_quiet (fail)
            go_wp2_with (at_builtin; refine append_sku rfl (.tmp 41) (.tmp 47) rfl w0.heap.size _ _ rfl t y0 y1 y2 y3 y4 _ (n + 1) (o2) rfl HOa.out rfl (by omega) hsz ?_)
            intro v'' wb hr hg
            have HBb := Lib.hid (show Below w0.heap.size w0 wb from by
              refine below_append (e := 41) (size := 6) (n := n + 1) (xs := scells (o2)) ?_ ?_ ?_ hg
              · first | exact below_drewN (below_drewN HBa.out _) _ | exact below_drewN HBa.out _
              · exact hsz
              · exact HOa.out)
            have HOb := Lib.hid hr
            have hon3 : ((o2) ++ [(⟨t, y0, y1, y2, y3, y4⟩ : Sk)]).length = n + 1 + 1 := by rw [List.length_append, hon2]; rfl
            clear hr hg
            go_wp2_with fail
            go_roundw
            case rel => exact ⟨k + 1, n + 1 + 1, true, _, by omega, by omega, hon3, by go_num, rfl, HOb, HEb, HBb, fun e => by cases e⟩
            case measure => simp [intOf]; omega
        | true =>
          have hle := geq_of hls
          have hne : ¬ t = xn := lt_ne (lss_lt.1 hls)
          have hcmp : (t.toList == xn.toList) = false := by
            rcases cmp_or t xn with hq | hq
            · exact absurd (same_iff.1 hq) hne
            · exact hq
          rw [hls, if_neg hne] at hwd
          simp only [Bool.true_eq_false, and_false, if_false, Bool.not_true, Bool.or_false, List.nil_append] at hwd
          go_wp2_with fail
          go_quiet (fail)
          go_wp2_with fail
          go_quiet (fail)
          go_wp2_with (at_builtin; refine append_sku rfl (.tmp 41) (.tmp 47) rfl w0.heap.size _ _ rfl t y0 y1 y2 y3 y4 _ n out rfl hO.out rfl (by omega) hsz ?_)
          intro v' wb hr hg
          have HBb := Lib.hid (show Below w0.heap.size w0 wb from by
            refine below_append (e := 41) (size := 6) (n := n) (xs := scells out) ?_ ?_ ?_ hg
            · first | exact below_drewN (below_drewN hB.out _) _ | exact below_drewN hB.out _ | exact hB.out
            · exact hsz
            · exact hO.out)
          have HOb := Lib.hid hr
          have HEb : Hid ((out ++ [(⟨t, y0, y1, y2, y3, y4⟩ : Sk)]) ++ withF ⟨xn, x0, x1, x2, x3, x4⟩ false (b.sk.drop (k + 1)) = withF ⟨xn, x0, x1, x2, x3, x4⟩ false b.sk) := by
            show (out ++ [(⟨t, y0, y1, y2, y3, y4⟩ : Sk)]) ++ _ = _
            rw [← hE.out, hwd, List.append_assoc]
          have hon3 : (out ++ [(⟨t, y0, y1, y2, y3, y4⟩ : Sk)]).length = n + 1 := by simp [hon]
          clear hr hg
          go_wp2_with fail
          go_roundw
          case rel => exact ⟨k + 1, n + 1, false, _, by omega, by omega, hon3, by go_num, rfl, HOb, HEb, HBb, fun _ => by omega⟩
          case measure => simp [intOf]; omega
      | true =>
        simp only [Bool.true_eq_false, false_and, if_false, Bool.true_or, List.nil_append] at hwd
        go_wp2_with fail
        go_quiet (fail)
        rcases cmp_or t xn with hcmp | hcmp
        · have heq := same_iff.1 hcmp
          rw [if_pos heq] at hwd
          simp only [List.append_nil, List.nil_append] at hwd
          have HEb : Hid ((out) ++ withF ⟨xn, x0, x1, x2, x3, x4⟩ true (b.sk.drop (k + 1)) = withF ⟨xn, x0, x1, x2, x3, x4⟩ false b.sk) := by
            show (out) ++ _ = _
            rw [← hE.out, hwd]
          go_wp2_with fail
          go_quiet (fail)
          go_wp2_with fail
          go_roundw
          case rel => exact ⟨k + 1, n, true, _, by omega, by omega, hon, by go_num, rfl, Lib.hid (by exact hO.out), HEb, Lib.hid (by first | exact below_drewN (below_drewN hB.out _) _ | exact below_drewN hB.out _), fun e => by cases e⟩
          case measure => simp [intOf]; omega
        · have hne : ¬ t = xn := fun e => by rw [same_iff.2 e] at hcmp; cases hcmp
          rw [if_neg hne] at hwd
          have HEb : Hid (((out) ++ [(⟨t, y0, y1, y2, y3, y4⟩ : Sk)]) ++ withF ⟨xn, x0, x1, x2, x3, x4⟩ true (b.sk.drop (k + 1)) = withF ⟨xn, x0, x1, x2, x3, x4⟩ false b.sk) := by
            show ((out) ++ [(⟨t, y0, y1, y2, y3, y4⟩ : Sk)]) ++ _ = _
            rw [← hE.out, hwd]; simp only [List.append_assoc, List.nil_append]
          go_wp2_with fail
          go_quiet (fail)
          go_wp2_with (at_builtin; refine append_sku rfl (.tmp 41) (.tmp 47) rfl w0.heap.size _ _ rfl t y0 y1 y2 y3 y4 _ (n) (out) rfl hO.out rfl (by omega) hsz ?_)
          intro v'' wb hr hg
          have HBb := Lib.hid (show Below w0.heap.size w0 wb from by
            refine below_append (e := 41) (size := 6) (n := n) (xs := scells (out)) ?_ ?_ ?_ hg
            · first | exact below_drewN (below_drewN hB.out _) _ | exact below_drewN hB.out _
            · exact hsz
            · exact hO.out)
          have HOb := Lib.hid hr
          have hon3 : ((out) ++ [(⟨t, y0, y1, y2, y3, y4⟩ : Sk)]).length = n + 1 := by rw [List.length_append, hon]; rfl
          clear hr hg
          go_wp2_with fail
          go_roundw
          case rel => exact ⟨k + 1, n + 1, true, _, by omega, by omega, hon3, by go_num, rfl, HOb, HEb, HBb, fun e => by cases e⟩
          case measure => simp [intOf]; omega
    · obtain rfl : k = len := by omega
      have hend := with_end (x := ⟨xn, x0, x1, x2, x3, x4⟩) done (l := b.sk) (k := k) (by rw [HX.out.sk.1]; exact hlk)
      have hsz := hB.out.size
      have hE1 := hE.out
      rw [hend] at hE1
      obtain ⟨z0, z1⟩ := cellsB HWr.out.res
      obtain ⟨f0, f1⟩ := freeB HWr.out.res
      have hcr1 := HWr.out.bk.c1
      cases done with
      | true =>
        simp only [if_true, List.append_nil] at hE1
        have hform := owns_form hO.out
        obtain ⟨pa, pc, hv⟩ : ∃ pa pc, u5 = .slice pa n pc := by
          rcases hform with ⟨rfl, rfl⟩ | ⟨g, cp, rfl, _⟩
          · exact ⟨_, _, rfl⟩
          · exact ⟨_, _, rfl⟩
        subst hv
        have HSK := Lib.hid (sk_own hO.out hon (by omega))
        have HE1 := Lib.hid hE1
        clear hE1 hend hform
        go_wp2_with fail
        have HRS := Lib.hid (heap_put2B HWr.out.res (.slice pa n pc) (.slice a2 len2 cap2))
        have HB3 := Lib.hid (below_put2 HWr.out.bk.bel (show w.heap.size ≤ w.heap.size + 2 by omega) (.slice pa n pc) (.slice a2 len2 cap2))
        exact bodyPost_ret (results_oneR (j := 4) rfl _ _ (w.heap.size + 2) _ _ rfl HRS.out) rfl ⟨pa, n, pc, rfl, by rw [← HE1.out]; exact sk_putR HSK.out HWr.out.res _ _, HB3.out⟩
      | false =>
        have hnk2 := hdn rfl
        obtain ⟨x60, x61, x62, x63, x64, x65⟩ := cells6 HWr.out.x6
        simp only [Bool.false_eq_true, if_false] at hE1
        have HE1 := Lib.hid hE1
        clear hE1 hend z0 z1 f0 f1
        go_wp2_with (at_builtin; refine append_sku rfl (.tmp 51) (.tmp 53) rfl w0.heap.size _ _ rfl xn x0 x1 x2 x3 x4 _ n out rfl hO.out rfl (by omega) hsz ?_)
        intro v' wa hr hg
        have HBa := Lib.hid (below_append hB.out hsz hO.out hg)
        have hform := owns_form hr
        obtain ⟨pa, pc, hv⟩ : ∃ pa pc, v' = .slice pa (n + 1) pc := by
          rcases hform with ⟨_, h0⟩ | ⟨g, cp, rfl, _⟩
          · omega
          · exact ⟨_, _, rfl⟩
        subst hv
        have HSK := Lib.hid (sk_own hr (by simp [hon]) (by omega))
        have HWa := Lib.hid (HW0.out.keep HBa.out)
        clear hr hg hform hcr hcr1 x60 x61 x62 x63 x64 x65
        obtain ⟨z0, z1⟩ := cellsB HWa.out.res
        obtain ⟨f0, f1⟩ := freeB HWa.out.res
        have hcr1 := HWa.out.bk.c1
        go_wp2_with fail
        have HRS := Lib.hid (heap_put2B HWa.out.res (.slice pa (n + 1) pc) (.slice a2 len2 cap2))
        have HB3 := Lib.hid (below_put2 HWa.out.bk.bel (show w.heap.size ≤ w.heap.size + 2 by omega) (.slice pa (n + 1) pc) (.slice a2 len2 cap2))
        exact bodyPost_ret (results_oneR (j := 4) rfl _ _ (w.heap.size + 2) _ _ rfl HRS.out) rfl ⟨pa, n + 1, pc, rfl, by rw [← HE1.out]; exact sk_putR HSK.out HWa.out.res _ _, HB3.out⟩
end Go.Proofs.YtjclkiabgemfpaaGreat.Ledger
