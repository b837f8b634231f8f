/-
  How acts stand in memory; the contracts of FewActs and Few, and of the laws' own awake: the chapter's example.
-/
import Derived.Test.YtjclkiabgemfpaaPqLedgerH
set_option linter.unusedVariables false
set_option maxRecDepth 4000
namespace Go.Proofs.Ytjclkiabgemfpaa.Ledger
open Go.RowKit LinesP HoldsP LedgerP
open StockP (Sk sk0 fitS Fit fitS_iff fromV turnV moveV turn_fit)
open Go.Proofs.Ytjclkiabgemfpaa.Lines (LsAt Sz SzM ret_bool ret_int below_keep below_drewN owns_form owns_cell owns_below fewV few_sz)
open Go.Proofs.Ytjclkiabgemfpaa.Holds (HsAt SzH SzMH hmf fewH fewH_sz)

abbrev Az := LedgerP.Act × Option Addr × Nat
def ac0 : LedgerP.Act := ⟨0, 0, 0, ByteArray.empty, []⟩
def az0 : Az := (ac0, none, 0)
def acts (zs : List Az) : List LedgerP.Act := zs.map (·.1)
theorem acts_len (zs : List Az) : (acts zs).length = zs.length := by simp [acts]
theorem acts_get {zs : List Az} {k : Nat} (hk : k < zs.length) : (acts zs).getD k ac0 = (zs.getD k az0).1 := by
  simp [acts, List.getD, hk]
def AzAt (w : World) (a : Option Addr) (len : Nat) (zs : List Az) : Prop :=
  zs.length = len ∧ len ≤ 9223372036854775807 ∧ (∀ z ∈ zs, LsAt w z.2.1 z.1.ls.length z.1.ls) ∧
  (len = 0 ∨ ∃ b off, a = some ⟨b, off, none⟩ ∧ b < w.heap.size ∧ ∀ i, i < len →
    w.cell? ⟨b, off + i * 5, none⟩ = some (.int .i64 (zs.getD i az0).1.kind) ∧ w.cell? ⟨b, off + i * 5 + 1, none⟩ = some (.int .i64 (zs.getD i az0).1.saga) ∧
    w.cell? ⟨b, off + i * 5 + 2, none⟩ = some (.int .i64 (zs.getD i az0).1.n) ∧ w.cell? ⟨b, off + i * 5 + 3, none⟩ = some (.string (zs.getD i az0).1.sku) ∧
    w.cell? ⟨b, off + i * 5 + 4, none⟩ = some (.slice (zs.getD i az0).2.1 (zs.getD i az0).1.ls.length (zs.getD i az0).2.2))
theorem AzAt.keep {w w' : World} {a : Option Addr} {len : Nat} {zs : List Az} (h : AzAt w a len zs) (hb : Below w.heap.size w w') : AzAt w' a len zs :=
  ⟨h.1, h.2.1, fun z hz => (h.2.2.1 z hz).keep hb, h.2.2.2.imp id (fun ⟨b, off, e, hlt, hc⟩ => ⟨b, off, e, by have := hb.size; omega, fun i hi =>
    ⟨(hb.cell (p := ⟨b, off + i * 5, none⟩) hlt).trans (hc i hi).1, (hb.cell (p := ⟨b, off + i * 5 + 1, none⟩) hlt).trans (hc i hi).2.1, (hb.cell (p := ⟨b, off + i * 5 + 2, none⟩) hlt).trans (hc i hi).2.2.1, (hb.cell (p := ⟨b, off + i * 5 + 3, none⟩) hlt).trans (hc i hi).2.2.2.1, (hb.cell (p := ⟨b, off + i * 5 + 4, none⟩) hlt).trans (hc i hi).2.2.2.2⟩⟩)⟩
def AsAt (w : World) (a : Option Addr) (len : Nat) (l : List LedgerP.Act) : Prop := ∃ zs, acts zs = l ∧ AzAt w a len zs
theorem AsAt.keep {w w' : World} {a : Option Addr} {len : Nat} {l : List LedgerP.Act} (h : AsAt w a len l) (hb : Below w.heap.size w w') : AsAt w' a len l :=
  h.imp fun _ ⟨e, k⟩ => ⟨e, k.keep hb⟩
theorem AsAt.len {w : World} {a : Option Addr} {len : Nat} {l : List LedgerP.Act} (h : AsAt w a len l) : l.length = len := by
  obtain ⟨zs, rfl, k⟩ := h
  rw [acts_len]; exact k.1
theorem AsAt.le {w : World} {a : Option Addr} {len : Nat} {l : List LedgerP.Act} (h : AsAt w a len l) : len ≤ 9223372036854775807 := by
  obtain ⟨zs, rfl, k⟩ := h
  exact k.2.1
theorem AsAt.at {w : World} {a : Option Addr} {len : Nat} {l : List LedgerP.Act} (h : AsAt w a len l) {k : Nat} (hk : k < len) :
    ∃ b off kd sg m s la lc ls, a = some ⟨b, off, none⟩ ∧ b < w.heap.size ∧ l.getD k ac0 = ⟨kd, sg, m, s, ls⟩ ∧ ∀ w', Below w.heap.size w w' →
      w'.cell? ⟨b, off + k * 5, none⟩ = some (.int .i64 kd) ∧ w'.cell? ⟨b, off + k * 5 + 1, none⟩ = some (.int .i64 sg) ∧ w'.cell? ⟨b, off + k * 5 + 2, none⟩ = some (.int .i64 m) ∧
      w'.cell? ⟨b, off + k * 5 + 3, none⟩ = some (.string s) ∧ w'.cell? ⟨b, off + k * 5 + 4, none⟩ = some (.slice la ls.length lc) ∧ LsAt w' la ls.length ls := by
  obtain ⟨zs, rfl, k1, k2, k3, k4⟩ := h
  rcases k4 with h0 | ⟨b, off, rfl, hlt, hc⟩
  · omega
  have hkz : k < zs.length := by omega
  have hm : zs.getD k az0 ∈ zs := by
    rw [show zs.getD k az0 = zs[k] by simp [List.getD, hkz]]; exact List.getElem_mem hkz
  have hl := k3 _ hm
  have hc1 := hc k hk
  rw [acts_get hkz]
  obtain ⟨⟨⟨kd, sg, m, s, ls⟩, la, lc⟩, hz⟩ : ∃ z, zs.getD k az0 = z := ⟨_, rfl⟩
  rw [hz] at hl hc1 ⊢
  exact ⟨b, off, kd, sg, m, s, la, lc, ls, rfl, hlt, rfl, fun w' hb => ⟨(hb.cell (p := ⟨b, off + k * 5, none⟩) hlt).trans hc1.1, (hb.cell (p := ⟨b, off + k * 5 + 1, none⟩) hlt).trans hc1.2.1, (hb.cell (p := ⟨b, off + k * 5 + 2, none⟩) hlt).trans hc1.2.2.1, (hb.cell (p := ⟨b, off + k * 5 + 3, none⟩) hlt).trans hc1.2.2.2.1, (hb.cell (p := ⟨b, off + k * 5 + 4, none⟩) hlt).trans hc1.2.2.2.2, hl.keep hb⟩⟩
/-! ### few acts -/
def fewOne (x : LedgerP.Act) : Bool := fewV x.ls && decide (x.sku.size ≤ 60)
def shortA (l : List LedgerP.Act) : Bool := l.all fewOne
def fewA (m : Nat) (l : List LedgerP.Act) : Bool := shortA (l.take m) && decide (l.length ≤ m)
def SzMA (l : List LedgerP.Act) : Prop := ∀ x ∈ l, SzM x.ls ∧ x.sku.size ≤ 9223372036854775807
theorem amem_getD {l : List LedgerP.Act} {k : Nat} (hk : k < l.length) : l.getD k ac0 ∈ l := by
  rw [show l.getD k ac0 = l[k] by simp [List.getD, hk]]; exact List.getElem_mem hk
theorem take_snocA {l : List LedgerP.Act} {k : Nat} {x : LedgerP.Act} (hk : k < l.length) (hx : l.getD k ac0 = x) : l.take (k + 1) = l.take k ++ [x] := by
  rw [List.take_succ_eq_append_getElem hk, ← hx]; simp [List.getD, hk]
theorem shortA_snoc {l : List LedgerP.Act} {x : LedgerP.Act} {k : Nat} (hk : k < l.length) (hx : l.getD k ac0 = x) (h : shortA (l.take k) = true) (hq : fewOne x = true) : shortA (l.take (k + 1)) = true := by
  unfold shortA at h ⊢
  rw [take_snocA hk hx, List.all_append, h]; simp [hq]
theorem fewA_no {l : List LedgerP.Act} {x : LedgerP.Act} {k m : Nat} (hk : k < l.length) (hm : k < m) (hx : l.getD k ac0 = x) (hq : fewOne x = false) : fewA m l = false := by
  unfold fewA
  have hmem : x ∈ l.take m := by
    rw [List.mem_take_iff_getElem]
    exact ⟨k, by omega, by rw [← hx]; simp [List.getD, hk]⟩
  have : shortA (l.take m) = false := by
    cases hs : shortA (l.take m) with
    | false => rfl
    | true => unfold shortA at hs; rw [List.all_eq_true] at hs; rw [hs x hmem] at hq; cases hq
  rw [this]; rfl
theorem fewA_end {l : List LedgerP.Act} {k m : Nat} (hk : k = l.length ∧ k ≤ m ∨ k = m) (h : shortA (l.take k) = true) : fewA m l = decide (l.length ≤ m) := by
  unfold fewA
  have : shortA (l.take m) = true := by
    rcases hk with ⟨hk, hm⟩ | rfl
    · rw [List.take_of_length_le (by omega)]; rw [List.take_of_length_le (by omega)] at h; exact h
    · exact h
  rw [this]; rfl
theorem fewA_mem {m : Nat} {l : List LedgerP.Act} (h : fewA m l = true) (hs : SzMA l) : l.length ≤ m ∧ ∀ x ∈ l, x.ls.length ≤ 8 ∧ Sz x.ls ∧ x.sku.size ≤ 60 := by
  unfold fewA at h
  rw [Bool.and_eq_true, decide_eq_true_eq] at h
  refine ⟨h.2, fun x hx => ?_⟩
  have h1 := h.1
  rw [List.take_of_length_le h.2] at h1
  unfold shortA at h1
  have h2 := List.all_eq_true.1 h1 x hx
  unfold fewOne at h2
  rw [Bool.and_eq_true, decide_eq_true_eq] at h2
  have h3 := few_sz h2.1 (hs x hx).1
  exact ⟨h3.1, h3.2, h2.2⟩
set_option maxHeartbeats 2000000 in
theorem fewacts_any (a : Option Addr) (len cap : Nat) (l : List LedgerP.Act) (m : Nat) (w : World) (h : AsAt w a len l) (hs : SzMA l) (hm100 : m ≤ 100) :
    Calls Try.prog 5 #[.slice a len cap, .int .i64 (m : Int)] w fun e w' => e = .returned (.bool (fewA m l)) ∧ Below w.heap.size w w' := by
  have HX := Lib.hid h
  have HS := Lib.hid hs
  obtain ⟨v, hv⟩ : ∃ v, fewA m l = v := ⟨_, rfl⟩
  rw [hv]
  have HV := Lib.hid hv
  have hl := h.le
  clear hv h hs
  go_enter Try.func5, Try.ntmps5
  go_wp2_with fail
  go_loopw [5] (fun i wr => ∃ k : Nat, k ≤ len ∧ k ≤ m ∧ i = .int .i64 (k : Int) ∧ Hid (shortA (l.take k) = true) ∧ Hid (Below w.heap.size w wr)) (fun i _ => len - (intOf i).toNat)
  case atStart => exact ⟨0, Nat.zero_le _, Nat.zero_le _, rfl, Lib.hid rfl, Below.refl _ _⟩
  case round =>
    obtain ⟨k, hk, hkm, rfl, hF, hB⟩ := hrel
    by_cases hlk : k < len
    · by_cases hm : k < m
      · have hkx : k < l.length := by rw [HX.out.len]; exact hlk
        obtain ⟨b1, o1, kd, sg, q, s, la, lc, ls, rfl, g1, hp, hc1⟩ := HX.out.at hlk
        have hsz := HS.out _ (amem_getD hkx)
        rw [hp] at hsz
        have hss := hsz.2
        simp only at hss
        obtain ⟨_, _, _, d3, d4, dL⟩ := hc1 wr hB.out
        obtain ⟨n, hn⟩ : ∃ n, ls.length = n := ⟨_, rfl⟩
        rw [hn] at d4 dL
        have HC1 := Lib.hid hc1
        clear hn hc1
        cases hq : fewV ls with
        | false =>
          have C := Lib.hid (Holds.rfewL_is la n lc ls false hq wr dL hsz.1)
          have HNO : Hid (v = false) := by show v = _; rw [← HV.out]; exact fewA_no hkx hm hp (by unfold fewOne; rw [hq]; rfl)
          clear hkx hp hF dL hsz hq
          go_wp2_with fail
          refine C.out.mono ?_
          rintro e w1 ⟨rfl, hb⟩
          have HB1 := Lib.hid (below_keep hB.out hb hB.out.size)
          go_wp2_with fail
          go_ret
          exact ⟨ret_bool HNO.out, HB1.out⟩
        | true =>
          have C := Lib.hid (Holds.rfewL_is la n lc ls true hq wr dL hsz.1)
          by_cases h60 : s.size ≤ 60
          · have HF2 : Hid (shortA (l.take (k + 1)) = true) := shortA_snoc hkx hp hF.out (by unfold fewOne; rw [hq, decide_eq_true h60]; rfl)
            have h60' : ¬ ((s.size : Int) > 60) := by omega
            have h60'' : ¬ ((60 : Int) < (s.size : Int)) := by omega
            clear hkx hp hF dL hsz hq
            go_wp2_with fail
            refine C.out.mono ?_
            rintro e w1 ⟨rfl, hb⟩
            have HB1 := Lib.hid (below_keep hB.out hb hB.out.size)
            have d3' := (HC1.out w1 HB1.out).2.2.2.1
            go_wp2_with fail
            go_roundw
            case rel => exact ⟨k + 1, by omega, by omega, by go_num, HF2, HB1⟩
            case measure => simp [intOf]; omega
          · have HNO : Hid (v = false) := by show v = _; rw [← HV.out]; exact fewA_no hkx hm hp (by unfold fewOne; rw [decide_eq_false h60, Bool.and_false])
            have h60' : ((60 : Int) < (s.size : Int)) := by omega
            clear hkx hp hF dL hsz hq
            go_wp2_with fail
            refine C.out.mono ?_
            rintro e w1 ⟨rfl, hb⟩
            have HB1 := Lib.hid (below_keep hB.out hb hB.out.size)
            have d3' := (HC1.out w1 HB1.out).2.2.2.1
            go_wp2_with fail
            go_ret
            exact ⟨ret_bool HNO.out, HB1.out⟩
      · obtain rfl : k = m := by omega
        have HNO : Hid (v = false) := by
          show v = _
          rw [← HV.out, fewA_end (.inr rfl) hF.out, HX.out.len]
          exact decide_eq_false (by omega)
        have HD : Hid (false = decide (len ≤ k)) := (decide_eq_false (by omega)).symm
        go_wp2_with fail
        go_ret
        exact ⟨ret_bool (HNO.out.trans HD.out), hB.out⟩
    · obtain rfl : k = len := by omega
      have HE : Hid (v = true) := by show v = _; rw [← HV.out, fewA_end (.inl ⟨HX.out.len.symm, hkm⟩) hF.out, HX.out.len]; exact decide_eq_true hkm
      go_wp2_with fail
      go_ret
      exact ⟨ret_bool HE.out, hB.out⟩
/-! ### a book that is small -/
structure SzMB (b : Bk) : Prop where
  sk : ∀ x ∈ b.sk, x.nm.size ≤ 9223372036854775807
  hd : SzMH b.hd
end Go.Proofs.Ytjclkiabgemfpaa.Ledger

/-
  The contract of the laws' own awake: the chapter's example.
-/
set_option linter.unusedVariables false
set_option maxRecDepth 4000
namespace Go.Proofs.Ytjclkiabgemfpaa.Ledger
open Go.RowKit LinesP HoldsP LedgerP
open StockP (Sk sk0 fitS Fit fitS_iff fromV turnV moveV turn_fit)
open Go.Proofs.Ytjclkiabgemfpaa.Lines (LsAt Sz SzM ret_bool ret_int below_keep below_drewN owns_form owns_cell owns_below)
open Go.Proofs.Ytjclkiabgemfpaa.Holds (HsAt SzH SzMH hmf)

theorem eql_sku (s t : ByteArray) (x0 x1 x2 x3 x4 y0 y1 y2 y3 y4 : Int) (w : World) : (binOp .eql 49 (sv s x0 x1 x2 x3 x4) (sv t y0 y1 y2 y3 y4)).run Try.prog w = .ok (.bool (eqS ⟨s, x0, x1, x2, x3, x4⟩ ⟨t, y0, y1, y2, y3, y4⟩)) w := by
  have hS : Try.prog.underlying 49 = some (.struct (Try.prog.fieldsOf 49)) := by kernel_rfl
  have hp : Try.prog.stoodInHeld 49 = false := by kernel_rfl
  have u3 := Try.underlying3
  have u9 := Try.underlying9
  have a3 := Try.isAgg3
  have a9 := Try.isAgg9
  have z3 := Try.sizeOf3
  have z9 := Try.sizeOf9
  rw [run_eql_struct, show (10000 : Nat) = 9999 + 1 from rfl, run_equalIn_agg w 9999 49 _ _ hS hp]
  simp only [Program.fieldsOf, Try.underlying49]
  go_simp
  unfold eqS
  by_cases h0 : s.toList = t.toList
  · by_cases h1 : x0 = y0
    · by_cases h2 : x1 = y1
      · by_cases h3 : x2 = y2
        · by_cases h4 : x3 = y3
          · by_cases h5 : x4 = y4 <;> simp [h0, h1, h2, h3, h4, h5]
          · simp [h0, h1, h2, h3, h4]
        · simp [h0, h1, h2, h3]
      · simp [h0, h1, h2]
    · simp [h0, h1]
  · simp [h0]
theorem guard_eql (x y : Operand) (s t : ByteArray) (x0 x1 x2 x3 x4 y0 y1 y2 y3 y4 : Int) (w : World) : (eqGuard .eql 49 x y (sv s x0 x1 x2 x3 x4) (sv t y0 y1 y2 y3 y4)).run Try.prog w = .ok () w := run_eqGuard_agg w _ _ _ _ _ _ (by kernel_rfl)
def tea : ByteArray := ⟨#[116, 101, 97]⟩
def e1 : Bk × Int := restockB bk0 tea 5
def e2 : Bk × Int := heldB e1.1 1 [(tea, 3)] 0 1
def e3 : Bk × Int := dropB e2.1 1 3
def e4 : Bk × Int := sendB e3.1 [(tea, 3)]
def e5 : Bk × Int := heldB e1.1 1 [(tea, 6)] 0 1
theorem ex1 : e1.2 = 0 ∧ fitB e1.1 = true := by decide +kernel
theorem ex2 : e2.2 = 0 ∧ fitB e2.1 = true ∧ e2.1.hd.length = 1 := by decide +kernel
theorem ex3 : e3.2 = 0 ∧ fitB e3.1 = true ∧ e3.1.hd.length = 0 := by decide +kernel
theorem ex4 : e4.2 = 0 ∧ fitB e4.1 = true ∧ (findS tea e4.1.sk).map (fun x => (x.nm, x.hand, x.held, x.kept, x.sent, x.inn)) = some (tea, 2, 0, 0, 3, 5) := by decide +kernel
theorem ex5 : e5.2 = 6 := by decide +kernel
theorem ex6 : findS tea e4.1.sk = some ⟨tea, 2, 0, 0, 3, 5⟩ := by
  have h := ex4.2.2
  cases hq : findS tea e4.1.sk with
  | none => rw [hq] at h; cases h
  | some x =>
    rw [hq] at h
    simp only [Option.map_some, Option.some.injEq, Prod.mk.injEq] at h
    obtain ⟨h0, h1, h2, h3, h4, h5⟩ := h
    rw [show x = ⟨tea, 2, 0, 0, 3, 5⟩ from StockP.sk_ext h0 h1 h2 h3 h4 h5]
theorem sz_tea (n : Int) (h : 0 ≤ n ∧ n ≤ 10) : Sz [(tea, n)] := by
  intro x hx
  rw [List.mem_singleton.1 hx]
  exact ⟨by show tea.size ≤ 300; decide, by show -9223372036854775808 ≤ n; omega, by show n ≤ 9223372036854775807; omega⟩
theorem ls_tea (n : Int) (w : World) : LsAt (w.alloc (.cells #[.string tea, .int .i64 n] 53)) (some ⟨w.heap.size, 0, none⟩) 1 [(tea, n)] := by
  refine ⟨rfl, by omega, .inr ⟨w.heap.size, 0, rfl, by simp, fun i hi => ?_⟩⟩
  obtain rfl : i = 0 := by omega
  constructor
  · rw [World.cell?_alloc_new]; rfl
  · rw [World.cell?_alloc_new]; rfl
structure Bx2 (w w' : World) (k : Nat) (a : Option Addr) (n c : Nat) (a2 : Option Addr) (n2 c2 : Nat) (b : Bk) : Prop where
  bel : Below w.heap.size w w'
  box : At2 w' k (.slice a n c) (.slice a2 n2 c2)
  bk : BkAt w' a n a2 n2 c2 b
theorem Bx2.keep {w w' w2 : World} {k : Nat} {a : Option Addr} {n c : Nat} {a2 : Option Addr} {n2 c2 : Nat} {b : Bk} (h : Bx2 w w' k a n c a2 n2 c2 b) (hb : Below w'.heap.size w' w2) : Bx2 w w2 k a n c a2 n2 c2 b :=
  ⟨h.bel.trans (hb.mono h.bel.size), (hb.block k (heap_lt h.box)).trans h.box, h.bk.keep hb⟩
theorem bx2_new {w w' : World} {a : Option Addr} {n c : Nat} {a2 : Option Addr} {n2 c2 : Nat} {b : Bk} (hb : Below w.heap.size w w') (h : BkAt w' a n a2 n2 c2 b) : Bx2 w (w'.alloc (.cells #[.slice a n c, .slice a2 n2 c2] 28)) w'.heap.size a n c a2 n2 c2 b :=
  ⟨hb.alloc hb.size _, heap_alloc_new w' _, h.keep ((Below.refl _ w').alloc (Nat.le_refl _) _)⟩
theorem bx2_after {w w1 w2 : World} {k : Nat} {a : Option Addr} {n c : Nat} {a2 : Option Addr} {n2 c2 : Nat} {b : Bk} (h : Bx2 w w1 k a n c a2 n2 c2 b) (hb : Below w1.heap.size w1 w2) (o : Obj) : Bx2 w (w2.alloc o) k a n c a2 n2 c2 b :=
  h.keep (Lines.below_keep hb ((Below.refl _ w2).alloc (Nat.le_refl _) o) hb.size)
def BookE (w : World) (b : Bk) (er : Int) (e : Ending) (w' : World) : Prop :=
  ∃ a n c a2 n2 c2, e = .returned (.tuple #[.agg #[.slice a n c, .slice a2 n2 c2], .int .i64 er]) ∧ BkAt w' a n a2 n2 c2 b ∧ Below w.heap.size w w'
theorem book_e {w : World} {b : Bk} {er : Int} {r : Bk × Int} {f : FuncId} {args : Array Value} (hr : r = (b, er)) (h : Calls Try.prog f args w (BookR w r)) : Calls Try.prog f args w (BookE w b er) := by
  subst hr; exact h
set_option maxHeartbeats 4000000 in
theorem awake_any (w : World) : Calls Try.prog 6 #[] w fun e w' => e = .returned (.bool true) ∧ Below w.heap.size w w' := by
  have hb0 : Below w.heap.size w (w.alloc (.cells #[.string tea, .int .i64 3] 53)) := (Below.refl _ w).alloc (Nat.le_refl _) _
  have C1 := Lib.hid (restock_any none 0 0 none 0 0 bk0 tea 5 (w.alloc (.cells #[.string tea, .int .i64 3] 53)) ⟨SkAt.nil _ _, HsAt.nil _ _, Nat.le_refl _⟩ (fit_szb (by decide +kernel)) (by decide))
  have H0 := Lib.hid hb0
  have HL := Lib.hid (ls_tea 3 w)
  have HE1 : Hid (restockB bk0 tea 5 = (e1.1, 0)) := by show restockB bk0 tea 5 = _; rw [← ex1.1]; rfl
  have HE2 : Hid (heldB e1.1 1 [(tea, 3)] 0 1 = (e2.1, 0)) := by show heldB e1.1 1 [(tea, 3)] 0 1 = _; rw [← ex2.1]; rfl
  have HE3 : Hid (dropB e2.1 1 3 = (e3.1, 0)) := by show dropB e2.1 1 3 = _; rw [← ex3.1]; rfl
  have HE4 : Hid (sendB e3.1 [(tea, 3)] = (e4.1, 0)) := by show sendB e3.1 [(tea, 3)] = _; rw [← ex4.1]; rfl
  have HE5 : Hid (heldB e1.1 1 [(tea, 6)] 0 1 = (e5.1, 6)) := by show heldB e1.1 1 [(tea, 6)] 0 1 = _; rw [← ex5]; rfl
  have S1 := Lib.hid (fit_szb ex1.2); have S2 := Lib.hid (fit_szb ex2.2.1); have S3 := Lib.hid (fit_szb ex3.2.1); have S4 := Lib.hid (fit_szb ex4.2.1)
  have L2 := Lib.hid ex2.2.2; have L3 := Lib.hid ex3.2.2; have X6 := Lib.hid ex6
  have HNE := Lib.hid (fun w => eql_sku tea tea 2 0 0 3 5 2 0 0 3 5 w)
  have hgd := fun x y w => guard_eql x y tea tea 2 0 0 3 5 2 0 0 3 5 w
  have hT : Hid (tea = ⟨#[116, 101, 97]⟩) := rfl
  have Z3 := Lib.hid (sz_tea 3 (by decide)); have Z6 := Lib.hid (sz_tea 6 (by decide))
  have L6 := Lib.hid (fun w => ls_tea 6 w)
  generalize e5.1 = b5 at HE5
  generalize e4.1 = b4 at HE4 S4 X6
  generalize e3.1 = b3 at HE3 HE4 S3 L3
  generalize e2.1 = b2 at HE2 HE3 S2 L2
  generalize e1.1 = b1 at HE1 HE2 HE5 S1
  clear hb0
  have C1 := Lib.hid (book_e HE1.out C1.out)
  unfold sv at HNE hgd
  rw [show eqS ⟨tea, 2, 0, 0, 3, 5⟩ ⟨tea, 2, 0, 0, 3, 5⟩ = true from eqS_iff.2 rfl] at HNE
  have hneq := HNE.out
  generalize htt : tea = tt at *
  have htt2 : (⟨#[116, 101, 97]⟩ : ByteArray) = tt := htt
  have HTT2 := Lib.hid htt2
  go_enter Try.func6, Try.ntmps6
  rw [htt2]
  clear htt htt2 HNE
  go_wp2_with fail
  refine C1.out.mono ?_
  rintro e w1 ⟨a1, n1, c1, p1, m1, d1, rfl, hbk, hb⟩
  have B1 := Lib.hid (bx2_new (c := c1) (Lines.below_keep H0.out hb H0.out.size) hbk)
  have HL1 := Lib.hid ((HL.out.keep hb).keep ((Below.refl _ w1).alloc (Nat.le_refl _) (.cells #[.slice a1 n1 c1, .slice p1 m1 d1] 28)))
  clear hbk hb
  have C2 := Lib.hid (book_e HE2.out (hold_any a1 n1 c1 p1 m1 d1 b1 1 0 _ 1 1 [(tt, 3)] _ B1.out.bk S1.out HL1.out Z3.out (by decide)))
  obtain ⟨q0, q1⟩ := cells2 B1.out.box
  go_wp2_with fail
  refine C2.out.mono ?_
  rintro e w2 ⟨a2, n2, c2, p2, m2, d2, rfl, hbk, hb⟩
  have B2 := Lib.hid (bx2_new (c := c2) (Lines.below_keep B1.out.bel hb B1.out.bel.size) hbk)
  have B12 := Lib.hid (bx2_after B1.out hb (.cells #[.slice a2 n2 c2, .slice p2 m2 d2] 28))
  have HL2 := Lib.hid ((HL1.out.keep hb).keep ((Below.refl _ w2).alloc (Nat.le_refl _) (.cells #[.slice a2 n2 c2, .slice p2 m2 d2] 28)))
  have hm2 : p2 = p2 ∧ m2 = 1 := ⟨rfl, by rw [← hbk.hd.len]; exact L2.out⟩
  obtain ⟨_, rfl⟩ := hm2
  clear hbk hb q0 q1
  have C3 := Lib.hid (book_e HE3.out (keep_any a2 n2 c2 p2 1 d2 b2 1 _ B2.out.bk S2.out))
  obtain ⟨q0, q1⟩ := cells2 B2.out.box
  go_wp2_with fail
  refine C3.out.mono ?_
  rintro e w3 ⟨a3, n3, c3, p3, m3, d3, rfl, hbk, hb⟩
  have B3 := Lib.hid (bx2_new (c := c3) (Lines.below_keep B2.out.bel hb B2.out.bel.size) hbk)
  have B13 := Lib.hid (bx2_after B12.out hb (.cells #[.slice a3 n3 c3, .slice p3 m3 d3] 28))
  have B23 := Lib.hid (bx2_after B2.out hb (.cells #[.slice a3 n3 c3, .slice p3 m3 d3] 28))
  have HL3 := Lib.hid ((HL2.out.keep hb).keep ((Below.refl _ w3).alloc (Nat.le_refl _) (.cells #[.slice a3 n3 c3, .slice p3 m3 d3] 28)))
  have hm3 : p3 = p3 ∧ m3 = 0 := ⟨rfl, by rw [← hbk.hd.len]; exact L3.out⟩
  obtain ⟨_, rfl⟩ := hm3
  clear hbk hb q0 q1
  have C4 := Lib.hid (book_e HE4.out (send_any a3 n3 c3 p3 0 d3 b3 _ 1 1 [(tt, 3)] _ B3.out.bk S3.out HL3.out Z3.out (by decide)))
  obtain ⟨q0, q1⟩ := cells2 B3.out.box
  go_wp2_with fail
  refine C4.out.mono ?_
  rintro e w4 ⟨a4, n4, c4, p4, m4, d4, rfl, hbk, hb⟩
  have B4 := Lib.hid (bx2_new (c := c4) (Lines.below_keep B3.out.bel hb B3.out.bel.size) hbk)
  have B14 := Lib.hid (bx2_after B13.out hb (.cells #[.slice a4 n4 c4, .slice p4 m4 d4] 28))
  have B24 := Lib.hid (bx2_after B23.out hb (.cells #[.slice a4 n4 c4, .slice p4 m4 d4] 28))
  have B34 := Lib.hid (bx2_after B3.out hb (.cells #[.slice a4 n4 c4, .slice p4 m4 d4] 28))
  clear hbk hb q0 q1
  have hw4 := L6.out (w4.alloc (.cells #[.slice a4 n4 c4, .slice p4 m4 d4] 28))
  rw [World.size_alloc] at hw4
  have HW4 := Lib.hid hw4
  clear hw4
  have hal := (Below.refl _ (w4.alloc (.cells #[.slice a4 n4 c4, .slice p4 m4 d4] 28))).alloc (Nat.le_refl _) (.cells #[.string tt, .int .i64 6] 53)
  have D1 := Lib.hid (B14.out.keep hal); have D2 := Lib.hid (B24.out.keep hal); have D3 := Lib.hid (B34.out.keep hal); have D4 := Lib.hid (B4.out.keep hal)
  clear hal
  have C5 := Lib.hid (book_e HE5.out (hold_any a1 n1 c1 p1 m1 d1 b1 1 0 _ 1 1 [(tt, 6)] _ D1.out.bk S1.out HW4.out Z6.out (by decide)))
  obtain ⟨q0, q1⟩ := cells2 B14.out.box
  go_wp2_with fail
  refine C5.out.mono ?_
  rintro e w5 ⟨a5, n5, c5, p5, m5, d5, rfl, hbk, hb⟩
  have F2 := Lib.hid (bx2_after D2.out hb (.cells #[.slice a5 n5 c5, .slice p5 m5 d5] 28))
  have F3 := Lib.hid (bx2_after D3.out hb (.cells #[.slice a5 n5 c5, .slice p5 m5 d5] 28))
  have F4 := Lib.hid (bx2_after D4.out hb (.cells #[.slice a5 n5 c5, .slice p5 m5 d5] 28))
  clear hbk hb q0 q1
  have C6 := Lib.hid (find_any a4 n4 c4 p4 m4 d4 b4 tt _ X6.out _ F4.out.bk.sk)
  obtain ⟨q0, q1⟩ := cells2 F4.out.box
  unfold skV getS at C6
  go_wp2_with fail
  refine C6.out.mono ?_
  rintro e w6 ⟨rfl, hb⟩
  have G2 := Lib.hid (bx2_after F2.out hb (.cells #[.string tt, .int .i64 2, .int .i64 0, .int .i64 0, .int .i64 3, .int .i64 5] 49))
  have G3 := Lib.hid (bx2_after F3.out hb (.cells #[.string tt, .int .i64 2, .int .i64 0, .int .i64 0, .int .i64 3, .int .i64 5] 49))
  clear hb q0 q1
  simp only [Option.getD_some, Option.isSome_some]
  obtain ⟨u0, u1⟩ := cells2 G2.out.box
  obtain ⟨v0, v1⟩ := cells2 G3.out.box
  go_wp2_with fail
  go_ret
  exact ⟨rfl, G3.out.bel⟩
end Go.Proofs.Ytjclkiabgemfpaa.Ledger

/-
  LedgerBack: it returns true for any book, any lines; what was there stays as it was.
-/
set_option linter.unusedVariables false
set_option maxRecDepth 4000
namespace Go.Proofs.Ytjclkiabgemfpaa.Ledger
open Go.RowKit LinesP HoldsP LedgerP
open StockP (Sk sk0 fitS Fit fitS_iff fromV turnV moveV turn_fit)
open Go.Proofs.Ytjclkiabgemfpaa.Lines (LsAt Sz SzM ret_bool ret_int below_keep below_drewN fewV few_sz)
open Go.Proofs.Ytjclkiabgemfpaa.Holds (HsAt SzH SzMH hmf)

structure BxR (w w' : World) (k : Nat) (a : Option Addr) (n c : Nat) (a2 : Option Addr) (n2 c2 : Nat) (b : Bk) : Prop where
  bel : Below w.heap.size w w'
  box : w'.heap[k]? = some (.cells #[.slice a n c, .slice a2 n2 c2] 40 (0, 0))
  bk : BkAt w' a n a2 n2 c2 b
theorem BxR.cells {w w' : World} {k : Nat} {a : Option Addr} {n c : Nat} {a2 : Option Addr} {n2 c2 : Nat} {b : Bk} (h : BxR w w' k a n c a2 n2 c2 b) : w'.cell? ⟨k, 0, none⟩ = some (.slice a n c) ∧ w'.cell? ⟨k, 1, none⟩ = some (.slice a2 n2 c2) := by
  refine ⟨?_, ?_⟩ <;> (rw [cell_of_heap h.box]; rfl)
end Go.Proofs.Ytjclkiabgemfpaa.Ledger

/-
  The contract of the law's own balanced: a fit book, of each item what came in; what was there stays as it was.
-/
set_option linter.unusedVariables false
set_option maxRecDepth 4000
namespace Go.Proofs.Ytjclkiabgemfpaa.Ledger
open Go.RowKit LinesP HoldsP LedgerP
open StockP (Sk sk0 fitS Fit fitS_iff fromV turnV moveV turn_fit)
open Go.Proofs.Ytjclkiabgemfpaa.Lines (LsAt Sz SzM ret_bool ret_int below_keep below_drewN owns_form owns_cell owns_below)
open Go.Proofs.Ytjclkiabgemfpaa.Holds (HsAt SzH SzMH hmf sumH_take sumH_step)

theorem min4 {P : Program} {a b c d : Int} (ha : 0 ≤ a) (hb : 0 ≤ b) (hc : 0 ≤ c) (hd : 0 ≤ d) : ∃ m : Int, 0 ≤ m ∧ ∀ ts t w, (Builtin.min_ ts t #[.int .i64 a, .int .i64 b, .int .i64 c, .int .i64 d]).run P w = .ok (.int .i64 m) w := by
  refine ⟨if d < (if c < (if b < a then b else a) then c else (if b < a then b else a)) then d else (if c < (if b < a then b else a) then c else (if b < a then b else a)), ?_, fun _ _ _ => by simp [Builtin.min_, Builtin.min2]⟩
  repeat' split
  all_goals omega
def StA (w : World) (a : Option Addr) (n : Nat) (l : List ByteArray) : Prop :=
  l.length = n ∧ n ≤ 1000 ∧ (n = 0 ∨ ∃ b off, a = some ⟨b, off, none⟩ ∧ b < w.heap.size ∧ ∀ i, i < n → w.cell? ⟨b, off + i, none⟩ = some (.string (l.getD i ByteArray.empty)))
def InA (w : World) (a : Option Addr) (n : Nat) (l : List Int) : Prop :=
  l.length = n ∧ n ≤ 1000 ∧ (n = 0 ∨ ∃ b off, a = some ⟨b, off, none⟩ ∧ b < w.heap.size ∧ ∀ i, i < n → w.cell? ⟨b, off + i, none⟩ = some (.int .i64 (l.getD i 0)))
theorem StA.keep {w w' : World} {a : Option Addr} {n : Nat} {l : List ByteArray} (h : StA w a n l) (hb : Below w.heap.size w w') : StA w' a n l :=
  ⟨h.1, h.2.1, h.2.2.imp id (fun ⟨b, off, e, hlt, hc⟩ => ⟨b, off, e, by have := hb.size; omega, fun i hi => (hb.cell (p := ⟨b, off + i, none⟩) hlt).trans (hc i hi)⟩)⟩
theorem InA.keep {w w' : World} {a : Option Addr} {n : Nat} {l : List Int} (h : InA w a n l) (hb : Below w.heap.size w w') : InA w' a n l :=
  ⟨h.1, h.2.1, h.2.2.imp id (fun ⟨b, off, e, hlt, hc⟩ => ⟨b, off, e, by have := hb.size; omega, fun i hi => (hb.cell (p := ⟨b, off + i, none⟩) hlt).trans (hc i hi)⟩)⟩
abbrev Cm := List (ByteArray × Int)
def cameP (u : ByteArray) : Cm → Int
  | [] => 0
  | x :: r => (if x.1 = u then x.2 else 0) + cameP u r
theorem came_append (u : ByteArray) : ∀ (a b : Cm), cameP u (a ++ b) = cameP u a + cameP u b
  | [], b => by show cameP u b = 0 + cameP u b; omega
  | x :: r, b => by rw [List.cons_append, cameP, cameP, came_append u r b]; omega
theorem came_take {u : ByteArray} {ps : Cm} {k : Nat} {x : ByteArray × Int} (hk : k < ps.length) (hx : ps.getD k (ByteArray.empty, 0) = x) : cameP u (ps.take (k + 1)) = cameP u (ps.take k) + if x.1 = u then x.2 else 0 := by
  have e : ps.take (k + 1) = ps.take k ++ [x] := by rw [List.take_succ_eq_append_getElem hk, ← hx]; simp [List.getD, hk]
  rw [e, came_append]
  congr 1
  show (if x.1 = u then x.2 else 0) + 0 = _
  omega
def BdP (ps : Cm) : Prop := ∀ x ∈ ps, -1099511627776 ≤ x.2 ∧ x.2 ≤ 1099511627776
theorem came_bound {u : ByteArray} : ∀ {ps : Cm}, BdP ps → -(ps.length * 1099511627776 : Int) ≤ cameP u ps ∧ cameP u ps ≤ ps.length * 1099511627776
  | [], _ => ⟨by simp [cameP], by simp [cameP]⟩
  | x :: r, h => by
    have h1 := h x List.mem_cons_self
    have h2 := came_bound (u := u) (ps := r) fun y hy => h y (List.mem_cons_of_mem _ hy)
    rw [cameP, List.length_cons]
    push_cast
    split <;> omega
set_option maxHeartbeats 8000000 in
theorem balanced_any (a : Option Addr) (len cap : Nat) (a2 : Option Addr) (len2 cap2 : Nat) (b : Bk) (na : Option Addr) (np nc : Nat) (ia : Option Addr) (ic : Nat) (ps : Cm) (w : World)
    (h : BkAt w a len a2 len2 cap2 b) (k : FitB b) (hn : StA w na np (ps.map (·.1))) (hi : InA w ia np (ps.map (·.2))) (hbd : BdP ps) (h30 : np ≤ 30) (hin : ∀ x ∈ b.sk, x.inn = cameP x.nm ps) :
    Calls Try.prog 9 #[.agg #[.slice a len cap, .slice a2 len2 cap2], .slice na np nc, .slice ia np ic] w fun e w' => e = .returned (.bool true) ∧ Below w.heap.size w w' := by
  have HN0 := bb_new w a len cap a2 len2 cap2
  obtain ⟨w0, hw0⟩ : ∃ w0, bbox w a len cap a2 len2 cap2 = w0 := ⟨_, rfl⟩
  rw [hw0] at HN0
  have HW := Lib.hid (show w.alloc (.cells #[.slice a len cap, .slice a2 len2 cap2] 28) = w0 from hw0)
  have HN := Lib.hid HN0
  have HX := Lib.hid h
  have HK := Lib.hid k
  have HNM := Lib.hid hn
  have HIN := Lib.hid hi
  have HBD := Lib.hid hbd
  have HEQ := Lib.hid hin
  have hl12 : len ≤ 12 := by rw [← h.sk.1]; exact k.len
  have hl16 : len2 ≤ 16 := by rw [← h.hd.len]; exact (fitH_iff.1 k.hd).1
  have hpl : ps.length = np := by have := hn.1; simpa using this
  have HPL := Lib.hid hpl
  clear HN0 hw0 h k hn hi hbd hin hpl
  go_enter Try.func9, Try.ntmps9
  go_wp2_with fail
  rw [show w.alloc (.cells #[.slice a len cap, .slice a2 len2 cap2] 28) = w0 from HW.out]
  go_wp2_with fail
  go_loopw [7] (fun i wr => ∃ q : Nat, q ≤ len ∧ i = .int .i64 (q : Int) ∧ Hid (BB w wr a len cap a2 len2 cap2)) (fun i _ => len - (intOf i).toNat)
  case atStart => exact ⟨0, Nat.zero_le _, rfl, HN⟩
  case round =>
    obtain ⟨q, hq, rfl, hB⟩ := hrel
    have b0 := hB.out.c0
    by_cases hql : q < len
    · have hqx : q < b.sk.length := by rw [HX.out.sk.1]; exact hql
      obtain ⟨b1, o1, s, x0, x1, x2, x3, x4, rfl, g1, hp, hc1⟩ := HX.out.sk.at hql
      have hmem : (⟨s, x0, x1, x2, x3, x4⟩ : Sk) ∈ b.sk := by rw [← hp]; exact smem_getD hqx
      obtain ⟨f1, f2, f3, f4, f5, f6, f7⟩ := bal_item HK.out _ hmem
      have hfit := (HK.out.each _ hmem).1
      have hinn := HEQ.out _ hmem
      simp only at f2 f3 f4 f5 f6 f7 hinn
      have hmost := hfit.most
      simp only at hmost
      obtain ⟨d0, d1, d2, d3, d4, d5⟩ := hc1 wr hB.out.bel
      have hnew := bx_new wr (.string s) (.int .i64 x0) (.int .i64 x1) (.int .i64 x2) (.int .i64 x3) (.int .i64 x4)
      obtain ⟨W, hW⟩ : ∃ W, wr.alloc (.cells #[.string s, .int .i64 x0, .int .i64 x1, .int .i64 x2, .int .i64 x3, .int .i64 x4] 49) = W := ⟨_, rfl⟩
      rw [hW] at hnew
      have HWW := Lib.hid hW
      have HBW := Lib.hid (hB.out.keep hnew.bel)
      have HSB : Hid (At6 W wr.heap.size (.string s) (.int .i64 x0) (.int .i64 x1) (.int .i64 x2) (.int .i64 x3) (.int .i64 x4)) := hnew.box
      have HHD := Lib.hid f7
      have HIE := Lib.hid hinn
      obtain ⟨kb, hkb⟩ : ∃ kb, wr.heap.size = kb := ⟨_, rfl⟩
      rw [hkb] at HSB
      have HKB := Lib.hid hkb
      clear hqx hp hc1 hmem hfit f1 hinn hW hnew f7 hkb
      go_wp2_with fail
      rw [show wr.alloc (.cells #[.string s, .int .i64 x0, .int .i64 x1, .int .i64 x2, .int .i64 x3, .int .i64 x4] 49) = W from HWW.out, HKB.out]
      clear d0 d1 d2 d3 d4 d5 b0
      go_wp2_with fail
      go_loopw [9, 11] (fun v i wr2 => ∃ m : Nat, m ≤ np ∧ v = .int .i64 (cameP s (ps.take m)) ∧ i = .int .i64 (m : Int) ∧ Hid (BB w wr2 (some ⟨b1, o1, none⟩) len cap a2 len2 cap2) ∧ Hid (At6 wr2 kb (.string s) (.int .i64 x0) (.int .i64 x1) (.int .i64 x2) (.int .i64 x3) (.int .i64 x4))) (fun _ i _ => np - (intOf i).toNat)
      case atStart => exact ⟨0, Nat.zero_le _, rfl, rfl, HBW, HSB⟩
      case round =>
        obtain ⟨m, hm, rfl, rfl, hB2, hS2⟩ := hrel
        by_cases hmn : m < np
        · have hmx : m < ps.length := by rw [HPL.out]; exact hmn
          rcases (HNM.out.keep hB2.out.bel).2.2 with h0 | ⟨b3, o3, rfl, g3, hc3⟩
          · omega
          rcases (HIN.out.keep hB2.out.bel).2.2 with h0 | ⟨b4, o4, rfl, g4, hc4⟩
          · omega
          obtain ⟨⟨t, v⟩, hz⟩ : ∃ z, ps.getD m (ByteArray.empty, 0) = z := ⟨_, rfl⟩
          have hzg : ps[m]? = some (t, v) := by rw [← hz]; simp [List.getD, hmx]
          have y1 := hc3 m hmn
          have y2 := hc4 m hmn
          have e1 : (ps.map (·.1)).getD m ByteArray.empty = t := by simp [List.getD, hzg]
          have e2 : (ps.map (·.2)).getD m 0 = v := by simp [List.getD, hzg]
          rw [e1] at y1
          rw [e2] at y2
          have hvb := HBD.out _ (List.mem_of_getElem? hzg)
          simp only at hvb
          have hct := came_take (u := s) hmx hz
          have hcb := came_bound (u := s) (ps := ps.take m) (fun y hy => HBD.out y (List.mem_of_mem_take hy))
          have hlt : (ps.take m).length = m := by rw [List.length_take]; omega
          rw [hlt] at hcb
          obtain ⟨acc, hacc⟩ : ∃ acc, cameP s (ps.take m) = acc := ⟨_, rfl⟩
          rw [hacc] at hct hcb
          have HACC := Lib.hid hacc
          obtain ⟨c0, _, _, _, _, _⟩ := cells6 hS2.out
          clear hc3 hc4 e1 e2 hzg hz hmx hlt
          by_cases hts : t = s
          · have hcmp : (t.toList == s.toList) = true := same_iff.2 hts
            simp only [hts, if_true] at hct
            have HCT := Lib.hid hct
            have hwrap : IntKind.i64.wrap (acc + v) = acc + v := by rw [IntKind.wrap_i64]; omega
            clear hct hts
            rw [hacc]
            clear hacc
            go_wp2_with fail
            go_quiet (fail)
            go_wp2_with fail
            go_roundw
            case rel => exact ⟨m + 1, by omega, by rw [HCT.out], by go_num, ⟨below_drewN hB2.out.bel _, hB2.out.lt, hB2.out.c0, hB2.out.c1⟩, hS2.out⟩
            case measure => simp [intOf]; omega
          · have hcmp : (t.toList == s.toList) = false := by
              cases hh : (t.toList == s.toList) with
              | false => rfl
              | true => exact absurd (same_iff.1 hh) hts
            simp only [hts, if_false, Int.add_zero] at hct
            have HCT := Lib.hid hct
            clear hct hts
            rw [hacc]
            clear hacc
            go_wp2_with fail
            go_quiet (fail)
            go_wp2_with fail
            go_roundw
            case rel => exact ⟨m + 1, by omega, by rw [HCT.out], by go_num, ⟨below_drewN hB2.out.bel _, hB2.out.lt, hB2.out.c0, hB2.out.c1⟩, hS2.out⟩
            case measure => simp [intOf]; omega
        · obtain rfl : m = np := by omega
          have hfin : cameP s (ps.take m) = x4 := by rw [List.take_of_length_le (by rw [HPL.out]; exact Nat.le_refl _)]; exact HIE.out.symm
          rw [hfin]
          clear hfin
          go_wp2_with fail
          go_loopw [10, 12] (fun v i wr3 => ∃ m : Nat, m ≤ len2 ∧ v = .int .i64 (sumH s (b.hd.take m)) ∧ i = .int .i64 (m : Int) ∧ Hid (BB w wr3 (some ⟨b1, o1, none⟩) len cap a2 len2 cap2) ∧ Hid (At6 wr3 kb (.string s) (.int .i64 x0) (.int .i64 x1) (.int .i64 x2) (.int .i64 x3) (.int .i64 x4))) (fun _ i _ => len2 - (intOf i).toNat)
          case atStart => exact ⟨0, Nat.zero_le _, rfl, rfl, hB2, hS2⟩
          case round =>
            obtain ⟨r, hr, rfl, rfl, hB3, hS3⟩ := hrel
            obtain ⟨c0, c1, c2, c3, c4, c5⟩ := cells6 hS3.out
            have b1' := hB3.out.c1
            by_cases hrl : r < len2
            · have hrx : r < b.hd.length := by rw [HX.out.hd.len]; exact hrl
              obtain ⟨b5, o5, sg, la, lc, ls, t, rfl, g5, hp, hc5⟩ := HX.out.hd.at hrl
              obtain ⟨e1, e2, e3, dL⟩ := hc5 wr.drew (below_drewN hB3.out.bel 1)
              have hone := (fitH_iff.1 HK.out.hd).2.1 _ (Holds.mem_getD hrx)
              rw [hp] at hone
              have hob := Holds.ofL_fit (s := s) (oneH_fit hone.1)
              have hsb := sumH_take (s := s) HK.out.hd r
              have hst := sumH_step (s := s) hrx hp
              obtain ⟨n, hn2⟩ : ∃ n, ls.length = n := ⟨_, rfl⟩
              rw [hn2] at e2 dL
              have C := Lib.hid (Holds.rof_is la n lc ls s _ rfl wr.drew dL)
              simp only at hob hst
              obtain ⟨ov, hov⟩ : ∃ ov, ofL s ls = ov := ⟨_, rfl⟩
              obtain ⟨acc, hacc⟩ : ∃ acc, sumH s (b.hd.take r) = acc := ⟨_, rfl⟩
              rw [hov] at C hob hst
              rw [hacc] at hsb hst ⊢
              have HST := Lib.hid hst
              have hwrap : IntKind.i64.wrap (acc + ov) = acc + ov := by rw [IntKind.wrap_i64]; omega
              clear hc5 hrx hp hone hst hn2 hov hacc dL
              go_wp2_with fail
              have S0 : Hid (∀ w', Below wr.heap.size wr w' → w'.cell? ⟨w.heap.size, 1, none⟩ = some (.slice (some ⟨b5, o5, none⟩) len2 cap2) ∧ w'.cell? ⟨b5, o5 + r * 3 + 1, none⟩ = some (.slice la n lc) ∧ w'.cell? ⟨kb, 0, none⟩ = some (.string s)) := by
                intro w' hb
                refine ⟨(hB3.out.keep hb).c1, ?_, (cells6 (hS3.out.keep hb)).1⟩
                have hlt : b5 < wr.heap.size := Nat.lt_of_lt_of_le g5 hB3.out.bel.size
                exact (hb.cell (p := ⟨b5, o5 + r * 3 + 1, none⟩) hlt).trans e2
              have bb0 : Below wr.heap.size wr wr.drew := (Below.refl _ wr).drew
              have k0 := S0.out _ bb0
              go_region_held3 (fun w' => w'.cell? ⟨w.heap.size, 1, none⟩ = some (.slice (some ⟨b5, o5, none⟩) len2 cap2) ∧ w'.cell? ⟨b5, o5 + r * 3 + 1, none⟩ = some (.slice la n lc) ∧ w'.cell? ⟨kb, 0, none⟩ = some (.string s))
                (first | with_reducible exact k0 | with_reducible exact k4)
                (first
                  | (go_at_call 25; (with_reducible refine (C.out).mono ?_); rintro e w4 ⟨rfl, hb4⟩; have b4 := Lines.below_keep bb0 hb4 bb0.size; have k4 := S0.out _ b4))
              have HB4 := Lib.hid (hB3.out.keep b4)
              have HS4 := Lib.hid (hS3.out.keep b4)
              clear k0 k4 b4 hb4 bb0 c0 c1 c2 c3 c4 c5 b1' e1 e2 e3
              go_wp2_with fail
              go_roundw
              case rel => exact ⟨r + 1, by omega, by rw [HST.out], by go_num, HB4, HS4⟩
              case measure => simp [intOf]; omega
            · obtain rfl : r = len2 := by omega
              have hfin : sumH s (b.hd.take r) = x1 := by rw [List.take_of_length_le (by rw [HX.out.hd.len]; exact Nat.le_refl _)]; exact HHD.out.symm
              rw [hfin]
              obtain ⟨mm, hm0, hmin⟩ := min4 (P := Try.prog) f3 f4 f5 f6
              have hw1 : IntKind.i64.wrap (x0 + x1) = x0 + x1 := by rw [IntKind.wrap_i64]; omega
              have hw2 : IntKind.i64.wrap (x0 + x1 + x2) = x0 + x1 + x2 := by rw [IntKind.wrap_i64]; omega
              have hw3 : IntKind.i64.wrap (x0 + x1 + x2 + x3) = x4 := by rw [IntKind.wrap_i64]; omega
              have hmm : ¬ (mm < 0) := by omega
              have HQ := hB3.out
              have HF2 := Lib.hid f2
              clear hfin f2 hm0
              go_wp2_with fail
              go_roundw
              case rel => exact ⟨q + 1, by omega, by go_num, hB3⟩
              case measure => simp [intOf]; omega
    · obtain rfl : q = len := by omega
      go_wp2_with fail
      go_ret
      exact ⟨rfl, hB.out.bel⟩
end Go.Proofs.Ytjclkiabgemfpaa.Ledger

/-
  Rows that grow in place, of one kind of cells: append keeps the kind; a book stays as it was when such a row grows, for its rows lie elsewhere.
-/
set_option linter.unusedVariables false
set_option maxRecDepth 4000
namespace Go.Proofs.Ytjclkiabgemfpaa.Ledger
open Go.RowKit LinesP HoldsP LedgerP
open StockP (Sk sk0)
open Go.Proofs.Ytjclkiabgemfpaa.Lines (LsAt)
open Go.Proofs.Ytjclkiabgemfpaa.Holds (HsAt Hz hz0)

def AllK (K : Value → Prop) (w : World) (v : Value) : Prop := ∀ g, v.ownBlock = some g → ∃ cur e, w.heap[g]? = some (.cells cur e (0, 0)) ∧ ∀ u ∈ cur.toList, K u
theorem AllK.nil (K : Value → Prop) (w : World) : AllK K w (.slice none 0 0) := fun g h => by cases h
theorem AllK.keep {K : Value → Prop} {w w' : World} {v : Value} (h : AllK K w v) (hb : Below w.heap.size w w') : AllK K w' v := fun g hg => by
  obtain ⟨cur, e, h1, h2⟩ := h g hg
  exact ⟨cur, e, (hb.block g (heap_lt h1)).trans h1, h2⟩
theorem AllK.cell {K : Value → Prop} {w : World} {v : Value} (h : AllK K w v) {g o : Nat} (hg : v.ownBlock = some g) {u : Value} (hc : w.cell? ⟨g, o, none⟩ = some u) : K u := by
  obtain ⟨cur, e, h1, h2⟩ := h g hg
  rw [cell_of_heap h1] at hc
  exact h2 u (Array.mem_toList_iff.2 (Array.mem_of_getElem? hc))
theorem AllK.off {K : Value → Prop} {w : World} {v : Value} (h : AllK K w v) {b o : Nat} {u : Value} (hc : w.cell? ⟨b, o, none⟩ = some u) (hn : ¬ K u) : some b ≠ v.ownBlock := fun e => hn (h.cell e.symm hc)
theorem AllK.grown {K : Value → Prop} {w w' : World} {v : Value} {row : Option Nat} (h : AllK K w v) (hg : w.grownBy w' row) (hne : ∀ g, v.ownBlock = some g → some g ≠ row) : AllK K w' v := fun g hv => by
  obtain ⟨cur, e, h1, h2⟩ := h g hv
  exact ⟨cur, e, (hg.block g (heap_lt h1) (hne g hv)).trans h1, h2⟩
theorem zero_one {z : Value} {n : Nat} {u : Value} (h : u ∈ (Builtin.zeroCells #[z] n).toList) : u = z := by
  unfold Builtin.zeroCells at h
  simp at h
  obtain ⟨i, hi, rfl⟩ := h
  simp [Nat.mod_one]
theorem append_kind {P : Program} {w : World} {K : Value → Prop} {base : Nat} {t ty e : TypeId} {i : TypeInfo} {z : Value} (ht : P.underlying t = some (.slice e)) (hi : P.info? e = some i) (hz : i.zero = some z) (hsize : i.size = 1) (hzc : z.cells = #[z]) (hzk : K z)
    {v : Value} {n : Nat} {xs : List Value} (hown : w.ownsRow base e 1 v n xs) (hk : AllK K w v) {a : Addr} {c : Nat} {u : Value} (hu : w.cell? a = some u) (hu1 : u.oneCell' = true) (huk : K u)
    (hn : n ≤ 4000000) (hby : i.bytes ≤ 16) {v' : Value} {w' : World} (hr : (Builtin.append_ #[t, t] ty #[v, .slice (some a) 1 c]).run P w = .ok v' w') : AllK K w' v' := by
  have hnews : ∀ j x, [u][j]? = some x → w.cell? (a.add j) = some x := by
    intro j x hx
    have hj : j = 0 := by
      have := List.getElem?_eq_some_iff.1 hx |>.1
      simp at this; omega
    subst hj
    simp at hx
    subst hx
    have e0 : a.add 0 = a := by cases a; rename_i b o s; cases s <;> simp [Addr.add]
    rw [e0]; exact hu
  have hbig : ∀ m : Nat, m ≤ 4000001 → m * i.bytes ≤ 140737488355328 := fun m hm => Nat.le_trans (Nat.mul_le_mul hm hby) (by decide)
  rcases hown.2 with ⟨rfl, rfl⟩ | ⟨g, cap, cur, rfl, hbg, hg, hnc, hcm, hcs, htake⟩
  · have hr2 := run_append_nil (P := P) w t ty e i z ht hi hz a 1 c [u] (by simp [hsize]) hnews (by omega) (by omega) (Nat.le_trans (hbig 1 (by omega)) (by decide))
    rw [hr2] at hr
    cases hr
    intro g hg
    cases hg
    refine ⟨_, _, heap_alloc_new w.drew _, fun x hx => ?_⟩
    rw [Array.toList_append] at hx
    rcases List.mem_append.1 hx with hx | hx
    · rw [List.mem_singleton.1 hx]; exact huk
    · rw [hzc] at hx; rw [zero_one hx]; exact hzk
  · obtain ⟨cur2, e2, hg2, hall⟩ := hk g rfl
    rw [hg] at hg2
    cases hg2
    by_cases hroom : n + 1 ≤ cap
    · have hr2 := run_append_room (P := P) w t ty e i ht hi g n cap cur hg a 1 c [u] (by simp [hsize]) hnews (by simpa using hu1) hroom (by rw [hsize, hcs]; simp; omega)
      rw [hr2] at hr
      cases hr
      intro g' hg'
      cases hg'
      refine ⟨_, _, setRow_heap w g cur _ e _ hg, fun x hx => ?_⟩
      simp only [List.append_assoc, List.mem_append] at hx
      rcases hx with hx | hx | hx
      · exact hall x (List.mem_of_mem_take hx)
      · rw [List.mem_singleton.1 hx]; exact huk
      · exact hall x (List.mem_of_mem_drop hx)
    · have holds : ∀ j u, xs[j]? = some u → w.cell? ((⟨g, 0, none⟩ : Addr).add j) = some u := hown.cells (g := g) rfl
      have hr2 := run_append_grow (P := P) w t ty e i z ht hi hz ⟨g, 0, none⟩ n cap xs (by rw [hsize]; exact hown.1) holds a 1 c [u] (by simp [hsize]) hnews (by omega) (by omega) (growslice_fits (by omega) (hbig _ (by omega)))
      rw [hr2] at hr
      cases hr
      intro g' hg'
      cases hg'
      refine ⟨_, _, heap_alloc_new w.drew _, fun x hx => ?_⟩
      simp only [Array.toList_append, List.mem_append] at hx
      rcases hx with (hx | hx) | hx
      · exact hall x (by rw [← htake] at hx; exact List.mem_of_mem_take hx)
      · rw [List.mem_singleton.1 hx]; exact huk
      · rw [hzc] at hx; rw [zero_one hx]; exact hzk
theorem wpList_append_kind {P : Program} {w : World} {ops : Array Oper} {rest : List Oper} {o : Oper} {a : Act} {Q : Exit → Act → World → Prop} (hgd : o.guard = none) (s x : Operand) (t : TypeId)
    (ho : o.op = .call { callee := .builtin .append, args := #[s, x], argTypes := #[t, t] })
    {K : Value → Prop} (base : Nat) (e : TypeId) (i : TypeInfo) (z : Value) (bytes : Nat) (ht : P.underlying t = some (.slice e)) (hi : P.info? e = some i) (hz : i.zero = some z) (hsize : i.size = 1) (hby : i.bytes = bytes) (hb16 : bytes ≤ 16) (hzc : z.cells = #[z]) (hzk : K z)
    (v : Value) (n : Nat) (xs : List Value) (hs : a.eval s = v) (hown : w.ownsRow base e 1 v n xs) (hk : AllK K w v) (ad : Addr) (c : Nat) (u : Value) (hx : a.eval x = .slice (some ad) 1 c) (hu : w.cell? ad = some u) (hu1 : u.oneCell' = true) (huk : K u)
    (hn : n ≤ 4000000) (hbase : base ≤ w.heap.size)
    (h : ∀ v' w', w'.ownsRow base e 1 v' (n + 1) (xs ++ [u]) → w.grownBy w' v.ownBlock → AllK K w' v' → wpList P ops Q rest (a.put o.dst v') w') : wpList P ops Q (o :: rest) a w :=
  wpList_plain hgd fun _ hK => by
    have hnews : ∀ j x, [u][j]? = some x → w.cell? (ad.add j) = some x := by
      intro j x hx
      have hj : j = 0 := by
        have := List.getElem?_eq_some_iff.1 hx |>.1
        simp at this; omega
      subst hj
      simp at hx
      subst hx
      have e0 : ad.add 0 = ad := by cases ad; rename_i b o s; cases s <;> simp [Addr.add]
      rw [e0]; exact hu
    obtain ⟨v', w', hr, h2, h3, _⟩ := run_append_own (P := P) w base t o.type e i z 1 bytes ht hi hz hsize hby (by rw [hzc]; rfl) (by decide) v n xs hown ad 1 c [u] rfl hnews (by simpa using hu1) (by unfold maxLen; omega) (Nat.le_trans (Nat.mul_le_mul (show n + 1 ≤ 4000001 by omega) hb16) (by decide)) hbase
    have h5 := append_kind ht hi hz hsize hzc hzk hown hk hu hu1 huk hn (by omega) hr
    unfold Oper.wp execOp
    simp only [ho, resolve, invoke, builtin, Sem.run_bind, Sem.run_pure, Result.andThen_ok, List.map_toArray, List.map_cons, List.map_nil, hs, hx, hr]
    exact hK _ _ (h v' w' h2 h3 h5)
def isS : Value → Prop | .string _ => True | _ => False
def isI : Value → Prop | .int .i64 _ => True | _ => False
theorem info_str : (Try.prog.info? 9).map (fun i => (i.zero, i.size, i.bytes)) = some (some (.string ⟨#[]⟩), 1, 16) := by kernel_rfl
theorem info_int : (Try.prog.info? 3).map (fun i => (i.zero, i.size, i.bytes)) = some (some (.int .i64 0), 1, 8) := by kernel_rfl
theorem AllK.alloc {K : Value → Prop} {w : World} {v : Value} (h : AllK K w v) (o : Obj) : AllK K (w.alloc o) v := h.keep ((Below.refl _ w).alloc (Nat.le_refl _) o)
theorem append_strK {ops : Array Oper} {rest : List Oper} {o : Oper} {a : Act} {Q : Exit → Act → World → Prop} (hgd : o.guard = none) (s x : Operand)
    (ho : o.op = .call { callee := .builtin .append, args := #[s, x], argTypes := #[29, 29] }) (base : Nat) (w : World) (k : Nat) (hk : w.heap.size = k) (c : ByteArray)
    (v : Value) (n : Nat) (xs : List Value) (hs : a.eval s = v) (hown : w.ownsRow base 9 1 v n xs) (hK : AllK isS w v) (hx : a.eval x = .slice (some ⟨k, 0, none⟩) 1 1)
    (hn : n ≤ 4000000) (hbase : base ≤ w.heap.size)
    (h : ∀ v' w', w'.ownsRow base 9 1 v' (n + 1) (xs ++ [.string c]) → (w.alloc (.cells #[.string c] 9)).grownBy w' v.ownBlock → AllK isS w' v' → wpList Try.prog ops Q rest (a.put o.dst v') w') :
    wpList Try.prog ops Q (o :: rest) a (w.alloc (.cells #[.string c] 9)) := by
  subst hk
  obtain ⟨i0, hi, hz0, hz1, hz2⟩ := info_parts info_str
  exact wpList_append_kind hgd s x 29 ho base 9 i0 (.string ⟨#[]⟩) 16 Try.underlying29 hi hz0 hz1 hz2 (by decide) rfl trivial v n xs hs (hown.alloc _) (hK.alloc _) ⟨w.heap.size, 0, none⟩ 1 (.string c) hx (by rw [World.cell?_alloc_new]; rfl) rfl trivial hn (by rw [World.size_alloc]; omega) h
theorem append_intK {ops : Array Oper} {rest : List Oper} {o : Oper} {a : Act} {Q : Exit → Act → World → Prop} (hgd : o.guard = none) (s x : Operand)
    (ho : o.op = .call { callee := .builtin .append, args := #[s, x], argTypes := #[30, 30] }) (base : Nat) (w : World) (k : Nat) (hk : w.heap.size = k) (c : Int)
    (v : Value) (n : Nat) (xs : List Value) (hs : a.eval s = v) (hown : w.ownsRow base 3 1 v n xs) (hK : AllK isI w v) (hx : a.eval x = .slice (some ⟨k, 0, none⟩) 1 1)
    (hn : n ≤ 4000000) (hbase : base ≤ w.heap.size)
    (h : ∀ v' w', w'.ownsRow base 3 1 v' (n + 1) (xs ++ [.int .i64 c]) → (w.alloc (.cells #[.int .i64 c] 3)).grownBy w' v.ownBlock → AllK isI w' v' → wpList Try.prog ops Q rest (a.put o.dst v') w') :
    wpList Try.prog ops Q (o :: rest) a (w.alloc (.cells #[.int .i64 c] 3)) := by
  subst hk
  obtain ⟨i0, hi, hz0, hz1, hz2⟩ := info_parts info_int
  exact wpList_append_kind hgd s x 30 ho base 3 i0 (.int .i64 0) 8 Try.underlying30 hi hz0 hz1 hz2 (by decide) rfl trivial v n xs hs (hown.alloc _) (hK.alloc _) ⟨w.heap.size, 0, none⟩ 1 (.int .i64 c) hx (by rw [World.cell?_alloc_new]; rfl) rfl trivial hn (by rw [World.size_alloc]; omega) h
/-! ### a book stays -/
theorem sk_grown {K : Value → Prop} (hKi : ¬ K (.int .i64 0) ∨ ∀ s, ¬ K (.string s)) (hKn : (∀ n, ¬ K (.int .i64 n)) ∨ ∀ s, ¬ K (.string s)) {w w' : World} {v : Value} (hA : AllK K w v) (hg : w.grownBy w' v.ownBlock) {a : Option Addr} {n : Nat} {l : List Sk} (h : SkAt w a n l) : SkAt w' a n l := by
  refine ⟨h.1, h.2.1, ?_⟩
  rcases h.2.2 with h0 | ⟨b, off, e, hlt, hc⟩
  · exact .inl h0
  · by_cases h0 : n = 0
    · exact .inl h0
    · refine .inr ⟨b, off, e, Nat.lt_of_lt_of_le hlt hg.size, fun i hi => ?_⟩
      obtain ⟨c0, c1, c2, c3, c4, c5⟩ := hc i hi
      have hne : some b ≠ v.ownBlock := hKn.elim (fun q => hA.off c1 (q _)) (fun q => hA.off c0 (q _))
      exact ⟨hg.cell c0 hne, hg.cell c1 hne, hg.cell c2 hne, hg.cell c3 hne, hg.cell c4 hne, hg.cell c5 hne⟩
theorem ls_grown {K : Value → Prop} (hKn : (∀ n, ¬ K (.int .i64 n)) ∨ ∀ s, ¬ K (.string s)) {w w' : World} {v : Value} (hA : AllK K w v) (hg : w.grownBy w' v.ownBlock) {a : Option Addr} {n : Nat} {l : List Ln} (h : LsAt w a n l) : LsAt w' a n l := by
  refine ⟨h.1, h.2.1, ?_⟩
  rcases h.2.2 with h0 | ⟨b, off, e, hlt, hc⟩
  · exact .inl h0
  · refine .inr ⟨b, off, e, Nat.lt_of_lt_of_le hlt hg.size, fun i hi => ?_⟩
    obtain ⟨c0, c1⟩ := hc i hi
    have hne : some b ≠ v.ownBlock := hKn.elim (fun q => hA.off c1 (q _)) (fun q => hA.off c0 (q _))
    exact ⟨hg.cell c0 hne, hg.cell c1 hne⟩
theorem hs_grown {K : Value → Prop} (hKn : (∀ n, ¬ K (.int .i64 n)) ∨ ∀ s, ¬ K (.string s)) (hKs : ∀ a n c, ¬ K (.slice a n c)) {w w' : World} {v : Value} (hA : AllK K w v) (hg : w.grownBy w' v.ownBlock) {a : Option Addr} {n : Nat} {l : List Hd} (h : HsAt w a n l) : HsAt w' a n l := by
  obtain ⟨zs, e, k1, k2, k3, k4⟩ := h
  refine ⟨zs, e, k1, k2, fun z hz => ls_grown hKn hA hg (k3 z hz), ?_⟩
  rcases k4 with h0 | ⟨b, off, e2, hlt, hc⟩
  · exact .inl h0
  · refine .inr ⟨b, off, e2, Nat.lt_of_lt_of_le hlt hg.size, fun i hi => ?_⟩
    obtain ⟨c0, c1, c2⟩ := hc i hi
    have hne : some b ≠ v.ownBlock := hA.off c1 (hKs _ _ _)
    exact ⟨hg.cell c0 hne, hg.cell c1 hne, hg.cell c2 hne⟩
theorem bk_grownS {w w' : World} {v : Value} (hA : AllK isS w v) (hg : w.grownBy w' v.ownBlock) {a : Option Addr} {n : Nat} {a2 : Option Addr} {n2 c2 : Nat} {b : Bk} (h : BkAt w a n a2 n2 c2 b) : BkAt w' a n a2 n2 c2 b :=
  ⟨sk_grown (.inl fun h => h) (.inl fun _ h => h) hA hg h.sk, hs_grown (.inl fun _ h => h) (fun _ _ _ h => h) hA hg h.hd, h.room⟩
theorem bk_grownI {w w' : World} {v : Value} (hA : AllK isI w v) (hg : w.grownBy w' v.ownBlock) {a : Option Addr} {n : Nat} {a2 : Option Addr} {n2 c2 : Nat} {b : Bk} (h : BkAt w a n a2 n2 c2 b) : BkAt w' a n a2 n2 c2 b :=
  ⟨sk_grown (.inr fun _ h => h) (.inr fun _ h => h) hA hg h.sk, hs_grown (.inr fun _ h => h) (fun _ _ _ h => h) hA hg h.hd, h.room⟩
theorem box_grown {K : Value → Prop} (hKs : ∀ a n c, ¬ K (.slice a n c)) {w w' : World} {v : Value} (hA : AllK K w v) (hg : w.grownBy w' v.ownBlock) {k : Nat} {p0 p1 : Option Addr} {m0 m1 d0 d1 : Nat} (h : At2 w k (.slice p0 m0 d0) (.slice p1 m1 d1)) : At2 w' k (.slice p0 m0 d0) (.slice p1 m1 d1) :=
  (hg.block k (heap_lt h) (hA.off (cells2 h).1 (hKs _ _ _))).trans h
/-! ### the law's rows beside its box -/
theorem grown_put2 (w : World) (k : Nat) (v0 v1 : Value) : w.grownBy (put2 w k v0 v1) (some k) :=
  ⟨rfl, rfl, rfl, by rw [size_put2]; exact Nat.le_refl _, fun j _ hj => put2_other v0 v1 fun e => hj (by rw [e])⟩
theorem own_off {w : World} {B n size : Nat} {e : TypeId} {v : Value} {xs : List Value} (h : w.ownsRow B e size v n xs) (hne : e ≠ 28) {k : Nat} {x0 x1 : Value} (hk : At2 w k x0 x1) : v.ownBlock ≠ some k := by
  intro eq
  rcases h.2 with ⟨rfl, _⟩ | ⟨g, cap, cur, rfl, _, hg, _⟩
  · cases eq
  · cases eq
    have hk2 : w.heap[g]? = some (.cells #[x0, x1] 28 (0, 0)) := hk
    rw [hg] at hk2
    simp only [Option.some.injEq, Obj.cells.injEq] at hk2
    exact hne hk2.2.1
theorem own_put2 {w : World} {B n size : Nat} {e : TypeId} {v : Value} {xs : List Value} (h : w.ownsRow B e size v n xs) (hne : e ≠ 28) {k : Nat} {x0 x1 : Value} (hk : At2 w k x0 x1) (v0 v1 : Value) : (put2 w k v0 v1).ownsRow B e size v n xs :=
  h.kept (grown_put2 w k v0 v1) (.inr (own_off h hne hk))
theorem kind_put2 {K : Value → Prop} {w : World} {B n size : Nat} {e : TypeId} {v : Value} {xs : List Value} (hA : AllK K w v) (h : w.ownsRow B e size v n xs) (hne : e ≠ 28) {k : Nat} {x0 x1 : Value} (hk : At2 w k x0 x1) (v0 v1 : Value) : AllK K (put2 w k v0 v1) v :=
  hA.grown (grown_put2 w k v0 v1) fun g hg e2 => own_off h hne hk (hg.trans e2)
theorem bk_put2 {w : World} {a : Option Addr} {n : Nat} {a2 : Option Addr} {n2 c2 : Nat} {b : Bk} (h : BkAt w a n a2 n2 c2 b) {r : Nat} {p0 p1 : Option Addr} {m0 m1 d0 d1 : Nat} (hr : At2 w r (.slice p0 m0 d0) (.slice p1 m1 d1)) (v0 v1 : Value) : BkAt (put2 w r v0 v1) a n a2 n2 c2 b :=
  ⟨sk_same h.sk (sk_off h.sk hr) (by rw [size_put2]; exact Nat.le_refl _) (fun j hj => put2_other v0 v1 hj), hs_same h.hd hr (by rw [size_put2]; exact Nat.le_refl _) (fun j hj => put2_other v0 v1 hj), h.room⟩
end Go.Proofs.Ytjclkiabgemfpaa.Ledger

/-
  LedgerBalance: it returns true for any acts; what was there stays as it was.
-/
set_option linter.unusedVariables false
set_option maxRecDepth 4000
namespace Go.Proofs.Ytjclkiabgemfpaa.Ledger
open Go.RowKit LinesP HoldsP LedgerP
open StockP (Sk sk0 fitS Fit fitS_iff fromV turnV moveV turn_fit restock_cases adjust_cases restockV adjustV)
open Go.Proofs.Ytjclkiabgemfpaa.Lines (LsAt Sz SzM ret_bool ret_int below_keep below_drewN owns_form owns_cell owns_below)
open Go.Proofs.Ytjclkiabgemfpaa.Holds (HsAt SzH SzMH hmf)

theorem put_no {b : Bk} {y : Sk × Int} (h : y.2 ≠ 0) : (putIn b y).2 ≠ 0 := by unfold putIn; rw [if_neg h]; exact h
theorem restock_bound {b : Bk} {s : ByteArray} {n : Int} (h : (restockB b s n).2 = 0) : 1 ≤ n ∧ n ≤ 1099511627776 := by
  have key : ∀ x, (putIn b (restockV x n)).2 = 0 → 1 ≤ n ∧ n ≤ 1099511627776 := by
    intro x hx
    rcases restock_cases x n with ⟨e, he, hne, _⟩ | ⟨_, _, h1, h2, _⟩
    · rw [he] at hx; exact absurd hx (put_no hne)
    · exact ⟨h1, h2⟩
  unfold restockB at h
  split at h
  · split at h
    · split at h
      · split at h
        · cases h
        · exact key _ h
      · exact key _ h
    · cases h
  · cases h
theorem adjust_bound {b : Bk} {s : ByteArray} {n : Int} (h : (adjustB b s n).2 = 0) : -1099511627776 ≤ n ∧ n ≤ 1099511627776 := by
  have key : ∀ x, (putIn b (adjustV x n)).2 = 0 → -1099511627776 ≤ n ∧ n ≤ 1099511627776 := by
    intro x hx
    rcases adjust_cases x n with ⟨e, he, hne, _⟩ | ⟨_, _, _, h1, h2, _⟩
    · rw [he] at hx; exact absurd hx (put_no hne)
    · exact ⟨h1, h2⟩
  unfold adjustB at h
  split at h
  · split at h
    · cases h
    · exact key _ h
  · cases h
theorem do_bound {b : Bk} {a : LedgerP.Act} (hk : a.kind = 1 ∨ a.kind = 2) (h : (doB b a).2 = 0) : -1099511627776 ≤ a.n ∧ a.n ≤ 1099511627776 := by
  unfold doB at h
  by_cases k1 : a.kind = 1
  · rw [if_pos k1] at h
    have := restock_bound h
    omega
  · rw [if_neg k1, if_pos (hk.resolve_left k1)] at h
    exact adjust_bound h
structure BalJ (w wr : World) (kb : Nat) (v4 v5 : Value) (n4 n5 : Nat) (l4 l5 : Cm) (a : Option Addr) (n c : Nat) (a2 : Option Addr) (n2 c2 : Nat) (b : Bk) : Prop where
  bel : Below w.heap.size w wr
  lo : w.heap.size ≤ kb
  box : At2 wr kb (.slice a n c) (.slice a2 n2 c2)
  bk : BkAt wr a n a2 n2 c2 b
  r4 : wr.ownsRow w.heap.size 9 1 v4 n4 (l4.map fun x => .string x.1)
  k4 : AllK isS wr v4
  r5 : wr.ownsRow w.heap.size 3 1 v5 n5 (l5.map fun x => .int .i64 x.2)
  k5 : AllK isI wr v5
section
variable {w wr w2 : World} {kb : Nat} {v4 v5 : Value} {n4 n5 : Nat} {l4 l5 : Cm} {a : Option Addr} {n c : Nat} {a2 : Option Addr} {n2 c2 : Nat} {b : Bk}
theorem BalJ.keep (h : BalJ w wr kb v4 v5 n4 n5 l4 l5 a n c a2 n2 c2 b) (hb : Below wr.heap.size wr w2) : BalJ w w2 kb v4 v5 n4 n5 l4 l5 a n c a2 n2 c2 b :=
  ⟨Lines.below_keep h.bel hb h.bel.size, h.lo, (hb.block kb (heap_lt h.box)).trans h.box, h.bk.keep hb, owns_below h.r4 hb, h.k4.keep hb, owns_below h.r5 hb, h.k5.keep hb⟩
theorem BalJ.put (h : BalJ w wr kb v4 v5 n4 n5 l4 l5 a n c a2 n2 c2 b) {p : Option Addr} {m d : Nat} {p2 : Option Addr} {m2 d2 : Nat} {y : Bk} (hy : BkAt wr p m p2 m2 d2 y) :
    BalJ w (put2 wr kb (.slice p m d) (.slice p2 m2 d2)) kb v4 v5 n4 n5 l4 l5 p m d p2 m2 d2 y :=
  ⟨below_put2 h.bel h.lo _ _, h.lo, heap_put2 h.box _ _, bk_put2 hy h.box _ _, own_put2 h.r4 (by decide) h.box _ _, kind_put2 h.k4 h.r4 (by decide) h.box _ _, own_put2 h.r5 (by decide) h.box _ _, kind_put2 h.k5 h.r5 (by decide) h.box _ _⟩
theorem BalJ.alloc (h : BalJ w wr kb v4 v5 n4 n5 l4 l5 a n c a2 n2 c2 b) (o : Obj) : BalJ w (wr.alloc o) kb v4 v5 n4 n5 l4 l5 a n c a2 n2 c2 b := h.keep ((Below.refl _ wr).alloc (Nat.le_refl _) o)
theorem BalJ.app4 (h : BalJ w wr kb v4 v5 n4 n5 l4 l5 a n c a2 n2 c2 b) {o : Obj} {wa : World} {v' : Value} {s : ByteArray} {q : Int} (hr : wa.ownsRow w.heap.size 9 1 v' (n4 + 1) ((l4.map fun x => .string x.1) ++ [.string s]))
    (hg : (wr.alloc o).grownBy wa v4.ownBlock) (hk : AllK isS wa v') : BalJ w wa kb v' v5 (n4 + 1) n5 (l4 ++ [(s, q)]) l5 a n c a2 n2 c2 b := by
  have h1 := h.alloc o
  have hne := Holds.owns_apart (show 3 ≠ 9 by decide) h1.r5 h1.r4
  exact ⟨Lines.below_append h.bel h.bel.size h.r4 hg, h.lo, box_grown (fun _ _ _ k => k) h1.k4 hg h1.box, bk_grownS h1.k4 hg h1.bk, by simpa using hr, hk, h1.r5.kept hg hne, h1.k5.grown hg fun g e1 e2 => by
    rcases hne with e | e
    · rw [e] at e1; cases e1
    · exact e (e1.trans e2)⟩
theorem BalJ.app5 (h : BalJ w wr kb v4 v5 n4 n5 l4 l5 a n c a2 n2 c2 b) {o : Obj} {wa : World} {v' : Value} {s : ByteArray} {q : Int} (hr : wa.ownsRow w.heap.size 3 1 v' (n5 + 1) ((l5.map fun x => .int .i64 x.2) ++ [.int .i64 q]))
    (hg : (wr.alloc o).grownBy wa v5.ownBlock) (hk : AllK isI wa v') : BalJ w wa kb v4 v' n4 (n5 + 1) l4 (l5 ++ [(s, q)]) a n c a2 n2 c2 b := by
  have h1 := h.alloc o
  have hne := Holds.owns_apart (show 9 ≠ 3 by decide) h1.r4 h1.r5
  exact ⟨Lines.below_append h.bel h.bel.size h.r5 hg, h.lo, box_grown (fun _ _ _ k => k) h1.k5 hg h1.box, bk_grownI h1.k5 hg h1.bk, h1.r4.kept hg hne, h1.k4.grown hg fun g e1 e2 => (by
    rcases hne with e | e
    · rw [e] at e1; cases e1
    · exact e (e1.trans e2)), by simpa using hr, hk⟩
theorem BalJ.form4 (h : BalJ w wr kb v4 v5 n4 n5 l4 l5 a n c a2 n2 c2 b) : ∃ na nc, v4 = .slice na n4 nc := by
  rcases owns_form h.r4 with ⟨rfl, rfl⟩ | ⟨g, cap, rfl, _⟩
  · exact ⟨_, _, rfl⟩
  · exact ⟨_, _, rfl⟩
theorem BalJ.form5 (h : BalJ w wr kb v4 v5 n4 n5 l4 l5 a n c a2 n2 c2 b) : ∃ na nc, v5 = .slice na n5 nc := by
  rcases owns_form h.r5 with ⟨rfl, rfl⟩ | ⟨g, cap, rfl, _⟩
  · exact ⟨_, _, rfl⟩
  · exact ⟨_, _, rfl⟩
theorem sta_of {B m mc : Nat} {na : Option Addr} {l : Cm} (h : wr.ownsRow B 9 1 (.slice na m mc) m (l.map fun x => .string x.1)) (hm : m ≤ 1000) : StA wr na m (l.map (·.1)) := by
  have hl : l.length = m := by have := h.1; simpa using this
  refine ⟨by simpa using hl, hm, ?_⟩
  rcases owns_form h with ⟨_, h0⟩ | ⟨g, cap, e, _, hlt⟩
  · exact .inl h0
  · simp only [Value.slice.injEq] at e
    refine .inr ⟨g, 0, e.1, hlt, fun i hi => ?_⟩
    have hil : i < l.length := by omega
    have := owns_cell (j := i) (u := .string ((l.map (·.1)).getD i ByteArray.empty)) h (g := g) (by rw [e.1]; rfl) (by simp [List.getD, hil])
    rw [Nat.zero_add]; exact this
theorem ina_of {B m mc : Nat} {na : Option Addr} {l : Cm} (h : wr.ownsRow B 3 1 (.slice na m mc) m (l.map fun x => .int .i64 x.2)) (hm : m ≤ 1000) : InA wr na m (l.map (·.2)) := by
  have hl : l.length = m := by have := h.1; simpa using this
  refine ⟨by simpa using hl, hm, ?_⟩
  rcases owns_form h with ⟨_, h0⟩ | ⟨g, cap, e, _, hlt⟩
  · exact .inl h0
  · simp only [Value.slice.injEq] at e
    refine .inr ⟨g, 0, e.1, hlt, fun i hi => ?_⟩
    have hil : i < l.length := by omega
    have := owns_cell (j := i) (u := .int .i64 ((l.map (·.2)).getD i 0)) h (g := g) (by rw [e.1]; rfl) (by simp [List.getD, hil])
    rw [Nat.zero_add]; exact this
theorem BalJ.bal {l : Cm} {m : Nat} {na ia : Option Addr} {nc ic : Nat} (h : BalJ w wr kb (.slice na m nc) (.slice ia m ic) m m l l a n c a2 n2 c2 b) (k : FitB b) (hbd : BdP l) (h30 : m ≤ 30) (hin : ∀ u, innS u b.sk = cameP u l) :
    Calls Try.prog 9 #[.agg #[.slice a n c, .slice a2 n2 c2], .slice na m nc, .slice ia m ic] wr fun e w' => e = .returned (.bool true) ∧ Below wr.heap.size wr w' :=
  balanced_any a n c a2 n2 c2 b na m nc ia ic l wr h.bk k (sta_of h.r4 (by omega)) (ina_of h.r5 (by omega)) hbd h30 fun x hx => by rw [(bal_item k x hx).1]; exact hin x.nm
end
theorem at2_keep {w w' : World} {k : Nat} {v0 v1 : Value} (h : At2 w k v0 v1) (hb : Below w.heap.size w w') : At2 w' k v0 v1 := (hb.block k (heap_lt h)).trans h
theorem at2_new (w : World) (v0 v1 : Value) : At2 (w.alloc (.cells #[v0, v1] 28)) w.heap.size v0 v1 := heap_alloc_new w _
theorem join8 {G : Prop} {P F : World → Nat → Option Addr → Nat → Nat → Option Addr → Nat → Nat → Prop} (main : (∀ w g a n c p m d, F w g a n c p m d → P w g a n c p m d) → G) (pf : ∀ w g a n c p m d, F w g a n c p m d → P w g a n c p m d) : G := main pf
theorem few30 (a : Option Addr) (len cap : Nat) (l : List LedgerP.Act) (v : Bool) (hv : fewA 30 l = v) (w : World) (h : AsAt w a len l) (hs : SzMA l) :
    Calls Try.prog 5 #[.slice a len cap, .int .i64 30] w fun e w' => e = .returned (.bool v) ∧ Below w.heap.size w w' := by
  have := fewacts_any a len cap l 30 w h hs (by decide)
  rw [hv] at this
  exact this

set_option maxHeartbeats 8000000 in
theorem balance_any (a : Option Addr) (len cap : Nat) (l : List LedgerP.Act) (w : World) (h : AsAt w a len l) (hs : SzMA l) :
    Calls Try.prog 3 #[.slice a len cap] w fun e w' => e = .returned (.bool true) ∧ Below w.heap.size w w' := by
  have HX := Lib.hid h
  have HS := Lib.hid hs
  obtain ⟨v, hv⟩ : ∃ v, fewA 30 l = v := ⟨_, rfl⟩
  have HV := Lib.hid hv
  have C := Lib.hid (few30 a len cap l v hv w h hs)
  clear hv h hs
  go_enter Try.func3, Try.ntmps3
  go_wp2_with fail
  refine C.out.mono ?_
  rintro e w1 ⟨rfl, hb⟩
  have HB1 := Lib.hid hb
  clear hb C
  cases v with
  | false =>
    go_wp2_with fail
    refine (awake_any w1).mono ?_
    rintro e w9 ⟨rfl, hb⟩
    have HB9 := Lib.hid (Lines.below_keep HB1.out hb HB1.out.size)
    clear hb
    go_wp2_with fail
    go_ret
    exact ⟨rfl, HB9.out⟩
  | true =>
    have hfm := fewA_mem HV.out HS.out
    have h30 : len ≤ 30 := by rw [← HX.out.len]; exact hfm.1
    have HFM := Lib.hid hfm.2
    clear hfm HV
    have J0 : Hid (BalJ w (w1.alloc (.cells #[.slice none 0 0, .slice none 0 0] 28)) w1.heap.size (.slice none 0 0) (.slice none 0 0) 0 0 [] [] none 0 0 none 0 0 bk0) :=
      ⟨HB1.out.alloc HB1.out.size _, HB1.out.size, at2_new w1 _ _, ⟨SkAt.nil _ _, HsAt.nil _ _, Nat.le_refl _⟩, World.ownsRow_nil _ _ _ _, AllK.nil _ _, World.ownsRow_nil _ _ _ _, AllK.nil _ _⟩
    go_wp2_with fail
    go_loopw [4, 5, 6] (fun v4 v5 i wr => ∃ (m : Nat) (ps : Cm) (np : Nat) (A : Option Addr) (N C : Nat) (A2 : Option Addr) (N2 C2 : Nat) (b : Bk), m ≤ len ∧ np ≤ m ∧ i = .int .i64 (m : Int) ∧ Hid (BalJ w wr w1.heap.size v4 v5 np np ps ps A N C A2 N2 C2 b) ∧ Hid (FitB b) ∧ Hid (BdP ps) ∧ Hid (∀ u, innS u b.sk = cameP u ps)) (fun _ _ i _ => len - (intOf i).toNat)
    case atStart => exact ⟨0, [], 0, none, 0, 0, none, 0, 0, bk0, Nat.zero_le _, Nat.zero_le _, rfl, J0, Lib.hid fitB_empty, Lib.hid (fun x hx => by cases hx), Lib.hid (fun u => rfl)⟩
    case round =>
      obtain ⟨m, ps, np, A, N, C, A2, N2, C2, b, hm, hnp, rfl, hJ, hF, hBD, hIN⟩ := hrel
      by_cases hlt : m < len
      · have hmx : m < l.length := by rw [HX.out.len]; exact hlt
        obtain ⟨b1, o1, kd, sg, q, s, la, lc, ls, rfl, g1, hp, hc1⟩ := HX.out.at hlt
        obtain ⟨hl8, hsz, hs60⟩ := HFM.out _ (amem_getD hmx)
        rw [hp] at hl8 hsz hs60
        simp only at hl8 hsz hs60
        obtain ⟨na, nc, hv4⟩ := hJ.out.form4
        obtain ⟨ia, ic, hv5⟩ := hJ.out.form5
        subst hv4
        subst hv5
        obtain ⟨n, hn⟩ : ∃ n, ls.length = n := ⟨_, rfl⟩
        rw [hn] at hc1 hl8
        have HC1 := Lib.hid hc1
        have HSZ := Lib.hid hsz
        have hdo := do_left b ⟨kd, sg, q, s, ls⟩
        have hbound := do_bound (b := b) (a := ⟨kd, sg, q, s, ls⟩)
        have CD : Hid (∀ w', Below wr.heap.size wr w' → Calls Try.prog 7 #[.agg #[.slice A N C, .slice A2 N2 C2], .agg #[.int .i64 kd, .int .i64 sg, .int .i64 q, .string s, .slice la n lc]] w' (BookR w' (doB b ⟨kd, sg, q, s, ls⟩))) :=
          fun w' hb => do_any A N C A2 N2 C2 b kd sg q s la n lc ls w' (hJ.out.bk.keep hb) (fit_szb (fitB_iff.2 hF.out)) (by omega) (HC1.out w' (Lines.below_keep hJ.out.bel hb hJ.out.bel.size)).2.2.2.2.2 HSZ.out (by omega)
        obtain ⟨⟨y, er⟩, hr⟩ : ∃ r, doB b ⟨kd, sg, q, s, ls⟩ = r := ⟨_, rfl⟩
        rw [hr] at CD hdo hbound
        unfold BookR at CD
        simp only at CD hdo hbound
        have HDO := Lib.hid hdo
        have HBO := Lib.hid hbound
        clear hc1 hsz hdo hbound hr hp hn hmx g1
        go_wp2_with fail
        have K : Hid (∀ w', Below wr.heap.size wr w' → w'.cell? ⟨w1.heap.size, 0, none⟩ = some (.slice A N C) ∧ w'.cell? ⟨w1.heap.size, 1, none⟩ = some (.slice A2 N2 C2) ∧ w'.cell? ⟨b1, o1 + m * 5, none⟩ = some (.int .i64 kd) ∧ w'.cell? ⟨b1, o1 + m * 5 + 1, none⟩ = some (.int .i64 sg) ∧ w'.cell? ⟨b1, o1 + m * 5 + 2, none⟩ = some (.int .i64 q) ∧ w'.cell? ⟨b1, o1 + m * 5 + 3, none⟩ = some (.string s) ∧ w'.cell? ⟨b1, o1 + m * 5 + 4, none⟩ = some (.slice la n lc)) := by
          intro w' hb
          obtain ⟨t0, t1, t2, t3, t4, _⟩ := HC1.out w' (Lines.below_keep hJ.out.bel hb hJ.out.bel.size)
          obtain ⟨u0, u1⟩ := cells2 (hJ.out.keep hb).box
          exact ⟨u0, u1, t0, t1, t2, t3, t4⟩
        apply join8 (F := fun wz bx a4 n4 c4 p4 m4 d4 => Below wr.heap.size wr wz ∧ At2 wz bx (.slice a4 n4 c4) (.slice p4 m4 d4) ∧ BkAt wz a4 n4 p4 m4 d4 y)
        · intro hG
          have b0 : Below wr.heap.size wr wr.drew := (Below.refl _ wr).drew
          have k0 := K.out _ b0
          have b00 : Below wr.heap.size wr (wr.alloc (.cells #[.slice none 0 0, .slice none 0 0] 28)).drew := ((Below.refl _ wr).alloc (Nat.le_refl _) _).drew
          have k00 := K.out _ b00
          have k01 := K.out _ ((Below.refl _ wr).alloc (Nat.le_refl _) (.cells #[.slice none 0 0, .slice none 0 0] 28))
          go_region_held3 (fun w' => w'.cell? ⟨w1.heap.size, 0, none⟩ = some (.slice A N C) ∧ w'.cell? ⟨w1.heap.size, 1, none⟩ = some (.slice A2 N2 C2) ∧ w'.cell? ⟨b1, o1 + m * 5, none⟩ = some (.int .i64 kd) ∧ w'.cell? ⟨b1, o1 + m * 5 + 1, none⟩ = some (.int .i64 sg) ∧ w'.cell? ⟨b1, o1 + m * 5 + 2, none⟩ = some (.int .i64 q) ∧ w'.cell? ⟨b1, o1 + m * 5 + 3, none⟩ = some (.string s) ∧ w'.cell? ⟨b1, o1 + m * 5 + 4, none⟩ = some (.slice la n lc))
            (first | with_reducible exact k0 | with_reducible exact k00 | with_reducible exact k01 | with_reducible exact k4 | with_reducible exact k5 | with_reducible exact k6)
            (first
              | ((with_reducible refine (CD.out (wr.alloc (.cells #[.slice none 0 0, .slice none 0 0] 28)).drew b00).mono ?_); rintro e w4 ⟨a4, n4, c4, p4, m4, d4, rfl, hbk, hb4⟩; have b4 := Lines.below_keep b00 hb4 b00.size; have k4 := K.out _ b4; have k5 := k4; have k6 := K.out _ (below_put2 b4 (Nat.le_refl _) (.slice a4 n4 c4) (.slice p4 m4 d4)); have hz4 := at2_keep (w := (wr.alloc (.cells #[.slice none 0 0, .slice none 0 0] 28)).drew) (at2_new wr (.slice none 0 0) (.slice none 0 0)) hb4; obtain ⟨z0, z1⟩ := cells2 hz4; obtain ⟨f0, f1⟩ := free2 hz4)
              | ((with_reducible refine (CD.out wr.drew b0).mono ?_); rintro e w4 ⟨a4, n4, c4, p4, m4, d4, rfl, hbk, hb4⟩; have b4 := Lines.below_keep b0 hb4 b0.size; have k4 := K.out _ b4; have k5 := K.out _ (b4.alloc b4.size (.cells #[.slice none 0 0, .slice none 0 0] 28)); have k6 := K.out _ (b4.alloc b4.size (.cells #[.slice a4 n4 c4, .slice p4 m4 d4] 28))))
          · have hwz0 : Below wr.heap.size wr (w4.alloc (.cells #[.slice a4 n4 c4, .slice p4 m4 d4] 28)) := b4.alloc b4.size _
            have hx0 := at2_new w4 (.slice a4 n4 c4) (.slice p4 m4 d4)
            have hbk2 := hbk.keep ((Below.refl _ w4).alloc (Nat.le_refl _) (.cells #[.slice a4 n4 c4, .slice p4 m4 d4] 28))
            clear k0 k00 k01 k4 k5 k6 b0 b00 b4 hb4 hbk
            generalize hwz : w4.alloc (.cells #[.slice a4 n4 c4, .slice p4 m4 d4] 28) = wz at hwz0 hx0 hbk2 ⊢
            generalize hbx : w4.heap.size = bx at hx0 ⊢
            exact hG wz bx a4 n4 c4 p4 m4 d4 ⟨hwz0, hx0, hbk2⟩
          · have hwz0 := below_put2 b4 (Nat.le_refl _) (.slice a4 n4 c4) (.slice p4 m4 d4)
            have hx0 := heap_put2 hz4 (.slice a4 n4 c4) (.slice p4 m4 d4)
            have hbk2 := bk_put2 hbk hz4 (.slice a4 n4 c4) (.slice p4 m4 d4)
            change At2 (put2 w4 wr.heap.size (.slice a4 n4 c4) (.slice p4 m4 d4)) wr.heap.size _ _ at hx0
            change BkAt (put2 w4 wr.heap.size (.slice a4 n4 c4) (.slice p4 m4 d4)) _ _ _ _ _ _ at hbk2
            clear k0 k00 k01 k4 k5 k6 b0 b00 b4 hb4 hz4 z0 z1 f0 f1 hbk
            unfold put2 at hwz0 hx0 hbk2
            generalize hwz : (w4.setCell ⟨wr.heap.size, 0, none⟩ (.slice a4 n4 c4)).setCell ⟨wr.heap.size, 1, none⟩ (.slice p4 m4 d4) = wz at hwz0 hx0 hbk2 ⊢
            obtain ⟨bx, hbx⟩ : ∃ bx, wr.heap.size = bx := ⟨_, rfl⟩
            have hx1 : At2 wz bx (.slice a4 n4 c4) (.slice p4 m4 d4) := hbx ▸ hx0
            rw [hbx]
            exact hG wz bx a4 n4 c4 p4 m4 d4 ⟨hwz0, hx1, hbk2⟩
        · intro wz bx a4 n4 c4 p4 m4 d4 hF9
          have HJ : Hid (BalJ w wz w1.heap.size (.slice na np nc) (.slice ia np ic) np np ps ps A N C A2 N2 C2 b) := Lib.hid (hJ.out.keep hF9.1)
          have HBX : Hid (At2 wz bx (.slice a4 n4 c4) (.slice p4 m4 d4)) := hF9.2.1
          have HBK : Hid (BkAt wz a4 n4 p4 m4 d4 y) := hF9.2.2
          clear hF9 hJ CD
          obtain ⟨q0, q1⟩ := cells2 HBX.out
          rcases HDO.out with ⟨e, he, hne⟩ | ⟨h0, hfy, hcm⟩
          · obtain ⟨rfl, rfl⟩ : y = bk0 ∧ er = e := ⟨congrArg Prod.fst he, congrArg Prod.snd he⟩
            have e1 : 0 = n4 := HBK.out.sk.1
            have e2 : 0 = m4 := HBK.out.hd.len
            subst e1
            subst e2
            clear he HDO HBO
            go_wp2_with fail
            go_roundw
            case rel => exact ⟨m + 1, ps, np, A, N, C, A2, N2, C2, b, by omega, by omega, by go_num, HJ, hF, hBD, hIN⟩
            case measure => simp [intOf]; omega
          · subst h0
            have HFY := Lib.hid hfy
            have HCM := Lib.hid hcm
            have HJ2 := Lib.hid (HJ.out.put (d := c4) HBK.out)
            have hcp := HC1.out _ HJ2.out.bel
            unfold put2 at hcp
            obtain ⟨x0, x1, x2, x3, x4, xL⟩ := hcp
            obtain ⟨z0, z1⟩ := cells2 HJ.out.box
            obtain ⟨f0, f1⟩ := free2 HJ.out.box
            have hsz2 : (put2 wz w1.heap.size (.slice a4 n4 c4) (.slice p4 m4 d4)).heap.size = wz.heap.size := size_put2 _ _ _ _
            have HSZ2 := Lib.hid hsz2
            clear hfy hcm HDO xL hsz2
            by_cases hk1 : kd = 1
            · subst hk1
              have HIN2 : Hid (∀ u, innS u y.sk = cameP u (ps ++ [(s, q)])) := by
                intro u
                have h1 := HCM.out u
                unfold cameA at h1
                rw [h1, hIN.out u, came_append]
                congr 1
                show (if ((1 : Int) = 1 ∨ (1 : Int) = 2) ∧ u = s then q else 0) = (if s = u then q else 0) + 0
                by_cases e : u = s
                · rw [if_pos ⟨.inl rfl, e⟩, if_pos e.symm]; omega
                · rw [if_neg (fun k => e k.2), if_neg (fun k => e k.symm)]; omega
              have HBD2 : Hid (BdP (ps ++ [(s, q)])) := by
                intro x hx
                rcases List.mem_append.1 hx with hx | hx
                · exact hBD.out x hx
                · rw [List.mem_singleton.1 hx]; exact HBO.out (.inl rfl) rfl
              have HR4 := Lib.hid HJ2.out.r4; have HK4 := Lib.hid HJ2.out.k4
              have hbs : w.heap.size ≤ (put2 wz w1.heap.size (.slice a4 n4 c4) (.slice p4 m4 d4)).heap.size := HJ2.out.bel.size
              go_wp2_with (at_builtin; refine append_strK rfl (.tmp 53) (.tmp 59) rfl w.heap.size (put2 wz w1.heap.size (.slice a4 n4 c4) (.slice p4 m4 d4)) _ HSZ2.out s (.slice na np nc) np _ rfl HR4.out HK4.out rfl (by omega) hbs ?_)
              intro v4 wa hr4 hg4 hk4
              have HJ3 := Lib.hid (HJ2.out.app4 (q := q) hr4 hg4 hk4)
              clear hr4 hg4 hk4 x0 x1 x2 x3 x4 z0 z1 f0 f1 q0 q1 hbs HR4 HK4
              obtain ⟨x0, x1, x2, x3, x4, xL⟩ := HC1.out _ HJ3.out.bel
              obtain ⟨nb, nd, hv4⟩ := HJ3.out.form4
              subst hv4
              have hbs := HJ3.out.bel.size
              go_wp2_with (at_builtin; refine append_intK rfl (.tmp 61) (.tmp 67) rfl w.heap.size wa _ rfl q (.slice ia np ic) np _ rfl HJ3.out.r5 HJ3.out.k5 rfl (by omega) hbs ?_)
              intro v5 wb hr5 hg5 hk5
              have HJ4 := Lib.hid (HJ3.out.app5 (s := s) hr5 hg5 hk5)
              clear hr5 hg5 hk5 x0 x1 x2 x3 x4 xL hbs
              obtain ⟨ib, id2, hv5⟩ := HJ4.out.form5
              subst hv5
              have CF := Lib.hid (fit_any a4 n4 c4 p4 m4 d4 y true (fitB_iff.2 HFY.out) _ HJ4.out.bk (fit_szb (fitB_iff.2 HFY.out)))
              obtain ⟨u0, u1⟩ := cells2 HJ4.out.box
              go_wp2_with fail
              refine CF.out.mono ?_
              rintro e w7 ⟨rfl, hb⟩
              have HJ7 := Lib.hid (HJ4.out.keep hb)
              clear hb CF u0 u1
              have CB := Lib.hid (HJ7.out.bal HFY.out HBD2.out (by omega) HIN2.out)
              obtain ⟨u0, u1⟩ := cells2 HJ7.out.box
              go_wp2_with fail
              refine CB.out.mono ?_
              rintro e w8 ⟨rfl, hb⟩
              have HJ8 := Lib.hid (HJ7.out.keep hb)
              clear hb CB u0 u1
              go_wp2_with fail
              go_roundw
              case rel => exact ⟨m + 1, ps ++ [(s, q)], np + 1, a4, n4, c4, p4, m4, d4, y, by omega, by omega, by go_num, HJ8, HFY, HBD2, HIN2⟩
              case measure => simp [intOf]; omega
            · by_cases hk2 : kd = 2
              · subst hk2
                have HIN2 : Hid (∀ u, innS u y.sk = cameP u (ps ++ [(s, q)])) := by
                  intro u
                  have h1 := HCM.out u
                  unfold cameA at h1
                  rw [h1, hIN.out u, came_append]
                  congr 1
                  show (if ((2 : Int) = 1 ∨ (2 : Int) = 2) ∧ u = s then q else 0) = (if s = u then q else 0) + 0
                  by_cases e : u = s
                  · rw [if_pos ⟨.inr rfl, e⟩, if_pos e.symm]; omega
                  · rw [if_neg (fun k => e k.2), if_neg (fun k => e k.symm)]; omega
                have HBD2 : Hid (BdP (ps ++ [(s, q)])) := by
                  intro x hx
                  rcases List.mem_append.1 hx with hx | hx
                  · exact hBD.out x hx
                  · rw [List.mem_singleton.1 hx]; exact HBO.out (.inr rfl) rfl
                have HR4 := Lib.hid HJ2.out.r4; have HK4 := Lib.hid HJ2.out.k4
                have hbs : w.heap.size ≤ (put2 wz w1.heap.size (.slice a4 n4 c4) (.slice p4 m4 d4)).heap.size := HJ2.out.bel.size
                go_wp2_with (at_builtin; refine append_strK rfl (.tmp 53) (.tmp 59) rfl w.heap.size (put2 wz w1.heap.size (.slice a4 n4 c4) (.slice p4 m4 d4)) _ HSZ2.out s (.slice na np nc) np _ rfl HR4.out HK4.out rfl (by omega) hbs ?_)
                intro v4 wa hr4 hg4 hk4
                have HJ3 := Lib.hid (HJ2.out.app4 (q := q) hr4 hg4 hk4)
                clear hr4 hg4 hk4 x0 x1 x2 x3 x4 z0 z1 f0 f1 q0 q1 hbs HR4 HK4
                obtain ⟨x0, x1, x2, x3, x4, xL⟩ := HC1.out _ HJ3.out.bel
                obtain ⟨nb, nd, hv4⟩ := HJ3.out.form4
                subst hv4
                have hbs := HJ3.out.bel.size
                go_wp2_with (at_builtin; refine append_intK rfl (.tmp 61) (.tmp 67) rfl w.heap.size wa _ rfl q (.slice ia np ic) np _ rfl HJ3.out.r5 HJ3.out.k5 rfl (by omega) hbs ?_)
                intro v5 wb hr5 hg5 hk5
                have HJ4 := Lib.hid (HJ3.out.app5 (s := s) hr5 hg5 hk5)
                clear hr5 hg5 hk5 x0 x1 x2 x3 x4 xL hbs
                obtain ⟨ib, id2, hv5⟩ := HJ4.out.form5
                subst hv5
                have CF := Lib.hid (fit_any a4 n4 c4 p4 m4 d4 y true (fitB_iff.2 HFY.out) _ HJ4.out.bk (fit_szb (fitB_iff.2 HFY.out)))
                obtain ⟨u0, u1⟩ := cells2 HJ4.out.box
                go_wp2_with fail
                refine CF.out.mono ?_
                rintro e w7 ⟨rfl, hb⟩
                have HJ7 := Lib.hid (HJ4.out.keep hb)
                clear hb CF u0 u1
                have CB := Lib.hid (HJ7.out.bal HFY.out HBD2.out (by omega) HIN2.out)
                obtain ⟨u0, u1⟩ := cells2 HJ7.out.box
                go_wp2_with fail
                refine CB.out.mono ?_
                rintro e w8 ⟨rfl, hb⟩
                have HJ8 := Lib.hid (HJ7.out.keep hb)
                clear hb CB u0 u1
                go_wp2_with fail
                go_roundw
                case rel => exact ⟨m + 1, ps ++ [(s, q)], np + 1, a4, n4, c4, p4, m4, d4, y, by omega, by omega, by go_num, HJ8, HFY, HBD2, HIN2⟩
                case measure => simp [intOf]; omega
              · have HIN2 : Hid (∀ u, innS u y.sk = cameP u ps) := by
                  intro u
                  have h1 := HCM.out u
                  unfold cameA at h1
                  rw [if_neg (fun k => k.1.elim hk1 hk2)] at h1
                  rw [h1, hIN.out u]; omega
                have CF := Lib.hid (fit_any a4 n4 c4 p4 m4 d4 y true (fitB_iff.2 HFY.out) _ HJ2.out.bk (fit_szb (fitB_iff.2 HFY.out)))
                have hb1 : (kd == 1) = false := by simp [hk1]
                have hb2 : (kd == 2) = false := by simp [hk2]
                go_wp2_with fail
                refine CF.out.mono ?_
                rintro e w7 ⟨rfl, hb⟩
                have HJ7 := Lib.hid (HJ2.out.keep hb)
                clear hb CF
                have CB := Lib.hid (HJ7.out.bal HFY.out hBD.out (by omega) HIN2.out)
                obtain ⟨u0, u1⟩ := cells2 HJ7.out.box
                go_wp2_with fail
                refine CB.out.mono ?_
                rintro e w8 ⟨rfl, hb⟩
                have HJ8 := Lib.hid (HJ7.out.keep hb)
                clear hb CB u0 u1
                go_wp2_with fail
                go_roundw
                case rel => exact ⟨m + 1, ps, np, a4, n4, c4, p4, m4, d4, y, by omega, by omega, by go_num, HJ8, HFY, hBD, HIN2⟩
                case measure => simp [intOf]; omega
      · obtain rfl : m = len := by omega
        go_wp2_with fail
        refine (awake_any wr).mono ?_
        rintro e w9 ⟨rfl, hb⟩
        have HB9 := Lib.hid (Lines.below_keep hJ.out.bel hb hJ.out.bel.size)
        clear hb
        go_wp2_with fail
        go_ret
        exact ⟨rfl, HB9.out⟩
end Go.Proofs.Ytjclkiabgemfpaa.Ledger
