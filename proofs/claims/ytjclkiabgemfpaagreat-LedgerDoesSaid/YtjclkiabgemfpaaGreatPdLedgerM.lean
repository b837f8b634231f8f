/-
  How acts stand in memory; the contracts of FewActs and Few, and of the laws' own awake: the chapter's example.
-/
import Derived.Test.YtjclkiabgemfpaaGreatPdLedgerK
set_option linter.unusedVariables false
set_option maxRecDepth 4000
namespace Go.Proofs.YtjclkiabgemfpaaGreat.Ledger
open Go.RowKit LinesP HoldsP LedgerP
open StockP (Sk sk0 fitS Fit fitS_iff fromV turnV moveV turn_fit)
open Go.Proofs.YtjclkiabgemfpaaGreat.Lines (LsAt Sz SzM ret_bool ret_int below_keep below_drewN owns_form owns_cell owns_below fewV few_sz)
open Go.Proofs.YtjclkiabgemfpaaGreat.Holds (HsAt SzH SzMH hmf fewH fewH_sz)

abbrev Az := LedgerP.Act × Option Addr × Nat
def ac0 : LedgerP.Act := ⟨0, 0, 0, ByteArray.empty, []⟩
def az0 : Az := (ac0, none, 0)
def acts (zs : List Az) : List LedgerP.Act := zs.map (·.1)
theorem acts_len (zs : List Az) : (acts zs).length = zs.length := by simp [acts]
theorem acts_get {zs : List Az} {k : Nat} (hk : k < zs.length) : (acts zs).getD k ac0 = (zs.getD k az0).1 := by
  simp [acts, List.getD, hk]
def AzAt (w : World) (a : Option Addr) (len : Nat) (zs : List Az) : Prop :=
  zs.length = len ∧ len ≤ 9223372036854775807 ∧ (∀ z ∈ zs, LsAt w z.2.1 z.1.ls.length z.1.ls) ∧
  (len = 0 ∨ ∃ b off, a = some ⟨b, off, none⟩ ∧ b < w.heap.size ∧ ∀ i, i < len →
    w.cell? ⟨b, off + i * 5, none⟩ = some (.int .i64 (zs.getD i az0).1.kind) ∧ w.cell? ⟨b, off + i * 5 + 1, none⟩ = some (.int .i64 (zs.getD i az0).1.saga) ∧
    w.cell? ⟨b, off + i * 5 + 2, none⟩ = some (.int .i64 (zs.getD i az0).1.n) ∧ w.cell? ⟨b, off + i * 5 + 3, none⟩ = some (.string (zs.getD i az0).1.sku) ∧
    w.cell? ⟨b, off + i * 5 + 4, none⟩ = some (.slice (zs.getD i az0).2.1 (zs.getD i az0).1.ls.length (zs.getD i az0).2.2))
theorem AzAt.keep {w w' : World} {a : Option Addr} {len : Nat} {zs : List Az} (h : AzAt w a len zs) (hb : Below w.heap.size w w') : AzAt w' a len zs :=
  ⟨h.1, h.2.1, fun z hz => (h.2.2.1 z hz).keep hb, h.2.2.2.imp id (fun ⟨b, off, e, hlt, hc⟩ => ⟨b, off, e, by have := hb.size; omega, fun i hi =>
    ⟨(hb.cell (p := ⟨b, off + i * 5, none⟩) hlt).trans (hc i hi).1, (hb.cell (p := ⟨b, off + i * 5 + 1, none⟩) hlt).trans (hc i hi).2.1, (hb.cell (p := ⟨b, off + i * 5 + 2, none⟩) hlt).trans (hc i hi).2.2.1, (hb.cell (p := ⟨b, off + i * 5 + 3, none⟩) hlt).trans (hc i hi).2.2.2.1, (hb.cell (p := ⟨b, off + i * 5 + 4, none⟩) hlt).trans (hc i hi).2.2.2.2⟩⟩)⟩
def AsAt (w : World) (a : Option Addr) (len : Nat) (l : List LedgerP.Act) : Prop := ∃ zs, acts zs = l ∧ AzAt w a len zs
theorem AsAt.keep {w w' : World} {a : Option Addr} {len : Nat} {l : List LedgerP.Act} (h : AsAt w a len l) (hb : Below w.heap.size w w') : AsAt w' a len l :=
  h.imp fun _ ⟨e, k⟩ => ⟨e, k.keep hb⟩
theorem AsAt.len {w : World} {a : Option Addr} {len : Nat} {l : List LedgerP.Act} (h : AsAt w a len l) : l.length = len := by
  obtain ⟨zs, rfl, k⟩ := h
  rw [acts_len]; exact k.1
theorem AsAt.le {w : World} {a : Option Addr} {len : Nat} {l : List LedgerP.Act} (h : AsAt w a len l) : len ≤ 9223372036854775807 := by
  obtain ⟨zs, rfl, k⟩ := h
  exact k.2.1
theorem AsAt.at {w : World} {a : Option Addr} {len : Nat} {l : List LedgerP.Act} (h : AsAt w a len l) {k : Nat} (hk : k < len) :
    ∃ b off kd sg m s la lc ls, a = some ⟨b, off, none⟩ ∧ b < w.heap.size ∧ l.getD k ac0 = ⟨kd, sg, m, s, ls⟩ ∧ ∀ w', Below w.heap.size w w' →
      w'.cell? ⟨b, off + k * 5, none⟩ = some (.int .i64 kd) ∧ w'.cell? ⟨b, off + k * 5 + 1, none⟩ = some (.int .i64 sg) ∧ w'.cell? ⟨b, off + k * 5 + 2, none⟩ = some (.int .i64 m) ∧
      w'.cell? ⟨b, off + k * 5 + 3, none⟩ = some (.string s) ∧ w'.cell? ⟨b, off + k * 5 + 4, none⟩ = some (.slice la ls.length lc) ∧ LsAt w' la ls.length ls := by
  obtain ⟨zs, rfl, k1, k2, k3, k4⟩ := h
  rcases k4 with h0 | ⟨b, off, rfl, hlt, hc⟩
  · omega
  have hkz : k < zs.length := by omega
  have hm : zs.getD k az0 ∈ zs := by
    rw [show zs.getD k az0 = zs[k] by simp [List.getD, hkz]]; exact List.getElem_mem hkz
  have hl := k3 _ hm
  have hc1 := hc k hk
  rw [acts_get hkz]
  obtain ⟨⟨⟨kd, sg, m, s, ls⟩, la, lc⟩, hz⟩ : ∃ z, zs.getD k az0 = z := ⟨_, rfl⟩
  rw [hz] at hl hc1 ⊢
  exact ⟨b, off, kd, sg, m, s, la, lc, ls, rfl, hlt, rfl, fun w' hb => ⟨(hb.cell (p := ⟨b, off + k * 5, none⟩) hlt).trans hc1.1, (hb.cell (p := ⟨b, off + k * 5 + 1, none⟩) hlt).trans hc1.2.1, (hb.cell (p := ⟨b, off + k * 5 + 2, none⟩) hlt).trans hc1.2.2.1, (hb.cell (p := ⟨b, off + k * 5 + 3, none⟩) hlt).trans hc1.2.2.2.1, (hb.cell (p := ⟨b, off + k * 5 + 4, none⟩) hlt).trans hc1.2.2.2.2, hl.keep hb⟩⟩
/-! ### few acts -/
def fewOne (x : LedgerP.Act) : Bool := fewV x.ls && decide (x.sku.size ≤ 60)
def shortA (l : List LedgerP.Act) : Bool := l.all fewOne
def fewA (m : Nat) (l : List LedgerP.Act) : Bool := shortA (l.take m) && decide (l.length ≤ m)
def SzMA (l : List LedgerP.Act) : Prop := ∀ x ∈ l, SzM x.ls ∧ x.sku.size ≤ 9223372036854775807
theorem amem_getD {l : List LedgerP.Act} {k : Nat} (hk : k < l.length) : l.getD k ac0 ∈ l := by
  rw [show l.getD k ac0 = l[k] by simp [List.getD, hk]]; exact List.getElem_mem hk
theorem take_snocA {l : List LedgerP.Act} {k : Nat} {x : LedgerP.Act} (hk : k < l.length) (hx : l.getD k ac0 = x) : l.take (k + 1) = l.take k ++ [x] := by
  rw [List.take_succ_eq_append_getElem hk, ← hx]; simp [List.getD, hk]
theorem shortA_snoc {l : List LedgerP.Act} {x : LedgerP.Act} {k : Nat} (hk : k < l.length) (hx : l.getD k ac0 = x) (h : shortA (l.take k) = true) (hq : fewOne x = true) : shortA (l.take (k + 1)) = true := by
  unfold shortA at h ⊢
  rw [take_snocA hk hx, List.all_append, h]; simp [hq]
theorem fewA_no {l : List LedgerP.Act} {x : LedgerP.Act} {k m : Nat} (hk : k < l.length) (hm : k < m) (hx : l.getD k ac0 = x) (hq : fewOne x = false) : fewA m l = false := by
  unfold fewA
  have hmem : x ∈ l.take m := by
    rw [List.mem_take_iff_getElem]
    exact ⟨k, by omega, by rw [← hx]; simp [List.getD, hk]⟩
  have : shortA (l.take m) = false := by
    cases hs : shortA (l.take m) with
    | false => rfl
    | true => unfold shortA at hs; rw [List.all_eq_true] at hs; rw [hs x hmem] at hq; cases hq
  rw [this]; rfl
theorem fewA_end {l : List LedgerP.Act} {k m : Nat} (hk : k = l.length ∧ k ≤ m ∨ k = m) (h : shortA (l.take k) = true) : fewA m l = decide (l.length ≤ m) := by
  unfold fewA
  have : shortA (l.take m) = true := by
    rcases hk with ⟨hk, hm⟩ | rfl
    · rw [List.take_of_length_le (by omega)]; rw [List.take_of_length_le (by omega)] at h; exact h
    · exact h
  rw [this]; rfl
theorem fewA_mem {m : Nat} {l : List LedgerP.Act} (h : fewA m l = true) (hs : SzMA l) : l.length ≤ m ∧ ∀ x ∈ l, x.ls.length ≤ 8 ∧ Sz x.ls ∧ x.sku.size ≤ 60 := by
  unfold fewA at h
  rw [Bool.and_eq_true, decide_eq_true_eq] at h
  refine ⟨h.2, fun x hx => ?_⟩
  have h1 := h.1
  rw [List.take_of_length_le h.2] at h1
  unfold shortA at h1
  have h2 := List.all_eq_true.1 h1 x hx
  unfold fewOne at h2
  rw [Bool.and_eq_true, decide_eq_true_eq] at h2
  have h3 := few_sz h2.1 (hs x hx).1
  exact ⟨h3.1, h3.2, h2.2⟩
set_option maxHeartbeats 2000000 in
theorem fewacts_any (a : Option Addr) (len cap : Nat) (l : List LedgerP.Act) (m : Nat) (w : World) (h : AsAt w a len l) (hs : SzMA l) (hm100 : m ≤ 100) :
    Calls Tryz.prog 6 #[.slice a len cap, .int .i64 (m : Int)] w fun e w' => e = .returned (.bool (fewA m l)) ∧ Below w.heap.size w w' := by
  have HX := Lib.hid h
  have HS := Lib.hid hs
  obtain ⟨v, hv⟩ : ∃ v, fewA m l = v := ⟨_, rfl⟩
  rw [hv]
  have HV := Lib.hid hv
  have hl := h.le
  clear hv h hs
  go_enter Tryz.func6, Tryz.ntmps6
  go_wp2_with fail
  go_loopw [5] (fun i wr => ∃ k : Nat, k ≤ len ∧ k ≤ m ∧ i = .int .i64 (k : Int) ∧ Hid (shortA (l.take k) = true) ∧ Hid (Below w.heap.size w wr)) (fun i _ => len - (intOf i).toNat)
  case atStart => exact ⟨0, Nat.zero_le _, Nat.zero_le _, rfl, Lib.hid rfl, Below.refl _ _⟩
  case round =>
    obtain ⟨k, hk, hkm, rfl, hF, hB⟩ := hrel
    by_cases hlk : k < len
    · by_cases hm : k < m
      · have hkx : k < l.length := by rw [HX.out.len]; exact hlk
        obtain ⟨b1, o1, kd, sg, q, s, la, lc, ls, rfl, g1, hp, hc1⟩ := HX.out.at hlk
        have hsz := HS.out _ (amem_getD hkx)
        rw [hp] at hsz
        have hss := hsz.2
        simp only at hss
        obtain ⟨_, _, _, d3, d4, dL⟩ := hc1 wr hB.out
        obtain ⟨n, hn⟩ : ∃ n, ls.length = n := ⟨_, rfl⟩
        rw [hn] at d4 dL
        have HC1 := Lib.hid hc1
        clear hn hc1
        cases hq : fewV ls with
        | false =>
          have C := Lib.hid (Holds.rfewL_is la n lc ls false hq wr dL hsz.1)
          have HNO : Hid (v = false) := by show v = _; rw [← HV.out]; exact fewA_no hkx hm hp (by unfold fewOne; rw [hq]; rfl)
          clear hkx hp hF dL hsz hq
          go_wp2_with fail
          refine C.out.mono ?_
          rintro e w1 ⟨rfl, hb⟩
          have HB1 := Lib.hid (below_keep hB.out hb hB.out.size)
          go_wp2_with fail
          go_ret
          exact ⟨ret_bool HNO.out, HB1.out⟩
        | true =>
          have C := Lib.hid (Holds.rfewL_is la n lc ls true hq wr dL hsz.1)
          by_cases h60 : s.size ≤ 60
          · have HF2 : Hid (shortA (l.take (k + 1)) = true) := shortA_snoc hkx hp hF.out (by unfold fewOne; rw [hq, decide_eq_true h60]; rfl)
            have h60' : ¬ ((s.size : Int) > 60) := by omega
            have h60'' : ¬ ((60 : Int) < (s.size : Int)) := by omega
            clear hkx hp hF dL hsz hq
            go_wp2_with fail
            refine C.out.mono ?_
            rintro e w1 ⟨rfl, hb⟩
            have HB1 := Lib.hid (below_keep hB.out hb hB.out.size)
            have d3' := (HC1.out w1 HB1.out).2.2.2.1
            go_wp2_with fail
            go_roundw
            case rel => exact ⟨k + 1, by omega, by omega, by go_num, HF2, HB1⟩
            case measure => simp [intOf]; omega
          · have HNO : Hid (v = false) := by show v = _; rw [← HV.out]; exact fewA_no hkx hm hp (by unfold fewOne; rw [decide_eq_false h60, Bool.and_false])
            have h60' : ((60 : Int) < (s.size : Int)) := by omega
            clear hkx hp hF dL hsz hq
            go_wp2_with fail
            refine C.out.mono ?_
            rintro e w1 ⟨rfl, hb⟩
            have HB1 := Lib.hid (below_keep hB.out hb hB.out.size)
            have d3' := (HC1.out w1 HB1.out).2.2.2.1
            go_wp2_with fail
            go_ret
            exact ⟨ret_bool HNO.out, HB1.out⟩
      · obtain rfl : k = m := by omega
        have HNO : Hid (v = false) := by
          show v = _
          rw [← HV.out, fewA_end (.inr rfl) hF.out, HX.out.len]
          exact decide_eq_false (by omega)
        have HD : Hid (false = decide (len ≤ k)) := (decide_eq_false (by omega)).symm
        go_wp2_with fail
        go_ret
        exact ⟨ret_bool (HNO.out.trans HD.out), hB.out⟩
    · obtain rfl : k = len := by omega
      have HE : Hid (v = true) := by show v = _; rw [← HV.out, fewA_end (.inl ⟨HX.out.len.symm, hkm⟩) hF.out, HX.out.len]; exact decide_eq_true hkm
      go_wp2_with fail
      go_ret
      exact ⟨ret_bool HE.out, hB.out⟩
/-! ### a book that is small -/
def shortS (l : List Sk) : Bool := l.all fun x => decide (x.nm.size ≤ 60)
def fewB (b : Bk) : Bool := shortS (b.sk.take 16) && (decide (b.sk.length ≤ 16) && fewH b.hd)
structure SzMB (b : Bk) : Prop where
  sk : ∀ x ∈ b.sk, x.nm.size ≤ 9223372036854775807
  hd : SzMH b.hd
theorem take_snocS {l : List Sk} {k : Nat} {x : Sk} (hk : k < l.length) (hx : l.getD k sk0 = x) : l.take (k + 1) = l.take k ++ [x] := by
  rw [List.take_succ_eq_append_getElem hk, ← hx]; simp [List.getD, hk]
theorem fewB_szb {b : Bk} (h : fewB b = true) (hm : SzMB b) : SzB b ∧ b.sk.length ≤ 16 ∧ b.hd.length ≤ 20 := by
  unfold fewB at h
  rw [Bool.and_eq_true, Bool.and_eq_true, decide_eq_true_eq] at h
  obtain ⟨h1, h2, h3⟩ := h
  obtain ⟨h4, h5, h6⟩ := fewH_sz h3 hm.hd
  refine ⟨⟨fun x hx => ?_, h5, fun x hx => by have := h6 x hx; omega, by omega, by omega⟩, h2, h4⟩
  rw [List.take_of_length_le h2] at h1
  unfold shortS at h1
  have := of_decide_eq_true (List.all_eq_true.1 h1 x hx)
  omega
theorem hfew_is (a : Option Addr) (len cap : Nat) (l : List Hd) (v : Bool) (hv : fewH l = v) (w : World) (h : HsAt w a len l) (hs : SzMH l) :
    Calls Tryz.prog 18 #[.slice a len cap] w fun e w' => e = .returned (.bool v) ∧ Below w.heap.size w w' := by
  have := Holds.rfew_any a len cap l w h hs
  rw [hv] at this
  exact this
set_option maxHeartbeats 2000000 in
theorem few_any (a : Option Addr) (len cap : Nat) (a2 : Option Addr) (len2 cap2 : Nat) (b : Bk) (v : Bool) (hv : fewB b = v) (w : World) (h : BkAt w a len a2 len2 cap2 b) (hs : SzMB b) :
    Calls Tryz.prog 5 #[.agg #[.slice a len cap, .slice a2 len2 cap2]] w fun e w' => e = .returned (.bool v) ∧ Below w.heap.size w w' := by
  have HX := Lib.hid h
  have HS := Lib.hid hs
  have HV := Lib.hid hv
  have hl := h.sk.2.1
  have hbel : Below w.heap.size w (w.alloc (.cells #[.slice a len cap, .slice a2 len2 cap2] 25)) := (Below.refl _ w).alloc (Nat.le_refl _) _
  have k0 : (w.alloc (.cells #[.slice a len cap, .slice a2 len2 cap2] 25)).cell? ⟨w.heap.size, 0, none⟩ = some (.slice a len cap) := by rw [World.cell?_alloc_new]; rfl
  have k1 : (w.alloc (.cells #[.slice a len cap, .slice a2 len2 cap2] 25)).cell? ⟨w.heap.size, 1, none⟩ = some (.slice a2 len2 cap2) := by rw [World.cell?_alloc_new]; rfl
  have hs0 : w.heap.size < (w.alloc (.cells #[.slice a len cap, .slice a2 len2 cap2] 25)).heap.size := by rw [World.size_alloc]; omega
  obtain ⟨w0, hw0⟩ : ∃ w0, w.alloc (.cells #[.slice a len cap, .slice a2 len2 cap2] 25) = w0 := ⟨_, rfl⟩
  rw [hw0] at hbel k0 k1 hs0
  have HW := Lib.hid hw0; have HBEL := Lib.hid hbel
  have CF := Lib.hid (fun v hv => hfew_is a2 len2 cap2 b.hd v hv w0 (h.hd.keep hbel) hs.hd)
  clear hv h hs hw0 hs0
  go_enter Tryz.func5, Tryz.ntmps5
  go_wp2_with fail
  rw [show w.alloc (.cells #[.slice a len cap, .slice a2 len2 cap2] 25) = w0 from HW.out]
  go_wp2_with fail
  go_loopw [3] (fun i wr => ∃ k : Nat, k ≤ len ∧ k ≤ 16 ∧ i = .int .i64 (k : Int) ∧ Hid (shortS (b.sk.take k) = true) ∧ wr = w0) (fun i _ => len - (intOf i).toNat)
  case atStart => exact ⟨0, Nat.zero_le _, Nat.zero_le _, rfl, Lib.hid rfl, rfl⟩
  case round =>
    obtain ⟨k, hk, hk16, rfl, hF, rfl⟩ := hrel
    by_cases hlk : k < len
    · by_cases h16 : k < 16
      · have hkx : k < b.sk.length := by rw [HX.out.sk.1]; exact hlk
        obtain ⟨b1, o1, s, x0, x1, x2, x3, x4, rfl, g1, hp, hc1⟩ := HX.out.sk.at hlk
        have hsz := HS.out.sk _ (smem_getD hkx)
        rw [hp] at hsz
        simp only at hsz
        obtain ⟨d0, _, _, _, _, _⟩ := hc1 wr HBEL.out
        clear hc1
        by_cases h60 : s.size ≤ 60
        · have HF2 : Hid (shortS (b.sk.take (k + 1)) = true) := by
            show shortS (b.sk.take (k + 1)) = true
            have h1 := hF.out
            unfold shortS at h1 ⊢
            rw [take_snocS hkx hp, List.all_append, h1]; simp [h60]
          have h60'' : ¬ ((60 : Int) < (s.size : Int)) := by omega
          clear hkx hp hF
          go_wp2_with fail
          go_roundw
          case rel => exact ⟨k + 1, by omega, by omega, by go_num, HF2, by trivial⟩
          case measure => simp [intOf]; omega
        · have HNO : Hid (v = false) := by
            show v = _
            rw [← HV.out]
            unfold fewB
            have hmem : (⟨s, x0, x1, x2, x3, x4⟩ : Sk) ∈ b.sk.take 16 := by
              rw [List.mem_take_iff_getElem]
              exact ⟨k, by omega, by rw [← hp]; simp [List.getD, hkx]⟩
            have hsf : shortS (b.sk.take 16) = false := by
              cases hq : shortS (b.sk.take 16) with
              | false => rfl
              | true => unfold shortS at hq; exact absurd (of_decide_eq_true (List.all_eq_true.1 hq _ hmem)) h60
            rw [hsf]; rfl
          have h60' : ((60 : Int) < (s.size : Int)) := by omega
          clear hkx hp hF
          go_wp2_with fail
          go_ret
          exact ⟨ret_bool HNO.out, HBEL.out⟩
      · obtain rfl : k = 16 := by omega
        have HNO : Hid (v = false) := by
          show v = _
          rw [← HV.out]
          unfold fewB
          rw [decide_eq_false (by rw [HX.out.sk.1]; omega)]; simp
        have hle : ¬ ((len : Int) ≤ 16) := by omega
        go_wp2_with fail
        go_ret
        exact ⟨ret_bool HNO.out, HBEL.out⟩
    · obtain rfl : k = len := by omega
      have hE : fewH b.hd = v := by
        rw [← HV.out]
        unfold fewB
        have h1 := hF.out
        rw [List.take_of_length_le (by rw [HX.out.sk.1]; exact Nat.le_refl _)] at h1
        rw [decide_eq_true (by rw [HX.out.sk.1]; exact hk16), List.take_of_length_le (by rw [HX.out.sk.1]; exact hk16), h1]; rfl
      have C := Lib.hid (CF.out v hE)
      have hle : ((k : Int) ≤ 16) := by omega
      clear hE
      go_wp2_with fail
      refine C.out.mono ?_
      rintro e w1 ⟨rfl, hb⟩
      have HB1 := Lib.hid (below_keep HBEL.out hb HBEL.out.size)
      clear hb
      go_wp2_with fail
      go_ret
      exact ⟨rfl, HB1.out⟩
end Go.Proofs.YtjclkiabgemfpaaGreat.Ledger

/-
  The contract of the laws' own awake: the chapter's example.
-/
set_option linter.unusedVariables false
set_option maxRecDepth 4000
namespace Go.Proofs.YtjclkiabgemfpaaGreat.Ledger
open Go.RowKit LinesP HoldsP LedgerP
open StockP (Sk sk0 fitS Fit fitS_iff fromV turnV moveV turn_fit)
open Go.Proofs.YtjclkiabgemfpaaGreat.Lines (LsAt Sz SzM ret_bool ret_int below_keep below_drewN owns_form owns_cell owns_below)
open Go.Proofs.YtjclkiabgemfpaaGreat.Holds (HsAt SzH SzMH hmf)

theorem eql_sku (s t : ByteArray) (x0 x1 x2 x3 x4 y0 y1 y2 y3 y4 : Int) (w : World) : (binOp .eql 41 (sv s x0 x1 x2 x3 x4) (sv t y0 y1 y2 y3 y4)).run Tryz.prog w = .ok (.bool (eqS ⟨s, x0, x1, x2, x3, x4⟩ ⟨t, y0, y1, y2, y3, y4⟩)) w := by
  have hS : Tryz.prog.underlying 41 = some (.struct (Tryz.prog.fieldsOf 41)) := by kernel_rfl
  have hp : Tryz.prog.stoodInHeld 41 = false := by kernel_rfl
  have u3 := Tryz.underlying3
  have u9 := Tryz.underlying9
  have a3 := Tryz.isAgg3
  have a9 := Tryz.isAgg9
  have z3 := Tryz.sizeOf3
  have z9 := Tryz.sizeOf9
  rw [run_eql_struct, show (10000 : Nat) = 9999 + 1 from rfl, run_equalIn_agg w 9999 41 _ _ hS hp]
  simp only [Program.fieldsOf, Tryz.underlying41]
  go_simp
  unfold eqS
  by_cases h0 : s.toList = t.toList
  · by_cases h1 : x0 = y0
    · by_cases h2 : x1 = y1
      · by_cases h3 : x2 = y2
        · by_cases h4 : x3 = y3
          · by_cases h5 : x4 = y4 <;> simp [h0, h1, h2, h3, h4, h5]
          · simp [h0, h1, h2, h3, h4]
        · simp [h0, h1, h2, h3]
      · simp [h0, h1, h2]
    · simp [h0, h1]
  · simp [h0]
theorem guard_eql (x y : Operand) (s t : ByteArray) (x0 x1 x2 x3 x4 y0 y1 y2 y3 y4 : Int) (w : World) : (eqGuard .eql 41 x y (sv s x0 x1 x2 x3 x4) (sv t y0 y1 y2 y3 y4)).run Tryz.prog w = .ok () w := run_eqGuard_agg w _ _ _ _ _ _ (by kernel_rfl)
def tea : ByteArray := ⟨#[116, 101, 97]⟩
def e1 : Bk × Int := restockB bk0 tea 5
def e2 : Bk × Int := heldB e1.1 1 [(tea, 3)] 0 1
def e3 : Bk × Int := dropB e2.1 1 3
def e4 : Bk × Int := sendB e3.1 [(tea, 3)]
def e5 : Bk × Int := heldB e1.1 1 [(tea, 6)] 0 1
theorem ex1 : e1.2 = 0 ∧ fitB e1.1 = true := by decide +kernel
theorem ex2 : e2.2 = 0 ∧ fitB e2.1 = true ∧ e2.1.hd.length = 1 := by decide +kernel
theorem ex3 : e3.2 = 0 ∧ fitB e3.1 = true ∧ e3.1.hd.length = 0 := by decide +kernel
theorem ex4 : e4.2 = 0 ∧ fitB e4.1 = true ∧ (findS tea e4.1.sk).map (fun x => (x.nm, x.hand, x.held, x.kept, x.sent, x.inn)) = some (tea, 2, 0, 0, 3, 5) := by decide +kernel
theorem ex5 : e5.2 = 6 := by decide +kernel
theorem ex6 : findS tea e4.1.sk = some ⟨tea, 2, 0, 0, 3, 5⟩ := by
  have h := ex4.2.2
  cases hq : findS tea e4.1.sk with
  | none => rw [hq] at h; cases h
  | some x =>
    rw [hq] at h
    simp only [Option.map_some, Option.some.injEq, Prod.mk.injEq] at h
    obtain ⟨h0, h1, h2, h3, h4, h5⟩ := h
    rw [show x = ⟨tea, 2, 0, 0, 3, 5⟩ from StockP.sk_ext h0 h1 h2 h3 h4 h5]
theorem sz_tea (n : Int) (h : 0 ≤ n ∧ n ≤ 10) : Sz [(tea, n)] := by
  intro x hx
  rw [List.mem_singleton.1 hx]
  exact ⟨by show tea.size ≤ 300; decide, by show -9223372036854775808 ≤ n; omega, by show n ≤ 9223372036854775807; omega⟩
theorem ls_tea (n : Int) (w : World) : LsAt (w.alloc (.cells #[.string tea, .int .i64 n] 54)) (some ⟨w.heap.size, 0, none⟩) 1 [(tea, n)] := by
  refine ⟨rfl, by omega, .inr ⟨w.heap.size, 0, rfl, by simp, fun i hi => ?_⟩⟩
  obtain rfl : i = 0 := by omega
  constructor
  · rw [World.cell?_alloc_new]; rfl
  · rw [World.cell?_alloc_new]; rfl
structure Bx2 (w w' : World) (k : Nat) (a : Option Addr) (n c : Nat) (a2 : Option Addr) (n2 c2 : Nat) (b : Bk) : Prop where
  bel : Below w.heap.size w w'
  box : At2 w' k (.slice a n c) (.slice a2 n2 c2)
  bk : BkAt w' a n a2 n2 c2 b
theorem Bx2.keep {w w' w2 : World} {k : Nat} {a : Option Addr} {n c : Nat} {a2 : Option Addr} {n2 c2 : Nat} {b : Bk} (h : Bx2 w w' k a n c a2 n2 c2 b) (hb : Below w'.heap.size w' w2) : Bx2 w w2 k a n c a2 n2 c2 b :=
  ⟨h.bel.trans (hb.mono h.bel.size), (hb.block k (heap_lt h.box)).trans h.box, h.bk.keep hb⟩
theorem bx2_new {w w' : World} {a : Option Addr} {n c : Nat} {a2 : Option Addr} {n2 c2 : Nat} {b : Bk} (hb : Below w.heap.size w w') (h : BkAt w' a n a2 n2 c2 b) : Bx2 w (w'.alloc (.cells #[.slice a n c, .slice a2 n2 c2] 33)) w'.heap.size a n c a2 n2 c2 b :=
  ⟨hb.alloc hb.size _, heap_alloc_new w' _, h.keep ((Below.refl _ w').alloc (Nat.le_refl _) _)⟩
theorem bx2_after {w w1 w2 : World} {k : Nat} {a : Option Addr} {n c : Nat} {a2 : Option Addr} {n2 c2 : Nat} {b : Bk} (h : Bx2 w w1 k a n c a2 n2 c2 b) (hb : Below w1.heap.size w1 w2) (o : Obj) : Bx2 w (w2.alloc o) k a n c a2 n2 c2 b :=
  h.keep (Lines.below_keep hb ((Below.refl _ w2).alloc (Nat.le_refl _) o) hb.size)
def BookE (w : World) (b : Bk) (er : Int) (e : Ending) (w' : World) : Prop :=
  ∃ a n c a2 n2 c2, e = .returned (.tuple #[.agg #[.slice a n c, .slice a2 n2 c2], .int .i64 er]) ∧ BkAt w' a n a2 n2 c2 b ∧ Below w.heap.size w w'
theorem book_e {w : World} {b : Bk} {er : Int} {r : Bk × Int} {f : FuncId} {args : Array Value} (hr : r = (b, er)) (h : Calls Tryz.prog f args w (BookR w r)) : Calls Tryz.prog f args w (BookE w b er) := by
  subst hr; exact h
set_option maxHeartbeats 4000000 in
theorem awake_any (w : World) : Calls Tryz.prog 7 #[] w fun e w' => e = .returned (.bool true) ∧ Below w.heap.size w w' := by
  have hb0 : Below w.heap.size w (w.alloc (.cells #[.string tea, .int .i64 3] 54)) := (Below.refl _ w).alloc (Nat.le_refl _) _
  have C1 := Lib.hid (restock_any none 0 0 none 0 0 bk0 tea 5 (w.alloc (.cells #[.string tea, .int .i64 3] 54)) ⟨SkAt.nil _ _, HsAt.nil _ _, Nat.le_refl _⟩ (fit_szb (by decide +kernel)) (by decide))
  have H0 := Lib.hid hb0
  have HL := Lib.hid (ls_tea 3 w)
  have HE1 : Hid (restockB bk0 tea 5 = (e1.1, 0)) := by show restockB bk0 tea 5 = _; rw [← ex1.1]; rfl
  have HE2 : Hid (heldB e1.1 1 [(tea, 3)] 0 1 = (e2.1, 0)) := by show heldB e1.1 1 [(tea, 3)] 0 1 = _; rw [← ex2.1]; rfl
  have HE3 : Hid (dropB e2.1 1 3 = (e3.1, 0)) := by show dropB e2.1 1 3 = _; rw [← ex3.1]; rfl
  have HE4 : Hid (sendB e3.1 [(tea, 3)] = (e4.1, 0)) := by show sendB e3.1 [(tea, 3)] = _; rw [← ex4.1]; rfl
  have HE5 : Hid (heldB e1.1 1 [(tea, 6)] 0 1 = (e5.1, 6)) := by show heldB e1.1 1 [(tea, 6)] 0 1 = _; rw [← ex5]; rfl
  have S1 := Lib.hid (fit_szb ex1.2); have S2 := Lib.hid (fit_szb ex2.2.1); have S3 := Lib.hid (fit_szb ex3.2.1); have S4 := Lib.hid (fit_szb ex4.2.1)
  have L2 := Lib.hid ex2.2.2; have L3 := Lib.hid ex3.2.2; have X6 := Lib.hid ex6
  have HNE := Lib.hid (fun w => eql_sku tea tea 2 0 0 3 5 2 0 0 3 5 w)
  have hgd := fun x y w => guard_eql x y tea tea 2 0 0 3 5 2 0 0 3 5 w
  have hT : Hid (tea = ⟨#[116, 101, 97]⟩) := rfl
  have Z3 := Lib.hid (sz_tea 3 (by decide)); have Z6 := Lib.hid (sz_tea 6 (by decide))
  have L6 := Lib.hid (fun w => ls_tea 6 w)
  generalize e5.1 = b5 at HE5
  generalize e4.1 = b4 at HE4 S4 X6
  generalize e3.1 = b3 at HE3 HE4 S3 L3
  generalize e2.1 = b2 at HE2 HE3 S2 L2
  generalize e1.1 = b1 at HE1 HE2 HE5 S1
  clear hb0
  have C1 := Lib.hid (book_e HE1.out C1.out)
  unfold sv at HNE hgd
  rw [show eqS ⟨tea, 2, 0, 0, 3, 5⟩ ⟨tea, 2, 0, 0, 3, 5⟩ = true from eqS_iff.2 rfl] at HNE
  have hneq := HNE.out
  generalize htt : tea = tt at *
  have htt2 : (⟨#[116, 101, 97]⟩ : ByteArray) = tt := htt
  have HTT2 := Lib.hid htt2
  go_enter Tryz.func7, Tryz.ntmps7
  rw [htt2]
  clear htt htt2 HNE
  go_wp2_with fail
  refine C1.out.mono ?_
  rintro e w1 ⟨a1, n1, c1, p1, m1, d1, rfl, hbk, hb⟩
  have B1 := Lib.hid (bx2_new (c := c1) (Lines.below_keep H0.out hb H0.out.size) hbk)
  have HL1 := Lib.hid ((HL.out.keep hb).keep ((Below.refl _ w1).alloc (Nat.le_refl _) (.cells #[.slice a1 n1 c1, .slice p1 m1 d1] 33)))
  clear hbk hb
  have C2 := Lib.hid (book_e HE2.out (hold_any a1 n1 c1 p1 m1 d1 b1 1 0 _ 1 1 [(tt, 3)] _ B1.out.bk S1.out HL1.out Z3.out (by decide)))
  obtain ⟨q0, q1⟩ := cells2 B1.out.box
  go_wp2_with fail
  refine C2.out.mono ?_
  rintro e w2 ⟨a2, n2, c2, p2, m2, d2, rfl, hbk, hb⟩
  have B2 := Lib.hid (bx2_new (c := c2) (Lines.below_keep B1.out.bel hb B1.out.bel.size) hbk)
  have B12 := Lib.hid (bx2_after B1.out hb (.cells #[.slice a2 n2 c2, .slice p2 m2 d2] 33))
  have HL2 := Lib.hid ((HL1.out.keep hb).keep ((Below.refl _ w2).alloc (Nat.le_refl _) (.cells #[.slice a2 n2 c2, .slice p2 m2 d2] 33)))
  have hm2 : p2 = p2 ∧ m2 = 1 := ⟨rfl, by rw [← hbk.hd.len]; exact L2.out⟩
  obtain ⟨_, rfl⟩ := hm2
  clear hbk hb q0 q1
  have C3 := Lib.hid (book_e HE3.out (keep_any a2 n2 c2 p2 1 d2 b2 1 _ B2.out.bk S2.out))
  obtain ⟨q0, q1⟩ := cells2 B2.out.box
  go_wp2_with fail
  refine C3.out.mono ?_
  rintro e w3 ⟨a3, n3, c3, p3, m3, d3, rfl, hbk, hb⟩
  have B3 := Lib.hid (bx2_new (c := c3) (Lines.below_keep B2.out.bel hb B2.out.bel.size) hbk)
  have B13 := Lib.hid (bx2_after B12.out hb (.cells #[.slice a3 n3 c3, .slice p3 m3 d3] 33))
  have B23 := Lib.hid (bx2_after B2.out hb (.cells #[.slice a3 n3 c3, .slice p3 m3 d3] 33))
  have HL3 := Lib.hid ((HL2.out.keep hb).keep ((Below.refl _ w3).alloc (Nat.le_refl _) (.cells #[.slice a3 n3 c3, .slice p3 m3 d3] 33)))
  have hm3 : p3 = p3 ∧ m3 = 0 := ⟨rfl, by rw [← hbk.hd.len]; exact L3.out⟩
  obtain ⟨_, rfl⟩ := hm3
  clear hbk hb q0 q1
  have C4 := Lib.hid (book_e HE4.out (send_any a3 n3 c3 p3 0 d3 b3 _ 1 1 [(tt, 3)] _ B3.out.bk S3.out HL3.out Z3.out (by decide)))
  obtain ⟨q0, q1⟩ := cells2 B3.out.box
  go_wp2_with fail
  refine C4.out.mono ?_
  rintro e w4 ⟨a4, n4, c4, p4, m4, d4, rfl, hbk, hb⟩
  have B4 := Lib.hid (bx2_new (c := c4) (Lines.below_keep B3.out.bel hb B3.out.bel.size) hbk)
  have B14 := Lib.hid (bx2_after B13.out hb (.cells #[.slice a4 n4 c4, .slice p4 m4 d4] 33))
  have B24 := Lib.hid (bx2_after B23.out hb (.cells #[.slice a4 n4 c4, .slice p4 m4 d4] 33))
  have B34 := Lib.hid (bx2_after B3.out hb (.cells #[.slice a4 n4 c4, .slice p4 m4 d4] 33))
  clear hbk hb q0 q1
  have hw4 := L6.out (w4.alloc (.cells #[.slice a4 n4 c4, .slice p4 m4 d4] 33))
  rw [World.size_alloc] at hw4
  have HW4 := Lib.hid hw4
  clear hw4
  have hal := (Below.refl _ (w4.alloc (.cells #[.slice a4 n4 c4, .slice p4 m4 d4] 33))).alloc (Nat.le_refl _) (.cells #[.string tt, .int .i64 6] 54)
  have D1 := Lib.hid (B14.out.keep hal); have D2 := Lib.hid (B24.out.keep hal); have D3 := Lib.hid (B34.out.keep hal); have D4 := Lib.hid (B4.out.keep hal)
  clear hal
  have C5 := Lib.hid (book_e HE5.out (hold_any a1 n1 c1 p1 m1 d1 b1 1 0 _ 1 1 [(tt, 6)] _ D1.out.bk S1.out HW4.out Z6.out (by decide)))
  obtain ⟨q0, q1⟩ := cells2 B14.out.box
  go_wp2_with fail
  refine C5.out.mono ?_
  rintro e w5 ⟨a5, n5, c5, p5, m5, d5, rfl, hbk, hb⟩
  have F2 := Lib.hid (bx2_after D2.out hb (.cells #[.slice a5 n5 c5, .slice p5 m5 d5] 33))
  have F3 := Lib.hid (bx2_after D3.out hb (.cells #[.slice a5 n5 c5, .slice p5 m5 d5] 33))
  have F4 := Lib.hid (bx2_after D4.out hb (.cells #[.slice a5 n5 c5, .slice p5 m5 d5] 33))
  clear hbk hb q0 q1
  have C6 := Lib.hid (find_any a4 n4 c4 p4 m4 d4 b4 tt _ X6.out _ F4.out.bk.sk)
  obtain ⟨q0, q1⟩ := cells2 F4.out.box
  unfold skV getS at C6
  go_wp2_with fail
  refine C6.out.mono ?_
  rintro e w6 ⟨rfl, hb⟩
  have G2 := Lib.hid (bx2_after F2.out hb (.cells #[.string tt, .int .i64 2, .int .i64 0, .int .i64 0, .int .i64 3, .int .i64 5] 41))
  have G3 := Lib.hid (bx2_after F3.out hb (.cells #[.string tt, .int .i64 2, .int .i64 0, .int .i64 0, .int .i64 3, .int .i64 5] 41))
  clear hb q0 q1
  simp only [Option.getD_some, Option.isSome_some]
  obtain ⟨u0, u1⟩ := cells2 G2.out.box
  obtain ⟨v0, v1⟩ := cells2 G3.out.box
  go_wp2_with fail
  go_ret
  exact ⟨rfl, G3.out.bel⟩
end Go.Proofs.YtjclkiabgemfpaaGreat.Ledger

/-
  The contracts of the document's place, Find and Same, and of the law's same; what was there stays as it was.
-/
set_option linter.unusedVariables false
set_option maxRecDepth 4000
namespace Go.Proofs.YtjclkiabgemfpaaGreat.Ledger
open Go.RowKit LinesP HoldsP LedgerP
open StockP (Sk sk0 fitS Fit fitS_iff fromV turnV moveV turn_fit)
open Go.Proofs.YtjclkiabgemfpaaGreat.Lines (LsAt Sz SzM ret_bool ret_int below_keep below_drewN owns_form owns_cell owns_below)
open Go.Proofs.YtjclkiabgemfpaaGreat.Holds (HsAt SzH SzMH hmf eqH)

theorem cmp_or (t s : ByteArray) : (t.toList == s.toList) = true ∨ (t.toList == s.toList) = false := by cases (t.toList == s.toList) <;> simp
set_option maxHeartbeats 2000000 in
theorem rplace_any (a : Option Addr) (len cap : Nat) (l : List Sk) (s : ByteArray) (v : Int) (hv : ixS s 0 l = v) (w : World) (h : SkAt w a len l) :
    Calls Tryz.prog 35 #[.slice a len cap, .string s] w fun e w' => e = .returned (.int .i64 v) ∧ Below w.heap.size w w' := by
  have hl := h.2.1
  have HX := Lib.hid h
  have HV := Lib.hid hv
  clear h hv
  go_enter Tryz.func35, Tryz.ntmps35
  go_wp2_with fail
  go_loopw [5] (fun i wr => ∃ k : Nat, k ≤ len ∧ i = .int .i64 (k : Int) ∧ Hid (v = ixS s k (l.drop k)) ∧ Hid (Below w.heap.size w wr)) (fun i _ => len - (intOf i).toNat)
  case atStart => exact ⟨0, Nat.zero_le _, rfl, HV.out.symm, Below.refl _ w⟩
  case round =>
    obtain ⟨k, hk, rfl, hd, hB⟩ := hrel
    by_cases hlk : k < len
    · have hkx : k < l.length := by rw [HX.out.1]; exact hlk
      obtain ⟨b1, o1, t, x0, x1, x2, x3, x4, rfl, g1, hp, hc1⟩ := HX.out.at hlk
      obtain ⟨d0, d1, d2, d3, d4, d5⟩ := hc1 wr hB.out
      clear hc1 g1
      rcases cmp_or t s with hcmp | hcmp
      · have HD := Lib.hid (hd.out.trans (ixS_yes hkx hp hcmp))
        clear hd hp hkx
        go_wp2_with fail
        go_ret
        exact ⟨ret_int HD.out, hB.out⟩
      · have HD := Lib.hid (hd.out.trans (ixS_no hkx hp hcmp))
        clear hd hp hkx
        go_wp2_with fail
        go_roundw
        case rel => exact ⟨k + 1, by omega, by go_num, HD, hB⟩
        case measure => simp [intOf]; omega
    · obtain rfl : k = len := by omega
      have HD := Lib.hid (hd.out.trans (ixS_done (by rw [HX.out.1]; exact hlk)))
      clear hd
      go_wp2_with fail
      go_ret
      exact ⟨ret_int HD.out, hB.out⟩
theorem bbr_new (w : World) (a : Option Addr) (len cap : Nat) (a2 : Option Addr) (len2 cap2 : Nat) : BB w (w.alloc (.cells #[.slice a len cap, .slice a2 len2 cap2] 25)) a len cap a2 len2 cap2 :=
  ⟨(Below.refl _ w).alloc (Nat.le_refl _) _, by rw [World.size_alloc]; omega, by rw [World.cell?_alloc_new]; rfl, by rw [World.cell?_alloc_new]; rfl⟩
set_option maxHeartbeats 2000000 in
theorem rfind_any (a : Option Addr) (len cap : Nat) (a2 : Option Addr) (len2 cap2 : Nat) (b : Bk) (s : ByteArray) (o : Option Sk) (ho : findS s b.sk = o) (w : World) (h : SkAt w a len b.sk) :
    Calls Tryz.prog 12 #[.agg #[.slice a len cap, .slice a2 len2 cap2], .string s] w fun e w' => e = .returned (.tuple #[skV (getS o), .bool o.isSome]) ∧ Below w.heap.size w w' := by
  have hl := h.2.1
  have HX := Lib.hid h
  have HN := bbr_new w a len cap a2 len2 cap2
  have k3 := at6_new (w.alloc (.cells #[.slice a len cap, .slice a2 len2 cap2] 25)) (.string ⟨#[]⟩) (.int .i64 0) (.int .i64 0) (.int .i64 0) (.int .i64 0) (.int .i64 0)
  have hN2 := HN.keep ((Below.refl _ (w.alloc (.cells #[.slice a len cap, .slice a2 len2 cap2] 25))).alloc (Nat.le_refl _) (.cells #[.string ⟨#[]⟩, .int .i64 0, .int .i64 0, .int .i64 0, .int .i64 0, .int .i64 0] 41))
  rw [World.size_alloc] at k3
  obtain ⟨w0, he⟩ : ∃ w0, (w.alloc (.cells #[.slice a len cap, .slice a2 len2 cap2] 25)).alloc (.cells #[.string ⟨#[]⟩, .int .i64 0, .int .i64 0, .int .i64 0, .int .i64 0, .int .i64 0] 41) = w0 := ⟨_, rfl⟩
  rw [he] at hN2 k3
  have HW := Lib.hid he
  have HN := Lib.hid hN2
  have H6 : Hid (At6 w0 (w.heap.size + 1) (.string ⟨#[]⟩) (.int .i64 0) (.int .i64 0) (.int .i64 0) (.int .i64 0) (.int .i64 0)) := k3
  have hc := hN2.c0
  rcases ixS_find s b.sk 0 with ⟨hn, hi⟩ | ⟨k, hk, hi, hn⟩
  · have C := Lib.hid (rplace_any a len cap b.sk s (-1) hi w0 (h.keep hN2.bel))
    have hno : o = none := ho.symm.trans hn
    subst hno
    clear hi hn ho h hN2 k3 he
    go_enter Tryz.func12, Tryz.ntmps12
    go_wp2_with fail
    rw [show (w.alloc (.cells #[.slice a len cap, .slice a2 len2 cap2] 25)).alloc (.cells #[.string ⟨#[]⟩, .int .i64 0, .int .i64 0, .int .i64 0, .int .i64 0, .int .i64 0] 41) = w0 from HW.out]
    go_wp2_with fail
    refine C.out.mono ?_
    rintro e w2 ⟨rfl, hb⟩
    have HB2 := Lib.hid (HN.out.keep hb)
    have hA := H6.out.keep hb
    have HA := Lib.hid hA
    obtain ⟨z0, z1, z2, z3, z4, z5⟩ := cells6 hA
    obtain ⟨f0, f1, f2, f3, f4, f5⟩ := free6 hA
    clear hA hb hc
    go_wp2_with fail
    have HRS := Lib.hid (heap_put6 HA.out (.string ⟨#[]⟩) (.int .i64 0) (.int .i64 0) (.int .i64 0) (.int .i64 0) (.int .i64 0))
    have HB3 := Lib.hid (below_put6 HB2.out.bel (show w.heap.size ≤ w.heap.size + 1 by omega) (.string ⟨#[]⟩) (.int .i64 0) (.int .i64 0) (.int .i64 0) (.int .i64 0) (.int .i64 0))
    exact bodyPost_ret (results_sku (j := 4) (k := 5) rfl _ _ (w.heap.size + 1) _ _ _ _ _ _ rfl HRS.out) rfl ⟨rfl, HB3.out⟩
  · rw [Nat.zero_add] at hi
    have C := Lib.hid (rplace_any a len cap b.sk s (k : Int) hi w0 (h.keep hN2.bel))
    have hkl : k < len := by rw [← HX.out.1]; exact hk
    obtain ⟨b1, o1, t, x0, x1, x2, x3, x4, rfl, g1, hp, hc1⟩ := HX.out.at hkl
    have hno : o = some ⟨t, x0, x1, x2, x3, x4⟩ := by rw [← ho, hn, hp]
    subst hno
    have HC1 := Lib.hid hc1
    clear hi hn ho hp hk hc1 h hN2 k3 he
    go_enter Tryz.func12, Tryz.ntmps12
    go_wp2_with fail
    rw [show (w.alloc (.cells #[.slice (some ⟨b1, o1, none⟩) len cap, .slice a2 len2 cap2] 25)).alloc (.cells #[.string ⟨#[]⟩, .int .i64 0, .int .i64 0, .int .i64 0, .int .i64 0, .int .i64 0] 41) = w0 from HW.out]
    go_wp2_with fail
    refine C.out.mono ?_
    rintro e w2 ⟨rfl, hb⟩
    have HB2 := Lib.hid (HN.out.keep hb)
    have hA := H6.out.keep hb
    have HA := Lib.hid hA
    obtain ⟨z0, z1, z2, z3, z4, z5⟩ := cells6 hA
    obtain ⟨f0, f1, f2, f3, f4, f5⟩ := free6 hA
    obtain ⟨d0, d1, d2, d3, d4, d5⟩ := HC1.out w2 HB2.out.bel
    have hc2 := HB2.out.c0
    clear hA hb hc
    go_wp2_with fail
    have HRS := Lib.hid (heap_put6 HA.out (.string t) (.int .i64 x0) (.int .i64 x1) (.int .i64 x2) (.int .i64 x3) (.int .i64 x4))
    have HB3 := Lib.hid (below_put6 HB2.out.bel (show w.heap.size ≤ w.heap.size + 1 by omega) (.string t) (.int .i64 x0) (.int .i64 x1) (.int .i64 x2) (.int .i64 x3) (.int .i64 x4))
    exact bodyPost_ret (results_sku (j := 4) (k := 5) rfl _ _ (w.heap.size + 1) _ _ _ _ _ _ rfl HRS.out) rfl ⟨rfl, HB3.out⟩
/-! ### Same -/
theorem rhsame_is (a c : Option Addr) (la ca lc cc : Nat) (x y : List Hd) (v : Bool) (hv : eqH x y = v) (w : World) (h1 : HsAt w a la x) (h2 : HsAt w c lc y) :
    Calls Tryz.prog 44 #[.slice a la ca, .slice c lc cc] w fun e w' => e = .returned (.bool v) ∧ Below w.heap.size w w' := by
  have := Holds.rsame_any a c la ca lc cc x y w h1 h2
  rw [hv] at this
  exact this
theorem eqB_and (x y : Bk) : eqB x y = (eqH x.hd y.hd && eqU x.sk y.sk) := by unfold eqB; rw [Bool.and_comm]
set_option maxHeartbeats 4000000 in
theorem rsame_any (a : Option Addr) (n cap : Nat) (a2 : Option Addr) (n2 cap2 : Nat) (c : Option Addr) (m cap3 : Nat) (c2 : Option Addr) (m2 cap4 : Nat) (x y : Bk) (v : Bool) (hv : eqB x y = v) (w : World) (h : BkAt w a n a2 n2 cap2 x) (k : BkAt w c m c2 m2 cap4 y) :
    Calls Tryz.prog 17 #[.agg #[.slice a n cap, .slice a2 n2 cap2], .agg #[.slice c m cap3, .slice c2 m2 cap4]] w fun e w' => e = .returned (.bool v) ∧ Below w.heap.size w w' := by
  have N1 := bbr_new w a n cap a2 n2 cap2
  have N2 := bbr_new (w.alloc (.cells #[.slice a n cap, .slice a2 n2 cap2] 25)) c m cap3 c2 m2 cap4
  have N1' := N1.keep N2.bel
  obtain ⟨w1, hw1⟩ : ∃ w1, (w.alloc (.cells #[.slice a n cap, .slice a2 n2 cap2] 25)).alloc (.cells #[.slice c m cap3, .slice c2 m2 cap4] 25) = w1 := ⟨_, rfl⟩
  rw [hw1] at N2 N1'
  have hs1 : (w.alloc (.cells #[.slice a n cap, .slice a2 n2 cap2] 25)).heap.size = w.heap.size + 1 := World.size_alloc _ _
  have e0 := N2.c0
  have e1 := N2.c1
  have hlt2 := N2.lt
  rw [hs1] at e0 e1 hlt2
  have HLT2 := Lib.hid hlt2
  have HW := Lib.hid hw1
  have HB := Lib.hid N1'
  have HE0 := Lib.hid e0; have HE1 := Lib.hid e1
  have hla := h.sk.2.1
  have hlc := k.sk.2.1
  have HX := Lib.hid h; have HY := Lib.hid k
  have CS := Lib.hid (fun v hv => rhsame_is a2 c2 n2 cap2 m2 cap4 x.hd y.hd v hv w1 (h.hd.keep N1'.bel) (k.hd.keep N1'.bel))
  have HV := Lib.hid ((eqB_and x y).symm.trans hv)
  have hc := N1'.c0
  have hc1 := N1'.c1
  clear N1 N2 N1' hw1 hs1 hlt2 h k hv
  by_cases hne : n = m
  · subst hne
    obtain ⟨vh, hvh⟩ : ∃ vh, eqH x.hd y.hd = vh := ⟨_, rfl⟩
    have C := Lib.hid (CS.out vh hvh)
    rw [hvh] at HV
    have hnn : ((n : Int) != (n : Int)) = false := by simp
    clear hvh CS
    go_enter Tryz.func17, Tryz.ntmps17
    go_wp2_with fail
    rw [show (w.alloc (.cells #[.slice a n cap, .slice a2 n2 cap2] 25)).alloc (.cells #[.slice c n cap3, .slice c2 m2 cap4] 25) = w1 from HW.out]
    go_wp2_with fail
    refine C.out.mono ?_
    rintro e w2 ⟨rfl, hb⟩
    have HB2 := Lib.hid (HB.out.keep hb)
    have HD0 := Lib.hid ((hb.cell (p := ⟨w.heap.size + 1, 0, none⟩) HLT2.out).trans HE0.out)
    have HL2 := Lib.hid (Nat.lt_of_lt_of_le HLT2.out hb.size)
    clear hb C e0 e1 hc hc1
    cases vh with
    | false =>
      have HF := Lib.hid HV.out.symm
      go_wp2_with fail
      go_ret
      exact ⟨ret_bool HF.out, HB2.out.bel⟩
    | true =>
      have HV2 : Hid (v = eqU x.sk y.sk) := HV.out.symm
      go_wp2_with fail
      go_loopw [5] (fun i wr => ∃ k : Nat, k ≤ n ∧ i = .int .i64 (k : Int) ∧ Hid (v = eqU (x.sk.drop k) (y.sk.drop k)) ∧ Hid (BB w wr a n cap a2 n2 cap2) ∧ Hid (wr.cell? ⟨w.heap.size + 1, 0, none⟩ = some (.slice c n cap3)) ∧ Hid (w.heap.size + 1 < wr.heap.size)) (fun i _ => n - (intOf i).toNat)
      case atStart => exact ⟨0, Nat.zero_le _, rfl, HV2, HB2, HD0, HL2⟩
      case round =>
        obtain ⟨k, hk, rfl, hd, hB, hE, hL⟩ := hrel
        have c0 := hB.out.c0
        have c2' := hE.out
        by_cases hlk : k < n
        · have hkx : k < x.sk.length := by rw [HX.out.sk.1]; exact hlk
          have hky : k < y.sk.length := by rw [HY.out.sk.1]; exact hlk
          obtain ⟨b1, o1, s, x0, x1, x2, x3, x4, rfl, g1, hp, hc1⟩ := HX.out.sk.at hlk
          obtain ⟨b2, o2, t, y0, y1, y2, y3, y4, rfl, g2, hq, hc2⟩ := HY.out.sk.at hlk
          obtain ⟨d0, d1, d2, d3, d4, d5⟩ := hc1 wr hB.out.bel
          obtain ⟨e0, e1, e2, e3, e4, e5⟩ := hc2 wr hB.out.bel
          clear hc1 hc2 g1 g2
          have hneq := fun w => eql_in_sku s t x0 x1 x2 x3 x4 y0 y1 y2 y3 y4 w
          have hgd := fun x y w => guard_sku x y s t x0 x1 x2 x3 x4 y0 y1 y2 y3 y4 w
          cases heq : eqS ⟨s, x0, x1, x2, x3, x4⟩ ⟨t, y0, y1, y2, y3, y4⟩ with
          | true =>
            have HD := Lib.hid (hd.out.trans (eqU_go hkx hky hp hq heq))
            rw [heq] at hneq
            clear hd hp hq heq hkx hky
            go_wp2_with fail
            go_quiet (fail)
            go_wp2_with fail
            go_roundw
            case rel => exact ⟨k + 1, by omega, by go_num, HD, hB.out.keep (below_drewN (Below.refl _ _) _), hE, hL⟩
            case measure => simp [intOf]; omega
          | false =>
            have HD := Lib.hid (hd.out.trans (eqU_no hkx hky hp hq heq))
            rw [heq] at hneq
            clear hd hp hq heq hkx hky
            go_wp2_with fail
            go_quiet (fail)
            go_wp2_with fail
            go_ret
            exact ⟨ret_bool HD.out, below_drewN hB.out.bel _⟩
        · obtain rfl : k = n := by omega
          have HD := Lib.hid (hd.out.trans (eqU_done (by rw [HX.out.sk.1]; exact hlk) (by rw [HY.out.sk.1]; exact hlk)))
          clear hd
          go_wp2_with fail
          go_ret
          exact ⟨ret_bool HD.out, hB.out.bel⟩
  · have hx := HX.out.sk.1
    have hy := HY.out.sk.1
    have hn3 : ((n : Int) != (m : Int)) = true := by simp; omega
    have HD : Hid (v = false) := by
      have h1 := HV.out.symm
      rw [eqU_len (a := x.sk) (b := y.sk) (by rw [hx, hy]; exact hne), Bool.and_false] at h1
      exact h1
    clear hx hy
    go_enter Tryz.func17, Tryz.ntmps17
    go_wp2_with fail
    rw [show (w.alloc (.cells #[.slice a n cap, .slice a2 n2 cap2] 25)).alloc (.cells #[.slice c m cap3, .slice c2 m2 cap4] 25) = w1 from HW.out]
    go_wp2_with fail
    go_ret
    exact ⟨ret_bool HD.out, HB.out.bel⟩
end Go.Proofs.YtjclkiabgemfpaaGreat.Ledger
