/-
  How acts stand in memory; the contracts of FewActs and Few, and of the laws' own awake: the chapter's example.
-/
import Derived.Test.YtjclkiabgemfpaaPbLedgerH
set_option linter.unusedVariables false
set_option maxRecDepth 4000
namespace Go.Proofs.Ytjclkiabgemfpaa.Ledger
open Go.RowKit LinesP HoldsP LedgerP
open StockP (Sk sk0 fitS Fit fitS_iff fromV turnV moveV turn_fit)
open Go.Proofs.Ytjclkiabgemfpaa.Lines (LsAt Sz SzM ret_bool ret_int below_keep below_drewN owns_form owns_cell owns_below fewV few_sz)
open Go.Proofs.Ytjclkiabgemfpaa.Holds (HsAt SzH SzMH hmf fewH fewH_sz)

abbrev Az := LedgerP.Act × Option Addr × Nat
def ac0 : LedgerP.Act := ⟨0, 0, 0, ByteArray.empty, []⟩
def az0 : Az := (ac0, none, 0)
def acts (zs : List Az) : List LedgerP.Act := zs.map (·.1)
theorem acts_len (zs : List Az) : (acts zs).length = zs.length := by simp [acts]
theorem acts_get {zs : List Az} {k : Nat} (hk : k < zs.length) : (acts zs).getD k ac0 = (zs.getD k az0).1 := by
  simp [acts, List.getD, hk]
def AzAt (w : World) (a : Option Addr) (len : Nat) (zs : List Az) : Prop :=
  zs.length = len ∧ len ≤ 9223372036854775807 ∧ (∀ z ∈ zs, LsAt w z.2.1 z.1.ls.length z.1.ls) ∧
  (len = 0 ∨ ∃ b off, a = some ⟨b, off, none⟩ ∧ b < w.heap.size ∧ ∀ i, i < len →
    w.cell? ⟨b, off + i * 5, none⟩ = some (.int .i64 (zs.getD i az0).1.kind) ∧ w.cell? ⟨b, off + i * 5 + 1, none⟩ = some (.int .i64 (zs.getD i az0).1.saga) ∧
    w.cell? ⟨b, off + i * 5 + 2, none⟩ = some (.int .i64 (zs.getD i az0).1.n) ∧ w.cell? ⟨b, off + i * 5 + 3, none⟩ = some (.string (zs.getD i az0).1.sku) ∧
    w.cell? ⟨b, off + i * 5 + 4, none⟩ = some (.slice (zs.getD i az0).2.1 (zs.getD i az0).1.ls.length (zs.getD i az0).2.2))
theorem AzAt.keep {w w' : World} {a : Option Addr} {len : Nat} {zs : List Az} (h : AzAt w a len zs) (hb : Below w.heap.size w w') : AzAt w' a len zs :=
  ⟨h.1, h.2.1, fun z hz => (h.2.2.1 z hz).keep hb, h.2.2.2.imp id (fun ⟨b, off, e, hlt, hc⟩ => ⟨b, off, e, by have := hb.size; omega, fun i hi =>
    ⟨(hb.cell (p := ⟨b, off + i * 5, none⟩) hlt).trans (hc i hi).1, (hb.cell (p := ⟨b, off + i * 5 + 1, none⟩) hlt).trans (hc i hi).2.1, (hb.cell (p := ⟨b, off + i * 5 + 2, none⟩) hlt).trans (hc i hi).2.2.1, (hb.cell (p := ⟨b, off + i * 5 + 3, none⟩) hlt).trans (hc i hi).2.2.2.1, (hb.cell (p := ⟨b, off + i * 5 + 4, none⟩) hlt).trans (hc i hi).2.2.2.2⟩⟩)⟩
def AsAt (w : World) (a : Option Addr) (len : Nat) (l : List LedgerP.Act) : Prop := ∃ zs, acts zs = l ∧ AzAt w a len zs
theorem AsAt.keep {w w' : World} {a : Option Addr} {len : Nat} {l : List LedgerP.Act} (h : AsAt w a len l) (hb : Below w.heap.size w w') : AsAt w' a len l :=
  h.imp fun _ ⟨e, k⟩ => ⟨e, k.keep hb⟩
theorem AsAt.len {w : World} {a : Option Addr} {len : Nat} {l : List LedgerP.Act} (h : AsAt w a len l) : l.length = len := by
  obtain ⟨zs, rfl, k⟩ := h
  rw [acts_len]; exact k.1
theorem AsAt.le {w : World} {a : Option Addr} {len : Nat} {l : List LedgerP.Act} (h : AsAt w a len l) : len ≤ 9223372036854775807 := by
  obtain ⟨zs, rfl, k⟩ := h
  exact k.2.1
theorem AsAt.at {w : World} {a : Option Addr} {len : Nat} {l : List LedgerP.Act} (h : AsAt w a len l) {k : Nat} (hk : k < len) :
    ∃ b off kd sg m s la lc ls, a = some ⟨b, off, none⟩ ∧ b < w.heap.size ∧ l.getD k ac0 = ⟨kd, sg, m, s, ls⟩ ∧ ∀ w', Below w.heap.size w w' →
      w'.cell? ⟨b, off + k * 5, none⟩ = some (.int .i64 kd) ∧ w'.cell? ⟨b, off + k * 5 + 1, none⟩ = some (.int .i64 sg) ∧ w'.cell? ⟨b, off + k * 5 + 2, none⟩ = some (.int .i64 m) ∧
      w'.cell? ⟨b, off + k * 5 + 3, none⟩ = some (.string s) ∧ w'.cell? ⟨b, off + k * 5 + 4, none⟩ = some (.slice la ls.length lc) ∧ LsAt w' la ls.length ls := by
  obtain ⟨zs, rfl, k1, k2, k3, k4⟩ := h
  rcases k4 with h0 | ⟨b, off, rfl, hlt, hc⟩
  · omega
  have hkz : k < zs.length := by omega
  have hm : zs.getD k az0 ∈ zs := by
    rw [show zs.getD k az0 = zs[k] by simp [List.getD, hkz]]; exact List.getElem_mem hkz
  have hl := k3 _ hm
  have hc1 := hc k hk
  rw [acts_get hkz]
  obtain ⟨⟨⟨kd, sg, m, s, ls⟩, la, lc⟩, hz⟩ : ∃ z, zs.getD k az0 = z := ⟨_, rfl⟩
  rw [hz] at hl hc1 ⊢
  exact ⟨b, off, kd, sg, m, s, la, lc, ls, rfl, hlt, rfl, fun w' hb => ⟨(hb.cell (p := ⟨b, off + k * 5, none⟩) hlt).trans hc1.1, (hb.cell (p := ⟨b, off + k * 5 + 1, none⟩) hlt).trans hc1.2.1, (hb.cell (p := ⟨b, off + k * 5 + 2, none⟩) hlt).trans hc1.2.2.1, (hb.cell (p := ⟨b, off + k * 5 + 3, none⟩) hlt).trans hc1.2.2.2.1, (hb.cell (p := ⟨b, off + k * 5 + 4, none⟩) hlt).trans hc1.2.2.2.2, hl.keep hb⟩⟩
/-! ### few acts -/
def fewOne (x : LedgerP.Act) : Bool := fewV x.ls && decide (x.sku.size ≤ 60)
def shortA (l : List LedgerP.Act) : Bool := l.all fewOne
def fewA (m : Nat) (l : List LedgerP.Act) : Bool := shortA (l.take m) && decide (l.length ≤ m)
def SzMA (l : List LedgerP.Act) : Prop := ∀ x ∈ l, SzM x.ls ∧ x.sku.size ≤ 9223372036854775807
theorem amem_getD {l : List LedgerP.Act} {k : Nat} (hk : k < l.length) : l.getD k ac0 ∈ l := by
  rw [show l.getD k ac0 = l[k] by simp [List.getD, hk]]; exact List.getElem_mem hk
theorem take_snocA {l : List LedgerP.Act} {k : Nat} {x : LedgerP.Act} (hk : k < l.length) (hx : l.getD k ac0 = x) : l.take (k + 1) = l.take k ++ [x] := by
  rw [List.take_succ_eq_append_getElem hk, ← hx]; simp [List.getD, hk]
theorem shortA_snoc {l : List LedgerP.Act} {x : LedgerP.Act} {k : Nat} (hk : k < l.length) (hx : l.getD k ac0 = x) (h : shortA (l.take k) = true) (hq : fewOne x = true) : shortA (l.take (k + 1)) = true := by
  unfold shortA at h ⊢
  rw [take_snocA hk hx, List.all_append, h]; simp [hq]
theorem fewA_no {l : List LedgerP.Act} {x : LedgerP.Act} {k m : Nat} (hk : k < l.length) (hm : k < m) (hx : l.getD k ac0 = x) (hq : fewOne x = false) : fewA m l = false := by
  unfold fewA
  have hmem : x ∈ l.take m := by
    rw [List.mem_take_iff_getElem]
    exact ⟨k, by omega, by rw [← hx]; simp [List.getD, hk]⟩
  have : shortA (l.take m) = false := by
    cases hs : shortA (l.take m) with
    | false => rfl
    | true => unfold shortA at hs; rw [List.all_eq_true] at hs; rw [hs x hmem] at hq; cases hq
  rw [this]; rfl
theorem fewA_end {l : List LedgerP.Act} {k m : Nat} (hk : k = l.length ∧ k ≤ m ∨ k = m) (h : shortA (l.take k) = true) : fewA m l = decide (l.length ≤ m) := by
  unfold fewA
  have : shortA (l.take m) = true := by
    rcases hk with ⟨hk, hm⟩ | rfl
    · rw [List.take_of_length_le (by omega)]; rw [List.take_of_length_le (by omega)] at h; exact h
    · exact h
  rw [this]; rfl
set_option maxHeartbeats 2000000 in
theorem fewacts_any (a : Option Addr) (len cap : Nat) (l : List LedgerP.Act) (m : Nat) (w : World) (h : AsAt w a len l) (hs : SzMA l) (hm100 : m ≤ 100) :
    Calls Try.prog 5 #[.slice a len cap, .int .i64 (m : Int)] w fun e w' => e = .returned (.bool (fewA m l)) ∧ Below w.heap.size w w' := by
  have HX := Lib.hid h
  have HS := Lib.hid hs
  obtain ⟨v, hv⟩ : ∃ v, fewA m l = v := ⟨_, rfl⟩
  rw [hv]
  have HV := Lib.hid hv
  have hl := h.le
  clear hv h hs
  go_enter Try.func5, Try.ntmps5
  go_wp2_with fail
  go_loopw [5] (fun i wr => ∃ k : Nat, k ≤ len ∧ k ≤ m ∧ i = .int .i64 (k : Int) ∧ Hid (shortA (l.take k) = true) ∧ Hid (Below w.heap.size w wr)) (fun i _ => len - (intOf i).toNat)
  case atStart => exact ⟨0, Nat.zero_le _, Nat.zero_le _, rfl, Lib.hid rfl, Below.refl _ _⟩
  case round =>
    obtain ⟨k, hk, hkm, rfl, hF, hB⟩ := hrel
    by_cases hlk : k < len
    · by_cases hm : k < m
      · have hkx : k < l.length := by rw [HX.out.len]; exact hlk
        obtain ⟨b1, o1, kd, sg, q, s, la, lc, ls, rfl, g1, hp, hc1⟩ := HX.out.at hlk
        have hsz := HS.out _ (amem_getD hkx)
        rw [hp] at hsz
        have hss := hsz.2
        simp only at hss
        obtain ⟨_, _, _, d3, d4, dL⟩ := hc1 wr hB.out
        obtain ⟨n, hn⟩ : ∃ n, ls.length = n := ⟨_, rfl⟩
        rw [hn] at d4 dL
        have HC1 := Lib.hid hc1
        clear hn hc1
        cases hq : fewV ls with
        | false =>
          have C := Lib.hid (Holds.rfewL_is la n lc ls false hq wr dL hsz.1)
          have HNO : Hid (v = false) := by show v = _; rw [← HV.out]; exact fewA_no hkx hm hp (by unfold fewOne; rw [hq]; rfl)
          clear hkx hp hF dL hsz hq
          go_wp2_with fail
          refine C.out.mono ?_
          rintro e w1 ⟨rfl, hb⟩
          have HB1 := Lib.hid (below_keep hB.out hb hB.out.size)
          go_wp2_with fail
          go_ret
          exact ⟨ret_bool HNO.out, HB1.out⟩
        | true =>
          have C := Lib.hid (Holds.rfewL_is la n lc ls true hq wr dL hsz.1)
          by_cases h60 : s.size ≤ 60
          · have HF2 : Hid (shortA (l.take (k + 1)) = true) := shortA_snoc hkx hp hF.out (by unfold fewOne; rw [hq, decide_eq_true h60]; rfl)
            have h60' : ¬ ((s.size : Int) > 60) := by omega
            have h60'' : ¬ ((60 : Int) < (s.size : Int)) := by omega
            clear hkx hp hF dL hsz hq
            go_wp2_with fail
            refine C.out.mono ?_
            rintro e w1 ⟨rfl, hb⟩
            have HB1 := Lib.hid (below_keep hB.out hb hB.out.size)
            have d3' := (HC1.out w1 HB1.out).2.2.2.1
            go_wp2_with fail
            go_roundw
            case rel => exact ⟨k + 1, by omega, by omega, by go_num, HF2, HB1⟩
            case measure => simp [intOf]; omega
          · have HNO : Hid (v = false) := by show v = _; rw [← HV.out]; exact fewA_no hkx hm hp (by unfold fewOne; rw [decide_eq_false h60, Bool.and_false])
            have h60' : ((60 : Int) < (s.size : Int)) := by omega
            clear hkx hp hF dL hsz hq
            go_wp2_with fail
            refine C.out.mono ?_
            rintro e w1 ⟨rfl, hb⟩
            have HB1 := Lib.hid (below_keep hB.out hb hB.out.size)
            have d3' := (HC1.out w1 HB1.out).2.2.2.1
            go_wp2_with fail
            go_ret
            exact ⟨ret_bool HNO.out, HB1.out⟩
      · obtain rfl : k = m := by omega
        have HNO : Hid (v = false) := by
          show v = _
          rw [← HV.out, fewA_end (.inr rfl) hF.out, HX.out.len]
          exact decide_eq_false (by omega)
        have HD : Hid (false = decide (len ≤ k)) := (decide_eq_false (by omega)).symm
        go_wp2_with fail
        go_ret
        exact ⟨ret_bool (HNO.out.trans HD.out), hB.out⟩
    · obtain rfl : k = len := by omega
      have HE : Hid (v = true) := by show v = _; rw [← HV.out, fewA_end (.inl ⟨HX.out.len.symm, hkm⟩) hF.out, HX.out.len]; exact decide_eq_true hkm
      go_wp2_with fail
      go_ret
      exact ⟨ret_bool HE.out, hB.out⟩
/-! ### a book that is small -/
def shortS (l : List Sk) : Bool := l.all fun x => decide (x.nm.size ≤ 60)
def fewB (b : Bk) : Bool := shortS (b.sk.take 16) && (decide (b.sk.length ≤ 16) && fewH b.hd)
structure SzMB (b : Bk) : Prop where
  sk : ∀ x ∈ b.sk, x.nm.size ≤ 9223372036854775807
  hd : SzMH b.hd
theorem take_snocS {l : List Sk} {k : Nat} {x : Sk} (hk : k < l.length) (hx : l.getD k sk0 = x) : l.take (k + 1) = l.take k ++ [x] := by
  rw [List.take_succ_eq_append_getElem hk, ← hx]; simp [List.getD, hk]
theorem fewB_szb {b : Bk} (h : fewB b = true) (hm : SzMB b) : SzB b ∧ b.sk.length ≤ 16 ∧ b.hd.length ≤ 20 := by
  unfold fewB at h
  rw [Bool.and_eq_true, Bool.and_eq_true, decide_eq_true_eq] at h
  obtain ⟨h1, h2, h3⟩ := h
  obtain ⟨h4, h5, h6⟩ := fewH_sz h3 hm.hd
  refine ⟨⟨fun x hx => ?_, h5, fun x hx => by have := h6 x hx; omega, by omega, by omega⟩, h2, h4⟩
  rw [List.take_of_length_le h2] at h1
  unfold shortS at h1
  have := of_decide_eq_true (List.all_eq_true.1 h1 x hx)
  omega
theorem hfew_is (a : Option Addr) (len cap : Nat) (l : List Hd) (v : Bool) (hv : fewH l = v) (w : World) (h : HsAt w a len l) (hs : SzMH l) :
    Calls Try.prog 26 #[.slice a len cap] w fun e w' => e = .returned (.bool v) ∧ Below w.heap.size w w' := by
  have := Holds.rfew_any a len cap l w h hs
  rw [hv] at this
  exact this
set_option maxHeartbeats 2000000 in
theorem few_any (a : Option Addr) (len cap : Nat) (a2 : Option Addr) (len2 cap2 : Nat) (b : Bk) (v : Bool) (hv : fewB b = v) (w : World) (h : BkAt w a len a2 len2 cap2 b) (hs : SzMB b) :
    Calls Try.prog 10 #[.agg #[.slice a len cap, .slice a2 len2 cap2]] w fun e w' => e = .returned (.bool v) ∧ Below w.heap.size w w' := by
  have HX := Lib.hid h
  have HS := Lib.hid hs
  have HV := Lib.hid hv
  have hl := h.sk.2.1
  have hbel : Below w.heap.size w (w.alloc (.cells #[.slice a len cap, .slice a2 len2 cap2] 40)) := (Below.refl _ w).alloc (Nat.le_refl _) _
  have k0 : (w.alloc (.cells #[.slice a len cap, .slice a2 len2 cap2] 40)).cell? ⟨w.heap.size, 0, none⟩ = some (.slice a len cap) := by rw [World.cell?_alloc_new]; rfl
  have k1 : (w.alloc (.cells #[.slice a len cap, .slice a2 len2 cap2] 40)).cell? ⟨w.heap.size, 1, none⟩ = some (.slice a2 len2 cap2) := by rw [World.cell?_alloc_new]; rfl
  have hs0 : w.heap.size < (w.alloc (.cells #[.slice a len cap, .slice a2 len2 cap2] 40)).heap.size := by rw [World.size_alloc]; omega
  obtain ⟨w0, hw0⟩ : ∃ w0, w.alloc (.cells #[.slice a len cap, .slice a2 len2 cap2] 40) = w0 := ⟨_, rfl⟩
  rw [hw0] at hbel k0 k1 hs0
  have HW := Lib.hid hw0; have HBEL := Lib.hid hbel
  have CF := Lib.hid (fun v hv => hfew_is a2 len2 cap2 b.hd v hv w0 (h.hd.keep hbel) hs.hd)
  clear hv h hs hw0 hs0
  go_enter Try.func10, Try.ntmps10
  go_wp2_with fail
  rw [show w.alloc (.cells #[.slice a len cap, .slice a2 len2 cap2] 40) = w0 from HW.out]
  go_wp2_with fail
  go_loopw [3] (fun i wr => ∃ k : Nat, k ≤ len ∧ k ≤ 16 ∧ i = .int .i64 (k : Int) ∧ Hid (shortS (b.sk.take k) = true) ∧ wr = w0) (fun i _ => len - (intOf i).toNat)
  case atStart => exact ⟨0, Nat.zero_le _, Nat.zero_le _, rfl, Lib.hid rfl, rfl⟩
  case round =>
    obtain ⟨k, hk, hk16, rfl, hF, rfl⟩ := hrel
    by_cases hlk : k < len
    · by_cases h16 : k < 16
      · have hkx : k < b.sk.length := by rw [HX.out.sk.1]; exact hlk
        obtain ⟨b1, o1, s, x0, x1, x2, x3, x4, rfl, g1, hp, hc1⟩ := HX.out.sk.at hlk
        have hsz := HS.out.sk _ (smem_getD hkx)
        rw [hp] at hsz
        simp only at hsz
        obtain ⟨d0, _, _, _, _, _⟩ := hc1 wr HBEL.out
        clear hc1
        by_cases h60 : s.size ≤ 60
        · have HF2 : Hid (shortS (b.sk.take (k + 1)) = true) := by
            show shortS (b.sk.take (k + 1)) = true
            have h1 := hF.out
            unfold shortS at h1 ⊢
            rw [take_snocS hkx hp, List.all_append, h1]; simp [h60]
          have h60'' : ¬ ((60 : Int) < (s.size : Int)) := by omega
          clear hkx hp hF
          go_wp2_with fail
          go_roundw
          case rel => exact ⟨k + 1, by omega, by omega, by go_num, HF2, by trivial⟩
          case measure => simp [intOf]; omega
        · have HNO : Hid (v = false) := by
            show v = _
            rw [← HV.out]
            unfold fewB
            have hmem : (⟨s, x0, x1, x2, x3, x4⟩ : Sk) ∈ b.sk.take 16 := by
              rw [List.mem_take_iff_getElem]
              exact ⟨k, by omega, by rw [← hp]; simp [List.getD, hkx]⟩
            have hsf : shortS (b.sk.take 16) = false := by
              cases hq : shortS (b.sk.take 16) with
              | false => rfl
              | true => unfold shortS at hq; exact absurd (of_decide_eq_true (List.all_eq_true.1 hq _ hmem)) h60
            rw [hsf]; rfl
          have h60' : ((60 : Int) < (s.size : Int)) := by omega
          clear hkx hp hF
          go_wp2_with fail
          go_ret
          exact ⟨ret_bool HNO.out, HBEL.out⟩
      · obtain rfl : k = 16 := by omega
        have HNO : Hid (v = false) := by
          show v = _
          rw [← HV.out]
          unfold fewB
          rw [decide_eq_false (by rw [HX.out.sk.1]; omega)]; simp
        have hle : ¬ ((len : Int) ≤ 16) := by omega
        go_wp2_with fail
        go_ret
        exact ⟨ret_bool HNO.out, HBEL.out⟩
    · obtain rfl : k = len := by omega
      have hE : fewH b.hd = v := by
        rw [← HV.out]
        unfold fewB
        have h1 := hF.out
        rw [List.take_of_length_le (by rw [HX.out.sk.1]; exact Nat.le_refl _)] at h1
        rw [decide_eq_true (by rw [HX.out.sk.1]; exact hk16), List.take_of_length_le (by rw [HX.out.sk.1]; exact hk16), h1]; rfl
      have C := Lib.hid (CF.out v hE)
      have hle : ((k : Int) ≤ 16) := by omega
      clear hE
      go_wp2_with fail
      refine C.out.mono ?_
      rintro e w1 ⟨rfl, hb⟩
      have HB1 := Lib.hid (below_keep HBEL.out hb HBEL.out.size)
      clear hb
      go_wp2_with fail
      go_ret
      exact ⟨rfl, HB1.out⟩
end Go.Proofs.Ytjclkiabgemfpaa.Ledger

/-
  The contract of the laws' own awake: the chapter's example.
-/
set_option linter.unusedVariables false
set_option maxRecDepth 4000
namespace Go.Proofs.Ytjclkiabgemfpaa.Ledger
open Go.RowKit LinesP HoldsP LedgerP
open StockP (Sk sk0 fitS Fit fitS_iff fromV turnV moveV turn_fit)
open Go.Proofs.Ytjclkiabgemfpaa.Lines (LsAt Sz SzM ret_bool ret_int below_keep below_drewN owns_form owns_cell owns_below)
open Go.Proofs.Ytjclkiabgemfpaa.Holds (HsAt SzH SzMH hmf)

theorem eql_sku (s t : ByteArray) (x0 x1 x2 x3 x4 y0 y1 y2 y3 y4 : Int) (w : World) : (binOp .eql 49 (sv s x0 x1 x2 x3 x4) (sv t y0 y1 y2 y3 y4)).run Try.prog w = .ok (.bool (eqS ⟨s, x0, x1, x2, x3, x4⟩ ⟨t, y0, y1, y2, y3, y4⟩)) w := by
  have hS : Try.prog.underlying 49 = some (.struct (Try.prog.fieldsOf 49)) := by kernel_rfl
  have hp : Try.prog.stoodInHeld 49 = false := by kernel_rfl
  have u3 := Try.underlying3
  have u9 := Try.underlying9
  have a3 := Try.isAgg3
  have a9 := Try.isAgg9
  have z3 := Try.sizeOf3
  have z9 := Try.sizeOf9
  rw [run_eql_struct, show (10000 : Nat) = 9999 + 1 from rfl, run_equalIn_agg w 9999 49 _ _ hS hp]
  simp only [Program.fieldsOf, Try.underlying49]
  go_simp
  unfold eqS
  by_cases h0 : s.toList = t.toList
  · by_cases h1 : x0 = y0
    · by_cases h2 : x1 = y1
      · by_cases h3 : x2 = y2
        · by_cases h4 : x3 = y3
          · by_cases h5 : x4 = y4 <;> simp [h0, h1, h2, h3, h4, h5]
          · simp [h0, h1, h2, h3, h4]
        · simp [h0, h1, h2, h3]
      · simp [h0, h1, h2]
    · simp [h0, h1]
  · simp [h0]
theorem guard_eql (x y : Operand) (s t : ByteArray) (x0 x1 x2 x3 x4 y0 y1 y2 y3 y4 : Int) (w : World) : (eqGuard .eql 49 x y (sv s x0 x1 x2 x3 x4) (sv t y0 y1 y2 y3 y4)).run Try.prog w = .ok () w := run_eqGuard_agg w _ _ _ _ _ _ (by kernel_rfl)
def tea : ByteArray := ⟨#[116, 101, 97]⟩
def e1 : Bk × Int := restockB bk0 tea 5
def e2 : Bk × Int := heldB e1.1 1 [(tea, 3)] 0 1
def e3 : Bk × Int := dropB e2.1 1 3
def e4 : Bk × Int := sendB e3.1 [(tea, 3)]
def e5 : Bk × Int := heldB e1.1 1 [(tea, 6)] 0 1
theorem ex1 : e1.2 = 0 ∧ fitB e1.1 = true := by decide +kernel
theorem ex2 : e2.2 = 0 ∧ fitB e2.1 = true ∧ e2.1.hd.length = 1 := by decide +kernel
theorem ex3 : e3.2 = 0 ∧ fitB e3.1 = true ∧ e3.1.hd.length = 0 := by decide +kernel
theorem ex4 : e4.2 = 0 ∧ fitB e4.1 = true ∧ (findS tea e4.1.sk).map (fun x => (x.nm, x.hand, x.held, x.kept, x.sent, x.inn)) = some (tea, 2, 0, 0, 3, 5) := by decide +kernel
theorem ex5 : e5.2 = 6 := by decide +kernel
theorem ex6 : findS tea e4.1.sk = some ⟨tea, 2, 0, 0, 3, 5⟩ := by
  have h := ex4.2.2
  cases hq : findS tea e4.1.sk with
  | none => rw [hq] at h; cases h
  | some x =>
    rw [hq] at h
    simp only [Option.map_some, Option.some.injEq, Prod.mk.injEq] at h
    obtain ⟨h0, h1, h2, h3, h4, h5⟩ := h
    rw [show x = ⟨tea, 2, 0, 0, 3, 5⟩ from StockP.sk_ext h0 h1 h2 h3 h4 h5]
theorem sz_tea (n : Int) (h : 0 ≤ n ∧ n ≤ 10) : Sz [(tea, n)] := by
  intro x hx
  rw [List.mem_singleton.1 hx]
  exact ⟨by show tea.size ≤ 300; decide, by show -9223372036854775808 ≤ n; omega, by show n ≤ 9223372036854775807; omega⟩
theorem ls_tea (n : Int) (w : World) : LsAt (w.alloc (.cells #[.string tea, .int .i64 n] 53)) (some ⟨w.heap.size, 0, none⟩) 1 [(tea, n)] := by
  refine ⟨rfl, by omega, .inr ⟨w.heap.size, 0, rfl, by simp, fun i hi => ?_⟩⟩
  obtain rfl : i = 0 := by omega
  constructor
  · rw [World.cell?_alloc_new]; rfl
  · rw [World.cell?_alloc_new]; rfl
structure Bx2 (w w' : World) (k : Nat) (a : Option Addr) (n c : Nat) (a2 : Option Addr) (n2 c2 : Nat) (b : Bk) : Prop where
  bel : Below w.heap.size w w'
  box : At2 w' k (.slice a n c) (.slice a2 n2 c2)
  bk : BkAt w' a n a2 n2 c2 b
theorem Bx2.keep {w w' w2 : World} {k : Nat} {a : Option Addr} {n c : Nat} {a2 : Option Addr} {n2 c2 : Nat} {b : Bk} (h : Bx2 w w' k a n c a2 n2 c2 b) (hb : Below w'.heap.size w' w2) : Bx2 w w2 k a n c a2 n2 c2 b :=
  ⟨h.bel.trans (hb.mono h.bel.size), (hb.block k (heap_lt h.box)).trans h.box, h.bk.keep hb⟩
theorem bx2_new {w w' : World} {a : Option Addr} {n c : Nat} {a2 : Option Addr} {n2 c2 : Nat} {b : Bk} (hb : Below w.heap.size w w') (h : BkAt w' a n a2 n2 c2 b) : Bx2 w (w'.alloc (.cells #[.slice a n c, .slice a2 n2 c2] 28)) w'.heap.size a n c a2 n2 c2 b :=
  ⟨hb.alloc hb.size _, heap_alloc_new w' _, h.keep ((Below.refl _ w').alloc (Nat.le_refl _) _)⟩
theorem bx2_after {w w1 w2 : World} {k : Nat} {a : Option Addr} {n c : Nat} {a2 : Option Addr} {n2 c2 : Nat} {b : Bk} (h : Bx2 w w1 k a n c a2 n2 c2 b) (hb : Below w1.heap.size w1 w2) (o : Obj) : Bx2 w (w2.alloc o) k a n c a2 n2 c2 b :=
  h.keep (Lines.below_keep hb ((Below.refl _ w2).alloc (Nat.le_refl _) o) hb.size)
def BookE (w : World) (b : Bk) (er : Int) (e : Ending) (w' : World) : Prop :=
  ∃ a n c a2 n2 c2, e = .returned (.tuple #[.agg #[.slice a n c, .slice a2 n2 c2], .int .i64 er]) ∧ BkAt w' a n a2 n2 c2 b ∧ Below w.heap.size w w'
theorem book_e {w : World} {b : Bk} {er : Int} {r : Bk × Int} {f : FuncId} {args : Array Value} (hr : r = (b, er)) (h : Calls Try.prog f args w (BookR w r)) : Calls Try.prog f args w (BookE w b er) := by
  subst hr; exact h
set_option maxHeartbeats 4000000 in
theorem awake_any (w : World) : Calls Try.prog 6 #[] w fun e w' => e = .returned (.bool true) ∧ Below w.heap.size w w' := by
  have hb0 : Below w.heap.size w (w.alloc (.cells #[.string tea, .int .i64 3] 53)) := (Below.refl _ w).alloc (Nat.le_refl _) _
  have C1 := Lib.hid (restock_any none 0 0 none 0 0 bk0 tea 5 (w.alloc (.cells #[.string tea, .int .i64 3] 53)) ⟨SkAt.nil _ _, HsAt.nil _ _, Nat.le_refl _⟩ (fit_szb (by decide +kernel)) (by decide))
  have H0 := Lib.hid hb0
  have HL := Lib.hid (ls_tea 3 w)
  have HE1 : Hid (restockB bk0 tea 5 = (e1.1, 0)) := by show restockB bk0 tea 5 = _; rw [← ex1.1]; rfl
  have HE2 : Hid (heldB e1.1 1 [(tea, 3)] 0 1 = (e2.1, 0)) := by show heldB e1.1 1 [(tea, 3)] 0 1 = _; rw [← ex2.1]; rfl
  have HE3 : Hid (dropB e2.1 1 3 = (e3.1, 0)) := by show dropB e2.1 1 3 = _; rw [← ex3.1]; rfl
  have HE4 : Hid (sendB e3.1 [(tea, 3)] = (e4.1, 0)) := by show sendB e3.1 [(tea, 3)] = _; rw [← ex4.1]; rfl
  have HE5 : Hid (heldB e1.1 1 [(tea, 6)] 0 1 = (e5.1, 6)) := by show heldB e1.1 1 [(tea, 6)] 0 1 = _; rw [← ex5]; rfl
  have S1 := Lib.hid (fit_szb ex1.2); have S2 := Lib.hid (fit_szb ex2.2.1); have S3 := Lib.hid (fit_szb ex3.2.1); have S4 := Lib.hid (fit_szb ex4.2.1)
  have L2 := Lib.hid ex2.2.2; have L3 := Lib.hid ex3.2.2; have X6 := Lib.hid ex6
  have HNE := Lib.hid (fun w => eql_sku tea tea 2 0 0 3 5 2 0 0 3 5 w)
  have hgd := fun x y w => guard_eql x y tea tea 2 0 0 3 5 2 0 0 3 5 w
  have hT : Hid (tea = ⟨#[116, 101, 97]⟩) := rfl
  have Z3 := Lib.hid (sz_tea 3 (by decide)); have Z6 := Lib.hid (sz_tea 6 (by decide))
  have L6 := Lib.hid (fun w => ls_tea 6 w)
  generalize e5.1 = b5 at HE5
  generalize e4.1 = b4 at HE4 S4 X6
  generalize e3.1 = b3 at HE3 HE4 S3 L3
  generalize e2.1 = b2 at HE2 HE3 S2 L2
  generalize e1.1 = b1 at HE1 HE2 HE5 S1
  clear hb0
  have C1 := Lib.hid (book_e HE1.out C1.out)
  unfold sv at HNE hgd
  rw [show eqS ⟨tea, 2, 0, 0, 3, 5⟩ ⟨tea, 2, 0, 0, 3, 5⟩ = true from eqS_iff.2 rfl] at HNE
  have hneq := HNE.out
  generalize htt : tea = tt at *
  have htt2 : (⟨#[116, 101, 97]⟩ : ByteArray) = tt := htt
  have HTT2 := Lib.hid htt2
  go_enter Try.func6, Try.ntmps6
  rw [htt2]
  clear htt htt2 HNE
  go_wp2_with fail
  refine C1.out.mono ?_
  rintro e w1 ⟨a1, n1, c1, p1, m1, d1, rfl, hbk, hb⟩
  have B1 := Lib.hid (bx2_new (c := c1) (Lines.below_keep H0.out hb H0.out.size) hbk)
  have HL1 := Lib.hid ((HL.out.keep hb).keep ((Below.refl _ w1).alloc (Nat.le_refl _) (.cells #[.slice a1 n1 c1, .slice p1 m1 d1] 28)))
  clear hbk hb
  have C2 := Lib.hid (book_e HE2.out (hold_any a1 n1 c1 p1 m1 d1 b1 1 0 _ 1 1 [(tt, 3)] _ B1.out.bk S1.out HL1.out Z3.out (by decide)))
  obtain ⟨q0, q1⟩ := cells2 B1.out.box
  go_wp2_with fail
  refine C2.out.mono ?_
  rintro e w2 ⟨a2, n2, c2, p2, m2, d2, rfl, hbk, hb⟩
  have B2 := Lib.hid (bx2_new (c := c2) (Lines.below_keep B1.out.bel hb B1.out.bel.size) hbk)
  have B12 := Lib.hid (bx2_after B1.out hb (.cells #[.slice a2 n2 c2, .slice p2 m2 d2] 28))
  have HL2 := Lib.hid ((HL1.out.keep hb).keep ((Below.refl _ w2).alloc (Nat.le_refl _) (.cells #[.slice a2 n2 c2, .slice p2 m2 d2] 28)))
  have hm2 : p2 = p2 ∧ m2 = 1 := ⟨rfl, by rw [← hbk.hd.len]; exact L2.out⟩
  obtain ⟨_, rfl⟩ := hm2
  clear hbk hb q0 q1
  have C3 := Lib.hid (book_e HE3.out (keep_any a2 n2 c2 p2 1 d2 b2 1 _ B2.out.bk S2.out))
  obtain ⟨q0, q1⟩ := cells2 B2.out.box
  go_wp2_with fail
  refine C3.out.mono ?_
  rintro e w3 ⟨a3, n3, c3, p3, m3, d3, rfl, hbk, hb⟩
  have B3 := Lib.hid (bx2_new (c := c3) (Lines.below_keep B2.out.bel hb B2.out.bel.size) hbk)
  have B13 := Lib.hid (bx2_after B12.out hb (.cells #[.slice a3 n3 c3, .slice p3 m3 d3] 28))
  have B23 := Lib.hid (bx2_after B2.out hb (.cells #[.slice a3 n3 c3, .slice p3 m3 d3] 28))
  have HL3 := Lib.hid ((HL2.out.keep hb).keep ((Below.refl _ w3).alloc (Nat.le_refl _) (.cells #[.slice a3 n3 c3, .slice p3 m3 d3] 28)))
  have hm3 : p3 = p3 ∧ m3 = 0 := ⟨rfl, by rw [← hbk.hd.len]; exact L3.out⟩
  obtain ⟨_, rfl⟩ := hm3
  clear hbk hb q0 q1
  have C4 := Lib.hid (book_e HE4.out (send_any a3 n3 c3 p3 0 d3 b3 _ 1 1 [(tt, 3)] _ B3.out.bk S3.out HL3.out Z3.out (by decide)))
  obtain ⟨q0, q1⟩ := cells2 B3.out.box
  go_wp2_with fail
  refine C4.out.mono ?_
  rintro e w4 ⟨a4, n4, c4, p4, m4, d4, rfl, hbk, hb⟩
  have B4 := Lib.hid (bx2_new (c := c4) (Lines.below_keep B3.out.bel hb B3.out.bel.size) hbk)
  have B14 := Lib.hid (bx2_after B13.out hb (.cells #[.slice a4 n4 c4, .slice p4 m4 d4] 28))
  have B24 := Lib.hid (bx2_after B23.out hb (.cells #[.slice a4 n4 c4, .slice p4 m4 d4] 28))
  have B34 := Lib.hid (bx2_after B3.out hb (.cells #[.slice a4 n4 c4, .slice p4 m4 d4] 28))
  clear hbk hb q0 q1
  have hw4 := L6.out (w4.alloc (.cells #[.slice a4 n4 c4, .slice p4 m4 d4] 28))
  rw [World.size_alloc] at hw4
  have HW4 := Lib.hid hw4
  clear hw4
  have hal := (Below.refl _ (w4.alloc (.cells #[.slice a4 n4 c4, .slice p4 m4 d4] 28))).alloc (Nat.le_refl _) (.cells #[.string tt, .int .i64 6] 53)
  have D1 := Lib.hid (B14.out.keep hal); have D2 := Lib.hid (B24.out.keep hal); have D3 := Lib.hid (B34.out.keep hal); have D4 := Lib.hid (B4.out.keep hal)
  clear hal
  have C5 := Lib.hid (book_e HE5.out (hold_any a1 n1 c1 p1 m1 d1 b1 1 0 _ 1 1 [(tt, 6)] _ D1.out.bk S1.out HW4.out Z6.out (by decide)))
  obtain ⟨q0, q1⟩ := cells2 B14.out.box
  go_wp2_with fail
  refine C5.out.mono ?_
  rintro e w5 ⟨a5, n5, c5, p5, m5, d5, rfl, hbk, hb⟩
  have F2 := Lib.hid (bx2_after D2.out hb (.cells #[.slice a5 n5 c5, .slice p5 m5 d5] 28))
  have F3 := Lib.hid (bx2_after D3.out hb (.cells #[.slice a5 n5 c5, .slice p5 m5 d5] 28))
  have F4 := Lib.hid (bx2_after D4.out hb (.cells #[.slice a5 n5 c5, .slice p5 m5 d5] 28))
  clear hbk hb q0 q1
  have C6 := Lib.hid (find_any a4 n4 c4 p4 m4 d4 b4 tt _ X6.out _ F4.out.bk.sk)
  obtain ⟨q0, q1⟩ := cells2 F4.out.box
  unfold skV getS at C6
  go_wp2_with fail
  refine C6.out.mono ?_
  rintro e w6 ⟨rfl, hb⟩
  have G2 := Lib.hid (bx2_after F2.out hb (.cells #[.string tt, .int .i64 2, .int .i64 0, .int .i64 0, .int .i64 3, .int .i64 5] 49))
  have G3 := Lib.hid (bx2_after F3.out hb (.cells #[.string tt, .int .i64 2, .int .i64 0, .int .i64 0, .int .i64 3, .int .i64 5] 49))
  clear hb q0 q1
  simp only [Option.getD_some, Option.isSome_some]
  obtain ⟨u0, u1⟩ := cells2 G2.out.box
  obtain ⟨v0, v1⟩ := cells2 G3.out.box
  go_wp2_with fail
  go_ret
  exact ⟨rfl, G3.out.bel⟩
end Go.Proofs.Ytjclkiabgemfpaa.Ledger

/-
  LedgerBack: it returns true for any book, any lines; what was there stays as it was.
-/
set_option linter.unusedVariables false
set_option maxRecDepth 4000
namespace Go.Proofs.Ytjclkiabgemfpaa.Ledger
open Go.RowKit LinesP HoldsP LedgerP
open StockP (Sk sk0 fitS Fit fitS_iff fromV turnV moveV turn_fit)
open Go.Proofs.Ytjclkiabgemfpaa.Lines (LsAt Sz SzM ret_bool ret_int below_keep below_drewN fewV few_sz)
open Go.Proofs.Ytjclkiabgemfpaa.Holds (HsAt SzH SzMH hmf)

theorem back_plain {b x : Bk} {g t : Int} {ls : List Ln} (h : heldB b g ls t 1 = (x, 0)) :
    FitB x ∧ ∃ kk ss : Bk, dropB x g 2 = (b, 0) ∧ dropB x g 3 = (kk, 0) ∧ FitB kk ∧ heldB kk g ls t 4 = (x, 0) ∧ sendB kk ls = (ss, 0) ∧
      ∀ z ∈ ls, ∃ p q, findS z.1 kk.sk = some p ∧ findS z.1 ss.sk = some q ∧ q.kept = p.kept - z.2 ∧ q.sent = p.sent + z.2 ∧ (0 ≤ p.kept ∧ p.kept ≤ 1099511627776) ∧ (0 ≤ p.sent ∧ p.sent ≤ 1099511627776) ∧ 1 ≤ z.2 ∧ z.2 ≤ 1048576 := by
  rcases held_ways b g ls t 1 with ⟨e, he, hne⟩ | ⟨_, k, h1, h2, h3, hok⟩
  · rw [he] at h
    exact absurd (congrArg Prod.snd h) hne
  · obtain ⟨y, kk, ss, a1, a2, a3, a4, a5, a6, a7, a8, a9⟩ := back_all k h1 h2 h3 hok
    obtain rfl : y = x := congrArg Prod.fst (a1.symm.trans h)
    refine ⟨a2, kk, ss, a3, a4, a5, a6, a7, fun z hz => ?_⟩
    obtain ⟨p, q, b1, b2, b3, b4⟩ := a9 z hz
    have hp := (a5.each p (findS_mem b1).1).1
    have hu := hp.up
    have hq := qty_iff.1 (fitL_mem (oneH_fit h1) z hz).2
    exact ⟨p, q, b1, b2, b3, b4, ⟨hp.kept, hu.2.2.1⟩, ⟨hp.sent, hu.2.2.2.1⟩, hq⟩
structure BxR (w w' : World) (k : Nat) (a : Option Addr) (n c : Nat) (a2 : Option Addr) (n2 c2 : Nat) (b : Bk) : Prop where
  bel : Below w.heap.size w w'
  box : w'.heap[k]? = some (.cells #[.slice a n c, .slice a2 n2 c2] 40 (0, 0))
  bk : BkAt w' a n a2 n2 c2 b
theorem BxR.keep {w w' w2 : World} {k : Nat} {a : Option Addr} {n c : Nat} {a2 : Option Addr} {n2 c2 : Nat} {b : Bk} (h : BxR w w' k a n c a2 n2 c2 b) (hb : Below w'.heap.size w' w2) : BxR w w2 k a n c a2 n2 c2 b :=
  ⟨h.bel.trans (hb.mono h.bel.size), (hb.block k (heap_lt h.box)).trans h.box, h.bk.keep hb⟩
theorem bxr_new {w : World} {a : Option Addr} {n c : Nat} {a2 : Option Addr} {n2 c2 : Nat} {b : Bk} (h : BkAt w a n a2 n2 c2 b) : BxR w (w.alloc (.cells #[.slice a n c, .slice a2 n2 c2] 40)) w.heap.size a n c a2 n2 c2 b :=
  ⟨(Below.refl _ w).alloc (Nat.le_refl _) _, heap_alloc_new w _, h.keep ((Below.refl _ w).alloc (Nat.le_refl _) _)⟩
theorem bxr_after {w w1 w2 : World} {k : Nat} {a : Option Addr} {n c : Nat} {a2 : Option Addr} {n2 c2 : Nat} {b : Bk} (h : BxR w w1 k a n c a2 n2 c2 b) (hb : Below w1.heap.size w1 w2) (o : Obj) : BxR w (w2.alloc o) k a n c a2 n2 c2 b :=
  h.keep (Lines.below_keep hb ((Below.refl _ w2).alloc (Nat.le_refl _) o) hb.size)
theorem BxR.cells {w w' : World} {k : Nat} {a : Option Addr} {n c : Nat} {a2 : Option Addr} {n2 c2 : Nat} {b : Bk} (h : BxR w w' k a n c a2 n2 c2 b) : w'.cell? ⟨k, 0, none⟩ = some (.slice a n c) ∧ w'.cell? ⟨k, 1, none⟩ = some (.slice a2 n2 c2) := by
  refine ⟨?_, ?_⟩ <;> (rw [cell_of_heap h.box]; rfl)
theorem ls_after {w1 w2 : World} {la : Option Addr} {n : Nat} {ls : List Ln} (h : LsAt w1 la n ls) (hb : Below w1.heap.size w1 w2) (o : Obj) : LsAt (w2.alloc o) la n ls :=
  (h.keep hb).keep ((Below.refl _ w2).alloc (Nat.le_refl _) o)
theorem ls_at {w : World} {la : Option Addr} {n : Nat} {ls : List Ln} (h : LsAt w la n ls) {i : Nat} (hi : i < n) :
    ∃ b o s q, la = some ⟨b, o, none⟩ ∧ b < w.heap.size ∧ ls.getD i ln0 = (s, q) ∧ (s, q) ∈ ls ∧ ∀ w', Below w.heap.size w w' → w'.cell? ⟨b, o + i * 2, none⟩ = some (.string s) ∧ w'.cell? ⟨b, o + i * 2 + 1, none⟩ = some (.int .i64 q) := by
  obtain ⟨h1, h2, h3⟩ := h
  rcases h3 with h3 | ⟨b, o, e, hlt, hc⟩
  · omega
  · have hil : i < ls.length := by omega
    refine ⟨b, o, (ls.getD i ln0).1, (ls.getD i ln0).2, e, hlt, rfl, ?_, fun w' hb => ⟨(hb.cell (p := ⟨b, o + i * 2, none⟩) hlt).trans (hc i hi).1, (hb.cell (p := ⟨b, o + i * 2 + 1, none⟩) hlt).trans (hc i hi).2⟩⟩
    have : ls.getD i ln0 = ls[i] := by simp [List.getD, hil]
    show ls.getD i ln0 ∈ ls
    rw [this]; exact List.getElem_mem hil

theorem join1 {G : Prop} {P F : World → Prop} (main : (∀ w, F w → P w) → G) (pf : ∀ w, F w → P w) : G := main pf
set_option maxHeartbeats 8000000 in
theorem back_any (a : Option Addr) (len cap : Nat) (a2 : Option Addr) (len2 cap2 : Nat) (b : Bk) (sg t : Int) (la : Option Addr) (n lc : Nat) (ls : List Ln) (w : World)
    (h : BkAt w a len a2 len2 cap2 b) (hs : SzMB b) (hL : LsAt w la n ls) (hm : SzM ls) :
    Calls Try.prog 4 #[.agg #[.slice a len cap, .slice a2 len2 cap2], .int .i64 sg, .slice la n lc, .int .i64 t] w fun e w' => e = .returned (.bool true) ∧ Below w.heap.size w w' := by
  have HS := Lib.hid hs
  have HM := Lib.hid hm
  have B0 := Lib.hid (bxr_new (c := cap) h)
  have L0 := Lib.hid (hL.keep ((Below.refl _ w).alloc (Nat.le_refl _) (.cells #[.slice a len cap, .slice a2 len2 cap2] 40)))
  clear h hs hL hm
  obtain ⟨v, hv⟩ : ∃ v, fewB b = v := ⟨_, rfl⟩
  have HV := Lib.hid hv
  have C := Lib.hid (few_any a len cap a2 len2 cap2 b v hv _ B0.out.bk HS.out)
  clear hv
  obtain ⟨q0, q1⟩ := B0.out.cells
  go_enter Try.func4, Try.ntmps4
  go_wp2_with fail
  refine C.out.mono ?_
  rintro e w1 ⟨rfl, hb⟩
  have B1 := Lib.hid (B0.out.keep hb)
  have L1 := Lib.hid (L0.out.keep hb)
  clear hb q0 q1 C B0 L0
  cases v with
  | false =>
    go_wp2_with fail
    refine (awake_any w1).mono ?_
    rintro e w9 ⟨rfl, hb⟩
    have B9 := Lib.hid (B1.out.keep hb)
    clear hb
    go_wp2_with fail
    go_ret
    exact ⟨rfl, B9.out.bel⟩
  | true =>
    obtain ⟨v2, hv2⟩ : ∃ v2, fewV ls = v2 := ⟨_, rfl⟩
    have HV2 := Lib.hid hv2
    have C := Lib.hid (Holds.rfewL_is la n lc ls v2 hv2 _ L1.out HM.out)
    clear hv2
    go_wp2_with fail
    refine C.out.mono ?_
    rintro e w2 ⟨rfl, hb⟩
    have B2 := Lib.hid (B1.out.keep hb)
    have L2 := Lib.hid (L1.out.keep hb)
    clear hb C B1 L1
    cases v2 with
    | false =>
      go_wp2_with fail
      refine (awake_any w2).mono ?_
      rintro e w9 ⟨rfl, hb⟩
      have B9 := Lib.hid (B2.out.keep hb)
      clear hb
      go_wp2_with fail
      go_ret
      exact ⟨rfl, B9.out.bel⟩
    | true =>
      have hfew := few_sz HV2.out HM.out
      have hn8 : n ≤ 1000000 := by have h1 := L2.out.1; have h2 := hfew.1; omega
      have HSL := Lib.hid hfew.2
      have HSB := Lib.hid (fewB_szb HV.out HS.out).1
      have CO := Lib.hid (fun w' => of_any (.slice a len cap) (.slice a2 len2 cap2) w' ⟨_, _, _, rfl⟩ ⟨_, _, _, rfl⟩)
      clear hfew HV HV2 HS HM
      obtain ⟨q0, q1⟩ := B2.out.cells
      go_wp2_with fail
      refine (CO.out w2).mono ?_
      rintro e w3 ⟨rfl, hb⟩
      have B3 := Lib.hid (B2.out.keep hb)
      have L3 := Lib.hid (L2.out.keep hb)
      clear hb q0 q1 B2 L2
      have C := Lib.hid (hold_any a len cap a2 len2 cap2 b sg t la n lc ls w3 B3.out.bk HSB.out L3.out HSL.out hn8)
      go_wp2_with fail
      obtain ⟨⟨x, er⟩, hr⟩ : ∃ r, heldB b sg ls t 1 = r := ⟨_, rfl⟩
      have HR := Lib.hid hr
      rw [hr] at C
      clear hr
      refine C.out.mono ?_
      rintro e w4 ⟨a1, n1, c1, p1, m1, d1, rfl, hbk, hb⟩
      simp only at hbk
      have BX := Lib.hid (bx2_new (c := c1) (Lines.below_keep B3.out.bel hb B3.out.bel.size) hbk)
      have B4 := Lib.hid (bxr_after B3.out hb (.cells #[.slice a1 n1 c1, .slice p1 m1 d1] 28))
      have L4 := Lib.hid (ls_after L3.out hb (.cells #[.slice a1 n1 c1, .slice p1 m1 d1] 28))
      clear hb C B3 L3
      by_cases her : er = 0
      · subst her
        obtain ⟨hfx, kk, ss, hd2, hd3, hfk, hu, hsn, hrow⟩ := back_plain HR.out
        have SX := Lib.hid (fit_szb (fitB_iff.2 hfx)); have SK := Lib.hid (fit_szb (fitB_iff.2 hfk))
        have HD2 := Lib.hid hd2; have HD3 := Lib.hid hd3; have HU := Lib.hid hu; have HSN := Lib.hid hsn; have HROW := Lib.hid hrow
        clear hbk hfx hfk hd2 hd3 hu hsn hrow HR
        have N4 := BX
        clear BX
        have C := Lib.hid (book_e HD2.out (release_any a1 n1 c1 p1 m1 d1 x sg _ N4.out.bk SX.out))
        obtain ⟨q0, q1⟩ := cells2 N4.out.box
        go_wp2_with fail
        refine C.out.mono ?_
        rintro e w5 ⟨a5, n5, c5, p5, m5, d5, rfl, hbk, hb⟩
        have N5 := Lib.hid (bx2_new (c := c5) (Lines.below_keep N4.out.bel hb N4.out.bel.size) hbk)
        have N4 := Lib.hid (bx2_after N4.out hb (.cells #[.slice a5 n5 c5, .slice p5 m5 d5] 28))
        have B4 := Lib.hid (bxr_after B4.out hb (.cells #[.slice a5 n5 c5, .slice p5 m5 d5] 28))
        have L4 := Lib.hid (ls_after L4.out hb (.cells #[.slice a5 n5 c5, .slice p5 m5 d5] 28))
        clear hbk hb q0 q1 C
        have C := Lib.hid (book_e HD3.out (keep_any a1 n1 c1 p1 m1 d1 x sg _ N4.out.bk SX.out))
        obtain ⟨q0, q1⟩ := cells2 N4.out.box
        go_wp2_with fail
        refine C.out.mono ?_
        rintro e w6 ⟨a6, n6, c6, p6, m6, d6, rfl, hbk, hb⟩
        have N6 := Lib.hid (bx2_new (c := c6) (Lines.below_keep N4.out.bel hb N4.out.bel.size) hbk)
        have N4 := Lib.hid (bx2_after N4.out hb (.cells #[.slice a6 n6 c6, .slice p6 m6 d6] 28))
        have N5 := Lib.hid (bx2_after N5.out hb (.cells #[.slice a6 n6 c6, .slice p6 m6 d6] 28))
        have B4 := Lib.hid (bxr_after B4.out hb (.cells #[.slice a6 n6 c6, .slice p6 m6 d6] 28))
        have L4 := Lib.hid (ls_after L4.out hb (.cells #[.slice a6 n6 c6, .slice p6 m6 d6] 28))
        clear hbk hb q0 q1 C
        have C := Lib.hid (book_e HU.out (unkeep_any a6 n6 c6 p6 m6 d6 kk sg t la n lc ls _ N6.out.bk SK.out L4.out HSL.out hn8))
        obtain ⟨q0, q1⟩ := cells2 N6.out.box
        go_wp2_with fail
        refine C.out.mono ?_
        rintro e w7 ⟨a7, n7, c7, p7, m7, d7, rfl, hbk, hb⟩
        have N7 := Lib.hid (bx2_new (c := c7) (Lines.below_keep N6.out.bel hb N6.out.bel.size) hbk)
        have N4 := Lib.hid (bx2_after N4.out hb (.cells #[.slice a7 n7 c7, .slice p7 m7 d7] 28))
        have N5 := Lib.hid (bx2_after N5.out hb (.cells #[.slice a7 n7 c7, .slice p7 m7 d7] 28))
        have N6 := Lib.hid (bx2_after N6.out hb (.cells #[.slice a7 n7 c7, .slice p7 m7 d7] 28))
        have B4 := Lib.hid (bxr_after B4.out hb (.cells #[.slice a7 n7 c7, .slice p7 m7 d7] 28))
        have L4 := Lib.hid (ls_after L4.out hb (.cells #[.slice a7 n7 c7, .slice p7 m7 d7] 28))
        clear hbk hb q0 q1 C
        have C := Lib.hid (book_e HSN.out (send_any a6 n6 c6 p6 m6 d6 kk la n lc ls _ N6.out.bk SK.out L4.out HSL.out hn8))
        obtain ⟨q0, q1⟩ := cells2 N6.out.box
        go_wp2_with fail
        refine C.out.mono ?_
        rintro e w8 ⟨a8, n8, c8, p8, m8, d8, rfl, hbk, hb⟩
        have N8 := Lib.hid (bx2_new (c := c8) (Lines.below_keep N6.out.bel hb N6.out.bel.size) hbk)
        have N4 := Lib.hid (bx2_after N4.out hb (.cells #[.slice a8 n8 c8, .slice p8 m8 d8] 28))
        have N5 := Lib.hid (bx2_after N5.out hb (.cells #[.slice a8 n8 c8, .slice p8 m8 d8] 28))
        have N6 := Lib.hid (bx2_after N6.out hb (.cells #[.slice a8 n8 c8, .slice p8 m8 d8] 28))
        have N7 := Lib.hid (bx2_after N7.out hb (.cells #[.slice a8 n8 c8, .slice p8 m8 d8] 28))
        have B4 := Lib.hid (bxr_after B4.out hb (.cells #[.slice a8 n8 c8, .slice p8 m8 d8] 28))
        have L4 := Lib.hid (ls_after L4.out hb (.cells #[.slice a8 n8 c8, .slice p8 m8 d8] 28))
        clear hbk hb q0 q1 C
        go_wp2_with fail
        obtain ⟨k4, hk4⟩ : ∃ k, w4.heap.size = k := ⟨_, rfl⟩
        obtain ⟨k5, hk5⟩ : ∃ k, w5.heap.size = k := ⟨_, rfl⟩
        obtain ⟨k6, hk6⟩ : ∃ k, w6.heap.size = k := ⟨_, rfl⟩
        obtain ⟨k7, hk7⟩ : ∃ k, w7.heap.size = k := ⟨_, rfl⟩
        obtain ⟨k8, hk8⟩ : ∃ k, w8.heap.size = k := ⟨_, rfl⟩
        rw [hk4] at N4 ⊢
        rw [hk5] at N5 ⊢
        rw [hk6] at N6 ⊢
        rw [hk7] at N7 ⊢
        rw [hk8] at N8 ⊢
        clear hk4 hk5 hk6 hk7 hk8
        generalize w8.alloc (.cells #[.slice a8 n8 c8, .slice p8 m8 d8] 28) = wq at N4 N5 N6 N7 N8 B4 L4 ⊢
        have S0 : Hid (∀ w', Below wq.heap.size wq w' → (w'.cell? ⟨w.heap.size, 0, none⟩ = some (.slice a len cap) ∧ w'.cell? ⟨w.heap.size, 1, none⟩ = some (.slice a2 len2 cap2)) ∧ (w'.cell? ⟨k4, 0, none⟩ = some (.slice a1 n1 c1) ∧ w'.cell? ⟨k4, 1, none⟩ = some (.slice p1 m1 d1)) ∧ (w'.cell? ⟨k5, 0, none⟩ = some (.slice a5 n5 c5) ∧ w'.cell? ⟨k5, 1, none⟩ = some (.slice p5 m5 d5)) ∧ (w'.cell? ⟨k7, 0, none⟩ = some (.slice a7 n7 c7) ∧ w'.cell? ⟨k7, 1, none⟩ = some (.slice p7 m7 d7))) := by
          intro w' hb
          exact ⟨(B4.out.keep hb).cells, cells2 (N4.out.keep hb).box, cells2 (N5.out.keep hb).box, cells2 (N7.out.keep hb).box⟩
        have CS1 : Hid (∀ w', Below wq.heap.size wq w' → Calls Try.prog 18 #[.agg #[.slice a5 n5 c5, .slice p5 m5 d5], .agg #[.slice a len cap, .slice a2 len2 cap2]] w' fun e w'' => e = .returned (.bool true) ∧ Below w'.heap.size w' w'') := by
          intro w' hb
          exact same_any a5 n5 c5 p5 m5 d5 a len cap a2 len2 cap2 b b true (eqB_iff.2 rfl) w' (N5.out.keep hb).bk (B4.out.keep hb).bk
        have CS2 : Hid (∀ w', Below wq.heap.size wq w' → Calls Try.prog 18 #[.agg #[.slice a7 n7 c7, .slice p7 m7 d7], .agg #[.slice a1 n1 c1, .slice p1 m1 d1]] w' fun e w'' => e = .returned (.bool true) ∧ Below w'.heap.size w' w'') := by
          intro w' hb
          exact same_any a7 n7 c7 p7 m7 d7 a1 n1 c1 p1 m1 d1 x x true (eqB_iff.2 rfl) w' (N7.out.keep hb).bk (N4.out.keep hb).bk
        apply join1 (F := fun wz => Below wq.heap.size wq wz)
        · intro hG
          have b4 : Below wq.heap.size wq wq.drew := (Below.refl _ wq).drew
          have kf := S0.out _ b4
          go_region_held3 (fun w' => (w'.cell? ⟨w.heap.size, 0, none⟩ = some (.slice a len cap) ∧ w'.cell? ⟨w.heap.size, 1, none⟩ = some (.slice a2 len2 cap2)) ∧ (w'.cell? ⟨k4, 0, none⟩ = some (.slice a1 n1 c1) ∧ w'.cell? ⟨k4, 1, none⟩ = some (.slice p1 m1 d1)) ∧ (w'.cell? ⟨k5, 0, none⟩ = some (.slice a5 n5 c5) ∧ w'.cell? ⟨k5, 1, none⟩ = some (.slice p5 m5 d5)) ∧ (w'.cell? ⟨k7, 0, none⟩ = some (.slice a7 n7 c7) ∧ w'.cell? ⟨k7, 1, none⟩ = some (.slice p7 m7 d7)))
            (first | with_reducible exact kf)
            (first
              | ((with_reducible refine (CO.out _).mono ?_); rintro e w9 ⟨rfl, hb4⟩; have b4 := Lines.below_keep b4 hb4 b4.size; have kf := S0.out _ b4)
              | ((with_reducible refine (CS1.out _ b4).mono ?_); rintro e w9 ⟨rfl, hb4⟩; have b4 := Lines.below_keep b4 hb4 b4.size; have kf := S0.out _ b4)
              | ((with_reducible refine (CS2.out _ b4).mono ?_); rintro e w9 ⟨rfl, hb4⟩; have b4 := Lines.below_keep b4 hb4 b4.size; have kf := S0.out _ b4))
          all_goals exact hG w9 b4
        · intro wl hbl
          have M6 := Lib.hid (N6.out.keep hbl)
          have M8 := Lib.hid (N8.out.keep hbl)
          have ML := Lib.hid (L4.out.keep hbl)
          clear N4 N5 N6 N7 N8 B4 L4 CO CS1 CS2 S0 HD2 HD3 HU HSN SX SK HSL HSB hbl
          go_wp2_with fail
          go_loopw [19] (fun i wr2 => ∃ m : Nat, m ≤ n ∧ i = .int .i64 (m : Int) ∧ Hid (Below wl.heap.size wl wr2)) (fun i _ => n - (intOf i).toNat)
          case atStart => exact ⟨0, Nat.zero_le _, rfl, Lib.hid (Below.refl _ _)⟩
          case round =>
            obtain ⟨m, hmn, rfl, hbr⟩ := hrel
            by_cases hlt : m < n
            · obtain ⟨bL, oL, s, q, rfl, gL, hp, hmem, hcL⟩ := ls_at (ML.out.keep hbr.out) hlt
              obtain ⟨P, Q, f1, f2, g1, g2, g3, g4, g5⟩ := HROW.out _ hmem
              obtain ⟨pn, x0, x1, x2, x3, x4⟩ := P
              obtain ⟨qn, y0, y1, y2, y3, y4⟩ := Q
              simp only at f1 f2 g1 g2 g3 g4 g5
              have HCL := Lib.hid hcL
              have CF1 : Hid (∀ w', Below wr.heap.size wr w' → Calls Try.prog 19 #[.agg #[.slice a6 n6 c6, .slice p6 m6 d6], .string s] w' fun e w'' => e = .returned (.tuple #[.agg #[.string pn, .int .i64 x0, .int .i64 x1, .int .i64 x2, .int .i64 x3, .int .i64 x4], .bool true]) ∧ Below w'.heap.size w' w'') :=
                fun w' hb => find_any a6 n6 c6 p6 m6 d6 kk s _ f1 w' ((M6.out.keep hbr.out).keep hb).bk.sk
              have CF2 : Hid (∀ w', Below wr.heap.size wr w' → Calls Try.prog 19 #[.agg #[.slice a8 n8 c8, .slice p8 m8 d8], .string s] w' fun e w'' => e = .returned (.tuple #[.agg #[.string qn, .int .i64 y0, .int .i64 y1, .int .i64 y2, .int .i64 y3, .int .i64 y4], .bool true]) ∧ Below w'.heap.size w' w'') :=
                fun w' hb => find_any a8 n8 c8 p8 m8 d8 ss s _ f2 w' ((M8.out.keep hbr.out).keep hb).bk.sk
              have HNUM : Hid (IntKind.i64.wrap (x2 - q) = y2 ∧ IntKind.i64.wrap (x3 + q) = y3) := by
                show IntKind.i64.wrap (x2 - q) = y2 ∧ IntKind.i64.wrap (x3 + q) = y3
                rw [IntKind.wrap_i64, IntKind.wrap_i64]; omega
              have hb1 := hbr.out
              clear hcL hmem f1 f2 g1 g2 g3 g4 g5 hp gL
              clear hb1
              go_wp2_with fail
              have K : Hid (∀ w', Below wr.heap.size wr w' → w'.cell? ⟨k6, 0, none⟩ = some (.slice a6 n6 c6) ∧ w'.cell? ⟨k6, 1, none⟩ = some (.slice p6 m6 d6) ∧ w'.cell? ⟨bL, oL + m * 2, none⟩ = some (.string s)) := fun w' hb => ⟨(cells2 ((M6.out.keep hbr.out).keep hb).box).1, (cells2 ((M6.out.keep hbr.out).keep hb).box).2, (HCL.out w' hb).1⟩
              apply join2 (F := fun wz bx => Below wr.heap.size wr wz ∧ At6 wz bx (.string pn) (.int .i64 x0) (.int .i64 x1) (.int .i64 x2) (.int .i64 x3) (.int .i64 x4))
              · intro hG
                have b0 : Below wr.heap.size wr wr.drew := (Below.refl _ wr).drew
                have k0 := K.out _ b0
                have b00 : Below wr.heap.size wr (wr.alloc (.cells #[.string ⟨#[]⟩, .int .i64 0, .int .i64 0, .int .i64 0, .int .i64 0, .int .i64 0] 49)).drew := ((Below.refl _ wr).alloc (Nat.le_refl _) _).drew
                have k00 := K.out _ b00
                have k01 := K.out _ ((Below.refl _ wr).alloc (Nat.le_refl _) (.cells #[.string ⟨#[]⟩, .int .i64 0, .int .i64 0, .int .i64 0, .int .i64 0, .int .i64 0] 49))
                go_region_held3 (fun w' => w'.cell? ⟨k6, 0, none⟩ = some (.slice a6 n6 c6) ∧ w'.cell? ⟨k6, 1, none⟩ = some (.slice p6 m6 d6) ∧ w'.cell? ⟨bL, oL + m * 2, none⟩ = some (.string s))
                  (first | with_reducible exact k0 | with_reducible exact k00 | with_reducible exact k01 | with_reducible exact k4 | with_reducible exact k5 | with_reducible exact k6)
                  (first
                    | ((with_reducible refine (CF1.out (wr.alloc (.cells #[.string ⟨#[]⟩, .int .i64 0, .int .i64 0, .int .i64 0, .int .i64 0, .int .i64 0] 49)).drew b00).mono ?_); rintro e w4 ⟨rfl, hb4⟩; have b4 := Lines.below_keep b00 hb4 b00.size; have k4 := K.out _ b4; have k5 := k4; have k6 := K.out _ (below_put6 b4 (Nat.le_refl _) (.string pn) (.int .i64 x0) (.int .i64 x1) (.int .i64 x2) (.int .i64 x3) (.int .i64 x4)); have hz4 := At6.keep (w := (wr.alloc (.cells #[.string ⟨#[]⟩, .int .i64 0, .int .i64 0, .int .i64 0, .int .i64 0, .int .i64 0] 49)).drew) (at6_new wr (.string ⟨#[]⟩) (.int .i64 0) (.int .i64 0) (.int .i64 0) (.int .i64 0) (.int .i64 0)) hb4; obtain ⟨z0, z1, z2, z3, z4, z5⟩ := cells6 hz4; obtain ⟨f0, f1, f2, f3, f4, f5⟩ := free6 hz4)
                    | ((with_reducible refine (CF1.out wr.drew b0).mono ?_); rintro e w4 ⟨rfl, hb4⟩; have b4 := Lines.below_keep b0 hb4 b0.size; have k4 := K.out _ b4; have k5 := K.out _ (b4.alloc b4.size (.cells #[.string ⟨#[]⟩, .int .i64 0, .int .i64 0, .int .i64 0, .int .i64 0, .int .i64 0] 49)); have k6 := K.out _ (b4.alloc b4.size (.cells #[.string pn, .int .i64 x0, .int .i64 x1, .int .i64 x2, .int .i64 x3, .int .i64 x4] 49))))
                · have hwz0 : Below wr.heap.size wr (w4.alloc (.cells #[.string pn, .int .i64 x0, .int .i64 x1, .int .i64 x2, .int .i64 x3, .int .i64 x4] 49)) := b4.alloc b4.size _
                  have hx0 := at6_new w4 (.string pn) (.int .i64 x0) (.int .i64 x1) (.int .i64 x2) (.int .i64 x3) (.int .i64 x4)
                  clear k0 k00 k01 k4 k5 k6 b0 b00 b4 hb4
                  generalize hwz : w4.alloc (.cells #[.string pn, .int .i64 x0, .int .i64 x1, .int .i64 x2, .int .i64 x3, .int .i64 x4] 49) = wz at hwz0 hx0 ⊢
                  generalize hbx : w4.heap.size = bx at hx0 ⊢
                  exact hG wz bx ⟨hwz0, hx0⟩
                · have hwz0 := below_put6 b4 (Nat.le_refl _) (.string pn) (.int .i64 x0) (.int .i64 x1) (.int .i64 x2) (.int .i64 x3) (.int .i64 x4)
                  have hx0 := heap_put6 hz4 (.string pn) (.int .i64 x0) (.int .i64 x1) (.int .i64 x2) (.int .i64 x3) (.int .i64 x4)
                  change At6 (put6 w4 wr.heap.size (.string pn) (.int .i64 x0) (.int .i64 x1) (.int .i64 x2) (.int .i64 x3) (.int .i64 x4)) wr.heap.size _ _ _ _ _ _ at hx0
                  clear k0 k00 k01 k4 k5 k6 b0 b00 b4 hb4 hz4 z0 z1 z2 z3 z4 z5 f0 f1 f2 f3 f4 f5
                  unfold put6 at hwz0 hx0
                  generalize hwz : (((((w4.setCell ⟨wr.heap.size, 0, none⟩ (.string pn)).setCell ⟨wr.heap.size, 1, none⟩ (.int .i64 x0)).setCell ⟨wr.heap.size, 2, none⟩ (.int .i64 x1)).setCell ⟨wr.heap.size, 3, none⟩ (.int .i64 x2)).setCell ⟨wr.heap.size, 4, none⟩ (.int .i64 x3)).setCell ⟨wr.heap.size, 5, none⟩ (.int .i64 x4) = wz at hwz0 hx0 ⊢
                  obtain ⟨bx, hbx⟩ : ∃ bx, wr.heap.size = bx := ⟨_, rfl⟩
                  have hx1 : At6 wz bx (.string pn) (.int .i64 x0) (.int .i64 x1) (.int .i64 x2) (.int .i64 x3) (.int .i64 x4) := hbx ▸ hx0
                  rw [hbx]
                  exact hG wz bx ⟨hwz0, hx1⟩
              · intro wz1 bx1 hF
                have HF1 := Lib.hid hF.1
                have HP1 : Hid (At6 wz1 bx1 (.string pn) (.int .i64 x0) (.int .i64 x1) (.int .i64 x2) (.int .i64 x3) (.int .i64 x4)) := hF.2
                clear hF
                go_wp2_with fail
                have CF3 := Lib.hid (fun w' (hb : Below wz1.heap.size wz1 w') => CF2.out w' (Lines.below_keep HF1.out hb HF1.out.size))
                have K : Hid (∀ w', Below wz1.heap.size wz1 w' → w'.cell? ⟨k8, 0, none⟩ = some (.slice a8 n8 c8) ∧ w'.cell? ⟨k8, 1, none⟩ = some (.slice p8 m8 d8) ∧ w'.cell? ⟨bL, oL + m * 2, none⟩ = some (.string s)) := fun w' hb => ⟨(cells2 (((M8.out.keep hbr.out).keep HF1.out).keep hb).box).1, (cells2 (((M8.out.keep hbr.out).keep HF1.out).keep hb).box).2, (HCL.out w' (Lines.below_keep HF1.out hb HF1.out.size)).1⟩
                apply join2 (F := fun wz bx => Below wz1.heap.size wz1 wz ∧ At6 wz bx (.string qn) (.int .i64 y0) (.int .i64 y1) (.int .i64 y2) (.int .i64 y3) (.int .i64 y4))
                · intro hG
                  have b0 : Below wz1.heap.size wz1 wz1.drew := (Below.refl _ wz1).drew
                  have k0 := K.out _ b0
                  have b00 : Below wz1.heap.size wz1 (wz1.alloc (.cells #[.string ⟨#[]⟩, .int .i64 0, .int .i64 0, .int .i64 0, .int .i64 0, .int .i64 0] 49)).drew := ((Below.refl _ wz1).alloc (Nat.le_refl _) _).drew
                  have k00 := K.out _ b00
                  have k01 := K.out _ ((Below.refl _ wz1).alloc (Nat.le_refl _) (.cells #[.string ⟨#[]⟩, .int .i64 0, .int .i64 0, .int .i64 0, .int .i64 0, .int .i64 0] 49))
                  go_region_held3 (fun w' => w'.cell? ⟨k8, 0, none⟩ = some (.slice a8 n8 c8) ∧ w'.cell? ⟨k8, 1, none⟩ = some (.slice p8 m8 d8) ∧ w'.cell? ⟨bL, oL + m * 2, none⟩ = some (.string s))
                    (first | with_reducible exact k0 | with_reducible exact k00 | with_reducible exact k01 | with_reducible exact k4 | with_reducible exact k5 | with_reducible exact k6)
                    (first
                      | ((with_reducible refine (CF3.out (wz1.alloc (.cells #[.string ⟨#[]⟩, .int .i64 0, .int .i64 0, .int .i64 0, .int .i64 0, .int .i64 0] 49)).drew b00).mono ?_); rintro e w4 ⟨rfl, hb4⟩; have b4 := Lines.below_keep b00 hb4 b00.size; have k4 := K.out _ b4; have k5 := k4; have k6 := K.out _ (below_put6 b4 (Nat.le_refl _) (.string qn) (.int .i64 y0) (.int .i64 y1) (.int .i64 y2) (.int .i64 y3) (.int .i64 y4)); have hz4 := At6.keep (w := (wz1.alloc (.cells #[.string ⟨#[]⟩, .int .i64 0, .int .i64 0, .int .i64 0, .int .i64 0, .int .i64 0] 49)).drew) (at6_new wz1 (.string ⟨#[]⟩) (.int .i64 0) (.int .i64 0) (.int .i64 0) (.int .i64 0) (.int .i64 0)) hb4; obtain ⟨z0, z1, z2, z3, z4, z5⟩ := cells6 hz4; obtain ⟨f0, f1, f2, f3, f4, f5⟩ := free6 hz4)
                      | ((with_reducible refine (CF3.out wz1.drew b0).mono ?_); rintro e w4 ⟨rfl, hb4⟩; have b4 := Lines.below_keep b0 hb4 b0.size; have k4 := K.out _ b4; have k5 := K.out _ (b4.alloc b4.size (.cells #[.string ⟨#[]⟩, .int .i64 0, .int .i64 0, .int .i64 0, .int .i64 0, .int .i64 0] 49)); have k6 := K.out _ (b4.alloc b4.size (.cells #[.string qn, .int .i64 y0, .int .i64 y1, .int .i64 y2, .int .i64 y3, .int .i64 y4] 49))))
                  · have hwz0 : Below wz1.heap.size wz1 (w4.alloc (.cells #[.string qn, .int .i64 y0, .int .i64 y1, .int .i64 y2, .int .i64 y3, .int .i64 y4] 49)) := b4.alloc b4.size _
                    have hx0 := at6_new w4 (.string qn) (.int .i64 y0) (.int .i64 y1) (.int .i64 y2) (.int .i64 y3) (.int .i64 y4)
                    clear k0 k00 k01 k4 k5 k6 b0 b00 b4 hb4
                    generalize hwz : w4.alloc (.cells #[.string qn, .int .i64 y0, .int .i64 y1, .int .i64 y2, .int .i64 y3, .int .i64 y4] 49) = wz at hwz0 hx0 ⊢
                    generalize hbx : w4.heap.size = bx at hx0 ⊢
                    exact hG wz bx ⟨hwz0, hx0⟩
                  · have hwz0 := below_put6 b4 (Nat.le_refl _) (.string qn) (.int .i64 y0) (.int .i64 y1) (.int .i64 y2) (.int .i64 y3) (.int .i64 y4)
                    have hx0 := heap_put6 hz4 (.string qn) (.int .i64 y0) (.int .i64 y1) (.int .i64 y2) (.int .i64 y3) (.int .i64 y4)
                    change At6 (put6 w4 wz1.heap.size (.string qn) (.int .i64 y0) (.int .i64 y1) (.int .i64 y2) (.int .i64 y3) (.int .i64 y4)) wz1.heap.size _ _ _ _ _ _ at hx0
                    clear k0 k00 k01 k4 k5 k6 b0 b00 b4 hb4 hz4 z0 z1 z2 z3 z4 z5 f0 f1 f2 f3 f4 f5
                    unfold put6 at hwz0 hx0
                    generalize hwz : (((((w4.setCell ⟨wz1.heap.size, 0, none⟩ (.string qn)).setCell ⟨wz1.heap.size, 1, none⟩ (.int .i64 y0)).setCell ⟨wz1.heap.size, 2, none⟩ (.int .i64 y1)).setCell ⟨wz1.heap.size, 3, none⟩ (.int .i64 y2)).setCell ⟨wz1.heap.size, 4, none⟩ (.int .i64 y3)).setCell ⟨wz1.heap.size, 5, none⟩ (.int .i64 y4) = wz at hwz0 hx0 ⊢
                    obtain ⟨bx, hbx⟩ : ∃ bx, wz1.heap.size = bx := ⟨_, rfl⟩
                    have hx1 : At6 wz bx (.string qn) (.int .i64 y0) (.int .i64 y1) (.int .i64 y2) (.int .i64 y3) (.int .i64 y4) := hbx ▸ hx0
                    rw [hbx]
                    exact hG wz bx ⟨hwz0, hx1⟩
                · intro wz2 bx2 hF
                  have HF2 := Lib.hid (Lines.below_keep HF1.out hF.1 HF1.out.size)
                  have HQ1 : Hid (At6 wz2 bx2 (.string qn) (.int .i64 y0) (.int .i64 y1) (.int .i64 y2) (.int .i64 y3) (.int .i64 y4)) := hF.2
                  have HP2 : Hid (At6 wz2 bx1 (.string pn) (.int .i64 x0) (.int .i64 x1) (.int .i64 x2) (.int .i64 x3) (.int .i64 x4)) := HP1.out.keep hF.1
                  clear hF HP1
                  obtain ⟨c0, c1, c2', c3, c4, c5⟩ := cells6 HP2.out
                  obtain ⟨d0, d1, d2', d3, d4, d5⟩ := cells6 HQ1.out
                  obtain ⟨l0, l1⟩ := HCL.out _ HF2.out
                  obtain ⟨u1, u2⟩ := HNUM.out
                  have hlt2 : m < n := hlt
                  go_wp2_with fail
                  go_quiet (fail)
                  have HBZ := Lib.hid (fun k => below_drewN (Lines.below_keep hbr.out HF2.out hbr.out.size) k)
                  clear c0 c1 c2' c3 c4 c5 d0 d1 d2' d3 d4 d5 l0 l1 u1 u2
                  go_wp2_with fail
                  go_roundw
                  case rel => exact ⟨m + 1, by omega, by go_num, Lib.hid (HBZ.out _)⟩
                  case measure => simp [intOf]; omega
            · obtain rfl : m = n := by omega
              go_wp2_with fail
              refine (awake_any wr).mono ?_
              rintro e w9 ⟨rfl, hb⟩
              have HB9 := Lib.hid (Lines.below_keep (Lines.below_keep M6.out.bel hbr.out M6.out.bel.size) hb (Nat.le_trans M6.out.bel.size hbr.out.size))
              clear hb
              go_wp2_with fail
              go_ret
              exact ⟨rfl, HB9.out⟩
      · have hne := her
        have hx0 : x = bk0 := by
          rcases held_ways b sg ls t 1 with ⟨e, he, _⟩ | ⟨he, _⟩
          · exact congrArg Prod.fst (HR.out.symm.trans he)
          · exact absurd (congrArg Prod.snd (HR.out.symm.trans he)) hne
        subst hx0
        have e1 : 0 = n1 := hbk.sk.1
        have e2 : 0 = m1 := hbk.hd.len
        subst e1
        subst e2
        clear hbk HR her
        obtain ⟨q0, q1⟩ := cells2 BX.out.box
        go_wp2_with fail
        refine (awake_any _).mono ?_
        rintro e w9 ⟨rfl, hb⟩
        have B9 := Lib.hid (BX.out.keep hb)
        clear hb
        go_wp2_with fail
        go_ret
        exact ⟨rfl, B9.out.bel⟩
end Go.Proofs.Ytjclkiabgemfpaa.Ledger
