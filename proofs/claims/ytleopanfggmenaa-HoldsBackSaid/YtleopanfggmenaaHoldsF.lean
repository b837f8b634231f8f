/-
  The contracts of IndexFunc over Find's closure and of Find: any holds; what was there stays as it was.
-/
import Derived.Test.YtleopanfggmenaaHoldsE
set_option linter.unusedVariables false
set_option maxRecDepth 4000
namespace Go.Proofs.Ytleopanfggmenaa.Holds
open Go.RowKit LinesP HoldsP
open Go.Proofs.Ytleopanfggmenaa.Lines (LsAt Sz SzM ret_bool ret_int below_keep below_drewN)

theorem pick_any (g t : Int) (la : Option Addr) (n lc : Nat) (g0 : Int) (bs : Nat) (w : World) (hc : w.cell? ⟨bs, 0, none⟩ = some (.int .i64 g0)) (hlt : bs < w.heap.size) (b : Bool) (hb : (g == g0) = b) :
    Calls Try.prog 26 #[.agg #[.int .i64 g, .slice la n lc, .int .i64 t], .pointer (some ⟨bs, 0, none⟩)] w fun e w' => e = .returned (.bool b) ∧ Below w.heap.size w w' := by
  have hc2 : (w.alloc (.cells #[.int .i64 g, .slice la n lc, .int .i64 t] 27)).cell? ⟨bs, 0, none⟩ = some (.int .i64 g0) := (((Below.refl _ w).alloc (Nat.le_refl _) _).cell (p := ⟨bs, 0, none⟩) hlt).trans hc
  have HB := Lib.hid (box_below w g la n lc t)
  unfold box at HB
  have HV := Lib.hid hb
  go_enter Try.func26, Try.ntmps26
  go_wp2_with fail
  go_ret
  exact ⟨rfl, HB.out⟩
/-- Where the first hold of a saga stands; -1: there is none. -/
def ixH (g : Int) : Nat → List Hd → Int
  | _, [] => -1
  | k, x :: r => if x.saga = g then (k : Int) else ixH g (k + 1) r
theorem ix_yes {l : List Hd} {k : Nat} {x : Hd} {g : Int} (hk : k < l.length) (hx : l.getD k hd0 = x) (h : x.saga = g) : ixH g k (l.drop k) = (k : Int) := by
  rw [drop_at hk hx, ixH, if_pos h]
theorem ix_no {l : List Hd} {k : Nat} {x : Hd} {g : Int} (hk : k < l.length) (hx : l.getD k hd0 = x) (h : x.saga ≠ g) : ixH g k (l.drop k) = ixH g (k + 1) (l.drop (k + 1)) := by
  rw [drop_at hk hx, ixH, if_neg h]
theorem ix_done {l : List Hd} {k : Nat} {g : Int} (h : ¬ k < l.length) : ixH g k (l.drop k) = -1 := by
  rw [List.drop_eq_nil_of_le (by omega)]; rfl
theorem ix_find : ∀ (g : Int) (l : List Hd) (j : Nat), (findH g l = none ∧ ixH g j l = -1) ∨ ∃ k, k < l.length ∧ ixH g j l = ((j + k : Nat) : Int) ∧ findH g l = some (l.getD k hd0)
  | g, [], j => .inl ⟨rfl, rfl⟩
  | g, x :: r, j => by
    by_cases h : x.saga = g
    · exact .inr ⟨0, by simp, by rw [ixH, if_pos h]; rfl, by rw [findH, if_pos h]; rfl⟩
    · rcases ix_find g r (j + 1) with ⟨h1, h2⟩ | ⟨k, h1, h2, h3⟩
      · exact .inl ⟨by rw [findH, if_neg h]; exact h1, by rw [ixH, if_neg h]; exact h2⟩
      · exact .inr ⟨k + 1, by simpa using h1, by rw [ixH, if_neg h, h2]; omega, by rw [findH, if_neg h, h3]; simp⟩
set_option maxHeartbeats 1000000 in
theorem index_any (a : Option Addr) (len cap : Nat) (l : List Hd) (g0 : Int) (bs : Nat) (w : World) (h : HsAt w a len l) (hc : w.cell? ⟨bs, 0, none⟩ = some (.int .i64 g0)) (hlt : bs < w.heap.size) :
    Calls Try.prog 25 #[.slice a len cap, .func (.func 26) #[] #[.pointer (some ⟨bs, 0, none⟩)]] w fun e w' => e = .returned (.int .i64 (ixH g0 0 l)) ∧ Below w.heap.size w w' := by
  have hl := h.le
  obtain ⟨v, hv⟩ : ∃ v, ixH g0 0 l = v := ⟨_, rfl⟩
  rw [hv]
  have HX := Lib.hid h
  have HV : Hid (v = ixH g0 0 (l.drop 0)) := hv.symm
  have HC := Lib.hid (fun (w' : World) (hb : Below w.heap.size w w') => (hb.cell (p := ⟨bs, 0, none⟩) hlt).trans hc)
  have HLT := Lib.hid hlt
  clear h hv hc hlt
  go_enter Try.func25, Try.ntmps25
  go_wp2_with fail
  go_loopw [8] (fun i wr => ∃ k : Nat, k ≤ len ∧ i = .int .i64 (k : Int) ∧ Hid (v = ixH g0 k (l.drop k)) ∧ Hid (Below w.heap.size w wr)) (fun i _ => len - (intOf i).toNat)
  case atStart => exact ⟨0, Nat.zero_le _, rfl, HV, Below.refl _ w⟩
  case round =>
    obtain ⟨k, hk, rfl, hd, hB⟩ := hrel
    by_cases hlk : k < len
    · have hkx : k < l.length := by rw [HX.out.len]; exact hlk
      obtain ⟨b1, o1, g, la, lc, ls, t, rfl, g1, hp, hc1⟩ := HX.out.at hlk
      obtain ⟨d1, d2, d3, _⟩ := hc1 wr hB.out
      obtain ⟨n, hn⟩ : ∃ n, ls.length = n := ⟨_, rfl⟩
      rw [hn] at d2
      have hlt2 : bs < wr.heap.size := Nat.lt_of_lt_of_le HLT.out hB.out.size
      by_cases heq : g = g0
      · have HD : Hid (v = (k : Int)) := hd.out.trans (ix_yes hkx hp heq)
        have C := Lib.hid (pick_any g t la n lc g0 bs wr (HC.out wr hB.out) hlt2 true (by simpa using heq))
        clear hkx hp hd hn hc1 hlt2 heq
        go_wp2_with fail
        refine C.out.mono ?_
        rintro e w1 ⟨rfl, hb⟩
        have HB1 := Lib.hid (below_keep hB.out hb hB.out.size)
        go_wp2_with fail
        go_ret
        exact ⟨ret_int HD.out, HB1.out⟩
      · have HD := Lib.hid (hd.out.trans (ix_no hkx hp heq))
        have C := Lib.hid (pick_any g t la n lc g0 bs wr (HC.out wr hB.out) hlt2 false (by simpa using heq))
        clear hkx hp hd hn hc1 hlt2 heq
        go_wp2_with fail
        refine C.out.mono ?_
        rintro e w1 ⟨rfl, hb⟩
        have HB1 := Lib.hid (below_keep hB.out hb hB.out.size)
        go_wp2_with fail
        go_roundw
        case rel => exact ⟨k + 1, by omega, by go_num, HD, HB1⟩
        case measure => simp [intOf]; omega
    · obtain rfl : k = len := by omega
      have HD : Hid (v = -1) := hd.out.trans (ix_done (by rw [HX.out.len]; exact hlk))
      clear hd
      go_wp2_with fail
      go_ret
      exact ⟨ret_int HD.out, hB.out⟩
set_option maxHeartbeats 1000000 in
theorem find_any (a : Option Addr) (len cap : Nat) (l : List Hd) (g0 : Int) (w : World) (h : HsAt w a len l) (hs : ∀ x ∈ l, x.ls.length ≤ 1000000) :
    Calls Try.prog 8 #[.slice a len cap, .int .i64 g0] w (FindP w (findH g0 l)) := by
  have hf := hmf
  have hl := h.le
  obtain ⟨o, ho⟩ : ∃ o, findH g0 l = o := ⟨_, rfl⟩
  rw [ho]
  have HX := Lib.hid h
  have HS := Lib.hid hs
  have h0 : Hid (Below w.heap.size w ((w.alloc (.cells #[.int .i64 g0] 3)).alloc (.cells #[.int .i64 0, .slice none 0 0, .int .i64 0] 27))) :=
    ((Below.refl _ w).alloc (Nat.le_refl _) _).alloc (by rw [World.size_alloc]; omega) _
  have h1 : Hid (At3 ((w.alloc (.cells #[.int .i64 g0] 3)).alloc (.cells #[.int .i64 0, .slice none 0 0, .int .i64 0] 27)) (w.heap.size + 1) (.int .i64 0) (.slice none 0 0) (.int .i64 0)) := by
    have h := at3_new (w.alloc (.cells #[.int .i64 g0] 3)) (.int .i64 0) (.slice none 0 0) (.int .i64 0)
    rw [World.size_alloc] at h
    exact h
  have h2 : ((w.alloc (.cells #[.int .i64 g0] 3)).alloc (.cells #[.int .i64 0, .slice none 0 0, .int .i64 0] 27)).cell? ⟨w.heap.size, 0, none⟩ = some (.int .i64 g0) := by
    have hb : Below (w.alloc (.cells #[.int .i64 g0] 3)).heap.size (w.alloc (.cells #[.int .i64 g0] 3)) ((w.alloc (.cells #[.int .i64 g0] 3)).alloc (.cells #[.int .i64 0, .slice none 0 0, .int .i64 0] 27)) := (Below.refl _ _).alloc (Nat.le_refl _) _
    rw [hb.cell (p := ⟨w.heap.size, 0, none⟩) (by rw [World.size_alloc]; exact Nat.lt_succ_self _), World.cell?_alloc_new]
    rfl
  have h3 : ((w.alloc (.cells #[.int .i64 g0] 3)).alloc (.cells #[.int .i64 0, .slice none 0 0, .int .i64 0] 27)).heap.size = w.heap.size + 2 := by simp
  obtain ⟨w1, hw1⟩ : ∃ w1, (w.alloc (.cells #[.int .i64 g0] 3)).alloc (.cells #[.int .i64 0, .slice none 0 0, .int .i64 0] 27) = w1 := ⟨_, rfl⟩
  rw [hw1] at h0 h1 h2 h3
  have HW := Lib.hid hw1
  have C := Lib.hid (index_any a len cap l g0 w.heap.size w1 (h.keep h0.out) h2 (by omega))
  have HC := ix_find g0 l 0
  rw [ho] at HC
  have HSZ1 := Lib.hid h3
  clear h hs hw1 h2 h3 ho
  rcases HC with ⟨hn, hi⟩ | ⟨k, hk, hi, hn⟩
  · rw [hi] at C
    have HN := Lib.hid hn
    clear hi hn
    go_enter Try.func8, Try.ntmps8
    go_wp2_with fail
    rw [show (w.alloc (.cells #[.int .i64 g0] 3)).alloc (.cells #[.int .i64 0, .slice none 0 0, .int .i64 0] 27) = w1 from HW.out]
    refine C.out.mono ?_
    rintro e w2 ⟨rfl, hb⟩
    have HB2 := Lib.hid (below_keep h0.out hb h0.out.size)
    have hA := h1.out.keep hb
    have HA := Lib.hid hA
    obtain ⟨z0, z1, z2⟩ := cells3 hA
    obtain ⟨f0, f1, f2⟩ := free3 hA
    clear hA hb
    go_wp2_with fail
    have HRS := Lib.hid (heap_put3 HA.out (.int .i64 0) (.slice none 0 0) (.int .i64 0))
    have HB3 := Lib.hid (below_put3 HB2.out (Nat.le_succ w.heap.size) (.int .i64 0) (.slice none 0 0) (.int .i64 0))
    exact bodyPost_ret (results_hold (j := 4) (k := 5) rfl _ _ (w.heap.size + 1) _ _ _ rfl HRS.out) rfl (find_no HN.out HB3.out)
  · rw [Nat.zero_add] at hi
    rw [hi] at C
    have hkl : k < len := by rw [← HX.out.len]; exact hk
    obtain ⟨b1, o1, g, la, lc, ls, t, rfl, g1, hp, hc1⟩ := HX.out.at hkl
    have hlen := HS.out _ (mem_getD hk)
    rw [hp] at hlen hn
    simp only at hlen
    obtain ⟨n, hn2⟩ : ∃ n, ls.length = n := ⟨_, rfl⟩
    rw [hn2] at hlen
    have HN := Lib.hid hn
    have HN2 := Lib.hid hn2
    have HC1 := Lib.hid hc1
    clear hi hn hp hn2 hk hc1
    go_enter Try.func8, Try.ntmps8
    go_wp2_with fail
    rw [show (w.alloc (.cells #[.int .i64 g0] 3)).alloc (.cells #[.int .i64 0, .slice none 0 0, .int .i64 0] 27) = w1 from HW.out]
    refine C.out.mono ?_
    rintro e w2 ⟨rfl, hb⟩
    have HB2 := Lib.hid (below_keep h0.out hb h0.out.size)
    have HS12 := Lib.hid hb.size
    have HA2 := Lib.hid (h1.out.keep hb)
    obtain ⟨d1, d2, d3, dL⟩ := HC1.out w2 HB2.out
    rw [HN2.out] at d2 dL
    have C2 := Lib.hid (own_any g t la n lc ls w2 dL hlen)
    clear hb dL
    go_wp2_with fail
    refine C2.out.mono ?_
    rintro e w3 ⟨a', c', rfl, hO', hfr, hb3⟩
    have hA' := ls_own hO' HN2.out (by omega)
    clear hO'
    have HFR := Lib.hid hfr
    have HSZ : Hid (w.heap.size + 2 ≤ w2.heap.size) := Nat.le_trans (Nat.le_of_eq HSZ1.out.symm) HS12.out
    have HB3 := Lib.hid (below_keep HB2.out hb3 HB2.out.size)
    have hA := HA2.out.keep hb3
    have HA := Lib.hid hA
    have HL := Lib.hid hA'
    obtain ⟨z0, z1, z2⟩ := cells3 hA
    obtain ⟨f0, f1, f2⟩ := free3 hA
    clear hA hb3 hA' hfr
    go_wp2_with fail
    have HRS := Lib.hid (heap_put3 HA.out (.int .i64 g) (.slice a' n c') (.int .i64 t))
    have HB4 := Lib.hid (below_put3 HB3.out (Nat.le_succ w.heap.size) (.int .i64 g) (.slice a' n c') (.int .i64 t))
    have HL4 : Hid (LsAt (put3 w3 (w.heap.size + 1) (.int .i64 g) (.slice a' n c') (.int .i64 t)) a' n ls) := by
      refine ls_keepB HL.out (by rw [size_put3]; exact Nat.le_refl _) fun j ad e hj _ => ?_
      have := HFR.out ad e
      have := HSZ.out
      exact put3_other _ _ _ (by omega)
    exact bodyPost_ret (results_hold (j := 4) (k := 5) rfl _ _ (w.heap.size + 1) _ _ _ rfl HRS.out) rfl (find_yes HN.out HN2.out HL4.out HB4.out)
end Go.Proofs.Ytleopanfggmenaa.Holds
