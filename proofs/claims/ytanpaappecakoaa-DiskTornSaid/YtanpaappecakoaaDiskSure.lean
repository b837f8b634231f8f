/-
  The walk of DiskSure: any acts, any crash.
-/
import Derived.Test.YtanpaappecakoaaDiskAct
set_option linter.unusedVariables false
namespace Go.Proofs.Ytanpaappecakoaa
open Go.RowKit DiskP

/-- Was a write to this sector among the first j? -/
def Late (W : List Wr) (k j : Nat) (l : Bool) : Prop := l = true ↔ ∃ i, i < j ∧ (W.getD i (0, ByteArray.empty)).1 = k
theorem late_start (W : List Wr) (k : Nat) : Late W k 0 false := ⟨fun h => (by cases h), fun ⟨i, hi, _⟩ => absurd hi (Nat.not_lt_zero _)⟩
theorem late_yes {W : List Wr} {k j : Nat} : Late W k j true → Late W k (j + 1) true := fun h => ⟨fun _ => by obtain ⟨i, hi, e⟩ := h.1 rfl; exact ⟨i, by omega, e⟩, fun _ => rfl⟩
theorem late_step {W : List Wr} {k j : Nat} (h : Late W k j false) (b : Bool) (hb : b = decide ((W.getD j (0, ByteArray.empty)).1 = k)) : Late W k (j + 1) b := by
  subst hb
  constructor
  · intro h1
    exact ⟨j, by omega, of_decide_eq_true h1⟩
  · rintro ⟨i, hi, e⟩
    by_cases hij : i = j
    · subst hij; exact decide_eq_true e
    · exact absurd (h.2 ⟨i, by omega, e⟩) (by decide)
theorem late_end {W : List Wr} {k : Nat} (h : Late W k W.length false) : ∀ x ∈ W, x.1 ≠ k := fun x hx e => by
  obtain ⟨i, hi, rfl⟩ := List.getElem_of_mem hx
  exact absurd (h.2 ⟨i, hi, by simp [List.getD, hi, e]⟩) (by decide)
theorem sure_end {st : St} {ks : List Bool} {t : Int} {k : Nat} (h : Late st.W k st.W.length false) : (cr st ks t).S.getD k ByteArray.empty = st.S.getD k ByteArray.empty :=
  crS_other t k _ _ fun x hx => late_end h x (kept_sub _ _ x hx)
theorem below_drewN {B : Nat} {w0 w : World} (h : Below B w0 w) (n : Nat) : Below B w0 (w.drewN n) := ⟨h.os, h.tape, h.output, h.size, h.block⟩
theorem cell_upd {L L' : List Nat} {w w' : World} {p : Addr} (hU : Upd L w w' L') (h1 : p.block < w.heap.size) (h2 : p.block ∉ L) : w'.cell? p = w.cell? p := World.cell?_of_block (hU.block p.block h1 h2)
theorem StrsAt.upd {L L' : List Nat} {w w' : World} {a : Option Addr} {len : Nat} {ss : List ByteArray} (h : StrsAt w a len ss) (ha : ∀ y, a = some y → y.block ∉ L) (hU : Upd L w w' L') : StrsAt w' a len ss :=
  ⟨h.1, h.2.1, h.2.2.imp id (fun ⟨b, off, e, hlt, hc⟩ => ⟨b, off, e, by have := hU.size; omega, fun i hi => (cell_upd (p := ⟨b, off + i, none⟩) hU hlt (ha ⟨b, off, none⟩ e)).trans (hc i hi)⟩)⟩
theorem WtsAt.upd {L L' : List Nat} {w w' : World} {a : Option Addr} {len : Nat} {W : List Wr} (h : WtsAt w a len W) (ha : ∀ y, a = some y → y.block ∉ L) (hU : Upd L w w' L') : WtsAt w' a len W :=
  ⟨h.1, h.2.1, h.2.2.imp id (fun ⟨b, off, e, hlt, hc⟩ => ⟨b, off, e, by have := hU.size; omega, fun i hi => ⟨(cell_upd (p := ⟨b, off + i * 2, none⟩) hU hlt (ha ⟨b, off, none⟩ e)).trans (hc i hi).1, (cell_upd (p := ⟨b, off + i * 2 + 1, none⟩) hU hlt (ha ⟨b, off, none⟩ e)).trans (hc i hi).2⟩⟩)⟩
set_option maxRecDepth 100000 in
set_option maxHeartbeats 8000000 in
theorem diskSure_walk (a : Option Addr) (len cap : Nat) (f : Nat → AVal) (ka : Option Addr) (klen kcap : Nat) (ks : List Bool) (t : Int) (w : World) (hA : ActsAt w a len f) (hk : BoolsAt w ka klen ks) (hkl : klen ≤ 9223372036854775807) :
    Calls Try.prog 5 #[.slice a len cap, .slice ka klen kcap, .int .i64 t] w (TrueIn w) := by
  have hl := hA.1
  have HA := Lib.hid hA; have HKB := Lib.hid hk
  have HNW := Lib.hid (own_new 8 w w (by decide) (by decide) (Below.refl _ w))
  have HFW := Lib.hid (fun w' (hb : Below w.heap.size w w') => few_any a len cap 20 f w' ⟨hA.1, hA.2.imp id (fun ⟨b, off, e, hlt, hc⟩ => ⟨b, off, e, by have := hb.size; omega, fun i hi => (hc i hi).below hb⟩)⟩ (by decide))
  have hok0 := new_ok 8 (by decide) (by decide)
  have hlen0 : (fresh (List.replicate 8 DiskP.blank)).S.length = 8 := by simp [fresh]
  generalize fresh (List.replicate 8 DiskP.blank) = st0 at *
  have HOK0 := Lib.hid hok0; have HLEN0 := Lib.hid hlen0
  clear hA hk hok0 hlen0
  go_enter Try.func5, Try.ntmps5
  go_wp2_with fail
  refine HNW.out.mono ?_
  rintro e w1 ⟨d, rfl, hO⟩
  have HO := Lib.hid hO
  clear hO HNW
  go_wp2_with fail
  refine (HFW.out w1 HO.out.bel).mono ?_
  rintro e w' ⟨r, rfl, hfew, rfl⟩
  cases r with
  | false =>
    go_wp2_with fail
    refine (awake_in HO.out.bel).mono ?_
    rintro e wq ⟨rfl, hb⟩
    have HB := Lib.hid hb
    clear hb
    go_wp2_with fail
    go_ret
    exact ⟨rfl, HB.out⟩
  | true =>
    obtain ⟨hl20, hkls⟩ := hfew rfl
    have HKL := Lib.hid hkls
    clear hfew hkls
    by_cases hk100 : 100 < klen
    · go_wp2_with fail
      refine (awake_in HO.out.bel).mono ?_
      rintro e wq ⟨rfl, hb⟩
      have HB := Lib.hid hb
      clear hb
      go_wp2_with fail
      go_ret
      exact ⟨rfl, HB.out⟩
    · have hk100' : klen ≤ 100 := by omega
      go_wp2_with fail
      go_loopw [9] (fun i wr => ∃ (j : Nat) (st : St), j ≤ len ∧ i = .int .i64 (j : Int) ∧ Hid (Own w wr d st) ∧ Hid (Ok j st) ∧ Hid (st.S.length = 8)) (fun i _ => len - (intOf i).toNat)
      case atStart => exact ⟨0, st0, Nat.zero_le _, rfl, HO, HOK0, HLEN0⟩
      case round =>
        obtain ⟨j, st, hj, rfl, hO, hOK, hLN⟩ := hrel
        by_cases hlt : j < len
        · obtain ⟨b, off, rfl, _, hc⟩ := HA.out.2.resolve_left (by omega)
          have hat := (hc j hlt).below hO.out.bel
          have hkl2 := HKL.out j hlt
          obtain ⟨y, hy⟩ : ∃ y, f j = y := ⟨_, rfl⟩
          rw [hy] at hat hkl2
          have HFIT := Lib.hid (hat.fit hkl2)
          have HAT := Lib.hid hat
          have d0 := hat.c0; have d1 := hat.c1; have d2 := hat.c2; have d3 := hat.c3; have d4 := hat.c4
          have HOK2 := Lib.hid (step_ok hOK.out HFIT.out)
          have HLN2 := Lib.hid (step_len (st := st) (x := y) |>.trans hLN.out)
          clear hc hat hkl2 hy
          go_wp2_with fail
          refine (hO.out.step (fun L h => do_dk d j st L y wr h hOK.out (by omega) HFIT.out HAT.out.kb)).mono ?_
          rintro e w3 ⟨rfl, hO3⟩
          have HO3 := Lib.hid hO3
          clear hO3 d0 d1 d2 d3 d4
          go_wp2_with fail
          go_roundw
          case rel => exact ⟨j + 1, _, by omega, by go_num, HO3, HOK2, HLN2⟩
          case measure => simp [intOf]; omega
        · obtain rfl : j = len := by omega
          have hwn : st.W.length ≤ 1000000000 := by have := hOK.out.wn; omega
          have hL8 := hLN.out
          have hC8 : (cr st ks t).S.length = 8 := (crS_length _ _ _).trans hL8
          have HOKC := Lib.hid (cr_ok hOK.out ks t)
          obtain ⟨L, hD, hL, hB⟩ := hO.out
          have HD := Lib.hid hD; have HL := Lib.hid hL; have HB := Lib.hid hB
          have HLT := Lib.hid hD.lt
          clear hD hL hB hO
          go_wp2_with fail
          refine (sectors_dk d j st L wr HD.out hOK.out).mono ?_
          rintro e w3 ⟨g1, c1, rfl, hown, hb⟩
          rw [hL8] at hown ⊢
          have HG1 := Lib.hid (hown.lt g1 rfl).1
          have HD3 := Lib.hid (dk_below HD.out hb)
          have HB3 := Lib.hid (HB.out.trans (hb.mono HB.out.size))
          have HZ3 := Lib.hid hb.size
          have HS3 := Lib.hid (strs_of hown (by decide))
          clear hown hb HD
          go_wp2_with fail
          refine (waits_dk d j st L w3 HD3.out hOK.out (by omega)).mono ?_
          rintro e w4 ⟨v, rfl, hown, hb⟩
          have ha1 := fun k (hk : v.ownBlock = some k) => (hown.lt k hk).1
          obtain ⟨a1, cw, rfl, hw1⟩ := wts_of hown rfl hwn
          have HA1 := Lib.hid (show ∀ y, a1 = some y → w3.heap.size ≤ y.block from fun y hy => by subst hy; exact ha1 y.block (by simp [Value.ownBlock]))
          have HD4 := Lib.hid (dk_below HD3.out hb)
          have HB4 := Lib.hid (HB3.out.trans (hb.mono HB3.out.size))
          have HS4 := Lib.hid (HS3.out.below hb)
          have HW4 := Lib.hid hw1
          have HK4 := Lib.hid (bools_below HKB.out HB4.out)
          clear hown hb hw1 ha1 HD3 HB3 HS3
          go_wp2_with fail
          refine (crash_dk d j st L ka klen kcap ks t w4 HD4.out hOK.out (by omega) HK4.out (by omega)).mono ?_
          rintro e w5 ⟨rfl, L5, hD5, hU⟩
          have HS5 := Lib.hid (HS4.out.upd (fun y hy hyL => by cases hy; have h2 : g1 < wr.heap.size := HLT.out g1 hyL; have := HG1.out; omega) hU)
          have HW5 := Lib.hid (HW4.out.upd (fun y hy hyL => by have := HA1.out y hy; have := HLT.out _ hyL; have := HZ3.out; omega) hU)
          have HD5 := Lib.hid hD5
          have HB5 := Lib.hid (HB4.out.trans (hU.below HL.out HB4.out.size))
          clear hD5 hU HS4 HW4 HD4 HK4
          go_wp2_with fail
          refine (waits_dk d j (cr st ks t) L5 w5 HD5.out HOKC.out (by omega)).mono ?_
          rintro e w6 ⟨v6, rfl, hown, hb⟩
          obtain ⟨a6, c6, rfl, _⟩ := wts_of (n := 0) hown rfl (by omega)
          have HS6 := Lib.hid (HS5.out.below hb); have HW6 := Lib.hid (HW5.out.below hb); have HD6 := Lib.hid (dk_below HD5.out hb); have HB6 := Lib.hid (HB5.out.trans (hb.mono HB5.out.size))
          clear hown hb HS5 HW5 HD5 HB5
          go_wp2_with fail
          refine (dead_dk d _ L5 w6 HD6.out).mono ?_
          rintro e w' ⟨rfl, rfl⟩
          rw [show (cr st ks t).dead = false from rfl]
          go_wp2_with fail
          refine (sectors_dk d j (cr st ks t) L5 w6 HD6.out HOKC.out).mono ?_
          rintro e w7 ⟨g7, c7, rfl, hown, hb⟩
          rw [hC8] at hown ⊢
          have HN7 := Lib.hid (strs_of hown (by decide))
          have HS7 := Lib.hid (HS6.out.below hb); have HW7 := Lib.hid (HW6.out.below hb); have HB7 := Lib.hid (HB6.out.trans (hb.mono HB6.out.size))
          clear hown hb HS6 HW6 HD6 HB6
          go_wp2_with fail
          go_loopw [13] (fun i wo => ∃ k : Nat, k ≤ 8 ∧ i = .int .i64 (k : Int) ∧ Hid (Below w7.heap.size w7 wo)) (fun i _ => 8 - (intOf i).toNat)
          case atStart => exact ⟨0, by omega, rfl, Below.refl _ w7⟩
          case round =>
            obtain ⟨k, hk8, rfl, hbk⟩ := hrel
            by_cases hlt8 : k < 8
            · go_wp2_with fail
              go_loopw [14, 15] (fun l i wi => ∃ (q : Nat) (lb : Bool), q ≤ st.W.length ∧ l = .bool lb ∧ i = .int .i64 (q : Int) ∧ Hid (Late st.W k q lb) ∧ Hid (Below w7.heap.size w7 wi)) (fun _ i _ => st.W.length - (intOf i).toNat)
              case atStart => exact ⟨0, false, Nat.zero_le _, rfl, rfl, late_start _ _, hbk⟩
              case round =>
                obtain ⟨q, lb, hq, rfl, rfl, hla, hbi⟩ := hrel
                by_cases hltq : q < st.W.length
                · obtain ⟨bw, ow, rfl, hltw, hcw⟩ := HW7.out.2.2.resolve_left (by omega)
                  have d := (hbi.out.cell (p := ⟨bw, ow + q * 2, none⟩) hltw).trans (hcw q hltq).1
                  have hst := fun (h : Late st.W k q false) => late_step h
                  clear hcw
                  cases lb with
                  | true =>
                    have HLY := Lib.hid (late_yes hla.out)
                    clear hst hla d
                    go_wp2_with fail
                    go_roundw
                    case rel => exact ⟨q + 1, true, by omega, rfl, by go_num, HLY, hbi⟩
                    case measure => simp [intOf]; omega
                  | false =>
                    have hs2 := hst hla.out
                    obtain ⟨x, hx⟩ : ∃ x, (st.W.getD q (0, ByteArray.empty)).1 = x := ⟨_, rfl⟩
                    rw [hx] at d hs2
                    clear hst hla hx
                    by_cases hxk : x = k
                    · have HLY := Lib.hid (hs2 true (by simp [hxk]))
                      subst hxk
                      clear hs2
                      go_wp2_with fail
                      go_roundw
                      case rel => exact ⟨q + 1, true, by omega, by simp, by go_num, HLY, hbi⟩
                      case measure => simp [intOf]; omega
                    · have HLY := Lib.hid (hs2 false (by simp [hxk]))
                      have hne : ((x : Int) == (k : Int)) = false := beq_eq_false_iff_ne.2 (by omega)
                      clear hs2
                      go_wp2_with fail
                      go_roundw
                      case rel => exact ⟨q + 1, false, by omega, by simp, by go_num, HLY, hbi⟩
                      case measure => simp [intOf]; omega
                · obtain rfl : q = st.W.length := by omega
                  have HBD := hbi
                  cases lb with
                  | true =>
                    clear hla hbi
                    go_wp2_with fail
                    go_quiet (fail)
                    go_wp2_with fail
                    go_roundw
                    case rel => exact ⟨k + 1, by omega, by go_num, below_drewN HBD.out _⟩
                    case measure => simp [intOf]; omega
                  | false =>
                    have heq := sure_end (ks := ks) (t := t) hla.out
                    obtain ⟨_, _, e1, gl1, hc1⟩ := HS7.out.2.2.resolve_left (by decide)
                    obtain ⟨_, _, e2, gl2, hc2⟩ := HN7.out.2.2.resolve_left (by decide)
                    cases e1; cases e2
                    have d1 := (hbi.out.cell (p := ⟨g1, 0 + k, none⟩) gl1).trans (hc1 k hlt8)
                    have d2 := (hbi.out.cell (p := ⟨g7, 0 + k, none⟩) gl2).trans (hc2 k hlt8)
                    rw [Nat.zero_add] at d1 d2
                    rw [heq] at d2
                    generalize st.S.getD k ByteArray.empty = z at *
                    clear hla hbi heq hc1 hc2
                    go_wp2_with fail
                    go_quiet (fail)
                    go_wp2_with fail
                    go_roundw
                    case rel => exact ⟨k + 1, by omega, by go_num, below_drewN HBD.out _⟩
                    case measure => simp [intOf]; omega
            · obtain rfl : k = 8 := by omega
              have HBE := Lib.hid (HB7.out.trans (hbk.out.mono HB7.out.size))
              clear hbk
              go_wp2_with fail
              refine (awake_in HBE.out).mono ?_
              rintro e wq ⟨rfl, hb⟩
              have HBQ := Lib.hid hb
              clear hb
              go_wp2_with fail
              go_ret
              exact ⟨rfl, HBQ.out⟩
end Go.Proofs.Ytanpaappecakoaa
