/-
  The contracts of TakeEntry and TakeReply: any reader; nothing changes but the reader.
-/
import Derived.Test.YtamcidlkbhanfaaMsgD
set_option linter.unusedVariables false
set_option linter.unusedSimpArgs false
set_option maxRecDepth 4000
namespace Go.Proofs.Ytamcidlkbhanfaa.Msg
open Go.RowKit MsgP
open Go.Proofs.Ytamcidlkbhanfaa.Kt

open Wire (RdAt)
open OutP (en0)

set_option maxHeartbeats 4000000 in
theorem takee_is (q : Nat) (st st' : Rd) (x0 : Int) (x1 : Int) (x2 : Int) (x3 : Bool) (x4 : Int) (x5 : Int) (x6 : Bool) (hx : takeE st = ⟨x0, x1, x2, x3, x4, x5, x6⟩) (hs : (rdE st).2 = st') (w : World) (hr : RdAt w q st) :
    Calls Try.prog 20 #[.pointer (some ⟨q, 0, none⟩)] w fun e w' => e = .returned (.agg #[.int .i64 x0, .int .i64 x1, .int .i64 x2, .bool x3, .int .i64 x4, .int .i64 x5, .bool x6]) ∧ RdAt w' q st' ∧ w.grownBy w' (some q) := by
  have hq := hr.lt
  have hR0 := (at7_new 23 w (.int .i64 0) (.int .i64 0) (.int .i64 0) (.bool false) (.int .i64 0) (.int .i64 0) (.bool false)).alloc (.cells #[.int .i64 0, .int .i64 0, .int .i64 0, .bool false, .int .i64 0, .int .i64 0, .bool false] 23)
  have hB0 := at7_new 23 (w.alloc (.cells #[.int .i64 0, .int .i64 0, .int .i64 0, .bool false, .int .i64 0, .int .i64 0, .bool false] 23)) (.int .i64 0) (.int .i64 0) (.int .i64 0) (.bool false) (.int .i64 0) (.int .i64 0) (.bool false)
  rw [World.size_alloc] at hB0
  have hbl : Below w.heap.size w ((w.alloc (.cells #[.int .i64 0, .int .i64 0, .int .i64 0, .bool false, .int .i64 0, .int .i64 0, .bool false] 23)).alloc (.cells #[.int .i64 0, .int .i64 0, .int .i64 0, .bool false, .int .i64 0, .int .i64 0, .bool false] 23)) := ((Below.refl _ w).alloc (Nat.le_refl _) _).alloc (by rw [World.size_alloc]; omega) _
  have hsz : ((w.alloc (.cells #[.int .i64 0, .int .i64 0, .int .i64 0, .bool false, .int .i64 0, .int .i64 0, .bool false] 23)).alloc (.cells #[.int .i64 0, .int .i64 0, .int .i64 0, .bool false, .int .i64 0, .int .i64 0, .bool false] 23)).heap.size = w.heap.size + 2 := by rw [World.size_alloc, World.size_alloc]
  obtain ⟨b, hb⟩ : ∃ b, w.heap.size + 1 = b := ⟨_, rfl⟩
  obtain ⟨u, hu⟩ : ∃ u, ((w.alloc (.cells #[.int .i64 0, .int .i64 0, .int .i64 0, .bool false, .int .i64 0, .int .i64 0, .bool false] 23)).alloc (.cells #[.int .i64 0, .int .i64 0, .int .i64 0, .bool false, .int .i64 0, .int .i64 0, .bool false] 23)) = u := ⟨_, rfl⟩
  rw [hu] at hR0 hB0 hbl hsz
  rw [hb] at hB0
  have HQW : Hid (q ≠ w.heap.size) := by show _ ≠ _; omega
  have HRU := Lib.hid (RdAt.below hr hbl)
  have HR0 := Lib.hid hR0
  have HB0 := Lib.hid hB0
  have HG0 := Lib.hid (Wire.grown_of_below (row := some q) hbl)
  have HU := Lib.hid hu
  have HB := Lib.hid hb
  have CF := Lib.hid (fields_e b u)
  obtain ⟨y0, y1, y2, y3, y4, y5, y6, hy⟩ : ∃ y0 y1 y2 y3 y4 y5 y6, (rdE st).1 = ⟨y0, y1, y2, y3, y4, y5, y6⟩ := Outbox.en_split _
  obtain ⟨v, hv⟩ : ∃ v, st'.isSome = v := ⟨_, rfl⟩
  have hfg : fgets kE st = (fE ⟨y0, y1, y2, y3, y4, y5, y6⟩, st') := by rw [fgets_E, hy, hs]
  have HX : Hid (v = true → (⟨x0, x1, x2, x3, x4, x5, x6⟩ : OutP.En) = ⟨y0, y1, y2, y3, y4, y5, y6⟩) := by
    intro hvt
    rw [hvt] at hv
    obtain ⟨l, hl⟩ := Option.isSome_iff_exists.1 hv
    rw [← hx]
    exact takeE_some (r := l) (by rw [← hy, ← hl, ← hs])
  have HN : Hid (v = false → (⟨x0, x1, x2, x3, x4, x5, x6⟩ : OutP.En) = en0) := by
    intro hvf
    rw [hvf] at hv
    rw [← hx]
    have hn : st' = none := by
      cases st' with
      | none => rfl
      | some l => cases hv
    exact rdE_bad (x := (rdE st).1) (by rw [← hn, ← hs])
  have HFG := Lib.hid hfg
  have HV := Lib.hid hv
  have hqb : b ≠ q := by omega
  have hbs : b < u.heap.size := by omega
  clear hR0 hB0 hbl hu hb hr hx hs hy hfg hv
  go_enter Try.func20, Try.ntmps20
  go_wp2_with fail
  rw [show ((w.alloc (.cells #[.int .i64 0, .int .i64 0, .int .i64 0, .bool false, .int .i64 0, .int .i64 0, .bool false] 23)).alloc (.cells #[.int .i64 0, .int .i64 0, .int .i64 0, .bool false, .int .i64 0, .int .i64 0, .bool false] 23)) = u from HU.out, show w.heap.size + 1 = b from HB.out]
  refine CF.out.mono ?_
  rintro e w2 ⟨g, rfl, hg, hp, hb⟩
  have HR2 := Lib.hid (HR0.out.keep hb)
  have HRD2 := RdAt.below HRU.out hb
  have HG2 := Lib.hid (grown_below HG0.out (hb.mono (by omega)) (.inr trivial))
  have CT := Lib.hid (take_any q g b 7 7 kE 23 st st' _ v HFG.out HV.out w2 HRD2 hp (HB0.out.keep hb) hqb (by omega) (by omega) rfl (by decide))
  clear hp hb hg HRD2 CF
  go_wp2_with fail
  refine CT.out.mono ?_
  rintro e w3 ⟨rfl, hrd, hbx, hgr⟩
  have HRD := Lib.hid hrd
  have HR3 : Hid (At7 23 w3 w.heap.size (.int .i64 0) (.int .i64 0) (.int .i64 0) (.bool false) (.int .i64 0) (.int .i64 0) (.bool false)) := (hgr.block w.heap.size (heap_lt HR2.out) (fun e => HQW.out e.symm) (by have := HB.out; omega)).trans HR2.out
  have HG3 := Lib.hid (grown_gr2 HG2.out hgr (by have := HB.out; omega))
  have hB3 : At7 23 w3 b (.int .i64 y0) (.int .i64 y1) (.int .i64 y2) (.bool y3) (.int .i64 y4) (.int .i64 y5) (.bool y6) := hbx
  obtain ⟨d0, d1, d2, d3, d4, d5, d6⟩ := cells7 hB3
  obtain ⟨p0, p1, p2, p3, p4, p5, p6⟩ := cells7 HR3.out
  obtain ⟨f0, f1, f2, f3, f4, f5, f6⟩ := free7 HR3.out
  clear hrd hbx hgr CT HR2 HG2
  cases v with
  | true =>
    cases HX.out rfl
    go_wp2_with fail
    have HZ := Lib.hid (heap_put7 HR3.out (.int .i64 x0) (.int .i64 x1) (.int .i64 x2) (.bool x3) (.int .i64 x4) (.int .i64 x5) (.bool x6))
    have HQ : Hid (RdAt (put7 w3 w.heap.size (.int .i64 x0) (.int .i64 x1) (.int .i64 x2) (.bool x3) (.int .i64 x4) (.int .i64 x5) (.bool x6)) q st') := RdAt.keep HRD.out (put7_other _ _ _ _ _ _ _ (fun e => HQW.out (by rw [e])))
    have HG4 := Lib.hid (grown_below HG3.out (below_put7 (Below.refl w.heap.size w3) (Nat.le_refl _) (.int .i64 x0) (.int .i64 x1) (.int .i64 x2) (.bool x3) (.int .i64 x4) (.int .i64 x5) (.bool x6)) (.inr trivial))
    exact bodyPost_ret (results_e (j := 2) rfl _ _ w.heap.size _ _ _ _ _ _ _ rfl HZ.out) rfl ⟨rfl, HQ.out, HG4.out⟩
  | false =>
    cases HN.out rfl
    go_wp2_with fail
    have HZ := Lib.hid (heap_put7 HR3.out (.int .i64 0) (.int .i64 0) (.int .i64 0) (.bool false) (.int .i64 0) (.int .i64 0) (.bool false))
    have HQ : Hid (RdAt (put7 w3 w.heap.size (.int .i64 0) (.int .i64 0) (.int .i64 0) (.bool false) (.int .i64 0) (.int .i64 0) (.bool false)) q st') := RdAt.keep HRD.out (put7_other _ _ _ _ _ _ _ (fun e => HQW.out (by rw [e])))
    have HG4 := Lib.hid (grown_below HG3.out (below_put7 (Below.refl w.heap.size w3) (Nat.le_refl _) (.int .i64 0) (.int .i64 0) (.int .i64 0) (.bool false) (.int .i64 0) (.int .i64 0) (.bool false)) (.inr trivial))
    exact bodyPost_ret (results_e (j := 2) rfl _ _ w.heap.size _ _ _ _ _ _ _ rfl HZ.out) rfl ⟨rfl, HQ.out, HG4.out⟩
set_option maxHeartbeats 4000000 in
theorem taker_is (q : Nat) (st st' : Rd) (r0 : Int) (r1 : Int) (r2 : Int) (r3 : Int) (r4 : Bool) (r5 : Int) (r6 : Int) (hx : takeR st = ⟨r0, r1, r2, r3, r4, r5, r6⟩) (hs : (rdR st).2 = st') (w : World) (hr : RdAt w q st) :
    Calls Try.prog 26 #[.pointer (some ⟨q, 0, none⟩)] w fun e w' => e = .returned (.agg #[.int .i64 r0, .int .i64 r1, .int .i64 r2, .int .i64 r3, .bool r4, .int .i64 r5, .int .i64 r6]) ∧ RdAt w' q st' ∧ w.grownBy w' (some q) := by
  have hq := hr.lt
  have hR0 := (at7_new 25 w (.int .i64 0) (.int .i64 0) (.int .i64 0) (.int .i64 0) (.bool false) (.int .i64 0) (.int .i64 0)).alloc (.cells #[.int .i64 0, .int .i64 0, .int .i64 0, .int .i64 0, .bool false, .int .i64 0, .int .i64 0] 25)
  have hB0 := at7_new 25 (w.alloc (.cells #[.int .i64 0, .int .i64 0, .int .i64 0, .int .i64 0, .bool false, .int .i64 0, .int .i64 0] 25)) (.int .i64 0) (.int .i64 0) (.int .i64 0) (.int .i64 0) (.bool false) (.int .i64 0) (.int .i64 0)
  rw [World.size_alloc] at hB0
  have hbl : Below w.heap.size w ((w.alloc (.cells #[.int .i64 0, .int .i64 0, .int .i64 0, .int .i64 0, .bool false, .int .i64 0, .int .i64 0] 25)).alloc (.cells #[.int .i64 0, .int .i64 0, .int .i64 0, .int .i64 0, .bool false, .int .i64 0, .int .i64 0] 25)) := ((Below.refl _ w).alloc (Nat.le_refl _) _).alloc (by rw [World.size_alloc]; omega) _
  have hsz : ((w.alloc (.cells #[.int .i64 0, .int .i64 0, .int .i64 0, .int .i64 0, .bool false, .int .i64 0, .int .i64 0] 25)).alloc (.cells #[.int .i64 0, .int .i64 0, .int .i64 0, .int .i64 0, .bool false, .int .i64 0, .int .i64 0] 25)).heap.size = w.heap.size + 2 := by rw [World.size_alloc, World.size_alloc]
  obtain ⟨b, hb⟩ : ∃ b, w.heap.size + 1 = b := ⟨_, rfl⟩
  obtain ⟨u, hu⟩ : ∃ u, ((w.alloc (.cells #[.int .i64 0, .int .i64 0, .int .i64 0, .int .i64 0, .bool false, .int .i64 0, .int .i64 0] 25)).alloc (.cells #[.int .i64 0, .int .i64 0, .int .i64 0, .int .i64 0, .bool false, .int .i64 0, .int .i64 0] 25)) = u := ⟨_, rfl⟩
  rw [hu] at hR0 hB0 hbl hsz
  rw [hb] at hB0
  have HQW : Hid (q ≠ w.heap.size) := by show _ ≠ _; omega
  have HRU := Lib.hid (RdAt.below hr hbl)
  have HR0 := Lib.hid hR0
  have HB0 := Lib.hid hB0
  have HG0 := Lib.hid (Wire.grown_of_below (row := some q) hbl)
  have HU := Lib.hid hu
  have HB := Lib.hid hb
  have CF := Lib.hid (fields_r b u)
  obtain ⟨y0, y1, y2, y3, y4, y5, y6, hy⟩ : ∃ y0 y1 y2 y3 y4 y5 y6, (rdR st).1 = ⟨y0, y1, y2, y3, y4, y5, y6⟩ := rp_split _
  obtain ⟨v, hv⟩ : ∃ v, st'.isSome = v := ⟨_, rfl⟩
  have hfg : fgets kR st = (fR ⟨y0, y1, y2, y3, y4, y5, y6⟩, st') := by rw [fgets_R, hy, hs]
  have HX : Hid (v = true → (⟨r0, r1, r2, r3, r4, r5, r6⟩ : Rp) = ⟨y0, y1, y2, y3, y4, y5, y6⟩) := by
    intro hvt
    rw [hvt] at hv
    obtain ⟨l, hl⟩ := Option.isSome_iff_exists.1 hv
    rw [← hx]
    exact takeR_some (r := l) (by rw [← hy, ← hl, ← hs])
  have HN : Hid (v = false → (⟨r0, r1, r2, r3, r4, r5, r6⟩ : Rp) = rp0) := by
    intro hvf
    rw [hvf] at hv
    rw [← hx]
    have hn : st' = none := by
      cases st' with
      | none => rfl
      | some l => cases hv
    exact rdR_bad (x := (rdR st).1) (by rw [← hn, ← hs])
  have HFG := Lib.hid hfg
  have HV := Lib.hid hv
  have hqb : b ≠ q := by omega
  have hbs : b < u.heap.size := by omega
  clear hR0 hB0 hbl hu hb hr hx hs hy hfg hv
  go_enter Try.func26, Try.ntmps26
  go_wp2_with fail
  rw [show ((w.alloc (.cells #[.int .i64 0, .int .i64 0, .int .i64 0, .int .i64 0, .bool false, .int .i64 0, .int .i64 0] 25)).alloc (.cells #[.int .i64 0, .int .i64 0, .int .i64 0, .int .i64 0, .bool false, .int .i64 0, .int .i64 0] 25)) = u from HU.out, show w.heap.size + 1 = b from HB.out]
  refine CF.out.mono ?_
  rintro e w2 ⟨g, rfl, hg, hp, hb⟩
  have HR2 := Lib.hid (HR0.out.keep hb)
  have HRD2 := RdAt.below HRU.out hb
  have HG2 := Lib.hid (grown_below HG0.out (hb.mono (by omega)) (.inr trivial))
  have CT := Lib.hid (take_any q g b 7 7 kR 25 st st' _ v HFG.out HV.out w2 HRD2 hp (HB0.out.keep hb) hqb (by omega) (by omega) rfl (by decide))
  clear hp hb hg HRD2 CF
  go_wp2_with fail
  refine CT.out.mono ?_
  rintro e w3 ⟨rfl, hrd, hbx, hgr⟩
  have HRD := Lib.hid hrd
  have HR3 : Hid (At7 25 w3 w.heap.size (.int .i64 0) (.int .i64 0) (.int .i64 0) (.int .i64 0) (.bool false) (.int .i64 0) (.int .i64 0)) := (hgr.block w.heap.size (heap_lt HR2.out) (fun e => HQW.out e.symm) (by have := HB.out; omega)).trans HR2.out
  have HG3 := Lib.hid (grown_gr2 HG2.out hgr (by have := HB.out; omega))
  have hB3 : At7 25 w3 b (.int .i64 y0) (.int .i64 y1) (.int .i64 y2) (.int .i64 y3) (.bool y4) (.int .i64 y5) (.int .i64 y6) := hbx
  obtain ⟨d0, d1, d2, d3, d4, d5, d6⟩ := cells7 hB3
  obtain ⟨p0, p1, p2, p3, p4, p5, p6⟩ := cells7 HR3.out
  obtain ⟨f0, f1, f2, f3, f4, f5, f6⟩ := free7 HR3.out
  clear hrd hbx hgr CT HR2 HG2
  cases v with
  | true =>
    cases HX.out rfl
    go_wp2_with fail
    have HZ := Lib.hid (heap_put7 HR3.out (.int .i64 r0) (.int .i64 r1) (.int .i64 r2) (.int .i64 r3) (.bool r4) (.int .i64 r5) (.int .i64 r6))
    have HQ : Hid (RdAt (put7 w3 w.heap.size (.int .i64 r0) (.int .i64 r1) (.int .i64 r2) (.int .i64 r3) (.bool r4) (.int .i64 r5) (.int .i64 r6)) q st') := RdAt.keep HRD.out (put7_other _ _ _ _ _ _ _ (fun e => HQW.out (by rw [e])))
    have HG4 := Lib.hid (grown_below HG3.out (below_put7 (Below.refl w.heap.size w3) (Nat.le_refl _) (.int .i64 r0) (.int .i64 r1) (.int .i64 r2) (.int .i64 r3) (.bool r4) (.int .i64 r5) (.int .i64 r6)) (.inr trivial))
    exact bodyPost_ret (results_r (j := 2) rfl _ _ w.heap.size _ _ _ _ _ _ _ rfl HZ.out) rfl ⟨rfl, HQ.out, HG4.out⟩
  | false =>
    cases HN.out rfl
    go_wp2_with fail
    have HZ := Lib.hid (heap_put7 HR3.out (.int .i64 0) (.int .i64 0) (.int .i64 0) (.int .i64 0) (.bool false) (.int .i64 0) (.int .i64 0))
    have HQ : Hid (RdAt (put7 w3 w.heap.size (.int .i64 0) (.int .i64 0) (.int .i64 0) (.int .i64 0) (.bool false) (.int .i64 0) (.int .i64 0)) q st') := RdAt.keep HRD.out (put7_other _ _ _ _ _ _ _ (fun e => HQW.out (by rw [e])))
    have HG4 := Lib.hid (grown_below HG3.out (below_put7 (Below.refl w.heap.size w3) (Nat.le_refl _) (.int .i64 0) (.int .i64 0) (.int .i64 0) (.int .i64 0) (.bool false) (.int .i64 0) (.int .i64 0)) (.inr trivial))
    exact bodyPost_ret (results_r (j := 2) rfl _ _ w.heap.size _ _ _ _ _ _ _ rfl HZ.out) rfl ⟨rfl, HQ.out, HG4.out⟩
end Go.Proofs.Ytamcidlkbhanfaa.Msg
