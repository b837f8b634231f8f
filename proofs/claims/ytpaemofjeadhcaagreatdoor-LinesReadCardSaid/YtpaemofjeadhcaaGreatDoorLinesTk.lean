/-
  The contracts of Take, both: readers in memory; nothing else is turned.
-/
import Derived.Test.YtpaemofjeadhcaaGreatDoorLinesF
import Derived.Test.YtpaemofjeadhcaaGreatDoorLinesJ
set_option linter.unusedVariables false
set_option maxRecDepth 4000
namespace Go.Proofs.YtpaemofjeadhcaaGreatDoor.Lines
open Go.RowKit LinesP
open WireP (St rdInt rdText rdList lenOk enc text ok num nl left done)
open Wire (RdAt RqAt RdStep)

theorem owns_grown {w w' : World} {B n size b : Nat} {e : TypeId} {v : Value} {xs : List Value} (h : w.ownsRow B e size v n xs) (hg : w.grownBy w' (some b)) (hb : b < B) : w'.ownsRow B e size v n xs := by
  refine ⟨h.1, ?_⟩
  rcases h.2 with hn | ⟨g, cap, cur, hv, hbg, hgg, rest⟩
  · exact .inl hn
  · exact .inr ⟨g, cap, cur, hv, hbg, (hg.block g (Array.getElem?_eq_some_iff.1 hgg).1 (by simp; omega)).trans hgg, rest⟩
theorem grown_below {w w' : World} (h : Below w.heap.size w w') (row : Option Nat) : w.grownBy w' row := ⟨h.os, h.tape, h.output, h.size, fun i hi _ => h.block i hi⟩
theorem grown_trans {a b c : World} {r : Nat} (h : a.grownBy b (some r)) (k : b.grownBy c (some r)) : a.grownBy c (some r) := h.andThen k (fun j e => .inr e)
theorem clone_any (s : ByteArray) (w : World) (hs : s.size ≤ 100000) :
    Calls Tryz.prog 49 #[.string s] w fun e w' => e = .returned (.string s) ∧ Below w.heap.size w w' := by
  have h := Lib.hid (fun w' => Tryz.stringslite_Clone s w' (by omega))
  go_enter Tryz.func49, Tryz.ntmps49
  go_wp2_with fail
  refine (h.out _).mono ?_
  rintro e w1 ⟨rfl, hb⟩
  have HB := Lib.hid hb
  clear hb
  go_wp2_with fail
  go_ret
  exact ⟨rfl, HB.out⟩
theorem rdInt_bounds (st : St) : -9223372036854775808 ≤ (rdInt (-9223372036854775808) 9223372036854775807 st).1 ∧ (rdInt (-9223372036854775808) 9223372036854775807 st).1 ≤ 9223372036854775807 := by
  cases st with
  | none => exact ⟨by decide, by decide⟩
  | some l =>
    unfold rdInt
    by_cases h : ok l = true ∧ (-9223372036854775808 : Int) ≤ num l ∧ num l ≤ 9223372036854775807
    · simp only [h, if_true, and_self]
    · simp only [h, if_false]; exact ⟨by decide, by decide⟩
theorem bad_any (b : Nat) (st : St) (w : World) (h : RdAt w b st) :
    Calls Tryz.prog 52 #[.pointer (some ⟨b, 0, none⟩)] w fun e w' => e = .returned (.bool st.isNone) ∧ Below w.heap.size w w' := by
  have C1 := Lib.hid (Wire.left_any b st w h)
  obtain ⟨d, hd⟩ : ∃ d, done st = d := ⟨_, rfl⟩
  have C2 := Lib.hid (Wire.rddone_is b st d w h hd)
  have HB := bad_st st
  rw [hd] at HB
  obtain ⟨n, hn⟩ : ∃ n, left st = n := ⟨_, rfl⟩
  rw [hn] at C1 HB
  obtain ⟨v, hv⟩ : ∃ v, st.isNone = v := ⟨_, rfl⟩
  rw [hv] at HB ⊢
  clear hd hn hv h
  by_cases h0 : n = 0
  · subst h0
    have HV : Hid (v = !d) := by show v = _; rw [HB]; simp
    have hz : (((0 : Nat) : Int) == 0) = true := rfl
    clear HB
    go_enter Tryz.func52, Tryz.ntmps52
    go_wp2_with fail
    refine C1.out.mono ?_
    rintro e w1 ⟨rfl, rfl⟩
    go_wp2_with fail
    refine C2.out.mono ?_
    rintro e w2 ⟨rfl, hb2⟩
    have HB2 := Lib.hid hb2
    clear hb2
    cases d with
    | true =>
      go_wp2_with fail
      go_ret
      exact ⟨ret_bool HV.out, HB2.out⟩
    | false =>
      go_wp2_with fail
      go_ret
      exact ⟨ret_bool HV.out, HB2.out⟩
  · have HV : Hid (v = false) := by show v = _; rw [HB]; simp [h0]
    have hz : ((n : Int) == 0) = false := by rw [beq_eq_false_iff_ne]; omega
    clear HB
    go_enter Tryz.func52, Tryz.ntmps52
    go_wp2_with fail
    refine C1.out.mono ?_
    rintro e w1 ⟨rfl, rfl⟩
    go_wp2_with fail
    go_ret
    exact ⟨ret_bool HV.out, Below.refl _ _⟩
/-- What Take leaves: lines, the reader where it stands, nothing else turned. -/
def TakeOut (At : World → Nat → St → Prop) (w : World) (b : Nat) (st : St) (e : Ending) (w' : World) : Prop :=
  w.grownBy w' (some b) ∧ At w' b (takeA st).2 ∧ Sz (takeV st) ∧ ∃ a cap, e = .returned (.slice a (takeV st).length cap) ∧ LsAt w' a (takeV st).length (takeV st)
theorem take_no {At : World → Nat → St → Prop} {w w' : World} {b : Nat} {st st2 : St} {l : List Ln} (h : takeA st = (l, st2)) (hn : st2.isNone = true) (hg : w.grownBy w' (some b)) (ha : At w' b st2) : TakeOut At w b st (.returned (.slice none 0 0)) w' := by
  have hv : takeV st = [] := by unfold takeV; rw [h]; simp [hn]
  refine ⟨hg, by rw [h]; exact ha, by rw [hv]; exact sz_nil, none, 0, by rw [hv]; rfl, by rw [hv]; exact ls_nil _ _⟩
theorem take_yes {At : World → Nat → St → Prop} {w w' : World} {b n : Nat} {st st2 : St} {l : List Ln} {a : Option Addr} {cap : Nat} (h : takeA st = (l, st2)) (hn : st2.isNone = false) (hl : l.length = n) (hg : w.grownBy w' (some b)) (ha : At w' b st2) (hs : Sz l) (hat : LsAt w' a n l) : TakeOut At w b st (.returned (.slice a n cap)) w' := by
  subst hl
  have hv : takeV st = l := by unfold takeV; rw [h]; simp [hn]
  exact ⟨hg, by rw [h]; exact ha, by rw [hv]; exact hs, a, cap, by rw [hv], by rw [hv]; exact hat⟩
set_option maxHeartbeats 2000000 in
theorem take_any (b : Nat) (st : St) (w : World) (h : RdAt w b st) :
    Calls Tryz.prog 23 #[.pointer (some ⟨b, 0, none⟩)] w (TakeOut RdAt w b st) := by
  obtain ⟨N, hN⟩ : ∃ N : Nat, (rdList 4 st).1 = (N : Int) := ⟨(rdList 4 st).1.toNat, by have := (rdList_bounds st).1; omega⟩
  have hN4 : N ≤ 4 := by have := (rdList_bounds st).2; omega
  obtain ⟨st1, hst1⟩ : ∃ st1, (rdList 4 st).2 = st1 := ⟨_, rfl⟩
  obtain ⟨R, hR⟩ : ∃ R, takeA st = R := ⟨_, rfl⟩
  have HR := Lib.hid hR
  have HT : Hid (takeUp N [] st1 = R) := by show _ = R; rw [← hR]; unfold takeA; rw [hN, hst1]; simp
  have C0 := Lib.hid (Wire.rdlist_is b st st1 4 N w h (Prod.ext hN hst1))
  have HLT := Lib.hid h.lt
  clear hN hst1 hR
  go_enter Tryz.func23, Tryz.ntmps23
  go_wp2_with fail
  refine C0.out.mono ?_
  rintro e w1 ⟨rfl, hs1⟩
  have HA1 := Lib.hid hs1.1
  have HG1 := Lib.hid hs1.2
  have hb1 : b < w1.heap.size := Nat.lt_of_lt_of_le HLT.out hs1.2.size
  clear hs1 C0 h
  go_wp2_with fail
  go_loopw [3, 7] (fun t i wr => ∃ (k : Nat) (acc : List Ln) (sk : St), k ≤ N ∧ i = .int .i64 (k : Int) ∧ acc.length = k ∧ Hid (Sz acc) ∧ Hid (wr.ownsRow w1.heap.size 44 2 t k (lcells acc)) ∧ Hid (takeUp (N - k) acc sk = R) ∧ Hid (RdAt wr b sk) ∧ Hid (w1.grownBy wr (some b)) ∧ Hid (w.grownBy wr (some b))) (fun _ i _ => N - (intOf i).toNat)
  case atStart => exact ⟨0, [], st1, Nat.zero_le _, rfl, rfl, Lib.hid sz_nil, Lib.hid (World.ownsRow_nil _ _ _ _), HT, HA1, Lib.hid ((World.grownBy.refl _ _)), HG1⟩
  case round =>
    obtain ⟨k, acc, sk, hk, rfl, hal, hZ, hO, hT, hA, hG, hG0⟩ := hrel
    have hszw : w1.heap.size ≤ wr.heap.size := hG.out.size
    by_cases hlk : k < N
    · obtain ⟨z, hz⟩ : ∃ z : ByteArray, (rdText 48 sk).1 = z.data.toList := ⟨bs (rdText 48 sk).1, rfl⟩
      obtain ⟨sa, hsa⟩ : ∃ sa, (rdText 48 sk).2 = sa := ⟨_, rfl⟩
      obtain ⟨n, hn⟩ : ∃ n, (rdInt (-9223372036854775808) 9223372036854775807 sa).1 = n := ⟨_, rfl⟩
      obtain ⟨sb, hsb⟩ : ∃ sb, (rdInt (-9223372036854775808) 9223372036854775807 sa).2 = sb := ⟨_, rfl⟩
      have e1 : rdText 48 sk = (z.data.toList, sa) := Prod.ext hz hsa
      have e2 : rdInt (-9223372036854775808) 9223372036854775807 sa = (n, sb) := Prod.ext hn hsb
      have hzl : z.size ≤ 48 := by rw [size_list, ← hz]; exact rdText_len sk
      have hnb := rdInt_bounds sa
      rw [hn] at hnb
      have HT2 : Hid (takeUp (N - (k + 1)) (acc ++ [(z, n)]) sb = R) := by
        show _ = R
        rw [← hT.out, show N - k = (N - (k + 1)) + 1 by omega, takeUp_step e1 e2]
      have HZ2 : Hid (Sz (acc ++ [(z, n)])) := fun x hx => by
        rcases List.mem_append.1 hx with hx | hx
        · exact hZ.out x hx
        · simp at hx; subst hx; exact ⟨by show z.size ≤ 300; omega, hnb.1, hnb.2⟩
      have C1 := Lib.hid (Wire.rdtext_is b sk sa 48 z wr hA.out e1)
      have E2 := Lib.hid e2
      clear hz hsa hn hsb e1 e2 hnb
      go_wp2_with fail
      refine C1.out.mono ?_
      rintro e w2 ⟨rfl, hs2⟩
      have HA2 := Lib.hid hs2.1
      have HG2 := Lib.hid (grown_trans hG.out hs2.2)
      have HH2 := Lib.hid (grown_trans hG0.out hs2.2)
      have HO2 := Lib.hid (owns_grown hO.out hs2.2 hb1)
      clear hs2
      go_wp2_with fail
      refine (clone_any z w2 (by omega)).mono ?_
      rintro e w3 ⟨rfl, hb3⟩
      have HA3 := Lib.hid (HA2.out.keep (hb3.block _ HA2.out.lt))
      have HG3 := Lib.hid (grown_trans HG2.out (grown_below hb3 (some b)))
      have HH3 := Lib.hid (grown_trans HH2.out (grown_below hb3 (some b)))
      have HO3 := Lib.hid (owns_below HO2.out hb3)
      clear hb3
      go_wp2_with fail
      refine (Wire.rdint_is b sa sb _ _ n w3 HA3.out E2.out).mono ?_
      rintro e w4 ⟨rfl, hs4⟩
      have HA4 := Lib.hid hs4.1
      have HG4 := Lib.hid (grown_trans HG3.out hs4.2)
      have HH4 := Lib.hid (grown_trans HH3.out hs4.2)
      have HO4 := Lib.hid (owns_grown HO3.out hs4.2 hb1)
      have hsz4 : w1.heap.size ≤ w4.heap.size := HG4.out.size
      clear hs4
      go_wp2_with (first
        | (at_builtin; refine append_line rfl (.tmp 12) (.tmp 17) rfl w1.heap.size w4 _ rfl z n _ k acc rfl HO4.out rfl (by omega) hsz4 ?_)
        | fail)
      intro v' w6 hown6 hgrow6
      have hlt4 := HA4.out.lt
      have hrow : ∀ j, (Value.ownBlock _ : Option Nat) = some j → w1.heap.size ≤ j := fun j hj => (HO4.out.lt j hj).1
      have hne : some b ≠ _ := fun e => by have := hrow b e.symm; omega
      have HO6 := Lib.hid hown6
      have HA6 : Hid (RdAt w6 b sb) := by
        refine HA4.out.keep ((hgrow6.block b (by simp; omega) hne).trans ?_)
        exact Below.heap_alloc w4 _ b hlt4
      have hga : w4.grownBy w6 _ := (World.grownBy_alloc w4 _ _).trans hgrow6
      have HG6 := Lib.hid (HG4.out.andThen hga (fun j hj => .inl (hrow j hj)))
      have HH6 := Lib.hid (HH4.out.andThen hga (fun j hj => .inl (by have := hrow j hj; have := HG1.out.size; omega)))
      clear hown6 hgrow6 hga hne hrow
      go_wp2_with fail
      go_roundw
      case rel => exact ⟨k + 1, acc ++ [(z, n)], sb, by omega, by go_num, by simp [hal], HZ2, HO6, HT2, HA6, HG6, HH6⟩
      case measure => simp [intOf]; omega
    · obtain rfl : k = N := by omega
      have hRe : takeA st = (acc, sk) := by rw [HR.out, ← hT.out, Nat.sub_self]; rfl
      have HRE := Lib.hid hRe
      obtain ⟨ra, rcap, rfl, hat⟩ := ls_of hO.out hal (by omega)
      have HAT := Lib.hid hat
      have HAL := Lib.hid hal
      have CB := bad_any b sk wr hA.out
      cases hsn : sk.isNone with
      | true =>
        rw [hsn] at CB
        have CB := Lib.hid CB
        have HSN := Lib.hid hsn
        clear hRe hat hal hO hsn
        go_wp2_with fail
        refine CB.out.mono ?_
        rintro e w2 ⟨rfl, hb2⟩
        have HA2 := Lib.hid (hA.out.keep (hb2.block _ hA.out.lt))
        have HG2 := Lib.hid (grown_trans hG0.out (grown_below hb2 (some b)))
        clear hb2
        go_wp2_with fail
        go_ret
        exact take_no HRE.out HSN.out HG2.out HA2.out
      | false =>
        rw [hsn] at CB
        have CB := Lib.hid CB
        have HSN := Lib.hid hsn
        clear hRe hat hal hO hsn
        go_wp2_with fail
        refine CB.out.mono ?_
        rintro e w2 ⟨rfl, hb2⟩
        have HA2 := Lib.hid (hA.out.keep (hb2.block _ hA.out.lt))
        have HG2 := Lib.hid (grown_trans hG0.out (grown_below hb2 (some b)))
        have HAT2 := Lib.hid (HAT.out.keep hb2)
        clear hb2
        go_wp2_with fail
        go_ret
        exact take_yes HRE.out HSN.out HAL.out HG2.out HA2.out hZ.out HAT2.out
set_option maxHeartbeats 2000000 in
theorem rtake_any (b : Nat) (st : St) (w : World) (h : RqAt w b st) :
    Calls Tryz.prog 24 #[.pointer (some ⟨b, 0, none⟩)] w (TakeOut RqAt w b st) := by
  obtain ⟨N, hN⟩ : ∃ N : Nat, (rdList 4 st).1 = (N : Int) := ⟨(rdList 4 st).1.toNat, by have := (rdList_bounds st).1; omega⟩
  have hN4 : N ≤ 4 := by have := (rdList_bounds st).2; omega
  obtain ⟨st1, hst1⟩ : ∃ st1, (rdList 4 st).2 = st1 := ⟨_, rfl⟩
  obtain ⟨R, hR⟩ : ∃ R, takeA st = R := ⟨_, rfl⟩
  have HR := Lib.hid hR
  have HT : Hid (takeUp N [] st1 = R) := by show _ = R; rw [← hR]; unfold takeA; rw [hN, hst1]; simp
  have C0 := Wire.rqlist_any b st 4 w h
  rw [hN, hst1] at C0
  have C0 := Lib.hid C0
  have HLT := Lib.hid h.lt
  clear hN hst1 hR
  go_enter Tryz.func24, Tryz.ntmps24
  go_wp2_with fail
  refine C0.out.mono ?_
  rintro e w1 ⟨rfl, hs1⟩
  have HA1 := Lib.hid hs1.1
  have HG1 := Lib.hid hs1.2
  have hb1 : b < w1.heap.size := Nat.lt_of_lt_of_le HLT.out hs1.2.size
  clear hs1 C0 h
  go_wp2_with fail
  go_loopw [4, 5] (fun t i wr => ∃ (k : Nat) (acc : List Ln) (sk : St), k ≤ N ∧ i = .int .i64 (k : Int) ∧ acc.length = k ∧ Hid (Sz acc) ∧ Hid (wr.ownsRow w1.heap.size 44 2 t k (lcells acc)) ∧ Hid (takeUp (N - k) acc sk = R) ∧ Hid (RqAt wr b sk) ∧ Hid (w1.grownBy wr (some b)) ∧ Hid (w.grownBy wr (some b))) (fun _ i _ => N - (intOf i).toNat)
  case atStart => exact ⟨0, [], st1, Nat.zero_le _, rfl, rfl, Lib.hid sz_nil, Lib.hid (World.ownsRow_nil _ _ _ _), HT, HA1, Lib.hid ((World.grownBy.refl _ _)), HG1⟩
  case round =>
    obtain ⟨k, acc, sk, hk, rfl, hal, hZ, hO, hT, hA, hG, hG0⟩ := hrel
    have hszw : w1.heap.size ≤ wr.heap.size := hG.out.size
    by_cases hlk : k < N
    · obtain ⟨z, hz⟩ : ∃ z : ByteArray, (rdText 48 sk).1 = z.data.toList := ⟨bs (rdText 48 sk).1, rfl⟩
      obtain ⟨sa, hsa⟩ : ∃ sa, (rdText 48 sk).2 = sa := ⟨_, rfl⟩
      obtain ⟨n, hn⟩ : ∃ n, (rdInt (-9223372036854775808) 9223372036854775807 sa).1 = n := ⟨_, rfl⟩
      obtain ⟨sb, hsb⟩ : ∃ sb, (rdInt (-9223372036854775808) 9223372036854775807 sa).2 = sb := ⟨_, rfl⟩
      have e1 : rdText 48 sk = (z.data.toList, sa) := Prod.ext hz hsa
      have e2 : rdInt (-9223372036854775808) 9223372036854775807 sa = (n, sb) := Prod.ext hn hsb
      have hzl : z.size ≤ 48 := by rw [size_list, ← hz]; exact rdText_len sk
      have hnb := rdInt_bounds sa
      rw [hn] at hnb
      have HT2 : Hid (takeUp (N - (k + 1)) (acc ++ [(z, n)]) sb = R) := by
        show _ = R
        rw [← hT.out, show N - k = (N - (k + 1)) + 1 by omega, takeUp_step e1 e2]
      have HZ2 : Hid (Sz (acc ++ [(z, n)])) := fun x hx => by
        rcases List.mem_append.1 hx with hx | hx
        · exact hZ.out x hx
        · simp at hx; subst hx; exact ⟨by show z.size ≤ 300; omega, hnb.1, hnb.2⟩
      have C1 := Wire.rqtext_any b sk 48 wr hA.out
      rw [e1] at C1
      simp only at C1
      rw [show (⟨z.data.toList.toArray⟩ : ByteArray) = z from bs_of z] at C1
      have C1 := Lib.hid C1
      have E2 := Lib.hid e2
      clear hz hsa hn hsb e1 e2 hnb
      go_wp2_with fail
      refine C1.out.mono ?_
      rintro e w2 ⟨rfl, hs2⟩
      have HA2 := Lib.hid hs2.1
      have HG2 := Lib.hid (grown_trans hG.out hs2.2)
      have HH2 := Lib.hid (grown_trans hG0.out hs2.2)
      have HO2 := Lib.hid (owns_grown hO.out hs2.2 hb1)
      clear hs2
      have C2 := Wire.rqint_any b sa (-9223372036854775808) 9223372036854775807 w2 HA2.out
      rw [E2.out] at C2
      simp only at C2
      have C2 := Lib.hid C2
      go_wp2_with fail
      refine C2.out.mono ?_
      rintro e w4 ⟨rfl, hs4⟩
      have HA4 := Lib.hid hs4.1
      have HG4 := Lib.hid (grown_trans HG2.out hs4.2)
      have HH4 := Lib.hid (grown_trans HH2.out hs4.2)
      have HO4 := Lib.hid (owns_grown HO2.out hs4.2 hb1)
      have hsz4 : w1.heap.size ≤ w4.heap.size := HG4.out.size
      clear hs4
      go_wp2_with (first
        | (at_builtin; refine append_line rfl (.tmp 16) (.tmp 21) rfl w1.heap.size w4 _ rfl z n _ k acc rfl HO4.out rfl (by omega) hsz4 ?_)
        | fail)
      intro v' w6 hown6 hgrow6
      have hlt4 := HA4.out.lt
      have hrow : ∀ j, (Value.ownBlock _ : Option Nat) = some j → w1.heap.size ≤ j := fun j hj => (HO4.out.lt j hj).1
      have hne : some b ≠ _ := fun e => by have := hrow b e.symm; omega
      have HO6 := Lib.hid hown6
      have HA6 : Hid (RqAt w6 b sb) := by
        refine HA4.out.keep ((hgrow6.block b (by simp; omega) hne).trans ?_)
        exact Below.heap_alloc w4 _ b hlt4
      have hga : w4.grownBy w6 _ := (World.grownBy_alloc w4 _ _).trans hgrow6
      have HG6 := Lib.hid (HG4.out.andThen hga (fun j hj => .inl (hrow j hj)))
      have HH6 := Lib.hid (HH4.out.andThen hga (fun j hj => .inl (by have := hrow j hj; have := HG1.out.size; omega)))
      clear hown6 hgrow6 hga hne hrow
      go_wp2_with fail
      go_roundw
      case rel => exact ⟨k + 1, acc ++ [(z, n)], sb, by omega, by go_num, by simp [hal], HZ2, HO6, HT2, HA6, HG6, HH6⟩
      case measure => simp [intOf]; omega
    · obtain rfl : k = N := by omega
      have hRe : takeA st = (acc, sk) := by rw [HR.out, ← hT.out, Nat.sub_self]; rfl
      have HRE := Lib.hid hRe
      obtain ⟨ra, rcap, rfl, hat⟩ := ls_of hO.out hal (by omega)
      have HAT := Lib.hid hat
      have HAL := Lib.hid hal
      obtain ⟨zz, hblk, _⟩ := hA.out
      have hbad : wr.cell? ⟨b, 1, none⟩ = some (.bool sk.isNone) := Wire.cell_of_heap hblk
      have hnil : b < wr.heap.size := (Array.getElem?_eq_some_iff.1 hblk).1
      clear hblk
      cases hsn : sk.isNone with
      | true =>
        rw [hsn] at hbad
        have HSN := Lib.hid hsn
        clear hRe hat hal hO hsn
        go_wp2_with fail
        go_ret
        exact take_no HRE.out HSN.out hG0.out hA.out
      | false =>
        rw [hsn] at hbad
        have HSN := Lib.hid hsn
        clear hRe hat hal hO hsn
        go_wp2_with fail
        go_ret
        exact take_yes HRE.out HSN.out HAL.out hG0.out hA.out hZ.out HAT.out
end Go.Proofs.YtpaemofjeadhcaaGreatDoor.Lines
