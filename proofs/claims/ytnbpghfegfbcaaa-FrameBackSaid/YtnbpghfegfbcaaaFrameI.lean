/-
  The walk of FrameBack: any few texts, any place, any few octets.
-/
import Derived.Test.YtnbpghfegfbcaaaFrameH
set_option linter.unusedVariables false
set_option maxRecDepth 4000
namespace Go.Proofs.Ytnbpghfegfbcaaa
open Go.RowKit CrcP FrameP

theorem StrsAt.take {w : World} {a : Option Addr} {len : Nat} {ss : List ByteArray} (h : StrsAt w a len ss) {j : Nat} (hj : j ≤ len) : StrsAt w a j (ss.take j) := by
  refine ⟨by rw [List.length_take, h.1]; omega, by have := h.2.1; omega, ?_⟩
  by_cases h0 : j = 0
  · exact .inl h0
  · obtain ⟨b, off, e, hb, hc⟩ := h.2.2.resolve_left (by omega)
    exact .inr ⟨b, off, e, hb, fun i hi => by rw [hc i (by omega)]; simp [List.getD, hi]⟩
theorem take_none_of {P : Program} {f : FuncId} {args : Array Value} {W : World} {l : List UInt8} {er : Int} (h : Calls P f args W (TakeP W l)) (hk : tk l = ([], er)) :
    Calls P f args W fun e w' => ∃ a cap, e = .returned (.tuple #[.slice a 0 cap, .int .i64 er]) ∧ Below W.heap.size W w' :=
  h.mono fun e w' ⟨a, cap, he, _, hb⟩ => by
    rw [hk] at he
    exact ⟨a, cap, he, hb⟩
theorem frameBack_long (a : Option Addr) (len cap : Nat) (ss : List ByteArray) (A : Int) (s : ByteArray) (w : World) (hS : StrsAt w a len ss) (hz : ∀ t ∈ ss, t.size ≤ 9223372036854775807) (hs : s.size ≤ 9223372036854775807) (h : ¬ (Few 8 200 ss ∧ s.size ≤ 200)) :
    Calls Try.prog 5 #[.slice a len cap, .int .u16 A, .string s] w (TrueIn w) := by
  have HFEW := Lib.hid (few_any a len cap 8 200 ss w hS (by decide) (by decide) hz)
  have HH := Lib.hid h
  clear hS hz h
  go_enter Try.func5, Try.ntmps5
  go_wp2_with fail
  refine HFEW.out.mono ?_
  rintro e w' ⟨r, rfl, hyes, hno, rfl⟩
  clear HFEW
  cases r with
  | false =>
    clear hyes hno
    go_wp2_with fail
    refine (awake_in (Below.refl _ w)).mono ?_
    rintro e w2 ⟨rfl, hb⟩
    have HB := Lib.hid hb
    clear hb
    go_wp2_with fail
    go_ret
    exact ⟨rfl, HB.out⟩
  | true =>
    have h2 : 200 < s.size := by
      have h1 := hyes rfl
      by_cases h3 : s.size ≤ 200
      · exact absurd ⟨h1, h3⟩ HH.out
      · omega
    clear hyes hno
    go_wp2_with fail
    refine (awake_in (Below.refl _ w)).mono ?_
    rintro e w2 ⟨rfl, hb⟩
    have HB := Lib.hid hb
    clear hb
    go_wp2_with fail
    go_ret
    exact ⟨rfl, HB.out⟩
set_option maxHeartbeats 16000000 in
theorem frameBack_walk (a : Option Addr) (len cap : Nat) (ss : List ByteArray) (A : Nat) (s : ByteArray) (w : World) (hS : StrsAt w a len ss) (hF8 : Few 8 200 ss) (hA : A < 65536) (hs : s.size ≤ 200) (hcap : len ≤ cap) :
    Calls Try.prog 5 #[.slice a len cap, .int .u16 (A : Int), .string s] w (TrueIn w) := by
  have HFEW := Lib.hid (fun (w : World) (hS : StrsAt w a len ss) => few_any a len cap 8 200 ss w hS (by decide) (by decide) (fun t ht => Nat.le_trans (hF8.2 t ht) (by decide)))
  have HF : Hid (Few 100 5000 ss) := ⟨Nat.le_trans hF8.1 (by decide), fun t ht => Nat.le_trans (hF8.2 t ht) (by decide)⟩
  have HF8 := Lib.hid hF8; have HS := Lib.hid hS; have HLN := Lib.hid hS.1
  have hlen : len ≤ 8 := by rw [← hS.1]; exact hF8.1
  have HT0 := Lib.hid (fun w => take_any s w (by omega))
  clear hS hF8
  go_enter Try.func5, Try.ntmps5
  go_wp2_with fail
  refine (HFEW.out w HS.out).mono ?_
  rintro e w' ⟨r, rfl, hyes, hno, rfl⟩
  clear HFEW
  obtain rfl : r = true := by
    cases r
    · exact absurd HF8.out (hno rfl)
    · rfl
  clear hyes hno
  go_wp2_with fail
  refine (HT0.out _).mono ?_
  rintro e w1 ⟨a1, c1, rfl, hs1, hb1⟩
  generalize hk : tk s.data.toList = tt at *
  obtain ⟨rs, er⟩ := tt
  dsimp only at hs1 ⊢
  have HB1 := Lib.hid hb1; have HS1 := Lib.hid hs1; have HSL := Lib.hid (HS.out.keep hb1)
  have HK := Lib.hid hk
  clear hb1 hs1 hk
  by_cases h0 : er = 0
  · subst h0
    obtain ⟨hfs, hrs⟩ := tk_frs _ s.data.toList (Nat.le_refl _) (by rw [HK.out])
    have hcnt := tk_count _ s.data.toList (Nat.le_refl _)
    rw [HK.out] at hfs hrs hcnt
    dsimp only at hfs hrs hcnt
    rw [len_list] at hcnt
    have hF2 : Few 100 5000 (rs.map str) := ⟨by rw [List.length_map]; omega, fun t ht => by
      obtain ⟨r, hr, rfl⟩ := List.mem_map.1 ht
      rw [str_size]
      exact Nat.le_trans (hrs r hr).2 (by decide)⟩
    obtain ⟨X0, er0, g1, _, gcase⟩ := put_is a1 rs.length c1 (rs.map str) (List.length_map ..) hF2
    rw [dt_str] at gcase
    have hszs : sz rs = s.size := by rw [← frs_length, hfs, len_list]
    obtain ⟨rfl, rfl⟩ : er0 = 0 ∧ X0 = s := by
      rcases gcase with ⟨h1, h2, _⟩ | ⟨_, _, h3⟩
      · exact ⟨h1, by rw [h2, hfs, str_of]⟩
      · exact absurd ⟨hrs, by rw [hszs]; omega⟩ h3
    have G1 := Lib.hid g1
    clear g1 gcase hfs hrs hcnt hF2 hszs
    go_wp2_with fail
    refine (G1.out w1 HS1.out).mono ?_
    rintro e wA ⟨rfl, hbA⟩
    have HBA := Lib.hid (HB1.out.trans (hbA.mono HB1.out.size))
    have HSA0 := Lib.hid (HSL.out.keep hbA)
    clear hbA G1 HB1 HS1 HSL HK
    obtain ⟨X, er2, h1, _, hcase⟩ := put_is a len cap ss HLN.out HF.out
    have H1 := Lib.hid h1
    clear h1
    rcases hcase with ⟨rfl, hX, hrec, hsz⟩ | ⟨hne, rfl, _⟩
    · have hXl : X.data.toList = frs (dt ss) := by rw [hX, str_list]
      have hXs : X.size = sz (dt ss) := by rw [hX, str_size, frs_length]
      have ht1 : ∀ W, Calls Try.prog 12 #[.string X] W fun e w' => ∃ a cap, e = .returned (.tuple #[.slice a len cap, .int .i64 0]) ∧ StrsAt w' a len ss ∧ Below W.heap.size W w' := fun W => by
        have h := take_any X W (by omega)
        unfold TakeP at h
        rw [hXl, tk_all _ hrec, map_str_dt, dt_length, HLN.out] at h
        exact h
      have hX63 : X.size ≤ 16384 := by omega
      obtain ⟨k, hk⟩ : ∃ k, A % (X.size + 1) = k := ⟨_, rfl⟩
      have hkX : k ≤ X.size := by rw [← hk]; exact Nat.le_of_lt_succ (Nat.mod_lt A (Nat.succ_pos X.size))
      obtain ⟨Y, hY⟩ : ∃ Y, X.extract 0 k = Y := ⟨_, rfl⟩
      have hYl : Y.data.toList = (frs (dt ss)).take k := by rw [← hY, ext_list, hXl, List.drop_zero, Nat.sub_zero]
      have hYs : Y.size ≤ 100000 := by rw [← hY, ByteArray.size_extract]; omega
      have hm1 : (A : Int).tmod ((X.size : Int) + 1) = (k : Int) := by
        rw [Int.tmod_eq_emod_of_nonneg (by omega), ← hk]
        rfl
      have hm2 : (A : Int) % ((X.size : Int) + 1) = (k : Int) := by
        rw [← hk]
        rfl
      have HT1 := Lib.hid ht1; have HYL := Lib.hid hYl; have HYS := Lib.hid hYs; have HREC := Lib.hid hrec; have HXT := Lib.hid hY; have HXS := Lib.hid hXs
      clear ht1 hYl hYs hrec hX hXl hXs hsz hk hY
      go_wp2_with fail
      refine (H1.out _ HSA0.out).mono ?_
      rintro e w3 ⟨rfl, hb3⟩
      have HB3 := Lib.hid (HBA.out.trans (hb3.mono HBA.out.size))
      have HS3 := Lib.hid (HSA0.out.keep hb3)
      clear hb3 HBA HSA0
      go_wp2_with fail
      clear hm1 hm2
      go_loopw [14, 15] (fun v i wr => ∃ j t : Nat, j ≤ len ∧ i = .int .i64 (j : Int) ∧ v = .int .i64 (t : Int) ∧ t ≤ k ∧ Hid (t = sz ((dt ss).take j)) ∧ Hid (Below w.heap.size w wr) ∧ Hid (StrsAt wr a len ss)) (fun _ i _ => len - (intOf i).toNat)
      case atStart => exact ⟨0, 0, Nat.zero_le _, rfl, rfl, Nat.zero_le _, rfl, HB3, HS3⟩
      case round =>
        obtain ⟨j, t, hj, rfl, rfl, htk0, ht, hB, hSr⟩ := hrel
        by_cases hlt : j < len
        · have hlj : j < ss.length := by rw [HLN.out]; exact hlt
          have hst := sz_take (dt ss) j (by rw [dt_length]; exact hlj)
          rw [dt_get ss j hlj, len_list, ← ht.out] at hst
          have hs5 := getD_size HF.out j hlj
          have hcel := hSr.out.cells (by omega)
          obtain ⟨s2, hs2⟩ : ∃ s2, ss.getD j ByteArray.empty = s2 := ⟨_, rfl⟩
          have hcell : ∃ b off, a = some ⟨b, off, none⟩ ∧ wr.cell? ⟨b, off + j, none⟩ = some (.string s2) := by
            obtain ⟨b, off, e, _, hc⟩ := hcel
            exact ⟨b, off, e, by rw [hc j hlt, hs2]⟩
          rw [hs2] at hst hs5
          have hsz : ∀ W : World, Calls Try.prog 10 #[.slice (some ⟨W.heap.size, 0, none⟩) 1 1] (W.alloc (.cells #[.string s2] 9)) fun e w' => e = .returned (.int .i64 ((6 + s2.size : Nat) : Int)) ∧ (W.alloc (.cells #[.string s2] 9)) = w' := fun W => by
            have h := size_any (some ⟨W.heap.size, 0, none⟩) 1 1 [s2] _ (strs_one s2 W 9) (few_one _ hs5)
            rw [show sz (dt [s2]) = 6 + s2.size by show 6 + s2.data.toList.length + 0 = _; rw [len_list]; rfl] at h
            exact h
          obtain ⟨z, hz⟩ : ∃ z, 6 + s2.size = z := ⟨_, rfl⟩
          rw [hz] at hst hsz
          have hz63 : z ≤ 10000 := by omega
          have HST1 := Lib.hid hst; have HSZ := Lib.hid hsz
          have hsz2 := HSZ.out (wr.alloc (.cells #[.string s2] 9))
          rw [World.size_alloc] at hsz2
          have HSZ2 := Lib.hid hsz2
          obtain ⟨b, off, rfl, d0⟩ := hcell
          have d1 : (wr.alloc (.cells #[.string s2] 9)).cell? ⟨b, off + j, none⟩ = some (.string s2) := Lib.cell?_alloc_some _ d0
          clear hst hsz hs2 hcel hz hs5 hsz2
          by_cases hle : t + z ≤ k
          · go_wp2_with fail
            refine (HSZ.out wr).mono ?_
            rintro e w' ⟨rfl, rfl⟩
            go_wp2_with fail
            refine HSZ2.out.mono ?_
            rintro e w' ⟨rfl, rfl⟩
            have HB4 := Lib.hid ((hB.out.alloc hB.out.size (.cells #[.string s2] 9)).alloc (by have := hB.out.size; simp; omega) (.cells #[.string s2] 9))
            have HS4 := Lib.hid ((hSr.out.keep ((Below.refl _ wr).alloc (Nat.le_refl _) (.cells #[.string s2] 9))).keep ((Below.refl _ _).alloc (Nat.le_refl _) (.cells #[.string s2] 9)))
            go_wp2_with fail
            go_roundw
            case rel => exact ⟨j + 1, t + z, by omega, by go_num, by go_num, hle, HST1.out.symm, HB4, HS4⟩
            case measure => simp [intOf]; omega
          · have HMID : Hid (t ≠ k → tk ((frs (dt ss)).take k) = ([], 8)) := fun hne => part_mid (dt ss) HREC.out j k (by rw [dt_length]; exact hlj) (by rw [← ht.out]; omega) (by rw [HST1.out]; omega)
            go_wp2_with fail
            refine (HSZ.out wr).mono ?_
            rintro e w' ⟨rfl, rfl⟩
            have HBT := Lib.hid (hB.out.alloc hB.out.size (.cells #[.string s2] 9))
            have HST := Lib.hid (hSr.out.keep ((Below.refl _ wr).alloc (Nat.le_refl _) (.cells #[.string s2] 9)))
            clear d0 d1 HSZ hB hSr
            generalize wr.alloc (.cells #[.string s2] 9) = wt at *
            by_cases htk : t = k
            · subst htk
              have hx2 := part_end (dt ss) j
              rw [← ht.out] at hx2
              have ht2 : ∀ W, Calls Try.prog 12 #[.string Y] W fun e w' => ∃ a cap, e = .returned (.tuple #[.slice a j cap, .int .i64 0]) ∧ StrsAt w' a j (ss.take j) ∧ Below W.heap.size W w' := fun W => by
                have h := take_any Y W HYS.out
                unfold TakeP at h
                rw [HYL.out, hx2, tk_all _ (fun r hr => HREC.out r (List.mem_of_mem_take hr)), dt_take, map_str_dt, dt_length, List.length_take, HLN.out, Nat.min_eq_left hj] at h
                exact h
              have HT2 := Lib.hid ht2
              have hjc : j ≤ cap := Nat.le_trans hj hcap
              clear hx2 ht2
              have hxk := HXT.out
              go_wp2_with fail
              refine (HT1.out _).mono ?_
              rintro e w5 ⟨a5, c5, rfl, hs5, hb5⟩
              have HB5 := Lib.hid (HBT.out.trans (hb5.mono HBT.out.size))
              have HS5 := Lib.hid hs5; have HL5 := Lib.hid (HST.out.keep hb5)
              clear hb5 hs5
              go_wp2_with fail
              refine (HT2.out _).mono ?_
              rintro e w6 ⟨a6, c6, rfl, hs6, hb6⟩
              have HB6 := Lib.hid (HB5.out.trans (hb6.mono HB5.out.size))
              have HS6 := Lib.hid hs6; have HL6 := Lib.hid (HL5.out.keep hb6); have HSA := Lib.hid (same_yes a5 (some ⟨b, off, none⟩) len c5 cap ss w6 (HS5.out.keep hb6) (HL5.out.keep hb6))
              clear hb6 hs6
              go_wp2_with fail
              refine HSA.out.mono ?_
              rintro e w7 ⟨rfl, hb7⟩
              have HB7 := Lib.hid (HB6.out.trans (hb7.mono HB6.out.size))
              have HSB := Lib.hid (same_yes a6 (some ⟨b, off, none⟩) j c6 cap (ss.take j) w7 (HS6.out.keep hb7) ((HL6.out.keep hb7).take hj))
              clear hb7
              go_wp2_with fail
              refine HSB.out.mono ?_
              rintro e w8 ⟨rfl, hb8⟩
              have HB8 := Lib.hid (HB7.out.trans (hb8.mono HB7.out.size))
              clear hb8
              go_wp2_with fail
              refine (awake_in HB8.out).mono ?_
              rintro e wz ⟨rfl, hbz⟩
              have HBZ := Lib.hid hbz
              clear hbz
              go_wp2_with fail
              go_ret
              exact ⟨rfl, HBZ.out⟩
            · have hnk : ((t : Int) == (k : Int)) = false := beq_eq_false_iff_ne.2 (by omega)
              have hmid := HMID.out htk
              have ht2 : ∀ W, Calls Try.prog 12 #[.string Y] W fun e w' => ∃ a cap, e = .returned (.tuple #[.slice a 0 cap, .int .i64 8]) ∧ Below W.heap.size W w' := fun W => by
                have h := take_any Y W HYS.out
                rw [HYL.out] at h
                exact take_none_of h hmid
              have HT2 := Lib.hid ht2
              clear hmid ht2
              have hxk := HXT.out
              go_wp2_with fail
              refine (HT1.out _).mono ?_
              rintro e w5 ⟨a5, c5, rfl, hs5, hb5⟩
              have HB5 := Lib.hid (HBT.out.trans (hb5.mono HBT.out.size))
              have HS5 := Lib.hid hs5; have HL5 := Lib.hid (HST.out.keep hb5)
              clear hb5 hs5
              go_wp2_with fail
              refine (HT2.out _).mono ?_
              rintro e w6 ⟨a6, c6, rfl, hb6⟩
              have HB6 := Lib.hid (HB5.out.trans (hb6.mono HB5.out.size))
              have HSA := Lib.hid (same_yes a5 (some ⟨b, off, none⟩) len c5 cap ss w6 (HS5.out.keep hb6) (HL5.out.keep hb6))
              clear hb6
              go_wp2_with fail
              refine HSA.out.mono ?_
              rintro e w7 ⟨rfl, hb7⟩
              have HB7 := Lib.hid (HB6.out.trans (hb7.mono HB6.out.size))
              clear hb7
              go_wp2_with fail
              refine (awake_in HB7.out).mono ?_
              rintro e wz ⟨rfl, hbz⟩
              have HBZ := Lib.hid hbz
              clear hbz
              go_wp2_with fail
              go_ret
              exact ⟨rfl, HBZ.out⟩
        · obtain rfl : j = len := by omega
          have HMID : Hid (t ≠ k → tk ((frs (dt ss)).take k) = ([], 8)) := fun hne => by
            have h1 := ht.out
            rw [List.take_of_length_le (by rw [dt_length, HLN.out]; exact Nat.le_refl _), ← HXS.out] at h1
            exact absurd (Nat.le_antisymm htk0 (by omega)) hne
          have HBT := hB
          have HST := hSr
          by_cases htk : t = k
          · subst htk
            have hx2 := part_end (dt ss) j
            rw [← ht.out] at hx2
            have ht2 : ∀ W, Calls Try.prog 12 #[.string Y] W fun e w' => ∃ a cap, e = .returned (.tuple #[.slice a j cap, .int .i64 0]) ∧ StrsAt w' a j (ss.take j) ∧ Below W.heap.size W w' := fun W => by
              have h := take_any Y W HYS.out
              unfold TakeP at h
              rw [HYL.out, hx2, tk_all _ (fun r hr => HREC.out r (List.mem_of_mem_take hr)), dt_take, map_str_dt, dt_length, List.length_take, HLN.out, Nat.min_eq_left hj] at h
              exact h
            have HT2 := Lib.hid ht2
            have hjc : j ≤ cap := Nat.le_trans hj hcap
            clear hx2 ht2
            have hxk := HXT.out
            go_wp2_with fail
            refine (HT1.out _).mono ?_
            rintro e w5 ⟨a5, c5, rfl, hs5, hb5⟩
            have HB5 := Lib.hid (HBT.out.trans (hb5.mono HBT.out.size))
            have HS5 := Lib.hid hs5; have HL5 := Lib.hid (HST.out.keep hb5)
            clear hb5 hs5
            go_wp2_with fail
            refine (HT2.out _).mono ?_
            rintro e w6 ⟨a6, c6, rfl, hs6, hb6⟩
            have HB6 := Lib.hid (HB5.out.trans (hb6.mono HB5.out.size))
            have HS6 := Lib.hid hs6; have HL6 := Lib.hid (HL5.out.keep hb6); have HSA := Lib.hid (same_yes a5 a j c5 cap ss w6 (HS5.out.keep hb6) (HL5.out.keep hb6))
            clear hb6 hs6
            go_wp2_with fail
            refine HSA.out.mono ?_
            rintro e w7 ⟨rfl, hb7⟩
            have HB7 := Lib.hid (HB6.out.trans (hb7.mono HB6.out.size))
            have HSB := Lib.hid (same_yes a6 a j c6 cap (ss.take j) w7 (HS6.out.keep hb7) ((HL6.out.keep hb7).take hj))
            clear hb7
            go_wp2_with fail
            refine HSB.out.mono ?_
            rintro e w8 ⟨rfl, hb8⟩
            have HB8 := Lib.hid (HB7.out.trans (hb8.mono HB7.out.size))
            clear hb8
            go_wp2_with fail
            refine (awake_in HB8.out).mono ?_
            rintro e wz ⟨rfl, hbz⟩
            have HBZ := Lib.hid hbz
            clear hbz
            go_wp2_with fail
            go_ret
            exact ⟨rfl, HBZ.out⟩
          · have hnk : ((t : Int) == (k : Int)) = false := beq_eq_false_iff_ne.2 (by omega)
            have hmid := HMID.out htk
            have ht2 : ∀ W, Calls Try.prog 12 #[.string Y] W fun e w' => ∃ a cap, e = .returned (.tuple #[.slice a 0 cap, .int .i64 8]) ∧ Below W.heap.size W w' := fun W => by
              have h := take_any Y W HYS.out
              rw [HYL.out] at h
              exact take_none_of h hmid
            have HT2 := Lib.hid ht2
            clear hmid ht2
            have hxk := HXT.out
            go_wp2_with fail
            refine (HT1.out _).mono ?_
            rintro e w5 ⟨a5, c5, rfl, hs5, hb5⟩
            have HB5 := Lib.hid (HBT.out.trans (hb5.mono HBT.out.size))
            have HS5 := Lib.hid hs5; have HL5 := Lib.hid (HST.out.keep hb5)
            clear hb5 hs5
            go_wp2_with fail
            refine (HT2.out _).mono ?_
            rintro e w6 ⟨a6, c6, rfl, hb6⟩
            have HB6 := Lib.hid (HB5.out.trans (hb6.mono HB5.out.size))
            have HSA := Lib.hid (same_yes a5 a j c5 cap ss w6 (HS5.out.keep hb6) (HL5.out.keep hb6))
            clear hb6
            go_wp2_with fail
            refine HSA.out.mono ?_
            rintro e w7 ⟨rfl, hb7⟩
            have HB7 := Lib.hid (HB6.out.trans (hb7.mono HB6.out.size))
            clear hb7
            go_wp2_with fail
            refine (awake_in HB7.out).mono ?_
            rintro e wz ⟨rfl, hbz⟩
            have HBZ := Lib.hid hbz
            clear hbz
            go_wp2_with fail
            go_ret
            exact ⟨rfl, HBZ.out⟩
    · have h00 : (er2 == 0) = false := beq_eq_false_iff_ne.2 hne
      clear hne
      go_wp2_with fail
      refine (H1.out _ HSA0.out).mono ?_
      rintro e w3 ⟨rfl, hb3⟩
      have HB3 := Lib.hid (HBA.out.trans (hb3.mono HBA.out.size))
      clear hb3
      go_wp2_with fail
      refine (awake_in HB3.out).mono ?_
      rintro e wz ⟨rfl, hbz⟩
      have HBZ := Lib.hid hbz
      clear hbz
      go_wp2_with fail
      go_ret
      exact ⟨rfl, HBZ.out⟩
  · have h01 : (er == 0) = false := beq_eq_false_iff_ne.2 h0
    have HBA := HB1
    have HSA0 := HSL
    clear h0 HB1 HS1 HSL HK
    obtain ⟨X, er2, h1, _, hcase⟩ := put_is a len cap ss HLN.out HF.out
    have H1 := Lib.hid h1
    clear h1
    rcases hcase with ⟨rfl, hX, hrec, hsz⟩ | ⟨hne, rfl, _⟩
    · have hXl : X.data.toList = frs (dt ss) := by rw [hX, str_list]
      have hXs : X.size = sz (dt ss) := by rw [hX, str_size, frs_length]
      have ht1 : ∀ W, Calls Try.prog 12 #[.string X] W fun e w' => ∃ a cap, e = .returned (.tuple #[.slice a len cap, .int .i64 0]) ∧ StrsAt w' a len ss ∧ Below W.heap.size W w' := fun W => by
        have h := take_any X W (by omega)
        unfold TakeP at h
        rw [hXl, tk_all _ hrec, map_str_dt, dt_length, HLN.out] at h
        exact h
      have hX63 : X.size ≤ 16384 := by omega
      obtain ⟨k, hk⟩ : ∃ k, A % (X.size + 1) = k := ⟨_, rfl⟩
      have hkX : k ≤ X.size := by rw [← hk]; exact Nat.le_of_lt_succ (Nat.mod_lt A (Nat.succ_pos X.size))
      obtain ⟨Y, hY⟩ : ∃ Y, X.extract 0 k = Y := ⟨_, rfl⟩
      have hYl : Y.data.toList = (frs (dt ss)).take k := by rw [← hY, ext_list, hXl, List.drop_zero, Nat.sub_zero]
      have hYs : Y.size ≤ 100000 := by rw [← hY, ByteArray.size_extract]; omega
      have hm1 : (A : Int).tmod ((X.size : Int) + 1) = (k : Int) := by
        rw [Int.tmod_eq_emod_of_nonneg (by omega), ← hk]
        rfl
      have hm2 : (A : Int) % ((X.size : Int) + 1) = (k : Int) := by
        rw [← hk]
        rfl
      have HT1 := Lib.hid ht1; have HYL := Lib.hid hYl; have HYS := Lib.hid hYs; have HREC := Lib.hid hrec; have HXT := Lib.hid hY; have HXS := Lib.hid hXs
      clear ht1 hYl hYs hrec hX hXl hXs hsz hk hY
      go_wp2_with fail
      refine (H1.out _ HSA0.out).mono ?_
      rintro e w3 ⟨rfl, hb3⟩
      have HB3 := Lib.hid (HBA.out.trans (hb3.mono HBA.out.size))
      have HS3 := Lib.hid (HSA0.out.keep hb3)
      clear hb3 HBA HSA0
      go_wp2_with fail
      clear hm1 hm2
      go_loopw [14, 15] (fun v i wr => ∃ j t : Nat, j ≤ len ∧ i = .int .i64 (j : Int) ∧ v = .int .i64 (t : Int) ∧ t ≤ k ∧ Hid (t = sz ((dt ss).take j)) ∧ Hid (Below w.heap.size w wr) ∧ Hid (StrsAt wr a len ss)) (fun _ i _ => len - (intOf i).toNat)
      case atStart => exact ⟨0, 0, Nat.zero_le _, rfl, rfl, Nat.zero_le _, rfl, HB3, HS3⟩
      case round =>
        obtain ⟨j, t, hj, rfl, rfl, htk0, ht, hB, hSr⟩ := hrel
        by_cases hlt : j < len
        · have hlj : j < ss.length := by rw [HLN.out]; exact hlt
          have hst := sz_take (dt ss) j (by rw [dt_length]; exact hlj)
          rw [dt_get ss j hlj, len_list, ← ht.out] at hst
          have hs5 := getD_size HF.out j hlj
          have hcel := hSr.out.cells (by omega)
          obtain ⟨s2, hs2⟩ : ∃ s2, ss.getD j ByteArray.empty = s2 := ⟨_, rfl⟩
          have hcell : ∃ b off, a = some ⟨b, off, none⟩ ∧ wr.cell? ⟨b, off + j, none⟩ = some (.string s2) := by
            obtain ⟨b, off, e, _, hc⟩ := hcel
            exact ⟨b, off, e, by rw [hc j hlt, hs2]⟩
          rw [hs2] at hst hs5
          have hsz : ∀ W : World, Calls Try.prog 10 #[.slice (some ⟨W.heap.size, 0, none⟩) 1 1] (W.alloc (.cells #[.string s2] 9)) fun e w' => e = .returned (.int .i64 ((6 + s2.size : Nat) : Int)) ∧ (W.alloc (.cells #[.string s2] 9)) = w' := fun W => by
            have h := size_any (some ⟨W.heap.size, 0, none⟩) 1 1 [s2] _ (strs_one s2 W 9) (few_one _ hs5)
            rw [show sz (dt [s2]) = 6 + s2.size by show 6 + s2.data.toList.length + 0 = _; rw [len_list]; rfl] at h
            exact h
          obtain ⟨z, hz⟩ : ∃ z, 6 + s2.size = z := ⟨_, rfl⟩
          rw [hz] at hst hsz
          have hz63 : z ≤ 10000 := by omega
          have HST1 := Lib.hid hst; have HSZ := Lib.hid hsz
          have hsz2 := HSZ.out (wr.alloc (.cells #[.string s2] 9))
          rw [World.size_alloc] at hsz2
          have HSZ2 := Lib.hid hsz2
          obtain ⟨b, off, rfl, d0⟩ := hcell
          have d1 : (wr.alloc (.cells #[.string s2] 9)).cell? ⟨b, off + j, none⟩ = some (.string s2) := Lib.cell?_alloc_some _ d0
          clear hst hsz hs2 hcel hz hs5 hsz2
          by_cases hle : t + z ≤ k
          · go_wp2_with fail
            refine (HSZ.out wr).mono ?_
            rintro e w' ⟨rfl, rfl⟩
            go_wp2_with fail
            refine HSZ2.out.mono ?_
            rintro e w' ⟨rfl, rfl⟩
            have HB4 := Lib.hid ((hB.out.alloc hB.out.size (.cells #[.string s2] 9)).alloc (by have := hB.out.size; simp; omega) (.cells #[.string s2] 9))
            have HS4 := Lib.hid ((hSr.out.keep ((Below.refl _ wr).alloc (Nat.le_refl _) (.cells #[.string s2] 9))).keep ((Below.refl _ _).alloc (Nat.le_refl _) (.cells #[.string s2] 9)))
            go_wp2_with fail
            go_roundw
            case rel => exact ⟨j + 1, t + z, by omega, by go_num, by go_num, hle, HST1.out.symm, HB4, HS4⟩
            case measure => simp [intOf]; omega
          · have HMID : Hid (t ≠ k → tk ((frs (dt ss)).take k) = ([], 8)) := fun hne => part_mid (dt ss) HREC.out j k (by rw [dt_length]; exact hlj) (by rw [← ht.out]; omega) (by rw [HST1.out]; omega)
            go_wp2_with fail
            refine (HSZ.out wr).mono ?_
            rintro e w' ⟨rfl, rfl⟩
            have HBT := Lib.hid (hB.out.alloc hB.out.size (.cells #[.string s2] 9))
            have HST := Lib.hid (hSr.out.keep ((Below.refl _ wr).alloc (Nat.le_refl _) (.cells #[.string s2] 9)))
            clear d0 d1 HSZ hB hSr
            generalize wr.alloc (.cells #[.string s2] 9) = wt at *
            by_cases htk : t = k
            · subst htk
              have hx2 := part_end (dt ss) j
              rw [← ht.out] at hx2
              have ht2 : ∀ W, Calls Try.prog 12 #[.string Y] W fun e w' => ∃ a cap, e = .returned (.tuple #[.slice a j cap, .int .i64 0]) ∧ StrsAt w' a j (ss.take j) ∧ Below W.heap.size W w' := fun W => by
                have h := take_any Y W HYS.out
                unfold TakeP at h
                rw [HYL.out, hx2, tk_all _ (fun r hr => HREC.out r (List.mem_of_mem_take hr)), dt_take, map_str_dt, dt_length, List.length_take, HLN.out, Nat.min_eq_left hj] at h
                exact h
              have HT2 := Lib.hid ht2
              have hjc : j ≤ cap := Nat.le_trans hj hcap
              clear hx2 ht2
              have hxk := HXT.out
              go_wp2_with fail
              refine (HT1.out _).mono ?_
              rintro e w5 ⟨a5, c5, rfl, hs5, hb5⟩
              have HB5 := Lib.hid (HBT.out.trans (hb5.mono HBT.out.size))
              have HS5 := Lib.hid hs5; have HL5 := Lib.hid (HST.out.keep hb5)
              clear hb5 hs5
              go_wp2_with fail
              refine (HT2.out _).mono ?_
              rintro e w6 ⟨a6, c6, rfl, hs6, hb6⟩
              have HB6 := Lib.hid (HB5.out.trans (hb6.mono HB5.out.size))
              have HS6 := Lib.hid hs6; have HL6 := Lib.hid (HL5.out.keep hb6); have HSA := Lib.hid (same_yes a5 (some ⟨b, off, none⟩) len c5 cap ss w6 (HS5.out.keep hb6) (HL5.out.keep hb6))
              clear hb6 hs6
              go_wp2_with fail
              refine HSA.out.mono ?_
              rintro e w7 ⟨rfl, hb7⟩
              have HB7 := Lib.hid (HB6.out.trans (hb7.mono HB6.out.size))
              have HSB := Lib.hid (same_yes a6 (some ⟨b, off, none⟩) j c6 cap (ss.take j) w7 (HS6.out.keep hb7) ((HL6.out.keep hb7).take hj))
              clear hb7
              go_wp2_with fail
              refine HSB.out.mono ?_
              rintro e w8 ⟨rfl, hb8⟩
              have HB8 := Lib.hid (HB7.out.trans (hb8.mono HB7.out.size))
              clear hb8
              go_wp2_with fail
              refine (awake_in HB8.out).mono ?_
              rintro e wz ⟨rfl, hbz⟩
              have HBZ := Lib.hid hbz
              clear hbz
              go_wp2_with fail
              go_ret
              exact ⟨rfl, HBZ.out⟩
            · have hnk : ((t : Int) == (k : Int)) = false := beq_eq_false_iff_ne.2 (by omega)
              have hmid := HMID.out htk
              have ht2 : ∀ W, Calls Try.prog 12 #[.string Y] W fun e w' => ∃ a cap, e = .returned (.tuple #[.slice a 0 cap, .int .i64 8]) ∧ Below W.heap.size W w' := fun W => by
                have h := take_any Y W HYS.out
                rw [HYL.out] at h
                exact take_none_of h hmid
              have HT2 := Lib.hid ht2
              clear hmid ht2
              have hxk := HXT.out
              go_wp2_with fail
              refine (HT1.out _).mono ?_
              rintro e w5 ⟨a5, c5, rfl, hs5, hb5⟩
              have HB5 := Lib.hid (HBT.out.trans (hb5.mono HBT.out.size))
              have HS5 := Lib.hid hs5; have HL5 := Lib.hid (HST.out.keep hb5)
              clear hb5 hs5
              go_wp2_with fail
              refine (HT2.out _).mono ?_
              rintro e w6 ⟨a6, c6, rfl, hb6⟩
              have HB6 := Lib.hid (HB5.out.trans (hb6.mono HB5.out.size))
              have HSA := Lib.hid (same_yes a5 (some ⟨b, off, none⟩) len c5 cap ss w6 (HS5.out.keep hb6) (HL5.out.keep hb6))
              clear hb6
              go_wp2_with fail
              refine HSA.out.mono ?_
              rintro e w7 ⟨rfl, hb7⟩
              have HB7 := Lib.hid (HB6.out.trans (hb7.mono HB6.out.size))
              clear hb7
              go_wp2_with fail
              refine (awake_in HB7.out).mono ?_
              rintro e wz ⟨rfl, hbz⟩
              have HBZ := Lib.hid hbz
              clear hbz
              go_wp2_with fail
              go_ret
              exact ⟨rfl, HBZ.out⟩
        · obtain rfl : j = len := by omega
          have HMID : Hid (t ≠ k → tk ((frs (dt ss)).take k) = ([], 8)) := fun hne => by
            have h1 := ht.out
            rw [List.take_of_length_le (by rw [dt_length, HLN.out]; exact Nat.le_refl _), ← HXS.out] at h1
            exact absurd (Nat.le_antisymm htk0 (by omega)) hne
          have HBT := hB
          have HST := hSr
          by_cases htk : t = k
          · subst htk
            have hx2 := part_end (dt ss) j
            rw [← ht.out] at hx2
            have ht2 : ∀ W, Calls Try.prog 12 #[.string Y] W fun e w' => ∃ a cap, e = .returned (.tuple #[.slice a j cap, .int .i64 0]) ∧ StrsAt w' a j (ss.take j) ∧ Below W.heap.size W w' := fun W => by
              have h := take_any Y W HYS.out
              unfold TakeP at h
              rw [HYL.out, hx2, tk_all _ (fun r hr => HREC.out r (List.mem_of_mem_take hr)), dt_take, map_str_dt, dt_length, List.length_take, HLN.out, Nat.min_eq_left hj] at h
              exact h
            have HT2 := Lib.hid ht2
            have hjc : j ≤ cap := Nat.le_trans hj hcap
            clear hx2 ht2
            have hxk := HXT.out
            go_wp2_with fail
            refine (HT1.out _).mono ?_
            rintro e w5 ⟨a5, c5, rfl, hs5, hb5⟩
            have HB5 := Lib.hid (HBT.out.trans (hb5.mono HBT.out.size))
            have HS5 := Lib.hid hs5; have HL5 := Lib.hid (HST.out.keep hb5)
            clear hb5 hs5
            go_wp2_with fail
            refine (HT2.out _).mono ?_
            rintro e w6 ⟨a6, c6, rfl, hs6, hb6⟩
            have HB6 := Lib.hid (HB5.out.trans (hb6.mono HB5.out.size))
            have HS6 := Lib.hid hs6; have HL6 := Lib.hid (HL5.out.keep hb6); have HSA := Lib.hid (same_yes a5 a j c5 cap ss w6 (HS5.out.keep hb6) (HL5.out.keep hb6))
            clear hb6 hs6
            go_wp2_with fail
            refine HSA.out.mono ?_
            rintro e w7 ⟨rfl, hb7⟩
            have HB7 := Lib.hid (HB6.out.trans (hb7.mono HB6.out.size))
            have HSB := Lib.hid (same_yes a6 a j c6 cap (ss.take j) w7 (HS6.out.keep hb7) ((HL6.out.keep hb7).take hj))
            clear hb7
            go_wp2_with fail
            refine HSB.out.mono ?_
            rintro e w8 ⟨rfl, hb8⟩
            have HB8 := Lib.hid (HB7.out.trans (hb8.mono HB7.out.size))
            clear hb8
            go_wp2_with fail
            refine (awake_in HB8.out).mono ?_
            rintro e wz ⟨rfl, hbz⟩
            have HBZ := Lib.hid hbz
            clear hbz
            go_wp2_with fail
            go_ret
            exact ⟨rfl, HBZ.out⟩
          · have hnk : ((t : Int) == (k : Int)) = false := beq_eq_false_iff_ne.2 (by omega)
            have hmid := HMID.out htk
            have ht2 : ∀ W, Calls Try.prog 12 #[.string Y] W fun e w' => ∃ a cap, e = .returned (.tuple #[.slice a 0 cap, .int .i64 8]) ∧ Below W.heap.size W w' := fun W => by
              have h := take_any Y W HYS.out
              rw [HYL.out] at h
              exact take_none_of h hmid
            have HT2 := Lib.hid ht2
            clear hmid ht2
            have hxk := HXT.out
            go_wp2_with fail
            refine (HT1.out _).mono ?_
            rintro e w5 ⟨a5, c5, rfl, hs5, hb5⟩
            have HB5 := Lib.hid (HBT.out.trans (hb5.mono HBT.out.size))
            have HS5 := Lib.hid hs5; have HL5 := Lib.hid (HST.out.keep hb5)
            clear hb5 hs5
            go_wp2_with fail
            refine (HT2.out _).mono ?_
            rintro e w6 ⟨a6, c6, rfl, hb6⟩
            have HB6 := Lib.hid (HB5.out.trans (hb6.mono HB5.out.size))
            have HSA := Lib.hid (same_yes a5 a j c5 cap ss w6 (HS5.out.keep hb6) (HL5.out.keep hb6))
            clear hb6
            go_wp2_with fail
            refine HSA.out.mono ?_
            rintro e w7 ⟨rfl, hb7⟩
            have HB7 := Lib.hid (HB6.out.trans (hb7.mono HB6.out.size))
            clear hb7
            go_wp2_with fail
            refine (awake_in HB7.out).mono ?_
            rintro e wz ⟨rfl, hbz⟩
            have HBZ := Lib.hid hbz
            clear hbz
            go_wp2_with fail
            go_ret
            exact ⟨rfl, HBZ.out⟩
    · have h00 : (er2 == 0) = false := beq_eq_false_iff_ne.2 hne
      clear hne
      go_wp2_with fail
      refine (H1.out _ HSA0.out).mono ?_
      rintro e w3 ⟨rfl, hb3⟩
      have HB3 := Lib.hid (HBA.out.trans (hb3.mono HBA.out.size))
      clear hb3
      go_wp2_with fail
      refine (awake_in HB3.out).mono ?_
      rintro e wz ⟨rfl, hbz⟩
      have HBZ := Lib.hid hbz
      clear hbz
      go_wp2_with fail
      go_ret
      exact ⟨rfl, HBZ.out⟩
end Go.Proofs.Ytnbpghfegfbcaaa
