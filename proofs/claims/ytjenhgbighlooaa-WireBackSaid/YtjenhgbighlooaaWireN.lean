/-
  The law WireBack, walked: it returns true, and leaves what was there.
-/
import Derived.Test.YtjenhgbighlooaaWireK
import Derived.Deep.RegionHeld3
import Derived.Lib.QuietBelow
set_option linter.unusedVariables false
namespace Go.Proofs.Ytjenhgbighlooaa
open Go.RowKit WireP

theorem wireBack_long (a : Option Addr) (len cap : Nat) (t : ByteArray) (v : Bool) (s : ByteArray) (W : World) (h : 12 < len ∨ (len ≤ 12 ∧ 200 < t.size) ∨ (len ≤ 12 ∧ t.size ≤ 200 ∧ 40 < s.size)) (hl : len ≤ 9223372036854775807) (ht : t.size ≤ 9223372036854775807) (hs : s.size ≤ 9223372036854775807) :
    Calls Try.prog 5 #[.slice a len cap, .string t, .bool v, .string s] W fun e w' => e = .returned (.bool true) ∧ Below W.heap.size W w' := by
  rcases h with h | ⟨h, h2⟩ | ⟨h, h2, h3⟩
  all_goals
    go_enter Try.func5, Try.ntmps5
    go_wp2_with fail
    refine (awake_any W).mono ?_
    rintro e w' ⟨rfl, hb⟩
    go_wp2_with fail
    go_ret
    exact ⟨rfl, hb⟩
theorem rdInt_enc {n : Int} (h0 : -9223372036854775808 ≤ n) (h1 : n ≤ 9223372036854775807) (r : List UInt8) : rdInt (-9223372036854775808) 9223372036854775807 (some (enc n ++ r)) = (n, some r) := by
  rw [rdInt_yes ⟨ok_enc h0 h1 r, by rw [num_enc h0 h1]; exact h0, by rw [num_enc h0 h1]; exact h1⟩, num_enc h0 h1, drop_enc h0 h1]
theorem rdFlag_back (v : Bool) (r : List UInt8) : rdFlag (some (flag v ++ r)) = (v, some r) := by
  cases v
  · exact (rdFlag_yes (c := 0) (by simp [flag]) rfl (by decide)).trans (by simp [flag])
  · exact (rdFlag_yes (c := 1) (by simp [flag]) rfl (by decide)).trans (by simp [flag])
theorem rdText_back (l : List UInt8) (h : l.length ≤ 200) : rdText 200 (some (text l)) = (l, some []) := by
  have h0 : -9223372036854775808 ≤ ((l.length : Nat) : Int) := by omega
  have h1 : ((l.length : Nat) : Int) ≤ 9223372036854775807 := by omega
  have hd := drop_enc h0 h1 l
  have hlen := congrArg List.length hd
  rw [List.length_drop] at hlen
  have hk : lenOk 200 (text l) := by
    refine ⟨ok_enc h0 h1 l, ?_, ?_, ?_⟩
    · rw [text, num_enc h0 h1]; omega
    · rw [text, num_enc h0 h1]; omega
    · rw [text, num_enc h0 h1, hlen]; omega
  show ite _ _ _ = _
  rw [if_pos hk]
  unfold text
  rw [num_enc h0 h1, hd, Int.toNat_natCast, List.take_of_length_le (Nat.le_refl _), List.drop_of_length_le (by omega)]
/-- What is read of any octets is written as just these. -/
theorem back_same (l : List UInt8) (n : Int) (st st2 : St) (m : Int) (k : Nat) (h : rdInt (-9223372036854775808) 9223372036854775807 (some l) = (n, st)) (hk : l.length - left st = k)
    (h2 : rdInt (-9223372036854775808) 9223372036854775807 (some (l.take k)) = (m, st2)) (hd : done st2 = true) : enc n = l.take k := by
  cases hok : ok l with
  | false =>
    rw [rdInt_no (fun h => by rw [h.1] at hok; cases hok)] at h
    obtain ⟨rfl, rfl⟩ := Prod.mk.inj h
    have hk2 : k = l.length := by rw [← hk]; simp [left]
    rw [hk2, List.take_length, rdInt_no (fun h => by rw [h.1] at hok; cases hok)] at h2
    obtain ⟨rfl, rfl⟩ := Prod.mk.inj h2
    cases hd
  | true =>
    have hb := num_bounds hok
    rw [rdInt_yes ⟨hok, hb.1, hb.2⟩] at h
    obtain ⟨rfl, rfl⟩ := Prod.mk.inj h
    have ⟨h0, h8, hlt, hhd⟩ := ok_iff.1 hok
    have hk2 : k = 1 + nl l := by rw [← hk]; show l.length - (l.drop (1 + nl l)).length = _; rw [List.length_drop]; omega
    rw [hk2]
    have hnb := nb_len hlt
    unfold enc num
    rw [ix_nx, be_val _ _ rfl hhd, hnb]
    cases l with
    | nil => exact absurd rfl h0
    | cons c r =>
      have hc : nl (c :: r) = c.toNat := rfl
      have hb2 : nb (c :: r) = r.take c.toNat := rfl
      rw [hc, hb2, UInt8.ofNat_toNat, Nat.add_comm, List.take_succ_cons]
theorem left_le {l : List UInt8} {lo hi : Int} {n : Int} {st : St} (h : rdInt lo hi (some l) = (n, st)) : left st ≤ l.length := by
  by_cases hc : ok l = true ∧ lo ≤ num l ∧ num l ≤ hi
  · rw [rdInt_yes hc] at h
    obtain ⟨rfl, rfl⟩ := Prod.mk.inj h
    show (l.drop (1 + nl l)).length ≤ _
    rw [List.length_drop]; omega
  · rw [rdInt_no hc] at h
    obtain ⟨rfl, rfl⟩ := Prod.mk.inj h
    exact Nat.zero_le _
theorem encs_drop (xs : List Int) (k : Nat) (hk : k < xs.length) : encs (xs.drop k) = enc (xs.getD k 0) ++ encs (xs.drop (k + 1)) := by
  rw [List.drop_eq_getElem_cons hk, encs_cons]
  simp [List.getD, hk]
theorem one_int (B b y : Nat) (st st2 : St) (lo hi n : Int) (u : Value) (w : World) (hR : RdAt w B st) (hres : rdInt lo hi st = (n, st2)) (hb : b < B) (d1 : w.cell? ⟨b, y, none⟩ = some u) :
    Calls Try.prog 17 #[.pointer (some ⟨B, 0, none⟩), .int .i64 lo, .int .i64 hi] w fun e w' => e = .returned (.int .i64 n) ∧ RdAt w' B st2 ∧ w'.cell? ⟨b, y, none⟩ = some u ∧ Below B w w' :=
  (rdint_is B st st2 lo hi n w hR hres).mono fun e w' ⟨he, hs⟩ => by
    have hbel := hs.below hR (Nat.le_refl _)
    exact ⟨he, hs.1, (hbel.cell (p := ⟨b, y, none⟩) hb).trans d1, hbel⟩
theorem left_is (b : Nat) (st : St) (n : Nat) (w : World) (h : RdAt w b st) (hl : left st = n) :
    Calls Try.prog 25 #[.pointer (some ⟨b, 0, none⟩)] w fun e w' => e = .returned (.int .i64 (n : Int)) ∧ w = w' := by
  have h2 := left_any b st w h
  rw [hl] at h2
  exact h2
set_option maxRecDepth 100000 in
set_option maxHeartbeats 4000000 in
theorem wireBack_walk (a : Option Addr) (len cap : Nat) (xs : List Int) (t : ByteArray) (v : Bool) (s : ByteArray) (W : World) (h : IntsAt W a len xs) (hl : len ≤ 12) (ht : t.size ≤ 200) (hs : s.size ≤ 40) :
    Calls Try.prog 5 #[.slice a len cap, .string t, .bool v, .string s] W fun e w' => e = .returned (.bool true) ∧ Below W.heap.size W w' := by
  -- the octets that are written
  obtain ⟨z1, hz1⟩ : ∃ z1 : ByteArray, (⟨(encs xs).toArray⟩ : ByteArray) = z1 := ⟨_, rfl⟩
  obtain ⟨z2, hz2⟩ : ∃ z2 : ByteArray, (⟨(flag v).toArray⟩ : ByteArray) = z2 := ⟨_, rfl⟩
  obtain ⟨z3, hz3⟩ : ∃ z3 : ByteArray, (⟨(text t.data.toList).toArray⟩ : ByteArray) = z3 := ⟨_, rfl⟩
  have l1 : z1.data.toList = encs xs := by rw [← hz1]
  have l2 : z2.data.toList = flag v := by rw [← hz2]
  have l3 : z3.data.toList = text t.data.toList := by rw [← hz3]
  have s1 : z1.size ≤ 108 := by
    rw [← len_list, l1]
    have := encs_len xs h.2.1
    have := h.1
    omega
  have s2 : z2.size ≤ 1 := by rw [← len_list, l2]; cases v <;> decide
  have s3 : z3.size ≤ 209 := by
    rw [← len_list, l3]
    unfold text
    have hq := len_list t
    have := enc_len (n := ((t.data.toList.length : Nat) : Int)) (by omega) (by omega)
    rw [List.length_append]; omega
  have hI := ints_any a len cap xs W h (by omega)
  have hF := fun w => flag_any v w
  have hT := fun w => text_any t w (by omega)
  rw [hz1] at hI
  rw [hz2] at hF
  rw [hz3] at hT
  obtain ⟨zz, hzz⟩ : ∃ zz : ByteArray, z1 ++ z2 ++ z3 = zz := ⟨_, rfl⟩
  have lz : zz.data.toList = encs (xs.drop 0) ++ (flag v ++ text t.data.toList) := by
    rw [← hzz]; simp [l1, l2, l3]
  have sz : zz.size ≤ 400 := by rw [← hzz, ByteArray.size_append, ByteArray.size_append]; omega
  -- what is read of s
  obtain ⟨n, st, hq⟩ : ∃ n st, rdInt (-9223372036854775808) 9223372036854775807 (some s.data.toList) = (n, st) := ⟨_, _, rfl⟩
  obtain ⟨lf, hlf⟩ : ∃ lf, left st = lf := ⟨_, rfl⟩
  have hle := left_le hq
  rw [len_list, hlf] at hle
  obtain ⟨k, hk⟩ : ∃ k, s.size - lf = k := ⟨_, rfl⟩
  have hks : k ≤ s.size := by omega
  have hki : (s.size : Int) - (lf : Int) = (k : Int) := by omega
  have hki2 : (k : Int) ≤ (s.size : Int) := by omega
  have lex : (s.extract 0 k).data.toList = s.data.toList.take k := by rw [extract_list]; rfl
  have sex : (s.extract 0 k).size ≤ 4398046511104 := by rw [ByteArray.size_extract]; omega
  obtain ⟨m, st2, hp⟩ : ∃ m st2, rdInt (-9223372036854775808) 9223372036854775807 (some (s.extract 0 k).data.toList) = (m, st2) := ⟨_, _, rfl⟩
  obtain ⟨dn, hdn⟩ : ∃ dn, done st2 = dn := ⟨_, rfl⟩
  have hback : dn = true → enc n = (s.extract 0 k).data.toList := fun hd => by
    rw [lex] at hp ⊢
    exact back_same _ n st st2 m k hq (by rw [len_list, hlf]; exact hk) hp (by rw [hdn]; exact hd)
  have hnb : -9223372036854775808 ≤ n ∧ n ≤ 9223372036854775807 := by
    have := rdInt_bounds (-9223372036854775808) 9223372036854775807 (some s.data.toList)
    rw [hq] at this
    exact this
  have HI := Lib.hid hI; have HF := Lib.hid hF; have HT := Lib.hid hT; have HZZ := Lib.hid hzz; have LZ := Lib.hid lz
  have HQ := Lib.hid hq; have HLF := Lib.hid hlf; have HP := Lib.hid hp; have HDN := Lib.hid hdn; have HBACK := Lib.hid hback; have HNB := Lib.hid hnb
  have HL := Lib.hid h.1; have HR := Lib.hid h.2.1; have HC := Lib.hid h.2.2
  have htl : t.data.toList.length ≤ 200 := by rw [len_list]; exact ht
  have HTL := Lib.hid htl
  clear hI hF hT hzz lz hq hlf hp hdn hback hnb h hz1 hz2 hz3 l1 l2 l3 hle hk lex htl
  go_enter Try.func5, Try.ntmps5
  go_wp2_with fail
  refine HI.out.mono ?_
  rintro e w1 ⟨rfl, hb1⟩
  go_wp2_with fail
  refine (HF.out _).mono ?_
  rintro e w2 ⟨rfl, rfl⟩
  go_wp2_with fail
  refine (HT.out _).mono ?_
  rintro e w2 ⟨rfl, hb2⟩
  have HB2 := Lib.hid (below_keep hb1 hb2 hb1.size)
  clear hb1 hb2
  go_wp2_with fail
  rw [HZZ.out]
  refine (new_any zz w2 (by omega)).mono ?_
  rintro e w3 ⟨rfl, hr3, hb3⟩
  rw [LZ.out] at hr3
  have HR3 := Lib.hid hr3; have HB3 := Lib.hid (below_keep HB2.out hb3 HB2.out.size)
  obtain ⟨B, hB⟩ : ∃ B, w2.heap.size = B := ⟨_, rfl⟩
  have hWB : W.heap.size ≤ B := by rw [← hB]; exact HB2.out.size
  rw [hB] at HR3 ⊢
  clear hr3 hb3 hB HB2
  go_wp2_with fail
  go_loopw [10] (fun i wr => ∃ j : Nat, j ≤ len ∧ i = .int .i64 (j : Int) ∧ Hid (RdAt wr B (some (encs (xs.drop j) ++ (flag v ++ text t.data.toList)))) ∧ Hid (Below W.heap.size W wr)) (fun i _ => len - (intOf i).toNat)
  case atStart => exact ⟨0, by omega, rfl, HR3, HB3⟩
  case round =>
    obtain ⟨j, hj, rfl, hRd, hBe⟩ := hrel
    by_cases hlt : j < len
    · rcases HC.out with h0 | ⟨b, off, rfl, hbl, hcell⟩
      · omega
      have hjx : j < xs.length := by rw [HL.out]; exact hlt
      obtain ⟨x, hx⟩ : ∃ x, xs.getD j 0 = x := ⟨_, rfl⟩
      have hxr := HR.out _ (getD_mem hjx)
      have hed := encs_drop xs j hjx
      have d1 : wr.cell? ⟨b, off + j, none⟩ = some (.int .i64 x) := by rw [hBe.out.cell (p := ⟨b, off + j, none⟩) hbl, hcell j hlt, hx]
      rw [hx] at hxr hed
      have hrr := hRd.out
      rw [hed, List.append_assoc] at hrr
      have HRR := Lib.hid hrr
      have HRES := Lib.hid (rdInt_enc hxr.1 hxr.2 (encs (xs.drop (j + 1)) ++ (flag v ++ text t.data.toList)))
      clear hrr hed hxr hcell hx hRd HC
      go_wp2_with fail
      go_region_held3 (fun w' => w'.cell? ⟨b, off + j, none⟩ = some (.int .i64 x)) (first | exact d1 | exact e1)
        (first
          | (go_at_call 17; refine (one_int B b (off + j) _ _ _ _ x _ wr.drew HRR.out HRES.out (Nat.lt_of_lt_of_le hbl hWB) d1).mono ?_; rintro e w4 ⟨rfl, hr4, e1, hb4⟩))
      have HR4 := Lib.hid hr4; have HB4 := Lib.hid (hBe.out.drew.trans (hb4.mono hWB))
      clear hr4 hb4 e1 d1
      go_wp2_with fail
      go_roundw
      case rel => exact ⟨j + 1, by omega, by go_num, HR4, HB4⟩
      case measure => simp [intOf]; omega
    · have hje : xs.drop j = [] := List.drop_of_length_le (by rw [HL.out]; omega)
      have hrr := hRd.out
      rw [hje] at hrr
      have HRR := Lib.hid (show RdAt wr B (some (flag v ++ text t.data.toList)) from hrr)
      have HB4 := Lib.hid (hBe.out)
      clear hrr hje hRd hBe
      go_wp2_with fail
      refine (rdflag_is B _ _ v wr HRR.out (rdFlag_back v _)).mono ?_
      rintro e w5 ⟨rfl, hs5⟩
      have HR5 := Lib.hid hs5.1; have HB5 := Lib.hid (HB4.out.trans (hs5.below HRR.out hWB))
      clear hs5
      go_wp2_with fail
      refine (rdtext_is B _ _ 200 t w5 HR5.out (rdText_back _ HTL.out)).mono ?_
      rintro e w6 ⟨rfl, hs6⟩
      have HR6 := Lib.hid hs6.1; have HB6 := Lib.hid (HB5.out.trans (hs6.below HR5.out hWB))
      clear hs6
      go_wp2_with fail
      refine (rddone_is B _ true w6 HR6.out rfl).mono ?_
      rintro e w7 ⟨rfl, hb7⟩
      have HB7 := Lib.hid (below_keep HB6.out hb7 HB6.out.size)
      clear hb7 HR6 HR5 HRR
      go_wp2_with fail
      refine (new_any s w7 (by omega)).mono ?_
      rintro e w8 ⟨rfl, hr8, hb8⟩
      have HR8 := Lib.hid hr8; have HB8 := Lib.hid (below_keep HB7.out hb8 HB7.out.size)
      clear hr8 hb8
      go_wp2_with fail
      refine (rdint_is w7.heap.size _ _ _ _ n w8 HR8.out HQ.out).mono ?_
      rintro e w9 ⟨rfl, hs9⟩
      have HR9 := Lib.hid hs9.1; have HB9 := Lib.hid (HB8.out.trans (hs9.below HR8.out HB7.out.size))
      clear hs9
      go_wp2_with fail
      refine (left_is w7.heap.size _ lf w9 HR9.out HLF.out).mono ?_
      rintro e w10 ⟨rfl, rfl⟩
      go_wp2_with fail
      refine (new_any (s.extract 0 k) w9 sex).mono ?_
      rintro e w11 ⟨rfl, hr11, hb11⟩
      have HR11 := Lib.hid hr11; have HB11 := Lib.hid (below_keep HB9.out hb11 HB9.out.size)
      clear hr11 hb11
      go_wp2_with fail
      refine (rdint_is w9.heap.size _ _ _ _ m w11 HR11.out HP.out).mono ?_
      rintro e w12 ⟨rfl, hs12⟩
      have HR12 := Lib.hid hs12.1; have HB12 := Lib.hid (HB11.out.trans (hs12.below HR11.out HB9.out.size))
      clear hs12
      have hkp := fun d os => HR12.out.keep ((below_regrown w12 d os).block _ HR12.out.lt)
      cases dn with
      | false =>
        have cD : ∀ d os, Calls Try.prog 27 #[.pointer (some ⟨w9.heap.size, 0, none⟩)] (Sort.grow (redrawn w12 d) os) fun e w'' => e = .returned (.bool false) ∧ ∃ p : Regrown, w'' = Sort.grow (redrawn w12 p.d) p.os := fun d os => Calls.regrown_of (rddone_is w9.heap.size _ false _ (hkp d os) HDN.out)
        have cA : ∀ d os, Calls Try.prog 7 #[] (Sort.grow (redrawn w12 d) os) fun e w'' => e = .returned (.bool true) ∧ ∃ p : Regrown, w'' = Sort.grow (redrawn w12 p.d) p.os := fun d os => Calls.regrown_of (awake_any _)
        have CD := Lib.hid cD; have CA := Lib.hid cA
        clear cD cA hkp
        go_wp2_with fail
        refine wp_region_quiet_below (by kernel_rfl) (by kernel_rfl) ?_
        repeat (quiet_step (first | exact CD.out _ _ | exact CA.out _ _))
        refine wpQuiet_nil ?_
        intro _ hw'
        obtain ⟨⟨dq, osq⟩, hw''⟩ := hw'
        subst hw''
        go_wp2_with fail
        go_ret
        exact ⟨rfl, HB12.out.trans ((below_regrown w12 dq osq).mono HB12.out.size)⟩
      | true =>
        have HEN := Lib.hid (HBACK.out rfl)
        have cD : ∀ d os, Calls Try.prog 27 #[.pointer (some ⟨w9.heap.size, 0, none⟩)] (Sort.grow (redrawn w12 d) os) fun e w'' => e = .returned (.bool true) ∧ ∃ p : Regrown, w'' = Sort.grow (redrawn w12 p.d) p.os := fun d os => Calls.regrown_of (rddone_is w9.heap.size _ true _ (hkp d os) HDN.out)
        have cI : ∀ d os, Calls Try.prog 8 #[.int .i64 n] (Sort.grow (redrawn w12 d) os) fun e w'' => e = .returned (.string (s.extract 0 k)) ∧ ∃ p : Regrown, w'' = Sort.grow (redrawn w12 p.d) p.os := fun d os => Calls.regrown_of (int_is n (s.extract 0 k) _ HNB.out.1 HNB.out.2 HEN.out)
        have cA : ∀ d os, Calls Try.prog 7 #[] (Sort.grow (redrawn w12 d) os) fun e w'' => e = .returned (.bool true) ∧ ∃ p : Regrown, w'' = Sort.grow (redrawn w12 p.d) p.os := fun d os => Calls.regrown_of (awake_any _)
        have CD := Lib.hid cD; have CA := Lib.hid cA; have CI := Lib.hid cI
        clear cD cA cI hkp
        go_wp2_with fail
        refine wp_region_quiet_below (by kernel_rfl) (by kernel_rfl) ?_
        repeat (quiet_step (first | exact CD.out _ _ | exact CA.out _ _ | exact CI.out _ _))
        refine wpQuiet_nil ?_
        intro _ hw'
        obtain ⟨⟨dq, osq⟩, hw''⟩ := hw'
        subst hw''
        go_wp2_with fail
        go_ret
        exact ⟨rfl, HB12.out.trans ((below_regrown w12 dq osq).mono HB12.out.size)⟩
end Go.Proofs.Ytjenhgbighlooaa
