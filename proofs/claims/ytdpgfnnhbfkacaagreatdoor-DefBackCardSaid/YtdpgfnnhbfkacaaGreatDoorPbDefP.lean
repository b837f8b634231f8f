/-
  DefBack; what was there stays as it was.
-/
import Derived.Test.YtdpgfnnhbfkacaaGreatDoorPbDefFr
import Derived.Test.YtdpgfnnhbfkacaaGreatDoorPbDefJ
set_option linter.unusedVariables false
set_option linter.unusedSimpArgs false
set_option maxRecDepth 4000
namespace Go.Proofs.YtdpgfnnhbfkacaaGreatDoor.Def
open Go.RowKit DefP
open StP (textS)
open WireP (left done)
open Wire (RdAt RqAt RdStep)
open Go.Proofs.YtdpgfnnhbfkacaaGreatDoor.Kt
theorem itoa3 : ∀ n : Fin 101, (Lib.itoa ((n.val : Nat) : Int)).length ≤ 3 := by decide +kernel
theorem itoa_3 {n : Int} (h0 : 0 ≤ n) (h1 : n ≤ 100) : (Lib.itoa n).length ≤ 3 := by
  have := itoa3 ⟨n.toNat, by omega⟩
  rw [show ((n.toNat : Nat) : Int) = n from Int.toNat_of_nonneg h0] at this
  exact this
theorem join_leC (c : UInt8) (m : Nat) : ∀ (xs : List (List UInt8)), (∀ x ∈ xs, x.length ≤ m) → (Lib.join xs [c]).length ≤ xs.length * (m + 1)
  | [], _ => by rw [Lib.join_nil]; simp
  | [x], h => by rw [Lib.join_one]; have := h x (by simp); simp; omega
  | x :: y :: r, h => by
    rw [StP.join_cons2, List.length_append, List.length_cons]
    have h1 := h x (by simp)
    have h2 := join_leC c m (y :: r) fun z hz => h z (List.mem_cons_of_mem _ hz)
    rw [show (x :: y :: r).length * (m + 1) = (m + 1) + (y :: r).length * (m + 1) by rw [List.length_cons, Nat.add_mul, Nat.one_mul, Nat.add_comm]]
    omega
theorem textS_36 (x : Step) : (textS x).length ≤ 36 := by
  cases h : StP.fitS x with
  | false => rw [StP.text_no h]; exact Nat.zero_le _
  | true =>
    have f := StP.fitS_of h
    have h4 := f.tries0; have h5 := f.tries1; have h6 := f.base0; have h7 := f.base1; have h8 := f.cap0; have h9 := f.cap1; have h10 := f.wait0; have h11 := f.wait1
    unfold StP.textS
    rw [if_pos h]
    refine Nat.le_trans (join_leC 47 5 (StP.partsS x) ?_) (by unfold StP.partsS; simp)
    intro y hy
    unfold StP.partsS at hy
    simp only [List.mem_cons, List.mem_nil_iff, or_false] at hy
    rcases hy with rfl | rfl | rfl | rfl | rfl | rfl
    · have := StP.opL_len x.op; omega
    · have := StP.clL_len x.cls; omega
    · have := itoa_3 (n := x.tries) h4 (by omega); omega
    · have := itoa_3 (n := x.base) (by omega) (by omega); omega
    · have := itoa_3 (n := x.cap) (by omega) (by omega); omega
    · have := itoa_3 (n := x.wait) h10 h11; omega
theorem textD_300 {s : ByteArray} {l : List Step} (h : fitD ⟨s, l⟩ = true) (hs : s.data.toList.length ≤ 60) : (textD ⟨s, l⟩).length ≤ 300 := by
  have h6 := (fitL_len (fitD_iff.1 h).2).2
  have h1 := join_leC 44 36 (l.map textS) (fun y hy => by obtain ⟨x, _, rfl⟩ := List.mem_map.1 hy; exact textS_36 x)
  rw [List.length_map] at h1
  have h2 : l.length * 37 ≤ 6 * 37 := Nat.mul_le_mul_right 37 h6
  unfold textD
  rw [if_pos h, List.length_append, List.length_cons]
  have h3 : (stepsT l).length ≤ l.length * 37 := h1
  show s.data.toList.length + ((stepsT l).length + 1) ≤ 300
  omega
theorem putD_len (s : ByteArray) (l : List Step) (hs : s.data.toList.length ≤ 1000) (hn : l.length ≤ 1000) (h : ∀ x ∈ l, S64 x) : (putD ⟨s, l⟩).length ≤ 60000 := by
  rw [putD_pk]
  have := pk_len ⟨s, l⟩ hs hn h l.length
  show (pk ⟨s, l⟩ l.length).length ≤ 60000
  omega

theorem rtk_is {At : World → Nat → Rd → Prop} {w w' : World} {b : Nat} {st st2 : Rd} {na : ByteArray} {l : List Step} {n : Nat} {e : Ending} (h : TkR At w b st e w') (hd : takeD st = ⟨na, l⟩) (hl : l.length = n) (hs : (takeA st).2 = st2) :
    w.grownBy w' (some b) ∧ At w' b st2 ∧ ∃ a c, e = .returned (dv na a n c) ∧ n ≤ c ∧ StAt w' a n l ∧ (n = 0 ∨ ∃ g, a = some ⟨g, 0, none⟩ ∧ w.heap.size ≤ g) := by
  obtain ⟨h1, h2, a, c, h3, h4, h5, h6⟩ := h
  subst hl
  rw [hs] at h2
  rw [hd] at h3 h4 h5 h6
  exact ⟨h1, h2, a, c, h3, h4, h5, h6⟩
set_option maxHeartbeats 16000000 in
theorem back_any (s : ByteArray) (a : Option Addr) (n c : Nat) (l : List Step) (t : ByteArray) (w : World) (hk : t.size ≤ 9223372036854775807) (h : StAt w a n l) (hS : ∀ x ∈ l, S64 x) (ht : Num.Tab w) (hv : Step.Vars w) :
    Calls Tryz.prog 5 #[.agg #[.string s, .slice a n c], .string t] w fun e w' => e = .returned (.bool true) ∧ Below w.heap.size w w' := by
  have HB0 := Lib.hid (bx2_new 24 w (.string s) (.slice a n c))
  obtain ⟨u0, u1⟩ := cells2 HB0.out.box
  have HT := Lib.hid (fun W (hb : Below w.heap.size w W) => ht.keep hb)
  have HA : Hid (∀ W, Below w.heap.size w W → Calls Tryz.prog 7 #[] W fun e w' => e = .returned (.bool true) ∧ Below w.heap.size w w') := fun W hb => (awake_any W (hv.keep hb)).mono fun e w' hq => ⟨hq.1, below_keep hb hq.2 hb.size⟩
  obtain ⟨v1, hv1⟩ : ∃ v, (decide ((s.size : Int) ≤ 60) && decide ((n : Int) ≤ 10)) = v := ⟨_, rfl⟩
  have CF := Lib.hid (fun W => few_is s a n c v1 hv1 W)
  cases v1 with
  | false =>
    clear h hv hv1 hS ht
    go_enter Tryz.func5, Tryz.ntmps5
    go_wp2_with fail
    refine (CF.out _).mono ?_
    rintro e w1 ⟨rfl, hb⟩
    have HB1 := Lib.hid (HB0.out.keep hb)
    clear hb u0 u1
    have CA := Lib.hid (HA.out w1 HB1.out.bel)
    go_wp2_with fail
    refine CA.out.mono ?_
    rintro e wz ⟨rfl, hb⟩
    have HBZ := Lib.hid hb
    clear hb
    go_wp2_with fail
    go_ret
    exact ⟨rfl, HBZ.out⟩
  | true =>
    rw [Bool.and_eq_true, decide_eq_true_eq, decide_eq_true_eq] at hv1
    obtain ⟨hs, hn⟩ := hv1
    by_cases h300 : 300 < t.size
    · have hi : (300 : Int) < (t.size : Int) := by omega
      clear h hv hS ht
      go_enter Tryz.func5, Tryz.ntmps5
      go_wp2_with fail
      refine (CF.out _).mono ?_
      rintro e w1 ⟨rfl, hb⟩
      have HB1 := Lib.hid (HB0.out.keep hb)
      clear hb u0 u1
      have CA := Lib.hid (HA.out w1 HB1.out.bel)
      go_wp2_with fail
      refine CA.out.mono ?_
      rintro e wz ⟨rfl, hb⟩
      have HBZ := Lib.hid hb
      clear hb
      go_wp2_with fail
      go_ret
      exact ⟨rfl, HBZ.out⟩
    have hi : ¬ (300 : Int) < (t.size : Int) := by omega
    have hts0 : t.size ≤ 300 := by omega
    obtain ⟨f, hf⟩ : ∃ f, fitD ⟨s, l⟩ = f := ⟨_, rfl⟩
    cases hrd : readD t.data.toList with
    | none =>
      obtain ⟨na, hnae⟩ : ∃ na : ByteArray, na = ⟨#[]⟩ := ⟨_, rfl⟩
      obtain ⟨m1, hm1⟩ : ∃ m : Nat, m = 0 := ⟨_, rfl⟩
      have CR := Lib.hid (fun W (hb : Below w.heap.size w W) => read_is t na [] m1 7 (by rw [hrd, hnae]; rfl) (by rw [hrd]; rfl) hm1.symm W hts0 (hv.keep hb))
      clear hrd hnae hm1
      cases f with
      | false =>
        have HTD : Hid (Step.bs (textD ⟨s, l⟩) = ⟨#[]⟩) := by show _ = _; rw [textD_no hf]; rfl
        have CTx := Lib.hid (fun W (hb : Below w.heap.size w W) => text_is s a n c l ⟨#[]⟩ HTD.out W (Rw.At.keep h hb) (by omega) (by omega) (ht.keep hb))
        have CFi := Lib.hid (fun W (hb : Below w.heap.size w W) => fit_is s a n c l false hf W (Rw.At.keep h hb) (by omega) (by omega))
        have HX := Lib.hid (fun W (hb : Below w.heap.size w W) => Rw.At.keep h hb)
        clear h hv hf hS ht
        go_enter Tryz.func5, Tryz.ntmps5
        go_wp2_with fail
        refine (CF.out _).mono ?_
        rintro e w1 ⟨rfl, hb⟩
        have HB1 := Lib.hid (HB0.out.keep hb)
        clear hb u0 u1
        have CR := Lib.hid (CR.out w1 HB1.out.bel)
        go_wp2_with fail
        refine CR.out.mono ?_
        rintro e w2 ⟨a1, c1, rfl, _, hA, _, hb⟩
        have hba := (Below.refl w2.heap.size w2).alloc (Nat.le_refl _) (.cells #[.string na, .slice a1 m1 c1] 24)
        have HB2 := Lib.hid ((HB1.out.keep hb).keep hba)
        obtain ⟨w4, hw4⟩ : ∃ u, w2.alloc (.cells #[.string na, .slice a1 m1 c1] 24) = u := ⟨_, rfl⟩
        obtain ⟨z0, z1⟩ := cells2 HB2.out.box
        have HB4 := Lib.hid HB2.out
        rw [hw4] at HB4
        have HW4 := Lib.hid hw4
        clear hb hba hA hw4 CR HB1 HB2
        have CY := Lib.hid (CFi.out w4 HB4.out.bel)
        go_wp2_with fail
        rw [show w2.alloc (.cells #[.string na, .slice a1 m1 c1] 24) = w4 from HW4.out]
        clear z0 z1
        refine CY.out.mono ?_
        rintro e w5 ⟨rfl, hb⟩
        have HB5 := Lib.hid (HB4.out.keep hb)
        clear hb CY HB4
        obtain ⟨z0, z1⟩ := cells2 HB5.out.box
        have CD := Lib.hid (CTx.out w5 HB5.out.bel)
        go_wp2_with fail
        refine CD.out.mono ?_
        rintro e w6 ⟨rfl, hb⟩
        have HB6 := Lib.hid (HB5.out.keep hb)
        clear hb CD HB5 z0 z1
        have CA := Lib.hid (HA.out w6 HB6.out.bel)
        go_wp2_with fail
        refine CA.out.mono ?_
        rintro e wz ⟨rfl, hb⟩
        have HBZ := Lib.hid hb
        clear hb
        go_wp2_with fail
        go_ret
        exact ⟨rfl, HBZ.out⟩
      | true =>
        obtain ⟨tx, htx⟩ : ∃ tx, Step.bs (textD ⟨s, l⟩) = tx := ⟨_, rfl⟩
        have htl : tx.data.toList = textD ⟨s, l⟩ := by rw [← htx, Step.data_bs]
        have hts : tx.size ≤ 300 := by rw [Step.size_list, htl]; exact textD_300 hf (by rw [← Step.size_list]; omega)
        have CTx := Lib.hid (fun W (hb : Below w.heap.size w W) => text_is s a n c l tx htx W (Rw.At.keep h hb) (by omega) (by omega) (ht.keep hb))
        have CRd := Lib.hid (fun W (hb : Below w.heap.size w W) => read_is tx s l n 0 (by rw [htl, readD_back hf]; rfl) (by rw [htl, readD_back hf]; rfl) h.1 W hts (hv.keep hb))
        obtain ⟨pt, hpt⟩ : ∃ pt, Step.bs (putD ⟨s, l⟩) = pt := ⟨_, rfl⟩
        have HPD : Hid (pt.data.toList = putD ⟨s, l⟩) := by show _ = _; rw [← hpt, Step.data_bs]
        have HPS : Hid (pt.size ≤ 4398046511104) := by
          show _ ≤ _
          rw [Step.size_list, HPD.out]
          have := putD_len s l (by rw [← Step.size_list]; omega) (by rw [h.1]; omega) hS
          omega
        have CPt := Lib.hid (fun W (hb : Below w.heap.size w W) => put_is s a n c l pt hpt W (Rw.At.keep h hb) (by omega) (by omega) hS)
        have TK := Lib.hid (fun (w w' : World) (e : Ending) (q : Nat) (hq : TkR RdAt w q (some (putD ⟨s, l⟩)) e w') => rtk_is hq (take_fit hf).2 h.1 (congrArg Prod.snd (take_fit hf).1))
        have CFi := Lib.hid (fun W (hb : Below w.heap.size w W) => fit_is s a n c l true hf W (Rw.At.keep h hb) (by omega) (by omega))
        have HX := Lib.hid (fun W (hb : Below w.heap.size w W) => Rw.At.keep h hb)
        clear h hv hf hS ht htx htl hts hpt
        go_enter Tryz.func5, Tryz.ntmps5
        go_wp2_with fail
        refine (CF.out _).mono ?_
        rintro e w1 ⟨rfl, hb⟩
        have HB1 := Lib.hid (HB0.out.keep hb)
        clear hb u0 u1
        have CR := Lib.hid (CR.out w1 HB1.out.bel)
        go_wp2_with fail
        refine CR.out.mono ?_
        rintro e w2 ⟨a1, c1, rfl, _, hA, _, hb⟩
        have hba := (Below.refl w2.heap.size w2).alloc (Nat.le_refl _) (.cells #[.string na, .slice a1 m1 c1] 24)
        have HB2 := Lib.hid ((HB1.out.keep hb).keep hba)
        obtain ⟨w4, hw4⟩ : ∃ u, w2.alloc (.cells #[.string na, .slice a1 m1 c1] 24) = u := ⟨_, rfl⟩
        obtain ⟨z0, z1⟩ := cells2 HB2.out.box
        have HB4 := Lib.hid HB2.out
        rw [hw4] at HB4
        have HW4 := Lib.hid hw4
        clear hb hba hA hw4 CR HB1 HB2
        have CY := Lib.hid (CFi.out w4 HB4.out.bel)
        go_wp2_with fail
        rw [show w2.alloc (.cells #[.string na, .slice a1 m1 c1] 24) = w4 from HW4.out]
        clear z0 z1
        refine CY.out.mono ?_
        rintro e w5 ⟨rfl, hb⟩
        have HB5 := Lib.hid (HB4.out.keep hb)
        clear hb CY HB4
        obtain ⟨z0, z1⟩ := cells2 HB5.out.box
        have CD := Lib.hid (CTx.out w5 HB5.out.bel)
        go_wp2_with fail
        refine CD.out.mono ?_
        rintro e w6 ⟨rfl, hb⟩
        have HB6 := Lib.hid (HB5.out.keep hb)
        clear hb CD HB5 z0 z1
        have CR2 := Lib.hid (CRd.out w6 HB6.out.bel)
        go_wp2_with fail
        refine CR2.out.mono ?_
        rintro e w7 ⟨a7, c7, rfl, _, hA, _, hb⟩
        have hba := (Below.refl w7.heap.size w7).alloc (Nat.le_refl _) (.cells #[.string s, .slice a7 n c7] 24)
        have HB7 := Lib.hid ((HB6.out.keep hb).keep hba)
        have HA7 := Lib.hid (Rw.At.keep hA hba)
        have HX7 := Lib.hid (at2_new 24 w7 (.string s) (.slice a7 n c7))
        obtain ⟨u7, hu7⟩ : ∃ u, w7.alloc (.cells #[.string s, .slice a7 n c7] 24) = u := ⟨_, rfl⟩
        obtain ⟨z0, z1⟩ := cells2 HB7.out.box
        obtain ⟨k7, hk7⟩ : ∃ k, w7.heap.size = k := ⟨_, rfl⟩
        rw [hu7] at HB7 HA7 HX7
        rw [hk7] at HX7
        have HU7 := Lib.hid hu7
        have HK7 := Lib.hid hk7
        have CP := Lib.hid (CPt.out u7 HB7.out.bel)
        clear hb hba hA hu7 hk7 CR2 HB6
        go_wp2_with fail
        rw [show w7.alloc (.cells #[.string s, .slice a7 n c7] 24) = u7 from HU7.out, show w7.heap.size = k7 from HK7.out]
        clear z0 z1
        refine CP.out.mono ?_
        rintro e w8 ⟨rfl, hb⟩
        have HB8 := Lib.hid (HB7.out.keep hb)
        have HA8 := Lib.hid (HA7.out.keep hb)
        have HX8 := Lib.hid (HX7.out.keep hb)
        have CN := Lib.hid (Wire.new_any pt w8 HPS.out)
        clear hb CP HB7 HA7 HX7
        go_wp2_with fail
        refine CN.out.mono ?_
        rintro e w9 ⟨rfl, hr, hb⟩
        have HB9 := Lib.hid (HB8.out.keep hb)
        have HA9 := Lib.hid (HA8.out.keep hb)
        have HX9 := Lib.hid (HX8.out.keep hb)
        obtain ⟨q1, hq1⟩ : ∃ q, w8.heap.size = q := ⟨_, rfl⟩
        have hk2q : w.heap.size < q1 := by rw [← hq1]; exact HB8.out.lt
        have hk7q : k7 < q1 := by rw [← hq1]; exact heap_lt HX8.out
        rw [HPD.out] at hr
        rw [hq1] at hr
        have HR9 := Lib.hid hr
        have HQ1 := Lib.hid hq1
        have HSZ8 : Hid (w8.heap.size ≤ w9.heap.size) := hb.size
        have C5 := Lib.hid (take_any q1 _ w9 HR9.out)
        have HD9 := Lib.hid hb
        clear hr hb hq1 CN
        go_wp2_with fail
        rw [show w8.heap.size = q1 from HQ1.out]
        refine C5.out.mono ?_
        rintro e wa h5
        obtain ⟨hg5, hrd5, a3, c3, rfl, _, hA5, _⟩ := TK.out _ _ _ _ h5
        have hDa : Below w8.heap.size w8 wa := HD9.out.trans (Wire.below_of_grown hg5 (Nat.le_of_eq HQ1.out) HR9.out.lt)
        have hba := (Below.refl wa.heap.size wa).alloc (Nat.le_refl _) (.cells #[.string s, .slice a3 n c3] 24)
        have hDb := below_keep hDa hba hDa.size
        have HBA := Lib.hid (HB8.out.keep hDb)
        have HAA := Lib.hid (HA8.out.keep hDb)
        have HXA := Lib.hid (HX8.out.keep hDb)
        have HRA := Lib.hid (hrd5.keep (hba.block _ hrd5.lt))
        have HA3 := Lib.hid (Rw.At.keep hA5 hba)
        have HX3 := Lib.hid (at2_new 24 wa (.string s) (.slice a3 n c3))
        obtain ⟨z0, z1⟩ := cells2 HBA.out.box
        obtain ⟨y0, y1⟩ := cells2 HXA.out
        obtain ⟨ub, hub⟩ : ∃ u, wa.alloc (.cells #[.string s, .slice a3 n c3] 24) = u := ⟨_, rfl⟩
        obtain ⟨kb, hkb⟩ : ∃ k, wa.heap.size = k := ⟨_, rfl⟩
        rw [hub] at HBA HAA HXA HRA HA3 HX3
        rw [hkb] at HX3
        have HUB := Lib.hid hub
        have HKB := Lib.hid hkb
        have CS1 := Lib.hid (same_is s a7 n c7 l s a n c l true (eqD_self _) ub HAA.out (HX.out ub HBA.out.bel))
        clear h5 hg5 hrd5 hA5 hDa hba hDb hub hkb C5 TK HB8 HA8 HX8 HB9 HA9 HX9 HR9 HD9 HXA HAA
        go_wp2_with fail
        rw [show wa.alloc (.cells #[.string s, .slice a3 n c3] 24) = ub from HUB.out, show wa.heap.size = kb from HKB.out]
        clear z0 z1 y0 y1
        refine CS1.out.mono ?_
        rintro e wc ⟨rfl, hb⟩
        have HBC := Lib.hid (HBA.out.keep hb)
        have HXC := Lib.hid (HX3.out.keep hb)
        have HRC := Lib.hid (HRA.out.keep (hb.block _ HRA.out.lt))
        have CS2 := Lib.hid (same_is s a3 n c3 l s a n c l true (eqD_self _) wc (HA3.out.keep hb) (HX.out wc HBC.out.bel))
        obtain ⟨z0, z1⟩ := cells2 HBC.out.box
        obtain ⟨y0, y1⟩ := cells2 HXC.out
        clear hb CS1 HBA HX3 HRA HA3
        go_wp2_with fail
        refine CS2.out.mono ?_
        rintro e wd ⟨rfl, hb⟩
        have HBD := Lib.hid (HBC.out.keep hb)
        have CE := Lib.hid (Wire.rddone_is q1 (some []) true wd (HRC.out.keep (hb.block _ HRC.out.lt)) rfl)
        clear hb CS2 HBC HXC HRC z0 z1 y0 y1
        go_wp2_with fail
        refine CE.out.mono ?_
        rintro e we ⟨rfl, hb⟩
        have CA := Lib.hid (HA.out we (HBD.out.keep hb).bel)
        clear hb CE
        go_wp2_with fail
        refine CA.out.mono ?_
        rintro e wz ⟨rfl, hb⟩
        have HBZ := Lib.hid hb
        clear hb
        go_wp2_with fail
        go_ret
        exact ⟨rfl, HBZ.out⟩
    | some d =>
      obtain ⟨na, l1⟩ := d
      obtain ⟨hfx, htx0⟩ := readD_some hrd
      have HFX := Lib.hid hfx
      obtain ⟨m1, hm1⟩ : ∃ m, l1.length = m := ⟨_, rfl⟩
      have hm6 : m1 ≤ 6 := by rw [← hm1]; exact (fitL_len (fitD_iff.1 hfx).2).2
      have hna : na.size ≤ 1000 := by
        have h1 := nm_len (fitD_iff.1 hfx).1
        have h2 : na.data.toList.length ≤ 48 := h1
        rw [Step.size_list]; omega
      have HTX : Hid (Step.bs (textD ⟨na, l1⟩) = t) := by show _ = _; rw [htx0, Step.bs_data]
      have hss : (t.toList == t.toList) = true := by simp
      have CR := Lib.hid (fun W (hb : Below w.heap.size w W) => read_is t na l1 m1 0 (by rw [hrd]; rfl) (by rw [hrd]; rfl) hm1 W hts0 (hv.keep hb))
      clear hrd htx0 hfx hm1
      cases f with
      | false =>
        have HTD : Hid (Step.bs (textD ⟨s, l⟩) = ⟨#[]⟩) := by show _ = _; rw [textD_no hf]; rfl
        have CTx := Lib.hid (fun W (hb : Below w.heap.size w W) => text_is s a n c l ⟨#[]⟩ HTD.out W (Rw.At.keep h hb) (by omega) (by omega) (ht.keep hb))
        have CFi := Lib.hid (fun W (hb : Below w.heap.size w W) => fit_is s a n c l false hf W (Rw.At.keep h hb) (by omega) (by omega))
        have HX := Lib.hid (fun W (hb : Below w.heap.size w W) => Rw.At.keep h hb)
        clear h hv hf hS ht
        go_enter Tryz.func5, Tryz.ntmps5
        go_wp2_with fail
        refine (CF.out _).mono ?_
        rintro e w1 ⟨rfl, hb⟩
        have HB1 := Lib.hid (HB0.out.keep hb)
        clear hb u0 u1
        have CR := Lib.hid (CR.out w1 HB1.out.bel)
        go_wp2_with fail
        refine CR.out.mono ?_
        rintro e w2 ⟨a1, c1, rfl, _, hA, _, hb⟩
        have hba := (Below.refl w2.heap.size w2).alloc (Nat.le_refl _) (.cells #[.string na, .slice a1 m1 c1] 24)
        have HB2 := Lib.hid ((HB1.out.keep hb).keep hba)
        have HA2 := Lib.hid (Rw.At.keep hA hba)
        have hx := at2_new 24 w2 (.string na) (.slice a1 m1 c1)
        obtain ⟨x0, x1⟩ := cells2 hx
        obtain ⟨u2, hu2⟩ : ∃ u, w2.alloc (.cells #[.string na, .slice a1 m1 c1] 24) = u := ⟨_, rfl⟩
        obtain ⟨k2, hk2⟩ : ∃ k, w2.heap.size = k := ⟨_, rfl⟩
        rw [hu2] at HB2 HA2 hx
        rw [hk2] at hx
        have HX2 := Lib.hid hx
        have HU2 := Lib.hid hu2
        have HK2 := Lib.hid hk2
        have CX := Lib.hid (fit_is na a1 m1 c1 l1 true HFX.out u2 HA2.out (by omega) (by omega))
        clear hb hba hA hx hu2 hk2 CR HB1
        go_wp2_with fail
        rw [show w2.alloc (.cells #[.string na, .slice a1 m1 c1] 24) = u2 from HU2.out, show w2.heap.size = k2 from HK2.out]
        clear x0 x1
        refine CX.out.mono ?_
        rintro e w3 ⟨rfl, hb⟩
        have HB3 := Lib.hid (HB2.out.keep hb)
        have HX3 := Lib.hid (HX2.out.keep hb)
        have CT := Lib.hid (text_is na a1 m1 c1 l1 t HTX.out w3 (HA2.out.keep hb) (by omega) (by omega) (HT.out _ HB3.out.bel))
        obtain ⟨x0, x1⟩ := cells2 HX3.out
        clear hb CX HX2 HB2 HA2
        go_wp2_with fail
        refine CT.out.mono ?_
        rintro e w4 ⟨rfl, hb⟩
        have HB4 := Lib.hid (HB3.out.keep hb)
        clear hb CT HB3 HX3 x0 x1
        obtain ⟨z0, z1⟩ := cells2 HB4.out.box
        have CY := Lib.hid (CFi.out w4 HB4.out.bel)
        go_wp2_with fail
        refine CY.out.mono ?_
        rintro e w5 ⟨rfl, hb⟩
        have HB5 := Lib.hid (HB4.out.keep hb)
        clear hb CY HB4 z0 z1
        obtain ⟨z0, z1⟩ := cells2 HB5.out.box
        have CD := Lib.hid (CTx.out w5 HB5.out.bel)
        go_wp2_with fail
        refine CD.out.mono ?_
        rintro e w6 ⟨rfl, hb⟩
        have HB6 := Lib.hid (HB5.out.keep hb)
        clear hb CD HB5 z0 z1
        have CA := Lib.hid (HA.out w6 HB6.out.bel)
        go_wp2_with fail
        refine CA.out.mono ?_
        rintro e wz ⟨rfl, hb⟩
        have HBZ := Lib.hid hb
        clear hb
        go_wp2_with fail
        go_ret
        exact ⟨rfl, HBZ.out⟩
      | true =>
        obtain ⟨tx, htx⟩ : ∃ tx, Step.bs (textD ⟨s, l⟩) = tx := ⟨_, rfl⟩
        have htl : tx.data.toList = textD ⟨s, l⟩ := by rw [← htx, Step.data_bs]
        have hts : tx.size ≤ 300 := by rw [Step.size_list, htl]; exact textD_300 hf (by rw [← Step.size_list]; omega)
        have CTx := Lib.hid (fun W (hb : Below w.heap.size w W) => text_is s a n c l tx htx W (Rw.At.keep h hb) (by omega) (by omega) (ht.keep hb))
        have CRd := Lib.hid (fun W (hb : Below w.heap.size w W) => read_is tx s l n 0 (by rw [htl, readD_back hf]; rfl) (by rw [htl, readD_back hf]; rfl) h.1 W hts (hv.keep hb))
        obtain ⟨pt, hpt⟩ : ∃ pt, Step.bs (putD ⟨s, l⟩) = pt := ⟨_, rfl⟩
        have HPD : Hid (pt.data.toList = putD ⟨s, l⟩) := by show _ = _; rw [← hpt, Step.data_bs]
        have HPS : Hid (pt.size ≤ 4398046511104) := by
          show _ ≤ _
          rw [Step.size_list, HPD.out]
          have := putD_len s l (by rw [← Step.size_list]; omega) (by rw [h.1]; omega) hS
          omega
        have CPt := Lib.hid (fun W (hb : Below w.heap.size w W) => put_is s a n c l pt hpt W (Rw.At.keep h hb) (by omega) (by omega) hS)
        have TK := Lib.hid (fun (w w' : World) (e : Ending) (q : Nat) (hq : TkR RdAt w q (some (putD ⟨s, l⟩)) e w') => rtk_is hq (take_fit hf).2 h.1 (congrArg Prod.snd (take_fit hf).1))
        have CFi := Lib.hid (fun W (hb : Below w.heap.size w W) => fit_is s a n c l true hf W (Rw.At.keep h hb) (by omega) (by omega))
        have HX := Lib.hid (fun W (hb : Below w.heap.size w W) => Rw.At.keep h hb)
        clear h hv hf hS ht htx htl hts hpt
        go_enter Tryz.func5, Tryz.ntmps5
        go_wp2_with fail
        refine (CF.out _).mono ?_
        rintro e w1 ⟨rfl, hb⟩
        have HB1 := Lib.hid (HB0.out.keep hb)
        clear hb u0 u1
        have CR := Lib.hid (CR.out w1 HB1.out.bel)
        go_wp2_with fail
        refine CR.out.mono ?_
        rintro e w2 ⟨a1, c1, rfl, _, hA, _, hb⟩
        have hba := (Below.refl w2.heap.size w2).alloc (Nat.le_refl _) (.cells #[.string na, .slice a1 m1 c1] 24)
        have HB2 := Lib.hid ((HB1.out.keep hb).keep hba)
        have HA2 := Lib.hid (Rw.At.keep hA hba)
        have hx := at2_new 24 w2 (.string na) (.slice a1 m1 c1)
        obtain ⟨x0, x1⟩ := cells2 hx
        obtain ⟨u2, hu2⟩ : ∃ u, w2.alloc (.cells #[.string na, .slice a1 m1 c1] 24) = u := ⟨_, rfl⟩
        obtain ⟨k2, hk2⟩ : ∃ k, w2.heap.size = k := ⟨_, rfl⟩
        rw [hu2] at HB2 HA2 hx
        rw [hk2] at hx
        have HX2 := Lib.hid hx
        have HU2 := Lib.hid hu2
        have HK2 := Lib.hid hk2
        have CX := Lib.hid (fit_is na a1 m1 c1 l1 true HFX.out u2 HA2.out (by omega) (by omega))
        clear hb hba hA hx hu2 hk2 CR HB1
        go_wp2_with fail
        rw [show w2.alloc (.cells #[.string na, .slice a1 m1 c1] 24) = u2 from HU2.out, show w2.heap.size = k2 from HK2.out]
        clear x0 x1
        refine CX.out.mono ?_
        rintro e w3 ⟨rfl, hb⟩
        have HB3 := Lib.hid (HB2.out.keep hb)
        have HX3 := Lib.hid (HX2.out.keep hb)
        have CT := Lib.hid (text_is na a1 m1 c1 l1 t HTX.out w3 (HA2.out.keep hb) (by omega) (by omega) (HT.out _ HB3.out.bel))
        obtain ⟨x0, x1⟩ := cells2 HX3.out
        clear hb CX HX2 HB2 HA2
        go_wp2_with fail
        refine CT.out.mono ?_
        rintro e w4 ⟨rfl, hb⟩
        have HB4 := Lib.hid (HB3.out.keep hb)
        clear hb CT HB3 HX3 x0 x1
        obtain ⟨z0, z1⟩ := cells2 HB4.out.box
        have CY := Lib.hid (CFi.out w4 HB4.out.bel)
        go_wp2_with fail
        refine CY.out.mono ?_
        rintro e w5 ⟨rfl, hb⟩
        have HB5 := Lib.hid (HB4.out.keep hb)
        clear hb CY HB4 z0 z1
        obtain ⟨z0, z1⟩ := cells2 HB5.out.box
        have CD := Lib.hid (CTx.out w5 HB5.out.bel)
        go_wp2_with fail
        refine CD.out.mono ?_
        rintro e w6 ⟨rfl, hb⟩
        have HB6 := Lib.hid (HB5.out.keep hb)
        clear hb CD HB5 z0 z1
        have CR2 := Lib.hid (CRd.out w6 HB6.out.bel)
        go_wp2_with fail
        refine CR2.out.mono ?_
        rintro e w7 ⟨a7, c7, rfl, _, hA, _, hb⟩
        have hba := (Below.refl w7.heap.size w7).alloc (Nat.le_refl _) (.cells #[.string s, .slice a7 n c7] 24)
        have HB7 := Lib.hid ((HB6.out.keep hb).keep hba)
        have HA7 := Lib.hid (Rw.At.keep hA hba)
        have HX7 := Lib.hid (at2_new 24 w7 (.string s) (.slice a7 n c7))
        obtain ⟨u7, hu7⟩ : ∃ u, w7.alloc (.cells #[.string s, .slice a7 n c7] 24) = u := ⟨_, rfl⟩
        obtain ⟨z0, z1⟩ := cells2 HB7.out.box
        obtain ⟨k7, hk7⟩ : ∃ k, w7.heap.size = k := ⟨_, rfl⟩
        rw [hu7] at HB7 HA7 HX7
        rw [hk7] at HX7
        have HU7 := Lib.hid hu7
        have HK7 := Lib.hid hk7
        have CP := Lib.hid (CPt.out u7 HB7.out.bel)
        clear hb hba hA hu7 hk7 CR2 HB6
        go_wp2_with fail
        rw [show w7.alloc (.cells #[.string s, .slice a7 n c7] 24) = u7 from HU7.out, show w7.heap.size = k7 from HK7.out]
        clear z0 z1
        refine CP.out.mono ?_
        rintro e w8 ⟨rfl, hb⟩
        have HB8 := Lib.hid (HB7.out.keep hb)
        have HA8 := Lib.hid (HA7.out.keep hb)
        have HX8 := Lib.hid (HX7.out.keep hb)
        have CN := Lib.hid (Wire.new_any pt w8 HPS.out)
        clear hb CP HB7 HA7 HX7
        go_wp2_with fail
        refine CN.out.mono ?_
        rintro e w9 ⟨rfl, hr, hb⟩
        have HB9 := Lib.hid (HB8.out.keep hb)
        have HA9 := Lib.hid (HA8.out.keep hb)
        have HX9 := Lib.hid (HX8.out.keep hb)
        obtain ⟨q1, hq1⟩ : ∃ q, w8.heap.size = q := ⟨_, rfl⟩
        have hk2q : w.heap.size < q1 := by rw [← hq1]; exact HB8.out.lt
        have hk7q : k7 < q1 := by rw [← hq1]; exact heap_lt HX8.out
        rw [HPD.out] at hr
        rw [hq1] at hr
        have HR9 := Lib.hid hr
        have HQ1 := Lib.hid hq1
        have HSZ8 : Hid (w8.heap.size ≤ w9.heap.size) := hb.size
        have C5 := Lib.hid (take_any q1 _ w9 HR9.out)
        have HD9 := Lib.hid hb
        clear hr hb hq1 CN
        go_wp2_with fail
        rw [show w8.heap.size = q1 from HQ1.out]
        refine C5.out.mono ?_
        rintro e wa h5
        obtain ⟨hg5, hrd5, a3, c3, rfl, _, hA5, _⟩ := TK.out _ _ _ _ h5
        have hDa : Below w8.heap.size w8 wa := HD9.out.trans (Wire.below_of_grown hg5 (Nat.le_of_eq HQ1.out) HR9.out.lt)
        have hba := (Below.refl wa.heap.size wa).alloc (Nat.le_refl _) (.cells #[.string s, .slice a3 n c3] 24)
        have hDb := below_keep hDa hba hDa.size
        have HBA := Lib.hid (HB8.out.keep hDb)
        have HAA := Lib.hid (HA8.out.keep hDb)
        have HXA := Lib.hid (HX8.out.keep hDb)
        have HRA := Lib.hid (hrd5.keep (hba.block _ hrd5.lt))
        have HA3 := Lib.hid (Rw.At.keep hA5 hba)
        have HX3 := Lib.hid (at2_new 24 wa (.string s) (.slice a3 n c3))
        obtain ⟨z0, z1⟩ := cells2 HBA.out.box
        obtain ⟨y0, y1⟩ := cells2 HXA.out
        obtain ⟨ub, hub⟩ : ∃ u, wa.alloc (.cells #[.string s, .slice a3 n c3] 24) = u := ⟨_, rfl⟩
        obtain ⟨kb, hkb⟩ : ∃ k, wa.heap.size = k := ⟨_, rfl⟩
        rw [hub] at HBA HAA HXA HRA HA3 HX3
        rw [hkb] at HX3
        have HUB := Lib.hid hub
        have HKB := Lib.hid hkb
        have CS1 := Lib.hid (same_is s a7 n c7 l s a n c l true (eqD_self _) ub HAA.out (HX.out ub HBA.out.bel))
        clear h5 hg5 hrd5 hA5 hDa hba hDb hub hkb C5 TK HB8 HA8 HX8 HB9 HA9 HX9 HR9 HD9 HXA HAA
        go_wp2_with fail
        rw [show wa.alloc (.cells #[.string s, .slice a3 n c3] 24) = ub from HUB.out, show wa.heap.size = kb from HKB.out]
        clear z0 z1 y0 y1
        refine CS1.out.mono ?_
        rintro e wc ⟨rfl, hb⟩
        have HBC := Lib.hid (HBA.out.keep hb)
        have HXC := Lib.hid (HX3.out.keep hb)
        have HRC := Lib.hid (HRA.out.keep (hb.block _ HRA.out.lt))
        have CS2 := Lib.hid (same_is s a3 n c3 l s a n c l true (eqD_self _) wc (HA3.out.keep hb) (HX.out wc HBC.out.bel))
        obtain ⟨z0, z1⟩ := cells2 HBC.out.box
        obtain ⟨y0, y1⟩ := cells2 HXC.out
        clear hb CS1 HBA HX3 HRA HA3
        go_wp2_with fail
        refine CS2.out.mono ?_
        rintro e wd ⟨rfl, hb⟩
        have HBD := Lib.hid (HBC.out.keep hb)
        have CE := Lib.hid (Wire.rddone_is q1 (some []) true wd (HRC.out.keep (hb.block _ HRC.out.lt)) rfl)
        clear hb CS2 HBC HXC HRC z0 z1 y0 y1
        go_wp2_with fail
        refine CE.out.mono ?_
        rintro e we ⟨rfl, hb⟩
        have CA := Lib.hid (HA.out we (HBD.out.keep hb).bel)
        clear hb CE
        go_wp2_with fail
        refine CA.out.mono ?_
        rintro e wz ⟨rfl, hb⟩
        have HBZ := Lib.hid hb
        clear hb
        go_wp2_with fail
        go_ret
        exact ⟨rfl, HBZ.out⟩
end Go.Proofs.YtdpgfnnhbfkacaaGreatDoor.Def
namespace Go.Proofs.YtdpgfnnhbfkacaaGreatDoor
open Go.RowKit DefP
def Laid (w : World) : Prop := Num.Tab w ∧ Go.Proofs.YtdpgfnnhbfkacaaGreatDoor.Step.Vars w
theorem laid_of {W : World} (h : laidMetH Tryz.prog Rows.defBackRow.laid W) (hs : W.ShapedOpen Tryz.prog) : Laid W := ⟨tab_of (by kernel_rfl) h, maxLen_of hs⟩
theorem Contract.defBack (s : ByteArray) (a : Option Addr) (n c : Nat) (t : ByteArray) (W : World) (h1 : DefIn W s a n c) (hs : t.size ≤ maxLen) (ht : Laid W) :
    Calls Tryz.prog 5 #[Def.dv s a n c, .string t] W fun e W' => e = .returned (.bool true) ∧ Below W.heap.size W W' := by
  obtain ⟨l, k1, k2, _⟩ := h1
  exact Go.Proofs.YtdpgfnnhbfkacaaGreatDoor.Def.back_any s a n c l t W (by unfold maxLen at hs; omega) k1 k2 ht.1 ht.2
end Go.Proofs.YtdpgfnnhbfkacaaGreatDoor
