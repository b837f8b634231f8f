/-
  The contract of the document's Read: any text of up to 300 octets; what was there stays as it was.
-/
import Derived.Test.YtcdinaoenhonbaaDoorKeyD
import Derived.Test.YtcdinaoenhonbaaDoorKeyC
set_option linter.unusedVariables false
set_option linter.unusedSimpArgs false
set_option maxRecDepth 4000
namespace Go.Proofs.YtcdinaoenhonbaaDoor.Key
open Go.RowKit KeyP
open Go.Proofs.YtcdinaoenhonbaaDoor.Kt

/-- What stands while the document's Read reads: its result's cell and its key in two blocks. -/
structure RK (w W : World) (v0 v1 v2 : Value) : Prop where
  bel : Below w.heap.size w W
  res : At3 23 W w.heap.size (.int .i64 0) (.int .i64 0) (.bool false)
  box : At3 23 W (w.heap.size + 1) v0 v1 v2
theorem RK.keep {w W W' : World} {v0 v1 v2 : Value} (r : RK w W v0 v1 v2) (hb : Below W.heap.size W W') : RK w W' v0 v1 v2 :=
  ⟨below_keep r.bel hb r.bel.size, r.res.keep hb, r.box.keep hb⟩
theorem RK.alloc {w W : World} {v0 v1 v2 : Value} (r : RK w W v0 v1 v2) (o : Obj) : RK w (W.alloc o) v0 v1 v2 := r.keep ((Below.refl _ _).alloc (Nat.le_refl _) o)
theorem rk_new (w : World) (v0 v1 v2 : Value) : RK w ((w.alloc (.cells #[.int .i64 0, .int .i64 0, .bool false] 23)).alloc (.cells #[v0, v1, v2] 23)) v0 v1 v2 := by
  have a1 := at3_new 23 (w.alloc (.cells #[.int .i64 0, .int .i64 0, .bool false] 23)) v0 v1 v2
  rw [World.size_alloc] at a1
  exact ⟨((Below.refl _ _).alloc (Nat.le_refl _) _).alloc (by simp) _, (at3_new 23 w _ _ _).alloc _, a1⟩

theorem RK.set0 {w W : World} {v0 v1 v2 : Value} (r : RK w W v0 v1 v2) (u : Value) : RK w (W.setCell ⟨w.heap.size + 1, 0, none⟩ u) u v1 v2 := by
  refine ⟨r.bel.setCell (p := ⟨w.heap.size + 1, 0, none⟩) (Nat.le_succ _) _, (heap_setCell_other _ _ _ _ (by show _ ≠ _; simp)).trans r.res, ?_⟩
  have h1 := Lib.heap_setCell_same (i := 0) r.box u
  unfold At3
  rw [h1]
  rfl

theorem RK.set1 {w W : World} {v0 v1 v2 : Value} (r : RK w W v0 v1 v2) (u : Value) : RK w (W.setCell ⟨w.heap.size + 1, 1, none⟩ u) v0 u v2 := by
  refine ⟨r.bel.setCell (p := ⟨w.heap.size + 1, 1, none⟩) (Nat.le_succ _) _, (heap_setCell_other _ _ _ _ (by show _ ≠ _; simp)).trans r.res, ?_⟩
  have h1 := Lib.heap_setCell_same (i := 1) r.box u
  unfold At3
  rw [h1]
  rfl

theorem RK.set2 {w W : World} {v0 v1 v2 : Value} (r : RK w W v0 v1 v2) (u : Value) : RK w (W.setCell ⟨w.heap.size + 1, 2, none⟩ u) v0 v1 u := by
  refine ⟨r.bel.setCell (p := ⟨w.heap.size + 1, 2, none⟩) (Nat.le_succ _) _, (heap_setCell_other _ _ _ _ (by show _ ≠ _; simp)).trans r.res, ?_⟩
  have h1 := Lib.heap_setCell_same (i := 2) r.box u
  unfold At3
  rw [h1]
  rfl

theorem last_at (s : ByteArray) (k : Nat) (h : s.size = k + 1) (hk : k < s.size) : s.data.toList.getLast? = some s[k] := by
  rw [List.getLast?_eq_getElem?, ← size_list, h, Nat.add_sub_cancel]
  exact NumP.at_list s k hk
theorem drop_last (s : ByteArray) (k : Nat) (h : s.size = k + 1) : s.data.toList.dropLast = (s.extract 0 k).data.toList := by
  rw [ext_list, List.dropLast_eq_take, ← size_list, h]
  simp
theorem strip_yes {s : ByteArray} {k : Nat} (h : s.size = k + 1) (hk : k < s.size) (hc : s[k] = 45) : stripK s.data.toList = (true, (s.extract 0 k).data.toList) := by
  unfold stripK
  rw [last_at s k h hk, hc, if_pos rfl, drop_last s k h]
theorem strip_no {s : ByteArray} {k : Nat} (h : s.size = k + 1) (hk : k < s.size) (hc : s[k] ≠ 45) : stripK s.data.toList = (false, s.data.toList) := by
  unfold stripK
  rw [last_at s k h hk, if_neg (fun e => hc (Option.some.inj e))]
theorem strip_nil {s : ByteArray} (h : s.size = 0) : stripK s.data.toList = (false, s.data.toList) := by
  have : s.data.toList = [] := List.length_eq_zero_iff.1 (by rw [← size_list]; exact h)
  rw [this]; rfl
theorem read_parts_long {s : List UInt8} (h : (StP.parts 46 (stripK s).2).length ≠ 2) : readK s = none := by
  unfold readK
  split
  · rename_i hp; rw [hp] at h; exact absurd rfl h
  · rfl

set_option maxHeartbeats 8000000 in
theorem rread_any (s : ByteArray) (w : World) (hs : s.size ≤ 300) : Calls Tryd.prog 8 #[.string s] w fun e w' => e = .returned (.tuple #[kyV (gotK (readK s.data.toList)), .int .i64 (errK (readK s.data.toList))]) ∧ Below w.heap.size w w' := by
  obtain ⟨R, hR⟩ : ∃ R, readK s.data.toList = R := ⟨_, rfl⟩
  rw [hR]
  have HR := Lib.hid hR
  clear hR
  by_cases h0 : s.size = 0
  · have hi : ¬ (0 : Int) < (s.size : Int) := by omega
    have HST := Lib.hid (strip_nil h0)
    have CS := Lib.hid (fun W => rsplit_any s 46 46 rfl W hs)
    have HTZ := Lib.hid hs
    have HS := Lib.hid (rk_new w (.int .i64 0) (.int .i64 0) (.bool false))
    have HSZ : Hid (w.heap.size + 2 ≤ ((w.alloc (.cells #[.int .i64 0, .int .i64 0, .bool false] 23)).alloc (.cells #[.int .i64 0, .int .i64 0, .bool false] 23)).heap.size) := by show _ ≤ _; simp
    clear h0 hs
    go_enter Tryd.func8, Tryd.ntmps8
    go_wp2_with fail
    refine (CS.out _).mono ?_
    rintro e w2 ⟨hb, L, g, cp, hP, rfl, hPA, hg⟩
    have hgW : w.heap.size + 2 ≤ g := by have := HS.out.bel.size; have h9 := Nat.le_trans HSZ.out hg; exact h9
    have HS2 := Lib.hid (HS.out.keep hb)
    clear CS hb hg
    obtain ⟨n, hn⟩ : ∃ n, L.length = n := ⟨_, rfl⟩
    rw [hn]
    by_cases h6 : n = 2
    rotate_left
    · have HN : Hid (R = none) := by show _ = _; rw [← HR.out]; exact read_parts_long (by rw [HST.out, ← hP, List.length_map, hn]; exact h6)
      have hq : ((n : Int) != 2) = true := by simp; omega
      clear hP hPA hgW
      obtain ⟨z0, z1, z2⟩ := cells3 HS2.out.res
      obtain ⟨f0, f1, f2⟩ := free3 HS2.out.res
      have HQ := Lib.hid (heap_put3 HS2.out.res (.int .i64 0) (.int .i64 0) (.bool false))
      have HBQ := Lib.hid (below_put3 HS2.out.bel (Nat.le_refl _) (.int .i64 0) (.int .i64 0) (.bool false))
      go_wp2_with fail
      exact bodyPost_ret (results_k2 (j := 2) (k := 3) rfl _ _ w.heap.size _ _ _ rfl HQ.out) rfl ⟨read_no HN.out, HBQ.out⟩
    subst h6
    obtain ⟨p0, p1, rfl⟩ : ∃ p0 p1, L = [p0, p1] := by
      match L, hn with
      | [p0, p1], _ => exact ⟨p0, p1, rfl⟩
    clear hn
    obtain ⟨m0, e0, hn0⟩ : ∃ m e, NumP.numP p0.data.toList = (m, e) := ⟨_, _, rfl⟩
    obtain ⟨m1, e1, hn1⟩ : ∃ m e, NumP.numP p1.data.toList = (m, e) := ⟨_, _, rfl⟩
    have hz : ∀ p ∈ StP.parts 46 s.data.toList, p.length ≤ s.data.toList.length := StP.partsF_small 46 _ _
    have hz0 := hz p0.data.toList (by rw [← hP]; simp)
    have hz1 := hz p1.data.toList (by rw [← hP]; simp)
    rw [← size_list, ← size_list] at hz0 hz1
    have htz := HTZ.out
    have CN0 := Lib.hid (fun W => rnumber_is p0 m0 e0 W (by omega) hn0)
    have CN1 := Lib.hid (fun W => rnumber_is p1 m1 e1 W (by omega) hn1)
    have HD : Hid (R = if textK ⟨m0, m1, false⟩ = s.data.toList then some ⟨m0, m1, false⟩ else none) := by
      show _ = _
      rw [← HR.out]
      unfold readK
      rw [HST.out]
      simp only
      rw [← hP]
      simp only [List.map_cons, List.map_nil, hn0, hn1]
    clear hz hz0 hz1 htz hn0 hn1 hP
    have HA := Lib.hid (HS2.out.set0 (.int .i64 m0))
    have HB := Lib.hid (HA.out.set1 (.int .i64 m1))
    obtain ⟨z0, z1, z2⟩ := cells3 HS2.out.box
    obtain ⟨f0, f1, f2⟩ := free3 HS2.out.box
    have t0 := hPA.2 0 p0 rfl
    have t1 := hPA.2 1 p1 rfl
    clear hPA hgW
    go_wp2_with fail
    refine (CN0.out _).mono ?_
    rintro e w3 ⟨rfl, rfl⟩
    go_wp2_with fail
    refine (CN1.out _).mono ?_
    rintro e w3 ⟨rfl, rfl⟩
    clear t0 t1 CN0 CN1
    obtain ⟨d0, d1, d2⟩ := cells3 HB.out.box
    obtain ⟨wq, hwq⟩ : ∃ wq, ((w2.setCell ⟨w.heap.size + 1, 0, none⟩ (.int .i64 m0)).setCell ⟨w.heap.size + 1, 1, none⟩ (.int .i64 m1)) = wq := ⟨_, rfl⟩
    have HWQ := Lib.hid hwq
    have HT : Hid (RK w wq (.int .i64 m0) (.int .i64 m1) (.bool false)) := by show RK _ _ _ _ _; rw [← hwq]; exact HB.out
    clear hwq HA HB
    obtain ⟨X, hX⟩ : ∃ X, bs (textK ⟨m0, m1, false⟩) = X := ⟨_, rfl⟩
    have CT := Lib.hid (rtext_is m0 m1 false X hX wq)
    by_cases ht : textK ⟨m0, m1, false⟩ = s.data.toList
    · have HN : Hid (R = some ⟨m0, m1, false⟩) := by show _ = _; rw [HD.out, if_pos ht]
      have hXs : X = s := by rw [← hX, ht]; exact bs_data s
      have hq : (s.toList == s.toList) = true := by simp
      rw [hXs] at CT
      clear ht hX hXs
      go_wp2_with fail
      rw [show ((w2.setCell ⟨w.heap.size + 1, 0, none⟩ (.int .i64 m0)).setCell ⟨w.heap.size + 1, 1, none⟩ (.int .i64 m1)) = wq from HWQ.out]
      refine CT.out.mono ?_
      rintro e w9 ⟨rfl, hb⟩
      have HS9 := Lib.hid (HT.out.keep hb)
      clear hb CT d0 d1 d2 z0 z1 z2 f0 f1 f2
      obtain ⟨d0, d1, d2⟩ := cells3 HS9.out.box
      obtain ⟨z0, z1, z2⟩ := cells3 HS9.out.res
      obtain ⟨f0, f1, f2⟩ := free3 HS9.out.res
      have HQ := Lib.hid (heap_put3 HS9.out.res (.int .i64 m0) (.int .i64 m1) (.bool false))
      have HBQ := Lib.hid (below_put3 HS9.out.bel (Nat.le_refl _) (.int .i64 m0) (.int .i64 m1) (.bool false))
      go_wp2_with fail
      exact bodyPost_ret (results_k2 (j := 2) (k := 3) rfl _ _ w.heap.size _ _ _ rfl HQ.out) rfl ⟨read_yes HN.out, HBQ.out⟩
    · have HN : Hid (R = none) := by show _ = _; rw [HD.out, if_neg ht]
      have hXs : ¬ X = s := fun e => ht (by rw [← e, ← hX, data_bs])
      have hq : (X.toList == s.toList) = false := by rw [beq_eq_false_iff_ne, ByteArray.toList_eq, ByteArray.toList_eq]; exact fun e => ht (by rw [← e, ← hX, data_bs])
      clear ht hX hXs
      go_wp2_with fail
      rw [show ((w2.setCell ⟨w.heap.size + 1, 0, none⟩ (.int .i64 m0)).setCell ⟨w.heap.size + 1, 1, none⟩ (.int .i64 m1)) = wq from HWQ.out]
      refine CT.out.mono ?_
      rintro e w9 ⟨rfl, hb⟩
      have HS9 := Lib.hid (HT.out.keep hb)
      clear hb CT d0 d1 d2 z0 z1 z2 f0 f1 f2
      obtain ⟨z0, z1, z2⟩ := cells3 HS9.out.res
      obtain ⟨f0, f1, f2⟩ := free3 HS9.out.res
      have HQ := Lib.hid (heap_put3 HS9.out.res (.int .i64 0) (.int .i64 0) (.bool false))
      have HBQ := Lib.hid (below_put3 HS9.out.bel (Nat.le_refl _) (.int .i64 0) (.int .i64 0) (.bool false))
      go_wp2_with fail
      exact bodyPost_ret (results_k2 (j := 2) (k := 3) rfl _ _ w.heap.size _ _ _ rfl HQ.out) rfl ⟨read_no HN.out, HBQ.out⟩
  obtain ⟨k, hk⟩ : ∃ k, s.size = k + 1 := ⟨s.size - 1, by omega⟩
  have hi : (0 : Int) < (s.size : Int) := by omega
  have hlk : k < s.size := by omega
  have e1 : (s.size : Int) - 1 = (k : Int) := by omega
  obtain ⟨c, hc⟩ : ∃ c : UInt8, s[k] = c := ⟨_, rfl⟩
  by_cases h45 : c = 45
  · have HST : Hid (stripK s.data.toList = (true, (s.extract 0 k).data.toList)) := strip_yes hk hlk (hc.trans h45)
    have hq : ((c.toNat : Int) == 45) = true := by rw [h45]; rfl
    have ht3 : (s.extract 0 k).size ≤ 300 := by rw [ByteArray.size_extract]; omega
    obtain ⟨t, ht⟩ : ∃ t, s.extract 0 k = t := ⟨_, rfl⟩
    rw [ht] at HST ht3
    have CS := Lib.hid (fun W => rsplit_any t 46 46 rfl W ht3)
    have HTZ := Lib.hid ht3
    have HS := Lib.hid (rk_new w (.int .i64 0) (.int .i64 0) (.bool true))
    have HSZ : Hid (w.heap.size + 2 ≤ ((w.alloc (.cells #[.int .i64 0, .int .i64 0, .bool false] 23)).alloc (.cells #[.int .i64 0, .int .i64 0, .bool true] 23)).heap.size) := by show _ ≤ _; simp
    clear h45 h0 hk ht3
    go_enter Tryd.func8, Tryd.ntmps8
    go_wp2_with fail
    refine (CS.out _).mono ?_
    rintro e w2 ⟨hb, L, g, cp, hP, rfl, hPA, hg⟩
    have hgW : w.heap.size + 2 ≤ g := by have := HS.out.bel.size; have h9 := Nat.le_trans HSZ.out hg; exact h9
    have HS2 := Lib.hid (HS.out.keep hb)
    clear CS hb hg
    obtain ⟨n, hn⟩ : ∃ n, L.length = n := ⟨_, rfl⟩
    rw [hn]
    by_cases h6 : n = 2
    rotate_left
    · have HN : Hid (R = none) := by show _ = _; rw [← HR.out]; exact read_parts_long (by rw [HST.out, ← hP, List.length_map, hn]; exact h6)
      have hq : ((n : Int) != 2) = true := by simp; omega
      clear hP hPA hgW
      obtain ⟨z0, z1, z2⟩ := cells3 HS2.out.res
      obtain ⟨f0, f1, f2⟩ := free3 HS2.out.res
      have HQ := Lib.hid (heap_put3 HS2.out.res (.int .i64 0) (.int .i64 0) (.bool false))
      have HBQ := Lib.hid (below_put3 HS2.out.bel (Nat.le_refl _) (.int .i64 0) (.int .i64 0) (.bool false))
      go_wp2_with fail
      exact bodyPost_ret (results_k2 (j := 2) (k := 3) rfl _ _ w.heap.size _ _ _ rfl HQ.out) rfl ⟨read_no HN.out, HBQ.out⟩
    subst h6
    obtain ⟨p0, p1, rfl⟩ : ∃ p0 p1, L = [p0, p1] := by
      match L, hn with
      | [p0, p1], _ => exact ⟨p0, p1, rfl⟩
    clear hn
    obtain ⟨m0, e0, hn0⟩ : ∃ m e, NumP.numP p0.data.toList = (m, e) := ⟨_, _, rfl⟩
    obtain ⟨m1, e1, hn1⟩ : ∃ m e, NumP.numP p1.data.toList = (m, e) := ⟨_, _, rfl⟩
    have hz : ∀ p ∈ StP.parts 46 t.data.toList, p.length ≤ t.data.toList.length := StP.partsF_small 46 _ _
    have hz0 := hz p0.data.toList (by rw [← hP]; simp)
    have hz1 := hz p1.data.toList (by rw [← hP]; simp)
    rw [← size_list, ← size_list] at hz0 hz1
    have htz := HTZ.out
    have CN0 := Lib.hid (fun W => rnumber_is p0 m0 e0 W (by omega) hn0)
    have CN1 := Lib.hid (fun W => rnumber_is p1 m1 e1 W (by omega) hn1)
    have HD : Hid (R = if textK ⟨m0, m1, true⟩ = s.data.toList then some ⟨m0, m1, true⟩ else none) := by
      show _ = _
      rw [← HR.out]
      unfold readK
      rw [HST.out]
      simp only
      rw [← hP]
      simp only [List.map_cons, List.map_nil, hn0, hn1]
    clear hz hz0 hz1 htz hn0 hn1 hP
    have HA := Lib.hid (HS2.out.set0 (.int .i64 m0))
    have HB := Lib.hid (HA.out.set1 (.int .i64 m1))
    obtain ⟨z0, z1, z2⟩ := cells3 HS2.out.box
    obtain ⟨f0, f1, f2⟩ := free3 HS2.out.box
    have t0 := hPA.2 0 p0 rfl
    have t1 := hPA.2 1 p1 rfl
    clear hPA hgW
    go_wp2_with fail
    refine (CN0.out _).mono ?_
    rintro e w3 ⟨rfl, rfl⟩
    go_wp2_with fail
    refine (CN1.out _).mono ?_
    rintro e w3 ⟨rfl, rfl⟩
    clear t0 t1 CN0 CN1
    obtain ⟨d0, d1, d2⟩ := cells3 HB.out.box
    obtain ⟨wq, hwq⟩ : ∃ wq, ((w2.setCell ⟨w.heap.size + 1, 0, none⟩ (.int .i64 m0)).setCell ⟨w.heap.size + 1, 1, none⟩ (.int .i64 m1)) = wq := ⟨_, rfl⟩
    have HWQ := Lib.hid hwq
    have HT : Hid (RK w wq (.int .i64 m0) (.int .i64 m1) (.bool true)) := by show RK _ _ _ _ _; rw [← hwq]; exact HB.out
    clear hwq HA HB
    obtain ⟨X, hX⟩ : ∃ X, bs (textK ⟨m0, m1, true⟩) = X := ⟨_, rfl⟩
    have CT := Lib.hid (rtext_is m0 m1 true X hX wq)
    by_cases ht : textK ⟨m0, m1, true⟩ = s.data.toList
    · have HN : Hid (R = some ⟨m0, m1, true⟩) := by show _ = _; rw [HD.out, if_pos ht]
      have hXs : X = s := by rw [← hX, ht]; exact bs_data s
      have hq : (s.toList == s.toList) = true := by simp
      rw [hXs] at CT
      clear ht hX hXs
      go_wp2_with fail
      rw [show ((w2.setCell ⟨w.heap.size + 1, 0, none⟩ (.int .i64 m0)).setCell ⟨w.heap.size + 1, 1, none⟩ (.int .i64 m1)) = wq from HWQ.out]
      refine CT.out.mono ?_
      rintro e w9 ⟨rfl, hb⟩
      have HS9 := Lib.hid (HT.out.keep hb)
      clear hb CT d0 d1 d2 z0 z1 z2 f0 f1 f2
      obtain ⟨d0, d1, d2⟩ := cells3 HS9.out.box
      obtain ⟨z0, z1, z2⟩ := cells3 HS9.out.res
      obtain ⟨f0, f1, f2⟩ := free3 HS9.out.res
      have HQ := Lib.hid (heap_put3 HS9.out.res (.int .i64 m0) (.int .i64 m1) (.bool true))
      have HBQ := Lib.hid (below_put3 HS9.out.bel (Nat.le_refl _) (.int .i64 m0) (.int .i64 m1) (.bool true))
      go_wp2_with fail
      exact bodyPost_ret (results_k2 (j := 2) (k := 3) rfl _ _ w.heap.size _ _ _ rfl HQ.out) rfl ⟨read_yes HN.out, HBQ.out⟩
    · have HN : Hid (R = none) := by show _ = _; rw [HD.out, if_neg ht]
      have hXs : ¬ X = s := fun e => ht (by rw [← e, ← hX, data_bs])
      have hq : (X.toList == s.toList) = false := by rw [beq_eq_false_iff_ne, ByteArray.toList_eq, ByteArray.toList_eq]; exact fun e => ht (by rw [← e, ← hX, data_bs])
      clear ht hX hXs
      go_wp2_with fail
      rw [show ((w2.setCell ⟨w.heap.size + 1, 0, none⟩ (.int .i64 m0)).setCell ⟨w.heap.size + 1, 1, none⟩ (.int .i64 m1)) = wq from HWQ.out]
      refine CT.out.mono ?_
      rintro e w9 ⟨rfl, hb⟩
      have HS9 := Lib.hid (HT.out.keep hb)
      clear hb CT d0 d1 d2 z0 z1 z2 f0 f1 f2
      obtain ⟨z0, z1, z2⟩ := cells3 HS9.out.res
      obtain ⟨f0, f1, f2⟩ := free3 HS9.out.res
      have HQ := Lib.hid (heap_put3 HS9.out.res (.int .i64 0) (.int .i64 0) (.bool false))
      have HBQ := Lib.hid (below_put3 HS9.out.bel (Nat.le_refl _) (.int .i64 0) (.int .i64 0) (.bool false))
      go_wp2_with fail
      exact bodyPost_ret (results_k2 (j := 2) (k := 3) rfl _ _ w.heap.size _ _ _ rfl HQ.out) rfl ⟨read_no HN.out, HBQ.out⟩
  · have HST : Hid (stripK s.data.toList = (false, s.data.toList)) := strip_no hk hlk (by rw [hc]; exact h45)
    have hq : ((c.toNat : Int) == 45) = false := by
      rw [beq_eq_false_iff_ne]
      intro e
      exact h45 (UInt8.toNat_inj.1 (by show c.toNat = 45; omega))
    have CS := Lib.hid (fun W => rsplit_any s 46 46 rfl W hs)
    have HTZ := Lib.hid hs
    have HS := Lib.hid (rk_new w (.int .i64 0) (.int .i64 0) (.bool false))
    have HSZ : Hid (w.heap.size + 2 ≤ ((w.alloc (.cells #[.int .i64 0, .int .i64 0, .bool false] 23)).alloc (.cells #[.int .i64 0, .int .i64 0, .bool false] 23)).heap.size) := by show _ ≤ _; simp
    clear h45 h0 hk
    go_enter Tryd.func8, Tryd.ntmps8
    go_wp2_with fail
    refine (CS.out _).mono ?_
    rintro e w2 ⟨hb, L, g, cp, hP, rfl, hPA, hg⟩
    have hgW : w.heap.size + 2 ≤ g := by have := HS.out.bel.size; have h9 := Nat.le_trans HSZ.out hg; exact h9
    have HS2 := Lib.hid (HS.out.keep hb)
    clear CS hb hg
    obtain ⟨n, hn⟩ : ∃ n, L.length = n := ⟨_, rfl⟩
    rw [hn]
    by_cases h6 : n = 2
    rotate_left
    · have HN : Hid (R = none) := by show _ = _; rw [← HR.out]; exact read_parts_long (by rw [HST.out, ← hP, List.length_map, hn]; exact h6)
      have hq : ((n : Int) != 2) = true := by simp; omega
      clear hP hPA hgW
      obtain ⟨z0, z1, z2⟩ := cells3 HS2.out.res
      obtain ⟨f0, f1, f2⟩ := free3 HS2.out.res
      have HQ := Lib.hid (heap_put3 HS2.out.res (.int .i64 0) (.int .i64 0) (.bool false))
      have HBQ := Lib.hid (below_put3 HS2.out.bel (Nat.le_refl _) (.int .i64 0) (.int .i64 0) (.bool false))
      go_wp2_with fail
      exact bodyPost_ret (results_k2 (j := 2) (k := 3) rfl _ _ w.heap.size _ _ _ rfl HQ.out) rfl ⟨read_no HN.out, HBQ.out⟩
    subst h6
    obtain ⟨p0, p1, rfl⟩ : ∃ p0 p1, L = [p0, p1] := by
      match L, hn with
      | [p0, p1], _ => exact ⟨p0, p1, rfl⟩
    clear hn
    obtain ⟨m0, e0, hn0⟩ : ∃ m e, NumP.numP p0.data.toList = (m, e) := ⟨_, _, rfl⟩
    obtain ⟨m1, e1, hn1⟩ : ∃ m e, NumP.numP p1.data.toList = (m, e) := ⟨_, _, rfl⟩
    have hz : ∀ p ∈ StP.parts 46 s.data.toList, p.length ≤ s.data.toList.length := StP.partsF_small 46 _ _
    have hz0 := hz p0.data.toList (by rw [← hP]; simp)
    have hz1 := hz p1.data.toList (by rw [← hP]; simp)
    rw [← size_list, ← size_list] at hz0 hz1
    have htz := HTZ.out
    have CN0 := Lib.hid (fun W => rnumber_is p0 m0 e0 W (by omega) hn0)
    have CN1 := Lib.hid (fun W => rnumber_is p1 m1 e1 W (by omega) hn1)
    have HD : Hid (R = if textK ⟨m0, m1, false⟩ = s.data.toList then some ⟨m0, m1, false⟩ else none) := by
      show _ = _
      rw [← HR.out]
      unfold readK
      rw [HST.out]
      simp only
      rw [← hP]
      simp only [List.map_cons, List.map_nil, hn0, hn1]
    clear hz hz0 hz1 htz hn0 hn1 hP
    have HA := Lib.hid (HS2.out.set0 (.int .i64 m0))
    have HB := Lib.hid (HA.out.set1 (.int .i64 m1))
    obtain ⟨z0, z1, z2⟩ := cells3 HS2.out.box
    obtain ⟨f0, f1, f2⟩ := free3 HS2.out.box
    have t0 := hPA.2 0 p0 rfl
    have t1 := hPA.2 1 p1 rfl
    clear hPA hgW
    go_wp2_with fail
    refine (CN0.out _).mono ?_
    rintro e w3 ⟨rfl, rfl⟩
    go_wp2_with fail
    refine (CN1.out _).mono ?_
    rintro e w3 ⟨rfl, rfl⟩
    clear t0 t1 CN0 CN1
    obtain ⟨d0, d1, d2⟩ := cells3 HB.out.box
    obtain ⟨wq, hwq⟩ : ∃ wq, ((w2.setCell ⟨w.heap.size + 1, 0, none⟩ (.int .i64 m0)).setCell ⟨w.heap.size + 1, 1, none⟩ (.int .i64 m1)) = wq := ⟨_, rfl⟩
    have HWQ := Lib.hid hwq
    have HT : Hid (RK w wq (.int .i64 m0) (.int .i64 m1) (.bool false)) := by show RK _ _ _ _ _; rw [← hwq]; exact HB.out
    clear hwq HA HB
    obtain ⟨X, hX⟩ : ∃ X, bs (textK ⟨m0, m1, false⟩) = X := ⟨_, rfl⟩
    have CT := Lib.hid (rtext_is m0 m1 false X hX wq)
    by_cases ht : textK ⟨m0, m1, false⟩ = s.data.toList
    · have HN : Hid (R = some ⟨m0, m1, false⟩) := by show _ = _; rw [HD.out, if_pos ht]
      have hXs : X = s := by rw [← hX, ht]; exact bs_data s
      have hq : (s.toList == s.toList) = true := by simp
      rw [hXs] at CT
      clear ht hX hXs
      go_wp2_with fail
      rw [show ((w2.setCell ⟨w.heap.size + 1, 0, none⟩ (.int .i64 m0)).setCell ⟨w.heap.size + 1, 1, none⟩ (.int .i64 m1)) = wq from HWQ.out]
      refine CT.out.mono ?_
      rintro e w9 ⟨rfl, hb⟩
      have HS9 := Lib.hid (HT.out.keep hb)
      clear hb CT d0 d1 d2 z0 z1 z2 f0 f1 f2
      obtain ⟨d0, d1, d2⟩ := cells3 HS9.out.box
      obtain ⟨z0, z1, z2⟩ := cells3 HS9.out.res
      obtain ⟨f0, f1, f2⟩ := free3 HS9.out.res
      have HQ := Lib.hid (heap_put3 HS9.out.res (.int .i64 m0) (.int .i64 m1) (.bool false))
      have HBQ := Lib.hid (below_put3 HS9.out.bel (Nat.le_refl _) (.int .i64 m0) (.int .i64 m1) (.bool false))
      go_wp2_with fail
      exact bodyPost_ret (results_k2 (j := 2) (k := 3) rfl _ _ w.heap.size _ _ _ rfl HQ.out) rfl ⟨read_yes HN.out, HBQ.out⟩
    · have HN : Hid (R = none) := by show _ = _; rw [HD.out, if_neg ht]
      have hXs : ¬ X = s := fun e => ht (by rw [← e, ← hX, data_bs])
      have hq : (X.toList == s.toList) = false := by rw [beq_eq_false_iff_ne, ByteArray.toList_eq, ByteArray.toList_eq]; exact fun e => ht (by rw [← e, ← hX, data_bs])
      clear ht hX hXs
      go_wp2_with fail
      rw [show ((w2.setCell ⟨w.heap.size + 1, 0, none⟩ (.int .i64 m0)).setCell ⟨w.heap.size + 1, 1, none⟩ (.int .i64 m1)) = wq from HWQ.out]
      refine CT.out.mono ?_
      rintro e w9 ⟨rfl, hb⟩
      have HS9 := Lib.hid (HT.out.keep hb)
      clear hb CT d0 d1 d2 z0 z1 z2 f0 f1 f2
      obtain ⟨z0, z1, z2⟩ := cells3 HS9.out.res
      obtain ⟨f0, f1, f2⟩ := free3 HS9.out.res
      have HQ := Lib.hid (heap_put3 HS9.out.res (.int .i64 0) (.int .i64 0) (.bool false))
      have HBQ := Lib.hid (below_put3 HS9.out.bel (Nat.le_refl _) (.int .i64 0) (.int .i64 0) (.bool false))
      go_wp2_with fail
      exact bodyPost_ret (results_k2 (j := 2) (k := 3) rfl _ _ w.heap.size _ _ _ rfl HQ.out) rfl ⟨read_no HN.out, HBQ.out⟩
theorem rread_is (s : ByteArray) (x0 x1 : Int) (x2 : Bool) (er : Int) (hx : gotK (readK s.data.toList) = ⟨x0, x1, x2⟩) (he : errK (readK s.data.toList) = er) (hs : s.size ≤ 300) (w : World) :
    Calls Tryd.prog 8 #[.string s] w fun e w' => e = .returned (.tuple #[kv x0 x1 x2, .int .i64 er]) ∧ Below w.heap.size w w' := by
  have h := rread_any s w hs
  rw [hx, he] at h
  exact h
end Go.Proofs.YtcdinaoenhonbaaDoor.Key
