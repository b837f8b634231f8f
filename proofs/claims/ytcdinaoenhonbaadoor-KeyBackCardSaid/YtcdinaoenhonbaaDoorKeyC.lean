/-
  The contract of the program's Read: any text of up to 300 octets, where the library's variable stands; what was there stays as it was.
-/
import Derived.Test.YtcdinaoenhonbaaDoorKeyB
import Derived.Test.YtcdinaoenhonbaaDoorNumE
import Derived.Test.YtcdinaoenhonbaaDoorShelf
set_option linter.unusedVariables false
set_option linter.unusedSimpArgs false
set_option maxRecDepth 4000
namespace Go.Proofs.YtcdinaoenhonbaaDoor.Key
open Go.RowKit KeyP
open Go.Proofs.YtcdinaoenhonbaaDoor.Kt

def Vars (w : World) : Prop := ∃ m, w.cell? ⟨0, 0, none⟩ = some (.int .i64 m)
theorem Vars.keep {w w' : World} (h : Vars w) (hb : Below w.heap.size w w') : Vars w' := by
  obtain ⟨m, hm⟩ := h
  refine ⟨m, ?_⟩
  exact (hb.cell (World.block_lt_of_cell? _ _ hm)).trans hm
theorem suf_call (s t : ByteArray) (b : Bool) (h : stripK s.data.toList = (b, t.data.toList)) (hs : s.size ≤ 300) (w : World) :
    Calls Tryd.prog 18 #[.string s, .string ⟨#[45]⟩] w fun e w' => e = .returned (.tuple #[.string t, .bool b]) ∧ w = w' := by
  refine (Tryd.strings_CutSuffix s ⟨#[45]⟩ w (by omega)).mono ?_
  rintro e w' ⟨rfl, rfl⟩
  rw [strip_lib] at h
  obtain ⟨h1, h2⟩ := Prod.mk.inj h
  rw [show (⟨#[45]⟩ : ByteArray).data.toList = [45] from rfl, h1, h2, Lib.mk_data]
  exact ⟨rfl, rfl⟩
theorem cut_call (t a b : ByteArray) (h : cutK t.data.toList = (a.data.toList, b.data.toList)) (hs : t.size ≤ 300) (w : World) (hv : Vars w) :
    Calls Tryd.prog 19 #[.string t, .string ⟨#[46]⟩] w fun e w' => ∃ f, e = .returned (.tuple #[.string a, .string b, .bool f]) ∧ Below w.heap.size w w' := by
  obtain ⟨m, hm⟩ := hv
  refine (Tryd.strings_Cut t ⟨#[46]⟩ m w (by omega) hm).mono ?_
  rintro e w' ⟨rfl, n, rfl⟩
  obtain ⟨h1, h2⟩ := cutK_lib t.data.toList
  rw [show (⟨#[46]⟩ : ByteArray).data.toList = [46] from rfl, h1, h2, h, Lib.mk_data, Lib.mk_data]
  exact ⟨_, rfl, below_drewN (Below.refl _ _) n⟩
theorem read_no {R : Option Ky} (h : R = none) : Ending.returned (.tuple #[.agg #[.int .i64 0, .int .i64 0, .bool false], .int .i64 7]) = .returned (.tuple #[kyV (gotK R), .int .i64 (errK R)]) := by subst h; rfl
theorem read_yes {R : Option Ky} {x0 x1 : Int} {x2 : Bool} (h : R = some ⟨x0, x1, x2⟩) : Ending.returned (.tuple #[.agg #[.int .i64 x0, .int .i64 x1, .bool x2], .int .i64 0]) = .returned (.tuple #[kyV (gotK R), .int .i64 (errK R)]) := by subst h; rfl

set_option maxHeartbeats 4000000 in
theorem read_any (s : ByteArray) (w : World) (hs : s.size ≤ 300) (hv : Vars w) : Calls Tryd.prog 7 #[.string s] w fun e w' => e = .returned (.tuple #[kyV (gotK (readK s.data.toList)), .int .i64 (errK (readK s.data.toList))]) ∧ Below w.heap.size w w' := by
  obtain ⟨R, hR⟩ : ∃ R, readK s.data.toList = R := ⟨_, rfl⟩
  rw [hR]
  obtain ⟨t, ht⟩ : ∃ t : ByteArray, t.data.toList = (stripK s.data.toList).2 := ⟨bs _, data_bs _⟩
  obtain ⟨b, hb⟩ : ∃ b, (stripK s.data.toList).1 = b := ⟨_, rfl⟩
  obtain ⟨a, ha⟩ : ∃ a : ByteArray, a.data.toList = (cutK t.data.toList).1 := ⟨bs _, data_bs _⟩
  obtain ⟨c, hc⟩ : ∃ c : ByteArray, c.data.toList = (cutK t.data.toList).2 := ⟨bs _, data_bs _⟩
  obtain ⟨n, e1, hn⟩ : ∃ n e, NumP.numP a.data.toList = (n, e) := ⟨_, _, rfl⟩
  obtain ⟨m, e2, hm⟩ : ∃ n e, NumP.numP c.data.toList = (n, e) := ⟨_, _, rfl⟩
  have hz := strip_len s.data.toList
  rw [← ht, ← size_list, ← size_list] at hz
  have hza := cutK_len t.data.toList
  rw [← ha, ← hc, ← size_list, ← size_list, ← size_list] at hza
  have hq : keyQ s.data.toList = ⟨n, m, b⟩ := by unfold keyQ; rw [← ht, ← ha, ← hc, hn, hm, hb]
  have hbad : badQ s.data.toList = (!(e1 == 0) || (!(e2 == 0) || !fitK ⟨n, m, b⟩)) := by unfold badQ; rw [hq, ← ht, ← ha, ← hc, hn, hm]
  have CS := Lib.hid (suf_call s t b (by rw [← hb, ht]) hs)
  have HCUT : Hid (cutK t.data.toList = (a.data.toList, c.data.toList)) := by show _ = _; rw [ha, hc]
  have HTZ : Hid (t.size ≤ 300) := by show _ ≤ _; omega
  have CN0 := Lib.hid (fun W => Num.number_is a n e1 W (by omega) hn)
  have CN1 := Lib.hid (fun W => Num.number_is c m e2 W (by omega) hm)
  have HX := Lib.hid (fun W (hb : Below w.heap.size w W) => hv.keep hb)
  have HB0 := Lib.hid (bx3_new 25 w (.int .i64 0) (.int .i64 0) (.bool false))
  clear ht hb ha hc hn hm hz hza hv
  by_cases g1 : e1 = 0
  rotate_left
  · have HN : Hid (R = none) := by show _ = _; rw [← hR]; exact bad_none (by rw [hbad]; simp [g1])
    have g2 : (e1 != 0) = true := by simpa using g1
    clear g1 hbad hq hR
    go_enter Tryd.func7, Tryd.ntmps7
    go_wp2_with fail
    refine (CS.out _).mono ?_
    rintro e w1 ⟨rfl, rfl⟩
    have CC := Lib.hid (cut_call t a c HCUT.out HTZ.out _ (HX.out _ HB0.out.bel))
    go_wp2_with fail
    refine CC.out.mono ?_
    rintro e w1 ⟨f, rfl, hb⟩
    have HB1 := Lib.hid (HB0.out.keep hb)
    clear hb CS CC
    go_wp2_with fail
    refine (CN0.out w1).mono ?_
    rintro e w2 ⟨rfl, hb⟩
    have HB2 := Lib.hid (HB1.out.keep hb)
    clear hb HB1
    go_wp2_with fail
    refine (CN1.out w2).mono ?_
    rintro e w3 ⟨rfl, hb⟩
    have HB3 := Lib.hid ((HB2.out.keep hb).alloc (.cells #[.int .i64 n, .int .i64 m, .bool b] 25))
    have HY3 := Lib.hid (at3_new 25 w3 (.int .i64 n) (.int .i64 m) (.bool b))
    have HP3 : Hid (w3.heap.size = w3.heap.size) := rfl
    obtain ⟨k, hk⟩ : ∃ k, w3.heap.size = k := ⟨_, rfl⟩
    obtain ⟨w4, hw4⟩ : ∃ w4, w3.alloc (.cells #[.int .i64 n, .int .i64 m, .bool b] 25) = w4 := ⟨_, rfl⟩
    have HK := Lib.hid hk
    have HW4 := Lib.hid hw4
    rw [hw4] at HB3 HY3
    rw [hk] at HY3
    clear hb HB2 hk hw4 HP3
    have HZ3 := Lib.hid HB3.out
    rw [← show w3.alloc (.cells #[.int .i64 n, .int .i64 m, .bool b] 25) = w4 from HW4.out] at HZ3
    obtain ⟨z0, z1, z2⟩ := cells3 HZ3.out.box
    obtain ⟨f0, f1, f2⟩ := free3 HZ3.out.box
    have HQ := Lib.hid (heap_put3 HZ3.out.box (.int .i64 0) (.int .i64 0) (.bool false))
    have HBQ := Lib.hid (below_put3 HZ3.out.bel (Nat.le_refl _) (.int .i64 0) (.int .i64 0) (.bool false))
    go_wp2_with fail
    exact bodyPost_ret (results_k1 (j := 2) (k := 3) rfl _ _ w.heap.size _ _ _ rfl HQ.out) rfl ⟨read_no HN.out, HBQ.out⟩
  subst g1
  by_cases g1 : e2 = 0
  rotate_left
  · have HN : Hid (R = none) := by show _ = _; rw [← hR]; exact bad_none (by rw [hbad]; simp [g1])
    have g2 : (e2 != 0) = true := by simpa using g1
    clear g1 hbad hq hR
    go_enter Tryd.func7, Tryd.ntmps7
    go_wp2_with fail
    refine (CS.out _).mono ?_
    rintro e w1 ⟨rfl, rfl⟩
    have CC := Lib.hid (cut_call t a c HCUT.out HTZ.out _ (HX.out _ HB0.out.bel))
    go_wp2_with fail
    refine CC.out.mono ?_
    rintro e w1 ⟨f, rfl, hb⟩
    have HB1 := Lib.hid (HB0.out.keep hb)
    clear hb CS CC
    go_wp2_with fail
    refine (CN0.out w1).mono ?_
    rintro e w2 ⟨rfl, hb⟩
    have HB2 := Lib.hid (HB1.out.keep hb)
    clear hb HB1
    go_wp2_with fail
    refine (CN1.out w2).mono ?_
    rintro e w3 ⟨rfl, hb⟩
    have HB3 := Lib.hid ((HB2.out.keep hb).alloc (.cells #[.int .i64 n, .int .i64 m, .bool b] 25))
    have HY3 := Lib.hid (at3_new 25 w3 (.int .i64 n) (.int .i64 m) (.bool b))
    have HP3 : Hid (w3.heap.size = w3.heap.size) := rfl
    obtain ⟨k, hk⟩ : ∃ k, w3.heap.size = k := ⟨_, rfl⟩
    obtain ⟨w4, hw4⟩ : ∃ w4, w3.alloc (.cells #[.int .i64 n, .int .i64 m, .bool b] 25) = w4 := ⟨_, rfl⟩
    have HK := Lib.hid hk
    have HW4 := Lib.hid hw4
    rw [hw4] at HB3 HY3
    rw [hk] at HY3
    clear hb HB2 hk hw4 HP3
    have HZ3 := Lib.hid HB3.out
    rw [← show w3.alloc (.cells #[.int .i64 n, .int .i64 m, .bool b] 25) = w4 from HW4.out] at HZ3
    obtain ⟨z0, z1, z2⟩ := cells3 HZ3.out.box
    obtain ⟨f0, f1, f2⟩ := free3 HZ3.out.box
    have HQ := Lib.hid (heap_put3 HZ3.out.box (.int .i64 0) (.int .i64 0) (.bool false))
    have HBQ := Lib.hid (below_put3 HZ3.out.bel (Nat.le_refl _) (.int .i64 0) (.int .i64 0) (.bool false))
    go_wp2_with fail
    exact bodyPost_ret (results_k1 (j := 2) (k := 3) rfl _ _ w.heap.size _ _ _ rfl HQ.out) rfl ⟨read_no HN.out, HBQ.out⟩
  subst g1
  cases hf : fitK ⟨n, m, b⟩ with
  | false =>
    have HN : Hid (R = none) := by show _ = _; rw [← hR]; exact bad_none (by rw [hbad, hf]; rfl)
    have HF := Lib.hid hf
    clear hf hbad hq hR
    go_enter Tryd.func7, Tryd.ntmps7
    go_wp2_with fail
    refine (CS.out _).mono ?_
    rintro e w1 ⟨rfl, rfl⟩
    have CC := Lib.hid (cut_call t a c HCUT.out HTZ.out _ (HX.out _ HB0.out.bel))
    go_wp2_with fail
    refine CC.out.mono ?_
    rintro e w1 ⟨f, rfl, hb⟩
    have HB1 := Lib.hid (HB0.out.keep hb)
    clear hb CS CC
    go_wp2_with fail
    refine (CN0.out w1).mono ?_
    rintro e w2 ⟨rfl, hb⟩
    have HB2 := Lib.hid (HB1.out.keep hb)
    clear hb HB1
    go_wp2_with fail
    refine (CN1.out w2).mono ?_
    rintro e w3 ⟨rfl, hb⟩
    have HB3 := Lib.hid ((HB2.out.keep hb).alloc (.cells #[.int .i64 n, .int .i64 m, .bool b] 25))
    have HY3 := Lib.hid (at3_new 25 w3 (.int .i64 n) (.int .i64 m) (.bool b))
    have HP3 : Hid (w3.heap.size = w3.heap.size) := rfl
    obtain ⟨k, hk⟩ : ∃ k, w3.heap.size = k := ⟨_, rfl⟩
    obtain ⟨w4, hw4⟩ : ∃ w4, w3.alloc (.cells #[.int .i64 n, .int .i64 m, .bool b] 25) = w4 := ⟨_, rfl⟩
    have HK := Lib.hid hk
    have HW4 := Lib.hid hw4
    rw [hw4] at HB3 HY3
    rw [hk] at HY3
    clear hb HB2 hk hw4 HP3
    have CF := Lib.hid (fit_is n m b false HF.out w4)
    obtain ⟨q0, q1, q2⟩ := cells3 HY3.out
    rw [← show w3.alloc (.cells #[.int .i64 n, .int .i64 m, .bool b] 25) = w4 from HW4.out, ← show w3.heap.size = k from HK.out] at q0 q1 q2
    go_wp2_with fail
    rw [show w3.alloc (.cells #[.int .i64 n, .int .i64 m, .bool b] 25) = w4 from HW4.out]
    rw [show w3.heap.size = k from HK.out]
    refine CF.out.mono ?_
    rintro e w5 ⟨rfl, hb⟩
    have HB5 := Lib.hid (HB3.out.keep hb)
    have HY5 := Lib.hid (HY3.out.keep hb)
    clear hb q0 q1 q2
    obtain ⟨q0, q1, q2⟩ := cells3 HY5.out
    obtain ⟨z0, z1, z2⟩ := cells3 HB5.out.box
    obtain ⟨f0, f1, f2⟩ := free3 HB5.out.box
    have HQ := Lib.hid (heap_put3 HB5.out.box (.int .i64 0) (.int .i64 0) (.bool false))
    have HBQ := Lib.hid (below_put3 HB5.out.bel (Nat.le_refl _) (.int .i64 0) (.int .i64 0) (.bool false))
    go_wp2_with fail
    exact bodyPost_ret (results_k1 (j := 2) (k := 3) rfl _ _ w.heap.size _ _ _ rfl HQ.out) rfl ⟨read_no HN.out, HBQ.out⟩
  | true =>
    have HN : Hid (R = some ⟨n, m, b⟩) := by show _ = _; rw [← hR, ← hq]; exact bad_some (by rw [hbad, hf]; rfl)
    have HF := Lib.hid hf
    clear hf hbad hq hR
    go_enter Tryd.func7, Tryd.ntmps7
    go_wp2_with fail
    refine (CS.out _).mono ?_
    rintro e w1 ⟨rfl, rfl⟩
    have CC := Lib.hid (cut_call t a c HCUT.out HTZ.out _ (HX.out _ HB0.out.bel))
    go_wp2_with fail
    refine CC.out.mono ?_
    rintro e w1 ⟨f, rfl, hb⟩
    have HB1 := Lib.hid (HB0.out.keep hb)
    clear hb CS CC
    go_wp2_with fail
    refine (CN0.out w1).mono ?_
    rintro e w2 ⟨rfl, hb⟩
    have HB2 := Lib.hid (HB1.out.keep hb)
    clear hb HB1
    go_wp2_with fail
    refine (CN1.out w2).mono ?_
    rintro e w3 ⟨rfl, hb⟩
    have HB3 := Lib.hid ((HB2.out.keep hb).alloc (.cells #[.int .i64 n, .int .i64 m, .bool b] 25))
    have HY3 := Lib.hid (at3_new 25 w3 (.int .i64 n) (.int .i64 m) (.bool b))
    have HP3 : Hid (w3.heap.size = w3.heap.size) := rfl
    obtain ⟨k, hk⟩ : ∃ k, w3.heap.size = k := ⟨_, rfl⟩
    obtain ⟨w4, hw4⟩ : ∃ w4, w3.alloc (.cells #[.int .i64 n, .int .i64 m, .bool b] 25) = w4 := ⟨_, rfl⟩
    have HK := Lib.hid hk
    have HW4 := Lib.hid hw4
    rw [hw4] at HB3 HY3
    rw [hk] at HY3
    clear hb HB2 hk hw4 HP3
    have CF := Lib.hid (fit_is n m b true HF.out w4)
    obtain ⟨q0, q1, q2⟩ := cells3 HY3.out
    rw [← show w3.alloc (.cells #[.int .i64 n, .int .i64 m, .bool b] 25) = w4 from HW4.out, ← show w3.heap.size = k from HK.out] at q0 q1 q2
    go_wp2_with fail
    rw [show w3.alloc (.cells #[.int .i64 n, .int .i64 m, .bool b] 25) = w4 from HW4.out]
    rw [show w3.heap.size = k from HK.out]
    refine CF.out.mono ?_
    rintro e w5 ⟨rfl, hb⟩
    have HB5 := Lib.hid (HB3.out.keep hb)
    have HY5 := Lib.hid (HY3.out.keep hb)
    clear hb q0 q1 q2
    obtain ⟨q0, q1, q2⟩ := cells3 HY5.out
    obtain ⟨z0, z1, z2⟩ := cells3 HB5.out.box
    obtain ⟨f0, f1, f2⟩ := free3 HB5.out.box
    have HQ := Lib.hid (heap_put3 HB5.out.box (.int .i64 n) (.int .i64 m) (.bool b))
    have HBQ := Lib.hid (below_put3 HB5.out.bel (Nat.le_refl _) (.int .i64 n) (.int .i64 m) (.bool b))
    go_wp2_with fail
    exact bodyPost_ret (results_k1 (j := 2) (k := 3) rfl _ _ w.heap.size _ _ _ rfl HQ.out) rfl ⟨read_yes HN.out, HBQ.out⟩
theorem read_is (s : ByteArray) (x0 x1 : Int) (x2 : Bool) (er : Int) (hx : gotK (readK s.data.toList) = ⟨x0, x1, x2⟩) (he : errK (readK s.data.toList) = er) (hs : s.size ≤ 300) (w : World) (hv : Vars w) :
    Calls Tryd.prog 7 #[.string s] w fun e w' => e = .returned (.tuple #[kv x0 x1 x2, .int .i64 er]) ∧ Below w.heap.size w w' := by
  have h := read_any s w hs hv
  rw [hx, he] at h
  exact h
end Go.Proofs.YtcdinaoenhonbaaDoor.Key
