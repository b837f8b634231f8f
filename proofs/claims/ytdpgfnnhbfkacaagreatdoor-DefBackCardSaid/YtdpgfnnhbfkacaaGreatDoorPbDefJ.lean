/-
  The contracts of the program's takeStep, bad and Take: any reader; nothing else is turned.
-/
import Derived.Test.YtdpgfnnhbfkacaaGreatDoorPbDefPlain
import Derived.Test.YtdpgfnnhbfkacaaGreatDoorPbShelf
import Derived.Test.YtdpgfnnhbfkacaaGreatDoorPbStepG
import Derived.Test.YtdpgfnnhbfkacaaGreatDoorPbDefG
import Derived.Test.YtdpgfnnhbfkacaaGreatDoorPbWireK
import Derived.Test.YtdpgfnnhbfkacaaGreatDoorPbMix
import Derived.Shelf.Strings.BuilderK
set_option linter.unusedVariables false
set_option linter.unusedSimpArgs false
set_option maxRecDepth 4000
namespace Go.Proofs.YtdpgfnnhbfkacaaGreatDoor.Def
open Go.RowKit DefP
open WireP (rdInt rdText rdList lenOk enc text ok num nl left done)
open Wire (RdAt RqAt RdStep)
open Go.Proofs.YtdpgfnnhbfkacaaGreatDoor.Kt
theorem owns_grown {w w' : World} {B n size b : Nat} {e : TypeId} {v : Value} {xs : List Value} (h : w.ownsRow B e size v n xs) (hg : w.grownBy w' (some b)) (hb : b < B) : w'.ownsRow B e size v n xs := by
  refine ⟨h.1, ?_⟩
  rcases h.2 with hn | ⟨g, cap, cur, hv, hbg, hgg, rest⟩
  · exact .inl hn
  · exact .inr ⟨g, cap, cur, hv, hbg, (hg.block g (Array.getElem?_eq_some_iff.1 hgg).1 (by simp; omega)).trans hgg, rest⟩
theorem grown_below {w w' : World} (h : Below w.heap.size w w') (row : Option Nat) : w.grownBy w' row := ⟨h.os, h.tape, h.output, h.size, fun i hi _ => h.block i hi⟩
theorem grown_trans {a b c : World} {r : Nat} (h : a.grownBy b (some r)) (k : b.grownBy c (some r)) : a.grownBy c (some r) := h.andThen k (fun j e => .inr e)
theorem clone_any (s : ByteArray) (w : World) (hs : s.size ≤ 100000) :
    Calls Tryz.prog 72 #[.string s] w fun e w' => e = .returned (.string s) ∧ Below w.heap.size w w' := by
  have h := Lib.hid (fun w' => Tryz.stringslite_Clone s w' (by omega))
  go_enter Tryz.func72, Tryz.ntmps72
  go_wp2_with fail
  refine (h.out _).mono ?_
  rintro e w1 ⟨rfl, hb⟩
  have HB := Lib.hid hb
  clear hb
  go_wp2_with fail
  go_ret
  exact ⟨rfl, HB.out⟩
theorem rdText_len (st : Rd) : (rdText 48 st).1.length ≤ 48 := by
  cases st with
  | none => simp [rdText]
  | some l =>
    unfold rdText
    by_cases h : lenOk 48 l
    · simp only [h, if_true]
      have := h.2.2.1
      rw [List.length_take]
      omega
    · simp [h]
theorem bad_st (st : Rd) : st.isNone = (decide (left st = 0) && !done st) := by
  cases st with
  | none => rfl
  | some l =>
    cases l with
    | nil => rfl
    | cons x r => simp [left]

theorem bad_any (b : Nat) (st : Rd) (w : World) (h : RdAt w b st) :
    Calls Tryz.prog 76 #[.pointer (some ⟨b, 0, none⟩)] w fun e w' => e = .returned (.bool st.isNone) ∧ Below w.heap.size w w' := by
  have C1 := Lib.hid (Wire.left_any b st w h)
  obtain ⟨d, hd⟩ : ∃ d, done st = d := ⟨_, rfl⟩
  have C2 := Lib.hid (Wire.rddone_is b st d w h hd)
  have HB := bad_st st
  rw [hd] at HB
  obtain ⟨n, hn⟩ : ∃ n, left st = n := ⟨_, rfl⟩
  rw [hn] at C1 HB
  obtain ⟨v, hv⟩ : ∃ v, st.isNone = v := ⟨_, rfl⟩
  rw [hv] at HB ⊢
  clear hd hn hv h
  by_cases h0 : n = 0
  · subst h0
    have HV : Hid (v = !d) := by show v = _; rw [HB]; simp
    have hz : (((0 : Nat) : Int) == 0) = true := rfl
    clear HB
    go_enter Tryz.func76, Tryz.ntmps76
    go_wp2_with fail
    refine C1.out.mono ?_
    rintro e w1 ⟨rfl, rfl⟩
    go_wp2_with fail
    refine C2.out.mono ?_
    rintro e w2 ⟨rfl, hb2⟩
    have HB2 := Lib.hid hb2
    clear hb2
    cases d with
    | true =>
      go_wp2_with fail
      go_ret
      exact ⟨ret_bool HV.out, HB2.out⟩
    | false =>
      go_wp2_with fail
      go_ret
      exact ⟨ret_bool HV.out, HB2.out⟩
  · have HV : Hid (v = false) := by show v = _; rw [HB]; simp [h0]
    have hz : ((n : Int) == 0) = false := by rw [beq_eq_false_iff_ne]; omega
    clear HB
    go_enter Tryz.func76, Tryz.ntmps76
    go_wp2_with fail
    refine C1.out.mono ?_
    rintro e w1 ⟨rfl, rfl⟩
    go_wp2_with fail
    go_ret
    exact ⟨ret_bool HV.out, Below.refl _ _⟩

theorem grown_then {a b c : World} {r : Nat} (h : a.grownBy b (some r)) (k : Below a.heap.size b c) : a.grownBy c (some r) :=
  ⟨k.os.trans h.os, k.tape.trans h.tape, k.output.trans h.output, Nat.le_trans h.size k.size, fun i hi hr => (k.block i hi).trans (h.block i hi hr)⟩
theorem grown_blk {w w' : World} {b d : Nat} {o : Obj} (h : w.grownBy w' (some b)) (hd : w.heap[d]? = some o) (hne : d ≠ b) : w'.heap[d]? = some o :=
  (h.block d (heap_lt hd) (fun e => by cases e; exact hne rfl)).trans hd
theorem step_blk {w w' : World} {b d : Nat} {o : Obj} {st : Rd} (h : RdStep w b st w') (hd : w.heap[d]? = some o) (hne : d ≠ b) : w'.heap[d]? = some o := grown_blk h.2 hd hne
theorem next_any (b p : Nat) (st st' : Rd) (n : Int) (w : World) (h : RdAt w b st) (hp : w.cell? ⟨p, 0, none⟩ = some (.pointer (some ⟨b, 0, none⟩))) (hr : wide st = (n, st')) :
    Calls Tryz.prog 107 #[.pointer (some ⟨p, 0, none⟩)] w fun e w' => e = .returned (.int .i64 n) ∧ RdStep w b st' w' := by
  have C := Lib.hid (Wire.rdint_is b st st' (-9223372036854775808) 9223372036854775807 n w h hr)
  clear h hr
  go_enter Tryz.func107, Tryz.ntmps107
  go_wp2_with fail
  refine C.out.mono ?_
  rintro e w1 ⟨rfl, hs⟩
  have HS := Lib.hid hs
  clear hs
  go_wp2_with fail
  go_ret
  exact ⟨rfl, HS.out⟩
theorem results_s1 {fn : Func} {j : Nat} (h : fn.results = #[.cell j 49]) (tmps : Array Value) (w : World) (b : Nat) (v0 v1 v2 v3 v4 v5 : Value) (hp : tmps.getD j undef = .pointer (some ⟨b, 0, none⟩))
    (c : At6 49 w b v0 v1 v2 v3 v4 v5) : (results fn tmps).run Tryz.prog w = .ok (.agg #[v0, v1, v2, v3, v4, v5]) w := by
  have hp' : tmps[j]?.getD undef = .pointer (some ⟨b, 0, none⟩) := by rw [← hp]; simp
  obtain ⟨c0, c1, c2, c3, c4, c5⟩ := cells6 c
  simp only [results, h]
  go_simp

set_option maxHeartbeats 4000000 in
theorem takestep_any (b : Nat) (st st' : Rd) (x0 x1 x2 x3 x4 x5 : Int) (w : World) (h : RdAt w b st) (hr : rdSix st = (⟨x0, x1, x2, x3, x4, x5⟩, st')) :
    Calls Tryz.prog 75 #[.pointer (some ⟨b, 0, none⟩)] w fun e w' => e = .returned (.agg #[.int .i64 x0, .int .i64 x1, .int .i64 x2, .int .i64 x3, .int .i64 x4, .int .i64 x5]) ∧ RdStep w b st' w' := by
  have hf := hmf
  unfold rdSix at hr
  simp only [Prod.mk.injEq, StP.St.mk.injEq] at hr
  obtain ⟨⟨hx0, hx1, hx2, hx3, hx4, hx5⟩, hs6⟩ := hr
  obtain ⟨s1, hs1⟩ : ∃ s, (wide st).2 = s := ⟨_, rfl⟩
  rw [hs1] at hx1 hx2 hx3 hx4 hx5 hs6
  obtain ⟨s2, hs2⟩ : ∃ s, (wide s1).2 = s := ⟨_, rfl⟩
  rw [hs2] at hx2 hx3 hx4 hx5 hs6
  obtain ⟨s3, hs3⟩ : ∃ s, (wide s2).2 = s := ⟨_, rfl⟩
  rw [hs3] at hx3 hx4 hx5 hs6
  obtain ⟨s4, hs4⟩ : ∃ s, (wide s3).2 = s := ⟨_, rfl⟩
  rw [hs4] at hx4 hx5 hs6
  obtain ⟨s5, hs5⟩ : ∃ s, (wide s4).2 = s := ⟨_, rfl⟩
  rw [hs5] at hx5 hs6
  obtain ⟨s6, h6⟩ : ∃ s6, st' = s6 := ⟨_, rfl⟩
  rw [h6] at hs6 ⊢
  have E0 := Lib.hid (Prod.ext hx0 hs1 : wide st = (x0, s1))
  have E1 := Lib.hid (Prod.ext hx1 hs2 : wide s1 = (x1, s2))
  have E2 := Lib.hid (Prod.ext hx2 hs3 : wide s2 = (x2, s3))
  have E3 := Lib.hid (Prod.ext hx3 hs4 : wide s3 = (x3, s4))
  have E4 := Lib.hid (Prod.ext hx4 hs5 : wide s4 = (x4, s5))
  have E5 := Lib.hid (Prod.ext hx5 hs6 : wide s5 = (x5, s6))
  have h0 : Below w.heap.size w ((w.alloc (.cells #[.pointer (some ⟨b, 0, none⟩)] 35)).alloc (.cells #[.int .i64 0, .int .i64 0, .int .i64 0, .int .i64 0, .int .i64 0, .int .i64 0] 49)) := ((Below.refl _ w).alloc (Nat.le_refl _) _).alloc (by rw [World.size_alloc]; omega) _
  have hp0 : ((w.alloc (.cells #[.pointer (some ⟨b, 0, none⟩)] 35)).alloc (.cells #[.int .i64 0, .int .i64 0, .int .i64 0, .int .i64 0, .int .i64 0, .int .i64 0] 49)).heap[w.heap.size]? = some (.cells #[.pointer (some ⟨b, 0, none⟩)] 35 (0, 0)) := by
    have := heap_alloc_new w (.cells #[.pointer (some ⟨b, 0, none⟩)] 35)
    rw [← this]
    exact ((Below.refl _ (w.alloc (.cells #[.pointer (some ⟨b, 0, none⟩)] 35))).alloc (Nat.le_refl _) (.cells #[.int .i64 0, .int .i64 0, .int .i64 0, .int .i64 0, .int .i64 0, .int .i64 0] 49)).block w.heap.size (by rw [World.size_alloc]; omega)
  have hk0 : At6 49 ((w.alloc (.cells #[.pointer (some ⟨b, 0, none⟩)] 35)).alloc (.cells #[.int .i64 0, .int .i64 0, .int .i64 0, .int .i64 0, .int .i64 0, .int .i64 0] 49)) (w.heap.size + 1) (.int .i64 0) (.int .i64 0) (.int .i64 0) (.int .i64 0) (.int .i64 0) (.int .i64 0) := by
    have := at6_new 49 (w.alloc (.cells #[.pointer (some ⟨b, 0, none⟩)] 35)) (.int .i64 0) (.int .i64 0) (.int .i64 0) (.int .i64 0) (.int .i64 0) (.int .i64 0)
    rw [World.size_alloc] at this
    exact this
  have ha0 : RdAt ((w.alloc (.cells #[.pointer (some ⟨b, 0, none⟩)] 35)).alloc (.cells #[.int .i64 0, .int .i64 0, .int .i64 0, .int .i64 0, .int .i64 0, .int .i64 0] 49)) b st := h.keep (h0.block b h.lt)
  have hg0 : w.grownBy ((w.alloc (.cells #[.pointer (some ⟨b, 0, none⟩)] 35)).alloc (.cells #[.int .i64 0, .int .i64 0, .int .i64 0, .int .i64 0, .int .i64 0, .int .i64 0] 49)) (some b) := grown_below h0 (some b)
  have hnp : b < w.heap.size := h.lt
  have hnk : b < w.heap.size + 1 := by omega
  have HB := Lib.hid hnp
  obtain ⟨W0, hW0⟩ : ∃ W0, (w.alloc (.cells #[.pointer (some ⟨b, 0, none⟩)] 35)).alloc (.cells #[.int .i64 0, .int .i64 0, .int .i64 0, .int .i64 0, .int .i64 0, .int .i64 0] 49) = W0 := ⟨_, rfl⟩
  rw [hW0] at hp0 hk0 ha0 hg0
  have HW := Lib.hid hW0
  obtain ⟨p, hp⟩ : ∃ p, w.heap.size = p := ⟨_, rfl⟩
  rw [hp] at hp0 hk0 hnp hnk
  have HPE := Lib.hid hp
  obtain ⟨k, hk⟩ : ∃ k, p + 1 = k := ⟨_, rfl⟩
  rw [hk] at hk0 hnk
  have HKE := Lib.hid hk
  have HA0 := Lib.hid ha0; have HP0 := Lib.hid hp0; have HK0 := Lib.hid hk0; have HG0 := Lib.hid hg0; have HNP := Lib.hid hnp; have HNK := Lib.hid hnk
  have q0 := cell_of_heap (i := 0) HP0.out
  clear h h0 hp0 hk0 ha0 hg0 hnp hnk hW0 hp hk h6 hx0 hs1 hx1 hs2 hx2 hs3 hx3 hs4 hx4 hs5 hx5 hs6
  go_enter Tryz.func75, Tryz.ntmps75
  go_wp2_with fail
  rw [show (w.alloc (.cells #[.pointer (some ⟨b, 0, none⟩)] 35)).alloc (.cells #[.int .i64 0, .int .i64 0, .int .i64 0, .int .i64 0, .int .i64 0, .int .i64 0] 49) = W0 from HW.out]
  rw [show w.heap.size = p from HPE.out]
  rw [show p + 1 = k from HKE.out]
  go_wp2_with fail
  refine (next_any b p st s1 x0 W0 HA0.out (cell_of_heap HP0.out) E0.out).mono ?_
  rintro e W1 ⟨rfl, hs⟩
  have HA1 := Lib.hid hs.1
  have HP1 := Lib.hid (step_blk hs HP0.out (Nat.ne_of_gt HNP.out))
  have HK1 := Lib.hid (step_blk hs HK0.out (Nat.ne_of_gt HNK.out))
  have HG1 := Lib.hid (grown_trans HG0.out hs.2)
  have q1 := cell_of_heap (i := 0) HP1.out
  clear hs HA0 HP0 HK0 HG0 q0
  go_wp2_with fail
  refine (next_any b p s1 s2 x1 W1 HA1.out (cell_of_heap HP1.out) E1.out).mono ?_
  rintro e W2 ⟨rfl, hs⟩
  have HA2 := Lib.hid hs.1
  have HP2 := Lib.hid (step_blk hs HP1.out (Nat.ne_of_gt HNP.out))
  have HK2 := Lib.hid (step_blk hs HK1.out (Nat.ne_of_gt HNK.out))
  have HG2 := Lib.hid (grown_trans HG1.out hs.2)
  have q2 := cell_of_heap (i := 0) HP2.out
  clear hs HA1 HP1 HK1 HG1 q1
  go_wp2_with fail
  refine (next_any b p s2 s3 x2 W2 HA2.out (cell_of_heap HP2.out) E2.out).mono ?_
  rintro e W3 ⟨rfl, hs⟩
  have HA3 := Lib.hid hs.1
  have HP3 := Lib.hid (step_blk hs HP2.out (Nat.ne_of_gt HNP.out))
  have HK3 := Lib.hid (step_blk hs HK2.out (Nat.ne_of_gt HNK.out))
  have HG3 := Lib.hid (grown_trans HG2.out hs.2)
  have q3 := cell_of_heap (i := 0) HP3.out
  clear hs HA2 HP2 HK2 HG2 q2
  go_wp2_with fail
  refine (next_any b p s3 s4 x3 W3 HA3.out (cell_of_heap HP3.out) E3.out).mono ?_
  rintro e W4 ⟨rfl, hs⟩
  have HA4 := Lib.hid hs.1
  have HP4 := Lib.hid (step_blk hs HP3.out (Nat.ne_of_gt HNP.out))
  have HK4 := Lib.hid (step_blk hs HK3.out (Nat.ne_of_gt HNK.out))
  have HG4 := Lib.hid (grown_trans HG3.out hs.2)
  have q4 := cell_of_heap (i := 0) HP4.out
  clear hs HA3 HP3 HK3 HG3 q3
  go_wp2_with fail
  refine (next_any b p s4 s5 x4 W4 HA4.out (cell_of_heap HP4.out) E4.out).mono ?_
  rintro e W5 ⟨rfl, hs⟩
  have HA5 := Lib.hid hs.1
  have HP5 := Lib.hid (step_blk hs HP4.out (Nat.ne_of_gt HNP.out))
  have HK5 := Lib.hid (step_blk hs HK4.out (Nat.ne_of_gt HNK.out))
  have HG5 := Lib.hid (grown_trans HG4.out hs.2)
  have q5 := cell_of_heap (i := 0) HP5.out
  clear hs HA4 HP4 HK4 HG4 q4
  go_wp2_with fail
  refine (next_any b p s5 s6 x5 W5 HA5.out (cell_of_heap HP5.out) E5.out).mono ?_
  rintro e W6 ⟨rfl, hs⟩
  have HA6 := Lib.hid hs.1
  have HP6 := Lib.hid (step_blk hs HP5.out (Nat.ne_of_gt HNP.out))
  have HK6 := Lib.hid (step_blk hs HK5.out (Nat.ne_of_gt HNK.out))
  have HG6 := Lib.hid (grown_trans HG5.out hs.2)
  have q6 := cell_of_heap (i := 0) HP6.out
  clear hs HA5 HP5 HK5 HG5 q5
  obtain ⟨z0, z1, z2, z3, z4, z5⟩ := cells6 HK6.out
  obtain ⟨f0, f1, f2, f3, f4, f5⟩ := free6 HK6.out
  have HRS := Lib.hid (heap_put6 HK6.out (.int .i64 x0) (.int .i64 x1) (.int .i64 x2) (.int .i64 x3) (.int .i64 x4) (.int .i64 x5))
  have hbb : Below w.heap.size W6 (put6 W6 k (.int .i64 x0) (.int .i64 x1) (.int .i64 x2) (.int .i64 x3) (.int .i64 x4) (.int .i64 x5)) := below_put6 (Below.refl _ _) (by rw [HPE.out]; have := HKE.out; have h2 : p + 1 = k := this; omega) (.int .i64 x0) (.int .i64 x1) (.int .i64 x2) (.int .i64 x3) (.int .i64 x4) (.int .i64 x5)
  have HGE := Lib.hid (grown_then HG6.out hbb)
  have HAE := Lib.hid (HA6.out.keep (hbb.block b HB.out))
  clear hbb
  go_wp2_with fail
  exact bodyPost_ret (results_s1 (j := 2) rfl _ _ k _ _ _ _ _ _ rfl HRS.out) rfl ⟨rfl, HAE.out, HGE.out⟩

structure TS (w W : World) (b d base : Nat) (n : ByteArray) (v : Value) : Prop where
  g : w.grownBy W (some b)
  res : At2 24 W w.heap.size (.string ⟨#[]⟩) (.slice none 0 0)
  box : At2 24 W d (.string n) v
  blt : b < w.heap.size
  dlt : w.heap.size < d
  dhb : d < base
  siz : base ≤ W.heap.size
theorem TS.grow {w W W' : World} {b d base : Nat} {n : ByteArray} {v : Value} (r : TS w W b d base n v) (hg : W.grownBy W' (some b)) : TS w W' b d base n v :=
  have h1 := r.blt
  have h2 := r.dlt
  ⟨grown_trans r.g hg, grown_blk hg r.res (by omega), grown_blk hg r.box (by omega), r.blt, r.dlt, r.dhb, Nat.le_trans r.siz hg.size⟩
theorem TS.keep {w W W' : World} {b d base : Nat} {n : ByteArray} {v : Value} (r : TS w W b d base n v) (hb : Below W.heap.size W W') : TS w W' b d base n v := r.grow (grown_below hb (some b))
theorem TS.grown {w W W' : World} {b d base : Nat} {n : ByteArray} {v : Value} (r : TS w W b d base n v) (hb : Below base W W') : TS w W' b d base n v :=
  have h1 := r.blt
  have h2 := r.dlt
  have h3 := r.dhb
  ⟨grown_then r.g (hb.mono (by omega)), r.res.keepB hb (by omega), r.box.keepB hb r.dhb, r.blt, r.dlt, r.dhb, Nat.le_trans r.siz hb.size⟩
theorem TS.set {w W : World} {b d base : Nat} {n : ByteArray} {v : Value} (r : TS w W b d base n v) (u : Value) : TS w (W.setCell ⟨d, 1, none⟩ u) b d base n u := by
  have hs : (W.setCell ⟨d, 1, none⟩ u).heap.size = W.heap.size := by simp
  have hd := r.dlt
  refine ⟨grown_then r.g ((Below.refl _ W).setCell (p := ⟨d, 1, none⟩) (Nat.le_of_lt r.dlt) _), (heap_setCell_other _ _ _ _ (by show w.heap.size ≠ d; omega)).trans r.res, ?_, r.blt, r.dlt, r.dhb, by rw [hs]; exact r.siz⟩
  have h1 := Lib.heap_setCell_same (i := 1) r.box u
  unfold At2
  rw [h1]
  rfl
theorem rd_set {W : World} {b d : Nat} {st : Rd} {u : Value} (h : RdAt W b st) (hne : b ≠ d) : RdAt (W.setCell ⟨d, 1, none⟩ u) b st := h.keep (heap_setCell_other _ _ _ _ (by exact hne))
def TkR (At : World → Nat → Rd → Prop) (w : World) (b : Nat) (st : Rd) (e : Ending) (w' : World) : Prop :=
  w.grownBy w' (some b) ∧ At w' b (takeA st).2 ∧ ∃ a c, e = .returned (dv (takeD st).name a (takeD st).steps.length c) ∧ (takeD st).steps.length ≤ c ∧ StAt w' a (takeD st).steps.length (takeD st).steps ∧ ((takeD st).steps.length = 0 ∨ ∃ g, a = some ⟨g, 0, none⟩ ∧ w.heap.size ≤ g)
theorem offN {W : World} {B C n c size : Nat} {e : TypeId} {a : Option Addr} {xs : List Value} (h : W.ownsRow B e size (.slice a n c) n xs) (hC : C ≤ B) : n = 0 ∨ ∃ g, a = some ⟨g, 0, none⟩ ∧ C ≤ g := by
  rcases Rw.owns_form h with ⟨_, h0⟩ | ⟨g, cap, e, hg, _⟩
  · exact .inl h0
  · cases e; exact .inr ⟨g, rfl, Nat.le_trans hC hg⟩
theorem tkR_no {At : World → Nat → Rd → Prop} {w w' : World} {b : Nat} {st st2 : Rd} {d : Df} (h : takeA st = (d, st2)) (hn : st2.isNone = true) (hg : w.grownBy w' (some b)) (ha : At w' b st2) : TkR At w b st (.returned (dv ⟨#[]⟩ none 0 0)) w' := by
  have hv : takeD st = df0 := by unfold takeD; rw [h]; simp [hn]
  exact ⟨hg, by rw [h]; exact ha, none, 0, by rw [hv]; rfl, by rw [hv]; exact Nat.le_refl _, by rw [hv]; exact Rw.At.nil _ _ _, by rw [hv]; exact .inl rfl⟩
theorem tkR_yes {At : World → Nat → Rd → Prop} {w w' : World} {b n c : Nat} {st st2 : Rd} {d : Df} {s : ByteArray} {l : List Step} {a : Option Addr} (h : takeA st = (d, st2)) (hd : d = ⟨s, l⟩) (hn : st2.isNone = false) (hl : l.length = n) (hc : n ≤ c) (hg : w.grownBy w' (some b)) (ha : At w' b st2) (hat : StAt w' a n l) (h0 : n = 0 ∨ ∃ g, a = some ⟨g, 0, none⟩ ∧ w.heap.size ≤ g) : TkR At w b st (.returned (dv s a n c)) w' := by
  subst hl; subst hd
  have hv : takeD st = ⟨s, l⟩ := by unfold takeD; rw [h]; simp [hn]
  exact ⟨hg, by rw [h]; exact ha, a, c, by rw [hv], by rw [hv]; exact hc, by rw [hv]; exact hat, by rw [hv]; exact h0⟩
theorem ts_new {w W : World} {b : Nat} {n : ByteArray} (hb : b < w.heap.size) (hg : (w.alloc (.cells #[.string ⟨#[]⟩, .slice none 0 0] 24)).grownBy W (some b)) :
    TS w (W.alloc (.cells #[.string n, .slice none 0 0] 24)) b W.heap.size (W.heap.size + 1) n (.slice none 0 0) := by
  have hz : (w.alloc (.cells #[.string ⟨#[]⟩, .slice none 0 0] 24)).heap.size = w.heap.size + 1 := by simp
  have a0 : At2 24 (w.alloc (.cells #[.string ⟨#[]⟩, .slice none 0 0] 24)) w.heap.size (.string ⟨#[]⟩) (.slice none 0 0) := at2_new 24 w _ _
  have a1 := at2_new 24 W (.string n) (.slice none 0 0)
  have hb0 : Below w.heap.size w (w.alloc (.cells #[.string ⟨#[]⟩, .slice none 0 0] 24)) := (Below.refl _ _).alloc (Nat.le_refl _) _
  have hsz := hg.size
  rw [hz] at hsz
  have hgw : w.grownBy W (some b) := grown_trans (grown_below hb0 (some b)) hg
  have a0' : At2 24 W w.heap.size (.string ⟨#[]⟩) (.slice none 0 0) := grown_blk hg a0 (by omega)
  exact ⟨grown_then hgw ((Below.refl _ _).alloc (by omega) _), a0'.alloc _, a1, hb, by omega, by omega, by rw [World.size_alloc]; exact Nat.le_refl _⟩
theorem TS.base {w W : World} {b d base base' : Nat} {n : ByteArray} {v : Value} (r : TS w W b d base n v) (h : base ≤ base') (h2 : base' ≤ W.heap.size) : TS w W b d base' n v :=
  ⟨r.g, r.res, r.box, r.blt, r.dlt, Nat.lt_of_lt_of_le r.dhb h, h2⟩

set_option maxHeartbeats 8000000 in
theorem take_any (b : Nat) (st : Rd) (w : World) (h : RdAt w b st) : Calls Tryz.prog 23 #[.pointer (some ⟨b, 0, none⟩)] w (TkR RdAt w b st) := by
  obtain ⟨z, hz⟩ : ∃ z : ByteArray, (rdText 48 st).1 = z.data.toList := ⟨Step.bs (rdText 48 st).1, (Step.data_bs _).symm⟩
  obtain ⟨st1, hst1⟩ : ∃ st1, (rdText 48 st).2 = st1 := ⟨_, rfl⟩
  obtain ⟨m, hm⟩ : ∃ m : Nat, (rdList 6 st1).1 = (m : Int) := ⟨(rdList 6 st1).1.toNat, by have := (rdList_bounds st1).1; omega⟩
  have hm6 : m ≤ 6 := by have := (rdList_bounds st1).2; omega
  obtain ⟨st2, hst2⟩ : ∃ st2, (rdList 6 st1).2 = st2 := ⟨_, rfl⟩
  obtain ⟨R, hR⟩ : ∃ R, takeA st = R := ⟨_, rfl⟩
  have HR := Lib.hid hR
  have HT : Hid (((⟨z, (takeUp m [] st2).1⟩ : Df), (takeUp m [] st2).2) = R) := by
    show _ = R
    rw [← hR]
    unfold takeA
    rw [hst1, hst2, hm, hz, bs_arr, Int.toNat_natCast]
  have hzl : z.size ≤ 48 := by rw [Step.size_list, ← hz]; exact rdText_len st
  have hb0 : Below w.heap.size w (w.alloc (.cells #[.string ⟨#[]⟩, .slice none 0 0] 24)) := (Below.refl _ _).alloc (Nat.le_refl _) _
  have C0 := Lib.hid (Wire.rdtext_is b st st1 48 z (w.alloc (.cells #[.string ⟨#[]⟩, .slice none 0 0] 24)) (h.keep (hb0.block b h.lt)) (Prod.ext hz hst1))
  have C1 := Lib.hid (fun W (hA : RdAt W b st1) => Wire.rdlist_is b st1 st2 6 m W hA (Prod.ext hm hst2))
  have HLT := Lib.hid h.lt
  clear hz hst1 hst2 hm hR h hb0
  go_enter Tryz.func23, Tryz.ntmps23
  go_wp2_with fail
  refine C0.out.mono ?_
  rintro e w1 ⟨rfl, hs1⟩
  have HA1 := Lib.hid hs1.1
  have HG1 := Lib.hid hs1.2
  clear hs1 C0
  go_wp2_with fail
  refine (clone_any z w1 (by omega)).mono ?_
  rintro e w2 ⟨rfl, hb2⟩
  have hg2 := grown_trans HG1.out (grown_below hb2 (some b))
  have HS2 := Lib.hid (ts_new (n := z) HLT.out hg2)
  have HA2 := Lib.hid ((HA1.out.keep (hb2.block _ HA1.out.lt)).keep (((Below.refl w2.heap.size w2).alloc (Nat.le_refl _) (.cells #[.string z, .slice none 0 0] 24)).block b (Nat.lt_of_lt_of_le HA1.out.lt hb2.size)))
  obtain ⟨d, hd⟩ : ∃ d, w2.heap.size = d := ⟨_, rfl⟩
  have C1 := Lib.hid (C1.out _ HA2.out)
  rw [hd] at HS2
  have HDE := Lib.hid hd
  clear hb2 hg2 HG1 HA1 hd
  go_wp2_with fail
  rw [show w2.heap.size = d from HDE.out]
  refine C1.out.mono ?_
  rintro e w3 ⟨rfl, hs3⟩
  have HA3 := Lib.hid hs3.1
  have hs3b := HS2.out.grow hs3.2
  have HS3 := Lib.hid (hs3b.base (base' := w3.heap.size) hs3b.siz (Nat.le_refl _))
  clear hs3 hs3b HS2 HA2 C1 HDE
  have HBB : Hid (b < w3.heap.size) := by show _ < _; have h1 := HS3.out.blt; have h2 := HS3.out.dlt; have h3 := HS3.out.dhb; omega
  go_wp2_with fail
  go_loopw [10] (fun i wr => ∃ (k : Nat) (acc : List Step) (sk : Rd) (a : Option Addr) (c : Nat), k ≤ m ∧ i = .int .i64 (k : Int) ∧ acc.length = k ∧ Hid (((⟨z, (takeUp (m - k) acc sk).1⟩ : Df), (takeUp (m - k) acc sk).2) = R) ∧ Hid (RdAt wr b sk) ∧ Hid (wr.ownsRow w3.heap.size 49 6 (.slice a k c) k (Rw.cells stS acc)) ∧ Hid (TS w wr b d w3.heap.size z (.slice a k c))) (fun i _ => m - (intOf i).toNat)
  case atStart => exact ⟨0, [], st2, none, 0, Nat.zero_le _, rfl, rfl, HT, HA3, Lib.hid (World.ownsRow_nil _ _ _ _), HS3⟩
  case round =>
    obtain ⟨k, acc, sk, a, c, hk, rfl, hal, hT, hA, hO, hS⟩ := hrel
    by_cases hlk : k < m
    · obtain ⟨x0, x1, x2, x3, x4, x5, sk2, hsix⟩ : ∃ x0 x1 x2 x3 x4 x5 sk2, rdSix sk = (⟨x0, x1, x2, x3, x4, x5⟩, sk2) := ⟨(rdSix sk).1.op, (rdSix sk).1.cls, (rdSix sk).1.tries, (rdSix sk).1.base, (rdSix sk).1.cap, (rdSix sk).1.wait, (rdSix sk).2, rfl⟩
      have HT2 : Hid (((⟨z, (takeUp (m - (k + 1)) (acc ++ [⟨x0, x1, x2, x3, x4, x5⟩]) sk2).1⟩ : Df), (takeUp (m - (k + 1)) (acc ++ [⟨x0, x1, x2, x3, x4, x5⟩]) sk2).2) = R) := by
        show _ = R
        rw [← hT.out, show m - k = (m - (k + 1)) + 1 by omega, takeUp_step hsix]
      have HS1 := Lib.hid (hS.out.keep (below_drew (Below.refl _ wr)))
      have HO1 := Lib.hid (Rw.owns_below hO.out (below_drew (Below.refl _ wr)))
      have CT := Lib.hid (takestep_any b sk sk2 x0 x1 x2 x3 x4 x5 wr.drew (hA.out.keep rfl) hsix)
      obtain ⟨_, g1⟩ := cells2 HS1.out.box
      clear hT hsix hA hO hS
      go_wp2_with fail
      refine wp_region_any (by kernel_rfl) ?_
      change wpAny _ _ _ _ _ _ _ (World.drew _)
      refine wpAny_take (i := 0) (v := ?_) rfl (by kernel_rfl) (by kernel_rfl) (by kernel_rfl) (fun _ _ _ h => h) (Or.inl ⟨by kernel_rfl, ?_⟩) ?_; rotate_left; focus ((intro w'); go_simp; (try with_reducible rfl))
      refine wpAny_take (i := 2) (v := ?_) rfl (by kernel_rfl) (by kernel_rfl) (by kernel_rfl) (fun _ _ _ h => h) (Or.inl ⟨by kernel_rfl, ?_⟩) ?_; rotate_left; focus ((intro w'); go_simp; (try with_reducible rfl))
      refine wpAny_ready (rs := [1, 3]) (by kernel_rfl) (by simp) ?_
      refine AllReady.cons rfl (fun K hK => ?_) (AllReady.cons rfl (fun K hK => ?_) AllReady.nil)
      · go_simp
        refine hK _ _ ?_
        clear hK K
        refine wpAny_ready (rs := [3]) (by kernel_rfl) (by simp) ?_
        refine AllReady.cons rfl (fun K hK => ?_) AllReady.nil
        go_simp
        refine CT.out.mono ?_
        rintro e W9 ⟨rfl, hs9⟩
        have HA9 := Lib.hid hs9.1
        have HS9 := Lib.hid (HS1.out.grow hs9.2)
        have HO9 := Lib.hid (owns_grown HO1.out hs9.2 HBB.out)
        obtain ⟨_, g2⟩ := cells2 HS9.out.box
        have g3 := (cells2 (HS9.out.box.alloc (.cells #[.int .i64 x0, .int .i64 x1, .int .i64 x2, .int .i64 x3, .int .i64 x4, .int .i64 x5] 49))).2
        clear hs9 CT
        refine hK _ _ ?_
        clear hK K
        refine wpAny_ready (rs := [4]) (by kernel_rfl) (by simp) ?_
        refine AllReady.cons rfl (fun K hK => ?_) AllReady.nil
        go_simp
        refine hK _ _ ?_
        clear hK K
        refine Mix.wpAny_of_seqV [5, 6, 7] _ _ _ (by kernel_rfl) ?_
        simp only [Mix.pick, List.filterMap_cons, List.filterMap_nil, List.getElem?_cons_zero, List.getElem?_cons_succ]
        refine Rw.append_one stS rfl (.tmp 13) (.tmp 16) rfl w3.heap.size W9 _ rfl ⟨x0, x1, x2, x3, x4, x5⟩ _ rfl (.slice a k c) k acc rfl HO9.out rfl (by omega) HS9.out.siz ?_
        intro v' wa hown hgrow
        obtain ⟨a9, c9, rfl, hc9⟩ := Rw.owns_slice hown
        have hbb : Below w3.heap.size W9 wa := Rw.below_append (Below.refl _ _) HS9.out.siz HO9.out hgrow
        have HSA := Lib.hid (HS9.out.grown hbb)
        have HAA := Lib.hid (HA9.out.keep (hbb.block b HBB.out))
        have HSB := Lib.hid (HSA.out.set (.slice a9 (k + 1) c9))
        have HAB := Lib.hid (rd_set (d := d) (u := .slice a9 (k + 1) c9) HAA.out (by have := HSA.out.blt; have h2 := HSA.out.dlt; omega))
        have HOB := Lib.hid (owns_set (u := .slice a9 (k + 1) c9) hown HSA.out.dhb)
        clear g2 g3
        obtain ⟨_, g2⟩ := cells2 HSA.out.box
        obtain ⟨_, f2⟩ := free2 HSA.out.box
        clear hown hgrow hbb HO9 HS9 HA9 HSA HAA
        go_wp2_with fail
        go_roundw
        case rel => exact ⟨k + 1, acc ++ [⟨x0, x1, x2, x3, x4, x5⟩], sk2, a9, c9, by omega, by go_num, by rw [List.length_append, hal]; rfl, HT2, HAB, HOB, HSB⟩
        case measure => simp [intOf]; omega
      · go_simp
        refine CT.out.mono ?_
        rintro e W9 ⟨rfl, hs9⟩
        have HA9 := Lib.hid hs9.1
        have HS9 := Lib.hid (HS1.out.grow hs9.2)
        have HO9 := Lib.hid (owns_grown HO1.out hs9.2 HBB.out)
        obtain ⟨_, g2⟩ := cells2 HS9.out.box
        have g3 := (cells2 (HS9.out.box.alloc (.cells #[.int .i64 x0, .int .i64 x1, .int .i64 x2, .int .i64 x3, .int .i64 x4, .int .i64 x5] 49))).2
        clear hs9 CT
        refine hK _ _ ?_
        clear hK K
        refine wpAny_ready (rs := [1, 4]) (by kernel_rfl) (by simp) ?_
        refine AllReady.cons rfl (fun K hK => ?_) (AllReady.cons rfl (fun K hK => ?_) AllReady.nil)
        · go_simp
          refine hK _ _ ?_
          clear hK K
          refine wpAny_ready (rs := [4]) (by kernel_rfl) (by simp) ?_
          refine AllReady.cons rfl (fun K hK => ?_) AllReady.nil
          go_simp
          refine hK _ _ ?_
          clear hK K
          refine Mix.wpAny_of_seqV [5, 6, 7] _ _ _ (by kernel_rfl) ?_
          simp only [Mix.pick, List.filterMap_cons, List.filterMap_nil, List.getElem?_cons_zero, List.getElem?_cons_succ]
          refine Rw.append_one stS rfl (.tmp 13) (.tmp 16) rfl w3.heap.size W9 _ rfl ⟨x0, x1, x2, x3, x4, x5⟩ _ rfl (.slice a k c) k acc rfl HO9.out rfl (by omega) HS9.out.siz ?_
          intro v' wa hown hgrow
          obtain ⟨a9, c9, rfl, hc9⟩ := Rw.owns_slice hown
          have hbb : Below w3.heap.size W9 wa := Rw.below_append (Below.refl _ _) HS9.out.siz HO9.out hgrow
          have HSA := Lib.hid (HS9.out.grown hbb)
          have HAA := Lib.hid (HA9.out.keep (hbb.block b HBB.out))
          have HSB := Lib.hid (HSA.out.set (.slice a9 (k + 1) c9))
          have HAB := Lib.hid (rd_set (d := d) (u := .slice a9 (k + 1) c9) HAA.out (by have := HSA.out.blt; have h2 := HSA.out.dlt; omega))
          have HOB := Lib.hid (owns_set (u := .slice a9 (k + 1) c9) hown HSA.out.dhb)
          clear g2 g3
          obtain ⟨_, g2⟩ := cells2 HSA.out.box
          obtain ⟨_, f2⟩ := free2 HSA.out.box
          clear hown hgrow hbb HO9 HS9 HA9 HSA HAA
          go_wp2_with fail
          go_roundw
          case rel => exact ⟨k + 1, acc ++ [⟨x0, x1, x2, x3, x4, x5⟩], sk2, a9, c9, by omega, by go_num, by rw [List.length_append, hal]; rfl, HT2, HAB, HOB, HSB⟩
          case measure => simp [intOf]; omega
        · go_simp
          refine hK _ _ ?_
          clear hK K
          refine wpAny_ready (rs := [1]) (by kernel_rfl) (by simp) ?_
          refine AllReady.cons rfl (fun K hK => ?_) AllReady.nil
          go_simp
          refine hK _ _ ?_
          clear hK K
          refine Mix.wpAny_of_seqV [5, 6, 7] _ _ _ (by kernel_rfl) ?_
          simp only [Mix.pick, List.filterMap_cons, List.filterMap_nil, List.getElem?_cons_zero, List.getElem?_cons_succ]
          refine Rw.append_one stS rfl (.tmp 13) (.tmp 16) rfl w3.heap.size W9 _ rfl ⟨x0, x1, x2, x3, x4, x5⟩ _ rfl (.slice a k c) k acc rfl HO9.out rfl (by omega) HS9.out.siz ?_
          intro v' wa hown hgrow
          obtain ⟨a9, c9, rfl, hc9⟩ := Rw.owns_slice hown
          have hbb : Below w3.heap.size W9 wa := Rw.below_append (Below.refl _ _) HS9.out.siz HO9.out hgrow
          have HSA := Lib.hid (HS9.out.grown hbb)
          have HAA := Lib.hid (HA9.out.keep (hbb.block b HBB.out))
          have HSB := Lib.hid (HSA.out.set (.slice a9 (k + 1) c9))
          have HAB := Lib.hid (rd_set (d := d) (u := .slice a9 (k + 1) c9) HAA.out (by have := HSA.out.blt; have h2 := HSA.out.dlt; omega))
          have HOB := Lib.hid (owns_set (u := .slice a9 (k + 1) c9) hown HSA.out.dhb)
          clear g2 g3
          obtain ⟨_, g2⟩ := cells2 HSA.out.box
          obtain ⟨_, f2⟩ := free2 HSA.out.box
          clear hown hgrow hbb HO9 HS9 HA9 HSA HAA
          go_wp2_with fail
          go_roundw
          case rel => exact ⟨k + 1, acc ++ [⟨x0, x1, x2, x3, x4, x5⟩], sk2, a9, c9, by omega, by go_num, by rw [List.length_append, hal]; rfl, HT2, HAB, HOB, HSB⟩
          case measure => simp [intOf]; omega
    · obtain rfl : k = m := by omega
      have hT0 : R = (⟨z, acc⟩, sk) := by rw [← hT.out, Nat.sub_self]; rfl
      have CB := Lib.hid (bad_any b sk wr hA.out)
      obtain ⟨g0, g1⟩ := cells2 hS.out.box
      have hac := Rw.owns_room hO.out
      cases hn : sk.isNone with
      | true =>
        rw [hn] at CB
        clear hT g0 g1
        go_wp2_with fail
        refine CB.out.mono ?_
        rintro e w8 ⟨rfl, hb⟩
        have HS8 := Lib.hid (hS.out.keep hb)
        have HA8 := Lib.hid (hA.out.keep (hb.block b hA.out.lt))
        clear hb
        obtain ⟨e0, e1⟩ := cells2 HS8.out.res
        obtain ⟨f0, f1⟩ := free2 HS8.out.res
        have HRS := Lib.hid (heap_put2 HS8.out.res (.string ⟨#[]⟩) (.slice none 0 0))
        have hbb : Below w.heap.size w8 (put2 w8 w.heap.size (.string ⟨#[]⟩) (.slice none 0 0)) := below_put2 (Below.refl _ _) (Nat.le_refl _) _ _
        have HGE := Lib.hid (grown_then HS8.out.g hbb)
        have HAE := Lib.hid (HA8.out.keep (hbb.block b HLT.out))
        have HRE := Lib.hid (HR.out.trans hT0)
        clear hbb hT0
        go_wp2_with fail
        exact bodyPost_ret (results_df1 (j := 2) rfl _ _ w.heap.size _ _ rfl HRS.out) rfl (tkR_no HRE.out hn HGE.out HAE.out)
      | false =>
        rw [hn] at CB
        clear hT g0 g1
        go_wp2_with fail
        refine CB.out.mono ?_
        rintro e w8 ⟨rfl, hb⟩
        have HS8 := Lib.hid (hS.out.keep hb)
        have HA8 := Lib.hid (hA.out.keep (hb.block b hA.out.lt))
        have HO8 := Lib.hid (Rw.owns_below hO.out hb)
        clear hb
        obtain ⟨g0, g1⟩ := cells2 HS8.out.box
        obtain ⟨e0, e1⟩ := cells2 HS8.out.res
        obtain ⟨f0, f1⟩ := free2 HS8.out.res
        have HRS := Lib.hid (heap_put2 HS8.out.res (.string z) (.slice a k c))
        have hbb : Below w.heap.size w8 (put2 w8 w.heap.size (.string z) (.slice a k c)) := below_put2 (Below.refl _ _) (Nat.le_refl _) _ _
        have HGE := Lib.hid (grown_then HS8.out.g hbb)
        have HAE := Lib.hid (HA8.out.keep (hbb.block b HLT.out))
        have HAT : Hid (StAt (put2 w8 w.heap.size (.string z) (.slice a k c)) a k acc) := Rw.own_at (S := stS) (Rw.owns_heap HO8.out fun g hg => put2_other _ _ (by have := (HO8.out.lt g hg).1; have h1 := HS8.out.dlt; have h2 := HS8.out.dhb; omega)) hal (by omega)
        have HRE := Lib.hid (HR.out.trans hT0)
        have HOF := Lib.hid (offN hO.out (show w.heap.size ≤ w3.heap.size by have h1 := hS.out.dlt; have h2 := hS.out.dhb; omega))
        clear hbb hT0
        go_wp2_with fail
        exact bodyPost_ret (results_df1 (j := 2) rfl _ _ w.heap.size _ _ rfl HRS.out) rfl (tkR_yes HRE.out rfl hn hal hac HGE.out HAE.out HAT.out HOF.out)
end Go.Proofs.YtdpgfnnhbfkacaaGreatDoor.Def

/-
  The contracts of both Puts: any definition of up to 1000 steps; what was there stays as it was.
-/
set_option linter.unusedVariables false
set_option linter.unusedSimpArgs false
set_option maxRecDepth 4000
namespace Go.Proofs.YtdpgfnnhbfkacaaGreatDoor.Def
open Go.RowKit DefP
open WireP (enc encs text)
open Wire (IntsAt)
open Go.Proofs.YtdpgfnnhbfkacaaGreatDoor.Kt
theorem lays166 : Go.Proofs.Lays.n166 Tryz.prog Tryz.lays156_ren := { Tryz.lays156 with }
theorem lays169 : Go.Proofs.Lays.n169 Tryz.prog Tryz.lays156_ren := { Tryz.lays156 with }
def Bd (w : World) (B b : Nat) (l : List UInt8) : Prop := Lib.IsBuilderF 65 5 B b (Lib.byteCells l) w
theorem Bd.lt {w : World} {B b : Nat} {l : List UInt8} (h : Bd w B b l) : b < w.heap.size := by
  rcases h with ⟨h1, v, h2, h3, h4⟩ | ⟨h1, v, h2, h3, h4⟩
  · exact (Array.getElem?_eq_some_iff.1 h2).1
  · exact (Array.getElem?_eq_some_iff.1 h2).1
theorem ownsF_below {w w' : World} {B n size : Nat} {e : TypeId} {v : Value} {xs : List Value} (h : w.ownsRowF B e size v n xs) (hb : Below w.heap.size w w') : w'.ownsRowF B e size v n xs := by
  refine ⟨h.1, ?_⟩
  rcases h.2 with hn | ⟨g, cap, cur, fz, hv, hbg, hg, rest⟩
  · exact .inl hn
  · exact .inr ⟨g, cap, cur, fz, hv, hbg, (hb.block g (Array.getElem?_eq_some_iff.1 hg).1).trans hg, rest⟩
theorem Bd.keep {w w' : World} {B b : Nat} {l : List UInt8} (h : Bd w B b l) (hb : Below w.heap.size w w') : Bd w' B b l := by
  have hlt := h.lt
  rcases h with ⟨h1, v, h2, h3, h4⟩ | ⟨h1, v, h2, h3, h4⟩
  · exact .inl ⟨h1, v, (hb.block b hlt).trans h2, ownsF_below h3 hb, h4⟩
  · exact .inr ⟨h1, v, (hb.block b hlt).trans h2, ownsF_below h3 hb, h4⟩
theorem write_any (B b : Nat) (l : List UInt8) (s : ByteArray) (w : World) (h : Bd w B b l) (hl : l.length + s.size ≤ 1000000) (hB : B ≤ w.heap.size) :
    Calls Tryz.prog 58 #[.pointer (some ⟨b, 0, none⟩), .string s] w fun e w' => e = .returned (.tuple #[.int .i64 s.size, .nilIface]) ∧ Bd w' B b (l ++ s.data.toList) ∧ Below B w w' ∧ Lib.OthersKept 5 (some b) w w' := by
  refine (Any.Builder_WriteString_k lays166 Tryz.Builder_Extra_156 B b (Lib.byteCells l) s w h (by rw [Lib.byteCells_length]; omega) hB).mono ?_
  rintro e w' ⟨he, hb, hw, ho⟩
  refine ⟨he, .inr ?_, hw, ho⟩
  rw [Lib.byteCells_append]
  exact hb
theorem string_any (B b : Nat) (l : List UInt8) (w : World) (h : Bd w B b l) (hB : B ≤ w.heap.size) :
    Calls Tryz.prog 62 #[.pointer (some ⟨b, 0, none⟩)] w fun e w' => e = .returned (.string (Step.bs l)) ∧ Below B w w' :=
  (Any.Builder_String_any_k lays169 Tryz.Builder_Extra_156 B b l w h hB).mono fun e w' ⟨he, _, hw, _⟩ => ⟨he, hw⟩

theorem fresh_bd (w : World) : Bd (w.alloc (.cells #[.pointer none, .slice none 0 0] 65)) w.heap.size w.heap.size [] := Lib.IsBuilderF.of (Lib.fresh_isBuilder _ _ w)

theorem text_len (l : List UInt8) (h : l.length ≤ 1000) : (text l).length ≤ 9 + l.length := by
  unfold WireP.text
  rw [List.length_append]
  have := WireP.enc_len (n := ((l.length : Nat) : Int)) (by omega) (by omega)
  omega
theorem pk_len (d : Df) (hs : d.name.data.toList.length ≤ 1000) (hn : d.steps.length ≤ 1000) (h : ∀ x ∈ d.steps, S64 x) (k : Nat) : (pk d k).length ≤ 1018 + 54 * k := by
  unfold pk
  rw [List.length_append, List.length_append]
  have h1 := text_len d.name.data.toList hs
  have h2 := WireP.enc_len (n := ((d.steps.length : Nat) : Int)) (by omega) (by omega)
  have h3 := ones_len (l := d.steps.take k) (fun x hx => h x (List.mem_of_mem_take hx))
  rw [List.length_take] at h3
  have h4 : 54 * min k d.steps.length ≤ 54 * k := Nat.mul_le_mul_left 54 (Nat.min_le_left _ _)
  omega
theorem six_at {W : World} {k : Nat} {x0 x1 x2 x3 x4 x5 : Int} (h : S64 ⟨x0, x1, x2, x3, x4, x5⟩) (hc : At6 3 W k (.int .i64 x0) (.int .i64 x1) (.int .i64 x2) (.int .i64 x3) (.int .i64 x4) (.int .i64 x5)) : IntsAt W (some ⟨k, 0, none⟩) 6 (six ⟨x0, x1, x2, x3, x4, x5⟩) := by
  refine ⟨rfl, ?_, .inr ⟨k, 0, rfl, heap_lt hc, fun i hi => ?_⟩⟩
  · intro x hx
    unfold six at hx
    simp only [List.mem_cons, List.mem_nil_iff, or_false] at hx
    rcases hx with rfl | rfl | rfl | rfl | rfl | rfl
    · exact h.op
    · exact h.cls
    · exact h.tries
    · exact h.base
    · exact h.cap
    · exact h.wait
  · rw [Nat.zero_add, cell_of_heap hc]
    match i, hi with
    | 0, _ => rfl
    | 1, _ => rfl
    | 2, _ => rfl
    | 3, _ => rfl
    | 4, _ => rfl
    | 5, _ => rfl
theorem ints_six (k : Nat) (x0 x1 x2 x3 x4 x5 : Int) (z : ByteArray) (hz : one ⟨x0, x1, x2, x3, x4, x5⟩ = z.data.toList) (h : S64 ⟨x0, x1, x2, x3, x4, x5⟩) (W : World) (hc : At6 3 W k (.int .i64 x0) (.int .i64 x1) (.int .i64 x2) (.int .i64 x3) (.int .i64 x4) (.int .i64 x5)) :
    Calls Tryz.prog 61 #[.slice (some ⟨k, 0, none⟩) 6 6] W fun e w' => e = .returned (.string z) ∧ Below W.heap.size W w' := by
  have h2 := Wire.ints_any (some ⟨k, 0, none⟩) 6 6 _ W (six_at h hc) (by omega)
  rw [show encs (six ⟨x0, x1, x2, x3, x4, x5⟩) = z.data.toList from hz, show (⟨z.data.toList.toArray⟩ : ByteArray) = z from Step.bs_data z] at h2
  exact h2
set_option maxHeartbeats 8000000 in
theorem put_is (s : ByteArray) (a : Option Addr) (n c : Nat) (l : List Step) (t : ByteArray) (ht : Step.bs (putD ⟨s, l⟩) = t) (w : World) (h : StAt w a n l) (hs : s.size ≤ 1000) (hn : n ≤ 1000) (hS : ∀ x ∈ l, S64 x) :
    Calls Tryz.prog 16 #[.agg #[.string s, .slice a n c]] w fun e w' => e = .returned (.string t) ∧ Below w.heap.size w w' := by
  have hl := h.1
  have hsl : s.data.toList.length ≤ 1000 := by rw [← Step.size_list]; exact hs
  obtain ⟨z0, hz0⟩ : ∃ z0 : ByteArray, text s.data.toList = z0.data.toList := ⟨Step.bs (text s.data.toList), (Step.data_bs _).symm⟩
  obtain ⟨z1, hz1⟩ : ∃ z1 : ByteArray, enc ((n : Nat) : Int) = z1.data.toList := ⟨Step.bs (enc ((n : Nat) : Int)), (Step.data_bs _).symm⟩
  have hz0s : z0.size ≤ 1009 := by rw [Step.size_list, ← hz0]; have := text_len s.data.toList hsl; omega
  have hz1s : z1.size ≤ 9 := by rw [Step.size_list, ← hz1]; exact WireP.enc_len (by omega) (by omega)
  have HP0 : Hid (pk ⟨s, l⟩ 0 = z0.data.toList ++ z1.data.toList) := by show _ = _; rw [pk_zero]; show text s.data.toList ++ enc ((l.length : Nat) : Int) = _; rw [hl, hz0, hz1]
  have HPL := Lib.hid (fun k => pk_len ⟨s, l⟩ hsl (by show l.length ≤ 1000; omega) hS k)
  have HX := Lib.hid h
  have HSS := Lib.hid hS
  have HB0 := Lib.hid (bx2_new 24 w (.string s) (.slice a n c))
  have HD : Hid (Step.bs (pk ⟨s, l⟩ n) = t) := by show _ = t; rw [← ht, putD_pk]; show _ = Step.bs (pk ⟨s, l⟩ l.length); rw [hl]
  have CT := Lib.hid (fun W => Wire.text_is s z0 W (by omega) hz0)
  have CI := Lib.hid (fun W => Wire.int_is (n : Int) z1 W (by omega) (by omega) hz1)
  have hbx := HB0.out.box.alloc (.cells #[.pointer none, .slice none 0 0] 65)
  have hbd := fresh_bd (w.alloc (.cells #[.string s, .slice a n c] 24))
  rw [World.size_alloc] at hbd
  have hb1 := (HB0.out.alloc (.cells #[.pointer none, .slice none 0 0] 65)).bel
  obtain ⟨u0, u1⟩ := cells2 hbx
  obtain ⟨w1, hw1⟩ : ∃ w1, (w.alloc (.cells #[.string s, .slice a n c] 24)).alloc (.cells #[.pointer none, .slice none 0 0] 65) = w1 := ⟨_, rfl⟩
  obtain ⟨g, hg⟩ : ∃ g, w.heap.size + 1 = g := ⟨_, rfl⟩
  rw [hw1, hg] at hbd
  rw [hw1] at hbx hb1
  have HW := Lib.hid hw1
  have HG := Lib.hid hg
  have HBD := Lib.hid hbd; have HBX := Lib.hid hbx; have HB1 := Lib.hid hb1
  have hwg : w.heap.size < g := by omega
  clear ht hl h hS hz0 hz1 hbx hbd hb1 hw1 hg hsl
  go_enter Tryz.func16, Tryz.ntmps16
  go_wp2_with fail
  rw [show (w.alloc (.cells #[.string s, .slice a n c] 24)).alloc (.cells #[.pointer none, .slice none 0 0] 65) = w1 from HW.out]
  rw [show w.heap.size + 1 = g from HG.out]
  clear u0 u1
  refine (CT.out w1).mono ?_
  rintro e w2 ⟨rfl, hb⟩
  have HBD2 := Lib.hid (HBD.out.keep hb); have HBX2 := Lib.hid (HBX.out.keep hb); have HB2 := Lib.hid (below_keep HB1.out hb HB1.out.size)
  clear hb HBD HBX
  have hg2 : g ≤ w2.heap.size := Nat.le_of_lt HBD2.out.lt
  go_wp2_with fail
  refine (write_any g g [] z0 w2 HBD2.out (by simp; omega) hg2).mono ?_
  rintro e w3 ⟨rfl, hbd3, hb3, _⟩
  have HBD3 := Lib.hid hbd3; have HBX3 := Lib.hid (HBX2.out.keepB hb3 hwg); have HB3 := Lib.hid (HB2.out.trans (hb3.mono (Nat.le_of_lt hwg)))
  clear hbd3 hb3 HBD2 HBX2 HB2 hg2
  obtain ⟨u0, u1⟩ := cells2 HBX3.out
  go_wp2_with fail
  refine (CI.out w3).mono ?_
  rintro e w4 ⟨rfl, hb⟩
  have HBD4 := Lib.hid (HBD3.out.keep hb); have HBX4 := Lib.hid (HBX3.out.keep hb); have HB4 := Lib.hid (below_keep HB3.out hb HB3.out.size)
  clear hb HBD3 HBX3 HB3 u0 u1
  have hg4 : g ≤ w4.heap.size := Nat.le_of_lt HBD4.out.lt
  go_wp2_with fail
  refine (write_any g g ([] ++ z0.data.toList) z1 w4 HBD4.out (by rw [List.nil_append, ← Step.size_list]; omega) hg4).mono ?_
  rintro e w5 ⟨rfl, hbd5, hb5, _⟩
  have HBD5 : Hid (Bd w5 g g (pk ⟨s, l⟩ 0)) := by show Bd _ _ _ _; rw [HP0.out]; exact hbd5
  have HBX5 := Lib.hid (HBX4.out.keepB hb5 hwg); have HB5 := Lib.hid (HB4.out.trans (hb5.mono (Nat.le_of_lt hwg)))
  clear hbd5 hb5 HBD4 HBX4 HB4 hg4 HP0 CT CI
  obtain ⟨u0, u1⟩ := cells2 HBX5.out
  go_wp2_with fail
  clear u0 u1
  go_loopw [18] (fun i wr => ∃ k : Nat, k ≤ n ∧ i = .int .i64 (k : Int) ∧ Hid (Bd wr g g (pk ⟨s, l⟩ k)) ∧ Hid (Below w.heap.size w wr)) (fun i _ => n - (intOf i).toNat)
  case atStart => exact ⟨0, Nat.zero_le _, rfl, HBD5, HB5⟩
  case round =>
    obtain ⟨k, hk, rfl, hD, hB⟩ := hrel
    by_cases hlk : k < n
    · obtain ⟨b1, o1, x0, x1, x2, x3, x4, x5, rfl, g1, hp, hc1⟩ := StAt.at HX.out hlk
      obtain ⟨d0, d1, d2, d3, d4, d5⟩ := hc1 wr hB.out
      have hsx := HSS.out _ (List.mem_of_getElem? hp)
      obtain ⟨z2, hz2⟩ : ∃ z2 : ByteArray, one ⟨x0, x1, x2, x3, x4, x5⟩ = z2.data.toList := ⟨Step.bs (one ⟨x0, x1, x2, x3, x4, x5⟩), (Step.data_bs _).symm⟩
      have hz2s : z2.size ≤ 54 := by rw [Step.size_list, ← hz2]; exact one_len hsx
      have HST : Hid (pk ⟨s, l⟩ (k + 1) = pk ⟨s, l⟩ k ++ z2.data.toList) := by show _ = _; rw [pk_step (d := ⟨s, l⟩) hp, hz2]
      have hy := at6_new 49 wr (.int .i64 x0) (.int .i64 x1) (.int .i64 x2) (.int .i64 x3) (.int .i64 x4) (.int .i64 x5)
      obtain ⟨y0, y1, y2, y3, y4, y5⟩ := cells6 hy
      have hq := at6_new 3 (wr.alloc (.cells #[.int .i64 x0, .int .i64 x1, .int .i64 x2, .int .i64 x3, .int .i64 x4, .int .i64 x5] 49)) (.int .i64 x0) (.int .i64 x1) (.int .i64 x2) (.int .i64 x3) (.int .i64 x4) (.int .i64 x5)
      rw [World.size_alloc] at hq
      have CS := Lib.hid (ints_six (wr.heap.size + 1) x0 x1 x2 x3 x4 x5 z2 hz2 hsx _ hq)
      have hb2 := ((Below.refl wr.heap.size wr).alloc (Nat.le_refl _) (.cells #[.int .i64 x0, .int .i64 x1, .int .i64 x2, .int .i64 x3, .int .i64 x4, .int .i64 x5] 49)).alloc (by rw [World.size_alloc]; omega) (.cells #[.int .i64 x0, .int .i64 x1, .int .i64 x2, .int .i64 x3, .int .i64 x4, .int .i64 x5] 3)
      have HD2 := Lib.hid (hD.out.keep hb2)
      have HBB2 := Lib.hid (below_keep hB.out hb2 hB.out.size)
      have hpl := HPL.out k
      clear hp hc1 hsx hz2 hy hq hb2 hD hB
      go_wp2_with fail
      refine CS.out.mono ?_
      rintro e w7 ⟨rfl, hb⟩
      have HD7 := Lib.hid (HD2.out.keep hb)
      have HB7 := Lib.hid (below_keep HBB2.out hb HBB2.out.size)
      clear hb HD2 HBB2 CS d0 d1 d2 d3 d4 d5 y0 y1 y2 y3 y4 y5
      have hg7 : g ≤ w7.heap.size := Nat.le_of_lt HD7.out.lt
      go_wp2_with fail
      refine (write_any g g (pk ⟨s, l⟩ k) z2 w7 HD7.out (by omega) hg7).mono ?_
      rintro e w8 ⟨rfl, hbd8, hb8, _⟩
      have HD8 : Hid (Bd w8 g g (pk ⟨s, l⟩ (k + 1))) := by show Bd _ _ _ _; rw [HST.out]; exact hbd8
      have HB8 := Lib.hid (HB7.out.trans (hb8.mono (Nat.le_of_lt hwg)))
      clear hbd8 hb8 HD7 HB7 hg7
      go_wp2_with fail
      go_roundw
      case rel => exact ⟨k + 1, by omega, by go_num, HD8, HB8⟩
      case measure => simp [intOf]; omega
    · obtain rfl : k = n := by omega
      have CE := Lib.hid (string_any g g (pk ⟨s, l⟩ k) wr hD.out (Nat.le_of_lt hD.out.lt))
      go_wp2_with fail
      refine CE.out.mono ?_
      rintro e w7 ⟨rfl, hb⟩
      have HB7 := Lib.hid (hB.out.trans (hb.mono (Nat.le_of_lt hwg)))
      clear hb
      go_wp2_with fail
      go_ret
      exact ⟨Step.ret_str HD.out, HB7.out⟩

end Go.Proofs.YtdpgfnnhbfkacaaGreatDoor.Def
