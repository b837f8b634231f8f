/-
  The contracts of the program's takeStep, bad and Take: any reader; nothing else is turned.
-/
import Derived.Test.YtdpgfnnhbfkacaaGreatDoorPrDefPlain
import Derived.Test.YtdpgfnnhbfkacaaGreatDoorPrShelf
import Derived.Test.YtdpgfnnhbfkacaaGreatDoorPrDefH
import Derived.Test.YtdpgfnnhbfkacaaGreatDoorPrWireK
import Derived.Test.YtdpgfnnhbfkacaaGreatDoorPrMix
import Derived.Shelf.Strings.BuilderK
set_option linter.unusedVariables false
set_option linter.unusedSimpArgs false
set_option maxRecDepth 4000
namespace Go.Proofs.YtdpgfnnhbfkacaaGreatDoor.Def
open Go.RowKit DefP
open WireP (rdInt rdText rdList lenOk enc text ok num nl left done)
open Wire (RdAt RqAt RdStep)
open Go.Proofs.YtdpgfnnhbfkacaaGreatDoor.Kt
theorem owns_grown {w w' : World} {B n size b : Nat} {e : TypeId} {v : Value} {xs : List Value} (h : w.ownsRow B e size v n xs) (hg : w.grownBy w' (some b)) (hb : b < B) : w'.ownsRow B e size v n xs := by
  refine ⟨h.1, ?_⟩
  rcases h.2 with hn | ⟨g, cap, cur, hv, hbg, hgg, rest⟩
  · exact .inl hn
  · exact .inr ⟨g, cap, cur, hv, hbg, (hg.block g (Array.getElem?_eq_some_iff.1 hgg).1 (by simp; omega)).trans hgg, rest⟩
theorem grown_below {w w' : World} (h : Below w.heap.size w w') (row : Option Nat) : w.grownBy w' row := ⟨h.os, h.tape, h.output, h.size, fun i hi _ => h.block i hi⟩
theorem grown_trans {a b c : World} {r : Nat} (h : a.grownBy b (some r)) (k : b.grownBy c (some r)) : a.grownBy c (some r) := h.andThen k (fun j e => .inr e)
theorem clone_any (s : ByteArray) (w : World) (hs : s.size ≤ 100000) :
    Calls Tryz.prog 72 #[.string s] w fun e w' => e = .returned (.string s) ∧ Below w.heap.size w w' := by
  have h := Lib.hid (fun w' => Tryz.stringslite_Clone s w' (by omega))
  go_enter Tryz.func72, Tryz.ntmps72
  go_wp2_with fail
  refine (h.out _).mono ?_
  rintro e w1 ⟨rfl, hb⟩
  have HB := Lib.hid hb
  clear hb
  go_wp2_with fail
  go_ret
  exact ⟨rfl, HB.out⟩
theorem rdText_len (st : Rd) : (rdText 48 st).1.length ≤ 48 := by
  cases st with
  | none => simp [rdText]
  | some l =>
    unfold rdText
    by_cases h : lenOk 48 l
    · simp only [h, if_true]
      have := h.2.2.1
      rw [List.length_take]
      omega
    · simp [h]
theorem bad_st (st : Rd) : st.isNone = (decide (left st = 0) && !done st) := by
  cases st with
  | none => rfl
  | some l =>
    cases l with
    | nil => rfl
    | cons x r => simp [left]

theorem bad_any (b : Nat) (st : Rd) (w : World) (h : RdAt w b st) :
    Calls Tryz.prog 76 #[.pointer (some ⟨b, 0, none⟩)] w fun e w' => e = .returned (.bool st.isNone) ∧ Below w.heap.size w w' := by
  have C1 := Lib.hid (Wire.left_any b st w h)
  obtain ⟨d, hd⟩ : ∃ d, done st = d := ⟨_, rfl⟩
  have C2 := Lib.hid (Wire.rddone_is b st d w h hd)
  have HB := bad_st st
  rw [hd] at HB
  obtain ⟨n, hn⟩ : ∃ n, left st = n := ⟨_, rfl⟩
  rw [hn] at C1 HB
  obtain ⟨v, hv⟩ : ∃ v, st.isNone = v := ⟨_, rfl⟩
  rw [hv] at HB ⊢
  clear hd hn hv h
  by_cases h0 : n = 0
  · subst h0
    have HV : Hid (v = !d) := by show v = _; rw [HB]; simp
    have hz : (((0 : Nat) : Int) == 0) = true := rfl
    clear HB
    go_enter Tryz.func76, Tryz.ntmps76
    go_wp2_with fail
    refine C1.out.mono ?_
    rintro e w1 ⟨rfl, rfl⟩
    go_wp2_with fail
    refine C2.out.mono ?_
    rintro e w2 ⟨rfl, hb2⟩
    have HB2 := Lib.hid hb2
    clear hb2
    cases d with
    | true =>
      go_wp2_with fail
      go_ret
      exact ⟨ret_bool HV.out, HB2.out⟩
    | false =>
      go_wp2_with fail
      go_ret
      exact ⟨ret_bool HV.out, HB2.out⟩
  · have HV : Hid (v = false) := by show v = _; rw [HB]; simp [h0]
    have hz : ((n : Int) == 0) = false := by rw [beq_eq_false_iff_ne]; omega
    clear HB
    go_enter Tryz.func76, Tryz.ntmps76
    go_wp2_with fail
    refine C1.out.mono ?_
    rintro e w1 ⟨rfl, rfl⟩
    go_wp2_with fail
    go_ret
    exact ⟨ret_bool HV.out, Below.refl _ _⟩

theorem grown_then {a b c : World} {r : Nat} (h : a.grownBy b (some r)) (k : Below a.heap.size b c) : a.grownBy c (some r) :=
  ⟨k.os.trans h.os, k.tape.trans h.tape, k.output.trans h.output, Nat.le_trans h.size k.size, fun i hi hr => (k.block i hi).trans (h.block i hi hr)⟩
theorem grown_blk {w w' : World} {b d : Nat} {o : Obj} (h : w.grownBy w' (some b)) (hd : w.heap[d]? = some o) (hne : d ≠ b) : w'.heap[d]? = some o :=
  (h.block d (heap_lt hd) (fun e => by cases e; exact hne rfl)).trans hd
theorem step_blk {w w' : World} {b d : Nat} {o : Obj} {st : Rd} (h : RdStep w b st w') (hd : w.heap[d]? = some o) (hne : d ≠ b) : w'.heap[d]? = some o := grown_blk h.2 hd hne
theorem next_any (b p : Nat) (st st' : Rd) (n : Int) (w : World) (h : RdAt w b st) (hp : w.cell? ⟨p, 0, none⟩ = some (.pointer (some ⟨b, 0, none⟩))) (hr : wide st = (n, st')) :
    Calls Tryz.prog 107 #[.pointer (some ⟨p, 0, none⟩)] w fun e w' => e = .returned (.int .i64 n) ∧ RdStep w b st' w' := by
  have C := Lib.hid (Wire.rdint_is b st st' (-9223372036854775808) 9223372036854775807 n w h hr)
  clear h hr
  go_enter Tryz.func107, Tryz.ntmps107
  go_wp2_with fail
  refine C.out.mono ?_
  rintro e w1 ⟨rfl, hs⟩
  have HS := Lib.hid hs
  clear hs
  go_wp2_with fail
  go_ret
  exact ⟨rfl, HS.out⟩
theorem results_s1 {fn : Func} {j : Nat} (h : fn.results = #[.cell j 49]) (tmps : Array Value) (w : World) (b : Nat) (v0 v1 v2 v3 v4 v5 : Value) (hp : tmps.getD j undef = .pointer (some ⟨b, 0, none⟩))
    (c : At6 49 w b v0 v1 v2 v3 v4 v5) : (results fn tmps).run Tryz.prog w = .ok (.agg #[v0, v1, v2, v3, v4, v5]) w := by
  have hp' : tmps[j]?.getD undef = .pointer (some ⟨b, 0, none⟩) := by rw [← hp]; simp
  obtain ⟨c0, c1, c2, c3, c4, c5⟩ := cells6 c
  simp only [results, h]
  go_simp

set_option maxHeartbeats 4000000 in
theorem takestep_any (b : Nat) (st st' : Rd) (x0 x1 x2 x3 x4 x5 : Int) (w : World) (h : RdAt w b st) (hr : rdSix st = (⟨x0, x1, x2, x3, x4, x5⟩, st')) :
    Calls Tryz.prog 75 #[.pointer (some ⟨b, 0, none⟩)] w fun e w' => e = .returned (.agg #[.int .i64 x0, .int .i64 x1, .int .i64 x2, .int .i64 x3, .int .i64 x4, .int .i64 x5]) ∧ RdStep w b st' w' := by
  have hf := hmf
  unfold rdSix at hr
  simp only [Prod.mk.injEq, StP.St.mk.injEq] at hr
  obtain ⟨⟨hx0, hx1, hx2, hx3, hx4, hx5⟩, hs6⟩ := hr
  obtain ⟨s1, hs1⟩ : ∃ s, (wide st).2 = s := ⟨_, rfl⟩
  rw [hs1] at hx1 hx2 hx3 hx4 hx5 hs6
  obtain ⟨s2, hs2⟩ : ∃ s, (wide s1).2 = s := ⟨_, rfl⟩
  rw [hs2] at hx2 hx3 hx4 hx5 hs6
  obtain ⟨s3, hs3⟩ : ∃ s, (wide s2).2 = s := ⟨_, rfl⟩
  rw [hs3] at hx3 hx4 hx5 hs6
  obtain ⟨s4, hs4⟩ : ∃ s, (wide s3).2 = s := ⟨_, rfl⟩
  rw [hs4] at hx4 hx5 hs6
  obtain ⟨s5, hs5⟩ : ∃ s, (wide s4).2 = s := ⟨_, rfl⟩
  rw [hs5] at hx5 hs6
  obtain ⟨s6, h6⟩ : ∃ s6, st' = s6 := ⟨_, rfl⟩
  rw [h6] at hs6 ⊢
  have E0 := Lib.hid (Prod.ext hx0 hs1 : wide st = (x0, s1))
  have E1 := Lib.hid (Prod.ext hx1 hs2 : wide s1 = (x1, s2))
  have E2 := Lib.hid (Prod.ext hx2 hs3 : wide s2 = (x2, s3))
  have E3 := Lib.hid (Prod.ext hx3 hs4 : wide s3 = (x3, s4))
  have E4 := Lib.hid (Prod.ext hx4 hs5 : wide s4 = (x4, s5))
  have E5 := Lib.hid (Prod.ext hx5 hs6 : wide s5 = (x5, s6))
  have h0 : Below w.heap.size w ((w.alloc (.cells #[.pointer (some ⟨b, 0, none⟩)] 35)).alloc (.cells #[.int .i64 0, .int .i64 0, .int .i64 0, .int .i64 0, .int .i64 0, .int .i64 0] 49)) := ((Below.refl _ w).alloc (Nat.le_refl _) _).alloc (by rw [World.size_alloc]; omega) _
  have hp0 : ((w.alloc (.cells #[.pointer (some ⟨b, 0, none⟩)] 35)).alloc (.cells #[.int .i64 0, .int .i64 0, .int .i64 0, .int .i64 0, .int .i64 0, .int .i64 0] 49)).heap[w.heap.size]? = some (.cells #[.pointer (some ⟨b, 0, none⟩)] 35 (0, 0)) := by
    have := heap_alloc_new w (.cells #[.pointer (some ⟨b, 0, none⟩)] 35)
    rw [← this]
    exact ((Below.refl _ (w.alloc (.cells #[.pointer (some ⟨b, 0, none⟩)] 35))).alloc (Nat.le_refl _) (.cells #[.int .i64 0, .int .i64 0, .int .i64 0, .int .i64 0, .int .i64 0, .int .i64 0] 49)).block w.heap.size (by rw [World.size_alloc]; omega)
  have hk0 : At6 49 ((w.alloc (.cells #[.pointer (some ⟨b, 0, none⟩)] 35)).alloc (.cells #[.int .i64 0, .int .i64 0, .int .i64 0, .int .i64 0, .int .i64 0, .int .i64 0] 49)) (w.heap.size + 1) (.int .i64 0) (.int .i64 0) (.int .i64 0) (.int .i64 0) (.int .i64 0) (.int .i64 0) := by
    have := at6_new 49 (w.alloc (.cells #[.pointer (some ⟨b, 0, none⟩)] 35)) (.int .i64 0) (.int .i64 0) (.int .i64 0) (.int .i64 0) (.int .i64 0) (.int .i64 0)
    rw [World.size_alloc] at this
    exact this
  have ha0 : RdAt ((w.alloc (.cells #[.pointer (some ⟨b, 0, none⟩)] 35)).alloc (.cells #[.int .i64 0, .int .i64 0, .int .i64 0, .int .i64 0, .int .i64 0, .int .i64 0] 49)) b st := h.keep (h0.block b h.lt)
  have hg0 : w.grownBy ((w.alloc (.cells #[.pointer (some ⟨b, 0, none⟩)] 35)).alloc (.cells #[.int .i64 0, .int .i64 0, .int .i64 0, .int .i64 0, .int .i64 0, .int .i64 0] 49)) (some b) := grown_below h0 (some b)
  have hnp : b < w.heap.size := h.lt
  have hnk : b < w.heap.size + 1 := by omega
  have HB := Lib.hid hnp
  obtain ⟨W0, hW0⟩ : ∃ W0, (w.alloc (.cells #[.pointer (some ⟨b, 0, none⟩)] 35)).alloc (.cells #[.int .i64 0, .int .i64 0, .int .i64 0, .int .i64 0, .int .i64 0, .int .i64 0] 49) = W0 := ⟨_, rfl⟩
  rw [hW0] at hp0 hk0 ha0 hg0
  have HW := Lib.hid hW0
  obtain ⟨p, hp⟩ : ∃ p, w.heap.size = p := ⟨_, rfl⟩
  rw [hp] at hp0 hk0 hnp hnk
  have HPE := Lib.hid hp
  obtain ⟨k, hk⟩ : ∃ k, p + 1 = k := ⟨_, rfl⟩
  rw [hk] at hk0 hnk
  have HKE := Lib.hid hk
  have HA0 := Lib.hid ha0; have HP0 := Lib.hid hp0; have HK0 := Lib.hid hk0; have HG0 := Lib.hid hg0; have HNP := Lib.hid hnp; have HNK := Lib.hid hnk
  have q0 := cell_of_heap (i := 0) HP0.out
  clear h h0 hp0 hk0 ha0 hg0 hnp hnk hW0 hp hk h6 hx0 hs1 hx1 hs2 hx2 hs3 hx3 hs4 hx4 hs5 hx5 hs6
  go_enter Tryz.func75, Tryz.ntmps75
  go_wp2_with fail
  rw [show (w.alloc (.cells #[.pointer (some ⟨b, 0, none⟩)] 35)).alloc (.cells #[.int .i64 0, .int .i64 0, .int .i64 0, .int .i64 0, .int .i64 0, .int .i64 0] 49) = W0 from HW.out]
  rw [show w.heap.size = p from HPE.out]
  rw [show p + 1 = k from HKE.out]
  go_wp2_with fail
  refine (next_any b p st s1 x0 W0 HA0.out (cell_of_heap HP0.out) E0.out).mono ?_
  rintro e W1 ⟨rfl, hs⟩
  have HA1 := Lib.hid hs.1
  have HP1 := Lib.hid (step_blk hs HP0.out (Nat.ne_of_gt HNP.out))
  have HK1 := Lib.hid (step_blk hs HK0.out (Nat.ne_of_gt HNK.out))
  have HG1 := Lib.hid (grown_trans HG0.out hs.2)
  have q1 := cell_of_heap (i := 0) HP1.out
  clear hs HA0 HP0 HK0 HG0 q0
  go_wp2_with fail
  refine (next_any b p s1 s2 x1 W1 HA1.out (cell_of_heap HP1.out) E1.out).mono ?_
  rintro e W2 ⟨rfl, hs⟩
  have HA2 := Lib.hid hs.1
  have HP2 := Lib.hid (step_blk hs HP1.out (Nat.ne_of_gt HNP.out))
  have HK2 := Lib.hid (step_blk hs HK1.out (Nat.ne_of_gt HNK.out))
  have HG2 := Lib.hid (grown_trans HG1.out hs.2)
  have q2 := cell_of_heap (i := 0) HP2.out
  clear hs HA1 HP1 HK1 HG1 q1
  go_wp2_with fail
  refine (next_any b p s2 s3 x2 W2 HA2.out (cell_of_heap HP2.out) E2.out).mono ?_
  rintro e W3 ⟨rfl, hs⟩
  have HA3 := Lib.hid hs.1
  have HP3 := Lib.hid (step_blk hs HP2.out (Nat.ne_of_gt HNP.out))
  have HK3 := Lib.hid (step_blk hs HK2.out (Nat.ne_of_gt HNK.out))
  have HG3 := Lib.hid (grown_trans HG2.out hs.2)
  have q3 := cell_of_heap (i := 0) HP3.out
  clear hs HA2 HP2 HK2 HG2 q2
  go_wp2_with fail
  refine (next_any b p s3 s4 x3 W3 HA3.out (cell_of_heap HP3.out) E3.out).mono ?_
  rintro e W4 ⟨rfl, hs⟩
  have HA4 := Lib.hid hs.1
  have HP4 := Lib.hid (step_blk hs HP3.out (Nat.ne_of_gt HNP.out))
  have HK4 := Lib.hid (step_blk hs HK3.out (Nat.ne_of_gt HNK.out))
  have HG4 := Lib.hid (grown_trans HG3.out hs.2)
  have q4 := cell_of_heap (i := 0) HP4.out
  clear hs HA3 HP3 HK3 HG3 q3
  go_wp2_with fail
  refine (next_any b p s4 s5 x4 W4 HA4.out (cell_of_heap HP4.out) E4.out).mono ?_
  rintro e W5 ⟨rfl, hs⟩
  have HA5 := Lib.hid hs.1
  have HP5 := Lib.hid (step_blk hs HP4.out (Nat.ne_of_gt HNP.out))
  have HK5 := Lib.hid (step_blk hs HK4.out (Nat.ne_of_gt HNK.out))
  have HG5 := Lib.hid (grown_trans HG4.out hs.2)
  have q5 := cell_of_heap (i := 0) HP5.out
  clear hs HA4 HP4 HK4 HG4 q4
  go_wp2_with fail
  refine (next_any b p s5 s6 x5 W5 HA5.out (cell_of_heap HP5.out) E5.out).mono ?_
  rintro e W6 ⟨rfl, hs⟩
  have HA6 := Lib.hid hs.1
  have HP6 := Lib.hid (step_blk hs HP5.out (Nat.ne_of_gt HNP.out))
  have HK6 := Lib.hid (step_blk hs HK5.out (Nat.ne_of_gt HNK.out))
  have HG6 := Lib.hid (grown_trans HG5.out hs.2)
  have q6 := cell_of_heap (i := 0) HP6.out
  clear hs HA5 HP5 HK5 HG5 q5
  obtain ⟨z0, z1, z2, z3, z4, z5⟩ := cells6 HK6.out
  obtain ⟨f0, f1, f2, f3, f4, f5⟩ := free6 HK6.out
  have HRS := Lib.hid (heap_put6 HK6.out (.int .i64 x0) (.int .i64 x1) (.int .i64 x2) (.int .i64 x3) (.int .i64 x4) (.int .i64 x5))
  have hbb : Below w.heap.size W6 (put6 W6 k (.int .i64 x0) (.int .i64 x1) (.int .i64 x2) (.int .i64 x3) (.int .i64 x4) (.int .i64 x5)) := below_put6 (Below.refl _ _) (by rw [HPE.out]; have := HKE.out; have h2 : p + 1 = k := this; omega) (.int .i64 x0) (.int .i64 x1) (.int .i64 x2) (.int .i64 x3) (.int .i64 x4) (.int .i64 x5)
  have HGE := Lib.hid (grown_then HG6.out hbb)
  have HAE := Lib.hid (HA6.out.keep (hbb.block b HB.out))
  clear hbb
  go_wp2_with fail
  exact bodyPost_ret (results_s1 (j := 2) rfl _ _ k _ _ _ _ _ _ rfl HRS.out) rfl ⟨rfl, HAE.out, HGE.out⟩

structure TS (w W : World) (b d base : Nat) (n : ByteArray) (v : Value) : Prop where
  g : w.grownBy W (some b)
  res : At2 24 W w.heap.size (.string ⟨#[]⟩) (.slice none 0 0)
  box : At2 24 W d (.string n) v
  blt : b < w.heap.size
  dlt : w.heap.size < d
  dhb : d < base
  siz : base ≤ W.heap.size
theorem TS.grow {w W W' : World} {b d base : Nat} {n : ByteArray} {v : Value} (r : TS w W b d base n v) (hg : W.grownBy W' (some b)) : TS w W' b d base n v :=
  have h1 := r.blt
  have h2 := r.dlt
  ⟨grown_trans r.g hg, grown_blk hg r.res (by omega), grown_blk hg r.box (by omega), r.blt, r.dlt, r.dhb, Nat.le_trans r.siz hg.size⟩
theorem TS.keep {w W W' : World} {b d base : Nat} {n : ByteArray} {v : Value} (r : TS w W b d base n v) (hb : Below W.heap.size W W') : TS w W' b d base n v := r.grow (grown_below hb (some b))
theorem TS.grown {w W W' : World} {b d base : Nat} {n : ByteArray} {v : Value} (r : TS w W b d base n v) (hb : Below base W W') : TS w W' b d base n v :=
  have h1 := r.blt
  have h2 := r.dlt
  have h3 := r.dhb
  ⟨grown_then r.g (hb.mono (by omega)), r.res.keepB hb (by omega), r.box.keepB hb r.dhb, r.blt, r.dlt, r.dhb, Nat.le_trans r.siz hb.size⟩
theorem TS.set {w W : World} {b d base : Nat} {n : ByteArray} {v : Value} (r : TS w W b d base n v) (u : Value) : TS w (W.setCell ⟨d, 1, none⟩ u) b d base n u := by
  have hs : (W.setCell ⟨d, 1, none⟩ u).heap.size = W.heap.size := by simp
  have hd := r.dlt
  refine ⟨grown_then r.g ((Below.refl _ W).setCell (p := ⟨d, 1, none⟩) (Nat.le_of_lt r.dlt) _), (heap_setCell_other _ _ _ _ (by show w.heap.size ≠ d; omega)).trans r.res, ?_, r.blt, r.dlt, r.dhb, by rw [hs]; exact r.siz⟩
  have h1 := Lib.heap_setCell_same (i := 1) r.box u
  unfold At2
  rw [h1]
  rfl
theorem rd_set {W : World} {b d : Nat} {st : Rd} {u : Value} (h : RdAt W b st) (hne : b ≠ d) : RdAt (W.setCell ⟨d, 1, none⟩ u) b st := h.keep (heap_setCell_other _ _ _ _ (by exact hne))
def TkR (At : World → Nat → Rd → Prop) (w : World) (b : Nat) (st : Rd) (e : Ending) (w' : World) : Prop :=
  w.grownBy w' (some b) ∧ At w' b (takeA st).2 ∧ ∃ a c, e = .returned (dv (takeD st).name a (takeD st).steps.length c) ∧ (takeD st).steps.length ≤ c ∧ StAt w' a (takeD st).steps.length (takeD st).steps ∧ ((takeD st).steps.length = 0 ∨ ∃ g, a = some ⟨g, 0, none⟩ ∧ w.heap.size ≤ g)
theorem offN {W : World} {B C n c size : Nat} {e : TypeId} {a : Option Addr} {xs : List Value} (h : W.ownsRow B e size (.slice a n c) n xs) (hC : C ≤ B) : n = 0 ∨ ∃ g, a = some ⟨g, 0, none⟩ ∧ C ≤ g := by
  rcases Rw.owns_form h with ⟨_, h0⟩ | ⟨g, cap, e, hg, _⟩
  · exact .inl h0
  · cases e; exact .inr ⟨g, rfl, Nat.le_trans hC hg⟩
theorem tkR_no {At : World → Nat → Rd → Prop} {w w' : World} {b : Nat} {st st2 : Rd} {d : Df} (h : takeA st = (d, st2)) (hn : st2.isNone = true) (hg : w.grownBy w' (some b)) (ha : At w' b st2) : TkR At w b st (.returned (dv ⟨#[]⟩ none 0 0)) w' := by
  have hv : takeD st = df0 := by unfold takeD; rw [h]; simp [hn]
  exact ⟨hg, by rw [h]; exact ha, none, 0, by rw [hv]; rfl, by rw [hv]; exact Nat.le_refl _, by rw [hv]; exact Rw.At.nil _ _ _, by rw [hv]; exact .inl rfl⟩
theorem tkR_yes {At : World → Nat → Rd → Prop} {w w' : World} {b n c : Nat} {st st2 : Rd} {d : Df} {s : ByteArray} {l : List Step} {a : Option Addr} (h : takeA st = (d, st2)) (hd : d = ⟨s, l⟩) (hn : st2.isNone = false) (hl : l.length = n) (hc : n ≤ c) (hg : w.grownBy w' (some b)) (ha : At w' b st2) (hat : StAt w' a n l) (h0 : n = 0 ∨ ∃ g, a = some ⟨g, 0, none⟩ ∧ w.heap.size ≤ g) : TkR At w b st (.returned (dv s a n c)) w' := by
  subst hl; subst hd
  have hv : takeD st = ⟨s, l⟩ := by unfold takeD; rw [h]; simp [hn]
  exact ⟨hg, by rw [h]; exact ha, a, c, by rw [hv], by rw [hv]; exact hc, by rw [hv]; exact hat, by rw [hv]; exact h0⟩
theorem ts_new {w W : World} {b : Nat} {n : ByteArray} (hb : b < w.heap.size) (hg : (w.alloc (.cells #[.string ⟨#[]⟩, .slice none 0 0] 24)).grownBy W (some b)) :
    TS w (W.alloc (.cells #[.string n, .slice none 0 0] 24)) b W.heap.size (W.heap.size + 1) n (.slice none 0 0) := by
  have hz : (w.alloc (.cells #[.string ⟨#[]⟩, .slice none 0 0] 24)).heap.size = w.heap.size + 1 := by simp
  have a0 : At2 24 (w.alloc (.cells #[.string ⟨#[]⟩, .slice none 0 0] 24)) w.heap.size (.string ⟨#[]⟩) (.slice none 0 0) := at2_new 24 w _ _
  have a1 := at2_new 24 W (.string n) (.slice none 0 0)
  have hb0 : Below w.heap.size w (w.alloc (.cells #[.string ⟨#[]⟩, .slice none 0 0] 24)) := (Below.refl _ _).alloc (Nat.le_refl _) _
  have hsz := hg.size
  rw [hz] at hsz
  have hgw : w.grownBy W (some b) := grown_trans (grown_below hb0 (some b)) hg
  have a0' : At2 24 W w.heap.size (.string ⟨#[]⟩) (.slice none 0 0) := grown_blk hg a0 (by omega)
  exact ⟨grown_then hgw ((Below.refl _ _).alloc (by omega) _), a0'.alloc _, a1, hb, by omega, by omega, by rw [World.size_alloc]; exact Nat.le_refl _⟩
theorem TS.base {w W : World} {b d base base' : Nat} {n : ByteArray} {v : Value} (r : TS w W b d base n v) (h : base ≤ base') (h2 : base' ≤ W.heap.size) : TS w W b d base' n v :=
  ⟨r.g, r.res, r.box, r.blt, r.dlt, Nat.lt_of_lt_of_le r.dhb h, h2⟩

set_option maxHeartbeats 8000000 in
theorem take_any (b : Nat) (st : Rd) (w : World) (h : RdAt w b st) : Calls Tryz.prog 23 #[.pointer (some ⟨b, 0, none⟩)] w (TkR RdAt w b st) := by
  obtain ⟨z, hz⟩ : ∃ z : ByteArray, (rdText 48 st).1 = z.data.toList := ⟨Step.bs (rdText 48 st).1, (Step.data_bs _).symm⟩
  obtain ⟨st1, hst1⟩ : ∃ st1, (rdText 48 st).2 = st1 := ⟨_, rfl⟩
  obtain ⟨m, hm⟩ : ∃ m : Nat, (rdList 6 st1).1 = (m : Int) := ⟨(rdList 6 st1).1.toNat, by have := (rdList_bounds st1).1; omega⟩
  have hm6 : m ≤ 6 := by have := (rdList_bounds st1).2; omega
  obtain ⟨st2, hst2⟩ : ∃ st2, (rdList 6 st1).2 = st2 := ⟨_, rfl⟩
  obtain ⟨R, hR⟩ : ∃ R, takeA st = R := ⟨_, rfl⟩
  have HR := Lib.hid hR
  have HT : Hid (((⟨z, (takeUp m [] st2).1⟩ : Df), (takeUp m [] st2).2) = R) := by
    show _ = R
    rw [← hR]
    unfold takeA
    rw [hst1, hst2, hm, hz, bs_arr, Int.toNat_natCast]
  have hzl : z.size ≤ 48 := by rw [Step.size_list, ← hz]; exact rdText_len st
  have hb0 : Below w.heap.size w (w.alloc (.cells #[.string ⟨#[]⟩, .slice none 0 0] 24)) := (Below.refl _ _).alloc (Nat.le_refl _) _
  have C0 := Lib.hid (Wire.rdtext_is b st st1 48 z (w.alloc (.cells #[.string ⟨#[]⟩, .slice none 0 0] 24)) (h.keep (hb0.block b h.lt)) (Prod.ext hz hst1))
  have C1 := Lib.hid (fun W (hA : RdAt W b st1) => Wire.rdlist_is b st1 st2 6 m W hA (Prod.ext hm hst2))
  have HLT := Lib.hid h.lt
  clear hz hst1 hst2 hm hR h hb0
  go_enter Tryz.func23, Tryz.ntmps23
  go_wp2_with fail
  refine C0.out.mono ?_
  rintro e w1 ⟨rfl, hs1⟩
  have HA1 := Lib.hid hs1.1
  have HG1 := Lib.hid hs1.2
  clear hs1 C0
  go_wp2_with fail
  refine (clone_any z w1 (by omega)).mono ?_
  rintro e w2 ⟨rfl, hb2⟩
  have hg2 := grown_trans HG1.out (grown_below hb2 (some b))
  have HS2 := Lib.hid (ts_new (n := z) HLT.out hg2)
  have HA2 := Lib.hid ((HA1.out.keep (hb2.block _ HA1.out.lt)).keep (((Below.refl w2.heap.size w2).alloc (Nat.le_refl _) (.cells #[.string z, .slice none 0 0] 24)).block b (Nat.lt_of_lt_of_le HA1.out.lt hb2.size)))
  obtain ⟨d, hd⟩ : ∃ d, w2.heap.size = d := ⟨_, rfl⟩
  have C1 := Lib.hid (C1.out _ HA2.out)
  rw [hd] at HS2
  have HDE := Lib.hid hd
  clear hb2 hg2 HG1 HA1 hd
  go_wp2_with fail
  rw [show w2.heap.size = d from HDE.out]
  refine C1.out.mono ?_
  rintro e w3 ⟨rfl, hs3⟩
  have HA3 := Lib.hid hs3.1
  have hs3b := HS2.out.grow hs3.2
  have HS3 := Lib.hid (hs3b.base (base' := w3.heap.size) hs3b.siz (Nat.le_refl _))
  clear hs3 hs3b HS2 HA2 C1 HDE
  have HBB : Hid (b < w3.heap.size) := by show _ < _; have h1 := HS3.out.blt; have h2 := HS3.out.dlt; have h3 := HS3.out.dhb; omega
  go_wp2_with fail
  go_loopw [10] (fun i wr => ∃ (k : Nat) (acc : List Step) (sk : Rd) (a : Option Addr) (c : Nat), k ≤ m ∧ i = .int .i64 (k : Int) ∧ acc.length = k ∧ Hid (((⟨z, (takeUp (m - k) acc sk).1⟩ : Df), (takeUp (m - k) acc sk).2) = R) ∧ Hid (RdAt wr b sk) ∧ Hid (wr.ownsRow w3.heap.size 49 6 (.slice a k c) k (Rw.cells stS acc)) ∧ Hid (TS w wr b d w3.heap.size z (.slice a k c))) (fun i _ => m - (intOf i).toNat)
  case atStart => exact ⟨0, [], st2, none, 0, Nat.zero_le _, rfl, rfl, HT, HA3, Lib.hid (World.ownsRow_nil _ _ _ _), HS3⟩
  case round =>
    obtain ⟨k, acc, sk, a, c, hk, rfl, hal, hT, hA, hO, hS⟩ := hrel
    by_cases hlk : k < m
    · obtain ⟨x0, x1, x2, x3, x4, x5, sk2, hsix⟩ : ∃ x0 x1 x2 x3 x4 x5 sk2, rdSix sk = (⟨x0, x1, x2, x3, x4, x5⟩, sk2) := ⟨(rdSix sk).1.op, (rdSix sk).1.cls, (rdSix sk).1.tries, (rdSix sk).1.base, (rdSix sk).1.cap, (rdSix sk).1.wait, (rdSix sk).2, rfl⟩
      have HT2 : Hid (((⟨z, (takeUp (m - (k + 1)) (acc ++ [⟨x0, x1, x2, x3, x4, x5⟩]) sk2).1⟩ : Df), (takeUp (m - (k + 1)) (acc ++ [⟨x0, x1, x2, x3, x4, x5⟩]) sk2).2) = R) := by
        show _ = R
        rw [← hT.out, show m - k = (m - (k + 1)) + 1 by omega, takeUp_step hsix]
      have HS1 := Lib.hid (hS.out.keep (below_drew (Below.refl _ wr)))
      have HO1 := Lib.hid (Rw.owns_below hO.out (below_drew (Below.refl _ wr)))
      have CT := Lib.hid (takestep_any b sk sk2 x0 x1 x2 x3 x4 x5 wr.drew (hA.out.keep rfl) hsix)
      obtain ⟨_, g1⟩ := cells2 HS1.out.box
      clear hT hsix hA hO hS
      go_wp2_with fail
      refine wp_region_any (by kernel_rfl) ?_
      change wpAny _ _ _ _ _ _ _ (World.drew _)
      refine wpAny_take (i := 0) (v := ?_) rfl (by kernel_rfl) (by kernel_rfl) (by kernel_rfl) (fun _ _ _ h => h) (Or.inl ⟨by kernel_rfl, ?_⟩) ?_; rotate_left; focus ((intro w'); go_simp; (try with_reducible rfl))
      refine wpAny_take (i := 2) (v := ?_) rfl (by kernel_rfl) (by kernel_rfl) (by kernel_rfl) (fun _ _ _ h => h) (Or.inl ⟨by kernel_rfl, ?_⟩) ?_; rotate_left; focus ((intro w'); go_simp; (try with_reducible rfl))
      refine wpAny_ready (rs := [1, 3]) (by kernel_rfl) (by simp) ?_
      refine AllReady.cons rfl (fun K hK => ?_) (AllReady.cons rfl (fun K hK => ?_) AllReady.nil)
      · go_simp
        refine hK _ _ ?_
        clear hK K
        refine wpAny_ready (rs := [3]) (by kernel_rfl) (by simp) ?_
        refine AllReady.cons rfl (fun K hK => ?_) AllReady.nil
        go_simp
        refine CT.out.mono ?_
        rintro e W9 ⟨rfl, hs9⟩
        have HA9 := Lib.hid hs9.1
        have HS9 := Lib.hid (HS1.out.grow hs9.2)
        have HO9 := Lib.hid (owns_grown HO1.out hs9.2 HBB.out)
        obtain ⟨_, g2⟩ := cells2 HS9.out.box
        have g3 := (cells2 (HS9.out.box.alloc (.cells #[.int .i64 x0, .int .i64 x1, .int .i64 x2, .int .i64 x3, .int .i64 x4, .int .i64 x5] 49))).2
        clear hs9 CT
        refine hK _ _ ?_
        clear hK K
        refine wpAny_ready (rs := [4]) (by kernel_rfl) (by simp) ?_
        refine AllReady.cons rfl (fun K hK => ?_) AllReady.nil
        go_simp
        refine hK _ _ ?_
        clear hK K
        refine Mix.wpAny_of_seqV [5, 6, 7] _ _ _ (by kernel_rfl) ?_
        simp only [Mix.pick, List.filterMap_cons, List.filterMap_nil, List.getElem?_cons_zero, List.getElem?_cons_succ]
        refine Rw.append_one stS rfl (.tmp 13) (.tmp 16) rfl w3.heap.size W9 _ rfl ⟨x0, x1, x2, x3, x4, x5⟩ _ rfl (.slice a k c) k acc rfl HO9.out rfl (by omega) HS9.out.siz ?_
        intro v' wa hown hgrow
        obtain ⟨a9, c9, rfl, hc9⟩ := Rw.owns_slice hown
        have hbb : Below w3.heap.size W9 wa := Rw.below_append (Below.refl _ _) HS9.out.siz HO9.out hgrow
        have HSA := Lib.hid (HS9.out.grown hbb)
        have HAA := Lib.hid (HA9.out.keep (hbb.block b HBB.out))
        have HSB := Lib.hid (HSA.out.set (.slice a9 (k + 1) c9))
        have HAB := Lib.hid (rd_set (d := d) (u := .slice a9 (k + 1) c9) HAA.out (by have := HSA.out.blt; have h2 := HSA.out.dlt; omega))
        have HOB := Lib.hid (owns_set (u := .slice a9 (k + 1) c9) hown HSA.out.dhb)
        clear g2 g3
        obtain ⟨_, g2⟩ := cells2 HSA.out.box
        obtain ⟨_, f2⟩ := free2 HSA.out.box
        clear hown hgrow hbb HO9 HS9 HA9 HSA HAA
        go_wp2_with fail
        go_roundw
        case rel => exact ⟨k + 1, acc ++ [⟨x0, x1, x2, x3, x4, x5⟩], sk2, a9, c9, by omega, by go_num, by rw [List.length_append, hal]; rfl, HT2, HAB, HOB, HSB⟩
        case measure => simp [intOf]; omega
      · go_simp
        refine CT.out.mono ?_
        rintro e W9 ⟨rfl, hs9⟩
        have HA9 := Lib.hid hs9.1
        have HS9 := Lib.hid (HS1.out.grow hs9.2)
        have HO9 := Lib.hid (owns_grown HO1.out hs9.2 HBB.out)
        obtain ⟨_, g2⟩ := cells2 HS9.out.box
        have g3 := (cells2 (HS9.out.box.alloc (.cells #[.int .i64 x0, .int .i64 x1, .int .i64 x2, .int .i64 x3, .int .i64 x4, .int .i64 x5] 49))).2
        clear hs9 CT
        refine hK _ _ ?_
        clear hK K
        refine wpAny_ready (rs := [1, 4]) (by kernel_rfl) (by simp) ?_
        refine AllReady.cons rfl (fun K hK => ?_) (AllReady.cons rfl (fun K hK => ?_) AllReady.nil)
        · go_simp
          refine hK _ _ ?_
          clear hK K
          refine wpAny_ready (rs := [4]) (by kernel_rfl) (by simp) ?_
          refine AllReady.cons rfl (fun K hK => ?_) AllReady.nil
          go_simp
          refine hK _ _ ?_
          clear hK K
          refine Mix.wpAny_of_seqV [5, 6, 7] _ _ _ (by kernel_rfl) ?_
          simp only [Mix.pick, List.filterMap_cons, List.filterMap_nil, List.getElem?_cons_zero, List.getElem?_cons_succ]
          refine Rw.append_one stS rfl (.tmp 13) (.tmp 16) rfl w3.heap.size W9 _ rfl ⟨x0, x1, x2, x3, x4, x5⟩ _ rfl (.slice a k c) k acc rfl HO9.out rfl (by omega) HS9.out.siz ?_
          intro v' wa hown hgrow
          obtain ⟨a9, c9, rfl, hc9⟩ := Rw.owns_slice hown
          have hbb : Below w3.heap.size W9 wa := Rw.below_append (Below.refl _ _) HS9.out.siz HO9.out hgrow
          have HSA := Lib.hid (HS9.out.grown hbb)
          have HAA := Lib.hid (HA9.out.keep (hbb.block b HBB.out))
          have HSB := Lib.hid (HSA.out.set (.slice a9 (k + 1) c9))
          have HAB := Lib.hid (rd_set (d := d) (u := .slice a9 (k + 1) c9) HAA.out (by have := HSA.out.blt; have h2 := HSA.out.dlt; omega))
          have HOB := Lib.hid (owns_set (u := .slice a9 (k + 1) c9) hown HSA.out.dhb)
          clear g2 g3
          obtain ⟨_, g2⟩ := cells2 HSA.out.box
          obtain ⟨_, f2⟩ := free2 HSA.out.box
          clear hown hgrow hbb HO9 HS9 HA9 HSA HAA
          go_wp2_with fail
          go_roundw
          case rel => exact ⟨k + 1, acc ++ [⟨x0, x1, x2, x3, x4, x5⟩], sk2, a9, c9, by omega, by go_num, by rw [List.length_append, hal]; rfl, HT2, HAB, HOB, HSB⟩
          case measure => simp [intOf]; omega
        · go_simp
          refine hK _ _ ?_
          clear hK K
          refine wpAny_ready (rs := [1]) (by kernel_rfl) (by simp) ?_
          refine AllReady.cons rfl (fun K hK => ?_) AllReady.nil
          go_simp
          refine hK _ _ ?_
          clear hK K
          refine Mix.wpAny_of_seqV [5, 6, 7] _ _ _ (by kernel_rfl) ?_
          simp only [Mix.pick, List.filterMap_cons, List.filterMap_nil, List.getElem?_cons_zero, List.getElem?_cons_succ]
          refine Rw.append_one stS rfl (.tmp 13) (.tmp 16) rfl w3.heap.size W9 _ rfl ⟨x0, x1, x2, x3, x4, x5⟩ _ rfl (.slice a k c) k acc rfl HO9.out rfl (by omega) HS9.out.siz ?_
          intro v' wa hown hgrow
          obtain ⟨a9, c9, rfl, hc9⟩ := Rw.owns_slice hown
          have hbb : Below w3.heap.size W9 wa := Rw.below_append (Below.refl _ _) HS9.out.siz HO9.out hgrow
          have HSA := Lib.hid (HS9.out.grown hbb)
          have HAA := Lib.hid (HA9.out.keep (hbb.block b HBB.out))
          have HSB := Lib.hid (HSA.out.set (.slice a9 (k + 1) c9))
          have HAB := Lib.hid (rd_set (d := d) (u := .slice a9 (k + 1) c9) HAA.out (by have := HSA.out.blt; have h2 := HSA.out.dlt; omega))
          have HOB := Lib.hid (owns_set (u := .slice a9 (k + 1) c9) hown HSA.out.dhb)
          clear g2 g3
          obtain ⟨_, g2⟩ := cells2 HSA.out.box
          obtain ⟨_, f2⟩ := free2 HSA.out.box
          clear hown hgrow hbb HO9 HS9 HA9 HSA HAA
          go_wp2_with fail
          go_roundw
          case rel => exact ⟨k + 1, acc ++ [⟨x0, x1, x2, x3, x4, x5⟩], sk2, a9, c9, by omega, by go_num, by rw [List.length_append, hal]; rfl, HT2, HAB, HOB, HSB⟩
          case measure => simp [intOf]; omega
    · obtain rfl : k = m := by omega
      have hT0 : R = (⟨z, acc⟩, sk) := by rw [← hT.out, Nat.sub_self]; rfl
      have CB := Lib.hid (bad_any b sk wr hA.out)
      obtain ⟨g0, g1⟩ := cells2 hS.out.box
      have hac := Rw.owns_room hO.out
      cases hn : sk.isNone with
      | true =>
        rw [hn] at CB
        clear hT g0 g1
        go_wp2_with fail
        refine CB.out.mono ?_
        rintro e w8 ⟨rfl, hb⟩
        have HS8 := Lib.hid (hS.out.keep hb)
        have HA8 := Lib.hid (hA.out.keep (hb.block b hA.out.lt))
        clear hb
        obtain ⟨e0, e1⟩ := cells2 HS8.out.res
        obtain ⟨f0, f1⟩ := free2 HS8.out.res
        have HRS := Lib.hid (heap_put2 HS8.out.res (.string ⟨#[]⟩) (.slice none 0 0))
        have hbb : Below w.heap.size w8 (put2 w8 w.heap.size (.string ⟨#[]⟩) (.slice none 0 0)) := below_put2 (Below.refl _ _) (Nat.le_refl _) _ _
        have HGE := Lib.hid (grown_then HS8.out.g hbb)
        have HAE := Lib.hid (HA8.out.keep (hbb.block b HLT.out))
        have HRE := Lib.hid (HR.out.trans hT0)
        clear hbb hT0
        go_wp2_with fail
        exact bodyPost_ret (results_df1 (j := 2) rfl _ _ w.heap.size _ _ rfl HRS.out) rfl (tkR_no HRE.out hn HGE.out HAE.out)
      | false =>
        rw [hn] at CB
        clear hT g0 g1
        go_wp2_with fail
        refine CB.out.mono ?_
        rintro e w8 ⟨rfl, hb⟩
        have HS8 := Lib.hid (hS.out.keep hb)
        have HA8 := Lib.hid (hA.out.keep (hb.block b hA.out.lt))
        have HO8 := Lib.hid (Rw.owns_below hO.out hb)
        clear hb
        obtain ⟨g0, g1⟩ := cells2 HS8.out.box
        obtain ⟨e0, e1⟩ := cells2 HS8.out.res
        obtain ⟨f0, f1⟩ := free2 HS8.out.res
        have HRS := Lib.hid (heap_put2 HS8.out.res (.string z) (.slice a k c))
        have hbb : Below w.heap.size w8 (put2 w8 w.heap.size (.string z) (.slice a k c)) := below_put2 (Below.refl _ _) (Nat.le_refl _) _ _
        have HGE := Lib.hid (grown_then HS8.out.g hbb)
        have HAE := Lib.hid (HA8.out.keep (hbb.block b HLT.out))
        have HAT : Hid (StAt (put2 w8 w.heap.size (.string z) (.slice a k c)) a k acc) := Rw.own_at (S := stS) (Rw.owns_heap HO8.out fun g hg => put2_other _ _ (by have := (HO8.out.lt g hg).1; have h1 := HS8.out.dlt; have h2 := HS8.out.dhb; omega)) hal (by omega)
        have HRE := Lib.hid (HR.out.trans hT0)
        have HOF := Lib.hid (offN hO.out (show w.heap.size ≤ w3.heap.size by have h1 := hS.out.dlt; have h2 := hS.out.dhb; omega))
        clear hbb hT0
        go_wp2_with fail
        exact bodyPost_ret (results_df1 (j := 2) rfl _ _ w.heap.size _ _ rfl HRS.out) rfl (tkR_yes HRE.out rfl hn hal hac HGE.out HAE.out HAT.out HOF.out)
end Go.Proofs.YtdpgfnnhbfkacaaGreatDoor.Def

/-
  The contract of the document's Take: any reader; nothing else is turned.
-/
set_option linter.unusedVariables false
set_option linter.unusedSimpArgs false
set_option maxRecDepth 4000
namespace Go.Proofs.YtdpgfnnhbfkacaaGreatDoor.Def
open Go.RowKit DefP
open WireP (rdInt rdText rdList lenOk enc text ok num nl left done)
open Wire (RdAt RqAt RdStep)
open Go.Proofs.YtdpgfnnhbfkacaaGreatDoor.Kt
def RqStep (w : World) (b : Nat) (st : Rd) (w' : World) : Prop := RqAt w' b st ∧ w.grownBy w' (some b)
theorem wide_is (b : Nat) (st st' : Rd) (n : Int) (w : World) (h : RqAt w b st) (hr : wide st = (n, st')) :
    Calls Tryz.prog 79 #[.pointer (some ⟨b, 0, none⟩)] w fun e w' => e = .returned (.int .i64 n) ∧ RqStep w b st' w' := by
  have h2 := Wire.rqint_any b st (-9223372036854775808) 9223372036854775807 w h
  rw [show rdInt (-9223372036854775808) 9223372036854775807 st = (n, st') from hr] at h2
  have C := Lib.hid h2
  clear h hr h2
  go_enter Tryz.func79, Tryz.ntmps79
  go_wp2_with fail
  refine C.out.mono ?_
  rintro e w1 ⟨rfl, hs⟩
  have HS := Lib.hid hs
  clear hs
  go_wp2_with fail
  go_ret
  exact ⟨rfl, HS.out⟩
theorem rqtext_is (b : Nat) (st st' : Rd) (most : Int) (z : ByteArray) (w : World) (h : RqAt w b st) (hr : rdText most st = (z.data.toList, st')) :
    Calls Tryz.prog 77 #[.pointer (some ⟨b, 0, none⟩), .int .i64 most] w fun e w' => e = .returned (.string z) ∧ RqStep w b st' w' := by
  have h2 := Wire.rqtext_any b st most w h
  rw [hr] at h2
  rw [show (⟨(z.data.toList, st').1.toArray⟩ : ByteArray) = z from Step.bs_data z] at h2
  exact h2
theorem rqlist_is (b : Nat) (st st' : Rd) (most n : Int) (w : World) (h : RqAt w b st) (hr : rdList most st = (n, st')) :
    Calls Tryz.prog 78 #[.pointer (some ⟨b, 0, none⟩), .int .i64 most] w fun e w' => e = .returned (.int .i64 n) ∧ RqStep w b st' w' := by
  have h2 := Wire.rqlist_any b st most w h
  rw [hr] at h2
  exact h2
structure KS (w W : World) (b d base t : Nat) (n : ByteArray) (v : Value) (k : Nat) (acc : List Step) (st : Rd) (v0 v1 v2 v3 v4 v5 : Value) : Prop where
  ts : TS w W b d base n v
  row : W.ownsRow base 49 6 v k (Rw.cells stS acc)
  stp : At6 49 W t v0 v1 v2 v3 v4 v5
  rq : RqAt W b st
  tge : base ≤ t
  gt : ∀ g, v.ownBlock = some g → g < t
theorem KS.blt {w W : World} {b d base t : Nat} {n : ByteArray} {v : Value} {k : Nat} {acc : List Step} {st : Rd} {v0 v1 v2 v3 v4 v5 : Value} (r : KS w W b d base t n v k acc st v0 v1 v2 v3 v4 v5) : b < base := by
  have h1 := r.ts.blt; have h2 := r.ts.dlt; have h3 := r.ts.dhb; omega
theorem KS.call {w W W' : World} {b d base t : Nat} {n : ByteArray} {v : Value} {k : Nat} {acc : List Step} {st st' : Rd} {v0 v1 v2 v3 v4 v5 : Value} (r : KS w W b d base t n v k acc st v0 v1 v2 v3 v4 v5) (h : RqStep W b st' W') : KS w W' b d base t n v k acc st' v0 v1 v2 v3 v4 v5 :=
  have hb := r.blt
  have ht := r.tge
  ⟨r.ts.grow h.2, owns_grown r.row h.2 hb, grown_blk h.2 r.stp (by omega), h.1, r.tge, r.gt⟩

theorem KS.set0 {w W : World} {b d base t : Nat} {n : ByteArray} {v : Value} {k : Nat} {acc : List Step} {st : Rd} {v0 v1 v2 v3 v4 v5 : Value} (r : KS w W b d base t n v k acc st v0 v1 v2 v3 v4 v5) (u : Value) : KS w (W.setCell ⟨t, 0, none⟩ u) b d base t n v k acc st u v1 v2 v3 v4 v5 := by
  have hb := r.blt
  have ht := r.tge
  have hbb : Below base W (W.setCell ⟨t, 0, none⟩ u) := (Below.refl _ W).setCell (p := ⟨t, 0, none⟩) r.tge _
  refine ⟨r.ts.grown hbb, Rw.owns_heap r.row fun g hg => heap_setCell_other _ _ _ _ (by show g ≠ t; have := r.gt g hg; omega), ?_, r.rq.keep (hbb.block b hb), r.tge, r.gt⟩
  have h1 := Lib.heap_setCell_same (i := 0) r.stp u
  unfold At6
  rw [h1]
  rfl

theorem KS.set1 {w W : World} {b d base t : Nat} {n : ByteArray} {v : Value} {k : Nat} {acc : List Step} {st : Rd} {v0 v1 v2 v3 v4 v5 : Value} (r : KS w W b d base t n v k acc st v0 v1 v2 v3 v4 v5) (u : Value) : KS w (W.setCell ⟨t, 1, none⟩ u) b d base t n v k acc st v0 u v2 v3 v4 v5 := by
  have hb := r.blt
  have ht := r.tge
  have hbb : Below base W (W.setCell ⟨t, 1, none⟩ u) := (Below.refl _ W).setCell (p := ⟨t, 1, none⟩) r.tge _
  refine ⟨r.ts.grown hbb, Rw.owns_heap r.row fun g hg => heap_setCell_other _ _ _ _ (by show g ≠ t; have := r.gt g hg; omega), ?_, r.rq.keep (hbb.block b hb), r.tge, r.gt⟩
  have h1 := Lib.heap_setCell_same (i := 1) r.stp u
  unfold At6
  rw [h1]
  rfl

theorem KS.set2 {w W : World} {b d base t : Nat} {n : ByteArray} {v : Value} {k : Nat} {acc : List Step} {st : Rd} {v0 v1 v2 v3 v4 v5 : Value} (r : KS w W b d base t n v k acc st v0 v1 v2 v3 v4 v5) (u : Value) : KS w (W.setCell ⟨t, 2, none⟩ u) b d base t n v k acc st v0 v1 u v3 v4 v5 := by
  have hb := r.blt
  have ht := r.tge
  have hbb : Below base W (W.setCell ⟨t, 2, none⟩ u) := (Below.refl _ W).setCell (p := ⟨t, 2, none⟩) r.tge _
  refine ⟨r.ts.grown hbb, Rw.owns_heap r.row fun g hg => heap_setCell_other _ _ _ _ (by show g ≠ t; have := r.gt g hg; omega), ?_, r.rq.keep (hbb.block b hb), r.tge, r.gt⟩
  have h1 := Lib.heap_setCell_same (i := 2) r.stp u
  unfold At6
  rw [h1]
  rfl

theorem KS.set3 {w W : World} {b d base t : Nat} {n : ByteArray} {v : Value} {k : Nat} {acc : List Step} {st : Rd} {v0 v1 v2 v3 v4 v5 : Value} (r : KS w W b d base t n v k acc st v0 v1 v2 v3 v4 v5) (u : Value) : KS w (W.setCell ⟨t, 3, none⟩ u) b d base t n v k acc st v0 v1 v2 u v4 v5 := by
  have hb := r.blt
  have ht := r.tge
  have hbb : Below base W (W.setCell ⟨t, 3, none⟩ u) := (Below.refl _ W).setCell (p := ⟨t, 3, none⟩) r.tge _
  refine ⟨r.ts.grown hbb, Rw.owns_heap r.row fun g hg => heap_setCell_other _ _ _ _ (by show g ≠ t; have := r.gt g hg; omega), ?_, r.rq.keep (hbb.block b hb), r.tge, r.gt⟩
  have h1 := Lib.heap_setCell_same (i := 3) r.stp u
  unfold At6
  rw [h1]
  rfl

theorem KS.set4 {w W : World} {b d base t : Nat} {n : ByteArray} {v : Value} {k : Nat} {acc : List Step} {st : Rd} {v0 v1 v2 v3 v4 v5 : Value} (r : KS w W b d base t n v k acc st v0 v1 v2 v3 v4 v5) (u : Value) : KS w (W.setCell ⟨t, 4, none⟩ u) b d base t n v k acc st v0 v1 v2 v3 u v5 := by
  have hb := r.blt
  have ht := r.tge
  have hbb : Below base W (W.setCell ⟨t, 4, none⟩ u) := (Below.refl _ W).setCell (p := ⟨t, 4, none⟩) r.tge _
  refine ⟨r.ts.grown hbb, Rw.owns_heap r.row fun g hg => heap_setCell_other _ _ _ _ (by show g ≠ t; have := r.gt g hg; omega), ?_, r.rq.keep (hbb.block b hb), r.tge, r.gt⟩
  have h1 := Lib.heap_setCell_same (i := 4) r.stp u
  unfold At6
  rw [h1]
  rfl

theorem KS.set5 {w W : World} {b d base t : Nat} {n : ByteArray} {v : Value} {k : Nat} {acc : List Step} {st : Rd} {v0 v1 v2 v3 v4 v5 : Value} (r : KS w W b d base t n v k acc st v0 v1 v2 v3 v4 v5) (u : Value) : KS w (W.setCell ⟨t, 5, none⟩ u) b d base t n v k acc st v0 v1 v2 v3 v4 u := by
  have hb := r.blt
  have ht := r.tge
  have hbb : Below base W (W.setCell ⟨t, 5, none⟩ u) := (Below.refl _ W).setCell (p := ⟨t, 5, none⟩) r.tge _
  refine ⟨r.ts.grown hbb, Rw.owns_heap r.row fun g hg => heap_setCell_other _ _ _ _ (by show g ≠ t; have := r.gt g hg; omega), ?_, r.rq.keep (hbb.block b hb), r.tge, r.gt⟩
  have h1 := Lib.heap_setCell_same (i := 5) r.stp u
  unfold At6
  rw [h1]
  rfl

set_option maxHeartbeats 8000000 in
theorem rtake_any (b : Nat) (st : Rd) (w : World) (h : RqAt w b st) : Calls Tryz.prog 24 #[.pointer (some ⟨b, 0, none⟩)] w (TkR RqAt w b st) := by
  obtain ⟨z, hz⟩ : ∃ z : ByteArray, (rdText 48 st).1 = z.data.toList := ⟨Step.bs (rdText 48 st).1, (Step.data_bs _).symm⟩
  obtain ⟨st1, hst1⟩ : ∃ st1, (rdText 48 st).2 = st1 := ⟨_, rfl⟩
  obtain ⟨m, hm⟩ : ∃ m : Nat, (rdList 6 st1).1 = (m : Int) := ⟨(rdList 6 st1).1.toNat, by have := (rdList_bounds st1).1; omega⟩
  have hm6 : m ≤ 6 := by have := (rdList_bounds st1).2; omega
  obtain ⟨st2, hst2⟩ : ∃ st2, (rdList 6 st1).2 = st2 := ⟨_, rfl⟩
  obtain ⟨R, hR⟩ : ∃ R, takeA st = R := ⟨_, rfl⟩
  have HR := Lib.hid hR
  have HT : Hid (((⟨z, (takeUp m [] st2).1⟩ : Df), (takeUp m [] st2).2) = R) := by
    show _ = R
    rw [← hR]
    unfold takeA
    rw [hst1, hst2, hm, hz, bs_arr, Int.toNat_natCast]
  have hb0 : Below w.heap.size w (w.alloc (.cells #[.string ⟨#[]⟩, .slice none 0 0] 24)) := (Below.refl _ _).alloc (Nat.le_refl _) _
  have C0 := Lib.hid (rqtext_is b st st1 48 z (w.alloc (.cells #[.string ⟨#[]⟩, .slice none 0 0] 24)) (h.keep (hb0.block b h.lt)) (Prod.ext hz hst1))
  have C1 := Lib.hid (fun W (hA : RqAt W b st1) => rqlist_is b st1 st2 6 m W hA (Prod.ext hm hst2))
  have HLT := Lib.hid h.lt
  clear hz hst1 hst2 hm hR h hb0
  go_enter Tryz.func24, Tryz.ntmps24
  go_wp2_with fail
  refine C0.out.mono ?_
  rintro e w2 ⟨rfl, hs1⟩
  have HS2 := Lib.hid (ts_new (n := z) HLT.out hs1.2)
  have HA2 := Lib.hid (hs1.1.keep (((Below.refl w2.heap.size w2).alloc (Nat.le_refl _) (.cells #[.string z, .slice none 0 0] 24)).block b hs1.1.lt))
  obtain ⟨d, hd⟩ : ∃ d, w2.heap.size = d := ⟨_, rfl⟩
  have C1 := Lib.hid (C1.out _ HA2.out)
  rw [hd] at HS2
  have HDE := Lib.hid hd
  clear hs1 C0 hd
  go_wp2_with fail
  rw [show w2.heap.size = d from HDE.out]
  refine C1.out.mono ?_
  rintro e w3 ⟨rfl, hs3⟩
  have HA3 := Lib.hid hs3.1
  have hs3b := HS2.out.grow hs3.2
  have HS3 := Lib.hid (hs3b.base (base' := w3.heap.size) hs3b.siz (Nat.le_refl _))
  clear hs3 hs3b HS2 HA2 C1 HDE
  have HBB : Hid (b < w3.heap.size) := by show _ < _; have h1 := HS3.out.blt; have h2 := HS3.out.dlt; have h3 := HS3.out.dhb; omega
  go_wp2_with fail
  go_loopw [5] (fun i wr => ∃ (k : Nat) (acc : List Step) (sk : Rd) (a : Option Addr) (c : Nat), k ≤ m ∧ i = .int .i64 (k : Int) ∧ acc.length = k ∧ Hid (((⟨z, (takeUp (m - k) acc sk).1⟩ : Df), (takeUp (m - k) acc sk).2) = R) ∧ Hid (RqAt wr b sk) ∧ Hid (wr.ownsRow w3.heap.size 49 6 (.slice a k c) k (Rw.cells stS acc)) ∧ Hid (TS w wr b d w3.heap.size z (.slice a k c))) (fun i _ => m - (intOf i).toNat)
  case atStart => exact ⟨0, [], st2, none, 0, Nat.zero_le _, rfl, rfl, HT, HA3, Lib.hid (World.ownsRow_nil _ _ _ _), HS3⟩
  case round =>
    obtain ⟨k, acc, sk, a, c, hk, rfl, hal, hT, hA, hO, hS⟩ := hrel
    by_cases hlk : k < m
    · obtain ⟨x0, x1, x2, x3, x4, x5, sk2, hsix⟩ : ∃ x0 x1 x2 x3 x4 x5 sk2, rdSix sk = (⟨x0, x1, x2, x3, x4, x5⟩, sk2) := ⟨(rdSix sk).1.op, (rdSix sk).1.cls, (rdSix sk).1.tries, (rdSix sk).1.base, (rdSix sk).1.cap, (rdSix sk).1.wait, (rdSix sk).2, rfl⟩
      have HT2 : Hid (((⟨z, (takeUp (m - (k + 1)) (acc ++ [⟨x0, x1, x2, x3, x4, x5⟩]) sk2).1⟩ : Df), (takeUp (m - (k + 1)) (acc ++ [⟨x0, x1, x2, x3, x4, x5⟩]) sk2).2) = R) := by
        show _ = R
        rw [← hT.out, show m - k = (m - (k + 1)) + 1 by omega, takeUp_step hsix]
      unfold rdSix at hsix
      simp only [Prod.mk.injEq, StP.St.mk.injEq] at hsix
      obtain ⟨⟨hx0, hx1, hx2, hx3, hx4, hx5⟩, hs6⟩ := hsix
      obtain ⟨s1, hs1⟩ : ∃ s, (wide sk).2 = s := ⟨_, rfl⟩
      rw [hs1] at hx1 hx2 hx3 hx4 hx5 hs6
      obtain ⟨s2, hs2⟩ : ∃ s, (wide s1).2 = s := ⟨_, rfl⟩
      rw [hs2] at hx2 hx3 hx4 hx5 hs6
      obtain ⟨s3, hs3⟩ : ∃ s, (wide s2).2 = s := ⟨_, rfl⟩
      rw [hs3] at hx3 hx4 hx5 hs6
      obtain ⟨s4, hs4⟩ : ∃ s, (wide s3).2 = s := ⟨_, rfl⟩
      rw [hs4] at hx4 hx5 hs6
      obtain ⟨s5, hs5⟩ : ∃ s, (wide s4).2 = s := ⟨_, rfl⟩
      rw [hs5] at hx5 hs6
      obtain ⟨s6, h6⟩ : ∃ s6, sk2 = s6 := ⟨_, rfl⟩
      rw [h6] at hs6 HT2
      have E0 := Lib.hid (Prod.ext hx0 hs1 : wide sk = (x0, s1))
      have E1 := Lib.hid (Prod.ext hx1 hs2 : wide s1 = (x1, s2))
      have E2 := Lib.hid (Prod.ext hx2 hs3 : wide s2 = (x2, s3))
      have E3 := Lib.hid (Prod.ext hx3 hs4 : wide s3 = (x3, s4))
      have E4 := Lib.hid (Prod.ext hx4 hs5 : wide s4 = (x4, s5))
      have E5 := Lib.hid (Prod.ext hx5 hs6 : wide s5 = (x5, s6))
      have hba := (Below.refl wr.heap.size wr).alloc (Nat.le_refl _) (.cells #[.int .i64 0, .int .i64 0, .int .i64 0, .int .i64 0, .int .i64 0, .int .i64 0] 49)
      have hK0 : KS w (wr.alloc (.cells #[.int .i64 0, .int .i64 0, .int .i64 0, .int .i64 0, .int .i64 0, .int .i64 0] 49)) b d w3.heap.size wr.heap.size z (.slice a k c) k acc sk (.int .i64 0) (.int .i64 0) (.int .i64 0) (.int .i64 0) (.int .i64 0) (.int .i64 0) := ⟨hS.out.keep hba, Rw.owns_below hO.out hba, at6_new 49 wr _ _ _ _ _ _, hA.out.keep (hba.block b hA.out.lt), hS.out.siz, fun g hg => (hO.out.lt g hg).2⟩
      obtain ⟨t, ht⟩ : ∃ t, wr.heap.size = t := ⟨_, rfl⟩
      rw [ht] at hK0
      have HK0 := Lib.hid hK0
      have HTE := Lib.hid ht
      clear hT hA hO hS hba hK0 ht h6 hx0 hs1 hx1 hs2 hx2 hs3 hx3 hs4 hx4 hs5 hx5 hs6
      go_wp2_with fail
      rw [show wr.heap.size = t from HTE.out]
      refine (wide_is b sk s1 x0 _ HK0.out.rq E0.out).mono ?_
      rintro e U0 ⟨rfl, hs⟩
      have HL0 := Lib.hid (HK0.out.call hs)
      have HK1 := Lib.hid (HL0.out.set0 (.int .i64 x0))
      obtain ⟨f0, f1, f2, f3, f4, f5⟩ := free6 HL0.out.stp
      obtain ⟨z0, z1, z2, z3, z4, z5⟩ := cells6 HL0.out.stp
      clear hs HK0
      go_wp2_with fail
      clear f0 f1 f2 f3 f4 f5 z0 z1 z2 z3 z4 z5
      refine (wide_is b s1 s2 x1 _ HK1.out.rq E1.out).mono ?_
      rintro e U1 ⟨rfl, hs⟩
      have HL1 := Lib.hid (HK1.out.call hs)
      have HK2 := Lib.hid (HL1.out.set1 (.int .i64 x1))
      obtain ⟨f0, f1, f2, f3, f4, f5⟩ := free6 HL1.out.stp
      obtain ⟨z0, z1, z2, z3, z4, z5⟩ := cells6 HL1.out.stp
      clear hs HK1 HL0
      go_wp2_with fail
      clear f0 f1 f2 f3 f4 f5 z0 z1 z2 z3 z4 z5
      refine (wide_is b s2 s3 x2 _ HK2.out.rq E2.out).mono ?_
      rintro e U2 ⟨rfl, hs⟩
      have HL2 := Lib.hid (HK2.out.call hs)
      have HK3 := Lib.hid (HL2.out.set2 (.int .i64 x2))
      obtain ⟨f0, f1, f2, f3, f4, f5⟩ := free6 HL2.out.stp
      obtain ⟨z0, z1, z2, z3, z4, z5⟩ := cells6 HL2.out.stp
      clear hs HK2 HL1
      go_wp2_with fail
      clear f0 f1 f2 f3 f4 f5 z0 z1 z2 z3 z4 z5
      refine (wide_is b s3 s4 x3 _ HK3.out.rq E3.out).mono ?_
      rintro e U3 ⟨rfl, hs⟩
      have HL3 := Lib.hid (HK3.out.call hs)
      have HK4 := Lib.hid (HL3.out.set3 (.int .i64 x3))
      obtain ⟨f0, f1, f2, f3, f4, f5⟩ := free6 HL3.out.stp
      obtain ⟨z0, z1, z2, z3, z4, z5⟩ := cells6 HL3.out.stp
      clear hs HK3 HL2
      go_wp2_with fail
      clear f0 f1 f2 f3 f4 f5 z0 z1 z2 z3 z4 z5
      refine (wide_is b s4 s5 x4 _ HK4.out.rq E4.out).mono ?_
      rintro e U4 ⟨rfl, hs⟩
      have HL4 := Lib.hid (HK4.out.call hs)
      have HK5 := Lib.hid (HL4.out.set4 (.int .i64 x4))
      obtain ⟨f0, f1, f2, f3, f4, f5⟩ := free6 HL4.out.stp
      obtain ⟨z0, z1, z2, z3, z4, z5⟩ := cells6 HL4.out.stp
      clear hs HK4 HL3
      go_wp2_with fail
      clear f0 f1 f2 f3 f4 f5 z0 z1 z2 z3 z4 z5
      refine (wide_is b s5 s6 x5 _ HK5.out.rq E5.out).mono ?_
      rintro e U5 ⟨rfl, hs⟩
      have HL5 := Lib.hid (HK5.out.call hs)
      have HK6 := Lib.hid (HL5.out.set5 (.int .i64 x5))
      obtain ⟨f0, f1, f2, f3, f4, f5⟩ := free6 HL5.out.stp
      obtain ⟨z0, z1, z2, z3, z4, z5⟩ := cells6 HL5.out.stp
      clear hs HK5 HL4
      have e1 := (cells2 HK6.out.ts.box).2
      obtain ⟨y0, y1, y2, y3, y4, y5⟩ := cells6 HK6.out.stp
      go_wp2_with (first
        | (at_builtin; refine Rw.append_one stS rfl (.tmp 37) (.tmp 39) rfl w3.heap.size (U5.setCell ⟨t, 5, none⟩ (.int .i64 x5)) _ (by simp) ⟨x0, x1, x2, x3, x4, x5⟩ _ rfl (.slice a k c) k acc rfl HK6.out.row rfl (by omega) HK6.out.ts.siz ?_)
        | fail)
      intro v' wa hown hgrow
      obtain ⟨a9, c9, rfl, hc9⟩ := Rw.owns_slice hown
      have hbb : Below w3.heap.size (U5.setCell ⟨t, 5, none⟩ (.int .i64 x5)) wa := Rw.below_append (Below.refl _ _) HK6.out.ts.siz HK6.out.row hgrow
      have HSA := Lib.hid (HK6.out.ts.grown hbb)
      have HAA := Lib.hid (HK6.out.rq.keep (hbb.block b HBB.out))
      have HSB := Lib.hid (HSA.out.set (.slice a9 (k + 1) c9))
      have HAB : Hid (RqAt (wa.setCell ⟨d, 1, none⟩ (.slice a9 (k + 1) c9)) b s6) := HAA.out.keep (heap_setCell_other _ _ _ _ (by have h1 := HSA.out.blt; have h2 := HSA.out.dlt; show b ≠ d; omega))
      have HOB := Lib.hid (owns_set (u := .slice a9 (k + 1) c9) hown HSA.out.dhb)
      clear e1 y0 y1 y2 y3 y4 y5 f0 f1 f2 f3 f4 f5 z0 z1 z2 z3 z4 z5
      obtain ⟨_, g2⟩ := cells2 HSA.out.box
      obtain ⟨_, f2⟩ := free2 HSA.out.box
      clear hown hgrow hbb HK6 HL5 HSA HAA
      go_wp2_with fail
      go_roundw
      case rel => exact ⟨k + 1, acc ++ [⟨x0, x1, x2, x3, x4, x5⟩], s6, a9, c9, by omega, by go_num, by rw [List.length_append, hal]; rfl, HT2, HAB, HOB, HSB⟩
      case measure => simp [intOf]; omega
    · obtain rfl : k = m := by omega
      have hT0 : R = (⟨z, acc⟩, sk) := by rw [← hT.out, Nat.sub_self]; rfl
      obtain ⟨zz, _, r1, _, _⟩ := Wire.RqAt.open hA.out
      obtain ⟨g0, g1⟩ := cells2 hS.out.box
      have hac := Rw.owns_room hO.out
      cases hn : sk.isNone with
      | true =>
        rw [hn] at r1
        clear hT
        obtain ⟨e0, e1⟩ := cells2 hS.out.res
        obtain ⟨f0, f1⟩ := free2 hS.out.res
        have HRS := Lib.hid (heap_put2 hS.out.res (.string ⟨#[]⟩) (.slice none 0 0))
        have hbb : Below w.heap.size wr (put2 wr w.heap.size (.string ⟨#[]⟩) (.slice none 0 0)) := below_put2 (Below.refl _ _) (Nat.le_refl _) _ _
        have HGE := Lib.hid (grown_then hS.out.g hbb)
        have HAE := Lib.hid (hA.out.keep (hbb.block b HLT.out))
        have HRE := Lib.hid (HR.out.trans hT0)
        clear hbb hT0
        go_wp2_with fail
        exact bodyPost_ret (results_df1 (j := 2) rfl _ _ w.heap.size _ _ rfl HRS.out) rfl (tkR_no HRE.out hn HGE.out HAE.out)
      | false =>
        rw [hn] at r1
        clear hT
        obtain ⟨e0, e1⟩ := cells2 hS.out.res
        obtain ⟨f0, f1⟩ := free2 hS.out.res
        have HRS := Lib.hid (heap_put2 hS.out.res (.string z) (.slice a k c))
        have hbb : Below w.heap.size wr (put2 wr w.heap.size (.string z) (.slice a k c)) := below_put2 (Below.refl _ _) (Nat.le_refl _) _ _
        have HGE := Lib.hid (grown_then hS.out.g hbb)
        have HAE := Lib.hid (hA.out.keep (hbb.block b HLT.out))
        have HRE := Lib.hid (HR.out.trans hT0)
        have HAT : Hid (StAt (put2 wr w.heap.size (.string z) (.slice a k c)) a k acc) := Rw.own_at (S := stS) (Rw.owns_heap hO.out fun g hg => put2_other _ _ (by have := (hO.out.lt g hg).1; have h1 := hS.out.dlt; have h2 := hS.out.dhb; omega)) hal (by omega)
        have HOF := Lib.hid (offN hO.out (show w.heap.size ≤ w3.heap.size by have h1 := hS.out.dlt; have h2 := hS.out.dhb; omega))
        clear hbb hT0
        go_wp2_with fail
        exact bodyPost_ret (results_df1 (j := 2) rfl _ _ w.heap.size _ _ rfl HRS.out) rfl (tkR_yes HRE.out rfl hn hal hac HGE.out HAE.out HAT.out HOF.out)
end Go.Proofs.YtdpgfnnhbfkacaaGreatDoor.Def

/-
  The contracts of both Puts: any definition of up to 1000 steps; what was there stays as it was.
-/
set_option linter.unusedVariables false
set_option linter.unusedSimpArgs false
set_option maxRecDepth 4000
namespace Go.Proofs.YtdpgfnnhbfkacaaGreatDoor.Def
open Go.RowKit DefP
open WireP (enc encs text)
open Wire (IntsAt)
open Go.Proofs.YtdpgfnnhbfkacaaGreatDoor.Kt
def Bd (w : World) (B b : Nat) (l : List UInt8) : Prop := Lib.IsBuilderF 65 5 B b (Lib.byteCells l) w
theorem Bd.lt {w : World} {B b : Nat} {l : List UInt8} (h : Bd w B b l) : b < w.heap.size := by
  rcases h with ⟨h1, v, h2, h3, h4⟩ | ⟨h1, v, h2, h3, h4⟩
  · exact (Array.getElem?_eq_some_iff.1 h2).1
  · exact (Array.getElem?_eq_some_iff.1 h2).1
theorem ownsF_below {w w' : World} {B n size : Nat} {e : TypeId} {v : Value} {xs : List Value} (h : w.ownsRowF B e size v n xs) (hb : Below w.heap.size w w') : w'.ownsRowF B e size v n xs := by
  refine ⟨h.1, ?_⟩
  rcases h.2 with hn | ⟨g, cap, cur, fz, hv, hbg, hg, rest⟩
  · exact .inl hn
  · exact .inr ⟨g, cap, cur, fz, hv, hbg, (hb.block g (Array.getElem?_eq_some_iff.1 hg).1).trans hg, rest⟩
theorem Bd.keep {w w' : World} {B b : Nat} {l : List UInt8} (h : Bd w B b l) (hb : Below w.heap.size w w') : Bd w' B b l := by
  have hlt := h.lt
  rcases h with ⟨h1, v, h2, h3, h4⟩ | ⟨h1, v, h2, h3, h4⟩
  · exact .inl ⟨h1, v, (hb.block b hlt).trans h2, ownsF_below h3 hb, h4⟩
  · exact .inr ⟨h1, v, (hb.block b hlt).trans h2, ownsF_below h3 hb, h4⟩
end Go.Proofs.YtdpgfnnhbfkacaaGreatDoor.Def
