/-
  The contract of the document's Decode.
-/
import Derived.Test.YtigiaiddnbpcmaaSuperL
set_option linter.unusedVariables false
set_option maxRecDepth 4000
namespace Go.Proofs.Ytigiaiddnbpcmaa
open Go.RowKit SuperP
open StampP (opn opn_some)
open Wire (IntsAt getD_mem take_snoc RdAt RqAt RdStep)
open WireP (rdText rdInt St done)

/-- What stands while the document reads a superblock: its reader in block b, the superblock in block bx, the lists that were read. -/
structure Dq (w0 w : World) (B b bx : Nat) (box : Array Value) (L : List (Option Addr × List Int)) (st : St) : Prop where
  below : Below B w0 w
  rq : RqAt w b st
  bxc : w.heap[bx]? = some (.cells box 24 (0, 0))
  le : B ≤ b ∧ b < bx
  lists : ∀ t ∈ L, IntsAt w t.1 t.2.length t.2 ∧ ∀ ad, t.1 = some ad → bx < ad.block
theorem Dq.step {w0 w w' : World} {B b bx : Nat} {box : Array Value} {L : List (Option Addr × List Int)} {st st' : St} (h : Dq w0 w B b bx box L st) (hs : RqAt w' b st' ∧ w.grownBy w' (some b)) : Dq w0 w' B b bx box L st' := by
  have h1 := (Array.getElem?_eq_some_iff.1 h.bxc).1
  refine ⟨h.below.trans (Wire.below_of_grown hs.2 h.le.1 h.rq.lt), hs.1, (hs.2.block bx h1 (fun e => by have := h.le.2; simp at e; omega)).trans h.bxc, h.le, fun t ht => ⟨?_, (h.lists t ht).2⟩⟩
  obtain ⟨g1, g2⟩ := h.lists t ht
  refine ⟨g1.1, g1.2.1, ?_⟩
  rcases g1.2.2 with h0 | ⟨bl, off, e, hlt, hc⟩
  · exact .inl h0
  · have := g2 _ e
    have hle := h.le.2
    exact .inr ⟨bl, off, e, Nat.lt_of_lt_of_le hlt hs.2.size, fun i hi => hs.2.cell (hc i hi) (fun e2 => by simp at e2; simp only at this; omega)⟩
theorem Dq.keep {w0 w w' : World} {B b bx : Nat} {box : Array Value} {L : List (Option Addr × List Int)} {st : St} (h : Dq w0 w B b bx box L st) (hb : Below w.heap.size w w') : Dq w0 w' B b bx box L st := by
  have h1 := (Array.getElem?_eq_some_iff.1 h.bxc).1
  exact ⟨h.below.trans (hb.mono (by have := h.le; omega)), h.rq.keep (hb.block b h.rq.lt), (hb.block bx h1).trans h.bxc, h.le, fun t ht => ⟨(h.lists t ht).1.keep hb, (h.lists t ht).2⟩⟩
theorem Dq.list {w0 w w' : World} {B b bx : Nat} {box : Array Value} {L : List (Option Addr × List Int)} {st : St} {a : Option Addr} {xs : List Int} (h : Dq w0 w B b bx box L st) (hb : Below w.heap.size w w') (hl : IntsAt w' a xs.length xs) (hf : ∀ ad, a = some ad → w.heap.size ≤ ad.block) : Dq w0 w' B b bx box ((a, xs) :: L) st := by
  have h2 := h.keep hb
  have h1 := (Array.getElem?_eq_some_iff.1 h.bxc).1
  refine ⟨h2.below, h2.rq, h2.bxc, h2.le, fun t ht => ?_⟩
  rcases List.mem_cons.1 ht with rfl | ht
  · exact ⟨hl, fun ad he => Nat.lt_of_lt_of_le h1 (hf ad he)⟩
  · exact h2.lists t ht
theorem Dq.put {w0 w : World} {B b bx : Nat} {box : Array Value} {L : List (Option Addr × List Int)} {st : St} (h : Dq w0 w B b bx box L st) (i : Nat) (v : Value) : Dq w0 (w.setCell ⟨bx, i, none⟩ v) B b bx (box.setIfInBounds i v) L st := by
  have ho : ∀ j, j ≠ bx → (w.setCell ⟨bx, i, none⟩ v).heap[j]? = w.heap[j]? := fun j hj => heap_setCell_other _ _ _ _ (by exact hj)
  refine ⟨h.below.setCell (p := ⟨bx, i, none⟩) (by show B ≤ bx; have := h.le; omega) v, h.rq.keep (ho b (by have := h.le.2; omega)), Lib.heap_setCell_same (i := i) h.bxc v, h.le, fun t ht => ⟨ints_other (h.lists t ht).1 (.inr fun ad he => by have := (h.lists t ht).2 ad he; omega) (by simp) ho, (h.lists t ht).2⟩⟩
theorem box_cells {w0 w : World} {B b bx : Nat} {v0 v1 v2 v3 v4 v5 : Value} {L : List (Option Addr × List Int)} {st : St} (h : Dq w0 w B b bx #[v0, v1, v2, v3, v4, v5] L st) :
    (w.cell? ⟨bx, 0, none⟩ = some v0 ∧ w.cell? ⟨bx, 1, none⟩ = some v1 ∧ w.cell? ⟨bx, 2, none⟩ = some v2 ∧ w.cell? ⟨bx, 3, none⟩ = some v3 ∧ w.cell? ⟨bx, 4, none⟩ = some v4 ∧ w.cell? ⟨bx, 5, none⟩ = some v5) ∧ ∀ i, w.frozen? ⟨bx, i, none⟩ = false :=
  ⟨six_cells h.bxc, fun i => Wire.frozen_of_heap h.bxc⟩
theorem rd_of {l : List UInt8} {n i c : Nat} {t : List UInt8} (h : opn l = some (n, i, c, t)) : ((rd t).2 = true ∧ Fit (rd t).1 ∧ sect (rd t).1 = l → dec l = some (rd t).1) ∧ (¬ ((rd t).2 = true ∧ Fit (rd t).1 ∧ sect (rd t).1 = l) → dec l = none) := by
  unfold dec
  rw [h]
  exact ⟨fun g => if_pos g, fun g => if_neg g⟩
set_option maxHeartbeats 4000000 in
theorem rdecode_none (s : ByteArray) (w : World) (HO : Hid (∀ w, Calls Try.prog 32 #[.string s] w fun e w' => e = .returned (.tuple #[.agg #[.int .i64 0, .int .i64 0, .int .i64 0], .string ⟨#[]⟩, .int .i64 12]) ∧ Below w.heap.size w w')) :
    Calls Try.prog 12 #[.string s] w (SupMade w zeroSup (.int .i64 12)) := by
  obtain ⟨Z, hZ⟩ : ∃ Z, zeroSup = Z := ⟨_, rfl⟩
  rw [hZ]
  have HZZ := Lib.hid hZ
  clear hZ
  go_enter Try.func12, Try.ntmps12
  go_wp2_with fail
  refine (HO.out _).mono ?_
  rintro e w1 ⟨rfl, hb1⟩
  have hB1 := ((Below.refl _ w).alloc (Nat.le_refl _) zsup).trans (hb1.mono (by rw [World.size_alloc]; exact Nat.le_succ _))
  have hz1 := (hb1.block w.heap.size (by simp)).trans (heap_alloc_new w zsup)
  have hlt1 : w.heap.size < w1.heap.size := by have := hb1.size; rw [World.size_alloc] at this; omega
  have hzA : (w1.alloc (.cells #[.int .i64 0, .int .i64 0, .int .i64 0] 46)).heap[w.heap.size]? = some (.cells #[.int .i64 0, .int .i64 0, .int .i64 0, .int .i64 0, .slice none 0 0, .slice none 0 0] 24 (0, 0)) := (Below.heap_alloc w1 _ _ hlt1).trans hz1
  have hbA := hB1.alloc (Nat.le_of_lt hlt1) (.cells #[.int .i64 0, .int .i64 0, .int .i64 0] 46)
  obtain ⟨⟨q0, q1, q2, q3, q4, q5⟩, r0, r1, r2, r3, r4, r5⟩ := zero_cells6 hzA
  have hf := zero_stored (v := .int .i64 12) hbA
  rw [HZZ.out] at hf
  have HF := Lib.hid hf
  have HRS := Lib.hid (six_cells (heap_put6 hzA (.int .i64 0) (.int .i64 0) (.int .i64 0) (.int .i64 0) (.slice none 0 0) (.slice none 0 0)))
  clear hb1 hB1 hz1 hzA hbA hf hlt1
  go_wp2_with fail
  refine bodyPost_ret (results_two rfl _ _ w.heap.size _ _ _ _ _ _ rfl HRS.out) rfl ?_
  exact HF.out
set_option maxHeartbeats 8000000 in
theorem rdecode_some (s z : ByteArray) (gn gi gc : Int) (w : World) (hz : z.size ≤ 4398046511104) (HO : Hid (∀ w, Calls Try.prog 32 #[.string s] w fun e w' => e = .returned (.tuple #[.agg #[.int .i64 gn, .int .i64 gi, .int .i64 gc], .string z, .int .i64 0]) ∧ Below w.heap.size w w'))
    (hyes : (rd z.data.toList).2 = true ∧ Fit (rd z.data.toList).1 ∧ sect (rd z.data.toList).1 = s.data.toList → dec s.data.toList = some (rd z.data.toList).1) (hno : ¬ ((rd z.data.toList).2 = true ∧ Fit (rd z.data.toList).1 ∧ sect (rd z.data.toList).1 = s.data.toList) → dec s.data.toList = none) :
    Calls Try.prog 12 #[.string s] w (SupMade w (decY s.data.toList) (.int .i64 (decE s.data.toList))) := by
  obtain ⟨g, hg⟩ : ∃ g, rdInt 0 most (some z.data.toList) = g := ⟨_, rfl⟩
  obtain ⟨bb, hbb⟩ : ∃ bb, rdInt 0 most g.2 = bb := ⟨_, rfl⟩
  obtain ⟨zz, hzz⟩ : ∃ zz, rdInt 0 most bb.2 = zz := ⟨_, rfl⟩
  obtain ⟨cc, hcc⟩ : ∃ cc, rdInt 0 most zz.2 = cc := ⟨_, rfl⟩
  obtain ⟨kk, hkk⟩ : ∃ kk, rdText 63 cc.2 = kk := ⟨_, rfl⟩
  obtain ⟨oo, hoo⟩ : ∃ oo, rdText 63 kk.2 = oo := ⟨_, rfl⟩
  have hX : rd z.data.toList = (⟨g.1, bb.1, zz.1, cc.1, nums kk.1, nums oo.1⟩, done oo.2) := by
    unfold rd
    simp only [hg, hbb, hzz, hcc, hkk, hoo]
  rw [hX] at hyes hno
  have lk : (nums kk.1).length ≤ 63 := by rw [nums_len, ← hkk]; exact rdText_len _
  have lo : (nums oo.1).length ≤ 63 := by rw [nums_len, ← hoo]; exact rdText_len _
  obtain ⟨zk, hzk⟩ : ∃ zk : ByteArray, (⟨kk.1.toArray⟩ : ByteArray) = zk := ⟨_, rfl⟩
  obtain ⟨zo, hzo⟩ : ∃ zo : ByteArray, (⟨oo.1.toArray⟩ : ByteArray) = zo := ⟨_, rfl⟩
  have ek : kk.1 = zk.data.toList := by rw [← hzk]
  have eo : oo.1 = zo.data.toList := by rw [← hzo]
  have lzk : zk.size ≤ 1000000 := by rw [← Wire.len_list, ← ek]; rw [nums_len] at lk; omega
  have lzo : zo.size ≤ 1000000 := by rw [← Wire.len_list, ← eo]; rw [nums_len] at lo; omega
  unfold most at hg hbb hzz hcc
  have i1 := fun (b : Nat) (w : World) (h : RqAt w b (some z.data.toList)) => Wire.rqint_any b _ 0 1099511627776 w h
  have i2 := fun (b : Nat) (w : World) (h : RqAt w b g.2) => Wire.rqint_any b _ 0 1099511627776 w h
  have i3 := fun (b : Nat) (w : World) (h : RqAt w b bb.2) => Wire.rqint_any b _ 0 1099511627776 w h
  have i4 := fun (b : Nat) (w : World) (h : RqAt w b zz.2) => Wire.rqint_any b _ 0 1099511627776 w h
  have i5 := fun (b : Nat) (w : World) (h : RqAt w b cc.2) => Wire.rqtext_any b _ 63 w h
  have i6 := fun (b : Nat) (w : World) (h : RqAt w b kk.2) => Wire.rqtext_any b _ 63 w h
  have i7 := fun (b : Nat) (w : World) (h : RqAt w b oo.2) => Wire.rqdone_any b _ w h
  rw [hg] at i1
  rw [hbb] at i2
  rw [hzz] at i3
  rw [hcc] at i4
  rw [hkk, hzk] at i5
  rw [hoo, hzo] at i6
  have n1 := fun w => rnumbers_any zk w lzk
  have n2 := fun w => rnumbers_any zo w lzo
  rw [← ek] at n1
  rw [← eo] at n2
  obtain ⟨g1, gs⟩ := g
  obtain ⟨b1, bs⟩ := bb
  obtain ⟨z1, zs⟩ := zz
  obtain ⟨c1, cs⟩ := cc
  obtain ⟨k1, ks⟩ := kk
  obtain ⟨o1, os⟩ := oo
  simp only at *
  generalize nums k1 = ck at *
  generalize nums o1 = co at *
  obtain ⟨Y, hY⟩ : ∃ Y, decY s.data.toList = Y := ⟨_, rfl⟩
  obtain ⟨E, hE⟩ : ∃ E, decE s.data.toList = E := ⟨_, rfl⟩
  rw [hY, hE]
  have HYY := Lib.hid hY; have HEE := Lib.hid hE; have HYES := Lib.hid hyes; have HNO := Lib.hid hno
  have I1 := Lib.hid i1; have I2 := Lib.hid i2; have I3 := Lib.hid i3; have I4 := Lib.hid i4; have I5 := Lib.hid i5; have I6 := Lib.hid i6; have I7 := Lib.hid i7; have M1 := Lib.hid n1; have M2 := Lib.hid n2
  clear hY hE hyes hno i1 i2 i3 i4 i5 i6 i7 n1 n2 hg hbb hzz hcc hkk hoo hX lzk lzo ek eo hzk hzo
  go_enter Try.func12, Try.ntmps12
  go_wp2_with fail
  refine (HO.out _).mono ?_
  rintro e w1 ⟨rfl, hb1⟩
  have hB1 := hb1
  rw [World.size_alloc] at hB1
  have hz1 := heap_alloc_new w zsup
  have hba : Below w.heap.size w (w.alloc zsup) := (Below.refl _ w).alloc (Nat.le_refl _) _
  have hs1 := hB1.size
  rw [World.size_alloc] at hs1
  have hD0 : Dq (w.alloc zsup) (((w1.alloc (.cells #[.int .i64 gn, .int .i64 gi, .int .i64 gc] 46)).alloc (.cells #[.string z, .bool false] 57)).alloc zsup) (w.heap.size + 1) (w1.heap.size + 1) (w1.heap.size + 1 + 1) #[.int .i64 0, .int .i64 0, .int .i64 0, .int .i64 0, .slice none 0 0, .slice none 0 0] [] (some z.data.toList) := by
    have e1 : (w1.alloc (.cells #[.int .i64 gn, .int .i64 gi, .int .i64 gc] 46)).heap.size = w1.heap.size + 1 := by simp
    have e2 : ((w1.alloc (.cells #[.int .i64 gn, .int .i64 gi, .int .i64 gc] 46)).alloc (.cells #[.string z, .bool false] 57)).heap.size = w1.heap.size + 1 + 1 := by simp
    have k1 := heap_alloc_new (w1.alloc (.cells #[.int .i64 gn, .int .i64 gi, .int .i64 gc] 46)) (.cells #[.string z, .bool false] 57)
    have k2 := heap_alloc_new ((w1.alloc (.cells #[.int .i64 gn, .int .i64 gi, .int .i64 gc] 46)).alloc (.cells #[.string z, .bool false] 57)) zsup
    rw [e1] at k1
    rw [e2] at k2
    refine ⟨((hB1.alloc (by omega) _).alloc (by rw [e1]; omega) _).alloc (by rw [e2]; omega) _, ⟨z, (Below.heap_alloc _ _ _ (by rw [e2]; omega)).trans k1, rfl, hz⟩, k2, ⟨by omega, by omega⟩, fun t ht => by cases ht⟩
  have HZ := Lib.hid hz1; have HBA := Lib.hid hba; have HD0 := Lib.hid hD0
  clear hb1 hB1 hz1 hba hD0 hs1
  go_wp2_with fail
  generalize ((w1.alloc (.cells #[.int .i64 gn, .int .i64 gi, .int .i64 gc] 46)).alloc (.cells #[.string z, .bool false] 57)).alloc zsup = w2 at *
  generalize w1.heap.size = b0 at *
  refine (I1.out _ _ (HD0.out).rq).mono ?_
  rintro e w3 ⟨rfl, hs3⟩
  have hD3 := (HD0.out).step hs3
  obtain ⟨⟨q0, q1, q2, q3, q4, q5⟩, hfz⟩ := box_cells hD3
  have r0 := hfz 0
  have hE3 : Dq _ (w3.setCell ⟨b0 + 1 + 1, 0, none⟩ (.int .i64 g1)) (w.heap.size + 1) (b0 + 1) (b0 + 1 + 1) #[.int .i64 g1, .int .i64 0, .int .i64 0, .int .i64 0, .slice none 0 0, .slice none 0 0] [] gs := hD3.put 0 (.int .i64 g1)
  have HE3 := Lib.hid hE3
  clear hE3 hD3 hs3 hfz
  go_wp2_with fail
  clear q0 q1 q2 q3 q4 q5 r0
  generalize w3.setCell ⟨b0 + 1 + 1, 0, none⟩ (.int .i64 g1) = v3 at *
  refine (I2.out _ _ (HE3.out).rq).mono ?_
  rintro e w4 ⟨rfl, hs4⟩
  have hD4 := (HE3.out).step hs4
  obtain ⟨⟨q0, q1, q2, q3, q4, q5⟩, hfz⟩ := box_cells hD4
  have r0 := hfz 1
  have hE4 : Dq _ (w4.setCell ⟨b0 + 1 + 1, 1, none⟩ (.int .i64 b1)) (w.heap.size + 1) (b0 + 1) (b0 + 1 + 1) #[.int .i64 g1, .int .i64 b1, .int .i64 0, .int .i64 0, .slice none 0 0, .slice none 0 0] [] bs := hD4.put 1 (.int .i64 b1)
  have HE4 := Lib.hid hE4
  clear hE4 hD4 hs4 hfz
  go_wp2_with fail
  clear q0 q1 q2 q3 q4 q5 r0
  generalize w4.setCell ⟨b0 + 1 + 1, 1, none⟩ (.int .i64 b1) = v4 at *
  refine (I3.out _ _ (HE4.out).rq).mono ?_
  rintro e w5 ⟨rfl, hs5⟩
  have hD5 := (HE4.out).step hs5
  obtain ⟨⟨q0, q1, q2, q3, q4, q5⟩, hfz⟩ := box_cells hD5
  have r0 := hfz 2
  have hE5 : Dq _ (w5.setCell ⟨b0 + 1 + 1, 2, none⟩ (.int .i64 z1)) (w.heap.size + 1) (b0 + 1) (b0 + 1 + 1) #[.int .i64 g1, .int .i64 b1, .int .i64 z1, .int .i64 0, .slice none 0 0, .slice none 0 0] [] zs := hD5.put 2 (.int .i64 z1)
  have HE5 := Lib.hid hE5
  clear hE5 hD5 hs5 hfz
  go_wp2_with fail
  clear q0 q1 q2 q3 q4 q5 r0
  generalize w5.setCell ⟨b0 + 1 + 1, 2, none⟩ (.int .i64 z1) = v5 at *
  refine (I4.out _ _ (HE5.out).rq).mono ?_
  rintro e w6 ⟨rfl, hs6⟩
  have hD6 := (HE5.out).step hs6
  obtain ⟨⟨q0, q1, q2, q3, q4, q5⟩, hfz⟩ := box_cells hD6
  have r0 := hfz 3
  have hE6 : Dq _ (w6.setCell ⟨b0 + 1 + 1, 3, none⟩ (.int .i64 c1)) (w.heap.size + 1) (b0 + 1) (b0 + 1 + 1) #[.int .i64 g1, .int .i64 b1, .int .i64 z1, .int .i64 c1, .slice none 0 0, .slice none 0 0] [] cs := hD6.put 3 (.int .i64 c1)
  have HE6 := Lib.hid hE6
  clear hE6 hD6 hs6 hfz
  go_wp2_with fail
  clear q0 q1 q2 q3 q4 q5 r0
  generalize w6.setCell ⟨b0 + 1 + 1, 3, none⟩ (.int .i64 c1) = v6 at *
  refine (I5.out _ _ (HE6.out).rq).mono ?_
  rintro e w7 ⟨rfl, hs7⟩
  have HT7 := Lib.hid ((HE6.out).step hs7)
  clear hs7
  go_wp2_with fail
  refine (M1.out _).mono ?_
  rintro e x7 ⟨⟨a1, d1, rfl, li7, lc7, ln7, lf7⟩, hb7⟩
  have hD7 := HT7.out.list hb7 li7 lf7
  obtain ⟨⟨q0, q1, q2, q3, q4, q5⟩, hfz⟩ := box_cells hD7
  have r0 := hfz 4
  have hE7 : Dq _ (x7.setCell ⟨b0 + 1 + 1, 4, none⟩ (.slice a1 ck.length d1)) (w.heap.size + 1) (b0 + 1) (b0 + 1 + 1) #[.int .i64 g1, .int .i64 b1, .int .i64 z1, .int .i64 c1, .slice a1 ck.length d1, .slice none 0 0] [(a1, ck)] ks := hD7.put 4 (.slice a1 ck.length d1)
  have HE7 := Lib.hid hE7; have LN7 := Lib.hid ln7
  clear hE7 hD7 hb7 hfz li7 lc7 lf7 ln7 HT7
  go_wp2_with fail
  clear q0 q1 q2 q3 q4 q5 r0
  generalize x7.setCell ⟨b0 + 1 + 1, 4, none⟩ (.slice a1 ck.length d1) = v7 at *
  refine (I6.out _ _ (HE7.out).rq).mono ?_
  rintro e w8 ⟨rfl, hs8⟩
  have HT8 := Lib.hid ((HE7.out).step hs8)
  clear hs8
  go_wp2_with fail
  refine (M2.out _).mono ?_
  rintro e x8 ⟨⟨a2, d2, rfl, li8, lc8, ln8, lf8⟩, hb8⟩
  have hD8 := HT8.out.list hb8 li8 lf8
  obtain ⟨⟨q0, q1, q2, q3, q4, q5⟩, hfz⟩ := box_cells hD8
  have r0 := hfz 5
  have hE8 : Dq _ (x8.setCell ⟨b0 + 1 + 1, 5, none⟩ (.slice a2 co.length d2)) (w.heap.size + 1) (b0 + 1) (b0 + 1 + 1) #[.int .i64 g1, .int .i64 b1, .int .i64 z1, .int .i64 c1, .slice a1 ck.length d1, .slice a2 co.length d2] [(a2, co), (a1, ck)] os := hD8.put 5 (.slice a2 co.length d2)
  have HE8 := Lib.hid hE8; have LN8 := Lib.hid ln8
  clear hE8 hD8 hb8 hfz li8 lc8 lf8 ln8 HT8
  go_wp2_with fail
  clear q0 q1 q2 q3 q4 q5 r0
  generalize x8.setCell ⟨b0 + 1 + 1, 5, none⟩ (.slice a2 co.length d2) = v8 at *
  have hL := HE8.out.lists
  have hS : SupAt v8 ⟨g1, b1, z1, c1, ck, co⟩ a1 ck.length a2 co.length := ⟨(hL (a1, ck) (by simp)).1, (hL (a2, co) (by simp)).1, by omega, by omega⟩
  have hen := rencode_any ⟨g1, b1, z1, c1, ck, co⟩ a1 a2 ck.length d1 co.length d2 v8 hS (by omega) (by omega) LN7.out LN8.out
  unfold supV at hen
  obtain ⟨tz, htz⟩ : ∃ tz, (enR ⟨g1, b1, z1, c1, ck, co⟩).1 = tz := ⟨_, rfl⟩
  obtain ⟨te, hte⟩ : ∃ te, (enR ⟨g1, b1, z1, c1, ck, co⟩).2 = te := ⟨_, rfl⟩
  rw [htz, hte] at hen
  have HTZ := Lib.hid htz; have HTE := Lib.hid hte
  clear htz hte hL hS
  refine hen.mono ?_
  rintro e w9 ⟨rfl, hb9⟩
  have HD9 := Lib.hid (HE8.out.keep hb9)
  clear hb9 hen
  go_wp2_with fail
  refine (I7.out _ _ HD9.out.rq).mono ?_
  rintro e w10 ⟨rfl, hb10⟩
  have hD10 := HD9.out.keep hb10
  have hz10 := (hD10.below.block w.heap.size (Nat.lt_succ_self _)).trans HZ.out
  have hbw := HBA.out.trans (hD10.below.mono (Nat.le_succ _))
  obtain ⟨⟨q0, q1, q2, q3, q4, q5⟩, hfz⟩ := box_cells hD10
  obtain ⟨⟨p0, p1, p2, p3, p4, p5⟩, r0, r1, r2, r3, r4, r5⟩ := zero_cells6 hz10
  have hsup : SupAt w10 ⟨g1, b1, z1, c1, ck, co⟩ a1 ck.length a2 co.length := ⟨(hD10.lists (a1, ck) (by simp)).1, (hD10.lists (a2, co) (by simp)).1, by omega, by omega⟩
  have k1 : ∀ ad, a1 = some ad → w.heap.size < ad.block := fun ad he => by
    have h1 := (hD10.lists (a1, ck) (by simp)).2 ad he
    have h2 := hD10.le
    omega
  have k2 : ∀ ad, a2 = some ad → w.heap.size < ad.block := fun ad he => by
    have h1 := (hD10.lists (a2, co) (by simp)).2 ad he
    have h2 := hD10.le
    omega
  have KK1 := Lib.hid k1; have KK2 := Lib.hid k2
  clear hb10 HD9 hfz k1 k2 I1 I2 I3 I4 I5 I6 I7 M1 M2 HE3 HE4 HE5 HE6 HE7 HE8 HO HBA HZ HD0
  by_cases hf : Fit ⟨g1, b1, z1, c1, ck, co⟩
  · have e2 : enR ⟨g1, b1, z1, c1, ck, co⟩ = (str (sect ⟨g1, b1, z1, c1, ck, co⟩), 0) := if_pos hf
    have ht0 : te = 0 := by rw [← HTE.out, e2]
    have htz2 : tz = str (sect ⟨g1, b1, z1, c1, ck, co⟩) := by rw [← HTZ.out, e2]
    clear e2 HTE HTZ
    subst ht0
    cases hv : done os
    · clear htz2
      have e0 := dec_no (HNO.out (fun g => by have h9 := g.1; rw [hv] at h9; cases h9))
      have hZY : zeroSup = Y := by rw [← HYY.out]; exact e0.1.symm
      have hE12 : E = 12 := by rw [← HEE.out]; exact e0.2
      have hf := zero_stored (v := .int .i64 12) hbw
      rw [hZY] at hf
      have HF := Lib.hid hf; have HE12 := Lib.hid hE12
      have HRS := Lib.hid (six_cells (heap_put6 hz10 (.int .i64 0) (.int .i64 0) (.int .i64 0) (.int .i64 0) (.slice none 0 0) (.slice none 0 0)))
      clear hf hz10 hbw e0 hZY hE12 hD10 q0 q1 q2 q3 q4 q5 hsup HNO HYES HYY HEE
      go_wp2_with fail
      refine bodyPost_ret (results_two rfl _ _ w.heap.size _ _ _ _ _ _ rfl HRS.out) rfl ?_
      rw [HE12.out]
      exact HF.out
    · by_cases hs : sect ⟨g1, b1, z1, c1, ck, co⟩ = s.data.toList
      · have hts : tz = s := by rw [htz2, hs, str_data]
        have heq : (tz.toList == s.toList) = true := by rw [hts]; simp
        have e0 := dec_yes (HYES.out ⟨hv, hf, hs⟩)
        have hZY : (⟨g1, b1, z1, c1, ck, co⟩ : Sup) = Y := by rw [← HYY.out]; exact e0.1.symm
        have hE12 : E = 0 := by rw [← HEE.out]; exact e0.2
        have hf2 := sup_stored (v := .int .i64 0) (d1 := d1) (c2 := d2) hbw hsup KK1.out KK2.out LN7.out LN8.out
        have HF := Lib.hid hf2; have HE12 := Lib.hid hE12; have HZY := Lib.hid hZY
        have HRS := Lib.hid (six_cells (heap_put6 hz10 (.int .i64 g1) (.int .i64 b1) (.int .i64 z1) (.int .i64 c1) (.slice a1 ck.length d1) (.slice a2 co.length d2)))
        clear hf2 hz10 hbw e0 hE12 hZY hD10 hsup HNO HYES HYY HEE hs hf htz2 hts
        go_wp2_with fail
        refine bodyPost_ret (results_two rfl _ _ w.heap.size _ _ _ _ _ _ rfl HRS.out) rfl ?_
        rw [HE12.out, ← HZY.out]
        exact HF.out
      · have heq : (tz.toList == s.toList) = false := by
          rw [htz2]
          simp only [beq_eq_false_iff_ne, ne_eq]
          intro e
          rw [ByteArray.toList_eq, ByteArray.toList_eq] at e
          exact hs e
        clear htz2
        have e0 := dec_no (HNO.out (fun g => hs g.2.2))
        have hZY : zeroSup = Y := by rw [← HYY.out]; exact e0.1.symm
        have hE12 : E = 12 := by rw [← HEE.out]; exact e0.2
        have hf := zero_stored (v := .int .i64 12) hbw
        rw [hZY] at hf
        have HF := Lib.hid hf; have HE12 := Lib.hid hE12
        have HRS := Lib.hid (six_cells (heap_put6 hz10 (.int .i64 0) (.int .i64 0) (.int .i64 0) (.int .i64 0) (.slice none 0 0) (.slice none 0 0)))
        clear hf hz10 hbw e0 hZY hE12 hD10 q0 q1 q2 q3 q4 q5 hsup HNO HYES HYY HEE
        go_wp2_with fail
        refine bodyPost_ret (results_two rfl _ _ w.heap.size _ _ _ _ _ _ rfl HRS.out) rfl ?_
        rw [HE12.out]
        exact HF.out
  · have e2 : enR ⟨g1, b1, z1, c1, ck, co⟩ = (⟨#[]⟩, 1) := if_neg hf
    have ht0 : te = 1 := by rw [← HTE.out, e2]
    clear e2 HTE HTZ
    subst ht0
    cases hv : done os
    · skip
      have e0 := dec_no (HNO.out (fun g => hf g.2.1))
      have hZY : zeroSup = Y := by rw [← HYY.out]; exact e0.1.symm
      have hE12 : E = 12 := by rw [← HEE.out]; exact e0.2
      have hf := zero_stored (v := .int .i64 12) hbw
      rw [hZY] at hf
      have HF := Lib.hid hf; have HE12 := Lib.hid hE12
      have HRS := Lib.hid (six_cells (heap_put6 hz10 (.int .i64 0) (.int .i64 0) (.int .i64 0) (.int .i64 0) (.slice none 0 0) (.slice none 0 0)))
      clear hf hz10 hbw e0 hZY hE12 hD10 q0 q1 q2 q3 q4 q5 hsup HNO HYES HYY HEE
      go_wp2_with fail
      refine bodyPost_ret (results_two rfl _ _ w.heap.size _ _ _ _ _ _ rfl HRS.out) rfl ?_
      rw [HE12.out]
      exact HF.out
    · skip
      have e0 := dec_no (HNO.out (fun g => hf g.2.1))
      have hZY : zeroSup = Y := by rw [← HYY.out]; exact e0.1.symm
      have hE12 : E = 12 := by rw [← HEE.out]; exact e0.2
      have hf := zero_stored (v := .int .i64 12) hbw
      rw [hZY] at hf
      have HF := Lib.hid hf; have HE12 := Lib.hid hE12
      have HRS := Lib.hid (six_cells (heap_put6 hz10 (.int .i64 0) (.int .i64 0) (.int .i64 0) (.int .i64 0) (.slice none 0 0) (.slice none 0 0)))
      clear hf hz10 hbw e0 hZY hE12 hD10 q0 q1 q2 q3 q4 q5 hsup HNO HYES HYY HEE
      go_wp2_with fail
      refine bodyPost_ret (results_two rfl _ _ w.heap.size _ _ _ _ _ _ rfl HRS.out) rfl ?_
      rw [HE12.out]
      exact HF.out
theorem rdecode_any (s : ByteArray) (w : World) (hs : s.size ≤ 1000000) :
    Calls Try.prog 12 #[.string s] w (SupMade w (decY s.data.toList) (.int .i64 (decE s.data.toList))) := by
  have hO := fun w => ropen_any s w (by omega)
  rcases ho : opn s.data.toList with _ | ⟨n, i, c, t⟩
  · obtain ⟨e1, e2⟩ := dec_no (dec_none ho)
    rw [e1, e2]
    rw [ho] at hO
    exact rdecode_none s w (Lib.hid hO)
  · obtain ⟨hy, hn⟩ := rd_of ho
    have hlt := (opn_some ho).2.2
    rw [ho] at hO
    exact rdecode_some s (str t) n i c w (by rw [str_size]; omega) (Lib.hid hO) hy hn
end Go.Proofs.Ytigiaiddnbpcmaa
