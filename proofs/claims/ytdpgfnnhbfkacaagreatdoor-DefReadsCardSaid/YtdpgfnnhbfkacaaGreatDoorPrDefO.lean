/-
  DefReads; what was there stays as it was.
-/
import Derived.Test.YtdpgfnnhbfkacaaGreatDoorPrDefFr
import Derived.Test.YtdpgfnnhbfkacaaGreatDoorPrDefJ
set_option linter.unusedVariables false
set_option linter.unusedSimpArgs false
set_option maxRecDepth 4000
namespace Go.Proofs.YtdpgfnnhbfkacaaGreatDoor.Def
open Go.RowKit DefP
open WireP (left done)
open Wire (RdAt RqAt RdStep)
open Go.Proofs.YtdpgfnnhbfkacaaGreatDoor.Kt
theorem rtk_is {At : World → Nat → Rd → Prop} {w w' : World} {b : Nat} {st st2 : Rd} {na : ByteArray} {l : List Step} {n : Nat} {e : Ending} (h : TkR At w b st e w') (hd : takeD st = ⟨na, l⟩) (hl : l.length = n) (hs : (takeA st).2 = st2) :
    w.grownBy w' (some b) ∧ At w' b st2 ∧ ∃ a c, e = .returned (dv na a n c) ∧ n ≤ c ∧ StAt w' a n l ∧ (n = 0 ∨ ∃ g, a = some ⟨g, 0, none⟩ ∧ w.heap.size ≤ g) := by
  obtain ⟨h1, h2, a, c, h3, h4, h5, h6⟩ := h
  subst hl
  rw [hs] at h2
  rw [hd] at h3 h4 h5 h6
  exact ⟨h1, h2, a, c, h3, h4, h5, h6⟩
theorem st_grown {w w' : World} {a : Option Addr} {n b B : Nat} {l : List Step} (h : StAt w a n l) (hg : w.grownBy w' (some b)) (h0 : n = 0 ∨ ∃ g, a = some ⟨g, 0, none⟩ ∧ B ≤ g) (hb : b < B) : StAt w' a n l := by
  refine ⟨h.1, h.2.1, ?_⟩
  rcases h.2.2 with h1 | ⟨g, off, e, hlt, hc⟩
  · exact .inl h1
  · rcases h0 with h0 | ⟨g', e', hB⟩
    · exact .inl h0
    · rw [e] at e'; cases e'
      exact .inr ⟨g, 0, e, Nat.lt_of_lt_of_le hlt hg.size, fun j u hu => (World.cell?_of_block (a := ⟨g, 0 + j, none⟩) (hg.block g hlt (fun e2 => by cases e2; omega))).trans (hc j u hu)⟩
theorem rq_new (w : World) (s : ByteArray) (hs : s.size ≤ 300) : RqAt (w.alloc (.cells #[.string s, .bool false] 39)) w.heap.size (some s.data.toList) := ⟨s, heap_alloc_new w _, rfl, by omega⟩
theorem rqdone_is (b : Nat) (st : Rd) (v : Bool) (w : World) (h : RqAt w b st) (hr : done st = v) :
    Calls Tryz.prog 28 #[.pointer (some ⟨b, 0, none⟩)] w fun e w' => e = .returned (.bool v) ∧ Below w.heap.size w w' := by
  have h2 := Wire.rqdone_any b st w h
  rw [hr] at h2
  exact h2

set_option maxHeartbeats 8000000 in
theorem reads_any (s : ByteArray) (w : World) (hk : s.size ≤ 9223372036854775807) (hv : Step.Vars w) : Calls Tryz.prog 4 #[.string s] w fun e w' => e = .returned (.bool true) ∧ Below w.heap.size w w' := by
  have HV := Lib.hid (fun W (hb : Below w.heap.size w W) => hv.keep hb)
  by_cases h300 : 300 < s.size
  · have hi : (300 : Int) < (s.size : Int) := by omega
    have CA := Lib.hid (awake_any w hv)
    clear hv
    go_enter Tryz.func4, Tryz.ntmps4
    go_wp2_with fail
    refine CA.out.mono ?_
    rintro e w2 ⟨rfl, hb⟩
    have HB := Lib.hid hb
    clear hb
    go_wp2_with fail
    go_ret
    exact ⟨rfl, HB.out⟩
  have hs : s.size ≤ 300 := by omega
  have hi : ¬ (300 : Int) < (s.size : Int) := by omega
  obtain ⟨na, l, hna⟩ : ∃ n l, gotD (readD s.data.toList) = (⟨n, l⟩ : Df) := ⟨_, _, rfl⟩
  obtain ⟨m, hm⟩ : ∃ m, l.length = m := ⟨_, rfl⟩
  obtain ⟨er, her⟩ : ∃ er, errD (readD s.data.toList) = er := ⟨_, rfl⟩
  obtain ⟨nb, l3, hnb⟩ : ∃ n l, takeD (some s.data.toList) = (⟨n, l⟩ : Df) := ⟨_, _, rfl⟩
  obtain ⟨m3, hm3⟩ : ∃ m, l3.length = m := ⟨_, rfl⟩
  obtain ⟨sk, hsk⟩ : ∃ sk, (takeA (some s.data.toList)).2 = sk := ⟨_, rfl⟩
  have T5 := Lib.hid (fun (w w' : World) (e : Ending) (q : Nat) (h : TkR RdAt w q (some s.data.toList) e w') => rtk_is h hnb hm3 hsk)
  have T6 := Lib.hid (fun (w w' : World) (e : Ending) (q : Nat) (h : TkR RqAt w q (some s.data.toList) e w') => rtk_is h hnb hm3 hsk)
  have C1 := Lib.hid (read_is s na l m er hna her hm w hs hv)
  have C2 := Lib.hid (fun W => rread_is s na l m er hna her hm W hs)
  have hee : (er == er) = true := by simp
  clear hna hm her hnb hm3 hsk hv
  go_enter Tryz.func4, Tryz.ntmps4
  go_wp2_with fail
  refine C1.out.mono ?_
  rintro e w1 ⟨a1, c1, rfl, _, hA1, _, hb1⟩
  have hba := (Below.refl w1.heap.size w1).alloc (Nat.le_refl _) (.cells #[.string na, .slice a1 m c1] 24)
  have HA1 := Lib.hid (Rw.At.keep hA1 hba)
  have HX1 := Lib.hid (at2_new 24 w1 (.string na) (.slice a1 m c1))
  have HB1 := Lib.hid (below_keep hb1 hba hb1.size)
  obtain ⟨u1, hu1⟩ : ∃ u, w1.alloc (.cells #[.string na, .slice a1 m c1] 24) = u := ⟨_, rfl⟩
  rw [hu1] at HA1 HX1 HB1
  have HU1 := Lib.hid hu1
  obtain ⟨k3, hk3⟩ : ∃ k, w1.heap.size = k := ⟨_, rfl⟩
  rw [hk3] at HX1
  have HK3 := Lib.hid hk3
  clear hA1 hb1 hba C1 hu1 hk3
  go_wp2_with fail
  rw [show w1.alloc (.cells #[.string na, .slice a1 m c1] 24) = u1 from HU1.out, show w1.heap.size = k3 from HK3.out]
  refine (C2.out u1).mono ?_
  rintro e w2 ⟨a2, c2, rfl, _, hA2, hb2⟩
  have hba := (Below.refl w2.heap.size w2).alloc (Nat.le_refl _) (.cells #[.string na, .slice a2 m c2] 24)
  have HA1 := Lib.hid ((HA1.out.keep hb2).keep hba)
  have HX1 := Lib.hid ((HX1.out.keep hb2).keep hba)
  have HA2 := Lib.hid (Rw.At.keep hA2 hba)
  have HX2 := Lib.hid (at2_new 24 w2 (.string na) (.slice a2 m c2))
  have HB2 := Lib.hid (below_keep (below_keep HB1.out hb2 HB1.out.size) hba (below_keep HB1.out hb2 HB1.out.size).size)
  obtain ⟨u2, hu2⟩ : ∃ u, w2.alloc (.cells #[.string na, .slice a2 m c2] 24) = u := ⟨_, rfl⟩
  rw [hu2] at HA1 HX1 HA2 HX2 HB2
  have HU2 := Lib.hid hu2
  obtain ⟨k5, hk5⟩ : ∃ k, w2.heap.size = k := ⟨_, rfl⟩
  rw [hk5] at HX2
  have HK5 := Lib.hid hk5
  have C3 := Lib.hid (Wire.new_any s u2 (by omega))
  clear hA2 hb2 hba C2 hu2 hk5
  go_wp2_with fail
  rw [show w2.alloc (.cells #[.string na, .slice a2 m c2] 24) = u2 from HU2.out, show w2.heap.size = k5 from HK5.out]
  refine C3.out.mono ?_
  rintro e w3 ⟨rfl, hr3, hb3⟩
  have hba := (Below.refl w3.heap.size w3).alloc (Nat.le_refl _) (.cells #[.string s, .bool false] 39)
  have hrq := rq_new w3 s hs
  have HD4 := Lib.hid (hb3.alloc hb3.size (.cells #[.string s, .bool false] 39))
  have HRD4 := Lib.hid (hr3.keep (hba.block _ hr3.lt))
  have hq12 : u2.heap.size < w3.heap.size := hr3.lt
  obtain ⟨w4, hw4⟩ : ∃ w4, w3.alloc (.cells #[.string s, .bool false] 39) = w4 := ⟨_, rfl⟩
  rw [hw4] at hrq HD4 HRD4
  have HW4 := Lib.hid hw4
  obtain ⟨q1, hq1⟩ : ∃ q1, u2.heap.size = q1 := ⟨_, rfl⟩
  obtain ⟨q2, hq2⟩ : ∃ q2, w3.heap.size = q2 := ⟨_, rfl⟩
  have HQ1 := Lib.hid hq1
  have HQ2 := Lib.hid hq2
  rw [hq1] at HRD4 hq12
  rw [hq2] at hrq hq12
  have HRQ4 := Lib.hid hrq
  have C5 := Lib.hid (take_any q1 _ w4 HRD4.out)
  clear hr3 hb3 hba hrq hw4 hq1 hq2 C3
  go_wp2_with fail
  rw [show w3.alloc (.cells #[.string s, .bool false] 39) = w4 from HW4.out, show u2.heap.size = q1 from HQ1.out, show w3.heap.size = q2 from HQ2.out]
  refine C5.out.mono ?_
  rintro e w5 h5
  obtain ⟨hg5, hrd5, a3, c3, rfl, _, hA5, hn5⟩ := T5.out _ _ _ _ h5
  have HD5 := Lib.hid (HD4.out.trans (Wire.below_of_grown hg5 (Nat.le_of_eq HQ1.out) HRD4.out.lt))
  have HRD5 := Lib.hid hrd5
  have HRQ5 := Lib.hid (HRQ4.out.keep (hg5.block q2 HRQ4.out.lt (by simp; omega)))
  have HA5 := Lib.hid hA5
  have HN5 := Lib.hid hn5
  have hq24 := HRQ4.out.lt
  have C6 := Lib.hid (rtake_any q2 _ w5 HRQ5.out)
  clear h5 hg5 hrd5 hA5 hn5 C5 T5
  go_wp2_with fail
  refine C6.out.mono ?_
  rintro e w6 h6
  obtain ⟨hg6, hrq6, a4, c4, rfl, _, hA6, _⟩ := T6.out _ _ _ _ h6
  have hle : u2.heap.size ≤ q2 := by have := HQ1.out; omega
  have HD6 := Lib.hid (HD5.out.trans (Wire.below_of_grown hg6 hle HRQ5.out.lt))
  have HRQ6 := Lib.hid hrq6
  have HRD6 := Lib.hid (HRD5.out.keep (hg6.block q1 HRD5.out.lt (by simp; omega)))
  have HA3 := Lib.hid (st_grown HA5.out hg6 HN5.out hq24)
  have HA4 := Lib.hid hA6
  clear h6 hg6 hrq6 hA6 C6 T6 HRQ5 HRD5 HA5 HN5
  have hb7 := ((Below.refl w6.heap.size w6).alloc (Nat.le_refl _) (.cells #[.string nb, .slice a3 m3 c3] 24)).alloc (by rw [World.size_alloc]; omega) (.cells #[.string nb, .slice a4 m3 c4] 24)
  have HB7 := Lib.hid (below_keep (below_keep HB2.out HD6.out HB2.out.size) hb7 (below_keep HB2.out HD6.out HB2.out.size).size)
  have HA1 := Lib.hid ((HA1.out.keep HD6.out).keep hb7)
  have HX1 := Lib.hid ((HX1.out.keep HD6.out).keep hb7)
  have HA2 := Lib.hid ((HA2.out.keep HD6.out).keep hb7)
  have HX2 := Lib.hid ((HX2.out.keep HD6.out).keep hb7)
  have HA3 := Lib.hid (HA3.out.keep hb7)
  have HA4 := Lib.hid (HA4.out.keep hb7)
  have HRD7 := Lib.hid (HRD6.out.keep (hb7.block _ HRD6.out.lt))
  have HRQ7 := Lib.hid (HRQ6.out.keep (hb7.block _ HRQ6.out.lt))
  have HX3 := Lib.hid ((at2_new 24 w6 (.string nb) (.slice a3 m3 c3)).alloc (.cells #[.string nb, .slice a4 m3 c4] 24))
  have hx4 := at2_new 24 (w6.alloc (.cells #[.string nb, .slice a3 m3 c3] 24)) (.string nb) (.slice a4 m3 c4)
  rw [World.size_alloc] at hx4
  obtain ⟨d0, d1⟩ := cells2 HX1.out
  obtain ⟨e0, e1⟩ := cells2 HX2.out
  obtain ⟨w7, hw7⟩ : ∃ w7, ((w6.alloc (.cells #[.string nb, .slice a3 m3 c3] 24)).alloc (.cells #[.string nb, .slice a4 m3 c4] 24)) = w7 := ⟨_, rfl⟩
  obtain ⟨k9, hk9⟩ : ∃ k, w6.heap.size = k := ⟨_, rfl⟩
  have HW7 := Lib.hid hw7
  have HK9 := Lib.hid hk9
  rw [hw7] at HB7 HA1 HX1 HA2 HX2 HA3 HA4 HRD7 HRQ7 HX3 hx4
  rw [hk9] at HX3 hx4
  have HX4 := Lib.hid hx4
  have C7 := Lib.hid (rsame_is na a1 m c1 l na a2 m c2 l true (eqD_self _) w7 HA1.out HA2.out)
  clear hb7 hx4 hw7 hk9 HB2 HD6 HRD6 HRQ6 HB1 HD5 HD4 HX1 HX2 HA1 HA2
  go_wp2_with fail
  rw [show ((w6.alloc (.cells #[.string nb, .slice a3 m3 c3] 24)).alloc (.cells #[.string nb, .slice a4 m3 c4] 24)) = w7 from HW7.out, show w6.heap.size = k9 from HK9.out]
  clear d0 d1 e0 e1
  refine C7.out.mono ?_
  rintro e w8 ⟨rfl, hb⟩
  have HB8 := Lib.hid (below_keep HB7.out hb HB7.out.size)
  have HRD8 := Lib.hid (HRD7.out.keep (hb.block _ HRD7.out.lt))
  have HRQ8 := Lib.hid (HRQ7.out.keep (hb.block _ HRQ7.out.lt))
  have HX3 := Lib.hid (HX3.out.keep hb); have HX4 := Lib.hid (HX4.out.keep hb)
  have C8 := Lib.hid (rsame_is nb a3 m3 c3 l3 nb a4 m3 c4 l3 true (eqD_self _) w8 (HA3.out.keep hb) (HA4.out.keep hb))
  obtain ⟨d0, d1⟩ := cells2 HX3.out
  obtain ⟨e0, e1⟩ := cells2 HX4.out
  clear hb C7 HA3 HA4 HB7 HRD7 HRQ7
  go_wp2_with fail
  refine C8.out.mono ?_
  rintro e w9 ⟨rfl, hb⟩
  have HB9 := Lib.hid (below_keep HB8.out hb HB8.out.size)
  have HRD9 := Lib.hid (HRD8.out.keep (hb.block _ HRD8.out.lt))
  have HRQ9 := Lib.hid (HRQ8.out.keep (hb.block _ HRQ8.out.lt))
  clear hb C8 HB8 HRD8 HRQ8 HX3 HX4 d0 d1 e0 e1
  obtain ⟨nl, hnl⟩ : ∃ nl, left sk = nl := ⟨_, rfl⟩
  have C9 := Wire.left_any q1 sk w9 HRD9.out
  have C10 := Wire.rqleft_any q2 sk w9 HRQ9.out
  rw [hnl] at C9 C10
  have C9 := Lib.hid C9
  have C10 := Lib.hid C10
  obtain ⟨dn, hdn⟩ : ∃ dn, done sk = dn := ⟨_, rfl⟩
  have C11 := Lib.hid (Wire.rddone_is q1 sk dn w9 HRD9.out hdn)
  have HDN := Lib.hid hdn
  have hnn : ((nl : Int) == (nl : Int)) = true := by simp
  have hdd : (dn == dn) = true := by simp
  clear hnl hdn
  go_wp2_with fail
  refine C9.out.mono ?_
  rintro e wx ⟨rfl, rfl⟩
  go_wp2_with fail
  refine C10.out.mono ?_
  rintro e wx ⟨rfl, rfl⟩
  go_wp2_with fail
  refine C11.out.mono ?_
  rintro e w11 ⟨rfl, hb⟩
  have HB11 := Lib.hid (below_keep HB9.out hb HB9.out.size)
  have C12 := Lib.hid (rqdone_is q2 sk dn w11 (HRQ9.out.keep (hb.block _ HRQ9.out.lt)) HDN.out)
  clear hb C9 C10 C11
  go_wp2_with fail
  refine C12.out.mono ?_
  rintro e w12 ⟨rfl, hb⟩
  have HB12 := Lib.hid (below_keep HB11.out hb HB11.out.size)
  have CA := Lib.hid (awake_any w12 (HV.out _ (below_keep HB11.out hb HB11.out.size)))
  clear hb C12
  go_wp2_with fail
  refine CA.out.mono ?_
  rintro e w13 ⟨rfl, hb⟩
  have HB13 := Lib.hid (below_keep HB12.out hb HB12.out.size)
  clear hb
  go_wp2_with fail
  go_ret
  exact ⟨rfl, HB13.out⟩
end Go.Proofs.YtdpgfnnhbfkacaaGreatDoor.Def
namespace Go.Proofs.YtdpgfnnhbfkacaaGreatDoor
open Go.RowKit DefP
def Laid (w : World) : Prop := Go.Proofs.YtdpgfnnhbfkacaaGreatDoor.Step.Vars w
theorem laid_of {W : World} (h : laidMetH Tryz.prog Rows.defReadsRow.laid W) (hs : W.ShapedOpen Tryz.prog) : Laid W := maxLen_of hs
theorem Contract.defReads (s : ByteArray) (W : World) (hs : s.size ≤ maxLen) (ht : Laid W) :
    Calls Tryz.prog 4 #[.string s] W fun e W' => e = .returned (.bool true) ∧ Below W.heap.size W W' :=
  Go.Proofs.YtdpgfnnhbfkacaaGreatDoor.Def.reads_any s W (by unfold maxLen at hs; omega) ht
end Go.Proofs.YtdpgfnnhbfkacaaGreatDoor
