/-
  LinesRead: the walk of the law: it returns true, and what was there stays as it was; and its contract in the frame's form.
-/
import Derived.Test.YtpaemofjeadhcaaGreatDoorLinesM
import Derived.Test.YtpaemofjeadhcaaGreatDoorLinesTk
import Derived.Test.YtpaemofjeadhcaaGreatDoorLinesS
import Derived.Test.YtpaemofjeadhcaaGreatDoorLinesFr
set_option linter.unusedVariables false
set_option maxRecDepth 4000
namespace Go.Proofs.YtpaemofjeadhcaaGreatDoor.Lines
open Go.RowKit LinesP NameP
open WireP (St left done)
open Wire (RdAt RqAt)

theorem read_out {r : Option (List Ln)} {w w' : World} {e : Ending} (h : ReadOut w r e w') : OutOf w (r.getD []) (if r.isSome = true then 0 else 7) e w' := by
  refine ⟨h.1, ?_⟩
  rcases h.2 with ⟨rfl, he⟩ | ⟨l, a, cap, rfl, he, h1, h2⟩
  · exact ⟨none, 0, he, ls_nil _ _, sz_nil⟩
  · exact ⟨a, cap, he, h1, h2⟩
theorem ls_grown {w w' : World} {a : Option Addr} {len q : Nat} {l : List Ln} {st : St} (h : LsAt w a len l) (hq : RqAt w q st) (hg : w.grownBy w' (some q)) : LsAt w' a len l := by
  refine ⟨h.1, h.2.1, h.2.2.imp id ?_⟩
  rintro ⟨b, off, rfl, hlt, hc⟩
  have key : ∀ i, i < len → w'.heap[b]? = w.heap[b]? := by
    intro i hi
    refine hg.block b hlt ?_
    intro e
    obtain rfl : b = q := Option.some.inj e
    obtain ⟨z, hz, _⟩ := hq
    have h2 := (hc i hi).2
    rw [Wire.cell_of_heap hz] at h2
    match hj : off + i * 2 + 1 with
    | 0 => omega
    | 1 => rw [hj] at h2; simp at h2
    | j + 2 => rw [hj] at h2; simp at h2
  refine ⟨b, off, rfl, by have := hg.size; omega, fun i hi => ?_⟩
  have hk := key i hi
  have h1 := hc i hi
  refine ⟨?_, ?_⟩
  · rw [← h1.1]; simp [World.cell?, hk]
  · rw [← h1.2]; simp [World.cell?, hk]
theorem rq_new (w : World) (s : ByteArray) (hs : s.size ≤ 300) : RqAt (w.alloc (.cells #[.string s, .bool false] 37)) w.heap.size (some s.data.toList) := by
  exact ⟨s, heap_alloc_new w _, rfl, by omega⟩
theorem rqdone_is (b : Nat) (st : St) (v : Bool) (w : World) (h : RqAt w b st) (hr : done st = v) :
    Calls Tryz.prog 28 #[.pointer (some ⟨b, 0, none⟩)] w fun e w' => e = .returned (.bool v) ∧ Below w.heap.size w w' := by
  have h2 := Wire.rqdone_any b st w h
  rw [hr] at h2
  exact h2
set_option maxHeartbeats 4000000 in
theorem linesRead_walk (s : ByteArray) (w : World) (hk : s.size ≤ 9223372036854775807) (hv : Vars w) :
    Calls Tryz.prog 4 #[.string s] w fun e w' => e = .returned (.bool true) ∧ Below w.heap.size w w' := by
  have HV := Lib.hid (fun w' (hb : Below w.heap.size w w') => hv.keep hb)
  by_cases h300 : 300 < s.size
  · have hi : (300 : Int) < (s.size : Int) := by omega
    have CA := Lib.hid (awake_any w hv)
    clear hv
    go_enter Tryz.func4, Tryz.ntmps4
    go_wp2_with fail
    refine CA.out.mono ?_
    rintro e w2 ⟨rfl, hb2⟩
    have HB2 := Lib.hid hb2
    clear hb2
    go_wp2_with fail
    go_ret
    exact ⟨rfl, HB2.out⟩
  · have hi : ¬ (300 : Int) < (s.size : Int) := by omega
    have hs : s.size ≤ 300 := by omega
    have C1 := Lib.hid (read_any s w hs hv)
    clear hv
    obtain ⟨r, hr⟩ : ∃ r, readV s.data.toList = r := ⟨_, rfl⟩
    rw [hr] at C1
    have HR := Lib.hid hr
    clear hr
    go_enter Tryz.func4, Tryz.ntmps4
    go_wp2_with fail
    refine C1.out.mono ?_
    intro e w1 h1
    obtain ⟨hb1, a, cap, rfl, hA, _⟩ := read_out h1
    have HB1 := Lib.hid hb1
    have C2 := rread_any s w1 hs
    rw [HR.out] at C2
    have C2 := Lib.hid C2
    obtain ⟨m, hm⟩ : ∃ m, r.getD [] = m := ⟨_, rfl⟩
    obtain ⟨er, her⟩ : ∃ er : Int, (if r.isSome = true then (0 : Int) else 7) = er := ⟨_, rfl⟩
    rw [hm] at hA ⊢
    rw [her]
    have HM := Lib.hid hm
    have HER := Lib.hid her
    obtain ⟨L, hL⟩ : ∃ L, m.length = L := ⟨_, rfl⟩
    rw [hL] at hA ⊢
    have HL := Lib.hid hL
    have HA1 := Lib.hid hA
    have hee : (er == er) = true := by simp
    clear h1 hb1 hA hm her hL
    go_wp2_with fail
    refine C2.out.mono ?_
    intro e w2 h2
    obtain ⟨hb2, c, capc, rfl, hC, _⟩ := read_out h2
    rw [HM.out, HL.out] at hC
    rw [HM.out, HER.out, HL.out]
    have HB2 := Lib.hid (below_keep HB1.out hb2 HB1.out.size)
    have HA2 := Lib.hid (HA1.out.keep hb2)
    have HC2 := Lib.hid hC
    have C3 := Lib.hid (Wire.new_any s w2 (by omega))
    clear h2 hb2 hC
    go_wp2_with fail
    refine C3.out.mono ?_
    rintro e w3 ⟨rfl, hr3, hb3⟩
    have HR3 := Lib.hid hr3
    have HD3 := Lib.hid hb3
    have hq12 : w2.heap.size < w3.heap.size := HR3.out.lt
    have hrq := rq_new w3 s hs
    have HD4 := Lib.hid (HD3.out.alloc HD3.out.size (.cells #[.string s, .bool false] 37))
    have hrd4 := HR3.out.keep (Below.heap_alloc w3 (.cells #[.string s, .bool false] 37) _ HR3.out.lt)
    obtain ⟨w4, hw4⟩ : ∃ w4, w3.alloc (.cells #[.string s, .bool false] 37) = w4 := ⟨_, rfl⟩
    rw [hw4] at hrq HD4 hrd4
    have HW4 := Lib.hid hw4
    obtain ⟨q1, hq1⟩ : ∃ q1, w2.heap.size = q1 := ⟨_, rfl⟩
    obtain ⟨q2, hq2⟩ : ∃ q2, w3.heap.size = q2 := ⟨_, rfl⟩
    have HQ1 := Lib.hid hq1
    have HQ2 := Lib.hid hq2
    rw [hq1] at hrd4 hq12
    rw [hq2] at hrq hq12
    have HRD4 := Lib.hid hrd4
    have HRQ4 := Lib.hid hrq
    have hq21 : q2 ≠ q1 := by omega
    have C5 := Lib.hid (take_any q1 _ w4 HRD4.out)
    obtain ⟨sk, hsk⟩ : ∃ sk, (takeA (some s.data.toList)).2 = sk := ⟨_, rfl⟩
    obtain ⟨tv, htv⟩ : ∃ tv, takeV (some s.data.toList) = tv := ⟨_, rfl⟩
    have HSK := Lib.hid hsk
    have HTV := Lib.hid htv
    clear hr3 hb3 hrq hrd4 hw4 hq1 hq2 hsk htv
    go_wp2_with fail
    rw [show w3.alloc (.cells #[.string s, .bool false] 37) = w4 from HW4.out, show w2.heap.size = q1 from HQ1.out, show w3.heap.size = q2 from HQ2.out]
    refine C5.out.mono ?_
    rintro e w5 ⟨hg5, hrd5, _, a5, cap5, rfl, hA5⟩
    rw [HSK.out] at hrd5
    rw [HTV.out] at hA5 ⊢
    have HD5 := Lib.hid (HD4.out.trans (Wire.below_of_grown hg5 (Nat.le_of_eq HQ1.out) HRD4.out.lt))
    have HRD5 := Lib.hid hrd5
    have HRQ5 := Lib.hid (HRQ4.out.keep (hg5.block q2 HRQ4.out.lt (by simp; omega)))
    obtain ⟨N, hN⟩ : ∃ N, tv.length = N := ⟨_, rfl⟩
    rw [hN] at hA5 ⊢
    have HN := Lib.hid hN
    have HA5 := Lib.hid hA5
    have C6 := Lib.hid (rtake_any q2 _ w5 HRQ5.out)
    clear hg5 hrd5 hA5 hN
    go_wp2_with fail
    refine C6.out.mono ?_
    rintro e w6 ⟨hg6, hrq6, _, a6, cap6, rfl, hA6⟩
    rw [HSK.out] at hrq6
    rw [HTV.out, HN.out] at hA6
    rw [HTV.out, HN.out]
    have hle : w2.heap.size ≤ q2 := by have := HQ1.out; omega
    have HD6 := Lib.hid (HD5.out.trans (Wire.below_of_grown hg6 hle HRQ5.out.lt))
    have HB6 := Lib.hid (below_keep HB2.out HD6.out HB2.out.size)
    have HRQ6 := Lib.hid hrq6
    have HRD6 := Lib.hid (HRD5.out.keep (hg6.block q1 HRD5.out.lt (by simp; omega)))
    have HA6 := Lib.hid hA6
    have HP6 := Lib.hid (ls_grown HA5.out HRQ5.out hg6)
    have C7 := rsame_any a c L cap L capc m m w6 (HA2.out.keep HD6.out) (HC2.out.keep HD6.out)
    rw [eqUp_iff.2 rfl] at C7
    have C7 := Lib.hid C7
    clear hg6 hrq6 hA6
    go_wp2_with fail
    refine C7.out.mono ?_
    rintro e w7 ⟨rfl, hb7⟩
    have HB7 := Lib.hid (below_keep HB6.out hb7 HB6.out.size)
    have HRD7 := Lib.hid (HRD6.out.keep (hb7.block _ HRD6.out.lt))
    have HRQ7 := Lib.hid (HRQ6.out.keep (hb7.block _ HRQ6.out.lt))
    have C8 := rsame_any a5 a6 N cap5 N cap6 tv tv w7 (HP6.out.keep hb7) (HA6.out.keep hb7)
    rw [eqUp_iff.2 rfl] at C8
    have C8 := Lib.hid C8
    clear hb7
    go_wp2_with fail
    refine C8.out.mono ?_
    rintro e w8 ⟨rfl, hb8⟩
    have HB8 := Lib.hid (below_keep HB7.out hb8 HB7.out.size)
    have HRD8 := Lib.hid (HRD7.out.keep (hb8.block _ HRD7.out.lt))
    have HRQ8 := Lib.hid (HRQ7.out.keep (hb8.block _ HRQ7.out.lt))
    obtain ⟨nl, hnl⟩ : ∃ nl, left sk = nl := ⟨_, rfl⟩
    have C9 := Wire.left_any q1 sk w8 HRD8.out
    have C10 := Wire.rqleft_any q2 sk w8 HRQ8.out
    rw [hnl] at C9 C10
    have C9 := Lib.hid C9
    have C10 := Lib.hid C10
    obtain ⟨dv, hdv⟩ : ∃ dv, done sk = dv := ⟨_, rfl⟩
    have C11 := Lib.hid (Wire.rddone_is q1 sk dv w8 HRD8.out hdv)
    have HDV := Lib.hid hdv
    have hnn : ((nl : Int) == (nl : Int)) = true := by simp
    have hdd : (dv == dv) = true := by simp
    clear hb8 hnl hdv
    go_wp2_with fail
    refine C9.out.mono ?_
    rintro e w9 ⟨rfl, hw9⟩
    subst hw9
    go_wp2_with fail
    refine C10.out.mono ?_
    rintro e w10 ⟨rfl, hw10⟩
    subst hw10
    go_wp2_with fail
    refine C11.out.mono ?_
    rintro e w11 ⟨rfl, hb11⟩
    have HB11 := Lib.hid (below_keep HB8.out hb11 HB8.out.size)
    have HRQ11 := Lib.hid (HRQ8.out.keep (hb11.block _ HRQ8.out.lt))
    have C12 := Lib.hid (rqdone_is q2 sk dv w11 HRQ11.out HDV.out)
    clear hb11
    go_wp2_with fail
    refine C12.out.mono ?_
    rintro e w12 ⟨rfl, hb12⟩
    have HB12 := Lib.hid (below_keep HB11.out hb12 HB11.out.size)
    have CA := Lib.hid (awake_any w12 (HV.out w12 HB12.out))
    clear hb12
    go_wp2_with fail
    refine CA.out.mono ?_
    rintro e w13 ⟨rfl, hb13⟩
    have HB13 := Lib.hid (below_keep HB12.out hb13 HB12.out.size)
    clear hb13
    go_wp2_with fail
    go_ret
    exact ⟨rfl, HB13.out⟩
end Go.Proofs.YtpaemofjeadhcaaGreatDoor.Lines
namespace Go.Proofs.YtpaemofjeadhcaaGreatDoor
open Go.RowKit LinesP Lines

theorem laid_of {W : World} (h : laidMetH Tryz.prog Rows.linesReadRow.laid W) (hs : W.ShapedOpen Tryz.prog) : Laid W := laid_list (by kernel_rfl) h hs
namespace Contract
theorem linesRead (a0 : ByteArray) (W : World) (w0 : a0.size ≤ maxLen) (ht : Laid W) :
    Calls Tryz.prog 4 #[.string a0] W fun e w' => e = .returned (.bool true) ∧ Below W.heap.size W w' := by
  unfold maxLen at w0
  exact linesRead_walk a0 W w0 ht
end Contract
end Go.Proofs.YtpaemofjeadhcaaGreatDoor
