/-
  LinesOrder: the walk of the law: it returns true, and what was there stays as it was.
-/
import Derived.Test.YtpaemofjeadhcaaDoorLinesM
set_option linter.unusedVariables false
set_option maxRecDepth 4000
set_option maxRecDepth 4000
namespace Go.Proofs.YtpaemofjeadhcaaDoor.Lines
open Go.RowKit LinesP NameP

theorem rev_step {l : List Ln} {p : Nat} {x : Ln} (hp : p < l.length) (hx : l.getD p ln0 = x) : (l.drop p).reverse = (l.drop (p + 1)).reverse ++ [x] := by
  rw [drop_get hp hx, List.reverse_cons]
theorem add_most {l : List Ln} (h : allQ l = true) (h8 : l.length ≤ 8) (k : Nat) : 0 ≤ addL (l.take k) ∧ addL (l.take k) ≤ 8388608 := by
  have hg : ∀ r : List Ln, (∀ x ∈ r, qty x.2 = true) → 0 ≤ addL r ∧ addL r ≤ 1048576 * (r.length : Int) := by
    intro r
    induction r with
    | nil => intro _; simp [addL]
    | cons x r ih =>
      intro hr
      have h1 := qty_iff.1 (hr x List.mem_cons_self)
      have h2 := ih (fun y hy => hr y (List.mem_cons_of_mem _ hy))
      simp only [addL, List.map_cons, List.sum_cons, List.length_cons] at h2 ⊢
      omega
  have h1 := hg (l.take k) (fun x hx => allQ_iff.1 h x (List.mem_of_mem_take hx))
  have h2 : (l.take k).length ≤ 8 := by rw [List.length_take]; omega
  omega
set_option maxHeartbeats 2000000 in
theorem linesOrder_walk (a : Option Addr) (len cap : Nat) (l : List Ln) (w : World) (h : LsAt w a len l) (hs : SzM l) (hv : Vars w) :
    Calls Tryd.prog 4 #[.slice a len cap] w fun e w' => e = .returned (.bool true) ∧ Below w.heap.size w w' := by
  have HV := Lib.hid (fun w' (hb : Below w.heap.size w w') => hv.keep hb)
  have C0 := Lib.hid (rfew_any a len cap l w h hs)
  have HX := Lib.hid h
  clear hv h
  cases hf : fewV l with
  | false =>
    rw [hf] at C0
    clear hs hf
    go_enter Tryd.func4, Tryd.ntmps4
    go_wp2_with fail
    refine C0.out.mono ?_
    rintro e w1 ⟨rfl, hb1⟩
    have HB1 := Lib.hid hb1
    have CA := Lib.hid (awake_any w1 (HV.out w1 hb1))
    clear hb1
    go_wp2_with fail
    refine CA.out.mono ?_
    rintro e w2 ⟨rfl, hb2⟩
    have HB2 := Lib.hid (below_keep HB1.out hb2 HB1.out.size)
    clear hb2
    go_wp2_with fail
    go_ret
    exact ⟨rfl, HB2.out⟩
  | true =>
    rw [hf] at C0
    obtain ⟨h8, hz⟩ := few_sz hf hs
    have HZ := Lib.hid hz
    have hl8 : len ≤ 8 := by rw [← HX.out.1]; exact h8
    clear hs hf hz
    go_enter Tryd.func4, Tryd.ntmps4
    go_wp2_with fail
    refine C0.out.mono ?_
    rintro e w1 ⟨rfl, hb1⟩
    have HB1 := Lib.hid hb1
    have HX1 := Lib.hid (HX.out.keep hb1)
    clear hb1
    go_wp2_with fail
    go_loopw [3, 5] (fun t i wr => ∃ q : Nat, q ≤ len ∧ i = .int .i64 ((q : Int) - 1) ∧ Hid (wr.ownsRow w1.heap.size 30 2 t (len - q) (lcells (l.drop q).reverse)) ∧ Hid (Below w1.heap.size w1 wr)) (fun _ i _ => (intOf i + 1).toNat)
    case atStart =>
      refine ⟨len, Nat.le_refl _, by go_num, ?_, Lib.hid (Below.refl _ _)⟩
      rw [Nat.sub_self, List.drop_of_length_le (Nat.le_of_eq HX.out.1)]
      exact Lib.hid (World.ownsRow_nil _ _ _ _)
    case round =>
      obtain ⟨q, hq, rfl, hO, hB⟩ := hrel
      cases q with
      | succ p =>
        have hi : ((p + 1 : Nat) : Int) - 1 = (p : Int) := by omega
        rw [hi]
        have hlk : p < len := by omega
        rcases HX1.out.2.2 with h0 | ⟨b1, o1, rfl, g1, hc1⟩
        · omega
        have d1 := (hB.out.cell (p := ⟨b1, o1 + p * 2, none⟩) g1).trans (hc1 p hlk).1
        have d2 := (hB.out.cell (p := ⟨b1, o1 + p * 2 + 1, none⟩) g1).trans (hc1 p hlk).2
        have hkx : p < l.length := by rw [HX.out.1]; exact hlk
        obtain ⟨x, hx⟩ : ∃ x, l.getD p ln0 = x := ⟨_, rfl⟩
        rw [hx] at d1 d2
        have HRS := Lib.hid (rev_step hkx hx)
        obtain ⟨s, n⟩ := x
        simp only at d1 d2
        have hsz5 : w1.heap.size ≤ wr.heap.size := hB.out.size
        have HLN : Hid (len - p = len - (p + 1) + 1) := by show _ = _; omega
        obtain ⟨L, hL⟩ : ∃ L, len - (p + 1) = L := ⟨_, rfl⟩
        rw [hL] at hO HLN
        have hLs : L ≤ 8 := by omega
        clear hx hkx hc1 g1 hi hL
        go_wp2_with (first
          | (at_builtin; refine append_line rfl (.tmp 24) (.tmp 29) rfl w1.heap.size wr _ rfl s n _ L _ rfl hO.out rfl (by omega) hsz5 ?_)
          | fail)
        intro v' w6 hown6 hgrow6
        have HO6 : Hid (w6.ownsRow w1.heap.size 30 2 v' (len - p) (lcells (l.drop p).reverse)) := by
          show w6.ownsRow _ _ _ _ _ _
          rw [HLN.out, HRS.out]; exact hown6
        have HB6 := Lib.hid (below_append hB.out hB.out.size hO.out hgrow6)
        clear hown6 hgrow6 d1 d2
        go_wp2_with fail
        go_roundw
        case rel => exact ⟨p, by omega, by go_num, HO6, HB6⟩
        case measure => simp [intOf]
      | zero =>
        rw [Nat.sub_zero, List.drop_zero] at hO
        have hrl : l.reverse.length = len := by rw [List.length_reverse]; exact HX.out.1
        obtain ⟨ra, rcap, rfl, hat⟩ := ls_of hO.out hrl (by omega)
        have HR := Lib.hid hat
        have HX2 := Lib.hid (HX1.out.keep (hB.out))
        have HB2 := Lib.hid (below_keep HB1.out hB.out HB1.out.size)
        have HZR : Hid (Sz l.reverse) := fun x hx => HZ.out x (List.mem_reverse.1 hx)
        have C1 := Lib.hid (norm_any a len cap l wr HX2.out HZ.out hl8)
        have HNP : Hid (normV l.reverse = normV l) := normV_perm (List.reverse_perm l)
        have hz0 : ((0 : Nat) : Int) - 1 = -1 := rfl
        rw [hz0]
        clear hat hrl hO
        rcases normV_cases l with ⟨er, hn, he1, he2, he3⟩ | ⟨hn, hF, hQ, hO, hL4⟩
        · rw [hn] at C1 HNP
          have hq1 : (er == 0) = false := by simpa using he1
          have hq2 : (er != 0) = true := by simpa using he1
          clear hn he1
          go_wp2_with fail
          refine C1.out.mono ?_
          rintro e w2 ⟨hb2, a2, cap2, rfl, hA2, _⟩
          have HB3 := Lib.hid (below_keep HB2.out hb2 HB2.out.size)
          have C2 := norm_any ra len rcap l.reverse w2 (HR.out.keep hb2) HZR.out hl8
          rw [HNP.out] at C2
          have C2 := Lib.hid C2
          have HA2 : Hid (LsAt w2 a2 0 []) := hA2
          have hl0 : ([] : List Ln).length = 0 := rfl
          simp only [hl0]
          clear hb2 hA2 hl0
          go_wp2_with fail
          refine C2.out.mono ?_
          rintro e w3 ⟨hb3, a3, cap3, rfl, hA3, _⟩
          have HB4 := Lib.hid (below_keep HB3.out hb3 HB3.out.size)
          have C3 := same_any a2 a3 0 cap2 0 cap3 [] [] w3 (HA2.out.keep hb3) hA3
          rw [eqUp_iff.2 rfl] at C3
          have C3 := Lib.hid C3
          have hl0 : ([] : List Ln).length = 0 := rfl
          simp only [hl0]
          clear hb3 hA3 hl0
          go_wp2_with fail
          refine C3.out.mono ?_
          rintro e w4 ⟨rfl, hb4⟩
          have HB5 := Lib.hid (below_keep HB4.out hb4 HB4.out.size)
          have CA := Lib.hid (awake_any w4 (HV.out w4 HB5.out))
          clear hb4
          go_wp2_with fail
          refine CA.out.mono ?_
          rintro e w5 ⟨rfl, hb5⟩
          have HB6 := Lib.hid (below_keep HB5.out hb5 HB5.out.size)
          clear hb5
          go_wp2_with fail
          go_ret
          exact ⟨rfl, HB6.out⟩
        · rw [hn] at C1 HNP
          have HFT := Lib.hid (norm_fit hF hQ hO hL4)
          have HSU : Hid (sumV (merged l) = addL l) := by show _ = _; unfold sumV; rw [HFT.out, if_pos rfl, merged_add]
          have HAM := Lib.hid (fun k => add_most hQ h8 k)
          obtain ⟨m, hm⟩ : ∃ m, merged l = m := ⟨_, rfl⟩
          rw [hm] at C1 HNP HFT HSU hL4
          clear hn hm hF hQ hO
          go_wp2_with fail
          refine C1.out.mono ?_
          rintro e w2 ⟨hb2, a2, cap2, rfl, hA2, hSm⟩
          have HB3 := Lib.hid (below_keep HB2.out hb2 HB2.out.size)
          have C2 := norm_any ra len rcap l.reverse w2 (HR.out.keep hb2) HZR.out hl8
          rw [HNP.out] at C2
          have C2 := Lib.hid C2
          have HX3 := Lib.hid (HX2.out.keep hb2)
          have HA2 := Lib.hid hA2
          have HSM := Lib.hid hSm
          obtain ⟨L, hL⟩ : ∃ L, m.length = L := ⟨_, rfl⟩
          simp only at HA2 HSM ⊢
          rw [hL] at HA2 hL4 ⊢
          clear hb2 hA2 hSm
          go_wp2_with fail
          refine C2.out.mono ?_
          rintro e w3 ⟨hb3, a3, cap3, rfl, hA3, _⟩
          have HB4 := Lib.hid (below_keep HB3.out hb3 HB3.out.size)
          have HA3 := Lib.hid (HA2.out.keep hb3)
          have HX4 := Lib.hid (HX3.out.keep hb3)
          simp only at hA3 ⊢
          rw [hL] at hA3 ⊢
          have C3 := same_any a2 a3 L cap2 L cap3 m m w3 HA3.out hA3
          rw [eqUp_iff.2 rfl] at C3
          have C3 := Lib.hid C3
          clear hb3 hA3
          go_wp2_with fail
          refine C3.out.mono ?_
          rintro e w4 ⟨rfl, hb4⟩
          have HB5 := Lib.hid (below_keep HB4.out hb4 HB4.out.size)
          have HA4 := Lib.hid (HA3.out.keep hb4)
          have HX5 := Lib.hid (HX4.out.keep hb4)
          clear hb4
          go_wp2_with fail
          go_loopw [4, 10] (fun t i wq => ∃ k : Nat, k ≤ len ∧ i = .int .i64 (k : Int) ∧ t = .int .i64 (addL (l.take k)) ∧ Hid (Below w4.heap.size w4 wq)) (fun _ i _ => len - (intOf i).toNat)
          case atStart => exact ⟨0, Nat.zero_le _, rfl, rfl, Lib.hid (Below.refl _ _)⟩
          case round =>
            obtain ⟨k, hk, rfl, rfl, hBq⟩ := hrel
            by_cases hlk : k < len
            · rcases HX5.out.2.2 with h0 | ⟨b1, o1, rfl, g1, hc1⟩
              · omega
              have d2 := (hBq.out.cell (p := ⟨b1, o1 + k * 2 + 1, none⟩) g1).trans (hc1 k hlk).2
              have hkx : k < l.length := by rw [HX.out.1]; exact hlk
              obtain ⟨x, hx⟩ : ∃ x, l.getD k ln0 = x := ⟨_, rfl⟩
              rw [hx] at d2
              have hstep := addL_step hkx hx
              obtain ⟨s, n⟩ := x
              have hf1 := HAM.out k
              have hf2 := HAM.out (k + 1)
              simp only at hstep d2
              rw [hstep] at hf2
              obtain ⟨t, ht⟩ : ∃ t, addL (l.take k) = t := ⟨_, rfl⟩
              rw [ht] at hf1 hf2 hstep ⊢
              have HST := Lib.hid hstep
              have hw : IntKind.i64.wrap (t + n) = t + n := by rw [IntWalk.i64_in] <;> omega
              clear hc1 g1 hx hkx hstep ht
              go_wp2_with fail
              go_roundw
              case rel => exact ⟨k + 1, by omega, by go_num, by rw [HST.out], hBq⟩
              case measure => simp [intOf]; omega
            · obtain rfl : k = len := by omega
              rw [List.take_of_length_le (Nat.le_of_eq HX.out.1)]
              have HA5 := Lib.hid (HA4.out.keep hBq.out)
              have HB6 := Lib.hid (below_keep HB5.out hBq.out HB5.out.size)
              have C4 := norm_any a2 L cap2 m wr HA5.out HSM.out (by omega)
              rw [normV_fit HFT.out] at C4
              have C4 := Lib.hid C4
              obtain ⟨al, hal⟩ : ∃ al, addL l = al := ⟨_, rfl⟩
              rw [hal] at HSU ⊢
              have hale : (al == al) = true := by simp
              clear hal
              go_wp2_with fail
              refine C4.out.mono ?_
              rintro e w5 ⟨hb5, a5, cap5, rfl, hA5, _⟩
              have HB7 := Lib.hid (below_keep HB6.out hb5 HB6.out.size)
              have HA6 := Lib.hid (HA5.out.keep hb5)
              simp only at hA5 ⊢
              rw [hL] at hA5 ⊢
              have HC5 := Lib.hid hA5
              have C5 := fit_any a2 L cap2 m w5 HA6.out HSM.out
              rw [HFT.out] at C5
              have C5 := Lib.hid C5
              clear hb5 hA5 hL
              go_wp2_with fail
              refine C5.out.mono ?_
              rintro e w6 ⟨rfl, hb6⟩
              have HB8 := Lib.hid (below_keep HB7.out hb6 HB7.out.size)
              have HA7 := Lib.hid (HA6.out.keep hb6)
              have HC6 := Lib.hid (HC5.out.keep hb6)
              have C6 := sum_any a2 L cap2 m w6 HA7.out HSM.out
              rw [HSU.out] at C6
              have C6 := Lib.hid C6
              clear hb6
              go_wp2_with fail
              refine C6.out.mono ?_
              rintro e w7 ⟨rfl, hb7⟩
              have HB9 := Lib.hid (below_keep HB8.out hb7 HB8.out.size)
              have C7 := same_any a2 a5 L cap2 L cap5 m m w7 (HA7.out.keep hb7) (HC6.out.keep hb7)
              rw [eqUp_iff.2 rfl] at C7
              have C7 := Lib.hid C7
              clear hb7
              go_wp2_with fail
              refine C7.out.mono ?_
              rintro e w8 ⟨rfl, hb8⟩
              have HB10 := Lib.hid (below_keep HB9.out hb8 HB9.out.size)
              have CA := Lib.hid (awake_any w8 (HV.out w8 HB10.out))
              clear hb8
              go_wp2_with fail
              refine CA.out.mono ?_
              rintro e w9 ⟨rfl, hb9⟩
              have HB11 := Lib.hid (below_keep HB10.out hb9 HB10.out.size)
              clear hb9
              go_wp2_with fail
              go_ret
              exact ⟨rfl, HB11.out⟩
end Go.Proofs.YtpaemofjeadhcaaDoor.Lines
