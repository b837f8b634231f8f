/-
  The contract of merge: the sums of folded Skus in a map of the call's own, or why there are none; up to eight lines.
-/
import Derived.Test.YtpaemofjeadhcaaGreatDoorLinesE
import Derived.Test.YtpaemofjeadhcaaGreatDoorLinesMp
import Derived.Test.YtpaemofjeadhcaaGreatDoorNameK
import Derived.Maps.OwnOps
set_option linter.unusedVariables false
set_option maxRecDepth 4000
namespace Go.Proofs.YtpaemofjeadhcaaGreatDoor.Lines
open Go.RowKit Go.WideMaps Go.Maps LinesP NameP

theorem klaw : Keyed Tryz.prog 9 := string_keyed Tryz.underlying9
theorem kzero (w : World) : (zeroValue 3).run Tryz.prog w = .ok (.int .i64 0) w := by kernel_rfl
/-- A map of the call's own. -/
def Mp (w : World) (b n : Nat) (D : DataW Unit) : Prop := w.ownsMap Tryz.prog 9 (plainElem Tryz.prog 3) b n D
theorem Mp.keep {w w' : World} {b n B : Nat} {D : DataW Unit} (h : Mp w b n D) (hb : Below B w w') (hB : b < B) : Mp w' b n D := by
  obtain ⟨es, clock, h1, F, h2, h3⟩ := h
  exact ⟨es, clock, (hb.block b hB).trans h1, F, h2, h3⟩
theorem Mp.lt {w : World} {b n : Nat} {D : DataW Unit} (h : Mp w b n D) : b < w.heap.size := by
  obtain ⟨es, clock, h1, F, h2, h3⟩ := h
  exact (Array.getElem?_eq_some_iff.1 h1).1
theorem key_of (s : ByteArray) (h : s.size ≤ 1000000) : keyOf Tryz.prog 9 (.string s) = some (.string s.data.toList) := keyOf_string_mk Tryz.underlying9 (by unfold maxLen; omega)
theorem allF_snoc {l : List Ln} {x : Ln} {k : Nat} (hk : k < l.length) (hx : l.getD k ln0 = x) (h : allF (l.take k) = true) : allF (l.take (k + 1)) = fok x.1 := by
  unfold allF at *
  rw [take_snoc hk hx, List.all_append, h]; simp
theorem allQ_snoc {l : List Ln} {x : Ln} {k : Nat} (hk : k < l.length) (hx : l.getD k ln0 = x) : allQ (l.take (k + 1)) = (allQ (l.take k) && qty x.2) := by
  unfold allQ
  rw [take_snoc hk hx, List.all_append]; simp
theorem allF_take {l : List Ln} {k : Nat} (h : allF (l.take k) = false) : allF l = false := by
  unfold allF at *
  rw [List.all_eq_false] at *
  obtain ⟨x, hx, e⟩ := h
  exact ⟨x, List.mem_of_mem_take hx, e⟩
def good (l : List Ln) : List Ln := l.filter fun x => qty x.2
theorem good_snoc {l : List Ln} {x : Ln} {k : Nat} (hk : k < l.length) (hx : l.getD k ln0 = x) : good (l.take (k + 1)) = if qty x.2 = true then good (l.take k) ++ [x] else good (l.take k) := by
  unfold good
  rw [take_snoc hk hx, List.filter_append]
  cases h : qty x.2 <;> simp [h]
theorem good_all {l : List Ln} (h : allQ l = true) : good l = l := List.filter_eq_self.2 (allQ_iff.1 h)
theorem good_sum (q : List UInt8) (l : List Ln) (k : Nat) (hl : l.length ≤ 8) : 0 ≤ sumK q (good (l.take k)) ∧ sumK q (good (l.take k)) ≤ 8388608 := by
  have h := sumK_most q (good (l.take k)) (fun x hx => (List.mem_filter.1 hx).2)
  have h2 : (good (l.take k)).length ≤ 8 := by
    refine Nat.le_trans (List.length_filter_le _ _) ?_
    rw [List.length_take]; omega
  omega
def errQ (b : Bool) : Int := if b = true then 0 else 11
/-- What merge leaves. -/
def MergeOut (w : World) (l : List Ln) (e : Ending) (w' : World) : Prop :=
  Below w.heap.size w w' ∧ ((allF l = false ∧ e = .returned (.tuple #[.map none, .int .i64 7])) ∨
    (allF l = true ∧ ∃ b n D, e = .returned (.tuple #[.map (some b), .int .i64 (errQ (allQ l))]) ∧ w.heap.size ≤ b ∧ Mp w' b n D ∧ n ≤ 8 ∧ DR D (good l)))
theorem merge_no {w w' : World} {l : List Ln} (h : allF l = false) (hb : Below w.heap.size w w') : MergeOut w l (.returned (.tuple #[.map none, .int .i64 7])) w' := ⟨hb, .inl ⟨h, rfl⟩⟩
theorem merge_yes {w w' : World} {l : List Ln} {er : Int} {b n : Nat} {D : DataW Unit} (h : allF l = true) (hq : errQ (allQ l) = er) (hl : w.heap.size ≤ b) (hm : Mp w' b n D) (hn : n ≤ 8) (hd : DR D (good l)) (hb : Below w.heap.size w w') : MergeOut w l (.returned (.tuple #[.map (some b), .int .i64 er])) w' := by
  subst hq; exact ⟨hb, .inr ⟨h, b, n, D, rfl, hl, hm, hn, hd⟩⟩
theorem fold_call (s z : ByteArray) (f : Int) (w : World) (hs : s.size ≤ 300) (h : NameP.foldV (NameP.vals s.data.toList) = (z.data.toList, f)) :
    Calls Tryz.prog 78 #[.string s] w fun e w' => e = .returned (.tuple #[.string z, .int .i64 f]) ∧ Below w.heap.size w w' := Name.fold_is s z f w (by omega) h
set_option maxHeartbeats 2000000 in
theorem merge_any (a : Option Addr) (len cap : Nat) (l : List Ln) (w : World) (h : LsAt w a len l) (hs : Sz l) (h8 : len ≤ 8) :
    Calls Tryz.prog 57 #[.slice a len cap] w (MergeOut w l) := by
  have HX := Lib.hid h
  have HS := Lib.hid hs
  have HL : l.length ≤ 8 := by rw [h.1]; exact h8
  have hmm := @run_makeMap Tryz.prog
  clear h hs
  go_enter Tryz.func57, Tryz.ntmps57
  go_wp2_with fail
  have HM0 : Hid (Mp (w.alloc (.map #[] 0)) w.heap.size 0 (.map [])) := World.ownsMap_made _ _ _ _
  have HB0 : Hid (Below w.heap.size w (w.alloc (.map #[] 0))) := (Below.refl _ _).alloc (Nat.le_refl _) _
  go_loopw [5, 13] (fun er i wr => ∃ (k : Nat) (D : DataW Unit), k ≤ len ∧ i = .int .i64 (k : Int) ∧ er = .int .i64 (errQ (allQ (l.take k))) ∧ Hid (allF (l.take k) = true) ∧ Hid (Mp wr w.heap.size k D) ∧ Hid (DR D (good (l.take k))) ∧ Hid (Below w.heap.size w wr)) (fun _ i _ => len - (intOf i).toNat)
  case atStart => exact ⟨0, .map [], Nat.zero_le _, rfl, rfl, Lib.hid rfl, HM0, Lib.hid dr_start, HB0⟩
  case round =>
    obtain ⟨k, D, hk, rfl, rfl, hF, hM, hD, hB⟩ := hrel
    by_cases hlk : k < len
    · rcases HX.out.2.2 with h0 | ⟨b1, o1, rfl, g1, hc1⟩
      · omega
      have d1 := (hB.out.cell (p := ⟨b1, o1 + k * 2, none⟩) g1).trans (hc1 k hlk).1
      have d2 := (hB.out.cell (p := ⟨b1, o1 + k * 2 + 1, none⟩) g1).trans (hc1 k hlk).2
      have hkx : k < l.length := by rw [HX.out.1]; exact hlk
      have hsz := HS.out.at hkx
      obtain ⟨p, hp⟩ : ∃ p, l.getD k ln0 = p := ⟨_, rfl⟩
      rw [hp] at d1 d2 hsz
      have hFS := allF_snoc hkx hp hF.out
      have hQS := allQ_snoc hkx hp
      have hGS := good_snoc hkx hp
      obtain ⟨s, n⟩ := p
      simp only at hFS hQS hGS hsz
      have HB2 := Lib.hid (hB.out.alloc hB.out.size (.cells #[.string s, .int .i64 n] 44))
      have HM2 := Lib.hid (hM.out.keep ((Below.refl _ wr).alloc (Nat.le_refl _) (.cells #[.string s, .int .i64 n] 44)) hM.out.lt)
      have hlm : w.heap.size < wr.heap.size := hM.out.lt
      have hc := boxed_cells wr s n
      rw [boxed_alloc] at hc
      obtain ⟨W, hW⟩ : ∃ W, wr.alloc (.cells #[.string s, .int .i64 n] 44) = W := ⟨_, rfl⟩
      have hbk : W.heap[wr.heap.size]? = some (.cells #[.string s, .int .i64 n] 44 (0, 0)) := by rw [← hW, ← boxed_alloc]; exact boxed_block wr s n
      have hlt : wr.heap.size < W.heap.size := (Array.getElem?_eq_some_iff.1 hbk).1
      rw [hW] at hc HB2 HM2
      have HBK := Lib.hid hbk
      have c0 := hc.1
      have HW := Lib.hid hW
      have HLT := Lib.hid hlt
      have HLM := Lib.hid hlm
      have HFS := Lib.hid hFS; have HQS := Lib.hid hQS; have HGS := Lib.hid hGS
      have hs3 := hsz.1
      clear hc hW hlt hbk hc1 g1 hp hB hM hFS hQS hGS hlm
      cases hfk : fok s with
      | false =>
        have HNO : Hid (allF l = false) := by show _ = _; exact allF_take (HFS.out.trans hfk)
        have C1 := Lib.hid (fun w' => fold_call s ⟨#[]⟩ 7 w' hs3 (fold_not hfk))
        clear hfk hkx hsz hD hF
        go_wp2_with fail
        rw [show wr.alloc (.cells #[.string s, .int .i64 n] 44) = W from HW.out]
        clear d1 d2 c0
        refine (C1.out W).mono ?_
        rintro e w4 ⟨rfl, hb4⟩
        have HB4 := Lib.hid (below_keep HB2.out hb4 HB2.out.size)
        clear hb4 HB2 HM2 HBK
        go_wp2_with fail
        go_ret2
        exact merge_no HNO.out HB4.out
      | true =>
        have HF2 : Hid (allF (l.take (k + 1)) = true) := Lib.hid (HFS.out.trans hfk)
        obtain ⟨z, hz⟩ : ∃ z, bk (fo s) = z := ⟨_, rfl⟩
        have C1 := Lib.hid (fun w' => fold_call s z 0 w' hs3 (by rw [fold_fo hfk, ← hz]; rfl))
        have hzl : z.size ≤ 48 := by rw [← hz]; exact nm_len (s := bk (fo s)) (fo_name hfk)
        obtain ⟨q, hq⟩ : ∃ q, qty n = q := ⟨_, rfl⟩
        have C2 := Lib.hid (fun w' => quantity_any n w')
        rw [hq] at C2
        have HQ := Lib.hid hq
        have HZ := Lib.hid hz
        clear hfk hz hq hF
        go_wp2_with fail
        rw [show wr.alloc (.cells #[.string s, .int .i64 n] 44) = W from HW.out]
        clear d1 d2 c0
        refine (C1.out W).mono ?_
        rintro e w4 ⟨rfl, hb4⟩
        have HB4 := Lib.hid (below_keep HB2.out hb4 HB2.out.size)
        have HM4 := Lib.hid (HM2.out.keep hb4 HM2.out.lt)
        have hx4 := (hb4.block _ HLT.out).trans HBK.out
        have HX4 := Lib.hid hx4
        have c4 : w4.cell? ⟨wr.heap.size, 1, none⟩ = some (.int .i64 n) := by simp [World.cell?, hx4]
        clear hb4 HB2 HM2 HBK hx4
        go_wp2_with fail
        refine (C2.out w4).mono ?_
        rintro e w5 ⟨rfl, hb5⟩
        have HB5 := Lib.hid (below_keep HB4.out hb5 HB4.out.size)
        have HM5 := Lib.hid (HM4.out.keep hb5 HM4.out.lt)
        have hx5 := (hb5.block _ (Array.getElem?_eq_some_iff.1 HX4.out).1).trans HX4.out
        have c5 : w5.cell? ⟨wr.heap.size, 1, none⟩ = some (.int .i64 n) := by simp [World.cell?, hx5]
        clear hb5 HB4 HM4 HX4 hx5 c4
        cases q with
        | false =>
          have HE : Hid (errQ (allQ (l.take (k + 1))) = 11) := by show _ = _; rw [HQS.out, HQ.out, Bool.and_false]; rfl
          have HG : Hid (DR D (good (l.take (k + 1)))) := by show DR _ _; rw [HGS.out, HQ.out]; exact hD.out
          go_wp2_with fail
          go_roundw
          case rel => exact ⟨k + 1, D, by omega, by go_num, by rw [HE.out], HF2, Lib.hid (World.ownsMap.mono HM5.out (Nat.le_succ _)), HG, HB5⟩
          case measure => simp [intOf]; omega
        | true =>
          have HE : Hid (errQ (allQ (l.take (k + 1))) = errQ (allQ (l.take k))) := by show _ = _; rw [HQS.out, HQ.out, Bool.and_true]
          obtain ⟨t, ht⟩ : ∃ t, sumK (fo s) (good (l.take k)) = t := ⟨_, rfl⟩
          have hts := good_sum (fo s) l k HL
          rw [ht] at hts
          have hqn := qty_iff.1 HQ.out
          have hzd : z.data.toList = fo s := by rw [← HZ.out]; rfl
          have HC : Hid (∀ c : Int, D.atKey (.string z.data.toList) (.lit (.int .i64 0)) = .lit (.int .i64 c) → c = t) := by
            show ∀ c : Int, _
            intro c hc
            rw [hzd] at hc
            rw [← ht]; exact hD.out.old hc
          have HG : Hid (DR (D.put (.string z.data.toList) (.lit (.int .i64 (t + n)))) (good (l.take (k + 1)))) := by
            show DR _ _
            rw [HGS.out, HQ.out, if_pos rfl, hzd]
            exact hD.out.step (World.ownsMap.isMap HM5.out) (s, n) ht.symm
          have hw : IntKind.i64.wrap (t + n) = t + n := by rw [IntWalk.i64_in] <;> omega
          have hkey := key_of z (by omega)
          have hwf : (Lit.int .i64 (t + n)).wf = true := WalkArith.wf_i64 (by omega)
          have hown := HM5.out
          unfold Mp at hown
          clear ht hzd
          go_wp2_with (first
            | (at_lookup; refine wpList_lookup_own_int _ rfl _ _ 71 rfl 9 3 .i64 klaw Tryz.underlying71 Tryz.underlying3 (kzero _) w.heap.size k D rfl hown _ _ rfl hkey ?_; intro c hat _; obtain rfl := HC.out c hat; clear hat)
            | (at_mapUpdate; refine wpList_mapUpdate_own _ rfl _ _ _ 71 rfl 9 3 klaw Tryz.underlying71 _ w.heap.size k _ rfl hown (by unfold maxLen; omega) _ _ _ rfl rfl hkey _ [] (plainElem_int Tryz.underlying3 hwf) ?_)
            | fail)
          intro w6 hown6 hg6
          have HM6 := Lib.hid hown6
          have HB6 := Lib.hid (HB5.out.grown hg6 HB5.out.size (fun j hj => by cases hj; exact Nat.le_refl _))
          clear hown6 hg6 hown
          go_wp2_with fail
          go_roundw
          case rel => exact ⟨k + 1, _, by omega, by go_num, by rw [HE.out], HF2, HM6, HG, HB6⟩
          case measure => simp [intOf]; omega
    · obtain rfl : k = len := by omega
      have ht : l.take k = l := List.take_of_length_le (Nat.le_of_eq HX.out.1)
      rw [ht] at hF hD
      have HQ : Hid (errQ (allQ l) = errQ (allQ (l.take k))) := by show _ = _; rw [ht]
      generalize errQ (allQ (l.take k)) = er at *
      clear ht
      go_wp2_with fail
      go_ret2
      exact merge_yes hF.out HQ.out (Nat.le_refl _) hM.out (by omega) hD.out hB.out
end Go.Proofs.YtpaemofjeadhcaaGreatDoor.Lines
