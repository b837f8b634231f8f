/-
  The contract of the program's Norm: lines merged, or why there are none; up to eight lines.
-/
import Derived.Test.YtpaemofjeadhcaaGreatDoorLinesI
import Derived.Test.YtpaemofjeadhcaaGreatDoorIter
set_option linter.unusedVariables false
set_option maxRecDepth 4000
namespace Go.Proofs.YtpaemofjeadhcaaGreatDoor.Lines
open Go.RowKit Go.WideMaps Go.Maps LinesP NameP

/-- Lines handed back, and an error. -/
def OutOf (w : World) (m : List Ln) (er : Int) (e : Ending) (w' : World) : Prop :=
  Below w.heap.size w w' ∧ ∃ a cap, e = .returned (.tuple #[.slice a m.length cap, .int .i64 er]) ∧ LsAt w' a m.length m ∧ Sz m
theorem ls_nil (w : World) (a : Option Addr) : LsAt w a 0 [] := ⟨rfl, by omega, .inl rfl⟩
theorem sz_nil : Sz [] := fun x hx => by cases hx
theorem out_no {w w' : World} {r : List Ln × Int} {er : Int} (h : r = ([], er)) (hb : Below w.heap.size w w') : OutOf w r.1 r.2 (.returned (.tuple #[.slice none 0 0, .int .i64 er])) w' := by
  subst h; exact ⟨hb, none, 0, rfl, ls_nil _ _, sz_nil⟩
theorem out_yes {w w' : World} {r : List Ln × Int} {m : List Ln} {n : Nat} {a : Option Addr} {cap : Nat} (h : r = (m, 0)) (hn : m.length = n) (hl : LsAt w' a n m) (hs : Sz m) (hb : Below w.heap.size w w') : OutOf w r.1 r.2 (.returned (.tuple #[.slice a n cap, .int .i64 0])) w' := by
  subst h hn; exact ⟨hb, a, cap, rfl, hl, hs⟩
theorem keys_call (b : Nat) (w : World) :
    Calls Tryz.prog 59 #[.map (some b)] w fun e w' => e = .returned (.func (.func 81) #[] #[.pointer (some ⟨w.heap.size, 0, none⟩)]) ∧ w' = w.alloc (.cells #[.map (some b)] 71) :=
  (callsIn_wide (n := 5)).1 (Tryz.maps_Keys_59 (some b) w)
/-- Texts in memory. -/
def KeysAt (w : World) (v : Value) (P : List (List UInt8)) : Prop :=
  ∃ a cap, v = .slice a P.length cap ∧ (P.length = 0 ∨ ∃ g, a = some ⟨g, 0, none⟩ ∧ g < w.heap.size ∧ ∀ i, i < P.length → w.cell? ⟨g, i, none⟩ = some (.string (bk (P.getD i []))))
theorem keysAt_of {w : World} {B : Nat} {v : Value} {P : List (List UInt8)} (h : w.ownsRow B 9 1 v P.length (P.map encStr)) : KeysAt w v P := by
  rcases owns_form h with ⟨rfl, h0⟩ | ⟨g, cap, rfl, _, hlt⟩
  · exact ⟨none, 0, by rw [h0], .inl h0⟩
  · refine ⟨_, cap, rfl, .inr ⟨g, rfl, hlt, fun i hi => ?_⟩⟩
    have h2 := owns_cell (j := i) h rfl (u := encStr (P.getD i [])) (by rw [List.getElem?_map, List.getElem?_eq_getElem hi]; simp [List.getD, hi])
    exact h2
theorem sorted_call (b n : Nat) (D : DataW Unit) (w : World) (h : Mp w b n D) (hn : n ≤ 8) :
    Calls Tryz.prog 58 #[.func (.func 81) #[] #[.pointer (some ⟨w.heap.size, 0, none⟩)]] (w.alloc (.cells #[.map (some b)] 71)) fun e w' =>
      ∃ (v : Value) (ss : List (List UInt8)), e = .returned v ∧ ss.Perm (strKeys D) ∧ KeysAt w' v (ss.mergeSort fun x y => decide (x ≤ y)) ∧ Below (w.alloc (.cells #[.map (some b)] 71)).heap.size (w.alloc (.cells #[.map (some b)] 71)) w' := by
  have hsz := h.size_le
  refine ((callsIn_wide (n := 5)).1 (Tryz.slices_Sorted_keys_58_59 b n D _ w h (by unfold maxLen; omega) (by omega))).mono ?_
  rintro e w' ⟨v, ss, he, hp, hrow, _, hb⟩
  exact ⟨v, ss, he, hp, keysAt_of (B := (w.alloc (.cells #[.map (some b)] 71)).heap.size) (by rw [List.length_mergeSort]; exact hrow), hb⟩
theorem ranges_keep {w w' : World} {b r n cnt : Nat} {D : DataW Unit} {left : Lit → Bool} (h : w.ranges Tryz.prog 9 (plainElem Tryz.prog 3) b r n D left cnt) (hb : Below w.heap.size w w') : w'.ranges Tryz.prog 9 (plainElem Tryz.prog 3) b r n D left cnt := by
  have h1 := h.owns.lt
  have h2 := h.lt
  obtain ⟨es, clock, since, seen, c0, hb', F, hs, hD, hr, rest⟩ := h
  exact ⟨es, clock, since, seen, c0, (hb.block b h1).trans hb', F, hs, hD, (hb.block r h2).trans hr, rest⟩
/-- The merged lines, read off the keys. -/
def offK (l : List Ln) (P : List (List UInt8)) : List Ln := P.map fun k => (bk k, sumK k l)
theorem offK_snoc {l : List Ln} {P : List (List UInt8)} {k : Nat} (hk : k < P.length) : offK l (P.take (k + 1)) = offK l (P.take k) ++ [(bk (P.getD k []), sumK (P.getD k []) l)] := by
  unfold offK
  rw [List.take_succ_eq_append_getElem hk, List.map_append]
  simp [List.getD, hk]
theorem sz_merged {l : List Ln} (h : allF l = true) (k : allQ l = true) (o : over (merged l) = false) : Sz (merged l) := fun x hx =>
  ⟨by have := merged_size h x hx; omega, by have := merged_pos k x hx; omega, by have := over_no o x hx; omega⟩
set_option maxHeartbeats 2000000 in
theorem norm_any (a : Option Addr) (len cap : Nat) (l : List Ln) (w : World) (h : LsAt w a len l) (hs : Sz l) (h8 : len ≤ 8) :
    Calls Tryz.prog 29 #[.slice a len cap] w (OutOf w (normV l).1 (normV l).2) := by
  have C0 := Lib.hid (merge_any a len cap l w h hs h8)
  have HL : Hid (l.length ≤ 8) := by show _ ≤ _; rw [h.1]; exact h8
  obtain ⟨r, hr⟩ : ∃ r, normV l = r := ⟨_, rfl⟩
  rw [hr]
  have HR := Lib.hid hr
  clear hr h hs
  go_enter Tryz.func29, Tryz.ntmps29
  go_wp2_with fail
  refine C0.out.mono ?_
  rintro e w1 ⟨hb1, ⟨hF, rfl⟩ | ⟨hF, b, n, D, rfl, hlb, hM, hn, hD⟩⟩
  · have HD : Hid (r = ([], 7)) := by show r = _; rw [← HR.out]; exact normV_form hF
    have HB := Lib.hid hb1
    clear hF hb1
    go_wp2_with fail
    go_ret2
    exact out_no HD.out HB.out
  · have HB := Lib.hid hb1
    have HM := Lib.hid hM
    have HF := Lib.hid hF
    have HLB := Lib.hid hlb
    clear hb1 hM hF hlb
    cases hq : allQ l with
    | false =>
      have HD : Hid (r = ([], 11)) := by show r = _; rw [← HR.out]; exact normV_range HF.out hq
      have he : errQ false = 11 := rfl
      rw [he]
      clear hD hq he
      go_wp2_with fail
      go_ret2
      exact out_no HD.out HB.out
    | true =>
      have he : errQ true = 0 := rfl
      rw [he]
      rw [good_all hq] at hD
      have HQ := Lib.hid hq
      have HD := Lib.hid hD
      have hbl := HM.out.lt
      have hown := HM.out
      unfold Mp at hown
      clear he hD hq
      go_wp2_with (first
        | (at_range; refine wpList_range_own _ rfl _ 71 rfl 9 3 klaw Tryz.underlying71 _ b n D rfl hown ?_; intro w2 hrg2 hg2 hs2)
        | fail)
      go_frame
      have HB2 : Hid (Below w1.heap.size w1 w2) := (Below.refl _ w1).grown hg2 (Nat.le_refl _) (fun j hj => by cases hj)
      have HB3 := Lib.hid (below_keep HB.out HB2.out HB.out.size)
      have HRG2 := Lib.hid hrg2
      clear hrg2 hg2 hs2 hown
      go_loopw [7] (fun _ wr => ∃ (left : Lit → Bool) (cnt : Nat), Hid (wr.ranges Tryz.prog 9 (plainElem Tryz.prog 3) b w1.heap.size n D left cnt) ∧ Hid (∀ k, Maps.has D (.string k) = true → left (.string k) = false → sumK k l ≤ 1048576) ∧ Hid (Below w.heap.size w wr)) (fun _ wr => wr.rangeLeft b w1.heap.size)
      case atStart => exact ⟨_, _, HRG2, Lib.hid (fun k h1 h2 => by rw [h1] at h2; cases h2), HB3⟩
      case round =>
        obtain ⟨left, cnt, hrg, hA, hB⟩ := hrel
        have hrg' := hrg.out
        have hT := texts_of HM.out klaw Tryz.underlying9
        have HT := Lib.hid hT
        obtain ⟨sd, hsd⟩ : ∃ sd, Maps.size D = sd := ⟨_, rfl⟩
        have HSD : Hid ((merged l).length = sd) := by show _ = _; rw [← size_of HD.out hT, hsd]
        have hsn : sd ≤ 8 := by rw [← HSD.out]; exact Nat.le_trans (merged_len l) HL.out
        clear hT
        go_wp2_with (first
          | (at_next; refine wpList_next_ranges _ rfl _ rfl 9 klaw (plainElem Tryz.prog 3) encStr (Value.int .i64) (fun key kl hk => by obtain ⟨x, hx, _⟩ := Maps.keyOf_str Tryz.underlying9 hk; exact ⟨x, hx⟩) (fun v y hv => by obtain ⟨c, rfl, _⟩ := plainElem_int_inv Tryz.underlying3 hv; exact ⟨c, rfl⟩) b w1.heap.size n _ _ _ rfl hrg' ?_ ?_)
          | fail)
        · intro hc0 hl0
          have HO : Hid (over (merged l) = false) := over_none (fun k hk => hA.out k ((HD.out.there k).2 hk) (hl0 _))
          have hown2 := hrg.out.owns
          have HM2 : Hid (Mp wr b n D) := hown2
          have hlt2 := HM2.out.lt
          clear hrg' hA hl0 hc0 hrg HRG2
          by_cases h4 : 4 < sd
          · have HE : Hid (r = ([], 9)) := by show r = _; rw [← HR.out]; exact normV_long HF.out HQ.out HO.out (by rw [HSD.out]; exact h4)
            go_wp2_with (first
              | (at_len; refine wpList_len_own _ rfl _ 71 rfl 9 3 Tryz.underlying71 _ b n D rfl hown2 ?_; rw [hsd])
              | fail)
            go_ret2
            exact out_no HE.out hB.out
          · go_wp2_with (first
              | (at_len; refine wpList_len_own _ rfl _ 71 rfl 9 3 Tryz.underlying71 _ b n D rfl hown2 ?_; rw [hsd])
              | fail)
            refine (keys_call b wr).mono ?_
            rintro e w3 ⟨rfl, rfl⟩
            clear hown2
            have HC3 := Lib.hid (sorted_call b n D wr HM2.out hn)
            have HB4 := Lib.hid (hB.out.alloc hB.out.size (.cells #[.map (some b)] 71))
            have HM4 := Lib.hid (HM2.out.keep ((Below.refl _ wr).alloc (Nat.le_refl _) (.cells #[.map (some b)] 71)) hlt2)
            obtain ⟨w3, hw3⟩ : ∃ w3, wr.alloc (.cells #[.map (some b)] 71) = w3 := ⟨_, rfl⟩
            rw [hw3] at HC3 HB4 HM4
            have HW3 := Lib.hid hw3
            clear hw3
            go_wp2_with fail
            rw [show wr.alloc (.cells #[.map (some b)] 71) = w3 from HW3.out]
            refine HC3.out.mono ?_
            rintro e w4 ⟨v, ss, rfl, hp, hK, hb4⟩
            have HB5 := Lib.hid (below_keep HB4.out hb4 HB4.out.size)
            have HM5 := Lib.hid (HM4.out.keep hb4 HM4.out.lt)
            have hMG := merged_of HD.out HT.out hp
            obtain ⟨P, hP⟩ : ∃ P, (ss.mergeSort fun x y => decide (x ≤ y)) = P := ⟨_, rfl⟩
            rw [hP] at hMG hK
            have HMG : Hid (merged l = offK l P) := hMG
            have hpl : P.length ≤ 8 := by
              have := HSD.out
              rw [HMG.out] at this
              unfold offK at this
              rw [List.length_map] at this
              omega
            obtain ⟨ka, kcap, rfl, hkc⟩ := hK
            have HKC := Lib.hid hkc
            have hlt5 := HM5.out.lt
            clear hb4 hMG hP hp hkc HC3 HB4 HM4
            go_wp2_with fail
            go_loopw [8, 35] (fun t i wq => ∃ k : Nat, k ≤ P.length ∧ i = .int .i64 (k : Int) ∧ Hid (wq.ownsRow w4.heap.size 44 2 t k (lcells (offK l (P.take k)))) ∧ Hid (Below w4.heap.size w4 wq)) (fun _ i _ => P.length - (intOf i).toNat)
            case atStart => exact ⟨0, Nat.zero_le _, rfl, Lib.hid (World.ownsRow_nil _ _ _ _), Lib.hid (Below.refl _ _)⟩
            case round =>
              obtain ⟨k, hk, rfl, hO, hBq⟩ := hrel
              by_cases hlk : k < P.length
              · rcases HKC.out with h0 | ⟨g, rfl, hg, hc⟩
                · omega
                have d1 := (hBq.out.cell (p := ⟨g, k, none⟩) hg).trans (hc k hlk)
                have hofk := offK_snoc (l := l) hlk
                obtain ⟨q, hq⟩ : ∃ q, P.getD k [] = q := ⟨_, rfl⟩
                rw [hq] at d1 hofk
                obtain ⟨z, hz⟩ : ∃ z, bk q = z := ⟨_, rfl⟩
                obtain ⟨t, ht⟩ : ∃ t, sumK q l = t := ⟨_, rfl⟩
                rw [hz] at d1
                rw [hz, ht] at hofk
                have hmem : (z, t) ∈ merged l := by
                  rw [HMG.out, ← List.take_append_drop (k + 1) P]
                  unfold offK at hofk ⊢
                  rw [List.map_append, hofk]; simp
                have hzl : z.size ≤ 48 := merged_size HF.out _ hmem
                have hzd : z.data.toList = q := by rw [← hz]; rfl
                have HC : Hid (∀ c : Int, D.atKey (.string z.data.toList) (.lit (.int .i64 0)) = .lit (.int .i64 c) → c = t) := by
                  show ∀ c : Int, _
                  intro c hc
                  rw [hzd] at hc
                  rw [← ht]; exact HD.out.old hc
                have HOF := Lib.hid hofk
                have hkey := key_of z (by omega)
                have hown5 := HM5.out.keep hBq.out hlt5
                unfold Mp at hown5
                have hsz5 : w4.heap.size ≤ wr.heap.size := hBq.out.size
                clear hofk hmem hz ht hzd hq hc hg
                go_wp2_with (first
                  | (at_lookup; refine wpList_lookup_own_int _ rfl _ _ 71 rfl 9 3 .i64 klaw Tryz.underlying71 Tryz.underlying3 (kzero _) b n D rfl hown5 _ _ rfl hkey ?_; intro c hat hwc; rw [HC.out c hat]; clear hat hwc c)
                  | (at_builtin; refine append_line rfl (.tmp 39) (.tmp 45) rfl w4.heap.size wr _ rfl z t _ k (offK l (P.take k)) rfl hO.out rfl (by omega) hsz5 ?_)
                  | fail)
                intro v' w6 hown6 hgrow6
                have HO6 : Hid (w6.ownsRow w4.heap.size 44 2 v' (k + 1) (lcells (offK l (P.take (k + 1))))) := by
                  show w6.ownsRow _ _ _ _ _ _
                  rw [HOF.out]; exact hown6
                have HB6 := Lib.hid (below_append hBq.out hBq.out.size hO.out hgrow6)
                clear hown6 hgrow6 hown5
                go_wp2_with fail
                go_roundw
                case rel => exact ⟨k + 1, by omega, by go_num, HO6, HB6⟩
                case measure => simp [intOf]; omega
              · obtain rfl : k = P.length := by omega
                rw [List.take_length] at hO
                have hlen : (offK l P).length = P.length := by unfold offK; rw [List.length_map]
                obtain ⟨ra, rcap, rfl, hat⟩ := ls_of hO.out hlen (by omega)
                have HE : Hid (r = (offK l P, 0)) := by
                  show r = _
                  rw [← HR.out, ← HMG.out]; exact normV_yes HF.out HQ.out HO.out (by rw [HSD.out]; exact h4)
                have HAT := Lib.hid hat
                have HLN := Lib.hid hlen
                have HSZ : Hid (Sz (offK l P)) := by show Sz _; rw [← HMG.out]; exact sz_merged HF.out HQ.out HO.out
                have HBZ := Lib.hid (below_keep HB5.out hBq.out HB5.out.size)
                clear hat hlen hO
                go_wp2_with fail
                go_ret2
                exact out_yes HE.out HLN.out HAT.out HSZ.out HBZ.out
        · intro x c kl yd yp w3 cnt3 hkey hlk hv hat hrg3 hlt3 hg3 hs3 hen
          obtain ⟨x', ex, rfl, _⟩ := Maps.keyOf_str Tryz.underlying9 hkey
          obtain rfl : x = x' := encStr_inj ex
          obtain ⟨c', ec, ey, _⟩ := plainElem_int_inv Tryz.underlying3 hv
          obtain rfl : c = c' := by cases ec; rfl
          have hyd : yd = .lit (.int .i64 c) := congrArg Prod.fst ey
          have hin : inK x l := (HD.out.there x).1 (has_true_of_atKey hat)
          have hcs : c = sumK x l := by
            have h1 := hat (.lit (.int .i64 0))
            rw [hyd] at h1
            exact HD.out.old h1
          have hpos : 1 ≤ c := by rw [hcs]; exact sumK_pos (fun y hy => (qty_iff.1 (allQ_iff.1 HQ.out y hy)).1) hin
          have HB4 := Lib.hid (hB.out.grown hg3 hB.out.size (fun j hj => by cases hj; exact HB.out.size))
          have HRG4 := Lib.hid hrg3
          have CQ := Lib.hid (fun w' => quantity_any c w')
          have HIN := Lib.hid hin
          have HCS := Lib.hid hcs
          clear hs3 hg3 hkey hv ey ec hat hyd hin hcs hrg3 hrg' ex
          cases hqc : qty c with
          | false =>
            have HE : Hid (r = ([], 5)) := by
              show r = _
              rw [← HR.out]
              refine normV_over HF.out HQ.out (over_some HIN.out ?_)
              rw [← HCS.out]
              rcases Int.lt_or_le 1048576 c with h | h
              · exact h
              · exact absurd (qty_iff.2 ⟨hpos, h⟩) (by rw [hqc]; decide)
            rw [hqc] at CQ
            clear hqc
            go_wp2_with fail
            refine (CQ.out _).mono ?_
            rintro e w5 ⟨rfl, hb5⟩
            have HB5 := Lib.hid (below_keep HB4.out hb5 HB4.out.size)
            clear hb5
            go_wp2_with fail
            go_ret2
            exact out_no HE.out HB5.out
          | true =>
            have HA2 : Hid (∀ k, Maps.has D (.string k) = true → (left (.string k) && !Lit.sameKey (.string k) (.string x)) = false → sumK k l ≤ 1048576) := by
              show ∀ k, _
              intro k h1 h2
              rcases Bool.and_eq_false_iff.1 h2 with h2 | h2
              · exact hA.out k h1 h2
              · have : k = x := by simpa [Lit.sameKey] using h2
                rw [this, ← HCS.out]; exact (qty_iff.1 hqc).2
            rw [hqc] at CQ
            have HR4 := Lib.hid (fun (w5 : World) (hb : Below w3.heap.size w3 w5) => (show w5.ranges Tryz.prog 9 (plainElem Tryz.prog 3) b w1.heap.size n D (fun z => left z && !z.sameKey (.string x)) cnt3 from ranges_keep HRG4.out hb))
            clear hqc
            go_wp2_with fail
            refine (CQ.out _).mono ?_
            rintro e w5 ⟨rfl, hb5⟩
            have HB5 := Lib.hid (below_keep HB4.out hb5 HB4.out.size)
            have HR5 := Lib.hid (HR4.out w5 hb5)
            have hm1 := HR5.out.left_eq
            have hm2 := hrg.out.left_eq
            clear hb5
            go_wp2_with fail
            go_roundw
            case rel => exact ⟨_, cnt3, HR5, HA2, HB5⟩
            case measure => rw [hm1, hm2]; exact hlt3
end Go.Proofs.YtpaemofjeadhcaaGreatDoor.Lines
