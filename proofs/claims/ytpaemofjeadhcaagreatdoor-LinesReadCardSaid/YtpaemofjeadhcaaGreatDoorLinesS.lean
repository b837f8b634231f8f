/-
  The contracts of the document's Split and of its Read: texts of up to 300 octets; what was there stays as it was.
-/
import Derived.Test.YtpaemofjeadhcaaGreatDoorLinesG
set_option linter.unusedVariables false
set_option maxRecDepth 4000
namespace Go.Proofs.YtpaemofjeadhcaaGreatDoor.Lines
open Go.RowKit LinesP
open NumP (numP numP_cases)

theorem cons_at (s : ByteArray) (k : Nat) (h : k < s.size) : s.data.toList.drop k = s[k] :: s.data.toList.drop (k + 1) := by
  have h2 : k < s.data.toList.length := by rw [← size_list]; exact h
  rw [List.drop_eq_getElem_cons h2]
  rfl
theorem ext_list (s : ByteArray) (i j : Nat) : (s.extract i j).data.toList = (s.data.toList.drop i).take (j - i) := by
  rw [ByteArray.data_extract, Array.toList_extract, List.extract_eq_take_drop]
/-- What Split has told so far: the parts, where the next one begins. -/
def Cuts (c : UInt8) (L : List UInt8) (D : List ByteArray) (f k : Nat) : Prop :=
  parts c L = D.map (·.data.toList) ++ parts c (L.drop f) ∧ c ∉ (L.drop f).take (k - f) ∧ D.length ≤ k
theorem Cuts.start (c : UInt8) (L : List UInt8) : Cuts c L [] 0 0 := ⟨rfl, by simp, Nat.le_refl _⟩
theorem Cuts.no {c : UInt8} {s : ByteArray} {D : List ByteArray} {f k : Nat} (h : Cuts c s.data.toList D f k) (hf : f ≤ k) (hk : k < s.size) (hc : s[k] ≠ c) : Cuts c s.data.toList D f (k + 1) := by
  refine ⟨h.1, ?_, by have := h.2.2; omega⟩
  have h3 : ((s.data.toList.drop f).take (k + 1 - f)) = (s.data.toList.drop f).take (k - f) ++ [s[k]] := by
    have e : k + 1 - f = (k - f) + 1 := by omega
    have h2 : k - f < (s.data.toList.drop f).length := by rw [List.length_drop, ← size_list]; omega
    rw [e, List.take_succ_eq_append_getElem h2]
    congr 1
    have := cons_at s k hk
    have e2 : (s.data.toList.drop f).drop (k - f) = s.data.toList.drop k := by rw [List.drop_drop]; congr 1; omega
    have h4 := List.drop_eq_getElem_cons h2
    rw [e2, this] at h4
    rw [(List.cons.inj h4).1]
  rw [h3]
  intro hm
  rcases List.mem_append.1 hm with hm | hm
  · exact h.2.1 hm
  · simp at hm; exact hc hm.symm
theorem Cuts.yes {c : UInt8} {s : ByteArray} {D : List ByteArray} {f k : Nat} (h : Cuts c s.data.toList D f k) (hf : f ≤ k) (hk : k < s.size) (hc : s[k] = c) : Cuts c s.data.toList (D ++ [s.extract f k]) (k + 1) (k + 1) := by
  refine ⟨?_, by simp, by have := h.2.2; simp; omega⟩
  have e2 : (s.data.toList.drop f).drop (k - f) = s.data.toList.drop k := by rw [List.drop_drop]; congr 1; omega
  have h5 : s.data.toList.drop f = (s.data.toList.drop f).take (k - f) ++ c :: s.data.toList.drop (k + 1) := by
    rw [← hc, ← cons_at s k hk, ← e2, List.take_append_drop]
  have h6 : parts c (s.data.toList.drop f) = (s.data.toList.drop f).take (k - f) :: parts c (s.data.toList.drop (k + 1)) := by
    refine parts_more ?_
    rw (occs := .pos [1]) [h5]
    exact cut_mk _ _ h.2.1
  rw [h.1, h6, List.map_append]
  simp
theorem Cuts.done {c : UInt8} {s : ByteArray} {D : List ByteArray} {f : Nat} (h : Cuts c s.data.toList D f s.size) : (D ++ [s.extract f s.size]).map (·.data.toList) = parts c s.data.toList := by
  have h2 : (s.data.toList.drop f).take (s.size - f) = s.data.toList.drop f := List.take_of_length_le (by rw [List.length_drop, ← size_list]; exact Nat.le_refl _)
  have h3 := h.2.1
  rw [h2] at h3
  rw [h.1, parts_one (cut_none h3), List.map_append]
  simp [h2]
theorem ext_all (s : ByteArray) (f : Nat) (h : f ≤ s.size) : (s.extract f s.size).size ≤ s.size := by rw [ByteArray.size_extract]; omega
/-- Texts in memory, at least one. -/
def SplitOut (w : World) (ps : List (List UInt8)) (e : Ending) (w' : World) : Prop :=
  Below w.heap.size w w' ∧ ∃ (P : List ByteArray) (g cap : Nat), P.map (·.data.toList) = ps ∧ e = .returned (.slice (some ⟨g, 0, none⟩) P.length cap) ∧ g < w'.heap.size ∧ ∀ i x, P[i]? = some x → w'.cell? ⟨g, i, none⟩ = some (.string x)
theorem split_out {w w' : World} {ps : List (List UInt8)} {P : List ByteArray} {n B : Nat} {v : Value} (h : P.map (·.data.toList) = ps) (hn : P.length = n) (h1 : 0 < n) (ho : w'.ownsRow B 9 1 v n (P.map Value.string)) (hb : Below w.heap.size w w') : SplitOut w ps (.returned v) w' := by
  subst hn
  rcases owns_form ho with ⟨_, h0⟩ | ⟨g, cap, rfl, _, hlt⟩
  · omega
  · exact ⟨hb, P, g, cap, h, rfl, hlt, fun i x hx => owns_cell ho rfl (by rw [List.getElem?_map, hx]; rfl)⟩
set_option maxHeartbeats 2000000 in
theorem rsplit_any (s : ByteArray) (c : UInt8) (ci : Int) (hci : ci = (c.toNat : Int)) (w : World) (hs : s.size ≤ 300) :
    Calls Tryz.prog 46 #[.string s, .int .u8 ci] w (SplitOut w (parts c s.data.toList)) := by
  obtain ⟨ps, hps⟩ : ∃ ps, parts c s.data.toList = ps := ⟨_, rfl⟩
  rw [hps]
  have HPS := Lib.hid hps
  have HCI := Lib.hid hci
  clear hps hci
  go_enter Tryz.func46, Tryz.ntmps46
  go_wp2_with fail
  go_loopw [5, 6, 7] (fun t fr i wr => ∃ (k f : Nat) (D : List ByteArray), k ≤ s.size ∧ f ≤ k ∧ i = .int .i64 (k : Int) ∧ fr = .int .i64 (f : Int) ∧ Hid (Cuts c s.data.toList D f k) ∧ Hid (wr.ownsRow w.heap.size 9 1 t D.length (D.map Value.string)) ∧ Hid (Below w.heap.size w wr)) (fun _ _ i _ => s.size - (intOf i).toNat)
  case atStart => exact ⟨0, 0, [], Nat.zero_le _, Nat.le_refl _, rfl, rfl, Lib.hid (Cuts.start c _), Lib.hid (World.ownsRow_nil _ _ _ _), Lib.hid (Below.refl _ _)⟩
  case round =>
    obtain ⟨k, f, D, hk, hf, rfl, rfl, hC, hO, hB⟩ := hrel
    have hdl := hC.out.2.2
    by_cases hlk : k < s.size
    · obtain ⟨b, hb⟩ : ∃ b : UInt8, s[k] = b := ⟨_, rfl⟩
      by_cases hbc : b = c
      · have HC2 : Hid (Cuts c s.data.toList (D ++ [s.extract f k]) (k + 1) (k + 1)) := hC.out.yes hf hlk (hb.trans hbc)
        have hq : ((b.toNat : Int) == ci) = true := by rw [HCI.out, hbc]; simp
        have hsz5 : w.heap.size ≤ wr.heap.size := hB.out.size
        obtain ⟨x, hx⟩ : ∃ x, s.extract f k = x := ⟨_, rfl⟩
        rw [hx] at HC2
        have HX := Lib.hid hx
        obtain ⟨L, hL⟩ : ∃ L, D.length = L := ⟨_, rfl⟩
        rw [hL] at hO hdl
        have HLN : Hid ((D ++ [x]).length = L + 1) := by show _ = _; rw [List.length_append, hL]; rfl
        have hkf : (f : Int) ≤ (k : Int) := by omega
        clear hbc hC hL
        go_wp2_with (first
          | (at_builtin; refine append_str rfl (.tmp 19) (.tmp 24) rfl w.heap.size wr _ rfl x _ L D rfl hO.out rfl (by omega) hsz5 ?_)
          | fail)
        intro v' w6 hown6 hgrow6
        have HO6 : Hid (w6.ownsRow w.heap.size 9 1 v' (D ++ [x]).length ((D ++ [x]).map Value.string)) := by
          show w6.ownsRow _ _ _ _ _ _
          rw [HLN.out, List.map_append]; exact hown6
        have HB6 := Lib.hid (below_append hB.out hB.out.size hO.out hgrow6)
        clear hown6 hgrow6
        go_wp2_with fail
        go_roundw
        case rel => exact ⟨k + 1, k + 1, D ++ [x], by omega, Nat.le_refl _, by go_num, by go_num, HC2, HO6, HB6⟩
        case measure => simp [intOf]; omega
      · have HC2 : Hid (Cuts c s.data.toList D f (k + 1)) := hC.out.no hf hlk (by rw [hb]; exact hbc)
        have hq : ((b.toNat : Int) == ci) = false := by
          rw [HCI.out, beq_eq_false_iff_ne]
          intro e
          exact hbc (UInt8.toNat_inj.1 (by omega))
        clear hbc hC
        go_wp2_with fail
        go_roundw
        case rel => exact ⟨k + 1, f, D, by omega, by omega, by go_num, rfl, HC2, hO, hB⟩
        case measure => simp [intOf]; omega
    · obtain rfl : k = s.size := by omega
      have HD := Lib.hid (hC.out.done.trans HPS.out)
      have hsz5 : w.heap.size ≤ wr.heap.size := hB.out.size
      obtain ⟨x, hx⟩ : ∃ x, s.extract f s.size = x := ⟨_, rfl⟩
      rw [hx] at HD
      have HX := Lib.hid hx
      obtain ⟨L, hL⟩ : ∃ L, D.length = L := ⟨_, rfl⟩
      rw [hL] at hO hdl
      have HLN : Hid ((D ++ [x]).length = L + 1) := by show _ = _; rw [List.length_append, hL]; rfl
      have hkf : (f : Int) ≤ (s.size : Int) := by omega
      clear hC hL
      go_wp2_with (first
        | (at_builtin; refine append_str rfl (.tmp 28) (.tmp 32) rfl w.heap.size wr _ rfl x _ L D rfl hO.out rfl (by omega) hsz5 ?_)
        | fail)
      intro v' w6 hown6 hgrow6
      have HO6 : Hid (w6.ownsRow w.heap.size 9 1 v' (L + 1) ((D ++ [x]).map Value.string)) := by
        show w6.ownsRow _ _ _ _ _ _
        rw [List.map_append]; exact hown6
      have HB6 := Lib.hid (below_append hB.out hB.out.size hO.out hgrow6)
      clear hown6 hgrow6
      go_wp2_with fail
      go_ret
      exact split_out HD.out HLN.out (Nat.succ_pos _) HO6.out HB6.out
theorem rnumber_is (s : ByteArray) (p q : Int) (w : World) (hs : s.size ≤ 9223372036854775807) (e1 : numP s.data.toList = (p, q)) :
    Calls Tryz.prog 47 #[.string s] w fun e w' => e = .returned (.tuple #[.int .i64 p, .int .i64 q]) ∧ w = w' := by
  have := Num.rnumber_any s w hs
  rw [e1] at this
  exact this
theorem two_parts {p : List UInt8} {P : List ByteArray} (h : P.map (·.data.toList) = parts 58 p) :
    (P.length ≠ 2 ∧ partV p = none) ∨ ∃ a b, P = [a, b] ∧ cutAt 58 p = some (a.data.toList, b.data.toList) := by
  cases hc : cutAt 58 p with
  | none =>
    refine .inl ⟨?_, part_none hc⟩
    have := congrArg List.length h
    rw [parts_one hc, List.length_map] at this
    simp at this; omega
  | some q =>
    obtain ⟨a, b⟩ := q
    rw [parts_more hc] at h
    cases hb : cutAt 58 b with
    | none =>
      rw [parts_one hb] at h
      match P, h with
      | [x, y], h =>
        simp only [List.map_cons, List.map_nil, List.cons.injEq, and_true] at h
        exact .inr ⟨x, y, rfl, by rw [h.1, h.2]⟩
    | some r =>
      obtain ⟨b1, b2⟩ := r
      refine .inl ⟨?_, part_bad hc (num_58 (by rw [(cut_some hb).1]; simp))⟩
      rw [parts_more hb] at h
      have := congrArg List.length h
      simp only [List.length_map, List.length_cons] at this
      have h2 := List.length_pos_iff.2 (parts_ne 58 b2)
      omega
theorem parts_sizes (c : UInt8) : ∀ (k : Nat) (l : List UInt8), l.length ≤ k → ∀ x ∈ parts c l, x.length ≤ l.length := by
  intro k l _ x hx
  exact parts_small c l.length l x hx
theorem part_sz {c : UInt8} {s : ByteArray} {P : List ByteArray} (h : P.map (·.data.toList) = parts c s.data.toList) : ∀ x ∈ P, x.size ≤ s.size := by
  intro x hx
  rw [size_list, size_list]
  exact parts_sizes c _ _ (Nat.le_refl _) _ (by rw [← h]; exact List.mem_map.2 ⟨x, hx, rfl⟩)
theorem parts_count (c : UInt8) : ∀ (k : Nat) (l : List UInt8), l.length ≤ k → (parts c l).length ≤ l.length + 1 := by
  intro k
  induction k with
  | zero =>
    intro l hl
    have : l = [] := List.length_eq_zero_iff.1 (by omega)
    subst this
    rw [parts_one (by rfl)]; simp
  | succ k ih =>
    intro l hl
    cases hc : cutAt c l with
    | none => rw [parts_one hc]; simp
    | some q =>
      obtain ⟨a, b⟩ := q
      have h2 := congrArg List.length (cut_some hc).1
      simp only [List.length_append, List.length_cons] at h2
      rw [parts_more hc, List.length_cons]
      have := ih b (by omega)
      omega
set_option maxHeartbeats 2000000 in
theorem rread_any (s : ByteArray) (w : World) (hs : s.size ≤ 300) :
    Calls Tryz.prog 21 #[.string s] w (ReadOut w (readV s.data.toList)) := by
  obtain ⟨r, hr⟩ : ∃ r, readV s.data.toList = r := ⟨_, rfl⟩
  rw [hr]
  by_cases h0 : s.data.toList = []
  · have HR : Hid (r = some []) := by show r = _; rw [← hr, h0]; rfl
    have he2 : s.toList.isEmpty = true := by rw [ByteArray.toList_eq, h0]; rfl
    clear hr h0
    go_enter Tryz.func21, Tryz.ntmps21
    go_wp2_with fail
    go_ret2
    exact readOut_yes HR.out rfl ⟨rfl, by omega, .inl rfl⟩ (fun x hx => by cases hx) (Below.refl _ _)
  · have he2 : s.toList.isEmpty = false := by rw [ByteArray.toList_eq, List.isEmpty_eq_false_iff]; exact h0
    have HR : Hid (r = readUp [] (parts 44 s.data.toList)) := by show r = _; rw [← hr]; unfold readV; rw [if_neg h0]
    have HSP := Lib.hid (rsplit_any s 44 44 rfl w hs)
    have HCN := Lib.hid (parts_count 44 _ s.data.toList (Nat.le_refl _))
    have HSD := Lib.hid (size_list s)
    clear hr h0
    go_enter Tryz.func21, Tryz.ntmps21
    go_wp2_with fail
    refine HSP.out.mono ?_
    rintro e w1 ⟨hb1, P, g1, cp1, hP, rfl, hg1, hc1⟩
    have HC1 := Lib.hid hc1; have HB1 := Lib.hid hb1
    have HPS := Lib.hid (part_sz hP)
    have hpl : P.length ≤ 301 := by
      have h1 := congrArg List.length hP
      have h2 := HCN.out
      rw [← HSD.out] at h2
      rw [List.length_map] at h1
      omega
    have HR : Hid (r = readUp [] (P.map (·.data.toList))) := by show r = _; rw [hP]; exact HR.out
    clear hc1 hb1 hP HSP
    go_wp2_with fail
    go_loopw [4, 6] (fun t i wr => ∃ (k : Nat) (acc : List Ln), k ≤ P.length ∧ i = .int .i64 (k : Int) ∧ acc.length = k ∧ Hid (Sz acc) ∧ Hid (wr.ownsRow w1.heap.size 44 2 t k (lcells acc)) ∧ Hid (r = readUp acc ((P.map (·.data.toList)).drop k)) ∧ Hid (Below w1.heap.size w1 wr)) (fun _ i _ => P.length - (intOf i).toNat)
    case atStart => exact ⟨0, [], Nat.zero_le _, rfl, rfl, Lib.hid (fun x hx => by cases hx), Lib.hid (World.ownsRow_nil _ _ _ _), HR, Lib.hid (Below.refl _ w1)⟩
    case round =>
      obtain ⟨k, acc, hk, rfl, hal, hZ, hO, hU, hB⟩ := hrel
      have HBW := Lib.hid (below_keep HB1.out (hB.out) HB1.out.size)
      by_cases hlk : k < P.length
      · obtain ⟨p, hp⟩ : ∃ p, P[k]? = some p := ⟨P[k], List.getElem?_eq_getElem hlk⟩
        have d1 := (hB.out.cell (p := ⟨g1, k, none⟩) hg1).trans (HC1.out k p hp)
        have hps : p.size ≤ 300 := Nat.le_trans (HPS.out p (List.mem_of_getElem? hp)) hs
        have hdr : (P.map (·.data.toList)).drop k = p.data.toList :: (P.map (·.data.toList)).drop (k + 1) := by
          rw [List.drop_eq_getElem_cons (by rw [List.length_map]; exact hlk)]
          have : P[k] = p := by rw [List.getElem?_eq_getElem hlk] at hp; exact Option.some.inj hp
          simp [this]
        rw [hdr] at hU
        have CS := Lib.hid (rsplit_any p 58 58 rfl wr hps)
        clear hp hdr
        go_wp2_with fail
        refine CS.out.mono ?_
        rintro e w2 ⟨hb2, Q, g2, cp2, hQ, rfl, hg2, hc2⟩
        have HB2 := Lib.hid (below_keep HBW.out hb2 HBW.out.size)
        have HB2' := Lib.hid (below_keep hB.out hb2 hB.out.size)
        have HO2 := Lib.hid (owns_below hO.out hb2)
        have HQS := Lib.hid (part_sz hQ)
        clear hb2 CS
        rcases two_parts hQ with ⟨hn, hno⟩ | ⟨a, b, rfl, hcut⟩
        · have HD := Lib.hid (hU.out.trans (readUp_no hno))
          have hq : ((Q.length : Int) != 2) = true := by rw [bne_iff_ne]; omega
          clear hQ hc2 hg2 hU hno HQS
          go_wp2_with fail
          go_ret2
          exact readOut_no HD.out HB2.out
        · have d3 := hc2 0 a rfl
          have d4 := hc2 1 b rfl
          have ha := HQS.out a (by simp)
          have hb := HQS.out b (by simp)
          have hl2 : ([a, b] : List ByteArray).length = 2 := rfl
          simp only [hl2]
          rcases numP_cases b.data.toList with ⟨f2, hnum, hf2⟩ | ⟨n, hnum, _, hn1, hn2⟩
          · have HD := Lib.hid (hU.out.trans (readUp_no (part_bad hcut (by rw [hnum]; exact hf2))))
            have CN := Lib.hid (rnumber_is b 0 f2 w2 (by omega) hnum)
            have hq : (f2 != 0) = true := by simp [hf2]
            clear hQ hc2 hU hcut hnum hl2
            go_wp2_with fail
            refine CN.out.mono ?_
            rintro e w3 ⟨rfl, rfl⟩
            go_wp2_with fail
            go_ret2
            exact readOut_no HD.out HB2.out
          · have hpt := part_num hcut hnum
            rw [show (⟨a.data.toList.toArray⟩ : ByteArray) = a from bs_of a] at hpt
            have HD := Lib.hid (hU.out.trans (readUp_go hpt))
            have CN := Lib.hid (rnumber_is b n 0 w2 (by omega) hnum)
            have HZ2 : Hid (Sz (acc ++ [(a, n)])) := fun x hx => by
              rcases List.mem_append.1 hx with hx | hx
              · exact hZ.out x hx
              · simp at hx; subst hx; exact ⟨by show a.size ≤ 300; omega, by show _ ≤ n; omega, by show n ≤ _; omega⟩
            have hsz3 : w1.heap.size ≤ w2.heap.size := HB2'.out.size
            clear hQ hc2 hU hcut hnum hpt hn1 hn2 hl2
            go_wp2_with fail
            refine CN.out.mono ?_
            rintro e w3 ⟨rfl, hw3⟩
            subst hw3
            go_wp2_with (first
              | (at_builtin; refine append_line rfl (.tmp 37) (.tmp 43) rfl w1.heap.size w2 _ rfl a n _ k acc rfl HO2.out rfl (by omega) hsz3 ?_)
              | fail)
            intro v' w4 hown hgrow
            have HB4 := Lib.hid (below_append HB2'.out HB2'.out.size HO2.out hgrow)
            have HO4 := Lib.hid hown
            clear hown hgrow d3 d4
            go_wp2_with fail
            go_roundw
            case rel => exact ⟨k + 1, acc ++ [(a, n)], by omega, by go_num, by simp [hal], HZ2, HO4, HD, HB4⟩
            case measure => simp [intOf]; omega
      · obtain rfl : k = P.length := by omega
        have hU2 : r = if fitL acc then some acc else none := by
          rw [hU.out, List.drop_eq_nil_of_le (by rw [List.length_map]; exact Nat.le_refl _), readUp_end]
        obtain ⟨a, cap, rfl, hat⟩ := ls_of hO.out hal (by omega)
        have CF := rfit_any a P.length cap acc wr hat hZ.out
        cases hf : fitL acc with
        | false =>
          rw [hf] at CF hU2
          have CF := Lib.hid CF
          have HD : Hid (r = none) := by show r = none; rw [hU2]; rfl
          clear hU2 hU hO hf hat
          go_wp2_with fail
          refine CF.out.mono ?_
          rintro e w2 ⟨rfl, hb2⟩
          have HB2 := Lib.hid (below_keep HBW.out hb2 HBW.out.size)
          clear hb2
          go_wp2_with fail
          go_ret2
          exact readOut_no HD.out HB2.out
        | true =>
          rw [hf] at CF hU2
          have CF := Lib.hid CF
          have HD : Hid (r = some acc) := by show r = some acc; rw [hU2]; rfl
          have HAT := Lib.hid hat
          have HAL := Lib.hid hal
          clear hU2 hU hO hf hat hal
          go_wp2_with fail
          refine CF.out.mono ?_
          rintro e w2 ⟨rfl, hb2⟩
          have HB2 := Lib.hid (below_keep HBW.out hb2 HBW.out.size)
          have HAT2 := Lib.hid (HAT.out.keep hb2)
          clear hb2
          go_wp2_with fail
          go_ret2
          exact readOut_yes HD.out HAL.out HAT2.out hZ.out HB2.out
end Go.Proofs.YtpaemofjeadhcaaGreatDoor.Lines
