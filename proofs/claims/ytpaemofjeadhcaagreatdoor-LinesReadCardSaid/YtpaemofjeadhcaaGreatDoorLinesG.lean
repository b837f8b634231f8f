/-
  The contract of the program's Read: texts of up to 300 octets; what was there stays as it was.
-/
import Derived.Test.YtpaemofjeadhcaaGreatDoorLinesE
set_option linter.unusedVariables false
set_option maxRecDepth 4000
namespace Go.Proofs.YtpaemofjeadhcaaGreatDoor.Lines
open Go.RowKit LinesP
open NumP (numP numP_cases)

/-- The variables that the calls lean on: the table of the powers of ten, and a number. -/
def Vars (w : World) : Prop := Num.Tab w ∧ ∃ m, w.cell? ⟨0, 0, none⟩ = some (.int .i64 m)
theorem Vars.keep {w w' : World} (h : Vars w) (hb : Below w.heap.size w w') : Vars w' := by
  obtain ⟨h1, m, h2⟩ := h
  exact ⟨h1.keep hb, m, (hb.cell (World.block_lt_of_cell? _ _ h2)).trans h2⟩
/-- What Read leaves: lines, or none. -/
def ReadOut (w : World) (r : Option (List Ln)) (e : Ending) (w' : World) : Prop :=
  Below w.heap.size w w' ∧ ((r = none ∧ e = .returned (.tuple #[.slice none 0 0, .int .i64 7])) ∨ ∃ l a cap, r = some l ∧ e = .returned (.tuple #[.slice a l.length cap, .int .i64 0]) ∧ LsAt w' a l.length l ∧ Sz l)
theorem readOut_no {w w' : World} {r : Option (List Ln)} (h : r = none) (hb : Below w.heap.size w w') : ReadOut w r (.returned (.tuple #[.slice none 0 0, .int .i64 7])) w' := ⟨hb, .inl ⟨h, rfl⟩⟩
theorem readOut_yes {w w' : World} {r : Option (List Ln)} {l : List Ln} {a : Option Addr} {n cap : Nat} (h : r = some l) (hn : l.length = n) (hl : LsAt w' a n l) (hs : Sz l) (hb : Below w.heap.size w w') : ReadOut w r (.returned (.tuple #[.slice a n cap, .int .i64 0])) w' := by
  subst hn; exact ⟨hb, .inr ⟨l, a, cap, h, rfl, hl, hs⟩⟩
theorem parts_small (c : UInt8) : ∀ (k : Nat) (l : List UInt8), ∀ x ∈ partsF c k l, x.length ≤ l.length
  | 0, l, x, hx => by simp [partsF] at hx; subst hx; exact Nat.le_refl _
  | k + 1, l, x, hx => by
    cases hc : cutAt c l with
    | none => rw [partsF, hc] at hx; simp at hx; subst hx; exact Nat.le_refl _
    | some p =>
      obtain ⟨a, b⟩ := p
      rw [partsF, hc] at hx
      have hl := congrArg List.length (cut_some hc).1
      simp only [List.length_append, List.length_cons] at hl
      rcases List.mem_cons.1 hx with rfl | hx
      · omega
      · have := parts_small c k b x hx; omega
theorem cut_yes (p a b : ByteArray) (h : cutAt 58 p.data.toList = some (a.data.toList, b.data.toList)) (m : Int) (w : World) (hs : p.size ≤ 300) (hm : w.cell? ⟨0, 0, none⟩ = some (.int .i64 m)) :
    Calls Tryz.prog 44 #[.string p, .string ⟨#[58]⟩] w fun e w' => e = .returned (.tuple #[.string a, .string b, .bool true]) ∧ Below w.heap.size w w' := by
  refine (Tryz.strings_Cut p ⟨#[58]⟩ m w (by omega) hm).mono ?_
  rintro e w' ⟨he, n, rfl⟩
  rw [show (⟨#[58]⟩ : ByteArray).data.toList = [58] from rfl, cut_lib, h] at he
  refine ⟨?_, below_drewN (Below.refl _ _) _⟩
  rw [he, show (⟨a.data.toList.toArray⟩ : ByteArray) = a from bs_of a, show (⟨b.data.toList.toArray⟩ : ByteArray) = b from bs_of b]
theorem cut_no (p : ByteArray) (h : cutAt 58 p.data.toList = none) (m : Int) (w : World) (hs : p.size ≤ 300) (hm : w.cell? ⟨0, 0, none⟩ = some (.int .i64 m)) :
    Calls Tryz.prog 44 #[.string p, .string ⟨#[58]⟩] w fun e w' => e = .returned (.tuple #[.string p, .string ⟨#[]⟩, .bool false]) ∧ Below w.heap.size w w' := by
  refine (Tryz.strings_Cut p ⟨#[58]⟩ m w (by omega) hm).mono ?_
  rintro e w' ⟨he, n, rfl⟩
  rw [show (⟨#[58]⟩ : ByteArray).data.toList = [58] from rfl, cut_lib, h] at he
  refine ⟨?_, below_drewN (Below.refl _ _) _⟩
  rw [he, show (⟨p.data.toList.toArray⟩ : ByteArray) = p from bs_of p]
/-- The parts that SplitN tells. -/
def prt (s : ByteArray) : List ByteArray := Lib.splitB ⟨#[44]⟩ 0 (min 5 (s.size + 1) - 1) s
theorem prt_data (s : ByteArray) : (prt s).map (·.data.toList) = partsF 44 (min 5 (s.data.toList.length + 1) - 1) s.data.toList := by
  unfold prt
  rw [Lib.splitB_data, show (⟨#[44]⟩ : ByteArray).data.toList = [44] from rfl, splitK_parts, size_list]
theorem prt_len (s : ByteArray) : (prt s).length ≤ 5 := by
  have := Lib.splitB_length_le ⟨#[44]⟩ 0 (min 5 (s.size + 1) - 1) s
  unfold prt; omega
theorem prt_size (s : ByteArray) : ∀ x ∈ prt s, x.size ≤ s.size := by
  intro x hx
  rw [size_list, size_list]
  refine parts_small 44 (min 5 (s.data.toList.length + 1) - 1) _ _ ?_
  rw [← prt_data]; exact List.mem_map.2 ⟨x, hx, rfl⟩
theorem read_prt (s : ByteArray) (hs : s.data.toList ≠ []) : readUp [] ((prt s).map (·.data.toList)) = readV s.data.toList := by
  rw [prt_data]; exact read_few _ _ hs rfl
theorem split_call (s : ByteArray) (m : Int) (w : World) (hs : s.size ≤ 300) (hm : w.cell? ⟨0, 0, none⟩ = some (.int .i64 m)) :
    Calls Tryz.prog 43 #[.string s, .string ⟨#[44]⟩, .int .i64 5] w fun e w' => ∃ cap, e = .returned (.slice (some ⟨w.heap.size, 0, none⟩) (prt s).length cap) ∧ (∀ i x, (prt s)[i]? = some x → w'.cell? ⟨w.heap.size, i, none⟩ = some (.string x)) ∧ w.heap.size < w'.heap.size ∧ Below w.heap.size w w' := by
  refine (Tryz.strings_SplitN s ⟨#[44]⟩ 5 m w (by omega) hm (by decide) (by omega) (by omega)).mono ?_
  rintro e w' ⟨he, hw⟩
  refine ⟨min 5 (s.size + 1), he, fun i x hx => ?_, by rw [hw]; simp, by rw [hw]; exact (Below.refl _ _).alloc (Nat.le_refl _) _⟩
  rw [hw]
  have hi : i < (prt s).length := by
    rcases Nat.lt_or_ge i (prt s).length with h | h
    · exact h
    · rw [List.getElem?_eq_none h] at hx; cases hx
  rw [World.cell?_alloc_at _ _ _ _ rfl]
  unfold Lib.cellsOf
  rw [List.getElem?_toArray, List.getElem?_append_left (by rw [List.length_map]; exact hi), List.getElem?_map]
  rw [show (Lib.splitB ⟨#[44]⟩ 0 (min 5 (s.size + 1) - 1) s)[i]? = some x from hx]
  rfl
theorem ret_read {r : Option (List Ln)} {w w' : World} (h : r = none) (hb : Below w.heap.size w w') : ReadOut w r (.returned (.tuple #[.slice none 0 0, .int .i64 7])) w' := readOut_no h hb
set_option maxHeartbeats 2000000 in
theorem read_any (s : ByteArray) (w : World) (hs : s.size ≤ 300) (hv : Vars w) :
    Calls Tryz.prog 20 #[.string s] w (ReadOut w (readV s.data.toList)) := by
  obtain ⟨r, hr⟩ : ∃ r, readV s.data.toList = r := ⟨_, rfl⟩
  rw [hr]
  by_cases h0 : s.data.toList = []
  · have HR : Hid (r = some []) := by show r = _; rw [← hr, h0]; rfl
    have he2 : s.toList.isEmpty = true := by rw [ByteArray.toList_eq, h0]; rfl
    clear hr h0 hv
    go_enter Tryz.func20, Tryz.ntmps20
    go_wp2_with fail
    go_ret2
    exact readOut_yes HR.out rfl ⟨rfl, by omega, .inl rfl⟩ (fun x hx => by cases hx) (Below.refl _ _)
  · have he2 : s.toList.isEmpty = false := by rw [ByteArray.toList_eq, List.isEmpty_eq_false_iff]; exact h0
    have HR : Hid (r = readUp [] ((prt s).map (·.data.toList))) := by show r = _; rw [read_prt s h0, hr]
    have HV := Lib.hid (fun w' (hb : Below w.heap.size w w') => hv.keep hb)
    obtain ⟨_, m0, hm0⟩ := hv
    have HSP := Lib.hid (split_call s m0 w hs hm0)
    have hpl := prt_len s
    have HPS := Lib.hid (prt_size s)
    clear hr h0 hm0
    generalize hP : prt s = P at *
    clear hP
    go_enter Tryz.func20, Tryz.ntmps20
    go_wp2_with fail
    refine HSP.out.mono ?_
    rintro e w1 ⟨cp, rfl, hc1, hlt1, hb1⟩
    have HC1 := Lib.hid hc1; have HL1 := Lib.hid hlt1; have HB1 := Lib.hid hb1
    clear hc1 hlt1 hb1 HSP
    go_wp2_with fail
    go_loopw [4, 17] (fun t i wr => ∃ (k : Nat) (acc : List Ln), k ≤ P.length ∧ i = .int .i64 (k : Int) ∧ acc.length = k ∧ Hid (Sz acc) ∧ Hid (wr.ownsRow w1.heap.size 44 2 t k (lcells acc)) ∧ Hid (r = readUp acc ((P.map (·.data.toList)).drop k)) ∧ Hid (Below w1.heap.size w1 wr)) (fun _ i _ => P.length - (intOf i).toNat)
    case atStart => exact ⟨0, [], Nat.zero_le _, rfl, rfl, Lib.hid (fun x hx => by cases hx), Lib.hid (World.ownsRow_nil _ _ _ _), HR, Below.refl _ w1⟩
    case round =>
      obtain ⟨k, acc, hk, rfl, hal, hZ, hO, hU, hB⟩ := hrel
      have HBW := Lib.hid (below_keep HB1.out (hB.out) HB1.out.size)
      by_cases hlk : k < P.length
      · obtain ⟨p, hp⟩ : ∃ p, P[k]? = some p := ⟨P[k], List.getElem?_eq_getElem hlk⟩
        have d1 := (hB.out.cell (p := ⟨w.heap.size, k, none⟩) HL1.out).trans (HC1.out k p hp)
        have hps : p.size ≤ 300 := Nat.le_trans (HPS.out p (List.mem_of_getElem? hp)) hs
        have hdr : (P.map (·.data.toList)).drop k = p.data.toList :: (P.map (·.data.toList)).drop (k + 1) := by
          rw [List.drop_eq_getElem_cons (by rw [List.length_map]; exact hlk)]
          have : P[k] = p := by rw [List.getElem?_eq_getElem hlk] at hp; exact Option.some.inj hp
          simp [this]
        rw [hdr] at hU
        have hvr := HV.out wr HBW.out
        obtain ⟨_, m1, hm1⟩ := hvr
        cases hcut : cutAt 58 p.data.toList with
        | none =>
          have HD := Lib.hid (hU.out.trans (readUp_no (part_none hcut)))
          have CC := Lib.hid (cut_no p hcut m1 wr hps hm1)
          obtain ⟨f1, f2, hnum, hf2⟩ : ∃ f1 f2, numP [] = (f1, f2) ∧ f2 ≠ 0 := ⟨_, _, rfl, num_nil⟩
          have CN := Lib.hid (fun w' => Num.number_is ⟨#[]⟩ f1 f2 w' (by decide) hnum)
          have hq : (f2 != 0) = true := by simp [hf2]
          clear hcut hdr hp hm1 hnum hU
          go_wp2_with fail
          refine CC.out.mono ?_
          rintro e w2 ⟨rfl, hb2⟩
          have HB2 := Lib.hid (below_keep HBW.out hb2 HBW.out.size)
          clear hb2
          go_wp2_with fail
          refine (CN.out w2).mono ?_
          rintro e w3 ⟨rfl, hb3⟩
          have HB3 := Lib.hid (below_keep HB2.out hb3 HB2.out.size)
          clear hb3
          go_wp2_with fail
          go_ret2
          exact readOut_no HD.out HB3.out
        | some q =>
          obtain ⟨qa, qb⟩ := q
          obtain ⟨a, ha⟩ : ∃ a : ByteArray, a.data.toList = qa := ⟨bs qa, rfl⟩
          obtain ⟨b, hbb⟩ : ∃ b : ByteArray, b.data.toList = qb := ⟨bs qb, rfl⟩
          subst ha hbb
          have CC := Lib.hid (cut_yes p a b hcut m1 wr hps hm1)
          have hlen := congrArg List.length (cut_some hcut).1
          simp only [List.length_append, List.length_cons] at hlen
          rw [← size_list, ← size_list, ← size_list] at hlen
          rcases numP_cases b.data.toList with ⟨f2, hnum, hf2⟩ | ⟨n, hnum, _, hn1, hn2⟩
          · have HD := Lib.hid (hU.out.trans (readUp_no (part_bad hcut (by rw [hnum]; exact hf2))))
            have CN := Lib.hid (fun w' => Num.number_is b 0 f2 w' (by omega) hnum)
            have hq : (f2 != 0) = true := by simp [hf2]
            clear hcut hdr hp hm1 hnum hU hlen
            go_wp2_with fail
            refine CC.out.mono ?_
            rintro e w2 ⟨rfl, hb2⟩
            have HB2 := Lib.hid (below_keep HBW.out hb2 HBW.out.size)
            clear hb2
            go_wp2_with fail
            refine (CN.out w2).mono ?_
            rintro e w3 ⟨rfl, hb3⟩
            have HB3 := Lib.hid (below_keep HB2.out hb3 HB2.out.size)
            clear hb3
            go_wp2_with fail
            go_ret2
            exact readOut_no HD.out HB3.out
          · have hpt := part_num hcut hnum
            rw [show (⟨a.data.toList.toArray⟩ : ByteArray) = a from bs_of a] at hpt
            have HD := Lib.hid (hU.out.trans (readUp_go hpt))
            have CN := Lib.hid (fun w' => Num.number_is b n 0 w' (by omega) hnum)
            have HZ2 : Hid (Sz (acc ++ [(a, n)])) := fun x hx => by
              rcases List.mem_append.1 hx with hx | hx
              · exact hZ.out x hx
              · simp at hx; subst hx; exact ⟨by show a.size ≤ 300; omega, by show _ ≤ n; omega, by show n ≤ _; omega⟩
            clear hcut hdr hp hm1 hnum hU hlen hpt hn1 hn2
            go_wp2_with fail
            refine CC.out.mono ?_
            rintro e w2 ⟨rfl, hb2⟩
            have HB2 := Lib.hid (below_keep hB.out hb2 hB.out.size)
            have HO2 := Lib.hid (owns_below hO.out hb2)
            clear hb2
            go_wp2_with fail
            refine (CN.out w2).mono ?_
            rintro e w3 ⟨rfl, hb3⟩
            have HB3 := Lib.hid (below_keep HB2.out hb3 HB2.out.size)
            have HO3 := Lib.hid (owns_below HO2.out hb3)
            have hsz3 : w1.heap.size ≤ w3.heap.size := HB3.out.size
            have HW3 := Lib.hid (below_keep HB1.out HB3.out HB1.out.size)
            clear hb3 HB2 HO2
            go_wp2_with (at_builtin; refine append_line rfl (.tmp 34) (.tmp 38) rfl w1.heap.size w3 _ rfl a n _ k acc rfl HO3.out rfl (by omega) hsz3 ?_)
            intro v' w4 hown hgrow
            have HB4 := Lib.hid (below_append HB3.out HB3.out.size HO3.out hgrow)
            have HO4 := Lib.hid hown
            clear hown hgrow
            go_wp2_with fail
            go_roundw
            case rel => exact ⟨k + 1, acc ++ [(a, n)], by omega, by go_num, by simp [hal], HZ2, HO4, HD, HB4⟩
            case measure => simp [intOf]; omega
      · obtain rfl : k = P.length := by omega
        have hU2 : r = if fitL acc then some acc else none := by
          rw [hU.out, List.drop_eq_nil_of_le (by rw [List.length_map]; exact Nat.le_refl _), readUp_end]
        obtain ⟨a, cap, rfl, hat⟩ := ls_of hO.out hal (by omega)
        have CF := fit_any a P.length cap acc wr hat hZ.out
        cases hf : fitL acc with
        | false =>
          rw [hf] at CF hU2
          have CF := Lib.hid CF
          have HD : Hid (r = none) := by show r = none; rw [hU2]; rfl
          clear hU2 hU hO hf hat
          go_wp2_with fail
          refine CF.out.mono ?_
          rintro e w2 ⟨rfl, hb2⟩
          have HB2 := Lib.hid (below_keep HBW.out hb2 HBW.out.size)
          clear hb2
          go_wp2_with fail
          go_ret2
          exact readOut_no HD.out HB2.out
        | true =>
          rw [hf] at CF hU2
          have CF := Lib.hid CF
          have HD : Hid (r = some acc) := by show r = some acc; rw [hU2]; rfl
          have HAT := Lib.hid hat
          have HAL := Lib.hid hal
          clear hU2 hU hO hf hat hal
          go_wp2_with fail
          refine CF.out.mono ?_
          rintro e w2 ⟨rfl, hb2⟩
          have HB2 := Lib.hid (below_keep HBW.out hb2 HBW.out.size)
          have HAT2 := Lib.hid (HAT.out.keep hb2)
          clear hb2
          go_wp2_with fail
          go_ret2
          exact readOut_yes HD.out HAL.out HAT2.out hZ.out HB2.out
end Go.Proofs.YtpaemofjeadhcaaGreatDoor.Lines
