/-
  The walks of the laws on folding again, and on the order: each returns true; what was there stays as it was.
-/
import Derived.Test.YtfppfjihdgponaaNameK
import Derived.Test.YtfppfjihdgponaaNameF
set_option linter.unusedVariables false
namespace Go.Proofs.Ytfppfjihdgponaa
open Go.RowKit NameP

theorem nameAgain_long (s : ByteArray) (w : World) (h : 80 < s.size) (hbig : s.size ≤ 9223372036854775807) :
    Calls Try.prog 6 #[.string s] w fun e w' => e = .returned (.bool true) ∧ Below w.heap.size w w' := by
  go_enter Try.func6, Try.ntmps6
  go_wp2_with fail
  refine (awake_any _).mono ?_
  rintro e w1 ⟨rfl, hb⟩
  go_wp2_with fail
  go_ret
  exact ⟨rfl, hb⟩
theorem nameAgain_no (s : ByteArray) (w : World) (h : s.size ≤ 80) (hf : fitV ((vals s.data.toList).map low) = false) :
    Calls Try.prog 6 #[.string s] w fun e w' => e = .returned (.bool true) ∧ Below w.heap.size w w' := by
  have hn : fitV (vals s.data.toList) = false := by
    cases hv : fitV (vals s.data.toList) with
    | false => rfl
    | true => rw [(fold_fit hv).1] at hf; cases hf
  have HF := Lib.hid (foldV_no hf); have HN := Lib.hid hn; clear hf hn
  go_enter Try.func6, Try.ntmps6
  go_wp2_with fail
  refine (fold_is s ⟨#[]⟩ 7 _ (by omega) HF.out).mono ?_
  rintro e w1 ⟨rfl, hb1⟩
  go_wp2_with fail
  refine (fit_is s false _ (by omega) HN.out).mono ?_
  rintro e w2 ⟨rfl, hb⟩
  have hb2 := below_keep hb1 hb hb1.size
  clear hb hb1
  go_wp2_with fail
  refine (awake_any _).mono ?_
  rintro e w3 ⟨rfl, hb⟩
  have hb3 := below_keep hb2 hb hb2.size
  go_wp2_with fail
  go_ret
  exact ⟨rfl, hb3⟩
theorem nameAgain_yes (s : ByteArray) (w : World) (h : s.size ≤ 80) (hf : fitV ((vals s.data.toList).map low) = true) :
    Calls Try.prog 6 #[.string s] w fun e w' => e = .returned (.bool true) ∧ Below w.heap.size w w' := by
  obtain ⟨z, hz⟩ : ∃ z : ByteArray, z.data.toList = encs ((vals s.data.toList).map low) := ⟨⟨(encs ((vals s.data.toList).map low)).toArray⟩, rfl⟩
  obtain ⟨g1, g2, g3⟩ := fold_again hf
  have HF : Hid (foldV (vals s.data.toList) = (z.data.toList, 0)) := by show _ = _; rw [hz]; exact foldV_yes hf
  have HG : Hid (foldV (vals z.data.toList) = (z.data.toList, 0)) := by
    show _ = _
    rw [hz, g1, foldV_yes (by rw [g2]; exact hf), g2]
  have HFIT : Hid (fitV (vals z.data.toList) = true) := by show _ = _; rw [hz, g1]; exact hf
  have HC : Hid (countV z.data.toList = countV s.data.toList) := by show _ = _; rw [hz]; exact g3
  have hzl : z.size ≤ 48 := by
    have h1 := vals_four z.data.toList
    rw [hz, g1] at h1
    have h2 := (fitV_iff.1 hf).2.2.1
    rw [← hz, len_list] at h1
    omega
  have HS : Hid (fitV (vals s.data.toList) = true → s = z) := fun hv => by
    have := (fold_fit hv).2
    rw [← hz] at this
    rw [str_eq (s := s) rfl, str_eq (s := z) rfl, this]
  clear hz g1 g2 g3 hf
  go_enter Try.func6, Try.ntmps6
  go_wp2_with fail
  refine (fold_is s z 0 _ (by omega) HF.out).mono ?_
  rintro e w1 ⟨rfl, hb1⟩
  go_wp2_with fail
  refine (fold_is z z 0 _ (by omega) HG.out).mono ?_
  rintro e w2 ⟨rfl, hb⟩
  have hb2 := below_keep hb1 hb hb1.size
  clear hb hb1
  go_wp2_with fail
  refine (fit_is z true _ (by omega) HFIT.out).mono ?_
  rintro e w3 ⟨rfl, hb⟩
  have hb3 := below_keep hb2 hb hb2.size
  clear hb hb2
  go_wp2_with fail
  refine (count_is z (countV s.data.toList) _ (by omega) HC.out).mono ?_
  rintro e w4 ⟨rfl, hb⟩
  have hb4 := below_keep hb3 hb hb3.size
  clear hb hb3
  go_wp2_with fail
  refine (count_any s _ (by omega)).mono ?_
  rintro e w5 ⟨rfl, hb⟩
  have hb5 := below_keep hb4 hb hb4.size
  clear hb hb4
  generalize countV s.data.toList = n at *
  cases hv : fitV (vals s.data.toList) with
  | false =>
    have HN := Lib.hid hv; clear hv
    go_wp2_with fail
    refine (fit_is s false _ (by omega) HN.out).mono ?_
    rintro e w6 ⟨rfl, hb⟩
    have hb6 := below_keep hb5 hb hb5.size
    clear hb hb5
    go_wp2_with fail
    refine (awake_any _).mono ?_
    rintro e w7 ⟨rfl, hb⟩
    have hb7 := below_keep hb6 hb hb6.size
    go_wp2_with fail
    go_ret
    exact ⟨rfl, hb7⟩
  | true =>
    have hsz := HS.out hv
    have HN := Lib.hid hv
    have heq : (z.toList == s.toList) = true := by rw [hsz]; simp
    have HSZ := Lib.hid hsz
    clear hv hsz
    go_wp2_with fail
    refine (fit_is s true _ (by omega) HN.out).mono ?_
    rintro e w6 ⟨rfl, hb⟩
    have hb6 := below_keep hb5 hb hb5.size
    clear hb hb5
    go_wp2_with fail
    refine (awake_any _).mono ?_
    rintro e w7 ⟨rfl, hb⟩
    have hb7 := below_keep hb6 hb hb6.size
    go_wp2_with fail
    go_ret
    exact ⟨rfl, hb7⟩

theorem bytesLess_irr : ∀ l : List UInt8, Op.bytesLess l l = false
  | [] => rfl
  | a :: r => by simp [Op.bytesLess, bytesLess_irr r]
theorem bytesLess_total : ∀ x y : List UInt8, Op.bytesLess x y = false → Op.bytesLess y x = false → x = y
  | [], [], _, _ => rfl
  | [], b :: y, h, _ => by simp [Op.bytesLess] at h
  | a :: x, [], _, h => by simp [Op.bytesLess] at h
  | a :: x, b :: y, h, k => by
    simp only [Op.bytesLess, Bool.or_eq_false_iff, decide_eq_false_iff_not, Bool.and_eq_false_iff] at h k
    have hab : a = b := by
      apply UInt8.toNat_inj.1
      have h1 := h.1; have k1 := k.1
      rw [UInt8.lt_iff_toNat_lt] at h1 k1
      omega
    subst hab
    simp at h k
    rw [bytesLess_total x y h k]
theorem nameOrders_long (a b : ByteArray) (w : World) (h : 40 < a.size ∨ (a.size ≤ 40 ∧ 40 < b.size)) (ha : a.size ≤ 9223372036854775807) (hb : b.size ≤ 9223372036854775807) :
    Calls Try.prog 7 #[.string a, .string b] w fun e w' => e = .returned (.bool true) ∧ Below w.heap.size w w' := by
  rcases h with h | ⟨h, h2⟩
  all_goals
    go_enter Try.func7, Try.ntmps7
    go_wp2_with fail
    refine (awake_any _).mono ?_
    rintro e w1 ⟨rfl, hb⟩
    go_wp2_with fail
    go_ret
    exact ⟨rfl, hb⟩
theorem runes_bad (s : ByteArray) (w : World) (hs : s.size ≤ 4398046511104) (h : (rn s.data.toList).all good = false) :
    Calls Try.prog 19 #[.string s] w fun e w' => e = .returned (.tuple #[.slice none 0 0, .bool false]) ∧ Below w.heap.size w w' := by
  refine (rrunes_walk s w hs).mono ?_
  rintro e w1 ⟨hb, ⟨_, rfl⟩ | ⟨hg, _⟩⟩
  · exact ⟨rfl, hb⟩
  · rw [h] at hg; cases hg
/-- What the document's Runes gives of a text of runes alone. -/
def RunesYes (l : List UInt8) (w : World) (e : Ending) (w' : World) : Prop := Below w.heap.size w w' ∧ ∃ a cap, e = .returned (.tuple #[.slice a (vals l).length cap, .bool true]) ∧ NatsAt w' a (vals l).length (vals l)
theorem runes_good (s : ByteArray) (w : World) (hs : s.size ≤ 4398046511104) (h : (rn s.data.toList).all good = true) :
    Calls Try.prog 19 #[.string s] w (RunesYes s.data.toList w) := by
  refine (rrunes_walk s w hs).mono ?_
  rintro e w1 ⟨hb, ⟨hg, _⟩ | ⟨_, a, cap, rfl, hn⟩⟩
  · rw [h] at hg; cases hg
  · exact ⟨hb, a, cap, rfl, hn⟩
theorem nameOrders_bad (a b : ByteArray) (w : World) (ha : a.size ≤ 40) (hb : b.size ≤ 40) (h : (rn a.data.toList).all good = false ∨ (rn b.data.toList).all good = false) :
    Calls Try.prog 7 #[.string a, .string b] w fun e w' => e = .returned (.bool true) ∧ Below w.heap.size w w' := by
  cases ga : (rn a.data.toList).all good with
  | false =>
    have HA := Lib.hid ga; have HCA := Lib.hid (countV_no ga)
    clear ga h
    cases gb : (rn b.data.toList).all good with
    | false =>
      have HB := Lib.hid gb; have HCB := Lib.hid (countV_no gb)
      clear gb
      go_enter Try.func7, Try.ntmps7
      go_wp2_with fail
      refine (runes_bad a _ (by omega) HA.out).mono ?_
      rintro e w1 ⟨rfl, hb1⟩
      go_wp2_with fail
      refine (runes_bad b _ (by omega) HB.out).mono ?_
      rintro e w2 ⟨rfl, hb⟩
      have hb2 := below_keep hb1 hb hb1.size
      clear hb hb1
      go_wp2_with fail
      refine (count_is a (-1) _ (by omega) HCA.out).mono ?_
      rintro e w3 ⟨rfl, hb⟩
      have hb3 := below_keep hb2 hb hb2.size
      clear hb hb2
      go_wp2_with fail
      refine (count_is b (-1) _ (by omega) HCB.out).mono ?_
      rintro e w4 ⟨rfl, hb⟩
      have hb4 := below_keep hb3 hb hb3.size
      clear hb hb3
      go_wp2_with fail
      refine (awake_any _).mono ?_
      rintro e w5 ⟨rfl, hb⟩
      have hb5 := below_keep hb4 hb hb4.size
      go_wp2_with fail
      go_ret
      exact ⟨rfl, hb5⟩
    | true =>
      have HB := Lib.hid gb; have HCB := Lib.hid (countV_yes gb)
      clear gb
      go_enter Try.func7, Try.ntmps7
      go_wp2_with fail
      refine (runes_bad a _ (by omega) HA.out).mono ?_
      rintro e w1 ⟨rfl, hb1⟩
      go_wp2_with fail
      refine (runes_good b _ (by omega) HB.out).mono ?_
      rintro e w2 ⟨hb, p, cap, rfl, _⟩
      have hb2 := below_keep hb1 hb hb1.size
      clear hb hb1
      generalize (vals b.data.toList).length = n at *
      have hn : (0 : Int) ≤ n := by omega
      go_wp2_with fail
      refine (count_is a (-1) _ (by omega) HCA.out).mono ?_
      rintro e w3 ⟨rfl, hb⟩
      have hb3 := below_keep hb2 hb hb2.size
      clear hb hb2
      go_wp2_with fail
      refine (count_is b n _ (by omega) HCB.out).mono ?_
      rintro e w4 ⟨rfl, hb⟩
      have hb4 := below_keep hb3 hb hb3.size
      clear hb hb3
      go_wp2_with fail
      refine (awake_any _).mono ?_
      rintro e w5 ⟨rfl, hb⟩
      have hb5 := below_keep hb4 hb hb4.size
      go_wp2_with fail
      go_ret
      exact ⟨rfl, hb5⟩
  | true =>
    have HA := Lib.hid ga; have HCA := Lib.hid (countV_yes ga)
    have gb : (rn b.data.toList).all good = false := by
      rcases h with h | h
      · rw [ga] at h; cases h
      · exact h
    clear ga h
    have HB := Lib.hid gb; have HCB := Lib.hid (countV_no gb)
    clear gb
    go_enter Try.func7, Try.ntmps7
    go_wp2_with fail
    refine (runes_good a _ (by omega) HA.out).mono ?_
    rintro e w1 ⟨hb1, p, cap, rfl, _⟩
    generalize (vals a.data.toList).length = n at *
    have hn : (0 : Int) ≤ n := by omega
    go_wp2_with fail
    refine (runes_bad b _ (by omega) HB.out).mono ?_
    rintro e w2 ⟨rfl, hb⟩
    have hb2 := below_keep hb1 hb hb1.size
    clear hb hb1
    go_wp2_with fail
    refine (count_is a n _ (by omega) HCA.out).mono ?_
    rintro e w3 ⟨rfl, hb⟩
    have hb3 := below_keep hb2 hb hb2.size
    clear hb hb2
    go_wp2_with fail
    refine (count_is b (-1) _ (by omega) HCB.out).mono ?_
    rintro e w4 ⟨rfl, hb⟩
    have hb4 := below_keep hb3 hb hb3.size
    clear hb hb3
    go_wp2_with fail
    refine (awake_any _).mono ?_
    rintro e w5 ⟨rfl, hb⟩
    have hb5 := below_keep hb4 hb hb4.size
    go_wp2_with fail
    go_ret
    exact ⟨rfl, hb5⟩
theorem below_is (a b : Option Addr) (la lb ca cb : Nat) (xs ys : List Nat) (v : Bool) (w : World) (ha : NatsAt w a la xs) (hb : NatsAt w b lb ys) (hla : la ≤ 4398046511104) (hlb : lb ≤ 4398046511104) (hv : lessV xs ys = v) :
    Calls Try.prog 20 #[.slice a la ca, .slice b lb cb] w fun e w' => e = .returned (.bool v) ∧ Below w.heap.size w w' := by
  have h := rbelow_any a b la lb ca cb xs ys w ha hb hla hlb
  rw [hv] at h
  exact h
theorem find_one (a b : ByteArray) (h : Op.bytesLess a.toList b.toList = false) (n : Int) (q : Bool) (hn : (Op.bytesLess b.toList a.toList = true ∧ n = 1 ∧ q = false) ∨ (Op.bytesLess b.toList a.toList = false ∧ n = 0 ∧ q = true)) :
    (((findV a 0 [b]).1 : Nat) : Int) = n ∧ (findV a 0 [b]).2 = q := by
  rcases hn with ⟨h1, rfl, rfl⟩ | ⟨h1, rfl, rfl⟩
  · simp [findV, h1]
  · have := bytesLess_total _ _ h h1
    simp [findV, this, bytesLess_irr]
theorem nameOrders_good (a b : ByteArray) (w : World) (ha : a.size ≤ 40) (hb : b.size ≤ 40) (ga : (rn a.data.toList).all good = true) (gb : (rn b.data.toList).all good = true) :
    Calls Try.prog 7 #[.string a, .string b] w fun e w' => e = .returned (.bool true) ∧ Below w.heap.size w w' := by
  have hless := less_text _ _ ga gb
  rw [← ByteArray.toList_eq, ← ByteArray.toList_eq] at hless
  have hl1 := vals_len a.data.toList
  have hl2 := vals_len b.data.toList
  rw [len_list] at hl1 hl2
  have HA := Lib.hid ga; have HB := Lib.hid gb
  clear ga gb
  cases hlt : Op.bytesLess a.toList b.toList with
  | true =>
    rw [ByteArray.toList_eq a, ByteArray.toList_eq b] at hlt
    rw [ByteArray.toList_eq a, ByteArray.toList_eq b, hlt] at hless
    rw [← ByteArray.toList_eq a, ← ByteArray.toList_eq b] at hlt
    have HL := Lib.hid hless
    have HF1 : Hid ((((findV a 0 [a, b]).1 : Nat) : Int) = 0 ∧ (findV a 0 [a, b]).2 = true) := by show _ ∧ _; simp [findV, bytesLess_irr]
    have HF2 : Hid ((((findV b 0 [a, b]).1 : Nat) : Int) = 1 ∧ (findV b 0 [a, b]).2 = true) := by show _ ∧ _; simp [findV, bytesLess_irr, hlt]
    clear hless
    go_enter Try.func7, Try.ntmps7
    go_wp2_with fail
    refine (runes_good a _ (by omega) HA.out).mono ?_
    rintro e w1 ⟨hb1, p, cap, rfl, hp⟩
    have HP := Lib.hid hp; clear hp
    go_wp2_with fail
    refine (runes_good b _ (by omega) HB.out).mono ?_
    rintro e w2 ⟨hb, q, cap2, rfl, hq⟩
    have HP2 := Lib.hid (HP.out.keep hb); have HQ := Lib.hid hq
    have hb2 := below_keep hb1 hb hb1.size
    clear hb hb1 hq HP
    go_wp2_with fail
    refine (below_is _ _ _ _ _ _ _ _ true _ HP2.out HQ.out (by omega) (by omega) HL.out).mono ?_
    rintro e w3 ⟨rfl, hb⟩
    have hb3 := below_keep hb2 hb hb2.size
    clear hb hb2
    go_wp2_with fail
    refine (find_is _ _ _ [a, b] a 0 true _ (strs_two _ _ _) HF1.out).mono ?_
    rintro e w4 ⟨rfl, hb⟩
    have hb4 := below_keep (hb3.alloc hb3.size _) hb (by have := hb3.size; simp; omega)
    clear hb hb3
    go_wp2_with fail
    refine (find_is _ _ _ [a, b] b 1 true _ (strs_two _ _ _) HF2.out).mono ?_
    rintro e w5 ⟨rfl, hb⟩
    have hb5 := below_keep (hb4.alloc hb4.size _) hb (by have := hb4.size; simp; omega)
    clear hb hb4
    go_wp2_with fail
    refine (awake_any _).mono ?_
    rintro e w6 ⟨rfl, hb⟩
    have hb6 := below_keep hb5 hb hb5.size
    go_wp2_with fail
    go_ret
    exact ⟨rfl, hb6⟩
  | false =>
    rw [ByteArray.toList_eq a, ByteArray.toList_eq b] at hlt
    rw [ByteArray.toList_eq a, ByteArray.toList_eq b, hlt] at hless
    rw [← ByteArray.toList_eq a, ← ByteArray.toList_eq b] at hlt
    have HL := Lib.hid hless
    clear hless
    cases hgt : Op.bytesLess b.toList a.toList with
    | true =>
      have HF := Lib.hid (find_one a b hlt 1 false (.inl ⟨hgt, rfl, rfl⟩))
      have hne : (a.toList == b.toList) = false := by
        rw [beq_eq_false_iff_ne]; intro e; rw [e, bytesLess_irr] at hgt; cases hgt
      clear hgt
      go_enter Try.func7, Try.ntmps7
      go_wp2_with fail
      refine (runes_good a _ (by omega) HA.out).mono ?_
      rintro e w1 ⟨hb1, p, cap, rfl, hp⟩
      have HP := Lib.hid hp; clear hp
      go_wp2_with fail
      refine (runes_good b _ (by omega) HB.out).mono ?_
      rintro e w2 ⟨hb, q, cap2, rfl, hq⟩
      have HP2 := Lib.hid (HP.out.keep hb); have HQ := Lib.hid hq
      have hb2 := below_keep hb1 hb hb1.size
      clear hb hb1 hq HP
      go_wp2_with fail
      refine (below_is _ _ _ _ _ _ _ _ false _ HP2.out HQ.out (by omega) (by omega) HL.out).mono ?_
      rintro e w3 ⟨rfl, hb⟩
      have hb3 := below_keep hb2 hb hb2.size
      clear hb hb2
      go_wp2_with fail
      refine (find_is _ _ _ [b] a 1 false _ (strs_one _ _) HF.out).mono ?_
      rintro e w4 ⟨rfl, hb⟩
      have hb4 := below_keep (hb3.alloc hb3.size _) hb (by have := hb3.size; simp; omega)
      clear hb hb3
      go_wp2_with fail
      refine (awake_any _).mono ?_
      rintro e w6 ⟨rfl, hb⟩
      have hb6 := below_keep hb4 hb hb4.size
      go_wp2_with fail
      go_ret
      exact ⟨rfl, hb6⟩
    | false =>
      have HF := Lib.hid (find_one a b hlt 0 true (.inr ⟨hgt, rfl, rfl⟩))
      have hne : (a.toList == b.toList) = true := by
        rw [bytesLess_total _ _ hlt hgt]; simp
      clear hgt
      go_enter Try.func7, Try.ntmps7
      go_wp2_with fail
      refine (runes_good a _ (by omega) HA.out).mono ?_
      rintro e w1 ⟨hb1, p, cap, rfl, hp⟩
      have HP := Lib.hid hp; clear hp
      go_wp2_with fail
      refine (runes_good b _ (by omega) HB.out).mono ?_
      rintro e w2 ⟨hb, q, cap2, rfl, hq⟩
      have HP2 := Lib.hid (HP.out.keep hb); have HQ := Lib.hid hq
      have hb2 := below_keep hb1 hb hb1.size
      clear hb hb1 hq HP
      go_wp2_with fail
      refine (below_is _ _ _ _ _ _ _ _ false _ HP2.out HQ.out (by omega) (by omega) HL.out).mono ?_
      rintro e w3 ⟨rfl, hb⟩
      have hb3 := below_keep hb2 hb hb2.size
      clear hb hb2
      go_wp2_with fail
      refine (find_is _ _ _ [b] a 0 true _ (strs_one _ _) HF.out).mono ?_
      rintro e w4 ⟨rfl, hb⟩
      have hb4 := below_keep (hb3.alloc hb3.size _) hb (by have := hb3.size; simp; omega)
      clear hb hb3
      go_wp2_with fail
      refine (awake_any _).mono ?_
      rintro e w6 ⟨rfl, hb⟩
      have hb6 := below_keep hb4 hb hb4.size
      go_wp2_with fail
      go_ret
      exact ⟨rfl, hb6⟩
end Go.Proofs.Ytfppfjihdgponaa
