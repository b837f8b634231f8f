/-
  The contracts of the document's Runes and Count: any text; what was there stays as it was.
-/
import Derived.Test.YtdpgfnnhbfkacaaGreatDoorPtNameA
import Derived.OwnWalk
import Derived.Laws.AppendOwn
import Derived.LoopTactic
set_option linter.unusedVariables false
set_option maxRecDepth 4000
namespace Go.Proofs.YtdpgfnnhbfkacaaGreatDoor.Name
open Go.RowKit NameP
theorem info_int : (Tryz.prog.info? 3).map (fun i => (i.zero, i.size, i.bytes)) = some (some (.int .i64 0), 1, 8) := by kernel_rfl
def cellsN (l : List Nat) : List Value := l.map fun (c : Nat) => Value.int .i64 (c : Int)
def NatsAt (w : World) (a : Option Addr) (len : Nat) (xs : List Nat) : Prop :=
  xs.length = len ∧ (len = 0 ∨ ∃ b, a = some ⟨b, 0, none⟩ ∧ b < w.heap.size ∧ ∀ i, i < len → w.cell? ⟨b, i, none⟩ = some (.int .i64 ((xs.getD i 0 : Nat) : Int)))
theorem NatsAt.keep {w w' : World} {a : Option Addr} {len : Nat} {xs : List Nat} (h : NatsAt w a len xs) (hb : Below w.heap.size w w') : NatsAt w' a len xs := by
  refine ⟨h.1, ?_⟩
  rcases h.2 with h0 | ⟨b, rfl, hlt, hc⟩
  · exact .inl h0
  · exact .inr ⟨b, rfl, by have := hb.size; omega, fun i hi => (hb.cell (p := ⟨b, i, none⟩) hlt).trans (hc i hi)⟩
theorem natsAt_of_owns {w : World} {base cap : Nat} {a : Option Addr} {xs : List Nat} (h : w.ownsRow base 3 1 (.slice a xs.length cap) xs.length (cellsN xs)) : NatsAt w a xs.length xs := by
  refine ⟨rfl, ?_⟩
  by_cases h0 : xs.length = 0
  · exact .inl h0
  right
  have hlt := h.lt
  rcases h.2 with ⟨_, h1⟩ | ⟨g, cap2, cur, hv, hb, hg, _⟩
  · omega
  · simp only [Value.slice.injEq] at hv
    obtain ⟨rfl, _⟩ := hv
    refine ⟨g, rfl, (hlt g rfl).2, fun i hi => ?_⟩
    have := h.cells (g := g) rfl i (.int .i64 ((xs.getD i 0 : Nat) : Int)) (by simp [cellsN, List.getD, hi])
    have hadd : (⟨g, 0, none⟩ : Addr).add i = ⟨g, i, none⟩ := by unfold Addr.add; split <;> simp_all
    rw [hadd] at this
    exact this
theorem owns_slice {w : World} {base n : Nat} {v : Value} {xs : List Value} (h : w.ownsRow base 3 1 v n xs) : ∃ a cap, v = .slice a n cap := by
  rcases h.2 with ⟨rfl, rfl⟩ | ⟨g, cap, cur, rfl, _⟩
  · exact ⟨none, 0, rfl⟩
  · exact ⟨_, cap, rfl⟩

def RunesOut (l : List UInt8) (w : World) (e : Ending) (w' : World) : Prop :=
  Below w.heap.size w w' ∧ (((rn l).all good = false ∧ e = .returned (.tuple #[.slice none 0 0, .bool false])) ∨
    ((rn l).all good = true ∧ ∃ a cap, e = .returned (.tuple #[.slice a (vals l).length cap, .bool true]) ∧ NatsAt w' a (vals l).length (vals l)))
theorem runesOut_no {l : List UInt8} {w w' : World} (h : (rn l).all good = false) (hb : Below w.heap.size w w') : RunesOut l w (.returned (.tuple #[.slice none 0 0, .bool false])) w' := ⟨hb, .inl ⟨h, rfl⟩⟩
theorem runesOut_yes {l : List UInt8} {w w' : World} {v : Value} {n : Nat} {xs : List Value} (h : (rn l).all good = true) (hb : Below w.heap.size w w') (hn : n = (vals l).length) (hx : xs = cellsN (vals l)) (ho : w'.ownsRow w.heap.size 3 1 v n xs) : RunesOut l w (.returned (.tuple #[v, .bool true])) w' := by
  subst hn; subst hx
  obtain ⟨a, cap, rfl⟩ := owns_slice ho
  exact ⟨hb, .inr ⟨h, a, cap, rfl, natsAt_of_owns ho⟩⟩

def RunesTo (l : List UInt8) (k : Nat) (pre : List Nat) : Prop := vals l = pre ++ vals (l.drop k) ∧ (rn l).all good = (rn (l.drop k)).all good
theorem runesTo_step {l : List UInt8} {k c m : Nat} {pre : List Nat} (h : RunesTo l k pre) (hk : k < l.length) (hd : Lib.decodeL (l.drop k) = (c, m)) (hg : good (c, m) = true) : RunesTo l (k + m) (pre ++ [c]) := by
  obtain ⟨h1, h2⟩ := h
  rw [vals_drop_step l k hk, hd] at h1
  rw [rn_drop_step l k hk, hd, List.all_cons, hg, Bool.true_and] at h2
  exact ⟨by rw [h1]; simp, h2⟩
theorem runesTo_bad {l : List UInt8} {k c m : Nat} {pre : List Nat} (h : RunesTo l k pre) (hk : k < l.length) (hd : Lib.decodeL (l.drop k) = (c, m)) (hg : good (c, m) = false) : (rn l).all good = false := by
  rw [h.2, rn_drop_step l k hk, hd, List.all_cons, hg, Bool.false_and]
theorem runesTo_end {l : List UInt8} {k : Nat} {pre : List Nat} (h : RunesTo l k pre) (hk : ¬ k < l.length) : (rn l).all good = true ∧ vals l = pre := by
  obtain ⟨h1, h2⟩ := h
  rw [vals_drop_done l k hk, List.append_nil] at h1
  rw [rn_drop_done l k hk] at h2
  exact ⟨h2, h1⟩
theorem decode_fits {l : List UInt8} {k c m : Nat} (hk : k < l.length) (hd : Lib.decodeL (l.drop k) = (c, m)) : 1 ≤ m ∧ m ≤ 4 ∧ k + m ≤ l.length ∧ c ≤ 1114111 ∧ okRune c := by
  have hne : l.drop k ≠ [] := by
    intro e
    have := congrArg List.length e
    simp at this
    omega
  have h1 := Lib.decodeL_width (l.drop k)
  have h2 := decodeL_four (l.drop k)
  have h3 := Lib.decodeL_le (l.drop k) hne
  have h4 := decodeL_ok (l.drop k)
  rw [hd] at h1 h2 h3 h4
  rw [List.length_drop] at h3
  simp only at h1 h2 h3 h4
  refine ⟨h1, h2, by omega, ?_, h4⟩
  unfold okRune at h4
  omega
theorem rone_good (s : ByteArray) (k c m : Nat) (w : World) (hk : k < s.size) (hs : s.size ≤ 4611686018427387000) (hd : Lib.decodeL (s.data.toList.drop k) = (c, m)) (hg : good (c, m) = true) :
    Calls Tryz.prog 114 #[.string s, .int .i64 k] w fun e w' => e = .returned (.tuple #[.int .i64 c, .int .i64 m]) ∧ w = w' := by
  have h := rone_any s k w hk hs
  rw [oneV_yes (by rw [hd]; exact hg), hd] at h
  exact h
theorem rone_bad (s : ByteArray) (k : Nat) (w : World) (hk : k < s.size) (hs : s.size ≤ 4611686018427387000) (hg : good (Lib.decodeL (s.data.toList.drop k)) = false) :
    Calls Tryz.prog 114 #[.string s, .int .i64 k] w fun e w' => e = .returned (.tuple #[.int .i64 0, .int .i64 0]) ∧ w = w' := by
  have h := rone_any s k w hk hs
  rw [oneV_no hg] at h
  exact h

theorem rrunes_walk (s : ByteArray) (w : World) (hs : s.size ≤ 4398046511104) :
    Calls Tryz.prog 85 #[.string s] w (RunesOut s.data.toList w) := by
  obtain ⟨i0, hi, hz0, hz1, hz2⟩ := info_parts info_int
  have HI := Lib.hid hi; have HZ0 := Lib.hid hz0; have HZ1 := Lib.hid hz1; have HZ2 := Lib.hid hz2
  clear hi hz0 hz1 hz2
  have hlen := len_list s
  have HLEN := Lib.hid hlen; clear hlen
  go_enter Tryz.func85, Tryz.ntmps85
  go_wp2
  go_loopw [4, 5] (fun out i wr => ∃ (k n : Nat) (pre : List Nat), k ≤ s.size ∧ i = .int .i64 k ∧ wr.ownsRow w.heap.size 3 1 out n (cellsN pre) ∧ n ≤ k ∧ Below w.heap.size w wr ∧ Hid (n = pre.length) ∧ Hid (RunesTo s.data.toList k pre)) (fun _ i _ => s.size - (intOf i).toNat)
  case atStart => exact ⟨0, 0, [], Nat.zero_le _, rfl, World.ownsRow_nil _ _ _ _, Nat.le_refl _, Below.refl _ _, rfl, ⟨rfl, rfl⟩⟩
  case round =>
    obtain ⟨k, n, pre, hk, rfl, hown, hnk, hbw, hpl, hto⟩ := hrel
    by_cases hlt : k < s.size
    · obtain ⟨c, m, hd⟩ : ∃ c m, Lib.decodeL (s.data.toList.drop k) = (c, m) := ⟨_, _, rfl⟩
      obtain ⟨m1, m4, hkm, hc, hok⟩ := decode_fits (by rw [HLEN.out]; exact hlt) hd
      rw [HLEN.out] at hkm
      have HOK := Lib.hid hok; clear hok
      cases hg : good (c, m) with
      | false =>
        have hall := runesTo_bad hto.out (by rw [HLEN.out]; exact hlt) hd hg
        have HALL := Lib.hid hall; clear hall
        have hone := rone_bad s k wr hlt (by omega) (by rw [hd]; exact hg)
        have HONE := Lib.hid hone; clear hone hd hg
        go_wp2_with fail
        refine HONE.out.mono ?_
        rintro e w' ⟨rfl, rfl⟩
        clear HONE
        go_wp2_with fail
        go_ret2
        exact runesOut_no HALL.out hbw
      | true =>
        have hstep := runesTo_step hto.out (by rw [HLEN.out]; exact hlt) hd hg
        have HS := Lib.hid hstep; clear hstep
        have hone := rone_good s k c m wr hlt (by omega) hd hg
        have HONE := Lib.hid hone; clear hone hd hg
        have hm0 : ((m : Int) == 0) = false := beq_eq_false_iff_ne.2 (by omega)
        go_wp2_with fail
        refine HONE.out.mono ?_
        rintro e w' ⟨rfl, rfl⟩
        clear HONE
        go_wp2_with (at_builtin; refine wpList_append_own _ rfl _ _ 75 rfl w.heap.size 3 i0 (.int .i64 0) 1 8 Tryz.underlying75 HI.out HZ0.out HZ1.out HZ2.out rfl (by decide) _ _ _ rfl (hown.alloc _) ⟨wr.heap.size, 0, none⟩ 1 1 [.int .i64 c] rfl rfl ?c1 ?c2 ?c3 ?c4 ?c5 ?_)
        case c1 => exact cell_one_new _ _ _
        case c2 => simp [Value.oneCell']
        case c3 => unfold maxLen; omega
        case c4 => omega
        case c5 => have := hbw.size; simp; omega
        intro v' w1 hown1 hgrow _
        have hb1 := (hbw.alloc hbw.size (.cells #[.int .i64 c] 3)).grown hgrow (by have := hbw.size; simp; omega) (fun k hk => (hown.lt k hk).1)
        clear hgrow hown
        go_wp2
        go_roundw
        case rel => exact ⟨k + m, n + 1, pre ++ [c], by omega, by go_num, by simpa [cellsN] using hown1, by omega, hb1, by show n + 1 = _; rw [List.length_append, ← hpl.out]; rfl, HS.out⟩
        case measure => simp [intOf]; omega
    · have hend := runesTo_end hto.out (by rw [HLEN.out]; exact hlt)
      have HE := Lib.hid hend; clear hend
      go_wp2
      go_ret2
      exact runesOut_yes HE.out.1 hbw (by rw [hpl.out, HE.out.2]) (by rw [HE.out.2]) hown
end Go.Proofs.YtdpgfnnhbfkacaaGreatDoor.Name

/-
  The contracts of the document's Count and Fit: any text; what was there stays as it was.
-/
set_option linter.unusedVariables false
set_option maxRecDepth 4000
namespace Go.Proofs.YtdpgfnnhbfkacaaGreatDoor.Name
open Go.RowKit NameP
theorem allNr_bad {l : List UInt8} (h : (rn l).all good = false) : allNr (vals l) = false := by
  cases hn : allNr (vals l) with
  | false => rfl
  | true => rw [allNr_good l hn] at h; cases h
theorem rfit_any (s : ByteArray) (w : World) (hs : s.size ≤ 4398046511104) :
    Calls Tryz.prog 49 #[.string s] w fun e w' => e = .returned (.bool (fitV (vals s.data.toList))) ∧ Below w.heap.size w w' := by
  by_cases h48 : 48 < s.size
  · rw [fitV_no (.inr (.inr (.inl (by have := vals_four s.data.toList; rw [len_list] at this; omega))))]
    go_enter Tryz.func49, Tryz.ntmps49
    go_wp2
    go_ret
    exact ⟨rfl, Below.refl _ _⟩
  · obtain ⟨xs, hv⟩ : ∃ xs, vals s.data.toList = xs := ⟨_, rfl⟩
    rw [hv]
    have HV := Lib.hid hv; clear hv
    go_enter Tryz.func49, Tryz.ntmps49
    go_wp2_with fail
    refine (rrunes_walk s w hs).mono ?_
    rintro e w1 ⟨hb, ⟨hg, rfl⟩ | ⟨hg, a, cap, rfl, hat⟩⟩
    · have HG := Lib.hid hg; clear hg
      go_wp2_with fail
      go_ret
      exact ⟨ret_bool (by rw [← HV.out]; exact (fitV_no (.inl (allNr_bad HG.out))).symm), hb⟩
    · clear hg
      rw [HV.out] at hat ⊢
      obtain ⟨_, hc⟩ := hat
      obtain ⟨n, hn⟩ : ∃ n, xs.length = n := ⟨_, rfl⟩
      rw [hn] at hc ⊢
      have HN := Lib.hid hn; clear hn
      by_cases h0 : n = 0
      · subst h0
        go_wp2_with fail
        go_ret
        exact ⟨ret_bool (fitV_no (.inr (.inl HN.out))).symm, hb⟩
      by_cases h12 : 12 < n
      · clear hc
        go_wp2_with fail
        go_ret
        exact ⟨ret_bool (fitV_no (.inr (.inr (.inl (by rw [HN.out]; exact h12))))).symm, hb⟩
      rcases hc with hc | ⟨b, rfl, hlt, hc⟩
      · exact absurd hc h0
      have hpos : 0 < n := by omega
      have hc0 := hc 0 hpos
      have HC := Lib.hid hc; clear hc
      obtain ⟨x, hx⟩ : ∃ x, xs.getD 0 0 = x := ⟨_, rfl⟩
      rw [hx] at hc0
      by_cases h45 : x = 45
      · subst h45
        have HX := Lib.hid hx; clear hx
        go_wp2_with fail
        go_ret
        exact ⟨ret_bool (fitV_no (.inr (.inr (.inr (by rw [← HX.out]; cases xs <;> rfl))))).symm, hb⟩
      · have hx45 : ((x : Int) == 45) = false := beq_eq_false_iff_ne.2 (by omega)
        have HX : Hid (xs.headD 0 ≠ 45) := by
          have : xs.headD 0 = xs.getD 0 0 := by cases xs <;> rfl
          show xs.headD 0 ≠ 45
          rw [this, hx]; exact h45
        clear hx
        have H45 := Lib.hid h45; clear h45
        go_wp2_with fail
        clear hc0 hx45
        go_loop [5] (fun i => ∃ k : Nat, k ≤ n ∧ i = .int .i64 k ∧ Hid (allNr xs = allNr (xs.drop k))) (fun i => n - (intOf i).toNat)
        case atStart => exact ⟨0, Nat.zero_le _, rfl, rfl⟩
        case round =>
          obtain ⟨k, hk, rfl, hd⟩ := hrel
          by_cases hlk : k < n
          · have hcell := HC.out k hlk
            obtain ⟨y, hy⟩ : ∃ y, xs.getD k 0 = y := ⟨_, rfl⟩
            rw [hy] at hcell
            cases hnr : nr (y : Int) with
            | true =>
              have HD := Lib.hid (hd.out.trans (allNr_drop_step (by rw [HN.out]; exact hlk) (by rw [hy]; exact hnr)))
              have hrr := fun w => rrune_any (y : Int) w
              simp only [hnr] at hrr
              have HR := Lib.hid hrr
              clear hy hd hnr hrr
              go_wp2_with fail
              refine (HR.out _).mono ?_
              rintro e w' ⟨rfl, rfl⟩
              go_wp2_with fail
              go_round
              case rel => exact ⟨k + 1, by omega, by go_num, HD.out⟩
              case measure => simp [intOf]; omega
            | false =>
              have HD := Lib.hid (hd.out.trans (allNr_drop_no (by rw [HN.out]; exact hlk) (by rw [hy]; exact hnr)))
              have hrr := fun w => rrune_any (y : Int) w
              simp only [hnr] at hrr
              have HR := Lib.hid hrr
              clear hy hd hnr hrr
              go_wp2_with fail
              refine (HR.out _).mono ?_
              rintro e w' ⟨rfl, rfl⟩
              go_wp2_with fail
              go_ret
              exact ⟨ret_bool (fitV_no (.inl HD.out)).symm, hb⟩
          · have HD := Lib.hid (hd.out.trans (allNr_drop_done (by rw [HN.out]; exact hlk)))
            clear hd
            go_wp2_with fail
            go_ret
            exact ⟨ret_bool (fitV_iff.2 ⟨HD.out, by rw [HN.out]; omega, by rw [HN.out]; omega, HX.out⟩).symm, hb⟩
end Go.Proofs.YtdpgfnnhbfkacaaGreatDoor.Name
