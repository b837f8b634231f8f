/-
  The contracts of the document's Runes and Count: any text; what was there stays as it was.
-/
import Derived.Test.YtleopanfggmenaaNameB
import Derived.OwnWalk
import Derived.Laws.AppendOwn
import Derived.LoopTactic
set_option linter.unusedVariables false
set_option maxRecDepth 4000
namespace Go.Proofs.Ytleopanfggmenaa.Name
open Go.RowKit NameP

theorem info_int : (Try.prog.info? 3).map (fun i => (i.zero, i.size, i.bytes)) = some (some (.int .i64 0), 1, 8) := by kernel_rfl
def cellsN (l : List Nat) : List Value := l.map fun (c : Nat) => Value.int .i64 (c : Int)
theorem cellsN_len (l : List Nat) : (cellsN l).length = l.length := by simp [cellsN]
/-- A slice of ints told of its first 'len' cells: the numbers of a list. -/
def NatsAt (w : World) (a : Option Addr) (len : Nat) (xs : List Nat) : Prop :=
  xs.length = len ∧ (len = 0 ∨ ∃ b, a = some ⟨b, 0, none⟩ ∧ b < w.heap.size ∧ ∀ i, i < len → w.cell? ⟨b, i, none⟩ = some (.int .i64 ((xs.getD i 0 : Nat) : Int)))
theorem NatsAt.keep {w w' : World} {a : Option Addr} {len : Nat} {xs : List Nat} (h : NatsAt w a len xs) (hb : Below w.heap.size w w') : NatsAt w' a len xs := by
  refine ⟨h.1, ?_⟩
  rcases h.2 with h0 | ⟨b, rfl, hlt, hc⟩
  · exact .inl h0
  · exact .inr ⟨b, rfl, by have := hb.size; omega, fun i hi => (hb.cell (p := ⟨b, i, none⟩) hlt).trans (hc i hi)⟩
theorem natsAt_of_owns {w : World} {base cap : Nat} {a : Option Addr} {xs : List Nat} (h : w.ownsRow base 3 1 (.slice a xs.length cap) xs.length (cellsN xs)) : NatsAt w a xs.length xs := by
  refine ⟨rfl, ?_⟩
  by_cases h0 : xs.length = 0
  · exact .inl h0
  right
  have hlt := h.lt
  rcases h.2 with ⟨_, h1⟩ | ⟨g, cap2, cur, hv, hb, hg, _⟩
  · omega
  · simp only [Value.slice.injEq] at hv
    obtain ⟨rfl, _⟩ := hv
    refine ⟨g, rfl, (hlt g rfl).2, fun i hi => ?_⟩
    have := h.cells (g := g) rfl i (.int .i64 ((xs.getD i 0 : Nat) : Int)) (by simp [cellsN, List.getD, hi])
    have hadd : (⟨g, 0, none⟩ : Addr).add i = ⟨g, i, none⟩ := by unfold Addr.add; split <;> simp_all
    rw [hadd] at this
    exact this
theorem owns_slice {w : World} {base n : Nat} {v : Value} {xs : List Value} (h : w.ownsRow base 3 1 v n xs) : ∃ a cap, v = .slice a n cap := by
  rcases h.2 with ⟨rfl, rfl⟩ | ⟨g, cap, cur, rfl, _⟩
  · exact ⟨none, 0, rfl⟩
  · exact ⟨_, cap, rfl⟩

/-- What the document's Runes gives. -/
def RunesOut (l : List UInt8) (w : World) (e : Ending) (w' : World) : Prop :=
  Below w.heap.size w w' ∧ (((rn l).all good = false ∧ e = .returned (.tuple #[.slice none 0 0, .bool false])) ∨
    ((rn l).all good = true ∧ ∃ a cap, e = .returned (.tuple #[.slice a (vals l).length cap, .bool true]) ∧ NatsAt w' a (vals l).length (vals l)))
theorem runesOut_no {l : List UInt8} {w w' : World} (h : (rn l).all good = false) (hb : Below w.heap.size w w') : RunesOut l w (.returned (.tuple #[.slice none 0 0, .bool false])) w' := ⟨hb, .inl ⟨h, rfl⟩⟩
theorem runesOut_yes {l : List UInt8} {w w' : World} {v : Value} {n : Nat} {xs : List Value} (h : (rn l).all good = true) (hb : Below w.heap.size w w') (hn : n = (vals l).length) (hx : xs = cellsN (vals l)) (ho : w'.ownsRow w.heap.size 3 1 v n xs) : RunesOut l w (.returned (.tuple #[v, .bool true])) w' := by
  subst hn; subst hx
  obtain ⟨a, cap, rfl⟩ := owns_slice ho
  exact ⟨hb, .inr ⟨h, a, cap, rfl, natsAt_of_owns ho⟩⟩

/-- What is told of the runes behind place k, and ahead of it. -/
def RunesTo (l : List UInt8) (k : Nat) (pre : List Nat) : Prop := vals l = pre ++ vals (l.drop k) ∧ (rn l).all good = (rn (l.drop k)).all good
theorem runesTo_step {l : List UInt8} {k c m : Nat} {pre : List Nat} (h : RunesTo l k pre) (hk : k < l.length) (hd : Lib.decodeL (l.drop k) = (c, m)) (hg : good (c, m) = true) : RunesTo l (k + m) (pre ++ [c]) := by
  obtain ⟨h1, h2⟩ := h
  rw [vals_drop_step l k hk, hd] at h1
  rw [rn_drop_step l k hk, hd, List.all_cons, hg, Bool.true_and] at h2
  exact ⟨by rw [h1]; simp, h2⟩
theorem runesTo_bad {l : List UInt8} {k c m : Nat} {pre : List Nat} (h : RunesTo l k pre) (hk : k < l.length) (hd : Lib.decodeL (l.drop k) = (c, m)) (hg : good (c, m) = false) : (rn l).all good = false := by
  rw [h.2, rn_drop_step l k hk, hd, List.all_cons, hg, Bool.false_and]
theorem runesTo_end {l : List UInt8} {k : Nat} {pre : List Nat} (h : RunesTo l k pre) (hk : ¬ k < l.length) : (rn l).all good = true ∧ vals l = pre := by
  obtain ⟨h1, h2⟩ := h
  rw [vals_drop_done l k hk, List.append_nil] at h1
  rw [rn_drop_done l k hk] at h2
  exact ⟨h2, h1⟩
theorem decode_fits {l : List UInt8} {k c m : Nat} (hk : k < l.length) (hd : Lib.decodeL (l.drop k) = (c, m)) : 1 ≤ m ∧ m ≤ 4 ∧ k + m ≤ l.length ∧ c ≤ 1114111 ∧ okRune c := by
  have hne : l.drop k ≠ [] := by
    intro e
    have := congrArg List.length e
    simp at this
    omega
  have h1 := Lib.decodeL_width (l.drop k)
  have h2 := decodeL_four (l.drop k)
  have h3 := Lib.decodeL_le (l.drop k) hne
  have h4 := decodeL_ok (l.drop k)
  rw [hd] at h1 h2 h3 h4
  rw [List.length_drop] at h3
  simp only at h1 h2 h3 h4
  refine ⟨h1, h2, by omega, ?_, h4⟩
  unfold okRune at h4
  omega
theorem rone_good (s : ByteArray) (k c m : Nat) (w : World) (hk : k < s.size) (hs : s.size ≤ 4611686018427387000) (hd : Lib.decodeL (s.data.toList.drop k) = (c, m)) (hg : good (c, m) = true) :
    Calls Try.prog 50 #[.string s, .int .i64 k] w fun e w' => e = .returned (.tuple #[.int .i64 c, .int .i64 m]) ∧ w = w' := by
  have h := rone_any s k w hk hs
  rw [oneV_yes (by rw [hd]; exact hg), hd] at h
  exact h
theorem rone_bad (s : ByteArray) (k : Nat) (w : World) (hk : k < s.size) (hs : s.size ≤ 4611686018427387000) (hg : good (Lib.decodeL (s.data.toList.drop k)) = false) :
    Calls Try.prog 50 #[.string s, .int .i64 k] w fun e w' => e = .returned (.tuple #[.int .i64 0, .int .i64 0]) ∧ w = w' := by
  have h := rone_any s k w hk hs
  rw [oneV_no hg] at h
  exact h

theorem rrunes_walk (s : ByteArray) (w : World) (hs : s.size ≤ 4398046511104) :
    Calls Try.prog 48 #[.string s] w (RunesOut s.data.toList w) := by
  obtain ⟨i0, hi, hz0, hz1, hz2⟩ := info_parts info_int
  have HI := Lib.hid hi; have HZ0 := Lib.hid hz0; have HZ1 := Lib.hid hz1; have HZ2 := Lib.hid hz2
  clear hi hz0 hz1 hz2
  have hlen := len_list s
  have HLEN := Lib.hid hlen; clear hlen
  go_enter Try.func48, Try.ntmps48
  go_wp2
  go_loopw [4, 5] (fun out i wr => ∃ (k n : Nat) (pre : List Nat), k ≤ s.size ∧ i = .int .i64 k ∧ wr.ownsRow w.heap.size 3 1 out n (cellsN pre) ∧ n ≤ k ∧ Below w.heap.size w wr ∧ Hid (n = pre.length) ∧ Hid (RunesTo s.data.toList k pre)) (fun _ i _ => s.size - (intOf i).toNat)
  case atStart => exact ⟨0, 0, [], Nat.zero_le _, rfl, World.ownsRow_nil _ _ _ _, Nat.le_refl _, Below.refl _ _, rfl, ⟨rfl, rfl⟩⟩
  case round =>
    obtain ⟨k, n, pre, hk, rfl, hown, hnk, hbw, hpl, hto⟩ := hrel
    by_cases hlt : k < s.size
    · obtain ⟨c, m, hd⟩ : ∃ c m, Lib.decodeL (s.data.toList.drop k) = (c, m) := ⟨_, _, rfl⟩
      obtain ⟨m1, m4, hkm, hc, hok⟩ := decode_fits (by rw [HLEN.out]; exact hlt) hd
      rw [HLEN.out] at hkm
      have HOK := Lib.hid hok; clear hok
      cases hg : good (c, m) with
      | false =>
        have hall := runesTo_bad hto.out (by rw [HLEN.out]; exact hlt) hd hg
        have HALL := Lib.hid hall; clear hall
        have hone := rone_bad s k wr hlt (by omega) (by rw [hd]; exact hg)
        have HONE := Lib.hid hone; clear hone hd hg
        go_wp2_with fail
        refine HONE.out.mono ?_
        rintro e w' ⟨rfl, rfl⟩
        clear HONE
        go_wp2_with fail
        go_ret2
        exact runesOut_no HALL.out hbw
      | true =>
        have hstep := runesTo_step hto.out (by rw [HLEN.out]; exact hlt) hd hg
        have HS := Lib.hid hstep; clear hstep
        have hone := rone_good s k c m wr hlt (by omega) hd hg
        have HONE := Lib.hid hone; clear hone hd hg
        have hm0 : ((m : Int) == 0) = false := beq_eq_false_iff_ne.2 (by omega)
        go_wp2_with fail
        refine HONE.out.mono ?_
        rintro e w' ⟨rfl, rfl⟩
        clear HONE
        go_wp2_with (at_builtin; refine wpList_append_own _ rfl _ _ 33 rfl w.heap.size 3 i0 (.int .i64 0) 1 8 Try.underlying33 HI.out HZ0.out HZ1.out HZ2.out rfl (by decide) _ _ _ rfl (hown.alloc _) ⟨wr.heap.size, 0, none⟩ 1 1 [.int .i64 c] rfl rfl ?c1 ?c2 ?c3 ?c4 ?c5 ?_)
        case c1 => exact cell_one_new _ _ _
        case c2 => simp [Value.oneCell']
        case c3 => unfold maxLen; omega
        case c4 => omega
        case c5 => have := hbw.size; simp; omega
        intro v' w1 hown1 hgrow _
        have hb1 := (hbw.alloc hbw.size (.cells #[.int .i64 c] 3)).grown hgrow (by have := hbw.size; simp; omega) (fun k hk => (hown.lt k hk).1)
        clear hgrow hown
        go_wp2
        go_roundw
        case rel => exact ⟨k + m, n + 1, pre ++ [c], by omega, by go_num, by simpa [cellsN] using hown1, by omega, hb1, by show n + 1 = _; rw [List.length_append, ← hpl.out]; rfl, HS.out⟩
        case measure => simp [intOf]; omega
    · have hend := runesTo_end hto.out (by rw [HLEN.out]; exact hlt)
      have HE := Lib.hid hend; clear hend
      go_wp2
      go_ret2
      exact runesOut_yes HE.out.1 hbw (by rw [hpl.out, HE.out.2]) (by rw [HE.out.2]) hown
end Go.Proofs.Ytleopanfggmenaa.Name
