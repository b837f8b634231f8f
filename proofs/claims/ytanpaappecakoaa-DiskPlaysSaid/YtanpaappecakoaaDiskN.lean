/-
  The contracts of slices.Clone and slices.Repeat at strings, strings.Repeat's blank sector, New, Load, Sectors: any numbers, any texts.
-/
import Derived.Test.YtanpaappecakoaaDiskM
import Derived.Test.YtanpaappecakoaaShelf
import Derived.Laws.CopyOwn
set_option linter.unusedVariables false
namespace Go.Proofs.Ytanpaappecakoaa
open Go.RowKit DiskP

/-- A slice of strings told of its first cells. -/
def StrsAt (w : World) (a : Option Addr) (len : Nat) (ss : List ByteArray) : Prop :=
  ss.length = len ∧ len ≤ 9223372036854775807 ∧ (len = 0 ∨ ∃ b off, a = some ⟨b, off, none⟩ ∧ b < w.heap.size ∧ ∀ i, i < len → w.cell? ⟨b, off + i, none⟩ = some (.string (ss.getD i ByteArray.empty)))
theorem map_get {S : List ByteArray} {j : Nat} {u : Value} (h : (S.map Value.string)[j]? = some u) : j < S.length ∧ u = .string (S.getD j ByteArray.empty) := by
  have hj : j < S.length := by have := (List.getElem?_eq_some_iff.1 h).1; simpa using this
  refine ⟨hj, ?_⟩
  simp [hj] at h
  simp [List.getD, hj, h]
theorem clone_any (b off n cap : Nat) (S : List ByteArray) (w : World) (hl : S.length = n) (hc : ∀ i, i < n → w.cell? ⟨b, off + i, none⟩ = some (.string (S.getD i ByteArray.empty))) (hn1 : 1 ≤ n) (hn : n ≤ 1000000) :
    Calls Try.prog 42 #[.slice (some ⟨b, off, none⟩) n cap] w (Fresh w n S) := by
  have hl2 : (S.map Value.string).length = n * 1 := by simpa using hl
  have hc2 : ∀ j u, (S.map Value.string)[j]? = some u → (w.alloc (.cells #[] 9)).cell? ((⟨b, off, none⟩ : Addr).add j) = some u := fun j u hu => by
    obtain ⟨hj, rfl⟩ := map_get hu
    rw [Addr.add_lit]
    exact Lib.cell?_alloc_some _ (hc j (by omega))
  have h1 : ∀ u ∈ S.map Value.string, u.oneCell' = true := fun u hu => by obtain ⟨x, _, rfl⟩ := List.mem_map.1 hu; rfl
  obtain ⟨xs, hx⟩ : ∃ xs, S.map Value.string = xs := ⟨_, rfl⟩
  unfold Fresh
  rw [hx] at hl2 hc2 h1 ⊢
  obtain ⟨i0, hi, hz0, hz1, hz2⟩ := info_parts info_string
  have HI := Lib.hid hi; have HZ0 := Lib.hid hz0; have HZ1 := Lib.hid hz1; have HZ2 := Lib.hid hz2
  have HC := Lib.hid hc2; have HL := Lib.hid hl2; have H1 := Lib.hid h1
  have hq : ∀ (w : World), (binOp .eql 38 (.slice (some ⟨b, off, none⟩) n cap) (.slice none 0 0)).run Try.prog w = .ok (.bool false) w := fun w => Lib.run_eql_slice_nil w _ _ (some ⟨b, off, none⟩) n cap 0 0 Try.underlying38
  clear hi hz0 hz1 hz2 hc2 hl2 h1 hc hl hx
  go_enter Try.func42, Try.ntmps42
  go_wp2_with (at_builtin; refine wpList_append_own _ rfl _ _ 38 rfl w.heap.size 9 i0 _ 1 16 Try.underlying38 HI.out HZ0.out HZ1.out HZ2.out rfl (by decide) _ _ _ rfl (World.ownsRow_made w #[] 0 (Nat.le_refl _) (Nat.zero_le _) rfl) ⟨b, off, none⟩ n cap xs rfl HL.out HC.out H1.out ?c3 ?c4 ?c5 ?_)
  case c3 => unfold maxLen; omega
  case c4 => omega
  case c5 => simp
  intro v' w1 hown hgrow _
  obtain ⟨m, rfl⟩ : ∃ m, n = m + 1 := ⟨n - 1, by omega⟩
  have hown2 : w1.ownsRow w.heap.size 9 1 v' (m + 1) xs := by simpa using hown
  obtain ⟨g', cap', rfl⟩ := owns_succ hown2
  have HO := Lib.hid hown2
  have HB := Lib.hid (((Below.refl _ w).alloc (Nat.le_refl _) _).grown hgrow (by simp) (by intro k hk; simp [Value.ownBlock] at hk; omega))
  clear hown hown2 hgrow
  go_wp2
  go_ret
  exact ⟨g', cap', rfl, HO.out, HB.out⟩
theorem sectors_no (p : Option Addr) (w : World) (h : NoDisk w p) : Calls Try.prog 19 #[.pointer p] w fun e w' => e = .returned (.slice none 0 0) ∧ w = w' := by
  go_enter Try.func19, Try.ntmps19
  go_wp2_with fail
  refine (made_no p w h).mono ?_
  rintro e w' ⟨rfl, rfl⟩
  go_wp2_with fail
  go_ret
  exact ⟨rfl, rfl⟩
theorem sectors_dk (b n : Nat) (st : St) (L : List Nat) (w : World) (h : Dk w L b st) (hok : Ok n st) :
    Calls Try.prog 19 #[.pointer (some ⟨b, 0, none⟩)] w (Fresh w st.S.length st.S) := by
  have hm := made_dk b st L w h
  obtain ⟨z, g, cap, wv, h, rfl⟩ := h
  have c3 : w.cell? ⟨b, 3, none⟩ = some (.slice (some ⟨g, 0, none⟩) st.S.length cap) := cell_of_heap h.blk
  have hcl := clone_any g 0 st.S.length cap st.S w rfl (fun i hi => by rw [Nat.zero_add]; exact (sec_at h.sec hi).1) (by have := hok.lo; omega) (by have := hok.hi; omega)
  have HM := Lib.hid hm; have HC := Lib.hid hcl
  clear h hm hok hcl
  go_enter Try.func19, Try.ntmps19
  go_wp2_with fail
  refine HM.out.mono ?_
  rintro e w' ⟨rfl, rfl⟩
  go_wp2_with fail
  refine HC.out.mono ?_
  rintro e w1 ⟨g3, cap3, rfl, hown, hb⟩
  have HO := Lib.hid hown; have HB := Lib.hid hb
  clear hown hb c3
  go_wp2_with fail
  go_ret
  exact ⟨g3, cap3, rfl, HO.out, HB.out⟩
/-- A new disk, in new memory. -/
def Made (w : World) (S : List ByteArray) (e : Ending) (w' : World) : Prop :=
  ∃ b L, e = .returned (.tuple #[.pointer (some ⟨b, 0, none⟩), .int .i64 0]) ∧ Dk w' L b (fresh S) ∧ (∀ k ∈ L, w.heap.size ≤ k) ∧ Below w.heap.size w w'
theorem made_of {w w1 : World} {g cap n : Nat} {S : List ByteArray} (hn : S.length = n) (hown : w1.ownsRow w.heap.size 9 1 (.slice (some ⟨g, 0, none⟩) n cap) n (S.map Value.string)) (hb : Below w.heap.size w w1) :
    Made w S (.returned (.tuple #[.pointer (some ⟨w1.heap.size, 0, none⟩), .int .i64 0])) (w1.alloc (.cells #[.int .i64 0, .int .i64 0, .bool false, .slice (some ⟨g, 0, none⟩) n cap, .slice none 0 0] 59)) := by
  subst hn
  have ha : Below w1.heap.size w1 (w1.alloc (.cells #[.int .i64 0, .int .i64 0, .bool false, .slice (some ⟨g, 0, none⟩) S.length cap, .slice none 0 0] 59)) := (Below.refl _ w1).alloc (Nat.le_refl _) _
  refine ⟨w1.heap.size, foot w1.heap.size g (.slice none 0 0), rfl, ⟨0, g, cap, .slice none 0 0, ⟨heap_alloc_new w1 _, ⟨rfl, by decide, by decide⟩, owns_heap (owns_mono hown (Nat.zero_le _)) (fun k e => ha.block k (owns_lt hown e)), World.ownsRow_nil _ _ _ _⟩, rfl⟩, fun k hk => ?_, hb.trans (ha.mono hb.size)⟩
  rcases mem_foot.1 hk with rfl | rfl | e
  · exact hb.size
  · exact (hown.lt _ rfl).1
  · simp [Value.ownBlock] at e
theorem load_range (a : Option Addr) (len cap : Nat) (w : World) (h : ¬ (2 ≤ (len : Int) ∧ (len : Int) ≤ 512)) :
    Calls Try.prog 21 #[.slice a len cap] w fun e w' => e = .returned (.tuple #[.pointer none, .int .i64 11]) ∧ w = w' := by
  have hs := sized_any (len : Int) w
  rw [decide_eq_false h] at hs
  have HS := Lib.hid hs
  clear hs h
  go_enter Try.func21, Try.ntmps21
  go_wp2_with fail
  refine HS.out.mono ?_
  rintro e w' ⟨rfl, rfl⟩
  go_wp2_with fail
  go_ret2
  exact ⟨rfl, rfl⟩
theorem load_bad (b off len cap m : Nat) (ss : List ByteArray) (w : World) (h1 : 2 ≤ len) (h2 : len ≤ 512) (hl : ss.length = len) (hc : ∀ i, i < len → w.cell? ⟨b, off + i, none⟩ = some (.string (ss.getD i ByteArray.empty)))
    (hm : m < len) (hbad : (ss.getD m ByteArray.empty).size ≠ 128) (hg : ∀ i, i < m → (ss.getD i ByteArray.empty).size = 128) :
    Calls Try.prog 21 #[.slice (some ⟨b, off, none⟩) len cap] w fun e w' => e = .returned (.tuple #[.pointer none, .int .i64 9]) ∧ w = w' := by
  have hs := sized_any (len : Int) w
  rw [decide_eq_true (by omega)] at hs
  have HS := Lib.hid hs; have HC := Lib.hid hc; have HBAD := Lib.hid hbad; have HG := Lib.hid hg
  clear hs hc hbad hg
  go_enter Try.func21, Try.ntmps21
  go_wp2_with fail
  refine HS.out.mono ?_
  rintro e w' ⟨rfl, rfl⟩
  go_wp2_with fail
  go_loop [12] (fun i => ∃ j : Nat, j ≤ m ∧ i = .int .i64 (j : Int)) (fun i => len - (intOf i).toNat)
  case atStart => exact ⟨0, Nat.zero_le _, rfl⟩
  case round =>
    obtain ⟨j, hj, rfl⟩ := hrel
    have hlt : j < len := by omega
    have d0 := HC.out j hlt
    by_cases hjm : j < m
    · have hs := HG.out j hjm
      obtain ⟨s, hse⟩ : ∃ s, ss.getD j ByteArray.empty = s := ⟨_, rfl⟩
      rw [hse] at d0 hs
      have hs2 : ((s.size : Int) != 128) = false := by rw [hs]; rfl
      clear hs hse
      go_wp2_with fail
      go_round
      case rel => exact ⟨j + 1, by omega, by go_num⟩
      case measure => simp [intOf]; omega
    · obtain rfl : j = m := by omega
      have hs := HBAD.out
      obtain ⟨s, hse⟩ : ∃ s, ss.getD j ByteArray.empty = s := ⟨_, rfl⟩
      rw [hse] at d0 hs
      have hs2 : ((s.size : Int) != 128) = true := by rw [bne_iff_ne]; omega
      clear hs hse
      go_wp2_with fail
      go_ret2
      exact ⟨rfl, rfl⟩
theorem load_yes (b off len cap : Nat) (ss : List ByteArray) (w : World) (h1 : 2 ≤ len) (h2 : len ≤ 512) (hl : ss.length = len) (hc : ∀ i, i < len → w.cell? ⟨b, off + i, none⟩ = some (.string (ss.getD i ByteArray.empty)))
    (hg : ∀ i, i < len → (ss.getD i ByteArray.empty).size = 128) :
    Calls Try.prog 21 #[.slice (some ⟨b, off, none⟩) len cap] w (Made w ss) := by
  have hs := sized_any (len : Int) w
  rw [decide_eq_true (by omega)] at hs
  have hcl := clone_any b off len cap ss w hl hc (by omega) (by omega)
  have HS := Lib.hid hs; have HC := Lib.hid hc; have HG := Lib.hid hg; have HCL := Lib.hid hcl; have HL := Lib.hid hl
  clear hs hc hg hcl hl
  go_enter Try.func21, Try.ntmps21
  go_wp2_with fail
  refine HS.out.mono ?_
  rintro e w' ⟨rfl, rfl⟩
  go_wp2_with fail
  go_loop [12] (fun i => ∃ j : Nat, j ≤ len ∧ i = .int .i64 (j : Int)) (fun i => len - (intOf i).toNat)
  case atStart => exact ⟨0, Nat.zero_le _, rfl⟩
  case round =>
    obtain ⟨j, hj, rfl⟩ := hrel
    by_cases hlt : j < len
    · have d0 := HC.out j hlt
      have hs := HG.out j hlt
      obtain ⟨s, hse⟩ : ∃ s, ss.getD j ByteArray.empty = s := ⟨_, rfl⟩
      rw [hse] at d0 hs
      have hs2 : ((s.size : Int) != 128) = false := by rw [hs]; rfl
      clear hs hse
      go_wp2_with fail
      go_round
      case rel => exact ⟨j + 1, by omega, by go_num⟩
      case measure => simp [intOf]; omega
    · obtain rfl : j = len := by omega
      go_wp2_with fail
      refine HCL.out.mono ?_
      rintro e w1 ⟨g3, cap3, rfl, hown, hb⟩
      have HMD := Lib.hid (made_of HL.out hown hb)
      clear hown hb
      go_wp2_with fail
      go_ret2
      exact HMD.out
end Go.Proofs.Ytanpaappecakoaa
