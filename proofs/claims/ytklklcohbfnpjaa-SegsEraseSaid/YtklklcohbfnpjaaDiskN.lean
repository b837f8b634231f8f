/-
  The contracts of slices.Clone and slices.Repeat at strings, strings.Repeat's blank sector, New, Load, Sectors: any numbers, any texts.
-/
import Derived.Test.YtklklcohbfnpjaaDiskM
import Derived.Test.YtklklcohbfnpjaaShelf
import Derived.Laws.CopyOwn
set_option linter.unusedVariables false
set_option maxRecDepth 4000
namespace Go.Proofs.Ytklklcohbfnpjaa
open Go.RowKit DiskP

/-- A slice of strings told of its first cells. -/
def StrsAt (w : World) (a : Option Addr) (len : Nat) (ss : List ByteArray) : Prop :=
  ss.length = len ∧ len ≤ 9223372036854775807 ∧ (len = 0 ∨ ∃ b off, a = some ⟨b, off, none⟩ ∧ b < w.heap.size ∧ ∀ i, i < len → w.cell? ⟨b, off + i, none⟩ = some (.string (ss.getD i ByteArray.empty)))
theorem map_get {S : List ByteArray} {j : Nat} {u : Value} (h : (S.map Value.string)[j]? = some u) : j < S.length ∧ u = .string (S.getD j ByteArray.empty) := by
  have hj : j < S.length := by have := (List.getElem?_eq_some_iff.1 h).1; simpa using this
  refine ⟨hj, ?_⟩
  simp [hj] at h
  simp [List.getD, hj, h]
theorem clone_any (b off n cap : Nat) (S : List ByteArray) (w : World) (hl : S.length = n) (hc : ∀ i, i < n → w.cell? ⟨b, off + i, none⟩ = some (.string (S.getD i ByteArray.empty))) (hn1 : 1 ≤ n) (hn : n ≤ 1000000) :
    Calls Try.prog 52 #[.slice (some ⟨b, off, none⟩) n cap] w (Fresh w n S) := by
  have hl2 : (S.map Value.string).length = n * 1 := by simpa using hl
  have hc2 : ∀ j u, (S.map Value.string)[j]? = some u → (w.alloc (.cells #[] 9)).cell? ((⟨b, off, none⟩ : Addr).add j) = some u := fun j u hu => by
    obtain ⟨hj, rfl⟩ := map_get hu
    rw [Addr.add_lit]
    exact Lib.cell?_alloc_some _ (hc j (by omega))
  have h1 : ∀ u ∈ S.map Value.string, u.oneCell' = true := fun u hu => by obtain ⟨x, _, rfl⟩ := List.mem_map.1 hu; rfl
  obtain ⟨xs, hx⟩ : ∃ xs, S.map Value.string = xs := ⟨_, rfl⟩
  unfold Fresh
  rw [hx] at hl2 hc2 h1 ⊢
  obtain ⟨i0, hi, hz0, hz1, hz2⟩ := info_parts info_string
  have HI := Lib.hid hi; have HZ0 := Lib.hid hz0; have HZ1 := Lib.hid hz1; have HZ2 := Lib.hid hz2
  have HC := Lib.hid hc2; have HL := Lib.hid hl2; have H1 := Lib.hid h1
  have hq : ∀ (w : World), (binOp .eql 48 (.slice (some ⟨b, off, none⟩) n cap) (.slice none 0 0)).run Try.prog w = .ok (.bool false) w := fun w => Lib.run_eql_slice_nil w _ _ (some ⟨b, off, none⟩) n cap 0 0 Try.underlying48
  clear hi hz0 hz1 hz2 hc2 hl2 h1 hc hl hx
  go_enter Try.func52, Try.ntmps52
  go_wp2_with (at_builtin; refine wpList_append_own _ rfl _ _ 48 rfl w.heap.size 9 i0 _ 1 16 Try.underlying48 HI.out HZ0.out HZ1.out HZ2.out rfl (by decide) _ _ _ rfl (World.ownsRow_made w #[] 0 (Nat.le_refl _) (Nat.zero_le _) rfl) ⟨b, off, none⟩ n cap xs rfl HL.out HC.out H1.out ?c3 ?c4 ?c5 ?_)
  case c3 => unfold maxLen; omega
  case c4 => omega
  case c5 => simp
  intro v' w1 hown hgrow _
  obtain ⟨m, rfl⟩ : ∃ m, n = m + 1 := ⟨n - 1, by omega⟩
  have hown2 : w1.ownsRow w.heap.size 9 1 v' (m + 1) xs := by simpa using hown
  obtain ⟨g', cap', rfl⟩ := owns_succ hown2
  have HO := Lib.hid hown2
  have HB := Lib.hid (((Below.refl _ w).alloc (Nat.le_refl _) _).grown hgrow (by simp) (by intro k hk; simp [Value.ownBlock] at hk; omega))
  clear hown hown2 hgrow
  go_wp2
  go_ret
  exact ⟨g', cap', rfl, HO.out, HB.out⟩
theorem sectors_no (p : Option Addr) (w : World) (h : NoDisk w p) : Calls Try.prog 29 #[.pointer p] w fun e w' => e = .returned (.slice none 0 0) ∧ w = w' := by
  go_enter Try.func29, Try.ntmps29
  go_wp2_with fail
  refine (made_no p w h).mono ?_
  rintro e w' ⟨rfl, rfl⟩
  go_wp2_with fail
  go_ret
  exact ⟨rfl, rfl⟩
theorem sectors_dk (b n : Nat) (st : St) (L : List Nat) (w : World) (h : Dk w L b st) (hok : Ok n st) :
    Calls Try.prog 29 #[.pointer (some ⟨b, 0, none⟩)] w (Fresh w st.S.length st.S) := by
  have hm := made_dk b st L w h
  obtain ⟨z, g, cap, wv, h, rfl⟩ := h
  have c3 : w.cell? ⟨b, 3, none⟩ = some (.slice (some ⟨g, 0, none⟩) st.S.length cap) := cell_of_heap h.blk
  have hcl := clone_any g 0 st.S.length cap st.S w rfl (fun i hi => by rw [Nat.zero_add]; exact (sec_at h.sec hi).1) (by have := hok.lo; omega) (by have := hok.hi; omega)
  have HM := Lib.hid hm; have HC := Lib.hid hcl
  clear h hm hok hcl
  go_enter Try.func29, Try.ntmps29
  go_wp2_with fail
  refine HM.out.mono ?_
  rintro e w' ⟨rfl, rfl⟩
  go_wp2_with fail
  refine HC.out.mono ?_
  rintro e w1 ⟨g3, cap3, rfl, hown, hb⟩
  have HO := Lib.hid hown; have HB := Lib.hid hb
  clear hown hb c3
  go_wp2_with fail
  go_ret
  exact ⟨g3, cap3, rfl, HO.out, HB.out⟩
/-- A new disk, in new memory. -/
def Made (w : World) (S : List ByteArray) (e : Ending) (w' : World) : Prop :=
  ∃ b L, e = .returned (.tuple #[.pointer (some ⟨b, 0, none⟩), .int .i64 0]) ∧ Dk w' L b (fresh S) ∧ (∀ k ∈ L, w.heap.size ≤ k) ∧ Below w.heap.size w w'
theorem made_of {w w1 : World} {g cap n : Nat} {S : List ByteArray} (hn : S.length = n) (hown : w1.ownsRow w.heap.size 9 1 (.slice (some ⟨g, 0, none⟩) n cap) n (S.map Value.string)) (hb : Below w.heap.size w w1) :
    Made w S (.returned (.tuple #[.pointer (some ⟨w1.heap.size, 0, none⟩), .int .i64 0])) (w1.alloc (.cells #[.int .i64 0, .int .i64 0, .bool false, .slice (some ⟨g, 0, none⟩) n cap, .slice none 0 0] 72)) := by
  subst hn
  have ha : Below w1.heap.size w1 (w1.alloc (.cells #[.int .i64 0, .int .i64 0, .bool false, .slice (some ⟨g, 0, none⟩) S.length cap, .slice none 0 0] 72)) := (Below.refl _ w1).alloc (Nat.le_refl _) _
  refine ⟨w1.heap.size, foot w1.heap.size g (.slice none 0 0), rfl, ⟨0, g, cap, .slice none 0 0, ⟨heap_alloc_new w1 _, ⟨rfl, by decide, by decide⟩, owns_heap (owns_mono hown (Nat.zero_le _)) (fun k e => ha.block k (owns_lt hown e)), World.ownsRow_nil _ _ _ _⟩, rfl⟩, fun k hk => ?_, hb.trans (ha.mono hb.size)⟩
  rcases mem_foot.1 hk with rfl | rfl | e
  · exact hb.size
  · exact (hown.lt _ rfl).1
  · simp [Value.ownBlock] at e
end Go.Proofs.Ytklklcohbfnpjaa
