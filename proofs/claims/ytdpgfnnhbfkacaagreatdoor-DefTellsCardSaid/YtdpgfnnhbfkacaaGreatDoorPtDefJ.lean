/-
  The contracts of the program's takeStep, bad and Take: any reader; nothing else is turned.
-/
import Derived.Test.YtdpgfnnhbfkacaaGreatDoorPtDefPlain
import Derived.Test.YtdpgfnnhbfkacaaGreatDoorPtShelf
import Derived.Test.YtdpgfnnhbfkacaaGreatDoorPtStepG
import Derived.Test.YtdpgfnnhbfkacaaGreatDoorPtDefG
import Derived.Test.YtdpgfnnhbfkacaaGreatDoorPtWireK
import Derived.StillTail
import Derived.StillTactics
import Derived.Shelf.Strings.BuilderK
set_option linter.unusedVariables false
set_option linter.unusedSimpArgs false
set_option maxRecDepth 4000
namespace Go.Proofs.YtdpgfnnhbfkacaaGreatDoor.Def
open Go.RowKit DefP
open WireP (rdInt rdText rdList lenOk enc text ok num nl left done)
open Wire (RdAt RqAt RdStep)
open Go.Proofs.YtdpgfnnhbfkacaaGreatDoor.Kt
theorem grown_below {w w' : World} (h : Below w.heap.size w w') (row : Option Nat) : w.grownBy w' row := ⟨h.os, h.tape, h.output, h.size, fun i hi _ => h.block i hi⟩
theorem grown_trans {a b c : World} {r : Nat} (h : a.grownBy b (some r)) (k : b.grownBy c (some r)) : a.grownBy c (some r) := h.andThen k (fun j e => .inr e)
theorem grown_blk {w w' : World} {b d : Nat} {o : Obj} (h : w.grownBy w' (some b)) (hd : w.heap[d]? = some o) (hne : d ≠ b) : w'.heap[d]? = some o :=
  (h.block d (heap_lt hd) (fun e => by cases e; exact hne rfl)).trans hd
structure TS (w W : World) (b d base : Nat) (n : ByteArray) (v : Value) : Prop where
  g : w.grownBy W (some b)
  res : At2 24 W w.heap.size (.string ⟨#[]⟩) (.slice none 0 0)
  box : At2 24 W d (.string n) v
  blt : b < w.heap.size
  dlt : w.heap.size < d
  dhb : d < base
  siz : base ≤ W.heap.size
theorem TS.grow {w W W' : World} {b d base : Nat} {n : ByteArray} {v : Value} (r : TS w W b d base n v) (hg : W.grownBy W' (some b)) : TS w W' b d base n v :=
  have h1 := r.blt
  have h2 := r.dlt
  ⟨grown_trans r.g hg, grown_blk hg r.res (by omega), grown_blk hg r.box (by omega), r.blt, r.dlt, r.dhb, Nat.le_trans r.siz hg.size⟩
theorem TS.keep {w W W' : World} {b d base : Nat} {n : ByteArray} {v : Value} (r : TS w W b d base n v) (hb : Below W.heap.size W W') : TS w W' b d base n v := r.grow (grown_below hb (some b))
theorem TS.base {w W : World} {b d base base' : Nat} {n : ByteArray} {v : Value} (r : TS w W b d base n v) (h : base ≤ base') (h2 : base' ≤ W.heap.size) : TS w W b d base' n v :=
  ⟨r.g, r.res, r.box, r.blt, r.dlt, Nat.lt_of_lt_of_le r.dhb h, h2⟩

end Go.Proofs.YtdpgfnnhbfkacaaGreatDoor.Def

/-
  The contracts of both Puts: any definition of up to 1000 steps; what was there stays as it was.
-/
set_option linter.unusedVariables false
set_option linter.unusedSimpArgs false
set_option maxRecDepth 4000
namespace Go.Proofs.YtdpgfnnhbfkacaaGreatDoor.Def
open Go.RowKit DefP
open WireP (enc encs text)
open Wire (IntsAt)
open Go.Proofs.YtdpgfnnhbfkacaaGreatDoor.Kt
theorem lays166 : Go.Proofs.Lays.n166 Tryz.prog Tryz.lays156_ren := { Tryz.lays156 with }
theorem lays169 : Go.Proofs.Lays.n169 Tryz.prog Tryz.lays156_ren := { Tryz.lays156 with }
def Bd (w : World) (B b : Nat) (l : List UInt8) : Prop := Lib.IsBuilderF 65 5 B b (Lib.byteCells l) w
theorem Bd.lt {w : World} {B b : Nat} {l : List UInt8} (h : Bd w B b l) : b < w.heap.size := by
  rcases h with ⟨h1, v, h2, h3, h4⟩ | ⟨h1, v, h2, h3, h4⟩
  · exact (Array.getElem?_eq_some_iff.1 h2).1
  · exact (Array.getElem?_eq_some_iff.1 h2).1
theorem ownsF_below {w w' : World} {B n size : Nat} {e : TypeId} {v : Value} {xs : List Value} (h : w.ownsRowF B e size v n xs) (hb : Below w.heap.size w w') : w'.ownsRowF B e size v n xs := by
  refine ⟨h.1, ?_⟩
  rcases h.2 with hn | ⟨g, cap, cur, fz, hv, hbg, hg, rest⟩
  · exact .inl hn
  · exact .inr ⟨g, cap, cur, fz, hv, hbg, (hb.block g (Array.getElem?_eq_some_iff.1 hg).1).trans hg, rest⟩
theorem Bd.keep {w w' : World} {B b : Nat} {l : List UInt8} (h : Bd w B b l) (hb : Below w.heap.size w w') : Bd w' B b l := by
  have hlt := h.lt
  rcases h with ⟨h1, v, h2, h3, h4⟩ | ⟨h1, v, h2, h3, h4⟩
  · exact .inl ⟨h1, v, (hb.block b hlt).trans h2, ownsF_below h3 hb, h4⟩
  · exact .inr ⟨h1, v, (hb.block b hlt).trans h2, ownsF_below h3 hb, h4⟩
theorem write_any (B b : Nat) (l : List UInt8) (s : ByteArray) (w : World) (h : Bd w B b l) (hl : l.length + s.size ≤ 1000000) (hB : B ≤ w.heap.size) :
    Calls Tryz.prog 58 #[.pointer (some ⟨b, 0, none⟩), .string s] w fun e w' => e = .returned (.tuple #[.int .i64 s.size, .nilIface]) ∧ Bd w' B b (l ++ s.data.toList) ∧ Below B w w' ∧ Lib.OthersKept 5 (some b) w w' := by
  refine (Any.Builder_WriteString_k lays166 Tryz.Builder_Extra_156 B b (Lib.byteCells l) s w h (by rw [Lib.byteCells_length]; omega) hB).mono ?_
  rintro e w' ⟨he, hb, hw, ho⟩
  refine ⟨he, .inr ?_, hw, ho⟩
  rw [Lib.byteCells_append]
  exact hb
theorem string_any (B b : Nat) (l : List UInt8) (w : World) (h : Bd w B b l) (hB : B ≤ w.heap.size) :
    Calls Tryz.prog 62 #[.pointer (some ⟨b, 0, none⟩)] w fun e w' => e = .returned (.string (Step.bs l)) ∧ Below B w w' :=
  (Any.Builder_String_any_k lays169 Tryz.Builder_Extra_156 B b l w h hB).mono fun e w' ⟨he, _, hw, _⟩ => ⟨he, hw⟩

theorem fresh_bd (w : World) : Bd (w.alloc (.cells #[.pointer none, .slice none 0 0] 65)) w.heap.size w.heap.size [] := Lib.IsBuilderF.of (Lib.fresh_isBuilder _ _ w)

theorem text_len (l : List UInt8) (h : l.length ≤ 1000) : (text l).length ≤ 9 + l.length := by
  unfold WireP.text
  rw [List.length_append]
  have := WireP.enc_len (n := ((l.length : Nat) : Int)) (by omega) (by omega)
  omega
theorem pk_len (d : Df) (hs : d.name.data.toList.length ≤ 1000) (hn : d.steps.length ≤ 1000) (h : ∀ x ∈ d.steps, S64 x) (k : Nat) : (pk d k).length ≤ 1018 + 54 * k := by
  unfold pk
  rw [List.length_append, List.length_append]
  have h1 := text_len d.name.data.toList hs
  have h2 := WireP.enc_len (n := ((d.steps.length : Nat) : Int)) (by omega) (by omega)
  have h3 := ones_len (l := d.steps.take k) (fun x hx => h x (List.mem_of_mem_take hx))
  rw [List.length_take] at h3
  have h4 : 54 * min k d.steps.length ≤ 54 * k := Nat.mul_le_mul_left 54 (Nat.min_le_left _ _)
  omega
theorem six_at {W : World} {k : Nat} {x0 x1 x2 x3 x4 x5 : Int} (h : S64 ⟨x0, x1, x2, x3, x4, x5⟩) (hc : At6 3 W k (.int .i64 x0) (.int .i64 x1) (.int .i64 x2) (.int .i64 x3) (.int .i64 x4) (.int .i64 x5)) : IntsAt W (some ⟨k, 0, none⟩) 6 (six ⟨x0, x1, x2, x3, x4, x5⟩) := by
  refine ⟨rfl, ?_, .inr ⟨k, 0, rfl, heap_lt hc, fun i hi => ?_⟩⟩
  · intro x hx
    unfold six at hx
    simp only [List.mem_cons, List.mem_nil_iff, or_false] at hx
    rcases hx with rfl | rfl | rfl | rfl | rfl | rfl
    · exact h.op
    · exact h.cls
    · exact h.tries
    · exact h.base
    · exact h.cap
    · exact h.wait
  · rw [Nat.zero_add, cell_of_heap hc]
    match i, hi with
    | 0, _ => rfl
    | 1, _ => rfl
    | 2, _ => rfl
    | 3, _ => rfl
    | 4, _ => rfl
    | 5, _ => rfl
theorem ints_six (k : Nat) (x0 x1 x2 x3 x4 x5 : Int) (z : ByteArray) (hz : one ⟨x0, x1, x2, x3, x4, x5⟩ = z.data.toList) (h : S64 ⟨x0, x1, x2, x3, x4, x5⟩) (W : World) (hc : At6 3 W k (.int .i64 x0) (.int .i64 x1) (.int .i64 x2) (.int .i64 x3) (.int .i64 x4) (.int .i64 x5)) :
    Calls Tryz.prog 61 #[.slice (some ⟨k, 0, none⟩) 6 6] W fun e w' => e = .returned (.string z) ∧ Below W.heap.size W w' := by
  have h2 := Wire.ints_any (some ⟨k, 0, none⟩) 6 6 _ W (six_at h hc) (by omega)
  rw [show encs (six ⟨x0, x1, x2, x3, x4, x5⟩) = z.data.toList from hz, show (⟨z.data.toList.toArray⟩ : ByteArray) = z from Step.bs_data z] at h2
  exact h2
theorem rints_six (k : Nat) (x0 x1 x2 x3 x4 x5 : Int) (z : ByteArray) (hz : one ⟨x0, x1, x2, x3, x4, x5⟩ = z.data.toList) (h : S64 ⟨x0, x1, x2, x3, x4, x5⟩) (W : World) (hc : At6 3 W k (.int .i64 x0) (.int .i64 x1) (.int .i64 x2) (.int .i64 x3) (.int .i64 x4) (.int .i64 x5)) :
    Calls Tryz.prog 65 #[.slice (some ⟨k, 0, none⟩) 6 6] W fun e w' => e = .returned (.string z) ∧ Below W.heap.size W w' := by
  have h2 := Wire.rints_any (some ⟨k, 0, none⟩) 6 6 _ W (six_at h hc) (by omega)
  rw [show encs (six ⟨x0, x1, x2, x3, x4, x5⟩) = z.data.toList from hz, show (⟨z.data.toList.toArray⟩ : ByteArray) = z from Step.bs_data z] at h2
  exact h2
theorem rint_is1 (n : Int) (z : ByteArray) (w : World) (h0 : -9223372036854775808 ≤ n) (h1 : n ≤ 9223372036854775807) (h : enc n = z.data.toList) : Calls Tryz.prog 64 #[.int .i64 n] w fun e w' => e = .returned (.string z) ∧ Below w.heap.size w w' := by
  have h2 := Wire.rint_any n w h0 h1
  rw [h, show (⟨z.data.toList.toArray⟩ : ByteArray) = z from Step.bs_data z] at h2
  exact h2
theorem rtxt_is1 (s z : ByteArray) (w : World) (hs : s.size ≤ 1000) (h : text s.data.toList = z.data.toList) : Calls Tryz.prog 63 #[.string s] w fun e w' => e = .returned (.string z) ∧ Below w.heap.size w w' := by
  have h2 := Wire.rtext_any s w (by omega)
  rw [h, show (⟨z.data.toList.toArray⟩ : ByteArray) = z from Step.bs_data z] at h2
  exact h2

set_option maxHeartbeats 8000000 in
theorem put_is (s : ByteArray) (a : Option Addr) (n c : Nat) (l : List Step) (t : ByteArray) (ht : Step.bs (putD ⟨s, l⟩) = t) (w : World) (h : StAt w a n l) (hs : s.size ≤ 1000) (hn : n ≤ 1000) (hS : ∀ x ∈ l, S64 x) :
    Calls Tryz.prog 16 #[.agg #[.string s, .slice a n c]] w fun e w' => e = .returned (.string t) ∧ Below w.heap.size w w' := by
  have hl := h.1
  have hsl : s.data.toList.length ≤ 1000 := by rw [← Step.size_list]; exact hs
  obtain ⟨z0, hz0⟩ : ∃ z0 : ByteArray, text s.data.toList = z0.data.toList := ⟨Step.bs (text s.data.toList), (Step.data_bs _).symm⟩
  obtain ⟨z1, hz1⟩ : ∃ z1 : ByteArray, enc ((n : Nat) : Int) = z1.data.toList := ⟨Step.bs (enc ((n : Nat) : Int)), (Step.data_bs _).symm⟩
  have hz0s : z0.size ≤ 1009 := by rw [Step.size_list, ← hz0]; have := text_len s.data.toList hsl; omega
  have hz1s : z1.size ≤ 9 := by rw [Step.size_list, ← hz1]; exact WireP.enc_len (by omega) (by omega)
  have HP0 : Hid (pk ⟨s, l⟩ 0 = z0.data.toList ++ z1.data.toList) := by show _ = _; rw [pk_zero]; show text s.data.toList ++ enc ((l.length : Nat) : Int) = _; rw [hl, hz0, hz1]
  have HPL := Lib.hid (fun k => pk_len ⟨s, l⟩ hsl (by show l.length ≤ 1000; omega) hS k)
  have HX := Lib.hid h
  have HSS := Lib.hid hS
  have HB0 := Lib.hid (bx2_new 24 w (.string s) (.slice a n c))
  have HD : Hid (Step.bs (pk ⟨s, l⟩ n) = t) := by show _ = t; rw [← ht, putD_pk]; show _ = Step.bs (pk ⟨s, l⟩ l.length); rw [hl]
  have CT := Lib.hid (fun W => Wire.text_is s z0 W (by omega) hz0)
  have CI := Lib.hid (fun W => Wire.int_is (n : Int) z1 W (by omega) (by omega) hz1)
  have hbx := HB0.out.box.alloc (.cells #[.pointer none, .slice none 0 0] 65)
  have hbd := fresh_bd (w.alloc (.cells #[.string s, .slice a n c] 24))
  rw [World.size_alloc] at hbd
  have hb1 := (HB0.out.alloc (.cells #[.pointer none, .slice none 0 0] 65)).bel
  obtain ⟨u0, u1⟩ := cells2 hbx
  obtain ⟨w1, hw1⟩ : ∃ w1, (w.alloc (.cells #[.string s, .slice a n c] 24)).alloc (.cells #[.pointer none, .slice none 0 0] 65) = w1 := ⟨_, rfl⟩
  obtain ⟨g, hg⟩ : ∃ g, w.heap.size + 1 = g := ⟨_, rfl⟩
  rw [hw1, hg] at hbd
  rw [hw1] at hbx hb1
  have HW := Lib.hid hw1
  have HG := Lib.hid hg
  have HBD := Lib.hid hbd; have HBX := Lib.hid hbx; have HB1 := Lib.hid hb1
  have hwg : w.heap.size < g := by omega
  clear ht hl h hS hz0 hz1 hbx hbd hb1 hw1 hg hsl
  go_enter Tryz.func16, Tryz.ntmps16
  go_wp2_with fail
  rw [show (w.alloc (.cells #[.string s, .slice a n c] 24)).alloc (.cells #[.pointer none, .slice none 0 0] 65) = w1 from HW.out]
  rw [show w.heap.size + 1 = g from HG.out]
  clear u0 u1
  refine (CT.out w1).mono ?_
  rintro e w2 ⟨rfl, hb⟩
  have HBD2 := Lib.hid (HBD.out.keep hb); have HBX2 := Lib.hid (HBX.out.keep hb); have HB2 := Lib.hid (below_keep HB1.out hb HB1.out.size)
  clear hb HBD HBX
  have hg2 : g ≤ w2.heap.size := Nat.le_of_lt HBD2.out.lt
  go_wp2_with fail
  refine (write_any g g [] z0 w2 HBD2.out (by simp; omega) hg2).mono ?_
  rintro e w3 ⟨rfl, hbd3, hb3, _⟩
  have HBD3 := Lib.hid hbd3; have HBX3 := Lib.hid (HBX2.out.keepB hb3 hwg); have HB3 := Lib.hid (HB2.out.trans (hb3.mono (Nat.le_of_lt hwg)))
  clear hbd3 hb3 HBD2 HBX2 HB2 hg2
  obtain ⟨u0, u1⟩ := cells2 HBX3.out
  go_wp2_with fail
  refine (CI.out w3).mono ?_
  rintro e w4 ⟨rfl, hb⟩
  have HBD4 := Lib.hid (HBD3.out.keep hb); have HBX4 := Lib.hid (HBX3.out.keep hb); have HB4 := Lib.hid (below_keep HB3.out hb HB3.out.size)
  clear hb HBD3 HBX3 HB3 u0 u1
  have hg4 : g ≤ w4.heap.size := Nat.le_of_lt HBD4.out.lt
  go_wp2_with fail
  refine (write_any g g ([] ++ z0.data.toList) z1 w4 HBD4.out (by rw [List.nil_append, ← Step.size_list]; omega) hg4).mono ?_
  rintro e w5 ⟨rfl, hbd5, hb5, _⟩
  have HBD5 : Hid (Bd w5 g g (pk ⟨s, l⟩ 0)) := by show Bd _ _ _ _; rw [HP0.out]; exact hbd5
  have HBX5 := Lib.hid (HBX4.out.keepB hb5 hwg); have HB5 := Lib.hid (HB4.out.trans (hb5.mono (Nat.le_of_lt hwg)))
  clear hbd5 hb5 HBD4 HBX4 HB4 hg4 HP0 CT CI
  obtain ⟨u0, u1⟩ := cells2 HBX5.out
  go_wp2_with fail
  clear u0 u1
  go_loopw [18] (fun i wr => ∃ k : Nat, k ≤ n ∧ i = .int .i64 (k : Int) ∧ Hid (Bd wr g g (pk ⟨s, l⟩ k)) ∧ Hid (Below w.heap.size w wr)) (fun i _ => n - (intOf i).toNat)
  case atStart => exact ⟨0, Nat.zero_le _, rfl, HBD5, HB5⟩
  case round =>
    obtain ⟨k, hk, rfl, hD, hB⟩ := hrel
    by_cases hlk : k < n
    · obtain ⟨b1, o1, x0, x1, x2, x3, x4, x5, rfl, g1, hp, hc1⟩ := StAt.at HX.out hlk
      obtain ⟨d0, d1, d2, d3, d4, d5⟩ := hc1 wr hB.out
      have hsx := HSS.out _ (List.mem_of_getElem? hp)
      obtain ⟨z2, hz2⟩ : ∃ z2 : ByteArray, one ⟨x0, x1, x2, x3, x4, x5⟩ = z2.data.toList := ⟨Step.bs (one ⟨x0, x1, x2, x3, x4, x5⟩), (Step.data_bs _).symm⟩
      have hz2s : z2.size ≤ 54 := by rw [Step.size_list, ← hz2]; exact one_len hsx
      have HST : Hid (pk ⟨s, l⟩ (k + 1) = pk ⟨s, l⟩ k ++ z2.data.toList) := by show _ = _; rw [pk_step (d := ⟨s, l⟩) hp, hz2]
      have hy := at6_new 49 wr (.int .i64 x0) (.int .i64 x1) (.int .i64 x2) (.int .i64 x3) (.int .i64 x4) (.int .i64 x5)
      obtain ⟨y0, y1, y2, y3, y4, y5⟩ := cells6 hy
      have hq := at6_new 3 (wr.alloc (.cells #[.int .i64 x0, .int .i64 x1, .int .i64 x2, .int .i64 x3, .int .i64 x4, .int .i64 x5] 49)) (.int .i64 x0) (.int .i64 x1) (.int .i64 x2) (.int .i64 x3) (.int .i64 x4) (.int .i64 x5)
      rw [World.size_alloc] at hq
      have CS := Lib.hid (ints_six (wr.heap.size + 1) x0 x1 x2 x3 x4 x5 z2 hz2 hsx _ hq)
      have hb2 := ((Below.refl wr.heap.size wr).alloc (Nat.le_refl _) (.cells #[.int .i64 x0, .int .i64 x1, .int .i64 x2, .int .i64 x3, .int .i64 x4, .int .i64 x5] 49)).alloc (by rw [World.size_alloc]; omega) (.cells #[.int .i64 x0, .int .i64 x1, .int .i64 x2, .int .i64 x3, .int .i64 x4, .int .i64 x5] 3)
      have HD2 := Lib.hid (hD.out.keep hb2)
      have HBB2 := Lib.hid (below_keep hB.out hb2 hB.out.size)
      have hpl := HPL.out k
      clear hp hc1 hsx hz2 hy hq hb2 hD hB
      go_wp2_with fail
      refine CS.out.mono ?_
      rintro e w7 ⟨rfl, hb⟩
      have HD7 := Lib.hid (HD2.out.keep hb)
      have HB7 := Lib.hid (below_keep HBB2.out hb HBB2.out.size)
      clear hb HD2 HBB2 CS d0 d1 d2 d3 d4 d5 y0 y1 y2 y3 y4 y5
      have hg7 : g ≤ w7.heap.size := Nat.le_of_lt HD7.out.lt
      go_wp2_with fail
      refine (write_any g g (pk ⟨s, l⟩ k) z2 w7 HD7.out (by omega) hg7).mono ?_
      rintro e w8 ⟨rfl, hbd8, hb8, _⟩
      have HD8 : Hid (Bd w8 g g (pk ⟨s, l⟩ (k + 1))) := by show Bd _ _ _ _; rw [HST.out]; exact hbd8
      have HB8 := Lib.hid (HB7.out.trans (hb8.mono (Nat.le_of_lt hwg)))
      clear hbd8 hb8 HD7 HB7 hg7
      go_wp2_with fail
      go_roundw
      case rel => exact ⟨k + 1, by omega, by go_num, HD8, HB8⟩
      case measure => simp [intOf]; omega
    · obtain rfl : k = n := by omega
      have CE := Lib.hid (string_any g g (pk ⟨s, l⟩ k) wr hD.out (Nat.le_of_lt hD.out.lt))
      go_wp2_with fail
      refine CE.out.mono ?_
      rintro e w7 ⟨rfl, hb⟩
      have HB7 := Lib.hid (hB.out.trans (hb.mono (Nat.le_of_lt hwg)))
      clear hb
      go_wp2_with fail
      go_ret
      exact ⟨Step.ret_str HD.out, HB7.out⟩

set_option maxHeartbeats 8000000 in
theorem rput_is (s : ByteArray) (a : Option Addr) (n c : Nat) (l : List Step) (t : ByteArray) (ht : Step.bs (putD ⟨s, l⟩) = t) (w : World) (h : StAt w a n l) (hs : s.size ≤ 1000) (hn : n ≤ 1000) (hS : ∀ x ∈ l, S64 x) :
    Calls Tryz.prog 17 #[.agg #[.string s, .slice a n c]] w fun e w' => e = .returned (.string t) ∧ Below w.heap.size w w' := by
  have hl := h.1
  have hsl : s.data.toList.length ≤ 1000 := by rw [← Step.size_list]; exact hs
  obtain ⟨z0, hz0⟩ : ∃ z0 : ByteArray, text s.data.toList = z0.data.toList := ⟨Step.bs (text s.data.toList), (Step.data_bs _).symm⟩
  obtain ⟨z1, hz1⟩ : ∃ z1 : ByteArray, enc ((n : Nat) : Int) = z1.data.toList := ⟨Step.bs (enc ((n : Nat) : Int)), (Step.data_bs _).symm⟩
  have hz0s : z0.size ≤ 1009 := by rw [Step.size_list, ← hz0]; have := text_len s.data.toList hsl; omega
  have hz1s : z1.size ≤ 9 := by rw [Step.size_list, ← hz1]; exact WireP.enc_len (by omega) (by omega)
  have HP0 : Hid (pk ⟨s, l⟩ 0 = z0.data.toList ++ z1.data.toList) := by show _ = _; rw [pk_zero]; show text s.data.toList ++ enc ((l.length : Nat) : Int) = _; rw [hl, hz0, hz1]
  have HPL := Lib.hid (fun k => pk_len ⟨s, l⟩ hsl (by show l.length ≤ 1000; omega) hS k)
  have HX := Lib.hid h
  have HSS := Lib.hid hS
  have HB0 := Lib.hid (bx2_new 24 w (.string s) (.slice a n c))
  have HD : Hid (pk ⟨s, l⟩ n = t.data.toList) := by show _ = _; rw [← ht, Step.data_bs, putD_pk]; show _ = pk ⟨s, l⟩ l.length; rw [hl]
  have CT := Lib.hid (fun d os => Calls.regrown_of (rtxt_is1 s z0 (Sort.grow (redrawn (w.alloc (.cells #[.string s, .slice a n c] 24)) d) os) hs hz0))
  have CI := Lib.hid (fun d os => Calls.regrown_of (rint_is1 (n : Int) z1 (Sort.grow (redrawn (w.alloc (.cells #[.string s, .slice a n c] 24)) d) os) (by omega) (by omega) hz1))
  obtain ⟨u0, u1⟩ := cells2 HB0.out.box
  have r0 := fun d os => cell_regrown u0 d os
  have r1 := fun d os => cell_regrown u1 d os
  have nz : ¬ (9223372036854775807 < z0.size + z1.size) := by omega
  have HZ0 : Hid ((z0 ++ z1).data.toList = pk ⟨s, l⟩ 0) := by show _ = _; rw [Step.data_append]; exact HP0.out.symm
  have hzz : (z0 ++ z1).size ≤ 1018 + 54 * 0 := by rw [ByteArray.size_append]; omega
  have HZZ := Lib.hid hzz
  clear ht hl h hS hz0 hz1 hsl HP0 u0 u1 hzz
  go_enter Tryz.func17, Tryz.ntmps17
  go_wp2_with fail
  refine wp_region_qw (by kernel_rfl) (by kernel_rfl) ?_
  iterate 9 (refine qw_take (by kernel_rfl) (fun K hK => ?_); go_simp; first | (refine hK _ ?_; clear hK K) | (apply Exists.intro; refine ⟨fun _ => ?_, hK _ ?_⟩; (first | with_reducible exact CT.out _ _ | with_reducible exact CI.out _ _); clear hK K))
  refine qw_nil ?_
  intro _ hw'
  obtain ⟨⟨dq, osq⟩, hw''⟩ := hw'
  subst hw''
  have HB1 := Lib.hid (HB0.out.keep (below_regrown (w.alloc (.cells #[.string s, .slice a n c] 24)) dq osq))
  clear r0 r1 CT CI nz
  go_wp2_with fail
  go_loopw [3, 4] (fun t i wr => ∃ (k : Nat) (z : ByteArray), k ≤ n ∧ i = .int .i64 (k : Int) ∧ t = .string z ∧ z.size ≤ 1018 + 54 * k ∧ Hid (z.data.toList = pk ⟨s, l⟩ k) ∧ Hid (Bx2 24 w wr (.string s) (.slice a n c))) (fun _ i _ => n - (intOf i).toNat)
  case atStart => exact ⟨0, z0 ++ z1, Nat.zero_le _, rfl, rfl, HZZ.out, HZ0, HB1⟩
  case round =>
    obtain ⟨k, z, hk, rfl, rfl, hz, hD, hB⟩ := hrel
    obtain ⟨q0, q1⟩ := cells2 hB.out.box
    by_cases hlk : k < n
    · obtain ⟨b1, o1, x0, x1, x2, x3, x4, x5, rfl, g1, hp, hc1⟩ := StAt.at HX.out hlk
      obtain ⟨d0, d1, d2, d3, d4, d5⟩ := hc1 wr hB.out.bel
      have hsx := HSS.out _ (List.mem_of_getElem? hp)
      obtain ⟨z2, hz2⟩ : ∃ z2 : ByteArray, one ⟨x0, x1, x2, x3, x4, x5⟩ = z2.data.toList := ⟨Step.bs (one ⟨x0, x1, x2, x3, x4, x5⟩), (Step.data_bs _).symm⟩
      have hz2s : z2.size ≤ 54 := by rw [Step.size_list, ← hz2]; exact one_len hsx
      have HST : Hid ((z ++ z2).data.toList = pk ⟨s, l⟩ (k + 1)) := by show _ = _; rw [pk_step (d := ⟨s, l⟩) hp, Step.data_append, hD.out, hz2]
      have hzz : (z ++ z2).size ≤ 1018 + 54 * (k + 1) := by rw [ByteArray.size_append]; omega
      have HZ2 := Lib.hid hzz
      have nz : ¬ (9223372036854775807 < z.size + z2.size) := by omega
      have hy := at6_new 49 wr (.int .i64 x0) (.int .i64 x1) (.int .i64 x2) (.int .i64 x3) (.int .i64 x4) (.int .i64 x5)
      obtain ⟨y0, y1, y2, y3, y4, y5⟩ := cells6 hy
      have hq := at6_new 3 (wr.alloc (.cells #[.int .i64 x0, .int .i64 x1, .int .i64 x2, .int .i64 x3, .int .i64 x4, .int .i64 x5] 49)) (.int .i64 x0) (.int .i64 x1) (.int .i64 x2) (.int .i64 x3) (.int .i64 x4) (.int .i64 x5)
      rw [World.size_alloc] at hq
      have CS := Lib.hid (rints_six (wr.heap.size + 1) x0 x1 x2 x3 x4 x5 z2 hz2 hsx _ hq)
      have hb2 := ((Below.refl wr.heap.size wr).alloc (Nat.le_refl _) (.cells #[.int .i64 x0, .int .i64 x1, .int .i64 x2, .int .i64 x3, .int .i64 x4, .int .i64 x5] 49)).alloc (by rw [World.size_alloc]; omega) (.cells #[.int .i64 x0, .int .i64 x1, .int .i64 x2, .int .i64 x3, .int .i64 x4, .int .i64 x5] 3)
      have HB2 := Lib.hid (hB.out.keep hb2)
      clear hp hc1 hsx hz2 hy hq hb2 hB hzz hD
      go_wp2_with fail
      refine CS.out.mono ?_
      rintro e w7 ⟨rfl, hb⟩
      have HB7 := Lib.hid (HB2.out.keep hb)
      clear hb HB2 CS d0 d1 d2 d3 d4 d5 y0 y1 y2 y3 y4 y5 q0 q1
      go_wp2_with fail
      go_roundw
      case rel => exact ⟨k + 1, z ++ z2, by omega, by go_num, rfl, HZ2.out, HST, HB7⟩
      case measure => simp [intOf]; omega
    · obtain rfl : k = n := by omega
      have HE : Hid (z = t) := by show _ = _; exact Step.str_eq (hD.out.trans HD.out)
      clear hD HD
      go_wp2_with fail
      go_ret
      exact ⟨Step.ret_str HE.out, hB.out.bel⟩
end Go.Proofs.YtdpgfnnhbfkacaaGreatDoor.Def
