/-
  The contracts of Put (both): up to eight lines; what was there stays as it was.
-/
import Derived.Test.YtpaemofjeadhcaaGreatDoorLinesE
import Derived.Test.YtpaemofjeadhcaaGreatDoorLinesWire
import Derived.Test.YtpaemofjeadhcaaGreatDoorWireK
import Derived.Shelf.Strings.BuilderK
set_option linter.unusedVariables false
set_option maxRecDepth 4000
namespace Go.Proofs.YtpaemofjeadhcaaGreatDoor.Lines
open Go.RowKit LinesP

theorem lays166 : Go.Proofs.Lays.n166 Tryz.prog Tryz.lays156_ren := { Tryz.lays156 with }
theorem lays169 : Go.Proofs.Lays.n169 Tryz.prog Tryz.lays156_ren := { Tryz.lays156 with }
/-- A builder of the call's own that holds these octets. -/
def Bd (w : World) (B b : Nat) (l : List UInt8) : Prop := Lib.IsBuilderF 53 5 B b (Lib.byteCells l) w
theorem Bd.lt {w : World} {B b : Nat} {l : List UInt8} (h : Bd w B b l) : b < w.heap.size := by
  rcases h with ⟨h1, v, h2, h3, h4⟩ | ⟨h1, v, h2, h3, h4⟩
  · exact (Array.getElem?_eq_some_iff.1 h2).1
  · exact (Array.getElem?_eq_some_iff.1 h2).1
theorem ownsF_below {w w' : World} {B n size : Nat} {e : TypeId} {v : Value} {xs : List Value} (h : w.ownsRowF B e size v n xs) (hb : Below w.heap.size w w') : w'.ownsRowF B e size v n xs := by
  refine ⟨h.1, ?_⟩
  rcases h.2 with hn | ⟨g, cap, cur, fz, hv, hbg, hg, rest⟩
  · exact .inl hn
  · exact .inr ⟨g, cap, cur, fz, hv, hbg, (hb.block g (Array.getElem?_eq_some_iff.1 hg).1).trans hg, rest⟩
theorem Bd.keep {w w' : World} {B b : Nat} {l : List UInt8} (h : Bd w B b l) (hb : Below w.heap.size w w') : Bd w' B b l := by
  have hlt := h.lt
  rcases h with ⟨h1, v, h2, h3, h4⟩ | ⟨h1, v, h2, h3, h4⟩
  · exact .inl ⟨h1, v, (hb.block b hlt).trans h2, ownsF_below h3 hb, h4⟩
  · exact .inr ⟨h1, v, (hb.block b hlt).trans h2, ownsF_below h3 hb, h4⟩
theorem write_any (B b : Nat) (l : List UInt8) (s : ByteArray) (w : World) (h : Bd w B b l) (hl : l.length + s.size ≤ 1000000) (hB : B ≤ w.heap.size) :
    Calls Tryz.prog 36 #[.pointer (some ⟨b, 0, none⟩), .string s] w fun e w' => e = .returned (.tuple #[.int .i64 s.size, .nilIface]) ∧ Bd w' B b (l ++ s.data.toList) ∧ Below B w w' ∧ Lib.OthersKept 5 (some b) w w' := by
  refine (Any.Builder_WriteString_k lays166 Tryz.Builder_Extra_156 B b (Lib.byteCells l) s w h (by rw [Lib.byteCells_length]; omega) hB).mono ?_
  rintro e w' ⟨he, hb, hw, ho⟩
  refine ⟨he, .inr ?_, hw, ho⟩
  rw [Lib.byteCells_append]
  exact hb
theorem string_any (B b : Nat) (l : List UInt8) (w : World) (h : Bd w B b l) (hB : B ≤ w.heap.size) :
    Calls Tryz.prog 39 #[.pointer (some ⟨b, 0, none⟩)] w fun e w' => e = .returned (.string (bs l)) ∧ Below B w w' :=
  (Any.Builder_String_any_k lays169 Tryz.Builder_Extra_156 B b l w h hB).mono fun e w' ⟨he, _, hw, _⟩ => ⟨he, hw⟩
/-- A line in a block of its own stays where it is. -/
theorem line_kept {w w' : World} {b k : Nat} {s : ByteArray} {n : Int} (h : Lib.OthersKept 5 (some b) w w') (hk : w.heap[k]? = some (.cells #[.string s, .int .i64 n] 44 (0, 0))) (hne : k ≠ b) : w'.heap[k]? = some (.cells #[.string s, .int .i64 n] 44 (0, 0)) :=
  h k _ hk (by simpa using hne) (by intro c fz e; simp at e)
theorem fresh_bd (w : World) : Bd (w.alloc (.cells #[.pointer none, .slice none 0 0] 53)) w.heap.size w.heap.size [] := Lib.IsBuilderF.of (Lib.fresh_isBuilder _ _ w)
theorem rint_is (n : Int) (z : ByteArray) (w : World) (h0 : -9223372036854775808 ≤ n) (h1 : n ≤ 9223372036854775807) (h : WireP.enc n = z.data.toList) : Calls Tryz.prog 40 #[.int .i64 n] w fun e w' => e = .returned (.string z) ∧ Below w.heap.size w w' := by
  have h2 := Wire.rint_any n w h0 h1
  rw [h, show (⟨z.data.toList.toArray⟩ : ByteArray) = z from bs_of z] at h2
  exact h2
theorem rtxt_is (s z : ByteArray) (w : World) (hs : s.size ≤ 300) (h : WireP.text s.data.toList = z.data.toList) : Calls Tryz.prog 41 #[.string s] w fun e w' => e = .returned (.string z) ∧ Below w.heap.size w w' := by
  have h2 := Wire.rtext_any s w (by omega)
  rw [h, show (⟨z.data.toList.toArray⟩ : ByteArray) = z from bs_of z] at h2
  exact h2
set_option maxHeartbeats 2000000 in
theorem put_any (a : Option Addr) (len cap : Nat) (l : List Ln) (w : World) (h : LsAt w a len l) (hs : Sz l) (h8 : len ≤ 8) :
    Calls Tryz.prog 16 #[.slice a len cap] w fun e w' => e = .returned (.string (bs (putV l))) ∧ Below w.heap.size w w' := by
  obtain ⟨v, hv⟩ : ∃ v, bs (putV l) = v := ⟨_, rfl⟩
  rw [hv]
  obtain ⟨z0, hz0⟩ : ∃ z0 : ByteArray, WireP.enc (len : Int) = z0.data.toList := ⟨bs (WireP.enc (len : Int)), rfl⟩
  have hz9 : z0.size ≤ 9 := by rw [size_list, ← hz0]; exact WireP.enc_len (by omega) (by omega)
  have HD : Hid (bs (pk l len) = v) := by show _ = v; rw [← hv, putV_pk]; rw [h.1]
  have HP0 : Hid (pk l 0 = z0.data.toList) := by show _ = _; rw [pk_zero, h.1, hz0]
  have HPK := Lib.hid (fun (k : Nat) => pk_size hs (by rw [h.1]; exact h8) k)
  have HSZ := Lib.hid hs
  have HX := Lib.hid h
  have CI := Lib.hid (fun w' => Wire.int_is (len : Int) z0 w' (by omega) (by omega) hz0)
  clear hv h hs hz0
  go_enter Tryz.func16, Tryz.ntmps16
  go_wp2_with fail
  obtain ⟨w1, hw1⟩ : ∃ w1, w.alloc (.cells #[.pointer none, .slice none 0 0] 53) = w1 := ⟨_, rfl⟩
  have HBD1 : Hid (Bd w1 w.heap.size w.heap.size []) := by show Bd w1 _ _ _; rw [← hw1]; exact fresh_bd w
  have HB1 : Hid (Below w.heap.size w w1) := by show Below _ _ _; rw [← hw1]; exact (Below.refl _ _).alloc (Nat.le_refl _) _
  rw [hw1]
  clear hw1
  refine (CI.out w1).mono ?_
  rintro e w2 ⟨rfl, hb2⟩
  have HBD2 := Lib.hid (HBD1.out.keep hb2); have HB2 := Lib.hid (below_keep HB1.out hb2 HB1.out.size)
  clear hb2 HBD1 HB1
  go_wp2_with fail
  refine (write_any w.heap.size w.heap.size [] z0 w2 HBD2.out (by simp; omega) HB2.out.size).mono ?_
  rintro e w3 ⟨rfl, hbd3, hb3, _⟩
  have HBD3 : Hid (Bd w3 w.heap.size w.heap.size (pk l 0)) := by show Bd _ _ _ _; rw [HP0.out]; exact hbd3
  have HB3 := Lib.hid (HB2.out.trans hb3)
  clear hbd3 hb3 HBD2 HB2
  go_wp2_with fail
  go_loopw [12] (fun i wr => ∃ k : Nat, k ≤ len ∧ i = .int .i64 (k : Int) ∧ Hid (Bd wr w.heap.size w.heap.size (pk l k)) ∧ Hid (Below w.heap.size w wr)) (fun i _ => len - (intOf i).toNat)
  case atStart => exact ⟨0, Nat.zero_le _, rfl, HBD3, HB3⟩
  case round =>
    obtain ⟨k, hk, rfl, hD, hB⟩ := hrel
    by_cases hlk : k < len
    · rcases HX.out.2.2 with h0 | ⟨b1, o1, rfl, g1, hc1⟩
      · omega
      have d1 := (hB.out.cell (p := ⟨b1, o1 + k * 2, none⟩) g1).trans (hc1 k hlk).1
      have d2 := (hB.out.cell (p := ⟨b1, o1 + k * 2 + 1, none⟩) g1).trans (hc1 k hlk).2
      have hkx : k < l.length := by rw [HX.out.1]; exact hlk
      obtain ⟨hs1, hn1, hn2⟩ := HSZ.out.at hkx
      have hst := pk_step (l := l) hkx
      obtain ⟨p, hp⟩ : ∃ p, l.getD k ln0 = p := ⟨_, rfl⟩
      rw [hp] at d1 d2 hs1 hn1 hn2 hst
      obtain ⟨s, n⟩ := p
      simp only at hs1 hn1 hn2 hst
      obtain ⟨z1, hz1⟩ : ∃ z1 : ByteArray, WireP.text s.data.toList = z1.data.toList := ⟨bs (WireP.text s.data.toList), rfl⟩
      obtain ⟨z2, hz2⟩ : ∃ z2 : ByteArray, WireP.enc n = z2.data.toList := ⟨bs (WireP.enc n), rfl⟩
      have hsz1 : z1.size ≤ 309 := by rw [size_list, ← hz1]; exact wtext_len (by rw [← size_list]; exact hs1)
      have hsz2 : z2.size ≤ 9 := by rw [size_list, ← hz2]; exact WireP.enc_len hn1 hn2
      have hpl := HPK.out k
      rw [hz1, hz2] at hst
      have HST := Lib.hid hst
      have C1 := Lib.hid (fun w' => Wire.text_is s z1 w' (by omega) hz1)
      have C2 := Lib.hid (fun w' => Wire.int_is n z2 w' hn1 hn2 hz2)
      have HB2 := Lib.hid (hB.out.alloc hB.out.size (.cells #[.string s, .int .i64 n] 44))
      have HD2 := Lib.hid (hD.out.keep ((Below.refl _ wr).alloc (Nat.le_refl _) (.cells #[.string s, .int .i64 n] 44)))
      have hc := boxed_cells wr s n
      rw [boxed_alloc] at hc
      obtain ⟨W, hW⟩ : ∃ W, wr.alloc (.cells #[.string s, .int .i64 n] 44) = W := ⟨_, rfl⟩
      have hbk : W.heap[wr.heap.size]? = some (.cells #[.string s, .int .i64 n] 44 (0, 0)) := by rw [← hW, ← boxed_alloc]; exact boxed_block wr s n
      have hlt : wr.heap.size < W.heap.size := (Array.getElem?_eq_some_iff.1 hbk).1
      rw [hW] at hc HB2 HD2
      have HBK := Lib.hid hbk
      have c0 := hc.1
      have HW := Lib.hid hW
      have HLT := Lib.hid hlt
      have HNE : Hid (wr.heap.size ≠ w.heap.size) := by show _ ≠ _; have := hD.out.lt; omega
      clear hc hW hlt hbk hc1 g1 hp hkx hst hz1 hz2 hn1 hn2 hs1 hB hD
      go_wp2_with fail
      rw [show wr.alloc (.cells #[.string s, .int .i64 n] 44) = W from HW.out]
      clear d1 d2 c0
      refine (C1.out W).mono ?_
      rintro e w4 ⟨rfl, hb4⟩
      have HD4 := Lib.hid (HD2.out.keep hb4); have HB4 := Lib.hid (below_keep HB2.out hb4 HB2.out.size)
      have HX4 := Lib.hid ((hb4.block _ HLT.out).trans HBK.out)
      clear hb4 HD2 HB2 HBK
      go_wp2_with fail
      refine (write_any w.heap.size w.heap.size (pk l k) z1 w4 HD4.out (by omega) HB4.out.size).mono ?_
      rintro e w5 ⟨rfl, hd5, hb5, ho5⟩
      have hx5 := line_kept ho5 HX4.out HNE.out
      have HX5 := Lib.hid hx5
      have c5 : w5.cell? ⟨wr.heap.size, 1, none⟩ = some (.int .i64 n) := by simp [World.cell?, hx5]
      have HD5 := Lib.hid hd5; have HB5 := Lib.hid (HB4.out.trans hb5)
      clear hd5 hb5 ho5 hx5 HX4 HD4 HB4
      go_wp2_with fail
      refine (C2.out w5).mono ?_
      rintro e w6 ⟨rfl, hb6⟩
      have HD6 := Lib.hid (HD5.out.keep hb6); have HB6 := Lib.hid (below_keep HB5.out hb6 HB5.out.size)
      clear hb6 HD5 HB5 HX5 c5
      go_wp2_with fail
      refine (write_any w.heap.size w.heap.size (pk l k ++ z1.data.toList) z2 w6 HD6.out (by rw [List.length_append, ← size_list]; omega) HB6.out.size).mono ?_
      rintro e w7 ⟨rfl, hd7, hb7, _⟩
      have HD7 : Hid (Bd w7 w.heap.size w.heap.size (pk l (k + 1))) := by show Bd _ _ _ _; rw [HST.out]; exact hd7
      have HB7 := Lib.hid (HB6.out.trans hb7)
      clear hd7 hb7 HD6 HB6
      go_wp2_with fail
      go_roundw
      case rel => exact ⟨k + 1, by omega, by go_num, HD7, HB7⟩
      case measure => simp [intOf]; omega
    · obtain rfl : k = len := by omega
      go_wp2_with fail
      refine (string_any w.heap.size w.heap.size (pk l k) wr hD.out hB.out.size).mono ?_
      rintro e w2 ⟨rfl, hb⟩
      have HB2 := Lib.hid (hB.out.trans hb)
      clear hb
      go_wp2_with fail
      go_ret
      exact ⟨ret_str HD.out, HB2.out⟩
set_option maxHeartbeats 2000000 in
theorem rput_any (a : Option Addr) (len cap : Nat) (l : List Ln) (w : World) (h : LsAt w a len l) (hs : Sz l) (h8 : len ≤ 8) :
    Calls Tryz.prog 17 #[.slice a len cap] w fun e w' => e = .returned (.string (bs (putV l))) ∧ Below w.heap.size w w' := by
  obtain ⟨v, hv⟩ : ∃ v, bs (putV l) = v := ⟨_, rfl⟩
  rw [hv]
  obtain ⟨z0, hz0⟩ : ∃ z0 : ByteArray, WireP.enc (len : Int) = z0.data.toList := ⟨bs (WireP.enc (len : Int)), rfl⟩
  have HD : Hid (bs (pk l len) = v) := by show _ = v; rw [← hv, putV_pk]; rw [h.1]
  have HP0 : Hid (bs (pk l 0) = z0) := by show _ = _; rw [pk_zero, h.1, hz0, bs_of]
  have HPK := Lib.hid (fun (k : Nat) => pk_size hs (by rw [h.1]; exact h8) k)
  have HSZ := Lib.hid hs
  have HX := Lib.hid h
  have CI := Lib.hid (fun w' => rint_is (len : Int) z0 w' (by omega) (by omega) hz0)
  clear hv h hs hz0
  go_enter Tryz.func17, Tryz.ntmps17
  go_wp2_with fail
  refine (CI.out w).mono ?_
  rintro e w1 ⟨rfl, hb1⟩
  have HB1 := Lib.hid hb1
  clear hb1
  go_wp2_with fail
  go_loopw [3, 4] (fun t i wr => ∃ (k : Nat) (acc : ByteArray), k ≤ len ∧ i = .int .i64 (k : Int) ∧ t = .string acc ∧ Hid (bs (pk l k) = acc) ∧ Hid (Below w.heap.size w wr)) (fun _ i _ => len - (intOf i).toNat)
  case atStart => exact ⟨0, z0, Nat.zero_le _, rfl, rfl, HP0, HB1⟩
  case round =>
    obtain ⟨k, acc, hk, rfl, rfl, hA, hB⟩ := hrel
    have hacc : acc.size ≤ 2600 := by rw [← hA.out, bs_size]; exact HPK.out k
    by_cases hlk : k < len
    · rcases HX.out.2.2 with h0 | ⟨b1, o1, rfl, g1, hc1⟩
      · omega
      have d1 := (hB.out.cell (p := ⟨b1, o1 + k * 2, none⟩) g1).trans (hc1 k hlk).1
      have d2 := (hB.out.cell (p := ⟨b1, o1 + k * 2 + 1, none⟩) g1).trans (hc1 k hlk).2
      have hkx : k < l.length := by rw [HX.out.1]; exact hlk
      obtain ⟨hs1, hn1, hn2⟩ := HSZ.out.at hkx
      have hst := pk_step (l := l) hkx
      obtain ⟨p, hp⟩ : ∃ p, l.getD k ln0 = p := ⟨_, rfl⟩
      rw [hp] at d1 d2 hs1 hn1 hn2 hst
      obtain ⟨s, n⟩ := p
      simp only at hs1 hn1 hn2 hst
      obtain ⟨z1, hz1⟩ : ∃ z1 : ByteArray, WireP.text s.data.toList = z1.data.toList := ⟨bs (WireP.text s.data.toList), rfl⟩
      obtain ⟨z2, hz2⟩ : ∃ z2 : ByteArray, WireP.enc n = z2.data.toList := ⟨bs (WireP.enc n), rfl⟩
      have hsz1 : z1.size ≤ 309 := by rw [size_list, ← hz1]; exact wtext_len (by rw [← size_list]; exact hs1)
      have hsz2 : z2.size ≤ 9 := by rw [size_list, ← hz2]; exact WireP.enc_len hn1 hn2
      obtain ⟨T1, hT1⟩ : ∃ T1 : ByteArray, acc ++ z1 = T1 := ⟨_, rfl⟩
      obtain ⟨T2, hT2⟩ : ∃ T2 : ByteArray, T1 ++ z2 = T2 := ⟨_, rfl⟩
      have sT1 : T1.size = acc.size + z1.size := by rw [← hT1, ByteArray.size_append]
      have hT : bs (pk l (k + 1)) = T2 := by
        apply str_eq2
        rw [bs_data, hst, ← hT2, data_append, ← hT1, data_append, hz1, hz2, ← hA.out, bs_data]
      have HT := Lib.hid hT
      have y1 : ¬ (9223372036854775807 < acc.size + z1.size) := by omega
      have y2 : ¬ (9223372036854775807 < T1.size + z2.size) := by omega
      have q1 := fun d os => cell_regrown d1 d os
      have q2 := fun d os => cell_regrown d2 d os
      have C1 := Lib.hid (fun d os => Calls.regrown_of (rtxt_is s z1 (Sort.grow (redrawn wr d) os) hs1 hz1))
      have C2 := Lib.hid (fun d os => Calls.regrown_of (rint_is n z2 (Sort.grow (redrawn wr d) os) hn1 hn2 hz2))
      have HB2 := Lib.hid hB.out
      clear hc1 g1 hp hkx hst hz1 hz2 hn1 hn2 hs1 hB sT1 hT d1 d2
      go_wp2_with fail
      refine wp_region_qw (by kernel_rfl) (by kernel_rfl) ?_
      refine qw_take (by kernel_rfl) (fun K hK => ?_); go_simp; first | (refine hK _ ?_; clear hK K) | (apply Exists.intro; refine ⟨fun _ => ?_, hK _ ?_⟩; (first | with_reducible exact C1.out _ _ | with_reducible exact C2.out _ _); clear hK K)
      refine qw_take (by kernel_rfl) (fun K hK => ?_); go_simp; first | (refine hK _ ?_; clear hK K) | (apply Exists.intro; refine ⟨fun _ => ?_, hK _ ?_⟩; (first | with_reducible exact C1.out _ _ | with_reducible exact C2.out _ _); clear hK K)
      refine qw_take (by kernel_rfl) (fun K hK => ?_); go_simp; first | (refine hK _ ?_; clear hK K) | (apply Exists.intro; refine ⟨fun _ => ?_, hK _ ?_⟩; (first | with_reducible exact C1.out _ _ | with_reducible exact C2.out _ _); clear hK K)
      refine qw_take (by kernel_rfl) (fun K hK => ?_); go_simp; first | (refine hK _ ?_; clear hK K) | (apply Exists.intro; refine ⟨fun _ => ?_, hK _ ?_⟩; (first | with_reducible exact C1.out _ _ | with_reducible exact C2.out _ _); clear hK K)
      refine qw_take (by kernel_rfl) (fun K hK => ?_); go_simp; first | (refine hK _ ?_; clear hK K) | (apply Exists.intro; refine ⟨fun _ => ?_, hK _ ?_⟩; (first | with_reducible exact C1.out _ _ | with_reducible exact C2.out _ _); clear hK K)
      refine qw_take (by kernel_rfl) (fun K hK => ?_); go_simp; first | (refine hK _ ?_; clear hK K) | (apply Exists.intro; refine ⟨fun _ => ?_, hK _ ?_⟩; (first | with_reducible exact C1.out _ _ | with_reducible exact C2.out _ _); clear hK K)
      refine qw_take (by kernel_rfl) (fun K hK => ?_); go_simp; first | (refine hK _ ?_; clear hK K) | (apply Exists.intro; refine ⟨fun _ => ?_, hK _ ?_⟩; (first | with_reducible exact C1.out _ _ | with_reducible exact C2.out _ _); clear hK K)
      refine qw_take (by kernel_rfl) (fun K hK => ?_); go_simp; first | (refine hK _ ?_; clear hK K) | (apply Exists.intro; refine ⟨fun _ => ?_, hK _ ?_⟩; (first | with_reducible exact C1.out _ _ | with_reducible exact C2.out _ _); clear hK K)
      refine qw_take (by kernel_rfl) (fun K hK => ?_); go_simp; first | (refine hK _ ?_; clear hK K) | (apply Exists.intro; refine ⟨fun _ => ?_, hK _ ?_⟩; (first | with_reducible exact C1.out _ _ | with_reducible exact C2.out _ _); clear hK K)
      refine qw_take (by kernel_rfl) (fun K hK => ?_); go_simp; first | (refine hK _ ?_; clear hK K) | (apply Exists.intro; refine ⟨fun _ => ?_, hK _ ?_⟩; (first | with_reducible exact C1.out _ _ | with_reducible exact C2.out _ _); clear hK K)
      refine qw_take (by kernel_rfl) (fun K hK => ?_); go_simp; first | (refine hK _ ?_; clear hK K) | (apply Exists.intro; refine ⟨fun _ => ?_, hK _ ?_⟩; (first | with_reducible exact C1.out _ _ | with_reducible exact C2.out _ _); clear hK K)
      refine qw_take (by kernel_rfl) (fun K hK => ?_); go_simp; first | (refine hK _ ?_; clear hK K) | (apply Exists.intro; refine ⟨fun _ => ?_, hK _ ?_⟩; (first | with_reducible exact C1.out _ _ | with_reducible exact C2.out _ _); clear hK K)
      refine qw_take (by kernel_rfl) (fun K hK => ?_); go_simp; first | (refine hK _ ?_; clear hK K) | (apply Exists.intro; refine ⟨fun _ => ?_, hK _ ?_⟩; (first | with_reducible exact C1.out _ _ | with_reducible exact C2.out _ _); clear hK K)
      refine qw_take (by kernel_rfl) (fun K hK => ?_); go_simp; first | (refine hK _ ?_; clear hK K) | (apply Exists.intro; refine ⟨fun _ => ?_, hK _ ?_⟩; (first | with_reducible exact C1.out _ _ | with_reducible exact C2.out _ _); clear hK K)
      refine qw_take (by kernel_rfl) (fun K hK => ?_); go_simp; first | (refine hK _ ?_; clear hK K) | (apply Exists.intro; refine ⟨fun _ => ?_, hK _ ?_⟩; (first | with_reducible exact C1.out _ _ | with_reducible exact C2.out _ _); clear hK K)
      refine qw_take (by kernel_rfl) (fun K hK => ?_); go_simp; first | (refine hK _ ?_; clear hK K) | (apply Exists.intro; refine ⟨fun _ => ?_, hK _ ?_⟩; (first | with_reducible exact C1.out _ _ | with_reducible exact C2.out _ _); clear hK K)
      refine qw_nil ?_
      intro _ hw'
      obtain ⟨⟨dq, osq⟩, hw''⟩ := hw'
      subst hw''
      have HB3 := Lib.hid (HB2.out.trans ((below_regrown wr dq osq).mono HB2.out.size))
      clear q1 q2 C1 C2
      generalize Sort.grow (redrawn wr dq) osq = w3 at *
      go_wp2_with fail
      go_roundw
      case rel => exact ⟨k + 1, T2, by omega, by go_num, rfl, HT, HB3⟩
      case measure => simp [intOf]; omega
    · obtain rfl : k = len := by omega
      have HE : Hid (acc = v) := by show acc = v; rw [← hA.out, HD.out]
      go_wp2_with fail
      go_ret
      exact ⟨ret_str HE.out, hB.out⟩
end Go.Proofs.YtpaemofjeadhcaaGreatDoor.Lines
