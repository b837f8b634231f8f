/-
  MsgBack; what was there stays as it was.
-/
import Derived.Test.YtamcidlkbhanfaaMsgK
import Derived.Test.YtamcidlkbhanfaaMsgE
import Derived.Test.YtamcidlkbhanfaaMsgFr
set_option linter.unusedVariables false
set_option linter.unusedSimpArgs false
set_option maxRecDepth 4000
namespace Go.Proofs.Ytamcidlkbhanfaa.Msg
open Go.RowKit MsgP
open Go.Proofs.Ytamcidlkbhanfaa.Kt

open Bld
open Wire (RdAt)
open WireP (done)
open OutP (en0)
theorem str_ne_self (s : ByteArray) : (s.toList != s.toList) = false := by simp
theorem putV_len {x : Ev} (h : fitV x = true) : (putV x).length ≤ 100 := by
  have f := fitV_iff.1 h
  have h0 := f.num0; have h1 := f.num1
  have e1 := WireP.enc_len (n := 1) (by decide) (by decide)
  have e2 := WireP.enc_len (n := x.num) (by omega) (by omega)
  have e3 : (WireP.flag x.ask).length ≤ 1 := by cases x.ask <;> decide
  unfold putV
  rw [List.length_append, List.length_append, List.length_append]
  cases ha : x.ask with
  | true => have := putE_len (e64_of (f.asked ha).1); rw [ha] at e3; simp only [if_true]; omega
  | false => have := putR_len (r64_of (f.told ha).1); rw [ha] at e3; simp only [Bool.false_eq_true, if_false]; omega
theorem cut_list (t : ByteArray) (k : Nat) (l : List UInt8) (h : t.data.toList = l) (hk : l.length = k + 1) : (t.extract 0 k).data.toList = l.dropLast := by
  rw [List.dropLast_eq_take, hk, Nat.add_sub_cancel, ← h]
  simp [ByteArray.data_extract]
theorem kept {W W' : World} {b k : Nat} {o : Obj} (h : W.heap[b]? = some o) (g : W.grownBy W' (some k)) (hne : b ≠ k) : W'.heap[b]? = some o := (g.block b (heap_lt h) (fun e => hne (by cases e; rfl))).trans h

set_option maxHeartbeats 8000000 in
theorem back_none_no (n0 : Int) (n1 : Bool) (n2 : Int) (x0 : Int) (x1 : Int) (x2 : Int) (x3 : Bool) (x4 : Int) (x5 : Int) (x6 : Bool) (r0 : Int) (r1 : Int) (r2 : Int) (r3 : Int) (r4 : Bool) (r5 : Int) (r6 : Int) (e0 : Int) (e1 : Int) (e2 : Int) (e3 : Bool) (e4 : Int) (e5 : Int) (e6 : Bool) (f0 : Int) (f1 : Int) (f2 : Int) (f3 : Int) (f4 : Bool) (f5 : Int) (f6 : Int) (he : E64 ⟨e0, e1, e2, e3, e4, e5, e6⟩) (hr : R64 ⟨f0, f1, f2, f3, f4, f5, f6⟩) (s : ByteArray) (h200 : ¬ (200 : Int) < (s.size : Int)) (hfx : fitV ⟨n0, n1, n2, ⟨x0, x1, x2, x3, x4, x5, x6⟩, ⟨r0, r1, r2, r3, r4, r5, r6⟩⟩ = false) (hn : takeV s.data.toList = none) (w : World) : Calls Try.prog 5 #[vv n0 n1 n2 x0 x1 x2 x3 x4 x5 x6 r0 r1 r2 r3 r4 r5 r6, (.agg #[.int .i64 e0, .int .i64 e1, .int .i64 e2, .bool e3, .int .i64 e4, .int .i64 e5, .bool e6]), (.agg #[.int .i64 f0, .int .i64 f1, .int .i64 f2, .int .i64 f3, .bool f4, .int .i64 f5, .int .i64 f6]), .string s] w fun e w' => e = .returned (.bool true) ∧ Below w.heap.size w w' := by
  have hB0 : Below w.heap.size w (((w.alloc (.cells #[.int .i64 n0, .bool n1, .int .i64 n2, .int .i64 x0, .int .i64 x1, .int .i64 x2, .bool x3, .int .i64 x4, .int .i64 x5, .bool x6, .int .i64 r0, .int .i64 r1, .int .i64 r2, .int .i64 r3, .bool r4, .int .i64 r5, .int .i64 r6] 27)).alloc (.cells #[.int .i64 e0, .int .i64 e1, .int .i64 e2, .bool e3, .int .i64 e4, .int .i64 e5, .bool e6] 23)).alloc (.cells #[.int .i64 f0, .int .i64 f1, .int .i64 f2, .int .i64 f3, .bool f4, .int .i64 f5, .int .i64 f6] 25)) := (((Below.refl _ w).alloc (Nat.le_refl _) _).alloc (by simp) _).alloc (by rw [World.size_alloc, World.size_alloc]; omega) _
  have hX0 : At17 27 (((w.alloc (.cells #[.int .i64 n0, .bool n1, .int .i64 n2, .int .i64 x0, .int .i64 x1, .int .i64 x2, .bool x3, .int .i64 x4, .int .i64 x5, .bool x6, .int .i64 r0, .int .i64 r1, .int .i64 r2, .int .i64 r3, .bool r4, .int .i64 r5, .int .i64 r6] 27)).alloc (.cells #[.int .i64 e0, .int .i64 e1, .int .i64 e2, .bool e3, .int .i64 e4, .int .i64 e5, .bool e6] 23)).alloc (.cells #[.int .i64 f0, .int .i64 f1, .int .i64 f2, .int .i64 f3, .bool f4, .int .i64 f5, .int .i64 f6] 25)) w.heap.size (.int .i64 n0) (.bool n1) (.int .i64 n2) (.int .i64 x0) (.int .i64 x1) (.int .i64 x2) (.bool x3) (.int .i64 x4) (.int .i64 x5) (.bool x6) (.int .i64 r0) (.int .i64 r1) (.int .i64 r2) (.int .i64 r3) (.bool r4) (.int .i64 r5) (.int .i64 r6) := ((at17_new 27 w (.int .i64 n0) (.bool n1) (.int .i64 n2) (.int .i64 x0) (.int .i64 x1) (.int .i64 x2) (.bool x3) (.int .i64 x4) (.int .i64 x5) (.bool x6) (.int .i64 r0) (.int .i64 r1) (.int .i64 r2) (.int .i64 r3) (.bool r4) (.int .i64 r5) (.int .i64 r6)).alloc _).alloc _
  have hE0 := (at7_new 23 (w.alloc (.cells #[.int .i64 n0, .bool n1, .int .i64 n2, .int .i64 x0, .int .i64 x1, .int .i64 x2, .bool x3, .int .i64 x4, .int .i64 x5, .bool x6, .int .i64 r0, .int .i64 r1, .int .i64 r2, .int .i64 r3, .bool r4, .int .i64 r5, .int .i64 r6] 27)) (.int .i64 e0) (.int .i64 e1) (.int .i64 e2) (.bool e3) (.int .i64 e4) (.int .i64 e5) (.bool e6)).alloc (.cells #[.int .i64 f0, .int .i64 f1, .int .i64 f2, .int .i64 f3, .bool f4, .int .i64 f5, .int .i64 f6] 25)
  have hR0 := at7_new 25 ((w.alloc (.cells #[.int .i64 n0, .bool n1, .int .i64 n2, .int .i64 x0, .int .i64 x1, .int .i64 x2, .bool x3, .int .i64 x4, .int .i64 x5, .bool x6, .int .i64 r0, .int .i64 r1, .int .i64 r2, .int .i64 r3, .bool r4, .int .i64 r5, .int .i64 r6] 27)).alloc (.cells #[.int .i64 e0, .int .i64 e1, .int .i64 e2, .bool e3, .int .i64 e4, .int .i64 e5, .bool e6] 23)) (.int .i64 f0) (.int .i64 f1) (.int .i64 f2) (.int .i64 f3) (.bool f4) (.int .i64 f5) (.int .i64 f6)
  rw [World.size_alloc] at hE0 hR0
  rw [World.size_alloc] at hR0
  obtain ⟨w0, hw0⟩ : ∃ w0, (((w.alloc (.cells #[.int .i64 n0, .bool n1, .int .i64 n2, .int .i64 x0, .int .i64 x1, .int .i64 x2, .bool x3, .int .i64 x4, .int .i64 x5, .bool x6, .int .i64 r0, .int .i64 r1, .int .i64 r2, .int .i64 r3, .bool r4, .int .i64 r5, .int .i64 r6] 27)).alloc (.cells #[.int .i64 e0, .int .i64 e1, .int .i64 e2, .bool e3, .int .i64 e4, .int .i64 e5, .bool e6] 23)).alloc (.cells #[.int .i64 f0, .int .i64 f1, .int .i64 f2, .int .i64 f3, .bool f4, .int .i64 f5, .int .i64 f6] 25)) = w0 := ⟨_, rfl⟩
  rw [hw0] at hB0 hX0 hE0 hR0
  have HW := Lib.hid hw0
  have HB0 := Lib.hid hB0
  have HX0 := Lib.hid hX0
  have HE0 := Lib.hid hE0
  have HR0 := Lib.hid hR0
  obtain ⟨pa, hpa⟩ : ∃ a, bs (putE ⟨e0, e1, e2, e3, e4, e5, e6⟩) = a := ⟨_, rfl⟩
  obtain ⟨pb, hpb⟩ : ∃ a, bs (putR ⟨f0, f1, f2, f3, f4, f5, f6⟩) = a := ⟨_, rfl⟩
  have hpal : pa.data.toList = putE ⟨e0, e1, e2, e3, e4, e5, e6⟩ := by rw [← hpa, data_bs]
  have hpbl : pb.data.toList = putR ⟨f0, f1, f2, f3, f4, f5, f6⟩ := by rw [← hpb, data_bs]
  have hpas : pa.size ≤ 100 := by rw [size_list, hpal]; have := putE_len he; omega
  have hpbs : pb.size ≤ 100 := by rw [size_list, hpbl]; have := putR_len hr; omega
  have CPE := Lib.hid (fun W => pute_is e0 e1 e2 e3 e4 e5 e6 pa hpa he W)
  have CPR := Lib.hid (fun W => putr_is f0 f1 f2 f3 f4 f5 f6 pb hpb hr W)
  have CNA : Hid (∀ W, _) := Lib.hid (fun W => Wire.new_any pa W (by omega))
  have CNB : Hid (∀ W, _) := Lib.hid (fun W => Wire.new_any pb W (by omega))
  rw [hpal] at CNA
  rw [hpbl] at CNB
  have HE64 := Lib.hid he
  have HR64 := Lib.hid hr
  clear hw0 hB0 hX0 hE0 hR0 hpa hpb hpal hpbl he hr
  have CT := Lib.hid (fun W => take_is s 0 false 0 0 0 0 false 0 0 false 0 0 0 0 false 0 0 7 (by rw [hn]; rfl) (by rw [hn]; rfl) (by omega) W)
  clear hn
  go_enter Try.func5, Try.ntmps5
  go_wp2_with fail
  rw [show (((w.alloc (.cells #[.int .i64 n0, .bool n1, .int .i64 n2, .int .i64 x0, .int .i64 x1, .int .i64 x2, .bool x3, .int .i64 x4, .int .i64 x5, .bool x6, .int .i64 r0, .int .i64 r1, .int .i64 r2, .int .i64 r3, .bool r4, .int .i64 r5, .int .i64 r6] 27)).alloc (.cells #[.int .i64 e0, .int .i64 e1, .int .i64 e2, .bool e3, .int .i64 e4, .int .i64 e5, .bool e6] 23)).alloc (.cells #[.int .i64 f0, .int .i64 f1, .int .i64 f2, .int .i64 f3, .bool f4, .int .i64 f5, .int .i64 f6] 25)) = w0 from HW.out]
  refine (CT.out _).mono ?_
  rintro e w1 ⟨rfl, hb⟩
  have HB1 := Lib.hid (below_keep HB0.out hb HB0.out.size)
  have HX1 := Lib.hid (HX0.out.keep hb)
  have HE1 := Lib.hid (HE0.out.keep hb)
  have HR1 := Lib.hid (HR0.out.keep hb)
  clear HB0 HX0 HE0 HR0
  clear hb CT
  go_simp
  rename_i K1 hK1
  refine hK1 _ _ ?_
  clear hK1 K1
  iterate 4 (refine wpList_plain rfl fun K hK => ?_; go_simp; refine hK _ _ ?_; clear hK K)
  refine st17 (at17_new 27 w1 (.int .i64 0) (.bool false) (.int .i64 0) (.int .i64 0) (.int .i64 0) (.int .i64 0) (.bool false) (.int .i64 0) (.int .i64 0) (.bool false) (.int .i64 0) (.int .i64 0) (.int .i64 0) (.int .i64 0) (.bool false) (.int .i64 0) (.int .i64 0)) (.tmp 9) (.tmp 30) rfl rfl rfl rfl rfl ?_
  simp only [Act.put, List.setIfInBounds_toArray, List.set_cons_succ, List.set_cons_zero]
  have hn := new_below w1 (.int .i64 0) (.bool false) (.int .i64 0) (.int .i64 0) (.int .i64 0) (.int .i64 0) (.bool false) (.int .i64 0) (.int .i64 0) (.bool false) (.int .i64 0) (.int .i64 0) (.int .i64 0) (.int .i64 0) (.bool false) (.int .i64 0) (.int .i64 0)
  have hY := new_at w1 (.int .i64 0) (.bool false) (.int .i64 0) (.int .i64 0) (.int .i64 0) (.int .i64 0) (.bool false) (.int .i64 0) (.int .i64 0) (.bool false) (.int .i64 0) (.int .i64 0) (.int .i64 0) (.int .i64 0) (.bool false) (.int .i64 0) (.int .i64 0)
  have hb := below_keep HB1.out hn HB1.out.size
  have hx := HX1.out.keep hn
  have he := HE1.out.keep hn
  have hr := HR1.out.keep hn
  obtain ⟨p2, hp⟩ : ∃ p, w1.heap.size = p := ⟨_, rfl⟩
  obtain ⟨u2, hu⟩ : ∃ u, put17 (w1.alloc (.cells #[.int .i64 0, .bool false, .int .i64 0, .int .i64 0, .int .i64 0, .int .i64 0, .bool false, .int .i64 0, .int .i64 0, .bool false, .int .i64 0, .int .i64 0, .int .i64 0, .int .i64 0, .bool false, .int .i64 0, .int .i64 0] 27)) w1.heap.size (.int .i64 0) (.bool false) (.int .i64 0) (.int .i64 0) (.int .i64 0) (.int .i64 0) (.bool false) (.int .i64 0) (.int .i64 0) (.bool false) (.int .i64 0) (.int .i64 0) (.int .i64 0) (.int .i64 0) (.bool false) (.int .i64 0) (.int .i64 0) = u := ⟨_, rfl⟩
  rw [hu] at hY hb hx he hr
  rw [hp] at hY
  rw [show put17 (w1.alloc (.cells #[.int .i64 0, .bool false, .int .i64 0, .int .i64 0, .int .i64 0, .int .i64 0, .bool false, .int .i64 0, .int .i64 0, .bool false, .int .i64 0, .int .i64 0, .int .i64 0, .int .i64 0, .bool false, .int .i64 0, .int .i64 0] 27)) w1.heap.size (.int .i64 0) (.bool false) (.int .i64 0) (.int .i64 0) (.int .i64 0) (.int .i64 0) (.bool false) (.int .i64 0) (.int .i64 0) (.bool false) (.int .i64 0) (.int .i64 0) (.int .i64 0) (.int .i64 0) (.bool false) (.int .i64 0) (.int .i64 0) = u2 from hu, hp]
  have HB2 := Lib.hid hb
  have HX2 := Lib.hid hx
  have HE2 := Lib.hid he
  have HR2 := Lib.hid hr
  have HY2 := Lib.hid hY
  clear hn hY hb hx he hr hu hp HB1 HX1 HE1 HR1
  have HKS : Hid (∀ w', Below u2.heap.size u2 w' → ((w'.cell? ⟨w.heap.size + 1, 0, none⟩ = some (.int .i64 e0) ∧ w'.cell? ⟨w.heap.size + 1, 1, none⟩ = some (.int .i64 e1) ∧ w'.cell? ⟨w.heap.size + 1, 2, none⟩ = some (.int .i64 e2) ∧ w'.cell? ⟨w.heap.size + 1, 3, none⟩ = some (.bool e3) ∧ w'.cell? ⟨w.heap.size + 1, 4, none⟩ = some (.int .i64 e4) ∧ w'.cell? ⟨w.heap.size + 1, 5, none⟩ = some (.int .i64 e5) ∧ w'.cell? ⟨w.heap.size + 1, 6, none⟩ = some (.bool e6)) ∧ (w'.cell? ⟨w.heap.size + 2, 0, none⟩ = some (.int .i64 f0) ∧ w'.cell? ⟨w.heap.size + 2, 1, none⟩ = some (.int .i64 f1) ∧ w'.cell? ⟨w.heap.size + 2, 2, none⟩ = some (.int .i64 f2) ∧ w'.cell? ⟨w.heap.size + 2, 3, none⟩ = some (.int .i64 f3) ∧ w'.cell? ⟨w.heap.size + 2, 4, none⟩ = some (.bool f4) ∧ w'.cell? ⟨w.heap.size + 2, 5, none⟩ = some (.int .i64 f5) ∧ w'.cell? ⟨w.heap.size + 2, 6, none⟩ = some (.int .i64 f6)))) := fun w' hb => ⟨cells7 (HE2.out.keep hb), cells7 (HR2.out.keep hb)⟩
  have b0 : Below u2.heap.size u2 u2.drew := (Below.refl _ u2).drew
  have k0 := HKS.out _ b0
  go_wp2_with fail
  go_region_held3 (fun w' => ((w'.cell? ⟨w.heap.size + 1, 0, none⟩ = some (.int .i64 e0) ∧ w'.cell? ⟨w.heap.size + 1, 1, none⟩ = some (.int .i64 e1) ∧ w'.cell? ⟨w.heap.size + 1, 2, none⟩ = some (.int .i64 e2) ∧ w'.cell? ⟨w.heap.size + 1, 3, none⟩ = some (.bool e3) ∧ w'.cell? ⟨w.heap.size + 1, 4, none⟩ = some (.int .i64 e4) ∧ w'.cell? ⟨w.heap.size + 1, 5, none⟩ = some (.int .i64 e5) ∧ w'.cell? ⟨w.heap.size + 1, 6, none⟩ = some (.bool e6)) ∧ (w'.cell? ⟨w.heap.size + 2, 0, none⟩ = some (.int .i64 f0) ∧ w'.cell? ⟨w.heap.size + 2, 1, none⟩ = some (.int .i64 f1) ∧ w'.cell? ⟨w.heap.size + 2, 2, none⟩ = some (.int .i64 f2) ∧ w'.cell? ⟨w.heap.size + 2, 3, none⟩ = some (.int .i64 f3) ∧ w'.cell? ⟨w.heap.size + 2, 4, none⟩ = some (.bool f4) ∧ w'.cell? ⟨w.heap.size + 2, 5, none⟩ = some (.int .i64 f5) ∧ w'.cell? ⟨w.heap.size + 2, 6, none⟩ = some (.int .i64 f6))))
    (first | with_reducible exact k0 | with_reducible exact k4 | with_reducible exact k5 | with_reducible exact k6 | with_reducible exact k7)
    (first
      | ((with_reducible refine (CNB.out w6).mono ?_); rintro e w7 ⟨rfl, hq7, hb7⟩; have b7 := below_keep b6 hb7 b6.size; have k7 := HKS.out _ b7)
      | ((with_reducible refine (CPR.out w5).mono ?_); rintro e w6 ⟨rfl, hb6⟩; have b6 := below_keep b5 hb6 b5.size; have k6 := HKS.out _ b6)
      | ((with_reducible refine (CNA.out w4).mono ?_); rintro e w5 ⟨rfl, hq5, hb5⟩; have b5 := below_keep b4 hb5 b4.size; have k5 := HKS.out _ b5)
      | ((with_reducible refine (CPE.out u2.drew).mono ?_); rintro e w4 ⟨rfl, hb4⟩; have b4 := below_keep b0 hb4 b0.size; have k4 := HKS.out _ b4))
  have hp7 := RdAt.below (RdAt.below hq5 hb6) hb7
  have hpl : w4.heap.size < w6.heap.size := by have := hq5.lt; have := hb6.size; omega
  have hel : w.heap.size + 1 < w4.heap.size := by have := heap_lt HE2.out; have := b4.size; omega
  have hrl : w.heap.size + 2 < w4.heap.size := by have := heap_lt HR2.out; have := b4.size; omega
  obtain ⟨p, hp⟩ : ∃ p, w4.heap.size = p := ⟨_, rfl⟩
  obtain ⟨q, hq⟩ : ∃ q, w6.heap.size = q := ⟨_, rfl⟩
  rw [hp] at hp7 hpl hel hrl
  rw [hq] at hq7 hpl
  rw [hp, hq]
  have HP7 := Lib.hid hp7
  have HQ7 := Lib.hid hq7
  have HPL := Lib.hid hpl
  have HEL := Lib.hid hel
  have HRL := Lib.hid hrl
  have NEP : Hid (w.heap.size + 1 ≠ p) := Nat.ne_of_lt hel
  have NRP : Hid (w.heap.size + 2 ≠ p) := Nat.ne_of_lt hrl
  have NXP : Hid (w.heap.size ≠ p) := by show _ ≠ _; omega
  have NBP : Hid (w.heap.size ≤ p) := by show _ ≤ _; omega
  have NEQ : Hid (w.heap.size + 1 ≠ q) := by show _ ≠ _; omega
  have NRQ : Hid (w.heap.size + 2 ≠ q) := by show _ ≠ _; omega
  have NXQ : Hid (w.heap.size ≠ q) := by show _ ≠ _; omega
  have NBQ : Hid (w.heap.size ≤ q) := by show _ ≤ _; omega
  have HBa := Lib.hid (below_keep HB2.out b7 HB2.out.size)
  have HXa := Lib.hid (HX2.out.keep b7)
  have HEa := Lib.hid (HE2.out.keep b7)
  have HRa := Lib.hid (HR2.out.keep b7)
  clear HB2 HX2 HE2 HR2
  clear hp7 hq7 hpl hel hrl hp hq k0 k4 k5 k6 k7 b0 b4 b5 b6 b7 hb4 hb5 hb6 hb7 hq5 HKS
  have hE7 : At7 23 w7.drew (w.heap.size + 1) (.int .i64 e0) (.int .i64 e1) (.int .i64 e2) (.bool e3) (.int .i64 e4) (.int .i64 e5) (.bool e6) := HEa.out
  have hR7 : At7 25 w7.drew (w.heap.size + 2) (.int .i64 f0) (.int .i64 f1) (.int .i64 f2) (.int .i64 f3) (.bool f4) (.int .i64 f5) (.int .i64 f6) := HRa.out
  have hX7 : At17 27 w7.drew w.heap.size (.int .i64 n0) (.bool n1) (.int .i64 n2) (.int .i64 x0) (.int .i64 x1) (.int .i64 x2) (.bool x3) (.int .i64 x4) (.int .i64 x5) (.bool x6) (.int .i64 r0) (.int .i64 r1) (.int .i64 r2) (.int .i64 r3) (.bool r4) (.int .i64 r5) (.int .i64 r6) := HXa.out
  have hP7 : RdAt w7.drew p (some (putE ⟨e0, e1, e2, e3, e4, e5, e6⟩)) := HP7.out
  have hQ7 : RdAt w7.drew q (some (putR ⟨f0, f1, f2, f3, f4, f5, f6⟩)) := HQ7.out
  have k0 : ((w7.drew.cell? ⟨w.heap.size + 1, 0, none⟩ = some (.int .i64 e0) ∧ w7.drew.cell? ⟨w.heap.size + 1, 1, none⟩ = some (.int .i64 e1) ∧ w7.drew.cell? ⟨w.heap.size + 1, 2, none⟩ = some (.int .i64 e2) ∧ w7.drew.cell? ⟨w.heap.size + 1, 3, none⟩ = some (.bool e3) ∧ w7.drew.cell? ⟨w.heap.size + 1, 4, none⟩ = some (.int .i64 e4) ∧ w7.drew.cell? ⟨w.heap.size + 1, 5, none⟩ = some (.int .i64 e5) ∧ w7.drew.cell? ⟨w.heap.size + 1, 6, none⟩ = some (.bool e6)) ∧ (w7.drew.cell? ⟨w.heap.size + 2, 0, none⟩ = some (.int .i64 f0) ∧ w7.drew.cell? ⟨w.heap.size + 2, 1, none⟩ = some (.int .i64 f1) ∧ w7.drew.cell? ⟨w.heap.size + 2, 2, none⟩ = some (.int .i64 f2) ∧ w7.drew.cell? ⟨w.heap.size + 2, 3, none⟩ = some (.int .i64 f3) ∧ w7.drew.cell? ⟨w.heap.size + 2, 4, none⟩ = some (.bool f4) ∧ w7.drew.cell? ⟨w.heap.size + 2, 5, none⟩ = some (.int .i64 f5) ∧ w7.drew.cell? ⟨w.heap.size + 2, 6, none⟩ = some (.int .i64 f6))) := ⟨cells7 HEa.out, cells7 HRa.out⟩
  have qe := fun W => Outbox.neq_en e0 e1 e2 e3 e4 e5 e6 e0 e1 e2 e3 e4 e5 e6 W
  rw [eqE_out, eqE_self] at qe
  have qr := fun W => neq_r f0 f1 f2 f3 f4 f5 f6 f0 f1 f2 f3 f4 f5 f6 W
  rw [eqR_self] at qr
  have ge := fun x y u v W => guard_e .neq x y u v W
  have gr := fun x y u v W => guard_r .neq x y u v W
  have CTE := Lib.hid (takee_is p (some (putE ⟨e0, e1, e2, e3, e4, e5, e6⟩)) (some []) e0 e1 e2 e3 e4 e5 e6 (by rw [← List.append_nil (putE ⟨e0, e1, e2, e3, e4, e5, e6⟩)]; exact takeE_some (rdE_put HE64.out [])) (by rw [← List.append_nil (putE ⟨e0, e1, e2, e3, e4, e5, e6⟩), rdE_put HE64.out []]) w7.drew hP7)
  have CTR := Lib.hid (fun W h => taker_is q (some (putR ⟨f0, f1, f2, f3, f4, f5, f6⟩)) (some []) f0 f1 f2 f3 f4 f5 f6 (by rw [← List.append_nil (putR ⟨f0, f1, f2, f3, f4, f5, f6⟩)]; exact takeR_some (rdR_put HR64.out [])) (by rw [← List.append_nil (putR ⟨f0, f1, f2, f3, f4, f5, f6⟩), rdR_put HR64.out []]) W h)
  have CD := Lib.hid (fun b W h => Wire.rddone_is b (some []) true W h rfl)
  go_wp2_with fail
  go_region_held3 (fun w' => ((w'.cell? ⟨w.heap.size + 1, 0, none⟩ = some (.int .i64 e0) ∧ w'.cell? ⟨w.heap.size + 1, 1, none⟩ = some (.int .i64 e1) ∧ w'.cell? ⟨w.heap.size + 1, 2, none⟩ = some (.int .i64 e2) ∧ w'.cell? ⟨w.heap.size + 1, 3, none⟩ = some (.bool e3) ∧ w'.cell? ⟨w.heap.size + 1, 4, none⟩ = some (.int .i64 e4) ∧ w'.cell? ⟨w.heap.size + 1, 5, none⟩ = some (.int .i64 e5) ∧ w'.cell? ⟨w.heap.size + 1, 6, none⟩ = some (.bool e6)) ∧ (w'.cell? ⟨w.heap.size + 2, 0, none⟩ = some (.int .i64 f0) ∧ w'.cell? ⟨w.heap.size + 2, 1, none⟩ = some (.int .i64 f1) ∧ w'.cell? ⟨w.heap.size + 2, 2, none⟩ = some (.int .i64 f2) ∧ w'.cell? ⟨w.heap.size + 2, 3, none⟩ = some (.int .i64 f3) ∧ w'.cell? ⟨w.heap.size + 2, 4, none⟩ = some (.bool f4) ∧ w'.cell? ⟨w.heap.size + 2, 5, none⟩ = some (.int .i64 f5) ∧ w'.cell? ⟨w.heap.size + 2, 6, none⟩ = some (.int .i64 f6))))
    (first | with_reducible exact k0 | with_reducible exact k8 | with_reducible exact k9 | with_reducible exact ka | with_reducible exact kb)
    (first
      | ((with_reducible refine (CD.out q wa qa).mono ?_); rintro e wb ⟨rfl, hbb⟩; have hEb := hEa.keep hbb; have hRb := hRa.keep hbb; have hXb := hXa2.keep hbb; have hBb := below_keep hBa hbb hBa.size; have kb := And.intro (cells7 hEb) (cells7 hRb))
      | (go_at_call 26; refine (CTR.out w9 q9).mono ?_; rintro e wa ⟨rfl, qa, ga⟩; have hEa : At7 23 wa (w.heap.size + 1) (.int .i64 e0) (.int .i64 e1) (.int .i64 e2) (.bool e3) (.int .i64 e4) (.int .i64 e5) (.bool e6) := kept h9 ga NEQ.out; have hRa : At7 25 wa (w.heap.size + 2) (.int .i64 f0) (.int .i64 f1) (.int .i64 f2) (.int .i64 f3) (.bool f4) (.int .i64 f5) (.int .i64 f6) := kept h9r ga NRQ.out; have hXa2 : At17 27 wa w.heap.size (.int .i64 n0) (.bool n1) (.int .i64 n2) (.int .i64 x0) (.int .i64 x1) (.int .i64 x2) (.bool x3) (.int .i64 x4) (.int .i64 x5) (.bool x6) (.int .i64 r0) (.int .i64 r1) (.int .i64 r2) (.int .i64 r3) (.bool r4) (.int .i64 r5) (.int .i64 r6) := kept h9x ga NXQ.out; have hBa := hB9.trans (rd_below ga q9 NBQ.out); have ka := And.intro (cells7 hEa) (cells7 hRa))
      | ((with_reducible refine (CD.out p w8 p8).mono ?_); rintro e w9 ⟨rfl, hb9⟩; have h9 := hE8.keep hb9; have h9r := hR8.keep hb9; have h9x := hX8.keep hb9; have q9 := RdAt.below q8 hb9; have hB9 := below_keep hB8 hb9 hB8.size; have k9 := And.intro (cells7 h9) (cells7 h9r))
      | (go_at_call 20; refine CTE.out.mono ?_; rintro e w8 ⟨rfl, p8, g8⟩; have hE8 : At7 23 w8 (w.heap.size + 1) (.int .i64 e0) (.int .i64 e1) (.int .i64 e2) (.bool e3) (.int .i64 e4) (.int .i64 e5) (.bool e6) := kept hE7 g8 NEP.out; have hR8 : At7 25 w8 (w.heap.size + 2) (.int .i64 f0) (.int .i64 f1) (.int .i64 f2) (.int .i64 f3) (.bool f4) (.int .i64 f5) (.int .i64 f6) := kept hR7 g8 NRP.out; have hX8 : At17 27 w8 w.heap.size (.int .i64 n0) (.bool n1) (.int .i64 n2) (.int .i64 x0) (.int .i64 x1) (.int .i64 x2) (.bool x3) (.int .i64 x4) (.int .i64 x5) (.bool x6) (.int .i64 r0) (.int .i64 r1) (.int .i64 r2) (.int .i64 r3) (.bool r4) (.int .i64 r5) (.int .i64 r6) := kept hX7 g8 NXP.out; have q8 : RdAt w8 q (some (putR ⟨f0, f1, f2, f3, f4, f5, f6⟩)) := RdAt.keep hQ7 (g8.block q hQ7.lt (fun e => by cases e; exact Nat.lt_irrefl _ HPL.out)); have hB8 := HBa.out.drew.trans (rd_below g8 hP7 NBP.out); have k8 := And.intro (cells7 hE8) (cells7 hR8)))
  have HBE := Lib.hid hBb
  have HXE := Lib.hid hXb
  have HEE := Lib.hid hEb
  have HRE := Lib.hid hRb
  have t0 : (⟨#[]⟩ : ByteArray).toList.isEmpty = true := Wire.empty_yes _ rfl
  have CP := Lib.hid (put_no n0 n1 n2 x0 x1 x2 x3 x4 x5 x6 r0 r1 r2 r3 r4 r5 r6 hfx wb)
  go_wp2_with (refine ld17 HXE.out (.tmp 4) (by kernel_rfl) rfl rfl ?_)
  refine CP.out.mono ?_
  rintro e wc ⟨rfl, hb⟩
  have HBF := Lib.hid (below_keep HBE.out hb HBE.out.size)
  have HXF := Lib.hid (HXE.out.keep hb)
  have CF := Lib.hid (fit_is n0 n1 n2 x0 x1 x2 x3 x4 x5 x6 r0 r1 r2 r3 r4 r5 r6 false hfx wc)
  clear hb HBE HXE HEE HRE CP
  go_wp2_with (refine ld17 HXF.out (.tmp 4) (by kernel_rfl) rfl rfl ?_)
  refine CF.out.mono ?_
  rintro e wd ⟨rfl, hb⟩
  have HBG := Lib.hid (below_keep HBF.out hb HBF.out.size)
  clear hb HBF HXF CF
  go_wp2_with fail
  refine (awake_any _).mono ?_
  rintro e we ⟨rfl, hb⟩
  have HBH := Lib.hid (below_keep HBG.out hb HBG.out.size)
  clear hb HBG
  go_wp2_with fail
  go_ret
  exact ⟨rfl, HBH.out⟩

set_option maxHeartbeats 8000000 in
theorem back_none_yes (n0 : Int) (n1 : Bool) (n2 : Int) (x0 : Int) (x1 : Int) (x2 : Int) (x3 : Bool) (x4 : Int) (x5 : Int) (x6 : Bool) (r0 : Int) (r1 : Int) (r2 : Int) (r3 : Int) (r4 : Bool) (r5 : Int) (r6 : Int) (e0 : Int) (e1 : Int) (e2 : Int) (e3 : Bool) (e4 : Int) (e5 : Int) (e6 : Bool) (f0 : Int) (f1 : Int) (f2 : Int) (f3 : Int) (f4 : Bool) (f5 : Int) (f6 : Int) (he : E64 ⟨e0, e1, e2, e3, e4, e5, e6⟩) (hr : R64 ⟨f0, f1, f2, f3, f4, f5, f6⟩) (s : ByteArray) (h200 : ¬ (200 : Int) < (s.size : Int)) (hfx : fitV ⟨n0, n1, n2, ⟨x0, x1, x2, x3, x4, x5, x6⟩, ⟨r0, r1, r2, r3, r4, r5, r6⟩⟩ = true) (hn : takeV s.data.toList = none) (w : World) : Calls Try.prog 5 #[vv n0 n1 n2 x0 x1 x2 x3 x4 x5 x6 r0 r1 r2 r3 r4 r5 r6, (.agg #[.int .i64 e0, .int .i64 e1, .int .i64 e2, .bool e3, .int .i64 e4, .int .i64 e5, .bool e6]), (.agg #[.int .i64 f0, .int .i64 f1, .int .i64 f2, .int .i64 f3, .bool f4, .int .i64 f5, .int .i64 f6]), .string s] w fun e w' => e = .returned (.bool true) ∧ Below w.heap.size w w' := by
  have hB0 : Below w.heap.size w (((w.alloc (.cells #[.int .i64 n0, .bool n1, .int .i64 n2, .int .i64 x0, .int .i64 x1, .int .i64 x2, .bool x3, .int .i64 x4, .int .i64 x5, .bool x6, .int .i64 r0, .int .i64 r1, .int .i64 r2, .int .i64 r3, .bool r4, .int .i64 r5, .int .i64 r6] 27)).alloc (.cells #[.int .i64 e0, .int .i64 e1, .int .i64 e2, .bool e3, .int .i64 e4, .int .i64 e5, .bool e6] 23)).alloc (.cells #[.int .i64 f0, .int .i64 f1, .int .i64 f2, .int .i64 f3, .bool f4, .int .i64 f5, .int .i64 f6] 25)) := (((Below.refl _ w).alloc (Nat.le_refl _) _).alloc (by simp) _).alloc (by rw [World.size_alloc, World.size_alloc]; omega) _
  have hX0 : At17 27 (((w.alloc (.cells #[.int .i64 n0, .bool n1, .int .i64 n2, .int .i64 x0, .int .i64 x1, .int .i64 x2, .bool x3, .int .i64 x4, .int .i64 x5, .bool x6, .int .i64 r0, .int .i64 r1, .int .i64 r2, .int .i64 r3, .bool r4, .int .i64 r5, .int .i64 r6] 27)).alloc (.cells #[.int .i64 e0, .int .i64 e1, .int .i64 e2, .bool e3, .int .i64 e4, .int .i64 e5, .bool e6] 23)).alloc (.cells #[.int .i64 f0, .int .i64 f1, .int .i64 f2, .int .i64 f3, .bool f4, .int .i64 f5, .int .i64 f6] 25)) w.heap.size (.int .i64 n0) (.bool n1) (.int .i64 n2) (.int .i64 x0) (.int .i64 x1) (.int .i64 x2) (.bool x3) (.int .i64 x4) (.int .i64 x5) (.bool x6) (.int .i64 r0) (.int .i64 r1) (.int .i64 r2) (.int .i64 r3) (.bool r4) (.int .i64 r5) (.int .i64 r6) := ((at17_new 27 w (.int .i64 n0) (.bool n1) (.int .i64 n2) (.int .i64 x0) (.int .i64 x1) (.int .i64 x2) (.bool x3) (.int .i64 x4) (.int .i64 x5) (.bool x6) (.int .i64 r0) (.int .i64 r1) (.int .i64 r2) (.int .i64 r3) (.bool r4) (.int .i64 r5) (.int .i64 r6)).alloc _).alloc _
  have hE0 := (at7_new 23 (w.alloc (.cells #[.int .i64 n0, .bool n1, .int .i64 n2, .int .i64 x0, .int .i64 x1, .int .i64 x2, .bool x3, .int .i64 x4, .int .i64 x5, .bool x6, .int .i64 r0, .int .i64 r1, .int .i64 r2, .int .i64 r3, .bool r4, .int .i64 r5, .int .i64 r6] 27)) (.int .i64 e0) (.int .i64 e1) (.int .i64 e2) (.bool e3) (.int .i64 e4) (.int .i64 e5) (.bool e6)).alloc (.cells #[.int .i64 f0, .int .i64 f1, .int .i64 f2, .int .i64 f3, .bool f4, .int .i64 f5, .int .i64 f6] 25)
  have hR0 := at7_new 25 ((w.alloc (.cells #[.int .i64 n0, .bool n1, .int .i64 n2, .int .i64 x0, .int .i64 x1, .int .i64 x2, .bool x3, .int .i64 x4, .int .i64 x5, .bool x6, .int .i64 r0, .int .i64 r1, .int .i64 r2, .int .i64 r3, .bool r4, .int .i64 r5, .int .i64 r6] 27)).alloc (.cells #[.int .i64 e0, .int .i64 e1, .int .i64 e2, .bool e3, .int .i64 e4, .int .i64 e5, .bool e6] 23)) (.int .i64 f0) (.int .i64 f1) (.int .i64 f2) (.int .i64 f3) (.bool f4) (.int .i64 f5) (.int .i64 f6)
  rw [World.size_alloc] at hE0 hR0
  rw [World.size_alloc] at hR0
  obtain ⟨w0, hw0⟩ : ∃ w0, (((w.alloc (.cells #[.int .i64 n0, .bool n1, .int .i64 n2, .int .i64 x0, .int .i64 x1, .int .i64 x2, .bool x3, .int .i64 x4, .int .i64 x5, .bool x6, .int .i64 r0, .int .i64 r1, .int .i64 r2, .int .i64 r3, .bool r4, .int .i64 r5, .int .i64 r6] 27)).alloc (.cells #[.int .i64 e0, .int .i64 e1, .int .i64 e2, .bool e3, .int .i64 e4, .int .i64 e5, .bool e6] 23)).alloc (.cells #[.int .i64 f0, .int .i64 f1, .int .i64 f2, .int .i64 f3, .bool f4, .int .i64 f5, .int .i64 f6] 25)) = w0 := ⟨_, rfl⟩
  rw [hw0] at hB0 hX0 hE0 hR0
  have HW := Lib.hid hw0
  have HB0 := Lib.hid hB0
  have HX0 := Lib.hid hX0
  have HE0 := Lib.hid hE0
  have HR0 := Lib.hid hR0
  obtain ⟨pa, hpa⟩ : ∃ a, bs (putE ⟨e0, e1, e2, e3, e4, e5, e6⟩) = a := ⟨_, rfl⟩
  obtain ⟨pb, hpb⟩ : ∃ a, bs (putR ⟨f0, f1, f2, f3, f4, f5, f6⟩) = a := ⟨_, rfl⟩
  have hpal : pa.data.toList = putE ⟨e0, e1, e2, e3, e4, e5, e6⟩ := by rw [← hpa, data_bs]
  have hpbl : pb.data.toList = putR ⟨f0, f1, f2, f3, f4, f5, f6⟩ := by rw [← hpb, data_bs]
  have hpas : pa.size ≤ 100 := by rw [size_list, hpal]; have := putE_len he; omega
  have hpbs : pb.size ≤ 100 := by rw [size_list, hpbl]; have := putR_len hr; omega
  have CPE := Lib.hid (fun W => pute_is e0 e1 e2 e3 e4 e5 e6 pa hpa he W)
  have CPR := Lib.hid (fun W => putr_is f0 f1 f2 f3 f4 f5 f6 pb hpb hr W)
  have CNA : Hid (∀ W, _) := Lib.hid (fun W => Wire.new_any pa W (by omega))
  have CNB : Hid (∀ W, _) := Lib.hid (fun W => Wire.new_any pb W (by omega))
  rw [hpal] at CNA
  rw [hpbl] at CNB
  have HE64 := Lib.hid he
  have HR64 := Lib.hid hr
  clear hw0 hB0 hX0 hE0 hR0 hpa hpb hpal hpbl he hr
  have CT := Lib.hid (fun W => take_is s 0 false 0 0 0 0 false 0 0 false 0 0 0 0 false 0 0 7 (by rw [hn]; rfl) (by rw [hn]; rfl) (by omega) W)
  clear hn
  go_enter Try.func5, Try.ntmps5
  go_wp2_with fail
  rw [show (((w.alloc (.cells #[.int .i64 n0, .bool n1, .int .i64 n2, .int .i64 x0, .int .i64 x1, .int .i64 x2, .bool x3, .int .i64 x4, .int .i64 x5, .bool x6, .int .i64 r0, .int .i64 r1, .int .i64 r2, .int .i64 r3, .bool r4, .int .i64 r5, .int .i64 r6] 27)).alloc (.cells #[.int .i64 e0, .int .i64 e1, .int .i64 e2, .bool e3, .int .i64 e4, .int .i64 e5, .bool e6] 23)).alloc (.cells #[.int .i64 f0, .int .i64 f1, .int .i64 f2, .int .i64 f3, .bool f4, .int .i64 f5, .int .i64 f6] 25)) = w0 from HW.out]
  refine (CT.out _).mono ?_
  rintro e w1 ⟨rfl, hb⟩
  have HB1 := Lib.hid (below_keep HB0.out hb HB0.out.size)
  have HX1 := Lib.hid (HX0.out.keep hb)
  have HE1 := Lib.hid (HE0.out.keep hb)
  have HR1 := Lib.hid (HR0.out.keep hb)
  clear HB0 HX0 HE0 HR0
  clear hb CT
  go_simp
  rename_i K1 hK1
  refine hK1 _ _ ?_
  clear hK1 K1
  iterate 4 (refine wpList_plain rfl fun K hK => ?_; go_simp; refine hK _ _ ?_; clear hK K)
  refine st17 (at17_new 27 w1 (.int .i64 0) (.bool false) (.int .i64 0) (.int .i64 0) (.int .i64 0) (.int .i64 0) (.bool false) (.int .i64 0) (.int .i64 0) (.bool false) (.int .i64 0) (.int .i64 0) (.int .i64 0) (.int .i64 0) (.bool false) (.int .i64 0) (.int .i64 0)) (.tmp 9) (.tmp 30) rfl rfl rfl rfl rfl ?_
  simp only [Act.put, List.setIfInBounds_toArray, List.set_cons_succ, List.set_cons_zero]
  have hn := new_below w1 (.int .i64 0) (.bool false) (.int .i64 0) (.int .i64 0) (.int .i64 0) (.int .i64 0) (.bool false) (.int .i64 0) (.int .i64 0) (.bool false) (.int .i64 0) (.int .i64 0) (.int .i64 0) (.int .i64 0) (.bool false) (.int .i64 0) (.int .i64 0)
  have hY := new_at w1 (.int .i64 0) (.bool false) (.int .i64 0) (.int .i64 0) (.int .i64 0) (.int .i64 0) (.bool false) (.int .i64 0) (.int .i64 0) (.bool false) (.int .i64 0) (.int .i64 0) (.int .i64 0) (.int .i64 0) (.bool false) (.int .i64 0) (.int .i64 0)
  have hb := below_keep HB1.out hn HB1.out.size
  have hx := HX1.out.keep hn
  have he := HE1.out.keep hn
  have hr := HR1.out.keep hn
  obtain ⟨p2, hp⟩ : ∃ p, w1.heap.size = p := ⟨_, rfl⟩
  obtain ⟨u2, hu⟩ : ∃ u, put17 (w1.alloc (.cells #[.int .i64 0, .bool false, .int .i64 0, .int .i64 0, .int .i64 0, .int .i64 0, .bool false, .int .i64 0, .int .i64 0, .bool false, .int .i64 0, .int .i64 0, .int .i64 0, .int .i64 0, .bool false, .int .i64 0, .int .i64 0] 27)) w1.heap.size (.int .i64 0) (.bool false) (.int .i64 0) (.int .i64 0) (.int .i64 0) (.int .i64 0) (.bool false) (.int .i64 0) (.int .i64 0) (.bool false) (.int .i64 0) (.int .i64 0) (.int .i64 0) (.int .i64 0) (.bool false) (.int .i64 0) (.int .i64 0) = u := ⟨_, rfl⟩
  rw [hu] at hY hb hx he hr
  rw [hp] at hY
  rw [show put17 (w1.alloc (.cells #[.int .i64 0, .bool false, .int .i64 0, .int .i64 0, .int .i64 0, .int .i64 0, .bool false, .int .i64 0, .int .i64 0, .bool false, .int .i64 0, .int .i64 0, .int .i64 0, .int .i64 0, .bool false, .int .i64 0, .int .i64 0] 27)) w1.heap.size (.int .i64 0) (.bool false) (.int .i64 0) (.int .i64 0) (.int .i64 0) (.int .i64 0) (.bool false) (.int .i64 0) (.int .i64 0) (.bool false) (.int .i64 0) (.int .i64 0) (.int .i64 0) (.int .i64 0) (.bool false) (.int .i64 0) (.int .i64 0) = u2 from hu, hp]
  have HB2 := Lib.hid hb
  have HX2 := Lib.hid hx
  have HE2 := Lib.hid he
  have HR2 := Lib.hid hr
  have HY2 := Lib.hid hY
  clear hn hY hb hx he hr hu hp HB1 HX1 HE1 HR1
  have HKS : Hid (∀ w', Below u2.heap.size u2 w' → ((w'.cell? ⟨w.heap.size + 1, 0, none⟩ = some (.int .i64 e0) ∧ w'.cell? ⟨w.heap.size + 1, 1, none⟩ = some (.int .i64 e1) ∧ w'.cell? ⟨w.heap.size + 1, 2, none⟩ = some (.int .i64 e2) ∧ w'.cell? ⟨w.heap.size + 1, 3, none⟩ = some (.bool e3) ∧ w'.cell? ⟨w.heap.size + 1, 4, none⟩ = some (.int .i64 e4) ∧ w'.cell? ⟨w.heap.size + 1, 5, none⟩ = some (.int .i64 e5) ∧ w'.cell? ⟨w.heap.size + 1, 6, none⟩ = some (.bool e6)) ∧ (w'.cell? ⟨w.heap.size + 2, 0, none⟩ = some (.int .i64 f0) ∧ w'.cell? ⟨w.heap.size + 2, 1, none⟩ = some (.int .i64 f1) ∧ w'.cell? ⟨w.heap.size + 2, 2, none⟩ = some (.int .i64 f2) ∧ w'.cell? ⟨w.heap.size + 2, 3, none⟩ = some (.int .i64 f3) ∧ w'.cell? ⟨w.heap.size + 2, 4, none⟩ = some (.bool f4) ∧ w'.cell? ⟨w.heap.size + 2, 5, none⟩ = some (.int .i64 f5) ∧ w'.cell? ⟨w.heap.size + 2, 6, none⟩ = some (.int .i64 f6)))) := fun w' hb => ⟨cells7 (HE2.out.keep hb), cells7 (HR2.out.keep hb)⟩
  have b0 : Below u2.heap.size u2 u2.drew := (Below.refl _ u2).drew
  have k0 := HKS.out _ b0
  go_wp2_with fail
  go_region_held3 (fun w' => ((w'.cell? ⟨w.heap.size + 1, 0, none⟩ = some (.int .i64 e0) ∧ w'.cell? ⟨w.heap.size + 1, 1, none⟩ = some (.int .i64 e1) ∧ w'.cell? ⟨w.heap.size + 1, 2, none⟩ = some (.int .i64 e2) ∧ w'.cell? ⟨w.heap.size + 1, 3, none⟩ = some (.bool e3) ∧ w'.cell? ⟨w.heap.size + 1, 4, none⟩ = some (.int .i64 e4) ∧ w'.cell? ⟨w.heap.size + 1, 5, none⟩ = some (.int .i64 e5) ∧ w'.cell? ⟨w.heap.size + 1, 6, none⟩ = some (.bool e6)) ∧ (w'.cell? ⟨w.heap.size + 2, 0, none⟩ = some (.int .i64 f0) ∧ w'.cell? ⟨w.heap.size + 2, 1, none⟩ = some (.int .i64 f1) ∧ w'.cell? ⟨w.heap.size + 2, 2, none⟩ = some (.int .i64 f2) ∧ w'.cell? ⟨w.heap.size + 2, 3, none⟩ = some (.int .i64 f3) ∧ w'.cell? ⟨w.heap.size + 2, 4, none⟩ = some (.bool f4) ∧ w'.cell? ⟨w.heap.size + 2, 5, none⟩ = some (.int .i64 f5) ∧ w'.cell? ⟨w.heap.size + 2, 6, none⟩ = some (.int .i64 f6))))
    (first | with_reducible exact k0 | with_reducible exact k4 | with_reducible exact k5 | with_reducible exact k6 | with_reducible exact k7)
    (first
      | ((with_reducible refine (CNB.out w6).mono ?_); rintro e w7 ⟨rfl, hq7, hb7⟩; have b7 := below_keep b6 hb7 b6.size; have k7 := HKS.out _ b7)
      | ((with_reducible refine (CPR.out w5).mono ?_); rintro e w6 ⟨rfl, hb6⟩; have b6 := below_keep b5 hb6 b5.size; have k6 := HKS.out _ b6)
      | ((with_reducible refine (CNA.out w4).mono ?_); rintro e w5 ⟨rfl, hq5, hb5⟩; have b5 := below_keep b4 hb5 b4.size; have k5 := HKS.out _ b5)
      | ((with_reducible refine (CPE.out u2.drew).mono ?_); rintro e w4 ⟨rfl, hb4⟩; have b4 := below_keep b0 hb4 b0.size; have k4 := HKS.out _ b4))
  have hp7 := RdAt.below (RdAt.below hq5 hb6) hb7
  have hpl : w4.heap.size < w6.heap.size := by have := hq5.lt; have := hb6.size; omega
  have hel : w.heap.size + 1 < w4.heap.size := by have := heap_lt HE2.out; have := b4.size; omega
  have hrl : w.heap.size + 2 < w4.heap.size := by have := heap_lt HR2.out; have := b4.size; omega
  obtain ⟨p, hp⟩ : ∃ p, w4.heap.size = p := ⟨_, rfl⟩
  obtain ⟨q, hq⟩ : ∃ q, w6.heap.size = q := ⟨_, rfl⟩
  rw [hp] at hp7 hpl hel hrl
  rw [hq] at hq7 hpl
  rw [hp, hq]
  have HP7 := Lib.hid hp7
  have HQ7 := Lib.hid hq7
  have HPL := Lib.hid hpl
  have HEL := Lib.hid hel
  have HRL := Lib.hid hrl
  have NEP : Hid (w.heap.size + 1 ≠ p) := Nat.ne_of_lt hel
  have NRP : Hid (w.heap.size + 2 ≠ p) := Nat.ne_of_lt hrl
  have NXP : Hid (w.heap.size ≠ p) := by show _ ≠ _; omega
  have NBP : Hid (w.heap.size ≤ p) := by show _ ≤ _; omega
  have NEQ : Hid (w.heap.size + 1 ≠ q) := by show _ ≠ _; omega
  have NRQ : Hid (w.heap.size + 2 ≠ q) := by show _ ≠ _; omega
  have NXQ : Hid (w.heap.size ≠ q) := by show _ ≠ _; omega
  have NBQ : Hid (w.heap.size ≤ q) := by show _ ≤ _; omega
  have HBa := Lib.hid (below_keep HB2.out b7 HB2.out.size)
  have HXa := Lib.hid (HX2.out.keep b7)
  have HEa := Lib.hid (HE2.out.keep b7)
  have HRa := Lib.hid (HR2.out.keep b7)
  clear HB2 HX2 HE2 HR2
  clear hp7 hq7 hpl hel hrl hp hq k0 k4 k5 k6 k7 b0 b4 b5 b6 b7 hb4 hb5 hb6 hb7 hq5 HKS
  have hE7 : At7 23 w7.drew (w.heap.size + 1) (.int .i64 e0) (.int .i64 e1) (.int .i64 e2) (.bool e3) (.int .i64 e4) (.int .i64 e5) (.bool e6) := HEa.out
  have hR7 : At7 25 w7.drew (w.heap.size + 2) (.int .i64 f0) (.int .i64 f1) (.int .i64 f2) (.int .i64 f3) (.bool f4) (.int .i64 f5) (.int .i64 f6) := HRa.out
  have hX7 : At17 27 w7.drew w.heap.size (.int .i64 n0) (.bool n1) (.int .i64 n2) (.int .i64 x0) (.int .i64 x1) (.int .i64 x2) (.bool x3) (.int .i64 x4) (.int .i64 x5) (.bool x6) (.int .i64 r0) (.int .i64 r1) (.int .i64 r2) (.int .i64 r3) (.bool r4) (.int .i64 r5) (.int .i64 r6) := HXa.out
  have hP7 : RdAt w7.drew p (some (putE ⟨e0, e1, e2, e3, e4, e5, e6⟩)) := HP7.out
  have hQ7 : RdAt w7.drew q (some (putR ⟨f0, f1, f2, f3, f4, f5, f6⟩)) := HQ7.out
  have k0 : ((w7.drew.cell? ⟨w.heap.size + 1, 0, none⟩ = some (.int .i64 e0) ∧ w7.drew.cell? ⟨w.heap.size + 1, 1, none⟩ = some (.int .i64 e1) ∧ w7.drew.cell? ⟨w.heap.size + 1, 2, none⟩ = some (.int .i64 e2) ∧ w7.drew.cell? ⟨w.heap.size + 1, 3, none⟩ = some (.bool e3) ∧ w7.drew.cell? ⟨w.heap.size + 1, 4, none⟩ = some (.int .i64 e4) ∧ w7.drew.cell? ⟨w.heap.size + 1, 5, none⟩ = some (.int .i64 e5) ∧ w7.drew.cell? ⟨w.heap.size + 1, 6, none⟩ = some (.bool e6)) ∧ (w7.drew.cell? ⟨w.heap.size + 2, 0, none⟩ = some (.int .i64 f0) ∧ w7.drew.cell? ⟨w.heap.size + 2, 1, none⟩ = some (.int .i64 f1) ∧ w7.drew.cell? ⟨w.heap.size + 2, 2, none⟩ = some (.int .i64 f2) ∧ w7.drew.cell? ⟨w.heap.size + 2, 3, none⟩ = some (.int .i64 f3) ∧ w7.drew.cell? ⟨w.heap.size + 2, 4, none⟩ = some (.bool f4) ∧ w7.drew.cell? ⟨w.heap.size + 2, 5, none⟩ = some (.int .i64 f5) ∧ w7.drew.cell? ⟨w.heap.size + 2, 6, none⟩ = some (.int .i64 f6))) := ⟨cells7 HEa.out, cells7 HRa.out⟩
  have qe := fun W => Outbox.neq_en e0 e1 e2 e3 e4 e5 e6 e0 e1 e2 e3 e4 e5 e6 W
  rw [eqE_out, eqE_self] at qe
  have qr := fun W => neq_r f0 f1 f2 f3 f4 f5 f6 f0 f1 f2 f3 f4 f5 f6 W
  rw [eqR_self] at qr
  have ge := fun x y u v W => guard_e .neq x y u v W
  have gr := fun x y u v W => guard_r .neq x y u v W
  have CTE := Lib.hid (takee_is p (some (putE ⟨e0, e1, e2, e3, e4, e5, e6⟩)) (some []) e0 e1 e2 e3 e4 e5 e6 (by rw [← List.append_nil (putE ⟨e0, e1, e2, e3, e4, e5, e6⟩)]; exact takeE_some (rdE_put HE64.out [])) (by rw [← List.append_nil (putE ⟨e0, e1, e2, e3, e4, e5, e6⟩), rdE_put HE64.out []]) w7.drew hP7)
  have CTR := Lib.hid (fun W h => taker_is q (some (putR ⟨f0, f1, f2, f3, f4, f5, f6⟩)) (some []) f0 f1 f2 f3 f4 f5 f6 (by rw [← List.append_nil (putR ⟨f0, f1, f2, f3, f4, f5, f6⟩)]; exact takeR_some (rdR_put HR64.out [])) (by rw [← List.append_nil (putR ⟨f0, f1, f2, f3, f4, f5, f6⟩), rdR_put HR64.out []]) W h)
  have CD := Lib.hid (fun b W h => Wire.rddone_is b (some []) true W h rfl)
  go_wp2_with fail
  go_region_held3 (fun w' => ((w'.cell? ⟨w.heap.size + 1, 0, none⟩ = some (.int .i64 e0) ∧ w'.cell? ⟨w.heap.size + 1, 1, none⟩ = some (.int .i64 e1) ∧ w'.cell? ⟨w.heap.size + 1, 2, none⟩ = some (.int .i64 e2) ∧ w'.cell? ⟨w.heap.size + 1, 3, none⟩ = some (.bool e3) ∧ w'.cell? ⟨w.heap.size + 1, 4, none⟩ = some (.int .i64 e4) ∧ w'.cell? ⟨w.heap.size + 1, 5, none⟩ = some (.int .i64 e5) ∧ w'.cell? ⟨w.heap.size + 1, 6, none⟩ = some (.bool e6)) ∧ (w'.cell? ⟨w.heap.size + 2, 0, none⟩ = some (.int .i64 f0) ∧ w'.cell? ⟨w.heap.size + 2, 1, none⟩ = some (.int .i64 f1) ∧ w'.cell? ⟨w.heap.size + 2, 2, none⟩ = some (.int .i64 f2) ∧ w'.cell? ⟨w.heap.size + 2, 3, none⟩ = some (.int .i64 f3) ∧ w'.cell? ⟨w.heap.size + 2, 4, none⟩ = some (.bool f4) ∧ w'.cell? ⟨w.heap.size + 2, 5, none⟩ = some (.int .i64 f5) ∧ w'.cell? ⟨w.heap.size + 2, 6, none⟩ = some (.int .i64 f6))))
    (first | with_reducible exact k0 | with_reducible exact k8 | with_reducible exact k9 | with_reducible exact ka | with_reducible exact kb)
    (first
      | ((with_reducible refine (CD.out q wa qa).mono ?_); rintro e wb ⟨rfl, hbb⟩; have hEb := hEa.keep hbb; have hRb := hRa.keep hbb; have hXb := hXa2.keep hbb; have hBb := below_keep hBa hbb hBa.size; have kb := And.intro (cells7 hEb) (cells7 hRb))
      | (go_at_call 26; refine (CTR.out w9 q9).mono ?_; rintro e wa ⟨rfl, qa, ga⟩; have hEa : At7 23 wa (w.heap.size + 1) (.int .i64 e0) (.int .i64 e1) (.int .i64 e2) (.bool e3) (.int .i64 e4) (.int .i64 e5) (.bool e6) := kept h9 ga NEQ.out; have hRa : At7 25 wa (w.heap.size + 2) (.int .i64 f0) (.int .i64 f1) (.int .i64 f2) (.int .i64 f3) (.bool f4) (.int .i64 f5) (.int .i64 f6) := kept h9r ga NRQ.out; have hXa2 : At17 27 wa w.heap.size (.int .i64 n0) (.bool n1) (.int .i64 n2) (.int .i64 x0) (.int .i64 x1) (.int .i64 x2) (.bool x3) (.int .i64 x4) (.int .i64 x5) (.bool x6) (.int .i64 r0) (.int .i64 r1) (.int .i64 r2) (.int .i64 r3) (.bool r4) (.int .i64 r5) (.int .i64 r6) := kept h9x ga NXQ.out; have hBa := hB9.trans (rd_below ga q9 NBQ.out); have ka := And.intro (cells7 hEa) (cells7 hRa))
      | ((with_reducible refine (CD.out p w8 p8).mono ?_); rintro e w9 ⟨rfl, hb9⟩; have h9 := hE8.keep hb9; have h9r := hR8.keep hb9; have h9x := hX8.keep hb9; have q9 := RdAt.below q8 hb9; have hB9 := below_keep hB8 hb9 hB8.size; have k9 := And.intro (cells7 h9) (cells7 h9r))
      | (go_at_call 20; refine CTE.out.mono ?_; rintro e w8 ⟨rfl, p8, g8⟩; have hE8 : At7 23 w8 (w.heap.size + 1) (.int .i64 e0) (.int .i64 e1) (.int .i64 e2) (.bool e3) (.int .i64 e4) (.int .i64 e5) (.bool e6) := kept hE7 g8 NEP.out; have hR8 : At7 25 w8 (w.heap.size + 2) (.int .i64 f0) (.int .i64 f1) (.int .i64 f2) (.int .i64 f3) (.bool f4) (.int .i64 f5) (.int .i64 f6) := kept hR7 g8 NRP.out; have hX8 : At17 27 w8 w.heap.size (.int .i64 n0) (.bool n1) (.int .i64 n2) (.int .i64 x0) (.int .i64 x1) (.int .i64 x2) (.bool x3) (.int .i64 x4) (.int .i64 x5) (.bool x6) (.int .i64 r0) (.int .i64 r1) (.int .i64 r2) (.int .i64 r3) (.bool r4) (.int .i64 r5) (.int .i64 r6) := kept hX7 g8 NXP.out; have q8 : RdAt w8 q (some (putR ⟨f0, f1, f2, f3, f4, f5, f6⟩)) := RdAt.keep hQ7 (g8.block q hQ7.lt (fun e => by cases e; exact Nat.lt_irrefl _ HPL.out)); have hB8 := HBa.out.drew.trans (rd_below g8 hP7 NBP.out); have k8 := And.intro (cells7 hE8) (cells7 hR8)))
  have HBE := Lib.hid hBb
  have HXE := Lib.hid hXb
  have HEE := Lib.hid hEb
  have HRE := Lib.hid hRb
  obtain ⟨t, ht⟩ : ∃ t, bs (putV ⟨n0, n1, n2, ⟨x0, x1, x2, x3, x4, x5, x6⟩, ⟨r0, r1, r2, r3, r4, r5, r6⟩⟩) = t := ⟨_, rfl⟩
  have htl : t.data.toList = putV ⟨n0, n1, n2, ⟨x0, x1, x2, x3, x4, x5, x6⟩, ⟨r0, r1, r2, r3, r4, r5, r6⟩⟩ := by rw [← ht, data_bs]
  have htn : t.size = (putV ⟨n0, n1, n2, ⟨x0, x1, x2, x3, x4, x5, x6⟩, ⟨r0, r1, r2, r3, r4, r5, r6⟩⟩).length := by rw [size_list, htl]
  have hts : t.size ≤ 100 := by rw [htn]; exact putV_len hfx
  have ht0 : 0 < t.size := by rw [htn]; exact List.length_pos_iff.2 (put_ne _)
  obtain ⟨k, hk⟩ : ∃ k, t.size = k + 1 := ⟨t.size - 1, by omega⟩
  have htk : takeV t.data.toList = some ⟨n0, n1, n2, ⟨x0, x1, x2, x3, x4, x5, x6⟩, ⟨r0, r1, r2, r3, r4, r5, r6⟩⟩ := by rw [htl]; exact take_back hfx
  have hm : takeV (t ++ ⟨#[0]⟩ : ByteArray).data.toList = none := by rw [ByteArray.data_append, Array.toList_append, htl]; exact take_more hfx (by simp)
  have hls : takeV (t.extract 0 k).data.toList = none := by rw [cut_list t k _ htl (by rw [← htn, hk])]; exact take_less hfx
  have te : t.toList.isEmpty = false := Wire.empty_no t ht0
  have g0 := fun W : World => run_string_add (P := Try.prog) W t ⟨#[0]⟩ (by omega) (by decide)
  have hi : ((t.size : Nat) : Int) - 1 = (k : Int) := by omega
  have hk0 : (0 : Int) ≤ (k : Int) := by omega
  have hk1 : (k : Int) ≤ ((t.size : Nat) : Int) := by omega
  have CP := Lib.hid (put_yes n0 n1 n2 x0 x1 x2 x3 x4 x5 x6 r0 r1 r2 r3 r4 r5 r6 hfx t ht wb)
  have CT1 := Lib.hid (fun W => take_is t n0 n1 n2 x0 x1 x2 x3 x4 x5 x6 r0 r1 r2 r3 r4 r5 r6 0 (by rw [htk]; rfl) (by rw [htk]; rfl) (by omega) W)
  have CT2 := Lib.hid (fun W => take_is (t ++ ⟨#[0]⟩) 0 false 0 0 0 0 false 0 0 false 0 0 0 0 false 0 0 7 (by rw [hm]; rfl) (by rw [hm]; rfl) (by rw [ByteArray.size_append]; have : (⟨#[0]⟩ : ByteArray).size = 1 := rfl; omega) W)
  have CT3 := Lib.hid (fun W => take_is (t.extract 0 k) 0 false 0 0 0 0 false 0 0 false 0 0 0 0 false 0 0 7 (by rw [hls]; rfl) (by rw [hls]; rfl) (by rw [ByteArray.size_extract]; omega) W)
  clear ht htl htn htk hm hls
  go_wp2_with (refine ld17 HXE.out (.tmp 4) (by kernel_rfl) rfl rfl ?_)
  refine CP.out.mono ?_
  rintro e wc ⟨rfl, hb⟩
  have HBF := Lib.hid (below_keep HBE.out hb HBE.out.size)
  have HXF := Lib.hid (HXE.out.keep hb)
  have HEF := Lib.hid (HEE.out.keep hb)
  have HRF := Lib.hid (HRE.out.keep hb)
  clear HBE HXE HEE HRE
  clear hb CP
  go_wp2_with fail
  refine (CT1.out _).mono ?_
  rintro e wd ⟨rfl, hb⟩
  have HBG := Lib.hid (below_keep HBF.out hb HBF.out.size)
  have HXG := Lib.hid (HXF.out.keep hb)
  have HEG := Lib.hid (HEF.out.keep hb)
  have HRG := Lib.hid (HRF.out.keep hb)
  clear HBF HXF HEF HRF
  clear hb CT1
  go_simp
  rename_i K1 hK1
  refine hK1 _ _ ?_
  clear hK1 K1
  iterate 4 (refine wpList_plain rfl fun K hK => ?_; go_simp; refine hK _ _ ?_; clear hK K)
  refine st17 (at17_new 27 wd (.int .i64 0) (.bool false) (.int .i64 0) (.int .i64 0) (.int .i64 0) (.int .i64 0) (.bool false) (.int .i64 0) (.int .i64 0) (.bool false) (.int .i64 0) (.int .i64 0) (.int .i64 0) (.int .i64 0) (.bool false) (.int .i64 0) (.int .i64 0)) (.tmp 17) (.tmp 102) rfl rfl rfl rfl rfl ?_
  simp only [Act.put, List.setIfInBounds_toArray, List.set_cons_succ, List.set_cons_zero]
  have hn := new_below wd (.int .i64 n0) (.bool n1) (.int .i64 n2) (.int .i64 x0) (.int .i64 x1) (.int .i64 x2) (.bool x3) (.int .i64 x4) (.int .i64 x5) (.bool x6) (.int .i64 r0) (.int .i64 r1) (.int .i64 r2) (.int .i64 r3) (.bool r4) (.int .i64 r5) (.int .i64 r6)
  have hY := new_at wd (.int .i64 n0) (.bool n1) (.int .i64 n2) (.int .i64 x0) (.int .i64 x1) (.int .i64 x2) (.bool x3) (.int .i64 x4) (.int .i64 x5) (.bool x6) (.int .i64 r0) (.int .i64 r1) (.int .i64 r2) (.int .i64 r3) (.bool r4) (.int .i64 r5) (.int .i64 r6)
  have hb := below_keep HBG.out hn HBG.out.size
  have hx := HXG.out.keep hn
  have he := HEG.out.keep hn
  have hr := HRG.out.keep hn
  obtain ⟨pH, hp⟩ : ∃ p, wd.heap.size = p := ⟨_, rfl⟩
  obtain ⟨uH, hu⟩ : ∃ u, put17 (wd.alloc (.cells #[.int .i64 0, .bool false, .int .i64 0, .int .i64 0, .int .i64 0, .int .i64 0, .bool false, .int .i64 0, .int .i64 0, .bool false, .int .i64 0, .int .i64 0, .int .i64 0, .int .i64 0, .bool false, .int .i64 0, .int .i64 0] 27)) wd.heap.size (.int .i64 n0) (.bool n1) (.int .i64 n2) (.int .i64 x0) (.int .i64 x1) (.int .i64 x2) (.bool x3) (.int .i64 x4) (.int .i64 x5) (.bool x6) (.int .i64 r0) (.int .i64 r1) (.int .i64 r2) (.int .i64 r3) (.bool r4) (.int .i64 r5) (.int .i64 r6) = u := ⟨_, rfl⟩
  rw [hu] at hY hb hx he hr
  rw [hp] at hY
  rw [show put17 (wd.alloc (.cells #[.int .i64 0, .bool false, .int .i64 0, .int .i64 0, .int .i64 0, .int .i64 0, .bool false, .int .i64 0, .int .i64 0, .bool false, .int .i64 0, .int .i64 0, .int .i64 0, .int .i64 0, .bool false, .int .i64 0, .int .i64 0] 27)) wd.heap.size (.int .i64 n0) (.bool n1) (.int .i64 n2) (.int .i64 x0) (.int .i64 x1) (.int .i64 x2) (.bool x3) (.int .i64 x4) (.int .i64 x5) (.bool x6) (.int .i64 r0) (.int .i64 r1) (.int .i64 r2) (.int .i64 r3) (.bool r4) (.int .i64 r5) (.int .i64 r6) = uH from hu, hp]
  have HBH := Lib.hid hb
  have HXH := Lib.hid hx
  have HEH := Lib.hid he
  have HRH := Lib.hid hr
  have HYH := Lib.hid hY
  clear hn hY hb hx he hr hu hp HBG HXG HEG HRG
  go_wp2_with fail
  refine (CT2.out _).mono ?_
  rintro e we ⟨rfl, hb⟩
  have HYI := Lib.hid (HYH.out.keep hb)
  have HBI := Lib.hid (below_keep HBH.out hb HBH.out.size)
  have HXI := Lib.hid (HXH.out.keep hb)
  have HEI := Lib.hid (HEH.out.keep hb)
  have HRI := Lib.hid (HRH.out.keep hb)
  clear HBH HXH HEH HRH
  clear hb CT2 HYH
  go_simp
  rename_i K1 hK1
  refine hK1 _ _ ?_
  clear hK1 K1
  iterate 4 (refine wpList_plain rfl fun K hK => ?_; go_simp; refine hK _ _ ?_; clear hK K)
  refine st17 (at17_new 27 we (.int .i64 0) (.bool false) (.int .i64 0) (.int .i64 0) (.int .i64 0) (.int .i64 0) (.bool false) (.int .i64 0) (.int .i64 0) (.bool false) (.int .i64 0) (.int .i64 0) (.int .i64 0) (.int .i64 0) (.bool false) (.int .i64 0) (.int .i64 0)) (.tmp 19) (.tmp 108) rfl rfl rfl rfl rfl ?_
  simp only [Act.put, List.setIfInBounds_toArray, List.set_cons_succ, List.set_cons_zero]
  have hn := new_below we (.int .i64 0) (.bool false) (.int .i64 0) (.int .i64 0) (.int .i64 0) (.int .i64 0) (.bool false) (.int .i64 0) (.int .i64 0) (.bool false) (.int .i64 0) (.int .i64 0) (.int .i64 0) (.int .i64 0) (.bool false) (.int .i64 0) (.int .i64 0)
  have hY := new_at we (.int .i64 0) (.bool false) (.int .i64 0) (.int .i64 0) (.int .i64 0) (.int .i64 0) (.bool false) (.int .i64 0) (.int .i64 0) (.bool false) (.int .i64 0) (.int .i64 0) (.int .i64 0) (.int .i64 0) (.bool false) (.int .i64 0) (.int .i64 0)
  have hb := below_keep HBI.out hn HBI.out.size
  have hx := HXI.out.keep hn
  have he := HEI.out.keep hn
  have hr := HRI.out.keep hn
  have hyk := HYI.out.keep hn
  obtain ⟨pJ, hp⟩ : ∃ p, we.heap.size = p := ⟨_, rfl⟩
  obtain ⟨uJ, hu⟩ : ∃ u, put17 (we.alloc (.cells #[.int .i64 0, .bool false, .int .i64 0, .int .i64 0, .int .i64 0, .int .i64 0, .bool false, .int .i64 0, .int .i64 0, .bool false, .int .i64 0, .int .i64 0, .int .i64 0, .int .i64 0, .bool false, .int .i64 0, .int .i64 0] 27)) we.heap.size (.int .i64 0) (.bool false) (.int .i64 0) (.int .i64 0) (.int .i64 0) (.int .i64 0) (.bool false) (.int .i64 0) (.int .i64 0) (.bool false) (.int .i64 0) (.int .i64 0) (.int .i64 0) (.int .i64 0) (.bool false) (.int .i64 0) (.int .i64 0) = u := ⟨_, rfl⟩
  rw [hu] at hY hb hx he hr hyk
  rw [hp] at hY
  rw [show put17 (we.alloc (.cells #[.int .i64 0, .bool false, .int .i64 0, .int .i64 0, .int .i64 0, .int .i64 0, .bool false, .int .i64 0, .int .i64 0, .bool false, .int .i64 0, .int .i64 0, .int .i64 0, .int .i64 0, .bool false, .int .i64 0, .int .i64 0] 27)) we.heap.size (.int .i64 0) (.bool false) (.int .i64 0) (.int .i64 0) (.int .i64 0) (.int .i64 0) (.bool false) (.int .i64 0) (.int .i64 0) (.bool false) (.int .i64 0) (.int .i64 0) (.int .i64 0) (.int .i64 0) (.bool false) (.int .i64 0) (.int .i64 0) = uJ from hu, hp]
  have HBJ := Lib.hid hb
  have HXJ := Lib.hid hx
  have HEJ := Lib.hid he
  have HRJ := Lib.hid hr
  have HYJ := Lib.hid hY
  have HYK := Lib.hid hyk
  clear hyk
  clear hn hY hb hx he hr hu hp HBI HXI HEI HRI
  go_wp2_with fail
  refine (CT3.out _).mono ?_
  rintro e wf ⟨rfl, hb⟩
  have HYL := Lib.hid (HYK.out.keep hb)
  have HBL := Lib.hid (below_keep HBJ.out hb HBJ.out.size)
  have HXL := Lib.hid (HXJ.out.keep hb)
  have HEL := Lib.hid (HEJ.out.keep hb)
  have HRL := Lib.hid (HRJ.out.keep hb)
  clear HBJ HXJ HEJ HRJ
  clear hb CT3 HYK
  go_simp
  rename_i K1 hK1
  refine hK1 _ _ ?_
  clear hK1 K1
  iterate 4 (refine wpList_plain rfl fun K hK => ?_; go_simp; refine hK _ _ ?_; clear hK K)
  refine st17 (at17_new 27 wf (.int .i64 0) (.bool false) (.int .i64 0) (.int .i64 0) (.int .i64 0) (.int .i64 0) (.bool false) (.int .i64 0) (.int .i64 0) (.bool false) (.int .i64 0) (.int .i64 0) (.int .i64 0) (.int .i64 0) (.bool false) (.int .i64 0) (.int .i64 0)) (.tmp 21) (.tmp 117) rfl rfl rfl rfl rfl ?_
  simp only [Act.put, List.setIfInBounds_toArray, List.set_cons_succ, List.set_cons_zero]
  have hn := new_below wf (.int .i64 0) (.bool false) (.int .i64 0) (.int .i64 0) (.int .i64 0) (.int .i64 0) (.bool false) (.int .i64 0) (.int .i64 0) (.bool false) (.int .i64 0) (.int .i64 0) (.int .i64 0) (.int .i64 0) (.bool false) (.int .i64 0) (.int .i64 0)
  have hY := new_at wf (.int .i64 0) (.bool false) (.int .i64 0) (.int .i64 0) (.int .i64 0) (.int .i64 0) (.bool false) (.int .i64 0) (.int .i64 0) (.bool false) (.int .i64 0) (.int .i64 0) (.int .i64 0) (.int .i64 0) (.bool false) (.int .i64 0) (.int .i64 0)
  have hb := below_keep HBL.out hn HBL.out.size
  have hx := HXL.out.keep hn
  have he := HEL.out.keep hn
  have hr := HRL.out.keep hn
  have hyk := HYL.out.keep hn
  obtain ⟨pM, hp⟩ : ∃ p, wf.heap.size = p := ⟨_, rfl⟩
  obtain ⟨uM, hu⟩ : ∃ u, put17 (wf.alloc (.cells #[.int .i64 0, .bool false, .int .i64 0, .int .i64 0, .int .i64 0, .int .i64 0, .bool false, .int .i64 0, .int .i64 0, .bool false, .int .i64 0, .int .i64 0, .int .i64 0, .int .i64 0, .bool false, .int .i64 0, .int .i64 0] 27)) wf.heap.size (.int .i64 0) (.bool false) (.int .i64 0) (.int .i64 0) (.int .i64 0) (.int .i64 0) (.bool false) (.int .i64 0) (.int .i64 0) (.bool false) (.int .i64 0) (.int .i64 0) (.int .i64 0) (.int .i64 0) (.bool false) (.int .i64 0) (.int .i64 0) = u := ⟨_, rfl⟩
  rw [hu] at hY hb hx he hr hyk
  rw [hp] at hY
  rw [show put17 (wf.alloc (.cells #[.int .i64 0, .bool false, .int .i64 0, .int .i64 0, .int .i64 0, .int .i64 0, .bool false, .int .i64 0, .int .i64 0, .bool false, .int .i64 0, .int .i64 0, .int .i64 0, .int .i64 0, .bool false, .int .i64 0, .int .i64 0] 27)) wf.heap.size (.int .i64 0) (.bool false) (.int .i64 0) (.int .i64 0) (.int .i64 0) (.int .i64 0) (.bool false) (.int .i64 0) (.int .i64 0) (.bool false) (.int .i64 0) (.int .i64 0) (.int .i64 0) (.int .i64 0) (.bool false) (.int .i64 0) (.int .i64 0) = uM from hu, hp]
  have HBM := Lib.hid hb
  have HXM := Lib.hid hx
  have HEM := Lib.hid he
  have HRM := Lib.hid hr
  have HYM := Lib.hid hY
  have HYN := Lib.hid hyk
  clear hyk
  clear hn hY hb hx he hr hu hp HBL HXL HEL HRL
  have q1 := fun w => eql_v n0 n1 n2 x0 x1 x2 x3 x4 x5 x6 r0 r1 r2 r3 r4 r5 r6 n0 n1 n2 x0 x1 x2 x3 x4 x5 x6 r0 r1 r2 r3 r4 r5 r6 w
  rw [eqV_self] at q1
  have q3 := fun x y u v w => guard_v .eql x y u v w
  go_wp2_with (first | (refine ld17 HYN.out (.tmp 17) (by kernel_rfl) rfl rfl ?_) | (refine ld17 HXM.out (.tmp 4) (by kernel_rfl) rfl rfl ?_))
  refine (awake_any _).mono ?_
  rintro e wg ⟨rfl, hb⟩
  have HBH := Lib.hid (below_keep HBM.out hb HBM.out.size)
  clear hb HBM
  go_wp2_with fail
  go_ret
  exact ⟨rfl, HBH.out⟩

set_option maxHeartbeats 8000000 in
theorem back_some_no (n0 : Int) (n1 : Bool) (n2 : Int) (x0 : Int) (x1 : Int) (x2 : Int) (x3 : Bool) (x4 : Int) (x5 : Int) (x6 : Bool) (r0 : Int) (r1 : Int) (r2 : Int) (r3 : Int) (r4 : Bool) (r5 : Int) (r6 : Int) (e0 : Int) (e1 : Int) (e2 : Int) (e3 : Bool) (e4 : Int) (e5 : Int) (e6 : Bool) (f0 : Int) (f1 : Int) (f2 : Int) (f3 : Int) (f4 : Bool) (f5 : Int) (f6 : Int) (he : E64 ⟨e0, e1, e2, e3, e4, e5, e6⟩) (hr : R64 ⟨f0, f1, f2, f3, f4, f5, f6⟩) (s : ByteArray) (h200 : ¬ (200 : Int) < (s.size : Int)) (hfx : fitV ⟨n0, n1, n2, ⟨x0, x1, x2, x3, x4, x5, x6⟩, ⟨r0, r1, r2, r3, r4, r5, r6⟩⟩ = false) (m0 : Int) (m1 : Bool) (m2 : Int) (y0 : Int) (y1 : Int) (y2 : Int) (y3 : Bool) (y4 : Int) (y5 : Int) (y6 : Bool) (s0 : Int) (s1 : Int) (s2 : Int) (s3 : Int) (s4 : Bool) (s5 : Int) (s6 : Int) (hn : takeV s.data.toList = some ⟨m0, m1, m2, ⟨y0, y1, y2, y3, y4, y5, y6⟩, ⟨s0, s1, s2, s3, s4, s5, s6⟩⟩) (w : World) : Calls Try.prog 5 #[vv n0 n1 n2 x0 x1 x2 x3 x4 x5 x6 r0 r1 r2 r3 r4 r5 r6, (.agg #[.int .i64 e0, .int .i64 e1, .int .i64 e2, .bool e3, .int .i64 e4, .int .i64 e5, .bool e6]), (.agg #[.int .i64 f0, .int .i64 f1, .int .i64 f2, .int .i64 f3, .bool f4, .int .i64 f5, .int .i64 f6]), .string s] w fun e w' => e = .returned (.bool true) ∧ Below w.heap.size w w' := by
  obtain ⟨hfy, hps⟩ := take_some hn
  have hB0 : Below w.heap.size w (((w.alloc (.cells #[.int .i64 n0, .bool n1, .int .i64 n2, .int .i64 x0, .int .i64 x1, .int .i64 x2, .bool x3, .int .i64 x4, .int .i64 x5, .bool x6, .int .i64 r0, .int .i64 r1, .int .i64 r2, .int .i64 r3, .bool r4, .int .i64 r5, .int .i64 r6] 27)).alloc (.cells #[.int .i64 e0, .int .i64 e1, .int .i64 e2, .bool e3, .int .i64 e4, .int .i64 e5, .bool e6] 23)).alloc (.cells #[.int .i64 f0, .int .i64 f1, .int .i64 f2, .int .i64 f3, .bool f4, .int .i64 f5, .int .i64 f6] 25)) := (((Below.refl _ w).alloc (Nat.le_refl _) _).alloc (by simp) _).alloc (by rw [World.size_alloc, World.size_alloc]; omega) _
  have hX0 : At17 27 (((w.alloc (.cells #[.int .i64 n0, .bool n1, .int .i64 n2, .int .i64 x0, .int .i64 x1, .int .i64 x2, .bool x3, .int .i64 x4, .int .i64 x5, .bool x6, .int .i64 r0, .int .i64 r1, .int .i64 r2, .int .i64 r3, .bool r4, .int .i64 r5, .int .i64 r6] 27)).alloc (.cells #[.int .i64 e0, .int .i64 e1, .int .i64 e2, .bool e3, .int .i64 e4, .int .i64 e5, .bool e6] 23)).alloc (.cells #[.int .i64 f0, .int .i64 f1, .int .i64 f2, .int .i64 f3, .bool f4, .int .i64 f5, .int .i64 f6] 25)) w.heap.size (.int .i64 n0) (.bool n1) (.int .i64 n2) (.int .i64 x0) (.int .i64 x1) (.int .i64 x2) (.bool x3) (.int .i64 x4) (.int .i64 x5) (.bool x6) (.int .i64 r0) (.int .i64 r1) (.int .i64 r2) (.int .i64 r3) (.bool r4) (.int .i64 r5) (.int .i64 r6) := ((at17_new 27 w (.int .i64 n0) (.bool n1) (.int .i64 n2) (.int .i64 x0) (.int .i64 x1) (.int .i64 x2) (.bool x3) (.int .i64 x4) (.int .i64 x5) (.bool x6) (.int .i64 r0) (.int .i64 r1) (.int .i64 r2) (.int .i64 r3) (.bool r4) (.int .i64 r5) (.int .i64 r6)).alloc _).alloc _
  have hE0 := (at7_new 23 (w.alloc (.cells #[.int .i64 n0, .bool n1, .int .i64 n2, .int .i64 x0, .int .i64 x1, .int .i64 x2, .bool x3, .int .i64 x4, .int .i64 x5, .bool x6, .int .i64 r0, .int .i64 r1, .int .i64 r2, .int .i64 r3, .bool r4, .int .i64 r5, .int .i64 r6] 27)) (.int .i64 e0) (.int .i64 e1) (.int .i64 e2) (.bool e3) (.int .i64 e4) (.int .i64 e5) (.bool e6)).alloc (.cells #[.int .i64 f0, .int .i64 f1, .int .i64 f2, .int .i64 f3, .bool f4, .int .i64 f5, .int .i64 f6] 25)
  have hR0 := at7_new 25 ((w.alloc (.cells #[.int .i64 n0, .bool n1, .int .i64 n2, .int .i64 x0, .int .i64 x1, .int .i64 x2, .bool x3, .int .i64 x4, .int .i64 x5, .bool x6, .int .i64 r0, .int .i64 r1, .int .i64 r2, .int .i64 r3, .bool r4, .int .i64 r5, .int .i64 r6] 27)).alloc (.cells #[.int .i64 e0, .int .i64 e1, .int .i64 e2, .bool e3, .int .i64 e4, .int .i64 e5, .bool e6] 23)) (.int .i64 f0) (.int .i64 f1) (.int .i64 f2) (.int .i64 f3) (.bool f4) (.int .i64 f5) (.int .i64 f6)
  rw [World.size_alloc] at hE0 hR0
  rw [World.size_alloc] at hR0
  obtain ⟨w0, hw0⟩ : ∃ w0, (((w.alloc (.cells #[.int .i64 n0, .bool n1, .int .i64 n2, .int .i64 x0, .int .i64 x1, .int .i64 x2, .bool x3, .int .i64 x4, .int .i64 x5, .bool x6, .int .i64 r0, .int .i64 r1, .int .i64 r2, .int .i64 r3, .bool r4, .int .i64 r5, .int .i64 r6] 27)).alloc (.cells #[.int .i64 e0, .int .i64 e1, .int .i64 e2, .bool e3, .int .i64 e4, .int .i64 e5, .bool e6] 23)).alloc (.cells #[.int .i64 f0, .int .i64 f1, .int .i64 f2, .int .i64 f3, .bool f4, .int .i64 f5, .int .i64 f6] 25)) = w0 := ⟨_, rfl⟩
  rw [hw0] at hB0 hX0 hE0 hR0
  have HW := Lib.hid hw0
  have HB0 := Lib.hid hB0
  have HX0 := Lib.hid hX0
  have HE0 := Lib.hid hE0
  have HR0 := Lib.hid hR0
  obtain ⟨pa, hpa⟩ : ∃ a, bs (putE ⟨e0, e1, e2, e3, e4, e5, e6⟩) = a := ⟨_, rfl⟩
  obtain ⟨pb, hpb⟩ : ∃ a, bs (putR ⟨f0, f1, f2, f3, f4, f5, f6⟩) = a := ⟨_, rfl⟩
  have hpal : pa.data.toList = putE ⟨e0, e1, e2, e3, e4, e5, e6⟩ := by rw [← hpa, data_bs]
  have hpbl : pb.data.toList = putR ⟨f0, f1, f2, f3, f4, f5, f6⟩ := by rw [← hpb, data_bs]
  have hpas : pa.size ≤ 100 := by rw [size_list, hpal]; have := putE_len he; omega
  have hpbs : pb.size ≤ 100 := by rw [size_list, hpbl]; have := putR_len hr; omega
  have CPE := Lib.hid (fun W => pute_is e0 e1 e2 e3 e4 e5 e6 pa hpa he W)
  have CPR := Lib.hid (fun W => putr_is f0 f1 f2 f3 f4 f5 f6 pb hpb hr W)
  have CNA : Hid (∀ W, _) := Lib.hid (fun W => Wire.new_any pa W (by omega))
  have CNB : Hid (∀ W, _) := Lib.hid (fun W => Wire.new_any pb W (by omega))
  rw [hpal] at CNA
  rw [hpbl] at CNB
  have HE64 := Lib.hid he
  have HR64 := Lib.hid hr
  clear hw0 hB0 hX0 hE0 hR0 hpa hpb hpal hpbl he hr
  have CT := Lib.hid (fun W => take_is s m0 m1 m2 y0 y1 y2 y3 y4 y5 y6 s0 s1 s2 s3 s4 s5 s6 0 (by rw [hn]; rfl) (by rw [hn]; rfl) (by omega) W)
  have CP2 := Lib.hid (fun W => put_yes m0 m1 m2 y0 y1 y2 y3 y4 y5 y6 s0 s1 s2 s3 s4 s5 s6 hfy s (by rw [hps, bs_data]) W)
  have sne := str_ne_self s
  clear hn hfy hps
  go_enter Try.func5, Try.ntmps5
  go_wp2_with fail
  rw [show (((w.alloc (.cells #[.int .i64 n0, .bool n1, .int .i64 n2, .int .i64 x0, .int .i64 x1, .int .i64 x2, .bool x3, .int .i64 x4, .int .i64 x5, .bool x6, .int .i64 r0, .int .i64 r1, .int .i64 r2, .int .i64 r3, .bool r4, .int .i64 r5, .int .i64 r6] 27)).alloc (.cells #[.int .i64 e0, .int .i64 e1, .int .i64 e2, .bool e3, .int .i64 e4, .int .i64 e5, .bool e6] 23)).alloc (.cells #[.int .i64 f0, .int .i64 f1, .int .i64 f2, .int .i64 f3, .bool f4, .int .i64 f5, .int .i64 f6] 25)) = w0 from HW.out]
  refine (CT.out _).mono ?_
  rintro e w1 ⟨rfl, hb⟩
  have HB1 := Lib.hid (below_keep HB0.out hb HB0.out.size)
  have HX1 := Lib.hid (HX0.out.keep hb)
  have HE1 := Lib.hid (HE0.out.keep hb)
  have HR1 := Lib.hid (HR0.out.keep hb)
  clear HB0 HX0 HE0 HR0
  clear hb CT
  go_simp
  rename_i K1 hK1
  refine hK1 _ _ ?_
  clear hK1 K1
  iterate 4 (refine wpList_plain rfl fun K hK => ?_; go_simp; refine hK _ _ ?_; clear hK K)
  refine st17 (at17_new 27 w1 (.int .i64 0) (.bool false) (.int .i64 0) (.int .i64 0) (.int .i64 0) (.int .i64 0) (.bool false) (.int .i64 0) (.int .i64 0) (.bool false) (.int .i64 0) (.int .i64 0) (.int .i64 0) (.int .i64 0) (.bool false) (.int .i64 0) (.int .i64 0)) (.tmp 9) (.tmp 30) rfl rfl rfl rfl rfl ?_
  simp only [Act.put, List.setIfInBounds_toArray, List.set_cons_succ, List.set_cons_zero]
  have hn := new_below w1 (.int .i64 m0) (.bool m1) (.int .i64 m2) (.int .i64 y0) (.int .i64 y1) (.int .i64 y2) (.bool y3) (.int .i64 y4) (.int .i64 y5) (.bool y6) (.int .i64 s0) (.int .i64 s1) (.int .i64 s2) (.int .i64 s3) (.bool s4) (.int .i64 s5) (.int .i64 s6)
  have hY := new_at w1 (.int .i64 m0) (.bool m1) (.int .i64 m2) (.int .i64 y0) (.int .i64 y1) (.int .i64 y2) (.bool y3) (.int .i64 y4) (.int .i64 y5) (.bool y6) (.int .i64 s0) (.int .i64 s1) (.int .i64 s2) (.int .i64 s3) (.bool s4) (.int .i64 s5) (.int .i64 s6)
  have hb := below_keep HB1.out hn HB1.out.size
  have hx := HX1.out.keep hn
  have he := HE1.out.keep hn
  have hr := HR1.out.keep hn
  obtain ⟨p2, hp⟩ : ∃ p, w1.heap.size = p := ⟨_, rfl⟩
  obtain ⟨u2, hu⟩ : ∃ u, put17 (w1.alloc (.cells #[.int .i64 0, .bool false, .int .i64 0, .int .i64 0, .int .i64 0, .int .i64 0, .bool false, .int .i64 0, .int .i64 0, .bool false, .int .i64 0, .int .i64 0, .int .i64 0, .int .i64 0, .bool false, .int .i64 0, .int .i64 0] 27)) w1.heap.size (.int .i64 m0) (.bool m1) (.int .i64 m2) (.int .i64 y0) (.int .i64 y1) (.int .i64 y2) (.bool y3) (.int .i64 y4) (.int .i64 y5) (.bool y6) (.int .i64 s0) (.int .i64 s1) (.int .i64 s2) (.int .i64 s3) (.bool s4) (.int .i64 s5) (.int .i64 s6) = u := ⟨_, rfl⟩
  rw [hu] at hY hb hx he hr
  rw [hp] at hY
  rw [show put17 (w1.alloc (.cells #[.int .i64 0, .bool false, .int .i64 0, .int .i64 0, .int .i64 0, .int .i64 0, .bool false, .int .i64 0, .int .i64 0, .bool false, .int .i64 0, .int .i64 0, .int .i64 0, .int .i64 0, .bool false, .int .i64 0, .int .i64 0] 27)) w1.heap.size (.int .i64 m0) (.bool m1) (.int .i64 m2) (.int .i64 y0) (.int .i64 y1) (.int .i64 y2) (.bool y3) (.int .i64 y4) (.int .i64 y5) (.bool y6) (.int .i64 s0) (.int .i64 s1) (.int .i64 s2) (.int .i64 s3) (.bool s4) (.int .i64 s5) (.int .i64 s6) = u2 from hu, hp]
  have HB2 := Lib.hid hb
  have HX2 := Lib.hid hx
  have HE2 := Lib.hid he
  have HR2 := Lib.hid hr
  have HY2 := Lib.hid hY
  clear hn hY hb hx he hr hu hp HB1 HX1 HE1 HR1
  go_wp2_with (refine ld17 HY2.out (.tmp 9) (by kernel_rfl) rfl rfl ?_)
  refine (CP2.out _).mono ?_
  rintro e u3 ⟨rfl, hb⟩
  have HB3 := Lib.hid (below_keep HB2.out hb HB2.out.size)
  have HX3 := Lib.hid (HX2.out.keep hb)
  have HE3 := Lib.hid (HE2.out.keep hb)
  have HR3 := Lib.hid (HR2.out.keep hb)
  clear HB2 HX2 HE2 HR2
  clear hb CP2
  have HKS : Hid (∀ w', Below u3.heap.size u3 w' → ((w'.cell? ⟨w.heap.size + 1, 0, none⟩ = some (.int .i64 e0) ∧ w'.cell? ⟨w.heap.size + 1, 1, none⟩ = some (.int .i64 e1) ∧ w'.cell? ⟨w.heap.size + 1, 2, none⟩ = some (.int .i64 e2) ∧ w'.cell? ⟨w.heap.size + 1, 3, none⟩ = some (.bool e3) ∧ w'.cell? ⟨w.heap.size + 1, 4, none⟩ = some (.int .i64 e4) ∧ w'.cell? ⟨w.heap.size + 1, 5, none⟩ = some (.int .i64 e5) ∧ w'.cell? ⟨w.heap.size + 1, 6, none⟩ = some (.bool e6)) ∧ (w'.cell? ⟨w.heap.size + 2, 0, none⟩ = some (.int .i64 f0) ∧ w'.cell? ⟨w.heap.size + 2, 1, none⟩ = some (.int .i64 f1) ∧ w'.cell? ⟨w.heap.size + 2, 2, none⟩ = some (.int .i64 f2) ∧ w'.cell? ⟨w.heap.size + 2, 3, none⟩ = some (.int .i64 f3) ∧ w'.cell? ⟨w.heap.size + 2, 4, none⟩ = some (.bool f4) ∧ w'.cell? ⟨w.heap.size + 2, 5, none⟩ = some (.int .i64 f5) ∧ w'.cell? ⟨w.heap.size + 2, 6, none⟩ = some (.int .i64 f6)))) := fun w' hb => ⟨cells7 (HE3.out.keep hb), cells7 (HR3.out.keep hb)⟩
  have b0 : Below u3.heap.size u3 u3.drew := (Below.refl _ u3).drew
  have k0 := HKS.out _ b0
  go_wp2_with fail
  go_region_held3 (fun w' => ((w'.cell? ⟨w.heap.size + 1, 0, none⟩ = some (.int .i64 e0) ∧ w'.cell? ⟨w.heap.size + 1, 1, none⟩ = some (.int .i64 e1) ∧ w'.cell? ⟨w.heap.size + 1, 2, none⟩ = some (.int .i64 e2) ∧ w'.cell? ⟨w.heap.size + 1, 3, none⟩ = some (.bool e3) ∧ w'.cell? ⟨w.heap.size + 1, 4, none⟩ = some (.int .i64 e4) ∧ w'.cell? ⟨w.heap.size + 1, 5, none⟩ = some (.int .i64 e5) ∧ w'.cell? ⟨w.heap.size + 1, 6, none⟩ = some (.bool e6)) ∧ (w'.cell? ⟨w.heap.size + 2, 0, none⟩ = some (.int .i64 f0) ∧ w'.cell? ⟨w.heap.size + 2, 1, none⟩ = some (.int .i64 f1) ∧ w'.cell? ⟨w.heap.size + 2, 2, none⟩ = some (.int .i64 f2) ∧ w'.cell? ⟨w.heap.size + 2, 3, none⟩ = some (.int .i64 f3) ∧ w'.cell? ⟨w.heap.size + 2, 4, none⟩ = some (.bool f4) ∧ w'.cell? ⟨w.heap.size + 2, 5, none⟩ = some (.int .i64 f5) ∧ w'.cell? ⟨w.heap.size + 2, 6, none⟩ = some (.int .i64 f6))))
    (first | with_reducible exact k0 | with_reducible exact k4 | with_reducible exact k5 | with_reducible exact k6 | with_reducible exact k7)
    (first
      | ((with_reducible refine (CNB.out w6).mono ?_); rintro e w7 ⟨rfl, hq7, hb7⟩; have b7 := below_keep b6 hb7 b6.size; have k7 := HKS.out _ b7)
      | ((with_reducible refine (CPR.out w5).mono ?_); rintro e w6 ⟨rfl, hb6⟩; have b6 := below_keep b5 hb6 b5.size; have k6 := HKS.out _ b6)
      | ((with_reducible refine (CNA.out w4).mono ?_); rintro e w5 ⟨rfl, hq5, hb5⟩; have b5 := below_keep b4 hb5 b4.size; have k5 := HKS.out _ b5)
      | ((with_reducible refine (CPE.out u3.drew).mono ?_); rintro e w4 ⟨rfl, hb4⟩; have b4 := below_keep b0 hb4 b0.size; have k4 := HKS.out _ b4))
  have hp7 := RdAt.below (RdAt.below hq5 hb6) hb7
  have hpl : w4.heap.size < w6.heap.size := by have := hq5.lt; have := hb6.size; omega
  have hel : w.heap.size + 1 < w4.heap.size := by have := heap_lt HE3.out; have := b4.size; omega
  have hrl : w.heap.size + 2 < w4.heap.size := by have := heap_lt HR3.out; have := b4.size; omega
  obtain ⟨p, hp⟩ : ∃ p, w4.heap.size = p := ⟨_, rfl⟩
  obtain ⟨q, hq⟩ : ∃ q, w6.heap.size = q := ⟨_, rfl⟩
  rw [hp] at hp7 hpl hel hrl
  rw [hq] at hq7 hpl
  rw [hp, hq]
  have HP7 := Lib.hid hp7
  have HQ7 := Lib.hid hq7
  have HPL := Lib.hid hpl
  have HEL := Lib.hid hel
  have HRL := Lib.hid hrl
  have NEP : Hid (w.heap.size + 1 ≠ p) := Nat.ne_of_lt hel
  have NRP : Hid (w.heap.size + 2 ≠ p) := Nat.ne_of_lt hrl
  have NXP : Hid (w.heap.size ≠ p) := by show _ ≠ _; omega
  have NBP : Hid (w.heap.size ≤ p) := by show _ ≤ _; omega
  have NEQ : Hid (w.heap.size + 1 ≠ q) := by show _ ≠ _; omega
  have NRQ : Hid (w.heap.size + 2 ≠ q) := by show _ ≠ _; omega
  have NXQ : Hid (w.heap.size ≠ q) := by show _ ≠ _; omega
  have NBQ : Hid (w.heap.size ≤ q) := by show _ ≤ _; omega
  have HBa := Lib.hid (below_keep HB3.out b7 HB3.out.size)
  have HXa := Lib.hid (HX3.out.keep b7)
  have HEa := Lib.hid (HE3.out.keep b7)
  have HRa := Lib.hid (HR3.out.keep b7)
  clear HB3 HX3 HE3 HR3
  clear hp7 hq7 hpl hel hrl hp hq k0 k4 k5 k6 k7 b0 b4 b5 b6 b7 hb4 hb5 hb6 hb7 hq5 HKS
  have hE7 : At7 23 w7.drew (w.heap.size + 1) (.int .i64 e0) (.int .i64 e1) (.int .i64 e2) (.bool e3) (.int .i64 e4) (.int .i64 e5) (.bool e6) := HEa.out
  have hR7 : At7 25 w7.drew (w.heap.size + 2) (.int .i64 f0) (.int .i64 f1) (.int .i64 f2) (.int .i64 f3) (.bool f4) (.int .i64 f5) (.int .i64 f6) := HRa.out
  have hX7 : At17 27 w7.drew w.heap.size (.int .i64 n0) (.bool n1) (.int .i64 n2) (.int .i64 x0) (.int .i64 x1) (.int .i64 x2) (.bool x3) (.int .i64 x4) (.int .i64 x5) (.bool x6) (.int .i64 r0) (.int .i64 r1) (.int .i64 r2) (.int .i64 r3) (.bool r4) (.int .i64 r5) (.int .i64 r6) := HXa.out
  have hP7 : RdAt w7.drew p (some (putE ⟨e0, e1, e2, e3, e4, e5, e6⟩)) := HP7.out
  have hQ7 : RdAt w7.drew q (some (putR ⟨f0, f1, f2, f3, f4, f5, f6⟩)) := HQ7.out
  have k0 : ((w7.drew.cell? ⟨w.heap.size + 1, 0, none⟩ = some (.int .i64 e0) ∧ w7.drew.cell? ⟨w.heap.size + 1, 1, none⟩ = some (.int .i64 e1) ∧ w7.drew.cell? ⟨w.heap.size + 1, 2, none⟩ = some (.int .i64 e2) ∧ w7.drew.cell? ⟨w.heap.size + 1, 3, none⟩ = some (.bool e3) ∧ w7.drew.cell? ⟨w.heap.size + 1, 4, none⟩ = some (.int .i64 e4) ∧ w7.drew.cell? ⟨w.heap.size + 1, 5, none⟩ = some (.int .i64 e5) ∧ w7.drew.cell? ⟨w.heap.size + 1, 6, none⟩ = some (.bool e6)) ∧ (w7.drew.cell? ⟨w.heap.size + 2, 0, none⟩ = some (.int .i64 f0) ∧ w7.drew.cell? ⟨w.heap.size + 2, 1, none⟩ = some (.int .i64 f1) ∧ w7.drew.cell? ⟨w.heap.size + 2, 2, none⟩ = some (.int .i64 f2) ∧ w7.drew.cell? ⟨w.heap.size + 2, 3, none⟩ = some (.int .i64 f3) ∧ w7.drew.cell? ⟨w.heap.size + 2, 4, none⟩ = some (.bool f4) ∧ w7.drew.cell? ⟨w.heap.size + 2, 5, none⟩ = some (.int .i64 f5) ∧ w7.drew.cell? ⟨w.heap.size + 2, 6, none⟩ = some (.int .i64 f6))) := ⟨cells7 HEa.out, cells7 HRa.out⟩
  have qe := fun W => Outbox.neq_en e0 e1 e2 e3 e4 e5 e6 e0 e1 e2 e3 e4 e5 e6 W
  rw [eqE_out, eqE_self] at qe
  have qr := fun W => neq_r f0 f1 f2 f3 f4 f5 f6 f0 f1 f2 f3 f4 f5 f6 W
  rw [eqR_self] at qr
  have ge := fun x y u v W => guard_e .neq x y u v W
  have gr := fun x y u v W => guard_r .neq x y u v W
  have CTE := Lib.hid (takee_is p (some (putE ⟨e0, e1, e2, e3, e4, e5, e6⟩)) (some []) e0 e1 e2 e3 e4 e5 e6 (by rw [← List.append_nil (putE ⟨e0, e1, e2, e3, e4, e5, e6⟩)]; exact takeE_some (rdE_put HE64.out [])) (by rw [← List.append_nil (putE ⟨e0, e1, e2, e3, e4, e5, e6⟩), rdE_put HE64.out []]) w7.drew hP7)
  have CTR := Lib.hid (fun W h => taker_is q (some (putR ⟨f0, f1, f2, f3, f4, f5, f6⟩)) (some []) f0 f1 f2 f3 f4 f5 f6 (by rw [← List.append_nil (putR ⟨f0, f1, f2, f3, f4, f5, f6⟩)]; exact takeR_some (rdR_put HR64.out [])) (by rw [← List.append_nil (putR ⟨f0, f1, f2, f3, f4, f5, f6⟩), rdR_put HR64.out []]) W h)
  have CD := Lib.hid (fun b W h => Wire.rddone_is b (some []) true W h rfl)
  go_wp2_with fail
  go_region_held3 (fun w' => ((w'.cell? ⟨w.heap.size + 1, 0, none⟩ = some (.int .i64 e0) ∧ w'.cell? ⟨w.heap.size + 1, 1, none⟩ = some (.int .i64 e1) ∧ w'.cell? ⟨w.heap.size + 1, 2, none⟩ = some (.int .i64 e2) ∧ w'.cell? ⟨w.heap.size + 1, 3, none⟩ = some (.bool e3) ∧ w'.cell? ⟨w.heap.size + 1, 4, none⟩ = some (.int .i64 e4) ∧ w'.cell? ⟨w.heap.size + 1, 5, none⟩ = some (.int .i64 e5) ∧ w'.cell? ⟨w.heap.size + 1, 6, none⟩ = some (.bool e6)) ∧ (w'.cell? ⟨w.heap.size + 2, 0, none⟩ = some (.int .i64 f0) ∧ w'.cell? ⟨w.heap.size + 2, 1, none⟩ = some (.int .i64 f1) ∧ w'.cell? ⟨w.heap.size + 2, 2, none⟩ = some (.int .i64 f2) ∧ w'.cell? ⟨w.heap.size + 2, 3, none⟩ = some (.int .i64 f3) ∧ w'.cell? ⟨w.heap.size + 2, 4, none⟩ = some (.bool f4) ∧ w'.cell? ⟨w.heap.size + 2, 5, none⟩ = some (.int .i64 f5) ∧ w'.cell? ⟨w.heap.size + 2, 6, none⟩ = some (.int .i64 f6))))
    (first | with_reducible exact k0 | with_reducible exact k8 | with_reducible exact k9 | with_reducible exact ka | with_reducible exact kb)
    (first
      | ((with_reducible refine (CD.out q wa qa).mono ?_); rintro e wb ⟨rfl, hbb⟩; have hEb := hEa.keep hbb; have hRb := hRa.keep hbb; have hXb := hXa2.keep hbb; have hBb := below_keep hBa hbb hBa.size; have kb := And.intro (cells7 hEb) (cells7 hRb))
      | (go_at_call 26; refine (CTR.out w9 q9).mono ?_; rintro e wa ⟨rfl, qa, ga⟩; have hEa : At7 23 wa (w.heap.size + 1) (.int .i64 e0) (.int .i64 e1) (.int .i64 e2) (.bool e3) (.int .i64 e4) (.int .i64 e5) (.bool e6) := kept h9 ga NEQ.out; have hRa : At7 25 wa (w.heap.size + 2) (.int .i64 f0) (.int .i64 f1) (.int .i64 f2) (.int .i64 f3) (.bool f4) (.int .i64 f5) (.int .i64 f6) := kept h9r ga NRQ.out; have hXa2 : At17 27 wa w.heap.size (.int .i64 n0) (.bool n1) (.int .i64 n2) (.int .i64 x0) (.int .i64 x1) (.int .i64 x2) (.bool x3) (.int .i64 x4) (.int .i64 x5) (.bool x6) (.int .i64 r0) (.int .i64 r1) (.int .i64 r2) (.int .i64 r3) (.bool r4) (.int .i64 r5) (.int .i64 r6) := kept h9x ga NXQ.out; have hBa := hB9.trans (rd_below ga q9 NBQ.out); have ka := And.intro (cells7 hEa) (cells7 hRa))
      | ((with_reducible refine (CD.out p w8 p8).mono ?_); rintro e w9 ⟨rfl, hb9⟩; have h9 := hE8.keep hb9; have h9r := hR8.keep hb9; have h9x := hX8.keep hb9; have q9 := RdAt.below q8 hb9; have hB9 := below_keep hB8 hb9 hB8.size; have k9 := And.intro (cells7 h9) (cells7 h9r))
      | (go_at_call 20; refine CTE.out.mono ?_; rintro e w8 ⟨rfl, p8, g8⟩; have hE8 : At7 23 w8 (w.heap.size + 1) (.int .i64 e0) (.int .i64 e1) (.int .i64 e2) (.bool e3) (.int .i64 e4) (.int .i64 e5) (.bool e6) := kept hE7 g8 NEP.out; have hR8 : At7 25 w8 (w.heap.size + 2) (.int .i64 f0) (.int .i64 f1) (.int .i64 f2) (.int .i64 f3) (.bool f4) (.int .i64 f5) (.int .i64 f6) := kept hR7 g8 NRP.out; have hX8 : At17 27 w8 w.heap.size (.int .i64 n0) (.bool n1) (.int .i64 n2) (.int .i64 x0) (.int .i64 x1) (.int .i64 x2) (.bool x3) (.int .i64 x4) (.int .i64 x5) (.bool x6) (.int .i64 r0) (.int .i64 r1) (.int .i64 r2) (.int .i64 r3) (.bool r4) (.int .i64 r5) (.int .i64 r6) := kept hX7 g8 NXP.out; have q8 : RdAt w8 q (some (putR ⟨f0, f1, f2, f3, f4, f5, f6⟩)) := RdAt.keep hQ7 (g8.block q hQ7.lt (fun e => by cases e; exact Nat.lt_irrefl _ HPL.out)); have hB8 := HBa.out.drew.trans (rd_below g8 hP7 NBP.out); have k8 := And.intro (cells7 hE8) (cells7 hR8)))
  have HBE := Lib.hid hBb
  have HXE := Lib.hid hXb
  have HEE := Lib.hid hEb
  have HRE := Lib.hid hRb
  have t0 : (⟨#[]⟩ : ByteArray).toList.isEmpty = true := Wire.empty_yes _ rfl
  have CP := Lib.hid (put_no n0 n1 n2 x0 x1 x2 x3 x4 x5 x6 r0 r1 r2 r3 r4 r5 r6 hfx wb)
  go_wp2_with (refine ld17 HXE.out (.tmp 4) (by kernel_rfl) rfl rfl ?_)
  refine CP.out.mono ?_
  rintro e wc ⟨rfl, hb⟩
  have HBF := Lib.hid (below_keep HBE.out hb HBE.out.size)
  have HXF := Lib.hid (HXE.out.keep hb)
  have CF := Lib.hid (fit_is n0 n1 n2 x0 x1 x2 x3 x4 x5 x6 r0 r1 r2 r3 r4 r5 r6 false hfx wc)
  clear hb HBE HXE HEE HRE CP
  go_wp2_with (refine ld17 HXF.out (.tmp 4) (by kernel_rfl) rfl rfl ?_)
  refine CF.out.mono ?_
  rintro e wd ⟨rfl, hb⟩
  have HBG := Lib.hid (below_keep HBF.out hb HBF.out.size)
  clear hb HBF HXF CF
  go_wp2_with fail
  refine (awake_any _).mono ?_
  rintro e we ⟨rfl, hb⟩
  have HBH := Lib.hid (below_keep HBG.out hb HBG.out.size)
  clear hb HBG
  go_wp2_with fail
  go_ret
  exact ⟨rfl, HBH.out⟩

set_option maxHeartbeats 8000000 in
theorem back_some_yes (n0 : Int) (n1 : Bool) (n2 : Int) (x0 : Int) (x1 : Int) (x2 : Int) (x3 : Bool) (x4 : Int) (x5 : Int) (x6 : Bool) (r0 : Int) (r1 : Int) (r2 : Int) (r3 : Int) (r4 : Bool) (r5 : Int) (r6 : Int) (e0 : Int) (e1 : Int) (e2 : Int) (e3 : Bool) (e4 : Int) (e5 : Int) (e6 : Bool) (f0 : Int) (f1 : Int) (f2 : Int) (f3 : Int) (f4 : Bool) (f5 : Int) (f6 : Int) (he : E64 ⟨e0, e1, e2, e3, e4, e5, e6⟩) (hr : R64 ⟨f0, f1, f2, f3, f4, f5, f6⟩) (s : ByteArray) (h200 : ¬ (200 : Int) < (s.size : Int)) (hfx : fitV ⟨n0, n1, n2, ⟨x0, x1, x2, x3, x4, x5, x6⟩, ⟨r0, r1, r2, r3, r4, r5, r6⟩⟩ = true) (m0 : Int) (m1 : Bool) (m2 : Int) (y0 : Int) (y1 : Int) (y2 : Int) (y3 : Bool) (y4 : Int) (y5 : Int) (y6 : Bool) (s0 : Int) (s1 : Int) (s2 : Int) (s3 : Int) (s4 : Bool) (s5 : Int) (s6 : Int) (hn : takeV s.data.toList = some ⟨m0, m1, m2, ⟨y0, y1, y2, y3, y4, y5, y6⟩, ⟨s0, s1, s2, s3, s4, s5, s6⟩⟩) (w : World) : Calls Try.prog 5 #[vv n0 n1 n2 x0 x1 x2 x3 x4 x5 x6 r0 r1 r2 r3 r4 r5 r6, (.agg #[.int .i64 e0, .int .i64 e1, .int .i64 e2, .bool e3, .int .i64 e4, .int .i64 e5, .bool e6]), (.agg #[.int .i64 f0, .int .i64 f1, .int .i64 f2, .int .i64 f3, .bool f4, .int .i64 f5, .int .i64 f6]), .string s] w fun e w' => e = .returned (.bool true) ∧ Below w.heap.size w w' := by
  obtain ⟨hfy, hps⟩ := take_some hn
  have hB0 : Below w.heap.size w (((w.alloc (.cells #[.int .i64 n0, .bool n1, .int .i64 n2, .int .i64 x0, .int .i64 x1, .int .i64 x2, .bool x3, .int .i64 x4, .int .i64 x5, .bool x6, .int .i64 r0, .int .i64 r1, .int .i64 r2, .int .i64 r3, .bool r4, .int .i64 r5, .int .i64 r6] 27)).alloc (.cells #[.int .i64 e0, .int .i64 e1, .int .i64 e2, .bool e3, .int .i64 e4, .int .i64 e5, .bool e6] 23)).alloc (.cells #[.int .i64 f0, .int .i64 f1, .int .i64 f2, .int .i64 f3, .bool f4, .int .i64 f5, .int .i64 f6] 25)) := (((Below.refl _ w).alloc (Nat.le_refl _) _).alloc (by simp) _).alloc (by rw [World.size_alloc, World.size_alloc]; omega) _
  have hX0 : At17 27 (((w.alloc (.cells #[.int .i64 n0, .bool n1, .int .i64 n2, .int .i64 x0, .int .i64 x1, .int .i64 x2, .bool x3, .int .i64 x4, .int .i64 x5, .bool x6, .int .i64 r0, .int .i64 r1, .int .i64 r2, .int .i64 r3, .bool r4, .int .i64 r5, .int .i64 r6] 27)).alloc (.cells #[.int .i64 e0, .int .i64 e1, .int .i64 e2, .bool e3, .int .i64 e4, .int .i64 e5, .bool e6] 23)).alloc (.cells #[.int .i64 f0, .int .i64 f1, .int .i64 f2, .int .i64 f3, .bool f4, .int .i64 f5, .int .i64 f6] 25)) w.heap.size (.int .i64 n0) (.bool n1) (.int .i64 n2) (.int .i64 x0) (.int .i64 x1) (.int .i64 x2) (.bool x3) (.int .i64 x4) (.int .i64 x5) (.bool x6) (.int .i64 r0) (.int .i64 r1) (.int .i64 r2) (.int .i64 r3) (.bool r4) (.int .i64 r5) (.int .i64 r6) := ((at17_new 27 w (.int .i64 n0) (.bool n1) (.int .i64 n2) (.int .i64 x0) (.int .i64 x1) (.int .i64 x2) (.bool x3) (.int .i64 x4) (.int .i64 x5) (.bool x6) (.int .i64 r0) (.int .i64 r1) (.int .i64 r2) (.int .i64 r3) (.bool r4) (.int .i64 r5) (.int .i64 r6)).alloc _).alloc _
  have hE0 := (at7_new 23 (w.alloc (.cells #[.int .i64 n0, .bool n1, .int .i64 n2, .int .i64 x0, .int .i64 x1, .int .i64 x2, .bool x3, .int .i64 x4, .int .i64 x5, .bool x6, .int .i64 r0, .int .i64 r1, .int .i64 r2, .int .i64 r3, .bool r4, .int .i64 r5, .int .i64 r6] 27)) (.int .i64 e0) (.int .i64 e1) (.int .i64 e2) (.bool e3) (.int .i64 e4) (.int .i64 e5) (.bool e6)).alloc (.cells #[.int .i64 f0, .int .i64 f1, .int .i64 f2, .int .i64 f3, .bool f4, .int .i64 f5, .int .i64 f6] 25)
  have hR0 := at7_new 25 ((w.alloc (.cells #[.int .i64 n0, .bool n1, .int .i64 n2, .int .i64 x0, .int .i64 x1, .int .i64 x2, .bool x3, .int .i64 x4, .int .i64 x5, .bool x6, .int .i64 r0, .int .i64 r1, .int .i64 r2, .int .i64 r3, .bool r4, .int .i64 r5, .int .i64 r6] 27)).alloc (.cells #[.int .i64 e0, .int .i64 e1, .int .i64 e2, .bool e3, .int .i64 e4, .int .i64 e5, .bool e6] 23)) (.int .i64 f0) (.int .i64 f1) (.int .i64 f2) (.int .i64 f3) (.bool f4) (.int .i64 f5) (.int .i64 f6)
  rw [World.size_alloc] at hE0 hR0
  rw [World.size_alloc] at hR0
  obtain ⟨w0, hw0⟩ : ∃ w0, (((w.alloc (.cells #[.int .i64 n0, .bool n1, .int .i64 n2, .int .i64 x0, .int .i64 x1, .int .i64 x2, .bool x3, .int .i64 x4, .int .i64 x5, .bool x6, .int .i64 r0, .int .i64 r1, .int .i64 r2, .int .i64 r3, .bool r4, .int .i64 r5, .int .i64 r6] 27)).alloc (.cells #[.int .i64 e0, .int .i64 e1, .int .i64 e2, .bool e3, .int .i64 e4, .int .i64 e5, .bool e6] 23)).alloc (.cells #[.int .i64 f0, .int .i64 f1, .int .i64 f2, .int .i64 f3, .bool f4, .int .i64 f5, .int .i64 f6] 25)) = w0 := ⟨_, rfl⟩
  rw [hw0] at hB0 hX0 hE0 hR0
  have HW := Lib.hid hw0
  have HB0 := Lib.hid hB0
  have HX0 := Lib.hid hX0
  have HE0 := Lib.hid hE0
  have HR0 := Lib.hid hR0
  obtain ⟨pa, hpa⟩ : ∃ a, bs (putE ⟨e0, e1, e2, e3, e4, e5, e6⟩) = a := ⟨_, rfl⟩
  obtain ⟨pb, hpb⟩ : ∃ a, bs (putR ⟨f0, f1, f2, f3, f4, f5, f6⟩) = a := ⟨_, rfl⟩
  have hpal : pa.data.toList = putE ⟨e0, e1, e2, e3, e4, e5, e6⟩ := by rw [← hpa, data_bs]
  have hpbl : pb.data.toList = putR ⟨f0, f1, f2, f3, f4, f5, f6⟩ := by rw [← hpb, data_bs]
  have hpas : pa.size ≤ 100 := by rw [size_list, hpal]; have := putE_len he; omega
  have hpbs : pb.size ≤ 100 := by rw [size_list, hpbl]; have := putR_len hr; omega
  have CPE := Lib.hid (fun W => pute_is e0 e1 e2 e3 e4 e5 e6 pa hpa he W)
  have CPR := Lib.hid (fun W => putr_is f0 f1 f2 f3 f4 f5 f6 pb hpb hr W)
  have CNA : Hid (∀ W, _) := Lib.hid (fun W => Wire.new_any pa W (by omega))
  have CNB : Hid (∀ W, _) := Lib.hid (fun W => Wire.new_any pb W (by omega))
  rw [hpal] at CNA
  rw [hpbl] at CNB
  have HE64 := Lib.hid he
  have HR64 := Lib.hid hr
  clear hw0 hB0 hX0 hE0 hR0 hpa hpb hpal hpbl he hr
  have CT := Lib.hid (fun W => take_is s m0 m1 m2 y0 y1 y2 y3 y4 y5 y6 s0 s1 s2 s3 s4 s5 s6 0 (by rw [hn]; rfl) (by rw [hn]; rfl) (by omega) W)
  have CP2 := Lib.hid (fun W => put_yes m0 m1 m2 y0 y1 y2 y3 y4 y5 y6 s0 s1 s2 s3 s4 s5 s6 hfy s (by rw [hps, bs_data]) W)
  have sne := str_ne_self s
  clear hn hfy hps
  go_enter Try.func5, Try.ntmps5
  go_wp2_with fail
  rw [show (((w.alloc (.cells #[.int .i64 n0, .bool n1, .int .i64 n2, .int .i64 x0, .int .i64 x1, .int .i64 x2, .bool x3, .int .i64 x4, .int .i64 x5, .bool x6, .int .i64 r0, .int .i64 r1, .int .i64 r2, .int .i64 r3, .bool r4, .int .i64 r5, .int .i64 r6] 27)).alloc (.cells #[.int .i64 e0, .int .i64 e1, .int .i64 e2, .bool e3, .int .i64 e4, .int .i64 e5, .bool e6] 23)).alloc (.cells #[.int .i64 f0, .int .i64 f1, .int .i64 f2, .int .i64 f3, .bool f4, .int .i64 f5, .int .i64 f6] 25)) = w0 from HW.out]
  refine (CT.out _).mono ?_
  rintro e w1 ⟨rfl, hb⟩
  have HB1 := Lib.hid (below_keep HB0.out hb HB0.out.size)
  have HX1 := Lib.hid (HX0.out.keep hb)
  have HE1 := Lib.hid (HE0.out.keep hb)
  have HR1 := Lib.hid (HR0.out.keep hb)
  clear HB0 HX0 HE0 HR0
  clear hb CT
  go_simp
  rename_i K1 hK1
  refine hK1 _ _ ?_
  clear hK1 K1
  iterate 4 (refine wpList_plain rfl fun K hK => ?_; go_simp; refine hK _ _ ?_; clear hK K)
  refine st17 (at17_new 27 w1 (.int .i64 0) (.bool false) (.int .i64 0) (.int .i64 0) (.int .i64 0) (.int .i64 0) (.bool false) (.int .i64 0) (.int .i64 0) (.bool false) (.int .i64 0) (.int .i64 0) (.int .i64 0) (.int .i64 0) (.bool false) (.int .i64 0) (.int .i64 0)) (.tmp 9) (.tmp 30) rfl rfl rfl rfl rfl ?_
  simp only [Act.put, List.setIfInBounds_toArray, List.set_cons_succ, List.set_cons_zero]
  have hn := new_below w1 (.int .i64 m0) (.bool m1) (.int .i64 m2) (.int .i64 y0) (.int .i64 y1) (.int .i64 y2) (.bool y3) (.int .i64 y4) (.int .i64 y5) (.bool y6) (.int .i64 s0) (.int .i64 s1) (.int .i64 s2) (.int .i64 s3) (.bool s4) (.int .i64 s5) (.int .i64 s6)
  have hY := new_at w1 (.int .i64 m0) (.bool m1) (.int .i64 m2) (.int .i64 y0) (.int .i64 y1) (.int .i64 y2) (.bool y3) (.int .i64 y4) (.int .i64 y5) (.bool y6) (.int .i64 s0) (.int .i64 s1) (.int .i64 s2) (.int .i64 s3) (.bool s4) (.int .i64 s5) (.int .i64 s6)
  have hb := below_keep HB1.out hn HB1.out.size
  have hx := HX1.out.keep hn
  have he := HE1.out.keep hn
  have hr := HR1.out.keep hn
  obtain ⟨p2, hp⟩ : ∃ p, w1.heap.size = p := ⟨_, rfl⟩
  obtain ⟨u2, hu⟩ : ∃ u, put17 (w1.alloc (.cells #[.int .i64 0, .bool false, .int .i64 0, .int .i64 0, .int .i64 0, .int .i64 0, .bool false, .int .i64 0, .int .i64 0, .bool false, .int .i64 0, .int .i64 0, .int .i64 0, .int .i64 0, .bool false, .int .i64 0, .int .i64 0] 27)) w1.heap.size (.int .i64 m0) (.bool m1) (.int .i64 m2) (.int .i64 y0) (.int .i64 y1) (.int .i64 y2) (.bool y3) (.int .i64 y4) (.int .i64 y5) (.bool y6) (.int .i64 s0) (.int .i64 s1) (.int .i64 s2) (.int .i64 s3) (.bool s4) (.int .i64 s5) (.int .i64 s6) = u := ⟨_, rfl⟩
  rw [hu] at hY hb hx he hr
  rw [hp] at hY
  rw [show put17 (w1.alloc (.cells #[.int .i64 0, .bool false, .int .i64 0, .int .i64 0, .int .i64 0, .int .i64 0, .bool false, .int .i64 0, .int .i64 0, .bool false, .int .i64 0, .int .i64 0, .int .i64 0, .int .i64 0, .bool false, .int .i64 0, .int .i64 0] 27)) w1.heap.size (.int .i64 m0) (.bool m1) (.int .i64 m2) (.int .i64 y0) (.int .i64 y1) (.int .i64 y2) (.bool y3) (.int .i64 y4) (.int .i64 y5) (.bool y6) (.int .i64 s0) (.int .i64 s1) (.int .i64 s2) (.int .i64 s3) (.bool s4) (.int .i64 s5) (.int .i64 s6) = u2 from hu, hp]
  have HB2 := Lib.hid hb
  have HX2 := Lib.hid hx
  have HE2 := Lib.hid he
  have HR2 := Lib.hid hr
  have HY2 := Lib.hid hY
  clear hn hY hb hx he hr hu hp HB1 HX1 HE1 HR1
  go_wp2_with (refine ld17 HY2.out (.tmp 9) (by kernel_rfl) rfl rfl ?_)
  refine (CP2.out _).mono ?_
  rintro e u3 ⟨rfl, hb⟩
  have HB3 := Lib.hid (below_keep HB2.out hb HB2.out.size)
  have HX3 := Lib.hid (HX2.out.keep hb)
  have HE3 := Lib.hid (HE2.out.keep hb)
  have HR3 := Lib.hid (HR2.out.keep hb)
  clear HB2 HX2 HE2 HR2
  clear hb CP2
  have HKS : Hid (∀ w', Below u3.heap.size u3 w' → ((w'.cell? ⟨w.heap.size + 1, 0, none⟩ = some (.int .i64 e0) ∧ w'.cell? ⟨w.heap.size + 1, 1, none⟩ = some (.int .i64 e1) ∧ w'.cell? ⟨w.heap.size + 1, 2, none⟩ = some (.int .i64 e2) ∧ w'.cell? ⟨w.heap.size + 1, 3, none⟩ = some (.bool e3) ∧ w'.cell? ⟨w.heap.size + 1, 4, none⟩ = some (.int .i64 e4) ∧ w'.cell? ⟨w.heap.size + 1, 5, none⟩ = some (.int .i64 e5) ∧ w'.cell? ⟨w.heap.size + 1, 6, none⟩ = some (.bool e6)) ∧ (w'.cell? ⟨w.heap.size + 2, 0, none⟩ = some (.int .i64 f0) ∧ w'.cell? ⟨w.heap.size + 2, 1, none⟩ = some (.int .i64 f1) ∧ w'.cell? ⟨w.heap.size + 2, 2, none⟩ = some (.int .i64 f2) ∧ w'.cell? ⟨w.heap.size + 2, 3, none⟩ = some (.int .i64 f3) ∧ w'.cell? ⟨w.heap.size + 2, 4, none⟩ = some (.bool f4) ∧ w'.cell? ⟨w.heap.size + 2, 5, none⟩ = some (.int .i64 f5) ∧ w'.cell? ⟨w.heap.size + 2, 6, none⟩ = some (.int .i64 f6)))) := fun w' hb => ⟨cells7 (HE3.out.keep hb), cells7 (HR3.out.keep hb)⟩
  have b0 : Below u3.heap.size u3 u3.drew := (Below.refl _ u3).drew
  have k0 := HKS.out _ b0
  go_wp2_with fail
  go_region_held3 (fun w' => ((w'.cell? ⟨w.heap.size + 1, 0, none⟩ = some (.int .i64 e0) ∧ w'.cell? ⟨w.heap.size + 1, 1, none⟩ = some (.int .i64 e1) ∧ w'.cell? ⟨w.heap.size + 1, 2, none⟩ = some (.int .i64 e2) ∧ w'.cell? ⟨w.heap.size + 1, 3, none⟩ = some (.bool e3) ∧ w'.cell? ⟨w.heap.size + 1, 4, none⟩ = some (.int .i64 e4) ∧ w'.cell? ⟨w.heap.size + 1, 5, none⟩ = some (.int .i64 e5) ∧ w'.cell? ⟨w.heap.size + 1, 6, none⟩ = some (.bool e6)) ∧ (w'.cell? ⟨w.heap.size + 2, 0, none⟩ = some (.int .i64 f0) ∧ w'.cell? ⟨w.heap.size + 2, 1, none⟩ = some (.int .i64 f1) ∧ w'.cell? ⟨w.heap.size + 2, 2, none⟩ = some (.int .i64 f2) ∧ w'.cell? ⟨w.heap.size + 2, 3, none⟩ = some (.int .i64 f3) ∧ w'.cell? ⟨w.heap.size + 2, 4, none⟩ = some (.bool f4) ∧ w'.cell? ⟨w.heap.size + 2, 5, none⟩ = some (.int .i64 f5) ∧ w'.cell? ⟨w.heap.size + 2, 6, none⟩ = some (.int .i64 f6))))
    (first | with_reducible exact k0 | with_reducible exact k4 | with_reducible exact k5 | with_reducible exact k6 | with_reducible exact k7)
    (first
      | ((with_reducible refine (CNB.out w6).mono ?_); rintro e w7 ⟨rfl, hq7, hb7⟩; have b7 := below_keep b6 hb7 b6.size; have k7 := HKS.out _ b7)
      | ((with_reducible refine (CPR.out w5).mono ?_); rintro e w6 ⟨rfl, hb6⟩; have b6 := below_keep b5 hb6 b5.size; have k6 := HKS.out _ b6)
      | ((with_reducible refine (CNA.out w4).mono ?_); rintro e w5 ⟨rfl, hq5, hb5⟩; have b5 := below_keep b4 hb5 b4.size; have k5 := HKS.out _ b5)
      | ((with_reducible refine (CPE.out u3.drew).mono ?_); rintro e w4 ⟨rfl, hb4⟩; have b4 := below_keep b0 hb4 b0.size; have k4 := HKS.out _ b4))
  have hp7 := RdAt.below (RdAt.below hq5 hb6) hb7
  have hpl : w4.heap.size < w6.heap.size := by have := hq5.lt; have := hb6.size; omega
  have hel : w.heap.size + 1 < w4.heap.size := by have := heap_lt HE3.out; have := b4.size; omega
  have hrl : w.heap.size + 2 < w4.heap.size := by have := heap_lt HR3.out; have := b4.size; omega
  obtain ⟨p, hp⟩ : ∃ p, w4.heap.size = p := ⟨_, rfl⟩
  obtain ⟨q, hq⟩ : ∃ q, w6.heap.size = q := ⟨_, rfl⟩
  rw [hp] at hp7 hpl hel hrl
  rw [hq] at hq7 hpl
  rw [hp, hq]
  have HP7 := Lib.hid hp7
  have HQ7 := Lib.hid hq7
  have HPL := Lib.hid hpl
  have HEL := Lib.hid hel
  have HRL := Lib.hid hrl
  have NEP : Hid (w.heap.size + 1 ≠ p) := Nat.ne_of_lt hel
  have NRP : Hid (w.heap.size + 2 ≠ p) := Nat.ne_of_lt hrl
  have NXP : Hid (w.heap.size ≠ p) := by show _ ≠ _; omega
  have NBP : Hid (w.heap.size ≤ p) := by show _ ≤ _; omega
  have NEQ : Hid (w.heap.size + 1 ≠ q) := by show _ ≠ _; omega
  have NRQ : Hid (w.heap.size + 2 ≠ q) := by show _ ≠ _; omega
  have NXQ : Hid (w.heap.size ≠ q) := by show _ ≠ _; omega
  have NBQ : Hid (w.heap.size ≤ q) := by show _ ≤ _; omega
  have HBa := Lib.hid (below_keep HB3.out b7 HB3.out.size)
  have HXa := Lib.hid (HX3.out.keep b7)
  have HEa := Lib.hid (HE3.out.keep b7)
  have HRa := Lib.hid (HR3.out.keep b7)
  clear HB3 HX3 HE3 HR3
  clear hp7 hq7 hpl hel hrl hp hq k0 k4 k5 k6 k7 b0 b4 b5 b6 b7 hb4 hb5 hb6 hb7 hq5 HKS
  have hE7 : At7 23 w7.drew (w.heap.size + 1) (.int .i64 e0) (.int .i64 e1) (.int .i64 e2) (.bool e3) (.int .i64 e4) (.int .i64 e5) (.bool e6) := HEa.out
  have hR7 : At7 25 w7.drew (w.heap.size + 2) (.int .i64 f0) (.int .i64 f1) (.int .i64 f2) (.int .i64 f3) (.bool f4) (.int .i64 f5) (.int .i64 f6) := HRa.out
  have hX7 : At17 27 w7.drew w.heap.size (.int .i64 n0) (.bool n1) (.int .i64 n2) (.int .i64 x0) (.int .i64 x1) (.int .i64 x2) (.bool x3) (.int .i64 x4) (.int .i64 x5) (.bool x6) (.int .i64 r0) (.int .i64 r1) (.int .i64 r2) (.int .i64 r3) (.bool r4) (.int .i64 r5) (.int .i64 r6) := HXa.out
  have hP7 : RdAt w7.drew p (some (putE ⟨e0, e1, e2, e3, e4, e5, e6⟩)) := HP7.out
  have hQ7 : RdAt w7.drew q (some (putR ⟨f0, f1, f2, f3, f4, f5, f6⟩)) := HQ7.out
  have k0 : ((w7.drew.cell? ⟨w.heap.size + 1, 0, none⟩ = some (.int .i64 e0) ∧ w7.drew.cell? ⟨w.heap.size + 1, 1, none⟩ = some (.int .i64 e1) ∧ w7.drew.cell? ⟨w.heap.size + 1, 2, none⟩ = some (.int .i64 e2) ∧ w7.drew.cell? ⟨w.heap.size + 1, 3, none⟩ = some (.bool e3) ∧ w7.drew.cell? ⟨w.heap.size + 1, 4, none⟩ = some (.int .i64 e4) ∧ w7.drew.cell? ⟨w.heap.size + 1, 5, none⟩ = some (.int .i64 e5) ∧ w7.drew.cell? ⟨w.heap.size + 1, 6, none⟩ = some (.bool e6)) ∧ (w7.drew.cell? ⟨w.heap.size + 2, 0, none⟩ = some (.int .i64 f0) ∧ w7.drew.cell? ⟨w.heap.size + 2, 1, none⟩ = some (.int .i64 f1) ∧ w7.drew.cell? ⟨w.heap.size + 2, 2, none⟩ = some (.int .i64 f2) ∧ w7.drew.cell? ⟨w.heap.size + 2, 3, none⟩ = some (.int .i64 f3) ∧ w7.drew.cell? ⟨w.heap.size + 2, 4, none⟩ = some (.bool f4) ∧ w7.drew.cell? ⟨w.heap.size + 2, 5, none⟩ = some (.int .i64 f5) ∧ w7.drew.cell? ⟨w.heap.size + 2, 6, none⟩ = some (.int .i64 f6))) := ⟨cells7 HEa.out, cells7 HRa.out⟩
  have qe := fun W => Outbox.neq_en e0 e1 e2 e3 e4 e5 e6 e0 e1 e2 e3 e4 e5 e6 W
  rw [eqE_out, eqE_self] at qe
  have qr := fun W => neq_r f0 f1 f2 f3 f4 f5 f6 f0 f1 f2 f3 f4 f5 f6 W
  rw [eqR_self] at qr
  have ge := fun x y u v W => guard_e .neq x y u v W
  have gr := fun x y u v W => guard_r .neq x y u v W
  have CTE := Lib.hid (takee_is p (some (putE ⟨e0, e1, e2, e3, e4, e5, e6⟩)) (some []) e0 e1 e2 e3 e4 e5 e6 (by rw [← List.append_nil (putE ⟨e0, e1, e2, e3, e4, e5, e6⟩)]; exact takeE_some (rdE_put HE64.out [])) (by rw [← List.append_nil (putE ⟨e0, e1, e2, e3, e4, e5, e6⟩), rdE_put HE64.out []]) w7.drew hP7)
  have CTR := Lib.hid (fun W h => taker_is q (some (putR ⟨f0, f1, f2, f3, f4, f5, f6⟩)) (some []) f0 f1 f2 f3 f4 f5 f6 (by rw [← List.append_nil (putR ⟨f0, f1, f2, f3, f4, f5, f6⟩)]; exact takeR_some (rdR_put HR64.out [])) (by rw [← List.append_nil (putR ⟨f0, f1, f2, f3, f4, f5, f6⟩), rdR_put HR64.out []]) W h)
  have CD := Lib.hid (fun b W h => Wire.rddone_is b (some []) true W h rfl)
  go_wp2_with fail
  go_region_held3 (fun w' => ((w'.cell? ⟨w.heap.size + 1, 0, none⟩ = some (.int .i64 e0) ∧ w'.cell? ⟨w.heap.size + 1, 1, none⟩ = some (.int .i64 e1) ∧ w'.cell? ⟨w.heap.size + 1, 2, none⟩ = some (.int .i64 e2) ∧ w'.cell? ⟨w.heap.size + 1, 3, none⟩ = some (.bool e3) ∧ w'.cell? ⟨w.heap.size + 1, 4, none⟩ = some (.int .i64 e4) ∧ w'.cell? ⟨w.heap.size + 1, 5, none⟩ = some (.int .i64 e5) ∧ w'.cell? ⟨w.heap.size + 1, 6, none⟩ = some (.bool e6)) ∧ (w'.cell? ⟨w.heap.size + 2, 0, none⟩ = some (.int .i64 f0) ∧ w'.cell? ⟨w.heap.size + 2, 1, none⟩ = some (.int .i64 f1) ∧ w'.cell? ⟨w.heap.size + 2, 2, none⟩ = some (.int .i64 f2) ∧ w'.cell? ⟨w.heap.size + 2, 3, none⟩ = some (.int .i64 f3) ∧ w'.cell? ⟨w.heap.size + 2, 4, none⟩ = some (.bool f4) ∧ w'.cell? ⟨w.heap.size + 2, 5, none⟩ = some (.int .i64 f5) ∧ w'.cell? ⟨w.heap.size + 2, 6, none⟩ = some (.int .i64 f6))))
    (first | with_reducible exact k0 | with_reducible exact k8 | with_reducible exact k9 | with_reducible exact ka | with_reducible exact kb)
    (first
      | ((with_reducible refine (CD.out q wa qa).mono ?_); rintro e wb ⟨rfl, hbb⟩; have hEb := hEa.keep hbb; have hRb := hRa.keep hbb; have hXb := hXa2.keep hbb; have hBb := below_keep hBa hbb hBa.size; have kb := And.intro (cells7 hEb) (cells7 hRb))
      | (go_at_call 26; refine (CTR.out w9 q9).mono ?_; rintro e wa ⟨rfl, qa, ga⟩; have hEa : At7 23 wa (w.heap.size + 1) (.int .i64 e0) (.int .i64 e1) (.int .i64 e2) (.bool e3) (.int .i64 e4) (.int .i64 e5) (.bool e6) := kept h9 ga NEQ.out; have hRa : At7 25 wa (w.heap.size + 2) (.int .i64 f0) (.int .i64 f1) (.int .i64 f2) (.int .i64 f3) (.bool f4) (.int .i64 f5) (.int .i64 f6) := kept h9r ga NRQ.out; have hXa2 : At17 27 wa w.heap.size (.int .i64 n0) (.bool n1) (.int .i64 n2) (.int .i64 x0) (.int .i64 x1) (.int .i64 x2) (.bool x3) (.int .i64 x4) (.int .i64 x5) (.bool x6) (.int .i64 r0) (.int .i64 r1) (.int .i64 r2) (.int .i64 r3) (.bool r4) (.int .i64 r5) (.int .i64 r6) := kept h9x ga NXQ.out; have hBa := hB9.trans (rd_below ga q9 NBQ.out); have ka := And.intro (cells7 hEa) (cells7 hRa))
      | ((with_reducible refine (CD.out p w8 p8).mono ?_); rintro e w9 ⟨rfl, hb9⟩; have h9 := hE8.keep hb9; have h9r := hR8.keep hb9; have h9x := hX8.keep hb9; have q9 := RdAt.below q8 hb9; have hB9 := below_keep hB8 hb9 hB8.size; have k9 := And.intro (cells7 h9) (cells7 h9r))
      | (go_at_call 20; refine CTE.out.mono ?_; rintro e w8 ⟨rfl, p8, g8⟩; have hE8 : At7 23 w8 (w.heap.size + 1) (.int .i64 e0) (.int .i64 e1) (.int .i64 e2) (.bool e3) (.int .i64 e4) (.int .i64 e5) (.bool e6) := kept hE7 g8 NEP.out; have hR8 : At7 25 w8 (w.heap.size + 2) (.int .i64 f0) (.int .i64 f1) (.int .i64 f2) (.int .i64 f3) (.bool f4) (.int .i64 f5) (.int .i64 f6) := kept hR7 g8 NRP.out; have hX8 : At17 27 w8 w.heap.size (.int .i64 n0) (.bool n1) (.int .i64 n2) (.int .i64 x0) (.int .i64 x1) (.int .i64 x2) (.bool x3) (.int .i64 x4) (.int .i64 x5) (.bool x6) (.int .i64 r0) (.int .i64 r1) (.int .i64 r2) (.int .i64 r3) (.bool r4) (.int .i64 r5) (.int .i64 r6) := kept hX7 g8 NXP.out; have q8 : RdAt w8 q (some (putR ⟨f0, f1, f2, f3, f4, f5, f6⟩)) := RdAt.keep hQ7 (g8.block q hQ7.lt (fun e => by cases e; exact Nat.lt_irrefl _ HPL.out)); have hB8 := HBa.out.drew.trans (rd_below g8 hP7 NBP.out); have k8 := And.intro (cells7 hE8) (cells7 hR8)))
  have HBE := Lib.hid hBb
  have HXE := Lib.hid hXb
  have HEE := Lib.hid hEb
  have HRE := Lib.hid hRb
  obtain ⟨t, ht⟩ : ∃ t, bs (putV ⟨n0, n1, n2, ⟨x0, x1, x2, x3, x4, x5, x6⟩, ⟨r0, r1, r2, r3, r4, r5, r6⟩⟩) = t := ⟨_, rfl⟩
  have htl : t.data.toList = putV ⟨n0, n1, n2, ⟨x0, x1, x2, x3, x4, x5, x6⟩, ⟨r0, r1, r2, r3, r4, r5, r6⟩⟩ := by rw [← ht, data_bs]
  have htn : t.size = (putV ⟨n0, n1, n2, ⟨x0, x1, x2, x3, x4, x5, x6⟩, ⟨r0, r1, r2, r3, r4, r5, r6⟩⟩).length := by rw [size_list, htl]
  have hts : t.size ≤ 100 := by rw [htn]; exact putV_len hfx
  have ht0 : 0 < t.size := by rw [htn]; exact List.length_pos_iff.2 (put_ne _)
  obtain ⟨k, hk⟩ : ∃ k, t.size = k + 1 := ⟨t.size - 1, by omega⟩
  have htk : takeV t.data.toList = some ⟨n0, n1, n2, ⟨x0, x1, x2, x3, x4, x5, x6⟩, ⟨r0, r1, r2, r3, r4, r5, r6⟩⟩ := by rw [htl]; exact take_back hfx
  have hm : takeV (t ++ ⟨#[0]⟩ : ByteArray).data.toList = none := by rw [ByteArray.data_append, Array.toList_append, htl]; exact take_more hfx (by simp)
  have hls : takeV (t.extract 0 k).data.toList = none := by rw [cut_list t k _ htl (by rw [← htn, hk])]; exact take_less hfx
  have te : t.toList.isEmpty = false := Wire.empty_no t ht0
  have g0 := fun W : World => run_string_add (P := Try.prog) W t ⟨#[0]⟩ (by omega) (by decide)
  have hi : ((t.size : Nat) : Int) - 1 = (k : Int) := by omega
  have hk0 : (0 : Int) ≤ (k : Int) := by omega
  have hk1 : (k : Int) ≤ ((t.size : Nat) : Int) := by omega
  have CP := Lib.hid (put_yes n0 n1 n2 x0 x1 x2 x3 x4 x5 x6 r0 r1 r2 r3 r4 r5 r6 hfx t ht wb)
  have CT1 := Lib.hid (fun W => take_is t n0 n1 n2 x0 x1 x2 x3 x4 x5 x6 r0 r1 r2 r3 r4 r5 r6 0 (by rw [htk]; rfl) (by rw [htk]; rfl) (by omega) W)
  have CT2 := Lib.hid (fun W => take_is (t ++ ⟨#[0]⟩) 0 false 0 0 0 0 false 0 0 false 0 0 0 0 false 0 0 7 (by rw [hm]; rfl) (by rw [hm]; rfl) (by rw [ByteArray.size_append]; have : (⟨#[0]⟩ : ByteArray).size = 1 := rfl; omega) W)
  have CT3 := Lib.hid (fun W => take_is (t.extract 0 k) 0 false 0 0 0 0 false 0 0 false 0 0 0 0 false 0 0 7 (by rw [hls]; rfl) (by rw [hls]; rfl) (by rw [ByteArray.size_extract]; omega) W)
  clear ht htl htn htk hm hls
  go_wp2_with (refine ld17 HXE.out (.tmp 4) (by kernel_rfl) rfl rfl ?_)
  refine CP.out.mono ?_
  rintro e wc ⟨rfl, hb⟩
  have HBF := Lib.hid (below_keep HBE.out hb HBE.out.size)
  have HXF := Lib.hid (HXE.out.keep hb)
  have HEF := Lib.hid (HEE.out.keep hb)
  have HRF := Lib.hid (HRE.out.keep hb)
  clear HBE HXE HEE HRE
  clear hb CP
  go_wp2_with fail
  refine (CT1.out _).mono ?_
  rintro e wd ⟨rfl, hb⟩
  have HBG := Lib.hid (below_keep HBF.out hb HBF.out.size)
  have HXG := Lib.hid (HXF.out.keep hb)
  have HEG := Lib.hid (HEF.out.keep hb)
  have HRG := Lib.hid (HRF.out.keep hb)
  clear HBF HXF HEF HRF
  clear hb CT1
  go_simp
  rename_i K1 hK1
  refine hK1 _ _ ?_
  clear hK1 K1
  iterate 4 (refine wpList_plain rfl fun K hK => ?_; go_simp; refine hK _ _ ?_; clear hK K)
  refine st17 (at17_new 27 wd (.int .i64 0) (.bool false) (.int .i64 0) (.int .i64 0) (.int .i64 0) (.int .i64 0) (.bool false) (.int .i64 0) (.int .i64 0) (.bool false) (.int .i64 0) (.int .i64 0) (.int .i64 0) (.int .i64 0) (.bool false) (.int .i64 0) (.int .i64 0)) (.tmp 17) (.tmp 102) rfl rfl rfl rfl rfl ?_
  simp only [Act.put, List.setIfInBounds_toArray, List.set_cons_succ, List.set_cons_zero]
  have hn := new_below wd (.int .i64 n0) (.bool n1) (.int .i64 n2) (.int .i64 x0) (.int .i64 x1) (.int .i64 x2) (.bool x3) (.int .i64 x4) (.int .i64 x5) (.bool x6) (.int .i64 r0) (.int .i64 r1) (.int .i64 r2) (.int .i64 r3) (.bool r4) (.int .i64 r5) (.int .i64 r6)
  have hY := new_at wd (.int .i64 n0) (.bool n1) (.int .i64 n2) (.int .i64 x0) (.int .i64 x1) (.int .i64 x2) (.bool x3) (.int .i64 x4) (.int .i64 x5) (.bool x6) (.int .i64 r0) (.int .i64 r1) (.int .i64 r2) (.int .i64 r3) (.bool r4) (.int .i64 r5) (.int .i64 r6)
  have hb := below_keep HBG.out hn HBG.out.size
  have hx := HXG.out.keep hn
  have he := HEG.out.keep hn
  have hr := HRG.out.keep hn
  obtain ⟨pH, hp⟩ : ∃ p, wd.heap.size = p := ⟨_, rfl⟩
  obtain ⟨uH, hu⟩ : ∃ u, put17 (wd.alloc (.cells #[.int .i64 0, .bool false, .int .i64 0, .int .i64 0, .int .i64 0, .int .i64 0, .bool false, .int .i64 0, .int .i64 0, .bool false, .int .i64 0, .int .i64 0, .int .i64 0, .int .i64 0, .bool false, .int .i64 0, .int .i64 0] 27)) wd.heap.size (.int .i64 n0) (.bool n1) (.int .i64 n2) (.int .i64 x0) (.int .i64 x1) (.int .i64 x2) (.bool x3) (.int .i64 x4) (.int .i64 x5) (.bool x6) (.int .i64 r0) (.int .i64 r1) (.int .i64 r2) (.int .i64 r3) (.bool r4) (.int .i64 r5) (.int .i64 r6) = u := ⟨_, rfl⟩
  rw [hu] at hY hb hx he hr
  rw [hp] at hY
  rw [show put17 (wd.alloc (.cells #[.int .i64 0, .bool false, .int .i64 0, .int .i64 0, .int .i64 0, .int .i64 0, .bool false, .int .i64 0, .int .i64 0, .bool false, .int .i64 0, .int .i64 0, .int .i64 0, .int .i64 0, .bool false, .int .i64 0, .int .i64 0] 27)) wd.heap.size (.int .i64 n0) (.bool n1) (.int .i64 n2) (.int .i64 x0) (.int .i64 x1) (.int .i64 x2) (.bool x3) (.int .i64 x4) (.int .i64 x5) (.bool x6) (.int .i64 r0) (.int .i64 r1) (.int .i64 r2) (.int .i64 r3) (.bool r4) (.int .i64 r5) (.int .i64 r6) = uH from hu, hp]
  have HBH := Lib.hid hb
  have HXH := Lib.hid hx
  have HEH := Lib.hid he
  have HRH := Lib.hid hr
  have HYH := Lib.hid hY
  clear hn hY hb hx he hr hu hp HBG HXG HEG HRG
  go_wp2_with fail
  refine (CT2.out _).mono ?_
  rintro e we ⟨rfl, hb⟩
  have HYI := Lib.hid (HYH.out.keep hb)
  have HBI := Lib.hid (below_keep HBH.out hb HBH.out.size)
  have HXI := Lib.hid (HXH.out.keep hb)
  have HEI := Lib.hid (HEH.out.keep hb)
  have HRI := Lib.hid (HRH.out.keep hb)
  clear HBH HXH HEH HRH
  clear hb CT2 HYH
  go_simp
  rename_i K1 hK1
  refine hK1 _ _ ?_
  clear hK1 K1
  iterate 4 (refine wpList_plain rfl fun K hK => ?_; go_simp; refine hK _ _ ?_; clear hK K)
  refine st17 (at17_new 27 we (.int .i64 0) (.bool false) (.int .i64 0) (.int .i64 0) (.int .i64 0) (.int .i64 0) (.bool false) (.int .i64 0) (.int .i64 0) (.bool false) (.int .i64 0) (.int .i64 0) (.int .i64 0) (.int .i64 0) (.bool false) (.int .i64 0) (.int .i64 0)) (.tmp 19) (.tmp 108) rfl rfl rfl rfl rfl ?_
  simp only [Act.put, List.setIfInBounds_toArray, List.set_cons_succ, List.set_cons_zero]
  have hn := new_below we (.int .i64 0) (.bool false) (.int .i64 0) (.int .i64 0) (.int .i64 0) (.int .i64 0) (.bool false) (.int .i64 0) (.int .i64 0) (.bool false) (.int .i64 0) (.int .i64 0) (.int .i64 0) (.int .i64 0) (.bool false) (.int .i64 0) (.int .i64 0)
  have hY := new_at we (.int .i64 0) (.bool false) (.int .i64 0) (.int .i64 0) (.int .i64 0) (.int .i64 0) (.bool false) (.int .i64 0) (.int .i64 0) (.bool false) (.int .i64 0) (.int .i64 0) (.int .i64 0) (.int .i64 0) (.bool false) (.int .i64 0) (.int .i64 0)
  have hb := below_keep HBI.out hn HBI.out.size
  have hx := HXI.out.keep hn
  have he := HEI.out.keep hn
  have hr := HRI.out.keep hn
  have hyk := HYI.out.keep hn
  obtain ⟨pJ, hp⟩ : ∃ p, we.heap.size = p := ⟨_, rfl⟩
  obtain ⟨uJ, hu⟩ : ∃ u, put17 (we.alloc (.cells #[.int .i64 0, .bool false, .int .i64 0, .int .i64 0, .int .i64 0, .int .i64 0, .bool false, .int .i64 0, .int .i64 0, .bool false, .int .i64 0, .int .i64 0, .int .i64 0, .int .i64 0, .bool false, .int .i64 0, .int .i64 0] 27)) we.heap.size (.int .i64 0) (.bool false) (.int .i64 0) (.int .i64 0) (.int .i64 0) (.int .i64 0) (.bool false) (.int .i64 0) (.int .i64 0) (.bool false) (.int .i64 0) (.int .i64 0) (.int .i64 0) (.int .i64 0) (.bool false) (.int .i64 0) (.int .i64 0) = u := ⟨_, rfl⟩
  rw [hu] at hY hb hx he hr hyk
  rw [hp] at hY
  rw [show put17 (we.alloc (.cells #[.int .i64 0, .bool false, .int .i64 0, .int .i64 0, .int .i64 0, .int .i64 0, .bool false, .int .i64 0, .int .i64 0, .bool false, .int .i64 0, .int .i64 0, .int .i64 0, .int .i64 0, .bool false, .int .i64 0, .int .i64 0] 27)) we.heap.size (.int .i64 0) (.bool false) (.int .i64 0) (.int .i64 0) (.int .i64 0) (.int .i64 0) (.bool false) (.int .i64 0) (.int .i64 0) (.bool false) (.int .i64 0) (.int .i64 0) (.int .i64 0) (.int .i64 0) (.bool false) (.int .i64 0) (.int .i64 0) = uJ from hu, hp]
  have HBJ := Lib.hid hb
  have HXJ := Lib.hid hx
  have HEJ := Lib.hid he
  have HRJ := Lib.hid hr
  have HYJ := Lib.hid hY
  have HYK := Lib.hid hyk
  clear hyk
  clear hn hY hb hx he hr hu hp HBI HXI HEI HRI
  go_wp2_with fail
  refine (CT3.out _).mono ?_
  rintro e wf ⟨rfl, hb⟩
  have HYL := Lib.hid (HYK.out.keep hb)
  have HBL := Lib.hid (below_keep HBJ.out hb HBJ.out.size)
  have HXL := Lib.hid (HXJ.out.keep hb)
  have HEL := Lib.hid (HEJ.out.keep hb)
  have HRL := Lib.hid (HRJ.out.keep hb)
  clear HBJ HXJ HEJ HRJ
  clear hb CT3 HYK
  go_simp
  rename_i K1 hK1
  refine hK1 _ _ ?_
  clear hK1 K1
  iterate 4 (refine wpList_plain rfl fun K hK => ?_; go_simp; refine hK _ _ ?_; clear hK K)
  refine st17 (at17_new 27 wf (.int .i64 0) (.bool false) (.int .i64 0) (.int .i64 0) (.int .i64 0) (.int .i64 0) (.bool false) (.int .i64 0) (.int .i64 0) (.bool false) (.int .i64 0) (.int .i64 0) (.int .i64 0) (.int .i64 0) (.bool false) (.int .i64 0) (.int .i64 0)) (.tmp 21) (.tmp 117) rfl rfl rfl rfl rfl ?_
  simp only [Act.put, List.setIfInBounds_toArray, List.set_cons_succ, List.set_cons_zero]
  have hn := new_below wf (.int .i64 0) (.bool false) (.int .i64 0) (.int .i64 0) (.int .i64 0) (.int .i64 0) (.bool false) (.int .i64 0) (.int .i64 0) (.bool false) (.int .i64 0) (.int .i64 0) (.int .i64 0) (.int .i64 0) (.bool false) (.int .i64 0) (.int .i64 0)
  have hY := new_at wf (.int .i64 0) (.bool false) (.int .i64 0) (.int .i64 0) (.int .i64 0) (.int .i64 0) (.bool false) (.int .i64 0) (.int .i64 0) (.bool false) (.int .i64 0) (.int .i64 0) (.int .i64 0) (.int .i64 0) (.bool false) (.int .i64 0) (.int .i64 0)
  have hb := below_keep HBL.out hn HBL.out.size
  have hx := HXL.out.keep hn
  have he := HEL.out.keep hn
  have hr := HRL.out.keep hn
  have hyk := HYL.out.keep hn
  obtain ⟨pM, hp⟩ : ∃ p, wf.heap.size = p := ⟨_, rfl⟩
  obtain ⟨uM, hu⟩ : ∃ u, put17 (wf.alloc (.cells #[.int .i64 0, .bool false, .int .i64 0, .int .i64 0, .int .i64 0, .int .i64 0, .bool false, .int .i64 0, .int .i64 0, .bool false, .int .i64 0, .int .i64 0, .int .i64 0, .int .i64 0, .bool false, .int .i64 0, .int .i64 0] 27)) wf.heap.size (.int .i64 0) (.bool false) (.int .i64 0) (.int .i64 0) (.int .i64 0) (.int .i64 0) (.bool false) (.int .i64 0) (.int .i64 0) (.bool false) (.int .i64 0) (.int .i64 0) (.int .i64 0) (.int .i64 0) (.bool false) (.int .i64 0) (.int .i64 0) = u := ⟨_, rfl⟩
  rw [hu] at hY hb hx he hr hyk
  rw [hp] at hY
  rw [show put17 (wf.alloc (.cells #[.int .i64 0, .bool false, .int .i64 0, .int .i64 0, .int .i64 0, .int .i64 0, .bool false, .int .i64 0, .int .i64 0, .bool false, .int .i64 0, .int .i64 0, .int .i64 0, .int .i64 0, .bool false, .int .i64 0, .int .i64 0] 27)) wf.heap.size (.int .i64 0) (.bool false) (.int .i64 0) (.int .i64 0) (.int .i64 0) (.int .i64 0) (.bool false) (.int .i64 0) (.int .i64 0) (.bool false) (.int .i64 0) (.int .i64 0) (.int .i64 0) (.int .i64 0) (.bool false) (.int .i64 0) (.int .i64 0) = uM from hu, hp]
  have HBM := Lib.hid hb
  have HXM := Lib.hid hx
  have HEM := Lib.hid he
  have HRM := Lib.hid hr
  have HYM := Lib.hid hY
  have HYN := Lib.hid hyk
  clear hyk
  clear hn hY hb hx he hr hu hp HBL HXL HEL HRL
  have q1 := fun w => eql_v n0 n1 n2 x0 x1 x2 x3 x4 x5 x6 r0 r1 r2 r3 r4 r5 r6 n0 n1 n2 x0 x1 x2 x3 x4 x5 x6 r0 r1 r2 r3 r4 r5 r6 w
  rw [eqV_self] at q1
  have q3 := fun x y u v w => guard_v .eql x y u v w
  go_wp2_with (first | (refine ld17 HYN.out (.tmp 17) (by kernel_rfl) rfl rfl ?_) | (refine ld17 HXM.out (.tmp 4) (by kernel_rfl) rfl rfl ?_))
  refine (awake_any _).mono ?_
  rintro e wg ⟨rfl, hb⟩
  have HBH := Lib.hid (below_keep HBM.out hb HBM.out.size)
  clear hb HBM
  go_wp2_with fail
  go_ret
  exact ⟨rfl, HBH.out⟩

set_option maxHeartbeats 4000000 in
theorem back_long (n0 : Int) (n1 : Bool) (n2 : Int) (x0 : Int) (x1 : Int) (x2 : Int) (x3 : Bool) (x4 : Int) (x5 : Int) (x6 : Bool) (r0 : Int) (r1 : Int) (r2 : Int) (r3 : Int) (r4 : Bool) (r5 : Int) (r6 : Int) (e0 : Int) (e1 : Int) (e2 : Int) (e3 : Bool) (e4 : Int) (e5 : Int) (e6 : Bool) (f0 : Int) (f1 : Int) (f2 : Int) (f3 : Int) (f4 : Bool) (f5 : Int) (f6 : Int) (s : ByteArray) (h200 : (200 : Int) < (s.size : Int)) (w : World) : Calls Try.prog 5 #[vv n0 n1 n2 x0 x1 x2 x3 x4 x5 x6 r0 r1 r2 r3 r4 r5 r6, (.agg #[.int .i64 e0, .int .i64 e1, .int .i64 e2, .bool e3, .int .i64 e4, .int .i64 e5, .bool e6]), (.agg #[.int .i64 f0, .int .i64 f1, .int .i64 f2, .int .i64 f3, .bool f4, .int .i64 f5, .int .i64 f6]), .string s] w fun e w' => e = .returned (.bool true) ∧ Below w.heap.size w w' := by
  have hB0 : Below w.heap.size w (((w.alloc (.cells #[.int .i64 n0, .bool n1, .int .i64 n2, .int .i64 x0, .int .i64 x1, .int .i64 x2, .bool x3, .int .i64 x4, .int .i64 x5, .bool x6, .int .i64 r0, .int .i64 r1, .int .i64 r2, .int .i64 r3, .bool r4, .int .i64 r5, .int .i64 r6] 27)).alloc (.cells #[.int .i64 e0, .int .i64 e1, .int .i64 e2, .bool e3, .int .i64 e4, .int .i64 e5, .bool e6] 23)).alloc (.cells #[.int .i64 f0, .int .i64 f1, .int .i64 f2, .int .i64 f3, .bool f4, .int .i64 f5, .int .i64 f6] 25)) := (((Below.refl _ w).alloc (Nat.le_refl _) _).alloc (by simp) _).alloc (by rw [World.size_alloc, World.size_alloc]; omega) _
  obtain ⟨w0, hw0⟩ : ∃ w0, (((w.alloc (.cells #[.int .i64 n0, .bool n1, .int .i64 n2, .int .i64 x0, .int .i64 x1, .int .i64 x2, .bool x3, .int .i64 x4, .int .i64 x5, .bool x6, .int .i64 r0, .int .i64 r1, .int .i64 r2, .int .i64 r3, .bool r4, .int .i64 r5, .int .i64 r6] 27)).alloc (.cells #[.int .i64 e0, .int .i64 e1, .int .i64 e2, .bool e3, .int .i64 e4, .int .i64 e5, .bool e6] 23)).alloc (.cells #[.int .i64 f0, .int .i64 f1, .int .i64 f2, .int .i64 f3, .bool f4, .int .i64 f5, .int .i64 f6] 25)) = w0 := ⟨_, rfl⟩
  rw [hw0] at hB0
  have HW := Lib.hid hw0
  have HB0 := Lib.hid hB0
  clear hw0 hB0
  go_enter Try.func5, Try.ntmps5
  go_wp2_with fail
  rw [show (((w.alloc (.cells #[.int .i64 n0, .bool n1, .int .i64 n2, .int .i64 x0, .int .i64 x1, .int .i64 x2, .bool x3, .int .i64 x4, .int .i64 x5, .bool x6, .int .i64 r0, .int .i64 r1, .int .i64 r2, .int .i64 r3, .bool r4, .int .i64 r5, .int .i64 r6] 27)).alloc (.cells #[.int .i64 e0, .int .i64 e1, .int .i64 e2, .bool e3, .int .i64 e4, .int .i64 e5, .bool e6] 23)).alloc (.cells #[.int .i64 f0, .int .i64 f1, .int .i64 f2, .int .i64 f3, .bool f4, .int .i64 f5, .int .i64 f6] 25)) = w0 from HW.out]
  refine (awake_any _).mono ?_
  rintro e w1 ⟨rfl, hb⟩
  have HB1 := Lib.hid (below_keep HB0.out hb HB0.out.size)
  clear hb
  go_wp2_with fail
  go_ret
  exact ⟨rfl, HB1.out⟩
theorem back_any (n0 : Int) (n1 : Bool) (n2 : Int) (x0 : Int) (x1 : Int) (x2 : Int) (x3 : Bool) (x4 : Int) (x5 : Int) (x6 : Bool) (r0 : Int) (r1 : Int) (r2 : Int) (r3 : Int) (r4 : Bool) (r5 : Int) (r6 : Int) (e0 : Int) (e1 : Int) (e2 : Int) (e3 : Bool) (e4 : Int) (e5 : Int) (e6 : Bool) (f0 : Int) (f1 : Int) (f2 : Int) (f3 : Int) (f4 : Bool) (f5 : Int) (f6 : Int) (he : E64 ⟨e0, e1, e2, e3, e4, e5, e6⟩) (hr : R64 ⟨f0, f1, f2, f3, f4, f5, f6⟩) (s : ByteArray) (w : World) : Calls Try.prog 5 #[vv n0 n1 n2 x0 x1 x2 x3 x4 x5 x6 r0 r1 r2 r3 r4 r5 r6, (.agg #[.int .i64 e0, .int .i64 e1, .int .i64 e2, .bool e3, .int .i64 e4, .int .i64 e5, .bool e6]), (.agg #[.int .i64 f0, .int .i64 f1, .int .i64 f2, .int .i64 f3, .bool f4, .int .i64 f5, .int .i64 f6]), .string s] w fun e w' => e = .returned (.bool true) ∧ Below w.heap.size w w' := by
  by_cases h200 : (200 : Int) < (s.size : Int)
  · exact back_long n0 n1 n2 x0 x1 x2 x3 x4 x5 x6 r0 r1 r2 r3 r4 r5 r6 e0 e1 e2 e3 e4 e5 e6 f0 f1 f2 f3 f4 f5 f6 s h200 w
  cases hn : takeV s.data.toList with
  | none =>
    cases hfx : fitV ⟨n0, n1, n2, ⟨x0, x1, x2, x3, x4, x5, x6⟩, ⟨r0, r1, r2, r3, r4, r5, r6⟩⟩ with
    | false => exact back_none_no n0 n1 n2 x0 x1 x2 x3 x4 x5 x6 r0 r1 r2 r3 r4 r5 r6 e0 e1 e2 e3 e4 e5 e6 f0 f1 f2 f3 f4 f5 f6 he hr s h200 hfx hn w
    | true => exact back_none_yes n0 n1 n2 x0 x1 x2 x3 x4 x5 x6 r0 r1 r2 r3 r4 r5 r6 e0 e1 e2 e3 e4 e5 e6 f0 f1 f2 f3 f4 f5 f6 he hr s h200 hfx hn w
  | some y =>
    obtain ⟨m0, m1, m2, y0, y1, y2, y3, y4, y5, y6, s0, s1, s2, s3, s4, s5, s6, rfl⟩ := ev_split y
    cases hfx : fitV ⟨n0, n1, n2, ⟨x0, x1, x2, x3, x4, x5, x6⟩, ⟨r0, r1, r2, r3, r4, r5, r6⟩⟩ with
    | false => exact back_some_no n0 n1 n2 x0 x1 x2 x3 x4 x5 x6 r0 r1 r2 r3 r4 r5 r6 e0 e1 e2 e3 e4 e5 e6 f0 f1 f2 f3 f4 f5 f6 he hr s h200 hfx m0 m1 m2 y0 y1 y2 y3 y4 y5 y6 s0 s1 s2 s3 s4 s5 s6 hn w
    | true => exact back_some_yes n0 n1 n2 x0 x1 x2 x3 x4 x5 x6 r0 r1 r2 r3 r4 r5 r6 e0 e1 e2 e3 e4 e5 e6 f0 f1 f2 f3 f4 f5 f6 he hr s h200 hfx m0 m1 m2 y0 y1 y2 y3 y4 y5 y6 s0 s1 s2 s3 s4 s5 s6 hn w
end Go.Proofs.Ytamcidlkbhanfaa.Msg
namespace Go.Proofs.Ytamcidlkbhanfaa
open Go.RowKit MsgP
theorem Contract.msgBack (n0 : Int) (n1 : Bool) (n2 : Int) (x0 : Int) (x1 : Int) (x2 : Int) (x3 : Bool) (x4 : Int) (x5 : Int) (x6 : Bool) (r0 : Int) (r1 : Int) (r2 : Int) (r3 : Int) (r4 : Bool) (r5 : Int) (r6 : Int) (e0 : Int) (e1 : Int) (e2 : Int) (e3 : Bool) (e4 : Int) (e5 : Int) (e6 : Bool) (f0 : Int) (f1 : Int) (f2 : Int) (f3 : Int) (f4 : Bool) (f5 : Int) (f6 : Int) (s : ByteArray) (W : World) (_h0 : V64 ⟨n0, n1, n2, ⟨x0, x1, x2, x3, x4, x5, x6⟩, ⟨r0, r1, r2, r3, r4, r5, r6⟩⟩) (he : E64 ⟨e0, e1, e2, e3, e4, e5, e6⟩) (hr : R64 ⟨f0, f1, f2, f3, f4, f5, f6⟩) (_hk : s.size ≤ maxLen) :
    Calls Try.prog 5 #[(.agg #[.int .i64 n0, .bool n1, .int .i64 n2, .int .i64 x0, .int .i64 x1, .int .i64 x2, .bool x3, .int .i64 x4, .int .i64 x5, .bool x6, .int .i64 r0, .int .i64 r1, .int .i64 r2, .int .i64 r3, .bool r4, .int .i64 r5, .int .i64 r6]), (.agg #[.int .i64 e0, .int .i64 e1, .int .i64 e2, .bool e3, .int .i64 e4, .int .i64 e5, .bool e6]), (.agg #[.int .i64 f0, .int .i64 f1, .int .i64 f2, .int .i64 f3, .bool f4, .int .i64 f5, .int .i64 f6]), .string s] W fun e W' => e = .returned (.bool true) ∧ Below W.heap.size W W' :=
  Go.Proofs.Ytamcidlkbhanfaa.Msg.back_any n0 n1 n2 x0 x1 x2 x3 x4 x5 x6 r0 r1 r2 r3 r4 r5 r6 e0 e1 e2 e3 e4 e5 e6 f0 f1 f2 f3 f4 f5 f6 he hr s W
end Go.Proofs.Ytamcidlkbhanfaa
