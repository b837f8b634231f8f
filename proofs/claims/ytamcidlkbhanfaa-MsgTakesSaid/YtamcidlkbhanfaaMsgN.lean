/-
  MsgTakes; what was there stays as it was.
-/
import Derived.Test.YtamcidlkbhanfaaMsgK
import Derived.Test.YtamcidlkbhanfaaMsgJ
import Derived.Test.YtamcidlkbhanfaaMsgFr
set_option linter.unusedVariables false
set_option linter.unusedSimpArgs false
set_option maxRecDepth 4000
namespace Go.Proofs.Ytamcidlkbhanfaa.Msg
open Go.RowKit MsgP
open Go.Proofs.Ytamcidlkbhanfaa.Kt

open Wire (RdAt RqAt)
open WireP (done left)
theorem kept {W W' : World} {b k : Nat} {o : Obj} (h : W.heap[b]? = some o) (g : W.grownBy W' (some k)) (hne : b ≠ k) : W'.heap[b]? = some o := (g.block b (heap_lt h) (fun e => hne (by cases e; rfl))).trans h
theorem rd_kept {W W' : World} {b k : Nat} {st : Rd} (h : RdAt W b st) (g : W.grownBy W' (some k)) (hne : b ≠ k) : RdAt W' b st := RdAt.keep h (g.block b h.lt (fun e => hne (by cases e; rfl)))
theorem rq_kept {W W' : World} {b k : Nat} {st : Rd} (h : RqAt W b st) (g : W.grownBy W' (some k)) (hne : b ≠ k) : RqAt W' b st := RqAt.keep h (g.block b h.lt (fun e => hne (by cases e; rfl)))
theorem rqdone_is (b : Nat) (st : Rd) (v : Bool) (w : World) (h : RqAt w b st) (hr : done st = v) : Calls Try.prog 25 #[.pointer (some ⟨b, 0, none⟩)] w fun e w' => e = .returned (.bool v) ∧ Below w.heap.size w w' := by
  have h2 := Wire.rqdone_any b st w h
  rw [hr] at h2
  exact h2
theorem rdleft_is (b : Nat) (st : Rd) (n : Int) (w : World) (h : RdAt w b st) (hr : ((left st : Nat) : Int) = n) : Calls Try.prog 22 #[.pointer (some ⟨b, 0, none⟩)] w fun e w' => e = .returned (.int .i64 n) ∧ w = w' := by
  have h2 := Wire.left_any b st w h
  rw [hr] at h2
  exact h2
theorem rqleft_is (b : Nat) (st : Rd) (n : Int) (w : World) (h : RqAt w b st) (hr : ((left st : Nat) : Int) = n) : Calls Try.prog 23 #[.pointer (some ⟨b, 0, none⟩)] w fun e w' => e = .returned (.int .i64 n) ∧ w = w' := by
  have h2 := Wire.rqleft_any b st w h
  rw [hr] at h2
  exact h2

set_option maxHeartbeats 8000000 in
theorem takes_short (s : ByteArray) (h200 : ¬ (200 : Int) < (s.size : Int)) (w : World) : Calls Try.prog 4 #[.string s] w fun e w' => e = .returned (.bool true) ∧ Below w.heap.size w w' := by
  obtain ⟨m0, m1, m2, y0, y1, y2, y3, y4, y5, y6, s0, s1, s2, s3, s4, s5, s6, hx⟩ : ∃ m0 m1 m2 y0 y1 y2 y3 y4 y5 y6 s0 s1 s2 s3 s4 s5 s6, gotV (takeV s.data.toList) = ⟨m0, m1, m2, ⟨y0, y1, y2, y3, y4, y5, y6⟩, ⟨s0, s1, s2, s3, s4, s5, s6⟩⟩ := ev_split _
  obtain ⟨er, he⟩ : ∃ er, errV (takeV s.data.toList) = er := ⟨_, rfl⟩
  obtain ⟨a0, a1, a2, a3, a4, a5, a6, ha⟩ : ∃ a0 a1 a2 a3 a4 a5 a6, takeE (some s.data.toList) = ⟨a0, a1, a2, a3, a4, a5, a6⟩ := Outbox.en_split _
  obtain ⟨sa, hsa⟩ : ∃ t, (rdE (some s.data.toList)).2 = t := ⟨_, rfl⟩
  obtain ⟨b0, b1, b2, b3, b4, b5, b6, hb⟩ : ∃ b0 b1 b2 b3 b4 b5 b6, takeR (some s.data.toList) = ⟨b0, b1, b2, b3, b4, b5, b6⟩ := rp_split _
  obtain ⟨sb, hsb⟩ : ∃ t, (rdR (some s.data.toList)).2 = t := ⟨_, rfl⟩
  have hs : s.size ≤ 4398046511104 := by omega
  have CT := Lib.hid (fun W => take_is s m0 m1 m2 y0 y1 y2 y3 y4 y5 y6 s0 s1 s2 s3 s4 s5 s6 er hx he hs W)
  have CR := Lib.hid (fun W => rtake_is s m0 m1 m2 y0 y1 y2 y3 y4 y5 y6 s0 s1 s2 s3 s4 s5 s6 er hx he hs W)
  have CN := Lib.hid (fun W => Wire.new_any s W hs)
  have HS := Lib.hid hs
  have CE := Lib.hid (fun p W h => takee_is p _ sa a0 a1 a2 a3 a4 a5 a6 ha hsa W h)
  have CQ := Lib.hid (fun p W h => rtakee_is p _ sa a0 a1 a2 a3 a4 a5 a6 ha hsa W h)
  have CF := Lib.hid (fun p W h => taker_is p _ sb b0 b1 b2 b3 b4 b5 b6 hb hsb W h)
  have CG := Lib.hid (fun p W h => rtaker_is p _ sb b0 b1 b2 b3 b4 b5 b6 hb hsb W h)
  obtain ⟨la, hla⟩ : ∃ n : Int, ((left sa : Nat) : Int) = n := ⟨_, rfl⟩
  obtain ⟨da, hda⟩ : ∃ v, done sa = v := ⟨_, rfl⟩
  have CLa := Lib.hid (fun p W h => rdleft_is p sa la W h hla)
  have CMa := Lib.hid (fun p W h => rqleft_is p sa la W h hla)
  have CDa := Lib.hid (fun p W h => Wire.rddone_is p sa da W h hda)
  have CHa := Lib.hid (fun p W h => rqdone_is p sa da W h hda)
  clear hla hda
  obtain ⟨lb, hlb⟩ : ∃ n : Int, ((left sb : Nat) : Int) = n := ⟨_, rfl⟩
  obtain ⟨db, hdb⟩ : ∃ v, done sb = v := ⟨_, rfl⟩
  have CLb := Lib.hid (fun p W h => rdleft_is p sb lb W h hlb)
  have CMb := Lib.hid (fun p W h => rqleft_is p sb lb W h hlb)
  have CDb := Lib.hid (fun p W h => Wire.rddone_is p sb db W h hdb)
  have CHb := Lib.hid (fun p W h => rqdone_is p sb db W h hdb)
  clear hlb hdb
  clear hx he ha hsa hb hsb hs
  go_enter Try.func4, Try.ntmps4
  go_wp2_with fail
  refine (CT.out _).mono ?_
  rintro e w1 ⟨rfl, hb⟩
  go_simp
  rename_i K1 hK1
  refine hK1 _ _ ?_
  clear hK1 K1
  iterate 4 (refine wpList_plain rfl fun K hK => ?_; go_simp; refine hK _ _ ?_; clear hK K)
  refine st17 (at17_new 27 w1 (.int .i64 0) (.bool false) (.int .i64 0) (.int .i64 0) (.int .i64 0) (.int .i64 0) (.bool false) (.int .i64 0) (.int .i64 0) (.bool false) (.int .i64 0) (.int .i64 0) (.int .i64 0) (.int .i64 0) (.bool false) (.int .i64 0) (.int .i64 0)) (.tmp 3) (.tmp 18) rfl rfl rfl rfl rfl ?_
  simp only [Act.put, List.setIfInBounds_toArray, List.set_cons_succ, List.set_cons_zero]
  have hn := new_below w1 (.int .i64 m0) (.bool m1) (.int .i64 m2) (.int .i64 y0) (.int .i64 y1) (.int .i64 y2) (.bool y3) (.int .i64 y4) (.int .i64 y5) (.bool y6) (.int .i64 s0) (.int .i64 s1) (.int .i64 s2) (.int .i64 s3) (.bool s4) (.int .i64 s5) (.int .i64 s6)
  have hY := new_at w1 (.int .i64 m0) (.bool m1) (.int .i64 m2) (.int .i64 y0) (.int .i64 y1) (.int .i64 y2) (.bool y3) (.int .i64 y4) (.int .i64 y5) (.bool y6) (.int .i64 s0) (.int .i64 s1) (.int .i64 s2) (.int .i64 s3) (.bool s4) (.int .i64 s5) (.int .i64 s6)
  have hB := below_keep hb hn hb.size
  obtain ⟨p1, hp⟩ : ∃ p, w1.heap.size = p := ⟨_, rfl⟩
  obtain ⟨u1, hu⟩ : ∃ u, put17 (w1.alloc (.cells #[.int .i64 0, .bool false, .int .i64 0, .int .i64 0, .int .i64 0, .int .i64 0, .bool false, .int .i64 0, .int .i64 0, .bool false, .int .i64 0, .int .i64 0, .int .i64 0, .int .i64 0, .bool false, .int .i64 0, .int .i64 0] 27)) w1.heap.size (.int .i64 m0) (.bool m1) (.int .i64 m2) (.int .i64 y0) (.int .i64 y1) (.int .i64 y2) (.bool y3) (.int .i64 y4) (.int .i64 y5) (.bool y6) (.int .i64 s0) (.int .i64 s1) (.int .i64 s2) (.int .i64 s3) (.bool s4) (.int .i64 s5) (.int .i64 s6) = u := ⟨_, rfl⟩
  rw [hu] at hY hB
  rw [hp] at hY
  rw [show put17 (w1.alloc (.cells #[.int .i64 0, .bool false, .int .i64 0, .int .i64 0, .int .i64 0, .int .i64 0, .bool false, .int .i64 0, .int .i64 0, .bool false, .int .i64 0, .int .i64 0, .int .i64 0, .int .i64 0, .bool false, .int .i64 0, .int .i64 0] 27)) w1.heap.size (.int .i64 m0) (.bool m1) (.int .i64 m2) (.int .i64 y0) (.int .i64 y1) (.int .i64 y2) (.bool y3) (.int .i64 y4) (.int .i64 y5) (.bool y6) (.int .i64 s0) (.int .i64 s1) (.int .i64 s2) (.int .i64 s3) (.bool s4) (.int .i64 s5) (.int .i64 s6) = u1 from hu, hp]
  clear hu hp hn
  have HY1 := Lib.hid hY
  have HB1 := Lib.hid hB
  clear hb hY hB
  go_wp2_with fail
  refine (CR.out _).mono ?_
  rintro e w2 ⟨rfl, hb⟩
  go_simp
  rename_i K1 hK1
  refine hK1 _ _ ?_
  clear hK1 K1
  iterate 4 (refine wpList_plain rfl fun K hK => ?_; go_simp; refine hK _ _ ?_; clear hK K)
  refine st17 (at17_new 27 w2 (.int .i64 0) (.bool false) (.int .i64 0) (.int .i64 0) (.int .i64 0) (.int .i64 0) (.bool false) (.int .i64 0) (.int .i64 0) (.bool false) (.int .i64 0) (.int .i64 0) (.int .i64 0) (.int .i64 0) (.bool false) (.int .i64 0) (.int .i64 0)) (.tmp 5) (.tmp 23) rfl rfl rfl rfl rfl ?_
  simp only [Act.put, List.setIfInBounds_toArray, List.set_cons_succ, List.set_cons_zero]
  have hn := new_below w2 (.int .i64 m0) (.bool m1) (.int .i64 m2) (.int .i64 y0) (.int .i64 y1) (.int .i64 y2) (.bool y3) (.int .i64 y4) (.int .i64 y5) (.bool y6) (.int .i64 s0) (.int .i64 s1) (.int .i64 s2) (.int .i64 s3) (.bool s4) (.int .i64 s5) (.int .i64 s6)
  have hY := new_at w2 (.int .i64 m0) (.bool m1) (.int .i64 m2) (.int .i64 y0) (.int .i64 y1) (.int .i64 y2) (.bool y3) (.int .i64 y4) (.int .i64 y5) (.bool y6) (.int .i64 s0) (.int .i64 s1) (.int .i64 s2) (.int .i64 s3) (.bool s4) (.int .i64 s5) (.int .i64 s6)
  have hB := below_keep HB1.out (below_keep hb hn hb.size) HB1.out.size
  have hy := (HY1.out.keep hb).keep hn
  obtain ⟨p2, hp⟩ : ∃ p, w2.heap.size = p := ⟨_, rfl⟩
  obtain ⟨u2, hu⟩ : ∃ u, put17 (w2.alloc (.cells #[.int .i64 0, .bool false, .int .i64 0, .int .i64 0, .int .i64 0, .int .i64 0, .bool false, .int .i64 0, .int .i64 0, .bool false, .int .i64 0, .int .i64 0, .int .i64 0, .int .i64 0, .bool false, .int .i64 0, .int .i64 0] 27)) w2.heap.size (.int .i64 m0) (.bool m1) (.int .i64 m2) (.int .i64 y0) (.int .i64 y1) (.int .i64 y2) (.bool y3) (.int .i64 y4) (.int .i64 y5) (.bool y6) (.int .i64 s0) (.int .i64 s1) (.int .i64 s2) (.int .i64 s3) (.bool s4) (.int .i64 s5) (.int .i64 s6) = u := ⟨_, rfl⟩
  rw [hu] at hY hB hy
  rw [hp] at hY
  rw [show put17 (w2.alloc (.cells #[.int .i64 0, .bool false, .int .i64 0, .int .i64 0, .int .i64 0, .int .i64 0, .bool false, .int .i64 0, .int .i64 0, .bool false, .int .i64 0, .int .i64 0, .int .i64 0, .int .i64 0, .bool false, .int .i64 0, .int .i64 0] 27)) w2.heap.size (.int .i64 m0) (.bool m1) (.int .i64 m2) (.int .i64 y0) (.int .i64 y1) (.int .i64 y2) (.bool y3) (.int .i64 y4) (.int .i64 y5) (.bool y6) (.int .i64 s0) (.int .i64 s1) (.int .i64 s2) (.int .i64 s3) (.bool s4) (.int .i64 s5) (.int .i64 s6) = u2 from hu, hp]
  clear hu hp hn
  have HZ2 := Lib.hid hY
  have HY2 := Lib.hid hy
  have HB2 := Lib.hid hB
  clear hb hY hB hy HY1 HB1
  go_wp2_with fail
  refine (CN.out _).mono ?_
  rintro e w3 ⟨rfl, hr, hb⟩
  obtain ⟨r1, hr1⟩ : ∃ r, u2.heap.size = r := ⟨_, rfl⟩
  have hl1 : w.heap.size ≤ r1 := by rw [← hr1]; exact HB2.out.size
  have HY3 := Lib.hid (HY2.out.keep hb)
  have HZ3 := Lib.hid (HZ2.out.keep hb)
  have HB3 := Lib.hid (below_keep HB2.out hb HB2.out.size)
  rw [hr1] at hr
  rw [hr1]
  have HR3 := Lib.hid hr
  have HL1 := Lib.hid hl1
  clear hr hb HY2 HZ2 HB2 hl1 hr1
  have hbx : Below w3.heap.size w3 (w3.alloc (.cells #[.string s, .bool false] 43)) := (Below.refl _ w3).alloc (Nat.le_refl _) _
  have hqx : RqAt (w3.alloc (.cells #[.string s, .bool false] 43)) w3.heap.size (some s.data.toList) := ⟨s, heap_alloc_new _ _, rfl, HS.out⟩
  obtain ⟨r2, hsx⟩ : ∃ r, w3.heap.size = r := ⟨_, rfl⟩
  obtain ⟨u3, hu⟩ : ∃ u, w3.alloc (.cells #[.string s, .bool false] 43) = u := ⟨_, rfl⟩
  rw [hu] at hbx hqx
  rw [hsx] at hqx
  have HU3 := Lib.hid hu
  have SZr2 := Lib.hid hsx
  clear hu
  have HB4 := Lib.hid (below_keep HB3.out hbx HB3.out.size)
  have HR4 := Lib.hid (Msg.RdAt.below HR3.out hbx)
  have HY4 := Lib.hid (HY3.out.keep hbx)
  have HZ4 := Lib.hid (HZ3.out.keep hbx)
  have HQ4 := Lib.hid hqx
  have N12 := Lib.hid (show r1 < r2 by rw [← hsx]; exact HR3.out.lt)
  clear hbx hqx HB3 HR3 HY3 HZ3 hsx
  go_wp2_with fail
  rw [show w3.alloc (.cells #[.string s, .bool false] 43) = u3 from HU3.out]
  refine (CN.out _).mono ?_
  rintro e w4 ⟨rfl, hr, hb⟩
  obtain ⟨r3, hr3⟩ : ∃ r, u3.heap.size = r := ⟨_, rfl⟩
  have N23 := Lib.hid (show r2 < r3 by rw [← hr3]; exact HQ4.out.lt)
  have HB5 := Lib.hid (below_keep HB4.out hb HB4.out.size)
  have HR5 := Lib.hid (Msg.RdAt.below HR4.out hb)
  have HY5 := Lib.hid (HY4.out.keep hb)
  have HZ5 := Lib.hid (HZ4.out.keep hb)
  have HQ5 := Lib.hid (RqAt.below HQ4.out hb)
  rw [hr3] at hr
  rw [hr3]
  have HU5 := Lib.hid hr
  clear hr hb HB4 HR4 HY4 HZ4 HQ4 hr3
  have hbx : Below w4.heap.size w4 (w4.alloc (.cells #[.string s, .bool false] 43)) := (Below.refl _ w4).alloc (Nat.le_refl _) _
  have hqx : RqAt (w4.alloc (.cells #[.string s, .bool false] 43)) w4.heap.size (some s.data.toList) := ⟨s, heap_alloc_new _ _, rfl, HS.out⟩
  obtain ⟨r4, hsx⟩ : ∃ r, w4.heap.size = r := ⟨_, rfl⟩
  obtain ⟨u4, hu⟩ : ∃ u, w4.alloc (.cells #[.string s, .bool false] 43) = u := ⟨_, rfl⟩
  rw [hu] at hbx hqx
  rw [hsx] at hqx
  have HU4 := Lib.hid hu
  have SZr4 := Lib.hid hsx
  clear hu
  have HB6 := Lib.hid (below_keep HB5.out hbx HB5.out.size)
  have HR6 := Lib.hid (Msg.RdAt.below HR5.out hbx)
  have HY6 := Lib.hid (HY5.out.keep hbx)
  have HZ6 := Lib.hid (HZ5.out.keep hbx)
  have HQ6 := Lib.hid (RqAt.below HQ5.out hbx)
  have HU6 := Lib.hid (Msg.RdAt.below HU5.out hbx)
  have HV6 := Lib.hid hqx
  have N34 := Lib.hid (show r3 < r4 by rw [← hsx]; exact HU5.out.lt)
  have HYL : Hid (At17 27 (w4.alloc (.cells #[.string s, .bool false] 43)) p1 (.int .i64 m0) (.bool m1) (.int .i64 m2) (.int .i64 y0) (.int .i64 y1) (.int .i64 y2) (.bool y3) (.int .i64 y4) (.int .i64 y5) (.bool y6) (.int .i64 s0) (.int .i64 s1) (.int .i64 s2) (.int .i64 s3) (.bool s4) (.int .i64 s5) (.int .i64 s6)) := Lib.hid (by rw [show w4.alloc (.cells #[.string s, .bool false] 43) = u4 from HU4.out]; exact HY6.out)
  have HZL : Hid (At17 27 (w4.alloc (.cells #[.string s, .bool false] 43)) p2 (.int .i64 m0) (.bool m1) (.int .i64 m2) (.int .i64 y0) (.int .i64 y1) (.int .i64 y2) (.bool y3) (.int .i64 y4) (.int .i64 y5) (.bool y6) (.int .i64 s0) (.int .i64 s1) (.int .i64 s2) (.int .i64 s3) (.bool s4) (.int .i64 s5) (.int .i64 s6)) := Lib.hid (by rw [show w4.alloc (.cells #[.string s, .bool false] 43) = u4 from HU4.out]; exact HZ6.out)
  clear hbx hqx HB5 HR5 HY5 HZ5 HQ5 HU5 hsx
  have q1 := fun w => eql_v m0 m1 m2 y0 y1 y2 y3 y4 y5 y6 s0 s1 s2 s3 s4 s5 s6 m0 m1 m2 y0 y1 y2 y3 y4 y5 y6 s0 s1 s2 s3 s4 s5 s6 w
  rw [eqV_self] at q1
  have q3 := fun x y u v w => guard_v .eql x y u v w
  go_wp2_with (first | (refine ld17 HYL.out (.tmp 3) (by kernel_rfl) rfl rfl ?_) | (refine ld17 HZL.out (.tmp 5) (by kernel_rfl) rfl rfl ?_))
  rw [show w4.alloc (.cells #[.string s, .bool false] 43) = u4 from HU4.out, show w4.heap.size = r4 from SZr4.out, show w3.heap.size = r2 from SZr2.out]
  clear HYL HZL HY6 HZ6 HU4 HU3 SZr4 SZr2 q1 q3 CT CR CN HS
  have D21 : Hid (r2 ≠ r1) := Nat.ne_of_gt N12.out
  have D31 : Hid (r3 ≠ r1) := by have h1 := N12.out; have h2 := N23.out; show r3 ≠ r1; omega
  have D41 : Hid (r4 ≠ r1) := by have h1 := N12.out; have h2 := N23.out; have h3 := N34.out; show r4 ≠ r1; omega
  have D12 : Hid (r1 ≠ r2) := Nat.ne_of_lt N12.out
  have D32 : Hid (r3 ≠ r2) := Nat.ne_of_gt N23.out
  have D42 : Hid (r4 ≠ r2) := by have h2 := N23.out; have h3 := N34.out; show r4 ≠ r2; omega
  have D43 : Hid (r4 ≠ r3) := Nat.ne_of_gt N34.out
  have D34 : Hid (r3 ≠ r4) := Nat.ne_of_lt N34.out
  have B2 : Hid (w.heap.size ≤ r2) := by have h0 := HL1.out; have h1 := N12.out; show w.heap.size ≤ r2; omega
  have B3 : Hid (w.heap.size ≤ r3) := by have h0 := B2.out; have h1 := N23.out; show w.heap.size ≤ r3; omega
  have B4 : Hid (w.heap.size ≤ r4) := by have h0 := B3.out; have h1 := N34.out; show w.heap.size ≤ r4; omega
  clear N12 N23 N34
  have qe := fun W => Outbox.eql_en a0 a1 a2 a3 a4 a5 a6 a0 a1 a2 a3 a4 a5 a6 W
  rw [eqE_out, eqE_self] at qe
  have qr := fun W => eql_r b0 b1 b2 b3 b4 b5 b6 b0 b1 b2 b3 b4 b5 b6 W
  rw [eqR_self] at qr
  have ge := fun x y u v W => guard_e .eql x y u v W
  have gr := fun x y u v W => guard_r .eql x y u v W
  have la1 : ((la == la) : Bool) = true := by simp
  have lb1 : ((lb == lb) : Bool) = true := by simp
  have da1 : ((da == da) : Bool) = true := by simp
  have db1 : ((db == db) : Bool) = true := by simp
  refine (CE.out r1 _ HR6.out).mono ?_
  rintro e x7 ⟨rfl, hr, hg⟩
  have HR7 := Lib.hid hr
  have HQ7 := Lib.hid (rq_kept HQ6.out hg D21.out)
  have HU7 := Lib.hid (rd_kept HU6.out hg D31.out)
  have HV7 := Lib.hid (rq_kept HV6.out hg D41.out)
  have HB7 := Lib.hid (HB6.out.trans (rd_below hg HR6.out HL1.out))
  clear hr hg HB6 HR6 HQ6 HU6 HV6
  go_wp2_with fail
  refine (CQ.out r2 _ HQ7.out).mono ?_
  rintro e x8 ⟨rfl, hr, hg⟩
  have HR8 := Lib.hid (rd_kept HR7.out hg D12.out)
  have HQ8 := Lib.hid hr
  have HU8 := Lib.hid (rd_kept HU7.out hg D32.out)
  have HV8 := Lib.hid (rq_kept HV7.out hg D42.out)
  have HB8 := Lib.hid (HB7.out.trans (rq_below hg HQ7.out B2.out))
  clear hr hg HB7 HR7 HQ7 HU7 HV7
  go_wp2_with fail
  refine (CLa.out r1 _ HR8.out).mono ?_
  rintro e x80 ⟨rfl, hx⟩
  cases hx
  go_wp2_with fail
  refine (CMa.out r2 _ HQ8.out).mono ?_
  rintro e x81 ⟨rfl, hx⟩
  cases hx
  go_wp2_with fail
  refine (CDa.out r1 _ HR8.out).mono ?_
  rintro e x9 ⟨rfl, hb⟩
  have HR9 := Lib.hid (Msg.RdAt.below HR8.out hb)
  have HQ9 := Lib.hid (RqAt.below HQ8.out hb)
  have HU9 := Lib.hid (Msg.RdAt.below HU8.out hb)
  have HV9 := Lib.hid (RqAt.below HV8.out hb)
  have HB9 := Lib.hid (below_keep HB8.out hb HB8.out.size)
  clear hb HB8 HR8 HQ8 HU8 HV8
  go_wp2_with fail
  refine (CHa.out r2 _ HQ9.out).mono ?_
  rintro e x10 ⟨rfl, hb⟩
  have HR10 := Lib.hid (Msg.RdAt.below HR9.out hb)
  have HQ10 := Lib.hid (RqAt.below HQ9.out hb)
  have HU10 := Lib.hid (Msg.RdAt.below HU9.out hb)
  have HV10 := Lib.hid (RqAt.below HV9.out hb)
  have HB10 := Lib.hid (below_keep HB9.out hb HB9.out.size)
  clear hb HB9 HR9 HQ9 HU9 HV9
  go_wp2_with fail
  refine (CF.out r3 _ HU10.out).mono ?_
  rintro e x11 ⟨rfl, hr, hg⟩
  have HU11 := Lib.hid hr
  have HV11 := Lib.hid (rq_kept HV10.out hg D43.out)
  have HB11 := Lib.hid (HB10.out.trans (rd_below hg HU10.out B3.out))
  clear HR10 HQ10 hr hg HB10 HU10 HV10
  go_wp2_with fail
  refine (CG.out r4 _ HV11.out).mono ?_
  rintro e x12 ⟨rfl, hr, hg⟩
  have HU12 := Lib.hid (rd_kept HU11.out hg D34.out)
  have HV12 := Lib.hid hr
  have HB12 := Lib.hid (HB11.out.trans (rq_below hg HV11.out B4.out))
  clear hr hg HB11 HU11 HV11
  go_wp2_with fail
  refine (CLb.out r3 _ HU12.out).mono ?_
  rintro e x120 ⟨rfl, hx⟩
  cases hx
  go_wp2_with fail
  refine (CMb.out r4 _ HV12.out).mono ?_
  rintro e x121 ⟨rfl, hx⟩
  cases hx
  go_wp2_with fail
  refine (CDb.out r3 _ HU12.out).mono ?_
  rintro e x13 ⟨rfl, hb⟩
  have HU13 := Lib.hid (Msg.RdAt.below HU12.out hb)
  have HV13 := Lib.hid (RqAt.below HV12.out hb)
  have HB13 := Lib.hid (below_keep HB12.out hb HB12.out.size)
  clear hb HB12 HU12 HV12
  go_wp2_with fail
  refine (CHb.out r4 _ HV13.out).mono ?_
  rintro e x14 ⟨rfl, hb⟩
  have HU14 := Lib.hid (Msg.RdAt.below HU13.out hb)
  have HV14 := Lib.hid (RqAt.below HV13.out hb)
  have HB14 := Lib.hid (below_keep HB13.out hb HB13.out.size)
  clear hb HB13 HU13 HV13
  go_wp2_with fail
  refine (awake_any _).mono ?_
  rintro e x15 ⟨rfl, hb⟩
  have HB15 := Lib.hid (below_keep HB14.out hb HB14.out.size)
  clear hb HB14
  go_wp2_with fail
  go_ret
  exact ⟨rfl, HB15.out⟩

set_option maxHeartbeats 4000000 in
theorem takes_long (s : ByteArray) (h200 : (200 : Int) < (s.size : Int)) (w : World) : Calls Try.prog 4 #[.string s] w fun e w' => e = .returned (.bool true) ∧ Below w.heap.size w w' := by
  go_enter Try.func4, Try.ntmps4
  go_wp2_with fail
  refine (awake_any _).mono ?_
  rintro e w1 ⟨rfl, hb⟩
  have HB1 := Lib.hid hb
  clear hb
  go_wp2_with fail
  go_ret
  exact ⟨rfl, HB1.out⟩
theorem takes_any (s : ByteArray) (w : World) : Calls Try.prog 4 #[.string s] w fun e w' => e = .returned (.bool true) ∧ Below w.heap.size w w' := by
  by_cases h200 : (200 : Int) < (s.size : Int)
  · exact takes_long s h200 w
  · exact takes_short s h200 w
end Go.Proofs.Ytamcidlkbhanfaa.Msg
namespace Go.Proofs.Ytamcidlkbhanfaa
open Go.RowKit MsgP
theorem Contract.msgTakes (s : ByteArray) (W : World) (_hk : s.size ≤ maxLen) :
    Calls Try.prog 4 #[.string s] W fun e W' => e = .returned (.bool true) ∧ Below W.heap.size W W' :=
  Go.Proofs.Ytamcidlkbhanfaa.Msg.takes_any s W
end Go.Proofs.Ytamcidlkbhanfaa
