import Derived.Test.YtnnakhdndmjmiaaGreatPuStampD
import Derived.Lib.QuietBelow
import Derived.Deep.QuietTactic
set_option linter.unusedVariables false
set_option maxRecDepth 4000
namespace Go.Proofs.YtnnakhdndmjmiaaGreat
open Go.RowKit CrcP StampP
theorem rseal_not (n i c : Int) (s : ByteArray) (w : World) (h : ¬ fit n i c) : Calls Tryz.prog 120 #[stV n i c,.string s] w fun e w'=>e = .returned (.tuple #[.string ⟨#[]⟩,.int .i64 1]) ∧ Below w.heap.size w w':=by
 have hf:=fun w=>rfit_any n i c w
 rw [fit_no h] at hf
 unfold stV at *
 have HF:=Lib.hid hf
 clear hf h
 go_enter Tryz.func120,Tryz.ntmps120
 go_wp2_with fail
 refine (HF.out _).mono ?_
 rintro e w1 ⟨rfl,hb1⟩
 have HB:=Lib.hid (((Below.refl _ w).alloc (Nat.le_refl _) (.cells #[.int .i64 n,.int .i64 i,.int .i64 c] 161)).trans (hb1.mono (by simp)))
 clear hb1
 go_wp2_with fail
 go_ret2
 exact ⟨rfl,HB.out⟩
theorem below_keep' {B : Nat} {a b c : World} (h : Below B a b) (k : Below b.heap.size b c) (hB : B ≤ b.heap.size) : Below B a c:=h.trans (k.mono hB)
theorem str_data (s : ByteArray) : str s.data.toList = s:=by
 unfold str
 cases s
 simp
theorem be_small {n k : Nat} (s : ByteArray) (h : str (be n k) = s) : s.size = k ∧ s.data.toList = be n k:=by
 subst h
 exact ⟨by rw [str_size,be_length],rfl⟩
set_option maxHeartbeats 1600000 in
theorem rseal_yes (n i c : Nat) (s : ByteArray) (w : World) (h : fit n i c) (hs : s.size ≤ 104) : Calls Tryz.prog 120 #[stV n i c,.string s] w fun e w'=>e = .returned (.tuple #[.string (str (sl n i c s.data.toList)),.int .i64 0]) ∧ Below w.heap.size w w':=by
 have hf:=fun w=>rfit_any n i c w
 rw [fit_yes h] at hf
 unfold stV at *
 have g:=h
 unfold fit at g
 have gn : n < 9223372036854775808:=by omega
 have gi : i < 9223372036854775808:=by omega
 have gc : c < 9223372036854775808:=by omega
 have gs : s.size < 9223372036854775808:=by omega
 have hl:=len_list s
 obtain ⟨a6,ha6⟩ : ∃ t,str (be n 6) = t:=⟨_,rfl⟩
 obtain ⟨b2,hb2⟩ : ∃ t,str (be i 2) = t:=⟨_,rfl⟩
 obtain ⟨c2,hc2⟩ : ∃ t,str (be c 2) = t:=⟨_,rfl⟩
 obtain ⟨z2,hz2⟩ : ∃ t,str (be s.size 2) = t:=⟨_,rfl⟩
 obtain ⟨h8,e1⟩ : ∃ t,a6 ++ b2 = t:=⟨_,rfl⟩
 obtain ⟨h10,e2⟩ : ∃ t,h8 ++ c2 = t:=⟨_,rfl⟩
 obtain ⟨h12,e3⟩ : ∃ t,h10 ++ z2 = t:=⟨_,rfl⟩
 obtain ⟨hh,e4⟩ : ∃ t,h12 ++ s = t:=⟨_,rfl⟩
 obtain ⟨sg,hsg⟩ : ∃ sg,sm n i c s.data.toList = sg:=⟨_,rfl⟩
 obtain ⟨o4,ho4⟩ : ∃ t,str (be sg 4) = t:=⟨_,rfl⟩
 obtain ⟨p16,e5⟩ : ∃ t,h12 ++ o4 = t:=⟨_,rfl⟩
 obtain ⟨q,e6⟩ : ∃ t,p16 ++ s = t:=⟨_,rfl⟩
 obtain ⟨bl,hbl⟩ : ∃ t,str zeros = t:=⟨_,rfl⟩
 obtain ⟨tl,e7⟩ : ∃ t,bl.extract 0 (104 - s.size) = t:=⟨_,rfl⟩
 obtain ⟨r,e8⟩ : ∃ t,q ++ tl = t:=⟨_,rfl⟩
 obtain ⟨out,hout⟩ : ∃ out,str (sl n i c s.data.toList) = out:=⟨_,rfl⟩
 have d8 : h8 = str (mk n i):=by rw [← e1,← ha6,← hb2,str_app];rfl
 have d12 : h12 = str (hd n i c s.size):=by rw [← e3,← e2,d8,← hc2,← hz2,str_app,str_app];rfl
 have dh : hh = str (hd n i c s.size ++ s.data.toList):=by rw [← e4,d12,← str_app,str_data]
 have dtl : tl = str (List.replicate (104 - s.size) 0):=by
  rw [← e7,← hbl,← str_data ((str zeros).extract 0 (104 - s.size))]
  congr 1
  rw [ByteArray.data_extract,Array.toList_extract,List.extract_eq_take_drop]
  show List.take (104 - s.size - 0) (List.drop 0 zeros) = _
  rw [List.drop_zero,Nat.sub_zero]
  unfold zeros
  rw [List.take_replicate,Nat.min_eq_left (by omega)]
 have e9 : r ++ h8 = out:=by
  rw [← hout,← e8,← e6,← e5,d12,← ho4,dtl,d8,← str_data s,str_app,str_app,str_app,str_app,← hsg]
  unfold sl
  rw [str_data,hl]
 have z6:=(be_small _ ha6).1
 have z2':=(be_small _ hb2).1
 have z3:=(be_small _ hc2).1
 have z4:=(be_small _ hz2).1
 have z8 : h8.size = 8:=by rw [d8,str_size,mk_length]
 have z10 : h10.size = 10:=by rw [← e2,ByteArray.size_append,z8,z3]
 have z12 : h12.size = 12:=by rw [d12,str_size,hd_length]
 have zh : hh.size ≤ 116:=by rw [dh,str_size,List.length_append,hd_length,hl];omega
 have zo : o4.size = 4:=(be_small _ ho4).1
 have z16 : p16.size = 16:=by rw [← e5,ByteArray.size_append,z12,zo]
 have zq : q.size = 16 + s.size:=by rw [← e6,ByteArray.size_append,z16]
 have zb : bl.size = 128:=by rw [← hbl];rfl
 have zt : tl.size = 104 - s.size:=by rw [dtl,str_size,List.length_replicate]
 have zr : r.size = 120:=by rw [← e8,ByteArray.size_append,zq,zt];omega
 have hsum:=fun w=>rsum_any hh w (by omega)
 have hss : (more 0#32 hh.data.toList).toNat = sg:=by rw [dh,← hsg,← hl];rfl
 rw [hss] at hsum
 have hoct:=fun w=>roctets_any sg w (by rw [← hsg];unfold sm;exact BitVec.isLt _)
 rw [oc_be] at hoct
 change ∀ w,Calls Tryz.prog 121 #[.int .u32 (sg : Int)] w fun e w'=>e = .returned (.string (str (be sg 4))) ∧ Below w.heap.size w w' at hoct
 rw [ho4] at hoct
 have hbk:=fun w=>rblank_any w
 rw [hbl] at hbk
 rw [hout]
 have HF:=Lib.hid hf;have HSUM:=Lib.hid hsum;have HOCT:=Lib.hid hoct;have HBK:=Lib.hid hbk
 have HA:=Lib.hid ha6;have HBB:=Lib.hid hb2;have HCC:=Lib.hid hc2;have HZZ:=Lib.hid hz2
 clear hf hsum hoct hbk ha6 hb2 hc2 hz2 h g hsg hout hss d8 d12 dh dtl hbl ho4 hl
 go_enter Tryz.func120,Tryz.ntmps120
 go_wp2_with fail
 refine (HF.out _).mono ?_
 rintro e w1 ⟨rfl,hb1⟩
 have c0 : w1.cell? ⟨w.heap.size,0,none⟩ = some (.int .i64 n):=(hb1.cell (p:=⟨w.heap.size,0,none⟩) (by simp)).trans (by rw [World.cell?_alloc_new];rfl)
 have c1 : w1.cell? ⟨w.heap.size,1,none⟩ = some (.int .i64 i):=(hb1.cell (p:=⟨w.heap.size,1,none⟩) (by simp)).trans (by rw [World.cell?_alloc_new];rfl)
 have c2' : w1.cell? ⟨w.heap.size,2,none⟩ = some (.int .i64 c):=(hb1.cell (p:=⟨w.heap.size,2,none⟩) (by simp)).trans (by rw [World.cell?_alloc_new];rfl)
 have HB:=Lib.hid (((Below.refl _ w).alloc (Nat.le_refl _) (.cells #[.int .i64 n,.int .i64 i,.int .i64 c] 161)).trans (hb1.mono (by simp)))
 clear hb1
 go_wp2_with fail
 have g0:=fun d os=>cell_regrown c0 d os
 have g1:=fun d os=>cell_regrown c1 d os
 have k1 : ∀ d os,Calls Tryz.prog 160 #[.int .i64 (n : Int),.int .i64 6] (Sort.grow (redrawn w1 d) os) fun e w''=>e = .returned (.string a6) ∧ ∃ p : Regrown,w'' = Sort.grow (redrawn w1 p.d) p.os:=fun d os=>Calls.regrown_of (by have h:=high_any n 6 (Sort.grow (redrawn w1 d) os) (by decide) gn;rw [HA.out] at h;exact h)
 have k2 : ∀ d os,Calls Tryz.prog 160 #[.int .i64 (i : Int),.int .i64 2] (Sort.grow (redrawn w1 d) os) fun e w''=>e = .returned (.string b2) ∧ ∃ p : Regrown,w'' = Sort.grow (redrawn w1 p.d) p.os:=fun d os=>Calls.regrown_of (by have h:=high_any i 2 (Sort.grow (redrawn w1 d) os) (by decide) gi;rw [HBB.out] at h;exact h)
 have K1:=Lib.hid k1;have K2:=Lib.hid k2
 clear k1 k2
 refine wp_region_quiet_below (by kernel_rfl) (by kernel_rfl) ?_
 repeat (quiet_step (first | with_reducible exact K1.out _ _ | with_reducible exact K2.out _ _))
 refine wpQuiet_nil ?_
 intro _ hw'
 obtain ⟨⟨dq,osq⟩,hw''⟩:=hw'
 subst hw''
 have f2:=cell_regrown c2' dq osq
 have HB3:=Lib.hid (HB.out.trans ((below_regrown w1 dq osq).mono HB.out.size))
 clear g0 g1 K1 K2 c0 c1 c2' HB
 generalize Sort.grow (redrawn w1 dq) osq = w3 at *
 go_wp2_with fail
 refine (high_any c 2 w3 (by decide) gc).mono ?_
 rintro e w4 ⟨rfl,hb4⟩
 rw [HCC.out]
 have HB4:=Lib.hid (below_keep' HB3.out hb4 HB3.out.size)
 clear hb4
 go_wp2_with fail
 refine (high_any s.size 2 w4 (by decide) gs).mono ?_
 rintro e w5 ⟨rfl,hb5⟩
 rw [HZZ.out]
 have HB5:=Lib.hid (below_keep' HB4.out hb5 HB4.out.size)
 clear hb5
 go_wp2_with fail
 refine (HSUM.out _).mono ?_
 rintro e w' ⟨rfl,rfl⟩
 go_wp2_with fail
 refine (HOCT.out _).mono ?_
 rintro e w6 ⟨rfl,hb6⟩
 have HB6:=Lib.hid (below_keep' HB5.out hb6 HB5.out.size)
 clear hb6
 go_wp2_with fail
 refine (HBK.out _).mono ?_
 rintro e w7 ⟨rfl,hb7⟩
 have HB7:=Lib.hid (below_keep' HB6.out hb7 HB6.out.size)
 clear hb7
 go_wp2_with fail
 go_ret2
 exact ⟨rfl,HB7.out⟩
end Go.Proofs.YtnnakhdndmjmiaaGreat
