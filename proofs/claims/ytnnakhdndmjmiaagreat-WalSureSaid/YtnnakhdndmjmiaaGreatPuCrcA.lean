import Derived.Test.YtnnakhdndmjmiaaGreatPuCrcPlain
import Derived.Test.YtnnakhdndmjmiaaGreatChecked
import Derived.WalkKit
import Derived.Lib.Hide
import Derived.Below
import Derived.WalkLawsBesides
import Derived.WalkSpells
import Derived.BigQuiet
import Derived.LoopTactic
set_option linter.unusedVariables false
set_option maxRecDepth 4000
namespace Go.Proofs.YtnnakhdndmjmiaaGreat
open Go.RowKit CrcP
theorem u32x (a b : BitVec 32) : bits .xor .u32 (a.toNat : Int) (b.toNat : Int) = ((a ^^^ b).toNat : Int):=by
 rw [u32_xor_nat _ _ a.isLt b.isLt,BitVec.toNat_xor]
theorem stp_odd {n : BitVec 32} (h : n.toNat % 2 = 1) : (stp n).toNat = n.toNat / 2 ^^^ 3988292384:=by
 unfold stp
 have h0 : n.getLsbD 0 = true:=by rw [BitVec.getLsbD,Nat.testBit_zero];simp [h]
 rw [if_pos h0,BitVec.toNat_xor,BitVec.toNat_ushiftRight,Nat.shiftRight_eq_div_pow]
 rfl
theorem stp_even {n : BitVec 32} (h : n.toNat % 2 = 0) : (stp n).toNat = n.toNat / 2:=by
 unfold stp
 have h0 : n.getLsbD 0 = false:=by rw [BitVec.getLsbD,Nat.testBit_zero];simp [h]
 rw [h0,if_neg (by decide),BitVec.xor_zero,BitVec.toNat_ushiftRight,Nat.shiftRight_eq_div_pow]
theorem step_any (n : BitVec 32) (w : World) : Calls Tryz.prog 190 #[.int .u32 (n.toNat : Int)] w fun e w'=>e = .returned (.int .u32 ((stp n).toNat : Int)) ∧ w = w':=by
 have hn:=n.isLt
 rcases Nat.mod_two_eq_zero_or_one n.toNat with h | h
 ·rw [stp_even h]
  generalize n.toNat = x at *
  have h1 : bits .and .u32 (x : Int) 1 = 0:=by
   have:=u32_and_nat x 1 hn (by decide)
   rw [Nat.and_one_is_mod,h] at this
   exact this
  have h2 : bits .and .u32 3988292384 0 = 0:=by decide
  have h3 : bits .xor .u32 ((x : Int) / 2) 0 = ((x / 2 : Nat) : Int):=by
   have:=u32_xor_nat (x / 2) 0 (by omega) (by decide)
   rw [Nat.xor_zero] at this
   exact this
  have H3:=Lib.hid h3;clear h3
  go_enter Tryz.func190,Tryz.ntmps190
  go_wp2
  go_ret
  refine ⟨?_,rfl⟩
  rw [H3.out];rfl
 ·rw [stp_odd h]
  generalize n.toNat = x at *
  have h1 : bits .and .u32 (x : Int) 1 = 1:=by
   have:=u32_and_nat x 1 hn (by decide)
   rw [Nat.and_one_is_mod,h] at this
   exact this
  have h2 : bits .and .u32 3988292384 4294967295 = 3988292384:=by decide
  have h3 : bits .xor .u32 ((x : Int) / 2) 3988292384 = ((x / 2 ^^^ 3988292384 : Nat) : Int):=u32_xor_nat (x / 2) 3988292384 (by omega) (by decide)
  have H3:=Lib.hid h3;clear h3
  go_enter Tryz.func190,Tryz.ntmps190
  go_wp2
  go_ret
  refine ⟨?_,rfl⟩
  rw [H3.out];rfl
theorem rstep_any (n : BitVec 32) (w : World) : Calls Tryz.prog 180 #[.int .u32 (n.toNat : Int)] w fun e w'=>e = .returned (.int .u32 ((stp n).toNat : Int)) ∧ w = w':=by
 have hn:=n.isLt
 rcases Nat.mod_two_eq_zero_or_one n.toNat with h | h
 ·rw [stp_even h]
  generalize n.toNat = x at *
  go_enter Tryz.func180,Tryz.ntmps180
  go_wp2
  go_ret
  exact ⟨rfl,rfl⟩
 ·rw [stp_odd h]
  generalize n.toNat = x at *
  have h3 : bits .xor .u32 ((x : Int) / 2) 3988292384 = ((x / 2 ^^^ 3988292384 : Nat) : Int):=u32_xor_nat (x / 2) 3988292384 (by omega) (by decide)
  have H3:=Lib.hid h3;clear h3
  go_enter Tryz.func180,Tryz.ntmps180
  go_wp2
  go_ret
  refine ⟨?_,rfl⟩
  rw [H3.out];rfl
theorem stps_succ (k : Nat) (n : BitVec 32) : stps (k + 1) n = stp (stps k n):=by rw [Nat.add_comm,stps_add];rfl
theorem byte_bv (c : UInt8) : (BitVec.ofNat 32 c.toNat).toNat = c.toNat:=by rw [BitVec.toNat_ofNat];exact Nat.mod_eq_of_lt (by have:=c.toNat_lt;omega)
theorem add_any (n : BitVec 32) (c : UInt8) (w : World) : Calls Tryz.prog 178 #[.int .u32 (n.toNat : Int),.int .u8 (c.toNat : Int)] w fun e w'=>e = .returned (.int .u32 ((add n c).toNat : Int)) ∧ w = w':=by
 have hx:=u32x n (BitVec.ofNat 32 c.toNat)
 rw [byte_bv] at hx
 have hc:=c.toNat_lt
 obtain ⟨m,hm⟩ : ∃ m,n ^^^ BitVec.ofNat 32 c.toNat = m:=⟨_,rfl⟩
 have ha : add n c = stps 8 m:=by unfold add;rw [hm]
 rw [hm] at hx
 rw [ha]
 clear hm ha
 go_enter Tryz.func178,Tryz.ntmps178
 go_wp2
 go_loopw [0,9] (fun x i wr => ∃ j : Nat,j ≤ 8 ∧ x = .int .u32 ((stps j m).toNat : Int) ∧ i = .int .i64 (j : Int) ∧ wr = w) (fun _ i _=>8 - (intOf i).toNat)
 case atStart=>exact ⟨0,by omega,rfl,rfl,rfl⟩
 case round =>
  obtain ⟨j,hj,rfl,rfl,rfl⟩:=hrel
  by_cases hlt : j < 8
  ·have hs:=step_any (stps j m) wr
   rw [← stps_succ] at hs
   have HS:=Lib.hid hs;clear hs
   go_wp2_with fail
   refine HS.out.mono ?_
   rintro e w' ⟨rfl,rfl⟩
   go_wp2_with fail
   go_roundw
   case rel=>exact ⟨j + 1,by omega,rfl,by go_num,by trivial⟩
   case measure=>simp [intOf];omega
  ·obtain rfl : j = 8:=by omega
   go_wp2
   go_ret
   exact ⟨rfl,rfl⟩
theorem len_list (s : ByteArray) : s.data.toList.length = s.size:=Array.length_toList
theorem take_step (s : ByteArray) (j : Nat) (h : j < s.size) : s.data.toList.take (j + 1) = s.data.toList.take j ++ [s[j]]:=by
 have h2 : j < s.data.toList.length:=by rw [len_list];exact h
 rw [List.take_succ_eq_append_getElem h2];rfl
theorem run_step (n : BitVec 32) (s : ByteArray) (j : Nat) (h : j < s.size) : run n (s.data.toList.take (j + 1)) = add (run n (s.data.toList.take j)) s[j]:=by
 rw [take_step s j h,run_append];rfl
theorem run_all (n : BitVec 32) (s : ByteArray) : run n (s.data.toList.take s.size) = run n s.data.toList:=by
 rw [← len_list,List.take_length]
theorem u32not (n : BitVec 32) : bits .xor .u32 IntKind.u32.max (n.toNat : Int) = ((~~~ n).toNat : Int):=by
 have h:=u32x (BitVec.allOnes 32) n
 rw [BitVec.allOnes_xor] at h
 exact h
theorem more_any (n : BitVec 32) (s : ByteArray) (w : World) (hs : s.size ≤ 9223372036854775807) : Calls Tryz.prog 153 #[.int .u32 (n.toNat : Int),.string s] w fun e w'=>e = .returned (.int .u32 ((more n s.data.toList).toNat : Int)) ∧ w = w':=by
 obtain ⟨m,hm⟩ : ∃ m,~~~ n = m:=⟨_,rfl⟩
 have h1:=u32not n
 obtain ⟨r,hr⟩ : ∃ r,run m s.data.toList = r:=⟨_,rfl⟩
 have h2:=u32not r
 have hmr : more n s.data.toList = ~~~ r:=by unfold more;rw [hm,hr]
 obtain ⟨y,hy⟩ : ∃ y,(~~~ r).toNat = y:=⟨_,rfl⟩
 rw [hm] at h1
 rw [hmr,hy]
 rw [hy] at h2
 have HR:=Lib.hid hr;have H2:=Lib.hid h2
 clear hmr hm hr h2 hy
 go_enter Tryz.func153,Tryz.ntmps153
 go_wp2
 go_loopw [5,11] (fun x i wr => ∃ j : Nat,j ≤ s.size ∧ x = .int .u32 ((run m (s.data.toList.take j)).toNat : Int) ∧ i = .int .i64 (j : Int) ∧ wr = w) (fun _ i _=>s.size - (intOf i).toNat)
 case atStart=>exact ⟨0,by omega,rfl,rfl,rfl⟩
 case round =>
  obtain ⟨j,hj,rfl,rfl,rfl⟩:=hrel
  by_cases hlt : j < s.size
  ·have hA:=add_any (run m (s.data.toList.take j)) s[j] wr
   rw [← run_step] at hA
   have HA:=Lib.hid hA;clear hA
   go_wp2_with fail
   refine HA.out.mono ?_
   rintro e w' ⟨rfl,rfl⟩
   go_wp2_with fail
   go_roundw
   case rel=>exact ⟨j + 1,by omega,rfl,by go_num,by trivial⟩
   case measure=>simp [intOf];omega
  ·obtain rfl : j = s.size:=by omega
   rw [run_all,HR.out]
   have h2:=H2.out
   go_wp2
   go_ret
   exact ⟨rfl,rfl⟩
theorem sum_any (s : ByteArray) (w : World) (hs : s.size ≤ 9223372036854775807) : Calls Tryz.prog 147 #[.string s] w fun e w'=>e = .returned (.int .u32 ((more 0#32 s.data.toList).toNat : Int)) ∧ w = w':=by
 have h:=more_any 0#32 s w hs
 have H:=Lib.hid h;clear h
 go_enter Tryz.func147,Tryz.ntmps147
 go_wp2_with fail
 refine H.out.mono ?_
 rintro e w' ⟨rfl,rfl⟩
 go_wp2_with fail
 go_ret
 exact ⟨rfl,rfl⟩
theorem rmore_any (n : BitVec 32) (s : ByteArray) (w : World) (hs : s.size ≤ 9223372036854775807) : Calls Tryz.prog 161 #[.int .u32 (n.toNat : Int),.string s] w fun e w'=>e = .returned (.int .u32 ((more n s.data.toList).toNat : Int)) ∧ w = w':=by
 obtain ⟨m,hm⟩ : ∃ m,~~~ n = m:=⟨_,rfl⟩
 have h1:=u32not n
 obtain ⟨r,hr⟩ : ∃ r,run m s.data.toList = r:=⟨_,rfl⟩
 have h2:=u32not r
 have hmr : more n s.data.toList = ~~~ r:=by unfold more;rw [hm,hr]
 obtain ⟨y,hy⟩ : ∃ y,(~~~ r).toNat = y:=⟨_,rfl⟩
 rw [hm] at h1
 rw [hmr,hy]
 rw [hy] at h2
 have HR:=Lib.hid hr;have H2:=Lib.hid h2
 clear hmr hm hr h2 hy
 go_enter Tryz.func161,Tryz.ntmps161
 go_wp2
 go_loopw [5,6] (fun x i wr => ∃ j : Nat,j ≤ s.size ∧ x = .int .u32 ((run m (s.data.toList.take j)).toNat : Int) ∧ i = .int .i64 (j : Int) ∧ wr = w) (fun _ i _=>s.size - (intOf i).toNat)
 case atStart=>exact ⟨0,by omega,rfl,rfl,rfl⟩
 case round =>
  obtain ⟨j,hj,rfl,rfl,rfl⟩:=hrel
  by_cases hlt : j < s.size
  ·have hA:=run_step m s j hlt
   have hc:=s[j].toNat_lt
   have hx:=u32x (run m (s.data.toList.take j)) (BitVec.ofNat 32 s[j].toNat)
   rw [byte_bv] at hx
   obtain ⟨q,hq⟩ : ∃ q,run m (s.data.toList.take j) ^^^ BitVec.ofNat 32 s[j].toNat = q:=⟨_,rfl⟩
   rw [hq] at hx
   have HA:=Lib.hid (show run m (s.data.toList.take (j + 1)) = stps 8 q by rw [hA,← hq];rfl)
   clear hA hq
   go_wp2
   go_loopw [5,7] (fun x i wx => ∃ k : Nat,k ≤ 8 ∧ x = .int .u32 ((stps k q).toNat : Int) ∧ i = .int .i64 (k : Int) ∧ wx = wr) (fun _ i _=>8 - (intOf i).toNat)
   case atStart=>exact ⟨0,by omega,rfl,rfl,rfl⟩
   case round =>
    obtain ⟨k,hk,rfl,rfl,rfl⟩:=hrel
    by_cases hl8 : k < 8
    ·have hs:=rstep_any (stps k q) wr
     rw [← stps_succ] at hs
     have HS:=Lib.hid hs;clear hs
     go_wp2_with fail
     refine HS.out.mono ?_
     rintro e w' ⟨rfl,rfl⟩
     go_wp2_with fail
     go_roundw
     case rel=>exact ⟨k + 1,by omega,rfl,by go_num,by trivial⟩
     case measure=>simp [intOf];omega
    ·obtain rfl : k = 8:=by omega
     go_wp2
     go_roundw
     case rel=>exact ⟨j + 1,by omega,by rw [HA.out],by go_num,by trivial⟩
     case measure=>simp [intOf];omega
  ·obtain rfl : j = s.size:=by omega
   rw [run_all,HR.out]
   have h2:=H2.out
   go_wp2
   go_ret
   exact ⟨rfl,rfl⟩
theorem rsum_any (s : ByteArray) (w : World) (hs : s.size ≤ 9223372036854775807) : Calls Tryz.prog 122 #[.string s] w fun e w'=>e = .returned (.int .u32 ((more 0#32 s.data.toList).toNat : Int)) ∧ w = w':=by
 have h:=rmore_any 0#32 s w hs
 have H:=Lib.hid h;clear h
 go_enter Tryz.func122,Tryz.ntmps122
 go_wp2_with fail
 refine H.out.mono ?_
 rintro e w' ⟨rfl,rfl⟩
 go_wp2_with fail
 go_ret
 exact ⟨rfl,rfl⟩
end Go.Proofs.YtnnakhdndmjmiaaGreat
