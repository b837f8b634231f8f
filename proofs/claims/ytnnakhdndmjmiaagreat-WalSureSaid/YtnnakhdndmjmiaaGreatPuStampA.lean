import Derived.Test.YtnnakhdndmjmiaaGreatPuCrcPlain
import Derived.Test.YtnnakhdndmjmiaaGreatPuCrcB
set_option linter.unusedVariables false
set_option maxRecDepth 4000
namespace Go.Proofs.YtnnakhdndmjmiaaGreat
open Go.RowKit CrcP StampP
def stV (n i c : Int) : Value:=.agg #[.int .i64 n,.int .i64 i,.int .i64 c]
theorem fit_no {n i c : Int} (h : ¬ fit n i c) : decide (fit n i c) = false:=decide_eq_false h
theorem fit_yes {n i c : Int} (h : fit n i c) : decide (fit n i c) = true:=decide_eq_true h
theorem fit_any (n i c : Int) (w : World) : Calls Tryz.prog 151 #[stV n i c] w fun e w'=>e = .returned (.bool (decide (fit n i c))) ∧ Below w.heap.size w w':=by
 unfold stV
 by_cases h : fit n i c
 ·rw [fit_yes h]
  obtain ⟨h1,h2,h3,h4,h5,h6⟩:=h
  go_enter Tryz.func151,Tryz.ntmps151
  go_wp2_with fail
  go_ret
  exact ⟨rfl,(Below.refl _ w).alloc (Nat.le_refl _) _⟩
 ·rw [fit_no h]
  unfold fit at h
  by_cases h1 : 1 ≤ n
  ·by_cases h2 : n ≤ 1099511627776
   ·by_cases h3 : 1 ≤ c
    ·by_cases h4 : c ≤ 512
     ·by_cases h5 : 0 ≤ i
      ·have h6 : ¬ i < c:=fun h6=>h ⟨h1,h2,h3,h4,h5,h6⟩
       clear h
       go_enter Tryz.func151,Tryz.ntmps151
       go_wp2_with fail
       go_ret
       exact ⟨rfl,(Below.refl _ w).alloc (Nat.le_refl _) _⟩
      ·clear h
       go_enter Tryz.func151,Tryz.ntmps151
       go_wp2_with fail
       go_ret
       exact ⟨rfl,(Below.refl _ w).alloc (Nat.le_refl _) _⟩
     ·clear h
      go_enter Tryz.func151,Tryz.ntmps151
      go_wp2_with fail
      go_ret
      exact ⟨rfl,(Below.refl _ w).alloc (Nat.le_refl _) _⟩
    ·clear h
     go_enter Tryz.func151,Tryz.ntmps151
     go_wp2_with fail
     go_ret
     exact ⟨rfl,(Below.refl _ w).alloc (Nat.le_refl _) _⟩
   ·clear h
    go_enter Tryz.func151,Tryz.ntmps151
    go_wp2_with fail
    go_ret
    exact ⟨rfl,(Below.refl _ w).alloc (Nat.le_refl _) _⟩
  ·clear h
   go_enter Tryz.func151,Tryz.ntmps151
   go_wp2_with fail
   go_ret
   exact ⟨rfl,(Below.refl _ w).alloc (Nat.le_refl _) _⟩
theorem rfit_any (n i c : Int) (w : World) : Calls Tryz.prog 159 #[stV n i c] w fun e w'=>e = .returned (.bool (decide (fit n i c))) ∧ Below w.heap.size w w':=by
 unfold stV
 by_cases h : fit n i c
 ·rw [fit_yes h]
  obtain ⟨h1,h2,h3,h4,h5,h6⟩:=h
  go_enter Tryz.func159,Tryz.ntmps159
  go_wp2_with fail
  go_ret
  exact ⟨rfl,(Below.refl _ w).alloc (Nat.le_refl _) _⟩
 ·rw [fit_no h]
  unfold fit at h
  by_cases h1 : 1 ≤ n
  ·by_cases h2 : n ≤ 1099511627776
   ·by_cases h3 : 1 ≤ c
    ·by_cases h4 : c ≤ 512
     ·by_cases h5 : 0 ≤ i
      ·have h6 : ¬ i < c:=fun h6=>h ⟨h1,h2,h3,h4,h5,h6⟩
       clear h
       go_enter Tryz.func159,Tryz.ntmps159
       go_wp2_with fail
       go_ret
       exact ⟨rfl,(Below.refl _ w).alloc (Nat.le_refl _) _⟩
      ·clear h
       go_enter Tryz.func159,Tryz.ntmps159
       go_wp2_with fail
       go_ret
       exact ⟨rfl,(Below.refl _ w).alloc (Nat.le_refl _) _⟩
     ·clear h
      go_enter Tryz.func159,Tryz.ntmps159
      go_wp2_with fail
      go_ret
      exact ⟨rfl,(Below.refl _ w).alloc (Nat.le_refl _) _⟩
    ·clear h
     go_enter Tryz.func159,Tryz.ntmps159
     go_wp2_with fail
     go_ret
     exact ⟨rfl,(Below.refl _ w).alloc (Nat.le_refl _) _⟩
   ·clear h
    go_enter Tryz.func159,Tryz.ntmps159
    go_wp2_with fail
    go_ret
    exact ⟨rfl,(Below.refl _ w).alloc (Nat.le_refl _) _⟩
  ·clear h
   go_enter Tryz.func159,Tryz.ntmps159
   go_wp2_with fail
   go_ret
   exact ⟨rfl,(Below.refl _ w).alloc (Nat.le_refl _) _⟩
theorem num_step (s : ByteArray) (j : Nat) (h : j < s.size) : num (s.data.toList.take (j + 1)) = num (s.data.toList.take j) * 256 + s[j].toNat:=by
 rw [take_step s j h,num_snoc]
theorem num_take_lt (s : ByteArray) (j : Nat) (h : j ≤ 5) : num (s.data.toList.take j) < 1099511627776:=by
 have h1:=num_lt (s.data.toList.take j)
 have h2 : 256 ^ (s.data.toList.take j).length ≤ 256 ^ 5:=Nat.pow_le_pow_right (by decide) (by rw [List.length_take];omega)
 have h3 : (256 : Nat) ^ 5 = 1099511627776:=by decide
 omega
theorem i64_or_nat (a b : Nat) (ha : a < 9223372036854775808) (hb : b < 9223372036854775808) : bits .or .i64 (a : Int) (b : Int) = ((a ||| b : Nat) : Int):=by
 have hx : a ||| b < 2 ^ 63:=Nat.or_lt_two_pow (by omega) (by omega)
 show IntKind.i64.wrap ((BitVec.ofInt 64 (a : Int) ||| BitVec.ofInt 64 (b : Int)).toNat : Int) = _
 rw [BitVec.toNat_or,ofInt_u64 a (by omega),ofInt_u64 b (by omega)]
 simp only [IntKind.wrap,IntKind.bits,IntKind.signed]
 simp
 omega
theorem i64_or_byte (x c : Nat) (h1 : x < 1099511627776) (h3 : c ≤ 255) : bits .or .i64 ((x : Int) * 256) (c : Int) = ((x * 256 + c : Nat) : Int):=by
 have h:=i64_or_nat (x * 256) c (by omega) (by omega)
 rw [Nat.mul_comm x,show (256 : Nat) = 2 ^ 8 from rfl,← Nat.two_pow_add_eq_or_of_lt (show c < 2 ^ 8 by omega)] at h
 rw [show (x : Int) * 256 = ((2 ^ 8 * x : Nat) : Int) by omega,h]
 congr 1;omega
theorem number_any (s : ByteArray) (w : World) (hs : s.size ≤ 6) : Calls Tryz.prog 170 #[.string s] w fun e w'=>e = .returned (.int .i64 (num s.data.toList : Int)) ∧ w = w':=by
 obtain ⟨r,hr⟩ : ∃ r,num s.data.toList = r:=⟨_,rfl⟩
 rw [hr]
 have HR:=Lib.hid hr
 clear hr
 go_enter Tryz.func170,Tryz.ntmps170
 go_wp2_with fail
 go_loopw [3,7] (fun x i wr => ∃ j Y : Nat,j ≤ s.size ∧ x = .int .i64 (Y : Int) ∧ i = .int .i64 (j : Int) ∧ wr = w ∧ Hid (Y = num (s.data.toList.take j))) (fun _ i _=>s.size - (intOf i).toNat)
 case atStart=>exact ⟨0,0,by omega,rfl,rfl,rfl,rfl⟩
 case round =>
  obtain ⟨j,Y,hj,rfl,rfl,rfl,hY⟩:=hrel
  by_cases hlt : j < s.size
  ·have hst:=num_step s j hlt
   have hY2 : Y < 1099511627776:=by rw [hY.out];exact num_take_lt s j (by omega)
   have hcl:=s[j].toNat_lt
   have hor:=i64_or_byte Y s[j].toNat hY2 (by omega)
   have HST:=Lib.hid hst;clear hst
   go_wp2_with fail
   go_roundw
   case rel=>exact ⟨j + 1,Y * 256 + s[j].toNat,by omega,by go_num,by go_num,by trivial,by show _ = _;rw [HST.out,← hY.out]⟩
   case measure=>simp [intOf];omega
  ·obtain rfl : j = s.size:=by omega
   have hYr : Y = r:=by rw [hY.out,← HR.out];congr 1;exact List.take_of_length_le (by rw [len_list];omega)
   subst hYr
   clear hY HR
   go_wp2_with fail
   go_ret
   exact ⟨rfl,rfl⟩
end Go.Proofs.YtnnakhdndmjmiaaGreat
/-
 The contracts of put,high and of the program's Blank: any number.
-/
set_option linter.unusedVariables false
set_option maxRecDepth 4000
namespace Go.Proofs.YtnnakhdndmjmiaaGreat
open Go.RowKit CrcP StampP
def Arr (w : World) (b : Nat) (l : List UInt8) : Prop:=w.heap[b]? = some (.cells (Lib.byteCells l).toArray 150 (0,0))
theorem Arr.cell {w : World} {b : Nat} {l : List UInt8} (h : Arr w b l) (i : Nat) (hi : i < l.length) : w.cell? ⟨b,i,none⟩ = some (.int .u8 ((l.getD i 0).toNat : Int)):=by
 rw [cell_of_heap h]
 simp [Lib.byteCells,List.getD,hi]
theorem Arr.frozen {w : World} {b : Nat} {l : List UInt8} (h : Arr w b l) (i : Nat) : w.frozen? ⟨b,i,none⟩ = false:=frozen_of_heap h
theorem Arr.set {w : World} {b i : Nat} {l : List UInt8} (h : Arr w b l) (d : UInt8) : Arr (w.setCell ⟨b,i,none⟩ (.int .u8 (d.toNat : Int))) b (l.set i d):=by
 have h2:=Lib.heap_setCell_same (i:=i) h (.int .u8 (d.toNat : Int))
 unfold Arr
 rw [h2]
 congr 2
 rw [List.setIfInBounds_toArray]
 unfold Lib.byteCells
 rw [List.map_set]
def putL (l : List UInt8) (off k n j : Nat) : List UInt8:=l.take (off + (k - j)) ++ be n j ++ l.drop (off + k)
theorem putL_length {l : List UInt8} {off k n j : Nat} (hl : off + k ≤ l.length) (hj : j ≤ k) : (putL l off k n j).length = l.length:=by
 simp only [putL,List.length_append,List.length_take,List.length_drop,be_length]
 omega
theorem putL_zero {l : List UInt8} {off k n : Nat} : putL l off k n 0 = l:=by
 simp [putL,be]
theorem putL_step {l : List UInt8} {off k n j q : Nat} (hl : off + k ≤ l.length) (hq : q + j + 1 = k) : (putL l off k n j).set (off + q) (UInt8.ofNat (n / 256 ^ j)) = putL l off k n (j + 1):=by
 unfold putL
 rw [be_low,show off + (k - j) = off + q + 1 by omega,show off + (k - (j + 1)) = off + q by omega]
 have hlt : off + q < l.length:=by omega
 rw [List.take_succ_eq_append_getElem hlt,List.append_assoc,List.append_assoc,List.set_append_right _ _ (by rw [List.length_take];omega)]
 simp [List.length_take,Nat.min_eq_left (Nat.le_of_lt hlt)]
theorem put_6 (b off cap n : Nat) (l : List UInt8) (w : World) (h : Arr w b l) (hl : off + 6 ≤ l.length) (hl2 : l.length ≤ 128) (hn : n < 9223372036854775808) :
  Calls Tryz.prog 152 #[.slice (some ⟨b,off,none⟩) 6 cap,.int .i64 (n : Int)] w fun e w'=>e = .returned (.tuple #[]) ∧ Arr w' b (putL l off 6 n 6) ∧ Below b w w':=by
 have HA:=Lib.hid h;have HL:=Lib.hid hl
 clear h
 go_enter Tryz.func152,Tryz.ntmps152
 go_wp2_with fail
 go_loopw [7] (fun i wr => ∃ j : Nat,j ≤ 6 ∧ i = .int .i64 (j : Int) ∧ Hid (Arr wr b (putL l off 6 n j)) ∧ Hid (Below b w wr)) (fun i _=>6 - (intOf i).toNat)
 case atStart=>exact ⟨0,Nat.zero_le _,rfl,by rw [putL_zero];exact HA,Below.refl _ _⟩
 case round =>
  obtain ⟨j,hj,rfl,hR,hB⟩:=hrel
  by_cases hlt : j < 6
  ·obtain rfl | rfl | rfl | rfl | rfl | rfl : j = 0 ∨ j = 1 ∨ j = 2 ∨ j = 3 ∨ j = 4 ∨ j = 5:=by omega
   ·have hcell:=hR.out.cell (off + 5) (by rw [putL_length HL.out (by omega)];omega)
    have hfz:=hR.out.frozen (off + 5)
    have hset:=hR.out.set (i:=off + 5) (UInt8.ofNat (n / 256 ^ 0))
    rw [putL_step HL.out (by rfl),show (((UInt8.ofNat (n / 256 ^ 0)).toNat : Nat) : Int) = (n : Int) % 256 by rw [UInt8.toNat_ofNat'];omega] at hset
    have HS:=Lib.hid hset
    clear hset hl
    generalize ((putL l off 6 n 0).getD (off + 5) 0).toNat = old at *
    go_wp2_with fail
    go_roundw
    case rel=>exact ⟨1,by omega,rfl,HS,hB.out.setCell (Nat.le_refl _) _⟩
    case measure=>simp [intOf]
   ·have hcell:=hR.out.cell (off + 4) (by rw [putL_length HL.out (by omega)];omega)
    have hfz:=hR.out.frozen (off + 4)
    have hset:=hR.out.set (i:=off + 4) (UInt8.ofNat (n / 256 ^ 1))
    rw [putL_step HL.out (by rfl),show (((UInt8.ofNat (n / 256 ^ 1)).toNat : Nat) : Int) = (n : Int) / 256 % 256 by rw [UInt8.toNat_ofNat'];omega] at hset
    have HS:=Lib.hid hset
    clear hset hl
    generalize ((putL l off 6 n 1).getD (off + 4) 0).toNat = old at *
    go_wp2_with fail
    go_roundw
    case rel=>exact ⟨2,by omega,rfl,HS,hB.out.setCell (Nat.le_refl _) _⟩
    case measure=>simp [intOf]
   ·have hcell:=hR.out.cell (off + 3) (by rw [putL_length HL.out (by omega)];omega)
    have hfz:=hR.out.frozen (off + 3)
    have hset:=hR.out.set (i:=off + 3) (UInt8.ofNat (n / 256 ^ 2))
    rw [putL_step HL.out (by rfl),show (((UInt8.ofNat (n / 256 ^ 2)).toNat : Nat) : Int) = (n : Int) / 65536 % 256 by rw [UInt8.toNat_ofNat'];omega] at hset
    have HS:=Lib.hid hset
    clear hset hl
    generalize ((putL l off 6 n 2).getD (off + 3) 0).toNat = old at *
    go_wp2_with fail
    go_roundw
    case rel=>exact ⟨3,by omega,rfl,HS,hB.out.setCell (Nat.le_refl _) _⟩
    case measure=>simp [intOf]
   ·have hcell:=hR.out.cell (off + 2) (by rw [putL_length HL.out (by omega)];omega)
    have hfz:=hR.out.frozen (off + 2)
    have hset:=hR.out.set (i:=off + 2) (UInt8.ofNat (n / 256 ^ 3))
    rw [putL_step HL.out (by rfl),show (((UInt8.ofNat (n / 256 ^ 3)).toNat : Nat) : Int) = (n : Int) / 16777216 % 256 by rw [UInt8.toNat_ofNat'];omega] at hset
    have HS:=Lib.hid hset
    clear hset hl
    generalize ((putL l off 6 n 3).getD (off + 2) 0).toNat = old at *
    go_wp2_with fail
    go_roundw
    case rel=>exact ⟨4,by omega,rfl,HS,hB.out.setCell (Nat.le_refl _) _⟩
    case measure=>simp [intOf]
   ·have hcell:=hR.out.cell (off + 1) (by rw [putL_length HL.out (by omega)];omega)
    have hfz:=hR.out.frozen (off + 1)
    have hset:=hR.out.set (i:=off + 1) (UInt8.ofNat (n / 256 ^ 4))
    rw [putL_step HL.out (by rfl),show (((UInt8.ofNat (n / 256 ^ 4)).toNat : Nat) : Int) = (n : Int) / 4294967296 % 256 by rw [UInt8.toNat_ofNat'];omega] at hset
    have HS:=Lib.hid hset
    clear hset hl
    generalize ((putL l off 6 n 4).getD (off + 1) 0).toNat = old at *
    go_wp2_with fail
    go_roundw
    case rel=>exact ⟨5,by omega,rfl,HS,hB.out.setCell (Nat.le_refl _) _⟩
    case measure=>simp [intOf]
   ·have hcell:=hR.out.cell (off) (by rw [putL_length HL.out (by omega)];omega)
    have hfz:=hR.out.frozen (off)
    have hset:=hR.out.set (i:=off + 0) (UInt8.ofNat (n / 256 ^ 5))
    rw [putL_step HL.out (by rfl),show (((UInt8.ofNat (n / 256 ^ 5)).toNat : Nat) : Int) = (n : Int) / 1099511627776 % 256 by rw [UInt8.toNat_ofNat'];omega] at hset
    have HS:=Lib.hid hset
    clear hset hl
    generalize ((putL l off 6 n 5).getD (off) 0).toNat = old at *
    go_wp2_with fail
    go_roundw
    case rel=>exact ⟨6,by omega,rfl,HS,hB.out.setCell (Nat.le_refl _) _⟩
    case measure=>simp [intOf]
  ·obtain rfl : j = 6:=by omega
   go_wp2_with fail
   go_end0
   exact ⟨rfl,hR.out,hB.out⟩
theorem put_2 (b off cap n : Nat) (l : List UInt8) (w : World) (h : Arr w b l) (hl : off + 2 ≤ l.length) (hl2 : l.length ≤ 128) (hn : n < 9223372036854775808) :
  Calls Tryz.prog 152 #[.slice (some ⟨b,off,none⟩) 2 cap,.int .i64 (n : Int)] w fun e w'=>e = .returned (.tuple #[]) ∧ Arr w' b (putL l off 2 n 2) ∧ Below b w w':=by
 have HA:=Lib.hid h;have HL:=Lib.hid hl
 clear h
 go_enter Tryz.func152,Tryz.ntmps152
 go_wp2_with fail
 go_loopw [7] (fun i wr => ∃ j : Nat,j ≤ 2 ∧ i = .int .i64 (j : Int) ∧ Hid (Arr wr b (putL l off 2 n j)) ∧ Hid (Below b w wr)) (fun i _=>2 - (intOf i).toNat)
 case atStart=>exact ⟨0,Nat.zero_le _,rfl,by rw [putL_zero];exact HA,Below.refl _ _⟩
 case round =>
  obtain ⟨j,hj,rfl,hR,hB⟩:=hrel
  by_cases hlt : j < 2
  ·obtain rfl | rfl : j = 0 ∨ j = 1:=by omega
   ·have hcell:=hR.out.cell (off + 1) (by rw [putL_length HL.out (by omega)];omega)
    have hfz:=hR.out.frozen (off + 1)
    have hset:=hR.out.set (i:=off + 1) (UInt8.ofNat (n / 256 ^ 0))
    rw [putL_step HL.out (by rfl),show (((UInt8.ofNat (n / 256 ^ 0)).toNat : Nat) : Int) = (n : Int) % 256 by rw [UInt8.toNat_ofNat'];omega] at hset
    have HS:=Lib.hid hset
    clear hset hl
    generalize ((putL l off 2 n 0).getD (off + 1) 0).toNat = old at *
    go_wp2_with fail
    go_roundw
    case rel=>exact ⟨1,by omega,rfl,HS,hB.out.setCell (Nat.le_refl _) _⟩
    case measure=>simp [intOf]
   ·have hcell:=hR.out.cell (off) (by rw [putL_length HL.out (by omega)];omega)
    have hfz:=hR.out.frozen (off)
    have hset:=hR.out.set (i:=off + 0) (UInt8.ofNat (n / 256 ^ 1))
    rw [putL_step HL.out (by rfl),show (((UInt8.ofNat (n / 256 ^ 1)).toNat : Nat) : Int) = (n : Int) / 256 % 256 by rw [UInt8.toNat_ofNat'];omega] at hset
    have HS:=Lib.hid hset
    clear hset hl
    generalize ((putL l off 2 n 1).getD (off) 0).toNat = old at *
    go_wp2_with fail
    go_roundw
    case rel=>exact ⟨2,by omega,rfl,HS,hB.out.setCell (Nat.le_refl _) _⟩
    case measure=>simp [intOf]
  ·obtain rfl : j = 2:=by omega
   go_wp2_with fail
   go_end0
   exact ⟨rfl,hR.out,hB.out⟩
theorem and255 (x : Nat) (h : x < 9223372036854775808) : bits .and .i64 (x : Int) 255 = ((x % 256 : Nat) : Int):=by
 have hx : x &&& 255 = x % 256:=by rw [show (255 : Nat) = 2 ^ 8 - 1 from rfl,Nat.and_two_pow_sub_one_eq_mod]
 show IntKind.i64.wrap ((BitVec.ofInt 64 (x : Int) &&& BitVec.ofInt 64 ((255 : Nat) : Int)).toNat : Int) = _
 rw [BitVec.toNat_and,ofInt_u64 x (by omega),ofInt_u64 255 (by omega),hx]
 simp only [IntKind.wrap,IntKind.bits,IntKind.signed]
 simp
 omega
theorem one_byte (w : World) (x : Int) : (convert 137 9 (.slice (some ⟨w.heap.size,0,none⟩) 1 1)).run Tryz.prog (w.alloc (.cells #[.int .u8 x] 5)) = .ok (.string ⟨#[UInt8.ofNat x.toNat]⟩) (w.alloc (.cells #[.int .u8 x] 5)):=by
 have h:=run_convert_bytes_arg (P:=Tryz.prog) (w.alloc (.cells #[.int .u8 x] 5)) 137 5 Tryz.underlying137 Tryz.underlying5 w.heap.size 0 1 1 [x] rfl (fun i hi=>by
  obtain rfl : i = 0:=by omega
  rw [Nat.zero_add,World.cell?_alloc_new]
  rfl) 9 Tryz.underlying9
 exact h
def str (l : List UInt8) : ByteArray:=⟨l.toArray⟩
theorem str_size (l : List UInt8) : (str l).size = l.length:=rfl
theorem str_app (a b : List UInt8) : str a ++ str b = str (a ++ b):=by
 apply ByteArray.ext
 rw [ByteArray.data_append]
 simp [str]
def cells0 : Array Value:=(Lib.byteCells zeros).toArray
theorem zero_arr (w : World) : (zeroValue 150).run Tryz.prog w = .ok (.agg cells0) w:=by kernel_rfl
theorem Arr.text {w : World} {b off k cap : Nat} {l : List UInt8} (h : Arr w b l) (hk : off + k ≤ l.length) :
  (convert 137 9 (.slice (some ⟨b,off,none⟩) k cap)).run Tryz.prog w = .ok (.string (str ((l.drop off).take k))) w:=by
 have h2:=run_convert_bytes_arg (P:=Tryz.prog) w 137 5 Tryz.underlying137 Tryz.underlying5 b off k cap (((l.drop off).take k).map fun c=>(c.toNat : Int)) (by simp;omega) (fun j hj=>by
  rw [h.cell (off + j) (by omega)]
  have h3 : j < ((l.drop off).take k).length:=by rw [List.length_take,List.length_drop];omega
  simp [List.getD,hj,show off + j < l.length by omega]) 9 Tryz.underlying9
 rw [strOfNums_bytes] at h2
 exact h2
theorem high_step (n j : Nat) (hn : n < 9223372036854775808) : ({ data:=#[UInt8.ofNat (bits .and .i64 ((n : Int) / 2 ^ (8 * j)) 255 % 256).toNat] } : ByteArray) ++ str (be n j) = str (be n (j + 1)):=by
 have hx:=and255 (n / 256 ^ j) (Nat.lt_of_le_of_lt (Nat.div_le_self _ _) hn)
 have e : (n : Int) / 2 ^ (8 * j) = ((n / 256 ^ j : Nat) : Int):=by
  rw [Int.natCast_ediv,Int.natCast_pow,Int.pow_mul]
  rfl
 rw [e,hx,be_low]
 rw [show ({ data:=#[UInt8.ofNat ((((n / 256 ^ j % 256 : Nat) : Int) % 256).toNat)] } : ByteArray) = str [UInt8.ofNat (n / 256 ^ j)] by
  unfold str
  congr 3
  rw [show ((((n / 256 ^ j % 256 : Nat) : Int) % 256).toNat) = n / 256 ^ j % 256 by omega]
  exact ofNat_mod _]
 rw [str_app]
 rfl
theorem high_any (n k : Nat) (w : World) (hk : k ≤ 6) (hn : n < 9223372036854775808) : Calls Tryz.prog 160 #[.int .i64 (n : Int),.int .i64 (k : Int)] w fun e w'=>e = .returned (.string (str (be n k))) ∧ Below w.heap.size w w':=by
 have hc1:=fun (w : World) (x : Int)=>one_byte w x
 have HC:=Lib.hid hc1
 clear hc1
 go_enter Tryz.func160,Tryz.ntmps160
 go_wp2_with fail
 go_loopw [5,6] (fun s i wr => ∃ j : Nat,j ≤ k ∧ s = .string (str (be n j)) ∧ i = .int .i64 (j : Int) ∧ Hid (Below w.heap.size w wr)) (fun _ i _=>k - (intOf i).toNat)
 case atStart=>exact ⟨0,Nat.zero_le _,rfl,rfl,Below.refl _ _⟩
 case round =>
  obtain ⟨j,hj,rfl,rfl,hB⟩:=hrel
  by_cases hlt : j < k
  ·have hsz : (str (be n j)).size = j:=by rw [str_size,be_length]
   have HX:=Lib.hid (high_step n j hn)
   have hcv:=HC.out wr
   go_wp2_with fail
   go_roundw
   case rel=>exact ⟨j + 1,by omega,by rw [HX.out],by go_num,hB.out.alloc hB.out.size _⟩
   case measure=>simp [intOf];omega
  ·obtain rfl : j = k:=by omega
   go_wp2_with fail
   go_ret
   exact ⟨rfl,hB.out⟩
end Go.Proofs.YtnnakhdndmjmiaaGreat
