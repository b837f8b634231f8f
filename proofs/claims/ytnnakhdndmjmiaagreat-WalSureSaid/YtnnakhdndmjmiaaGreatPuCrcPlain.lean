import Derived.Test.YtnnakhdndmjmiaaGreatPuDiskPlain
import Derived.Laws.BitsAllLaws
set_option linter.unusedVariables false
set_option maxRecDepth 4000
namespace Go.Proofs.YtnnakhdndmjmiaaGreat.CrcP
def poly : BitVec 32:=0xedb88320#32
def stp (n : BitVec 32) : BitVec 32:=(n >>> 1) ^^^ (if n.getLsbD 0 = true then poly else 0#32)
def stps : Nat → BitVec 32 → BitVec 32
 | 0,n=>n
 | k + 1,n=>stps k (stp n)
def add (n : BitVec 32) (c : UInt8) : BitVec 32:=stps 8 (n ^^^ BitVec.ofNat 32 c.toNat)
def run (n : BitVec 32) (l : List UInt8) : BitVec 32:=l.foldl add n
def more (n : BitVec 32) (l : List UInt8) : BitVec 32 := ~~~ run (~~~ n) l
theorem stps_add (i k : Nat) (a : BitVec 32) : stps (i + k) a = stps i (stps k a):=by
 induction k generalizing a with
 | zero=>rfl
 | succ k ih=>show stps (i + k) (stp a) = stps i (stps k (stp a));exact ih _
theorem run_append (n : BitVec 32) (a b : List UInt8) : run n (a ++ b) = run (run n a) b:=List.foldl_append
theorem more_append (n : BitVec 32) (a b : List UInt8) : more (more n a) b = more n (a ++ b):=by
 unfold more;rw [BitVec.not_not,run_append]
def oc (n : Nat) : List UInt8:=[UInt8.ofNat (n / 16777216),UInt8.ofNat (n / 65536),UInt8.ofNat (n / 256),UInt8.ofNat n]
def num (l : List UInt8) : Nat:=l.foldl (fun x c=>x * 256 + c.toNat) 0
theorem num_snoc (l : List UInt8) (c : UInt8) : num (l ++ [c]) = num l * 256 + c.toNat:=by unfold num;rw [List.foldl_append];rfl
theorem num_up (l : List UInt8) (x : Nat) : l.foldl (fun x c=>x * 256 + c.toNat) x < (x + 1) * 256 ^ l.length:=by
 induction l generalizing x with
 | nil=>simp
 | cons c l ih =>
  have h1:=ih (x * 256 + c.toNat)
  have h2 : (x * 256 + c.toNat + 1) * 256 ^ l.length ≤ ((x + 1) * 256) * 256 ^ l.length:=Nat.mul_le_mul_right _ (by have:=c.toNat_lt;omega)
  rw [List.foldl_cons,List.length_cons,Nat.pow_succ,Nat.mul_comm (256 ^ l.length),← Nat.mul_assoc]
  exact Nat.lt_of_lt_of_le h1 h2
theorem num_lt (l : List UInt8) : num l < 256 ^ l.length:=by
 have:=num_up l 0
 rw [Nat.zero_add,Nat.one_mul] at this
 exact this
def rd (l : List UInt8) : Nat × Int:=if l.length < 4 then (0,8) else if 4 < l.length then (0,9) else (num l,0)
end Go.Proofs.YtnnakhdndmjmiaaGreat.CrcP
/-
 Sealed sectors in plain words: numbers as octets,what a sealed sector is,what it opens as,parts,tears;no program.
-/
set_option linter.unusedVariables false
set_option maxRecDepth 4000
namespace Go.Proofs.YtnnakhdndmjmiaaGreat.StampP
open CrcP
def be : Nat → Nat → List UInt8
 | _,0=>[]
 | n,k + 1=>be (n / 256) k ++ [UInt8.ofNat n]
theorem be_length (n k : Nat) : (be n k).length = k:=by
 induction k generalizing n with
 | zero=>rfl
 | succ k ih=>rw [be,List.length_append,ih];rfl
theorem be_low (n j : Nat) : be n (j + 1) = UInt8.ofNat (n / 256 ^ j) :: be n j:=by
 induction j generalizing n with
 | zero=>simp [be]
 | succ j ih =>
  rw [be,ih,Nat.div_div_eq_div_mul,show 256 * 256 ^ j = 256 ^ (j + 1) by rw [Nat.pow_succ,Nat.mul_comm]]
  rfl
theorem num_be (n k : Nat) (h : n < 256 ^ k) : num (be n k) = n:=by
 induction k generalizing n with
 | zero=>simp at h;subst h;rfl
 | succ k ih =>
  rw [be,num_snoc,ih _ (by rw [Nat.pow_succ] at h;omega),UInt8.toNat_ofNat']
  omega
theorem oc_be (n : Nat) : oc n = be n 4:=by
 simp only [oc,be,Nat.div_div_eq_div_mul,List.nil_append,List.cons_append]
def mk (n i : Nat) : List UInt8:=be n 6 ++ be i 2
theorem mk_length (n i : Nat) : (mk n i).length = 8:=by rw [mk,List.length_append,be_length,be_length]
def hd (n i c z : Nat) : List UInt8:=mk n i ++ be c 2 ++ be z 2
theorem hd_length (n i c z : Nat) : (hd n i c z).length = 12:=by rw [hd,List.length_append,List.length_append,mk_length,be_length,be_length]
def sm (n i c : Nat) (s : List UInt8) : Nat:=(more 0#32 (hd n i c s.length ++ s)).toNat
def sl (n i c : Nat) (s : List UInt8) : List UInt8:=hd n i c s.length ++ be (sm n i c s) 4 ++ s ++ List.replicate (104 - s.length) 0 ++ mk n i
theorem sl_length (n i c : Nat) (s : List UInt8) (h : s.length ≤ 104) : (sl n i c s).length = 128:=by
 simp only [sl,List.length_append,List.length_replicate,mk_length,hd_length,be_length]
 omega
def fit (n i c : Int) : Prop:=1 ≤ n ∧ n ≤ 1099511627776 ∧ 1 ≤ c ∧ c ≤ 512 ∧ 0 ≤ i ∧ i < c
instance (n i c : Int) : Decidable (fit n i c):=by unfold fit;exact inferInstance
def fld (l : List UInt8) (a b : Nat) : List UInt8:=(l.drop a).take (b - a)
def opn (l : List UInt8) : Option (Nat × Nat × Nat × List UInt8) :=
 if l.length = 128 ∧ num (fld l 10 12) ≤ 104 ∧ fit (num (fld l 0 6)) (num (fld l 6 8)) (num (fld l 8 10)) ∧ sl (num (fld l 0 6)) (num (fld l 6 8)) (num (fld l 8 10)) (fld l 16 (16 + num (fld l 10 12))) = l then
  some (num (fld l 0 6),num (fld l 6 8),num (fld l 8 10),fld l 16 (16 + num (fld l 10 12)))
 else none
theorem fld_app {A B C : List UInt8} {a b : Nat} (ha : A.length = a) (hb : B.length = b - a) : fld (A ++ (B ++ C)) a b = B:=by
 subst ha
 rw [fld,List.drop_left,← hb,List.take_left]
theorem sl_fields (n i c : Nat) (s : List UInt8) : fld (sl n i c s) 0 6 = be n 6 ∧ fld (sl n i c s) 6 8 = be i 2 ∧ fld (sl n i c s) 8 10 = be c 2 ∧ fld (sl n i c s) 10 12 = be s.length 2 ∧ fld (sl n i c s) 16 (16 + s.length) = s:=by
 unfold sl hd mk
 refine ⟨?_,?_,?_,?_,?_⟩
 ·simp only [List.append_assoc]
  exact fld_app (A:=[]) (B:=be n 6) rfl (be_length _ _)
 ·simp only [List.append_assoc]
  exact fld_app (be_length _ _) (by rw [be_length])
 ·simp only [List.append_assoc]
  rw [← List.append_assoc (be n 6)]
  exact fld_app (by rw [List.length_append,be_length,be_length]) (by rw [be_length])
 ·simp only [List.append_assoc]
  rw [← List.append_assoc (be n 6),← List.append_assoc (be n 6 ++ be i 2)]
  exact fld_app (by simp only [List.length_append,be_length]) (by rw [be_length])
 ·simp only [List.append_assoc]
  rw [← List.append_assoc (be n 6),← List.append_assoc (be n 6 ++ be i 2),← List.append_assoc (be n 6 ++ be i 2 ++ be c 2),← List.append_assoc (be n 6 ++ be i 2 ++ be c 2 ++ be s.length 2)]
  exact fld_app (by simp only [List.length_append,be_length]) (by omega)
theorem opn_sl {n i c : Nat} {s : List UInt8} (hf : fit n i c) (h : s.length ≤ 104) : opn (sl n i c s) = some (n,i,c,s):=by
 obtain ⟨f1,f2,f3,f4,f5⟩:=sl_fields n i c s
 have g:=hf
 unfold fit at g
 have e1 : num (be n 6) = n:=num_be n 6 (by rw [show (256 : Nat) ^ 6 = 281474976710656 by decide];omega)
 have e2 : num (be i 2) = i:=num_be i 2 (by rw [show (256 : Nat) ^ 2 = 65536 by decide];omega)
 have e3 : num (be c 2) = c:=num_be c 2 (by rw [show (256 : Nat) ^ 2 = 65536 by decide];omega)
 have e4 : num (be s.length 2) = s.length:=num_be s.length 2 (by rw [show (256 : Nat) ^ 2 = 65536 by decide];omega)
 unfold opn
 rw [f1,f2,f3,f4,e1,e2,e3,e4,f5,if_pos ⟨sl_length n i c s h,h,hf,rfl⟩]
theorem opn_some {l : List UInt8} {n i c : Nat} {s : List UInt8} (h : opn l = some (n,i,c,s)) : l = sl n i c s ∧ fit n i c ∧ s.length ≤ 104:=by
 unfold opn at h
 split at h
 ·rename_i hc
  obtain ⟨h1,h2,h3,h4⟩:=hc
  have h:=Option.some.inj h
  simp only [Prod.mk.injEq] at h
  obtain ⟨rfl,rfl,rfl,rfl⟩:=h
  refine ⟨h4.symm,h3,?_⟩
  rw [fld,List.length_take]
  omega
 ·cases h
theorem getD_left {A B : List UInt8} {p : Nat} (h : p < A.length) : (A ++ B).getD p 0 = A.getD p 0:=by
 simp only [List.getD,List.getElem?_append_left h]
theorem getD_right {A B : List UInt8} {p q : Nat} (h : A.length = q) : (A ++ B).getD (q + p) 0 = B.getD p 0:=by
 subst h
 simp only [List.getD]
 rw [List.getElem?_append_right (Nat.le_add_right _ _),Nat.add_sub_cancel_left]
theorem sl_left (n i c : Nat) (s : List UInt8) (p : Nat) (h : p < 8) : (sl n i c s).getD p 0 = (mk n i).getD p 0:=by
 unfold sl hd
 simp only [List.append_assoc]
 exact getD_left (by rw [mk_length];exact h)
theorem sl_right (n i c : Nat) (s : List UInt8) (hs : s.length ≤ 104) (p : Nat) : (sl n i c s).getD (120 + p) 0 = (mk n i).getD p 0:=by
 unfold sl
 exact getD_right (by simp only [List.length_append,hd_length,be_length,List.length_replicate];omega)
theorem num_zeros (k : Nat) : num (List.replicate k 0) = 0:=by
 induction k with
 | zero=>rfl
 | succ k ih=>rw [List.replicate_succ',num_snoc,ih];rfl
theorem mk_some {n i c : Nat} (hf : fit n i c) : ∃ p,p < 8 ∧ (mk n i).getD p 0 ≠ 0:=by
 unfold fit at hf
 apply Classical.byContradiction
 intro hne
 have hz : be n 6 = List.replicate 6 0:=by
  apply List.ext_getElem?
  intro p
  by_cases hp : p < 6
  ·have h1 : (mk n i).getD p 0 = 0:=Classical.byContradiction fun h=>hne ⟨p,by omega,h⟩
   rw [mk,getD_left (by rw [be_length];exact hp)] at h1
   have h2 : p < (be n 6).length:=by rw [be_length];exact hp
   rw [List.getElem?_eq_getElem h2,List.getElem?_eq_getElem (by rw [List.length_replicate];exact hp),List.getElem_replicate]
   simp only [List.getD,List.getElem?_eq_getElem h2,Option.getD_some] at h1
   rw [h1]
  ·rw [List.getElem?_eq_none (by rw [be_length];omega),List.getElem?_eq_none (by rw [List.length_replicate];omega)]
 have e1 : num (be n 6) = n:=num_be n 6 (by rw [show (256 : Nat) ^ 6 = 281474976710656 by decide];omega)
 rw [hz,num_zeros] at e1
 omega
def Torn (a b : List UInt8) : Prop:=a.length = 128 ∧ b.length = 128 ∧ ∃ j k,∀ p,b.getD p 0 = if j ≤ p ∧ p < k then a.getD p 0 else 0
theorem ext_getD {a b : List UInt8} (hl : a.length = b.length) (h : ∀ p,p < a.length → a.getD p 0 = b.getD p 0) : a = b:=by
 apply List.ext_getElem hl
 intro p h1 h2
 have:=h p h1
 simp only [List.getD,List.getElem?_eq_getElem h1,List.getElem?_eq_getElem h2,Option.getD_some] at this
 exact this
theorem torn_open {n i c n2 i2 c2 : Nat} {s s2 b : List UInt8} (hf : fit n i c) (hs : s.length ≤ 104) (ht : Torn (sl n i c s) b) (ho : opn b = some (n2,i2,c2,s2)) : b = sl n i c s:=by
 obtain ⟨hb,hf2,hs2⟩:=opn_some ho
 obtain ⟨h1,h2,j,k,hp⟩:=ht
 obtain ⟨q,hq,hne⟩:=mk_some hf2
 have a1 : b.getD q 0 ≠ 0:=by rw [hb,sl_left _ _ _ _ q hq];exact hne
 have a2 : b.getD (120 + q) 0 ≠ 0:=by rw [hb,sl_right _ _ _ _ hs2 q];exact hne
 have j1 : j ≤ q:=by
  apply Classical.byContradiction
  intro hh
  apply a1
  rw [hp,if_neg (by omega)]
 have k1 : 120 + q < k:=by
  apply Classical.byContradiction
  intro hh
  apply a2
  rw [hp,if_neg (by omega)]
 have hbm : ∀ p,p < 8 → b.getD (120 + p) 0 = b.getD p 0:=fun p h=>by rw [hb,sl_left _ _ _ _ p h,sl_right _ _ _ _ hs2 p]
 have ham : ∀ p,p < 8 → (sl n i c s).getD (120 + p) 0 = (sl n i c s).getD p 0:=fun p h=>by rw [sl_left _ _ _ _ p h,sl_right _ _ _ _ hs p]
 apply ext_getD (by rw [h1,h2])
 intro p hpl
 rw [h2] at hpl
 by_cases c1 : p < j
 ·have e1 : b.getD p 0 = 0:=by rw [hp,if_neg (by omega)]
  have e2:=hbm p (by omega)
  rw [hp (120 + p),if_pos (by omega),ham p (by omega),e1] at e2
  rw [e1,e2]
 ·by_cases c2 : p < k
  ·rw [hp,if_pos (by omega)]
  ·have e1 : b.getD p 0 = 0:=by rw [hp,if_neg (by omega)]
   obtain ⟨r,rfl⟩ : ∃ r,p = 120 + r:=⟨p - 120,by omega⟩
   have e2:=hbm r (by omega)
   rw [e1,hp r,if_pos (by omega)] at e2
   rw [e1,ham r (by omega)]
   exact e2
def zeros : List UInt8:=List.replicate 128 0
theorem getD_zeros (p : Nat) : zeros.getD p 0 = 0:=by
 unfold zeros List.getD
 rw [List.getElem?_replicate]
 by_cases h : p < 128
 ·rw [if_pos h];rfl
 ·rw [if_neg h];rfl
theorem getD_mix {x y : List UInt8} {k p : Nat} (hx : x.length = 128) (hk : k ≤ 128) : (x.take k ++ y.drop k).getD p 0 = if p < k then x.getD p 0 else y.getD p 0:=by
 have hl : (x.take k).length = k:=by rw [List.length_take];omega
 by_cases h : p < k
 ·rw [if_pos h,getD_left (by rw [hl];exact h)]
  simp only [List.getD,List.getElem?_take,if_pos h]
 ·rw [if_neg h]
  obtain ⟨r,rfl⟩ : ∃ r,p = k + r:=⟨p - k,by omega⟩
  rw [getD_right hl]
  simp only [List.getD,List.getElem?_drop]
end Go.Proofs.YtnnakhdndmjmiaaGreat.StampP
/-
 What a crash may leave of sectors that are blanked or written (no program): images of a disk,sector by sector;the phases erase,write,flush: done,or stopped with what may be found then.
-/
set_option linter.unusedVariables false
namespace Go.Proofs.YtnnakhdndmjmiaaGreat
namespace WalP
open DiskP
open StampP (Torn zeros getD_zeros ext_getD getD_mix torn_open)
def tl (s : ByteArray) : List UInt8:=s.data.toList
def bs (l : List UInt8) : ByteArray:=⟨l.toArray⟩
theorem tl_bs (l : List UInt8) : tl (bs l) = l:=rfl
theorem bs_tl (s : ByteArray) : bs (tl s) = s:=by apply ByteArray.ext;simp [bs,tl]
theorem tl_inj {a b : ByteArray} (h : tl a = tl b) : a = b:=by rw [← bs_tl a,← bs_tl b,h]
theorem tl_length (s : ByteArray) : (tl s).length = s.size:=Array.length_toList
theorem tl_blank : tl blank = zeros:=by unfold tl blank fill zeros;rfl
theorem tl_torn (f o : ByteArray) (t : Int) (h : ¬ (t < 1 ∨ 128 ≤ t)) : tl (torn f o t) = (tl f).take t.toNat ++ (tl o).drop t.toNat:=by
 unfold torn tl
 rw [if_neg h,ByteArray.data_append,Array.toList_append,ByteArray.data_extract,ByteArray.data_extract,Array.toList_extract,Array.toList_extract,List.extract_eq_take_drop,List.extract_eq_take_drop,List.drop_zero,Nat.sub_zero]
 congr 1
 rw [List.take_of_length_le]
 rw [List.length_drop,Array.length_toList]
 exact Nat.le_refl _
theorem getD_past {l : List UInt8} {p : Nat} (h : l.length ≤ p) : l.getD p 0 = 0:=by simp [List.getD,List.getElem?_eq_none h]
theorem torn_pt {f o : ByteArray} (hf : f.size = 128) (ho : o.size = 128) {t : Int} (h : ¬ (t < 1 ∨ 128 ≤ t)) (p : Nat) : (tl (torn f o t)).getD p 0 = if p < t.toNat then (tl f).getD p 0 else (tl o).getD p 0:=by
 rw [tl_torn f o t h,getD_mix (by rw [tl_length,hf]) (by omega)]
def ZP (a v : ByteArray) : Prop:=v.size = 128 ∧ ∃ m,∀ p,(tl v).getD p 0 = if p < m then 0 else (tl a).getD p 0
def PP (a v : ByteArray) : Prop:=v.size = 128 ∧ ∃ m,∀ p,(tl v).getD p 0 = if p < m then (tl a).getD p 0 else 0
theorem blank_size : blank.size = 128:=fill_size 0 128
theorem zp_refl {a : ByteArray} (h : a.size = 128) : ZP a a:=⟨h,0,fun p=>by rw [if_neg (by omega)]⟩
theorem zp_blank {a : ByteArray} (h : a.size = 128) : ZP a blank:=⟨blank_size,128,fun p=>by
 rw [tl_blank,getD_zeros]
 split
 ·rfl
 ·exact (getD_past (by rw [tl_length,h];omega)).symm⟩
theorem zp_torn {a v : ByteArray} (ha : a.size = 128) (h : ZP a v) (t : Int) : ZP a (torn blank v t):=by
 by_cases ht : t < 1 ∨ 128 ≤ t
 ·unfold torn;rw [if_pos ht];exact zp_blank ha
 ·obtain ⟨h1,m,h2⟩:=h
  refine ⟨torn_size blank_size h1 t,max t.toNat m,fun p=>?_⟩
  rw [torn_pt blank_size h1 ht,h2,tl_blank,getD_zeros]
  by_cases g1 : p < t.toNat
  ·rw [if_pos g1,if_pos (by omega)]
  ·rw [if_neg g1]
   by_cases g2 : p < m
   ·rw [if_pos g2,if_pos (by omega)]
   ·rw [if_neg g2,if_neg (by omega)]
theorem zp_of_blank {v : ByteArray} (h : ZP blank v) : v = blank:=by
 obtain ⟨h1,m,h2⟩:=h
 refine tl_inj (ext_getD (by rw [tl_length,tl_length,h1,blank_size]) fun p _=>?_)
 rw [h2,tl_blank,getD_zeros]
 split <;> rfl
theorem pp_blank (a : ByteArray) : PP a blank:=⟨blank_size,0,fun p=>by rw [tl_blank,getD_zeros,if_neg (by omega)]⟩
theorem pp_self {a : ByteArray} (h : a.size = 128) : PP a a:=⟨h,128,fun p=>by
 split
 ·rfl
 ·exact getD_past (by rw [tl_length,h];omega)⟩
theorem pp_torn {a v : ByteArray} (ha : a.size = 128) (h : PP a v) (t : Int) : PP a (torn a v t):=by
 by_cases ht : t < 1 ∨ 128 ≤ t
 ·unfold torn;rw [if_pos ht];exact pp_self ha
 ·obtain ⟨h1,m,h2⟩:=h
  refine ⟨torn_size ha h1 t,max t.toNat m,fun p=>?_⟩
  rw [torn_pt ha h1 ht,h2]
  by_cases g1 : p < t.toNat
  ·rw [if_pos g1,if_pos (by omega)]
  ·rw [if_neg g1]
   by_cases g2 : p < m
   ·rw [if_pos g2,if_pos (by omega)]
   ·rw [if_neg g2,if_neg (by omega)]
def TB (a v : ByteArray) : Prop:=Torn (tl a) (tl v)
theorem pp_tb {a v : ByteArray} (ha : a.size = 128) (h : PP a v) : TB a v:=by
 obtain ⟨h1,m,h2⟩:=h
 refine ⟨by rw [tl_length,ha],by rw [tl_length,h1],0,m,fun p=>?_⟩
 rw [h2]
 by_cases g : p < m
 ·rw [if_pos g,if_pos ⟨by omega,g⟩]
 ·rw [if_neg g,if_neg (by omega)]
theorem tb_self {a : ByteArray} (h : a.size = 128) : TB a a:=pp_tb h (pp_self h)
theorem tb_blank {a : ByteArray} (h : a.size = 128) : TB a blank:=pp_tb h (pp_blank a)
theorem tb_zp {a v u : ByteArray} (h : TB a v) (k : ZP v u) : TB a u:=by
 obtain ⟨h1,h2,j,m,h3⟩:=h
 obtain ⟨k1,n,k2⟩:=k
 refine ⟨h1,by rw [tl_length,k1],max j n,m,fun p=>?_⟩
 rw [k2,h3]
 by_cases g1 : p < n
 ·rw [if_pos g1,if_neg (by omega)]
 ·rw [if_neg g1]
  by_cases g2 : j ≤ p ∧ p < m
  ·rw [if_pos g2,if_pos (by omega)]
  ·rw [if_neg g2,if_neg (by omega)]
theorem tb_not {a v u : ByteArray} (h : TB a v) (hne : v ≠ a) (k : ZP v u) : u ≠ a:=by
 rintro rfl
 obtain ⟨h1,h2,j,m,h3⟩:=h
 obtain ⟨k1,n,k2⟩:=k
 refine hne (tl_inj (ext_getD (by rw [h1,h2]) fun p _=>?_))
 have e:=k2 p
 have e3:=h3 p
 by_cases g1 : p < n
 ·rw [if_pos g1] at e
  rw [e,e3]
  split
  ·exact e
  ·rfl
 ·rw [if_neg g1] at e;exact e.symm
def sec (S : List ByteArray) (k : Nat) : ByteArray:=S.getD k ByteArray.empty
theorem sec_set (S : List ByteArray) (k j : Nat) (v : ByteArray) (hk : k < S.length) : sec (S.set k v) j = if k = j then v else sec S j:=by
 unfold sec
 by_cases e : k = j
 ·subst e;simp [List.getD,hk]
 ·rw [if_neg e];simp [List.getD,e]
theorem sec_size {n : Nat} {st : St} (h : Ok n st) {k : Nat} (hk : k < st.S.length) : (sec st.S k).size = 128:=h.sec _ (getD_mem hk)
theorem crS_inv (P : Nat → ByteArray → Prop) (t : Int) : ∀ (l : List Wr) (S : List ByteArray),(∀ k,k < S.length → P k (sec S k)) →
  (∀ x ∈ l,x.1 < S.length ∧ ∀ v,P x.1 v → P x.1 x.2 ∧ P x.1 (torn x.2 v t)) → ∀ k,k < S.length → P k (sec (crS S t l) k)
 | [],S,h0,_=>h0
 | [x],S,h0,hx=>fun k hk=>by
  have hx1:=hx x (by simp)
  show P k (sec (S.set x.1 _) k)
  rw [sec_set _ _ _ _ hx1.1]
  split
  ·rename_i e
   subst e
   exact (hx1.2 _ (h0 _ hx1.1)).2
  ·exact h0 k hk
 | x :: y :: r,S,h0,hx=>fun k hk=>by
  have hx1:=hx x (by simp)
  show P k (sec (crS (S.set x.1 x.2) t (y :: r)) k)
  refine crS_inv P t (y :: r) (S.set x.1 x.2) (fun j hj=>?_) (fun z hz=>by rw [List.length_set];exact hx z (List.mem_cons_of_mem _ hz)) k (by rw [List.length_set];exact hk)
  rw [List.length_set] at hj
  rw [sec_set _ _ _ _ hx1.1]
  split
  ·rename_i e
   subst e
   exact (hx1.2 _ (h0 _ hx1.1)).1
  ·exact h0 j hj
def Img (st : St) (Q : List ByteArray → Prop) : Prop := ∀ ks t,Q (crS st.S t (kept st.W ks))
theorem img_inv {st : St} (P : Nat → ByteArray → Prop) (h0 : ∀ k,k < st.S.length → P k (sec st.S k)) (hx : ∀ x ∈ st.W,x.1 < st.S.length ∧ ∀ v t,P x.1 v → P x.1 x.2 ∧ P x.1 (torn x.2 v t)) :
  Img st fun S=>S.length = st.S.length ∧ ∀ k,k < st.S.length → P k (sec S k):=fun ks t =>
 ⟨crS_length _ _ _,crS_inv P t _ _ h0 fun x hm=>⟨(hx x (kept_sub _ _ x hm)).1,fun v hv=>(hx x (kept_sub _ _ x hm)).2 v t hv⟩⟩
def Idle (st : St) : Prop:=st.W = [] ∧ st.dead = false
theorem img_idle {st : St} (h : st.W = []) : Img st fun S=>S = st.S:=fun ks t=>by
 show crS st.S t (kept st.W ks) = st.S
 rw [h,kept_nil];rfl
end WalP
end Go.Proofs.YtnnakhdndmjmiaaGreat
/-
 Frames without a program: what records' frames are,how octets are taken apart,there and back.
-/
set_option linter.unusedVariables false
set_option maxRecDepth 4000
namespace Go.Proofs.YtnnakhdndmjmiaaGreat.FrameP
open CrcP
def hd (n : Nat) : List UInt8:=[UInt8.ofNat (n / 256),UInt8.ofNat n]
def cs (r : List UInt8) : List UInt8:=oc (more 0#32 r).toNat
def fr (r : List UInt8) : List UInt8:=hd r.length ++ cs r ++ r
def frs : List (List UInt8) → List UInt8
 | []=>[]
 | r :: l=>fr r ++ frs l
def sz : List (List UInt8) → Nat
 | []=>0
 | r :: l=>6 + r.length + sz l
def Rec (r : List UInt8) : Prop:=1 ≤ r.length ∧ r.length ≤ 4096
theorem cs_length (r : List UInt8) : (cs r).length = 4:=rfl
theorem fr_length (r : List UInt8) : (fr r).length = 6 + r.length:=by
 unfold fr hd
 simp only [List.length_append,List.length_cons,List.length_nil,cs_length]
theorem frs_length (l : List (List UInt8)) : (frs l).length = sz l:=by
 induction l with
 | nil=>rfl
 | cons r l ih=>rw [frs,sz,List.length_append,fr_length,ih]
theorem frs_append (a b : List (List UInt8)) : frs (a ++ b) = frs a ++ frs b:=by
 induction a with
 | nil=>rfl
 | cons r l ih=>rw [List.cons_append,frs,frs,ih,List.append_assoc]
theorem sz_append (a b : List (List UInt8)) : sz (a ++ b) = sz a + sz b:=by
 induction a with
 | nil=>rw [List.nil_append,sz,Nat.zero_add]
 | cons r l ih=>rw [List.cons_append,sz,sz,ih];omega
theorem sz_one (r : List UInt8) : sz [r] = 6 + r.length:=rfl
theorem frs_one (r : List UInt8) : frs [r] = fr r:=by rw [frs,frs,List.append_nil]
theorem take_snoc {α} (l : List α) (j : Nat) (d : α) (h : j < l.length) : l.take (j + 1) = l.take j ++ [l.getD j d]:=by
 rw [List.take_succ_eq_append_getElem h]
 simp [List.getD,h]
theorem sz_take (l : List (List UInt8)) (j : Nat) (h : j < l.length) : sz (l.take (j + 1)) = sz (l.take j) + (6 + (l.getD j []).length):=by
 rw [take_snoc l j [] h,sz_append,sz_one]
theorem frs_take (l : List (List UInt8)) (j : Nat) (h : j < l.length) : frs (l.take (j + 1)) = frs (l.take j) ++ fr (l.getD j []):=by
 rw [take_snoc l j [] h,frs_append,frs_one]
theorem sz_le (l : List (List UInt8)) (m : Nat) (h : ∀ r ∈ l,r.length ≤ m) : sz l ≤ l.length * (6 + m):=by
 induction l with
 | nil=>exact Nat.zero_le _
 | cons r l ih =>
  have h1:=h r (List.mem_cons_self)
  have h2:=ih fun x hx=>h x (List.mem_cons_of_mem _ hx)
  rw [sz,List.length_cons,Nat.succ_mul]
  omega
theorem sz_take_le (l : List (List UInt8)) (j : Nat) : sz (l.take j) ≤ sz l:=by
 have h : sz (l.take j ++ l.drop j) = sz l:=by rw [List.take_append_drop]
 rw [sz_append] at h
 omega
def len2 (s : List UInt8) : Nat:=256 * (s.getD 0 0).toNat + (s.getD 1 0).toNat
def nx (s : List UInt8) : Int × List UInt8 × List UInt8 :=
 if s.length < 2 then (8,[],[])
 else if ¬ (1 ≤ len2 s ∧ len2 s ≤ 4096) then (7,[],[])
 else if s.length < 6 + len2 s then (8,[],[])
 else if (s.drop 2).take 4 ≠ cs ((s.drop 6).take (len2 s)) then (12,[],[])
 else (0,(s.drop 6).take (len2 s),s.drop (6 + len2 s))
theorem nx_short {s : List UInt8} (h : s.length < 2) : nx s = (8,[],[]):=by unfold nx;rw [if_pos h]
theorem nx_form {s : List UInt8} (h : 2 ≤ s.length) (h2 : ¬ (1 ≤ len2 s ∧ len2 s ≤ 4096)) : nx s = (7,[],[]):=by unfold nx;rw [if_neg (by omega),if_pos h2]
theorem nx_less {s : List UInt8} (h : 2 ≤ s.length) (h2 : 1 ≤ len2 s ∧ len2 s ≤ 4096) (h3 : s.length < 6 + len2 s) : nx s = (8,[],[]):=by
 unfold nx;rw [if_neg (by omega),if_neg (by simp only [h2,not_true,not_false_eq_true,and_self]),if_pos h3]
theorem nx_bad {s : List UInt8} (h2 : 1 ≤ len2 s ∧ len2 s ≤ 4096) (h3 : 6 + len2 s ≤ s.length) (h4 : (s.drop 2).take 4 ≠ cs ((s.drop 6).take (len2 s))) : nx s = (12,[],[]):=by
 unfold nx;rw [if_neg (by omega),if_neg (by simp only [h2,not_true,not_false_eq_true,and_self]),if_neg (by omega),if_pos h4]
theorem nx_yes {s : List UInt8} (h2 : 1 ≤ len2 s ∧ len2 s ≤ 4096) (h3 : 6 + len2 s ≤ s.length) (h4 : (s.drop 2).take 4 = cs ((s.drop 6).take (len2 s))) : nx s = (0,(s.drop 6).take (len2 s),s.drop (6 + len2 s)):=by
 unfold nx;rw [if_neg (by omega),if_neg (by simp only [h2,not_true,not_false_eq_true,and_self]),if_neg (by omega),if_neg (by simp [h4])]
theorem nx_zero {s : List UInt8} (h : (nx s).1 = 0) : (1 ≤ len2 s ∧ len2 s ≤ 4096) ∧ 6 + len2 s ≤ s.length ∧ (s.drop 2).take 4 = cs ((s.drop 6).take (len2 s)) ∧ nx s = (0,(s.drop 6).take (len2 s),s.drop (6 + len2 s)):=by
 by_cases h1 : s.length < 2
 ·rw [nx_short h1] at h;exact absurd h (by decide)
 ·by_cases h2 : 1 ≤ len2 s ∧ len2 s ≤ 4096
  ·by_cases h3 : s.length < 6 + len2 s
   ·rw [nx_less (by omega) h2 h3] at h;exact absurd h (by decide)
   ·by_cases h4 : (s.drop 2).take 4 = cs ((s.drop 6).take (len2 s))
    ·exact ⟨h2,by omega,h4,nx_yes h2 (by omega) h4⟩
    ·rw [nx_bad h2 (by omega) h4] at h;exact absurd h (by decide)
  ·rw [nx_form (by omega) h2] at h;exact absurd h (by decide)
def tkf : Nat → List UInt8 → List (List UInt8) × Int
 | 0,_=>([],0)
 | k + 1,s=>if s = [] then ([],0) else if (nx s).1 = 0 then (if (tkf k (nx s).2.2).2 = 0 then ((nx s).2.1 :: (tkf k (nx s).2.2).1,0) else ([],(tkf k (nx s).2.2).2)) else ([],(nx s).1)
theorem nx_rest {s : List UInt8} (h : (nx s).1 = 0) : (nx s).2.2.length + 7 ≤ s.length:=by
 obtain ⟨h1,h2,_,h4⟩:=nx_zero h
 rw [h4,List.length_drop]
 omega
theorem tkf_more : ∀ (k m : Nat) (s : List UInt8),s.length ≤ k → s.length ≤ m → tkf k s = tkf m s
 | 0,0,_,_,_=>rfl
 | 0,m + 1,s,h,_=>by
  have hs : s = []:=List.eq_nil_of_length_eq_zero (by omega)
  subst hs
  rw [tkf,tkf,if_pos rfl]
 | k + 1,0,s,_,h=>by
  have hs : s = []:=List.eq_nil_of_length_eq_zero (by omega)
  subst hs
  rw [tkf,tkf,if_pos rfl]
 | k + 1,m + 1,s,h,h2=>by
  rw [tkf,tkf]
  by_cases hs : s = []
  ·rw [if_pos hs,if_pos hs]
  ·rw [if_neg hs,if_neg hs]
   by_cases hn : (nx s).1 = 0
   ·have hr:=nx_rest hn
    rw [if_pos hn,if_pos hn,tkf_more k m _ (by omega) (by omega)]
   ·rw [if_neg hn,if_neg hn]
def tk (s : List UInt8) : List (List UInt8) × Int:=tkf s.length s
theorem tk_nil : tk [] = ([],0):=rfl
theorem tk_err {s : List UInt8} (h : s ≠ []) (hn : (nx s).1 ≠ 0) : tk s = ([],(nx s).1):=by
 unfold tk
 obtain ⟨k,hk⟩ : ∃ k,s.length = k + 1:=⟨s.length - 1,by have:=List.length_pos_iff.2 h;omega⟩
 rw [hk,tkf,if_neg h,if_neg hn]
def fin (D : List (List UInt8)) (x : List (List UInt8) × Int) : List (List UInt8) × Int:=if x.2 = 0 then (D ++ x.1,0) else ([],x.2)
theorem fin_nil (x : List (List UInt8) × Int) (h : x.2 ≠ 0 → x.1 = []) : fin [] x = x:=by
 unfold fin
 by_cases h0 : x.2 = 0
 ·rw [if_pos h0,List.nil_append];ext <;> simp [h0]
 ·rw [if_neg h0];ext <;> simp [h h0]
theorem tk_more {s : List UInt8} (h : s ≠ []) (hn : (nx s).1 = 0) : tk s = fin [(nx s).2.1] (tk (nx s).2.2):=by
 unfold tk
 have hp:=List.length_pos_iff.2 h
 obtain ⟨k,hk⟩ : ∃ k,s.length = k + 1:=⟨s.length - 1,by omega⟩
 have hr:=nx_rest hn
 rw [hk,tkf,if_neg h,if_pos hn,tkf_more k (nx s).2.2.length _ (by omega) (Nat.le_refl _)]
 unfold fin
 rfl
theorem tk_none (s : List UInt8) (h : (tk s).2 ≠ 0) : (tk s).1 = []:=by
 by_cases hs : s = []
 ·subst hs;rfl
 ·by_cases hn : (nx s).1 = 0
  ·rw [tk_more hs hn] at h ⊢
   unfold fin at h ⊢
   by_cases h0 : (tk (nx s).2.2).2 = 0
   ·rw [if_pos h0] at h;exact absurd rfl h
   ·rw [if_neg h0]
  ·rw [tk_err hs hn]
theorem fin_tk_nil (s : List UInt8) : fin [] (tk s) = tk s:=fin_nil _ (tk_none s)
theorem fin_fin (A B : List (List UInt8)) (x : List (List UInt8) × Int) : fin A (fin B x) = fin (A ++ B) x:=by
 unfold fin
 by_cases h : x.2 = 0
 ·simp [h]
 ·simp [h]
theorem fin_end (D : List (List UInt8)) : fin D (tk []) = (D,0):=by rw [tk_nil];unfold fin;simp
theorem fin_err {D : List (List UInt8)} {s : List UInt8} (h : s ≠ []) (hn : (nx s).1 ≠ 0) : fin D (tk s) = ([],(nx s).1):=by
 rw [tk_err h hn];unfold fin;rw [if_neg hn]
theorem fin_step {D : List (List UInt8)} {s : List UInt8} (h : s ≠ []) (hn : (nx s).1 = 0) : fin D (tk s) = fin (D ++ [(nx s).2.1]) (tk (nx s).2.2):=by
 rw [tk_more h hn,fin_fin]
theorem len2_hd {n : Nat} (h : n < 65536) (t : List UInt8) : len2 (hd n ++ t) = n:=by
 have h1 : len2 (hd n ++ t) = 256 * (UInt8.ofNat (n / 256)).toNat + (UInt8.ofNat n).toNat:=rfl
 rw [h1,UInt8.toNat_ofNat',UInt8.toNat_ofNat']
 omega
theorem nx_of {r t : List UInt8} (h : Rec r) : nx (fr r ++ t) = (0,r,t):=by
 have hl : len2 (fr r ++ t) = r.length:=by
  unfold fr
  rw [List.append_assoc,List.append_assoc]
  exact len2_hd (by have:=h.2;omega) _
 have hlen : (fr r ++ t).length = 6 + r.length + t.length:=by rw [List.length_append,fr_length]
 have d2 : (fr r ++ t).drop 2 = cs r ++ (r ++ t):=by unfold fr hd;simp
 have d6 : (fr r ++ t).drop 6 = r ++ t:=by
  have : (fr r ++ t).drop 6 = ((fr r ++ t).drop 2).drop 4:=by rw [List.drop_drop]
  rw [this,d2]
  exact List.drop_left' (cs_length r)
 have dl : (fr r ++ t).drop (6 + r.length) = t:=by
  rw [← List.drop_drop,d6]
  exact List.drop_left
 have t6 : ((fr r ++ t).drop 6).take (len2 (fr r ++ t)) = r:=by rw [d6,hl];exact List.take_left
 rw [nx_yes (by rw [hl];exact h) (by rw [hl,hlen];omega) (by rw [t6,d2];exact List.take_left' (cs_length r)),t6,hl,dl]
theorem tk_app : ∀ (l : List (List UInt8)) (t : List UInt8),(∀ r ∈ l,Rec r) → tk (frs l ++ t) = fin l (tk t)
 | [],t,_=>by rw [frs,List.nil_append,fin_tk_nil]
 | r :: l,t,h=>by
  have hR:=h r List.mem_cons_self
  have ih:=tk_app l t fun x hx=>h x (List.mem_cons_of_mem _ hx)
  rw [frs,List.append_assoc]
  have hne : fr r ++ (frs l ++ t) ≠ []:=by
   intro e
   have:=congrArg List.length e
   rw [List.length_append,fr_length] at this
   simp at this
  have hn:=nx_of (t:=frs l ++ t) hR
  rw [tk_more hne (by rw [hn]),hn,ih,fin_fin]
  rfl
theorem tk_all (l : List (List UInt8)) (h : ∀ r ∈ l,Rec r) : tk (frs l) = (l,0):=by
 have:=tk_app l [] h
 rw [List.append_nil,fin_end] at this
 exact this
end Go.Proofs.YtnnakhdndmjmiaaGreat.FrameP
