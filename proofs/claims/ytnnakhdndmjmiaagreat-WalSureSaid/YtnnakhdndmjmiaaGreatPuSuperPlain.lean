import Derived.Test.YtnnakhdndmjmiaaGreatPuCrcPlain
import Derived.Test.YtnnakhdndmjmiaaGreatPuWirePlain
set_option linter.unusedVariables false
set_option maxRecDepth 4000
namespace Go.Proofs.YtnnakhdndmjmiaaGreat.SuperP
open WireP (enc encs text rdInt rdText done St)
open StampP (sl opn Torn)
structure Sup where
 gen : Int
 base : Int
 size : Int
 cg : Int
 chk : List Int
 log : List Int
def most : Int:=1099511627776
def Segs (l : List Int) : Prop:=(∀ n ∈ l,0 ≤ n ∧ n < 63) ∧ l.Nodup
instance (l : List Int) : Decidable (Segs l):=by unfold Segs;exact inferInstance
def Fit (x : Sup) : Prop:=x.chk.length ≤ 63 ∧ x.log.length ≤ 63 ∧ (1 ≤ x.gen ∧ x.gen ≤ most ∧ 0 ≤ x.base ∧ x.base ≤ most ∧ 0 ≤ x.cg ∧ x.cg ≤ x.gen ∧ 0 < x.log.length ∧ Segs (x.chk ++ x.log)) ∧
 (if x.chk.length = 0 then x.cg = 0 ∧ x.size = 0 else 0 < x.cg ∧ 0 ≤ x.size ∧ x.size ≤ x.chk.length * 832)
instance (x : Sup) : Decidable (Fit x):=by unfold Fit;exact inferInstance
def octs (l : List Int) : List UInt8:=l.map fun n=>UInt8.ofNat n.toNat
def nums (l : List UInt8) : List Int:=l.map fun c=>(c.toNat : Int)
def data (x : Sup) : List UInt8:=encs [x.gen,x.base,x.size,x.cg] ++ (text (octs x.chk) ++ text (octs x.log))
def sect (x : Sup) : List UInt8:=sl x.gen.toNat 0 1 (data x)
def rd (l : List UInt8) : Sup × Bool :=
 let g:=rdInt 0 most (some l)
 let b:=rdInt 0 most g.2
 let z:=rdInt 0 most b.2
 let c:=rdInt 0 most z.2
 let k:=rdText 63 c.2
 let o:=rdText 63 k.2
 (⟨g.1,b.1,z.1,c.1,nums k.1,nums o.1⟩,done o.2)
def dec (l : List UInt8) : Option Sup :=
 match opn l with
 | none=>none
 | some (_,_,_,s)=>if (rd s).2 = true ∧ Fit (rd s).1 ∧ sect (rd s).1 = l then some (rd s).1 else none
def best (a b : List UInt8) : Option (Sup × Bool) :=
 match dec a,dec b with
 | none,none=>none
 | some x,none=>some (x,false)
 | none,some y=>some (y,true)
 | some x,some y=>if x.gen < y.gen then some (y,true) else some (x,false)
theorem nodup_le : ∀ (k : Nat) (l : List Int),(∀ n ∈ l,0 ≤ n ∧ n < k) → l.Nodup → l.length ≤ k
 | 0,l,h,_=>by
  cases l with
  | nil=>exact Nat.le_refl _
  | cons n r=>have:=h n (by simp);omega
 | k + 1,l,h,hd=>by
  by_cases hk : (k : Int) ∈ l
  ·have h2:=nodup_le k (l.erase (k : Int)) (fun n hn=>by
    have hn2:=hd.mem_erase_iff.1 hn
    have:=h n hn2.2
    have h3:=hn2.1
    omega) (hd.erase _)
   rw [List.length_erase_of_mem hk] at h2
   omega
  ·have h2:=nodup_le k l (fun n hn=>by
    have:=h n hn
    have h3 : n ≠ (k : Int):=fun e=>hk (e ▸ hn)
    omega) hd
   omega
theorem segs_len {l : List Int} (h : Segs l) : l.length ≤ 63:=nodup_le 63 l h.1 h.2
theorem enc_short {n : Int} {k : Nat} (h0 : 0 ≤ n) (h1 : 2 * n < (256 ^ k : Nat)) : (enc n).length ≤ k + 1:=by
 have hx:=WireP.ix_pos h0
 have:=WireP.be_len k (WireP.ix n) (by omega)
 show (WireP.be (WireP.ix n)).length + 1 ≤ k + 1
 omega
theorem data_length {x : Sup} (h : Fit x) : (data x).length ≤ 104:=by
 unfold Fit most at h
 obtain ⟨c1,c2,⟨g1,g2,g3,g4,g5,g6,g7,g8⟩,g9⟩:=h
 have hs:=segs_len g8
 rw [List.length_append] at hs
 have hz : 0 ≤ x.size ∧ x.size ≤ 52416:=by
  split at g9
  ·omega
  ·omega
 have l1:=enc_short (n:=x.gen) (k:=6) (by omega) (by rw [show (256 : Nat) ^ 6 = 281474976710656 by decide];omega)
 have l2:=enc_short (n:=x.base) (k:=6) (by omega) (by rw [show (256 : Nat) ^ 6 = 281474976710656 by decide];omega)
 have l3:=enc_short (n:=x.size) (k:=3) (by omega) (by rw [show (256 : Nat) ^ 3 = 16777216 by decide];omega)
 have l4:=enc_short (n:=x.cg) (k:=6) (by omega) (by rw [show (256 : Nat) ^ 6 = 281474976710656 by decide];omega)
 have l5:=enc_short (n:=((octs x.chk).length : Int)) (k:=1) (by omega) (by simp [octs];omega)
 have l6:=enc_short (n:=((octs x.log).length : Int)) (k:=1) (by omega) (by simp [octs];omega)
 have o1 : (octs x.chk).length = x.chk.length:=by simp [octs]
 have o2 : (octs x.log).length = x.log.length:=by simp [octs]
 simp only [data,encs,List.flatMap_cons,List.flatMap_nil,List.append_nil,List.length_append,text]
 omega
theorem rdInt_back {n lo hi : Int} (h0 : lo ≤ n) (h1 : n ≤ hi) (hl : -9223372036854775808 ≤ lo) (hh : hi ≤ 9223372036854775807) (r : List UInt8) : rdInt lo hi (some (enc n ++ r)) = (n,some r):=by
 have b0 : -9223372036854775808 ≤ n:=by omega
 have b1 : n ≤ 9223372036854775807:=by omega
 show ite _ _ _ = _
 rw [if_pos ⟨WireP.ok_enc b0 b1 r,by rw [WireP.num_enc b0 b1];exact h0,by rw [WireP.num_enc b0 b1];exact h1⟩,WireP.num_enc b0 b1,WireP.drop_enc b0 b1]
theorem rdText_back {m : Int} (l r : List UInt8) (h : (l.length : Int) ≤ m) (hm : m ≤ 1000000) : rdText m (some (text l ++ r)) = (l,some r):=by
 have h0 : -9223372036854775808 ≤ ((l.length : Nat) : Int):=by omega
 have h1 : ((l.length : Nat) : Int) ≤ 9223372036854775807:=by omega
 have hd:=WireP.drop_enc h0 h1 (l ++ r)
 have hlen:=congrArg List.length hd
 rw [List.length_drop] at hlen
 have hlr : (l ++ r).length = l.length + r.length:=List.length_append
 have e2 : (enc ((l.length : Nat) : Int) ++ (l ++ r)).drop (1 + WireP.nl (enc ((l.length : Nat) : Int) ++ (l ++ r)) + l.length) = r:=by rw [← List.drop_drop,hd,List.drop_left]
 have e : text l ++ r = enc ((l.length : Nat) : Int) ++ (l ++ r):=by unfold text;rw [List.append_assoc]
 rw [e]
 have hk : WireP.lenOk m (enc ((l.length : Nat) : Int) ++ (l ++ r)):=by
  refine ⟨WireP.ok_enc h0 h1 _,?_,?_,?_⟩
  ·rw [WireP.num_enc h0 h1];omega
  ·rw [WireP.num_enc h0 h1];exact h
  ·rw [WireP.num_enc h0 h1,hlen];omega
 show ite _ _ _ = _
 rw [if_pos hk,WireP.num_enc h0 h1,Int.toNat_natCast,e2,hd,List.take_left]
theorem nums_octs {l : List Int} (h : ∀ n ∈ l,0 ≤ n ∧ n < 63) : nums (octs l) = l:=by
 induction l with
 | nil=>rfl
 | cons n r ih =>
  have hn:=h n (by simp)
  show ((UInt8.ofNat n.toNat).toNat : Int) :: nums (octs r) = _
  rw [ih fun m hm=>h m (List.mem_cons_of_mem _ hm),UInt8.toNat_ofNat']
  congr 1
  omega
theorem rd_data {x : Sup} (h : Fit x) : rd (data x) = (x,true):=by
 unfold Fit most at h
 obtain ⟨c1,c2,⟨g1,g2,g3,g4,g5,g6,g7,g8⟩,g9⟩:=h
 have hz : 0 ≤ x.size ∧ x.size ≤ 52416:=by
  split at g9
  ·omega
  ·omega
 have o1 : (octs x.chk).length = x.chk.length:=by simp [octs]
 have o2 : (octs x.log).length = x.log.length:=by simp [octs]
 have n1:=nums_octs (l:=x.chk) fun n hn=>g8.1 n (List.mem_append_left _ hn)
 have n2:=nums_octs (l:=x.log) fun n hn=>g8.1 n (List.mem_append_right _ hn)
 have e : data x = enc x.gen ++ (enc x.base ++ (enc x.size ++ (enc x.cg ++ (text (octs x.chk) ++ (text (octs x.log) ++ []))))):=by
  simp only [data,encs,List.flatMap_cons,List.flatMap_nil,List.append_nil,List.append_assoc]
 rw [e]
 unfold rd most
 simp only [rdInt_back (n:=x.gen) (lo:=0) (hi:=1099511627776) (by omega) (by omega) (by omega) (by omega),
  rdInt_back (n:=x.base) (lo:=0) (hi:=1099511627776) (by omega) (by omega) (by omega) (by omega),
  rdInt_back (n:=x.size) (lo:=0) (hi:=1099511627776) (by omega) (by omega) (by omega) (by omega),
  rdInt_back (n:=x.cg) (lo:=0) (hi:=1099511627776) (by omega) (by omega) (by omega) (by omega),
  rdText_back (m:=63) (octs x.chk) _ (by omega) (by omega),rdText_back (m:=63) (octs x.log) _ (by omega) (by omega),n1,n2]
 rfl
theorem fit_stamp {x : Sup} (h : Fit x) : StampP.fit (x.gen.toNat : Int) ((0 : Nat) : Int) ((1 : Nat) : Int):=by
 unfold Fit most at h
 obtain ⟨_,_,⟨g1,g2,_⟩,_⟩:=h
 unfold StampP.fit
 omega
theorem opn_sect {x : Sup} (h : Fit x) : opn (sect x) = some (x.gen.toNat,0,1,data x):=StampP.opn_sl (fit_stamp h) (data_length h)
theorem dec_sect {x : Sup} (h : Fit x) : dec (sect x) = some x:=by
 unfold dec
 rw [opn_sect h]
 simp only [rd_data h]
 rw [if_pos ⟨trivial,h,trivial⟩]
theorem sect_length {x : Sup} (h : Fit x) : (sect x).length = 128:=StampP.sl_length _ _ _ _ (data_length h)
theorem dec_some {l : List UInt8} {x : Sup} (h : dec l = some x) : Fit x ∧ l = sect x:=by
 unfold dec at h
 split at h
 ·cases h
 ·rename_i s _
  split at h
  ·rename_i hc
   cases h
   exact ⟨hc.2.1,hc.2.2.symm⟩
  ·cases h
theorem dec_none {l : List UInt8} (h : opn l = none) : dec l = none:=by unfold dec;rw [h]
theorem dec_torn {x : Sup} {b : List UInt8} (h : Fit x) (ht : Torn (sect x) b) : dec b = none ∨ (b = sect x ∧ dec b = some x):=by
 rcases ho : opn b with _ | ⟨n,i,c,s⟩
 ·exact .inl (dec_none ho)
 ·have e:=StampP.torn_open (fit_stamp h) (data_length h) ht ho
  exact .inr ⟨e,by rw [e];exact dec_sect h⟩
theorem best_none {a b : List UInt8} (ha : dec a = none) (hb : dec b = none) : best a b = none:=by unfold best;rw [ha,hb]
theorem best_left {a b : List UInt8} {x : Sup} (ha : dec a = some x) (hb : dec b = none) : best a b = some (x,false):=by unfold best;rw [ha,hb]
theorem best_right {a b : List UInt8} {y : Sup} (ha : dec a = none) (hb : dec b = some y) : best a b = some (y,true):=by unfold best;rw [ha,hb]
theorem best_both {a b : List UInt8} {x y : Sup} (ha : dec a = some x) (hb : dec b = some y) : best a b = if x.gen < y.gen then some (y,true) else some (x,false):=by unfold best;rw [ha,hb]
end Go.Proofs.YtnnakhdndmjmiaaGreat.SuperP
/-
 The phases of a log's calls on a disk (no program): sectors erased,sectors written,a superblock laid: done,or stopped with what may be found then.
-/
set_option linter.unusedVariables false
namespace Go.Proofs.YtnnakhdndmjmiaaGreat
namespace WalP
open DiskP SegsP
open StampP (Torn zeros)
open SuperP (Sup sect sect_length)
def Stop (st st' : St) (A : Wr → Prop) : Prop:=st'.dead = true ∧ st'.S = st.S ∧ ∀ x ∈ st'.W,A x
theorem wr_run {st : St} {k : Int} {s : ByteArray} (hd : st.dead = false) (hk : 0 ≤ k ∧ k < st.S.length) (hs : s.size = 128) :
  (wr st k s = (0,{ op st with W:=st.W ++ [(k.toNat,s)] }) ∧ opd st = false) ∨ (wr st k s = (13,op st) ∧ opd st = true):=by
 have hs' : ¬ s.size ≠ 128:=by omega
 unfold wr
 rw [hd,if_neg (by decide),out_no (by omega),if_neg (by decide),if_neg hs']
 cases hp : opd st with
 | true=>exact .inr ⟨rfl,rfl⟩
 | false=>exact .inl ⟨rfl,rfl⟩
theorem fl_run {st : St} (hd : st.dead = false) : (fl st = (0,{ op st with S:=play st.S st.W,W:=[] }) ∧ opd st = false) ∨ (fl st = (13,op st) ∧ opd st = true):=by
 unfold fl
 rw [hd,if_neg (by decide)]
 cases hp : opd st with
 | true=>exact .inr ⟨rfl,rfl⟩
 | false=>exact .inl ⟨rfl,rfl⟩
theorem rd_err {st : St} {k : Int} (hd : st.dead = false) (hk : 0 ≤ k ∧ k < st.S.length) : (rd st k).2 = 0:=by
 unfold rd
 rw [hd,if_neg (by decide),out_no (by omega),if_neg (by decide)]
theorem er_run (full : List Int) : ∀ (l : List Int) (st : St) (f : Bool),st.dead = false → (∀ k ∈ l,0 ≤ k ∧ k < st.S.length) → (∀ k ∈ l,k ∈ full) → (∀ x ∈ st.W,(x.1 : Int) ∈ full ∧ x.2 = DiskP.blank) →
  ((er st f l).1 = 0 ∧ (er st f l).2.dead = false ∧ (f = true → (er st f l).2.W = []) ∧ (f = false → (er st f l).2 = st ∨ (er st f l).2.W = [])) ∨
  ((er st f l).1 = 13 ∧ Stop st (er st f l).2 fun x=>(x.1 : Int) ∈ full ∧ x.2 = DiskP.blank)
 | [],st,f,hd,hr,hf,hw=>by
  cases f with
  | false=>exact .inl ⟨rfl,hd,fun h=>(by cases h),fun _=>.inl rfl⟩
  | true =>
   have e : er st true [] = fl st:=rfl
   rw [e]
   rcases fl_run hd with ⟨h,hp⟩ | ⟨h,hp⟩ <;> rw [h]
   ·exact .inl ⟨rfl,hp,fun _=>rfl,fun h=>(by cases h)⟩
   ·exact .inr ⟨rfl,hp,rfl,hw⟩
 | k :: l,st,f,hd,hr,hf,hw=>by
  have hk:=hr k (by simp)
  have h1:=rd_err hd hk
  have hr2 : ∀ j ∈ l,0 ≤ j ∧ j < st.S.length:=fun j hj=>hr j (by simp [hj])
  have hf2 : ∀ j ∈ l,j ∈ full:=fun j hj=>hf j (by simp [hj])
  by_cases h2 : (rd st k).1 = DiskP.blank
  ·rw [er_skip h1 h2];exact er_run full l st f hd hr2 hf2 hw
  ·rcases wr_run hd hk blank_size with ⟨h,hp⟩ | ⟨h,hp⟩
   ·have h3 : (wr st k DiskP.blank).1 = 0:=by rw [h]
    rw [er_step h1 h2 h3,h]
    have hw2 : ∀ x ∈ st.W ++ [(k.toNat,DiskP.blank)],(x.1 : Int) ∈ full ∧ x.2 = DiskP.blank:=by
     intro x hx
     rcases List.mem_append.1 hx with hx | hx
     ·exact hw x hx
     ·obtain rfl:=List.mem_singleton.1 hx
      exact ⟨by show ((k.toNat : Nat) : Int) ∈ full;rw [show ((k.toNat : Nat) : Int) = k by omega];exact hf k (by simp),rfl⟩
    rcases er_run full l { op st with W:=st.W ++ [(k.toNat,DiskP.blank)] } true hp hr2 hf2 hw2 with ⟨a1,a2,a3,_⟩ | ⟨a1,a2,a3,a4⟩
    ·exact .inl ⟨a1,a2,fun _=>a3 rfl,fun _=>.inr (a3 rfl)⟩
    ·exact .inr ⟨a1,a2,a3,a4⟩
   ·have h3 : (wr st k DiskP.blank).1 ≠ 0:=by rw [h];show (13 : Int) ≠ 0;decide
    rw [er_stop h1 h2 h3,h]
    exact .inr ⟨rfl,hp,rfl,hw⟩
theorem er_phase {st : St} {l : List Int} (hi : Idle st) (hr : ∀ k ∈ l,0 ≤ k ∧ k < st.S.length) :
  ((er st false l).1 = 0 ∧ Idle (er st false l).2 ∧ (er st false l).2.S.length = st.S.length ∧ ∀ k,k < st.S.length → sec (er st false l).2.S k = if (k : Int) ∈ l then DiskP.blank else sec st.S k) ∨
  ((er st false l).1 = 13 ∧ Stop st (er st false l).2 fun x=>(x.1 : Int) ∈ l ∧ x.2 = DiskP.blank):=by
 rcases er_run l l st false hi.2 hr (fun _ h=>h) (by rw [hi.1];intro x hx;cases hx) with ⟨a1,a2,_,a4⟩ | h
 ·left
  have hW : (er st false l).2.W = []:=(a4 rfl).elim (fun e=>by rw [e];exact hi.1) id
  obtain ⟨b1,b2⟩:=er_sure l st false hi.2 a1
  refine ⟨a1,⟨hW,a2⟩,b1,fun k hk=>?_⟩
  have:=b2 k hk
  rw [rd_is a2 (by rw [b1];exact hk),rd_is hi.2 hk,hW,hi.1] at this
  exact congrArg Prod.fst this
 ·exact .inr h
theorem er_none {st : St} : ∀ {l : List Int},Idle st → (∀ k ∈ l,0 ≤ k ∧ k < st.S.length ∧ sec st.S k.toNat = DiskP.blank) → er st false l = (0,st)
 | [],_,_=>rfl
 | k :: l,hi,h=>by
  obtain ⟨h1,h2,h3⟩:=h k (by simp)
  have e : (rd st k).1 = DiskP.blank:=by
   rw [show k = ((k.toNat : Nat) : Int) by omega,rd_is hi.2 (by omega),hi.1]
   exact h3
  rw [er_skip (rd_err hi.2 ⟨h1,h2⟩) e]
  exact er_none hi fun j hj=>h j (by simp [hj])
def puts (st : St) : List (Int × ByteArray) → Int × St
 | []=>fl st
 | x :: r=>if (wr st x.1 x.2).1 ≠ 0 then wr st x.1 x.2 else puts (wr st x.1 x.2).2 r
def wrs (l : List (Int × ByteArray)) : List Wr:=l.map fun x=>(x.1.toNat,x.2)
theorem puts_run : ∀ (l : List (Int × ByteArray)) (st : St),st.dead = false → (∀ x ∈ l,0 ≤ x.1 ∧ x.1 < st.S.length ∧ x.2.size = 128) →
  (∃ st',puts st l = (0,st') ∧ Idle st' ∧ st'.S = play st.S (st.W ++ wrs l)) ∨ ((puts st l).1 = 13 ∧ Stop st (puts st l).2 fun x=>x ∈ st.W ∨ x ∈ wrs l)
 | [],st,hd,hr=>by
  have e : puts st [] = fl st:=rfl
  rw [e]
  rcases fl_run hd with ⟨h,hp⟩ | ⟨h,hp⟩ <;> rw [h]
  ·exact .inl ⟨_,rfl,⟨rfl,hp⟩,by simp [wrs]⟩
  ·exact .inr ⟨rfl,hp,rfl,fun x hx=>.inl hx⟩
 | x :: l,st,hd,hr=>by
  obtain ⟨h1,h2,h3⟩:=hr x (by simp)
  have hr2 : ∀ y ∈ l,0 ≤ y.1 ∧ y.1 < st.S.length ∧ y.2.size = 128:=fun y hy=>hr y (by simp [hy])
  unfold puts
  rcases wr_run hd ⟨h1,h2⟩ h3 with ⟨h,hp⟩ | ⟨h,hp⟩ <;> rw [h]
  ·rw [if_neg (by show ¬ (0 : Int) ≠ 0;decide)]
   rcases puts_run l { op st with W:=st.W ++ [(x.1.toNat,x.2)] } hp hr2 with ⟨st',e1,e2,e3⟩ | ⟨e1,e2,e3,e4⟩
   ·exact .inl ⟨st',e1,e2,by rw [e3];show play st.S _ = _;rw [List.append_assoc];rfl⟩
   ·refine .inr ⟨e1,e2,e3,fun y hy=>?_⟩
    rcases e4 y hy with g | g
    ·rcases List.mem_append.1 g with g | g
     ·exact .inl g
     ·exact .inr (by rw [List.mem_singleton.1 g];simp [wrs])
    ·exact .inr (by unfold wrs at g ⊢;rw [List.map_cons];exact List.mem_cons_of_mem _ g)
  ·rw [if_pos (by show (13 : Int) ≠ 0;decide)]
   exact .inr ⟨rfl,hp,rfl,fun y hy=>.inl hy⟩
def Once (A : List Wr) : Prop := ∀ x ∈ A,∀ y ∈ A,x.1 = y.1 → x.2 = y.2
theorem over_const {A : List Wr} {k : Nat} {v : ByteArray} (h : ∀ a ∈ A,a.1 = k → a.2 = v) : over v A k = v:=by
 induction A with
 | nil=>rfl
 | cons y A ih =>
  show over (if y.1 = k then y.2 else v) A k = v
  have e : (if y.1 = k then y.2 else v) = v:=by
   split
   ·rename_i g;exact h y (by simp) g
   ·rfl
  rw [e]
  exact ih fun a ha=>h a (by simp [ha])
theorem over_hit {A : List Wr} {k : Nat} {v : ByteArray} (h : ∀ a ∈ A,a.1 = k → a.2 = v) (hx : ∃ a ∈ A,a.1 = k) (s : ByteArray) : over s A k = v:=by
 induction A generalizing s with
 | nil=>obtain ⟨a,ha,_⟩:=hx;cases ha
 | cons y A ih =>
  show over (if y.1 = k then y.2 else s) A k = v
  by_cases g : y.1 = k
  ·rw [if_pos g,h y (by simp) g]
   exact over_const fun a ha=>h a (by simp [ha])
  ·rw [if_neg g]
   refine ih (fun a ha=>h a (by simp [ha])) ?_ s
   obtain ⟨a,ha,e⟩:=hx
   rcases List.mem_cons.1 ha with rfl | ha
   ·exact absurd e g
   ·exact ⟨a,ha,e⟩
theorem over_once {A : List Wr} (h : Once A) {x : Wr} (hx : x ∈ A) (s : ByteArray) : over s A x.1 = x.2:=over_hit (fun a ha e=>h a ha x hx e) ⟨x,hx,rfl⟩ s
theorem puts_phase {st : St} {l : List (Int × ByteArray)} (hi : Idle st) (hr : ∀ x ∈ l,0 ≤ x.1 ∧ x.1 < st.S.length ∧ x.2.size = 128) (h1 : Once (wrs l)) :
  (∃ st',puts st l = (0,st') ∧ Idle st' ∧ st'.S.length = st.S.length ∧ (∀ x ∈ wrs l,sec st'.S x.1 = x.2) ∧ ∀ k,k < st.S.length → (∀ x ∈ wrs l,x.1 ≠ k) → sec st'.S k = sec st.S k) ∨
  ((puts st l).1 = 13 ∧ Stop st (puts st l).2 fun x=>x ∈ wrs l):=by
 rcases puts_run l st hi.2 hr with ⟨st',e1,e2,e3⟩ | ⟨e1,e2,e3,e4⟩
 ·rw [hi.1,List.nil_append] at e3
  refine .inl ⟨st',e1,e2,by rw [e3,play_length],fun x hx=>?_,fun k hk hn=>?_⟩
  ·have hx1 : x.1 < st.S.length:=by
    obtain ⟨y,hy,rfl⟩:=List.mem_map.1 hx
    have:=hr y hy
    show y.1.toNat < _
    omega
   rw [e3]
   exact (play_over x.1 (wrs l) st.S hx1).trans (over_once h1 hx _)
  ·rw [e3]
   exact (play_over k (wrs l) st.S hk).trans (over_none _ _ _ hn)
 ·exact .inr ⟨e1,e2,e3,fun x hx=>(e4 x hx).elim (fun g=>by rw [hi.1] at g;cases g) id⟩
theorem img_er {st st' : St} {l : List Int} (hz : ∀ s ∈ st.S,s.size = 128) (hr : ∀ k ∈ l,0 ≤ k ∧ k < st.S.length) (h : Stop st st' fun x=>(x.1 : Int) ∈ l ∧ x.2 = DiskP.blank) :
  Img st' fun S=>S.length = st.S.length ∧ ∀ k,k < st.S.length → if (k : Int) ∈ l then ZP (sec st.S k) (sec S k) else sec S k = sec st.S k:=by
 obtain ⟨_,hS,hW⟩:=h
 have hk : ∀ k,k < st.S.length → (sec st.S k).size = 128:=fun k hk=>hz _ (getD_mem hk)
 have:=img_inv (st:=st') (fun k v=>if (k : Int) ∈ l then ZP (sec st.S k) v else v = sec st.S k) (fun k g=>by
  rw [hS] at g ⊢
  split
  ·exact zp_refl (hk k g)
  ·rfl) (fun x hx=>by
  obtain ⟨m,e⟩:=hW x hx
  have g:=(hr _ m).2
  refine ⟨by rw [hS];omega,fun v t hv=>?_⟩
  rw [if_pos m] at hv
  rw [if_pos m,if_pos m,e]
  exact ⟨zp_blank (hk _ (by omega)),zp_torn (hk _ (by omega)) hv t⟩)
 rw [hS] at this
 exact this
theorem img_puts {st st' : St} {A : List Wr} (hr : ∀ x ∈ A,x.1 < st.S.length ∧ x.2.size = 128) (hb : ∀ x ∈ A,sec st.S x.1 = DiskP.blank) (h1 : Once A) (h : Stop st st' fun x=>x ∈ A) :
  Img st' fun S=>S.length = st.S.length ∧ (∀ x ∈ A,PP x.2 (sec S x.1)) ∧ ∀ k,k < st.S.length → (∀ x ∈ A,x.1 ≠ k) → sec S k = sec st.S k:=by
 obtain ⟨_,hS,hW⟩:=h
 have:=img_inv (st:=st') (fun k v=>(∀ x ∈ A,x.1 = k → PP x.2 v) ∧ ((∀ x ∈ A,x.1 ≠ k) → v = sec st.S k)) (fun k g=>by
  rw [hS] at g ⊢
  exact ⟨fun x hx e=>by rw [← e,hb x hx];exact pp_blank _,fun _=>rfl⟩) (fun x hx=>by
  have m:=hW x hx
  refine ⟨by rw [hS];exact (hr x m).1,fun v t hv=>?_⟩
  have e : ∀ y ∈ A,y.1 = x.1 → y.2 = x.2:=fun y hy g=>h1 y hy x m g
  refine ⟨⟨fun y hy g=>by rw [e y hy g];exact pp_self (hr x m).2,fun g=>absurd rfl (g x m)⟩,⟨fun y hy g=>by rw [e y hy g];exact pp_torn (hr x m).2 (hv.1 x m rfl) t,fun g=>absurd rfl (g x m)⟩⟩)
 rw [hS] at this
 intro ks t
 obtain ⟨a,b⟩:=this ks t
 exact ⟨a,fun x hx=>(b x.1 (hr x hx).1).1 x hx rfl,fun k hk hn=>(b k hk).2 hn⟩
def slot (n : Int) : Int:=if n % 2 = 0 then 0 else 1
theorem slot_is (n : Int) : (slot n = 0 ∧ slot (n + 1) = 1) ∨ (slot n = 1 ∧ slot (n + 1) = 0):=by
 unfold slot
 split <;> split <;> omega
def lay (st : St) (x : Sup) : Int × St :=
 if (er st false [slot x.gen]).1 ≠ 0 then er st false [slot x.gen] else puts (er st false [slot x.gen]).2 [(slot x.gen,bs (sect x))]
theorem lay_phase {st : St} {x : Sup} (hi : Idle st) (hz : ∀ s ∈ st.S,s.size = 128) (hx : SuperP.Fit x) (hn : 2 ≤ st.S.length) :
  (∃ st',lay st x = (0,st') ∧ Idle st' ∧ st'.S.length = st.S.length ∧ sec st'.S (slot x.gen).toNat = bs (sect x) ∧ ∀ k,k < st.S.length → k ≠ (slot x.gen).toNat → sec st'.S k = sec st.S k) ∨
  ((lay st x).1 = 13 ∧ (lay st x).2.dead = true ∧ Img (lay st x).2 fun S=>S.length = st.S.length ∧ (ZP (sec st.S (slot x.gen).toNat) (sec S (slot x.gen).toNat) ∨ PP (bs (sect x)) (sec S (slot x.gen).toNat)) ∧
   ∀ k,k < st.S.length → k ≠ (slot x.gen).toNat → sec S k = sec st.S k):=by
 have hs : slot x.gen = 0 ∨ slot x.gen = 1:=by unfold slot;split <;> simp
 have hsz : (bs (sect x)).size = 128:=by rw [← tl_length,tl_bs];exact sect_length hx
 unfold lay
 generalize slot x.gen = p at *
 have hr : ∀ k ∈ [p],0 ≤ k ∧ k < (st.S.length : Int):=by intro k hk;rw [List.mem_singleton.1 hk];omega
 have hp : ((p.toNat : Nat) : Int) = p:=by omega
 have hkm : ∀ k : Nat,(k : Int) ∈ [p] ↔ k = p.toNat:=by intro k;rw [List.mem_singleton];omega
 rcases er_phase hi hr with ⟨a1,a2,a3,a4⟩ | ⟨a1,a2⟩
 ·rw [if_neg (by rw [a1];decide)]
  generalize (er st false [p]).2 = s1 at *
  have hw : wrs [(p,bs (sect x))] = [(p.toNat,bs (sect x))]:=rfl
  have h1 : Once (wrs [(p,bs (sect x))]):=by
   rw [hw]
   intro a ha b hb _
   rw [List.mem_singleton.1 ha,List.mem_singleton.1 hb]
  have hr2 : ∀ y ∈ [(p,bs (sect x))],0 ≤ y.1 ∧ y.1 < (s1.S.length : Int) ∧ y.2.size = 128:=by
   intro y hy
   rw [List.mem_singleton.1 hy]
   exact ⟨by show 0 ≤ p;omega,by show p < _;omega,hsz⟩
  rcases puts_phase a2 hr2 h1 with ⟨s2,b1,b2,b3,b4,b5⟩ | ⟨b1,b2⟩
  ·refine .inl ⟨s2,b1,b2,by omega,b4 (p.toNat,bs (sect x)) (by rw [hw];simp),fun k hk hn=>?_⟩
   rw [b5 k (by omega) (by rw [hw];intro y hy;rw [List.mem_singleton.1 hy];exact fun e=>hn e.symm),a4 k hk,if_neg (by rw [hkm];exact hn)]
  ·refine .inr ⟨b1,b2.1,?_⟩
   have hb : ∀ y ∈ wrs [(p,bs (sect x))],sec s1.S y.1 = DiskP.blank:=by
    rw [hw]
    intro y hy
    rw [List.mem_singleton.1 hy,a4 _ (by show p.toNat < _;omega),if_pos (by rw [hkm])]
   have:=img_puts (fun y hy=>by
    rw [hw] at hy
    rw [List.mem_singleton.1 hy]
    exact ⟨by show p.toNat < _;omega,hsz⟩) hb h1 b2
   intro ks t
   obtain ⟨c1,c2,c3⟩:=this ks t
   refine ⟨by omega,.inr (c2 (p.toNat,bs (sect x)) (by rw [hw];simp)),fun k hk hn=>?_⟩
   rw [c3 k (by omega) (by rw [hw];intro y hy;rw [List.mem_singleton.1 hy];exact fun e=>hn e.symm),a4 k hk,if_neg (by rw [hkm];exact hn)]
 ·rw [if_pos (by rw [a1];decide)]
  refine .inr ⟨a1,a2.1,?_⟩
  have:=img_er hz hr a2
  intro ks t
  obtain ⟨c1,c2⟩:=this ks t
  refine ⟨c1,.inl ?_,fun k hk hn=>?_⟩
  ·have:=c2 p.toNat (by omega)
   rw [if_pos (by rw [hkm])] at this
   exact this
  ·have:=c2 k hk
   rw [if_neg (by rw [hkm];exact hn)] at this
   exact this
end WalP
end Go.Proofs.YtnnakhdndmjmiaaGreat
/-
 Octets in sealed sectors (no program): what stands at the first of some places,one behind the other;what is found where a batch was written in part.
-/
set_option linter.unusedVariables false
namespace Go.Proofs.YtnnakhdndmjmiaaGreat
namespace WalP
open DiskP (St)
open StampP (Torn zeros sl opn fit opn_sl opn_some torn_open getD_zeros mk_some sl_left)
def pc (z : Nat) : Nat:=(z - 1) / 104 + 1
def pt (s : List UInt8) (j : Nat) : List UInt8:=(s.drop (104 * j)).take 104
theorem pc_pos (z : Nat) : 1 ≤ pc z:=by unfold pc;omega
theorem pt_length (s : List UInt8) (j : Nat) : (pt s j).length ≤ 104:=by unfold pt;rw [List.length_take];omega
theorem join_take (s : List UInt8) (k : Nat) : (List.range k).flatMap (pt s) = s.take (104 * k):=by
 induction k with
 | zero=>simp
 | succ k ih =>
  rw [List.range_succ,List.flatMap_append,ih]
  show _ ++ ([k].flatMap (pt s)) = _
  rw [List.flatMap_singleton]
  unfold pt
  rw [show 104 * (k + 1) = 104 * k + 104 by omega,← List.take_append_drop (104 * k) (s.take (104 * k + 104)),List.take_take,List.drop_take]
  congr 2 <;> omega
theorem join_all (s : List UInt8) : (List.range (pc s.length)).flatMap (pt s) = s:=by
 rw [join_take,List.take_of_length_le]
 unfold pc;omega
def seald (num : Nat) (s : List UInt8) : List ByteArray:=(List.range (pc s.length)).map fun i=>bs (sl num i (pc s.length) (pt s i))
theorem seald_length (num : Nat) (s : List UInt8) : (seald num s).length = pc s.length:=by simp [seald]
theorem seald_get {num : Nat} {s : List UInt8} {i : Nat} (h : i < pc s.length) : (seald num s)[i]? = some (bs (sl num i (pc s.length) (pt s i))):=by simp [seald,h]
theorem seald_size {num : Nat} {s : List UInt8} : ∀ t ∈ seald num s,t.size = 128:=by
 intro t ht
 obtain ⟨i,_,rfl⟩:=List.mem_map.1 ht
 rw [← tl_length,tl_bs]
 exact StampP.sl_length _ _ _ _ (pt_length _ _)
def Fits (num : Nat) (s : List UInt8) : Prop:=1 ≤ num ∧ num ≤ 1099511627776 ∧ pc s.length ≤ 512
theorem fits_fit {num : Nat} {s : List UInt8} (h : Fits num s) {i : Nat} (hi : i < pc s.length) : fit (num : Int) (i : Int) (pc s.length : Int):=by
 obtain ⟨h1,h2,h3⟩:=h
 have:=pc_pos s.length
 exact ⟨by omega,by omega,by omega,by omega,by omega,by omega⟩
theorem opn_seald {num : Nat} {s : List UInt8} (h : Fits num s) {i : Nat} (hi : i < pc s.length) : opn (sl num i (pc s.length) (pt s i)) = some (num,i,pc s.length,pt s i):=opn_sl (fits_fit h hi) (pt_length _ _)
theorem opn_zeros : opn zeros = none:=by
 cases h : opn zeros with
 | none=>rfl
 | some x =>
  obtain ⟨n,i,c,s⟩:=x
  obtain ⟨e,hf,_⟩:=opn_some h
  obtain ⟨p,hp,hne⟩:=mk_some hf
  rw [← sl_left n i c s p hp,← e,getD_zeros] at hne
  exact absurd rfl hne
theorem pre_get {α} {a g : List α} {i : Nat} {v : α} (h : a <+: g) (ha : a[i]? = some v) : g[i]? = some v:=by
 obtain ⟨t,rfl⟩:=h
 rw [List.getElem?_append_left (List.getElem?_eq_some_iff.1 ha).1]
 exact ha
theorem pre_of {α} {a g : List α} (h : ∀ (i : Nat) (v : α),a[i]? = some v → g[i]? = some v) : a <+: g:=by
 rw [List.prefix_iff_getElem?]
 intro i hi
 exact h i _ (List.getElem?_eq_getElem hi)
theorem bs_inj {a b : List UInt8} (h : bs a = bs b) : a = b:=by
 have:=congrArg tl h
 exact this
theorem pt_all {s t : List UInt8} (hc : pc s.length = pc t.length) (h : ∀ i,i < pc s.length → pt s i = pt t i) : s = t:=by
 rw [← join_all s,← join_all t,← hc]
 rw [List.flatMap_def,List.flatMap_def]
 congr 1
 exact List.map_congr_left fun i hi=>h i (List.mem_range.1 hi)
theorem seald_inj {num : Nat} {s t : List UInt8} {g : List ByteArray} (hs : Fits num s) (ht : Fits num t) (h1 : seald num s <+: g) (h2 : seald num t <+: g) : s = t:=by
 have hg : ∀ i,i < pc s.length → i < pc t.length → pc s.length = pc t.length ∧ pt s i = pt t i:=by
  intro i hi hj
  have e1:=pre_get h1 (seald_get hi)
  have e2:=pre_get h2 (seald_get hj)
  have e:=bs_inj (Option.some.inj (e1.symm.trans e2))
  have o1:=opn_seald hs hi
  rw [e,opn_seald ht hj] at o1
  simp only [Option.some.injEq,Prod.mk.injEq,true_and] at o1
  exact ⟨o1.1.symm,o1.2.symm⟩
 have hc:=(hg 0 (pc_pos _) (pc_pos _)).1
 exact pt_all hc fun i hi=>(hg i hi (by omega)).2
def Rest (num : Nat) (rest : List ByteArray) : Prop:=(∀ t ∈ rest,t = DiskP.blank) ∨
 ∃ s,Fits num s ∧ (∀ (i : Nat) (t : ByteArray),rest[i]? = some t → (i < pc s.length ∧ TB (bs (sl num i (pc s.length) (pt s i))) t) ∨ (pc s.length ≤ i ∧ t = DiskP.blank)) ∧ ¬ seald num s <+: rest
theorem tb_opn {num i c : Nat} {p : List UInt8} {t : ByteArray} (hf : fit num i c) (hp : p.length ≤ 104) (h : TB (bs (sl num i c p)) t) {x : Nat × Nat × Nat × List UInt8} (ho : opn (tl t) = some x) : t = bs (sl num i c p):=by
 obtain ⟨n2,i2,c2,s2⟩:=x
 exact tl_inj (torn_open hf hp h ho)
theorem opn_blank : opn (tl DiskP.blank) = none:=by rw [tl_blank];exact opn_zeros
theorem rest_none {num : Nat} {rest : List ByteArray} (h : Rest num rest) {u : List UInt8} (hu : Fits num u) : ¬ seald num u <+: rest:=by
 intro hp
 have hopen : ∀ i,i < pc u.length → rest[i]? = some (bs (sl num i (pc u.length) (pt u i))):=fun i hi=>pre_get hp (seald_get hi)
 rcases h with h | ⟨s,hs,hr,hn⟩
 ·have e:=hopen 0 (pc_pos _)
  have:=h _ (List.mem_of_getElem? e)
  have o:=opn_seald hu (pc_pos u.length)
  rw [← tl_bs (sl num 0 _ _),this,opn_blank] at o
  cases o
 ·have hg : ∀ i,i < pc u.length → pc s.length = pc u.length ∧ i < pc s.length ∧ pt s i = pt u i:=by
   intro i hi
   have o:=opn_seald hu hi
   rcases hr i _ (hopen i hi) with ⟨h1,h2⟩ | ⟨h1,h2⟩
   ·have e:=tb_opn (fits_fit hs h1) (pt_length _ _) h2 o
    rw [bs_inj e,opn_seald hs h1] at o
    simp only [Option.some.injEq,Prod.mk.injEq,true_and] at o
    exact ⟨o.1,h1,o.2⟩
   ·rw [← tl_bs (sl num i _ _),h2,opn_blank] at o
    cases o
  have hc:=(hg 0 (pc_pos _)).1
  have e : s = u:=pt_all hc fun i hi=>(hg i (by omega)).2.2
  rw [e] at hn
  exact hn hp
theorem rest_zp {num : Nat} {rest rest' : List ByteArray} (h : Rest num rest) (hl : rest'.length = rest.length) (hz : ∀ (i : Nat) (t t' : ByteArray),rest[i]? = some t → rest'[i]? = some t' → ZP t t') : Rest num rest':=by
 have hget : ∀ i t',rest'[i]? = some t' → ∃ t,rest[i]? = some t:=fun i t' e=>⟨_,List.getElem?_eq_getElem (by rw [← hl];exact (List.getElem?_eq_some_iff.1 e).1)⟩
 rcases h with h | ⟨s,hs,hr,hn⟩
 ·left
  intro t ht
  obtain ⟨i,hi⟩:=List.getElem?_of_mem ht
  obtain ⟨t0,h0⟩:=hget i t hi
  have:=hz i t0 t h0 hi
  rw [h t0 (List.mem_of_getElem? h0)] at this
  exact zp_of_blank this
 ·right
  refine ⟨s,hs,fun i t' ht'=>?_,fun hp=>hn (pre_of fun i v hv=>?_)⟩
  ·obtain ⟨t0,h0⟩:=hget i t' ht'
   have z:=hz i t0 t' h0 ht'
   rcases hr i t0 h0 with ⟨a,b⟩ | ⟨a,b⟩
   ·exact .inl ⟨a,tb_zp b z⟩
   ·subst b
    exact .inr ⟨a,zp_of_blank z⟩
  ·have e:=pre_get hp hv
   obtain ⟨t0,h0⟩:=hget i v e
   have hi : i < pc s.length:=by rw [← seald_length num s];exact (List.getElem?_eq_some_iff.1 hv).1
   rw [seald_get hi] at hv
   obtain rfl:=(Option.some.inj hv).symm
   rcases hr i t0 h0 with ⟨a,b⟩ | ⟨a,b⟩
   ·rw [h0]
    congr 1
    refine Classical.byContradiction fun hne=>?_
    exact tb_not b hne (hz i t0 _ h0 e) rfl
   ·omega
noncomputable def first (num : Nat) (g : List ByteArray) : Option (List UInt8) :=
 open Classical in if h : ∃ s,Fits num s ∧ seald num s <+: g then some h.choose else none
theorem first_some {num : Nat} {g : List ByteArray} {s : List UInt8} (hs : Fits num s) (h : seald num s <+: g) : first num g = some s:=by
 have hx : ∃ s,Fits num s ∧ seald num s <+: g:=⟨s,hs,h⟩
 unfold first
 rw [dif_pos hx,seald_inj hx.choose_spec.1 hs hx.choose_spec.2 h]
theorem first_none {num : Nat} {g : List ByteArray} (h : ∀ s,Fits num s → ¬ seald num s <+: g) : first num g = none:=by
 unfold first
 rw [dif_neg]
 rintro ⟨s,h1,h2⟩
 exact h s h1 h2
noncomputable def runs : Nat → Nat → List ByteArray → List (List UInt8) × Nat
 | 0,_,_=>([],0)
 | k + 1,num,g=>match first num g with
  | none=>([],0)
  | some s=>(s :: (runs k (num + 1) (g.drop (pc s.length))).1,pc s.length + (runs k (num + 1) (g.drop (pc s.length))).2)
def laid : Nat → List (List UInt8) → List ByteArray
 | _,[]=>[]
 | num,s :: r=>seald num s ++ laid (num + 1) r
def FitsAll : Nat → List (List UInt8) → Prop
 | _,[]=>True
 | num,s :: r=>Fits num s ∧ FitsAll (num + 1) r
theorem laid_snoc : ∀ (l : List (List UInt8)) (num : Nat) (s : List UInt8),laid num (l ++ [s]) = laid num l ++ seald (num + l.length) s
 | [],num,s=>by simp [laid]
 | x :: l,num,s=>by
  show seald num x ++ laid (num + 1) (l ++ [s]) = (seald num x ++ laid (num + 1) l) ++ seald (num + (l.length + 1)) s
  rw [laid_snoc l (num + 1) s,List.append_assoc,show num + (l.length + 1) = num + 1 + l.length by omega]
theorem fitsAll_snoc : ∀ (l : List (List UInt8)) (num : Nat) (s : List UInt8),FitsAll num l → Fits (num + l.length) s → FitsAll num (l ++ [s])
 | [],num,s,_,h=>⟨h,trivial⟩
 | x :: l,num,s,h,h2=>⟨h.1,fitsAll_snoc l (num + 1) s h.2 (by rw [show num + 1 + l.length = num + (l.length + 1) by omega];exact h2)⟩
end WalP
end Go.Proofs.YtnnakhdndmjmiaaGreat
/-
 What a log is on a disk (no program): its superblock,its base,its batches,and what was written in part behind them;what does not turn it.
-/
set_option linter.unusedVariables false
namespace Go.Proofs.YtnnakhdndmjmiaaGreat
namespace WalP
open DiskP (St Ok Wr)
open SegsP (cnt cnt_fit cnt_le secs secs_len secs_mem secs_snoc seg1 seg1_yes seg1_no mem_seg seg seg_length fre mem_fre)
open SuperP (Sup sect sect_length Segs)
open StampP (Torn)
def at_ (S : List ByteArray) (ps : List Int) : List ByteArray:=ps.map fun p=>sec S p.toNat
theorem at_congr {S S' : List ByteArray} {ps : List Int} (h : ∀ p ∈ ps,sec S' p.toNat = sec S p.toNat) : at_ S' ps = at_ S ps:=List.map_congr_left h
theorem at_drop (S : List ByteArray) (ps : List Int) (k : Nat) : (at_ S ps).drop k = at_ S (ps.drop k):=by simp [at_]
theorem at_get {S : List ByteArray} {ps : List Int} {i : Nat} {t : ByteArray} (h : (at_ S ps)[i]? = some t) : ∃ p,ps[i]? = some p ∧ t = sec S p.toNat:=by
 unfold at_ at h
 rw [List.getElem?_map] at h
 cases e : ps[i]? with
 | none=>rw [e] at h;cases h
 | some p=>rw [e] at h;exact ⟨p,rfl,(Option.some.inj h).symm⟩
theorem mem_secs {l : List Int} {p : Int} : p ∈ secs l ↔ ∃ k ∈ l,0 ≤ k ∧ k < 63 ∧ 2 + 8 * k ≤ p ∧ p < 2 + 8 * k + 8:=by
 unfold secs
 rw [List.mem_flatMap]
 constructor
 ·rintro ⟨k,hk,hp⟩
  by_cases g : 0 ≤ k ∧ k < 63
  ·rw [seg1_yes g,mem_seg] at hp;exact ⟨k,hk,g.1,g.2,hp.1,by have:=hp.2;omega⟩
  ·rw [seg1_no g] at hp;cases hp
 ·rintro ⟨k,hk,g1,g2,h1,h2⟩
  exact ⟨k,hk,by rw [seg1_yes ⟨g1,g2⟩,mem_seg];exact ⟨h1,by omega⟩⟩
theorem secs_app (a b : List Int) : secs (a ++ b) = secs a ++ secs b:=by unfold secs;rw [List.flatMap_append]
theorem secs_range {l : List Int} {n : Nat} (h : ∀ k ∈ l,k < (cnt n : Int)) : ∀ p ∈ secs l,0 ≤ p ∧ p < (n : Int) ∧ 2 ≤ p:=by
 intro p hp
 obtain ⟨k,hk,g1,g2,h1,h2⟩:=mem_secs.1 hp
 have:=cnt_fit (n:=(n : Int)) (k:=k.toNat) (by have:=h k hk;omega)
 omega
theorem secs_apart {a b : List Int} (h : ∀ k ∈ a,¬ k ∈ b) : ∀ p ∈ secs a,¬ p ∈ secs b:=by
 intro p hp hq
 obtain ⟨k,hk,g1,g2,h1,h2⟩:=mem_secs.1 hp
 obtain ⟨j,hj,g3,g4,h3,h4⟩:=mem_secs.1 hq
 have : k = j:=by omega
 subst this
 exact h k hk hj
theorem secs_length {l : List Int} (h : ∀ k ∈ l,0 ≤ k ∧ k < 63) : (secs l).length = 8 * l.length:=by
 induction l with
 | nil=>rfl
 | cons k l ih =>
  have e : secs (k :: l) = seg1 k ++ secs l:=rfl
  rw [e,List.length_append,ih (fun j hj=>h j (by simp [hj])),seg1_yes (h k (by simp)),seg_length,List.length_cons];omega
theorem seg_nodup (k : Int) (q : Nat) : (seg k q).Nodup:=by
 induction q with
 | zero=>exact List.nodup_nil
 | succ q ih =>
  rw [SegsP.seg_succ,List.nodup_append]
  refine ⟨ih,by simp,fun a ha b hb e=>?_⟩
  rw [List.mem_singleton.1 hb] at e
  have:=mem_seg.1 ha
  omega
theorem secs_nodup {l : List Int} (h : l.Nodup) : (secs l).Nodup:=by
 induction l with
 | nil=>exact List.nodup_nil
 | cons k l ih =>
  have e : secs (k :: l) = seg1 k ++ secs l:=rfl
  rw [List.nodup_cons] at h
  rw [e,List.nodup_append]
  refine ⟨?_,ih h.2,?_⟩
  ·by_cases g : 0 ≤ k ∧ k < 63
   ·rw [seg1_yes g];exact seg_nodup k 8
   ·rw [seg1_no g];exact List.nodup_nil
  ·intro p hp q hq e2
   subst e2
   have h1 : p ∈ secs [k]:=by rw [SegsP.secs_one];exact hp
   exact secs_apart (a:=[k]) (b:=l) (by intro j hj;rw [List.mem_singleton.1 hj];exact h.1) p h1 hq
def Bas (S : List ByteArray) (x : Sup) : Option (List UInt8) → Prop
 | none=>x.chk = []
 | some b=>x.chk ≠ [] ∧ (b.length : Int) = x.size ∧ Fits x.cg.toNat b ∧ seald x.cg.toNat b <+: at_ S (secs x.chk)
def Oth (x : Sup) (v : ByteArray) : Prop := ∃ z,SuperP.Fit z ∧ TB (bs (sect z)) v ∧ (z.gen < x.gen ∨ v ≠ bs (sect z))
structure Good (S : List ByteArray) (x : Sup) (B : Option (List UInt8)) (l : List (List UInt8)) : Prop where
 fit : SuperP.Fit x
 named : ∀ k ∈ x.chk ++ x.log,k < (cnt S.length : Int)
 cur : sec S (slot x.gen).toNat = bs (sect x)
 oth : Oth x (sec S (slot (x.gen + 1)).toNat)
 bas : Bas S x B
 fits : FitsAll (x.base.toNat + 1) l
 log : ∃ rest,at_ S (secs x.log) = laid (x.base.toNat + 1) l ++ rest ∧ Rest (x.base.toNat + 1 + l.length) rest
theorem fit_segs {x : Sup} (h : SuperP.Fit x) : Segs (x.chk ++ x.log):=h.2.2.1.2.2.2.2.2.2.2
theorem fit_range {x : Sup} (h : SuperP.Fit x) : ∀ k ∈ x.chk ++ x.log,0 ≤ k ∧ k < 63:=(fit_segs h).1
theorem fit_nums {x : Sup} (h : SuperP.Fit x) : 1 ≤ x.gen ∧ x.gen ≤ 1099511627776 ∧ 0 ≤ x.base ∧ x.base ≤ 1099511627776 ∧ 0 ≤ x.cg ∧ x.cg ≤ x.gen:=by
 obtain ⟨_,_,⟨a,b,c,d,e,f,_⟩,_⟩:=h
 unfold SuperP.most at *
 exact ⟨a,b,c,d,e,f⟩
theorem Good.two {S : List ByteArray} {x : Sup} {B : Option (List UInt8)} {l : List (List UInt8)} (h : Good S x B l) : 2 ≤ S.length:=by
 have h0 : 0 < x.log.length:=h.fit.2.2.1.2.2.2.2.2.2.1
 have hm : x.log[0] ∈ x.chk ++ x.log:=List.mem_append_right _ (List.getElem_mem _)
 have h1:=h.named _ hm
 have h2:=fit_range h.fit _ hm
 have:=cnt_fit (n:=(S.length : Int)) (k:=x.log[0].toNat) (by omega)
 omega
theorem Good.agree {S S' : List ByteArray} {x : Sup} {B : Option (List UInt8)} {l : List (List UInt8)} (h : Good S x B l) (hl : S'.length = S.length) (h0 : sec S' 0 = sec S 0) (h1 : sec S' 1 = sec S 1)
  (ha : ∀ p ∈ secs (x.chk ++ x.log),sec S' p.toNat = sec S p.toNat) : Good S' x B l:=by
 have hs : ∀ n,sec S' (slot n).toNat = sec S (slot n).toNat:=by
  intro n
  rcases slot_is n with ⟨e,_⟩ | ⟨e,_⟩ <;> rw [e]
  ·exact h0
  ·exact h1
 rw [secs_app] at ha
 refine ⟨h.fit,by rw [hl];exact h.named,by rw [hs];exact h.cur,by rw [hs];exact h.oth,?_,h.fits,?_⟩
 ·have:=h.bas
  cases B with
  | none=>exact this
  | some b =>
   obtain ⟨a1,a2,a3,a4⟩:=this
   exact ⟨a1,a2,a3,by rw [at_congr (S:=S) (S':=S') fun p hp=>ha p (List.mem_append_left _ hp)];exact a4⟩
 ·rw [at_congr (S:=S) (S':=S') fun p hp=>ha p (List.mem_append_right _ hp)]
  exact h.log
theorem oth_zp {x : Sup} {v v' : ByteArray} (h : Oth x v) (hz : ZP v v') : Oth x v':=by
 obtain ⟨z,h1,h2,h3⟩:=h
 exact ⟨z,h1,tb_zp h2 hz,h3.imp id (fun g=>tb_not h2 g hz)⟩
theorem secs_not_slot {l : List Int} {p : Int} (hp : p ∈ secs l) (n : Int) : p.toNat ≠ (slot n).toNat:=by
 have:=secs_mem hp
 rcases slot_is n with ⟨e,_⟩ | ⟨e,_⟩ <;> rw [e] <;> omega
theorem Good.slot {S S' : List ByteArray} {x : Sup} {B : Option (List UInt8)} {l : List (List UInt8)} (h : Good S x B l) (hl : S'.length = S.length) (ho : Oth x (sec S' (slot (x.gen + 1)).toNat))
  (ha : ∀ k,k < S.length → k ≠ (WalP.slot (x.gen + 1)).toNat → sec S' k = sec S k) : Good S' x B l:=by
 have h2:=h.two
 have hne : (WalP.slot x.gen).toNat ≠ (WalP.slot (x.gen + 1)).toNat ∧ (WalP.slot x.gen).toNat < 2:=by rcases slot_is x.gen with ⟨a,b⟩ | ⟨a,b⟩ <;> rw [a,b] <;> decide
 have hr:=secs_range h.named
 have hb : ∀ p ∈ secs (x.chk ++ x.log),sec S' p.toNat = sec S p.toNat:=fun p hp=>ha _ (by have:=hr p hp;omega) (secs_not_slot hp _)
 rw [secs_app] at hb
 refine ⟨h.fit,by rw [hl];exact h.named,by rw [ha _ (by omega) hne.1];exact h.cur,ho,?_,h.fits,?_⟩
 ·have:=h.bas
  cases B with
  | none=>exact this
  | some b =>
   obtain ⟨a1,a2,a3,a4⟩:=this
   exact ⟨a1,a2,a3,by rw [at_congr (S:=S) (S':=S') fun p hp=>hb p (List.mem_append_left _ hp)];exact a4⟩
 ·rw [at_congr (S:=S) (S':=S') fun p hp=>hb p (List.mem_append_right _ hp)]
  exact h.log
def atn (x : Sup) (l : List (List UInt8)) : Nat:=(laid (x.base.toNat + 1) l).length
def behind (x : Sup) (l : List (List UInt8)) : List Int:=(secs x.log).drop (atn x l)
theorem at_length (S : List ByteArray) (ps : List Int) : (at_ S ps).length = ps.length:=by simp [at_]
theorem at_app (S : List ByteArray) (a b : List Int) : at_ S (a ++ b) = at_ S a ++ at_ S b:=by simp [at_]
theorem Good.split {S : List ByteArray} {x : Sup} {B : Option (List UInt8)} {l : List (List UInt8)} (h : Good S x B l) :
  atn x l ≤ (secs x.log).length ∧ at_ S ((secs x.log).take (atn x l)) = laid (x.base.toNat + 1) l ∧ Rest (x.base.toNat + 1 + l.length) (at_ S (behind x l)):=by
 obtain ⟨rest,h1,h2⟩:=h.log
 have hlen : atn x l ≤ (secs x.log).length:=by
  have:=congrArg List.length h1
  rw [at_length,List.length_append] at this
  unfold atn;omega
 have e : at_ S ((secs x.log).take (atn x l)) ++ at_ S (behind x l) = laid (x.base.toNat + 1) l ++ rest:=by
  rw [← at_app]
  unfold behind
  rw [List.take_append_drop]
  exact h1
 obtain ⟨e1,e2⟩:=List.append_inj e (by rw [at_length,List.length_take];unfold atn at hlen ⊢;omega)
 exact ⟨hlen,e1,by rw [e2];exact h2⟩
theorem behind_mem {x : Sup} {l : List (List UInt8)} {p : Int} (h : p ∈ behind x l) : p ∈ secs x.log:=List.mem_of_mem_drop h
theorem log_nodup {x : Sup} (h : SuperP.Fit x) : (secs x.log).Nodup:=secs_nodup (List.nodup_append.1 (fit_segs h).2).2.1
theorem chk_apart {x : Sup} (h : SuperP.Fit x) : ∀ p ∈ secs x.chk,¬ p ∈ secs x.log:=secs_apart fun k hk hj=>(List.nodup_append.1 (fit_segs h).2).2.2 k hk k hj rfl
theorem Good.turned {S S' : List ByteArray} {x : Sup} {B : Option (List UInt8)} {l : List (List UInt8)} (h : Good S x B l) (hl : S'.length = S.length)
  (ha : ∀ k,k < S.length → ¬ (k : Int) ∈ behind x l → sec S' k = sec S k) (l' : List (List UInt8)) (hf : FitsAll (x.base.toNat + 1) l')
  (hlog : ∃ rest,laid (x.base.toNat + 1) l ++ at_ S' (behind x l) = laid (x.base.toNat + 1) l' ++ rest ∧ Rest (x.base.toNat + 1 + l'.length) rest) : Good S' x B l':=by
 have h2:=h.two
 have hr:=secs_range h.named
 rw [secs_app] at hr
 have hsl : ∀ n,sec S' (WalP.slot n).toNat = sec S (WalP.slot n).toNat:=fun n=>ha _ (by rcases slot_is n with ⟨e,_⟩ | ⟨e,_⟩ <;> rw [e] <;> simp <;> omega) (fun hm=>by
  have:=secs_mem (behind_mem hm)
  rcases slot_is n with ⟨e,_⟩ | ⟨e,_⟩ <;> rw [e] at this <;> simp at this)
 have hof : ∀ p,(p ∈ secs x.chk ∨ p ∈ secs x.log) → ¬ p ∈ behind x l → sec S' p.toNat = sec S p.toNat:=fun p hp hn=>by
  have:=hr p (List.mem_append.2 hp)
  exact ha _ (by omega) (by rw [show ((p.toNat : Nat) : Int) = p by omega];exact hn)
 obtain ⟨e1,e2,_⟩:=h.split
 refine ⟨h.fit,by rw [hl];exact h.named,by rw [hsl];exact h.cur,by rw [hsl];exact h.oth,?_,hf,?_⟩
 ·have:=h.bas
  cases B with
  | none=>exact this
  | some b =>
   obtain ⟨a1,a2,a3,a4⟩:=this
   exact ⟨a1,a2,a3,by rw [at_congr (S:=S) (S':=S') fun p hp=>hof p (.inl hp) fun hm=>chk_apart h.fit p hp (behind_mem hm)];exact a4⟩
 ·obtain ⟨rest,r1,r2⟩:=hlog
  refine ⟨rest,?_,r2⟩
  rw [← r1,← e2]
  have hsame : at_ S' ((secs x.log).take (atn x l)) = at_ S ((secs x.log).take (atn x l)):=at_congr fun p hp=>hof p (.inr (List.mem_of_mem_take hp)) fun hm=>by
   have hn:=log_nodup h.fit
   rw [← List.take_append_drop (atn x l) (secs x.log),List.nodup_append] at hn
   exact hn.2.2 p hp p hm rfl
  rw [← hsame,← at_app]
  unfold behind
  rw [List.take_append_drop]
theorem Good.blanked {S S' : List ByteArray} {x : Sup} {B : Option (List UInt8)} {l : List (List UInt8)} (h : Good S x B l) (hl : S'.length = S.length)
  (ha : ∀ k,k < S.length → if (k : Int) ∈ behind x l then ZP (sec S k) (sec S' k) else sec S' k = sec S k) : Good S' x B l:=by
 have hr:=secs_range h.named
 rw [secs_app] at hr
 refine h.turned hl (fun k hk hn=>by have:=ha k hk;rw [if_neg hn] at this;exact this) l h.fits ⟨_,rfl,rest_zp h.split.2.2 (by rw [at_length,at_length]) fun i t t' h1 h2=>?_⟩
 obtain ⟨p,e1,rfl⟩:=at_get h1
 obtain ⟨q,e2,rfl⟩:=at_get h2
 rw [e1] at e2
 cases e2
 have hm : p ∈ behind x l:=List.mem_of_getElem? e1
 have:=hr p (List.mem_append_right _ (behind_mem hm))
 have g:=ha p.toNat (by omega)
 rw [show ((p.toNat : Nat) : Int) = p by omega,if_pos hm] at g
 exact g
end WalP
end Go.Proofs.YtnnakhdndmjmiaaGreat
/-
 The steps of a log on a disk (no program): opened,a batch appended with and without segments more,a base laid: done,or stopped with the log as it was or as it would be.
-/
set_option linter.unusedVariables false
namespace Go.Proofs.YtnnakhdndmjmiaaGreat
namespace WalP
open DiskP (St Ok Wr)
open SegsP (er cnt secs secs_mem fre mem_fre er_sure)
open SuperP (Sup sect sect_length Segs segs_len)
open StampP (sl)
structure Live (st : St) (x : Sup) (B : Option (List UInt8)) (l : List (List UInt8)) : Prop where
 idle : Idle st
 sz : ∀ s ∈ st.S,s.size = 128
 good : Good st.S x B l
 blk : ∀ p ∈ behind x l,sec st.S p.toNat = DiskP.blank
def Halt (r : Int × St) (n : Nat) (Q : List ByteArray → Prop) : Prop:=r.1 = 13 ∧ r.2.dead = true ∧ Img r.2 fun S=>S.length = n ∧ Q S
theorem Halt.mono {r : Int × St} {n : Nat} {Q Q' : List ByteArray → Prop} (h : Halt r n Q) (hq : ∀ S,Q S → Q' S) : Halt r n Q':=⟨h.1,h.2.1,fun ks t=>⟨(h.2.2 ks t).1,hq _ (h.2.2 ks t).2⟩⟩
theorem sizes_of {S S' : List ByteArray} (hl : S'.length = S.length) (h : ∀ k,k < S.length → (sec S' k).size = 128) : ∀ s ∈ S',s.size = 128:=by
 intro s hs
 obtain ⟨k,hk,rfl⟩:=List.getElem_of_mem hs
 have:=h k (by omega)
 unfold sec at this
 rwa [List.getD_eq_getElem?_getD,List.getElem?_eq_getElem hk] at this
theorem size_sec {S : List ByteArray} (h : ∀ s ∈ S,s.size = 128) {k : Nat} (hk : k < S.length) : (sec S k).size = 128:=h _ (DiskP.getD_mem hk)
theorem behind_range {S : List ByteArray} {x : Sup} {B : Option (List UInt8)} {l : List (List UInt8)} (h : Good S x B l) : ∀ p ∈ behind x l,0 ≤ p ∧ p < (S.length : Int):=fun p hp=>by
 have:=secs_range h.named p (by rw [secs_app];exact List.mem_append_right _ (behind_mem hp))
 omega
theorem open_phase {st : St} {x : Sup} {B : Option (List UInt8)} {l : List (List UInt8)} (hi : Idle st) (hz : ∀ s ∈ st.S,s.size = 128) (h : Good st.S x B l) :
  ((er st false (behind x l)).1 = 0 ∧ Live (er st false (behind x l)).2 x B l ∧ (er st false (behind x l)).2.S.length = st.S.length) ∨ Halt (er st false (behind x l)) st.S.length fun S=>Good S x B l:=by
 have hr:=behind_range h
 rcases er_phase hi hr with ⟨a1,a2,a3,a4⟩ | ⟨a1,a2⟩
 ·refine .inl ⟨a1,⟨a2,sizes_of a3 fun k hk=>?_,h.blanked a3 fun k hk=>?_,fun p hp=>?_⟩,a3⟩
  ·rw [a4 k hk]
   split
   ·exact blank_size
   ·exact size_sec hz hk
  ·rw [a4 k hk]
   split
   ·exact zp_blank (size_sec hz hk)
   ·rfl
  ·have:=hr p hp
   rw [a4 p.toNat (by omega),if_pos (by rw [show ((p.toNat : Nat) : Int) = p by omega];exact hp)]
 ·refine .inr ⟨a1,a2.1,fun ks t=>?_⟩
  obtain ⟨b1,b2⟩:=img_er hz hr a2 ks t
  exact ⟨b1,h.blanked b1 b2⟩
theorem open_live {st : St} {x : Sup} {B : Option (List UInt8)} {l : List (List UInt8)} (h : Live st x B l) : er st false (behind x l) = (0,st) :=
 er_none h.idle fun p hp=>⟨(behind_range h.good p hp).1,(behind_range h.good p hp).2,h.blk p hp⟩
theorem behind_snoc (x : Sup) (l : List (List UInt8)) (s : List UInt8) : behind x (l ++ [s]) = (behind x l).drop (pc s.length):=by
 unfold behind
 rw [List.drop_drop]
 congr 1
 unfold atn
 rw [laid_snoc,List.length_append,seald_length]
theorem good_grown {S S' : List ByteArray} {x : Sup} {B : Option (List UInt8)} {l : List (List UInt8)} {s : List UInt8} (h : Good S x B l) (hl : S'.length = S.length)
  (hs : Fits (x.base.toNat + 1 + l.length) s) (ha : ∀ k,k < S.length → ¬ (k : Int) ∈ behind x l → sec S' k = sec S k)
  (hp : seald (x.base.toNat + 1 + l.length) s <+: at_ S' (behind x l)) (hb : ∀ (i : Nat) (t : ByteArray),pc s.length ≤ i → (at_ S' (behind x l))[i]? = some t → t = DiskP.blank) :
  Good S' x B (l ++ [s]) ∧ ∀ p ∈ behind x (l ++ [s]),sec S' p.toNat = DiskP.blank:=by
 have htail : ∀ t ∈ (at_ S' (behind x l)).drop (pc s.length),t = DiskP.blank:=by
  intro t ht
  obtain ⟨i,hi⟩:=List.getElem?_of_mem ht
  rw [List.getElem?_drop] at hi
  exact hb _ t (by omega) hi
 obtain ⟨tail,ht⟩:=hp
 have hd : (at_ S' (behind x l)).drop (pc s.length) = tail:=by
  rw [← ht,List.drop_append_of_le_length (by rw [seald_length];exact Nat.le_refl _),List.drop_of_length_le (by rw [seald_length];exact Nat.le_refl _),List.nil_append]
 rw [hd] at htail
 refine ⟨h.turned hl ha (l ++ [s]) (fitsAll_snoc l _ s h.fits hs) ⟨tail,?_,.inl htail⟩,fun p hp=>?_⟩
 ·rw [laid_snoc,← ht,List.append_assoc]
 ·rw [behind_snoc] at hp
  obtain ⟨i,hi⟩:=List.getElem?_of_mem hp
  refine htail _ ?_
  rw [← hd,at_drop]
  exact List.mem_map.2 ⟨p,hp,rfl⟩
theorem wrs_zip {P : List Int} {Q : List ByteArray} {x : Wr} : x ∈ wrs (P.zip Q) ↔ ∃ (i : Nat) (p : Int) (t : ByteArray),P[i]? = some p ∧ Q[i]? = some t ∧ x = (p.toNat,t):=by
 unfold wrs
 rw [List.mem_map]
 constructor
 ·rintro ⟨⟨p,t⟩,hm,rfl⟩
  obtain ⟨i,hi⟩:=List.getElem?_of_mem hm
  rw [List.getElem?_zip_eq_some] at hi
  exact ⟨i,p,t,hi.1,hi.2,rfl⟩
 ·rintro ⟨i,p,t,h1,h2,rfl⟩
  exact ⟨(p,t),List.mem_of_getElem? (i:=i) (List.getElem?_zip_eq_some.2 ⟨h1,h2⟩),rfl⟩
theorem nodup_get {α} {P : List α} (h : P.Nodup) {i j : Nat} {p : α} (h1 : P[i]? = some p) (h2 : P[j]? = some p) : i = j:=by
 obtain ⟨hi,e1⟩:=List.getElem?_eq_some_iff.1 h1
 obtain ⟨hj,e2⟩:=List.getElem?_eq_some_iff.1 h2
 exact (List.getElem_inj h).1 (e1.trans e2.symm)
theorem once_zip {P : List Int} {Q : List ByteArray} (hn : P.Nodup) (h0 : ∀ p ∈ P,0 ≤ p) : Once (wrs (P.zip Q)):=by
 intro a ha b hb e
 obtain ⟨i,p,t,h1,h2,rfl⟩:=wrs_zip.1 ha
 obtain ⟨j,q,u,h3,h4,rfl⟩:=wrs_zip.1 hb
 simp only at e
 have g1:=h0 p (List.mem_of_getElem? h1)
 have g2:=h0 q (List.mem_of_getElem? h3)
 obtain rfl : p = q:=by omega
 obtain rfl:=nodup_get hn h1 h3
 rw [h2] at h4
 exact Option.some.inj h4
theorem room_phase {st : St} {x : Sup} {B : Option (List UInt8)} {l : List (List UInt8)} {s : List UInt8} (h : Live st x B l) (hs : Fits (x.base.toNat + 1 + l.length) s) (hroom : pc s.length ≤ (behind x l).length) :
  (∃ st',puts st ((behind x l).zip (seald (x.base.toNat + 1 + l.length) s)) = (0,st') ∧ Live st' x B (l ++ [s]) ∧ st'.S.length = st.S.length) ∨
  Halt (puts st ((behind x l).zip (seald (x.base.toNat + 1 + l.length) s))) st.S.length fun S=>Good S x B l ∨ Good S x B (l ++ [s]):=by
 have hr:=behind_range h.good
 have hn : (behind x l).Nodup:=List.Nodup.sublist (List.drop_sublist _ _) (log_nodup h.good.fit)
 have hsz : ∀ t ∈ seald (x.base.toNat + 1 + l.length) s,t.size = 128:=seald_size
 have hlen:=seald_length (x.base.toNat + 1 + l.length) s
 have h1:=once_zip (Q:=seald (x.base.toNat + 1 + l.length) s) hn fun p hp=>(hr p hp).1
 have hget : ∀ i,i < pc s.length → ∃ p,(behind x l)[i]? = some p ∧ p ∈ behind x l:=fun i hi=>⟨_,List.getElem?_eq_getElem (by omega),List.getElem_mem _⟩
 have hin : ∀ y ∈ wrs ((behind x l).zip (seald (x.base.toNat + 1 + l.length) s)),y.1 < st.S.length ∧ y.2.size = 128 ∧ (y.1 : Int) ∈ behind x l:=by
  intro y hy
  obtain ⟨i,p,t,e1,e2,rfl⟩:=wrs_zip.1 hy
  have hp:=List.mem_of_getElem? e1
  have:=hr p hp
  exact ⟨by show p.toNat < _;omega,hsz t (List.mem_of_getElem? e2),by show ((p.toNat : Nat) : Int) ∈ _;rw [show ((p.toNat : Nat) : Int) = p by omega];exact hp⟩
 have hout : ∀ k : Nat,¬ (k : Int) ∈ behind x l → ∀ y ∈ wrs ((behind x l).zip (seald (x.base.toNat + 1 + l.length) s)),y.1 ≠ k:=fun k hk y hy e=>hk (by rw [← e];exact (hin y hy).2.2)
 have hblank : ∀ y ∈ wrs ((behind x l).zip (seald (x.base.toNat + 1 + l.length) s)),sec st.S y.1 = DiskP.blank:=by
  intro y hy
  have:=h.blk _ (hin y hy).2.2
  rwa [Int.toNat_natCast] at this
 have hr2 : ∀ y ∈ (behind x l).zip (seald (x.base.toNat + 1 + l.length) s),0 ≤ y.1 ∧ y.1 < (st.S.length : Int) ∧ y.2.size = 128:=by
  intro y hy
  have:=List.of_mem_zip (a:=y.1) (b:=y.2) hy
  exact ⟨(hr _ this.1).1,(hr _ this.1).2,hsz _ this.2⟩
 -- behind the batch nothing was written
 have hfar : ∀ (i : Nat) (p : Int),pc s.length ≤ i → (behind x l)[i]? = some p → ∀ y ∈ wrs ((behind x l).zip (seald (x.base.toNat + 1 + l.length) s)),y.1 ≠ p.toNat:=by
  intro i p hi hp y hy e
  obtain ⟨j,q,t,e1,e2,rfl⟩:=wrs_zip.1 hy
  simp only at e
  have g1:=(hr p (List.mem_of_getElem? hp)).1
  have g2:=(hr q (List.mem_of_getElem? e1)).1
  obtain rfl : q = p:=by omega
  obtain rfl:=nodup_get hn e1 hp
  have:=(List.getElem?_eq_some_iff.1 e2).1
  omega
 rcases puts_phase h.idle hr2 h1 with ⟨st',b1,b2,b3,b4,b5⟩ | ⟨b1,b2⟩
 ·obtain ⟨g1,g2⟩:=good_grown h.good b3 hs (fun k hk hm=>b5 k hk (hout k hm)) (pre_of fun i t ht=>by
   have hi : i < pc s.length:=by rw [← hlen];exact (List.getElem?_eq_some_iff.1 ht).1
   obtain ⟨p,e1,hp⟩:=hget i hi
   unfold at_
   rw [List.getElem?_map,e1]
   show some (sec st'.S p.toNat) = some t
   rw [b4 (p.toNat,t) (wrs_zip.2 ⟨i,p,t,e1,ht,rfl⟩)]) (fun i t hi ht=>by
   obtain ⟨p,e1,rfl⟩:=at_get ht
   have hp:=List.mem_of_getElem? e1
   have:=hr p hp
   rw [b5 p.toNat (by omega) (hfar i p hi e1)]
   exact h.blk p hp)
  refine .inl ⟨st',b1,⟨b2,sizes_of b3 fun k hk=>?_,g1,g2⟩,b3⟩
  by_cases hm : ∃ y ∈ wrs ((behind x l).zip (seald (x.base.toNat + 1 + l.length) s)),y.1 = k
  ·obtain ⟨y,hy,rfl⟩:=hm
   rw [b4 y hy]
   exact (hin y hy).2.1
  ·rw [b5 k hk fun y hy e=>hm ⟨y,hy,e⟩]
   exact size_sec h.sz hk
 ·refine .inr ⟨b1,b2.1,fun ks t=>?_⟩
  obtain ⟨c1,c2,c3⟩:=img_puts (fun y hy=>⟨(hin y hy).1,(hin y hy).2.1⟩) hblank h1 b2 ks t
  refine ⟨c1,?_⟩
  generalize DiskP.crS (puts st ((behind x l).zip (seald (x.base.toNat + 1 + l.length) s))).2.S t (DiskP.kept (puts st ((behind x l).zip (seald (x.base.toNat + 1 + l.length) s))).2.W ks) = S' at *
  have hsame : ∀ k,k < st.S.length → ¬ (k : Int) ∈ behind x l → sec S' k = sec st.S k:=fun k hk hm=>c3 k hk (hout k hm)
  have hbl : ∀ (i : Nat) (t : ByteArray),pc s.length ≤ i → (at_ S' (behind x l))[i]? = some t → t = DiskP.blank:=fun i t hi ht=>by
   obtain ⟨p,e1,rfl⟩:=at_get ht
   have hp:=List.mem_of_getElem? e1
   have:=hr p hp
   rw [c3 p.toNat (by omega) (hfar i p hi e1)]
   exact h.blk p hp
  by_cases hw : seald (x.base.toNat + 1 + l.length) s <+: at_ S' (behind x l)
  ·exact .inr (good_grown h.good c1 hs hsame hw hbl).1
  ·refine .inl (h.good.turned c1 hsame l h.good.fits ⟨_,rfl,.inr ⟨s,hs,fun i t ht=>?_,hw⟩⟩)
   by_cases hi : i < pc s.length
   ·obtain ⟨p,e1,rfl⟩:=at_get ht
    refine .inl ⟨hi,?_⟩
    have hg:=seald_get (num:=x.base.toNat + 1 + l.length) (s:=s) hi
    exact pp_tb (hsz _ (List.mem_of_getElem? hg)) (c2 _ (wrs_zip.2 ⟨i,p,_,e1,hg,rfl⟩))
   ·exact .inr ⟨by omega,hbl i t (by omega) ht⟩
end WalP
end Go.Proofs.YtnnakhdndmjmiaaGreat
/-
 A log's superblock laid anew (no program): with segments more,with a base;done,or stopped with the log as it was or as it would be.
-/
set_option linter.unusedVariables false
namespace Go.Proofs.YtnnakhdndmjmiaaGreat
namespace WalP
open DiskP (St Ok Wr)
open SegsP (er cnt cnt_le cnt_fit secs secs_mem fre mem_fre fre_len fre_yes fre_no)
open SuperP (Sup sect sect_length Segs segs_len)
open StampP (sl)
theorem fre_nodup (n : Nat) (u : List Int) : (fre n u).Nodup:=by
 induction n with
 | zero=>exact List.nodup_nil
 | succ n ih =>
  by_cases h : (n : Int) ∈ u
  ·rw [fre_no h];exact ih
  ·rw [fre_yes h,List.nodup_append]
   refine ⟨ih,by simp,fun a ha b hb e=>?_⟩
   rw [List.mem_singleton.1 hb] at e
   have:=(mem_fre.1 ha).1
   omega
structure Spare (n : Nat) (x : Sup) (more : List Int) : Prop where
 nodup : more.Nodup
 range : ∀ k ∈ more,0 ≤ k ∧ k < (cnt n : Int)
 free : ∀ k ∈ more,¬ k ∈ x.chk ++ x.log
theorem spare_take (n : Nat) (x : Sup) (m : Nat) : Spare n x ((fre (cnt n) (x.chk ++ x.log)).take m) :=
 ⟨List.Nodup.sublist (List.take_sublist _ _) (fre_nodup _ _),fun k hk=>(mem_fre.1 (List.mem_of_mem_take hk)).1,fun k hk=>(mem_fre.1 (List.mem_of_mem_take hk)).2⟩
def grow (x : Sup) (more : List Int) : Sup:={ x with gen:=x.gen + 1,log:=x.log ++ more }
theorem segs_of {l : List Int} {n : Nat} (h : ∀ k ∈ l,0 ≤ k ∧ k < (cnt n : Int)) (hn : l.Nodup) : Segs l:=⟨fun k hk=>by have:=h k hk;have:=cnt_le (n : Int);omega,hn⟩
theorem grow_fit {n : Nat} {x : Sup} {more : List Int} (h : SuperP.Fit x) (hg : x.gen < 1099511627776) (hm : Spare n x more) : SuperP.Fit (grow x more):=by
 have hs:=fit_segs h
 have h63:=cnt_le (n : Int)
 have hs2 : Segs (x.chk ++ (x.log ++ more)):=by
  rw [← List.append_assoc]
  refine ⟨fun k hk=>?_,List.nodup_append.2 ⟨hs.2,hm.nodup,fun a ha b hb e=>hm.free b hb (e ▸ ha)⟩⟩
  rcases List.mem_append.1 hk with g | g
  ·exact hs.1 k g
  ·have:=hm.range k g;omega
 have hl : (x.log ++ more).length ≤ 63:=segs_len ⟨fun k hk=>hs2.1 k (List.mem_append_right _ hk),(List.nodup_append.1 hs2.2).2.1⟩
 obtain ⟨a,b,⟨c1,c2,c3,c4,c5,c6,c7,c8⟩,d⟩:=h
 unfold SuperP.most at *
 refine ⟨a,hl,⟨?_,?_,c3,c4,c5,?_,?_,hs2⟩,d⟩
 ·show 1 ≤ x.gen + 1;omega
 ·show x.gen + 1 ≤ _;unfold SuperP.most;omega
 ·show x.cg ≤ x.gen + 1;omega
 ·show 0 < (x.log ++ more).length;rw [List.length_append];omega
theorem lay_good {st : St} {x y : Sup} {B B' : Option (List UInt8)} {l l' : List (List UInt8)} (hi : Idle st) (hz : ∀ s ∈ st.S,s.size = 128) (hx : Good st.S x B l) (hy : SuperP.Fit y) (hg : y.gen = x.gen + 1)
  (hnew : ∀ S',S'.length = st.S.length → sec S' (slot y.gen).toNat = bs (sect y) → (∀ k,k < st.S.length → k ≠ (slot y.gen).toNat → sec S' k = sec st.S k) → Good S' y B' l') :
  (∃ st',lay st y = (0,st') ∧ Idle st' ∧ st'.S.length = st.S.length ∧ (∀ s ∈ st'.S,s.size = 128) ∧ Good st'.S y B' l' ∧ ∀ k,k < st.S.length → k ≠ (slot y.gen).toNat → sec st'.S k = sec st.S k) ∨
  Halt (lay st y) st.S.length fun S=>Good S x B l ∨ Good S y B' l':=by
 have hsz : (bs (sect y)).size = 128:=by rw [← tl_length,tl_bs];exact sect_length hy
 rcases lay_phase hi hz hy hx.two with ⟨st',b1,b2,b3,b4,b5⟩ | ⟨b1,b2,b3⟩
 ·refine .inl ⟨st',b1,b2,b3,sizes_of b3 fun k hk=>?_,hnew _ b3 b4 b5,b5⟩
  by_cases e : k = (slot y.gen).toNat
  ·rw [e,b4];exact hsz
  ·rw [b5 k hk e];exact size_sec hz hk
 ·refine .inr ⟨b1,b2,fun ks t=>?_⟩
  obtain ⟨c1,c2,c3⟩:=b3 ks t
  refine ⟨c1,?_⟩
  rcases c2 with c2 | c2
  ·left
   refine hx.slot c1 ?_ (by rw [← hg];exact c3)
   rw [hg] at c2
   exact oth_zp hx.oth c2
  ·by_cases e : sec (DiskP.crS (lay st y).2.S t (DiskP.kept (lay st y).2.W ks)) (slot y.gen).toNat = bs (sect y)
   ·exact .inr (hnew _ c1 e c3)
   ·left
    refine hx.slot c1 ?_ (by rw [← hg];exact c3)
    rw [← hg]
    exact ⟨y,hy,pp_tb hsz c2,.inr e⟩
theorem oth_elder {x y : Sup} (hx : SuperP.Fit x) (hg : x.gen < y.gen) : Oth y (bs (sect x)):=by
 have hsz : (bs (sect x)).size = 128:=by rw [← tl_length,tl_bs];exact sect_length hx
 exact ⟨x,hx,tb_self hsz,.inl hg⟩
theorem slot_back {x y : Sup} (h : y.gen = x.gen + 1) : slot (y.gen + 1) = slot x.gen ∧ (slot x.gen).toNat ≠ (slot y.gen).toNat ∧ (slot x.gen).toNat < 2:=by
 rw [h]
 unfold slot
 split <;> split <;> split <;> first | omega | (refine ⟨rfl,?_,?_⟩ <;> decide)
theorem grow_good {S S' : List ByteArray} {x : Sup} {B : Option (List UInt8)} {l : List (List UInt8)} {more : List Int} (h : Good S x B l) (hb : ∀ p ∈ behind x l,sec S p.toNat = DiskP.blank)
  (hy : SuperP.Fit (grow x more)) (hm : Spare S.length x more) (hmb : ∀ p ∈ secs more,sec S p.toNat = DiskP.blank) (hl : S'.length = S.length) (hc : sec S' (slot (x.gen + 1)).toNat = bs (sect (grow x more)))
  (ha : ∀ k,k < S.length → k ≠ (slot (x.gen + 1)).toNat → sec S' k = sec S k) :
  Good S' (grow x more) B l ∧ ∀ p ∈ behind (grow x more) l,sec S' p.toNat = DiskP.blank:=by
 obtain ⟨e1,e2,e3⟩:=slot_back (x:=x) (y:=grow x more) rfl
 have h2:=h.two
 have hr:=secs_range h.named
 have hrm:=secs_range (fun k hk=>(hm.range k hk).2 : ∀ k ∈ more,k < (cnt S.length : Int))
 rw [secs_app] at hr
 have hof : ∀ p,p ∈ secs x.chk ++ secs x.log → sec S' p.toNat = sec S p.toNat:=fun p hp=>ha _ (by have:=hr p hp;omega) (secs_not_slot (l:=x.chk ++ x.log) (by rw [secs_app];exact hp) _)
 have hom : ∀ p,p ∈ secs more → sec S' p.toNat = sec S p.toNat:=fun p hp=>ha _ (by have:=hrm p hp;omega) (secs_not_slot hp _)
 obtain ⟨f1,f2,f3⟩:=h.split
 have hbl : behind (grow x more) l = behind x l ++ secs more:=by
  unfold behind
  show (secs (x.log ++ more)).drop (atn x l) = _
  rw [secs_app,List.drop_append_of_le_length f1]
 have hall : ∀ p ∈ behind (grow x more) l,sec S' p.toNat = DiskP.blank:=by
  intro p hp
  rw [hbl] at hp
  rcases List.mem_append.1 hp with g | g
  ·rw [hof p (List.mem_append_right _ (behind_mem g))];exact hb p g
  ·rw [hom p g];exact hmb p g
 refine ⟨⟨hy,?_,hc,?_,?_,h.fits,⟨at_ S' (behind (grow x more) l),?_,.inl ?_⟩⟩,hall⟩
 ·intro k hk
  rw [hl]
  have hk : k ∈ x.chk ++ (x.log ++ more):=hk
  rw [← List.append_assoc] at hk
  rcases List.mem_append.1 hk with g | g
  ·exact h.named k g
  ·exact (hm.range k g).2
 ·show Oth _ (sec S' (slot ((grow x more).gen + 1)).toNat)
  rw [e1,ha _ (by omega) e2,h.cur]
  exact oth_elder h.fit (by show x.gen < x.gen + 1;omega)
 ·have:=h.bas
  cases B with
  | none=>exact this
  | some b =>
   obtain ⟨a1,a2,a3,a4⟩:=this
   refine ⟨a1,a2,a3,?_⟩
   show seald x.cg.toNat b <+: at_ S' (secs x.chk)
   rw [at_congr (S:=S) (S':=S') fun p hp=>hof p (List.mem_append_left _ hp)]
   exact a4
 ·show at_ S' (secs (x.log ++ more)) = laid (x.base.toNat + 1) l ++ _
  rw [← f2,← at_congr (S:=S) (S':=S') (ps:=(secs x.log).take (atn x l)) fun p hp=>hof p (List.mem_append_right _ (List.mem_of_mem_take hp)),← at_app]
  congr 1
  rw [hbl,secs_app]
  unfold behind
  rw [← List.append_assoc,List.take_append_drop]
 ·intro t ht
  obtain ⟨p,hp,rfl⟩:=List.mem_map.1 ht
  exact hall p hp
theorem spare_phase {st : St} {x : Sup} {B : Option (List UInt8)} {l : List (List UInt8)} {more : List Int} (h : Live st x B l) (hm : Spare st.S.length x more) :
  ((er st false (secs more)).1 = 0 ∧ Live (er st false (secs more)).2 x B l ∧ (er st false (secs more)).2.S.length = st.S.length ∧ ∀ p ∈ secs more,sec (er st false (secs more)).2.S p.toNat = DiskP.blank) ∨
  Halt (er st false (secs more)) st.S.length fun S=>Good S x B l:=by
 have hrm:=secs_range (fun k hk=>(hm.range k hk).2 : ∀ k ∈ more,k < (cnt st.S.length : Int))
 have hr : ∀ p ∈ secs more,0 ≤ p ∧ p < (st.S.length : Int):=fun p hp=>⟨(hrm p hp).1,(hrm p hp).2.1⟩
 have hap : ∀ p ∈ secs (x.chk ++ x.log),¬ p ∈ secs more:=fun p hp hq=>secs_apart (a:=more) (b:=x.chk ++ x.log) (fun k hk=>hm.free k hk) p hq hp
 have hrg:=secs_range h.good.named
 have hin : ∀ p ∈ secs (x.chk ++ x.log),p.toNat < st.S.length ∧ ¬ ((p.toNat : Nat) : Int) ∈ secs more:=fun p hp=>by
  have:=hrg p hp
  exact ⟨by omega,by rw [show ((p.toNat : Nat) : Int) = p by omega];exact hap p hp⟩
 have hs01 : ∀ k : Nat,k < 2 → ¬ (k : Int) ∈ secs more:=fun k hk hm=>by have:=secs_mem hm;omega
 have h2:=h.good.two
 rcases er_phase h.idle hr with ⟨a1,a2,a3,a4⟩ | ⟨a1,a2⟩
 ·have hag : Good (er st false (secs more)).2.S x B l:=h.good.agree a3 (by rw [a4 0 (by omega),if_neg (hs01 0 (by decide))]) (by rw [a4 1 (by omega),if_neg (hs01 1 (by decide))])
   fun p hp=>by rw [a4 _ (hin p hp).1,if_neg (hin p hp).2]
  refine .inl ⟨a1,⟨a2,sizes_of a3 fun k hk=>?_,hag,fun p hp=>?_⟩,a3,fun p hp=>?_⟩
  ·rw [a4 k hk]
   split
   ·exact blank_size
   ·exact size_sec h.sz hk
  ·have hq : p ∈ secs (x.chk ++ x.log):=by rw [secs_app];exact List.mem_append_right _ (behind_mem hp)
   rw [a4 _ (hin p hq).1,if_neg (hin p hq).2]
   exact h.blk p hp
  ·have:=hr p hp
   rw [a4 p.toNat (by omega),if_pos (by rw [show ((p.toNat : Nat) : Int) = p by omega];exact hp)]
 ·refine .inr ⟨a1,a2.1,fun ks t=>?_⟩
  obtain ⟨b1,b2⟩:=img_er h.sz hr a2 ks t
  have b3 : ∀ k,k < st.S.length → ¬ (k : Int) ∈ secs more → sec (DiskP.crS (er st false (secs more)).2.S t (DiskP.kept (er st false (secs more)).2.W ks)) k = sec st.S k:=fun k hk hn=>by
   have:=b2 k hk
   rw [if_neg hn] at this
   exact this
  exact ⟨b1,h.good.agree b1 (b3 0 (by omega) (hs01 0 (by decide))) (b3 1 (by omega) (hs01 1 (by decide))) fun p hp=>b3 _ (hin p hp).1 (hin p hp).2⟩
noncomputable def growAppend (st : St) (x : Sup) (l : List (List UInt8)) (more : List Int) (s : List UInt8) : Int × St :=
 if (er st false (secs more)).1 ≠ 0 then er st false (secs more)
 else if (lay (er st false (secs more)).2 (grow x more)).1 ≠ 0 then lay (er st false (secs more)).2 (grow x more)
 else puts (lay (er st false (secs more)).2 (grow x more)).2 ((behind (grow x more) l).zip (seald (x.base.toNat + 1 + l.length) s))
end WalP
end Go.Proofs.YtnnakhdndmjmiaaGreat
/-
 A base laid (no program): done,or stopped with the log as it was or as it would be.
-/
set_option linter.unusedVariables false
namespace Go.Proofs.YtnnakhdndmjmiaaGreat
namespace WalP
open DiskP (St Ok Wr)
open SegsP (er cnt cnt_le cnt_fit secs secs_mem fre mem_fre)
open SuperP (Sup sect sect_length Segs segs_len)
open StampP (sl)
def based (x : Sup) (num : Int) (len : Nat) (ch : List Int) (lg : Int) : Sup:=⟨x.gen + 1,num,len,x.gen + 1,ch,[lg]⟩
theorem fitsAll_num : ∀ (l : List (List UInt8)) (num : Nat),FitsAll num l → num ≤ 1099511627777 → num + l.length ≤ 1099511627777
 | [],num,_,h=>by simpa using h
 | s :: l,num,h,_=>by
  have:=h.1.2.1
  have:=fitsAll_num l (num + 1) h.2 (by omega)
  rw [List.length_cons];omega
theorem Good.num {S : List ByteArray} {x : Sup} {B : Option (List UInt8)} {l : List (List UInt8)} (h : Good S x B l) : x.base.toNat + l.length ≤ 1099511627776:=by
 have:=fit_nums h.fit
 have:=fitsAll_num l _ h.fits (by omega)
 omega
theorem based_fit {n : Nat} {x : Sup} {num : Int} {b : List UInt8} {ch : List Int} {lg : Int} (h : SuperP.Fit x) (hg : x.gen < 1099511627776) (hm : Spare n x (ch ++ [lg])) (hn : 0 ≤ num ∧ num ≤ 1099511627776)
  (hb : pc b.length ≤ 8 * ch.length) : SuperP.Fit (based x num b.length ch lg):=by
 have hs : Segs (ch ++ [lg]):=segs_of hm.range hm.nodup
 have hl : ch.length ≤ 63:=segs_len ⟨fun k hk=>hs.1 k (List.mem_append_left _ hk),(List.nodup_append.1 hs.2).1⟩
 have hx:=fit_nums h
 have hp:=pc_pos b.length
 have hbl : (b.length : Int) ≤ ch.length * 832:=by unfold pc at hb;omega
 refine ⟨hl,by show ([lg] : List Int).length ≤ 63;simp,⟨?_,?_,hn.1,?_,?_,?_,?_,hs⟩,?_⟩
 ·show 1 ≤ x.gen + 1;omega
 ·show x.gen + 1 ≤ SuperP.most;unfold SuperP.most;omega
 ·show num ≤ SuperP.most;unfold SuperP.most;omega
 ·show 0 ≤ x.gen + 1;omega
 ·show x.gen + 1 ≤ x.gen + 1;omega
 ·show 0 < ([lg] : List Int).length;simp
 ·show if ch.length = 0 then _ else _
  rw [if_neg (by omega)]
  exact ⟨by show 0 < x.gen + 1;omega,by show (0 : Int) ≤ (b.length : Int);omega,hbl⟩
theorem based_good {S S' : List ByteArray} {x : Sup} {B : Option (List UInt8)} {l : List (List UInt8)} {num : Int} {b : List UInt8} {ch : List Int} {lg : Int} (h : Good S x B l)
  (hy : SuperP.Fit (based x num b.length ch lg)) (hf : Fits (x.gen + 1).toNat b) (hc0 : ch ≠ []) (hm : Spare S.length x (ch ++ [lg])) (hp : seald (x.gen + 1).toNat b <+: at_ S (secs ch)) (hb : ∀ p ∈ secs [lg],sec S p.toNat = DiskP.blank)
  (hl : S'.length = S.length) (hc : sec S' (slot (x.gen + 1)).toNat = bs (sect (based x num b.length ch lg))) (ha : ∀ k,k < S.length → k ≠ (slot (x.gen + 1)).toNat → sec S' k = sec S k) :
  Good S' (based x num b.length ch lg) (some b) [] ∧ ∀ p ∈ behind (based x num b.length ch lg) [],sec S' p.toNat = DiskP.blank:=by
 obtain ⟨e1,e2,e3⟩:=slot_back (x:=x) (y:=based x num b.length ch lg) rfl
 have h2:=h.two
 have hrm:=secs_range (fun k hk=>(hm.range k hk).2 : ∀ k ∈ ch ++ [lg],k < (cnt S.length : Int))
 have hof : ∀ p,p ∈ secs (ch ++ [lg]) → sec S' p.toNat = sec S p.toNat:=fun p hp=>ha _ (by have:=hrm p hp;omega) (secs_not_slot hp _)
 rw [secs_app] at hof
 have hbe : behind (based x num b.length ch lg) [] = secs [lg]:=rfl
 have hall : ∀ p ∈ behind (based x num b.length ch lg) [],sec S' p.toNat = DiskP.blank:=by
  intro p hp
  rw [hbe] at hp
  rw [hof p (List.mem_append_right _ hp)]
  exact hb p hp
 refine ⟨⟨hy,?_,hc,?_,⟨hc0,rfl,hf,?_⟩,trivial,⟨at_ S' (secs [lg]),rfl,.inl ?_⟩⟩,hall⟩
 ·intro k hk
  rw [hl]
  exact (hm.range k hk).2
 ·show Oth _ (sec S' (slot ((based x num b.length ch lg).gen + 1)).toNat)
  rw [e1,ha _ (by omega) e2,h.cur]
  exact oth_elder h.fit (by show x.gen < x.gen + 1;omega)
 ·show seald (x.gen + 1).toNat b <+: at_ S' (secs ch)
  rw [at_congr (S:=S) (S':=S') fun p hp=>hof p (List.mem_append_left _ hp)]
  exact hp
 ·intro t ht
  obtain ⟨p,hp,rfl⟩:=List.mem_map.1 ht
  exact hall p hp
noncomputable def baseLay (st : St) (x : Sup) (num : Int) (b : List UInt8) (ch : List Int) (lg : Int) : Int × St :=
 if (er st false (secs (ch ++ [lg]))).1 ≠ 0 then er st false (secs (ch ++ [lg]))
 else if (puts (er st false (secs (ch ++ [lg]))).2 ((secs ch).zip (seald (x.gen + 1).toNat b))).1 ≠ 0 then puts (er st false (secs (ch ++ [lg]))).2 ((secs ch).zip (seald (x.gen + 1).toNat b))
 else lay (puts (er st false (secs (ch ++ [lg]))).2 ((secs ch).zip (seald (x.gen + 1).toNat b))).2 (based x num b.length ch lg)
theorem base_phase {st : St} {x : Sup} {B : Option (List UInt8)} {l : List (List UInt8)} {num : Int} {b : List UInt8} {ch : List Int} {lg : Int} (h : Live st x B l) (hg : x.gen < 1099511627776) (hm : Spare st.S.length x (ch ++ [lg]))
  (hn : 0 ≤ num ∧ num ≤ 1099511627776) (hb : pc b.length ≤ 8 * ch.length) :
  (∃ st',baseLay st x num b ch lg = (0,st') ∧ Live st' (based x num b.length ch lg) (some b) [] ∧ st'.S.length = st.S.length) ∨
  Halt (baseLay st x num b ch lg) st.S.length fun S=>Good S x B l ∨ Good S (based x num b.length ch lg) (some b) []:=by
 have hx:=fit_nums h.good.fit
 have hp1:=pc_pos b.length
 have hy:=based_fit h.good.fit hg hm hn hb
 have hc0 : ch ≠ []:=by rintro rfl;simp at hb;omega
 have hs : Segs (ch ++ [lg]):=segs_of hm.range hm.nodup
 have hl63 : ch.length ≤ 63:=segs_len ⟨fun k hk=>hs.1 k (List.mem_append_left _ hk),(List.nodup_append.1 hs.2).1⟩
 have hf : Fits (x.gen + 1).toNat b:=⟨by omega,by omega,by omega⟩
 have hcl : (secs ch).length = 8 * ch.length:=secs_length fun k hk=>hs.1 k (List.mem_append_left _ hk)
 have hcn : (secs ch).Nodup:=secs_nodup (List.nodup_append.1 hs.2).1
 have hap : ∀ p ∈ secs ch,¬ p ∈ secs [lg]:=secs_apart fun k hk hj=>(List.nodup_append.1 hs.2).2.2 k hk k hj rfl
 have hrm:=secs_range (fun k hk=>(hm.range k hk).2 : ∀ k ∈ ch ++ [lg],k < (cnt st.S.length : Int))
 rw [secs_app] at hrm
 have hapx : ∀ p ∈ secs (x.chk ++ x.log),¬ p ∈ secs ch:=fun p hp hq=>secs_apart (a:=ch) (b:=x.chk ++ x.log) (fun k hk=>hm.free k (List.mem_append_left _ hk)) p hq hp
 unfold baseLay
 rcases spare_phase h hm with ⟨a1,a2,a3,a4⟩ | hh
 rotate_left
 ·rw [if_pos (by rw [hh.1];decide)]
  exact .inr (hh.mono fun S hS=>.inl hS)
 rw [if_neg (by rw [a1];decide)]
 generalize (er st false (secs (ch ++ [lg]))).2 = s1 at *
 rw [secs_app] at a4
 have hsz : ∀ t ∈ seald (x.gen + 1).toNat b,t.size = 128:=seald_size
 have hlen:=seald_length (x.gen + 1).toNat b
 have hin : ∀ y ∈ wrs ((secs ch).zip (seald (x.gen + 1).toNat b)),y.1 < s1.S.length ∧ y.2.size = 128 ∧ (y.1 : Int) ∈ secs ch:=by
  intro y hy
  obtain ⟨i,p,t,e1,e2,rfl⟩:=wrs_zip.1 hy
  have hp:=List.mem_of_getElem? e1
  have:=hrm p (List.mem_append_left _ hp)
  exact ⟨by show p.toNat < _;omega,hsz t (List.mem_of_getElem? e2),by show ((p.toNat : Nat) : Int) ∈ _;rw [show ((p.toNat : Nat) : Int) = p by omega];exact hp⟩
 have hout : ∀ k : Nat,¬ (k : Int) ∈ secs ch → ∀ y ∈ wrs ((secs ch).zip (seald (x.gen + 1).toNat b)),y.1 ≠ k:=fun k hk y hy e=>hk (by rw [← e];exact (hin y hy).2.2)
 have h1:=once_zip (Q:=seald (x.gen + 1).toNat b) hcn fun p hp=>(hrm p (List.mem_append_left _ hp)).1
 have hr2 : ∀ y ∈ (secs ch).zip (seald (x.gen + 1).toNat b),0 ≤ y.1 ∧ y.1 < (s1.S.length : Int) ∧ y.2.size = 128:=by
  intro y hy
  have:=List.of_mem_zip (a:=y.1) (b:=y.2) hy
  have g:=hrm _ (List.mem_append_left _ this.1)
  exact ⟨g.1,by omega,hsz _ this.2⟩
 have hrx:=secs_range a2.good.named
 have hnx : ∀ p ∈ secs (x.chk ++ x.log),p.toNat < s1.S.length ∧ ¬ ((p.toNat : Nat) : Int) ∈ secs ch:=fun p hp=>by
  have:=hrx p hp
  exact ⟨by omega,by rw [show ((p.toNat : Nat) : Int) = p by omega];exact hapx p hp⟩
 have h01 : ∀ k : Nat,k < 2 → ¬ (k : Int) ∈ secs ch:=fun k hk hm=>by have:=secs_mem hm;omega
 have h2:=a2.good.two
 have hblank : ∀ y ∈ wrs ((secs ch).zip (seald (x.gen + 1).toNat b)),sec s1.S y.1 = DiskP.blank:=by
  intro y hy
  have:=a4 _ (List.mem_append_left _ (hin y hy).2.2)
  rwa [Int.toNat_natCast] at this
 rcases puts_phase a2.idle hr2 h1 with ⟨s2,b1,b2,b3,b4,b5⟩ | ⟨b1,b2⟩
 rotate_left
 ·rw [if_pos (by rw [b1];decide)]
  refine .inr ⟨b1,b2.1,fun ks t=>?_⟩
  obtain ⟨c1,c2,c3⟩:=img_puts (fun y hy=>⟨(hin y hy).1,(hin y hy).2.1⟩) hblank h1 b2 ks t
  exact ⟨by omega,.inl (a2.good.agree c1 (c3 0 (by omega) (hout 0 (h01 0 (by decide)))) (c3 1 (by omega) (hout 1 (h01 1 (by decide)))) fun p hp=>c3 _ (hnx p hp).1 (hout _ (hnx p hp).2))⟩
 rw [b1,if_neg (by show ¬ (0 : Int) ≠ 0;decide)]
 have hx2 : Good s2.S x B l:=a2.good.agree b3 (b5 0 (by omega) (hout 0 (h01 0 (by decide)))) (b5 1 (by omega) (hout 1 (h01 1 (by decide)))) fun p hp=>b5 _ (hnx p hp).1 (hout _ (hnx p hp).2)
 have hz2 : ∀ s ∈ s2.S,s.size = 128:=sizes_of b3 fun k hk=>by
  by_cases hm : ∃ y ∈ wrs ((secs ch).zip (seald (x.gen + 1).toNat b)),y.1 = k
  ·obtain ⟨y,hy,rfl⟩:=hm
   rw [b4 y hy]
   exact (hin y hy).2.1
  ·rw [b5 k hk fun y hy e=>hm ⟨y,hy,e⟩]
   exact size_sec a2.sz hk
 have hpre : seald (x.gen + 1).toNat b <+: at_ s2.S (secs ch):=pre_of fun i t ht=>by
  have hi : i < pc b.length:=by rw [← hlen];exact (List.getElem?_eq_some_iff.1 ht).1
  have e1 : (secs ch)[i]? = some ((secs ch)[i]'(by omega)):=List.getElem?_eq_getElem (by omega)
  unfold at_
  rw [List.getElem?_map,e1]
  show some (sec s2.S ((secs ch)[i]'(by omega)).toNat) = some t
  rw [b4 (((secs ch)[i]'(by omega)).toNat,t) (wrs_zip.2 ⟨i,_,t,e1,ht,rfl⟩)]
 have hlg : ∀ p ∈ secs [lg],sec s2.S p.toNat = DiskP.blank:=fun p hp=>by
  have:=hrm p (List.mem_append_right _ hp)
  rw [b5 p.toNat (by omega) (hout _ (by rw [show ((p.toNat : Nat) : Int) = p by omega];exact fun hq=>hap p hq hp))]
  exact a4 p (List.mem_append_right _ hp)
 have hm2 : Spare s2.S.length x (ch ++ [lg]):=by rw [b3,a3];exact hm
 rcases lay_good (B':=some b) (l':=[]) b2 hz2 hx2 hy rfl (fun S' g1 g2 g3=>(based_good hx2 hy hf hc0 hm2 hpre hlg g1 g2 g3).1) with ⟨s3,c1,c2,c3,c4,c5,c6⟩ | hh
 ·exact .inl ⟨s3,c1,⟨c2,c4,c5,(based_good hx2 hy hf hc0 hm2 hpre hlg c3 c5.cur c6).2⟩,by omega⟩
 ·rw [b3,a3] at hh
  exact .inr hh
end WalP
end Go.Proofs.YtnnakhdndmjmiaaGreat
/-
 A log's calls as the document has them (no program): Open,Append,Check on a disk,whatever stands there;what they do to a log at rest.
-/
set_option linter.unusedVariables false
namespace Go.Proofs.YtnnakhdndmjmiaaGreat
namespace WalP
open DiskP (St Ok Wr)
open SegsP (er cnt cnt_le cnt_fit secs secs_mem fre mem_fre fre_len need)
open SuperP (Sup sect best dec)
open FrameP (frs sz Rec tk)
structure Lg where
 x : Sup
 pos : Nat
 num : Int
 dead : Bool
structure Kept where
 base : Option (List UInt8)
 bats : List (List (List UInt8))
def free (lg : Lg) (n : Nat) : List Int:=fre (cnt n) (lg.x.chk ++ lg.x.log)
noncomputable def addS (lg : Lg) (st : St) (s : List UInt8) : Int × Lg × St :=
 let k:=pc s.length
 let m:=need ((lg.pos : Int) + k - (secs lg.x.log).length)
 let f:=free lg st.S.length
 if lg.num = 1099511627776 ∨ (0 < m ∧ lg.x.gen = 1099511627776) then (5,lg,st)
 else if (f.length : Int) < m then (4,lg,st)
 else if m ≤ 0 then
  let r:=puts st (((secs lg.x.log).drop lg.pos).zip (seald (lg.num + 1).toNat s))
  if r.1 = 0 then (0,{ lg with num:=lg.num + 1,pos:=lg.pos + k },r.2) else (r.1,{ lg with dead:=true },r.2)
 else
  let more:=f.take m.toNat
  let y:=grow lg.x more
  let e:=er st false (secs more)
  if e.1 ≠ 0 then (e.1,{ lg with dead:=true },e.2)
  else
   let q:=lay e.2 y
   if q.1 ≠ 0 then (q.1,{ lg with dead:=true },q.2)
   else
    let r:=puts q.2 (((secs y.log).drop lg.pos).zip (seald (lg.num + 1).toNat s))
    if r.1 = 0 then (0,{ x:=y,num:=lg.num + 1,pos:=lg.pos + k,dead:=false },r.2) else (r.1,{ lg with x:=y,dead:=true },r.2)
noncomputable def add (lg : Lg) (st : St) (recs : List (List UInt8)) : Int × Lg × St :=
 open Classical in
 if lg.dead = true ∨ st.dead = true then (13,lg,st)
 else if recs = [] then (1,lg,st)
 else if ¬ ∀ r ∈ recs,Rec r then (1,lg,st)
 else if 16384 < sz recs then (9,lg,st)
 else addS lg st (frs recs)
noncomputable def chk (lg : Lg) (st : St) (b : List UInt8) : Int × Lg × St :=
 let m:=(need (pc b.length)).toNat
 let f:=free lg st.S.length
 if lg.dead = true ∨ st.dead = true then (13,lg,st)
 else if 52416 < b.length then (9,lg,st)
 else if lg.x.gen = 1099511627776 then (5,lg,st)
 else if f.length < m + 1 then (4,lg,st)
 else
  let r:=baseLay st lg.x lg.num b (f.take m) (f.getD m 0)
  if r.1 = 0 then (0,{ lg with x:=based lg.x lg.num b.length (f.take m) (f.getD m 0),pos:=0 },r.2) else (r.1,{ lg with dead:=true },r.2)
def octs (L : List (List (List UInt8))) : List (List UInt8):=L.map frs
def Takes (recs : List (List UInt8)) : Prop:=recs ≠ [] ∧ (∀ r ∈ recs,Rec r) ∧ sz recs ≤ 16384
theorem takes_fits {recs : List (List UInt8)} (h : Takes recs) {num : Nat} (h1 : 1 ≤ num) (h2 : num ≤ 1099511627776) : Fits num (frs recs):=by
 refine ⟨h1,h2,?_⟩
 rw [FrameP.frs_length]
 have:=h.2.2
 unfold pc;omega
structure Rests (lg : Lg) (st : St) (K : Kept) : Prop where
 live : Live st lg.x K.base (octs K.bats)
 pos : lg.pos = atn lg.x (octs K.bats)
 num : lg.num = lg.x.base + K.bats.length
 alive : lg.dead = false
 takes : ∀ b ∈ K.bats,Takes b
theorem octs_snoc (L : List (List (List UInt8))) (b : List (List UInt8)) : octs (L ++ [b]) = octs L ++ [frs b]:=by simp [octs]
theorem octs_length (L : List (List (List UInt8))) : (octs L).length = L.length:=by simp [octs]
theorem rests_behind {lg : Lg} {st : St} {K : Kept} (h : Rests lg st K) : (secs lg.x.log).drop lg.pos = behind lg.x (octs K.bats):=by rw [h.pos];rfl
theorem rests_num {lg : Lg} {st : St} {K : Kept} (h : Rests lg st K) : 0 ≤ lg.num ∧ (lg.num + 1).toNat = lg.x.base.toNat + 1 + (octs K.bats).length:=by
 have:=fit_nums h.live.good.fit
 have e:=h.num
 rw [octs_length]
 omega
theorem need_pos {m : Int} : 0 < need m ↔ 0 < m:=by unfold need;split <;> omega
theorem need_room {m : Int} : m ≤ 8 * need m:=by unfold need;split <;> omega
theorem need_le {m : Int} (h : 0 ≤ m) : 8 * need m ≤ m + 7:=by unfold need;split <;> omega
theorem need_zero {m : Int} (h : need m ≤ 0) : m ≤ 0:=by unfold need at h;split at h <;> omega
end WalP
end Go.Proofs.YtnnakhdndmjmiaaGreat
/-
 Check and Open of a log (no program): what they do to a log at rest,and to a disk that keeps something;without a fuse nothing stops.
-/
set_option linter.unusedVariables false
namespace Go.Proofs.YtnnakhdndmjmiaaGreat
namespace WalP
open DiskP (St Ok Wr)
open SegsP (er cnt cnt_le cnt_fit secs secs_mem fre mem_fre fre_len need Unfused)
open SuperP (Sup best dec sect)
open FrameP (frs sz Rec tk)
theorem take_one (f : List Int) (m : Nat) (h : m < f.length) : f.take m ++ [f.getD m 0] = f.take (m + 1):=by
 rw [List.take_succ_eq_append_getElem h];simp [List.getD,h]
def sup0 : Sup:=⟨1,0,0,0,[],[0]⟩
def seen (st : St) (ps : List Int) : List ByteArray:=ps.map fun p=>(DiskP.rd st p).1
noncomputable def baseOf (st : St) (x : Sup) : Option (Option (List UInt8)) :=
 if x.chk = [] then some none
 else match first x.cg.toNat (seen st (secs x.chk)) with
  | none=>none
  | some s=>if (s.length : Int) = x.size then some (some s) else none
noncomputable def runOf (st : St) (x : Sup) : List (List UInt8) × Nat:=runs (secs x.log).length (x.base.toNat + 1) (seen st (secs x.log))
noncomputable def openX (st : St) (x : Sup) : Int × Option (Lg × Kept) × St :=
 open Classical in
 if ¬ ∀ k ∈ x.chk ++ x.log,k < (cnt st.S.length : Int) then (12,none,st)
 else match baseOf st x with
  | none=>(12,none,st)
  | some B =>
   if ¬ ∀ s ∈ (runOf st x).1,(tk s).2 = 0 ∧ (tk s).1 ≠ [] then (12,none,st)
   else
    let e:=er st false ((secs x.log).drop (runOf st x).2)
    if e.1 ≠ 0 then (e.1,none,e.2)
    else (0,some (⟨x,(runOf st x).2,x.base + (runOf st x).1.length,false⟩,⟨B,(runOf st x).1.map fun s=>(tk s).1⟩),e.2)
noncomputable def open0 (st : St) : Int × Option (Lg × Kept) × St :=
 let e:=er st false (secs [0])
 if e.1 ≠ 0 then (e.1,none,e.2)
 else
  let q:=lay e.2 sup0
  if q.1 ≠ 0 then (q.1,none,q.2) else (0,some (⟨sup0,0,0,false⟩,⟨none,[]⟩),q.2)
noncomputable def opens (st : St) : Int × Option (Lg × Kept) × St :=
 if st.dead = true then (13,none,st)
 else if cnt st.S.length = 0 then (11,none,st)
 else match best (tl (DiskP.rd st 0).1) (tl (DiskP.rd st 1).1) with
  | none=>open0 st
  | some (x,_)=>openX st x
theorem rd_idle {st : St} (hi : Idle st) {p : Int} (h : 0 ≤ p ∧ p < (st.S.length : Int)) : DiskP.rd st p = (sec st.S p.toNat,0):=by
 have:=SegsP.rd_is (i:=p.toNat) hi.2 (by omega)
 rw [show ((p.toNat : Nat) : Int) = p by omega,hi.1] at this
 exact this
theorem seen_idle {st : St} (hi : Idle st) {ps : List Int} (h : ∀ p ∈ ps,0 ≤ p ∧ p < (st.S.length : Int)) : seen st ps = at_ st.S ps:=List.map_congr_left fun p hp=>by rw [rd_idle hi (h p hp)]
theorem dec_bs {x : Sup} (h : SuperP.Fit x) : dec (tl (bs (sect x))) = some x:=SuperP.dec_sect h
theorem oth_dec {x : Sup} {v : ByteArray} (h : Oth x v) : dec (tl v) = none ∨ ∃ z,dec (tl v) = some z ∧ z.gen < x.gen:=by
 obtain ⟨z,h1,h2,h3⟩:=h
 rcases SuperP.dec_torn h1 h2 with g | ⟨g1,g2⟩
 ·exact .inl g
 ·refine .inr ⟨z,g2,h3.resolve_right fun hne=>hne (tl_inj g1)⟩
theorem good_best {st : St} {x : Sup} {B : Option (List UInt8)} {l : List (List UInt8)} (hi : Idle st) (h : Good st.S x B l) : ∃ b,best (tl (DiskP.rd st 0).1) (tl (DiskP.rd st 1).1) = some (x,b):=by
 have h2:=h.two
 rw [rd_idle hi ⟨by omega,by omega⟩,rd_idle hi ⟨by omega,by omega⟩]
 show ∃ b,best (tl (sec st.S 0)) (tl (sec st.S 1)) = some (x,b)
 have hc:=h.cur
 have ho:=h.oth
 rcases slot_is x.gen with ⟨e1,e2⟩ | ⟨e1,e2⟩ <;> rw [e1] at hc <;> rw [e2] at ho
 ·have hc : sec st.S 0 = _:=hc
  have ho : Oth x (sec st.S 1):=ho
  rw [hc]
  rcases oth_dec ho with g | ⟨z,g,hz⟩
  ·exact ⟨_,SuperP.best_left (dec_bs h.fit) g⟩
  ·rw [SuperP.best_both (dec_bs h.fit) g,if_neg (by omega)];exact ⟨_,rfl⟩
 ·have hc : sec st.S 1 = _:=hc
  have ho : Oth x (sec st.S 0):=ho
  rw [hc]
  rcases oth_dec ho with g | ⟨z,g,hz⟩
  ·exact ⟨_,SuperP.best_right g (dec_bs h.fit)⟩
  ·rw [SuperP.best_both g (dec_bs h.fit),if_pos hz];exact ⟨_,rfl⟩
theorem laid_long : ∀ (l : List (List UInt8)) (num : Nat),l.length ≤ (laid num l).length
 | [],_=>Nat.le_refl _
 | s :: l,num=>by
  have:=laid_long l (num + 1)
  have hp:=pc_pos s.length
  show l.length + 1 ≤ (seald num s ++ laid (num + 1) l).length
  rw [List.length_append,seald_length];omega
/-! Without a fuse nothing stops. -/
theorem unf_er : ∀ (l : List Int) (st : St) (f : Bool),Unfused st → Unfused (er st f l).2
 | [],st,f,h=>by
  cases f with
  | false=>exact h
  | true=>exact SegsP.calm_fl h
 | k :: l,st,f,h=>by
  by_cases h1 : (DiskP.rd st k).2 = 0
  ·by_cases h2 : (DiskP.rd st k).1 = DiskP.blank
   ·rw [SegsP.er_skip h1 h2];exact unf_er l st f h
   ·by_cases h3 : (DiskP.wr st k DiskP.blank).1 = 0
    ·rw [SegsP.er_step h1 h2 h3];exact unf_er l _ true (SegsP.calm_wr h _ _)
    ·rw [SegsP.er_stop h1 h2 h3];exact SegsP.calm_wr h _ _
  ·rw [SegsP.er_bad h1];exact h
theorem unf_puts : ∀ (l : List (Int × ByteArray)) (st : St),Unfused st → Unfused (puts st l).2
 | [],st,h=>SegsP.calm_fl h
 | x :: l,st,h=>by
  unfold puts
  split
  ·exact SegsP.calm_wr h _ _
  ·exact unf_puts l _ (SegsP.calm_wr h _ _)
theorem unf_lay {st : St} (h : Unfused st) (x : Sup) : Unfused (lay st x).2:=by
 unfold lay
 split
 ·exact unf_er _ _ _ h
 ·exact unf_puts _ _ (unf_er _ _ _ h)
theorem unf_add {lg : Lg} {st : St} (h : Unfused st) (recs : List (List UInt8)) : Unfused (add lg st recs).2.2:=by
 unfold add
 split
 ·exact h
 split
 ·exact h
 split
 ·exact h
 split
 ·exact h
 unfold addS
 simp only
 split
 ·exact h
 split
 ·exact h
 split
 ·split
  ·exact unf_puts _ _ h
  ·exact unf_puts _ _ h
 ·split
  ·exact unf_er _ _ _ h
  ·split
   ·exact unf_lay (unf_er _ _ _ h) _
   ·split
    ·exact unf_puts _ _ (unf_lay (unf_er _ _ _ h) _)
    ·exact unf_puts _ _ (unf_lay (unf_er _ _ _ h) _)
theorem unf_chk {lg : Lg} {st : St} (h : Unfused st) (b : List UInt8) : Unfused (chk lg st b).2.2:=by
 unfold chk
 simp only
 split
 ·exact h
 split
 ·exact h
 split
 ·exact h
 split
 ·exact h
 have hb : ∀ num ch lg2,Unfused (baseLay st lg.x num b ch lg2).2:=by
  intro num ch lg2
  unfold baseLay
  split
  ·exact unf_er _ _ _ h
  ·split
   ·exact unf_puts _ _ (unf_er _ _ _ h)
   ·exact unf_lay (unf_puts _ _ (unf_er _ _ _ h)) _
 split
 ·exact hb _ _ _
 ·exact hb _ _ _
theorem opens_blank {n : Nat} (hn : 10 ≤ n) (hm : n ≤ 512) : ∃ lg st',opens (DiskP.fresh (List.replicate n DiskP.blank)) = (0,some (lg,⟨none,[]⟩),st') ∧ Rests lg st' ⟨none,[]⟩ ∧ st'.S.length = n ∧ Unfused st' ∧ lg.num = 0 ∧ lg.x.gen = 1:=by
 have hi : Idle (DiskP.fresh (List.replicate n DiskP.blank)):=⟨rfl,rfl⟩
 have hu : Unfused (DiskP.fresh (List.replicate n DiskP.blank)):=⟨rfl,rfl⟩
 have hl : (DiskP.fresh (List.replicate n DiskP.blank)).S.length = n:=by simp [DiskP.fresh]
 have hb : ∀ k,k < n → sec (DiskP.fresh (List.replicate n DiskP.blank)).S k = DiskP.blank:=fun k hk=>by simp [sec,DiskP.fresh,List.getD,hk]
 generalize DiskP.fresh (List.replicate n DiskP.blank) = st at *
 have hz : ∀ s ∈ st.S,s.size = 128:=sizes_of rfl fun k hk=>by rw [hb k (by omega)];exact blank_size
 have hc : cnt (n : Int) ≠ 0:=by
  unfold SegsP.cnt
  rw [if_neg (by omega),if_neg (by omega)];omega
 have hbest : best (tl (DiskP.rd st 0).1) (tl (DiskP.rd st 1).1) = none:=by
  rw [rd_idle hi ⟨by omega,by omega⟩,rd_idle hi ⟨by omega,by omega⟩]
  have e : dec (tl DiskP.blank) = none:=SuperP.dec_none opn_blank
  exact SuperP.best_none (by show dec (tl (sec st.S 0)) = none;rw [hb 0 (by omega)];exact e) (by show dec (tl (sec st.S 1)) = none;rw [hb 1 (by omega)];exact e)
 have h0r : ∀ p ∈ secs [0],0 ≤ p ∧ p < (n : Int) ∧ 2 ≤ p:=secs_range (n:=n) (by intro k hk;rw [List.mem_singleton.1 hk];omega)
 have her : er st false (secs [0]) = (0,st):=er_none hi fun p hp=>by
  have:=h0r p hp
  exact ⟨by omega,by omega,hb _ (by omega)⟩
 have hfit : SuperP.Fit sup0:=by decide
 have hopen : opens st = open0 st:=by
  unfold opens
  rw [if_neg (by rw [hi.2];simp),hl,if_neg hc,hbest]
 rw [hopen]
 unfold open0
 simp only [her]
 rw [if_neg (by decide)]
 rcases lay_phase hi hz hfit (by omega) with ⟨st',a1,a2,a3,a4,a5⟩ | ⟨_,a2,_⟩
 ·rw [a1,if_neg (by show ¬ (0 : Int) ≠ 0;decide)]
  have hu2:=unf_lay hu sup0
  rw [a1] at hu2
  have hs : (slot sup0.gen).toNat = 1:=rfl
  rw [hs] at a4 a5
  have hsz : (bs (sect sup0)).size = 128:=by rw [← tl_length,tl_bs];exact SuperP.sect_length hfit
  have hblk : ∀ p ∈ secs [0],sec st'.S p.toNat = DiskP.blank:=fun p hp=>by
   have:=h0r p hp
   rw [a5 _ (by omega) (by omega)];exact hb _ (by omega)
  have hgood : Good st'.S sup0 none (octs []):=by
   refine ⟨hfit,?_,?_,?_,rfl,trivial,⟨at_ st'.S (secs [0]),rfl,.inl ?_⟩⟩
   ·intro k hk
    have hk : k ∈ ([] : List Int) ++ [0]:=hk
    rw [List.mem_singleton.1 hk,a3,hl];omega
   ·rw [hs];exact a4
   ·show Oth sup0 (sec st'.S (slot 2).toNat)
    have : sec st'.S (slot 2).toNat = DiskP.blank:=(a5 0 (by omega) (by decide)).trans (hb 0 (by omega))
    rw [this]
    refine ⟨sup0,hfit,tb_blank hsz,.inr fun e=>?_⟩
    have e1:=dec_bs hfit
    rw [← e,SuperP.dec_none opn_blank] at e1
    cases e1
   ·intro t ht
    obtain ⟨p,hp,rfl⟩:=List.mem_map.1 ht
    exact hblk p hp
  refine ⟨_,_,rfl,⟨⟨a2,sizes_of a3 fun k hk=>?_,hgood,hblk⟩,rfl,rfl,rfl,fun b hb=>(by cases hb)⟩,by show st'.S.length = n;omega,hu2,rfl,rfl⟩
  by_cases e : k = 1
  ·rw [e,a4];exact hsz
  ·rw [a5 k hk e];exact size_sec hz hk
 ·have hu2:=unf_lay hu sup0
  rw [hu2.2] at a2
  cases a2
end WalP
end Go.Proofs.YtnnakhdndmjmiaaGreat
/-
 A log's batches,one by one (no program).
-/
set_option linter.unusedVariables false
namespace Go.Proofs.YtnnakhdndmjmiaaGreat
namespace WalP
open SegsP (secs)
open SuperP (Sup)
theorem laid_app : ∀ (a b : List (List UInt8)) (num : Nat),laid num (a ++ b) = laid num a ++ laid (num + a.length) b
 | [],b,num=>rfl
 | s :: a,b,num=>by
  show seald num s ++ laid (num + 1) (a ++ b) = seald num s ++ laid (num + 1) a ++ _
  rw [laid_app a b (num + 1),List.length_cons,List.append_assoc,show num + 1 + a.length = num + (a.length + 1) by omega]
theorem fitsAll_get : ∀ (l : List (List UInt8)) (num : Nat),FitsAll num l → ∀ i (h : i < l.length),Fits (num + i) l[i]
 | [],num,_,i,h=>absurd h (Nat.not_lt_zero _)
 | s :: l,num,hf,0,h=>hf.1
 | s :: l,num,hf,i + 1,h=>by
  have:=fitsAll_get l (num + 1) hf.2 i (by simpa using h)
  rw [show num + (i + 1) = num + 1 + i by omega];exact this
def upto (x : Sup) (l : List (List UInt8)) (i : Nat) : Nat:=(laid (x.base.toNat + 1) (l.take i)).length
theorem upto_zero (x : Sup) (l : List (List UInt8)) : upto x l 0 = 0:=rfl
theorem upto_all (x : Sup) (l : List (List UInt8)) : upto x l l.length = atn x l:=by unfold upto atn;rw [List.take_length]
theorem upto_succ (x : Sup) (l : List (List UInt8)) {i : Nat} (h : i < l.length) : upto x l (i + 1) = upto x l i + pc (l.getD i []).length:=by
 unfold upto
 rw [List.take_succ_eq_append_getElem h,laid_app,List.length_append]
 have e : l.getD i [] = l[i]:=by simp [List.getD,h]
 rw [e]
 show _ + (seald _ l[i] ++ []).length = _
 rw [List.append_nil,seald_length]
theorem upto_le {S : List ByteArray} {x : Sup} {B : Option (List UInt8)} {l : List (List UInt8)} (h : Good S x B l) (i : Nat) : upto x l i ≤ (secs x.log).length:=by
 have h1:=h.split.1
 refine Nat.le_trans ?_ h1
 unfold upto atn
 conv=>rhs;rw [← List.take_append_drop i l]
 rw [laid_app,List.length_append];omega
theorem run_at {S : List ByteArray} {x : Sup} {B : Option (List UInt8)} {l : List (List UInt8)} (h : Good S x B l) (i : Nat) (hi : i ≤ l.length) :
  ∃ rest,(at_ S (secs x.log)).drop (upto x l i) = laid (x.base.toNat + 1 + i) (l.drop i) ++ rest ∧ Rest (x.base.toNat + 1 + l.length) rest:=by
 obtain ⟨rest,h1,h2⟩:=h.log
 refine ⟨rest,?_,h2⟩
 rw [h1]
 have e : laid (x.base.toNat + 1) l = laid (x.base.toNat + 1) (l.take i) ++ laid (x.base.toNat + 1 + i) (l.drop i):=by
  conv=>lhs;rw [← List.take_append_drop i l]
  rw [laid_app,List.length_take,Nat.min_eq_left hi]
 rw [e,List.append_assoc]
 unfold upto
 rw [List.drop_left]
theorem run_step {S : List ByteArray} {x : Sup} {B : Option (List UInt8)} {l : List (List UInt8)} (h : Good S x B l) {i : Nat} (hi : i < l.length) :
  first (x.base.toNat + 1 + i) ((at_ S (secs x.log)).drop (upto x l i)) = some (l.getD i []):=by
 obtain ⟨rest,h1,_⟩:=run_at h i (Nat.le_of_lt hi)
 have e : l.getD i [] = l[i]:=by simp [List.getD,hi]
 rw [h1,e,List.drop_eq_getElem_cons hi]
 refine first_some (fitsAll_get l _ h.fits i hi) ?_
 show _ <+: seald _ l[i] ++ laid _ _ ++ rest
 rw [List.append_assoc]
 exact List.prefix_append _ _
theorem run_stop {S : List ByteArray} {x : Sup} {B : Option (List UInt8)} {l : List (List UInt8)} (h : Good S x B l) :
  first (x.base.toNat + 1 + l.length) ((at_ S (secs x.log)).drop (upto x l l.length)) = none:=by
 obtain ⟨rest,h1,h2⟩:=run_at h l.length (Nat.le_refl _)
 rw [h1,List.drop_length]
 exact first_none fun u hu hp=>rest_none h2 hu hp
end WalP
end Go.Proofs.YtnnakhdndmjmiaaGreat
/-
 What the program's reader of superblocks does,in plain words,and that it decides as the document's decoding does;no program.
-/
set_option linter.unusedVariables false
set_option maxRecDepth 4000
namespace Go.Proofs.YtnnakhdndmjmiaaGreat.SuperP
open WireP (enc encs text rdInt rdText done St ok num nl nb ok_iff lenOk)
open StampP (sl opn Torn)
theorem ok_split {l : List UInt8} (h : ok l = true) : l = enc (num l) ++ l.drop (1 + nl l):=by
 have ⟨h0,h1,h2,h3⟩:=ok_iff.1 h
 have hnl : nl (l.take (1 + nl l)) = nl l:=by
  cases l with
  | nil=>exact absurd rfl h0
  | cons c r=>rw [Nat.add_comm,List.take_succ_cons];rfl
 have hnb : nb (l.take (1 + nl l)) = nb l:=by
  unfold nb
  rw [hnl,List.drop_take,Nat.add_sub_cancel_left,List.take_take,Nat.min_self]
 have hlen : (l.take (1 + nl l)).length = 1 + nl l:=by rw [List.length_take];omega
 have hok : ok (l.take (1 + nl l)) = true:=ok_iff.2 ⟨by intro e;rw [e] at hlen;simp at hlen;omega,by rw [hnl];exact h1,by rw [hnl,hlen];omega,by rw [hnb];exact h3⟩
 have he:=WireP.enc_num hok (by rw [hnl];exact List.drop_of_length_le (by rw [hlen];exact Nat.le_refl _))
 have hnum : num (l.take (1 + nl l)) = num l:=by unfold num;rw [hnb]
 rw [hnum] at he
 rw [he,List.take_append_drop]
theorem rdInt_some {lo hi : Int} {st : St} {r : List UInt8} (h : (rdInt lo hi st).2 = some r) : ∃ l,st = some l ∧ l = enc (rdInt lo hi st).1 ++ r ∧ lo ≤ (rdInt lo hi st).1 ∧ (rdInt lo hi st).1 ≤ hi:=by
 cases st with
 | none=>cases h
 | some l =>
  by_cases hc : ok l = true ∧ lo ≤ num l ∧ num l ≤ hi
  ·have e : rdInt lo hi (some l) = (num l,some (l.drop (1 + nl l))):=by show ite _ _ _ = _;rw [if_pos hc]
   rw [e] at h ⊢
   simp only [Option.some.injEq] at h
   subst h
   exact ⟨l,rfl,ok_split hc.1,hc.2.1,hc.2.2⟩
  ·have e : rdInt lo hi (some l) = (0,none):=by show ite _ _ _ = _;rw [if_neg hc]
   rw [e] at h
   cases h
theorem rdText_some {m : Int} {st : St} {r : List UInt8} (h : (rdText m st).2 = some r) : ∃ l,st = some l ∧ l = text (rdText m st).1 ++ r:=by
 cases st with
 | none=>cases h
 | some l =>
  by_cases hc : lenOk m l
  ·have e : rdText m (some l) = ((l.drop (1 + nl l)).take (num l).toNat,some (l.drop (1 + nl l + (num l).toNat))):=by show ite _ _ _ = _;rw [if_pos hc]
   rw [e] at h ⊢
   simp only [Option.some.injEq] at h
   subst h
   obtain ⟨c1,c2,c3,c4⟩:=hc
   refine ⟨l,rfl,?_⟩
   show l = text ((l.drop (1 + nl l)).take (num l).toNat) ++ _
   unfold text
   have hlen : (((l.drop (1 + nl l)).take (num l).toNat).length : Int) = num l:=by rw [List.length_take,List.length_drop];omega
   have hdd : l.drop (1 + nl l + (num l).toNat) = (l.drop (1 + nl l)).drop (num l).toNat:=by rw [List.drop_drop]
   rw [hlen,List.append_assoc,hdd,List.take_append_drop]
   exact ok_split c1
  ·have e : rdText m (some l) = ([],none):=by show ite _ _ _ = _;rw [if_neg hc]
   rw [e] at h
   cases h
theorem rdText_len (st : St) : (rdText 63 st).1.length ≤ 63:=by
 cases st with
 | none=>exact Nat.zero_le _
 | some l =>
  by_cases hc : lenOk 63 l
  ·have e : rdText 63 (some l) = ((l.drop (1 + nl l)).take (num l).toNat,some (l.drop (1 + nl l + (num l).toNat))):=by show ite _ _ _ = _;rw [if_pos hc]
   rw [e]
   show ((l.drop (1 + nl l)).take (num l).toNat).length ≤ 63
   have:=hc.2.2.1
   rw [List.length_take]
   omega
  ·have e : rdText 63 (some l) = ([],none):=by show ite _ _ _ = _;rw [if_neg hc]
   rw [e]
   exact Nat.zero_le _
theorem octs_nums (l : List UInt8) : octs (nums l) = l:=by
 induction l with
 | nil=>rfl
 | cons c r ih =>
  show UInt8.ofNat ((c.toNat : Int)).toNat :: octs (nums r) = _
  rw [ih,Int.toNat_natCast,UInt8.ofNat_toNat]
def rdX (lo : Int) (l : List UInt8) : Sup × Bool :=
 let g:=rdInt lo most (some l)
 let b:=rdInt 0 most g.2
 let z:=rdInt 0 most b.2
 let c:=rdInt 0 most z.2
 let k:=rdText 63 c.2
 let o:=rdText 63 k.2
 (⟨g.1,b.1,z.1,c.1,nums k.1,nums o.1⟩,done o.2)
theorem rdX_zero (l : List UInt8) : rdX 0 l = rd l:=rfl
theorem rdX_out {lo : Int} {l : List UInt8} (h : (rdX lo l).2 = true) : l = data (rdX lo l).1 ∧ lo ≤ (rdX lo l).1.gen ∧ (rdX lo l).1.gen ≤ most:=by
 have ho : (rdText 63 (rdText 63 (rdInt 0 most (rdInt 0 most (rdInt 0 most (rdInt lo most (some l)).2).2).2).2).2).2 = some []:=of_decide_eq_true h
 obtain ⟨l6,e6,f6⟩:=rdText_some ho
 obtain ⟨l5,e5,f5⟩:=rdText_some e6
 obtain ⟨l4,e4,f4,_⟩:=rdInt_some e5
 obtain ⟨l3,e3,f3,_⟩:=rdInt_some e4
 obtain ⟨l2,e2,f2,_⟩:=rdInt_some e3
 obtain ⟨l1,e1,f1,g1,g2⟩:=rdInt_some e2
 refine ⟨?_,g1,g2⟩
 cases e1
 show l = encs [_,_,_,_] ++ (text (octs (nums _)) ++ text (octs (nums _)))
 rw [octs_nums,octs_nums]
 rw [List.append_nil] at f6
 rw [f2,f3,f4,f5,f6] at f1
 simp only [encs,List.flatMap_cons,List.flatMap_nil,List.append_nil,List.append_assoc]
 exact f1
theorem rdX_data {lo : Int} {x : Sup} (h : Fit x) (hlo : lo ≤ x.gen) (h0 : 0 ≤ lo) : rdX lo (data x) = (x,true):=by
 have h2:=h
 unfold Fit most at h2
 obtain ⟨c1,c2,⟨g1,g2,g3,g4,g5,g6,g7,g8⟩,g9⟩:=h2
 have hrd:=rd_data h
 rw [← rdX_zero] at hrd
 have e : data x = enc x.gen ++ (encs [x.base,x.size,x.cg] ++ (text (octs x.chk) ++ text (octs x.log))):=by
  simp only [data,encs,List.flatMap_cons,List.flatMap_nil,List.append_nil,List.append_assoc]
 have e2 : rdInt lo most (some (data x)) = rdInt 0 most (some (data x)):=by
  rw [e]
  unfold most
  rw [rdInt_back (n:=x.gen) (lo:=lo) (hi:=1099511627776) hlo (by omega) (by omega) (by omega),rdInt_back (n:=x.gen) (lo:=0) (hi:=1099511627776) (by omega) (by omega) (by omega) (by omega)]
 rw [← hrd]
 unfold rdX
 rw [e2]
theorem fit_gen {x : Sup} (h : Fit x) : 1 ≤ x.gen:=h.2.2.1.1
theorem dec_prog {l s : List UInt8} {n i c : Nat} (h : opn l = some (n,i,c,s)) :
  (((rdX 1 s).2 = true ∧ Fit (rdX 1 s).1) ∧ ((n : Int) = (rdX 1 s).1.gen ∧ i = 0 ∧ c = 1) → dec l = some (rdX 1 s).1) ∧
  (¬ (((rdX 1 s).2 = true ∧ Fit (rdX 1 s).1) ∧ ((n : Int) = (rdX 1 s).1.gen ∧ i = 0 ∧ c = 1)) → dec l = none):=by
 obtain ⟨hl,hf,hs⟩:=StampP.opn_some h
 refine ⟨fun ⟨⟨h1,h2⟩,h3,h4,h5⟩=>?_,fun hn=>?_⟩
 ·obtain ⟨e1,_,_⟩:=rdX_out h1
  have e2 : l = sect (rdX 1 s).1:=by
   unfold sect
   rw [← e1,hl,h4,h5,← h3,Int.toNat_natCast]
  rw [e2]
  exact dec_sect h2
 ·rcases hd : dec l with _ | x
  ·rfl
  ·obtain ⟨f1,f2⟩:=dec_some hd
   have e:=opn_sect f1
   rw [← f2,h] at e
   simp only [Option.some.injEq,Prod.mk.injEq] at e
   obtain ⟨e1,e2,e3,e4⟩:=e
   have e5:=rdX_data f1 (fit_gen f1) (by decide)
   rw [← e4] at e5
   refine absurd ⟨⟨by rw [e5],by rw [e5];exact f1⟩,?_,e2,e3⟩ hn
   rw [e5]
   show (n : Int) = x.gen
   have:=fit_gen f1
   omega
end Go.Proofs.YtnnakhdndmjmiaaGreat.SuperP
/-
 What the calls of a log leave (no program): as before,with bounds of the numbers on the disk.
-/
set_option linter.unusedVariables false
namespace Go.Proofs.YtnnakhdndmjmiaaGreat
namespace WalP
open DiskP (St Ok Wr)
open SegsP (er cnt cnt_le cnt_fit secs secs_mem fre mem_fre fre_len need Unfused)
open SuperP (Sup best dec sect)
open FrameP (frs sz Rec tk)
def KeepsB (G : Int) (S : List ByteArray) (K : Kept) : Prop := ∃ x,Good S x K.base (octs K.bats) ∧ (∀ b ∈ K.bats,Takes b) ∧ x.gen ≤ G ∧ x.base + K.bats.length ≤ G
theorem KeepsB.mono {G H : Int} {S : List ByteArray} {K : Kept} (h : KeepsB G S K) (hg : G ≤ H) : KeepsB H S K:=by
 obtain ⟨x,a,b,c,d⟩:=h
 exact ⟨x,a,b,by omega,by omega⟩
def StoppedB (G : Int) (r : Int × Lg × St) (n : Nat) (K K' : Kept) : Prop:=r.1 = 13 ∧ r.2.2.dead = true ∧ Img r.2.2 fun S=>S.length = n ∧ (KeepsB G S K ∨ KeepsB G S K')
theorem grow_phase_b {st : St} {x : Sup} {B : Option (List UInt8)} {l : List (List UInt8)} {more : List Int} {s : List UInt8} (h : Live st x B l) (hg : x.gen < 1099511627776) (hm : Spare st.S.length x more)
  (hs : Fits (x.base.toNat + 1 + l.length) s) (hroom : pc s.length ≤ (behind x l).length + 8 * more.length) :
  (∃ st',growAppend st x l more s = (0,st') ∧ Live st' (grow x more) B (l ++ [s]) ∧ st'.S.length = st.S.length) ∨
  Halt (growAppend st x l more s) st.S.length fun S => ∃ y,(y.gen ≤ x.gen + 1 ∧ y.base = x.base) ∧ (Good S y B l ∨ Good S y B (l ++ [s])):=by
 have hy:=grow_fit h.good.fit hg hm
 unfold growAppend
 rcases spare_phase h hm with ⟨a1,a2,a3,a4⟩ | hh
 rotate_left
 ·rw [if_pos (by rw [hh.1];decide)]
  exact .inr (hh.mono fun S hS=>⟨x,⟨by omega,rfl⟩,.inl hS⟩)
 rw [if_neg (by rw [a1];decide)]
 generalize (er st false (secs more)).2 = s1 at *
 have hm1 : Spare s1.S.length x more:=by rw [a3];exact hm
 rcases lay_good (B':=B) (l':=l) a2.idle a2.sz a2.good hy rfl (fun S' h1 h2 h3=>(grow_good a2.good a2.blk hy hm1 a4 h1 h2 h3).1) with ⟨s2,b1,b2,b3,b4,b5,b6⟩ | hh
 rotate_left
 ·rw [if_pos (by rw [hh.1];decide)]
  rw [a3] at hh
  exact .inr (hh.mono fun S hS=>hS.elim (fun g=>⟨_,⟨by omega,rfl⟩,.inl g⟩) (fun g=>⟨grow x more,⟨Int.le_refl _,rfl⟩,.inl g⟩))
 rw [b1,if_neg (by show ¬ (0 : Int) ≠ 0;decide)]
 have hlive : Live s2 (grow x more) B l:=⟨b2,b4,b5,(grow_good a2.good a2.blk hy hm1 a4 b3 b5.cur b6).2⟩
 have f1:=h.good.split.1
 have hbl : behind (grow x more) l = behind x l ++ secs more:=by
  unfold behind
  show (secs (x.log ++ more)).drop (atn x l) = _
  rw [secs_app,List.drop_append_of_le_length f1]
 have h63:=cnt_le (st.S.length : Int)
 rcases room_phase hlive hs (by
  rw [hbl,List.length_append,secs_length fun k hk=>by have:=hm.range k hk;omega]
  exact hroom) with ⟨s3,c1,c2,c3⟩ | hh
 ·exact .inl ⟨s3,c1,c2,by omega⟩
 ·rw [b3,a3] at hh
  exact .inr (hh.mono fun S hS=>⟨grow x more,⟨Int.le_refl _,rfl⟩,hS⟩)
theorem add_rests_b {lg : Lg} {st : St} {K : Kept} {recs : List (List UInt8)} {G : Int} (h : Rests lg st K) (hG : lg.x.gen ≤ G) (hN : lg.num ≤ G) (hg : lg.x.gen < 1099511627776) (hn : lg.num < 1099511627776) :
  (Takes recs ∧ ∃ lg' st',add lg st recs = (0,lg',st') ∧ Rests lg' st' ⟨K.base,K.bats ++ [recs]⟩ ∧ st'.S.length = st.S.length ∧ lg'.num = lg.num + 1 ∧ lg'.x.gen ≤ lg.x.gen + 1) ∨
  (Takes recs ∧ StoppedB (G + 1) (add lg st recs) st.S.length K ⟨K.base,K.bats ++ [recs]⟩) ∨
  (Takes recs ∧ add lg st recs = (4,lg,st)) ∨
  (¬ Takes recs ∧ (add lg st recs = (1,lg,st) ∨ (add lg st recs = (9,lg,st) ∧ 16384 < sz recs))):=by
 have hi:=h.live.idle
 have hal:=h.alive
 by_cases ht : Takes recs
 rotate_left
 ·refine .inr (.inr (.inr ⟨ht,?_⟩))
  unfold add
  rw [if_neg (by rw [hal,hi.2];simp)]
  by_cases h0 : recs = []
  ·rw [if_pos h0];exact .inl rfl
  rw [if_neg h0]
  by_cases h1 : ∀ r ∈ recs,Rec r
  ·rw [if_neg (fun g=>g h1)]
   have h2 : 16384 < sz recs:=by
    refine Classical.byContradiction fun g=>ht ⟨h0,h1,by omega⟩
   rw [if_pos h2];exact .inr ⟨rfl,h2⟩
  ·rw [if_pos h1];exact .inl rfl
 obtain ⟨h0,h1,h2⟩:=ht
 have hadd : add lg st recs = addS lg st (frs recs):=by
  unfold add
  rw [if_neg (by rw [hal,hi.2];simp),if_neg h0,if_neg (fun g=>g h1),if_neg (by omega)]
 obtain ⟨n0,n1⟩:=rests_num h
 have hf : Fits (lg.x.base.toNat + 1 + (octs K.bats).length) (frs recs):=takes_fits ⟨h0,h1,h2⟩ (by omega) (by rw [← n1];omega)
 have htk : ∀ b ∈ K.bats ++ [recs],Takes b:=by
  intro b hb
  rcases List.mem_append.1 hb with g | g
  ·exact h.takes b g
  ·rw [List.mem_singleton.1 g];exact ⟨h0,h1,h2⟩
 have hbn:=h.num
 have hk1 : ∀ S,Good S lg.x K.base (octs K.bats) → KeepsB (G + 1) S K:=fun S g=>⟨_,g,h.takes,by omega,by omega⟩
 have hk2 : ∀ S y,y.gen ≤ lg.x.gen + 1 ∧ y.base = lg.x.base → Good S y K.base (octs K.bats ++ [frs recs]) → KeepsB (G + 1) S ⟨K.base,K.bats ++ [recs]⟩:=fun S y hy g=>⟨y,by show Good S y K.base (octs (K.bats ++ [recs]));rw [octs_snoc];exact g,htk,by omega,by show y.base + ((K.bats ++ [recs]).length : Nat) ≤ _;rw [List.length_append,List.length_singleton];omega⟩
 have hk1' : ∀ S y,y.gen ≤ lg.x.gen + 1 ∧ y.base = lg.x.base → Good S y K.base (octs K.bats) → KeepsB (G + 1) S K:=fun S y hy g=>⟨_,g,h.takes,by omega,by omega⟩
 have hbl : (behind lg.x (octs K.bats)).length = (secs lg.x.log).length - lg.pos:=by rw [← rests_behind h,List.length_drop]
 have hle : lg.pos ≤ (secs lg.x.log).length:=by rw [h.pos];exact h.live.good.split.1
 rw [hadd]
 unfold addS
 simp only
 rw [if_neg (by omega)]
 by_cases hfull : ((free lg st.S.length).length : Int) < need ((lg.pos : Int) + (pc (frs recs).length : Nat) - ((secs lg.x.log).length : Nat))
 ·rw [if_pos hfull];exact .inr (.inr (.inl ⟨⟨h0,h1,h2⟩,rfl⟩))
 rw [if_neg hfull]
 by_cases hm : need ((lg.pos : Int) + (pc (frs recs).length : Nat) - ((secs lg.x.log).length : Nat)) ≤ 0
 ·rw [if_pos hm,rests_behind h,n1]
  have hroom:=need_zero hm
  rcases room_phase h.live hf (by omega) with ⟨st',a1,a2,a3⟩ | hh
  ·rw [a1,if_pos rfl]
   refine .inl ⟨⟨h0,h1,h2⟩,_,_,rfl,⟨by rw [octs_snoc];exact a2,?_,?_,hal,htk⟩,a3,rfl,by show lg.x.gen ≤ _;omega⟩
   ·show lg.pos + _ = atn lg.x (octs (K.bats ++ [recs]))
    rw [octs_snoc]
    unfold atn
    rw [laid_snoc,List.length_append,seald_length,h.pos];rfl
   ·show lg.num + 1 = lg.x.base + ((K.bats ++ [recs]).length : Nat)
    rw [List.length_append,List.length_singleton,h.num];omega
  ·rw [if_neg (by rw [hh.1];decide)]
   exact .inr (.inl ⟨⟨h0,h1,h2⟩,hh.1,hh.2.1,fun ks t=>⟨(hh.2.2 ks t).1,(hh.2.2 ks t).2.imp (hk1 _) (hk2 _ _ ⟨by omega,rfl⟩)⟩⟩)
 ·rw [if_neg hm]
  have hsp:=spare_take st.S.length lg.x (need ((lg.pos : Int) + (pc (frs recs).length : Nat) - ((secs lg.x.log).length : Nat))).toNat
  have hnr:=need_room (m:=(lg.pos : Int) + (pc (frs recs).length : Nat) - ((secs lg.x.log).length : Nat))
  generalize need ((lg.pos : Int) + (pc (frs recs).length : Nat) - ((secs lg.x.log).length : Nat)) = m at *
  have hfl : (free lg st.S.length).length = (fre (cnt st.S.length) (lg.x.chk ++ lg.x.log)).length:=rfl
  have hml : ((free lg st.S.length).take m.toNat).length = m.toNat:=by rw [List.length_take];omega
  have hph:=grow_phase_b h.live hg hsp hf (by
   show _ ≤ _ + 8 * ((free lg st.S.length).take m.toNat).length
   rw [hml];omega)
  have e2 : (secs (grow lg.x ((free lg st.S.length).take m.toNat)).log).drop lg.pos = behind (grow lg.x ((free lg st.S.length).take m.toNat)) (octs K.bats):=by rw [h.pos];rfl
  rw [e2,n1]
  unfold growAppend at hph
  have e3 : (fre (cnt st.S.length) (lg.x.chk ++ lg.x.log)).take m.toNat = (free lg st.S.length).take m.toNat:=rfl
  rw [e3] at hph hsp
  generalize (free lg st.S.length).take m.toNat = more at *
  have hstop : ∀ (r : Int × St) (lg2 : Lg),Halt r st.S.length (fun S => ∃ y,(y.gen ≤ lg.x.gen + 1 ∧ y.base = lg.x.base) ∧ (Good S y K.base (octs K.bats) ∨ Good S y K.base (octs K.bats ++ [frs recs]))) → StoppedB (G + 1) (r.1,lg2,r.2) st.S.length K ⟨K.base,K.bats ++ [recs]⟩:=fun r lg2 hh =>
   ⟨hh.1,hh.2.1,fun ks t=>⟨(hh.2.2 ks t).1,(hh.2.2 ks t).2.elim fun y g=>g.2.imp (hk1' _ y g.1) (hk2 _ y g.1)⟩⟩
  by_cases c1 : (er st false (secs more)).1 ≠ 0
  ·rw [if_pos c1] at hph ⊢
   rcases hph with ⟨st',a1,_⟩ | hh
   ·exact absurd (by rw [a1]) c1
   ·exact .inr (.inl ⟨⟨h0,h1,h2⟩,hstop _ _ hh⟩)
  rw [if_neg c1] at hph ⊢
  by_cases c2 : (lay (er st false (secs more)).2 (grow lg.x more)).1 ≠ 0
  ·rw [if_pos c2] at hph ⊢
   rcases hph with ⟨st',a1,_⟩ | hh
   ·exact absurd (by rw [a1]) c2
   ·exact .inr (.inl ⟨⟨h0,h1,h2⟩,hstop _ _ hh⟩)
  rw [if_neg c2] at hph ⊢
  rcases hph with ⟨st',a1,a2,a3⟩ | hh
  ·rw [a1,if_pos rfl]
   refine .inl ⟨⟨h0,h1,h2⟩,_,_,rfl,⟨by rw [octs_snoc];exact a2,?_,?_,rfl,htk⟩,a3,rfl,by show lg.x.gen + 1 ≤ _;omega⟩
   ·show lg.pos + _ = atn (grow lg.x more) (octs (K.bats ++ [recs]))
    rw [octs_snoc]
    unfold atn
    rw [laid_snoc,List.length_append,seald_length,h.pos];rfl
   ·show lg.num + 1 = lg.x.base + ((K.bats ++ [recs]).length : Nat)
    rw [List.length_append,List.length_singleton,h.num];omega
  ·rw [if_neg (by rw [hh.1];decide)]
   exact .inr (.inl ⟨⟨h0,h1,h2⟩,hstop _ _ hh⟩)
theorem chk_rests_b {lg : Lg} {st : St} {K : Kept} {b : List UInt8} {G : Int} (h : Rests lg st K) (hG : lg.x.gen ≤ G) (hN : lg.num ≤ G) (hg : lg.x.gen < 1099511627776) (hb : b.length ≤ 52416) :
  (∃ lg' st',chk lg st b = (0,lg',st') ∧ Rests lg' st' ⟨some b,[]⟩ ∧ st'.S.length = st.S.length ∧ lg'.num = lg.num ∧ lg'.x.gen ≤ lg.x.gen + 1) ∨
  StoppedB (G + 1) (chk lg st b) st.S.length K ⟨some b,[]⟩ ∨ chk lg st b = (4,lg,st):=by
 have hi:=h.live.idle
 have hal:=h.alive
 have hp:=pc_pos b.length
 have hnr:=need_room (m:=(pc b.length : Int))
 have hn0 : 0 < need (pc b.length : Int):=need_pos.2 (by omega)
 unfold chk
 simp only
 rw [if_neg (by rw [hal,hi.2];simp),if_neg (by omega),if_neg (by omega)]
 generalize hm : (need (pc b.length : Int)).toNat = m at *
 by_cases hf : (free lg st.S.length).length < m + 1
 ·rw [if_pos hf];exact .inr (.inr rfl)
 rw [if_neg hf]
 have hnum:=rests_num h
 have hgn:=h.live.good.num
 have hnm : 0 ≤ lg.num ∧ lg.num ≤ 1099511627776:=by
  refine ⟨hnum.1,?_⟩
  have:=fit_nums h.live.good.fit
  rw [h.num]
  rw [octs_length] at hgn
  omega
 have hsp : Spare st.S.length lg.x ((free lg st.S.length).take m ++ [(free lg st.S.length).getD m 0]):=by
  rw [take_one _ _ (by omega)];exact spare_take _ _ _
 have hlen : ((free lg st.S.length).take m).length = m:=by rw [List.length_take];omega
 rcases base_phase (num:=lg.num) (b:=b) h.live hg hsp hnm (by rw [hlen];omega) with ⟨st',a1,a2,a3⟩ | hh
 ·rw [a1,if_pos rfl]
  exact .inl ⟨_,_,rfl,⟨a2,rfl,by show lg.num = lg.num + ((0 : Nat) : Int);omega,hal,fun b hb=>(by cases hb)⟩,a3,rfl,by show lg.x.gen + 1 ≤ _;omega⟩
 ·rw [if_neg (by rw [hh.1];decide)]
  exact .inr (.inl ⟨hh.1,hh.2.1,fun ks t=>⟨(hh.2.2 ks t).1,(hh.2.2 ks t).2.imp (fun g=>⟨_,g,h.takes,by omega,by have:=h.num;omega⟩) (fun g=>⟨_,g,fun b hb=>(by cases hb),by show lg.x.gen + 1 ≤ _;omega,by show lg.num + ((0 : Nat) : Int) ≤ _;omega⟩)⟩⟩)
theorem phase_keeps {st : St} {K : Kept} {G : Int} (hi : Idle st) (hz : ∀ s ∈ st.S,s.size = 128) (h : KeepsB G st.S K) :
  ∃ x,Good st.S x K.base (octs K.bats) ∧ (∀ b ∈ K.bats,Takes b) ∧ x.gen ≤ G ∧ x.base + K.bats.length ≤ G ∧
  (((er st false (behind x (octs K.bats))).1 = 0 ∧ Rests ⟨x,atn x (octs K.bats),x.base + K.bats.length,false⟩ (er st false (behind x (octs K.bats))).2 K ∧ (er st false (behind x (octs K.bats))).2.S.length = st.S.length) ∨
  ((er st false (behind x (octs K.bats))).1 = 13 ∧ (er st false (behind x (octs K.bats))).2.dead = true ∧ Img (er st false (behind x (octs K.bats))).2 fun S=>S.length = st.S.length ∧ KeepsB G S K)):=by
 obtain ⟨x,hg,ht,b1,b2⟩:=h
 refine ⟨x,hg,ht,b1,b2,?_⟩
 rcases open_phase hi hz hg with ⟨a1,a2,a3⟩ | hh
 ·exact .inl ⟨a1,⟨a2,rfl,rfl,rfl,ht⟩,a3⟩
 ·exact .inr ⟨hh.1,hh.2.1,fun ks t=>⟨(hh.2.2 ks t).1,x,(hh.2.2 ks t).2,ht,b1,b2⟩⟩
theorem crash_keeps_b {st : St} {n : Nat} {K K' : Kept} {G : Int} (h : Img st fun S=>S.length = n ∧ (KeepsB G S K ∨ KeepsB G S K')) (ks : List Bool) (t : Int) :
  Idle (DiskP.cr st ks t) ∧ Unfused (DiskP.cr st ks t) ∧ (DiskP.cr st ks t).S.length = n ∧ (KeepsB G (DiskP.cr st ks t).S K ∨ KeepsB G (DiskP.cr st ks t).S K') :=
 ⟨⟨rfl,rfl⟩,⟨rfl,rfl⟩,(h ks t).1,(h ks t).2⟩
theorem rests_img_b {lg : Lg} {st : St} {K : Kept} {G : Int} (h : Rests lg st K) (hG : lg.x.gen ≤ G) (hN : lg.num ≤ G) (K' : Kept) : Img st fun S=>S.length = st.S.length ∧ (KeepsB G S K ∨ KeepsB G S K'):=fun ks t=>by
 rw [show DiskP.crS st.S t (DiskP.kept st.W ks) = st.S from img_idle h.live.idle.1 ks t]
 exact ⟨rfl,.inl ⟨lg.x,h.live.good,h.takes,hG,by have:=h.num;omega⟩⟩
theorem blank_new {n : Nat} (hn : 10 ≤ n) (hm : n ≤ 512) : ∃ st',er (DiskP.fresh (List.replicate n DiskP.blank)) false (secs [0]) = (0,DiskP.fresh (List.replicate n DiskP.blank)) ∧ lay (DiskP.fresh (List.replicate n DiskP.blank)) sup0 = (0,st') ∧
  best (tl (DiskP.rd (DiskP.fresh (List.replicate n DiskP.blank)) 0).1) (tl (DiskP.rd (DiskP.fresh (List.replicate n DiskP.blank)) 1).1) = none ∧ 0 < cnt (n : Int) ∧ Rests ⟨sup0,0,0,false⟩ st' ⟨none,[]⟩ ∧ st'.S.length = n ∧ Unfused st':=by
 obtain ⟨lg,st',h1,h2,h3,h4,h5,h6⟩:=opens_blank hn hm
 have hi : Idle (DiskP.fresh (List.replicate n DiskP.blank)):=⟨rfl,rfl⟩
 have hl : (DiskP.fresh (List.replicate n DiskP.blank)).S.length = n:=by simp [DiskP.fresh]
 have hb : ∀ k,k < n → sec (DiskP.fresh (List.replicate n DiskP.blank)).S k = DiskP.blank:=fun k hk=>by simp [sec,DiskP.fresh,List.getD,hk]
 generalize DiskP.fresh (List.replicate n DiskP.blank) = st at *
 have hc : cnt (n : Int) ≠ 0:=by
  unfold SegsP.cnt
  rw [if_neg (by omega),if_neg (by omega)];omega
 have hbest : best (tl (DiskP.rd st 0).1) (tl (DiskP.rd st 1).1) = none:=by
  rw [rd_idle hi ⟨by omega,by omega⟩,rd_idle hi ⟨by omega,by omega⟩]
  have e : dec (tl DiskP.blank) = none:=SuperP.dec_none opn_blank
  exact SuperP.best_none (by show dec (tl (sec st.S 0)) = none;rw [hb 0 (by omega)];exact e) (by show dec (tl (sec st.S 1)) = none;rw [hb 1 (by omega)];exact e)
 have h0r : ∀ p ∈ secs [0],0 ≤ p ∧ p < (n : Int) ∧ 2 ≤ p:=secs_range (n:=n) (by intro k hk;rw [List.mem_singleton.1 hk];omega)
 have her : er st false (secs [0]) = (0,st):=er_none hi fun p hp=>by
  have:=h0r p hp
  exact ⟨by omega,by omega,hb _ (by omega)⟩
 have hopen : opens st = open0 st:=by
  unfold opens
  rw [if_neg (by rw [hi.2];simp),hl,if_neg hc,hbest]
 rw [hopen] at h1
 unfold open0 at h1
 simp only [her] at h1
 rw [if_neg (by decide)] at h1
 obtain ⟨q1,q2,hq⟩ : ∃ q1 q2,lay st sup0 = (q1,q2):=⟨_,_,rfl⟩
 rw [hq] at h1 ⊢
 by_cases hz : q1 = 0
 ·subst hz
  rw [if_neg (by show ¬ (0 : Int) ≠ 0;decide)] at h1
  simp only [Prod.mk.injEq,Option.some.injEq,true_and] at h1
  obtain ⟨⟨rfl,_⟩,rfl⟩:=h1
  exact ⟨q2,her,rfl,hbest,by omega,h2,h3,h4⟩
 ·rw [if_pos (by exact hz)] at h1
  simp only [Prod.mk.injEq] at h1
  obtain ⟨_,h,_⟩:=h1
  cases h
end WalP
end Go.Proofs.YtnnakhdndmjmiaaGreat
