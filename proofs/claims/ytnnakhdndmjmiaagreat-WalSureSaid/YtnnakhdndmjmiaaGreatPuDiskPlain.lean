
set_option linter.unusedVariables false
set_option maxRecDepth 4000
namespace Go.Proofs.YtnnakhdndmjmiaaGreat
namespace DiskP
abbrev Wr:=Nat × ByteArray
structure St where
 S : List ByteArray
 W : List Wr
 left : Nat
 ops : Nat
 dead : Bool
structure Ok (n : Nat) (st : St) : Prop where
 lo : 2 ≤ st.S.length
 hi : st.S.length ≤ 512
 sec : ∀ s ∈ st.S,s.size = 128
 wat : ∀ x ∈ st.W,x.1 < st.S.length
 wsz : ∀ x ∈ st.W,x.2.size = 128
 ops : st.ops ≤ n
 wn : st.W.length ≤ n
 left : st.left ≤ 9223372036854775807
theorem Ok.mono {n m : Nat} {st : St} (h : Ok n st) (hm : n ≤ m) : Ok m st:={ h with ops:=Nat.le_trans h.ops hm,wn:=Nat.le_trans h.wn hm }
def out (n : Nat) (at_ : Int) : Bool:=decide (at_ < 0 ∨ (n : Int) ≤ at_)
theorem out_yes {n : Nat} {at_ : Int} (h : at_ < 0 ∨ (n : Int) ≤ at_) : out n at_ = true:=decide_eq_true h
theorem out_no {n : Nat} {at_ : Int} (h : ¬ (at_ < 0 ∨ (n : Int) ≤ at_)) : out n at_ = false:=decide_eq_false h
theorem of_out {n : Nat} {at_ : Int} (h : out n at_ = false) : 0 ≤ at_ ∧ at_ < (n : Int):=by
 have:=of_decide_eq_false h
 omega
def over (s : ByteArray) (W : List Wr) (k : Nat) : ByteArray:=W.foldl (fun s x=>if x.1 = k then x.2 else s) s
theorem over_snoc (s : ByteArray) (W : List Wr) (x : Wr) (k : Nat) : over s (W ++ [x]) k = if x.1 = k then x.2 else over s W k:=by simp [over]
theorem over_append (s : ByteArray) (W V : List Wr) (k : Nat) : over s (W ++ V) k = over (over s W k) V k:=by simp [over]
theorem over_none (s : ByteArray) : ∀ (W : List Wr) (k : Nat),(∀ x ∈ W,x.1 ≠ k) → over s W k = s
 | [],_,_=>rfl
 | x :: W,k,h=>by
  show over (if x.1 = k then x.2 else s) W k = s
  rw [if_neg (h x (by simp))]
  exact over_none s W k (fun y hy=>h y (by simp [hy]))
theorem over_found {s : ByteArray} {W ini rest : List Wr} {x : Wr} {k : Nat} (h : W.reverse = ini ++ x :: rest) (hx : x.1 = k) (hi : ∀ y ∈ ini,y.1 ≠ k) : over s W k = x.2:=by
 have hW : W = rest.reverse ++ [x] ++ ini.reverse:=by
  have:=congrArg List.reverse h
  simpa using this
 rw [hW,over_append,over_snoc,if_pos hx,over_none]
 intro y hy
 exact hi y (by simpa using hy)
def rd (st : St) (at_ : Int) : ByteArray × Int :=
 if st.dead then (ByteArray.empty,13)
 else if out st.S.length at_ then (ByteArray.empty,11)
 else (over (st.S.getD at_.toNat ByteArray.empty) st.W at_.toNat,0)
def opd (st : St) : Bool:=if 0 < st.left then (if st.left = 1 then true else false) else st.dead
def op (st : St) : St:={ st with ops:=st.ops + 1,left:=st.left - 1,dead:=opd st }
def wr (st : St) (at_ : Int) (s : ByteArray) : Int × St :=
 if st.dead then (13,st)
 else if out st.S.length at_ then (11,st)
 else if s.size ≠ 128 then (9,st)
 else if opd st then (13,op st)
 else (0,{ op st with W:=st.W ++ [(at_.toNat,s)] })
def play (S : List ByteArray) (W : List Wr) : List ByteArray:=W.foldl (fun S x=>S.set x.1 x.2) S
theorem play_snoc (S : List ByteArray) (W : List Wr) (x : Wr) : play S (W ++ [x]) = (play S W).set x.1 x.2:=by simp [play]
theorem play_length (S : List ByteArray) : ∀ (W : List Wr),(play S W).length = S.length:=by
 intro W
 induction W generalizing S with
 | nil=>rfl
 | cons x W ih=>show (play (S.set x.1 x.2) W).length = _;rw [ih,List.length_set]
theorem mem_set {S : List ByteArray} {k : Nat} {x s : ByteArray} (h : s ∈ S.set k x) : s ∈ S ∨ s = x:=by
 rcases List.mem_or_eq_of_mem_set h with h | h
 ·exact .inl h
 ·exact .inr h
theorem play_size {S : List ByteArray} {W : List Wr} (hs : ∀ s ∈ S,s.size = 128) (hw : ∀ x ∈ W,x.2.size = 128) : ∀ s ∈ play S W,s.size = 128:=by
 induction W generalizing S with
 | nil=>exact hs
 | cons x W ih =>
  show ∀ s ∈ play (S.set x.1 x.2) W,s.size = 128
  refine ih (fun s h=>?_) (fun y hy=>hw y (by simp [hy]))
  rcases mem_set h with h | rfl
  ·exact hs s h
  ·exact hw x (by simp)
def fl (st : St) : Int × St :=
 if st.dead then (13,st)
 else if opd st then (13,op st)
 else (0,{ op st with S:=play st.S st.W,W:=[] })
def fu (st : St) (n : Int) : St:={ st with left:=n.toNat }
def torn (fresh old : ByteArray) (t : Int) : ByteArray:=if t < 1 ∨ 128 ≤ t then fresh else fresh.extract 0 t.toNat ++ old.extract t.toNat old.size
theorem torn_size {a b : ByteArray} (ha : a.size = 128) (hb : b.size = 128) (t : Int) : (torn a b t).size = 128:=by
 unfold torn
 split
 ·exact ha
 ·rw [ByteArray.size_append,ByteArray.size_extract,ByteArray.size_extract];omega
def kept : List Wr → List Bool → List Wr
 | x :: W,true :: k=>x :: kept W k
 | _ :: W,false :: k=>kept W k
 | _,_=>[]
theorem kept_nil (k : List Bool) : kept [] k = []:=by cases k with | nil=>rfl | cons b k=>cases b <;> rfl
theorem kept_none (W : List Wr) : kept W [] = []:=by cases W <;> rfl
theorem kept_sub : ∀ (W : List Wr) (k : List Bool),∀ x ∈ kept W k,x ∈ W
 | [],k,x,h=>by rw [kept_nil] at h;exact h
 | y :: W,[],x,h=>by rw [kept_none] at h;cases h
 | y :: W,true :: k,x,h=>by
  rcases List.mem_cons.1 h with rfl | h
  ·simp
  ·exact List.mem_cons_of_mem _ (kept_sub W k x h)
 | y :: W,false :: k,x,h=>List.mem_cons_of_mem _ (kept_sub W k x h)
def keeps (k : List Bool) (i : Nat) : Bool:=k.getD i false
theorem kept_drop {W : List Wr} {k : List Bool} {i : Nat} (hi : i < W.length) : kept (W.drop i) (k.drop i) = if keeps k i then W[i] :: kept (W.drop (i + 1)) (k.drop (i + 1)) else kept (W.drop (i + 1)) (k.drop (i + 1)):=by
 rw [List.drop_eq_getElem_cons hi]
 by_cases hk : i < k.length
 ·rw [List.drop_eq_getElem_cons hk]
  have e : keeps k i = k[i]:=by simp [keeps,List.getD,hk]
  rw [e]
  cases k[i] <;> rfl
 ·rw [List.drop_eq_nil_of_le (by omega : k.length ≤ i),List.drop_eq_nil_of_le (by omega : k.length ≤ i + 1),kept_none,kept_none]
  have e : keeps k i = false:=by simp [keeps,List.getD,List.getElem?_eq_none (by omega : k.length ≤ i)]
  rw [e];rfl
def crS (S : List ByteArray) (t : Int) : List Wr → List ByteArray
 | []=>S
 | [x]=>S.set x.1 (torn x.2 (S.getD x.1 ByteArray.empty) t)
 | x :: y :: r=>crS (S.set x.1 x.2) t (y :: r)
theorem crS_last (S : List ByteArray) (t : Int) (x : Wr) {r : List Wr} (h : r = []) : crS S t (x :: r) = S.set x.1 (torn x.2 (S.getD x.1 ByteArray.empty) t):=by subst h;rfl
theorem crS_more (S : List ByteArray) (t : Int) (x : Wr) {r : List Wr} (h : r ≠ []) : crS S t (x :: r) = crS (S.set x.1 x.2) t r:=by
 cases r with
 | nil=>exact absurd rfl h
 | cons y r=>rfl
theorem crS_length (t : Int) : ∀ (l : List Wr) (S : List ByteArray),(crS S t l).length = S.length
 | [],_=>rfl
 | [x],S=>by simp [crS]
 | x :: y :: r,S=>by show (crS _ t (y :: r)).length = _;rw [crS_length t (y :: r),List.length_set]
theorem getD_mem {S : List ByteArray} {k : Nat} (h : k < S.length) : S.getD k ByteArray.empty ∈ S:=by simp [List.getD,h]
theorem crS_size (t : Int) : ∀ (l : List Wr) (S : List ByteArray),(∀ s ∈ S,s.size = 128) → (∀ x ∈ l,x.1 < S.length ∧ x.2.size = 128) → ∀ s ∈ crS S t l,s.size = 128
 | [],_,hs,_=>hs
 | [x],S,hs,hx=>fun s h=>by
  rcases mem_set h with h | rfl
  ·exact hs s h
  ·exact torn_size (hx x (by simp)).2 (hs _ (getD_mem (hx x (by simp)).1)) t
 | x :: y :: r,S,hs,hx=>by
  refine crS_size t (y :: r) _ (fun s h=>?_) (fun z hz=>by rw [List.length_set];exact hx z (List.mem_cons_of_mem _ hz))
  rcases mem_set h with h | rfl
  ·exact hs s h
  ·exact (hx x (by simp)).2
def cr (st : St) (k : List Bool) (t : Int) : St:={ S:=crS st.S t (kept st.W k),W:=[],left:=0,ops:=st.ops,dead:=false }
/-! What keeps the shape. -/
theorem op_ok {n : Nat} {st : St} (h : Ok n st) : Ok (n + 1) (op st) :=
 ⟨h.lo,h.hi,h.sec,h.wat,h.wsz,by have:=h.ops;show st.ops + 1 ≤ _;omega,by have:=h.wn;show st.W.length ≤ _;omega,by have:=h.left;show st.left - 1 ≤ _;omega⟩
theorem wr_ok {n : Nat} {st : St} (h : Ok n st) (at_ : Int) (s : ByteArray) : Ok (n + 1) (wr st at_ s).2:=by
 have hm : Ok (n + 1) st:=h.mono (by omega)
 unfold wr
 by_cases hd : st.dead = true
 ·rw [if_pos hd];exact hm
 rw [if_neg hd]
 by_cases ho : out st.S.length at_ = true
 ·rw [if_pos ho];exact hm
 rw [if_neg ho]
 by_cases hs : s.size ≠ 128
 ·rw [if_pos hs];exact hm
 rw [if_neg hs]
 have ho2:=op_ok h
 by_cases hp : opd st = true
 ·rw [if_pos hp];exact ho2
 ·rw [if_neg hp]
  refine ⟨h.lo,h.hi,h.sec,?_,?_,ho2.ops,?_,ho2.left⟩
  ·intro x hx
   rcases List.mem_append.1 hx with hx | hx
   ·exact h.wat x hx
   ·obtain rfl:=List.mem_singleton.1 hx
    show at_.toNat < st.S.length
    have:=of_out (Bool.eq_false_iff.2 ho);omega
  ·intro x hx
   rcases List.mem_append.1 hx with hx | hx
   ·exact h.wsz x hx
   ·obtain rfl:=List.mem_singleton.1 hx
    exact Classical.not_not.1 hs
  ·show (st.W ++ [(at_.toNat,s)]).length ≤ n + 1
   rw [List.length_append]
   have:=h.wn
   simp;omega
theorem fl_ok {n : Nat} {st : St} (h : Ok n st) : Ok (n + 1) (fl st).2:=by
 unfold fl
 by_cases hd : st.dead = true
 ·rw [if_pos hd];exact h.mono (by omega)
 rw [if_neg hd]
 have ho2:=op_ok h
 by_cases hp : opd st = true
 ·rw [if_pos hp];exact ho2
 ·rw [if_neg hp]
  refine ⟨?_,?_,play_size h.sec h.wsz,?_,?_,ho2.ops,Nat.zero_le _,ho2.left⟩
  ·show 2 ≤ (play st.S st.W).length;rw [play_length];exact h.lo
  ·show (play st.S st.W).length ≤ 512;rw [play_length];exact h.hi
  ·intro x hx;cases hx
  ·intro x hx;cases hx
theorem fu_ok {n : Nat} {st : St} (h : Ok n st) {k : Int} (hk : k ≤ 9223372036854775807) : Ok n (fu st k):={ h with left:=by show k.toNat ≤ _;omega }
theorem cr_ok {n : Nat} {st : St} (h : Ok n st) (k : List Bool) (t : Int) : Ok n (cr st k t):=by
 refine ⟨?_,?_,crS_size t _ _ h.sec (fun x hx=>⟨h.wat x (kept_sub _ _ x hx),h.wsz x (kept_sub _ _ x hx)⟩),?_,?_,h.ops,Nat.zero_le _,Nat.zero_le _⟩
 ·show 2 ≤ (crS _ _ _).length;rw [crS_length];exact h.lo
 ·show (crS _ _ _).length ≤ 512;rw [crS_length];exact h.hi
 ·intro x hx;cases hx
 ·intro x hx;cases hx
/-! What a crash leaves of a sector. -/
/-! New disks;octets. -/
def fill (c : UInt8) (n : Nat) : ByteArray:=⟨(List.replicate n c).toArray⟩
theorem fill_size (c : UInt8) (n : Nat) : (fill c n).size = n:=by simp [fill,ByteArray.size]
def blank : ByteArray:=fill 0 128
def fresh (S : List ByteArray) : St:={ S,W:=[],left:=0,ops:=0,dead:=false }
theorem fresh_ok {S : List ByteArray} (h1 : 2 ≤ S.length) (h2 : S.length ≤ 512) (h3 : ∀ s ∈ S,s.size = 128) : Ok 0 (fresh S) :=
 ⟨h1,h2,h3,fun x hx=>(by cases hx),fun x hx=>(by cases hx),Nat.le_refl _,Nat.le_refl _,Nat.zero_le _⟩
end DiskP
end Go.Proofs.YtnnakhdndmjmiaaGreat
/-
 Sectors erased,without a program: what Erase does to a disk;what is erased is blank,nothing else is turned.
-/
set_option linter.unusedVariables false
set_option maxRecDepth 4000
namespace Go.Proofs.YtnnakhdndmjmiaaGreat
namespace SegsP
open DiskP
def er (st : St) (found : Bool) : List Int → Int × St
 | []=>if found then fl st else (0,st)
 | k :: l=>if (rd st k).2 ≠ 0 then ((rd st k).2,st)
   else if (rd st k).1 = blank then er st found l
   else if (wr st k blank).1 ≠ 0 then ((wr st k blank).1,(wr st k blank).2)
   else er (wr st k blank).2 true l
theorem er_bad {st : St} {f : Bool} {k : Int} {l : List Int} (h : (rd st k).2 ≠ 0) : er st f (k :: l) = ((rd st k).2,st):=by unfold er;rw [if_pos h]
theorem er_skip {st : St} {f : Bool} {k : Int} {l : List Int} (h : (rd st k).2 = 0) (h2 : (rd st k).1 = blank) : er st f (k :: l) = er st f l:=by
 rw [er,if_neg (by omega),if_pos h2]
theorem er_stop {st : St} {f : Bool} {k : Int} {l : List Int} (h : (rd st k).2 = 0) (h2 : (rd st k).1 ≠ blank) (h3 : (wr st k blank).1 ≠ 0) : er st f (k :: l) = wr st k blank:=by
 rw [er,if_neg (by omega),if_neg h2,if_pos h3]
theorem er_step {st : St} {f : Bool} {k : Int} {l : List Int} (h : (rd st k).2 = 0) (h2 : (rd st k).1 ≠ blank) (h3 : (wr st k blank).1 = 0) : er st f (k :: l) = er (wr st k blank).2 true l:=by
 rw [er,if_neg (by omega),if_neg h2,if_neg (by omega)]
theorem rd_yes {st : St} {k : Int} (h : (rd st k).2 = 0) : st.dead = false ∧ out st.S.length k = false:=by
 unfold rd at h
 cases hd : st.dead with
 | true=>rw [hd,if_pos rfl] at h;exact absurd (show (13 : Int) = 0 from h) (by decide)
 | false =>
  rw [hd,if_neg (by decide)] at h
  cases ho : out st.S.length k with
  | true=>rw [ho,if_pos rfl] at h;exact absurd (show (11 : Int) = 0 from h) (by decide)
  | false=>exact ⟨rfl,rfl⟩
theorem rd_is {st : St} {i : Nat} (hd : st.dead = false) (hi : i < st.S.length) : rd st (i : Int) = (over (st.S.getD i ByteArray.empty) st.W i,0):=by
 unfold rd
 rw [hd,if_neg (by decide),out_no (by omega),if_neg (by decide)]
 simp
theorem wr_yes {st : St} {k : Int} {s : ByteArray} (hd : st.dead = false) (ho : out st.S.length k = false) (hs : s.size = 128) (h : (wr st k s).1 = 0) :
  opd st = false ∧ (wr st k s).2 = { op st with W:=st.W ++ [(k.toNat,s)] }:=by
 have hs' : ¬ s.size ≠ 128:=by omega
 unfold wr at h ⊢
 rw [hd,if_neg (by decide),ho,if_neg (by decide),if_neg hs'] at h ⊢
 cases hp : opd st with
 | true=>rw [hp,if_pos rfl] at h;exact absurd (show (13 : Int) = 0 from h) (by decide)
 | false=>exact ⟨rfl,rfl⟩
theorem fl_yes {st : St} (hd : st.dead = false) (h : (fl st).1 = 0) : opd st = false ∧ (fl st).2 = { op st with S:=play st.S st.W,W:=[] }:=by
 unfold fl at h ⊢
 rw [hd,if_neg (by decide)] at h ⊢
 cases hp : opd st with
 | true=>rw [hp,if_pos rfl] at h;exact absurd (show (13 : Int) = 0 from h) (by decide)
 | false=>exact ⟨rfl,rfl⟩
theorem play_over (i : Nat) : ∀ (W : List Wr) (S : List ByteArray),i < S.length → (play S W).getD i ByteArray.empty = over (S.getD i ByteArray.empty) W i
 | [],_,_=>rfl
 | x :: W,S,h=>by
  show (play (S.set x.1 x.2) W).getD i _ = over (if x.1 = i then x.2 else S.getD i _) W i
  rw [play_over i W _ (by rw [List.length_set];exact h)]
  congr 1
  by_cases e : x.1 = i
  ·subst e;simp [List.getD,h]
  ·rw [if_neg e];simp [List.getD,e]
theorem er_sure : ∀ (l : List Int) (st : St) (f : Bool),st.dead = false → (er st f l).1 = 0 →
  (er st f l).2.S.length = st.S.length ∧ ∀ i : Nat,i < st.S.length → rd (er st f l).2 (i : Int) = (if (i : Int) ∈ l then blank else (rd st (i : Int)).1,0)
 | [],st,f,hd,h=>by
  cases f with
  | false =>
   refine ⟨rfl,fun i hi=>?_⟩
   show rd st (i : Int) = _
   rw [rd_is hd hi];simp
  | true =>
   have e : er st true [] = fl st:=rfl
   rw [e] at h ⊢
   obtain ⟨h1,h2⟩:=fl_yes hd h
   rw [h2]
   refine ⟨play_length _ _,fun i hi=>?_⟩
   have hd2 : ({ op st with S:=play st.S st.W,W:=[] } : St).dead = false:=h1
   rw [rd_is hd2 (by show i < (play st.S st.W).length;rw [play_length];exact hi),rd_is hd hi]
   show (over ((play st.S st.W).getD i _) [] i,(0 : Int)) = _
   rw [play_over i _ _ hi]
   simp [over]
 | k :: l,st,f,hd,h=>by
  by_cases h1 : (rd st k).2 = 0
  ·obtain ⟨_,ho⟩:=rd_yes h1
   have hk:=of_out ho
   by_cases h2 : (rd st k).1 = blank
   ·rw [er_skip h1 h2] at h ⊢
    obtain ⟨i1,i2⟩:=er_sure l st f hd h
    refine ⟨i1,fun i hi=>?_⟩
    rw [i2 i hi]
    by_cases e : (i : Int) = k
    ·subst e
     by_cases m : (i : Int) ∈ l
     ·simp [m]
     ·rw [if_neg m,if_pos (by simp),h2]
    ·by_cases m : (i : Int) ∈ l
     ·simp [m]
     ·rw [if_neg m,if_neg (by simp [e,m])]
   ·by_cases h3 : (wr st k blank).1 = 0
    ·rw [er_step h1 h2 h3] at h ⊢
     obtain ⟨p1,p2⟩:=wr_yes (s:=blank) hd ho (fill_size 0 128) h3
     have hd2 : (wr st k blank).2.dead = false:=by rw [p2];exact p1
     have hl2 : (wr st k blank).2.S.length = st.S.length:=by rw [p2];rfl
     obtain ⟨i1,i2⟩:=er_sure l (wr st k blank).2 true hd2 h
     refine ⟨i1.trans hl2,fun i hi=>?_⟩
     rw [i2 i (by rw [hl2];exact hi),rd_is hd2 (by rw [hl2];exact hi),rd_is hd hi,p2]
     show (if (i : Int) ∈ l then blank else over (st.S.getD i _) (st.W ++ [(k.toNat,blank)]) i,(0 : Int)) = _
     rw [over_snoc]
     by_cases e : (i : Int) = k
     ·subst e;simp
     ·have e2 : ¬ k.toNat = i:=by omega
      rw [if_neg e2]
      by_cases m : (i : Int) ∈ l
      ·simp [m]
      ·rw [if_neg m,if_neg (by simp [e,m])]
    ·rw [er_stop h1 h2 h3] at h;exact absurd h h3
  ·rw [er_bad h1] at h;exact absurd h h1
theorem er_ok : ∀ (l : List Int) (st : St) (f : Bool) (n : Nat),Ok n st → Ok (n + l.length + 1) (er st f l).2
 | [],st,f,n,h=>by
  cases f with
  | false=>exact h.mono (by simp)
  | true=>exact (fl_ok h).mono (by simp)
 | k :: l,st,f,n,h=>by
  by_cases h1 : (rd st k).2 = 0
  ·by_cases h2 : (rd st k).1 = blank
   ·rw [er_skip h1 h2];exact (er_ok l st f n h).mono (by simp)
   ·by_cases h3 : (wr st k blank).1 = 0
    ·rw [er_step h1 h2 h3];exact (er_ok l _ true (n + 1) (wr_ok h _ _)).mono (by simp;omega)
    ·rw [er_stop h1 h2 h3];exact (wr_ok h _ _).mono (by simp)
  ·rw [er_bad h1];exact h.mono (by simp;omega)
def Unfused (st : St) : Prop:=st.left = 0 ∧ st.dead = false
theorem calm_opd {st : St} (h : Unfused st) : opd st = false:=by unfold opd;rw [h.1,if_neg (by omega)];exact h.2
theorem calm_op {st : St} (h : Unfused st) : Unfused (op st):=⟨by show st.left - 1 = 0;rw [h.1],calm_opd h⟩
theorem calm_wr {st : St} (h : Unfused st) (k : Int) (s : ByteArray) : Unfused (wr st k s).2:=by
 unfold wr
 rw [h.2,if_neg (by decide)]
 split
 ·exact h
 split
 ·exact h
 rw [calm_opd h,if_neg (by decide)]
 exact ⟨(calm_op h).1,(calm_op h).2⟩
theorem calm_fl {st : St} (h : Unfused st) : Unfused (fl st).2:=by
 unfold fl
 rw [h.2,if_neg (by decide),calm_opd h,if_neg (by decide)]
 exact ⟨(calm_op h).1,(calm_op h).2⟩
theorem wr_len (st : St) (k : Int) (s : ByteArray) : (wr st k s).2.S.length = st.S.length:=by
 unfold wr
 split
 ·rfl
 split
 ·rfl
 split
 ·rfl
 split <;> rfl
theorem fl_len (st : St) : (fl st).2.S.length = st.S.length:=by
 unfold fl
 split
 ·rfl
 split
 ·rfl
 ·exact play_length _ _
theorem er_len : ∀ (l : List Int) (st : St) (f : Bool),(er st f l).2.S.length = st.S.length
 | [],st,f=>by
  cases f with
  | false=>rfl
  | true=>exact fl_len st
 | k :: l,st,f=>by
  by_cases h1 : (rd st k).2 = 0
  ·by_cases h2 : (rd st k).1 = blank
   ·rw [er_skip h1 h2];exact er_len l st f
   ·by_cases h3 : (wr st k blank).1 = 0
    ·rw [er_step h1 h2 h3];exact (er_len l _ true).trans (wr_len _ _ _)
    ·rw [er_stop h1 h2 h3];exact wr_len _ _ _
  ·rw [er_bad h1]
end SegsP
end Go.Proofs.YtnnakhdndmjmiaaGreat
