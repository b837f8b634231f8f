import Derived.Test.YtnnakhdndmjmiaaGreatPuSuperPlain
import Derived.Test.YtnnakhdndmjmiaaGreatPuStampC
import Derived.Test.YtnnakhdndmjmiaaGreatPuStampF
import Derived.Lib.Join
set_option linter.unusedVariables false
namespace Go.Proofs.YtnnakhdndmjmiaaGreat
namespace WalP
open StampP (opn opn_some opn_sl fit sl)
def Going (num : Nat) (g : List ByteArray) (c : Nat) (ts : List (List UInt8)) : Prop := ∀ i,i < ts.length → ∃ t,g[i]? = some t ∧ opn (tl t) = some (num,i,c,ts.getD i [])
theorem pre_opn {num : Nat} {s : List UInt8} {g : List ByteArray} (hf : Fits num s) (hp : seald num s <+: g) {i : Nat} (hi : i < pc s.length) : ∃ t,g[i]? = some t ∧ opn (tl t) = some (num,i,pc s.length,pt s i) :=
 ⟨_,pre_get hp (seald_get hi),by rw [tl_bs];exact opn_seald hf hi⟩
theorem going_nil (num c : Nat) (g : List ByteArray) : Going num g c []:=fun i hi=>absurd hi (Nat.not_lt_zero _)
theorem going_snoc {num c : Nat} {g : List ByteArray} {ts : List (List UInt8)} {t : ByteArray} {p : List UInt8} (h : Going num g c ts) (hg : g[ts.length]? = some t) (ho : opn (tl t) = some (num,ts.length,c,p)) : Going num g c (ts ++ [p]):=by
 intro i hi
 rw [List.length_append,List.length_singleton] at hi
 by_cases e : i < ts.length
 ·obtain ⟨t',a,b⟩:=h i e
  exact ⟨t',a,by rw [b];simp [List.getD,List.getElem?_append_left e]⟩
 ·obtain rfl : i = ts.length:=by omega
  exact ⟨t,hg,by rw [ho];simp [List.getD]⟩
theorem going_pc {num c : Nat} {g : List ByteArray} {ts : List (List UInt8)} (h : Going num g c ts) (h0 : 0 < ts.length) {s : List UInt8} (hf : Fits num s) (hp : seald num s <+: g) : pc s.length = c:=by
 obtain ⟨t,a,b⟩:=h 0 h0
 obtain ⟨t',a',b'⟩:=pre_opn hf hp (i:=0) (by have:=pc_pos s.length;omega)
 rw [a] at a'
 obtain rfl:=Option.some.inj a'
 rw [b] at b'
 simp only [Option.some.injEq,Prod.mk.injEq] at b'
 exact b'.2.2.1.symm
theorem first_stop0 {num : Nat} {g : List ByteArray} (h : ∀ t,g[0]? = some t → ∀ c p,opn (tl t) ≠ some (num,0,c,p)) : first num g = none:=by
 refine first_none fun s hf hp=>?_
 obtain ⟨t,a,b⟩:=pre_opn hf hp (i:=0) (by have:=pc_pos s.length;omega)
 exact h t a _ _ b
theorem first_stop {num c : Nat} {g : List ByteArray} {ts : List (List UInt8)} (hg : Going num g c ts) (h0 : 0 < ts.length) (hc : ts.length < c) (h : ∀ t,g[ts.length]? = some t → ∀ p,opn (tl t) ≠ some (num,ts.length,c,p)) : first num g = none:=by
 refine first_none fun s hf hp=>?_
 have e:=going_pc hg h0 hf hp
 obtain ⟨t,a,b⟩:=pre_opn hf hp (i:=ts.length) (by omega)
 rw [e] at b
 exact h t a _ b
def pts (s : List UInt8) : List (List UInt8):=(List.range (pc s.length)).map (pt s)
theorem pts_length (s : List UInt8) : (pts s).length = pc s.length:=by simp [pts]
theorem pts_get {s : List UInt8} {i : Nat} (h : i < pc s.length) : (pts s).getD i [] = pt s i:=by simp [pts,List.getD,h]
theorem pts_join (s : List UInt8) : (pts s).flatten = s:=by
 have:=join_all s
 rw [List.flatMap_def] at this
 exact this
theorem going_end {num c : Nat} {g : List ByteArray} {ts : List (List UInt8)} (hg : Going num g c ts) (h0 : 0 < ts.length) (hc : ts.length = c) {s : List UInt8} (hf : Fits num s) (hp : seald num s <+: g) : ts = pts s:=by
 have e:=going_pc hg h0 hf hp
 refine List.ext_getElem (by rw [pts_length,e,hc]) fun i h1 h2=>?_
 obtain ⟨t,a,b⟩:=hg i h1
 obtain ⟨t',a',b'⟩:=pre_opn hf hp (i:=i) (by omega)
 rw [a] at a'
 obtain rfl:=Option.some.inj a'
 rw [b] at b'
 simp only [Option.some.injEq,Prod.mk.injEq] at b'
 have e2:=pts_get (s:=s) (i:=i) (by omega)
 simp only [List.getD,List.getElem?_eq_getElem h1,List.getElem?_eq_getElem h2,Option.getD_some] at b' e2
 rw [b'.2.2.2,e2]
theorem first_not {num c : Nat} {g : List ByteArray} {ts : List (List UInt8)} (hg : Going num g c ts) (h0 : 0 < ts.length) (hc : ts.length = c) (h : ts ≠ pts ts.flatten) : first num g = none:=by
 refine first_none fun s hf hp=>h ?_
 have e:=going_end hg h0 hc hf hp
 have e2 : ts.flatten = s:=by rw [e];exact pts_join s
 rw [e2];exact e
theorem first_done {num c : Nat} {g : List ByteArray} {ts : List (List UInt8)} (hg : Going num g c ts) (h0 : 0 < ts.length) (hc : ts.length = c) (h : ts = pts ts.flatten) : first num g = some ts.flatten ∧ pc ts.flatten.length = ts.length:=by
 have hl : ts.length = pc ts.flatten.length:=by
  have:=congrArg List.length h;rw [pts_length] at this;exact this
 refine ⟨first_some ?_ ?_,hl.symm⟩
 ·obtain ⟨t,a,b⟩:=hg 0 h0
  obtain ⟨_,hf,_⟩:=opn_some b
  unfold fit at hf
  exact ⟨by omega,by omega,by omega⟩
 ·refine pre_of fun i v hv=>?_
  have hi : i < pc ts.flatten.length:=by
   have:=(List.getElem?_eq_some_iff.1 hv).1;rwa [seald_length] at this
  rw [seald_get hi] at hv
  obtain rfl:=(Option.some.inj hv).symm
  obtain ⟨t,a,b⟩:=hg i (by omega)
  rw [a]
  obtain ⟨h1,_,_⟩:=opn_some b
  have e2 : ts.getD i [] = pt ts.flatten i:=by
   have:=pts_get hi
   rw [← h] at this;exact this
  rw [← hc,hl,e2] at h1
  rw [← h1,bs_tl]
/-! The same of texts in memory. -/
theorem bs_flatten (ts : List (List UInt8)) : Lib.join ((ts.map bs).map (·.data.toList)) [] = ts.flatten:=by
 rw [List.map_map]
 rw [show ((fun s : ByteArray=>s.data.toList) ∘ bs) = id from rfl,List.map_id]
 cases ts with
 | nil=>rfl
 | cons x r =>
  rw [Lib.join_cons]
  unfold Lib.joinTail
  simp
theorem part_bs (s : List UInt8) (j : Nat) : part (bs s) j = bs (pt s j):=by
 have e : (part (bs s) j).data.toList = pt s j:=by
  unfold part
  rw [fld_str]
  unfold StampP.fld pt
  have hz : (bs s).size = s.length:=by rw [← tl_length,tl_bs]
  rw [hz]
  show (s.drop (104 * j)).take (min (104 * j + 104) s.length - 104 * j) = (s.drop (104 * j)).take 104
  by_cases h : 104 * j + 104 ≤ s.length
  ·rw [Nat.min_eq_left h];congr 1;omega
  ·rw [List.take_of_length_le (by rw [List.length_drop];omega),List.take_of_length_le (by rw [List.length_drop];omega)]
 rw [← e];exact (bs_tl _).symm
theorem parts_bs (s : List UInt8) : parts (bs s) = (pts s).map bs:=by
 unfold parts pts
 have hz : cnt (bs s).size = pc s.length:=by
  rw [show (bs s).size = s.length by rw [← tl_length,tl_bs]];rfl
 rw [hz,List.map_map]
 exact List.map_congr_left fun j _=>part_bs s j
theorem bs_map_inj {a b : List (List UInt8)} (h : a.map bs = b.map bs) : a = b:=by
 have:=congrArg (List.map tl) h
 rw [List.map_map,List.map_map,show tl ∘ bs = id from rfl,List.map_id,List.map_id] at this
 exact this
end WalP
end Go.Proofs.YtnnakhdndmjmiaaGreat
