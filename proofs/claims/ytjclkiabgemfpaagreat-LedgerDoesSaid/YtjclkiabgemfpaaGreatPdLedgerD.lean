/-
  The contracts of agree, Fit and Find: any books; what was there stays as it was.
-/
import Derived.Test.YtjclkiabgemfpaaGreatPdLedgerC
set_option linter.unusedVariables false
set_option maxRecDepth 4000
namespace Go.Proofs.YtjclkiabgemfpaaGreat.Ledger
open Go.RowKit LinesP HoldsP LedgerP
open StockP (Sk sk0 fitS Fit fitS_iff)
open Go.Proofs.YtjclkiabgemfpaaGreat.Lines (LsAt Sz SzM ret_bool ret_int below_keep below_drewN owns_form owns_cell owns_below)
open Go.Proofs.YtjclkiabgemfpaaGreat.Holds (HsAt SzH hmf ofL_fit sumH_take sumH_step)

def ixP (p : Sk → Bool) : Nat → List Sk → Int
  | _, [] => -1
  | k, x :: r => if p x = true then (k : Int) else ixP p (k + 1) r
theorem ixP_yes {p : Sk → Bool} {l : List Sk} {k : Nat} {x : Sk} (hk : k < l.length) (hx : l.getD k sk0 = x) (h : p x = true) : ixP p k (l.drop k) = (k : Int) := by
  rw [sdrop_at hk hx, ixP, if_pos h]
theorem ixP_no {p : Sk → Bool} {l : List Sk} {k : Nat} {x : Sk} (hk : k < l.length) (hx : l.getD k sk0 = x) (h : p x = false) : ixP p k (l.drop k) = ixP p (k + 1) (l.drop (k + 1)) := by
  rw [sdrop_at hk hx, ixP, if_neg (by rw [h]; simp)]
theorem ixP_done {p : Sk → Bool} {l : List Sk} {k : Nat} (h : ¬ k < l.length) : ixP p k (l.drop k) = -1 := by
  rw [List.drop_eq_nil_of_le (by omega)]; rfl
theorem ixP_any (p : Sk → Bool) : ∀ (l : List Sk) (k : Nat), decide (0 ≤ ixP p k l) = l.any p
  | [], k => rfl
  | x :: r, k => by
    rw [ixP, List.any_cons]
    by_cases h : p x = true
    · rw [if_pos h, h]; simp
    · rw [if_neg h, ixP_any p r (k + 1), show p x = false by simpa using h]; rfl
def pName (s : ByteArray) (x : Sk) : Bool := x.nm.toList == s.toList
def pHeld (x : Sk) : Bool := x.held != 0
theorem ixP_name (s : ByteArray) : ∀ (l : List Sk) (k : Nat), ixP (pName s) k l = ixS s k l
  | [], k => rfl
  | x :: r, k => by
    rw [ixP, ixS, ixP_name s r (k + 1)]
    by_cases h : x.nm = s
    · rw [if_pos h, if_pos (show pName s x = true from same_iff.2 h)]
    · rw [if_neg h, if_neg (show ¬ pName s x = true from fun e => h (same_iff.1 e))]
theorem pheld_any (s : ByteArray) (x0 x1 x2 x3 x4 : Int) (w : World) (b : Bool) (hb : pHeld ⟨s, x0, x1, x2, x3, x4⟩ = b) :
    Calls Tryz.prog 74 #[.agg #[.string s, .int .i64 x0, .int .i64 x1, .int .i64 x2, .int .i64 x3, .int .i64 x4]] w fun e w' => e = .returned (.bool b) ∧ Below w.heap.size w w' := by
  have HB := Lib.hid (bx_new w (.string s) (.int .i64 x0) (.int .i64 x1) (.int .i64 x2) (.int .i64 x3) (.int .i64 x4))
  have hv : (x1 != 0) = b := hb
  have HV := Lib.hid hv
  clear hb
  go_enter Tryz.func74, Tryz.ntmps74
  go_wp2_with fail
  go_ret
  first | exact ⟨rfl, HB.out.bel⟩ | exact ⟨ret_bool HV.out.symm, HB.out.bel⟩ | exact ⟨ret_bool HV.out, HB.out.bel⟩
theorem pname_any (s : ByteArray) (x0 x1 x2 x3 x4 : Int) (t : ByteArray) (bs : Nat) (w : World) (hc : w.cell? ⟨bs, 0, none⟩ = some (.string t)) (hlt : bs < w.heap.size) (b : Bool) (hb : pName t ⟨s, x0, x1, x2, x3, x4⟩ = b) :
    Calls Tryz.prog 34 #[.agg #[.string s, .int .i64 x0, .int .i64 x1, .int .i64 x2, .int .i64 x3, .int .i64 x4], .pointer (some ⟨bs, 0, none⟩)] w fun e w' => e = .returned (.bool b) ∧ Below w.heap.size w w' := by
  have hc2 : (w.alloc (.cells #[.string s, .int .i64 x0, .int .i64 x1, .int .i64 x2, .int .i64 x3, .int .i64 x4] 41)).cell? ⟨bs, 0, none⟩ = some (.string t) := (((Below.refl _ w).alloc (Nat.le_refl _) _).cell (p := ⟨bs, 0, none⟩) hlt).trans hc
  have HB := Lib.hid (bx_new w (.string s) (.int .i64 x0) (.int .i64 x1) (.int .i64 x2) (.int .i64 x3) (.int .i64 x4))
  have hv : (s.toList == t.toList) = b := hb
  have HV := Lib.hid hv
  clear hb
  go_enter Tryz.func34, Tryz.ntmps34
  go_wp2_with fail
  go_ret
  first | exact ⟨rfl, HB.out.bel⟩ | exact ⟨ret_bool HV.out.symm, HB.out.bel⟩ | exact ⟨ret_bool HV.out, HB.out.bel⟩

set_option maxHeartbeats 1000000 in
theorem index_held (a : Option Addr) (len cap : Nat) (l : List Sk) (w : World) (h : SkAt w a len l) :
    Calls Tryz.prog 33 #[.slice a len cap, .func (.func 74) #[] #[]] w fun e w' => e = .returned (.int .i64 (ixP pHeld 0 l)) ∧ Below w.heap.size w w' := by
  have hl := h.2.1
  obtain ⟨v, hv⟩ : ∃ v, ixP pHeld 0 l = v := ⟨_, rfl⟩
  rw [hv]
  have HX := Lib.hid h
  have HV : Hid (v = ixP pHeld 0 (l.drop 0)) := hv.symm
  clear h hv
  go_enter Tryz.func33, Tryz.ntmps33
  go_wp2_with fail
  go_loopw [8] (fun i wr => ∃ k : Nat, k ≤ len ∧ i = .int .i64 (k : Int) ∧ Hid (v = ixP pHeld k (l.drop k)) ∧ Hid (Below w.heap.size w wr)) (fun i _ => len - (intOf i).toNat)
  case atStart => exact ⟨0, Nat.zero_le _, rfl, HV, Below.refl _ w⟩
  case round =>
    obtain ⟨k, hk, rfl, hd, hB⟩ := hrel
    by_cases hlk : k < len
    · have hkx : k < l.length := by rw [HX.out.1]; exact hlk
      obtain ⟨b1, o1, s, x0, x1, x2, x3, x4, rfl, g1, hp, hc1⟩ := HX.out.at hlk
      obtain ⟨d0, d1, d2, d3, d4, d5⟩ := hc1 wr hB.out
      cases hq : pHeld ⟨s, x0, x1, x2, x3, x4⟩ with
      | true =>
        have HD : Hid (v = (k : Int)) := hd.out.trans (ixP_yes hkx hp hq)
        have C := Lib.hid (pheld_any s x0 x1 x2 x3 x4 wr true hq)
        clear hkx hp hd hc1 hq
        go_wp2_with fail
        refine C.out.mono ?_
        rintro e w1 ⟨rfl, hb⟩
        have HB1 := Lib.hid (below_keep hB.out hb hB.out.size)
        go_wp2_with fail
        go_ret
        exact ⟨ret_int HD.out, HB1.out⟩
      | false =>
        have HD := Lib.hid (hd.out.trans (ixP_no hkx hp hq))
        have C := Lib.hid (pheld_any s x0 x1 x2 x3 x4 wr false hq)
        clear hkx hp hd hc1 hq
        go_wp2_with fail
        refine C.out.mono ?_
        rintro e w1 ⟨rfl, hb⟩
        have HB1 := Lib.hid (below_keep hB.out hb hB.out.size)
        go_wp2_with fail
        go_roundw
        case rel => exact ⟨k + 1, by omega, by go_num, HD, HB1⟩
        case measure => simp [intOf]; omega
    · obtain rfl : k = len := by omega
      have HD : Hid (v = -1) := hd.out.trans (ixP_done (by rw [HX.out.1]; exact hlk))
      clear hd
      go_wp2_with fail
      go_ret
      exact ⟨ret_int HD.out, hB.out⟩
set_option maxHeartbeats 1000000 in
theorem index_name (a : Option Addr) (len cap : Nat) (l : List Sk) (t : ByteArray) (bs : Nat) (w : World) (h : SkAt w a len l) (hc : w.cell? ⟨bs, 0, none⟩ = some (.string t)) (hlt : bs < w.heap.size) :
    Calls Tryz.prog 33 #[.slice a len cap, .func (.func 34) #[] #[.pointer (some ⟨bs, 0, none⟩)]] w fun e w' => e = .returned (.int .i64 (ixP (pName t) 0 l)) ∧ Below w.heap.size w w' := by
  have hl := h.2.1
  obtain ⟨v, hv⟩ : ∃ v, ixP (pName t) 0 l = v := ⟨_, rfl⟩
  rw [hv]
  have HX := Lib.hid h
  have HV : Hid (v = ixP (pName t) 0 (l.drop 0)) := hv.symm
  have HC := Lib.hid (fun (w' : World) (hb : Below w.heap.size w w') => (hb.cell (p := ⟨bs, 0, none⟩) hlt).trans hc)
  have HLT := Lib.hid hlt
  clear hc hlt
  clear h hv
  go_enter Tryz.func33, Tryz.ntmps33
  go_wp2_with fail
  go_loopw [8] (fun i wr => ∃ k : Nat, k ≤ len ∧ i = .int .i64 (k : Int) ∧ Hid (v = ixP (pName t) k (l.drop k)) ∧ Hid (Below w.heap.size w wr)) (fun i _ => len - (intOf i).toNat)
  case atStart => exact ⟨0, Nat.zero_le _, rfl, HV, Below.refl _ w⟩
  case round =>
    obtain ⟨k, hk, rfl, hd, hB⟩ := hrel
    by_cases hlk : k < len
    · have hkx : k < l.length := by rw [HX.out.1]; exact hlk
      obtain ⟨b1, o1, s, x0, x1, x2, x3, x4, rfl, g1, hp, hc1⟩ := HX.out.at hlk
      obtain ⟨d0, d1, d2, d3, d4, d5⟩ := hc1 wr hB.out
      cases hq : (pName t) ⟨s, x0, x1, x2, x3, x4⟩ with
      | true =>
        have HD : Hid (v = (k : Int)) := hd.out.trans (ixP_yes hkx hp hq)
        have C := Lib.hid (pname_any s x0 x1 x2 x3 x4 t bs wr (HC.out wr hB.out) (Nat.lt_of_lt_of_le HLT.out hB.out.size) true hq)
        clear hkx hp hd hc1 hq
        go_wp2_with fail
        refine C.out.mono ?_
        rintro e w1 ⟨rfl, hb⟩
        have HB1 := Lib.hid (below_keep hB.out hb hB.out.size)
        go_wp2_with fail
        go_ret
        exact ⟨ret_int HD.out, HB1.out⟩
      | false =>
        have HD := Lib.hid (hd.out.trans (ixP_no hkx hp hq))
        have C := Lib.hid (pname_any s x0 x1 x2 x3 x4 t bs wr (HC.out wr hB.out) (Nat.lt_of_lt_of_le HLT.out hB.out.size) false hq)
        clear hkx hp hd hc1 hq
        go_wp2_with fail
        refine C.out.mono ?_
        rintro e w1 ⟨rfl, hb⟩
        have HB1 := Lib.hid (below_keep hB.out hb hB.out.size)
        go_wp2_with fail
        go_roundw
        case rel => exact ⟨k + 1, by omega, by go_num, HD, HB1⟩
        case measure => simp [intOf]; omega
    · obtain rfl : k = len := by omega
      have HD : Hid (v = -1) := hd.out.trans (ixP_done (by rw [HX.out.1]; exact hlk))
      clear hd
      go_wp2_with fail
      go_ret
      exact ⟨ret_int HD.out, hB.out⟩
theorem contains_any (a : Option Addr) (len cap : Nat) (l : List Sk) (v : Bool) (hv : l.any pHeld = v) (w : World) (h : SkAt w a len l) :
    Calls Tryz.prog 73 #[.slice a len cap, .func (.func 74) #[] #[]] w fun e w' => e = .returned (.bool v) ∧ Below w.heap.size w w' := by
  have C := Lib.hid (index_held a len cap l w h)
  have hv2 := (ixP_any pHeld l 0).trans hv
  obtain ⟨i, hi⟩ : ∃ i, ixP pHeld 0 l = i := ⟨_, rfl⟩
  rw [hi] at C hv2
  have hv3 : decide (i ≥ 0) = v := hv2
  have HV := Lib.hid hv3
  clear h hv hi hv2 hv3
  go_enter Tryz.func73, Tryz.ntmps73
  go_wp2_with fail
  refine C.out.mono ?_
  rintro e w1 ⟨rfl, hb⟩
  have HB := Lib.hid hb
  clear hb
  go_wp2_with fail
  go_ret
  exact ⟨ret_bool HV.out.symm, HB.out⟩
/-! ### agree -/
def lessF (f : ByteArray → Int) (l : List Sk) : List Sk := l.map fun x => { x with held := x.held - f x.nm }
theorem lessF_len (f : ByteArray → Int) (l : List Sk) : (lessF f l).length = l.length := by simp [lessF]
theorem lessF_get {f : ByteArray → Int} {l : List Sk} {p : Nat} {y : Sk} (hp : p < l.length) (hy : l.getD p sk0 = y) : (lessF f l).getD p sk0 = { y with held := y.held - f y.nm } := by
  subst hy
  simp [lessF, List.getD, hp]
theorem lessF_up {f : ByteArray → Int} {l : List Sk} (h : UpS l) : UpS (lessF f l) := map_nm (f := fun x => { x with held := x.held - f x.nm }) (fun x => rfl) h
theorem lessF_pos {f : ByteArray → Int} (s : ByteArray) : ∀ (l : List Sk), posS s (lessF f l) = posS s l
  | [] => rfl
  | x :: r => by
    show posS s ({ x with held := x.held - f x.nm } :: lessF f r) = _
    rw [posS, posS, lessF_pos s r]
theorem lessF_find {f : ByteArray → Int} (s : ByteArray) (l : List Sk) : (findS s (lessF f l)).isSome = (findS s l).isSome := by
  unfold lessF
  rw [map_find (f := fun x => { x with held := x.held - f x.nm }) (fun x => rfl)]
  cases findS s l <;> rfl
theorem lessF_zero (l : List Sk) : lessF (fun _ => 0) l = l := by
  unfold lessF
  conv => rhs; rw [← List.map_id l]
  apply List.map_congr_left
  intro x _
  simp
theorem lessF_congr {f g : ByteArray → Int} {l : List Sk} (h : ∀ s, f s = g s) : lessF f l = lessF g l := by
  rw [show f = g from funext h]
theorem up_get {l : List Sk} (h : UpS l) {i j : Nat} (hi : i < l.length) (hj : j < l.length) (e : (l.getD i sk0).nm = (l.getD j sk0).nm) : i = j := by
  have hp := List.pairwise_iff_getElem.1 h
  have ei : l.getD i sk0 = l[i] := by simp [List.getD, hi]
  have ej : l.getD j sk0 = l[j] := by simp [List.getD, hj]
  rw [ei, ej] at e
  rcases Nat.lt_trichotomy i j with k | k | k
  · exact absurd e (lt_ne (hp i j hi hj k))
  · exact k
  · exact absurd e.symm (lt_ne (hp j i hj hi k))
theorem lessF_set {f : ByteArray → Int} {l : List Sk} {p : Nat} {y : Sk} (n : Int) (h : UpS l) (hp : p < l.length) (hy : l.getD p sk0 = y) :
    (lessF f l).set p { y with held := y.held - f y.nm - n } = lessF (fun u => f u + if u = y.nm then n else 0) l := by
  apply List.ext_getElem?
  intro i
  rw [List.getElem?_set, lessF_len]
  by_cases e : p = i
  · subst e
    rw [if_pos rfl, if_pos hp]
    have hg : l[p]? = some y := by rw [← hy]; simp [List.getD, hp]
    simp only [lessF, List.getElem?_map, hg, Option.map_some]
    congr 2
    simp only [if_true]
    omega
  · rw [if_neg e]
    simp only [lessF, List.getElem?_map]
    cases hg : l[i]? with
    | none => rfl
    | some x =>
      have hi : i < l.length := (List.getElem?_eq_some_iff.1 hg).1
      have hx : l.getD i sk0 = x := by simp [List.getD, hg]
      have hne : ¬ x.nm = y.nm := fun k => e (up_get h hp hi (by rw [hy, hx]; exact k.symm))
      simp only [Option.map_some, if_neg hne, Int.add_zero]
theorem ofL_snoc {u : ByteArray} {ls : List Ln} {k : Nat} {z : Ln} (hl : ls.Pairwise (fun x y => lt x.1 y.1)) (hk : k < ls.length) (hz : ls.getD k ln0 = z) :
    ofL u (ls.take (k + 1)) = ofL u (ls.take k) + if u = z.1 then z.2 else 0 := by
  have e : ls.take (k + 1) = ls.take k ++ [z] := by
    rw [List.take_succ_eq_append_getElem hk, ← hz]; simp [List.getD, hk]
  have hp : (ls.take k ++ [z]).Pairwise (fun x y => lt x.1 y.1) := by rw [← e]; exact hl.sublist (List.take_sublist _ _)
  rw [e]
  clear e hk hz hl
  generalize ls.take k = q at *
  induction q with
  | nil =>
    show ofL u [z] = 0 + _
    rw [ofL_cons]
    by_cases h : z.1 = u
    · rw [if_pos h, if_pos h.symm]; omega
    · rw [if_neg h, if_neg fun k => h k.symm]; rfl
  | cons x r ih =>
    have hp2 := List.pairwise_cons.1 hp
    rw [List.cons_append, ofL_cons, ofL_cons, ih hp2.2]
    by_cases h : x.1 = u
    · have : ¬ u = z.1 := fun k => lt_ne (hp2.1 z (by simp)) (h.trans k)
      rw [if_pos h, if_pos h, if_neg this]; omega
    · rw [if_neg h, if_neg h]
theorem all_less (hd : List Hd) (l : List Sk) : (!(lessF (fun u => sumH u hd) l).any pHeld) = heldAll hd l := by
  unfold lessF heldAll
  induction l with
  | nil => rfl
  | cons x r ih =>
    rw [List.map_cons, List.any_cons, List.all_cons, ← ih]
    simp only [Bool.not_or]
    congr 1
    show (!(x.held - sumH x.nm hd != 0)) = (x.held == sumH x.nm hd)
    by_cases h : x.held = sumH x.nm hd
    · rw [beq_iff_eq.2 h, show x.held - sumH x.nm hd = 0 by omega]; rfl
    · rw [beq_eq_false_iff_ne.2 h]
      have h2 : ¬ x.held - sumH x.nm hd = 0 := by omega
      simpa using h2

theorem scells_held : ∀ {l : List Sk} {p : Nat} {x : Sk} {r : Int}, p < l.length → l.getD p sk0 = x → (scells l).set (p * 6 + 2) (.int .i64 r) = scells (l.set p { x with held := r })
  | [], p, x, r, h, _ => by simp at h
  | y :: q, 0, x, r, h, hx => by simp at hx; subst hx; rfl
  | y :: q, p + 1, x, r, h, hx => by
    have ih := scells_held (l := q) (p := p) (x := x) (r := r) (by simpa using h) (by simpa using hx)
    show _ = scell y ++ scells (q.set p { x with held := r })
    rw [← ih, show (p + 1) * 6 + 2 = (p * 6 + 2) + 1 + 1 + 1 + 1 + 1 + 1 by omega]
    rfl
def Lf (sk : List Sk) (hd : List Hd) (i : Nat) (q : List Ln) : List Sk := lessF (fun u => sumH u (hd.take i) + ofL u q) sk
theorem Lf_start (sk : List Sk) (hd : List Hd) : Lf sk hd 0 [] = sk := by
  unfold Lf
  rw [lessF_congr (g := fun _ => 0) (fun s => by simp [sumH, ofL]), lessF_zero]
theorem Lf_next {sk : List Sk} {hd : List Hd} {i : Nat} {x : Hd} (hk : i < hd.length) (hx : hd.getD i hd0 = x) {q : List Ln} (hq : q = x.ls) : Lf sk hd i q = Lf sk hd (i + 1) [] := by
  unfold Lf
  refine lessF_congr fun s => ?_
  rw [sumH_step hk hx, hq]
  simp [ofL]
theorem Lf_end (sk : List Sk) (hd : List Hd) {i : Nat} (h : ¬ i < hd.length) : (!(Lf sk hd i []).any pHeld) = heldAll hd sk := by
  unfold Lf
  rw [List.take_of_length_le (by omega), lessF_congr (g := fun u => sumH u hd) (fun s => by simp [ofL]), all_less]
set_option maxHeartbeats 4000000 in
theorem agree_any (a : Option Addr) (len cap : Nat) (a2 : Option Addr) (len2 cap2 : Nat) (b : Bk) (w : World) (h : SkAt w a len b.sk) (h2 : HsAt w a2 len2 b.hd) (hn : len ≤ 12) (hu : UpS b.sk) (hf : fitH b.hd = true) (hbd : ∀ x ∈ b.sk, 0 ≤ x.held ∧ x.held ≤ 1099511627776) :
    Calls Tryz.prog 38 #[.agg #[.slice a len cap, .slice a2 len2 cap2]] w fun e w' => e = .returned (.bool (agrB b)) ∧ Below w.heap.size w w' := by
  obtain ⟨v, hv⟩ : ∃ v, agrB b = v := ⟨_, rfl⟩
  rw [hv]
  obtain ⟨sk, hd⟩ := b
  simp only at h h2 hu hf hbd
  have hlen2 := h2.len
  have h16 : len2 ≤ 16 := by rw [← hlen2]; exact (fitH_iff.1 hf).1
  obtain ⟨E, hE⟩ : ∃ E, heldAll hd sk = E := ⟨_, rfl⟩
  have HE := Lib.hid hE
  have HV : Hid (v = (presB sk (hd.drop 0) && E)) := by
    show v = _
    rw [← hv, ← hE]; rfl
  have hb0 : Below w.heap.size w (w.alloc (.cells #[.slice a len cap, .slice a2 len2 cap2] 33)) := (Below.refl _ w).alloc (Nat.le_refl _) _
  have k0 : (w.alloc (.cells #[.slice a len cap, .slice a2 len2 cap2] 33)).cell? ⟨w.heap.size, 0, none⟩ = some (.slice a len cap) := by rw [World.cell?_alloc_new]; rfl
  have k1 : (w.alloc (.cells #[.slice a len cap, .slice a2 len2 cap2] 33)).cell? ⟨w.heap.size, 1, none⟩ = some (.slice a2 len2 cap2) := by rw [World.cell?_alloc_new]; rfl
  have hs0 : w.heap.size < (w.alloc (.cells #[.slice a len cap, .slice a2 len2 cap2] 33)).heap.size := by rw [World.size_alloc]; omega
  obtain ⟨w0, hw0⟩ : ∃ w0, w.alloc (.cells #[.slice a len cap, .slice a2 len2 cap2] 33) = w0 := ⟨_, rfl⟩
  rw [hw0] at hb0 k0 k1 hs0
  have C := Lib.hid (cloneS a len cap sk w0 (h.keep hb0) (by omega))
  have HW := Lib.hid hw0
  have HX := Lib.hid h; have HH := Lib.hid h2; have HU := Lib.hid hu; have HF := Lib.hid hf; have HBD := Lib.hid hbd
  have HB0 := Lib.hid hb0
  have HS0 := Lib.hid hs0
  have HK1 := Lib.hid k1
  clear h h2 hu hf hbd hv hw0 hE hb0 hlen2 hs0
  go_enter Tryz.func38, Tryz.ntmps38
  go_wp2_with fail
  rw [show w.alloc (.cells #[.slice a len cap, .slice a2 len2 cap2] 33) = w0 from HW.out]
  go_wp2_with fail
  refine C.out.mono ?_
  rintro e w1 ⟨a1, c1, rfl, hO, hb1⟩
  have HO1 : Hid (w1.ownsRow w.heap.size 41 6 (.slice a1 len c1) len (scells (Lf sk hd 0 []))) := by
    rw [Lf_start]; exact Holds.owns_base hO HB0.out.size
  have HB1 := Lib.hid (below_keep HB0.out hb1 HB0.out.size)
  have k2 := (hb1.cell (p := ⟨w.heap.size, 1, none⟩) HS0.out).trans HK1.out
  clear hO hb1 k0 k1
  go_wp2_with fail
  clear k2
  go_loopw [16] (fun i wr => ∃ k : Nat, k ≤ len2 ∧ i = .int .i64 (k : Int) ∧ Hid (v = (presB sk (hd.drop k) && E)) ∧ Hid (wr.ownsRow w.heap.size 41 6 (.slice a1 len c1) len (scells (Lf sk hd k []))) ∧ Hid (Below w.heap.size w wr)) (fun i _ => len2 - (intOf i).toNat)
  case atStart => exact ⟨0, Nat.zero_le _, rfl, HV, HO1, HB1⟩
  case round =>
    obtain ⟨k, hk, rfl, hd1, hO, hB⟩ := hrel
    by_cases hlk : k < len2
    · have hkx : k < hd.length := by rw [HH.out.len]; exact hlk
      obtain ⟨b1, o1, sg, la, lc, ls, t, rfl, g1, hp, hc1⟩ := HH.out.at hlk
      obtain ⟨d1, d2, d3, dL⟩ := hc1 wr hB.out
      have hone := (fitH_iff.1 HF.out).2.1 _ (Holds.mem_getD hkx)
      rw [hp] at hone
      have hfl : fitL ls = true := oneH_fit hone.1
      have hl4 : ls.length ≤ 4 := by
        have h := hfl
        unfold fitL at h
        rw [Bool.and_eq_true, decide_eq_true_eq] at h
        exact h.1
      obtain ⟨n, hn2⟩ : ∃ n, ls.length = n := ⟨_, rfl⟩
      rw [hn2] at d2 dL hl4
      have hbx := Holds.box_below wr sg la n lc t
      obtain ⟨x1, x2, x3⟩ := Holds.box_cells wr sg la n lc t (Below.refl _ _)
      obtain ⟨W, hW⟩ : ∃ W, wr.alloc (.cells #[.int .i64 sg, .slice la n lc, .int .i64 t] 69) = W := ⟨_, rfl⟩
      have hW2 : Holds.box wr sg la n lc t = W := hW
      rw [hW2] at hbx x1 x2 x3
      have HWW := Lib.hid hW
      have HLW : Hid (∀ w', Below w.heap.size w w' → LsAt w' la n ls) := by
        intro w' hb
        have h := (hc1 w' hb).2.2.2
        rw [hn2] at h
        exact h
      have HBW := Lib.hid (below_keep hB.out hbx hB.out.size)
      have HOW := Lib.hid (owns_below hO.out hbx)
      have HN := Lib.hid hn2
      have HFL := Lib.hid hfl
      have HP := Lib.hid hp
      have HKX := Lib.hid hkx
      obtain ⟨R, hR⟩ : ∃ R, (presB sk (hd.drop (k + 1)) && E) = R := ⟨_, rfl⟩
      have HR := Lib.hid hR
      have hd3 : v = (presL sk (ls.drop 0) && R) := by
        rw [hd1.out, drop_at hkx hp, presB_cons, ← hR, Bool.and_assoc]; rfl
      have HD3 := Lib.hid hd3
      clear hc1 hone hfl hn2 hW hW2 hbx dL hp hkx hR hd3 g1
      go_wp2_with fail
      rw [show wr.alloc (.cells #[.int .i64 sg, .slice la n lc, .int .i64 t] 69) = W from HWW.out]
      go_wp2_with fail
      clear x1 x2 x3 d1 d2 d3
      go_loopw [23] (fun i wr2 => ∃ m : Nat, m ≤ n ∧ i = .int .i64 (m : Int) ∧ Hid (v = (presL sk (ls.drop m) && R)) ∧ Hid (wr2.ownsRow w.heap.size 41 6 (.slice a1 len c1) len (scells (Lf sk hd k (ls.take m)))) ∧ Hid (Below w.heap.size w wr2)) (fun i _ => n - (intOf i).toNat)
      case atStart => exact ⟨0, Nat.zero_le _, rfl, HD3, (by rw [List.take_zero]; exact HOW.out), HBW⟩
      case round =>
        obtain ⟨m, hm, rfl, hdm, hOm, hBm⟩ := hrel
        have hLm := Lib.hid (HLW.out wr hBm.out)
        by_cases hmn : m < n
        · have hmx : m < ls.length := by rw [HN.out]; exact hmn
          rcases hLm.out.2.2 with h0 | ⟨b3, o3, hla, g3, hc3⟩
          · omega
          cases hla
          obtain ⟨⟨s, q⟩, hz⟩ : ∃ z, ls.getD m ln0 = z := ⟨_, rfl⟩
          obtain ⟨y1, y2⟩ := hc3 m hmn
          rw [hz] at y1 y2
          simp only at y1 y2
          have hqz := qty_iff.1 (fitL_mem HFL.out (s, q) (by rw [← hz, show ls.getD m ln0 = ls[m] by simp [List.getD, hmx]]; exact List.getElem_mem hmx)).2
          simp only at hqz
          have hbb := Lines.boxed_below wr s q
          obtain ⟨z1, z2⟩ := Lines.boxed_cells wr s q
          rw [Lines.boxed_alloc] at hbb z1 z2
          obtain ⟨V, hV⟩ : ∃ V, wr.alloc (.cells #[.string s, .int .i64 q] 54) = V := ⟨_, rfl⟩
          rw [hV] at hbb z1 z2
          have HVV := Lib.hid hV
          have hOV := owns_below hOm.out hbb
          have HBV := Lib.hid (below_keep hBm.out hbb hBm.out.size)
          have hll : (Lf sk hd k (ls.take m)).length = len := (lessF_len _ _).trans HX.out.1
          have hCp := place_any a1 len c1 (Lf sk hd k (ls.take m)) s V (sk_own hOV hll (by omega)) (lessF_up HU.out)
          unfold Lf at hCp
          rw [lessF_pos, lessF_find] at hCp
          have HOV := Lib.hid hOV
          have HZ1 := Lib.hid z2
          have HHV : Hid (wr.heap.size < V.heap.size) := by
            show wr.heap.size < V.heap.size
            rw [← HVV.out, World.size_alloc]; omega
          cases hfs : findS s sk with
          | none =>
            rw [hfs] at hCp
            have HV0 : Hid (v = false) := by
              show v = false
              rw [hdm.out, presL_no hmx hz hfs]; rfl
            obtain ⟨p, hp⟩ : ∃ p, posS s sk = p := ⟨_, rfl⟩
            rw [hp] at hCp
            have CP := Lib.hid hCp
            clear hc3 hCp hp hfs hz hmx hdm hV hOV hll hbb hqz
            go_wp2_with fail
            rw [show wr.alloc (.cells #[.string s, .int .i64 q] 54) = V from HVV.out]
            go_wp2_with fail
            refine CP.out.mono ?_
            rintro e w5 ⟨rfl, hb5⟩
            have HB5 := Lib.hid (below_keep HBV.out hb5 HBV.out.size)
            clear hb5
            go_wp2_with fail
            go_ret
            exact ⟨ret_bool HV0.out, HB5.out⟩
          | some y =>
            rw [hfs] at hCp
            obtain ⟨hpl, hpy, hpn⟩ := placeS_found HU.out hfs
            have hstep : Hid (v = (presL sk (ls.drop (m + 1)) && R)) := hdm.out.trans (by rw [presL_go hmx hz hfs])
            have hyb := HBD.out y (findS_mem hfs).1
            obtain ⟨p, hp⟩ : ∃ p, posS s sk = p := ⟨_, rfl⟩
            rw [hp] at hCp hpl hpy
            have hpn2 : p < len := by rw [← HX.out.1]; exact hpl
            have CP := Lib.hid hCp
            obtain ⟨F, hF⟩ : ∃ F : ByteArray → Int, (fun u => sumH u (hd.take k) + ofL u (ls.take m)) = F := ⟨_, rfl⟩
            have hFb : 0 ≤ F y.nm ∧ F y.nm ≤ 16777216 + 1048576 := by
              rw [← hF]
              have h1 := sumH_take (s := y.nm) HF.out k
              have h2 := Holds.ofL_bound y.nm (l := ls.take m) (fun x hx => qty_iff.1 (fitL_mem HFL.out x (List.mem_of_mem_take hx)).2)
              simp only
              omega
            have hset : (lessF F sk).set p { y with held := y.held - F y.nm - q } = Lf sk hd k (ls.take (m + 1)) := by
              rw [lessF_set q HU.out hpl hpy]
              unfold Lf
              refine lessF_congr fun u => ?_
              rw [ofL_snoc (fitL_up HFL.out) hmx hz, ← hF]
              simp only [hpn]
              omega
            have HSET := Lib.hid hset
            have hOF : V.ownsRow w.heap.size 41 6 (.slice a1 len c1) len (scells (lessF F sk)) := by
              have := HOV.out
              unfold Lf at this
              rw [hF] at this
              exact this
            have HOF := Lib.hid hOF
            have hgy := lessF_get (f := F) hpl hpy
            obtain ⟨s', q0, q1, q2, q3, q4⟩ := y
            simp only at hyb hFb hset hgy hpn
            obtain ⟨r, hr⟩ : ∃ r, q1 - F s' = r := ⟨_, rfl⟩
            rw [hr] at hgy
            have hrb : -1048576000 ≤ r ∧ r ≤ 1099511627776 := by omega
            have HGY := Lib.hid hgy
            have HRR := Lib.hid hr
            have hpl2 : p < (lessF F sk).length := by rw [lessF_len]; exact hpl
            have HPL := Lib.hid hpl2
            rcases owns_form hOF with ⟨e, h0⟩ | ⟨g, cc, e, hg, hlt⟩
            · omega
            cases e
            have HLO := Lib.hid hg
            have HGV := Lib.hid hlt
            clear hc3 hCp hp hfs hz hmx hdm hV hOV hll hbb hyb hF hFb hset hOF hgy hr hpl hpy hpn hpl2 hg hlt HBD hd1
            go_wp2_with fail
            rw [show wr.alloc (.cells #[.string s, .int .i64 q] 54) = V from HVV.out]
            go_wp2_with fail
            refine CP.out.mono ?_
            rintro e w5 ⟨rfl, hb5⟩
            have hO5 := owns_below HOF.out hb5
            obtain ⟨⟨x, hx, c0, cc1, c2, c3, c4, c5⟩, f0, f1, f2, f3, f4, f5⟩ := owns_six hO5 HPL.out
            rw [HGY.out] at hx
            subst hx
            simp only at c2
            have zq := (hb5.cell (p := ⟨wr.heap.size, 1, none⟩) HHV.out).trans HZ1.out
            have hO6 := (hO5.stored (p * 6 + 2) (.int .i64 (r - q))).1
            have hcs : (scells (lessF F sk)).set (p * 6 + 2) (.int .i64 (r - q)) = scells (Lf sk hd k (ls.take (m + 1))) := by
              rw [← HSET.out, ← HRR.out, scells_held HPL.out HGY.out]
            rw [hcs] at hO6
            have HO6 := Lib.hid hO6
            have HB6 : Hid (Below w.heap.size w (w5.setCell ⟨g, p * 6 + 2, none⟩ (.int .i64 (r - q)))) := (below_keep HBV.out hb5 HBV.out.size).setCell (p := ⟨g, p * 6 + 2, none⟩) HLO.out _
            clear hO5 hO6 hcs hb5 c0 cc1 c3 c4 c5 f0 f1 f3 f4 f5
            have hw1 : IntKind.i64.wrap (r - q) = r - q := by rw [IntKind.wrap_i64]; omega
            have hi0 : (0 : Int) ≤ (p : Int) := by omega
            have hi1 : (p : Int) < (len : Int) := by omega
            go_wp2_with fail
            go_region
            go_wp2_with fail
            go_roundw
            case rel => exact ⟨m + 1, by omega, by go_num, hstep, HO6, HB6.out.drew⟩
            case measure => simp [intOf]; omega
        · obtain rfl : m = n := by omega
          have hdn : Hid (v = (presB sk (hd.drop (k + 1)) && E)) := by
            show v = _
            rw [hdm.out, presL_done (by rw [HN.out]; omega), HR.out]; rfl
          have hOn := hOm.out
          rw [Lf_next HKX.out HP.out (List.take_of_length_le (Nat.le_of_eq HN.out))] at hOn
          have HON := Lib.hid hOn
          clear hOn hdm
          go_wp2_with fail
          go_roundw
          case rel => exact ⟨k + 1, by omega, by go_num, hdn, HON, hBm⟩
          case measure => simp [intOf]; omega
    · obtain rfl : k = len2 := by omega
      have hend := Lf_end sk hd (i := k) (by rw [HH.out.len]; exact hlk)
      rw [HE.out] at hend
      have hvE : v = E := by
        rw [hd1.out, pres_done (by rw [HH.out.len]; exact hlk), Bool.true_and]
      obtain ⟨X, hX⟩ : ∃ X, (Lf sk hd k []).any pHeld = X := ⟨_, rfl⟩
      rw [hX, ← hvE] at hend
      have hll : (Lf sk hd k []).length = len := (lessF_len _ _).trans HX.out.1
      have CC := Lib.hid (contains_any a1 len c1 (Lf sk hd k []) X hX wr (sk_own hO.out hll (by omega)))
      have HEND := Lib.hid hend
      clear hd1 hX hll hend hvE
      go_wp2_with fail
      refine CC.out.mono ?_
      rintro e w5 ⟨rfl, hb5⟩
      have HB5 := Lib.hid (below_keep hB.out hb5 hB.out.size)
      clear hb5
      go_wp2_with fail
      go_ret
      exact ⟨ret_bool HEND.out.symm, HB5.out⟩
/-! ### Fit -/
theorem fit_held {l : List Sk} (h : ∀ x ∈ l, fitS x = true) : ∀ x ∈ l, 0 ≤ x.held ∧ x.held ≤ 1099511627776 := fun x hx => ⟨(fitS_iff.1 (h x hx)).held, (fitS_iff.1 (h x hx)).up.2.1⟩
abbrev bbox (w : World) (a : Option Addr) (len cap : Nat) (a2 : Option Addr) (len2 cap2 : Nat) : World := w.alloc (.cells #[.slice a len cap, .slice a2 len2 cap2] 33)
structure BB (w w' : World) (a : Option Addr) (len cap : Nat) (a2 : Option Addr) (len2 cap2 : Nat) : Prop where
  bel : Below w.heap.size w w'
  lt : w.heap.size < w'.heap.size
  c0 : w'.cell? ⟨w.heap.size, 0, none⟩ = some (.slice a len cap)
  c1 : w'.cell? ⟨w.heap.size, 1, none⟩ = some (.slice a2 len2 cap2)
theorem BB.keep {w w' w2 : World} {a : Option Addr} {len cap : Nat} {a2 : Option Addr} {len2 cap2 : Nat} (h : BB w w' a len cap a2 len2 cap2) (hb : Below w'.heap.size w' w2) : BB w w2 a len cap a2 len2 cap2 :=
  ⟨h.bel.trans (hb.mono (Nat.le_of_lt h.lt)), Nat.lt_of_lt_of_le h.lt hb.size, (hb.cell (p := ⟨w.heap.size, 0, none⟩) h.lt).trans h.c0, (hb.cell (p := ⟨w.heap.size, 1, none⟩) h.lt).trans h.c1⟩
theorem bb_new (w : World) (a : Option Addr) (len cap : Nat) (a2 : Option Addr) (len2 cap2 : Nat) : BB w (bbox w a len cap a2 len2 cap2) a len cap a2 len2 cap2 :=
  ⟨(Below.refl _ w).alloc (Nat.le_refl _) _, by rw [World.size_alloc]; omega, by rw [World.cell?_alloc_new]; rfl, by rw [World.cell?_alloc_new]; rfl⟩
structure BkAt (w : World) (a : Option Addr) (len : Nat) (a2 : Option Addr) (len2 cap2 : Nat) (b : Bk) : Prop where
  sk : SkAt w a len b.sk
  hd : HsAt w a2 len2 b.hd
  room : len2 ≤ cap2
theorem BkAt.keep {w w' : World} {a : Option Addr} {len : Nat} {a2 : Option Addr} {len2 cap2 : Nat} {b : Bk} (h : BkAt w a len a2 len2 cap2 b) (hb : Below w.heap.size w w') : BkAt w' a len a2 len2 cap2 b := ⟨h.sk.keep hb, h.hd.keep hb, h.room⟩
structure SzB (b : Bk) : Prop where
  sk : SzS b.sk
  hd : SzH b.hd
  ls : ∀ x ∈ b.hd, x.ls.length ≤ 1000000
  ln : b.sk.length ≤ 1000000
  lh : b.hd.length ≤ 1000000
theorem hfit_is (a : Option Addr) (len cap : Nat) (l : List Hd) (b : Bool) (hb : fitH l = b) (w : World) (h : HsAt w a len l) (hz : SzH l) :
    Calls Tryz.prog 37 #[.slice a len cap] w fun e w' => e = .returned (.bool b) ∧ Below w.heap.size w w' := by
  have := Holds.fit_any a len cap l w h hz
  rw [hb] at this
  exact this
set_option maxHeartbeats 1000000 in
theorem fit_any (a : Option Addr) (len cap : Nat) (a2 : Option Addr) (len2 cap2 : Nat) (b : Bk) (v : Bool) (hv : fitB b = v) (w : World) (h : BkAt w a len a2 len2 cap2 b) (hz : SzB b) :
    Calls Tryz.prog 14 #[.agg #[.slice a len cap, .slice a2 len2 cap2]] w fun e w' => e = .returned (.bool v) ∧ Below w.heap.size w w' := by
  rw [fitB_parts] at hv
  have HN := bb_new w a len cap a2 len2 cap2
  have hw0 : w.alloc (.cells #[.slice a len cap, .slice a2 len2 cap2] 33) = bbox w a len cap a2 len2 cap2 := rfl
  obtain ⟨w0, he⟩ : ∃ w0, bbox w a len cap a2 len2 cap2 = w0 := ⟨_, rfl⟩
  rw [he] at HN hw0
  have HW := Lib.hid hw0
  have HN := Lib.hid HN
  have CA := asc_any a len cap b.sk w0 (h.sk.keep HN.out.bel) hz.sk
  have CF := Lib.hid (fun w' v (hb : Below w.heap.size w w') hv => hfit_is a2 len2 cap2 b.hd v hv w' (h.hd.keep hb) hz.hd)
  have hc := HN.out.c0
  have hc1 := HN.out.c1
  clear he hw0
  cases hA : ascS b.sk with
  | false =>
    rw [hA] at CA hv
    have CA := Lib.hid CA
    have HV := Lib.hid hv
    clear h hz hA hv
    go_enter Tryz.func14, Tryz.ntmps14
    go_wp2_with fail
    rw [show w.alloc (.cells #[.slice a len cap, .slice a2 len2 cap2] 33) = w0 from HW.out]
    go_wp2_with fail
    refine CA.out.mono ?_
    rintro e w1 ⟨rfl, hb⟩
    have HB := Lib.hid (HN.out.keep hb)
    clear hb hc hc1
    go_wp2_with fail
    go_ret
    exact ⟨ret_bool HV.out.symm, HB.out.bel⟩
  | true =>
    rw [hA] at CA hv
    have CA := Lib.hid CA
    obtain ⟨hl, hfs, hup⟩ := ascS_up hA
    cases hF : fitH b.hd with
    | false =>
      rw [hF] at hv
      have HV := Lib.hid hv
      have CF := Lib.hid (fun w' hb => CF.out w' false hb hF)
      clear h hz hA hv hF hl hfs hup
      go_enter Tryz.func14, Tryz.ntmps14
      go_wp2_with fail
      rw [show w.alloc (.cells #[.slice a len cap, .slice a2 len2 cap2] 33) = w0 from HW.out]
      go_wp2_with fail
      refine CA.out.mono ?_
      rintro e w1 ⟨rfl, hb⟩
      have HB := Lib.hid (HN.out.keep hb)
      clear hb hc hc1
      have hc1 := HB.out.c1
      go_wp2_with fail
      refine (CF.out w1 HB.out.bel).mono ?_
      rintro e w2 ⟨rfl, hb⟩
      have HB2 := Lib.hid (HB.out.keep hb)
      clear hb hc1
      go_wp2_with fail
      go_ret
      exact ⟨ret_bool HV.out.symm, HB2.out.bel⟩
    | true =>
      rw [hF] at hv
      have hv2 : agrB b = v := hv
      have CF := Lib.hid (fun w' hb => CF.out w' true hb hF)
      have CG := Lib.hid (fun w' (hb : Below w.heap.size w w') => agree_any a len cap a2 len2 cap2 b w' (h.sk.keep hb) (h.hd.keep hb) (by rw [← h.sk.1]; exact hl) hup hF (fit_held hfs))
      rw [hv2] at CG
      clear h hz hA hv hF hl hfs hup hv2
      go_enter Tryz.func14, Tryz.ntmps14
      go_wp2_with fail
      rw [show w.alloc (.cells #[.slice a len cap, .slice a2 len2 cap2] 33) = w0 from HW.out]
      go_wp2_with fail
      refine CA.out.mono ?_
      rintro e w1 ⟨rfl, hb⟩
      have HB := Lib.hid (HN.out.keep hb)
      clear hb hc hc1
      have hc1 := HB.out.c1
      go_wp2_with fail
      refine (CF.out w1 HB.out.bel).mono ?_
      rintro e w2 ⟨rfl, hb⟩
      have HB2 := Lib.hid (HB.out.keep hb)
      clear hb hc1
      have hc := HB2.out.c0
      have hc1 := HB2.out.c1
      go_wp2_with fail
      refine (CG.out w2 HB2.out.bel).mono ?_
      rintro e w3 ⟨rfl, hb⟩
      have HB3 := Lib.hid (HB2.out.keep hb)
      clear hb hc hc1
      go_wp2_with fail
      go_ret
      exact ⟨rfl, HB3.out.bel⟩
/-! ### Find -/
def getS (o : Option Sk) : Sk := o.getD sk0
set_option maxHeartbeats 1000000 in
theorem find_any (a : Option Addr) (len cap : Nat) (a2 : Option Addr) (len2 cap2 : Nat) (b : Bk) (s : ByteArray) (o : Option Sk) (ho : findS s b.sk = o) (w : World) (h : SkAt w a len b.sk) :
    Calls Tryz.prog 11 #[.agg #[.slice a len cap, .slice a2 len2 cap2], .string s] w fun e w' => e = .returned (.tuple #[skV (getS o), .bool o.isSome]) ∧ Below w.heap.size w w' := by
  have hmf := hmf
  have hl := h.2.1
  have HX := Lib.hid h
  have HN := bb_new w a len cap a2 len2 cap2
  have k1 : Below (w.heap.size + 1) (bbox w a len cap a2 len2 cap2) ((bbox w a len cap a2 len2 cap2).alloc (.cells #[.string s] 9)) := by
    have hb := (Below.refl (bbox w a len cap a2 len2 cap2).heap.size (bbox w a len cap a2 len2 cap2)).alloc (Nat.le_refl _) (.cells #[.string s] 9)
    rw [World.size_alloc] at hb
    exact hb
  have k2 : ((bbox w a len cap a2 len2 cap2).alloc (.cells #[.string s] 9)).cell? ⟨w.heap.size + 1, 0, none⟩ = some (.string s) := by
    have := World.cell?_alloc_new (bbox w a len cap a2 len2 cap2) #[.string s] 9 0
    rw [World.size_alloc] at this
    rw [this]; rfl
  have k3 := at6_new ((bbox w a len cap a2 len2 cap2).alloc (.cells #[.string s] 9)) (.string ⟨#[]⟩) (.int .i64 0) (.int .i64 0) (.int .i64 0) (.int .i64 0) (.int .i64 0)
  rw [show ((bbox w a len cap a2 len2 cap2).alloc (.cells #[.string s] 9)).heap.size = w.heap.size + 2 by simp] at k3
  have k4 : Below (w.heap.size + 2) ((bbox w a len cap a2 len2 cap2).alloc (.cells #[.string s] 9)) (((bbox w a len cap a2 len2 cap2).alloc (.cells #[.string s] 9)).alloc (.cells #[.string ⟨#[]⟩, .int .i64 0, .int .i64 0, .int .i64 0, .int .i64 0, .int .i64 0] 41)) := by
    have hb := (Below.refl ((bbox w a len cap a2 len2 cap2).alloc (.cells #[.string s] 9)).heap.size ((bbox w a len cap a2 len2 cap2).alloc (.cells #[.string s] 9))).alloc (Nat.le_refl _) (.cells #[.string ⟨#[]⟩, .int .i64 0, .int .i64 0, .int .i64 0, .int .i64 0, .int .i64 0] 41)
    rw [show ((bbox w a len cap a2 len2 cap2).alloc (.cells #[.string s] 9)).heap.size = w.heap.size + 2 by simp] at hb
    exact hb
  have hN2 := (HN.keep (by rw [World.size_alloc]; exact k1)).keep (by rw [show ((bbox w a len cap a2 len2 cap2).alloc (.cells #[.string s] 9)).heap.size = w.heap.size + 2 by simp]; exact k4)
  have k5 := (k4.cell (p := ⟨w.heap.size + 1, 0, none⟩) (Nat.lt_succ_self _)).trans k2
  have k6 : (((bbox w a len cap a2 len2 cap2).alloc (.cells #[.string s] 9)).alloc (.cells #[.string ⟨#[]⟩, .int .i64 0, .int .i64 0, .int .i64 0, .int .i64 0, .int .i64 0] 41)).heap.size = w.heap.size + 3 := by simp
  clear HN k1 k2 k4
  obtain ⟨w0, he⟩ : ∃ w0, ((bbox w a len cap a2 len2 cap2).alloc (.cells #[.string s] 9)).alloc (.cells #[.string ⟨#[]⟩, .int .i64 0, .int .i64 0, .int .i64 0, .int .i64 0, .int .i64 0] 41) = w0 := ⟨_, rfl⟩
  have hw0 : ((w.alloc (.cells #[.slice a len cap, .slice a2 len2 cap2] 33)).alloc (.cells #[.string s] 9)).alloc (.cells #[.string ⟨#[]⟩, .int .i64 0, .int .i64 0, .int .i64 0, .int .i64 0, .int .i64 0] 41) = w0 := he
  rw [he] at hN2 k3 k5 k6
  have HW := Lib.hid hw0
  have HN := Lib.hid hN2
  have H6 : Hid (At6 w0 (w.heap.size + 2) (.string ⟨#[]⟩) (.int .i64 0) (.int .i64 0) (.int .i64 0) (.int .i64 0) (.int .i64 0)) := k3
  have C := Lib.hid (index_name a len cap b.sk s (w.heap.size + 1) w0 (h.keep hN2.bel) k5 (by rw [k6]; omega))
  have HS0 := Lib.hid k6
  rw [ixP_name] at C
  have hc := hN2.c0
  clear hN2 k3 k5 k6 hw0 he h
  rcases ixS_find s b.sk 0 with ⟨hn, hi⟩ | ⟨k, hk, hi, hn⟩
  · rw [hi] at C
    have hno : o = none := ho.symm.trans hn
    subst hno
    clear hi hn ho
    go_enter Tryz.func11, Tryz.ntmps11
    go_wp2_with fail
    rw [show ((w.alloc (.cells #[.slice a len cap, .slice a2 len2 cap2] 33)).alloc (.cells #[.string s] 9)).alloc (.cells #[.string ⟨#[]⟩, .int .i64 0, .int .i64 0, .int .i64 0, .int .i64 0, .int .i64 0] 41) = w0 from HW.out]
    go_wp2_with fail
    refine C.out.mono ?_
    rintro e w2 ⟨rfl, hb⟩
    have HB2 := Lib.hid (HN.out.keep hb)
    have hA := H6.out.keep hb
    have HA := Lib.hid hA
    obtain ⟨z0, z1, z2, z3, z4, z5⟩ := cells6 hA
    obtain ⟨f0, f1, f2, f3, f4, f5⟩ := free6 hA
    clear hA hb hc
    go_wp2_with fail
    have HRS := Lib.hid (heap_put6 HA.out (.string ⟨#[]⟩) (.int .i64 0) (.int .i64 0) (.int .i64 0) (.int .i64 0) (.int .i64 0))
    have HB3 := Lib.hid (below_put6 HB2.out.bel (show w.heap.size ≤ w.heap.size + 2 by omega) (.string ⟨#[]⟩) (.int .i64 0) (.int .i64 0) (.int .i64 0) (.int .i64 0) (.int .i64 0))
    exact bodyPost_ret (results_sku (j := 4) (k := 5) rfl _ _ (w.heap.size + 2) _ _ _ _ _ _ rfl HRS.out) rfl ⟨rfl, HB3.out⟩
  · rw [Nat.zero_add] at hi
    rw [hi] at C
    have hkl : k < len := by rw [← HX.out.1]; exact hk
    obtain ⟨b1, o1, t, x0, x1, x2, x3, x4, rfl, g1, hp, hc1⟩ := HX.out.at hkl
    have hno : o = some ⟨t, x0, x1, x2, x3, x4⟩ := by rw [← ho, hn, hp]
    subst hno
    have HC1 := Lib.hid hc1
    clear hi hn ho hp hk hc1
    go_enter Tryz.func11, Tryz.ntmps11
    go_wp2_with fail
    rw [show ((w.alloc (.cells #[.slice (some ⟨b1, o1, none⟩) len cap, .slice a2 len2 cap2] 33)).alloc (.cells #[.string s] 9)).alloc (.cells #[.string ⟨#[]⟩, .int .i64 0, .int .i64 0, .int .i64 0, .int .i64 0, .int .i64 0] 41) = w0 from HW.out]
    go_wp2_with fail
    refine C.out.mono ?_
    rintro e w2 ⟨rfl, hb⟩
    have HB2 := Lib.hid (HN.out.keep hb)
    have hA := H6.out.keep hb
    have HA := Lib.hid hA
    obtain ⟨z0, z1, z2, z3, z4, z5⟩ := cells6 hA
    obtain ⟨f0, f1, f2, f3, f4, f5⟩ := free6 hA
    obtain ⟨d0, d1, d2, d3, d4, d5⟩ := HC1.out w2 HB2.out.bel
    have hc2 := HB2.out.c0
    clear hA hb hc
    go_wp2_with fail
    have HRS := Lib.hid (heap_put6 HA.out (.string t) (.int .i64 x0) (.int .i64 x1) (.int .i64 x2) (.int .i64 x3) (.int .i64 x4))
    have HB3 := Lib.hid (below_put6 HB2.out.bel (show w.heap.size ≤ w.heap.size + 2 by omega) (.string t) (.int .i64 x0) (.int .i64 x1) (.int .i64 x2) (.int .i64 x3) (.int .i64 x4))
    exact bodyPost_ret (results_sku (j := 4) (k := 5) rfl _ _ (w.heap.size + 2) _ _ _ _ _ _ rfl HRS.out) rfl ⟨rfl, HB3.out⟩
end Go.Proofs.YtjclkiabgemfpaaGreat.Ledger

/-
  The contracts of slices.Equal at items and of Same: any books; what was there stays as it was.
-/
set_option linter.unusedVariables false
set_option maxRecDepth 4000
namespace Go.Proofs.YtjclkiabgemfpaaGreat.Ledger
open Go.RowKit LinesP HoldsP LedgerP
open StockP (Sk sk0 fitS Fit fitS_iff)
open Go.Proofs.YtjclkiabgemfpaaGreat.Lines (LsAt Sz SzM ret_bool ret_int below_keep below_drewN)
open Go.Proofs.YtjclkiabgemfpaaGreat.Holds (HsAt SzH hmf eqH eqH_iff)

def eqS (x y : Sk) : Bool := x.nm.toList == y.nm.toList && (x.hand == y.hand && (x.held == y.held && (x.kept == y.kept && (x.sent == y.sent && x.inn == y.inn))))
theorem eqS_iff {x y : Sk} : eqS x y = true ↔ x = y := by
  unfold eqS
  simp only [Bool.and_eq_true, beq_iff_eq]
  constructor
  · rintro ⟨h0, h1, h2, h3, h4, h5⟩
    exact StockP.sk_ext (same_iff.1 (beq_iff_eq.2 h0)) h1 h2 h3 h4 h5
  · rintro rfl
    exact ⟨rfl, rfl, rfl, rfl, rfl, rfl⟩
def eqU : List Sk → List Sk → Bool
  | [], [] => true
  | x :: a, y :: b => eqS x y && eqU a b
  | _, _ => false
theorem eqU_iff : ∀ {a b : List Sk}, eqU a b = true ↔ a = b
  | [], [] => by simp [eqU]
  | [], y :: b => by simp [eqU]
  | x :: a, [] => by simp [eqU]
  | x :: a, y :: b => by rw [eqU, Bool.and_eq_true, eqU_iff, eqS_iff, List.cons.injEq]
theorem eqU_len {a b : List Sk} (h : a.length ≠ b.length) : eqU a b = false := by
  cases he : eqU a b with
  | false => rfl
  | true => exact absurd (congrArg List.length (eqU_iff.1 he)) h
theorem eqU_done {a b : List Sk} {k : Nat} (h1 : ¬ k < a.length) (h2 : ¬ k < b.length) : eqU (a.drop k) (b.drop k) = true := by
  rw [List.drop_eq_nil_of_le (by omega), List.drop_eq_nil_of_le (by omega)]; rfl
theorem eqU_no {a b : List Sk} {k : Nat} {x y : Sk} (h1 : k < a.length) (h2 : k < b.length) (hx : a.getD k sk0 = x) (hy : b.getD k sk0 = y) (h : eqS x y = false) : eqU (a.drop k) (b.drop k) = false := by
  rw [sdrop_at h1 hx, sdrop_at h2 hy, eqU, h]; rfl
theorem eqU_go {a b : List Sk} {k : Nat} {x y : Sk} (h1 : k < a.length) (h2 : k < b.length) (hx : a.getD k sk0 = x) (hy : b.getD k sk0 = y) (h : eqS x y = true) : eqU (a.drop k) (b.drop k) = eqU (a.drop (k + 1)) (b.drop (k + 1)) := by
  rw [sdrop_at h1 hx, sdrop_at h2 hy, eqU, h]; rfl
abbrev sv (s : ByteArray) (x0 x1 x2 x3 x4 : Int) : Value := .agg #[.string s, .int .i64 x0, .int .i64 x1, .int .i64 x2, .int .i64 x3, .int .i64 x4]
theorem eql_in_sku (s t : ByteArray) (x0 x1 x2 x3 x4 y0 y1 y2 y3 y4 : Int) (w : World) : (binOp .neq 41 (sv s x0 x1 x2 x3 x4) (sv t y0 y1 y2 y3 y4)).run Tryz.prog w = .ok (.bool (!(eqS ⟨s, x0, x1, x2, x3, x4⟩ ⟨t, y0, y1, y2, y3, y4⟩))) w := by
  have hS : Tryz.prog.underlying 41 = some (.struct (Tryz.prog.fieldsOf 41)) := by kernel_rfl
  have hp : Tryz.prog.stoodInHeld 41 = false := by kernel_rfl
  have u3 := Tryz.underlying3
  have u9 := Tryz.underlying9
  have a3 := Tryz.isAgg3
  have a9 := Tryz.isAgg9
  have z3 := Tryz.sizeOf3
  have z9 := Tryz.sizeOf9
  rw [run_neq_struct, show (10000 : Nat) = 9999 + 1 from rfl, run_equalIn_agg w 9999 41 _ _ hS hp]
  simp only [Program.fieldsOf, Tryz.underlying41]
  go_simp
  unfold eqS
  by_cases h0 : s.toList = t.toList
  · by_cases h1 : x0 = y0
    · by_cases h2 : x1 = y1
      · by_cases h3 : x2 = y2
        · by_cases h4 : x3 = y3
          · by_cases h5 : x4 = y4 <;> simp [h0, h1, h2, h3, h4, h5]
          · simp [h0, h1, h2, h3, h4]
        · simp [h0, h1, h2, h3]
      · simp [h0, h1, h2]
    · simp [h0, h1]
  · simp [h0]
theorem guard_sku (x y : Operand) (s t : ByteArray) (x0 x1 x2 x3 x4 y0 y1 y2 y3 y4 : Int) (w : World) : (eqGuard .neq 41 x y (sv s x0 x1 x2 x3 x4) (sv t y0 y1 y2 y3 y4)).run Tryz.prog w = .ok () w := run_eqGuard_agg w _ _ _ _ _ _ (by kernel_rfl)

set_option maxHeartbeats 2000000 in
theorem equal_any (a c : Option Addr) (la ca lc cc : Nat) (x y : List Sk) (w : World) (h1 : SkAt w a la x) (h2 : SkAt w c lc y) :
    Calls Tryz.prog 42 #[.slice a la ca, .slice c lc cc] w fun e w' => e = .returned (.bool (eqU x y)) ∧ Below w.heap.size w w' := by
  obtain ⟨v, hv⟩ : ∃ v, eqU x y = v := ⟨_, rfl⟩
  rw [hv]
  have hla := h1.2.1
  have hlc := h2.2.1
  by_cases hne : la = lc
  · subst hne
    have HX := Lib.hid h1; have HY := Lib.hid h2; have HV := Lib.hid hv
    clear h1 h2 hv hlc
    go_enter Tryz.func42, Tryz.ntmps42
    go_wp2_with fail
    go_loopw [13] (fun i wr => ∃ k : Nat, k ≤ la ∧ i = .int .i64 (k : Int) ∧ Hid (v = eqU (x.drop k) (y.drop k)) ∧ Hid (Below w.heap.size w wr)) (fun i _ => la - (intOf i).toNat)
    case atStart => exact ⟨0, Nat.zero_le _, rfl, HV.out.symm, Below.refl _ w⟩
    case round =>
      obtain ⟨k, hk, rfl, hd, hB⟩ := hrel
      by_cases hlk : k < la
      · have hkx : k < x.length := by rw [HX.out.1]; exact hlk
        have hky : k < y.length := by rw [HY.out.1]; exact hlk
        obtain ⟨b1, o1, s, x0, x1, x2, x3, x4, rfl, g1, hp, hc1⟩ := HX.out.at hlk
        obtain ⟨b2, o2, t, y0, y1, y2, y3, y4, rfl, g2, hq, hc2⟩ := HY.out.at hlk
        obtain ⟨d0, d1, d2, d3, d4, d5⟩ := hc1 wr hB.out
        obtain ⟨e0, e1, e2, e3, e4, e5⟩ := hc2 wr hB.out
        clear hc1 hc2 g1 g2
        cases heq : eqS ⟨s, x0, x1, x2, x3, x4⟩ ⟨t, y0, y1, y2, y3, y4⟩ with
        | true =>
          have HD := Lib.hid (hd.out.trans (eqU_go hkx hky hp hq heq))
          have hneq := fun w => eql_in_sku s t x0 x1 x2 x3 x4 y0 y1 y2 y3 y4 w
          have hgd := fun x y w => guard_sku x y s t x0 x1 x2 x3 x4 y0 y1 y2 y3 y4 w
          rw [heq] at hneq
          have HB2 := Lib.hid hB.out
          clear hd hp hq heq hkx hky hB
          go_wp2_with fail
          go_quiet (fail)
          go_wp2_with fail
          go_roundw
          case rel => exact ⟨k + 1, by omega, by go_num, HD, below_drewN HB2.out _⟩
          case measure => simp [intOf]; omega
        | false =>
          have HD := Lib.hid (hd.out.trans (eqU_no hkx hky hp hq heq))
          have hneq := fun w => eql_in_sku s t x0 x1 x2 x3 x4 y0 y1 y2 y3 y4 w
          have hgd := fun x y w => guard_sku x y s t x0 x1 x2 x3 x4 y0 y1 y2 y3 y4 w
          rw [heq] at hneq
          have HB2 := Lib.hid hB.out
          clear hd hp hq heq hkx hky hB
          go_wp2_with fail
          go_quiet (fail)
          go_wp2_with fail
          go_ret
          exact ⟨ret_bool HD.out, below_drewN HB2.out _⟩
      · obtain rfl : k = la := by omega
        have HD := Lib.hid (hd.out.trans (eqU_done (by rw [HX.out.1]; exact hlk) (by rw [HY.out.1]; exact hlk)))
        clear hd
        go_wp2_with fail
        go_ret
        exact ⟨ret_bool HD.out, hB.out⟩
  · have hx := h1.1
    have hy := h2.1
    have hn3 : ((la : Int) != (lc : Int)) = true := by simp; omega
    have HD := Lib.hid (hv.symm.trans (eqU_len (a := x) (b := y) (by rw [hx, hy]; exact hne)))
    clear h1 h2 hv hx hy
    go_enter Tryz.func42, Tryz.ntmps42
    go_wp2_with fail
    go_ret
    exact ⟨ret_bool HD.out, Below.refl _ _⟩
def eqB (x y : Bk) : Bool := eqU x.sk y.sk && eqH x.hd y.hd
theorem eqB_iff {x y : Bk} : eqB x y = true ↔ x = y := by
  unfold eqB
  rw [Bool.and_eq_true, eqU_iff, eqH_iff]
  cases x; cases y; simp
theorem hsame_is (a c : Option Addr) (la ca lc cc : Nat) (x y : List Hd) (v : Bool) (hv : eqH x y = v) (w : World) (h1 : HsAt w a la x) (h2 : HsAt w c lc y) :
    Calls Tryz.prog 43 #[.slice a la ca, .slice c lc cc] w fun e w' => e = .returned (.bool v) ∧ Below w.heap.size w w' := by
  have := Holds.same_any a c la ca lc cc x y w h1 h2
  rw [hv] at this
  exact this
set_option maxHeartbeats 1000000 in
theorem same_any (a : Option Addr) (n cap : Nat) (a2 : Option Addr) (n2 cap2 : Nat) (c : Option Addr) (m cap3 : Nat) (c2 : Option Addr) (m2 cap4 : Nat) (x y : Bk) (v : Bool) (hv : eqB x y = v) (w : World) (h : BkAt w a n a2 n2 cap2 x) (k : BkAt w c m c2 m2 cap4 y) :
    Calls Tryz.prog 16 #[.agg #[.slice a n cap, .slice a2 n2 cap2], .agg #[.slice c m cap3, .slice c2 m2 cap4]] w fun e w' => e = .returned (.bool v) ∧ Below w.heap.size w w' := by
  have N1 := bb_new w a n cap a2 n2 cap2
  have N2 := bb_new (bbox w a n cap a2 n2 cap2) c m cap3 c2 m2 cap4
  have N1' := N1.keep N2.bel
  obtain ⟨w1, hw1⟩ : ∃ w1, bbox (bbox w a n cap a2 n2 cap2) c m cap3 c2 m2 cap4 = w1 := ⟨_, rfl⟩
  have hs1 : (bbox w a n cap a2 n2 cap2).heap.size = w.heap.size + 1 := by simp [bbox]
  have c0 := N2.c0
  have c1 := N2.c1
  have hlt := N2.lt
  rw [hs1] at c0 c1 hlt
  rw [hw1] at c0 c1 hlt N1'
  have HW := Lib.hid (show (w.alloc (.cells #[.slice a n cap, .slice a2 n2 cap2] 33)).alloc (.cells #[.slice c m cap3, .slice c2 m2 cap4] 33) = w1 from hw1)
  have HN := Lib.hid N1'
  have HC1 := Lib.hid c1
  have HLT := Lib.hid hlt
  have b0 := N1'.c0
  have b1 := N1'.c1
  have C := Lib.hid (equal_any a c n cap m cap3 x.sk y.sk w1 (h.sk.keep N1'.bel) (k.sk.keep N1'.bel))
  have CH := Lib.hid (fun w' v (hb : Below w.heap.size w w') hv => hsame_is a2 c2 n2 cap2 m2 cap4 x.hd y.hd v hv w' (h.hd.keep hb) (k.hd.keep hb))
  unfold eqB at hv
  clear N1 N2 N1' hw1 hs1 h k hlt
  cases hq : eqU x.sk y.sk with
  | false =>
    rw [hq] at C hv
    have HV := Lib.hid hv
    clear hq hv CH
    go_enter Tryz.func16, Tryz.ntmps16
    go_wp2_with fail
    rw [show (w.alloc (.cells #[.slice a n cap, .slice a2 n2 cap2] 33)).alloc (.cells #[.slice c m cap3, .slice c2 m2 cap4] 33) = w1 from HW.out]
    go_wp2_with fail
    refine C.out.mono ?_
    rintro e w2 ⟨rfl, hb⟩
    have HB := Lib.hid (HN.out.keep hb)
    clear hb b0 b1 c0 c1
    go_wp2_with fail
    go_ret
    exact ⟨ret_bool HV.out.symm, HB.out.bel⟩
  | true =>
    rw [hq] at C hv
    have hv2 : eqH x.hd y.hd = v := hv
    have CH := Lib.hid (fun w' hb => CH.out w' v hb hv2)
    clear hq hv hv2
    go_enter Tryz.func16, Tryz.ntmps16
    go_wp2_with fail
    rw [show (w.alloc (.cells #[.slice a n cap, .slice a2 n2 cap2] 33)).alloc (.cells #[.slice c m cap3, .slice c2 m2 cap4] 33) = w1 from HW.out]
    go_wp2_with fail
    refine C.out.mono ?_
    rintro e w2 ⟨rfl, hb⟩
    have HB := Lib.hid (HN.out.keep hb)
    have d1 := (hb.cell (p := ⟨w.heap.size + 1, 1, none⟩) HLT.out).trans HC1.out
    clear hb b0 b1 c0 c1
    have b1 := HB.out.c1
    go_wp2_with fail
    refine (CH.out w2 HB.out.bel).mono ?_
    rintro e w3 ⟨rfl, hb⟩
    have HB3 := Lib.hid (HB.out.keep hb)
    clear hb b1 d1
    go_wp2_with fail
    go_ret
    exact ⟨rfl, HB3.out.bel⟩
end Go.Proofs.YtjclkiabgemfpaaGreat.Ledger
