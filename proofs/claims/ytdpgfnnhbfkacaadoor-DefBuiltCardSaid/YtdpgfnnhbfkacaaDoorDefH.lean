/-
  The contract of the program's Read: any text of up to 300 octets, where the library's variables stand; what was there stays as it was.
-/
import Derived.Test.YtdpgfnnhbfkacaaDoorDefG
import Derived.Test.YtdpgfnnhbfkacaaDoorDefProg
import Derived.Test.YtdpgfnnhbfkacaaDoorStepG
set_option linter.unusedVariables false
set_option linter.unusedSimpArgs false
set_option maxRecDepth 4000
set_option maxRecDepth 4000
namespace Go.Proofs.YtdpgfnnhbfkacaaDoor.Def
open Go.RowKit DefP
open Go.Proofs.YtdpgfnnhbfkacaaDoor.Kt

theorem cut_call (s a b : ByteArray) (ha : cutN s.data.toList = a.data.toList) (hb : cutB s.data.toList = b.data.toList) (w : World) (hs : s.size ≤ 300) (hv : Step.Vars w) :
    Calls Tryd.prog 44 #[.string s, .string ⟨#[32]⟩] w fun e w' => (∃ f, e = .returned (.tuple #[.string a, .string b, .bool f])) ∧ Below w.heap.size w w' := by
  obtain ⟨m, hm⟩ := hv
  refine (Tryd.strings_Cut s ⟨#[32]⟩ m w (by omega) hm).mono ?_
  rintro e w' ⟨he, n, rfl⟩
  refine ⟨?_, below_drewN (Below.refl _ _) _⟩
  rw [show (⟨#[32]⟩ : ByteArray).data.toList = [32] from rfl, StP.cut_lib] at he
  unfold cutN at ha
  unfold cutB at hb
  cases hc : StP.cutAt 32 s.data.toList with
  | none =>
    rw [hc] at he ha hb
    have e1 : s = a := Step.str_eq ha
    have e2 : (⟨#[]⟩ : ByteArray) = b := Step.str_eq hb
    subst e1; subst e2
    refine ⟨false, ?_⟩
    refine he.trans ?_
    show Ending.returned (.tuple #[.string (Step.bs s.data.toList), .string ⟨#[]⟩, .bool false]) = _
    rw [Step.bs_data]
  | some q =>
    obtain ⟨x, y⟩ := q
    rw [hc] at he ha hb
    refine ⟨true, ?_⟩
    rw [he]
    show Ending.returned (.tuple #[.string (Step.bs x), .string (Step.bs y), .bool true]) = _
    rw [show x = a.data.toList from ha, show y = b.data.toList from hb, Step.bs_data, Step.bs_data]
/-- The parts that SplitN tells. -/
def prt (s : ByteArray) : List ByteArray := Lib.splitB ⟨#[44]⟩ 0 (min 7 (s.size + 1) - 1) s
theorem prt_data (s : ByteArray) : (prt s).map (·.data.toList) = StP.partsF 44 (min 7 (s.data.toList.length + 1) - 1) s.data.toList := by
  unfold prt
  rw [Lib.splitB_data, show (⟨#[44]⟩ : ByteArray).data.toList = [44] from rfl, StP.splitK_parts, Step.size_list]
theorem prt_len (s : ByteArray) : (prt s).length ≤ 7 := by
  have := Lib.splitB_length_le ⟨#[44]⟩ 0 (min 7 (s.size + 1) - 1) s
  unfold prt; omega
theorem prt_size (s : ByteArray) : ∀ x ∈ prt s, x.size ≤ s.size := by
  intro x hx
  rw [Step.size_list, Step.size_list]
  refine StP.partsF_small 44 (min 7 (s.data.toList.length + 1) - 1) _ _ ?_
  rw [← prt_data]; exact List.mem_map.2 ⟨x, hx, rfl⟩
def SplitR (s : ByteArray) (w : World) (e : Ending) (w' : World) : Prop := ∃ cap, e = .returned (.slice (some ⟨w.heap.size, 0, none⟩) (prt s).length cap) ∧ Step.PaAt w' w.heap.size (prt s) ∧ Below w.heap.size w w'
theorem split_call (s : ByteArray) (w : World) (hs : s.size ≤ 300) (hv : Step.Vars w) :
    Calls Tryd.prog 45 #[.string s, .string ⟨#[44]⟩, .int .i64 7] w (SplitR s w) := by
  obtain ⟨m, hm⟩ := hv
  refine (Tryd.strings_SplitN s ⟨#[44]⟩ 7 m w (by omega) hm (by decide) (by omega) (by omega)).mono ?_
  rintro e w' ⟨he, hw⟩
  refine ⟨min 7 (s.size + 1), he, ⟨by rw [hw]; simp, fun i x hx => ?_⟩, by rw [hw]; exact (Below.refl _ _).alloc (Nat.le_refl _) _⟩
  rw [hw]
  have hi : i < (prt s).length := by
    rcases Nat.lt_or_ge i (prt s).length with h | h
    · exact h
    · rw [List.getElem?_eq_none h] at hx; cases hx
  rw [World.cell?_alloc_at _ _ _ _ rfl]
  unfold Lib.cellsOf
  rw [List.getElem?_toArray, List.getElem?_append_left (by rw [List.length_map]; exact hi), List.getElem?_map]
  rw [show (Lib.splitB ⟨#[44]⟩ 0 (min 7 (s.size + 1) - 1) s)[i]? = some x from hx]
  rfl
/-- What stands while a definition is read: the result's cell and the definition in two blocks, the parts. -/
structure DS (w W : World) (d h base : Nat) (P : List ByteArray) (n : ByteArray) (v : Value) : Prop where
  bel : Below w.heap.size w W
  res : At2 24 W w.heap.size (.string ⟨#[]⟩) (.slice none 0 0)
  box : At2 24 W d (.string n) v
  prt : Step.PaAt W h P
  dlt : w.heap.size < d
  dhb : d < base
  hlt : h < base
  hge : w.heap.size < h
  hne : h ≠ d
  siz : base ≤ W.heap.size
theorem DS.keep {w W W' : World} {d h base : Nat} {P : List ByteArray} {n : ByteArray} {v : Value} (r : DS w W d h base P n v) (hb : Below W.heap.size W W') : DS w W' d h base P n v :=
  ⟨below_keep r.bel hb r.bel.size, r.res.keep hb, r.box.keep hb, r.prt.keep hb, r.dlt, r.dhb, r.hlt, r.hge, r.hne, Nat.le_trans r.siz hb.size⟩
/-- A row that grows behind them. -/
theorem DS.grown {w W W' : World} {d h base : Nat} {P : List ByteArray} {n : ByteArray} {v : Value} (r : DS w W d h base P n v) (hb : Below base W W') : DS w W' d h base P n v :=
  have hd := r.dlt
  have hb2 := r.dhb
  ⟨r.bel.trans (hb.mono (by omega)), r.res.keepB hb (by omega), r.box.keepB hb r.dhb, r.prt.keepH hb.size (hb.block h r.hlt), r.dlt, r.dhb, r.hlt, r.hge, r.hne, Nat.le_trans r.siz hb.size⟩
theorem DS.set {w W : World} {d h base : Nat} {P : List ByteArray} {n : ByteArray} {v : Value} (r : DS w W d h base P n v) (u : Value) : DS w (W.setCell ⟨d, 1, none⟩ u) d h base P n u := by
  have hs : (W.setCell ⟨d, 1, none⟩ u).heap.size = W.heap.size := by simp
  have ho : ∀ k, k ≠ d → (W.setCell ⟨d, 1, none⟩ u).heap[k]? = W.heap[k]? := fun k hk => heap_setCell_other _ _ _ _ (by exact hk)
  have hd := r.dlt
  refine ⟨r.bel.setCell (p := ⟨d, 1, none⟩) (Nat.le_of_lt r.dlt) _, (ho _ (by omega)).trans r.res, ?_, r.prt.keepH (Nat.le_of_eq hs.symm) (ho _ r.hne), r.dlt, r.dhb, r.hlt, r.hge, r.hne, by rw [hs]; exact r.siz⟩
  have h1 := Lib.heap_setCell_same (i := 1) r.box u
  unfold At2
  rw [h1]
  rfl
theorem owns_set {W : World} {d base k : Nat} {v u : Value} {xs : List Value} (h : W.ownsRow base 29 6 v k xs) (hd : d < base) : (W.setCell ⟨d, 1, none⟩ u).ownsRow base 29 6 v k xs := by
  refine Rw.owns_heap h fun g hg => heap_setCell_other _ _ _ _ ?_
  have := (h.lt g hg).1
  show g ≠ d
  omega
theorem ds_new {w W1 W2 : World} {n : ByteArray} {P : List ByteArray} (hb1 : Below (w.alloc (.cells #[.string ⟨#[]⟩, .slice none 0 0] 24)).heap.size (w.alloc (.cells #[.string ⟨#[]⟩, .slice none 0 0] 24)) W1)
    (hp : Step.PaAt W2 (W1.alloc (.cells #[.string n, .slice none 0 0] 24)).heap.size P) (hb2 : Below (W1.alloc (.cells #[.string n, .slice none 0 0] 24)).heap.size (W1.alloc (.cells #[.string n, .slice none 0 0] 24)) W2) :
    DS w W2 W1.heap.size (W1.heap.size + 1) W2.heap.size P n (.slice none 0 0) := by
  have hz : (w.alloc (.cells #[.string ⟨#[]⟩, .slice none 0 0] 24)).heap.size = w.heap.size + 1 := by simp
  have hz2 : (W1.alloc (.cells #[.string n, .slice none 0 0] 24)).heap.size = W1.heap.size + 1 := by simp
  have a0 : At2 24 (w.alloc (.cells #[.string ⟨#[]⟩, .slice none 0 0] 24)) w.heap.size (.string ⟨#[]⟩) (.slice none 0 0) := at2_new 24 w _ _
  have a1 := at2_new 24 W1 (.string n) (.slice none 0 0)
  have hb0 : Below w.heap.size w (w.alloc (.cells #[.string ⟨#[]⟩, .slice none 0 0] 24)) := (Below.refl _ _).alloc (Nat.le_refl _) _
  have h1 := hb1.size
  rw [hz] at h1
  have hs := hb2.size
  rw [hz2] at hs
  have hp0 := hp.1
  rw [hz2] at hp hp0
  have hba : Below w.heap.size w (W1.alloc (.cells #[.string n, .slice none 0 0] 24)) := (below_keep hb0 hb1 hb0.size).alloc (by omega) _
  exact ⟨below_keep hba hb2 (by omega), ((a0.keep hb1).alloc _).keep hb2, a1.keep hb2, hp, by omega, by omega, hp0, by omega, by omega, Nat.le_refl _⟩
theorem read_is1 (s : ByteArray) (x0 x1 x2 x3 x4 x5 : Int) (er : Int) (hx : StP.gotS (StP.readS s.data.toList) = ⟨x0, x1, x2, x3, x4, x5⟩) (he : StP.errS (StP.readS s.data.toList) = er) (hs : s.size ≤ 300) (w : World) (hv : Step.Vars w) :
    Calls Tryd.prog 46 #[.string s] w fun e w' => e = .returned (.tuple #[.agg #[.int .i64 x0, .int .i64 x1, .int .i64 x2, .int .i64 x3, .int .i64 x4, .int .i64 x5], .int .i64 er]) ∧ Below w.heap.size w w' := by
  have h := Step.read_any s w hs hv
  rw [hx, he] at h
  exact h
/-- A definition and a number that come back; the steps begin a block. -/
def DfZ (w : World) (d : Df) (er : Int) (e : Ending) (w' : World) : Prop :=
  ∃ a c, e = .returned (.tuple #[dv d.name a d.steps.length c, .int .i64 er]) ∧ d.steps.length ≤ c ∧ StAt w' a d.steps.length d.steps ∧ (d.steps.length = 0 ∨ ∃ g, a = some ⟨g, 0, none⟩) ∧ Below w.heap.size w w'
theorem DfZ.at {w w' : World} {d : Df} {s : ByteArray} {l : List Step} {n : Nat} {er : Int} {e : Ending} (h : DfZ w d er e w') (hd : d = ⟨s, l⟩) (hn : l.length = n) : ∃ a c, e = .returned (.tuple #[dv s a n c, .int .i64 er]) ∧ n ≤ c ∧ StAt w' a n l ∧ (n = 0 ∨ ∃ g, a = some ⟨g, 0, none⟩) ∧ Below w.heap.size w w' := by
  subst hd; subst hn; exact h
theorem dfZ_of {w w' : World} {d : Df} {s : ByteArray} {l : List Step} {n : Nat} {er : Int} {a : Option Addr} {c : Nat} (hd : d = ⟨s, l⟩) (hn : l.length = n) (hc : n ≤ c) (ha : StAt w' a n l) (h0 : n = 0 ∨ ∃ g, a = some ⟨g, 0, none⟩) (hb : Below w.heap.size w w') : DfZ w d er (.returned (.tuple #[dv s a n c, .int .i64 er])) w' := by
  subst hd; subst hn; exact ⟨a, c, rfl, hc, ha, h0, hb⟩
theorem dfZ_none {w w' : World} {d : Df} {er : Int} (hd : d = df0) (hb : Below w.heap.size w w') : DfZ w d er (.returned (.tuple #[dv ⟨#[]⟩ none 0 0, .int .i64 er])) w' := by
  subst hd; exact ⟨none, 0, rfl, Nat.le_refl _, Rw.At.nil _ _ _, .inl rfl, hb⟩
theorem off0 {W : World} {B n c size : Nat} {e : TypeId} {a : Option Addr} {xs : List Value} (h : W.ownsRow B e size (.slice a n c) n xs) : n = 0 ∨ ∃ g, a = some ⟨g, 0, none⟩ := by
  rcases Rw.owns_form h with ⟨_, h0⟩ | ⟨g, cap, e, _, _⟩
  · exact .inl h0
  · cases e; exact .inr ⟨g, rfl⟩
theorem bs_arr (n : ByteArray) : (⟨n.data.toList.toArray⟩ : ByteArray) = n := Step.bs_data n

set_option maxHeartbeats 8000000 in
theorem read_any (s : ByteArray) (w : World) (hs : s.size ≤ 300) (hv : Step.Vars w) : Calls Tryd.prog 33 #[.string s] w (DfZ w (gotD (readD s.data.toList)) (errD (readD s.data.toList))) := by
  obtain ⟨R, hR⟩ : ∃ R, readD s.data.toList = R := ⟨_, rfl⟩
  rw [hR]
  have hcl := cut_len s.data.toList
  obtain ⟨na, hna⟩ : ∃ na : ByteArray, cutN s.data.toList = na.data.toList := ⟨Step.bs (cutN s.data.toList), (Step.data_bs _).symm⟩
  obtain ⟨rb, hrb⟩ : ∃ rb : ByteArray, cutB s.data.toList = rb.data.toList := ⟨Step.bs (cutB s.data.toList), (Step.data_bs _).symm⟩
  have hns : na.size ≤ 300 := by rw [Step.size_list] at hs ⊢; rw [← hna]; omega
  have hrs : rb.size ≤ 300 := by rw [Step.size_list] at hs ⊢; rw [← hrb]; omega
  have hR2 : R = finD na.data.toList (goL [] (((prt rb).map (·.data.toList)).drop 0)) := by
    rw [List.drop_zero, prt_data, ← hrb, ← hna, prog_read s.data.toList _ rfl, hR]
  have HR := Lib.hid hR2
  have HV := Lib.hid (fun W (hb : Below w.heap.size w W) => hv.keep hb)
  have hb0 : Below w.heap.size w (w.alloc (.cells #[.string ⟨#[]⟩, .slice none 0 0] 24)) := (Below.refl _ _).alloc (Nat.le_refl _) _
  have CC := Lib.hid (cut_call s na rb hna hrb (w.alloc (.cells #[.string ⟨#[]⟩, .slice none 0 0] 24)) hs (hv.keep hb0))
  clear hR hcl hna hrb hR2 hs hv
  go_enter Tryd.func33, Tryd.ntmps33
  go_wp2_with fail
  refine CC.out.mono ?_
  rintro e w1 ⟨⟨f, rfl⟩, hb1⟩
  have hz1 : w.heap.size ≤ w1.heap.size := by have := hb1.size; rw [World.size_alloc] at this; omega
  have hba : Below w.heap.size w (w1.alloc (.cells #[.string na, .slice none 0 0] 24)) := (below_keep hb0 hb1 hb0.size).alloc hz1 _
  have CS := Lib.hid (split_call rb (w1.alloc (.cells #[.string na, .slice none 0 0] 24)) hrs (HV.out _ hba))
  have HB1 := Lib.hid hb1
  clear hb1 hba CC hb0
  go_wp2_with fail
  refine CS.out.mono ?_
  rintro e w3 ⟨cp, rfl, hP, hb2⟩
  have HS := Lib.hid (ds_new HB1.out hP hb2)
  have HPZ := Lib.hid (prt_size rb)
  have hP7 := prt_len rb
  obtain ⟨P, hPr⟩ : ∃ P, prt rb = P := ⟨_, rfl⟩
  rw [hPr] at HS HPZ hP7 HR
  rw [hPr]
  obtain ⟨n, hn⟩ : ∃ n, P.length = n := ⟨_, rfl⟩
  rw [hn] at hP7
  rw [hn]
  have HN := Lib.hid hn
  obtain ⟨d, hd⟩ : ∃ d, w1.heap.size = d := ⟨_, rfl⟩
  rw [World.size_alloc]
  rw [hd] at HS
  rw [hd]
  obtain ⟨h, hh⟩ : ∃ h, d + 1 = h := ⟨_, rfl⟩
  rw [hh] at HS
  rw [hh]
  clear hP hb2 HB1 CS hPr hn hd hh hz1
  go_wp2_with fail
  go_loopw [23] (fun i wr => ∃ (k : Nat) (acc : List Step) (a : Option Addr) (c : Nat), k ≤ n ∧ i = .int .i64 (k : Int) ∧ acc.length = k ∧ Hid (R = finD na.data.toList (goL acc ((P.map (·.data.toList)).drop k))) ∧ Hid (wr.ownsRow w3.heap.size 29 6 (.slice a k c) k (Rw.cells stS acc)) ∧ Hid (DS w wr d h w3.heap.size P na (.slice a k c))) (fun i _ => n - (intOf i).toNat)
  case atStart => exact ⟨0, [], none, 0, Nat.zero_le _, rfl, rfl, HR, Lib.hid (World.ownsRow_nil _ _ _ _), HS⟩
  case round =>
    obtain ⟨k, acc, a, c, hk, rfl, hal, hD, hO, hS⟩ := hrel
    by_cases hlk : k < n
    · obtain ⟨p, hp⟩ : ∃ p, P[k]? = some p := ⟨P[k]'(by rw [HN.out]; exact hlk), List.getElem?_eq_getElem (by rw [HN.out]; exact hlk)⟩
      have d1 := hS.out.prt.2 k p hp
      have hps : p.size ≤ 300 := Nat.le_trans (HPZ.out p (List.mem_of_getElem? hp)) hrs
      have hpm : (P.map (·.data.toList))[k]? = some p.data.toList := by rw [List.getElem?_map, hp]; rfl
      have hvr := HV.out wr hS.out.bel
      cases hr : StP.readS p.data.toList with
      | none =>
        have HNN : Hid (R = none) := hD.out.trans (by rw [goL_no hpm hr]; rfl)
        have CR := Lib.hid (read_is1 p 0 0 0 0 0 0 7 (by rw [hr]; rfl) (by rw [hr]; rfl) hps wr hvr)
        clear hD hr hpm hp hps hvr
        go_wp2_with fail
        refine CR.out.mono ?_
        rintro e w8 ⟨rfl, hb⟩
        have HS8 := Lib.hid ((hS.out.keep hb).keep ((Below.refl w8.heap.size w8).alloc (Nat.le_refl _) (.cells #[.int .i64 0, .int .i64 0, .int .i64 0, .int .i64 0, .int .i64 0, .int .i64 0] 29)))
        clear hb d1 CR
        obtain ⟨e0, e1⟩ := cells2 HS8.out.res
        obtain ⟨f0, f1⟩ := free2 HS8.out.res
        have HRS := Lib.hid (heap_put2 HS8.out.res (.string ⟨#[]⟩) (.slice none 0 0))
        have HBR := Lib.hid (below_put2 HS8.out.bel (Nat.le_refl _) (.string ⟨#[]⟩) (.slice none 0 0))
        go_wp2_with fail
        exact bodyPost_ret (results_df (j := 2) (k := 3) rfl _ _ w.heap.size _ _ rfl HRS.out) rfl (by rw [HNN.out]; exact dfZ_none rfl HBR.out)
      | some x =>
        obtain ⟨x0, x1, x2, x3, x4, x5⟩ := x
        have HD2 : Hid (R = finD na.data.toList (goL (acc ++ [⟨x0, x1, x2, x3, x4, x5⟩]) ((P.map (·.data.toList)).drop (k + 1)))) := hD.out.trans (by rw [goL_go hpm hr])
        have CR := Lib.hid (read_is1 p x0 x1 x2 x3 x4 x5 0 (by rw [hr]; rfl) (by rw [hr]; rfl) hps wr hvr)
        clear hD hr hpm hp hps hvr
        go_wp2_with fail
        refine CR.out.mono ?_
        rintro e w8 ⟨rfl, hb⟩
        have hba := (Below.refl w8.heap.size w8).alloc (Nat.le_refl _) (.cells #[.int .i64 x0, .int .i64 x1, .int .i64 x2, .int .i64 x3, .int .i64 x4, .int .i64 x5] 29)
        have HS8 := Lib.hid (hS.out.keep hb)
        have HO8 := Lib.hid (Rw.owns_below (Rw.owns_below hO.out hb) hba)
        have HS9 := Lib.hid (HS8.out.keep hba)
        have hsz : w3.heap.size ≤ (w8.alloc (.cells #[.int .i64 x0, .int .i64 x1, .int .i64 x2, .int .i64 x3, .int .i64 x4, .int .i64 x5] 29)).heap.size := HS9.out.siz
        have HY := at6_new 29 w8 (.int .i64 x0) (.int .i64 x1) (.int .i64 x2) (.int .i64 x3) (.int .i64 x4) (.int .i64 x5)
        obtain ⟨y0, y1, y2, y3, y4, y5⟩ := cells6 HY
        obtain ⟨g0, g1⟩ := cells2 HS9.out.box
        clear hb d1 CR hba HY HS8 hS hO
        go_wp2_with (first
          | (at_builtin; refine Rw.append_one stS rfl (.tmp 36) (.tmp 38) rfl w3.heap.size (w8.alloc (.cells #[.int .i64 x0, .int .i64 x1, .int .i64 x2, .int .i64 x3, .int .i64 x4, .int .i64 x5] 29)) _ (World.size_alloc _ _) ⟨x0, x1, x2, x3, x4, x5⟩ _ rfl (.slice a k c) k acc rfl HO8.out rfl (by omega) hsz ?_)
          | fail)
        intro v' w9 hown hgrow
        obtain ⟨a9, c9, rfl, hc9⟩ := Rw.owns_slice hown
        have hbb : Below w3.heap.size (w8.alloc (.cells #[.int .i64 x0, .int .i64 x1, .int .i64 x2, .int .i64 x3, .int .i64 x4, .int .i64 x5] 29)) w9 := Rw.below_append (Below.refl _ _) hsz HO8.out hgrow
        have HSA := Lib.hid (HS9.out.grown hbb)
        have HSB := Lib.hid (HSA.out.set (.slice a9 (k + 1) c9))
        have HOB := Lib.hid (owns_set (u := .slice a9 (k + 1) c9) hown HSA.out.dhb)
        obtain ⟨g0, g1⟩ := cells2 HSA.out.box
        obtain ⟨f0, f1⟩ := free2 HSA.out.box
        clear hown hgrow hbb HO8 HS9 y0 y1 y2 y3 y4 y5
        go_wp2_with fail
        go_roundw
        case rel => exact ⟨k + 1, acc ++ [⟨x0, x1, x2, x3, x4, x5⟩], a9, c9, by omega, by go_num, by rw [List.length_append, hal]; rfl, HD2, HOB, HSB⟩
        case measure => simp [intOf]; omega
    · obtain rfl : k = n := by omega
      have hD2 : R = finD na.data.toList (some acc) := hD.out.trans (by rw [goL_end (by rw [List.length_map, HN.out]; exact Nat.le_refl _)])
      have hat : StAt wr a k acc := Rw.own_at (S := stS) hO.out hal (by omega)
      obtain ⟨v, hv⟩ : ∃ v, fitD ⟨na, acc⟩ = v := ⟨_, rfl⟩
      have CF := Lib.hid (fit_is na a k c acc v hv wr hat (by omega) (by omega))
      have hac := Rw.owns_room hO.out
      obtain ⟨g0, g1⟩ := cells2 hS.out.box
      cases v with
      | false =>
        have HNN : Hid (R = none) := hD2.trans (fin_no (by rw [bs_arr]; exact hv))
        clear hD hD2 hat hv
        go_wp2_with fail
        refine CF.out.mono ?_
        rintro e w8 ⟨rfl, hb⟩
        have HS8 := Lib.hid (hS.out.keep hb)
        clear hb g0 g1
        obtain ⟨e0, e1⟩ := cells2 HS8.out.res
        obtain ⟨f0, f1⟩ := free2 HS8.out.res
        have HRS := Lib.hid (heap_put2 HS8.out.res (.string ⟨#[]⟩) (.slice none 0 0))
        have HBR := Lib.hid (below_put2 HS8.out.bel (Nat.le_refl _) (.string ⟨#[]⟩) (.slice none 0 0))
        go_wp2_with fail
        exact bodyPost_ret (results_df (j := 2) (k := 3) rfl _ _ w.heap.size _ _ rfl HRS.out) rfl (by rw [HNN.out]; exact dfZ_none rfl HBR.out)
      | true =>
        have HYY : Hid (R = some ⟨na, acc⟩) := hD2.trans (by rw [fin_yes (by rw [bs_arr]; exact hv), bs_arr])
        clear hD hD2 hv hat
        go_wp2_with fail
        refine CF.out.mono ?_
        rintro e w8 ⟨rfl, hb⟩
        have HS8 := Lib.hid (hS.out.keep hb)
        have HO8 := Lib.hid (Rw.owns_below hO.out hb)
        clear hb g0 g1
        obtain ⟨g0, g1⟩ := cells2 HS8.out.box
        obtain ⟨e0, e1⟩ := cells2 HS8.out.res
        obtain ⟨f0, f1⟩ := free2 HS8.out.res
        have HRS := Lib.hid (heap_put2 HS8.out.res (.string na) (.slice a k c))
        have HBR := Lib.hid (below_put2 HS8.out.bel (Nat.le_refl _) (.string na) (.slice a k c))
        have HAT : Hid (StAt (put2 w8 w.heap.size (.string na) (.slice a k c)) a k acc) := Rw.own_at (S := stS) (Rw.owns_heap HO8.out fun g hg => put2_other _ _ (by have := (HO8.out.lt g hg).1; have h1 := HS8.out.dlt; have h2 := HS8.out.dhb; omega)) hal (by omega)
        go_wp2_with fail
        exact bodyPost_ret (results_df (j := 2) (k := 3) rfl _ _ w.heap.size _ _ rfl HRS.out) rfl (by rw [HYY.out]; exact dfZ_of rfl hal hac HAT.out (off0 hO.out) HBR.out)
theorem read_is (s : ByteArray) (na : ByteArray) (l : List Step) (n : Nat) (er : Int) (hd : gotD (readD s.data.toList) = ⟨na, l⟩) (he : errD (readD s.data.toList) = er) (hl : l.length = n) (w : World) (hs : s.size ≤ 300) (hv : Step.Vars w) :
    Calls Tryd.prog 33 #[.string s] w fun e w' => ∃ a c, e = .returned (.tuple #[dv na a n c, .int .i64 er]) ∧ n ≤ c ∧ StAt w' a n l ∧ (n = 0 ∨ ∃ g, a = some ⟨g, 0, none⟩) ∧ Below w.heap.size w w' := by
  refine (read_any s w hs hv).mono ?_
  intro e w' h
  rw [he] at h
  exact h.at hd hl
end Go.Proofs.YtdpgfnnhbfkacaaDoor.Def
