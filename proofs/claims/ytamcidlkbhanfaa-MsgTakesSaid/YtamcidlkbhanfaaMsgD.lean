/-
  The contracts of take, TakeEntry and TakeReply: any reader; nothing changes but the reader.
-/
import Derived.Test.YtamcidlkbhanfaaMsgC
set_option linter.unusedVariables false
set_option linter.unusedSimpArgs false
set_option maxRecDepth 4000
namespace Go.Proofs.Ytamcidlkbhanfaa.Msg
open Go.RowKit MsgP
open Go.Proofs.Ytamcidlkbhanfaa.Kt

open Wire (RdAt RdStep)
open WireP (enc flag rdInt rdFlag done left)
/-- Nothing changed but two blocks. -/
structure Gr2 (w w' : World) (q b : Nat) : Prop where
  os : w'.os = w.os
  tape : w'.tape = w.tape
  output : w'.output = w.output
  size : w.heap.size ≤ w'.heap.size
  block : ∀ k, k < w.heap.size → k ≠ q → k ≠ b → w'.heap[k]? = w.heap[k]?
theorem Gr2.refl (w : World) (q b : Nat) : Gr2 w w q b := ⟨rfl, rfl, rfl, Nat.le_refl _, fun _ _ _ _ => rfl⟩
theorem Gr2.trans {u v w : World} {q b : Nat} (h : Gr2 u v q b) (k : Gr2 v w q b) : Gr2 u w q b :=
  ⟨k.os.trans h.os, k.tape.trans h.tape, k.output.trans h.output, Nat.le_trans h.size k.size, fun i hi h1 h2 => (k.block i (Nat.lt_of_lt_of_le hi h.size) h1 h2).trans (h.block i hi h1 h2)⟩
theorem Gr2.read {w w' : World} {q b : Nat} (h : w.grownBy w' (some q)) : Gr2 w w' q b := ⟨h.os, h.tape, h.output, h.size, fun k hk h1 _ => h.block k hk (fun e => h1 (by cases e; rfl))⟩
theorem Gr2.store (w : World) (q b i : Nat) (v : Value) : Gr2 w (w.setCell ⟨b, i, none⟩ v) q b :=
  ⟨rfl, rfl, rfl, by simp [World.setCell], fun k _ _ hk => heap_setCell_other _ _ _ _ hk⟩
theorem Gr2.below {w w' : World} {q b : Nat} (h : Below w.heap.size w w') : Gr2 w w' q b := ⟨h.os, h.tape, h.output, h.size, fun k hk _ _ => h.block k hk⟩
/-- Behind what only grew about a reader: still only about it. -/
theorem grown_gr2 {w0 w w' : World} {q b : Nat} (h : w0.grownBy w (some q)) (k : Gr2 w w' q b) (hb : w0.heap.size ≤ b) : w0.grownBy w' (some q) :=
  ⟨k.os.trans h.os, k.tape.trans h.tape, k.output.trans h.output, Nat.le_trans h.size k.size, fun i hi h1 => (k.block i (Nat.lt_of_lt_of_le hi h.size) (fun e => h1 (by rw [e])) (by omega)).trans (h.block i hi h1)⟩
theorem grown_below {w0 w w' : World} {q : Nat} (h : w0.grownBy w (some q)) (k : Below w0.heap.size w w') (hq : w.heap[q]? = w'.heap[q]? ∨ True) : w0.grownBy w' (some q) :=
  ⟨k.os.trans h.os, k.tape.trans h.tape, k.output.trans h.output, Nat.le_trans h.size k.size, fun i hi h1 => (k.block i hi).trans (h.block i hi h1)⟩
theorem RdAt.gr2 {w w' : World} {q b : Nat} {st : Rd} (h : RdAt w q st) (k : Gr2 w w' q b) (hs : w'.heap[q]? = w.heap[q]?) : RdAt w' q st := h.keep hs
theorem RdAt.below {w w' : World} {q : Nat} {st : Rd} (h : RdAt w q st) (k : Below w.heap.size w w') : RdAt w' q st := h.keep (k.block q h.lt)
theorem PtAt.gr2 {w w' : World} {q b g : Nat} {ks : List Bool} (h : PtAt w g b ks) (k : Gr2 w w' q b) (h1 : g ≠ q) (h2 : g ≠ b) : PtAt w' g b ks :=
  ⟨Nat.lt_of_lt_of_le h.1 k.size, fun i t ht => (World.cell?_of_block (k.block g h.1 h1 h2)).trans (h.2 i t ht)⟩
/-- Fields read so far, and those that are still zero. -/
def mix (done : List Fld) (rest : List Bool) : List Value := done.map fval ++ rest.map fun k => fval (fd0 k)
theorem mix_set {done : List Fld} {k : Bool} {f : Fld} {rest : List Bool} {i : Nat} (h : done.length = i) : (mix done (k :: rest)).toArray.setIfInBounds i (fval f) = (mix (done ++ [f]) rest).toArray := by
  rw [List.setIfInBounds_toArray]
  congr 1
  unfold mix
  rw [List.map_append, List.append_assoc, List.set_append_right i _ (by rw [List.length_map]; omega), List.length_map, h, Nat.sub_self]
  rfl
theorem mix_cell {w : World} {b i : Nat} {T : TypeId} {done : List Fld} {k : Bool} {rest : List Bool} (h : w.heap[b]? = some (.cells (mix done (k :: rest)).toArray T (0, 0))) (hi : done.length = i) : w.cell? ⟨b, i, none⟩ = some (fval (fd0 k)) := by
  rw [cell_of_heap h]
  unfold mix
  rw [List.getElem?_toArray, List.getElem?_append_right (by rw [List.length_map]; omega), List.length_map, hi, Nat.sub_self]
  rfl
theorem left_done (st : Rd) : (decide (0 < left st) || done st) = st.isSome := by
  cases st with
  | none => rfl
  | some l =>
    cases l with
    | nil => rfl
    | cons c r => show (decide (0 < (c :: r).length) || _) = true; rw [decide_eq_true (by simp), Bool.true_or]

set_option maxHeartbeats 4000000 in
theorem take_any (q g b n cap : Nat) (ks : List Bool) (T : TypeId) (st0 st' : Rd) (fs : List Fld) (v : Bool) (hf : fgets ks st0 = (fs, st')) (hv : st'.isSome = v) (w : World) (hr : RdAt w q st0) (hp : PtAt w g b ks) (hb : w.heap[b]? = some (.cells (mix [] ks).toArray T (0, 0))) (hqb : b ≠ q) (hgq : g ≠ q) (hgb : g ≠ b) (hn : ks.length = n) (hl : n ≤ 100) :
    Calls Try.prog 45 #[.pointer (some ⟨q, 0, none⟩), .slice (some ⟨g, 0, none⟩) n cap] w fun e w' => e = .returned (.bool v) ∧ RdAt w' q st' ∧ w'.heap[b]? = some (.cells (mix fs []).toArray T (0, 0)) ∧ Gr2 w w' q b := by
  have HP := Lib.hid hp
  have HR0 := Lib.hid hr
  have HB0 := Lib.hid hb
  have HQB := Lib.hid hqb
  have HGQ := Lib.hid hgq
  have HGB := Lib.hid hgb
  have HF := Lib.hid hf
  have HV := Lib.hid hv
  clear hp hr hb hqb hgq hgb hf hv
  go_enter Try.func45, Try.ntmps45
  have ai := assert_int
  have ab := assert_bool
  have an := assert_not
  go_wp2_with fail
  go_loopw [11] (fun i wr => ∃ (k : Nat) (dn : List Fld) (st : Rd), k ≤ n ∧ i = .int .i64 (k : Int) ∧ Hid (Got ks st0 k dn st) ∧ Hid (RdAt wr q st) ∧ Hid (wr.heap[b]? = some (.cells (mix dn (ks.drop k)).toArray T (0, 0))) ∧ Hid (Gr2 w wr q b)) (fun i _ => n - (intOf i).toNat)
  case atStart => exact ⟨0, [], st0, Nat.zero_le _, rfl, Got.start ks st0, HR0, by show _ = _; exact HB0.out, Gr2.refl w q b⟩
  case round =>
    obtain ⟨k, dn, st, hk, rfl, hG, hR, hM, hW⟩ := hrel
    by_cases hlk : k < n
    · have hkl : k < ks.length := by omega
      obtain ⟨kk, hkv⟩ : ∃ kk, ks[k] = kk := ⟨_, rfl⟩
      have hkk : ks[k]? = some kk := by rw [List.getElem?_eq_getElem hkl, hkv]
      cases kk with
      | false =>
        obtain ⟨x, st1, hst⟩ : ∃ x st1, wide st = (x, st1) := ⟨_, _, rfl⟩
        have hge : fget false st = (.num x, st1) := by show ite _ _ _ = _; rw [if_neg (by decide), hst]
        have HG2 := Lib.hid (hG.out.step hkk hge)
        have hp := (HP.out.gr2 hW.out HGQ.out HGB.out).2 k _ hkk
        change wr.cell? ⟨g, k, none⟩ = some (.iface 83 (.pointer (some ⟨b, k, none⟩))) at hp
        have CS := Lib.hid (Wire.rdint_is q st st1 (-9223372036854775808) 9223372036854775807 x wr hR.out hst)
        have HBK := hM
        rw [List.drop_eq_getElem_cons hkl, hkv] at HBK
        clear hst hge
        go_wp2_with fail
        refine CS.out.mono ?_
        rintro e w7 ⟨rfl, hrd, hgr⟩
        have HW7 := Lib.hid (hW.out.trans (Gr2.read hgr))
        have hbk : w7.heap[b]? = some (.cells (mix dn (false :: ks.drop (k + 1))).toArray T (0, 0)) := (hgr.block b (heap_lt HBK) (fun e => HQB.out (by cases e; rfl))).trans HBK
        have hcl := mix_cell hbk hG.out.len
        have hfz : w7.frozen? ⟨b, k, none⟩ = false := frozen_of_heap hbk
        have hst := Lib.heap_setCell_same (i := k) hbk (fval (.num x))
        rw [mix_set hG.out.len] at hst
        have HM8 := Lib.hid hst
        have HR8 : Hid (RdAt (w7.setCell ⟨b, k, none⟩ (fval (.num x))) q st1) := RdAt.keep hrd (heap_setCell_other _ _ _ _ (fun e => HQB.out e.symm))
        have HW8 := Lib.hid (HW7.out.trans (Gr2.store w7 q b k (fval (.num x))))
        change w7.cell? ⟨b, k, none⟩ = some (.int .i64 0) at hcl
        clear hst hrd hgr hbk CS HW7
        change Hid ((w7.setCell ⟨b, k, none⟩ (.int .i64 x)).heap[b]? = _) at HM8
        change Hid (RdAt (w7.setCell ⟨b, k, none⟩ (.int .i64 x)) q st1) at HR8
        change Hid (Gr2 w (w7.setCell ⟨b, k, none⟩ (.int .i64 x)) q b) at HW8
        go_wp2_with fail
        go_roundw
        case rel => exact ⟨k + 1, dn ++ [.num x], st1, by omega, by go_num, HG2, HR8, HM8, HW8⟩
        case measure => simp [intOf]; omega
      | true =>
        obtain ⟨x, st1, hst⟩ : ∃ x st1, rdFlag st = (x, st1) := ⟨_, _, rfl⟩
        have hge : fget true st = (.flag x, st1) := by show ite _ _ _ = _; rw [if_pos rfl, hst]
        have HG2 := Lib.hid (hG.out.step hkk hge)
        have hp := (HP.out.gr2 hW.out HGQ.out HGB.out).2 k _ hkk
        change wr.cell? ⟨g, k, none⟩ = some (.iface 88 (.pointer (some ⟨b, k, none⟩))) at hp
        have CS := Lib.hid (Wire.rdflag_is q st st1 x wr hR.out hst)
        have HBK := hM
        rw [List.drop_eq_getElem_cons hkl, hkv] at HBK
        clear hst hge
        go_wp2_with fail
        refine CS.out.mono ?_
        rintro e w7 ⟨rfl, hrd, hgr⟩
        have HW7 := Lib.hid (hW.out.trans (Gr2.read hgr))
        have hbk : w7.heap[b]? = some (.cells (mix dn (true :: ks.drop (k + 1))).toArray T (0, 0)) := (hgr.block b (heap_lt HBK) (fun e => HQB.out (by cases e; rfl))).trans HBK
        have hcl := mix_cell hbk hG.out.len
        have hfz : w7.frozen? ⟨b, k, none⟩ = false := frozen_of_heap hbk
        have hst := Lib.heap_setCell_same (i := k) hbk (fval (.flag x))
        rw [mix_set hG.out.len] at hst
        have HM8 := Lib.hid hst
        have HR8 : Hid (RdAt (w7.setCell ⟨b, k, none⟩ (fval (.flag x))) q st1) := RdAt.keep hrd (heap_setCell_other _ _ _ _ (fun e => HQB.out e.symm))
        have HW8 := Lib.hid (HW7.out.trans (Gr2.store w7 q b k (fval (.flag x))))
        change w7.cell? ⟨b, k, none⟩ = some (.bool false) at hcl
        clear hst hrd hgr hbk CS HW7
        change Hid ((w7.setCell ⟨b, k, none⟩ (.bool x)).heap[b]? = _) at HM8
        change Hid (RdAt (w7.setCell ⟨b, k, none⟩ (.bool x)) q st1) at HR8
        change Hid (Gr2 w (w7.setCell ⟨b, k, none⟩ (.bool x)) q b) at HW8
        go_wp2_with fail
        go_roundw
        case rel => exact ⟨k + 1, dn ++ [.flag x], st1, by omega, by go_num, HG2, HR8, HM8, HW8⟩
        case measure => simp [intOf]; omega
    · obtain rfl : k = n := by omega
      have hG2 := hG.out
      rw [← hn] at hG2
      have hdn := hG2.done
      rw [HF.out] at hdn
      obtain ⟨h1, h2⟩ := Prod.mk.inj hdn
      subst h1 h2
      have HM : Hid (wr.heap[b]? = some (.cells (mix fs []).toArray T (0, 0))) := by
        have := hM.out
        rw [← hn, List.drop_length] at this
        exact this
      obtain ⟨n0, hn0⟩ : ∃ n0 : Nat, left st' = n0 := ⟨_, rfl⟩
      obtain ⟨d0, hd0⟩ : ∃ d0, done st' = d0 := ⟨_, rfl⟩
      have CL := Wire.left_any q st' wr hR.out
      rw [hn0] at CL
      have CD := Lib.hid (Wire.rddone_is q st' d0 wr hR.out hd0)
      have hld := left_done st'
      rw [hn0, hd0, HV.out] at hld
      have CL := Lib.hid CL
      by_cases h0 : 0 < n0
      · have HO : Hid (v = true) := by show _ = _; rw [← hld, decide_eq_true h0]; rfl
        have h0i : (0 : Int) < (n0 : Int) := by omega
        clear hG2 hdn hn0 hd0 hld
        go_wp2_with fail
        refine CL.out.mono ?_
        rintro e w7 ⟨rfl, rfl⟩
        go_wp2_with fail
        go_ret
        exact ⟨ret_bool HO.out, hR.out, HM.out, hW.out⟩
      · have HO : Hid (v = d0) := by show _ = _; rw [← hld, decide_eq_false h0]; rfl
        have h0i : ¬ (0 : Int) < (n0 : Int) := by omega
        clear hG2 hdn hn0 hd0 hld
        go_wp2_with fail
        refine CL.out.mono ?_
        rintro e w7 ⟨rfl, rfl⟩
        go_wp2_with fail
        refine CD.out.mono ?_
        rintro e w7 ⟨rfl, hb⟩
        have HR7 := Lib.hid (RdAt.below hR.out hb)
        have HM7 := Lib.hid ((hb.block b (heap_lt HM.out)).trans HM.out)
        have HW7 := Lib.hid (hW.out.trans (Gr2.below hb))
        clear hb
        go_wp2_with fail
        go_ret
        exact ⟨ret_bool HO.out, HR7.out, HM7.out, HW7.out⟩
end Go.Proofs.Ytamcidlkbhanfaa.Msg
