/-
  Pointers to fields in memory; the contracts of entryFields, replyFields, put, PutEntry, PutReply: any; what was there stays as it was.
-/
import Derived.Test.YtamcidlkbhanfaaMsgFd
import Derived.Test.YtamcidlkbhanfaaMsgA
import Derived.Test.YtamcidlkbhanfaaWireK
import Derived.Test.YtamcidlkbhanfaaBd
import Derived.Deep.RegionHeld3
import Derived.BigRegion
set_option linter.unusedVariables false
set_option linter.unusedSimpArgs false
set_option maxRecDepth 4000
namespace Go.Proofs.Ytamcidlkbhanfaa.Msg
open Go.RowKit MsgP
open Go.Proofs.Ytamcidlkbhanfaa.Kt

open Bld
open WireP (enc flag)
def fval : Fld → Value | .num n => .int .i64 n | .flag v => .bool v
def tyF : Bool → TypeId | false => 83 | true => 88
/-- A list of pointers to fields that stand one behind the other in block b. -/
def PtAt (w : World) (g b : Nat) (ks : List Bool) : Prop := g < w.heap.size ∧ ∀ i k, ks[i]? = some k → w.cell? ⟨g, i, none⟩ = some (.iface (tyF k) (.pointer (some ⟨b, i, none⟩)))
def ValAt (w : World) (b : Nat) (l : List Fld) : Prop := b < w.heap.size ∧ ∀ i f, l[i]? = some f → w.cell? ⟨b, i, none⟩ = some (fval f)
theorem PtAt.keep {w w' : World} {g b : Nat} {ks : List Bool} (h : PtAt w g b ks) (hb : Below w.heap.size w w') : PtAt w' g b ks := ⟨by have := hb.size; have := h.1; omega, fun i k hk => (hb.cell (p := ⟨g, i, none⟩) h.1).trans (h.2 i k hk)⟩
theorem ValAt.keep {w w' : World} {b : Nat} {l : List Fld} (h : ValAt w b l) (hb : Below w.heap.size w w') : ValAt w' b l := ⟨by have := hb.size; have := h.1; omega, fun i f hf => (hb.cell (p := ⟨b, i, none⟩) h.1).trans (h.2 i f hf)⟩
theorem int_is (n : Int) (z : ByteArray) (w : World) (h : I64 n) (hz : enc n = z.data.toList) : Calls Try.prog 54 #[.int .i64 n] w fun e w' => e = .returned (.string z) ∧ Below w.heap.size w w' := Wire.int_is n z w h.1 h.2 hz
theorem flag_is (v : Bool) (z : ByteArray) (w : World) (hz : flag v = z.data.toList) : Calls Try.prog 29 #[.bool v] w fun e w' => e = .returned (.string z) ∧ w = w' := by
  have h := Wire.flag_any v w
  rw [hz, show (⟨z.data.toList.toArray⟩ : ByteArray) = z from bs_data z] at h
  exact h

theorem assert_int (v : Value) (xT : TypeId) (w : World) : (Instr.typeAssert (.iface 83 v) xT 83 true).run Try.prog w = .ok (.tuple #[v, .bool true]) w := by
  simp [Instr.typeAssert, run_underlying Try.underlying83, go_sem]
theorem assert_bool (v : Value) (xT : TypeId) (w : World) : (Instr.typeAssert (.iface 88 v) xT 88 true).run Try.prog w = .ok (.tuple #[v, .bool true]) w := by
  simp [Instr.typeAssert, run_underlying Try.underlying88, go_sem]
theorem assert_not (v : Value) (xT : TypeId) (w : World) : (Instr.typeAssert (.iface 88 v) xT 83 true).run Try.prog w = .ok (.tuple #[.pointer none, .bool false]) w := by
  have hz : ∀ w, (zeroValue 83).run Try.prog w = .ok (.pointer none) w := Try.zeroValue83
  have hne : (88 : Nat) ≠ 83 := by decide
  simp [Instr.typeAssert, run_underlying Try.underlying83, hne, hz, go_sem]

set_option maxHeartbeats 4000000 in
theorem put_any (g b n cap : Nat) (l : List Fld) (t : ByteArray) (ht : bs (fputs l) = t) (w : World) (hp : PtAt w g b (l.map Fld.kind)) (hv : ValAt w b l) (hn : l.length = n) (hl : n ≤ 100) (h64 : F64 l) :
    Calls Try.prog 37 #[.slice (some ⟨g, 0, none⟩) n cap] w fun e w' => e = .returned (.string t) ∧ Below w.heap.size w w' := by
  have HP := Lib.hid hp
  have HV := Lib.hid hv
  have HF := Lib.hid h64
  have HPL := Lib.hid (fun k => fputs_take_len h64 (by omega) k)
  have HD : Hid (bs (fputs (l.take n)) = t) := by show _ = t; rw [← ht, ← hn, List.take_length]
  have hbd := fresh_bd w
  have hb1 := (Below.refl w.heap.size w).alloc (Nat.le_refl _) (.cells #[.pointer none, .slice none 0 0] 82)
  obtain ⟨w1, hw1⟩ : ∃ w1, w.alloc (.cells #[.pointer none, .slice none 0 0] 82) = w1 := ⟨_, rfl⟩
  rw [hw1] at hbd hb1
  have HW := Lib.hid hw1
  have HBD : Hid (Bd w1 w.heap.size w.heap.size (fputs (l.take 0))) := hbd
  have HB1 := Lib.hid hb1
  clear hbd hb1 hw1 ht hp hv h64
  go_enter Try.func37, Try.ntmps37
  have ai := assert_int
  have ab := assert_bool
  have an := assert_not
  go_wp2_with fail
  rw [show w.alloc (.cells #[.pointer none, .slice none 0 0] 82) = w1 from HW.out]
  go_loopw [10] (fun i wr => ∃ k : Nat, k ≤ n ∧ i = .int .i64 (k : Int) ∧ Hid (Bd wr w.heap.size w.heap.size (fputs (l.take k))) ∧ Hid (Below w.heap.size w wr)) (fun i _ => n - (intOf i).toNat)
  case atStart => exact ⟨0, Nat.zero_le _, rfl, HBD, HB1⟩
  case round =>
    obtain ⟨k, hk, rfl, hD, hB⟩ := hrel
    by_cases hlk : k < n
    · obtain ⟨f, hf⟩ : ∃ f, l[k]? = some f := ⟨_, List.getElem?_eq_getElem (by omega)⟩
      cases f with
      | num x =>
        have hst := fputs_step hf
        have hv := (HV.out.keep hB.out).2 k _ hf
        have hp := (HP.out.keep hB.out).2 k _ (show (l.map Fld.kind)[k]? = some false by rw [List.getElem?_map, hf]; rfl)
        obtain ⟨z, hz⟩ : ∃ z : ByteArray, fput (.num x) = z.data.toList := ⟨bs (fput (.num x)), (data_bs _).symm⟩
        have hzs : z.size ≤ 9 := by rw [size_list, ← hz]; exact fput_len (fun n e => HF.out n (by rw [← e]; exact List.mem_of_getElem? hf))
        rw [hz] at hst
        have HST := Lib.hid hst
        change wr.cell? ⟨b, k, none⟩ = some (.int .i64 x) at hv
        change wr.cell? ⟨g, k, none⟩ = some (.iface 83 (.pointer (some ⟨b, k, none⟩))) at hp
        have hpl := HPL.out k
        have CS := Lib.hid (int_is x z wr (HF.out _ (List.mem_of_getElem? hf)) hz)
        clear hst hz hf
        go_wp2_with fail
        refine CS.out.mono ?_
        rintro e w7 ⟨rfl, hb⟩
        have HD7 := Lib.hid (hD.out.keep hb)
        have HB7 := Lib.hid (below_keep hB.out hb hB.out.size)
        clear hb hD hB CS
        have hg7 : w.heap.size ≤ w7.heap.size := Nat.le_of_lt HD7.out.lt
        go_wp2_with fail
        refine (write_any w.heap.size w.heap.size (fputs (l.take k)) z w7 HD7.out (by omega) hg7).mono ?_
        rintro e w8 ⟨rfl, hbd8, hb8⟩
        have HD8 : Hid (Bd w8 w.heap.size w.heap.size (fputs (l.take (k + 1)))) := by show Bd _ _ _ _; rw [HST.out]; exact hbd8
        have HB8 := Lib.hid (HB7.out.trans hb8)
        clear hbd8 hb8 HD7 HB7 hg7
        go_wp2_with fail
        go_roundw
        case rel => exact ⟨k + 1, by omega, by go_num, HD8, HB8⟩
        case measure => simp [intOf]; omega
      | flag x =>
        have hst := fputs_step hf
        have hv := (HV.out.keep hB.out).2 k _ hf
        have hp := (HP.out.keep hB.out).2 k _ (show (l.map Fld.kind)[k]? = some true by rw [List.getElem?_map, hf]; rfl)
        obtain ⟨z, hz⟩ : ∃ z : ByteArray, fput (.flag x) = z.data.toList := ⟨bs (fput (.flag x)), (data_bs _).symm⟩
        have hzs : z.size ≤ 9 := by rw [size_list, ← hz]; exact fput_len (fun n e => HF.out n (by rw [← e]; exact List.mem_of_getElem? hf))
        rw [hz] at hst
        have HST := Lib.hid hst
        change wr.cell? ⟨b, k, none⟩ = some (.bool x) at hv
        change wr.cell? ⟨g, k, none⟩ = some (.iface 88 (.pointer (some ⟨b, k, none⟩))) at hp
        have hpl := HPL.out k
        have CS := Lib.hid (flag_is x z wr hz)
        clear hst hz hf
        go_wp2_with fail
        refine CS.out.mono ?_
        rintro e w7 ⟨rfl, rfl⟩
        have HD7 := hD
        have HB7 := hB
        clear CS
        have hg7 : w.heap.size ≤ wr.heap.size := Nat.le_of_lt HD7.out.lt
        go_wp2_with fail
        refine (write_any w.heap.size w.heap.size (fputs (l.take k)) z wr HD7.out (by omega) hg7).mono ?_
        rintro e w8 ⟨rfl, hbd8, hb8⟩
        have HD8 : Hid (Bd w8 w.heap.size w.heap.size (fputs (l.take (k + 1)))) := by show Bd _ _ _ _; rw [HST.out]; exact hbd8
        have HB8 := Lib.hid (HB7.out.trans hb8)
        clear hbd8 hb8 HD7 HB7 hg7
        go_wp2_with fail
        go_roundw
        case rel => exact ⟨k + 1, by omega, by go_num, HD8, HB8⟩
        case measure => simp [intOf]; omega
    · obtain rfl : k = n := by omega
      have CE := Lib.hid (string_any w.heap.size w.heap.size (fputs (l.take k)) wr hD.out (Nat.le_of_lt hD.out.lt))
      go_wp2_with fail
      refine CE.out.mono ?_
      rintro e w7 ⟨rfl, hb⟩
      have HB7 := Lib.hid (hB.out.trans hb)
      clear hb
      go_wp2_with fail
      go_ret
      exact ⟨ret_str HD.out, HB7.out⟩
def ptc_e (b : Nat) : Obj := .cells #[.iface 83 (.pointer (some ⟨b, 0, none⟩)), .iface 83 (.pointer (some ⟨b, 1, none⟩)), .iface 83 (.pointer (some ⟨b, 2, none⟩)), .iface 88 (.pointer (some ⟨b, 3, none⟩)), .iface 83 (.pointer (some ⟨b, 4, none⟩)), .iface 83 (.pointer (some ⟨b, 5, none⟩)), .iface 88 (.pointer (some ⟨b, 6, none⟩))] 20
theorem ptc_e_at (b : Nat) (w : World) : PtAt (w.alloc (ptc_e b)) w.heap.size b kE := by
  refine ⟨by rw [World.size_alloc]; omega, fun i k hk => ?_⟩
  rw [show (w.alloc (ptc_e b)).cell? ⟨w.heap.size, i, none⟩ = _ from cell_of_heap (heap_alloc_new w _)]
  match i, hk with
  | 0, h => cases h; rfl
  | 1, h => cases h; rfl
  | 2, h => cases h; rfl
  | 3, h => cases h; rfl
  | 4, h => cases h; rfl
  | 5, h => cases h; rfl
  | 6, h => cases h; rfl
  | n + 7, h => cases h
set_option maxHeartbeats 4000000 in
theorem fields_e (b : Nat) (w : World) : Calls Try.prog 38 #[.pointer (some ⟨b, 0, none⟩)] w fun e w' => ∃ g, e = .returned (.slice (some ⟨g, 0, none⟩) 7 7) ∧ w.heap.size ≤ g ∧ PtAt w' g b kE ∧ Below w.heap.size w w' := by
  go_enter Try.func38, Try.ntmps38
  go_wp2_with fail
  go_region
  have H1 : Hid (PtAt (w.alloc (ptc_e b)) w.heap.size b kE) := ptc_e_at b w
  have H2 := Lib.hid ((Below.refl w.heap.size w).alloc (Nat.le_refl _) (ptc_e b)).drew
  go_wp2_with fail
  go_ret
  exact ⟨w.heap.size, rfl, Nat.le_refl _, H1.out, H2.out⟩
def ptc_r (b : Nat) : Obj := .cells #[.iface 83 (.pointer (some ⟨b, 0, none⟩)), .iface 83 (.pointer (some ⟨b, 1, none⟩)), .iface 83 (.pointer (some ⟨b, 2, none⟩)), .iface 83 (.pointer (some ⟨b, 3, none⟩)), .iface 88 (.pointer (some ⟨b, 4, none⟩)), .iface 83 (.pointer (some ⟨b, 5, none⟩)), .iface 83 (.pointer (some ⟨b, 6, none⟩))] 20
theorem ptc_r_at (b : Nat) (w : World) : PtAt (w.alloc (ptc_r b)) w.heap.size b kR := by
  refine ⟨by rw [World.size_alloc]; omega, fun i k hk => ?_⟩
  rw [show (w.alloc (ptc_r b)).cell? ⟨w.heap.size, i, none⟩ = _ from cell_of_heap (heap_alloc_new w _)]
  match i, hk with
  | 0, h => cases h; rfl
  | 1, h => cases h; rfl
  | 2, h => cases h; rfl
  | 3, h => cases h; rfl
  | 4, h => cases h; rfl
  | 5, h => cases h; rfl
  | 6, h => cases h; rfl
  | n + 7, h => cases h
set_option maxHeartbeats 4000000 in
theorem fields_r (b : Nat) (w : World) : Calls Try.prog 40 #[.pointer (some ⟨b, 0, none⟩)] w fun e w' => ∃ g, e = .returned (.slice (some ⟨g, 0, none⟩) 7 7) ∧ w.heap.size ≤ g ∧ PtAt w' g b kR ∧ Below w.heap.size w w' := by
  go_enter Try.func40, Try.ntmps40
  go_wp2_with fail
  go_region
  have H1 : Hid (PtAt (w.alloc (ptc_r b)) w.heap.size b kR) := ptc_r_at b w
  have H2 := Lib.hid ((Below.refl w.heap.size w).alloc (Nat.le_refl _) (ptc_r b)).drew
  go_wp2_with fail
  go_ret
  exact ⟨w.heap.size, rfl, Nat.le_refl _, H1.out, H2.out⟩
theorem val_e {w : World} {b : Nat} (x0 : Int) (x1 : Int) (x2 : Int) (x3 : Bool) (x4 : Int) (x5 : Int) (x6 : Bool) (h : At7 23 w b (.int .i64 x0) (.int .i64 x1) (.int .i64 x2) (.bool x3) (.int .i64 x4) (.int .i64 x5) (.bool x6)) : ValAt w b (fE ⟨x0, x1, x2, x3, x4, x5, x6⟩) := by
  refine ⟨heap_lt h, fun i f hf => ?_⟩
  rw [cell_of_heap h]
  match i, hf with
  | 0, h => cases h; rfl
  | 1, h => cases h; rfl
  | 2, h => cases h; rfl
  | 3, h => cases h; rfl
  | 4, h => cases h; rfl
  | 5, h => cases h; rfl
  | 6, h => cases h; rfl
  | n + 7, h => cases h
theorem pute_is (x0 : Int) (x1 : Int) (x2 : Int) (x3 : Bool) (x4 : Int) (x5 : Int) (x6 : Bool) (t : ByteArray) (ht : bs (putE ⟨x0, x1, x2, x3, x4, x5, x6⟩) = t) (h64 : E64 ⟨x0, x1, x2, x3, x4, x5, x6⟩) (w : World) : Calls Try.prog 12 #[(.agg #[.int .i64 x0, .int .i64 x1, .int .i64 x2, .bool x3, .int .i64 x4, .int .i64 x5, .bool x6])] w fun e w' => e = .returned (.string t) ∧ Below w.heap.size w w' := by
  rw [← fputs_E] at ht
  have HT := Lib.hid ht
  have HF := Lib.hid (f64_E h64)
  have HB0 := Lib.hid (bx7_new 23 w (.int .i64 x0) (.int .i64 x1) (.int .i64 x2) (.bool x3) (.int .i64 x4) (.int .i64 x5) (.bool x6))
  obtain ⟨w1, hw1⟩ : ∃ w1, w.alloc (.cells #[.int .i64 x0, .int .i64 x1, .int .i64 x2, .bool x3, .int .i64 x4, .int .i64 x5, .bool x6] 23) = w1 := ⟨_, rfl⟩
  rw [hw1] at HB0
  have HW := Lib.hid hw1
  have CF := Lib.hid (fields_e w.heap.size w1)
  clear ht h64 hw1
  go_enter Try.func12, Try.ntmps12
  go_wp2_with fail
  rw [show w.alloc (.cells #[.int .i64 x0, .int .i64 x1, .int .i64 x2, .bool x3, .int .i64 x4, .int .i64 x5, .bool x6] 23) = w1 from HW.out]
  refine CF.out.mono ?_
  rintro e w2 ⟨g, rfl, hg, hp, hb⟩
  have HB2 := Lib.hid (HB0.out.keep hb)
  have CP := Lib.hid (put_any g w.heap.size 7 7 (fE ⟨x0, x1, x2, x3, x4, x5, x6⟩) t HT.out w2 hp (val_e x0 x1 x2 x3 x4 x5 x6 HB2.out.box) rfl (by decide) HF.out)
  clear hp hb hg
  go_wp2_with fail
  refine CP.out.mono ?_
  rintro e w3 ⟨rfl, hb⟩
  have HB3 := Lib.hid (HB2.out.keep hb)
  clear hb
  go_wp2_with fail
  go_ret
  exact ⟨rfl, HB3.out.bel⟩
theorem val_r {w : World} {b : Nat} (r0 : Int) (r1 : Int) (r2 : Int) (r3 : Int) (r4 : Bool) (r5 : Int) (r6 : Int) (h : At7 25 w b (.int .i64 r0) (.int .i64 r1) (.int .i64 r2) (.int .i64 r3) (.bool r4) (.int .i64 r5) (.int .i64 r6)) : ValAt w b (fR ⟨r0, r1, r2, r3, r4, r5, r6⟩) := by
  refine ⟨heap_lt h, fun i f hf => ?_⟩
  rw [cell_of_heap h]
  match i, hf with
  | 0, h => cases h; rfl
  | 1, h => cases h; rfl
  | 2, h => cases h; rfl
  | 3, h => cases h; rfl
  | 4, h => cases h; rfl
  | 5, h => cases h; rfl
  | 6, h => cases h; rfl
  | n + 7, h => cases h
theorem putr_is (r0 : Int) (r1 : Int) (r2 : Int) (r3 : Int) (r4 : Bool) (r5 : Int) (r6 : Int) (t : ByteArray) (ht : bs (putR ⟨r0, r1, r2, r3, r4, r5, r6⟩) = t) (h64 : R64 ⟨r0, r1, r2, r3, r4, r5, r6⟩) (w : World) : Calls Try.prog 14 #[(.agg #[.int .i64 r0, .int .i64 r1, .int .i64 r2, .int .i64 r3, .bool r4, .int .i64 r5, .int .i64 r6])] w fun e w' => e = .returned (.string t) ∧ Below w.heap.size w w' := by
  rw [← fputs_R] at ht
  have HT := Lib.hid ht
  have HF := Lib.hid (f64_R h64)
  have HB0 := Lib.hid (bx7_new 25 w (.int .i64 r0) (.int .i64 r1) (.int .i64 r2) (.int .i64 r3) (.bool r4) (.int .i64 r5) (.int .i64 r6))
  obtain ⟨w1, hw1⟩ : ∃ w1, w.alloc (.cells #[.int .i64 r0, .int .i64 r1, .int .i64 r2, .int .i64 r3, .bool r4, .int .i64 r5, .int .i64 r6] 25) = w1 := ⟨_, rfl⟩
  rw [hw1] at HB0
  have HW := Lib.hid hw1
  have CF := Lib.hid (fields_r w.heap.size w1)
  clear ht h64 hw1
  go_enter Try.func14, Try.ntmps14
  go_wp2_with fail
  rw [show w.alloc (.cells #[.int .i64 r0, .int .i64 r1, .int .i64 r2, .int .i64 r3, .bool r4, .int .i64 r5, .int .i64 r6] 25) = w1 from HW.out]
  refine CF.out.mono ?_
  rintro e w2 ⟨g, rfl, hg, hp, hb⟩
  have HB2 := Lib.hid (HB0.out.keep hb)
  have CP := Lib.hid (put_any g w.heap.size 7 7 (fR ⟨r0, r1, r2, r3, r4, r5, r6⟩) t HT.out w2 hp (val_r r0 r1 r2 r3 r4 r5 r6 HB2.out.box) rfl (by decide) HF.out)
  clear hp hb hg
  go_wp2_with fail
  refine CP.out.mono ?_
  rintro e w3 ⟨rfl, hb⟩
  have HB3 := Lib.hid (HB2.out.keep hb)
  clear hb
  go_wp2_with fail
  go_ret
  exact ⟨rfl, HB3.out.bel⟩
end Go.Proofs.Ytamcidlkbhanfaa.Msg
