/-
  The contracts of put, drop, Hold, Unkeep, Release, Keep and Send: any books, any lines; what was there stays as it was.
-/
import Derived.Test.YtjclkiabgemfpaaGreatPdLedgerH
set_option linter.unusedVariables false
set_option maxRecDepth 4000
namespace Go.Proofs.YtjclkiabgemfpaaGreat.Ledger
open Go.RowKit LinesP HoldsP LedgerP
open StockP (Sk sk0 fitS Fit fitS_iff fromV turnV moveV turn_fit)
open Go.Proofs.YtjclkiabgemfpaaGreat.Lines (LsAt Sz SzM ret_bool ret_int below_keep below_drewN owns_form owns_cell owns_below)
open Go.Proofs.YtjclkiabgemfpaaGreat.Holds (HsAt SzH hmf MadeP At3 cells3 at3_new)

theorem act_hold : ActOf 52 1 := ⟨enters Tryz.func52 (by kernel_rfl) rfl, fun x n w hs => shold_any x n w hs⟩
theorem act_release : ActOf 60 2 := ⟨enters Tryz.func60 (by kernel_rfl) rfl, fun x n w hs => srelease_any x n w hs⟩
theorem act_keep : ActOf 54 3 := ⟨enters Tryz.func54 (by kernel_rfl) rfl, fun x n w hs => skeep_any x n w hs⟩
theorem act_unkeep : ActOf 61 4 := ⟨enters Tryz.func61 (by kernel_rfl) rfl, fun x n w hs => sunkeep_any x n w hs⟩
theorem act_send : ActOf 57 5 := ⟨enters Tryz.func57 (by kernel_rfl) rfl, fun x n w hs => ssend_any x n w hs⟩
/-! ### what is told -/
theorem moveR_eq {wh : Int} {ls : List Ln} {sk : List Sk} {hd : List Hd} (hu : UpS sk) (hl : fitL ls = true) : moveR wh ls sk hd = if okM wh ls sk = true then (⟨mvd wh ls sk, hd⟩, 0) else (bk0, 6) := by
  unfold moveR
  rw [moves_eq wh ls sk hu (fitL_up hl)]
  by_cases h : okM wh ls sk = true
  · rw [if_pos h, if_pos rfl, if_pos h]
  · rw [if_neg h, if_neg (by decide), if_neg h]
theorem held_bad {b : Bk} {g : Int} {ls : List Ln} {t w : Int} (h : fitB b = false) : heldB b g ls t w = (bk0, 12) := by unfold heldB; rw [if_neg (by rw [h]; simp)]
theorem held_err {b : Bk} {g : Int} {ls : List Ln} {t w er : Int} (h : fitB b = true) (hp : putH b.hd ⟨g, ls, t⟩ = ([], er)) (hne : er ≠ 0) : heldB b g ls t w = (bk0, er) := by
  unfold heldB; rw [if_pos h, hp, if_neg hne]
theorem held_ok {b : Bk} {g : Int} {ls : List Ln} {t w : Int} {l : List Hd} (h : fitB b = true) (hl : fitL ls = true) (hp : putH b.hd ⟨g, ls, t⟩ = (l, 0)) : heldB b g ls t w = moveR w ls b.sk l := by
  rw [moveR_eq (fitB_iff.1 h).up hl]
  unfold heldB; rw [if_pos h, hp, if_pos rfl]
theorem drop_bad {b : Bk} {g w : Int} (h : fitB b = false) : dropB b g w = (bk0, 12) := by unfold dropB; rw [if_neg (by rw [h]; simp)]
theorem drop_none {b : Bk} {g w : Int} (h : fitB b = true) (hf : findH g b.hd = none) : dropB b g w = (bk0, 2) := by unfold dropB; rw [if_pos h, hf]
theorem drop_some {b : Bk} {g w : Int} {x : Hd} (hw : w = 2 ∨ w = 3) (h : fitB b = true) (hf : findH g b.hd = some x) : dropB b g w = moveR w x.ls b.sk (less g b.hd) := by
  have k := fitB_iff.1 h
  have hl : fitL x.ls = true := oneH_fit ((fitH_iff.1 k.hd).2.1 x (find_mem hf).1).1
  rw [moveR_eq k.up hl, if_pos (drop_ok hw k hf)]
  unfold dropB; rw [if_pos h, hf]
theorem send_bad {b : Bk} {ls : List Ln} (h : fitB b = false) : sendB b ls = (bk0, 12) := by unfold sendB; rw [if_neg (by rw [h]; simp)]
theorem send_arg {b : Bk} {ls : List Ln} (h : fitB b = true) (hl : ¬ (fitL ls = true ∧ 0 < ls.length)) : sendB b ls = (bk0, 1) := by unfold sendB; rw [if_pos h, if_neg hl]
theorem send_ok {b : Bk} {ls : List Ln} (h : fitB b = true) (hl : fitL ls = true ∧ 0 < ls.length) : sendB b ls = moveR 5 ls b.sk b.hd := by
  rw [moveR_eq (fitB_iff.1 h).up hl.1]
  unfold sendB; rw [if_pos h, if_pos hl]
theorem fb_three (w : World) (v0 v1 r0 r1 u0 u1 u2 : Value) : FB w.heap.size w (((w.alloc (.cells #[v0, v1] 33)).alloc (.cells #[u0, u1, u2] 69)).alloc (.cells #[r0, r1] 33)) v0 v1 (w.heap.size + 2) r0 r1 ∧
    At3 (((w.alloc (.cells #[v0, v1] 33)).alloc (.cells #[u0, u1, u2] 69)).alloc (.cells #[r0, r1] 33)) (w.heap.size + 1) u0 u1 u2 := by
  have h1 := at3_new (w.alloc (.cells #[v0, v1] 33)) u0 u1 u2
  have h2 := heap_alloc_new ((w.alloc (.cells #[v0, v1] 33)).alloc (.cells #[u0, u1, u2] 69)) (.cells #[r0, r1] 33)
  rw [World.size_alloc] at h1
  rw [World.size_alloc, World.size_alloc] at h2
  refine ⟨⟨(((Below.refl _ w).alloc (Nat.le_refl _) _).alloc (by rw [World.size_alloc]; omega) _).alloc (by rw [World.size_alloc, World.size_alloc]; omega) _, ?_, h2⟩, h1.alloc _⟩
  exact (heap_alloc_old _ _ (by rw [World.size_alloc, World.size_alloc]; omega)).trans ((heap_alloc_old _ _ (by rw [World.size_alloc]; omega)).trans (heap_alloc_new w _))

set_option maxHeartbeats 4000000 in
theorem put_any (a : Option Addr) (len cap : Nat) (a2 : Option Addr) (len2 cap2 : Nat) (b : Bk) (sg t : Int) (la : Option Addr) (n lc : Nat) (ls : List Ln) (g : Nat) (wh : Int) (hact : ActOf g wh) (w : World)
    (h : BkAt w a len a2 len2 cap2 b) (hz : SzB b) (hL : LsAt w la n ls) (hz2 : Sz ls) (hn : n ≤ 1000000) :
    Calls Tryz.prog 51 #[.agg #[.slice a len cap, .slice a2 len2 cap2], .agg #[.int .i64 sg, .slice la n lc, .int .i64 t], .func (.func g) #[] #[]] w (BookR w (heldB b sg ls t wh)) := by
  have hall := fb_three w (.slice a len cap) (.slice a2 len2 cap2) (.slice none 0 0) (.slice none 0 0) (.int .i64 sg) (.slice la n lc) (.int .i64 t)
  have HF := Lib.hid hall.1
  have HT := Lib.hid hall.2
  have HX := Lib.hid h
  have HZ := Lib.hid hz
  clear hall
  cases hfit : fitB b with
  | false =>
    have HR := Lib.hid (held_bad (g := sg) (ls := ls) (t := t) (w := wh) hfit)
    generalize heldB b sg ls t wh = r at HR ⊢
    go_enter Tryz.func51, Tryz.ntmps51
    go_wp2_with fail
    refine (fit_any a len cap a2 len2 cap2 b false hfit _ (HX.out.keep HF.out.bel) HZ.out).mono ?_
    rintro e w1 ⟨rfl, hb1⟩
    have HF1 := Lib.hid (HF.out.keep hb1)
    clear hb1 HT hfit
    obtain ⟨z0, z1⟩ := cells2 HF1.out.res
    obtain ⟨f0, f1⟩ := free2 HF1.out.res
    go_wp2_with fail
    have HRS := Lib.hid (heap_put2 HF1.out.res (.slice none 0 0) (.slice none 0 0))
    have HB := Lib.hid (below_put2 HF1.out.bel (show w.heap.size ≤ w.heap.size + 2 by omega) (.slice none 0 0) (.slice none 0 0))
    exact bodyPost_ret (results_book (j := 6) (k := 7) rfl _ _ (w.heap.size + 2) _ _ rfl HRS.out) rfl (book_err HR.out HB.out)
  | true =>
    have k := fitB_iff.1 hfit
    have HPUT := Lib.hid (fun (w' : World) (hb : Below w.heap.size w w') => Holds.put_any a2 len2 cap2 b.hd sg t la n lc ls w' (h.hd.keep hb) h.room (hL.keep hb) hz.hd hz2 hz.ls hn)
    rcases put_cases b.hd ⟨sg, ls, t⟩ with ⟨er, he, hne⟩ | ⟨he, _, hone, _, _⟩
    · have HR := Lib.hid (held_err (w := wh) hfit he hne)
      rw [he] at HPUT
      generalize heldB b sg ls t wh = r at HR ⊢
      have hne2 : (er != 0) = true := by simpa using hne
      clear h hz hL hz2 k he hne
      go_enter Tryz.func51, Tryz.ntmps51
      go_wp2_with fail
      refine (fit_any a len cap a2 len2 cap2 b true hfit _ (HX.out.keep HF.out.bel) HZ.out).mono ?_
      rintro e w1 ⟨rfl, hb1⟩
      have HF1 := Lib.hid (HF.out.keep hb1)
      have HT1 := Lib.hid (HT.out.keep hb1)
      clear hb1 hfit
      obtain ⟨q0, q1⟩ := cells2 HF1.out.box
      obtain ⟨t0, t1, t2⟩ := cells3 HT1.out
      go_wp2_with fail
      refine (HPUT.out w1 HF1.out.bel).mono ?_
      rintro e w2 ⟨a4, c4, rfl, _, _, hb2⟩
      have HF2 := Lib.hid (HF1.out.keep hb2)
      clear hb2 q0 q1 t0 t1 t2
      obtain ⟨z0, z1⟩ := cells2 HF2.out.res
      obtain ⟨f0, f1⟩ := free2 HF2.out.res
      go_wp2_with fail
      have HRS := Lib.hid (heap_put2 HF2.out.res (.slice none 0 0) (.slice none 0 0))
      have HB := Lib.hid (below_put2 HF2.out.bel (show w.heap.size ≤ w.heap.size + 2 by omega) (.slice none 0 0) (.slice none 0 0))
      exact bodyPost_ret (results_book (j := 6) (k := 7) rfl _ _ (w.heap.size + 2) _ _ rfl HRS.out) rfl (book_err HR.out HB.out)
    · have hfl : fitL ls = true := oneH_fit hone
      have hR := held_ok (w := wh) hfit hfl he
      rw [hR]
      rw [he] at HPUT
      have HM := Lib.hid (fun (w' : World) a' c' (hb : Below w.heap.size w w') hh hr => move_any a len cap b.sk la n lc ls g wh hact a' (putL b.hd ⟨sg, ls, t⟩).length c' (putL b.hd ⟨sg, ls, t⟩) w' (h.sk.keep hb) (hL.keep hb) hh hr k.up (fun x hx => (k.each x hx).1) hfl (by rw [← h.sk.1]; exact k.len))
      generalize putL b.hd ⟨sg, ls, t⟩ = nl at HM HPUT ⊢
      generalize moveR wh ls b.sk nl = r at HM ⊢
      clear h hz hL hz2 k he hone hfl hR
      go_enter Tryz.func51, Tryz.ntmps51
      go_wp2_with fail
      refine (fit_any a len cap a2 len2 cap2 b true hfit _ (HX.out.keep HF.out.bel) HZ.out).mono ?_
      rintro e w1 ⟨rfl, hb1⟩
      have HF1 := Lib.hid (HF.out.keep hb1)
      have HT1 := Lib.hid (HT.out.keep hb1)
      clear hb1 hfit
      obtain ⟨q0, q1⟩ := cells2 HF1.out.box
      obtain ⟨t0, t1, t2⟩ := cells3 HT1.out
      go_wp2_with fail
      refine (HPUT.out w1 HF1.out.bel).mono ?_
      rintro e w2 ⟨a4, c4, rfl, hr4, hh4, hb2⟩
      have HF2 := Lib.hid (HF1.out.keep hb2)
      have HT2 := Lib.hid (HT1.out.keep hb2)
      have HM2 := Lib.hid (HM.out w2 a4 c4 HF2.out.bel hh4 hr4)
      clear hb2 hr4 hh4 q0 q1 t0 t1 t2
      obtain ⟨q0, q1⟩ := cells2 HF2.out.box
      obtain ⟨t0, t1, t2⟩ := cells3 HT2.out
      go_wp2_with fail
      refine (HM2.out).mono ?_
      rintro e w9 ⟨a9, n9, c9, b9, m9, d9, rfl, hbk, hb9⟩
      have HF9 := Lib.hid (HF2.out.keep hb9)
      obtain ⟨z0, z1⟩ := cells2 HF9.out.res
      obtain ⟨f0, f1⟩ := free2 HF9.out.res
      have HBK := Lib.hid (bk_same hbk HF9.out.res (.slice a9 n9 c9) (.slice b9 m9 d9))
      clear hbk hb9 q0 q1 t0 t1 t2
      go_wp2_with fail
      have HRS := Lib.hid (heap_put2 HF9.out.res (.slice a9 n9 c9) (.slice b9 m9 d9))
      have HB := Lib.hid (below_put2 HF9.out.bel (show w.heap.size ≤ w.heap.size + 2 by omega) (.slice a9 n9 c9) (.slice b9 m9 d9))
      exact bodyPost_ret (results_book (j := 6) (k := 7) rfl _ _ (w.heap.size + 2) _ _ rfl HRS.out) rfl ⟨a9, n9, c9, b9, m9, d9, rfl, HBK.out, HB.out⟩
set_option maxHeartbeats 4000000 in
theorem drop_any (a : Option Addr) (len cap : Nat) (a2 : Option Addr) (len2 cap2 : Nat) (b : Bk) (sg : Int) (g : Nat) (wh : Int) (hact : ActOf g wh) (hw : wh = 2 ∨ wh = 3) (w : World)
    (h : BkAt w a len a2 len2 cap2 b) (hz : SzB b) :
    Calls Tryz.prog 53 #[.agg #[.slice a len cap, .slice a2 len2 cap2], .int .i64 sg, .func (.func g) #[] #[]] w (BookR w (dropB b sg wh)) := by
  have HF := Lib.hid (fb_new w (.slice a len cap) (.slice a2 len2 cap2) (.slice none 0 0) (.slice none 0 0))
  have HX := Lib.hid h
  have HZ := Lib.hid hz
  cases hfit : fitB b with
  | false =>
    have HR := Lib.hid (drop_bad (g := sg) (w := wh) hfit)
    generalize dropB b sg wh = r at HR ⊢
    go_enter Tryz.func53, Tryz.ntmps53
    go_wp2_with fail
    refine (fit_any a len cap a2 len2 cap2 b false hfit _ (HX.out.keep HF.out.bel) HZ.out).mono ?_
    rintro e w1 ⟨rfl, hb1⟩
    have HF1 := Lib.hid (HF.out.keep hb1)
    clear hb1 hfit
    obtain ⟨z0, z1⟩ := cells2 HF1.out.res
    obtain ⟨f0, f1⟩ := free2 HF1.out.res
    go_wp2_with fail
    have HRS := Lib.hid (heap_put2 HF1.out.res (.slice none 0 0) (.slice none 0 0))
    have HB := Lib.hid (below_put2 HF1.out.bel (show w.heap.size ≤ w.heap.size + 1 by omega) (.slice none 0 0) (.slice none 0 0))
    exact bodyPost_ret (results_book (j := 6) (k := 7) rfl _ _ (w.heap.size + 1) _ _ rfl HRS.out) rfl (book_err HR.out HB.out)
  | true =>
    have k := fitB_iff.1 hfit
    have HDR := Lib.hid (fun (w' : World) (hb : Below w.heap.size w w') => Holds.drop_any a2 len2 cap2 b.hd sg w' (h.hd.keep hb) h.room hz.hd hz.ls)
    cases hfs : findH sg b.hd with
    | none =>
      have HR := Lib.hid (drop_none (w := wh) hfit hfs)
      have he : dropH b.hd sg = ([], 2) := by unfold dropH; rw [if_pos k.hd, hfs]; rfl
      rw [he] at HDR
      generalize dropB b sg wh = r at HR ⊢
      clear h hz k he hfs
      go_enter Tryz.func53, Tryz.ntmps53
      go_wp2_with fail
      refine (fit_any a len cap a2 len2 cap2 b true hfit _ (HX.out.keep HF.out.bel) HZ.out).mono ?_
      rintro e w1 ⟨rfl, hb1⟩
      have HF1 := Lib.hid (HF.out.keep hb1)
      clear hb1 hfit
      obtain ⟨q0, q1⟩ := cells2 HF1.out.box
      go_wp2_with fail
      refine (HDR.out w1 HF1.out.bel).mono ?_
      rintro e w2 ⟨a4, c4, rfl, _, _, hb2⟩
      have HF2 := Lib.hid (HF1.out.keep hb2)
      clear hb2 q0 q1
      obtain ⟨z0, z1⟩ := cells2 HF2.out.res
      obtain ⟨f0, f1⟩ := free2 HF2.out.res
      go_wp2_with fail
      have HRS := Lib.hid (heap_put2 HF2.out.res (.slice none 0 0) (.slice none 0 0))
      have HB := Lib.hid (below_put2 HF2.out.bel (show w.heap.size ≤ w.heap.size + 1 by omega) (.slice none 0 0) (.slice none 0 0))
      exact bodyPost_ret (results_book (j := 6) (k := 7) rfl _ _ (w.heap.size + 1) _ _ rfl HRS.out) rfl (book_err HR.out HB.out)
    | some x =>
      have hR := drop_some hw hfit hfs
      rw [hR]
      have he : dropH b.hd sg = (less sg b.hd, 0) := by unfold dropH; rw [if_pos k.hd, hfs]; rfl
      rw [he] at HDR
      have hxm := (find_mem hfs).1
      have hfl : fitL x.ls = true := oneH_fit ((fitH_iff.1 k.hd).2.1 x hxm).1
      have HFI := Lib.hid (fun (w' : World) (hb : Below w.heap.size w w') => Holds.find_any a2 len2 cap2 b.hd sg w' (h.hd.keep hb) hz.ls)
      rw [hfs] at HFI
      have HM := Lib.hid (fun (w' : World) a' c' a3 c3 (hb : Below w.heap.size w w') hl hh hr => move_any a len cap b.sk a3 x.ls.length c3 x.ls g wh hact a' (less sg b.hd).length c' (less sg b.hd) w' (h.sk.keep hb) hl hh hr k.up (fun x hx => (k.each x hx).1) hfl (by rw [← h.sk.1]; exact k.len))
      generalize less sg b.hd = nl at HM HDR ⊢
      generalize moveR wh x.ls b.sk nl = r at HM ⊢
      obtain ⟨xg, xl, xt⟩ := x
      clear h hz k he hfs hR hxm hfl
      go_enter Tryz.func53, Tryz.ntmps53
      go_wp2_with fail
      refine (fit_any a len cap a2 len2 cap2 b true hfit _ (HX.out.keep HF.out.bel) HZ.out).mono ?_
      rintro e w1 ⟨rfl, hb1⟩
      have HF1 := Lib.hid (HF.out.keep hb1)
      clear hb1 hfit
      obtain ⟨q0, q1⟩ := cells2 HF1.out.box
      go_wp2_with fail
      refine (HDR.out w1 HF1.out.bel).mono ?_
      rintro e w2 ⟨a4, c4, rfl, hr4, hh4, hb2⟩
      have HF2 := Lib.hid (HF1.out.keep hb2)
      have HH4 := Lib.hid hh4
      clear hb2 q0 q1 hh4
      obtain ⟨q0, q1⟩ := cells2 HF2.out.box
      go_wp2_with fail
      refine (HFI.out w2 HF2.out.bel).mono ?_
      rintro e w3 ⟨a5, c5, rfl, hl5, hb3⟩
      simp only [Option.getD_some] at hl5
      have hba := (Below.refl w3.heap.size w3).alloc (Nat.le_refl _) (.cells #[.int .i64 xg, .slice a5 xl.length c5, .int .i64 xt] 69)
      have hb3a := Lines.below_keep hb3 hba hb3.size
      have HF3 := Lib.hid (HF2.out.keep hb3a)
      have HT3 := Lib.hid (at3_new w3 (.int .i64 xg) (.slice a5 xl.length c5) (.int .i64 xt))
      have HM3 := Lib.hid (HM.out _ a4 c4 a5 c5 HF3.out.bel (hl5.keep hba) (HH4.out.keep hb3a) hr4)
      clear hb3 hba hb3a hl5 q0 q1
      simp only [Option.getD_some]
      obtain ⟨q0, q1⟩ := cells2 HF3.out.box
      obtain ⟨t0, t1, t2⟩ := cells3 HT3.out
      go_wp2_with fail
      refine (HM3.out).mono ?_
      rintro e w9 ⟨a9, n9, c9, b9, m9, d9, rfl, hbk, hb9⟩
      have HF9 := Lib.hid (HF3.out.keep hb9)
      obtain ⟨z0, z1⟩ := cells2 HF9.out.res
      obtain ⟨f0, f1⟩ := free2 HF9.out.res
      have HBK := Lib.hid (bk_same hbk HF9.out.res (.slice a9 n9 c9) (.slice b9 m9 d9))
      clear hbk hb9 q0 q1 t0 t1 t2
      go_wp2_with fail
      have HRS := Lib.hid (heap_put2 HF9.out.res (.slice a9 n9 c9) (.slice b9 m9 d9))
      have HB := Lib.hid (below_put2 HF9.out.bel (show w.heap.size ≤ w.heap.size + 1 by omega) (.slice a9 n9 c9) (.slice b9 m9 d9))
      exact bodyPost_ret (results_book (j := 6) (k := 7) rfl _ _ (w.heap.size + 1) _ _ rfl HRS.out) rfl ⟨a9, n9, c9, b9, m9, d9, rfl, HBK.out, HB.out⟩
set_option maxHeartbeats 1000000 in
theorem hold_any (a : Option Addr) (len cap : Nat) (a2 : Option Addr) (len2 cap2 : Nat) (b : Bk) (sg t : Int) (la : Option Addr) (n lc : Nat) (ls : List Ln) (w : World)
    (h : BkAt w a len a2 len2 cap2 b) (hz : SzB b) (hL : LsAt w la n ls) (hz2 : Sz ls) (hn : n ≤ 1000000) :
    Calls Tryz.prog 21 #[.agg #[.slice a len cap, .slice a2 len2 cap2], .int .i64 sg, .slice la n lc, .int .i64 t] w (BookR w (heldB b sg ls t 1)) := by
  have HF := Lib.hid (fb_new w (.slice a len cap) (.slice a2 len2 cap2) (.slice none 0 0) (.slice none 0 0))
  have C := Lib.hid (fun (w' : World) (hb : Below w.heap.size w w') => put_any a len cap a2 len2 cap2 b sg t la n lc ls _ 1 act_hold w' (h.keep hb) hz (hL.keep hb) hz2 hn)
  generalize heldB b sg ls t 1 = r at C ⊢
  clear h hz hL hz2 hn
  obtain ⟨q0, q1⟩ := cells2 HF.out.box
  go_enter Tryz.func21, Tryz.ntmps21
  go_wp2_with fail
  refine (C.out _ HF.out.bel).mono ?_
  rintro e w9 ⟨a9, n9, c9, b9, m9, d9, rfl, hbk, hb9⟩
  have HF9 := Lib.hid (HF.out.keep hb9)
  obtain ⟨z0, z1⟩ := cells2 HF9.out.res
  obtain ⟨f0, f1⟩ := free2 HF9.out.res
  have HBK := Lib.hid (bk_same hbk HF9.out.res (.slice a9 n9 c9) (.slice b9 m9 d9))
  clear hbk hb9 q0 q1
  go_wp2_with fail
  have HRS := Lib.hid (heap_put2 HF9.out.res (.slice a9 n9 c9) (.slice b9 m9 d9))
  have HB := Lib.hid (below_put2 HF9.out.bel (show w.heap.size ≤ w.heap.size + 1 by omega) (.slice a9 n9 c9) (.slice b9 m9 d9))
  exact bodyPost_ret (results_book (j := 8) (k := 9) rfl _ _ (w.heap.size + 1) _ _ rfl HRS.out) rfl ⟨a9, n9, c9, b9, m9, d9, rfl, HBK.out, HB.out⟩
set_option maxHeartbeats 1000000 in
theorem unkeep_any (a : Option Addr) (len cap : Nat) (a2 : Option Addr) (len2 cap2 : Nat) (b : Bk) (sg t : Int) (la : Option Addr) (n lc : Nat) (ls : List Ln) (w : World)
    (h : BkAt w a len a2 len2 cap2 b) (hz : SzB b) (hL : LsAt w la n ls) (hz2 : Sz ls) (hn : n ≤ 1000000) :
    Calls Tryz.prog 26 #[.agg #[.slice a len cap, .slice a2 len2 cap2], .int .i64 sg, .slice la n lc, .int .i64 t] w (BookR w (heldB b sg ls t 4)) := by
  have HF := Lib.hid (fb_new w (.slice a len cap) (.slice a2 len2 cap2) (.slice none 0 0) (.slice none 0 0))
  have C := Lib.hid (fun (w' : World) (hb : Below w.heap.size w w') => put_any a len cap a2 len2 cap2 b sg t la n lc ls _ 4 act_unkeep w' (h.keep hb) hz (hL.keep hb) hz2 hn)
  generalize heldB b sg ls t 4 = r at C ⊢
  clear h hz hL hz2 hn
  obtain ⟨q0, q1⟩ := cells2 HF.out.box
  go_enter Tryz.func26, Tryz.ntmps26
  go_wp2_with fail
  refine (C.out _ HF.out.bel).mono ?_
  rintro e w9 ⟨a9, n9, c9, b9, m9, d9, rfl, hbk, hb9⟩
  have HF9 := Lib.hid (HF.out.keep hb9)
  obtain ⟨z0, z1⟩ := cells2 HF9.out.res
  obtain ⟨f0, f1⟩ := free2 HF9.out.res
  have HBK := Lib.hid (bk_same hbk HF9.out.res (.slice a9 n9 c9) (.slice b9 m9 d9))
  clear hbk hb9 q0 q1
  go_wp2_with fail
  have HRS := Lib.hid (heap_put2 HF9.out.res (.slice a9 n9 c9) (.slice b9 m9 d9))
  have HB := Lib.hid (below_put2 HF9.out.bel (show w.heap.size ≤ w.heap.size + 1 by omega) (.slice a9 n9 c9) (.slice b9 m9 d9))
  exact bodyPost_ret (results_book (j := 8) (k := 9) rfl _ _ (w.heap.size + 1) _ _ rfl HRS.out) rfl ⟨a9, n9, c9, b9, m9, d9, rfl, HBK.out, HB.out⟩
set_option maxHeartbeats 1000000 in
theorem release_any (a : Option Addr) (len cap : Nat) (a2 : Option Addr) (len2 cap2 : Nat) (b : Bk) (sg : Int) (w : World)
    (h : BkAt w a len a2 len2 cap2 b) (hz : SzB b) :
    Calls Tryz.prog 25 #[.agg #[.slice a len cap, .slice a2 len2 cap2], .int .i64 sg] w (BookR w (dropB b sg 2)) := by
  have HF := Lib.hid (fb_new w (.slice a len cap) (.slice a2 len2 cap2) (.slice none 0 0) (.slice none 0 0))
  have C := Lib.hid (fun (w' : World) (hb : Below w.heap.size w w') => drop_any a len cap a2 len2 cap2 b sg _ 2 act_release (by decide) w' (h.keep hb) hz)
  generalize dropB b sg 2 = r at C ⊢
  clear h hz
  obtain ⟨q0, q1⟩ := cells2 HF.out.box
  go_enter Tryz.func25, Tryz.ntmps25
  go_wp2_with fail
  refine (C.out _ HF.out.bel).mono ?_
  rintro e w9 ⟨a9, n9, c9, b9, m9, d9, rfl, hbk, hb9⟩
  have HF9 := Lib.hid (HF.out.keep hb9)
  obtain ⟨z0, z1⟩ := cells2 HF9.out.res
  obtain ⟨f0, f1⟩ := free2 HF9.out.res
  have HBK := Lib.hid (bk_same hbk HF9.out.res (.slice a9 n9 c9) (.slice b9 m9 d9))
  clear hbk hb9 q0 q1
  go_wp2_with fail
  have HRS := Lib.hid (heap_put2 HF9.out.res (.slice a9 n9 c9) (.slice b9 m9 d9))
  have HB := Lib.hid (below_put2 HF9.out.bel (show w.heap.size ≤ w.heap.size + 1 by omega) (.slice a9 n9 c9) (.slice b9 m9 d9))
  exact bodyPost_ret (results_book (j := 4) (k := 5) rfl _ _ (w.heap.size + 1) _ _ rfl HRS.out) rfl ⟨a9, n9, c9, b9, m9, d9, rfl, HBK.out, HB.out⟩
set_option maxHeartbeats 1000000 in
theorem keep_any (a : Option Addr) (len cap : Nat) (a2 : Option Addr) (len2 cap2 : Nat) (b : Bk) (sg : Int) (w : World)
    (h : BkAt w a len a2 len2 cap2 b) (hz : SzB b) :
    Calls Tryz.prog 22 #[.agg #[.slice a len cap, .slice a2 len2 cap2], .int .i64 sg] w (BookR w (dropB b sg 3)) := by
  have HF := Lib.hid (fb_new w (.slice a len cap) (.slice a2 len2 cap2) (.slice none 0 0) (.slice none 0 0))
  have C := Lib.hid (fun (w' : World) (hb : Below w.heap.size w w') => drop_any a len cap a2 len2 cap2 b sg _ 3 act_keep (by decide) w' (h.keep hb) hz)
  generalize dropB b sg 3 = r at C ⊢
  clear h hz
  obtain ⟨q0, q1⟩ := cells2 HF.out.box
  go_enter Tryz.func22, Tryz.ntmps22
  go_wp2_with fail
  refine (C.out _ HF.out.bel).mono ?_
  rintro e w9 ⟨a9, n9, c9, b9, m9, d9, rfl, hbk, hb9⟩
  have HF9 := Lib.hid (HF.out.keep hb9)
  obtain ⟨z0, z1⟩ := cells2 HF9.out.res
  obtain ⟨f0, f1⟩ := free2 HF9.out.res
  have HBK := Lib.hid (bk_same hbk HF9.out.res (.slice a9 n9 c9) (.slice b9 m9 d9))
  clear hbk hb9 q0 q1
  go_wp2_with fail
  have HRS := Lib.hid (heap_put2 HF9.out.res (.slice a9 n9 c9) (.slice b9 m9 d9))
  have HB := Lib.hid (below_put2 HF9.out.bel (show w.heap.size ≤ w.heap.size + 1 by omega) (.slice a9 n9 c9) (.slice b9 m9 d9))
  exact bodyPost_ret (results_book (j := 4) (k := 5) rfl _ _ (w.heap.size + 1) _ _ rfl HRS.out) rfl ⟨a9, n9, c9, b9, m9, d9, rfl, HBK.out, HB.out⟩
end Go.Proofs.YtjclkiabgemfpaaGreat.Ledger

/-
  The contracts of Send, of the laws' own of and do: any books, any acts; what was there stays as it was.
-/
set_option linter.unusedVariables false
set_option maxRecDepth 4000
namespace Go.Proofs.YtjclkiabgemfpaaGreat.Ledger
open Go.RowKit LinesP HoldsP LedgerP
open StockP (Sk sk0 fitS Fit fitS_iff fromV turnV moveV turn_fit)
open Go.Proofs.YtjclkiabgemfpaaGreat.Lines (LsAt Sz SzM ret_bool ret_int below_keep below_drewN owns_form owns_cell owns_below)
open Go.Proofs.YtjclkiabgemfpaaGreat.Holds (HsAt SzH hmf MadeP At3 cells3 at3_new)

theorem lfit_is (a : Option Addr) (len cap : Nat) (l : List Ln) (b : Bool) (hb : fitL l = b) (w : World) (h : LsAt w a len l) (hs : Sz l) :
    Calls Tryz.prog 55 #[.slice a len cap] w fun e w' => e = .returned (.bool b) ∧ Below w.heap.size w w' := by
  have := Lines.fit_any a len cap l w h hs
  rw [hb] at this
  exact this
set_option maxHeartbeats 4000000 in
theorem send_any (a : Option Addr) (len cap : Nat) (a2 : Option Addr) (len2 cap2 : Nat) (b : Bk) (la : Option Addr) (n lc : Nat) (ls : List Ln) (w : World)
    (h : BkAt w a len a2 len2 cap2 b) (hz : SzB b) (hL : LsAt w la n ls) (hz2 : Sz ls) (hn : n ≤ 1000000) :
    Calls Tryz.prog 23 #[.agg #[.slice a len cap, .slice a2 len2 cap2], .slice la n lc] w (BookR w (sendB b ls)) := by
  have HF := Lib.hid (fb_new w (.slice a len cap) (.slice a2 len2 cap2) (.slice none 0 0) (.slice none 0 0))
  have HX := Lib.hid h
  have HZ := Lib.hid hz
  cases hfit : fitB b with
  | false =>
    have HR := Lib.hid (send_bad (ls := ls) hfit)
    generalize sendB b ls = r at HR ⊢
    go_enter Tryz.func23, Tryz.ntmps23
    go_wp2_with fail
    refine (fit_any a len cap a2 len2 cap2 b false hfit _ (HX.out.keep HF.out.bel) HZ.out).mono ?_
    rintro e w1 ⟨rfl, hb1⟩
    have HF1 := Lib.hid (HF.out.keep hb1)
    clear hb1 hfit
    obtain ⟨z0, z1⟩ := cells2 HF1.out.res
    obtain ⟨f0, f1⟩ := free2 HF1.out.res
    go_wp2_with fail
    have HRS := Lib.hid (heap_put2 HF1.out.res (.slice none 0 0) (.slice none 0 0))
    have HB := Lib.hid (below_put2 HF1.out.bel (show w.heap.size ≤ w.heap.size + 1 by omega) (.slice none 0 0) (.slice none 0 0))
    exact bodyPost_ret (results_book (j := 4) (k := 5) rfl _ _ (w.heap.size + 1) _ _ rfl HRS.out) rfl (book_err HR.out HB.out)
  | true =>
    have k := fitB_iff.1 hfit
    by_cases h0 : n = 0
    · have HR := Lib.hid (send_arg (ls := ls) hfit (by rw [hL.1, h0]; exact fun e => absurd e.2 (by decide)))
      generalize sendB b ls = r at HR ⊢
      clear h hz hL hz2 k
      subst h0
      go_enter Tryz.func23, Tryz.ntmps23
      go_wp2_with fail
      refine (fit_any a len cap a2 len2 cap2 b true hfit _ (HX.out.keep HF.out.bel) HZ.out).mono ?_
      rintro e w1 ⟨rfl, hb1⟩
      have HF1 := Lib.hid (HF.out.keep hb1)
      clear hb1 hfit
      obtain ⟨z0, z1⟩ := cells2 HF1.out.res
      obtain ⟨f0, f1⟩ := free2 HF1.out.res
      go_wp2_with fail
      have HRS := Lib.hid (heap_put2 HF1.out.res (.slice none 0 0) (.slice none 0 0))
      have HB := Lib.hid (below_put2 HF1.out.bel (show w.heap.size ≤ w.heap.size + 1 by omega) (.slice none 0 0) (.slice none 0 0))
      exact bodyPost_ret (results_book (j := 4) (k := 5) rfl _ _ (w.heap.size + 1) _ _ rfl HRS.out) rfl (book_err HR.out HB.out)
    · have hn0 : ¬ ((n : Int) = 0) := by omega
      have hn1 : ((n : Int) == 0) = false := by simpa using hn0
      cases hfl : fitL ls with
      | false =>
        have HR := Lib.hid (send_arg (ls := ls) hfit (fun e => by rw [hfl] at e; exact absurd e.1 (by simp)))
        have CF := Lib.hid (fun (w' : World) (hb : Below w.heap.size w w') => lfit_is la n lc ls false hfl w' (hL.keep hb) hz2)
        generalize sendB b ls = r at HR ⊢
        clear h hz hL hz2 k hfl
        go_enter Tryz.func23, Tryz.ntmps23
        go_wp2_with fail
        refine (fit_any a len cap a2 len2 cap2 b true hfit _ (HX.out.keep HF.out.bel) HZ.out).mono ?_
        rintro e w1 ⟨rfl, hb1⟩
        have HF1 := Lib.hid (HF.out.keep hb1)
        clear hb1 hfit
        go_wp2_with fail
        refine (CF.out w1 HF1.out.bel).mono ?_
        rintro e w2 ⟨rfl, hb2⟩
        have HF2 := Lib.hid (HF1.out.keep hb2)
        clear hb2
        obtain ⟨z0, z1⟩ := cells2 HF2.out.res
        obtain ⟨f0, f1⟩ := free2 HF2.out.res
        go_wp2_with fail
        have HRS := Lib.hid (heap_put2 HF2.out.res (.slice none 0 0) (.slice none 0 0))
        have HB := Lib.hid (below_put2 HF2.out.bel (show w.heap.size ≤ w.heap.size + 1 by omega) (.slice none 0 0) (.slice none 0 0))
        exact bodyPost_ret (results_book (j := 4) (k := 5) rfl _ _ (w.heap.size + 1) _ _ rfl HRS.out) rfl (book_err HR.out HB.out)
      | true =>
        have hR := send_ok (ls := ls) hfit ⟨hfl, by rw [hL.1]; omega⟩
        rw [hR]
        have CF := Lib.hid (fun (w' : World) (hb : Below w.heap.size w w') => lfit_is la n lc ls true hfl w' (hL.keep hb) hz2)
        have HCP := Lib.hid (fun (w' : World) (hb : Below w.heap.size w w') => copies_any a2 len2 cap2 b.hd w' (h.hd.keep hb) (by rw [← h.hd.len]; exact hz.lh) hz.ls)
        have HM := Lib.hid (fun (w' : World) a' c' (hb : Below w.heap.size w w') hh hr => move_any a len cap b.sk la n lc ls 57 5 act_send a' b.hd.length c' b.hd w' (h.sk.keep hb) (hL.keep hb) hh hr k.up (fun x hx => (k.each x hx).1) hfl (by rw [← h.sk.1]; exact k.len))
        generalize moveR 5 ls b.sk b.hd = r at HM ⊢
        generalize b.hd = hdl at HM HCP
        clear h hz hL hz2 k hfl hR
        go_enter Tryz.func23, Tryz.ntmps23
        go_wp2_with fail
        refine (fit_any a len cap a2 len2 cap2 b true hfit _ (HX.out.keep HF.out.bel) HZ.out).mono ?_
        rintro e w1 ⟨rfl, hb1⟩
        have HF1 := Lib.hid (HF.out.keep hb1)
        clear hb1 hfit
        go_wp2_with fail
        refine (CF.out w1 HF1.out.bel).mono ?_
        rintro e w2 ⟨rfl, hb2⟩
        have HF2 := Lib.hid (HF1.out.keep hb2)
        clear hb2
        go_wp2_with fail
        have b0 : Below w2.heap.size w2 w2.drew := (Below.refl _ w2).drew
        have K : Hid (∀ w', Below w2.heap.size w2 w' → w'.cell? ⟨w.heap.size, 0, none⟩ = some (.slice a len cap) ∧ w'.cell? ⟨w.heap.size, 1, none⟩ = some (.slice a2 len2 cap2)) := fun w' hb => cells2 (HF2.out.keep hb).box
        have K6 : Hid (∀ w' v0 v1, Below w2.heap.size w2 w' → (put2 w' (w.heap.size + 1) v0 v1).cell? ⟨w.heap.size, 0, none⟩ = some (.slice a len cap) ∧ (put2 w' (w.heap.size + 1) v0 v1).cell? ⟨w.heap.size, 1, none⟩ = some (.slice a2 len2 cap2)) :=
          fun w' v0 v1 hb => cells2 ((put2_other v0 v1 (by omega)).trans (HF2.out.keep hb).box)
        have k0 := K.out _ b0
        go_region_held3 (fun w' => w'.cell? ⟨w.heap.size, 0, none⟩ = some (.slice a len cap) ∧ w'.cell? ⟨w.heap.size, 1, none⟩ = some (.slice a2 len2 cap2))
          (first | with_reducible exact k0 | with_reducible exact k4 | with_reducible exact k5 | with_reducible exact k6)
          (first
            | (go_at_call 56; (with_reducible refine (HM4.out).mono ?_); rintro e w9 ⟨a9, n9, c9, b9, m9, d9, rfl, hbk, hb9⟩; have b5 := Lines.below_keep b4 hb9 b4.size; have k5 := K.out _ b5; have k6 := K6.out _ (.slice a9 n9 c9) (.slice b9 m9 d9) b5; obtain ⟨z0, z1⟩ := cells2 (HF2.out.keep b5).res; obtain ⟨f0, f1⟩ := free2 (HF2.out.keep b5).res)
            | (go_at_call 58; (with_reducible refine (HCP.out _ (Lines.below_keep HF2.out.bel b0 HF2.out.bel.size)).mono ?_); rintro e w4 ⟨a4, c4, rfl, hr4, hs4, hb4⟩; have b4 := Lines.below_keep b0 hb4 b0.size; have k4 := K.out _ b4; have HM4 := Lib.hid (HM.out w4 a4 c4 (Lines.below_keep HF2.out.bel b4 HF2.out.bel.size) hs4 hr4)))
        have HF9 := HF2.out.keep b5
        have HBK := Lib.hid (bk_same hbk HF9.res (.slice a9 n9 c9) (.slice b9 m9 d9))
        have HRS := Lib.hid (heap_put2 HF9.res (.slice a9 n9 c9) (.slice b9 m9 d9))
        have HB := Lib.hid (below_put2 HF9.bel (Nat.le_succ _) (.slice a9 n9 c9) (.slice b9 m9 d9))
        clear hbk hb9 hs4 hb4 k0 k4 k5 k6 b0 b4 b5 z0 z1 f0 f1
        go_wp2_with fail
        exact bodyPost_ret (results_book (j := 4) (k := 5) rfl _ _ (w.heap.size + 1) _ _ rfl HRS.out) rfl ⟨a9, n9, c9, b9, m9, d9, rfl, HBK.out, HB.out⟩
/-! ### the laws' own -/
theorem results_one2 {fn : Func} {j : Nat} (h : fn.results = #[.cell j 33]) (tmps : Array Value) (w : World) (b : Nat) (x0 x1 : Value) (hp : tmps.getD j undef = .pointer (some ⟨b, 0, none⟩))
    (c : At2 w b x0 x1) : (results fn tmps).run Tryz.prog w = .ok (.agg #[x0, x1]) w := by
  have hp' : tmps[j]?.getD undef = .pointer (some ⟨b, 0, none⟩) := by rw [← hp]; simp
  obtain ⟨c0, c1⟩ := cells2 c
  simp only [results, h]
  go_simp
set_option maxHeartbeats 1000000 in
theorem of_any (v0 v1 : Value) (w : World) (h0 : ∃ a n c, v0 = .slice a n c) (h1 : ∃ a n c, v1 = .slice a n c) :
    Calls Tryz.prog 9 #[.agg #[v0, v1]] w fun e w' => e = .returned (.agg #[v0, v1]) ∧ Below w.heap.size w w' := by
  obtain ⟨a, n, c, rfl⟩ := h0
  obtain ⟨a2, n2, c2, rfl⟩ := h1
  have h2 := heap_alloc_new (w.alloc (.cells #[.slice a n c, .slice a2 n2 c2] 25)) (.cells #[.slice a n c, .slice a2 n2 c2] 33)
  rw [World.size_alloc] at h2
  have HRS : Hid (At2 ((w.alloc (.cells #[.slice a n c, .slice a2 n2 c2] 25)).alloc (.cells #[.slice a n c, .slice a2 n2 c2] 33)) (w.heap.size + 1) (.slice a n c) (.slice a2 n2 c2)) := h2
  have HB : Hid (Below w.heap.size w ((w.alloc (.cells #[.slice a n c, .slice a2 n2 c2] 25)).alloc (.cells #[.slice a n c, .slice a2 n2 c2] 33))) := ((Below.refl _ w).alloc (Nat.le_refl _) _).alloc (by rw [World.size_alloc]; omega) _
  clear h2
  go_enter Tryz.func9, Tryz.ntmps9
  go_wp2_with fail
  exact bodyPost_ret (results_one2 (j := 2) rfl _ _ (w.heap.size + 1) _ _ rfl HRS.out) rfl ⟨rfl, HB.out⟩

abbrev At5 (w : World) (b : Nat) (v0 v1 v2 v3 v4 : Value) : Prop := w.heap[b]? = some (.cells #[v0, v1, v2, v3, v4] 28 (0, 0))
theorem cells5 {w : World} {v0 v1 v2 v3 v4 : Value} {b : Nat} (h : At5 w b v0 v1 v2 v3 v4) : w.cell? ⟨b, 0, none⟩ = some v0 ∧ w.cell? ⟨b, 1, none⟩ = some v1 ∧ w.cell? ⟨b, 2, none⟩ = some v2 ∧ w.cell? ⟨b, 3, none⟩ = some v3 ∧ w.cell? ⟨b, 4, none⟩ = some v4 := by
  refine ⟨?_, ?_, ?_, ?_, ?_⟩ <;> (rw [cell_of_heap h]; rfl)
theorem fb_act (w : World) (v0 v1 r0 r1 u0 u1 u2 u3 u4 : Value) : FB w.heap.size w (((w.alloc (.cells #[v0, v1] 33)).alloc (.cells #[u0, u1, u2, u3, u4] 28)).alloc (.cells #[r0, r1] 33)) v0 v1 (w.heap.size + 2) r0 r1 ∧
    At5 (((w.alloc (.cells #[v0, v1] 33)).alloc (.cells #[u0, u1, u2, u3, u4] 28)).alloc (.cells #[r0, r1] 33)) (w.heap.size + 1) u0 u1 u2 u3 u4 := by
  have h1 := heap_alloc_new (w.alloc (.cells #[v0, v1] 33)) (.cells #[u0, u1, u2, u3, u4] 28)
  have h2 := heap_alloc_new ((w.alloc (.cells #[v0, v1] 33)).alloc (.cells #[u0, u1, u2, u3, u4] 28)) (.cells #[r0, r1] 33)
  rw [World.size_alloc] at h1
  rw [World.size_alloc, World.size_alloc] at h2
  refine ⟨⟨(((Below.refl _ w).alloc (Nat.le_refl _) _).alloc (by rw [World.size_alloc]; omega) _).alloc (by rw [World.size_alloc, World.size_alloc]; omega) _, ?_, h2⟩, ?_⟩
  · exact (heap_alloc_old _ _ (by rw [World.size_alloc, World.size_alloc]; omega)).trans ((heap_alloc_old _ _ (by rw [World.size_alloc]; omega)).trans (heap_alloc_new w _))
  · exact (heap_alloc_old _ _ (by rw [World.size_alloc, World.size_alloc]; omega)).trans h1
set_option maxHeartbeats 4000000 in
theorem do_any (a : Option Addr) (len cap : Nat) (a2 : Option Addr) (len2 cap2 : Nat) (b : Bk) (kd sg m : Int) (s : ByteArray) (la : Option Addr) (n lc : Nat) (ls : List Ln) (w : World)
    (h : BkAt w a len a2 len2 cap2 b) (hz : SzB b) (hs : s.size ≤ 300) (hL : LsAt w la n ls) (hz2 : Sz ls) (hn : n ≤ 1000000) :
    Calls Tryz.prog 8 #[.agg #[.slice a len cap, .slice a2 len2 cap2], .agg #[.int .i64 kd, .int .i64 sg, .int .i64 m, .string s, .slice la n lc]] w (BookR w (doB b ⟨kd, sg, m, s, ls⟩)) := by
  have hall := fb_act w (.slice a len cap) (.slice a2 len2 cap2) (.slice none 0 0) (.slice none 0 0) (.int .i64 kd) (.int .i64 sg) (.int .i64 m) (.string s) (.slice la n lc)
  have HF := Lib.hid hall.1
  have HA := Lib.hid hall.2
  clear hall

  by_cases k1 : kd = 1
  · have hR : doB b ⟨kd, sg, m, s, ls⟩ = restockB b s m := by unfold doB; rw [if_pos k1]
    rw [hR]
    have C := Lib.hid (fun (w' : World) (hb : Below w.heap.size w w') => restock_any a len cap a2 len2 cap2 b s m w' (h.keep hb) hz hs)
    generalize restockB b s m = r at C ⊢
    clear h hz hL hz2 hn hR hs
    subst k1
    obtain ⟨q0, q1⟩ := cells2 HF.out.box
    obtain ⟨c0, c1, c2, c3, c4⟩ := cells5 HA.out
    go_enter Tryz.func8, Tryz.ntmps8
    go_wp2_with fail
    refine (C.out _ HF.out.bel).mono ?_
    rintro e w9 ⟨a9, n9, c9, b9, m9, d9, rfl, hbk, hb9⟩
    have HF9 := Lib.hid (HF.out.keep hb9)
    obtain ⟨z0, z1⟩ := cells2 HF9.out.res
    obtain ⟨f0, f1⟩ := free2 HF9.out.res
    have HBK := Lib.hid (bk_same hbk HF9.out.res (.slice a9 n9 c9) (.slice b9 m9 d9))
    clear hbk hb9 q0 q1 c0 c1 c2 c3 c4
    go_wp2_with fail
    have HRS := Lib.hid (heap_put2 HF9.out.res (.slice a9 n9 c9) (.slice b9 m9 d9))
    have HB := Lib.hid (below_put2 HF9.out.bel (show w.heap.size ≤ w.heap.size + 2 by omega) (.slice a9 n9 c9) (.slice b9 m9 d9))
    exact bodyPost_ret (results_book (j := 4) (k := 5) rfl _ _ (w.heap.size + 2) _ _ rfl HRS.out) rfl ⟨a9, n9, c9, b9, m9, d9, rfl, HBK.out, HB.out⟩
  by_cases k2 : kd = 2
  · have hR : doB b ⟨kd, sg, m, s, ls⟩ = adjustB b s m := by unfold doB; rw [if_neg k1, if_pos k2]
    rw [hR]
    have C := Lib.hid (fun (w' : World) (hb : Below w.heap.size w w') => adjust_any a len cap a2 len2 cap2 b s m w' (h.keep hb) hz)
    generalize adjustB b s m = r at C ⊢
    clear h hz hL hz2 hn hR hs
    subst k2
    obtain ⟨q0, q1⟩ := cells2 HF.out.box
    obtain ⟨c0, c1, c2, c3, c4⟩ := cells5 HA.out
    go_enter Tryz.func8, Tryz.ntmps8
    go_wp2_with fail
    refine (C.out _ HF.out.bel).mono ?_
    rintro e w9 ⟨a9, n9, c9, b9, m9, d9, rfl, hbk, hb9⟩
    have HF9 := Lib.hid (HF.out.keep hb9)
    obtain ⟨z0, z1⟩ := cells2 HF9.out.res
    obtain ⟨f0, f1⟩ := free2 HF9.out.res
    have HBK := Lib.hid (bk_same hbk HF9.out.res (.slice a9 n9 c9) (.slice b9 m9 d9))
    clear hbk hb9 q0 q1 c0 c1 c2 c3 c4
    go_wp2_with fail
    have HRS := Lib.hid (heap_put2 HF9.out.res (.slice a9 n9 c9) (.slice b9 m9 d9))
    have HB := Lib.hid (below_put2 HF9.out.bel (show w.heap.size ≤ w.heap.size + 2 by omega) (.slice a9 n9 c9) (.slice b9 m9 d9))
    exact bodyPost_ret (results_book (j := 4) (k := 5) rfl _ _ (w.heap.size + 2) _ _ rfl HRS.out) rfl ⟨a9, n9, c9, b9, m9, d9, rfl, HBK.out, HB.out⟩
  by_cases k3 : kd = 3
  · have hR : doB b ⟨kd, sg, m, s, ls⟩ = heldB b sg ls m 1 := by unfold doB; rw [if_neg k1, if_neg k2, if_pos k3]
    rw [hR]
    have C := Lib.hid (fun (w' : World) (hb : Below w.heap.size w w') => hold_any a len cap a2 len2 cap2 b sg m la n lc ls w' (h.keep hb) hz (hL.keep hb) hz2 hn)
    generalize heldB b sg ls m 1 = r at C ⊢
    clear h hz hL hz2 hn hR hs
    subst k3
    obtain ⟨q0, q1⟩ := cells2 HF.out.box
    obtain ⟨c0, c1, c2, c3, c4⟩ := cells5 HA.out
    go_enter Tryz.func8, Tryz.ntmps8
    go_wp2_with fail
    refine (C.out _ HF.out.bel).mono ?_
    rintro e w9 ⟨a9, n9, c9, b9, m9, d9, rfl, hbk, hb9⟩
    have HF9 := Lib.hid (HF.out.keep hb9)
    obtain ⟨z0, z1⟩ := cells2 HF9.out.res
    obtain ⟨f0, f1⟩ := free2 HF9.out.res
    have HBK := Lib.hid (bk_same hbk HF9.out.res (.slice a9 n9 c9) (.slice b9 m9 d9))
    clear hbk hb9 q0 q1 c0 c1 c2 c3 c4
    go_wp2_with fail
    have HRS := Lib.hid (heap_put2 HF9.out.res (.slice a9 n9 c9) (.slice b9 m9 d9))
    have HB := Lib.hid (below_put2 HF9.out.bel (show w.heap.size ≤ w.heap.size + 2 by omega) (.slice a9 n9 c9) (.slice b9 m9 d9))
    exact bodyPost_ret (results_book (j := 4) (k := 5) rfl _ _ (w.heap.size + 2) _ _ rfl HRS.out) rfl ⟨a9, n9, c9, b9, m9, d9, rfl, HBK.out, HB.out⟩
  by_cases k4 : kd = 4
  · have hR : doB b ⟨kd, sg, m, s, ls⟩ = dropB b sg 2 := by unfold doB; rw [if_neg k1, if_neg k2, if_neg k3, if_pos k4]
    rw [hR]
    have C := Lib.hid (fun (w' : World) (hb : Below w.heap.size w w') => release_any a len cap a2 len2 cap2 b sg w' (h.keep hb) hz)
    generalize dropB b sg 2 = r at C ⊢
    clear h hz hL hz2 hn hR hs
    subst k4
    obtain ⟨q0, q1⟩ := cells2 HF.out.box
    obtain ⟨c0, c1, c2, c3, c4⟩ := cells5 HA.out
    go_enter Tryz.func8, Tryz.ntmps8
    go_wp2_with fail
    refine (C.out _ HF.out.bel).mono ?_
    rintro e w9 ⟨a9, n9, c9, b9, m9, d9, rfl, hbk, hb9⟩
    have HF9 := Lib.hid (HF.out.keep hb9)
    obtain ⟨z0, z1⟩ := cells2 HF9.out.res
    obtain ⟨f0, f1⟩ := free2 HF9.out.res
    have HBK := Lib.hid (bk_same hbk HF9.out.res (.slice a9 n9 c9) (.slice b9 m9 d9))
    clear hbk hb9 q0 q1 c0 c1 c2 c3 c4
    go_wp2_with fail
    have HRS := Lib.hid (heap_put2 HF9.out.res (.slice a9 n9 c9) (.slice b9 m9 d9))
    have HB := Lib.hid (below_put2 HF9.out.bel (show w.heap.size ≤ w.heap.size + 2 by omega) (.slice a9 n9 c9) (.slice b9 m9 d9))
    exact bodyPost_ret (results_book (j := 4) (k := 5) rfl _ _ (w.heap.size + 2) _ _ rfl HRS.out) rfl ⟨a9, n9, c9, b9, m9, d9, rfl, HBK.out, HB.out⟩
  by_cases k5 : kd = 5
  · have hR : doB b ⟨kd, sg, m, s, ls⟩ = dropB b sg 3 := by unfold doB; rw [if_neg k1, if_neg k2, if_neg k3, if_neg k4, if_pos k5]
    rw [hR]
    have C := Lib.hid (fun (w' : World) (hb : Below w.heap.size w w') => keep_any a len cap a2 len2 cap2 b sg w' (h.keep hb) hz)
    generalize dropB b sg 3 = r at C ⊢
    clear h hz hL hz2 hn hR hs
    subst k5
    obtain ⟨q0, q1⟩ := cells2 HF.out.box
    obtain ⟨c0, c1, c2, c3, c4⟩ := cells5 HA.out
    go_enter Tryz.func8, Tryz.ntmps8
    go_wp2_with fail
    refine (C.out _ HF.out.bel).mono ?_
    rintro e w9 ⟨a9, n9, c9, b9, m9, d9, rfl, hbk, hb9⟩
    have HF9 := Lib.hid (HF.out.keep hb9)
    obtain ⟨z0, z1⟩ := cells2 HF9.out.res
    obtain ⟨f0, f1⟩ := free2 HF9.out.res
    have HBK := Lib.hid (bk_same hbk HF9.out.res (.slice a9 n9 c9) (.slice b9 m9 d9))
    clear hbk hb9 q0 q1 c0 c1 c2 c3 c4
    go_wp2_with fail
    have HRS := Lib.hid (heap_put2 HF9.out.res (.slice a9 n9 c9) (.slice b9 m9 d9))
    have HB := Lib.hid (below_put2 HF9.out.bel (show w.heap.size ≤ w.heap.size + 2 by omega) (.slice a9 n9 c9) (.slice b9 m9 d9))
    exact bodyPost_ret (results_book (j := 4) (k := 5) rfl _ _ (w.heap.size + 2) _ _ rfl HRS.out) rfl ⟨a9, n9, c9, b9, m9, d9, rfl, HBK.out, HB.out⟩
  by_cases k6 : kd = 6
  · have hR : doB b ⟨kd, sg, m, s, ls⟩ = heldB b sg ls m 4 := by unfold doB; rw [if_neg k1, if_neg k2, if_neg k3, if_neg k4, if_neg k5, if_pos k6]
    rw [hR]
    have C := Lib.hid (fun (w' : World) (hb : Below w.heap.size w w') => unkeep_any a len cap a2 len2 cap2 b sg m la n lc ls w' (h.keep hb) hz (hL.keep hb) hz2 hn)
    generalize heldB b sg ls m 4 = r at C ⊢
    clear h hz hL hz2 hn hR hs
    subst k6
    obtain ⟨q0, q1⟩ := cells2 HF.out.box
    obtain ⟨c0, c1, c2, c3, c4⟩ := cells5 HA.out
    go_enter Tryz.func8, Tryz.ntmps8
    go_wp2_with fail
    refine (C.out _ HF.out.bel).mono ?_
    rintro e w9 ⟨a9, n9, c9, b9, m9, d9, rfl, hbk, hb9⟩
    have HF9 := Lib.hid (HF.out.keep hb9)
    obtain ⟨z0, z1⟩ := cells2 HF9.out.res
    obtain ⟨f0, f1⟩ := free2 HF9.out.res
    have HBK := Lib.hid (bk_same hbk HF9.out.res (.slice a9 n9 c9) (.slice b9 m9 d9))
    clear hbk hb9 q0 q1 c0 c1 c2 c3 c4
    go_wp2_with fail
    have HRS := Lib.hid (heap_put2 HF9.out.res (.slice a9 n9 c9) (.slice b9 m9 d9))
    have HB := Lib.hid (below_put2 HF9.out.bel (show w.heap.size ≤ w.heap.size + 2 by omega) (.slice a9 n9 c9) (.slice b9 m9 d9))
    exact bodyPost_ret (results_book (j := 4) (k := 5) rfl _ _ (w.heap.size + 2) _ _ rfl HRS.out) rfl ⟨a9, n9, c9, b9, m9, d9, rfl, HBK.out, HB.out⟩
  have hR : doB b ⟨kd, sg, m, s, ls⟩ = sendB b ls := by unfold doB; rw [if_neg k1, if_neg k2, if_neg k3, if_neg k4, if_neg k5, if_neg k6]
  rw [hR]
  have C := Lib.hid (fun (w' : World) (hb : Below w.heap.size w w') => send_any a len cap a2 len2 cap2 b la n lc ls w' (h.keep hb) hz (hL.keep hb) hz2 hn)
  generalize sendB b ls = r at C ⊢
  clear h hz hL hz2 hn hR hs
  obtain ⟨q0, q1⟩ := cells2 HF.out.box
  obtain ⟨c0, c1, c2, c3, c4⟩ := cells5 HA.out
  go_enter Tryz.func8, Tryz.ntmps8
  go_wp2_with fail
  refine (C.out _ HF.out.bel).mono ?_
  rintro e w9 ⟨a9, n9, c9, b9, m9, d9, rfl, hbk, hb9⟩
  have HF9 := Lib.hid (HF.out.keep hb9)
  obtain ⟨z0, z1⟩ := cells2 HF9.out.res
  obtain ⟨f0, f1⟩ := free2 HF9.out.res
  have HBK := Lib.hid (bk_same hbk HF9.out.res (.slice a9 n9 c9) (.slice b9 m9 d9))
  clear hbk hb9 q0 q1 c0 c1 c2 c3 c4
  go_wp2_with fail
  have HRS := Lib.hid (heap_put2 HF9.out.res (.slice a9 n9 c9) (.slice b9 m9 d9))
  have HB := Lib.hid (below_put2 HF9.out.bel (show w.heap.size ≤ w.heap.size + 2 by omega) (.slice a9 n9 c9) (.slice b9 m9 d9))
  exact bodyPost_ret (results_book (j := 4) (k := 5) rfl _ _ (w.heap.size + 2) _ _ rfl HRS.out) rfl ⟨a9, n9, c9, b9, m9, d9, rfl, HBK.out, HB.out⟩
end Go.Proofs.YtjclkiabgemfpaaGreat.Ledger
