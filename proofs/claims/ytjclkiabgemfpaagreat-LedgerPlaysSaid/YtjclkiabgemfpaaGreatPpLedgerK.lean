/-
  The contracts of put, drop, Hold, Unkeep, Release, Keep and Send: any books, any lines; what was there stays as it was.
-/
import Derived.Test.YtjclkiabgemfpaaGreatPpLedgerH
set_option linter.unusedVariables false
set_option maxRecDepth 4000
namespace Go.Proofs.YtjclkiabgemfpaaGreat.Ledger
open Go.RowKit LinesP HoldsP LedgerP
open StockP (Sk sk0 fitS Fit fitS_iff fromV turnV moveV turn_fit)
open Go.Proofs.YtjclkiabgemfpaaGreat.Lines (LsAt Sz SzM ret_bool ret_int below_keep below_drewN owns_form owns_cell owns_below)
open Go.Proofs.YtjclkiabgemfpaaGreat.Holds (HsAt SzH hmf MadeP At3 cells3 at3_new)

theorem act_hold : ActOf 52 1 := ⟨enters Tryz.func52 (by kernel_rfl) rfl, fun x n w hs => shold_any x n w hs⟩
theorem act_release : ActOf 60 2 := ⟨enters Tryz.func60 (by kernel_rfl) rfl, fun x n w hs => srelease_any x n w hs⟩
theorem act_keep : ActOf 54 3 := ⟨enters Tryz.func54 (by kernel_rfl) rfl, fun x n w hs => skeep_any x n w hs⟩
theorem act_unkeep : ActOf 61 4 := ⟨enters Tryz.func61 (by kernel_rfl) rfl, fun x n w hs => sunkeep_any x n w hs⟩
theorem act_send : ActOf 57 5 := ⟨enters Tryz.func57 (by kernel_rfl) rfl, fun x n w hs => ssend_any x n w hs⟩
/-! ### what is told -/
theorem moveR_eq {wh : Int} {ls : List Ln} {sk : List Sk} {hd : List Hd} (hu : UpS sk) (hl : fitL ls = true) : moveR wh ls sk hd = if okM wh ls sk = true then (⟨mvd wh ls sk, hd⟩, 0) else (bk0, 6) := by
  unfold moveR
  rw [moves_eq wh ls sk hu (fitL_up hl)]
  by_cases h : okM wh ls sk = true
  · rw [if_pos h, if_pos rfl, if_pos h]
  · rw [if_neg h, if_neg (by decide), if_neg h]
theorem held_bad {b : Bk} {g : Int} {ls : List Ln} {t w : Int} (h : fitB b = false) : heldB b g ls t w = (bk0, 12) := by unfold heldB; rw [if_neg (by rw [h]; simp)]
theorem held_err {b : Bk} {g : Int} {ls : List Ln} {t w er : Int} (h : fitB b = true) (hp : putH b.hd ⟨g, ls, t⟩ = ([], er)) (hne : er ≠ 0) : heldB b g ls t w = (bk0, er) := by
  unfold heldB; rw [if_pos h, hp, if_neg hne]
theorem held_ok {b : Bk} {g : Int} {ls : List Ln} {t w : Int} {l : List Hd} (h : fitB b = true) (hl : fitL ls = true) (hp : putH b.hd ⟨g, ls, t⟩ = (l, 0)) : heldB b g ls t w = moveR w ls b.sk l := by
  rw [moveR_eq (fitB_iff.1 h).up hl]
  unfold heldB; rw [if_pos h, hp, if_pos rfl]
theorem drop_bad {b : Bk} {g w : Int} (h : fitB b = false) : dropB b g w = (bk0, 12) := by unfold dropB; rw [if_neg (by rw [h]; simp)]
theorem drop_none {b : Bk} {g w : Int} (h : fitB b = true) (hf : findH g b.hd = none) : dropB b g w = (bk0, 2) := by unfold dropB; rw [if_pos h, hf]
theorem drop_some {b : Bk} {g w : Int} {x : Hd} (hw : w = 2 ∨ w = 3) (h : fitB b = true) (hf : findH g b.hd = some x) : dropB b g w = moveR w x.ls b.sk (less g b.hd) := by
  have k := fitB_iff.1 h
  have hl : fitL x.ls = true := oneH_fit ((fitH_iff.1 k.hd).2.1 x (find_mem hf).1).1
  rw [moveR_eq k.up hl, if_pos (drop_ok hw k hf)]
  unfold dropB; rw [if_pos h, hf]
theorem send_bad {b : Bk} {ls : List Ln} (h : fitB b = false) : sendB b ls = (bk0, 12) := by unfold sendB; rw [if_neg (by rw [h]; simp)]
theorem send_arg {b : Bk} {ls : List Ln} (h : fitB b = true) (hl : ¬ (fitL ls = true ∧ 0 < ls.length)) : sendB b ls = (bk0, 1) := by unfold sendB; rw [if_pos h, if_neg hl]
theorem send_ok {b : Bk} {ls : List Ln} (h : fitB b = true) (hl : fitL ls = true ∧ 0 < ls.length) : sendB b ls = moveR 5 ls b.sk b.hd := by
  rw [moveR_eq (fitB_iff.1 h).up hl.1]
  unfold sendB; rw [if_pos h, if_pos hl]
theorem fb_three (w : World) (v0 v1 r0 r1 u0 u1 u2 : Value) : FB w.heap.size w (((w.alloc (.cells #[v0, v1] 33)).alloc (.cells #[u0, u1, u2] 69)).alloc (.cells #[r0, r1] 33)) v0 v1 (w.heap.size + 2) r0 r1 ∧
    At3 (((w.alloc (.cells #[v0, v1] 33)).alloc (.cells #[u0, u1, u2] 69)).alloc (.cells #[r0, r1] 33)) (w.heap.size + 1) u0 u1 u2 := by
  have h1 := at3_new (w.alloc (.cells #[v0, v1] 33)) u0 u1 u2
  have h2 := heap_alloc_new ((w.alloc (.cells #[v0, v1] 33)).alloc (.cells #[u0, u1, u2] 69)) (.cells #[r0, r1] 33)
  rw [World.size_alloc] at h1
  rw [World.size_alloc, World.size_alloc] at h2
  refine ⟨⟨(((Below.refl _ w).alloc (Nat.le_refl _) _).alloc (by rw [World.size_alloc]; omega) _).alloc (by rw [World.size_alloc, World.size_alloc]; omega) _, ?_, h2⟩, h1.alloc _⟩
  exact (heap_alloc_old _ _ (by rw [World.size_alloc, World.size_alloc]; omega)).trans ((heap_alloc_old _ _ (by rw [World.size_alloc]; omega)).trans (heap_alloc_new w _))

set_option maxHeartbeats 4000000 in
theorem put_any (a : Option Addr) (len cap : Nat) (a2 : Option Addr) (len2 cap2 : Nat) (b : Bk) (sg t : Int) (la : Option Addr) (n lc : Nat) (ls : List Ln) (g : Nat) (wh : Int) (hact : ActOf g wh) (w : World)
    (h : BkAt w a len a2 len2 cap2 b) (hz : SzB b) (hL : LsAt w la n ls) (hz2 : Sz ls) (hn : n ≤ 1000000) :
    Calls Tryz.prog 51 #[.agg #[.slice a len cap, .slice a2 len2 cap2], .agg #[.int .i64 sg, .slice la n lc, .int .i64 t], .func (.func g) #[] #[]] w (BookR w (heldB b sg ls t wh)) := by
  have hall := fb_three w (.slice a len cap) (.slice a2 len2 cap2) (.slice none 0 0) (.slice none 0 0) (.int .i64 sg) (.slice la n lc) (.int .i64 t)
  have HF := Lib.hid hall.1
  have HT := Lib.hid hall.2
  have HX := Lib.hid h
  have HZ := Lib.hid hz
  clear hall
  cases hfit : fitB b with
  | false =>
    have HR := Lib.hid (held_bad (g := sg) (ls := ls) (t := t) (w := wh) hfit)
    generalize heldB b sg ls t wh = r at HR ⊢
    go_enter Tryz.func51, Tryz.ntmps51
    go_wp2_with fail
    refine (fit_any a len cap a2 len2 cap2 b false hfit _ (HX.out.keep HF.out.bel) HZ.out).mono ?_
    rintro e w1 ⟨rfl, hb1⟩
    have HF1 := Lib.hid (HF.out.keep hb1)
    clear hb1 HT hfit
    obtain ⟨z0, z1⟩ := cells2 HF1.out.res
    obtain ⟨f0, f1⟩ := free2 HF1.out.res
    go_wp2_with fail
    have HRS := Lib.hid (heap_put2 HF1.out.res (.slice none 0 0) (.slice none 0 0))
    have HB := Lib.hid (below_put2 HF1.out.bel (show w.heap.size ≤ w.heap.size + 2 by omega) (.slice none 0 0) (.slice none 0 0))
    exact bodyPost_ret (results_book (j := 6) (k := 7) rfl _ _ (w.heap.size + 2) _ _ rfl HRS.out) rfl (book_err HR.out HB.out)
  | true =>
    have k := fitB_iff.1 hfit
    have HPUT := Lib.hid (fun (w' : World) (hb : Below w.heap.size w w') => Holds.put_any a2 len2 cap2 b.hd sg t la n lc ls w' (h.hd.keep hb) h.room (hL.keep hb) hz.hd hz2 hz.ls hn)
    rcases put_cases b.hd ⟨sg, ls, t⟩ with ⟨er, he, hne⟩ | ⟨he, _, hone, _, _⟩
    · have HR := Lib.hid (held_err (w := wh) hfit he hne)
      rw [he] at HPUT
      generalize heldB b sg ls t wh = r at HR ⊢
      have hne2 : (er != 0) = true := by simpa using hne
      clear h hz hL hz2 k he hne
      go_enter Tryz.func51, Tryz.ntmps51
      go_wp2_with fail
      refine (fit_any a len cap a2 len2 cap2 b true hfit _ (HX.out.keep HF.out.bel) HZ.out).mono ?_
      rintro e w1 ⟨rfl, hb1⟩
      have HF1 := Lib.hid (HF.out.keep hb1)
      have HT1 := Lib.hid (HT.out.keep hb1)
      clear hb1 hfit
      obtain ⟨q0, q1⟩ := cells2 HF1.out.box
      obtain ⟨t0, t1, t2⟩ := cells3 HT1.out
      go_wp2_with fail
      refine (HPUT.out w1 HF1.out.bel).mono ?_
      rintro e w2 ⟨a4, c4, rfl, _, _, hb2⟩
      have HF2 := Lib.hid (HF1.out.keep hb2)
      clear hb2 q0 q1 t0 t1 t2
      obtain ⟨z0, z1⟩ := cells2 HF2.out.res
      obtain ⟨f0, f1⟩ := free2 HF2.out.res
      go_wp2_with fail
      have HRS := Lib.hid (heap_put2 HF2.out.res (.slice none 0 0) (.slice none 0 0))
      have HB := Lib.hid (below_put2 HF2.out.bel (show w.heap.size ≤ w.heap.size + 2 by omega) (.slice none 0 0) (.slice none 0 0))
      exact bodyPost_ret (results_book (j := 6) (k := 7) rfl _ _ (w.heap.size + 2) _ _ rfl HRS.out) rfl (book_err HR.out HB.out)
    · have hfl : fitL ls = true := oneH_fit hone
      have hR := held_ok (w := wh) hfit hfl he
      rw [hR]
      rw [he] at HPUT
      have HM := Lib.hid (fun (w' : World) a' c' (hb : Below w.heap.size w w') hh hr => move_any a len cap b.sk la n lc ls g wh hact a' (putL b.hd ⟨sg, ls, t⟩).length c' (putL b.hd ⟨sg, ls, t⟩) w' (h.sk.keep hb) (hL.keep hb) hh hr k.up (fun x hx => (k.each x hx).1) hfl (by rw [← h.sk.1]; exact k.len))
      generalize putL b.hd ⟨sg, ls, t⟩ = nl at HM HPUT ⊢
      generalize moveR wh ls b.sk nl = r at HM ⊢
      clear h hz hL hz2 k he hone hfl hR
      go_enter Tryz.func51, Tryz.ntmps51
      go_wp2_with fail
      refine (fit_any a len cap a2 len2 cap2 b true hfit _ (HX.out.keep HF.out.bel) HZ.out).mono ?_
      rintro e w1 ⟨rfl, hb1⟩
      have HF1 := Lib.hid (HF.out.keep hb1)
      have HT1 := Lib.hid (HT.out.keep hb1)
      clear hb1 hfit
      obtain ⟨q0, q1⟩ := cells2 HF1.out.box
      obtain ⟨t0, t1, t2⟩ := cells3 HT1.out
      go_wp2_with fail
      refine (HPUT.out w1 HF1.out.bel).mono ?_
      rintro e w2 ⟨a4, c4, rfl, hr4, hh4, hb2⟩
      have HF2 := Lib.hid (HF1.out.keep hb2)
      have HT2 := Lib.hid (HT1.out.keep hb2)
      have HM2 := Lib.hid (HM.out w2 a4 c4 HF2.out.bel hh4 hr4)
      clear hb2 hr4 hh4 q0 q1 t0 t1 t2
      obtain ⟨q0, q1⟩ := cells2 HF2.out.box
      obtain ⟨t0, t1, t2⟩ := cells3 HT2.out
      go_wp2_with fail
      refine (HM2.out).mono ?_
      rintro e w9 ⟨a9, n9, c9, b9, m9, d9, rfl, hbk, hb9⟩
      have HF9 := Lib.hid (HF2.out.keep hb9)
      obtain ⟨z0, z1⟩ := cells2 HF9.out.res
      obtain ⟨f0, f1⟩ := free2 HF9.out.res
      have HBK := Lib.hid (bk_same hbk HF9.out.res (.slice a9 n9 c9) (.slice b9 m9 d9))
      clear hbk hb9 q0 q1 t0 t1 t2
      go_wp2_with fail
      have HRS := Lib.hid (heap_put2 HF9.out.res (.slice a9 n9 c9) (.slice b9 m9 d9))
      have HB := Lib.hid (below_put2 HF9.out.bel (show w.heap.size ≤ w.heap.size + 2 by omega) (.slice a9 n9 c9) (.slice b9 m9 d9))
      exact bodyPost_ret (results_book (j := 6) (k := 7) rfl _ _ (w.heap.size + 2) _ _ rfl HRS.out) rfl ⟨a9, n9, c9, b9, m9, d9, rfl, HBK.out, HB.out⟩
set_option maxHeartbeats 4000000 in
theorem drop_any (a : Option Addr) (len cap : Nat) (a2 : Option Addr) (len2 cap2 : Nat) (b : Bk) (sg : Int) (g : Nat) (wh : Int) (hact : ActOf g wh) (hw : wh = 2 ∨ wh = 3) (w : World)
    (h : BkAt w a len a2 len2 cap2 b) (hz : SzB b) :
    Calls Tryz.prog 53 #[.agg #[.slice a len cap, .slice a2 len2 cap2], .int .i64 sg, .func (.func g) #[] #[]] w (BookR w (dropB b sg wh)) := by
  have HF := Lib.hid (fb_new w (.slice a len cap) (.slice a2 len2 cap2) (.slice none 0 0) (.slice none 0 0))
  have HX := Lib.hid h
  have HZ := Lib.hid hz
  cases hfit : fitB b with
  | false =>
    have HR := Lib.hid (drop_bad (g := sg) (w := wh) hfit)
    generalize dropB b sg wh = r at HR ⊢
    go_enter Tryz.func53, Tryz.ntmps53
    go_wp2_with fail
    refine (fit_any a len cap a2 len2 cap2 b false hfit _ (HX.out.keep HF.out.bel) HZ.out).mono ?_
    rintro e w1 ⟨rfl, hb1⟩
    have HF1 := Lib.hid (HF.out.keep hb1)
    clear hb1 hfit
    obtain ⟨z0, z1⟩ := cells2 HF1.out.res
    obtain ⟨f0, f1⟩ := free2 HF1.out.res
    go_wp2_with fail
    have HRS := Lib.hid (heap_put2 HF1.out.res (.slice none 0 0) (.slice none 0 0))
    have HB := Lib.hid (below_put2 HF1.out.bel (show w.heap.size ≤ w.heap.size + 1 by omega) (.slice none 0 0) (.slice none 0 0))
    exact bodyPost_ret (results_book (j := 6) (k := 7) rfl _ _ (w.heap.size + 1) _ _ rfl HRS.out) rfl (book_err HR.out HB.out)
  | true =>
    have k := fitB_iff.1 hfit
    have HDR := Lib.hid (fun (w' : World) (hb : Below w.heap.size w w') => Holds.drop_any a2 len2 cap2 b.hd sg w' (h.hd.keep hb) h.room hz.hd hz.ls)
    cases hfs : findH sg b.hd with
    | none =>
      have HR := Lib.hid (drop_none (w := wh) hfit hfs)
      have he : dropH b.hd sg = ([], 2) := by unfold dropH; rw [if_pos k.hd, hfs]; rfl
      rw [he] at HDR
      generalize dropB b sg wh = r at HR ⊢
      clear h hz k he hfs
      go_enter Tryz.func53, Tryz.ntmps53
      go_wp2_with fail
      refine (fit_any a len cap a2 len2 cap2 b true hfit _ (HX.out.keep HF.out.bel) HZ.out).mono ?_
      rintro e w1 ⟨rfl, hb1⟩
      have HF1 := Lib.hid (HF.out.keep hb1)
      clear hb1 hfit
      obtain ⟨q0, q1⟩ := cells2 HF1.out.box
      go_wp2_with fail
      refine (HDR.out w1 HF1.out.bel).mono ?_
      rintro e w2 ⟨a4, c4, rfl, _, _, hb2⟩
      have HF2 := Lib.hid (HF1.out.keep hb2)
      clear hb2 q0 q1
      obtain ⟨z0, z1⟩ := cells2 HF2.out.res
      obtain ⟨f0, f1⟩ := free2 HF2.out.res
      go_wp2_with fail
      have HRS := Lib.hid (heap_put2 HF2.out.res (.slice none 0 0) (.slice none 0 0))
      have HB := Lib.hid (below_put2 HF2.out.bel (show w.heap.size ≤ w.heap.size + 1 by omega) (.slice none 0 0) (.slice none 0 0))
      exact bodyPost_ret (results_book (j := 6) (k := 7) rfl _ _ (w.heap.size + 1) _ _ rfl HRS.out) rfl (book_err HR.out HB.out)
    | some x =>
      have hR := drop_some hw hfit hfs
      rw [hR]
      have he : dropH b.hd sg = (less sg b.hd, 0) := by unfold dropH; rw [if_pos k.hd, hfs]; rfl
      rw [he] at HDR
      have hxm := (find_mem hfs).1
      have hfl : fitL x.ls = true := oneH_fit ((fitH_iff.1 k.hd).2.1 x hxm).1
      have HFI := Lib.hid (fun (w' : World) (hb : Below w.heap.size w w') => Holds.find_any a2 len2 cap2 b.hd sg w' (h.hd.keep hb) hz.ls)
      rw [hfs] at HFI
      have HM := Lib.hid (fun (w' : World) a' c' a3 c3 (hb : Below w.heap.size w w') hl hh hr => move_any a len cap b.sk a3 x.ls.length c3 x.ls g wh hact a' (less sg b.hd).length c' (less sg b.hd) w' (h.sk.keep hb) hl hh hr k.up (fun x hx => (k.each x hx).1) hfl (by rw [← h.sk.1]; exact k.len))
      generalize less sg b.hd = nl at HM HDR ⊢
      generalize moveR wh x.ls b.sk nl = r at HM ⊢
      obtain ⟨xg, xl, xt⟩ := x
      clear h hz k he hfs hR hxm hfl
      go_enter Tryz.func53, Tryz.ntmps53
      go_wp2_with fail
      refine (fit_any a len cap a2 len2 cap2 b true hfit _ (HX.out.keep HF.out.bel) HZ.out).mono ?_
      rintro e w1 ⟨rfl, hb1⟩
      have HF1 := Lib.hid (HF.out.keep hb1)
      clear hb1 hfit
      obtain ⟨q0, q1⟩ := cells2 HF1.out.box
      go_wp2_with fail
      refine (HDR.out w1 HF1.out.bel).mono ?_
      rintro e w2 ⟨a4, c4, rfl, hr4, hh4, hb2⟩
      have HF2 := Lib.hid (HF1.out.keep hb2)
      have HH4 := Lib.hid hh4
      clear hb2 q0 q1 hh4
      obtain ⟨q0, q1⟩ := cells2 HF2.out.box
      go_wp2_with fail
      refine (HFI.out w2 HF2.out.bel).mono ?_
      rintro e w3 ⟨a5, c5, rfl, hl5, hb3⟩
      simp only [Option.getD_some] at hl5
      have hba := (Below.refl w3.heap.size w3).alloc (Nat.le_refl _) (.cells #[.int .i64 xg, .slice a5 xl.length c5, .int .i64 xt] 69)
      have hb3a := Lines.below_keep hb3 hba hb3.size
      have HF3 := Lib.hid (HF2.out.keep hb3a)
      have HT3 := Lib.hid (at3_new w3 (.int .i64 xg) (.slice a5 xl.length c5) (.int .i64 xt))
      have HM3 := Lib.hid (HM.out _ a4 c4 a5 c5 HF3.out.bel (hl5.keep hba) (HH4.out.keep hb3a) hr4)
      clear hb3 hba hb3a hl5 q0 q1
      simp only [Option.getD_some]
      obtain ⟨q0, q1⟩ := cells2 HF3.out.box
      obtain ⟨t0, t1, t2⟩ := cells3 HT3.out
      go_wp2_with fail
      refine (HM3.out).mono ?_
      rintro e w9 ⟨a9, n9, c9, b9, m9, d9, rfl, hbk, hb9⟩
      have HF9 := Lib.hid (HF3.out.keep hb9)
      obtain ⟨z0, z1⟩ := cells2 HF9.out.res
      obtain ⟨f0, f1⟩ := free2 HF9.out.res
      have HBK := Lib.hid (bk_same hbk HF9.out.res (.slice a9 n9 c9) (.slice b9 m9 d9))
      clear hbk hb9 q0 q1 t0 t1 t2
      go_wp2_with fail
      have HRS := Lib.hid (heap_put2 HF9.out.res (.slice a9 n9 c9) (.slice b9 m9 d9))
      have HB := Lib.hid (below_put2 HF9.out.bel (show w.heap.size ≤ w.heap.size + 1 by omega) (.slice a9 n9 c9) (.slice b9 m9 d9))
      exact bodyPost_ret (results_book (j := 6) (k := 7) rfl _ _ (w.heap.size + 1) _ _ rfl HRS.out) rfl ⟨a9, n9, c9, b9, m9, d9, rfl, HBK.out, HB.out⟩
set_option maxHeartbeats 1000000 in
theorem hold_any (a : Option Addr) (len cap : Nat) (a2 : Option Addr) (len2 cap2 : Nat) (b : Bk) (sg t : Int) (la : Option Addr) (n lc : Nat) (ls : List Ln) (w : World)
    (h : BkAt w a len a2 len2 cap2 b) (hz : SzB b) (hL : LsAt w la n ls) (hz2 : Sz ls) (hn : n ≤ 1000000) :
    Calls Tryz.prog 21 #[.agg #[.slice a len cap, .slice a2 len2 cap2], .int .i64 sg, .slice la n lc, .int .i64 t] w (BookR w (heldB b sg ls t 1)) := by
  have HF := Lib.hid (fb_new w (.slice a len cap) (.slice a2 len2 cap2) (.slice none 0 0) (.slice none 0 0))
  have C := Lib.hid (fun (w' : World) (hb : Below w.heap.size w w') => put_any a len cap a2 len2 cap2 b sg t la n lc ls _ 1 act_hold w' (h.keep hb) hz (hL.keep hb) hz2 hn)
  generalize heldB b sg ls t 1 = r at C ⊢
  clear h hz hL hz2 hn
  obtain ⟨q0, q1⟩ := cells2 HF.out.box
  go_enter Tryz.func21, Tryz.ntmps21
  go_wp2_with fail
  refine (C.out _ HF.out.bel).mono ?_
  rintro e w9 ⟨a9, n9, c9, b9, m9, d9, rfl, hbk, hb9⟩
  have HF9 := Lib.hid (HF.out.keep hb9)
  obtain ⟨z0, z1⟩ := cells2 HF9.out.res
  obtain ⟨f0, f1⟩ := free2 HF9.out.res
  have HBK := Lib.hid (bk_same hbk HF9.out.res (.slice a9 n9 c9) (.slice b9 m9 d9))
  clear hbk hb9 q0 q1
  go_wp2_with fail
  have HRS := Lib.hid (heap_put2 HF9.out.res (.slice a9 n9 c9) (.slice b9 m9 d9))
  have HB := Lib.hid (below_put2 HF9.out.bel (show w.heap.size ≤ w.heap.size + 1 by omega) (.slice a9 n9 c9) (.slice b9 m9 d9))
  exact bodyPost_ret (results_book (j := 8) (k := 9) rfl _ _ (w.heap.size + 1) _ _ rfl HRS.out) rfl ⟨a9, n9, c9, b9, m9, d9, rfl, HBK.out, HB.out⟩
set_option maxHeartbeats 1000000 in
theorem unkeep_any (a : Option Addr) (len cap : Nat) (a2 : Option Addr) (len2 cap2 : Nat) (b : Bk) (sg t : Int) (la : Option Addr) (n lc : Nat) (ls : List Ln) (w : World)
    (h : BkAt w a len a2 len2 cap2 b) (hz : SzB b) (hL : LsAt w la n ls) (hz2 : Sz ls) (hn : n ≤ 1000000) :
    Calls Tryz.prog 26 #[.agg #[.slice a len cap, .slice a2 len2 cap2], .int .i64 sg, .slice la n lc, .int .i64 t] w (BookR w (heldB b sg ls t 4)) := by
  have HF := Lib.hid (fb_new w (.slice a len cap) (.slice a2 len2 cap2) (.slice none 0 0) (.slice none 0 0))
  have C := Lib.hid (fun (w' : World) (hb : Below w.heap.size w w') => put_any a len cap a2 len2 cap2 b sg t la n lc ls _ 4 act_unkeep w' (h.keep hb) hz (hL.keep hb) hz2 hn)
  generalize heldB b sg ls t 4 = r at C ⊢
  clear h hz hL hz2 hn
  obtain ⟨q0, q1⟩ := cells2 HF.out.box
  go_enter Tryz.func26, Tryz.ntmps26
  go_wp2_with fail
  refine (C.out _ HF.out.bel).mono ?_
  rintro e w9 ⟨a9, n9, c9, b9, m9, d9, rfl, hbk, hb9⟩
  have HF9 := Lib.hid (HF.out.keep hb9)
  obtain ⟨z0, z1⟩ := cells2 HF9.out.res
  obtain ⟨f0, f1⟩ := free2 HF9.out.res
  have HBK := Lib.hid (bk_same hbk HF9.out.res (.slice a9 n9 c9) (.slice b9 m9 d9))
  clear hbk hb9 q0 q1
  go_wp2_with fail
  have HRS := Lib.hid (heap_put2 HF9.out.res (.slice a9 n9 c9) (.slice b9 m9 d9))
  have HB := Lib.hid (below_put2 HF9.out.bel (show w.heap.size ≤ w.heap.size + 1 by omega) (.slice a9 n9 c9) (.slice b9 m9 d9))
  exact bodyPost_ret (results_book (j := 8) (k := 9) rfl _ _ (w.heap.size + 1) _ _ rfl HRS.out) rfl ⟨a9, n9, c9, b9, m9, d9, rfl, HBK.out, HB.out⟩
set_option maxHeartbeats 1000000 in
theorem release_any (a : Option Addr) (len cap : Nat) (a2 : Option Addr) (len2 cap2 : Nat) (b : Bk) (sg : Int) (w : World)
    (h : BkAt w a len a2 len2 cap2 b) (hz : SzB b) :
    Calls Tryz.prog 25 #[.agg #[.slice a len cap, .slice a2 len2 cap2], .int .i64 sg] w (BookR w (dropB b sg 2)) := by
  have HF := Lib.hid (fb_new w (.slice a len cap) (.slice a2 len2 cap2) (.slice none 0 0) (.slice none 0 0))
  have C := Lib.hid (fun (w' : World) (hb : Below w.heap.size w w') => drop_any a len cap a2 len2 cap2 b sg _ 2 act_release (by decide) w' (h.keep hb) hz)
  generalize dropB b sg 2 = r at C ⊢
  clear h hz
  obtain ⟨q0, q1⟩ := cells2 HF.out.box
  go_enter Tryz.func25, Tryz.ntmps25
  go_wp2_with fail
  refine (C.out _ HF.out.bel).mono ?_
  rintro e w9 ⟨a9, n9, c9, b9, m9, d9, rfl, hbk, hb9⟩
  have HF9 := Lib.hid (HF.out.keep hb9)
  obtain ⟨z0, z1⟩ := cells2 HF9.out.res
  obtain ⟨f0, f1⟩ := free2 HF9.out.res
  have HBK := Lib.hid (bk_same hbk HF9.out.res (.slice a9 n9 c9) (.slice b9 m9 d9))
  clear hbk hb9 q0 q1
  go_wp2_with fail
  have HRS := Lib.hid (heap_put2 HF9.out.res (.slice a9 n9 c9) (.slice b9 m9 d9))
  have HB := Lib.hid (below_put2 HF9.out.bel (show w.heap.size ≤ w.heap.size + 1 by omega) (.slice a9 n9 c9) (.slice b9 m9 d9))
  exact bodyPost_ret (results_book (j := 4) (k := 5) rfl _ _ (w.heap.size + 1) _ _ rfl HRS.out) rfl ⟨a9, n9, c9, b9, m9, d9, rfl, HBK.out, HB.out⟩
set_option maxHeartbeats 1000000 in
theorem keep_any (a : Option Addr) (len cap : Nat) (a2 : Option Addr) (len2 cap2 : Nat) (b : Bk) (sg : Int) (w : World)
    (h : BkAt w a len a2 len2 cap2 b) (hz : SzB b) :
    Calls Tryz.prog 22 #[.agg #[.slice a len cap, .slice a2 len2 cap2], .int .i64 sg] w (BookR w (dropB b sg 3)) := by
  have HF := Lib.hid (fb_new w (.slice a len cap) (.slice a2 len2 cap2) (.slice none 0 0) (.slice none 0 0))
  have C := Lib.hid (fun (w' : World) (hb : Below w.heap.size w w') => drop_any a len cap a2 len2 cap2 b sg _ 3 act_keep (by decide) w' (h.keep hb) hz)
  generalize dropB b sg 3 = r at C ⊢
  clear h hz
  obtain ⟨q0, q1⟩ := cells2 HF.out.box
  go_enter Tryz.func22, Tryz.ntmps22
  go_wp2_with fail
  refine (C.out _ HF.out.bel).mono ?_
  rintro e w9 ⟨a9, n9, c9, b9, m9, d9, rfl, hbk, hb9⟩
  have HF9 := Lib.hid (HF.out.keep hb9)
  obtain ⟨z0, z1⟩ := cells2 HF9.out.res
  obtain ⟨f0, f1⟩ := free2 HF9.out.res
  have HBK := Lib.hid (bk_same hbk HF9.out.res (.slice a9 n9 c9) (.slice b9 m9 d9))
  clear hbk hb9 q0 q1
  go_wp2_with fail
  have HRS := Lib.hid (heap_put2 HF9.out.res (.slice a9 n9 c9) (.slice b9 m9 d9))
  have HB := Lib.hid (below_put2 HF9.out.bel (show w.heap.size ≤ w.heap.size + 1 by omega) (.slice a9 n9 c9) (.slice b9 m9 d9))
  exact bodyPost_ret (results_book (j := 4) (k := 5) rfl _ _ (w.heap.size + 1) _ _ rfl HRS.out) rfl ⟨a9, n9, c9, b9, m9, d9, rfl, HBK.out, HB.out⟩
end Go.Proofs.YtjclkiabgemfpaaGreat.Ledger

/-
  The contracts of Send, of the laws' own of and do: any books, any acts; what was there stays as it was.
-/
set_option linter.unusedVariables false
set_option maxRecDepth 4000
namespace Go.Proofs.YtjclkiabgemfpaaGreat.Ledger
open Go.RowKit LinesP HoldsP LedgerP
open StockP (Sk sk0 fitS Fit fitS_iff fromV turnV moveV turn_fit)
open Go.Proofs.YtjclkiabgemfpaaGreat.Lines (LsAt Sz SzM ret_bool ret_int below_keep below_drewN owns_form owns_cell owns_below)
open Go.Proofs.YtjclkiabgemfpaaGreat.Holds (HsAt SzH hmf MadeP At3 cells3 at3_new)

theorem lfit_is (a : Option Addr) (len cap : Nat) (l : List Ln) (b : Bool) (hb : fitL l = b) (w : World) (h : LsAt w a len l) (hs : Sz l) :
    Calls Tryz.prog 55 #[.slice a len cap] w fun e w' => e = .returned (.bool b) ∧ Below w.heap.size w w' := by
  have := Lines.fit_any a len cap l w h hs
  rw [hb] at this
  exact this
set_option maxHeartbeats 4000000 in
theorem send_any (a : Option Addr) (len cap : Nat) (a2 : Option Addr) (len2 cap2 : Nat) (b : Bk) (la : Option Addr) (n lc : Nat) (ls : List Ln) (w : World)
    (h : BkAt w a len a2 len2 cap2 b) (hz : SzB b) (hL : LsAt w la n ls) (hz2 : Sz ls) (hn : n ≤ 1000000) :
    Calls Tryz.prog 23 #[.agg #[.slice a len cap, .slice a2 len2 cap2], .slice la n lc] w (BookR w (sendB b ls)) := by
  have HF := Lib.hid (fb_new w (.slice a len cap) (.slice a2 len2 cap2) (.slice none 0 0) (.slice none 0 0))
  have HX := Lib.hid h
  have HZ := Lib.hid hz
  cases hfit : fitB b with
  | false =>
    have HR := Lib.hid (send_bad (ls := ls) hfit)
    generalize sendB b ls = r at HR ⊢
    go_enter Tryz.func23, Tryz.ntmps23
    go_wp2_with fail
    refine (fit_any a len cap a2 len2 cap2 b false hfit _ (HX.out.keep HF.out.bel) HZ.out).mono ?_
    rintro e w1 ⟨rfl, hb1⟩
    have HF1 := Lib.hid (HF.out.keep hb1)
    clear hb1 hfit
    obtain ⟨z0, z1⟩ := cells2 HF1.out.res
    obtain ⟨f0, f1⟩ := free2 HF1.out.res
    go_wp2_with fail
    have HRS := Lib.hid (heap_put2 HF1.out.res (.slice none 0 0) (.slice none 0 0))
    have HB := Lib.hid (below_put2 HF1.out.bel (show w.heap.size ≤ w.heap.size + 1 by omega) (.slice none 0 0) (.slice none 0 0))
    exact bodyPost_ret (results_book (j := 4) (k := 5) rfl _ _ (w.heap.size + 1) _ _ rfl HRS.out) rfl (book_err HR.out HB.out)
  | true =>
    have k := fitB_iff.1 hfit
    by_cases h0 : n = 0
    · have HR := Lib.hid (send_arg (ls := ls) hfit (by rw [hL.1, h0]; exact fun e => absurd e.2 (by decide)))
      generalize sendB b ls = r at HR ⊢
      clear h hz hL hz2 k
      subst h0
      go_enter Tryz.func23, Tryz.ntmps23
      go_wp2_with fail
      refine (fit_any a len cap a2 len2 cap2 b true hfit _ (HX.out.keep HF.out.bel) HZ.out).mono ?_
      rintro e w1 ⟨rfl, hb1⟩
      have HF1 := Lib.hid (HF.out.keep hb1)
      clear hb1 hfit
      obtain ⟨z0, z1⟩ := cells2 HF1.out.res
      obtain ⟨f0, f1⟩ := free2 HF1.out.res
      go_wp2_with fail
      have HRS := Lib.hid (heap_put2 HF1.out.res (.slice none 0 0) (.slice none 0 0))
      have HB := Lib.hid (below_put2 HF1.out.bel (show w.heap.size ≤ w.heap.size + 1 by omega) (.slice none 0 0) (.slice none 0 0))
      exact bodyPost_ret (results_book (j := 4) (k := 5) rfl _ _ (w.heap.size + 1) _ _ rfl HRS.out) rfl (book_err HR.out HB.out)
    · have hn0 : ¬ ((n : Int) = 0) := by omega
      have hn1 : ((n : Int) == 0) = false := by simpa using hn0
      cases hfl : fitL ls with
      | false =>
        have HR := Lib.hid (send_arg (ls := ls) hfit (fun e => by rw [hfl] at e; exact absurd e.1 (by simp)))
        have CF := Lib.hid (fun (w' : World) (hb : Below w.heap.size w w') => lfit_is la n lc ls false hfl w' (hL.keep hb) hz2)
        generalize sendB b ls = r at HR ⊢
        clear h hz hL hz2 k hfl
        go_enter Tryz.func23, Tryz.ntmps23
        go_wp2_with fail
        refine (fit_any a len cap a2 len2 cap2 b true hfit _ (HX.out.keep HF.out.bel) HZ.out).mono ?_
        rintro e w1 ⟨rfl, hb1⟩
        have HF1 := Lib.hid (HF.out.keep hb1)
        clear hb1 hfit
        go_wp2_with fail
        refine (CF.out w1 HF1.out.bel).mono ?_
        rintro e w2 ⟨rfl, hb2⟩
        have HF2 := Lib.hid (HF1.out.keep hb2)
        clear hb2
        obtain ⟨z0, z1⟩ := cells2 HF2.out.res
        obtain ⟨f0, f1⟩ := free2 HF2.out.res
        go_wp2_with fail
        have HRS := Lib.hid (heap_put2 HF2.out.res (.slice none 0 0) (.slice none 0 0))
        have HB := Lib.hid (below_put2 HF2.out.bel (show w.heap.size ≤ w.heap.size + 1 by omega) (.slice none 0 0) (.slice none 0 0))
        exact bodyPost_ret (results_book (j := 4) (k := 5) rfl _ _ (w.heap.size + 1) _ _ rfl HRS.out) rfl (book_err HR.out HB.out)
      | true =>
        have hR := send_ok (ls := ls) hfit ⟨hfl, by rw [hL.1]; omega⟩
        rw [hR]
        have CF := Lib.hid (fun (w' : World) (hb : Below w.heap.size w w') => lfit_is la n lc ls true hfl w' (hL.keep hb) hz2)
        have HCP := Lib.hid (fun (w' : World) (hb : Below w.heap.size w w') => copies_any a2 len2 cap2 b.hd w' (h.hd.keep hb) (by rw [← h.hd.len]; exact hz.lh) hz.ls)
        have HM := Lib.hid (fun (w' : World) a' c' (hb : Below w.heap.size w w') hh hr => move_any a len cap b.sk la n lc ls 57 5 act_send a' b.hd.length c' b.hd w' (h.sk.keep hb) (hL.keep hb) hh hr k.up (fun x hx => (k.each x hx).1) hfl (by rw [← h.sk.1]; exact k.len))
        generalize moveR 5 ls b.sk b.hd = r at HM ⊢
        generalize b.hd = hdl at HM HCP
        clear h hz hL hz2 k hfl hR
        go_enter Tryz.func23, Tryz.ntmps23
        go_wp2_with fail
        refine (fit_any a len cap a2 len2 cap2 b true hfit _ (HX.out.keep HF.out.bel) HZ.out).mono ?_
        rintro e w1 ⟨rfl, hb1⟩
        have HF1 := Lib.hid (HF.out.keep hb1)
        clear hb1 hfit
        go_wp2_with fail
        refine (CF.out w1 HF1.out.bel).mono ?_
        rintro e w2 ⟨rfl, hb2⟩
        have HF2 := Lib.hid (HF1.out.keep hb2)
        clear hb2
        go_wp2_with fail
        have b0 : Below w2.heap.size w2 w2.drew := (Below.refl _ w2).drew
        have K : Hid (∀ w', Below w2.heap.size w2 w' → w'.cell? ⟨w.heap.size, 0, none⟩ = some (.slice a len cap) ∧ w'.cell? ⟨w.heap.size, 1, none⟩ = some (.slice a2 len2 cap2)) := fun w' hb => cells2 (HF2.out.keep hb).box
        have K6 : Hid (∀ w' v0 v1, Below w2.heap.size w2 w' → (put2 w' (w.heap.size + 1) v0 v1).cell? ⟨w.heap.size, 0, none⟩ = some (.slice a len cap) ∧ (put2 w' (w.heap.size + 1) v0 v1).cell? ⟨w.heap.size, 1, none⟩ = some (.slice a2 len2 cap2)) :=
          fun w' v0 v1 hb => cells2 ((put2_other v0 v1 (by omega)).trans (HF2.out.keep hb).box)
        have k0 := K.out _ b0
        go_region_held3 (fun w' => w'.cell? ⟨w.heap.size, 0, none⟩ = some (.slice a len cap) ∧ w'.cell? ⟨w.heap.size, 1, none⟩ = some (.slice a2 len2 cap2))
          (first | with_reducible exact k0 | with_reducible exact k4 | with_reducible exact k5 | with_reducible exact k6)
          (first
            | (go_at_call 56; (with_reducible refine (HM4.out).mono ?_); rintro e w9 ⟨a9, n9, c9, b9, m9, d9, rfl, hbk, hb9⟩; have b5 := Lines.below_keep b4 hb9 b4.size; have k5 := K.out _ b5; have k6 := K6.out _ (.slice a9 n9 c9) (.slice b9 m9 d9) b5; obtain ⟨z0, z1⟩ := cells2 (HF2.out.keep b5).res; obtain ⟨f0, f1⟩ := free2 (HF2.out.keep b5).res)
            | (go_at_call 58; (with_reducible refine (HCP.out _ (Lines.below_keep HF2.out.bel b0 HF2.out.bel.size)).mono ?_); rintro e w4 ⟨a4, c4, rfl, hr4, hs4, hb4⟩; have b4 := Lines.below_keep b0 hb4 b0.size; have k4 := K.out _ b4; have HM4 := Lib.hid (HM.out w4 a4 c4 (Lines.below_keep HF2.out.bel b4 HF2.out.bel.size) hs4 hr4)))
        have HF9 := HF2.out.keep b5
        have HBK := Lib.hid (bk_same hbk HF9.res (.slice a9 n9 c9) (.slice b9 m9 d9))
        have HRS := Lib.hid (heap_put2 HF9.res (.slice a9 n9 c9) (.slice b9 m9 d9))
        have HB := Lib.hid (below_put2 HF9.bel (Nat.le_succ _) (.slice a9 n9 c9) (.slice b9 m9 d9))
        clear hbk hb9 hs4 hb4 k0 k4 k5 k6 b0 b4 b5 z0 z1 f0 f1
        go_wp2_with fail
        exact bodyPost_ret (results_book (j := 4) (k := 5) rfl _ _ (w.heap.size + 1) _ _ rfl HRS.out) rfl ⟨a9, n9, c9, b9, m9, d9, rfl, HBK.out, HB.out⟩
/-! ### the laws' own -/
abbrev At5 (w : World) (b : Nat) (v0 v1 v2 v3 v4 : Value) : Prop := w.heap[b]? = some (.cells #[v0, v1, v2, v3, v4] 28 (0, 0))
theorem cells5 {w : World} {v0 v1 v2 v3 v4 : Value} {b : Nat} (h : At5 w b v0 v1 v2 v3 v4) : w.cell? ⟨b, 0, none⟩ = some v0 ∧ w.cell? ⟨b, 1, none⟩ = some v1 ∧ w.cell? ⟨b, 2, none⟩ = some v2 ∧ w.cell? ⟨b, 3, none⟩ = some v3 ∧ w.cell? ⟨b, 4, none⟩ = some v4 := by
  refine ⟨?_, ?_, ?_, ?_, ?_⟩ <;> (rw [cell_of_heap h]; rfl)
theorem fb_act (w : World) (v0 v1 r0 r1 u0 u1 u2 u3 u4 : Value) : FB w.heap.size w (((w.alloc (.cells #[v0, v1] 33)).alloc (.cells #[u0, u1, u2, u3, u4] 28)).alloc (.cells #[r0, r1] 33)) v0 v1 (w.heap.size + 2) r0 r1 ∧
    At5 (((w.alloc (.cells #[v0, v1] 33)).alloc (.cells #[u0, u1, u2, u3, u4] 28)).alloc (.cells #[r0, r1] 33)) (w.heap.size + 1) u0 u1 u2 u3 u4 := by
  have h1 := heap_alloc_new (w.alloc (.cells #[v0, v1] 33)) (.cells #[u0, u1, u2, u3, u4] 28)
  have h2 := heap_alloc_new ((w.alloc (.cells #[v0, v1] 33)).alloc (.cells #[u0, u1, u2, u3, u4] 28)) (.cells #[r0, r1] 33)
  rw [World.size_alloc] at h1
  rw [World.size_alloc, World.size_alloc] at h2
  refine ⟨⟨(((Below.refl _ w).alloc (Nat.le_refl _) _).alloc (by rw [World.size_alloc]; omega) _).alloc (by rw [World.size_alloc, World.size_alloc]; omega) _, ?_, h2⟩, ?_⟩
  · exact (heap_alloc_old _ _ (by rw [World.size_alloc, World.size_alloc]; omega)).trans ((heap_alloc_old _ _ (by rw [World.size_alloc]; omega)).trans (heap_alloc_new w _))
  · exact (heap_alloc_old _ _ (by rw [World.size_alloc, World.size_alloc]; omega)).trans h1
set_option maxHeartbeats 4000000 in
theorem do_any (a : Option Addr) (len cap : Nat) (a2 : Option Addr) (len2 cap2 : Nat) (b : Bk) (kd sg m : Int) (s : ByteArray) (la : Option Addr) (n lc : Nat) (ls : List Ln) (w : World)
    (h : BkAt w a len a2 len2 cap2 b) (hz : SzB b) (hs : s.size ≤ 300) (hL : LsAt w la n ls) (hz2 : Sz ls) (hn : n ≤ 1000000) :
    Calls Tryz.prog 8 #[.agg #[.slice a len cap, .slice a2 len2 cap2], .agg #[.int .i64 kd, .int .i64 sg, .int .i64 m, .string s, .slice la n lc]] w (BookR w (doB b ⟨kd, sg, m, s, ls⟩)) := by
  have hall := fb_act w (.slice a len cap) (.slice a2 len2 cap2) (.slice none 0 0) (.slice none 0 0) (.int .i64 kd) (.int .i64 sg) (.int .i64 m) (.string s) (.slice la n lc)
  have HF := Lib.hid hall.1
  have HA := Lib.hid hall.2
  clear hall

  by_cases k1 : kd = 1
  · have hR : doB b ⟨kd, sg, m, s, ls⟩ = restockB b s m := by unfold doB; rw [if_pos k1]
    rw [hR]
    have C := Lib.hid (fun (w' : World) (hb : Below w.heap.size w w') => restock_any a len cap a2 len2 cap2 b s m w' (h.keep hb) hz hs)
    generalize restockB b s m = r at C ⊢
    clear h hz hL hz2 hn hR hs
    subst k1
    obtain ⟨q0, q1⟩ := cells2 HF.out.box
    obtain ⟨c0, c1, c2, c3, c4⟩ := cells5 HA.out
    go_enter Tryz.func8, Tryz.ntmps8
    go_wp2_with fail
    refine (C.out _ HF.out.bel).mono ?_
    rintro e w9 ⟨a9, n9, c9, b9, m9, d9, rfl, hbk, hb9⟩
    have HF9 := Lib.hid (HF.out.keep hb9)
    obtain ⟨z0, z1⟩ := cells2 HF9.out.res
    obtain ⟨f0, f1⟩ := free2 HF9.out.res
    have HBK := Lib.hid (bk_same hbk HF9.out.res (.slice a9 n9 c9) (.slice b9 m9 d9))
    clear hbk hb9 q0 q1 c0 c1 c2 c3 c4
    go_wp2_with fail
    have HRS := Lib.hid (heap_put2 HF9.out.res (.slice a9 n9 c9) (.slice b9 m9 d9))
    have HB := Lib.hid (below_put2 HF9.out.bel (show w.heap.size ≤ w.heap.size + 2 by omega) (.slice a9 n9 c9) (.slice b9 m9 d9))
    exact bodyPost_ret (results_book (j := 4) (k := 5) rfl _ _ (w.heap.size + 2) _ _ rfl HRS.out) rfl ⟨a9, n9, c9, b9, m9, d9, rfl, HBK.out, HB.out⟩
  by_cases k2 : kd = 2
  · have hR : doB b ⟨kd, sg, m, s, ls⟩ = adjustB b s m := by unfold doB; rw [if_neg k1, if_pos k2]
    rw [hR]
    have C := Lib.hid (fun (w' : World) (hb : Below w.heap.size w w') => adjust_any a len cap a2 len2 cap2 b s m w' (h.keep hb) hz)
    generalize adjustB b s m = r at C ⊢
    clear h hz hL hz2 hn hR hs
    subst k2
    obtain ⟨q0, q1⟩ := cells2 HF.out.box
    obtain ⟨c0, c1, c2, c3, c4⟩ := cells5 HA.out
    go_enter Tryz.func8, Tryz.ntmps8
    go_wp2_with fail
    refine (C.out _ HF.out.bel).mono ?_
    rintro e w9 ⟨a9, n9, c9, b9, m9, d9, rfl, hbk, hb9⟩
    have HF9 := Lib.hid (HF.out.keep hb9)
    obtain ⟨z0, z1⟩ := cells2 HF9.out.res
    obtain ⟨f0, f1⟩ := free2 HF9.out.res
    have HBK := Lib.hid (bk_same hbk HF9.out.res (.slice a9 n9 c9) (.slice b9 m9 d9))
    clear hbk hb9 q0 q1 c0 c1 c2 c3 c4
    go_wp2_with fail
    have HRS := Lib.hid (heap_put2 HF9.out.res (.slice a9 n9 c9) (.slice b9 m9 d9))
    have HB := Lib.hid (below_put2 HF9.out.bel (show w.heap.size ≤ w.heap.size + 2 by omega) (.slice a9 n9 c9) (.slice b9 m9 d9))
    exact bodyPost_ret (results_book (j := 4) (k := 5) rfl _ _ (w.heap.size + 2) _ _ rfl HRS.out) rfl ⟨a9, n9, c9, b9, m9, d9, rfl, HBK.out, HB.out⟩
  by_cases k3 : kd = 3
  · have hR : doB b ⟨kd, sg, m, s, ls⟩ = heldB b sg ls m 1 := by unfold doB; rw [if_neg k1, if_neg k2, if_pos k3]
    rw [hR]
    have C := Lib.hid (fun (w' : World) (hb : Below w.heap.size w w') => hold_any a len cap a2 len2 cap2 b sg m la n lc ls w' (h.keep hb) hz (hL.keep hb) hz2 hn)
    generalize heldB b sg ls m 1 = r at C ⊢
    clear h hz hL hz2 hn hR hs
    subst k3
    obtain ⟨q0, q1⟩ := cells2 HF.out.box
    obtain ⟨c0, c1, c2, c3, c4⟩ := cells5 HA.out
    go_enter Tryz.func8, Tryz.ntmps8
    go_wp2_with fail
    refine (C.out _ HF.out.bel).mono ?_
    rintro e w9 ⟨a9, n9, c9, b9, m9, d9, rfl, hbk, hb9⟩
    have HF9 := Lib.hid (HF.out.keep hb9)
    obtain ⟨z0, z1⟩ := cells2 HF9.out.res
    obtain ⟨f0, f1⟩ := free2 HF9.out.res
    have HBK := Lib.hid (bk_same hbk HF9.out.res (.slice a9 n9 c9) (.slice b9 m9 d9))
    clear hbk hb9 q0 q1 c0 c1 c2 c3 c4
    go_wp2_with fail
    have HRS := Lib.hid (heap_put2 HF9.out.res (.slice a9 n9 c9) (.slice b9 m9 d9))
    have HB := Lib.hid (below_put2 HF9.out.bel (show w.heap.size ≤ w.heap.size + 2 by omega) (.slice a9 n9 c9) (.slice b9 m9 d9))
    exact bodyPost_ret (results_book (j := 4) (k := 5) rfl _ _ (w.heap.size + 2) _ _ rfl HRS.out) rfl ⟨a9, n9, c9, b9, m9, d9, rfl, HBK.out, HB.out⟩
  by_cases k4 : kd = 4
  · have hR : doB b ⟨kd, sg, m, s, ls⟩ = dropB b sg 2 := by unfold doB; rw [if_neg k1, if_neg k2, if_neg k3, if_pos k4]
    rw [hR]
    have C := Lib.hid (fun (w' : World) (hb : Below w.heap.size w w') => release_any a len cap a2 len2 cap2 b sg w' (h.keep hb) hz)
    generalize dropB b sg 2 = r at C ⊢
    clear h hz hL hz2 hn hR hs
    subst k4
    obtain ⟨q0, q1⟩ := cells2 HF.out.box
    obtain ⟨c0, c1, c2, c3, c4⟩ := cells5 HA.out
    go_enter Tryz.func8, Tryz.ntmps8
    go_wp2_with fail
    refine (C.out _ HF.out.bel).mono ?_
    rintro e w9 ⟨a9, n9, c9, b9, m9, d9, rfl, hbk, hb9⟩
    have HF9 := Lib.hid (HF.out.keep hb9)
    obtain ⟨z0, z1⟩ := cells2 HF9.out.res
    obtain ⟨f0, f1⟩ := free2 HF9.out.res
    have HBK := Lib.hid (bk_same hbk HF9.out.res (.slice a9 n9 c9) (.slice b9 m9 d9))
    clear hbk hb9 q0 q1 c0 c1 c2 c3 c4
    go_wp2_with fail
    have HRS := Lib.hid (heap_put2 HF9.out.res (.slice a9 n9 c9) (.slice b9 m9 d9))
    have HB := Lib.hid (below_put2 HF9.out.bel (show w.heap.size ≤ w.heap.size + 2 by omega) (.slice a9 n9 c9) (.slice b9 m9 d9))
    exact bodyPost_ret (results_book (j := 4) (k := 5) rfl _ _ (w.heap.size + 2) _ _ rfl HRS.out) rfl ⟨a9, n9, c9, b9, m9, d9, rfl, HBK.out, HB.out⟩
  by_cases k5 : kd = 5
  · have hR : doB b ⟨kd, sg, m, s, ls⟩ = dropB b sg 3 := by unfold doB; rw [if_neg k1, if_neg k2, if_neg k3, if_neg k4, if_pos k5]
    rw [hR]
    have C := Lib.hid (fun (w' : World) (hb : Below w.heap.size w w') => keep_any a len cap a2 len2 cap2 b sg w' (h.keep hb) hz)
    generalize dropB b sg 3 = r at C ⊢
    clear h hz hL hz2 hn hR hs
    subst k5
    obtain ⟨q0, q1⟩ := cells2 HF.out.box
    obtain ⟨c0, c1, c2, c3, c4⟩ := cells5 HA.out
    go_enter Tryz.func8, Tryz.ntmps8
    go_wp2_with fail
    refine (C.out _ HF.out.bel).mono ?_
    rintro e w9 ⟨a9, n9, c9, b9, m9, d9, rfl, hbk, hb9⟩
    have HF9 := Lib.hid (HF.out.keep hb9)
    obtain ⟨z0, z1⟩ := cells2 HF9.out.res
    obtain ⟨f0, f1⟩ := free2 HF9.out.res
    have HBK := Lib.hid (bk_same hbk HF9.out.res (.slice a9 n9 c9) (.slice b9 m9 d9))
    clear hbk hb9 q0 q1 c0 c1 c2 c3 c4
    go_wp2_with fail
    have HRS := Lib.hid (heap_put2 HF9.out.res (.slice a9 n9 c9) (.slice b9 m9 d9))
    have HB := Lib.hid (below_put2 HF9.out.bel (show w.heap.size ≤ w.heap.size + 2 by omega) (.slice a9 n9 c9) (.slice b9 m9 d9))
    exact bodyPost_ret (results_book (j := 4) (k := 5) rfl _ _ (w.heap.size + 2) _ _ rfl HRS.out) rfl ⟨a9, n9, c9, b9, m9, d9, rfl, HBK.out, HB.out⟩
  by_cases k6 : kd = 6
  · have hR : doB b ⟨kd, sg, m, s, ls⟩ = heldB b sg ls m 4 := by unfold doB; rw [if_neg k1, if_neg k2, if_neg k3, if_neg k4, if_neg k5, if_pos k6]
    rw [hR]
    have C := Lib.hid (fun (w' : World) (hb : Below w.heap.size w w') => unkeep_any a len cap a2 len2 cap2 b sg m la n lc ls w' (h.keep hb) hz (hL.keep hb) hz2 hn)
    generalize heldB b sg ls m 4 = r at C ⊢
    clear h hz hL hz2 hn hR hs
    subst k6
    obtain ⟨q0, q1⟩ := cells2 HF.out.box
    obtain ⟨c0, c1, c2, c3, c4⟩ := cells5 HA.out
    go_enter Tryz.func8, Tryz.ntmps8
    go_wp2_with fail
    refine (C.out _ HF.out.bel).mono ?_
    rintro e w9 ⟨a9, n9, c9, b9, m9, d9, rfl, hbk, hb9⟩
    have HF9 := Lib.hid (HF.out.keep hb9)
    obtain ⟨z0, z1⟩ := cells2 HF9.out.res
    obtain ⟨f0, f1⟩ := free2 HF9.out.res
    have HBK := Lib.hid (bk_same hbk HF9.out.res (.slice a9 n9 c9) (.slice b9 m9 d9))
    clear hbk hb9 q0 q1 c0 c1 c2 c3 c4
    go_wp2_with fail
    have HRS := Lib.hid (heap_put2 HF9.out.res (.slice a9 n9 c9) (.slice b9 m9 d9))
    have HB := Lib.hid (below_put2 HF9.out.bel (show w.heap.size ≤ w.heap.size + 2 by omega) (.slice a9 n9 c9) (.slice b9 m9 d9))
    exact bodyPost_ret (results_book (j := 4) (k := 5) rfl _ _ (w.heap.size + 2) _ _ rfl HRS.out) rfl ⟨a9, n9, c9, b9, m9, d9, rfl, HBK.out, HB.out⟩
  have hR : doB b ⟨kd, sg, m, s, ls⟩ = sendB b ls := by unfold doB; rw [if_neg k1, if_neg k2, if_neg k3, if_neg k4, if_neg k5, if_neg k6]
  rw [hR]
  have C := Lib.hid (fun (w' : World) (hb : Below w.heap.size w w') => send_any a len cap a2 len2 cap2 b la n lc ls w' (h.keep hb) hz (hL.keep hb) hz2 hn)
  generalize sendB b ls = r at C ⊢
  clear h hz hL hz2 hn hR hs
  obtain ⟨q0, q1⟩ := cells2 HF.out.box
  obtain ⟨c0, c1, c2, c3, c4⟩ := cells5 HA.out
  go_enter Tryz.func8, Tryz.ntmps8
  go_wp2_with fail
  refine (C.out _ HF.out.bel).mono ?_
  rintro e w9 ⟨a9, n9, c9, b9, m9, d9, rfl, hbk, hb9⟩
  have HF9 := Lib.hid (HF.out.keep hb9)
  obtain ⟨z0, z1⟩ := cells2 HF9.out.res
  obtain ⟨f0, f1⟩ := free2 HF9.out.res
  have HBK := Lib.hid (bk_same hbk HF9.out.res (.slice a9 n9 c9) (.slice b9 m9 d9))
  clear hbk hb9 q0 q1 c0 c1 c2 c3 c4
  go_wp2_with fail
  have HRS := Lib.hid (heap_put2 HF9.out.res (.slice a9 n9 c9) (.slice b9 m9 d9))
  have HB := Lib.hid (below_put2 HF9.out.bel (show w.heap.size ≤ w.heap.size + 2 by omega) (.slice a9 n9 c9) (.slice b9 m9 d9))
  exact bodyPost_ret (results_book (j := 4) (k := 5) rfl _ _ (w.heap.size + 2) _ _ rfl HRS.out) rfl ⟨a9, n9, c9, b9, m9, d9, rfl, HBK.out, HB.out⟩
end Go.Proofs.YtjclkiabgemfpaaGreat.Ledger

/-
  How acts stand in memory; the contracts of FewActs and Few, and of the laws' own awake: the chapter's example.
-/
set_option linter.unusedVariables false
set_option maxRecDepth 4000
namespace Go.Proofs.YtjclkiabgemfpaaGreat.Ledger
open Go.RowKit LinesP HoldsP LedgerP
open StockP (Sk sk0 fitS Fit fitS_iff fromV turnV moveV turn_fit)
open Go.Proofs.YtjclkiabgemfpaaGreat.Lines (LsAt Sz SzM ret_bool ret_int below_keep below_drewN owns_form owns_cell owns_below fewV few_sz)
open Go.Proofs.YtjclkiabgemfpaaGreat.Holds (HsAt SzH SzMH hmf fewH fewH_sz)

abbrev Az := LedgerP.Act × Option Addr × Nat
def ac0 : LedgerP.Act := ⟨0, 0, 0, ByteArray.empty, []⟩
def az0 : Az := (ac0, none, 0)
def acts (zs : List Az) : List LedgerP.Act := zs.map (·.1)
theorem acts_len (zs : List Az) : (acts zs).length = zs.length := by simp [acts]
theorem acts_get {zs : List Az} {k : Nat} (hk : k < zs.length) : (acts zs).getD k ac0 = (zs.getD k az0).1 := by
  simp [acts, List.getD, hk]
def AzAt (w : World) (a : Option Addr) (len : Nat) (zs : List Az) : Prop :=
  zs.length = len ∧ len ≤ 9223372036854775807 ∧ (∀ z ∈ zs, LsAt w z.2.1 z.1.ls.length z.1.ls) ∧
  (len = 0 ∨ ∃ b off, a = some ⟨b, off, none⟩ ∧ b < w.heap.size ∧ ∀ i, i < len →
    w.cell? ⟨b, off + i * 5, none⟩ = some (.int .i64 (zs.getD i az0).1.kind) ∧ w.cell? ⟨b, off + i * 5 + 1, none⟩ = some (.int .i64 (zs.getD i az0).1.saga) ∧
    w.cell? ⟨b, off + i * 5 + 2, none⟩ = some (.int .i64 (zs.getD i az0).1.n) ∧ w.cell? ⟨b, off + i * 5 + 3, none⟩ = some (.string (zs.getD i az0).1.sku) ∧
    w.cell? ⟨b, off + i * 5 + 4, none⟩ = some (.slice (zs.getD i az0).2.1 (zs.getD i az0).1.ls.length (zs.getD i az0).2.2))
theorem AzAt.keep {w w' : World} {a : Option Addr} {len : Nat} {zs : List Az} (h : AzAt w a len zs) (hb : Below w.heap.size w w') : AzAt w' a len zs :=
  ⟨h.1, h.2.1, fun z hz => (h.2.2.1 z hz).keep hb, h.2.2.2.imp id (fun ⟨b, off, e, hlt, hc⟩ => ⟨b, off, e, by have := hb.size; omega, fun i hi =>
    ⟨(hb.cell (p := ⟨b, off + i * 5, none⟩) hlt).trans (hc i hi).1, (hb.cell (p := ⟨b, off + i * 5 + 1, none⟩) hlt).trans (hc i hi).2.1, (hb.cell (p := ⟨b, off + i * 5 + 2, none⟩) hlt).trans (hc i hi).2.2.1, (hb.cell (p := ⟨b, off + i * 5 + 3, none⟩) hlt).trans (hc i hi).2.2.2.1, (hb.cell (p := ⟨b, off + i * 5 + 4, none⟩) hlt).trans (hc i hi).2.2.2.2⟩⟩)⟩
def AsAt (w : World) (a : Option Addr) (len : Nat) (l : List LedgerP.Act) : Prop := ∃ zs, acts zs = l ∧ AzAt w a len zs
theorem AsAt.keep {w w' : World} {a : Option Addr} {len : Nat} {l : List LedgerP.Act} (h : AsAt w a len l) (hb : Below w.heap.size w w') : AsAt w' a len l :=
  h.imp fun _ ⟨e, k⟩ => ⟨e, k.keep hb⟩
theorem AsAt.len {w : World} {a : Option Addr} {len : Nat} {l : List LedgerP.Act} (h : AsAt w a len l) : l.length = len := by
  obtain ⟨zs, rfl, k⟩ := h
  rw [acts_len]; exact k.1
theorem AsAt.le {w : World} {a : Option Addr} {len : Nat} {l : List LedgerP.Act} (h : AsAt w a len l) : len ≤ 9223372036854775807 := by
  obtain ⟨zs, rfl, k⟩ := h
  exact k.2.1
theorem AsAt.at {w : World} {a : Option Addr} {len : Nat} {l : List LedgerP.Act} (h : AsAt w a len l) {k : Nat} (hk : k < len) :
    ∃ b off kd sg m s la lc ls, a = some ⟨b, off, none⟩ ∧ b < w.heap.size ∧ l.getD k ac0 = ⟨kd, sg, m, s, ls⟩ ∧ ∀ w', Below w.heap.size w w' →
      w'.cell? ⟨b, off + k * 5, none⟩ = some (.int .i64 kd) ∧ w'.cell? ⟨b, off + k * 5 + 1, none⟩ = some (.int .i64 sg) ∧ w'.cell? ⟨b, off + k * 5 + 2, none⟩ = some (.int .i64 m) ∧
      w'.cell? ⟨b, off + k * 5 + 3, none⟩ = some (.string s) ∧ w'.cell? ⟨b, off + k * 5 + 4, none⟩ = some (.slice la ls.length lc) ∧ LsAt w' la ls.length ls := by
  obtain ⟨zs, rfl, k1, k2, k3, k4⟩ := h
  rcases k4 with h0 | ⟨b, off, rfl, hlt, hc⟩
  · omega
  have hkz : k < zs.length := by omega
  have hm : zs.getD k az0 ∈ zs := by
    rw [show zs.getD k az0 = zs[k] by simp [List.getD, hkz]]; exact List.getElem_mem hkz
  have hl := k3 _ hm
  have hc1 := hc k hk
  rw [acts_get hkz]
  obtain ⟨⟨⟨kd, sg, m, s, ls⟩, la, lc⟩, hz⟩ : ∃ z, zs.getD k az0 = z := ⟨_, rfl⟩
  rw [hz] at hl hc1 ⊢
  exact ⟨b, off, kd, sg, m, s, la, lc, ls, rfl, hlt, rfl, fun w' hb => ⟨(hb.cell (p := ⟨b, off + k * 5, none⟩) hlt).trans hc1.1, (hb.cell (p := ⟨b, off + k * 5 + 1, none⟩) hlt).trans hc1.2.1, (hb.cell (p := ⟨b, off + k * 5 + 2, none⟩) hlt).trans hc1.2.2.1, (hb.cell (p := ⟨b, off + k * 5 + 3, none⟩) hlt).trans hc1.2.2.2.1, (hb.cell (p := ⟨b, off + k * 5 + 4, none⟩) hlt).trans hc1.2.2.2.2, hl.keep hb⟩⟩
/-! ### few acts -/
def fewOne (x : LedgerP.Act) : Bool := fewV x.ls && decide (x.sku.size ≤ 60)
def shortA (l : List LedgerP.Act) : Bool := l.all fewOne
def fewA (m : Nat) (l : List LedgerP.Act) : Bool := shortA (l.take m) && decide (l.length ≤ m)
def SzMA (l : List LedgerP.Act) : Prop := ∀ x ∈ l, SzM x.ls ∧ x.sku.size ≤ 9223372036854775807
theorem amem_getD {l : List LedgerP.Act} {k : Nat} (hk : k < l.length) : l.getD k ac0 ∈ l := by
  rw [show l.getD k ac0 = l[k] by simp [List.getD, hk]]; exact List.getElem_mem hk
theorem take_snocA {l : List LedgerP.Act} {k : Nat} {x : LedgerP.Act} (hk : k < l.length) (hx : l.getD k ac0 = x) : l.take (k + 1) = l.take k ++ [x] := by
  rw [List.take_succ_eq_append_getElem hk, ← hx]; simp [List.getD, hk]
theorem shortA_snoc {l : List LedgerP.Act} {x : LedgerP.Act} {k : Nat} (hk : k < l.length) (hx : l.getD k ac0 = x) (h : shortA (l.take k) = true) (hq : fewOne x = true) : shortA (l.take (k + 1)) = true := by
  unfold shortA at h ⊢
  rw [take_snocA hk hx, List.all_append, h]; simp [hq]
theorem fewA_no {l : List LedgerP.Act} {x : LedgerP.Act} {k m : Nat} (hk : k < l.length) (hm : k < m) (hx : l.getD k ac0 = x) (hq : fewOne x = false) : fewA m l = false := by
  unfold fewA
  have hmem : x ∈ l.take m := by
    rw [List.mem_take_iff_getElem]
    exact ⟨k, by omega, by rw [← hx]; simp [List.getD, hk]⟩
  have : shortA (l.take m) = false := by
    cases hs : shortA (l.take m) with
    | false => rfl
    | true => unfold shortA at hs; rw [List.all_eq_true] at hs; rw [hs x hmem] at hq; cases hq
  rw [this]; rfl
theorem fewA_end {l : List LedgerP.Act} {k m : Nat} (hk : k = l.length ∧ k ≤ m ∨ k = m) (h : shortA (l.take k) = true) : fewA m l = decide (l.length ≤ m) := by
  unfold fewA
  have : shortA (l.take m) = true := by
    rcases hk with ⟨hk, hm⟩ | rfl
    · rw [List.take_of_length_le (by omega)]; rw [List.take_of_length_le (by omega)] at h; exact h
    · exact h
  rw [this]; rfl
theorem fewA_mem {m : Nat} {l : List LedgerP.Act} (h : fewA m l = true) (hs : SzMA l) : l.length ≤ m ∧ ∀ x ∈ l, x.ls.length ≤ 8 ∧ Sz x.ls ∧ x.sku.size ≤ 60 := by
  unfold fewA at h
  rw [Bool.and_eq_true, decide_eq_true_eq] at h
  refine ⟨h.2, fun x hx => ?_⟩
  have h1 := h.1
  rw [List.take_of_length_le h.2] at h1
  unfold shortA at h1
  have h2 := List.all_eq_true.1 h1 x hx
  unfold fewOne at h2
  rw [Bool.and_eq_true, decide_eq_true_eq] at h2
  have h3 := few_sz h2.1 (hs x hx).1
  exact ⟨h3.1, h3.2, h2.2⟩
set_option maxHeartbeats 2000000 in
theorem fewacts_any (a : Option Addr) (len cap : Nat) (l : List LedgerP.Act) (m : Nat) (w : World) (h : AsAt w a len l) (hs : SzMA l) (hm100 : m ≤ 100) :
    Calls Tryz.prog 6 #[.slice a len cap, .int .i64 (m : Int)] w fun e w' => e = .returned (.bool (fewA m l)) ∧ Below w.heap.size w w' := by
  have HX := Lib.hid h
  have HS := Lib.hid hs
  obtain ⟨v, hv⟩ : ∃ v, fewA m l = v := ⟨_, rfl⟩
  rw [hv]
  have HV := Lib.hid hv
  have hl := h.le
  clear hv h hs
  go_enter Tryz.func6, Tryz.ntmps6
  go_wp2_with fail
  go_loopw [5] (fun i wr => ∃ k : Nat, k ≤ len ∧ k ≤ m ∧ i = .int .i64 (k : Int) ∧ Hid (shortA (l.take k) = true) ∧ Hid (Below w.heap.size w wr)) (fun i _ => len - (intOf i).toNat)
  case atStart => exact ⟨0, Nat.zero_le _, Nat.zero_le _, rfl, Lib.hid rfl, Below.refl _ _⟩
  case round =>
    obtain ⟨k, hk, hkm, rfl, hF, hB⟩ := hrel
    by_cases hlk : k < len
    · by_cases hm : k < m
      · have hkx : k < l.length := by rw [HX.out.len]; exact hlk
        obtain ⟨b1, o1, kd, sg, q, s, la, lc, ls, rfl, g1, hp, hc1⟩ := HX.out.at hlk
        have hsz := HS.out _ (amem_getD hkx)
        rw [hp] at hsz
        have hss := hsz.2
        simp only at hss
        obtain ⟨_, _, _, d3, d4, dL⟩ := hc1 wr hB.out
        obtain ⟨n, hn⟩ : ∃ n, ls.length = n := ⟨_, rfl⟩
        rw [hn] at d4 dL
        have HC1 := Lib.hid hc1
        clear hn hc1
        cases hq : fewV ls with
        | false =>
          have C := Lib.hid (Holds.rfewL_is la n lc ls false hq wr dL hsz.1)
          have HNO : Hid (v = false) := by show v = _; rw [← HV.out]; exact fewA_no hkx hm hp (by unfold fewOne; rw [hq]; rfl)
          clear hkx hp hF dL hsz hq
          go_wp2_with fail
          refine C.out.mono ?_
          rintro e w1 ⟨rfl, hb⟩
          have HB1 := Lib.hid (below_keep hB.out hb hB.out.size)
          go_wp2_with fail
          go_ret
          exact ⟨ret_bool HNO.out, HB1.out⟩
        | true =>
          have C := Lib.hid (Holds.rfewL_is la n lc ls true hq wr dL hsz.1)
          by_cases h60 : s.size ≤ 60
          · have HF2 : Hid (shortA (l.take (k + 1)) = true) := shortA_snoc hkx hp hF.out (by unfold fewOne; rw [hq, decide_eq_true h60]; rfl)
            have h60' : ¬ ((s.size : Int) > 60) := by omega
            have h60'' : ¬ ((60 : Int) < (s.size : Int)) := by omega
            clear hkx hp hF dL hsz hq
            go_wp2_with fail
            refine C.out.mono ?_
            rintro e w1 ⟨rfl, hb⟩
            have HB1 := Lib.hid (below_keep hB.out hb hB.out.size)
            have d3' := (HC1.out w1 HB1.out).2.2.2.1
            go_wp2_with fail
            go_roundw
            case rel => exact ⟨k + 1, by omega, by omega, by go_num, HF2, HB1⟩
            case measure => simp [intOf]; omega
          · have HNO : Hid (v = false) := by show v = _; rw [← HV.out]; exact fewA_no hkx hm hp (by unfold fewOne; rw [decide_eq_false h60, Bool.and_false])
            have h60' : ((60 : Int) < (s.size : Int)) := by omega
            clear hkx hp hF dL hsz hq
            go_wp2_with fail
            refine C.out.mono ?_
            rintro e w1 ⟨rfl, hb⟩
            have HB1 := Lib.hid (below_keep hB.out hb hB.out.size)
            have d3' := (HC1.out w1 HB1.out).2.2.2.1
            go_wp2_with fail
            go_ret
            exact ⟨ret_bool HNO.out, HB1.out⟩
      · obtain rfl : k = m := by omega
        have HNO : Hid (v = false) := by
          show v = _
          rw [← HV.out, fewA_end (.inr rfl) hF.out, HX.out.len]
          exact decide_eq_false (by omega)
        have HD : Hid (false = decide (len ≤ k)) := (decide_eq_false (by omega)).symm
        go_wp2_with fail
        go_ret
        exact ⟨ret_bool (HNO.out.trans HD.out), hB.out⟩
    · obtain rfl : k = len := by omega
      have HE : Hid (v = true) := by show v = _; rw [← HV.out, fewA_end (.inl ⟨HX.out.len.symm, hkm⟩) hF.out, HX.out.len]; exact decide_eq_true hkm
      go_wp2_with fail
      go_ret
      exact ⟨ret_bool HE.out, hB.out⟩
/-! ### a book that is small -/
end Go.Proofs.YtjclkiabgemfpaaGreat.Ledger
