/-
  The contracts of the document's Send and Drop of books; what was there stays as it was.
-/
import Derived.Test.YtjclkiabgemfpaaGreatPdLedgerW
set_option linter.unusedVariables false
set_option linter.unusedSimpArgs false
set_option maxRecDepth 4000
namespace Go.Proofs.YtjclkiabgemfpaaGreat.Ledger
open Go.RowKit LinesP HoldsP LedgerP
open StockP (Sk sk0 fitS Fit fitS_iff fromV turnV moveV turn_fit restockV adjustV nmS)
open Go.Proofs.YtjclkiabgemfpaaGreat.Lines (LsAt Sz SzM ret_bool ret_int below_keep below_drewN below_append owns_form owns_cell owns_below)
open Go.Proofs.YtjclkiabgemfpaaGreat.Holds (HsAt SzH SzMH hmf eqH MadeP)

theorem rlfit_is (la : Option Addr) (n lc : Nat) (ls : List Ln) (v : Bool) (hv : fitL ls = v) (w : World) (h : LsAt w la n ls) (hs : Sz ls) :
    Calls Tryz.prog 70 #[.slice la n lc] w fun e w' => e = .returned (.bool v) ∧ Below w.heap.size w w' := by
  have := Lines.rfit_any la n lc ls w h hs
  rw [hv] at this
  exact this
set_option maxHeartbeats 8000000 in
theorem rsendb_any (a : Option Addr) (len cap : Nat) (a2 : Option Addr) (len2 cap2 : Nat) (b : Bk) (la : Option Addr) (n lc : Nat) (ls : List Ln) (w : World) (h : BkAt w a len a2 len2 cap2 b) (hz : SzB b) (hL : LsAt w la n ls) (hz2 : Sz ls) :
    Calls Tryz.prog 32 #[.agg #[.slice a len cap, .slice a2 len2 cap2], .slice la n lc] w (BookR w (sendB b ls)) := by
  have HF := Lib.hid (fr_new w (.slice a len cap) (.slice a2 len2 cap2) (.slice none 0 0) (.slice none 0 0))
  have HX := Lib.hid h
  have HZ := Lib.hid hz
  have hlen := h.sk.1
  have hln := hz.ln
  obtain ⟨vf, hvf⟩ : ∃ v, fitB b = v := ⟨_, rfl⟩
  have CF := Lib.hid (rfitb_any a len cap a2 len2 cap2 b vf hvf _ (h.keep HF.out.bel) hz)
  obtain ⟨q0, q1⟩ := cellsB HF.out.box
  cases vf with
  | false =>
    have HR := Lib.hid (send_bad (ls := ls) hvf)
    generalize sendB b ls = r at HR ⊢
    clear h hz hL hz2 hvf
    go_enter Tryz.func32, Tryz.ntmps32
    go_wp2_with fail
    refine (CF.out).mono ?_
    rintro e w1 ⟨rfl, hb⟩
    have HF1 := Lib.hid (HF.out.keep hb)
    clear hb q0 q1
    obtain ⟨z0, z1⟩ := cellsB HF1.out.res
    obtain ⟨f0, f1⟩ := freeB HF1.out.res
    go_wp2_with fail
    have HRS := Lib.hid (heap_put2B HF1.out.res (.slice none 0 0) (.slice none 0 0))
    have HB := Lib.hid (below_put2 HF1.out.bel (show w.heap.size ≤ w.heap.size + 1 by omega) (.slice none 0 0) (.slice none 0 0))
    exact bodyPost_ret (results_bookR (j := 4) (k := 5) rfl _ _ (w.heap.size + 1) _ _ rfl HRS.out) rfl (book_err HR.out HB.out)
  | true =>
    have k := fitB_iff.1 hvf
    have h12 : len ≤ 12 := by rw [← hlen]; exact k.len
    cases hfl : fitL ls with
    | false =>
      have HR := Lib.hid (send_arg (ls := ls) hvf (fun e => by rw [hfl] at e; exact absurd e.1 (by simp)))
      have CL := Lib.hid (fun (w' : World) (hb : Below w.heap.size w w') => rlfit_is la n lc ls false hfl w' (hL.keep hb) hz2)
      generalize sendB b ls = r at HR ⊢
      clear h hz hL hz2 hvf k hfl
      go_enter Tryz.func32, Tryz.ntmps32
      go_wp2_with fail
      refine (CF.out).mono ?_
      rintro e w1 ⟨rfl, hb⟩
      have HF1 := Lib.hid (HF.out.keep hb)
      clear hb q0 q1
      go_wp2_with fail
      refine (CL.out w1 HF1.out.bel).mono ?_
      rintro e w2 ⟨rfl, hb⟩
      have HF2 := Lib.hid (HF1.out.keep hb)
      clear hb
      obtain ⟨z0, z1⟩ := cellsB HF2.out.res
      obtain ⟨f0, f1⟩ := freeB HF2.out.res
      go_wp2_with fail
      have HRS := Lib.hid (heap_put2B HF2.out.res (.slice none 0 0) (.slice none 0 0))
      have HB := Lib.hid (below_put2 HF2.out.bel (show w.heap.size ≤ w.heap.size + 1 by omega) (.slice none 0 0) (.slice none 0 0))
      exact bodyPost_ret (results_bookR (j := 4) (k := 5) rfl _ _ (w.heap.size + 1) _ _ rfl HRS.out) rfl (book_err HR.out HB.out)
    | true =>
      have CL := Lib.hid (fun (w' : World) (hb : Below w.heap.size w w') => rlfit_is la n lc ls true hfl w' (hL.keep hb) hz2)
      by_cases h0 : n = 0
      · have HR := Lib.hid (send_arg (ls := ls) hvf (by rw [hL.1, h0]; exact fun e => absurd e.2 (by decide)))
        generalize sendB b ls = r at HR ⊢
        clear h hz hL hz2 hvf k hfl
        subst h0
        go_enter Tryz.func32, Tryz.ntmps32
        go_wp2_with fail
        refine (CF.out).mono ?_
        rintro e w1 ⟨rfl, hb⟩
        have HF1 := Lib.hid (HF.out.keep hb)
        clear hb q0 q1
        go_wp2_with fail
        refine (CL.out w1 HF1.out.bel).mono ?_
        rintro e w2 ⟨rfl, hb⟩
        have HF2 := Lib.hid (HF1.out.keep hb)
        clear hb
        obtain ⟨z0, z1⟩ := cellsB HF2.out.res
        obtain ⟨f0, f1⟩ := freeB HF2.out.res
        go_wp2_with fail
        have HRS := Lib.hid (heap_put2B HF2.out.res (.slice none 0 0) (.slice none 0 0))
        have HB := Lib.hid (below_put2 HF2.out.bel (show w.heap.size ≤ w.heap.size + 1 by omega) (.slice none 0 0) (.slice none 0 0))
        exact bodyPost_ret (results_bookR (j := 4) (k := 5) rfl _ _ (w.heap.size + 1) _ _ rfl HRS.out) rfl (book_err HR.out HB.out)
      · have hn0 : ¬ ((n : Int) = 0) := by omega
        have hn1 : ((n : Int) == 0) = false := by simpa using hn0
        have hR := send_ok (ls := ls) hvf ⟨hfl, by rw [hL.1]; omega⟩
        rw [hR]
        have HM := Lib.hid (fun (w' : World) (hb : Below w.heap.size w w') => rmoves_any a len cap a2 len2 cap2 b la n lc ls 5 w' (h.keep hb) (hL.keep hb) k.up (fun x hx => (k.each x hx).1) hfl h12)
        generalize moveR 5 ls b.sk b.hd = r at HM ⊢
        clear h hz hL hz2 hvf k hfl hR
        go_enter Tryz.func32, Tryz.ntmps32
        go_wp2_with fail
        refine (CF.out).mono ?_
        rintro e w1 ⟨rfl, hb⟩
        have HF1 := Lib.hid (HF.out.keep hb)
        clear hb q0 q1
        go_wp2_with fail
        refine (CL.out w1 HF1.out.bel).mono ?_
        rintro e w2 ⟨rfl, hb⟩
        have HF2 := Lib.hid (HF1.out.keep hb)
        clear hb
        obtain ⟨q0, q1⟩ := cellsB HF2.out.box
        go_wp2_with fail
        refine (HM.out w2 HF2.out.bel).mono ?_
        rintro e w9 ⟨a9, n9, c9, b9, m9, d9, rfl, hbk, hb9⟩
        have HF9 := Lib.hid (HF2.out.keep hb9)
        obtain ⟨z0, z1⟩ := cellsB HF9.out.res
        obtain ⟨f0, f1⟩ := freeB HF9.out.res
        have HBK := Lib.hid (bk_sameB hbk HF9.out.res (.slice a9 n9 c9) (.slice b9 m9 d9))
        clear hbk hb9 q0 q1
        go_wp2_with fail
        have HRS := Lib.hid (heap_put2B HF9.out.res (.slice a9 n9 c9) (.slice b9 m9 d9))
        have HB := Lib.hid (below_put2 HF9.out.bel (show w.heap.size ≤ w.heap.size + 1 by omega) (.slice a9 n9 c9) (.slice b9 m9 d9))
        exact bodyPost_ret (results_bookR (j := 4) (k := 5) rfl _ _ (w.heap.size + 1) _ _ rfl HRS.out) rfl ⟨a9, n9, c9, b9, m9, d9, rfl, HBK.out, HB.out⟩
set_option maxHeartbeats 8000000 in
theorem rdropb_any (a : Option Addr) (len cap : Nat) (a2 : Option Addr) (len2 cap2 : Nat) (b : Bk) (sg wh : Int) (hw : wh = 2 ∨ wh = 3) (w : World) (h : BkAt w a len a2 len2 cap2 b) (hz : SzB b) :
    Calls Tryz.prog 30 #[.agg #[.slice a len cap, .slice a2 len2 cap2], .int .i64 sg, .int .i64 wh] w (BookR w (dropB b sg wh)) := by
  have HF := Lib.hid (fr_new w (.slice a len cap) (.slice a2 len2 cap2) (.slice none 0 0) (.slice none 0 0))
  have HX := Lib.hid h
  have HZ := Lib.hid hz
  have hlen := h.sk.1
  have hln := hz.ln
  obtain ⟨vf, hvf⟩ : ∃ v, fitB b = v := ⟨_, rfl⟩
  have CF := Lib.hid (rfitb_any a len cap a2 len2 cap2 b vf hvf _ (h.keep HF.out.bel) hz)
  obtain ⟨q0, q1⟩ := cellsB HF.out.box
  cases vf with
  | false =>
    have HR := Lib.hid (drop_bad (g := sg) (w := wh) hvf)
    generalize dropB b sg wh = r at HR ⊢
    clear h hz hvf
    go_enter Tryz.func30, Tryz.ntmps30
    go_wp2_with fail
    refine (CF.out).mono ?_
    rintro e w1 ⟨rfl, hb⟩
    have HF1 := Lib.hid (HF.out.keep hb)
    clear hb q0 q1
    obtain ⟨z0, z1⟩ := cellsB HF1.out.res
    obtain ⟨f0, f1⟩ := freeB HF1.out.res
    go_wp2_with fail
    have HRS := Lib.hid (heap_put2B HF1.out.res (.slice none 0 0) (.slice none 0 0))
    have HB := Lib.hid (below_put2 HF1.out.bel (show w.heap.size ≤ w.heap.size + 1 by omega) (.slice none 0 0) (.slice none 0 0))
    exact bodyPost_ret (results_bookR (j := 6) (k := 7) rfl _ _ (w.heap.size + 1) _ _ rfl HRS.out) rfl (book_err HR.out HB.out)
  | true =>
    have k := fitB_iff.1 hvf
    have h12 : len ≤ 12 := by rw [← hlen]; exact k.len
    have HFI := Lib.hid (fun (w' : World) (hb : Below w.heap.size w w') => Holds.rfind_any a2 len2 cap2 b.hd sg w' (h.hd.keep hb))
    cases hfs : findH sg b.hd with
    | none =>
      have HR := Lib.hid (drop_none (w := wh) hvf hfs)
      rw [hfs] at HFI
      unfold Holds.FindP at HFI
      simp only [Option.getD_none, Option.isSome_none] at HFI
      generalize dropB b sg wh = r at HR ⊢
      clear h hz hvf k hfs
      go_enter Tryz.func30, Tryz.ntmps30
      go_wp2_with fail
      refine (CF.out).mono ?_
      rintro e w1 ⟨rfl, hb⟩
      have HF1 := Lib.hid (HF.out.keep hb)
      clear hb q0 q1
      obtain ⟨q0, q1⟩ := cellsB HF1.out.box
      go_wp2_with fail
      refine (HFI.out w1 HF1.out.bel).mono ?_
      rintro e w2 ⟨a4, c4, rfl, _, hb⟩
      have HF2 := Lib.hid (HF1.out.keep (Lines.below_keep hb ((Below.refl _ w2).alloc (Nat.le_refl _) (.cells #[.int .i64 hd0.saga, .slice a4 hd0.ls.length c4, .int .i64 hd0.til] 69)) hb.size))
      clear hb q0 q1
      obtain ⟨z0, z1⟩ := cellsB HF2.out.res
      obtain ⟨f0, f1⟩ := freeB HF2.out.res
      go_wp2_with fail
      have HRS := Lib.hid (heap_put2B HF2.out.res (.slice none 0 0) (.slice none 0 0))
      have HB := Lib.hid (below_put2 HF2.out.bel (show w.heap.size ≤ w.heap.size + 1 by omega) (.slice none 0 0) (.slice none 0 0))
      exact bodyPost_ret (results_bookR (j := 6) (k := 7) rfl _ _ (w.heap.size + 1) _ _ rfl HRS.out) rfl (book_err HR.out HB.out)
    | some x =>
      have hR := drop_some hw hvf hfs
      have hdk := drop_ok hw k hfs
      have hxm := (find_mem hfs).1
      have hfl : fitL x.ls = true := oneH_fit ((fitH_iff.1 k.hd).2.1 x hxm).1
      rw [moveR_eq k.up hfl, if_pos hdk] at hR
      have he : dropH b.hd sg = (less sg b.hd, 0) := by unfold dropH; rw [if_pos k.hd, hfs]; rfl
      have HDR := Lib.hid (fun (w' : World) (hb : Below w.heap.size w w') => Holds.rdropc_any a2 len2 cap2 b.hd sg w' (h.hd.keep hb) hz.hd (by rw [← h.hd.len]; exact hz.lh))
      rw [he] at HDR
      rw [hfs] at HFI
      unfold Holds.FindP at HFI
      simp only [Option.getD_some, Option.isSome_some] at HFI
      have HM := Lib.hid (fun (w' : World) a3 c3 (hb : Below w.heap.size w w') hl => rmoves_any a len cap a2 len2 cap2 b a3 x.ls.length c3 x.ls wh w' (h.keep hb) hl k.up (fun x hx => (k.each x hx).1) hfl h12)
      rw [moveR_eq k.up hfl, if_pos hdk] at HM
      rw [hR]
      generalize less sg b.hd = nl at HDR ⊢
      obtain ⟨xg, xl, xt⟩ := x
      simp only at HFI HM ⊢
      obtain ⟨xn, hxn⟩ : ∃ n, xl.length = n := ⟨_, rfl⟩
      rw [hxn] at HFI HM
      generalize mvd wh xl b.sk = sk2 at HM ⊢
      clear h hz hvf k hfs hR hxm hfl hdk he hxn
      go_enter Tryz.func30, Tryz.ntmps30
      go_wp2_with fail
      refine (CF.out).mono ?_
      rintro e w1 ⟨rfl, hb⟩
      have HF1 := Lib.hid (HF.out.keep hb)
      clear hb q0 q1
      obtain ⟨q0, q1⟩ := cellsB HF1.out.box
      go_wp2_with fail
      refine (HFI.out w1 HF1.out.bel).mono ?_
      rintro e w2 ⟨a5, c5, rfl, hl5, hb⟩
      have hba := (Below.refl w2.heap.size w2).alloc (Nat.le_refl _) (.cells #[.int .i64 xg, .slice a5 xn c5, .int .i64 xt] 69)
      have HF2 := Lib.hid (HF1.out.keep (Lines.below_keep hb hba hb.size))
      have HT2 := Lib.hid (Holds.at3_new w2 (.int .i64 xg) (.slice a5 xn c5) (.int .i64 xt))
      have HM3 := Lib.hid (HM.out _ a5 c5 HF2.out.bel (hl5.keep hba))
      clear hb hba hl5 q0 q1
      obtain ⟨q0, q1⟩ := cellsB HF2.out.box
      obtain ⟨t0, t1, t2⟩ := Holds.cells3 HT2.out
      go_wp2_with fail
      refine (HM3.out).mono ?_
      rintro e w3 ⟨a9, n9, c9, b9, m9, d9, rfl, hbk, hb⟩
      have HO3 := Lib.hid (show AtB (w3.alloc (.cells #[.slice a9 n9 c9, .slice b9 m9 d9] 25)) w3.heap.size (.slice a9 n9 c9) (.slice b9 m9 d9) from heap_alloc_new w3 _)
      have hbo := (Below.refl w3.heap.size w3).alloc (Nat.le_refl _) (.cells #[.slice a9 n9 c9, .slice b9 m9 d9] 25)
      have HF3 := Lib.hid (HF2.out.keep (Lines.below_keep hb hbo hb.size))
      have HS3 := Lib.hid (hbk.keep hbo).sk
      clear hb hbk hbo q0 q1 t0 t1 t2
      obtain ⟨q0, q1⟩ := cellsB HF3.out.box
      go_wp2_with fail
      refine (HDR.out _ HF3.out.bel).mono ?_
      rintro e w4 ⟨a4, c4, rfl, hr4, hh4, hb⟩
      have HF4 := Lib.hid (HF3.out.keep hb)
      have HO4 := Lib.hid (atB_keep HO3.out hb)
      have hbk : BkAt w4 a9 n9 a4 nl.length c4 ⟨sk2, nl⟩ := ⟨HS3.out.keep hb, hh4, hr4⟩
      have HBK := Lib.hid (bk_sameB hbk HF4.out.res (.slice a9 n9 c9) (.slice a4 nl.length c4))
      obtain ⟨z0, z1⟩ := cellsB HF4.out.res
      obtain ⟨f0, f1⟩ := freeB HF4.out.res
      obtain ⟨u0, u1⟩ := cellsB HO4.out
      clear hb hr4 hh4 hbk q0 q1
      go_wp2_with fail
      have HRS := Lib.hid (heap_put2B HF4.out.res (.slice a9 n9 c9) (.slice a4 nl.length c4))
      have HB := Lib.hid (below_put2 HF4.out.bel (show w.heap.size ≤ w.heap.size + 1 by omega) (.slice a9 n9 c9) (.slice a4 nl.length c4))
      exact bodyPost_ret (results_bookR (j := 6) (k := 7) rfl _ _ (w.heap.size + 1) _ _ rfl HRS.out) rfl ⟨a9, n9, c9, a4, nl.length, c4, rfl, HBK.out, HB.out⟩
end Go.Proofs.YtjclkiabgemfpaaGreat.Ledger

/-
  The contracts of the document's held, Hold and Unkeep; what was there stays as it was.
-/
set_option linter.unusedVariables false
set_option linter.unusedSimpArgs false
set_option maxRecDepth 4000
namespace Go.Proofs.YtjclkiabgemfpaaGreat.Ledger
open Go.RowKit LinesP HoldsP LedgerP
open StockP (Sk sk0 fitS Fit fitS_iff fromV turnV moveV turn_fit restockV adjustV nmS)
open Go.Proofs.YtjclkiabgemfpaaGreat.Lines (LsAt Sz SzM ret_bool ret_int below_keep below_drewN below_append owns_form owns_cell owns_below)
open Go.Proofs.YtjclkiabgemfpaaGreat.Holds (HsAt SzH SzMH hmf eqH MadeP)

set_option maxHeartbeats 8000000 in
theorem rheldb_any (a : Option Addr) (len cap : Nat) (a2 : Option Addr) (len2 cap2 : Nat) (b : Bk) (sg t : Int) (la : Option Addr) (n lc : Nat) (ls : List Ln) (wh : Int) (w : World) (h : BkAt w a len a2 len2 cap2 b) (hz : SzB b) (hL : LsAt w la n ls) (hz2 : Sz ls) :
    Calls Tryz.prog 66 #[.agg #[.slice a len cap, .slice a2 len2 cap2], .int .i64 sg, .slice la n lc, .int .i64 t, .int .i64 wh] w (BookR w (heldB b sg ls t wh)) := by
  have HF := Lib.hid (fr_new w (.slice a len cap) (.slice a2 len2 cap2) (.slice none 0 0) (.slice none 0 0))
  have HX := Lib.hid h
  have HZ := Lib.hid hz
  have hlen := h.sk.1
  have hln := hz.ln
  obtain ⟨vf, hvf⟩ : ∃ v, fitB b = v := ⟨_, rfl⟩
  have CF := Lib.hid (rfitb_any a len cap a2 len2 cap2 b vf hvf _ (h.keep HF.out.bel) hz)
  obtain ⟨q0, q1⟩ := cellsB HF.out.box
  cases vf with
  | false =>
    have HR := Lib.hid (held_bad (g := sg) (ls := ls) (t := t) (w := wh) hvf)
    generalize heldB b sg ls t wh = r at HR ⊢
    clear h hz hL hz2 hvf
    go_enter Tryz.func66, Tryz.ntmps66
    go_wp2_with fail
    refine (CF.out).mono ?_
    rintro e w1 ⟨rfl, hb⟩
    have HF1 := Lib.hid (HF.out.keep hb)
    clear hb q0 q1
    obtain ⟨z0, z1⟩ := cellsB HF1.out.res
    obtain ⟨f0, f1⟩ := freeB HF1.out.res
    go_wp2_with fail
    have HRS := Lib.hid (heap_put2B HF1.out.res (.slice none 0 0) (.slice none 0 0))
    have HB := Lib.hid (below_put2 HF1.out.bel (show w.heap.size ≤ w.heap.size + 1 by omega) (.slice none 0 0) (.slice none 0 0))
    exact bodyPost_ret (results_bookR (j := 10) (k := 11) rfl _ _ (w.heap.size + 1) _ _ rfl HRS.out) rfl (book_err HR.out HB.out)
  | true =>
    have k := fitB_iff.1 hvf
    have h12 : len ≤ 12 := by rw [← hlen]; exact k.len
    have HPUT := Lib.hid (fun (w' : World) (hb : Below w.heap.size w w') => Holds.rputc_any a2 len2 cap2 b.hd sg t la n lc ls w' (h.hd.keep hb) h.room (hL.keep hb) hz.hd hz2)
    rcases put_cases b.hd ⟨sg, ls, t⟩ with ⟨er, he, hne⟩ | ⟨he, _, hone, _, _⟩
    · have HR := Lib.hid (held_err (w := wh) hvf he hne)
      rw [he] at HPUT
      generalize heldB b sg ls t wh = r at HR ⊢
      have hne2 : (er != 0) = true := by simpa using hne
      clear h hz hL hz2 k he hne hvf
      go_enter Tryz.func66, Tryz.ntmps66
      go_wp2_with fail
      refine (CF.out).mono ?_
      rintro e w1 ⟨rfl, hb⟩
      have HF1 := Lib.hid (HF.out.keep hb)
      clear hb q0 q1
      obtain ⟨q0, q1⟩ := cellsB HF1.out.box
      go_wp2_with fail
      refine (HPUT.out w1 HF1.out.bel).mono ?_
      rintro e w2 ⟨a4, c4, rfl, _, _, hb⟩
      have HF2 := Lib.hid (HF1.out.keep hb)
      clear hb q0 q1
      obtain ⟨z0, z1⟩ := cellsB HF2.out.res
      obtain ⟨f0, f1⟩ := freeB HF2.out.res
      go_wp2_with fail
      have HRS := Lib.hid (heap_put2B HF2.out.res (.slice none 0 0) (.slice none 0 0))
      have HB := Lib.hid (below_put2 HF2.out.bel (show w.heap.size ≤ w.heap.size + 1 by omega) (.slice none 0 0) (.slice none 0 0))
      exact bodyPost_ret (results_bookR (j := 10) (k := 11) rfl _ _ (w.heap.size + 1) _ _ rfl HRS.out) rfl (book_err HR.out HB.out)
    · have hfl : fitL ls = true := oneH_fit hone
      have hR := held_ok (w := wh) hvf hfl he
      rw [he] at HPUT
      have HM := Lib.hid (fun (w' : World) (hb : Below w.heap.size w w') => rmoves_any a len cap a2 len2 cap2 b la n lc ls wh w' (h.keep hb) (hL.keep hb) k.up (fun x hx => (k.each x hx).1) hfl h12)
      rw [moveR_eq k.up hfl] at HM hR
      rw [hR]
      generalize putL b.hd ⟨sg, ls, t⟩ = nl at HPUT ⊢
      by_cases hok : okM wh ls b.sk = true
      · rw [if_pos hok] at HM ⊢
        generalize mvd wh ls b.sk = sk2 at HM ⊢
        clear h hz hL hz2 k he hone hfl hR hok hvf
        go_enter Tryz.func66, Tryz.ntmps66
        go_wp2_with fail
        refine (CF.out).mono ?_
        rintro e w1 ⟨rfl, hb⟩
        have HF1 := Lib.hid (HF.out.keep hb)
        clear hb q0 q1
        obtain ⟨q0, q1⟩ := cellsB HF1.out.box
        go_wp2_with fail
        refine (HPUT.out w1 HF1.out.bel).mono ?_
        rintro e w2 ⟨a4, c4, rfl, hr4, hh4, hb⟩
        have HF2 := Lib.hid (HF1.out.keep hb)
        have HH2 := Lib.hid hh4
        have HR2 := Lib.hid hr4
        clear hb q0 q1 hh4 hr4
        obtain ⟨q0, q1⟩ := cellsB HF2.out.box
        go_wp2_with fail
        refine (HM.out w2 HF2.out.bel).mono ?_
        rintro e w3 ⟨a9, n9, c9, b9, m9, d9, rfl, hbk, hb⟩
        have HO3 := Lib.hid (show AtB (w3.alloc (.cells #[.slice a9 n9 c9, .slice b9 m9 d9] 25)) w3.heap.size (.slice a9 n9 c9) (.slice b9 m9 d9) from heap_alloc_new w3 _)
        have hbo := (Below.refl w3.heap.size w3).alloc (Nat.le_refl _) (.cells #[.slice a9 n9 c9, .slice b9 m9 d9] 25)
        have hb2 := Lines.below_keep hb hbo hb.size
        have HF3 := Lib.hid (HF2.out.keep hb2)
        have hbk2 : BkAt (w3.alloc (.cells #[.slice a9 n9 c9, .slice b9 m9 d9] 25)) a9 n9 a4 nl.length c4 ⟨sk2, nl⟩ := ⟨(hbk.keep hbo).sk, HH2.out.keep hb2, HR2.out⟩
        have HBK := Lib.hid (bk_sameB hbk2 HF3.out.res (.slice a9 n9 c9) (.slice a4 nl.length c4))
        obtain ⟨z0, z1⟩ := cellsB HF3.out.res
        obtain ⟨f0, f1⟩ := freeB HF3.out.res
        obtain ⟨u0, u1⟩ := cellsB HO3.out
        clear hb hbk hbo hb2 hbk2 q0 q1
        go_wp2_with fail
        have HRS := Lib.hid (heap_put2B HF3.out.res (.slice a9 n9 c9) (.slice a4 nl.length c4))
        have HB := Lib.hid (below_put2 HF3.out.bel (show w.heap.size ≤ w.heap.size + 1 by omega) (.slice a9 n9 c9) (.slice a4 nl.length c4))
        exact bodyPost_ret (results_bookR (j := 10) (k := 11) rfl _ _ (w.heap.size + 1) _ _ rfl HRS.out) rfl ⟨a9, n9, c9, a4, nl.length, c4, rfl, HBK.out, HB.out⟩
      · rw [if_neg hok] at HM ⊢
        obtain ⟨r, hr⟩ : ∃ r : Bk × Int, (bk0, (6 : Int)) = r := ⟨_, rfl⟩
        have HR := Lib.hid hr.symm
        rw [show BookR w (bk0, 6) = BookR w r by rw [hr]]
        clear h hz hL hz2 k he hone hfl hR hok hvf hr
        go_enter Tryz.func66, Tryz.ntmps66
        go_wp2_with fail
        refine (CF.out).mono ?_
        rintro e w1 ⟨rfl, hb⟩
        have HF1 := Lib.hid (HF.out.keep hb)
        clear hb q0 q1
        obtain ⟨q0, q1⟩ := cellsB HF1.out.box
        go_wp2_with fail
        refine (HPUT.out w1 HF1.out.bel).mono ?_
        rintro e w2 ⟨a4, c4, rfl, _, _, hb⟩
        have HF2 := Lib.hid (HF1.out.keep hb)
        clear hb q0 q1
        obtain ⟨q0, q1⟩ := cellsB HF2.out.box
        go_wp2_with fail
        refine (HM.out w2 HF2.out.bel).mono ?_
        rintro e w3 ⟨a9, n9, c9, b9, m9, d9, rfl, hbk, hb⟩
        have HF3 := Lib.hid (HF2.out.keep (Lines.below_keep hb ((Below.refl w3.heap.size w3).alloc (Nat.le_refl _) (.cells #[.slice a9 n9 c9, .slice b9 m9 d9] 25)) hb.size))
        clear hb hbk q0 q1
        obtain ⟨z0, z1⟩ := cellsB HF3.out.res
        obtain ⟨f0, f1⟩ := freeB HF3.out.res
        go_wp2_with fail
        have HRS := Lib.hid (heap_put2B HF3.out.res (.slice none 0 0) (.slice none 0 0))
        have HB := Lib.hid (below_put2 HF3.out.bel (show w.heap.size ≤ w.heap.size + 1 by omega) (.slice none 0 0) (.slice none 0 0))
        exact bodyPost_ret (results_bookR (j := 10) (k := 11) rfl _ _ (w.heap.size + 1) _ _ rfl HRS.out) rfl (book_err HR.out HB.out)
set_option maxHeartbeats 2000000 in
theorem rholdb_any (a : Option Addr) (len cap : Nat) (a2 : Option Addr) (len2 cap2 : Nat) (b : Bk) (sg t : Int) (la : Option Addr) (n lc : Nat) (ls : List Ln) (w : World) (h : BkAt w a len a2 len2 cap2 b) (hz : SzB b) (hL : LsAt w la n ls) (hz2 : Sz ls) :
    Calls Tryz.prog 29 #[.agg #[.slice a len cap, .slice a2 len2 cap2], .int .i64 sg, .slice la n lc, .int .i64 t] w (BookR w (heldB b sg ls t 1)) := by
  have HF := Lib.hid (fr_new w (.slice a len cap) (.slice a2 len2 cap2) (.slice none 0 0) (.slice none 0 0))
  have C := Lib.hid (fun (w' : World) (hb : Below w.heap.size w w') => rheldb_any a len cap a2 len2 cap2 b sg t la n lc ls 1 w' (h.keep hb) hz (hL.keep hb) hz2)
  generalize heldB b sg ls t 1 = r at C ⊢
  obtain ⟨q0, q1⟩ := cellsB HF.out.box
  clear h hz hL hz2
  go_enter Tryz.func29, Tryz.ntmps29
  go_wp2_with fail
  refine (C.out _ HF.out.bel).mono ?_
  rintro e w9 ⟨a9, n9, c9, b9, m9, d9, rfl, hbk, hb9⟩
  have HF9 := Lib.hid (HF.out.keep hb9)
  obtain ⟨z0, z1⟩ := cellsB HF9.out.res
  obtain ⟨f0, f1⟩ := freeB HF9.out.res
  have HBK := Lib.hid (bk_sameB hbk HF9.out.res (.slice a9 n9 c9) (.slice b9 m9 d9))
  clear hbk hb9 q0 q1
  go_wp2_with fail
  have HRS := Lib.hid (heap_put2B HF9.out.res (.slice a9 n9 c9) (.slice b9 m9 d9))
  have HB := Lib.hid (below_put2 HF9.out.bel (show w.heap.size ≤ w.heap.size + 1 by omega) (.slice a9 n9 c9) (.slice b9 m9 d9))
  exact bodyPost_ret (results_bookR (j := 8) (k := 9) rfl _ _ (w.heap.size + 1) _ _ rfl HRS.out) rfl ⟨a9, n9, c9, b9, m9, d9, rfl, HBK.out, HB.out⟩
set_option maxHeartbeats 2000000 in
theorem runkeepb_any (a : Option Addr) (len cap : Nat) (a2 : Option Addr) (len2 cap2 : Nat) (b : Bk) (sg t : Int) (la : Option Addr) (n lc : Nat) (ls : List Ln) (w : World) (h : BkAt w a len a2 len2 cap2 b) (hz : SzB b) (hL : LsAt w la n ls) (hz2 : Sz ls) :
    Calls Tryz.prog 31 #[.agg #[.slice a len cap, .slice a2 len2 cap2], .int .i64 sg, .slice la n lc, .int .i64 t] w (BookR w (heldB b sg ls t 4)) := by
  have HF := Lib.hid (fr_new w (.slice a len cap) (.slice a2 len2 cap2) (.slice none 0 0) (.slice none 0 0))
  have C := Lib.hid (fun (w' : World) (hb : Below w.heap.size w w') => rheldb_any a len cap a2 len2 cap2 b sg t la n lc ls 4 w' (h.keep hb) hz (hL.keep hb) hz2)
  generalize heldB b sg ls t 4 = r at C ⊢
  obtain ⟨q0, q1⟩ := cellsB HF.out.box
  clear h hz hL hz2
  go_enter Tryz.func31, Tryz.ntmps31
  go_wp2_with fail
  refine (C.out _ HF.out.bel).mono ?_
  rintro e w9 ⟨a9, n9, c9, b9, m9, d9, rfl, hbk, hb9⟩
  have HF9 := Lib.hid (HF.out.keep hb9)
  obtain ⟨z0, z1⟩ := cellsB HF9.out.res
  obtain ⟨f0, f1⟩ := freeB HF9.out.res
  have HBK := Lib.hid (bk_sameB hbk HF9.out.res (.slice a9 n9 c9) (.slice b9 m9 d9))
  clear hbk hb9 q0 q1
  go_wp2_with fail
  have HRS := Lib.hid (heap_put2B HF9.out.res (.slice a9 n9 c9) (.slice b9 m9 d9))
  have HB := Lib.hid (below_put2 HF9.out.bel (show w.heap.size ≤ w.heap.size + 1 by omega) (.slice a9 n9 c9) (.slice b9 m9 d9))
  exact bodyPost_ret (results_bookR (j := 8) (k := 9) rfl _ _ (w.heap.size + 1) _ _ rfl HRS.out) rfl ⟨a9, n9, c9, b9, m9, d9, rfl, HBK.out, HB.out⟩
end Go.Proofs.YtjclkiabgemfpaaGreat.Ledger

/-
  The contracts of the document's Restock; what was there stays as it was.
-/
set_option linter.unusedVariables false
set_option linter.unusedSimpArgs false
set_option maxRecDepth 4000
namespace Go.Proofs.YtjclkiabgemfpaaGreat.Ledger
open Go.RowKit LinesP HoldsP LedgerP
open StockP (Sk sk0 fitS Fit fitS_iff fromV turnV moveV turn_fit restockV adjustV nmS)
open Go.Proofs.YtjclkiabgemfpaaGreat.Lines (LsAt Sz SzM ret_bool ret_int below_keep below_drewN below_append owns_form owns_cell owns_below)
open Go.Proofs.YtjclkiabgemfpaaGreat.Holds (HsAt SzH SzMH hmf eqH MadeP)

set_option maxHeartbeats 8000000 in
theorem rrestockb_any (a : Option Addr) (len cap : Nat) (a2 : Option Addr) (len2 cap2 : Nat) (b : Bk) (s : ByteArray) (n : Int) (w : World) (h : BkAt w a len a2 len2 cap2 b) (hz : SzB b) (hs : s.size ≤ 300) :
    Calls Tryz.prog 27 #[.agg #[.slice a len cap, .slice a2 len2 cap2], .string s, .int .i64 n] w (BookR w (restockB b s n)) := by
  obtain ⟨r, hr⟩ : ∃ r, restockB b s n = r := ⟨_, rfl⟩
  rw [hr]
  have HR := Lib.hid hr
  have HF := Lib.hid (fr_new w (.slice a len cap) (.slice a2 len2 cap2) (.slice none 0 0) (.slice none 0 0))
  have HX := Lib.hid h
  have HZ := Lib.hid hz
  have hlen := h.sk.1
  have hln := hz.ln
  obtain ⟨vf, hvf⟩ : ∃ v, fitB b = v := ⟨_, rfl⟩
  have CF := Lib.hid (rfitb_any a len cap a2 len2 cap2 b vf hvf _ (h.keep HF.out.bel) hz)
  obtain ⟨q0, q1⟩ := cellsB HF.out.box
  cases vf with
  | false =>
    have HE : Hid (r = (bk0, 12)) := by rw [← HR.out]; show restockB b s n = _; unfold restockB; rw [if_neg (by rw [hvf]; decide)]
    clear h hz hr hvf
    go_enter Tryz.func27, Tryz.ntmps27
    go_wp2_with fail
    refine (CF.out).mono ?_
    rintro e w1 ⟨rfl, hb⟩
    have HF1 := Lib.hid (HF.out.keep hb)
    clear hb q0 q1
    obtain ⟨z0, z1⟩ := cellsB HF1.out.res
    obtain ⟨f0, f1⟩ := freeB HF1.out.res
    go_wp2_with fail
    have HRS := Lib.hid (heap_put2B HF1.out.res (.slice none 0 0) (.slice none 0 0))
    have HB := Lib.hid (below_put2 HF1.out.bel (show w.heap.size ≤ w.heap.size + 1 by omega) (.slice none 0 0) (.slice none 0 0))
    exact bodyPost_ret (results_bookR (j := 6) (k := 7) rfl _ _ (w.heap.size + 1) _ _ rfl HRS.out) rfl (book_err HE.out HB.out)
  | true =>
    have HK := Lib.hid (fitB_iff.1 hvf)
    have h12 : len ≤ 12 := by rw [← hlen]; exact HK.out.len
    cases hnm : nmS s with
    | false =>
      have HE : Hid (r = (bk0, 7)) := by rw [← HR.out]; show restockB b s n = _; unfold restockB; rw [if_pos hvf, if_neg (by rw [hnm]; decide)]
      have HN := Lib.hid (fun w => nrfit_is s false w (by omega) hnm)
      clear h hz hr hvf hnm
      go_enter Tryz.func27, Tryz.ntmps27
      go_wp2_with fail
      refine (CF.out).mono ?_
      rintro e w1 ⟨rfl, hb⟩
      have HF1 := Lib.hid (HF.out.keep hb)
      clear hb q0 q1
      go_wp2_with fail
      refine (HN.out _).mono ?_
      rintro e w5 ⟨rfl, hb⟩
      have HF5 := Lib.hid (HF1.out.keep hb)
      clear hb
      obtain ⟨z0, z1⟩ := cellsB HF5.out.res
      obtain ⟨f0, f1⟩ := freeB HF5.out.res
      go_wp2_with fail
      have HRS := Lib.hid (heap_put2B HF5.out.res (.slice none 0 0) (.slice none 0 0))
      have HB := Lib.hid (below_put2 HF5.out.bel (show w.heap.size ≤ w.heap.size + 1 by omega) (.slice none 0 0) (.slice none 0 0))
      exact bodyPost_ret (results_bookR (j := 6) (k := 7) rfl _ _ (w.heap.size + 1) _ _ rfl HRS.out) rfl (book_err HE.out HB.out)
    | true =>
      have HN := Lib.hid (fun w => nrfit_is s true w (by omega) hnm)
      cases hq : findS s b.sk with
      | none =>
        have CQ : Hid (∀ w', Below w.heap.size w w' → Calls Tryz.prog 12 #[.agg #[.slice a len cap, .slice a2 len2 cap2], .string s] w' fun e w'' => e = .returned (.tuple #[.agg #[.string ⟨#[]⟩, .int .i64 0, .int .i64 0, .int .i64 0, .int .i64 0, .int .i64 0], .bool false]) ∧ Below w'.heap.size w' w'') :=
          fun w' hb => rfind_any a len cap a2 len2 cap2 b s none hq w' (HX.out.sk.keep hb)
        by_cases hl : len = 12
        · have HE : Hid (r = (bk0, 4)) := by rw [← HR.out]; show restockB b s n = _; unfold restockB; rw [if_pos hvf, if_pos hnm, hq]; show (if b.sk.length = 12 then _ else _) = _; rw [if_pos (by omega)]
          clear h hz hr hvf hnm hq h12 hln hlen
          subst hl
          go_enter Tryz.func27, Tryz.ntmps27
          go_wp2_with fail
          refine (CF.out).mono ?_
          rintro e w1 ⟨rfl, hb⟩
          have HF1 := Lib.hid (HF.out.keep hb)
          clear hb q0 q1
          go_wp2_with fail
          refine (HN.out _).mono ?_
          rintro e w5 ⟨rfl, hb⟩
          have HF5 := Lib.hid (HF1.out.keep hb)
          clear hb
          obtain ⟨q0, q1⟩ := cellsB HF5.out.box
          go_wp2_with fail
          refine (CQ.out w5 HF5.out.bel).mono ?_
          rintro e w2 ⟨rfl, hb⟩
          have HF2 := Lib.hid (HF5.out.keep (Lines.below_keep hb ((Below.refl _ w2).alloc (Nat.le_refl _) (.cells #[.string ⟨#[]⟩, .int .i64 0, .int .i64 0, .int .i64 0, .int .i64 0, .int .i64 0] 41)) hb.size))
          clear hb q0 q1
          obtain ⟨q0, q1⟩ := cellsB HF2.out.box
          obtain ⟨z0, z1⟩ := cellsB HF2.out.res
          obtain ⟨f0, f1⟩ := freeB HF2.out.res
          go_wp2_with fail
          have HRS := Lib.hid (heap_put2B HF2.out.res (.slice none 0 0) (.slice none 0 0))
          have HB := Lib.hid (below_put2 HF2.out.bel (show w.heap.size ≤ w.heap.size + 1 by omega) (.slice none 0 0) (.slice none 0 0))
          exact bodyPost_ret (results_bookR (j := 6) (k := 7) rfl _ _ (w.heap.size + 1) _ _ rfl HRS.out) rfl (book_err HE.out HB.out)
        · have hl2 : ((len : Int) == 12) = false := by simp; omega
          obtain ⟨⟨y, er⟩, hv⟩ : ∃ q, restockV ⟨s, 0, 0, 0, 0, 0⟩ n = q := ⟨_, rfl⟩
          have HR1 : Hid (r = putIn b (y, er)) := by rw [← hv, ← HR.out]; show restockB b s n = _; unfold restockB; rw [if_pos hvf, if_pos hnm, hq]; show (if b.sk.length = 12 then _ else _) = _; rw [if_neg (by omega)]
          have CA := Lib.hid (fun w' => rrestock_is ⟨s, 0, 0, 0, 0, 0⟩ n y er w' (by show s.size ≤ _; omega) hv)
          obtain ⟨yn, y0, y1, y2, y3, y4⟩ := y
          have CW := Lib.hid (fun w' (hb : Below w.heap.size w w') => with_bk a len cap a2 len2 cap2 b yn y0 y1 y2 y3 y4 w' (HX.out.keep hb) (by omega) HK.out.up)
          simp only at CA
          clear h hz hr hvf hnm hq hv hl
          go_enter Tryz.func27, Tryz.ntmps27
          go_wp2_with fail
          refine (CF.out).mono ?_
          rintro e w1 ⟨rfl, hb⟩
          have HF1 := Lib.hid (HF.out.keep hb)
          clear hb q0 q1
          go_wp2_with fail
          refine (HN.out _).mono ?_
          rintro e w5 ⟨rfl, hb⟩
          have HF5 := Lib.hid (HF1.out.keep hb)
          clear hb
          obtain ⟨q0, q1⟩ := cellsB HF5.out.box
          go_wp2_with fail
          refine (CQ.out w5 HF5.out.bel).mono ?_
          rintro e w2 ⟨rfl, hb⟩
          have hX := at6_new w2 (.string ⟨#[]⟩) (.int .i64 0) (.int .i64 0) (.int .i64 0) (.int .i64 0) (.int .i64 0)
          have HF2a := Lib.hid (HF5.out.keep (Lines.below_keep hb ((Below.refl _ w2).alloc (Nat.le_refl _) (.cells #[.string ⟨#[]⟩, .int .i64 0, .int .i64 0, .int .i64 0, .int .i64 0, .int .i64 0] 41)) hb.size))
          have HF2 := Lib.hid (HF5.out.keep (Lines.below_keep hb ((Below.refl _ w2).alloc (Nat.le_refl _) (.cells #[.string s, .int .i64 0, .int .i64 0, .int .i64 0, .int .i64 0, .int .i64 0] 41)) hb.size))
          obtain ⟨z0, z1, z2, z3, z4, z5⟩ := cells6 hX
          obtain ⟨f0, f1, f2, f3, f4, f5⟩ := free6 hX
          obtain ⟨c0, c1, c2', c3, c4, c5⟩ := cells6 (at6_new w2 (.string s) (.int .i64 0) (.int .i64 0) (.int .i64 0) (.int .i64 0) (.int .i64 0))
          clear hb q0 q1 hX
          obtain ⟨q0, q1⟩ := cellsB HF2a.out.box
          go_wp2_with fail
          clear q0 q1 z0 z1 z2 z3 z4 z5 f0 f1 f2 f3 f4 f5 c0 c1 c2' c3 c4 c5 HF2a
          refine (CA.out _).mono ?_
          rintro e w3 ⟨rfl, hb⟩
          have HF3 := Lib.hid (HF2.out.keep (Lines.below_keep hb ((Below.refl _ w3).alloc (Nat.le_refl _) (.cells #[.string yn, .int .i64 y0, .int .i64 y1, .int .i64 y2, .int .i64 y3, .int .i64 y4] 41)) hb.size))
          have hY := at6_new w3 (.string yn) (.int .i64 y0) (.int .i64 y1) (.int .i64 y2) (.int .i64 y3) (.int .i64 y4)
          obtain ⟨e0, e1, e2, e3, e4, e5⟩ := cells6 hY
          clear hb hY
          by_cases her : er = 0
          · subst her
            have HE : Hid (r = (⟨insS ⟨yn, y0, y1, y2, y3, y4⟩ b.sk, b.hd⟩, 0)) := by
              show r = _
              rw [HR1.out]; unfold putIn; rw [if_pos rfl]
            obtain ⟨q0, q1⟩ := cellsB HF3.out.box
            go_wp2_with fail
            refine (CW.out _ HF3.out.bel).mono ?_
            rintro e w9 ⟨a9, n9, c9, rfl, hbk, hb⟩
            have HF9 := Lib.hid (HF3.out.keep hb)
            obtain ⟨z0, z1⟩ := cellsB HF9.out.res
            obtain ⟨f0, f1⟩ := freeB HF9.out.res
            have HBK := Lib.hid (bk_sameB hbk HF9.out.res (.slice a9 n9 c9) (.slice a2 len2 cap2))
            clear hbk hb q0 q1 e0 e1 e2 e3 e4 e5
            go_wp2_with fail
            have HRS := Lib.hid (heap_put2B HF9.out.res (.slice a9 n9 c9) (.slice a2 len2 cap2))
            have HB := Lib.hid (below_put2 HF9.out.bel (show w.heap.size ≤ w.heap.size + 1 by omega) (.slice a9 n9 c9) (.slice a2 len2 cap2))
            exact bodyPost_ret (results_bookR (j := 6) (k := 7) rfl _ _ (w.heap.size + 1) _ _ rfl HRS.out) rfl (book_ok HE.out HBK.out HB.out)
          · have HE : Hid (r = (bk0, er)) := by
              show r = _
              rw [HR1.out]; unfold putIn; rw [if_neg her]
            clear e0 e1 e2 e3 e4 e5
            obtain ⟨z0, z1⟩ := cellsB HF3.out.res
            obtain ⟨f0, f1⟩ := freeB HF3.out.res
            go_wp2_with fail
            have HRS := Lib.hid (heap_put2B HF3.out.res (.slice none 0 0) (.slice none 0 0))
            have HB := Lib.hid (below_put2 HF3.out.bel (show w.heap.size ≤ w.heap.size + 1 by omega) (.slice none 0 0) (.slice none 0 0))
            exact bodyPost_ret (results_bookR (j := 6) (k := 7) rfl _ _ (w.heap.size + 1) _ _ rfl HRS.out) rfl (book_err HE.out HB.out)
      | some x =>
        obtain ⟨hxm, hxn⟩ := findS_mem hq
        have hs300 := HZ.out.sk x hxm
        obtain ⟨⟨y, er⟩, hv⟩ : ∃ q, restockV x n = q := ⟨_, rfl⟩
        have HR1 : Hid (r = putIn b (y, er)) := by rw [← hv, ← HR.out]; show restockB b s n = _; unfold restockB; rw [if_pos hvf, if_pos hnm, hq]
        have CA := Lib.hid (fun w' => rrestock_is x n y er w' (by omega) hv)
        obtain ⟨xn, x0, x1, x2, x3, x4⟩ := x
        obtain ⟨yn, y0, y1, y2, y3, y4⟩ := y
        have CQ : Hid (∀ w', Below w.heap.size w w' → Calls Tryz.prog 12 #[.agg #[.slice a len cap, .slice a2 len2 cap2], .string s] w' fun e w'' => e = .returned (.tuple #[.agg #[.string xn, .int .i64 x0, .int .i64 x1, .int .i64 x2, .int .i64 x3, .int .i64 x4], .bool true]) ∧ Below w'.heap.size w' w'') :=
          fun w' hb => rfind_any a len cap a2 len2 cap2 b s _ hq w' (HX.out.sk.keep hb)
        have CW := Lib.hid (fun w' (hb : Below w.heap.size w w') => with_bk a len cap a2 len2 cap2 b yn y0 y1 y2 y3 y4 w' (HX.out.keep hb) (by omega) HK.out.up)
        simp only at CA
        clear h hz hr hvf hnm hq hxm hxn hv
        go_enter Tryz.func27, Tryz.ntmps27
        go_wp2_with fail
        refine (CF.out).mono ?_
        rintro e w1 ⟨rfl, hb⟩
        have HF1 := Lib.hid (HF.out.keep hb)
        clear hb q0 q1
        go_wp2_with fail
        refine (HN.out _).mono ?_
        rintro e w5 ⟨rfl, hb⟩
        have HF5 := Lib.hid (HF1.out.keep hb)
        clear hb
        obtain ⟨q0, q1⟩ := cellsB HF5.out.box
        go_wp2_with fail
        refine (CQ.out w5 HF5.out.bel).mono ?_
        rintro e w2 ⟨rfl, hb⟩
        have HF2 := Lib.hid (HF5.out.keep (Lines.below_keep hb ((Below.refl _ w2).alloc (Nat.le_refl _) (.cells #[.string xn, .int .i64 x0, .int .i64 x1, .int .i64 x2, .int .i64 x3, .int .i64 x4] 41)) hb.size))
        obtain ⟨c0, c1, c2', c3, c4, c5⟩ := cells6 (at6_new w2 (.string xn) (.int .i64 x0) (.int .i64 x1) (.int .i64 x2) (.int .i64 x3) (.int .i64 x4))
        clear hb q0 q1
        go_wp2_with fail
        refine (CA.out _).mono ?_
        rintro e w3 ⟨rfl, hb⟩
        have HF3 := Lib.hid (HF2.out.keep (Lines.below_keep hb ((Below.refl _ w3).alloc (Nat.le_refl _) (.cells #[.string yn, .int .i64 y0, .int .i64 y1, .int .i64 y2, .int .i64 y3, .int .i64 y4] 41)) hb.size))
        have hY := at6_new w3 (.string yn) (.int .i64 y0) (.int .i64 y1) (.int .i64 y2) (.int .i64 y3) (.int .i64 y4)
        obtain ⟨e0, e1, e2, e3, e4, e5⟩ := cells6 hY
        clear hb c0 c1 c2' c3 c4 c5 hY
        by_cases her : er = 0
        · subst her
          have HE : Hid (r = (⟨insS ⟨yn, y0, y1, y2, y3, y4⟩ b.sk, b.hd⟩, 0)) := by
            show r = _
            rw [HR1.out]; unfold putIn; rw [if_pos rfl]
          obtain ⟨q0, q1⟩ := cellsB HF3.out.box
          go_wp2_with fail
          refine (CW.out _ HF3.out.bel).mono ?_
          rintro e w9 ⟨a9, n9, c9, rfl, hbk, hb⟩
          have HF9 := Lib.hid (HF3.out.keep hb)
          obtain ⟨z0, z1⟩ := cellsB HF9.out.res
          obtain ⟨f0, f1⟩ := freeB HF9.out.res
          have HBK := Lib.hid (bk_sameB hbk HF9.out.res (.slice a9 n9 c9) (.slice a2 len2 cap2))
          clear hbk hb q0 q1 e0 e1 e2 e3 e4 e5
          go_wp2_with fail
          have HRS := Lib.hid (heap_put2B HF9.out.res (.slice a9 n9 c9) (.slice a2 len2 cap2))
          have HB := Lib.hid (below_put2 HF9.out.bel (show w.heap.size ≤ w.heap.size + 1 by omega) (.slice a9 n9 c9) (.slice a2 len2 cap2))
          exact bodyPost_ret (results_bookR (j := 6) (k := 7) rfl _ _ (w.heap.size + 1) _ _ rfl HRS.out) rfl (book_ok HE.out HBK.out HB.out)
        · have HE : Hid (r = (bk0, er)) := by
            show r = _
            rw [HR1.out]; unfold putIn; rw [if_neg her]
          clear e0 e1 e2 e3 e4 e5
          obtain ⟨z0, z1⟩ := cellsB HF3.out.res
          obtain ⟨f0, f1⟩ := freeB HF3.out.res
          go_wp2_with fail
          have HRS := Lib.hid (heap_put2B HF3.out.res (.slice none 0 0) (.slice none 0 0))
          have HB := Lib.hid (below_put2 HF3.out.bel (show w.heap.size ≤ w.heap.size + 1 by omega) (.slice none 0 0) (.slice none 0 0))
          exact bodyPost_ret (results_bookR (j := 6) (k := 7) rfl _ _ (w.heap.size + 1) _ _ rfl HRS.out) rfl (book_err HE.out HB.out)
end Go.Proofs.YtjclkiabgemfpaaGreat.Ledger

/-
  The contracts of the document's Do and of the law's same; what was there stays as it was.
-/
set_option linter.unusedVariables false
set_option linter.unusedSimpArgs false
set_option maxRecDepth 4000
namespace Go.Proofs.YtjclkiabgemfpaaGreat.Ledger
open Go.RowKit LinesP HoldsP LedgerP
open StockP (Sk sk0 fitS Fit fitS_iff fromV turnV moveV turn_fit restockV adjustV nmS)
open Go.Proofs.YtjclkiabgemfpaaGreat.Lines (LsAt Sz SzM ret_bool ret_int below_keep below_drewN below_append owns_form owns_cell owns_below)
open Go.Proofs.YtjclkiabgemfpaaGreat.Holds (HsAt SzH SzMH hmf eqH MadeP)

theorem fr_act (w : World) (v0 v1 r0 r1 u0 u1 u2 u3 u4 : Value) : FR w.heap.size w (((w.alloc (.cells #[v0, v1] 25)).alloc (.cells #[u0, u1, u2, u3, u4] 28)).alloc (.cells #[r0, r1] 25)) v0 v1 (w.heap.size + 2) r0 r1 ∧
    At5 (((w.alloc (.cells #[v0, v1] 25)).alloc (.cells #[u0, u1, u2, u3, u4] 28)).alloc (.cells #[r0, r1] 25)) (w.heap.size + 1) u0 u1 u2 u3 u4 := by
  have h1 := heap_alloc_new (w.alloc (.cells #[v0, v1] 25)) (.cells #[u0, u1, u2, u3, u4] 28)
  have h2 := heap_alloc_new ((w.alloc (.cells #[v0, v1] 25)).alloc (.cells #[u0, u1, u2, u3, u4] 28)) (.cells #[r0, r1] 25)
  rw [World.size_alloc] at h1
  rw [World.size_alloc, World.size_alloc] at h2
  refine ⟨⟨(((Below.refl _ w).alloc (Nat.le_refl _) _).alloc (by rw [World.size_alloc]; omega) _).alloc (by rw [World.size_alloc, World.size_alloc]; omega) _, ?_, h2⟩, ?_⟩
  · exact (heap_alloc_old _ _ (by rw [World.size_alloc, World.size_alloc]; omega)).trans ((heap_alloc_old _ _ (by rw [World.size_alloc]; omega)).trans (heap_alloc_new w _))
  · exact (heap_alloc_old _ _ (by rw [World.size_alloc, World.size_alloc]; omega)).trans h1
set_option maxHeartbeats 8000000 in
theorem rdo_any (a : Option Addr) (len cap : Nat) (a2 : Option Addr) (len2 cap2 : Nat) (b : Bk) (kd sg m : Int) (s : ByteArray) (la : Option Addr) (n lc : Nat) (ls : List Ln) (w : World)
    (h : BkAt w a len a2 len2 cap2 b) (hz : SzB b) (hs : s.size ≤ 300) (hL : LsAt w la n ls) (hz2 : Sz ls) :
    Calls Tryz.prog 10 #[.agg #[.slice a len cap, .slice a2 len2 cap2], .agg #[.int .i64 kd, .int .i64 sg, .int .i64 m, .string s, .slice la n lc]] w (BookR w (doB b ⟨kd, sg, m, s, ls⟩)) := by
  have hall := fr_act w (.slice a len cap) (.slice a2 len2 cap2) (.slice none 0 0) (.slice none 0 0) (.int .i64 kd) (.int .i64 sg) (.int .i64 m) (.string s) (.slice la n lc)
  have HF := Lib.hid hall.1
  have HA := Lib.hid hall.2
  clear hall
  by_cases k1 : kd = 1
  · have hR : doB b ⟨kd, sg, m, s, ls⟩ = restockB b s m := by unfold doB; rw [if_pos k1]
    rw [hR]
    have C := Lib.hid (fun (w' : World) (hb : Below w.heap.size w w') => rrestockb_any a len cap a2 len2 cap2 b s m w' (h.keep hb) hz hs)
    generalize restockB b s m = r at C ⊢
    clear h hz hL hz2 hR hs
    subst k1
    obtain ⟨q0, q1⟩ := cellsB HF.out.box
    obtain ⟨c0, c1, c2, c3, c4⟩ := cells5 HA.out
    go_enter Tryz.func10, Tryz.ntmps10
    go_wp2_with fail
    refine (C.out _ HF.out.bel).mono ?_
    rintro e w9 ⟨a9, n9, c9, b9, m9, d9, rfl, hbk, hb9⟩
    have HF9 := Lib.hid (HF.out.keep hb9)
    obtain ⟨z0, z1⟩ := cellsB HF9.out.res
    obtain ⟨f0, f1⟩ := freeB HF9.out.res
    have HBK := Lib.hid (bk_sameB hbk HF9.out.res (.slice a9 n9 c9) (.slice b9 m9 d9))
    clear hbk hb9 q0 q1 c0 c1 c2 c3 c4
    go_wp2_with fail
    have HRS := Lib.hid (heap_put2B HF9.out.res (.slice a9 n9 c9) (.slice b9 m9 d9))
    have HB := Lib.hid (below_put2 HF9.out.bel (show w.heap.size ≤ w.heap.size + 2 by omega) (.slice a9 n9 c9) (.slice b9 m9 d9))
    exact bodyPost_ret (results_bookR (j := 4) (k := 5) rfl _ _ (w.heap.size + 2) _ _ rfl HRS.out) rfl ⟨a9, n9, c9, b9, m9, d9, rfl, HBK.out, HB.out⟩
  have b1 : (kd == 1) = false := by simp [k1]
  by_cases k2 : kd = 2
  · have hR : doB b ⟨kd, sg, m, s, ls⟩ = adjustB b s m := by unfold doB; rw [if_neg k1, if_pos k2]
    rw [hR]
    have C := Lib.hid (fun (w' : World) (hb : Below w.heap.size w w') => radjustb_any a len cap a2 len2 cap2 b s m w' (h.keep hb) hz)
    generalize adjustB b s m = r at C ⊢
    clear h hz hL hz2 hR hs
    subst k2
    obtain ⟨q0, q1⟩ := cellsB HF.out.box
    obtain ⟨c0, c1, c2, c3, c4⟩ := cells5 HA.out
    go_enter Tryz.func10, Tryz.ntmps10
    go_wp2_with fail
    refine (C.out _ HF.out.bel).mono ?_
    rintro e w9 ⟨a9, n9, c9, b9, m9, d9, rfl, hbk, hb9⟩
    have HF9 := Lib.hid (HF.out.keep hb9)
    obtain ⟨z0, z1⟩ := cellsB HF9.out.res
    obtain ⟨f0, f1⟩ := freeB HF9.out.res
    have HBK := Lib.hid (bk_sameB hbk HF9.out.res (.slice a9 n9 c9) (.slice b9 m9 d9))
    clear hbk hb9 q0 q1 c0 c1 c2 c3 c4
    go_wp2_with fail
    have HRS := Lib.hid (heap_put2B HF9.out.res (.slice a9 n9 c9) (.slice b9 m9 d9))
    have HB := Lib.hid (below_put2 HF9.out.bel (show w.heap.size ≤ w.heap.size + 2 by omega) (.slice a9 n9 c9) (.slice b9 m9 d9))
    exact bodyPost_ret (results_bookR (j := 4) (k := 5) rfl _ _ (w.heap.size + 2) _ _ rfl HRS.out) rfl ⟨a9, n9, c9, b9, m9, d9, rfl, HBK.out, HB.out⟩
  have b2 : (kd == 2) = false := by simp [k2]
  by_cases k3 : kd = 3
  · have hR : doB b ⟨kd, sg, m, s, ls⟩ = heldB b sg ls m 1 := by unfold doB; rw [if_neg k1, if_neg k2, if_pos k3]
    rw [hR]
    have C := Lib.hid (fun (w' : World) (hb : Below w.heap.size w w') => rholdb_any a len cap a2 len2 cap2 b sg m la n lc ls w' (h.keep hb) hz (hL.keep hb) hz2)
    generalize heldB b sg ls m 1 = r at C ⊢
    clear h hz hL hz2 hR hs
    subst k3
    obtain ⟨q0, q1⟩ := cellsB HF.out.box
    obtain ⟨c0, c1, c2, c3, c4⟩ := cells5 HA.out
    go_enter Tryz.func10, Tryz.ntmps10
    go_wp2_with fail
    refine (C.out _ HF.out.bel).mono ?_
    rintro e w9 ⟨a9, n9, c9, b9, m9, d9, rfl, hbk, hb9⟩
    have HF9 := Lib.hid (HF.out.keep hb9)
    obtain ⟨z0, z1⟩ := cellsB HF9.out.res
    obtain ⟨f0, f1⟩ := freeB HF9.out.res
    have HBK := Lib.hid (bk_sameB hbk HF9.out.res (.slice a9 n9 c9) (.slice b9 m9 d9))
    clear hbk hb9 q0 q1 c0 c1 c2 c3 c4
    go_wp2_with fail
    have HRS := Lib.hid (heap_put2B HF9.out.res (.slice a9 n9 c9) (.slice b9 m9 d9))
    have HB := Lib.hid (below_put2 HF9.out.bel (show w.heap.size ≤ w.heap.size + 2 by omega) (.slice a9 n9 c9) (.slice b9 m9 d9))
    exact bodyPost_ret (results_bookR (j := 4) (k := 5) rfl _ _ (w.heap.size + 2) _ _ rfl HRS.out) rfl ⟨a9, n9, c9, b9, m9, d9, rfl, HBK.out, HB.out⟩
  have b3 : (kd == 3) = false := by simp [k3]
  by_cases k4 : kd = 4
  · have hR : doB b ⟨kd, sg, m, s, ls⟩ = dropB b sg 2 := by unfold doB; rw [if_neg k1, if_neg k2, if_neg k3, if_pos k4]
    rw [hR]
    have C := Lib.hid (fun (w' : World) (hb : Below w.heap.size w w') => rdropb_any a len cap a2 len2 cap2 b sg 2 (.inl rfl) w' (h.keep hb) hz)
    generalize dropB b sg 2 = r at C ⊢
    clear h hz hL hz2 hR hs
    subst k4
    obtain ⟨q0, q1⟩ := cellsB HF.out.box
    obtain ⟨c0, c1, c2, c3, c4⟩ := cells5 HA.out
    go_enter Tryz.func10, Tryz.ntmps10
    go_wp2_with fail
    refine (C.out _ HF.out.bel).mono ?_
    rintro e w9 ⟨a9, n9, c9, b9, m9, d9, rfl, hbk, hb9⟩
    have HF9 := Lib.hid (HF.out.keep hb9)
    obtain ⟨z0, z1⟩ := cellsB HF9.out.res
    obtain ⟨f0, f1⟩ := freeB HF9.out.res
    have HBK := Lib.hid (bk_sameB hbk HF9.out.res (.slice a9 n9 c9) (.slice b9 m9 d9))
    clear hbk hb9 q0 q1 c0 c1 c2 c3 c4
    go_wp2_with fail
    have HRS := Lib.hid (heap_put2B HF9.out.res (.slice a9 n9 c9) (.slice b9 m9 d9))
    have HB := Lib.hid (below_put2 HF9.out.bel (show w.heap.size ≤ w.heap.size + 2 by omega) (.slice a9 n9 c9) (.slice b9 m9 d9))
    exact bodyPost_ret (results_bookR (j := 4) (k := 5) rfl _ _ (w.heap.size + 2) _ _ rfl HRS.out) rfl ⟨a9, n9, c9, b9, m9, d9, rfl, HBK.out, HB.out⟩
  have b4 : (kd == 4) = false := by simp [k4]
  by_cases k5 : kd = 5
  · have hR : doB b ⟨kd, sg, m, s, ls⟩ = dropB b sg 3 := by unfold doB; rw [if_neg k1, if_neg k2, if_neg k3, if_neg k4, if_pos k5]
    rw [hR]
    have C := Lib.hid (fun (w' : World) (hb : Below w.heap.size w w') => rdropb_any a len cap a2 len2 cap2 b sg 3 (.inr rfl) w' (h.keep hb) hz)
    generalize dropB b sg 3 = r at C ⊢
    clear h hz hL hz2 hR hs
    subst k5
    obtain ⟨q0, q1⟩ := cellsB HF.out.box
    obtain ⟨c0, c1, c2, c3, c4⟩ := cells5 HA.out
    go_enter Tryz.func10, Tryz.ntmps10
    go_wp2_with fail
    refine (C.out _ HF.out.bel).mono ?_
    rintro e w9 ⟨a9, n9, c9, b9, m9, d9, rfl, hbk, hb9⟩
    have HF9 := Lib.hid (HF.out.keep hb9)
    obtain ⟨z0, z1⟩ := cellsB HF9.out.res
    obtain ⟨f0, f1⟩ := freeB HF9.out.res
    have HBK := Lib.hid (bk_sameB hbk HF9.out.res (.slice a9 n9 c9) (.slice b9 m9 d9))
    clear hbk hb9 q0 q1 c0 c1 c2 c3 c4
    go_wp2_with fail
    have HRS := Lib.hid (heap_put2B HF9.out.res (.slice a9 n9 c9) (.slice b9 m9 d9))
    have HB := Lib.hid (below_put2 HF9.out.bel (show w.heap.size ≤ w.heap.size + 2 by omega) (.slice a9 n9 c9) (.slice b9 m9 d9))
    exact bodyPost_ret (results_bookR (j := 4) (k := 5) rfl _ _ (w.heap.size + 2) _ _ rfl HRS.out) rfl ⟨a9, n9, c9, b9, m9, d9, rfl, HBK.out, HB.out⟩
  have b5 : (kd == 5) = false := by simp [k5]
  by_cases k6 : kd = 6
  · have hR : doB b ⟨kd, sg, m, s, ls⟩ = heldB b sg ls m 4 := by unfold doB; rw [if_neg k1, if_neg k2, if_neg k3, if_neg k4, if_neg k5, if_pos k6]
    rw [hR]
    have C := Lib.hid (fun (w' : World) (hb : Below w.heap.size w w') => runkeepb_any a len cap a2 len2 cap2 b sg m la n lc ls w' (h.keep hb) hz (hL.keep hb) hz2)
    generalize heldB b sg ls m 4 = r at C ⊢
    clear h hz hL hz2 hR hs
    subst k6
    obtain ⟨q0, q1⟩ := cellsB HF.out.box
    obtain ⟨c0, c1, c2, c3, c4⟩ := cells5 HA.out
    go_enter Tryz.func10, Tryz.ntmps10
    go_wp2_with fail
    refine (C.out _ HF.out.bel).mono ?_
    rintro e w9 ⟨a9, n9, c9, b9, m9, d9, rfl, hbk, hb9⟩
    have HF9 := Lib.hid (HF.out.keep hb9)
    obtain ⟨z0, z1⟩ := cellsB HF9.out.res
    obtain ⟨f0, f1⟩ := freeB HF9.out.res
    have HBK := Lib.hid (bk_sameB hbk HF9.out.res (.slice a9 n9 c9) (.slice b9 m9 d9))
    clear hbk hb9 q0 q1 c0 c1 c2 c3 c4
    go_wp2_with fail
    have HRS := Lib.hid (heap_put2B HF9.out.res (.slice a9 n9 c9) (.slice b9 m9 d9))
    have HB := Lib.hid (below_put2 HF9.out.bel (show w.heap.size ≤ w.heap.size + 2 by omega) (.slice a9 n9 c9) (.slice b9 m9 d9))
    exact bodyPost_ret (results_bookR (j := 4) (k := 5) rfl _ _ (w.heap.size + 2) _ _ rfl HRS.out) rfl ⟨a9, n9, c9, b9, m9, d9, rfl, HBK.out, HB.out⟩
  have b6 : (kd == 6) = false := by simp [k6]
  have hR : doB b ⟨kd, sg, m, s, ls⟩ = sendB b ls := by unfold doB; rw [if_neg k1, if_neg k2, if_neg k3, if_neg k4, if_neg k5, if_neg k6]
  rw [hR]
  have C := Lib.hid (fun (w' : World) (hb : Below w.heap.size w w') => rsendb_any a len cap a2 len2 cap2 b la n lc ls w' (h.keep hb) hz (hL.keep hb) hz2)
  generalize sendB b ls = r at C ⊢
  clear h hz hL hz2 hR hs
  obtain ⟨q0, q1⟩ := cellsB HF.out.box
  obtain ⟨c0, c1, c2, c3, c4⟩ := cells5 HA.out
  go_enter Tryz.func10, Tryz.ntmps10
  go_wp2_with fail
  refine (C.out _ HF.out.bel).mono ?_
  rintro e w9 ⟨a9, n9, c9, b9, m9, d9, rfl, hbk, hb9⟩
  have HF9 := Lib.hid (HF.out.keep hb9)
  obtain ⟨z0, z1⟩ := cellsB HF9.out.res
  obtain ⟨f0, f1⟩ := freeB HF9.out.res
  have HBK := Lib.hid (bk_sameB hbk HF9.out.res (.slice a9 n9 c9) (.slice b9 m9 d9))
  clear hbk hb9 q0 q1 c0 c1 c2 c3 c4
  go_wp2_with fail
  have HRS := Lib.hid (heap_put2B HF9.out.res (.slice a9 n9 c9) (.slice b9 m9 d9))
  have HB := Lib.hid (below_put2 HF9.out.bel (show w.heap.size ≤ w.heap.size + 2 by omega) (.slice a9 n9 c9) (.slice b9 m9 d9))
  exact bodyPost_ret (results_bookR (j := 4) (k := 5) rfl _ _ (w.heap.size + 2) _ _ rfl HRS.out) rfl ⟨a9, n9, c9, b9, m9, d9, rfl, HBK.out, HB.out⟩
set_option maxHeartbeats 2000000 in
theorem lsame_any (a : Option Addr) (n cap : Nat) (a2 : Option Addr) (n2 cap2 : Nat) (c : Option Addr) (m cap3 : Nat) (c2 : Option Addr) (m2 cap4 : Nat) (x y : Bk) (v : Bool) (hv : eqB x y = v) (w : World) (h : BkAt w a n a2 n2 cap2 x) (k : BkAt w c m c2 m2 cap4 y) :
    Calls Tryz.prog 13 #[.agg #[.slice a n cap, .slice a2 n2 cap2], .agg #[.slice c m cap3, .slice c2 m2 cap4]] w fun e w' => e = .returned (.bool v) ∧ Below w.heap.size w w' := by
  have N1 := bb_new w a n cap a2 n2 cap2
  have N2 := bbr_new (bbox w a n cap a2 n2 cap2) c m cap3 c2 m2 cap4
  have N1' := N1.keep N2.bel
  have hs1 : (bbox w a n cap a2 n2 cap2).heap.size = w.heap.size + 1 := World.size_alloc _ _
  obtain ⟨w1, hw1⟩ : ∃ w1, (bbox w a n cap a2 n2 cap2).alloc (.cells #[.slice c m cap3, .slice c2 m2 cap4] 25) = w1 := ⟨_, rfl⟩
  rw [hw1] at N2 N1'
  have e0 := N2.c0
  have e1 := N2.c1
  rw [hs1] at e0 e1
  have q0 := N1'.c0
  have q1 := N1'.c1
  have HW := Lib.hid hw1
  have HB := Lib.hid N1'
  have C := Lib.hid (rsame_any a n cap a2 n2 cap2 c m cap3 c2 m2 cap4 x y v hv w1 (h.keep N1'.bel) (k.keep N1'.bel))
  clear N1 N2 N1' hs1 hw1 h k hv
  go_enter Tryz.func13, Tryz.ntmps13
  go_wp2_with fail
  rw [show (w.alloc (.cells #[.slice a n cap, .slice a2 n2 cap2] 33)).alloc (.cells #[.slice c m cap3, .slice c2 m2 cap4] 25) = w1 from HW.out]
  go_wp2_with fail
  refine C.out.mono ?_
  rintro e w2 ⟨rfl, hb⟩
  have HB2 := Lib.hid (HB.out.keep hb)
  clear hb q0 q1 e0 e1
  go_wp2_with fail
  go_ret
  exact ⟨rfl, HB2.out.bel⟩
end Go.Proofs.YtjclkiabgemfpaaGreat.Ledger

/-
  LedgerPlays: it returns true for any acts; what was there stays as it was.
-/
set_option linter.unusedVariables false
set_option linter.unusedSimpArgs false
set_option maxRecDepth 4000
namespace Go.Proofs.YtjclkiabgemfpaaGreat.Ledger
open Go.RowKit LinesP HoldsP LedgerP
open StockP (Sk sk0)
open Go.Proofs.YtjclkiabgemfpaaGreat.Lines (LsAt Sz SzM ret_bool ret_int below_keep below_drewN)
open Go.Proofs.YtjclkiabgemfpaaGreat.Holds (HsAt SzH SzMH hmf eqH)

theorem pat2_keep {w w' : World} {k : Nat} {v0 v1 : Value} (h : At2 w k v0 v1) (hb : Below w.heap.size w w') : At2 w' k v0 v1 := (hb.block k (heap_lt h)).trans h
theorem pat2_new (w : World) (v0 v1 : Value) : At2 (w.alloc (.cells #[v0, v1] 33)) w.heap.size v0 v1 := heap_alloc_new w _
theorem atB_new (w : World) (v0 v1 : Value) : AtB (w.alloc (.cells #[v0, v1] 25)) w.heap.size v0 v1 := heap_alloc_new w _
theorem pbk_put2 {w : World} {a : Option Addr} {n : Nat} {a2 : Option Addr} {n2 c2 : Nat} {b : Bk} (h : BkAt w a n a2 n2 c2 b) {r : Nat} {p0 p1 : Option Addr} {m0 m1 d0 d1 : Nat} (hr : At2 w r (.slice p0 m0 d0) (.slice p1 m1 d1)) (v0 v1 : Value) : BkAt (put2 w r v0 v1) a n a2 n2 c2 b :=
  ⟨sk_same h.sk (sk_off h.sk hr) (by rw [size_put2]; exact Nat.le_refl _) (fun j hj => put2_other v0 v1 hj), hs_same h.hd hr (by rw [size_put2]; exact Nat.le_refl _) (fun j hj => put2_other v0 v1 hj), h.room⟩
theorem pjoin8 {G : Prop} {P F : World → Nat → Option Addr → Nat → Nat → Option Addr → Nat → Nat → Prop} (main : (∀ w g a n c p m d, F w g a n c p m d → P w g a n c p m d) → G) (pf : ∀ w g a n c p m d, F w g a n c p m d → P w g a n c p m d) : G := main pf
structure PlJ (w wr : World) (kb : Nat) (a : Option Addr) (n c : Nat) (a2 : Option Addr) (n2 c2 : Nat) (p : Option Addr) (m d : Nat) (p2 : Option Addr) (m2 d2 : Nat) (b : Bk) : Prop where
  bel : Below w.heap.size w wr
  lo : w.heap.size ≤ kb
  box : At2 wr kb (.slice a n c) (.slice a2 n2 c2)
  boy : AtB wr (kb + 1) (.slice p m d) (.slice p2 m2 d2)
  bk : BkAt wr a n a2 n2 c2 b
  bky : BkAt wr p m p2 m2 d2 b
section
variable {w wr w2 : World} {kb : Nat} {a : Option Addr} {n c : Nat} {a2 : Option Addr} {n2 c2 : Nat} {p : Option Addr} {m d : Nat} {p2 : Option Addr} {m2 d2 : Nat} {b : Bk}
theorem PlJ.keep (h : PlJ w wr kb a n c a2 n2 c2 p m d p2 m2 d2 b) (hb : Below wr.heap.size wr w2) : PlJ w w2 kb a n c a2 n2 c2 p m d p2 m2 d2 b :=
  ⟨Lines.below_keep h.bel hb h.bel.size, h.lo, pat2_keep h.box hb, atB_keep h.boy hb, h.bk.keep hb, h.bky.keep hb⟩
end
end Go.Proofs.YtjclkiabgemfpaaGreat.Ledger
