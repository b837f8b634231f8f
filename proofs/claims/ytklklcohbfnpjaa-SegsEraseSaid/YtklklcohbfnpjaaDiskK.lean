/-
  The contract of Flush: any disk.
-/
import Derived.Test.YtklklcohbfnpjaaDiskJ
import Derived.Test.YtklklcohbfnpjaaMixIn
set_option linter.unusedVariables false
set_option maxRecDepth 4000
namespace Go.Proofs.Ytklklcohbfnpjaa
open Go.RowKit Go.Shelf DiskP
attribute [local go_sem] Oper.semAt_some

theorem fp_dead {st : St} (h : st.dead = true) : fl st = (13, st) := by unfold fl; rw [if_pos h]
theorem fp_stop {st : St} (h : st.dead = false) (hp : opd st = true) : fl st = (13, op st) := by unfold fl; rw [if_neg (by simp [h]), if_pos hp]
theorem fp_yes {st : St} (h : st.dead = false) (hp : opd st = false) : fl st = (0, { op st with S := play st.S st.W, W := [] }) := by unfold fl; rw [if_neg (by simp [h]), if_neg (by simp [hp])]
theorem dk_own {X Y : World} {row : Option Nat} {b g cap : Nat} {st : St} {z : Int} {wv : Value} (h : DkAt X b st z g cap wv) (hg : X.grownBy Y row) (hr : ∀ r, row = some r → ∃ o : Obj, X.heap[r]? = some o ∧ o.isCells = false) : DkAt Y b st z g cap wv := by
  have no : ∀ k cs t f, X.heap[k]? = some (.cells cs t f) → some k ≠ row := fun k cs t f hk e => by
    obtain ⟨o, ho, hc⟩ := hr k e.symm
    rw [hk] at ho; cases ho; cases hc
  refine h.keep (fun k hk => hg.block k (h.lt k hk) ?_)
  rcases mem_foot.1 hk with rfl | rfl | e
  · exact no _ _ _ _ h.blk
  · obtain ⟨cur, hc⟩ := owns_type h.sec rfl
    exact no _ _ _ _ hc
  · obtain ⟨cur, hc⟩ := owns_type h.wts e
    exact no _ _ _ _ hc
theorem Upd.of_but {L : List Nat} {w w' : World} (h : But w.heap.size L w w') : Upd L w w' L := ⟨h.os, h.tape, h.output, h.size, fun k hk hn => h.block k hk hn, fun k hk => .inl hk⟩
theorem But.mono {n0 : Nat} {gs gs' : List Nat} {w w' : World} (h : But n0 gs w w') (hg : ∀ k ∈ gs, k ∈ gs') : But n0 gs' w w' := ⟨h.os, h.tape, h.output, h.size, fun k hk hn => h.block k hk (fun hm => hn (hg k hm))⟩
/-- A sector is written. -/
theorem dk_store {w : World} {b g cap k : Nat} {st : St} {z : Int} {wv : Value} (h : DkAt w b st z g cap wv) (y : ByteArray) :
    DkAt (w.setCell ⟨g, k, none⟩ (.string y)) b { st with S := st.S.set k y } z g cap wv ∧ w.grownBy (w.setCell ⟨g, k, none⟩ (.string y)) (some g) := by
  obtain ⟨h1, h2⟩ := World.ownsRow.stored h.sec k (.string y)
  refine ⟨⟨?_, h.zr, ?_, ?_⟩, h2⟩
  · rw [List.length_set]
    exact (h2.block b (heap_lt h.blk) (fun e => h.bg (by cases e; rfl))).trans h.blk
  · rw [List.length_set, List.map_set]; exact h1
  · exact owns_heap h.wts (fun j e => h2.block j (owns_lt h.wts e) (fun e2 => h.gw e (by cases e2; rfl)))
theorem But.drew {n0 : Nat} {gs : List Nat} {a w : World} (h : But n0 gs a w) : But n0 gs a w.drew := ⟨h.os, h.tape, h.output, h.size, h.block⟩
theorem DkAt.drew {w : World} {b g cap : Nat} {st : St} {z : Int} {wv : Value} (h : DkAt w b st z g cap wv) : DkAt w.drew b st z g cap wv := ⟨h.blk, h.zr, h.sec, h.wts⟩
theorem Upd.less {L L' L'' : List Nat} {w w' : World} (h : Upd L w w' L') (hl : ∀ k ∈ L'', k ∈ L') : Upd L w w' L'' := ⟨h.os, h.tape, h.output, h.size, h.block, fun k hk => h.sub k (hl k hk)⟩
theorem dk_done {w : World} {b g cap : Nat} {st : St} {z : Int} {wv : Value} (h : DkAt w b st z g cap wv) : DkAt (w.setCell ⟨b, 4, none⟩ (.slice none 0 0)) b { st with W := [] } z g cap (.slice none 0 0) := by
  have hs2 := Lib.grownBy_setCell w b 4 (.slice none 0 0)
  refine ⟨?_, h.zr, ?_, World.ownsRow_nil _ _ _ _⟩
  · exact Lib.heap_setCell_same (i := 4) h.blk _
  · exact owns_heap h.sec (fun j e => hs2.block j (owns_lt h.sec e) (fun e2 => h.bg (by cases e2; simpa [Value.ownBlock] using e.symm)))
theorem sec_at {w : World} {g cap k n : Nat} {S : List ByteArray} (h : w.ownsRow 0 9 1 (.slice (some ⟨g, 0, none⟩) n cap) n (S.map Value.string)) (hk : k < S.length) :
    w.cell? ⟨g, k, none⟩ = some (.string (S.getD k ByteArray.empty)) ∧ w.frozen? ⟨g, k, none⟩ = false :=
  ⟨owns_cell h rfl (by simp [List.getD, hk]), owns_frozen h rfl⟩
theorem flush_no (p : Option Addr) (w : World) (h : NoDisk w p) : Calls Try.prog 21 #[.pointer p] w fun e w' => e = .returned (.int .i64 1) ∧ Below w.heap.size w w' := by
  have h2 : NoDisk (w.alloc (.cells #[.pointer p] 33)) p := by
    rcases h with rfl | ⟨b, rfl, hc⟩
    · exact .inl rfl
    · exact .inr ⟨b, rfl, Lib.cell?_alloc_some _ hc⟩
  go_enter Try.func21, Try.ntmps21
  go_wp2_with fail
  refine (ready_no p _ h2).mono ?_
  rintro e w' ⟨rfl, rfl⟩
  go_wp2_with fail
  go_ret
  exact ⟨rfl, (Below.refl _ _).alloc (Nat.le_refl _) _⟩
/-- What pending hands back when each is asked for; the rounds are told what they are handed. -/
theorem pend_each_sub (b : Nat) (st : St) (g cap : Nat) (z : Int) (wv : Value) (n : Nat) (w : World) (h : DkAt w b st z g cap wv) (hn : st.W.length ≤ 1000000000) (h2 : 2 ≤ n) :
    SeqStopsK Fence.wide n Try.prog 60 #[.pointer (some ⟨w.heap.size, 0, none⟩), .pointer (some ⟨w.heap.size + 1, 0, none⟩)] (fun x : { x : Wr // x ∈ st.W } => #[wval x.1]) (But (w.heap.size + 2) [g]) (fun xs => xs.map (·.1) = st.W) (fun _ => True) st.W.length
      ((w.alloc (.cells #[.pointer (some ⟨b, 0, none⟩)] 33)).alloc (.cells #[.func (.func 43) #[] #[]] 65)) := by
  have hc := cell_two (w := w) (v1 := .pointer (some ⟨b, 0, none⟩)) (v2 := .func (.func 43) #[] #[]) (t1 := 33) (t2 := 65)
  have hb : Below w.heap.size w ((w.alloc (.cells #[.pointer (some ⟨b, 0, none⟩)] 33)).alloc (.cells #[.func (.func 43) #[] #[]] 65)) := ((Below.refl _ w).alloc (Nat.le_refl _) _).alloc (by simp) _
  have hg : g < w.heap.size := owns_lt h.sec rfl
  have hs := pend_stops_sub 43 #[] (fun _ => true) (enters_of Try.func43 (by kernel_rfl) rfl) w.heap.size (w.heap.size + 1) b (w.heap.size + 2) n [g] st.W wv h2 _
    (fun i W' _ _ => each_in i _ W') hc.1 hc.2 ⟨by omega, by simp; omega⟩ ((hb.cell (p := ⟨b, 4, none⟩) (heap_lt h.blk)).trans (cell_of_heap h.blk)) (owns_heap h.wts (fun k e => hb.block k (owns_lt h.wts e)))
    (fun k e => ⟨by have := owns_lt h.wts e; omega, by simp; exact fun e2 => h.gw e e2.symm⟩) hn (by simp)
  rw [selT_all _ _ (Nat.le_refl _), List.take_length] at hs
  exact hs
theorem boxed_cell {w : World} {t : TypeId} {v : Value} : (w.alloc (.cells #[v] t)).heap[w.heap.size]? = some (.cells #[v] t (0, 0)) := heap_alloc_new w _
set_option maxRecDepth 100000 in
set_option maxHeartbeats 4000000 in
theorem flush_dk (b n : Nat) (st : St) (L : List Nat) (w : World) (h : Dk w L b st) (hok : Ok n st) (hn : n ≤ 1000000000) :
    Calls Try.prog 21 #[.pointer (some ⟨b, 0, none⟩)] w (Did w L b (fl st).2 (.int .i64 (fl st).1)) := by
  obtain ⟨z, g, cap, wv, h, rfl⟩ := h
  have hsl := hok.hi
  have hwn : st.W.length ≤ 1000000000 := by have := hok.wn; omega
  have hbel : Below w.heap.size w (w.alloc (.cells #[.pointer (some ⟨b, 0, none⟩)] 33)) := (Below.refl _ w).alloc (Nat.le_refl _) _
  have h1 : DkAt (w.alloc (.cells #[.pointer (some ⟨b, 0, none⟩)] 33)) b st z g cap wv := h.keep (fun k hk => hbel.block k (h.lt k hk))
  have hr := ready_dk b st _ _ ⟨z, g, cap, wv, h1, rfl⟩
  have hbx : (w.alloc (.cells #[.pointer (some ⟨b, 0, none⟩)] 33)).heap[w.heap.size]? = some (.cells #[.pointer (some ⟨b, 0, none⟩)] 33 (0, 0)) := boxed_cell
  have hw1 : ∃ w1, w.alloc (.cells #[.pointer (some ⟨b, 0, none⟩)] 33) = w1 := ⟨_, rfl⟩
  have hlt : ∀ k ∈ foot b g wv, k < w.heap.size := h.lt
  have HU0 := Lib.hid (show ∀ w1, w.alloc (.cells #[.pointer (some ⟨b, 0, none⟩)] 33) = w1 → Upd (foot b g wv) w w1 (foot b g wv) from fun w1 e => by rw [← e]; exact Upd.of_below hbel)
  have HLT := Lib.hid hlt
  cases hd : st.dead with
  | true =>
    rw [fp_dead hd]
    rw [hd] at hr
    have HD := Lib.hid (show Did w (foot b g wv) b st (.int .i64 13) (.returned (.int .i64 13)) (w.alloc (.cells #[.pointer (some ⟨b, 0, none⟩)] 33)) from ⟨rfl, _, ⟨z, g, cap, wv, h1, rfl⟩, Upd.of_below hbel⟩)
    have HR := Lib.hid hr
    clear h h1 hr hbx hw1 hok hd hbel hlt
    go_enter Try.func21, Try.ntmps21
    go_wp2_with fail
    refine HR.out.mono ?_
    rintro e w' ⟨rfl, rfl⟩
    go_wp2_with fail
    go_ret
    exact HD.out
  | false =>
  rw [hd] at hr
  have hop := operate_any b st z _ _ _ h1.blk h1.zr (by have := hok.ops; omega)
  cases hp : opd st with
  | true =>
    rw [fp_stop hd hp]
    rw [hp] at hop
    have HR := Lib.hid hr; have HO := Lib.hid hop; have H1 := Lib.hid h1; have HBEL := Lib.hid hbel
    have c1 : (w.alloc (.cells #[.pointer (some ⟨b, 0, none⟩)] 33)).cell? ⟨w.heap.size, 0, none⟩ = some (.pointer (some ⟨b, 0, none⟩)) := cell_of_heap hbx
    clear h h1 hr hop hbx hw1 hok hd hp hbel hlt
    go_enter Try.func21, Try.ntmps21
    go_wp2_with fail
    refine HR.out.mono ?_
    rintro e w' ⟨rfl, rfl⟩
    go_wp2_with fail
    refine HO.out.mono ?_
    rintro e w2 ⟨rfl, ⟨z', hb, hz⟩, hg⟩
    have HD := Lib.hid (show Did w (foot b g wv) b (op st) (.int .i64 13) (.returned (.int .i64 13)) w2 from ⟨rfl, _, ⟨z', g, cap, wv, dk_op H1.out hb hz hg, rfl⟩, (Upd.of_below HBEL.out).trans (Upd.of_grown hg (by simp [foot]))⟩)
    clear hb hz hg c1
    go_wp2_with fail
    go_ret
    exact HD.out
  | false =>
    rw [fp_yes hd hp]
    rw [hp] at hop
    have HAT := Lib.hid (fun x hx => hok.wat x hx)
    have HR := Lib.hid hr; have HO := Lib.hid hop; have H1 := Lib.hid h1; have HBX := Lib.hid hbx
    clear h h1 hr hop hbx hok hd hp hbel hlt
    refine (callsIn_wide (n := 6)).1 ?_
    refine callsIn_of_wp_marks Try.func21 rfl trivial ?_ rfl
    simp only [Try.ntmps21, List.size_toArray, List.length_cons, List.length_nil, Nat.reduceAdd, Nat.reduceSub, Array.replicate_succ, Array.replicate_zero, List.push_toArray, List.append_toArray, List.nil_append, List.cons_append]
    obtain ⟨w1, hw1⟩ := hw1
    rw [hw1] at HR HO H1 HBX
    have HUU := Lib.hid (HU0.out w1 hw1)
    have e1 : w1.cell? ⟨w.heap.size, 0, none⟩ = some (.pointer (some ⟨b, 0, none⟩)) := cell_of_heap HBX.out
    have HS1 : Hid (w1.heap.size = w.heap.size + 1) := by rw [← hw1]; show _ = _; simp
    clear HU0
    gi_wp2_with fail
    refine ⟨trivial, ?_⟩
    refine (callsIn_wide.2 HR.out).mono ?_
    rintro e w' ⟨rfl, rfl⟩
    gi_wp2_with fail
    refine ⟨trivial, ?_⟩
    refine (callsIn_wide.2 HO.out).mono ?_
    rintro e w2 ⟨rfl, ⟨z', hb, hz⟩, hg⟩
    have hbw : b < w.heap.size := HLT.out b (by simp [foot])
    have hD2 := dk_op H1.out hb hz hg
    have hbx2 : w2.heap[w.heap.size]? = some (.cells #[.pointer (some ⟨b, 0, none⟩)] 33 (0, 0)) := (hg.block w.heap.size (by have := HS1.out; omega) (fun e => by cases e; omega)).trans HBX.out
    have e2 : w2.cell? ⟨w.heap.size, 0, none⟩ = some (.pointer (some ⟨b, 0, none⟩)) := cell_of_heap hbx2
    have hU2 := HUU.out.trans (Upd.of_grown (L := foot b g wv) hg (by simp [foot]))
    have hsz2 : w.heap.size < w2.heap.size := heap_lt hbx2
    have hseq := pend_each_sub b (op st) g cap z' wv 5 w2 hD2 hwn (by omega)
    obtain ⟨w3, hw3⟩ : ∃ w3, (w2.alloc (.cells #[.pointer (some ⟨b, 0, none⟩)] 33)).alloc (.cells #[.func (.func 43) #[] #[]] 65) = w3 := ⟨_, rfl⟩
    have hs3 : w3.heap.size = w2.heap.size + 2 := by rw [← hw3]; show _ = _; simp
    have hb3 : Below w2.heap.size w2 w3 := by rw [← hw3]; exact ((Below.refl _ w2).alloc (Nat.le_refl _) _).alloc (by simp) _
    rw [hw3, ← hs3] at hseq
    have hD3 : DkAt w3 b (op st) z' g cap wv := hD2.keep (fun k hk => hb3.block k (hD2.lt k hk))
    have hbx3 : w3.heap[w.heap.size]? = some (.cells #[.pointer (some ⟨b, 0, none⟩)] 33 (0, 0)) := (hb3.block _ hsz2).trans hbx2
    have HSEQ := Lib.hid hseq; have HD3 := Lib.hid hD3; have HBX3 := Lib.hid hbx3; have HU3 := Lib.hid (hU2.trans (Upd.of_below hb3)); have HW3 := Lib.hid hw3; have HSZ := Lib.hid (show w.heap.size < w3.heap.size by omega)
    clear hb hz hg hD2 hbx2 hU2 hseq hs3 hb3 hD3 hbx3 hw3 e1 hw1
    gi_wp2_with fail
    refine ⟨trivial, ?_⟩
    refine (callsIn_wide.2 (pending_any b 43 #[] w2)).mono ?_
    rintro e w3' ⟨rfl, hw3'⟩
    obtain rfl : w3' = w3 := hw3'.trans HW3.out
    clear hw3' HW3 e2 hsz2
    gi_wp2_with fail
    refine wpIn_rangeFunc_ownH rfl (by omega) (gf := 60) (lb := #[.pointer (some ⟨w2.heap.size, 0, none⟩), .pointer (some ⟨w2.heap.size + 1, 0, none⟩)]) rfl trivial (enters_of Try.func60 (by kernel_rfl) rfl) HSEQ.out But.trans (but_b (Nat.le_refl _)) (Below.refl _ _) (fun _ => rfl)
      (fun pre W => (DkAt W b { op st with S := play st.S (pre.map (·.1)) } z' g cap wv ∧ Boxed W w.heap.size 33 (.pointer (some ⟨b, 0, none⟩))) ∧ But w3'.heap.size [g] w3' W)
      (fun _ _ _ => False)
      ?hi
      (fun _ _ _ _ _ hs _ _ => hs)
      ⟨⟨HD3.out, HBX3.out⟩, But.refl _ _ _⟩
      (fun x a' W => ∃ Bx, w3'.heap.size ≤ Bx ∧ WBox W Bx x.1 ∧ a' = { tmps := #[.pointer (some ⟨b, 0, none⟩), .pointer (some ⟨w.heap.size, 0, none⟩), .int .i64 0, .int .i64 0, .pointer (some ⟨Bx, 0, none⟩), .pointer (some ⟨b, 0, none⟩), .int .i64 0, .int .i64 0, .bool false, undef, .pointer (some ⟨b, 0, none⟩), .pointer (some ⟨b, 0, none⟩), .pointer (some ⟨b, 0, none⟩), .bool true, .bool false, .pointer (some ⟨b, 0, none⟩), .func (.func 60) #[] #[.pointer (some ⟨w2.heap.size, 0, none⟩), .pointer (some ⟨w2.heap.size + 1, 0, none⟩)], wval x.1, undef, undef, undef, undef, undef, undef, undef, undef, undef, undef, undef, undef], defers := [] })
      ?hax ?assign ?body ?done ?stop
    case hi =>
      rintro pre X Y row ⟨⟨hd, hx⟩, hB⟩ hg hr
      have hr2 : ∀ r, row = some r → ∃ o : Obj, X.heap[r]? = some o ∧ o.isCells = false := fun r e => (hr r e).2
      exact ⟨⟨dk_own hd hg hr2, hx.kept hg (fun e => by obtain ⟨o, ho, hc⟩ := hr2 _ e.symm; rw [show X.heap[w.heap.size]? = _ from hx] at ho; cases ho; cases hc)⟩, hB.trans (But.of_grown hg hB.size (fun k e => .inl (hr k e).1))⟩
    case hax =>
      rintro x a' s X Y row ⟨Bx, h1, h2, h3⟩ hg hr
      exact ⟨Bx, h1, wbox_own Bx _ (fun _ : Unit => x.1) () X Y row h2 hg hr, h3⟩
    case assign =>
      rintro l pre x W K ⟨⟨hd, hx⟩, hB⟩ hK
      have hBW : Below W.heap.size W (W.alloc (.cells #[.int .i64 (x.1.1 : Int), .string x.1.2] 75)) := (Below.refl _ W).alloc (Nat.le_refl _) _
      have HD := Lib.hid (hd.keep (fun k hk => hBW.block k (hd.lt k hk)))
      have hsz := hB.size
      have HB := Lib.hid (hB.trans (But.of_below (gs := [g]) (hBW.mono hsz)))
      have HBB := Lib.hid (But.of_below (gs := [g]) (hBW.mono hsz))
      have HX := Lib.hid (hx.alloc (.cells #[.int .i64 (x.1.1 : Int), .string x.1.2] 75))
      clear hd hx hB hBW
      gi_wp2_with fail
      exact hK _ _ ((KeepsOthers.alloc _ _).from _) HBB.out ⟨⟨HD.out, HX.out⟩, HB.out⟩ ⟨W.heap.size, hsz, World.alloc_heap_new W _, rfl⟩
    case body =>
      rintro l pre x a' W hl hr ⟨⟨hd, hx⟩, hB⟩ ⟨Bx, hBx, hxb, rfl⟩ hlt
      have hc := hx.cell
      have x0 := hxb.c0
      have x1 := hxb.c1
      have hlen := play_length st.S (pre.map (·.1))
      have hk := HAT.out x.1 x.2
      obtain ⟨hsc, hsf⟩ := sec_at hd.sec (show x.1.1 < (play st.S (pre.map (·.1))).length by rw [hlen]; exact hk)
      have c3 : W.cell? ⟨b, 3, none⟩ = some (.slice (some ⟨g, 0, none⟩) st.S.length cap) := by rw [cell_of_heap hd.blk, ← hlen]; rfl
      obtain ⟨hst, hgr⟩ := dk_store (k := x.1.1) hd x.1.2
      have HST := Lib.hid hst; have HGR := Lib.hid hgr; have HB := Lib.hid hB; have HX := Lib.hid hx; have HD := Lib.hid hd; have HLEN := Lib.hid hlen
      clear hst hgr hB hx hd hlen
      have hmx : Try.prog.follows .mixedOrders = true := by kernel_rfl
      gi_wp2_with fail
      refine Mix.wpIn_region_mix (Mix.open_round l) [0, 1, 2, 3, 4, 5, 6, 7, 8] [9] 9 (by kernel_rfl) (by kernel_rfl) ?_
      simp only [Mix.pick, List.filterMap_cons, List.filterMap_nil, List.getElem?_cons_zero, List.getElem?_cons_succ]
      repeat still_step
      refine wpStill_nil ?_
      gi_wp2_with fail
      have hgw : g < w.heap.size := HLT.out g (by simp [foot])
      have hkp : But w3'.heap.size [g] W (W.setCell ⟨g, x.1.1, none⟩ (.string x.1.2)).drew := (But.of_grown HGR.out HB.out.size (fun k e => .inr (by cases e; simp))).drew
      refine ⟨((KeepsOthers.setCell _ _ _).trans (KeepsOthers.drew _)).from _, hkp, ⟨⟨?_, ?_⟩, HB.out.trans hkp⟩⟩
      · rw [List.map_append, List.map_cons, List.map_nil, play_snoc]
        exact HST.out.drew
      · have hkx : Boxed (W.setCell ⟨g, x.1.1, none⟩ (.string x.1.2)) w.heap.size 33 (.pointer (some ⟨b, 0, none⟩)) := HX.out.kept HGR.out (fun e => by cases e; omega)
        exact hkx
    case done =>
      rintro D ys W hD hys ⟨⟨hd, hx⟩, hB⟩ hK
      rw [hys] at hd
      have hc := hx.cell
      have c4 : W.cell? ⟨b, 4, none⟩ = some wv := cell_of_heap hd.blk
      have f4 : W.frozen? ⟨b, 4, none⟩ = false := frozen_of_heap hd.blk
      have hK' := (KeepsOthers.setCell W ⟨b, 4, none⟩ (.slice none 0 0)).same D _ hK rfl
      have hd2 := dk_done hd
      have hd3 := dk_own hd2 (grownBy_putObj' _ D (.deferred none)) (fun r e => by cases e; exact ⟨_, hK', rfl⟩)
      have hbf : b ∈ foot b g wv := by simp [foot]
      have hu : But w3'.heap.size (foot b g wv) w3' ((W.setCell ⟨b, 4, none⟩ (.slice none 0 0)).putObj D (.deferred none)) :=
        ((hB.mono (fun k hk => by simp at hk; subst hk; simp [foot])).trans (But.of_grown (Lib.grownBy_setCell W b 4 (.slice none 0 0)) hB.size (fun k e => by cases e; exact .inr hbf))).trans
          (But.of_grown (grownBy_putObj' _ D (.deferred none)) (Nat.le_trans hB.size (by simp [World.setCell])) (fun k e => by cases e; exact .inl hD))
      have HK := Lib.hid hK'
      have HDID := Lib.hid (show Did w (foot b g wv) b { op st with S := play st.S st.W, W := [] } (.int .i64 0) (.returned (.int .i64 0)) ((W.setCell ⟨b, 4, none⟩ (.slice none 0 0)).putObj D (.deferred none)) from
        ⟨rfl, foot b g (.slice none 0 0), ⟨z', g, cap, .slice none 0 0, hd3, rfl⟩, (HU3.out.trans (Upd.of_but hu)).less (fun k hk => by simp [foot, Value.ownBlock] at hk ⊢; rcases hk with e | e; exact .inl e; exact .inr (.inl e))⟩)
      clear hd hx hB hK hK' hd2 hd3 hu
      gi_wp2_with fail
      refine ⟨by simp, .inl ⟨_, _, rfl, run_takeDeferred HK.out, ?_⟩⟩
      exact ⟨_, results_tmp rfl _ _ _, rfl, HDID.out.2⟩
    case stop =>
      rintro D c pre W _ _ h _
      exact h.elim
end Go.Proofs.Ytklklcohbfnpjaa
