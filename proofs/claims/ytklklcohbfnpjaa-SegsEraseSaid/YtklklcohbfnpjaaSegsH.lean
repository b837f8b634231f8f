/-
  The walk of SegsErase: any acts, any sectors, any fuse.
-/
import Derived.Test.YtklklcohbfnpjaaSegsF
import Derived.Test.YtklklcohbfnpjaaSegsC
set_option linter.unusedVariables false
set_option maxRecDepth 4000
namespace Go.Proofs.Ytklklcohbfnpjaa
open Go.RowKit DiskP SegsP
open Ints (IntsAt IntsAt.keep has_any)

/-- One text more behind a row of the call's own. -/
theorem append_str {ops : Array Oper} {rest : List Oper} {o : Oper} {a : Act} {Q : Exit → Act → World → Prop} (hgd : o.guard = none) (s x : Operand)
    (ho : o.op = .call { callee := .builtin .append, args := #[s, x], argTypes := #[48, 48] }) (base : Nat) (w : World) (c : ByteArray)
    (v : Value) (n : Nat) (xs : List ByteArray) (hs : a.eval s = v) (hown : w.ownsRow base 9 1 v n (xs.map Value.string)) (hx : a.eval x = .slice (some ⟨w.heap.size, 0, none⟩) 1 1)
    (hn : n ≤ 4000000) (hbase : base ≤ w.heap.size)
    (h : ∀ v' w', w'.ownsRow base 9 1 v' (n + 1) ((xs ++ [c]).map Value.string) → (w.alloc (.cells #[.string c] 9)).grownBy w' v.ownBlock → wpList Try.prog ops Q rest (a.put o.dst v') w') :
    wpList Try.prog ops Q (o :: rest) a (w.alloc (.cells #[.string c] 9)) := by
  obtain ⟨i0, hi, hz0, hz1, hz2⟩ := info_parts info_string
  refine wpList_append_own _ hgd s x 48 ho base 9 i0 _ 1 16 Try.underlying48 hi hz0 hz1 hz2 rfl (by decide) v n (xs.map Value.string) hs (hown.alloc _) ⟨w.heap.size, 0, none⟩ 1 1 [.string c] hx rfl (Ints.cell_one_new _ _ _) (by simp [Value.oneCell']) ?_ ?_ ?_ fun v' w' h1 h2 _ => h v' w' (by rw [List.map_append]; exact h1) h2
  · unfold maxLen; omega
  · omega
  · simp; omega
/-- Both disks, in memory that is new since w0, apart from each other and from block B, which is as it was in w1. -/
def BothB (w0 w1 w : World) (B d x : Nat) (st sr : St) : Prop := ∃ L M, Dk w L d st ∧ Rk w M x sr ∧ (∀ k ∈ L, w0.heap.size ≤ k ∧ k ∉ M) ∧ (∀ k ∈ M, w0.heap.size ≤ k) ∧ Below w0.heap.size w0 w ∧ B ∉ L ∧ B ∉ M ∧ B < w.heap.size ∧ w.heap[B]? = w1.heap[B]?
theorem BothB.both {w0 w1 w : World} {B d x : Nat} {st sr : St} (h : BothB w0 w1 w B d x st sr) : Both w0 w d x st sr := by
  obtain ⟨L, M, hD, hR, hL, hM, hB, _⟩ := h
  exact ⟨L, M, hD, hR, hL, hM, hB⟩
theorem BothB.bel {w0 w1 w : World} {B d x : Nat} {st sr : St} (h : BothB w0 w1 w B d x st sr) : Below w0.heap.size w0 w := h.both.bel
theorem BothB.blk {w0 w1 w : World} {B d x : Nat} {st sr : St} (h : BothB w0 w1 w B d x st sr) : w.heap[B]? = w1.heap[B]? ∧ B < w.heap.size := by
  obtain ⟨L, M, _, _, _, _, _, _, _, h1, h2⟩ := h
  exact ⟨h2, h1⟩
theorem BothB.of {w0 w1 w : World} {B d x : Nat} {st sr : St} (h : Both w0 w1 d x st sr) (hb : Below w1.heap.size w1 w) (h1 : w1.heap.size ≤ B) (h2 : B < w.heap.size) : BothB w0 w w B d x st sr := by
  obtain ⟨L, M, hD, hR, hL, hM, hB⟩ := h
  exact ⟨L, M, dk_below hD hb, rk_below hR hb, hL, hM, hB.trans (hb.mono hB.size), fun hk => by have := hD.lt _ hk; omega, fun hk => by have := hR.lt _ hk; omega, h2, rfl⟩
theorem BothB.stepD {w0 w1 w : World} {B d x : Nat} {st sr st' : St} {f : Nat} {args : Array Value} {v : Value} (h : BothB w0 w1 w B d x st sr) (hc : ∀ L, Dk w L d st → (∀ k ∈ L, w0.heap.size ≤ k) → Calls Try.prog f args w (Did w L d st' v)) :
    Calls Try.prog f args w fun e w' => e = .returned v ∧ BothB w0 w1 w' B d x st' sr := by
  obtain ⟨L, M, hD, hR, hL, hM, hB, n1, n2, n3, n4⟩ := h
  refine (hc L hD (fun k hk => (hL k hk).1)).mono ?_
  rintro e w' ⟨rfl, L', hD', hU⟩
  refine ⟨rfl, L', M, hD', hR.keep (fun k hk => hU.block k (hR.lt k hk) (fun hkL => (hL k hkL).2 hk)), fun k hk => ?_, hM, hB.trans (hU.below (fun k hk => (hL k hk).1) hB.size), fun hk => ?_, n2, by have := hU.size; omega, (hU.block B n3 n1).trans n4⟩
  · rcases hU.sub k hk with h | h
    · exact hL k h
    · exact ⟨Nat.le_trans hB.size h, fun hkM => by have := hR.lt k hkM; omega⟩
  · rcases hU.sub B hk with h | h
    · exact n1 h
    · omega
theorem BothB.stepR {w0 w1 w : World} {B d x : Nat} {st sr sr' : St} {f : Nat} {args : Array Value} {v : Value} (h : BothB w0 w1 w B d x st sr) (hc : ∀ M, Rk w M x sr → (∀ k ∈ M, w0.heap.size ≤ k) → Calls Try.prog f args w (Rid w M x sr' v)) :
    Calls Try.prog f args w fun e w' => e = .returned v ∧ BothB w0 w1 w' B d x st sr' := by
  obtain ⟨L, M, hD, hR, hL, hM, hB, n1, n2, n3, n4⟩ := h
  refine (hc M hR hM).mono ?_
  rintro e w' ⟨rfl, M', hR', hU⟩
  refine ⟨rfl, L, M', hD.keep (fun k hk => hU.block k (hD.lt k hk) (hL k hk).2), hR', fun k hk => ⟨(hL k hk).1, fun hkM => ?_⟩, fun k hk => ?_, hB.trans (hU.below hM hB.size), n1, fun hk => ?_, by have := hU.size; omega, (hU.block B n3 n2).trans n4⟩
  · rcases hU.sub k hkM with h | h
    · exact (hL k hk).2 h
    · have := hD.lt k hk; omega
  · rcases hU.sub k hk with h | h
    · exact hM k h
    · exact Nat.le_trans hB.size h
  · rcases hU.sub B hk with h | h
    · exact n2 h
    · omega
theorem BothB.below {w0 w1 w w' : World} {B d x : Nat} {st sr : St} (h : BothB w0 w1 w B d x st sr) (hb : Below w.heap.size w w') : BothB w0 w1 w' B d x st sr := by
  obtain ⟨L, M, hD, hR, hL, hM, hB, n1, n2, n3, n4⟩ := h
  exact ⟨L, M, dk_below hD hb, rk_below hR hb, hL, hM, hB.trans (hb.mono hB.size), n1, n2, by have := hb.size; omega, (hb.block B n3).trans n4⟩
theorem BothB.drew {w0 w1 w : World} {B d x : Nat} {st sr : St} (h : BothB w0 w1 w B d x st sr) : BothB w0 w1 w.drew B d x st sr := by
  obtain ⟨L, M, hD, hR, hL, hM, hB, n⟩ := h
  exact ⟨L, M, hD.keep fun _ _ => rfl, hR.keep fun _ _ => rfl, hL, hM, hB.drew, n⟩
theorem ints_apart {w : World} {a : Option Addr} {len : Nat} {xs : List Int} {L : List Nat} (h : IntsAt w a len xs) (hL : ∀ k ∈ L, w.heap.size ≤ k) : 0 < len → ∀ y, a = some y → y.block ∉ L := by
  intro h0 y hy hk
  rcases h.2.2 with g | ⟨b, off, rfl, hlt, _⟩
  · omega
  · cases hy
    have := hL _ hk
    simp only at this
    omega
theorem owns_some {w : World} {B n : Nat} {v : Value} {xs : List Value} (h : w.ownsRow B 9 1 v n xs) (hn : 0 < n) : ∃ g cap, v = .slice (some ⟨g, 0, none⟩) n cap := by
  rcases h.2 with ⟨_, h0⟩ | ⟨g, cap, cur, rfl, _⟩
  · omega
  · exact ⟨g, cap, rfl⟩
theorem join1 {G : Prop} {P F : World → Prop} (main : (∀ w, F w → P w) → G) (pf : ∀ w, F w → P w) : G := main pf
theorem join3 {G : Prop} {P F : World → Nat → Nat → Prop} (main : (∀ w g c, F w g c → P w g c) → G) (pf : ∀ w g c, F w g c → P w g c) : G := main pf
theorem join4 {G : Prop} {P F : World → Option Addr → Nat → Prop} (main : (∀ w g c, F w g c → P w g c) → G) (pf : ∀ w g c, F w g c → P w g c) : G := main pf
/-- The first k sectors as they are read. -/
def was (st : St) (k : Nat) : List ByteArray := (List.range k).map fun (i : Nat) => (rd st (i : Int)).1
theorem was_succ (st : St) (k : Nat) : was st (k + 1) = was st k ++ [(rd st (k : Int)).1] := by simp [was, List.range_succ]
theorem was_get {st : St} {n k : Nat} (h : k < n) : ((was st n).map Value.string)[k]? = some (.string (rd st (k : Int)).1) := by simp [was, h]

set_option maxRecDepth 100000 in
set_option maxHeartbeats 8000000 in
theorem segsErase_walk (a : Option Addr) (len cap : Nat) (f : Nat → AVal) (a1 : Option Addr) (len1 cap1 : Nat) (xs : List Int) (z : Nat) (w : World) (hA : ActsAt w a len f) (hI : IntsAt w a1 len1 xs) (hl1 : len1 ≤ 9223372036854775807) (hz : z ≤ 255) :
    Calls Try.prog 4 #[.slice a len cap, .slice a1 len1 cap1, .int .u8 (z : Int)] w (SegsIn w) := by
  have hl := hA.1
  have HF := Lib.hid (few_any a len cap 12 f w hA (by decide))
  have HN1 := Lib.hid (new_yes 18 w (by decide) (by decide))
  have HA := Lib.hid hA; have HI := Lib.hid hI
  have hok := new_ok 18 (by decide) (by decide)
  have hlen0 : (fresh (List.replicate 18 DiskP.blank)).S.length = 18 := by simp [fresh]
  have hcalm0 : Unfused (fresh (List.replicate 18 DiskP.blank)) := ⟨rfl, rfl⟩
  have HRN := Lib.hid (fun w => rnew_yes 18 w (by decide) (by decide))
  have HBK := Lib.hid blank_rk
  obtain ⟨S0, hS0⟩ : ∃ S0, List.replicate 18 DiskP.blank = S0 := ⟨_, rfl⟩
  rw [hS0] at HN1 hok hlen0 hcalm0
  simp only [hS0] at HRN
  have HOK0 := Lib.hid hok; have HLEN0 := Lib.hid hlen0; have HCALM0 := Lib.hid hcalm0
  clear hA hI hok hlen0 hcalm0 hS0
  go_enter Try.func4, Try.ntmps4
  go_wp2_with fail
  refine HF.out.mono ?_
  rintro e w' ⟨r, rfl, hfew, rfl⟩
  cases r with
  | false =>
    go_wp2_with fail
    refine (awake_in (Below.refl _ w)).mono ?_
    rintro e wq ⟨rfl, hb⟩
    have HB := Lib.hid hb
    clear hb
    go_wp2_with fail
    go_ret
    exact ⟨rfl, HB.out⟩
  | true =>
    obtain ⟨hl12, hkl⟩ := hfew rfl
    have HKL := Lib.hid hkl
    clear hfew hkl
    by_cases h20 : 20 < len1
    · go_wp2_with fail
      refine (awake_in (Below.refl _ w)).mono ?_
      rintro e wq ⟨rfl, hb⟩
      have HB := Lib.hid hb
      clear hb
      go_wp2_with fail
      go_ret
      exact ⟨rfl, HB.out⟩
    have h20' : len1 ≤ 20 := by omega
    clear h20
    go_wp2_with fail
    refine HN1.out.mono ?_
    rintro e w1 ⟨d, L, rfl, hD, hL, hb⟩
    have HD1 := Lib.hid hD; have HL1 := Lib.hid hL; have HB1 := Lib.hid hb
    clear hD hL hb HN1
    go_wp2_with fail
    refine (HRN.out w1).mono ?_
    rintro e w2 ⟨x, M, rfl, hR, hM, hb⟩
    have HBO := Lib.hid (show Both w w2 d x (fresh S0) (fresh S0) from ⟨L, M, dk_below HD1.out hb, hR, fun k hk => ⟨HL1.out k hk, fun hkM => by have := hM k hkM; have := HD1.out.lt k hk; omega⟩, fun k hk => Nat.le_trans HB1.out.size (hM k hk), HB1.out.trans (hb.mono HB1.out.size)⟩)
    clear hR hM hb HD1 HL1 HB1 HRN
    go_wp2_with fail
    go_loopw [11] (fun i wr => ∃ (j : Nat) (st : St), j ≤ len ∧ i = .int .i64 (j : Int) ∧ Hid (Both w wr d x st st) ∧ Hid (Ok j st) ∧ Hid (st.S.length = 18) ∧ Hid (Unfused st)) (fun i _ => len - (intOf i).toNat)
    case atStart => exact ⟨0, fresh S0, Nat.zero_le _, rfl, HBO, HOK0, HLEN0, HCALM0⟩
    case round =>
      obtain ⟨j, st, hj, rfl, hBO, hOK, hLN, hCA⟩ := hrel
      by_cases hlt : j < len
      · obtain ⟨b, off, rfl, _, hc⟩ := HA.out.2.resolve_left (by omega)
        obtain ⟨y, hy⟩ : ∃ y, f j = y := ⟨_, rfl⟩
        have hat0 := hc j hlt
        have hat := hat0.below hBO.out.bel
        have hkl := HKL.out j hlt
        have hkn := (hc j hlt).kn
        rw [hy] at hat0 hat hkl hkn
        have HAT0 := Lib.hid hat0
        have HKN := Lib.hid hkn
        have HFIT := Lib.hid (hat.fit hkl)
        clear hc hy hkn hat0
        obtain ⟨kind, at_, fil, size, ka, kl, kc, kb⟩ := y
        have d0 := hat.c0; have d1 := hat.c1; have d2 := hat.c2; have d3 := hat.c3; have d4 := hat.c4
        simp only at d0 d1 d2 d3 d4 hkl
        clear hat
        by_cases k1 : kind = 1
        · subst k1
          have hss : (dat fil size).size ≤ 9223372036854775807 := by unfold dat; rw [fill_size]; unfold span; omega
          have hda := fun w => data_any 1 at_ fil size (.slice ka kl kc) w rfl
          have HOK2 := Lib.hid (wr_ok hOK.out at_ (dat fil size))
          have HLN2 := Lib.hid ((wr_len st at_ (dat fil size)).trans hLN.out)
          have HCA2 := Lib.hid (calm_wr hCA.out at_ (dat fil size))
          have HWR := Lib.hid (fun wa h => Both.stepD (w0 := w) (w := wa) (d := d) (x := x) (st := st) (sr := st) h (fun L hD => write_dk d j st L at_ (dat fil size) wa hD hOK.out (by omega) hss))
          have HDO := Lib.hid (fun sd wa (h : Both w wa d x sd st) (hk : BoolsAt wa ka kl kb) => h.stepR (fun M hR hM => do_rk x j st M ⟨1, at_, fil, size, ka, kl, kc, kb⟩ wa hR hOK.out (by omega) HFIT.out hk (fun h0 z hz hzM => by have := hM _ hzM; have := HKN.out h0 z hz; simp only at *; omega)))
          simp only [step_1] at HDO
          obtain ⟨dt, hdt⟩ : ∃ dt, dat fil size = dt := ⟨_, rfl⟩
          simp only [hdt] at hda HOK2 HLN2 HCA2 HWR HDO
          have HDA := Lib.hid hda
          generalize (DiskP.wr st at_ dt).1 = e1 at *
          generalize (DiskP.wr st at_ dt).2 = s1 at *
          unfold actV at *
          clear hss hda hdt
          have HB0 := hBO
          go_wp2_with fail
          refine wp_region_any (by kernel_rfl) ?_
          change wpAny _ _ _ _ _ _ _ (World.drew _)
          refine wpAny_take (i := 0) (v := ?_) rfl (by kernel_rfl) (by kernel_rfl) (by kernel_rfl) (fun _ _ _ h => h) (Or.inl ⟨by kernel_rfl, ?_⟩) ?_; rotate_left; focus ((intro w'); go_simp; (try with_reducible rfl))
          refine wpAny_take (i := 1) (v := ?_) rfl (by kernel_rfl) (by kernel_rfl) (by kernel_rfl) (fun _ _ _ h => h) (Or.inl ⟨by kernel_rfl, ?_⟩) ?_; rotate_left; focus ((intro w'); go_simp; (try with_reducible rfl))
          refine wpAny_take (i := 2) (v := ?_) rfl (by kernel_rfl) (by kernel_rfl) (by kernel_rfl) (fun _ _ _ h => h) (Or.inl ⟨by kernel_rfl, ?_⟩) ?_; rotate_left; focus ((intro w'); go_simp; (try with_reducible rfl))
          refine wpAny_take (i := 3) (v := ?_) rfl (by kernel_rfl) (by kernel_rfl) (by kernel_rfl) (fun _ _ _ h => h) (Or.inl ⟨by kernel_rfl, ?_⟩) ?_; rotate_left; focus ((intro w'); go_simp; (try with_reducible rfl))
          refine wpAny_take (i := 4) (v := ?_) rfl (by kernel_rfl) (by kernel_rfl) (by kernel_rfl) (fun _ _ _ h => h) (Or.inl ⟨by kernel_rfl, ?_⟩) ?_; rotate_left; focus ((intro w'); go_simp; (try with_reducible rfl))
          refine wpAny_take (i := 6) (v := ?_) rfl (by kernel_rfl) (by kernel_rfl) (by kernel_rfl) (fun _ _ _ h => h) (Or.inl ⟨by kernel_rfl, ?_⟩) ?_; rotate_left; focus ((intro w'); go_simp; (try with_reducible rfl))
          refine wpAny_take (i := 7) (v := ?_) rfl (by kernel_rfl) (by kernel_rfl) (by kernel_rfl) (fun _ _ _ h => h) (Or.inl ⟨by kernel_rfl, ?_⟩) ?_; rotate_left; focus ((intro w'); go_simp; (try with_reducible rfl))
          refine wpAny_take (i := 8) (v := ?_) rfl (by kernel_rfl) (by kernel_rfl) (by kernel_rfl) (fun _ _ _ h => h) (Or.inl ⟨by kernel_rfl, ?_⟩) ?_; rotate_left; focus ((intro w'); go_simp; (try with_reducible rfl))
          apply join1 (F := fun w4 => Both w w4 d x st st)
          · intro hG
            refine wpAny_ready (rs := [5, 9]) (by kernel_rfl) (by simp) ?_
            refine AllReady.cons rfl (fun K hK => ?_) (AllReady.cons rfl (fun K hK => ?_) AllReady.nil)
            · go_simp
              refine hK _ _ ?_
              clear hK K
              refine wpAny_ready (rs := [9]) (by kernel_rfl) (by simp) ?_
              refine AllReady.cons rfl (fun K hK => ?_) AllReady.nil
              go_simp
              refine hK _ _ ?_
              clear hK K
              refine wpAny_ready (rs := [10]) (by kernel_rfl) (by simp) ?_
              refine AllReady.cons rfl (fun K hK => ?_) AllReady.nil
              go_simp
              refine (HDA.out _).mono ?_
              rintro e w4 ⟨rfl, hb⟩
              have HB1 := Lib.hid (HB0.out.drew.below hb)
              have m1 := (HAT0.out.below HB1.out.bel).c1
              simp only at m1
              clear hb
              refine hK _ _ ?_
              clear hK K
              exact hG _ HB1.out
            · go_simp
              refine hK _ _ ?_
              clear hK K
              refine wpAny_ready (rs := [5, 10]) (by kernel_rfl) (by simp) ?_
              refine AllReady.cons rfl (fun K hK => ?_) (AllReady.cons rfl (fun K hK => ?_) AllReady.nil)
              · go_simp
                refine hK _ _ ?_
                clear hK K
                refine wpAny_ready (rs := [10]) (by kernel_rfl) (by simp) ?_
                refine AllReady.cons rfl (fun K hK => ?_) AllReady.nil
                go_simp
                refine (HDA.out _).mono ?_
                rintro e w4 ⟨rfl, hb⟩
                have HB1 := Lib.hid (HB0.out.drew.below hb)
                have m1 := (HAT0.out.below HB1.out.bel).c1
                simp only at m1
                clear hb
                refine hK _ _ ?_
                clear hK K
                exact hG _ HB1.out
              · go_simp
                refine (HDA.out _).mono ?_
                rintro e w4 ⟨rfl, hb⟩
                have HB1 := Lib.hid (HB0.out.drew.below hb)
                have m1 := (HAT0.out.below HB1.out.bel).c1
                simp only at m1
                clear hb
                refine hK _ _ ?_
                clear hK K
                refine wpAny_ready (rs := [5]) (by kernel_rfl) (by simp) ?_
                refine AllReady.cons rfl (fun K hK => ?_) AllReady.nil
                go_simp
                refine hK _ _ ?_
                clear hK K
                exact hG _ HB1.out
          · intro w4 hb4
            have HBD := Lib.hid hb4
            clear hb4
            refine Mix.wpAny_of_seqV [11] _ _ _ (by kernel_rfl) ?_
            simp only [Mix.pick, List.filterMap_cons, List.filterMap_nil, List.getElem?_cons_zero, List.getElem?_cons_succ]
            go_wp2_with fail
            refine (HWR.out _ HBD.out).mono ?_
            rintro e w5 ⟨rfl, hb5⟩
            have HB5 := Lib.hid hb5
            have HAT5 := Lib.hid (HAT0.out.below hb5.bel)
            have q0 := HAT5.out.c0; have q1 := HAT5.out.c1; have q2 := HAT5.out.c2; have q3 := HAT5.out.c3; have q4 := HAT5.out.c4
            simp only at q0 q1 q2 q3 q4
            clear hb5 HBD HWR HDA d0 d1 d2 d3 d4
            go_wp2_with fail
            refine (HDO.out _ _ HB5.out HAT5.out.kb).mono ?_
            rintro e w6 ⟨rfl, hb6⟩
            have HB6 := Lib.hid hb6
            clear hb6 HB5 HDO HAT5 q0 q1 q2 q3 q4
            go_wp2_with fail
            go_roundw
            case rel => exact ⟨j + 1, s1, by omega, by go_num, HB6, HOK2, HLN2, HCA2⟩
            case measure => simp [intOf]; omega
        have n1 : (kind == 1) = false := by simpa using k1
        by_cases k2 : kind = 2
        · subst k2
          have HOK2 := Lib.hid (fl_ok hOK.out)
          have HLN2 := Lib.hid ((fl_len st).trans hLN.out)
          have HCA2 := Lib.hid (calm_fl hCA.out)
          have HFL := Lib.hid (hBO.out.stepD (fun L hD => flush_dk d j st L wr hD hOK.out (by omega)))
          have HDO := Lib.hid (fun sd wa (h : Both w wa d x sd st) (hk : BoolsAt wa ka kl kb) => h.stepR (fun M hR hM => do_rk x j st M ⟨2, at_, fil, size, ka, kl, kc, kb⟩ wa hR hOK.out (by omega) HFIT.out hk (fun h0 z hz hzM => by have := hM _ hzM; have := HKN.out h0 z hz; simp only at *; omega)))
          simp only [step_2] at HDO
          generalize (DiskP.fl st).1 = e1 at *
          generalize (DiskP.fl st).2 = s1 at *
          unfold actV at *
          clear k1
          go_wp2_with fail
          refine HFL.out.mono ?_
          rintro e w5 ⟨rfl, hb5⟩
          have HB5 := Lib.hid hb5
          have HAT5 := Lib.hid (HAT0.out.below hb5.bel)
          have q0 := HAT5.out.c0; have q1 := HAT5.out.c1; have q2 := HAT5.out.c2; have q3 := HAT5.out.c3; have q4 := HAT5.out.c4
          simp only at q0 q1 q2 q3 q4
          clear hb5 HFL d0 d1 d2 d3 d4
          go_wp2_with fail
          refine (HDO.out _ _ HB5.out HAT5.out.kb).mono ?_
          rintro e w6 ⟨rfl, hb6⟩
          have HB6 := Lib.hid hb6
          clear hb6 HB5 HDO HAT5 q0 q1 q2 q3 q4
          go_wp2_with fail
          go_roundw
          case rel => exact ⟨j + 1, s1, by omega, by go_num, HB6, HOK2, HLN2, HCA2⟩
          case measure => simp [intOf]; omega
        have n2 : (kind == 2) = false := by simpa using k2
        clear k1 k2
        go_wp2_with fail
        go_roundw
        case rel => exact ⟨j + 1, st, by omega, by go_num, hBO, Lib.hid (hOK.out.mono (by omega)), hLN, hCA⟩
        case measure => simp [intOf]; omega
      · obtain rfl : j = len := by omega
        have HXL := Lib.hid hlt
        clear hlt HF HA HKL HLEN0 HCALM0 HOK0 HBO
        generalize wr = w3 at *
        go_wp2_with fail
        go_loopw [12, 13] (fun v i wa => ∃ k : Nat, k ≤ 18 ∧ i = .int .i64 (k : Int) ∧ Hid (wa.ownsRow w3.heap.size 9 1 v k ((was st k).map Value.string)) ∧ Hid (Below w3.heap.size w3 wa)) (fun _ i _ => 18 - (intOf i).toNat)
        case atStart => exact ⟨0, by omega, rfl, World.ownsRow_nil _ _ _ _, Below.refl _ w3⟩
        case round =>
          obtain ⟨k, hk, rfl, hO, hB⟩ := hrel
          by_cases hk18 : k < 18
          · obtain ⟨L, M, hD, _⟩ := hBO.out.below hB.out
            have hread := read_dk d j st L (k : Int) wr hD hOK.out (by omega)
            have HWS := Lib.hid (was_succ st k)
            obtain ⟨a3, c3, rfl⟩ := Ints.owns_slice' hO.out
            generalize (rd st (k : Int)).1 = s at *
            generalize (rd st (k : Int)).2 = er1 at *
            have HRD := Lib.hid hread
            have HLT := Lib.hid hO.out.lt
            clear hread hD
            go_wp2_with fail
            refine HRD.out.mono ?_
            rintro e w4 ⟨rfl, hb⟩
            have HO4 := Lib.hid (owns_heap hO.out (fun j e => hb.block j (owns_lt hO.out e)))
            have HB4 := Lib.hid (hB.out.trans (hb.mono hB.out.size))
            clear hb hO hB HRD
            go_wp2_with (at_builtin; refine append_str rfl (.tmp 110) (.tmp 112) rfl w3.heap.size w4 s (.slice a3 k c3) k (was st k) rfl HO4.out rfl (by omega) HB4.out.size ?_)
            intro v2 w5 hown2 hgrow2
            have HB5 := Lib.hid ((HB4.out.alloc HB4.out.size _).grown hgrow2 (by have := HB4.out.size; simp; omega) (fun k hk => (HLT.out k hk).1))
            have HO5 := Lib.hid (show w5.ownsRow w3.heap.size 9 1 v2 (k + 1) ((was st (k + 1)).map Value.string) by rw [HWS.out, List.map_append]; exact hown2)
            clear hown2 hgrow2 HO4 HB4
            go_wp2_with fail
            go_roundw
            case rel => exact ⟨k + 1, by omega, by go_num, HO5, HB5⟩
            case measure => simp [intOf]; omega
          · obtain rfl : k = 18 := by omega
            obtain ⟨g, c3, rfl⟩ := owns_some hO.out (by decide)
            have hg := hO.out.lt g rfl
            have HBB := Lib.hid (BothB.of (B := g) hBO.out hB.out hg.1 hg.2)
            have HROW := Lib.hid (fun k (hk : k < 18) => owns_cell hO.out rfl (was_get (st := st) hk))
            clear hO hB hg hBO
            generalize wr = w4 at *
            obtain ⟨zf, hzf⟩ : ∃ zf : Int, (z : Int) % 8 = zf := ⟨_, rfl⟩
            have hz0 : 0 ≤ zf ∧ zf ≤ 7 := by omega
            have HF1 := Lib.hid (HBB.out.stepD (fun L hD hL => fuse_dk d st L zf w4 hD (by omega) (by omega)))
            have HF2 := Lib.hid (fun wa (h : BothB w w4 wa g d x (fu st zf) st) => h.stepR (fun M hR hM => rfuse_rk x st M zf wa hR (by omega) (by omega)))
            have hokf : Ok j (fu st zf) := fu_ok hOK.out (by omega)
            have HE1 := Lib.hid (fun wa (h : BothB w w4 wa g d x (fu st zf) (fu st zf)) => h.stepD (fun L hD hL => erase_dk d j (fu st zf) L a1 len1 cap1 xs wa hD hokf (by omega) (HI.out.keep h.bel) (ints_apart HI.out hL)))
            have HE2 := Lib.hid (fun sd wa (h : BothB w w4 wa g d x sd (fu st zf)) => h.stepR (fun M hR hM => rerase_rk x j (fu st zf) M a1 len1 cap1 xs wa hR hokf (by omega) (HI.out.keep h.bel) (ints_apart HI.out hM)))
            have hok2 := er_ok xs (fu st zf) false j hokf
            have hln2 : (er (fu st zf) false xs).2.S.length = 18 := (er_len xs _ _).trans hLN.out
            have hsure := fun h0 => (er_sure xs (fu st zf) false hCA.out.2 h0).2
            have hxl := HI.out.1
            rw [hxl] at hok2
            generalize er (fu st zf) false xs = r at *
            obtain ⟨rv, s2⟩ := r
            simp only at hok2 hln2 hsure HE1 HE2
            have hsure2 : rv = 0 → ∀ i : Nat, i < 18 → rd s2 (i : Int) = (if (i : Int) ∈ xs then DiskP.blank else (rd st (i : Int)).1, 0) := fun h0 i hi => hsure h0 i (by show i < st.S.length; rw [hLN.out]; exact hi)
            have HSURE := Lib.hid hsure2
            have HOK2 := Lib.hid hok2; have HLN2 := Lib.hid hln2
            clear hsure hsure2 hok2 hln2 hokf hxl hOK hLN hCA
            go_wp2_with fail
            refine HF1.out.mono ?_
            rintro e w5 ⟨rfl, hb5⟩
            have HB5 := Lib.hid hb5
            clear hb5 HBB HF1
            go_wp2_with fail
            refine (HF2.out _ HB5.out).mono ?_
            rintro e w6 ⟨rfl, hb6⟩
            have HB6 := Lib.hid hb6
            clear hb6 HB5 HF2 hzf
            go_wp2_with fail
            refine (HE1.out _ HB6.out).mono ?_
            rintro e w7 ⟨rfl, hb7⟩
            have HB7 := Lib.hid hb7
            clear hb7 HB6 HE1
            go_wp2_with fail
            refine (HE2.out _ _ HB7.out).mono ?_
            rintro e w8 ⟨rfl, hb8⟩
            have HB8 := Lib.hid hb8.drew
            clear hb8 HB7 HE2
            go_wp2_with fail
            obtain ⟨L, M, hD, hR, _⟩ := HB8.out
            obtain ⟨gx, capx, wx, hRA, _⟩ := hR
            have hwn : s2.W.length ≤ 1000000000 := by have := HOK2.out.wn; omega
            obtain ⟨ax, cx, rfl, hwx⟩ := wts_of hRA.wts rfl hwn
            have q0 : w8.drew.cell? ⟨x, 0, none⟩ = some (.slice (some ⟨gx, 0, none⟩) s2.S.length capx) := cell_of_heap hRA.blk
            have q1 : w8.drew.cell? ⟨x, 1, none⟩ = some (.slice ax s2.W.length cx) := cell_of_heap hRA.blk
            have q3 : w8.drew.cell? ⟨x, 3, none⟩ = some (.int .i64 (s2.ops : Int)) := cell_of_heap hRA.blk
            have hxl : x < w8.drew.heap.size := heap_lt hRA.blk
            have HRS := Lib.hid (strs_of hRA.sec HOK2.out.hi)
            have HD := Lib.hid hD; have HWX := Lib.hid hwx; have HWN := Lib.hid hwn
            have HQ0 := Lib.hid (fun wa (hb : Below w8.drew.heap.size w8.drew wa) => (hb.cell (p := ⟨x, 0, none⟩) hxl).trans q0)
            have HQ1 := Lib.hid (fun wa (hb : Below w8.drew.heap.size w8.drew wa) => (hb.cell (p := ⟨x, 1, none⟩) hxl).trans q1)
            have HQ3 := Lib.hid (fun wa (hb : Below w8.drew.heap.size w8.drew wa) => (hb.cell (p := ⟨x, 3, none⟩) hxl).trans q3)
            have HSEC := Lib.hid (fun wa hDk => sectors_dk d (j + len1 + 1) s2 L wa hDk HOK2.out)
            have HWTS := Lib.hid (fun wa hDk => waits_dk d (j + len1 + 1) s2 L wa hDk HOK2.out (by omega))
            have HOPS := Lib.hid (fun wa hDk => ops_dk d s2 L wa hDk)
            have hhi := HOK2.out.hi
            clear hD hRA hwx hwn q1 q3
            refine wp_region_any (by kernel_rfl) ?_
            change wpAny _ _ _ _ _ _ _ (World.drew _)
            refine wpAny_take (i := 0) (v := ?_) rfl (by kernel_rfl) (by kernel_rfl) (by kernel_rfl) (fun _ _ _ h => h) (Or.inl ⟨by kernel_rfl, ?_⟩) ?_; rotate_left; focus ((intro w'); go_simp; (try with_reducible rfl))
            refine wpAny_take (i := 1) (v := ?_) rfl (by kernel_rfl) (by kernel_rfl) (by kernel_rfl) (fun _ _ _ h => h) (Or.inl ⟨by kernel_rfl, ?_⟩) ?_; rotate_left; focus ((intro w'); go_simp; (try with_reducible rfl))
            refine wpAny_take (i := 2) (v := ?_) rfl (by kernel_rfl) (by kernel_rfl) (by kernel_rfl) (fun _ _ _ h => h) (Or.inl ⟨by kernel_rfl, ?_⟩) ?_; rotate_left; focus ((intro w'); go_simp; (try with_reducible rfl))
            refine wpAny_take (i := 3) (v := ?_) rfl (by kernel_rfl) (by kernel_rfl) (by kernel_rfl) (fun _ _ _ h => h) (Or.inl ⟨by kernel_rfl, ?_⟩) ?_; rotate_left; focus ((intro w'); go_simp; (try with_reducible rfl))
            refine wpAny_take (i := 4) (v := ?_) rfl (by kernel_rfl) (by kernel_rfl) (by kernel_rfl) (fun _ _ _ h => h) (Or.inl ⟨by kernel_rfl, ?_⟩) ?_; rotate_left; focus ((intro w'); go_simp; (try with_reducible rfl))
            refine wpAny_take (i := 6) (v := ?_) rfl (by kernel_rfl) (by kernel_rfl) (by kernel_rfl) (fun _ _ _ h => h) (Or.inl ⟨by kernel_rfl, ?_⟩) ?_; rotate_left; focus ((intro w'); go_simp; (try with_reducible rfl))
            refine wpAny_take (i := 7) (v := ?_) rfl (by kernel_rfl) (by kernel_rfl) (by kernel_rfl) (fun _ _ _ h => h) (Or.inl ⟨by kernel_rfl, ?_⟩) ?_; rotate_left; focus ((intro w'); go_simp; (try with_reducible rfl))
            refine wpAny_take (i := 8) (v := ?_) rfl (by kernel_rfl) (by kernel_rfl) (by kernel_rfl) (fun _ _ _ h => h) (Or.inl ⟨by kernel_rfl, ?_⟩) ?_; rotate_left; focus ((intro w'); go_simp; (try with_reducible rfl))
            apply join3 (F := fun wz g1 c1 => Below w8.drew.heap.size w8.drew wz ∧ StrsAt wz (some ⟨g1, 0, none⟩) s2.S.length s2.S)
            · intro hG
              refine wpAny_ready (rs := [5, 9]) (by kernel_rfl) (by simp) ?_
              refine AllReady.cons rfl (fun K hK => ?_) (AllReady.cons rfl (fun K hK => ?_) AllReady.nil)
              · go_simp
                refine (HSEC.out _ HD.out).mono ?_
                rintro e wz ⟨g1, c1, rfl, hown, hb⟩
                have HZ := Lib.hid (show Below w8.drew.heap.size w8.drew wz ∧ StrsAt wz (some ⟨g1, 0, none⟩) s2.S.length s2.S from ⟨hb, strs_of hown hhi⟩)
                clear hown hb
                have q5 := HQ0.out _ HZ.out.1
                refine hK _ _ ?_
                clear hK K
                refine wpAny_ready (rs := [9]) (by kernel_rfl) (by simp) ?_
                refine AllReady.cons rfl (fun K hK => ?_) AllReady.nil
                go_simp
                refine hK _ _ ?_
                clear hK K
                exact hG wz g1 c1 HZ.out
              · go_simp
                refine hK _ _ ?_
                clear hK K
                refine wpAny_ready (rs := [5]) (by kernel_rfl) (by simp) ?_
                refine AllReady.cons rfl (fun K hK => ?_) AllReady.nil
                go_simp
                refine (HSEC.out _ HD.out).mono ?_
                rintro e wz ⟨g1, c1, rfl, hown, hb⟩
                have HZ := Lib.hid (show Below w8.drew.heap.size w8.drew wz ∧ StrsAt wz (some ⟨g1, 0, none⟩) s2.S.length s2.S from ⟨hb, strs_of hown hhi⟩)
                clear hown hb
                refine hK _ _ ?_
                clear hK K
                exact hG wz g1 c1 HZ.out
            · intro w9 g1 c1 hz9
              obtain ⟨hb9, hst9⟩ := hz9
              have HB9 := Lib.hid hb9
              have HSAME := Lib.hid (same_yes (some ⟨g1, 0, none⟩) (some ⟨gx, 0, none⟩) s2.S.length c1 capx s2.S w9 hst9 (HRS.out.below hb9))
              clear hb9 hst9 q0
              refine wpAny_ready (rs := [10]) (by kernel_rfl) (by simp) ?_
              refine AllReady.cons rfl (fun K hK => ?_) AllReady.nil
              go_simp
              refine (HSAME.out).mono ?_
              rintro e w10 ⟨rfl, hb⟩
              have HB10 := Lib.hid (HB9.out.trans (hb.mono HB9.out.size))
              have HD10 := Lib.hid (dk_below (w := w8.drew) HD.out HB10.out)
              have q6 := HQ1.out _ HB10.out
              clear hb HSAME HB9
              refine hK _ _ ?_
              clear hK K
              refine wpAny_take (i := 11) (v := ?_) rfl (by kernel_rfl) (by kernel_rfl) (by kernel_rfl) (fun _ _ _ h => h) (Or.inl ⟨by kernel_rfl, ?_⟩) ?_; rotate_left; focus ((intro w'); go_simp; (try with_reducible rfl))
              refine wpAny_take (i := 12) (v := ?_) rfl (by kernel_rfl) (by kernel_rfl) (by kernel_rfl) (fun _ _ _ h => h) (Or.inl ⟨by kernel_rfl, ?_⟩) ?_; rotate_left; focus ((intro w'); go_simp; (try with_reducible rfl))
              refine wpAny_take (i := 13) (v := ?_) rfl (by kernel_rfl) (by kernel_rfl) (by kernel_rfl) (fun _ _ _ h => h) (Or.inl ⟨by kernel_rfl, ?_⟩) ?_; rotate_left; focus ((intro w'); go_simp; (try with_reducible rfl))
              refine wpAny_take (i := 14) (v := ?_) rfl (by kernel_rfl) (by kernel_rfl) (by kernel_rfl) (fun _ _ _ h => h) (Or.inl ⟨by kernel_rfl, ?_⟩) ?_; rotate_left; focus ((intro w'); go_simp; (try with_reducible rfl))
              refine wpAny_take (i := 16) (v := ?_) rfl (by kernel_rfl) (by kernel_rfl) (by kernel_rfl) (fun _ _ _ h => h) (Or.inl ⟨by kernel_rfl, ?_⟩) ?_; rotate_left; focus ((intro w'); go_simp; (try with_reducible rfl))
              refine wpAny_take (i := 17) (v := ?_) rfl (by kernel_rfl) (by kernel_rfl) (by kernel_rfl) (fun _ _ _ h => h) (Or.inl ⟨by kernel_rfl, ?_⟩) ?_; rotate_left; focus ((intro w'); go_simp; (try with_reducible rfl))
              refine wpAny_take (i := 18) (v := ?_) rfl (by kernel_rfl) (by kernel_rfl) (by kernel_rfl) (fun _ _ _ h => h) (Or.inl ⟨by kernel_rfl, ?_⟩) ?_; rotate_left; focus ((intro w'); go_simp; (try with_reducible rfl))
              apply join4 (F := fun wz a2 c2 => Below w10.heap.size w10 wz ∧ WtsAt wz a2 s2.W.length s2.W)
              · intro hG
                refine wpAny_ready (rs := [15, 19]) (by kernel_rfl) (by simp) ?_
                refine AllReady.cons rfl (fun K hK => ?_) (AllReady.cons rfl (fun K hK => ?_) AllReady.nil)
                · go_simp
                  refine (HWTS.out _ HD10.out).mono ?_
                  rintro e wz ⟨v, rfl, hown, hb⟩
                  obtain ⟨a2, c2, rfl, hw2⟩ := wts_of hown rfl HWN.out
                  have HZ := Lib.hid (show Below w10.heap.size w10 wz ∧ WtsAt wz a2 s2.W.length s2.W from ⟨hb, hw2⟩)
                  clear hown hb hw2
                  have q7 := HQ1.out _ (HB10.out.trans (HZ.out.1.mono HB10.out.size))
                  refine hK _ _ ?_
                  clear hK K
                  refine wpAny_ready (rs := [19]) (by kernel_rfl) (by simp) ?_
                  refine AllReady.cons rfl (fun K hK => ?_) AllReady.nil
                  go_simp
                  refine hK _ _ ?_
                  clear hK K
                  exact hG wz a2 c2 HZ.out
                · go_simp
                  refine hK _ _ ?_
                  clear hK K
                  refine wpAny_ready (rs := [15]) (by kernel_rfl) (by simp) ?_
                  refine AllReady.cons rfl (fun K hK => ?_) AllReady.nil
                  go_simp
                  refine (HWTS.out _ HD10.out).mono ?_
                  rintro e wz ⟨v, rfl, hown, hb⟩
                  obtain ⟨a2, c2, rfl, hw2⟩ := wts_of hown rfl HWN.out
                  have HZ := Lib.hid (show Below w10.heap.size w10 wz ∧ WtsAt wz a2 s2.W.length s2.W from ⟨hb, hw2⟩)
                  clear hown hb hw2
                  refine hK _ _ ?_
                  clear hK K
                  exact hG wz a2 c2 HZ.out
              · intro w11 a2 c2 hz11
                obtain ⟨hb11, hw11⟩ := hz11
                have HB11 := Lib.hid (HB10.out.trans (hb11.mono HB10.out.size))
                have HSW := Lib.hid (sameWaits_yes a2 ax s2.W.length c2 cx s2.W w11 hw11 (HWX.out.below HB11.out))
                clear hb11 hw11 q6 HB10 HD10
                refine wpAny_ready (rs := [20]) (by kernel_rfl) (by simp) ?_
                refine AllReady.cons rfl (fun K hK => ?_) AllReady.nil
                go_simp
                refine (HSW.out).mono ?_
                rintro e w12 ⟨rfl, hb⟩
                have HB12 := Lib.hid (HB11.out.trans (hb.mono HB11.out.size))
                have HD12 := Lib.hid (dk_below (w := w8.drew) HD.out HB12.out)
                have q8 := HQ3.out _ HB12.out
                clear hb HSW HB11
                refine hK _ _ ?_
                clear hK K
                refine wpAny_take (i := 21) (v := ?_) rfl (by kernel_rfl) (by kernel_rfl) (by kernel_rfl) (fun _ _ _ h => h) (Or.inl ⟨by kernel_rfl, ?_⟩) ?_; rotate_left; focus ((intro w'); go_simp; (try with_reducible rfl))
                refine wpAny_take (i := 22) (v := ?_) rfl (by kernel_rfl) (by kernel_rfl) (by kernel_rfl) (fun _ _ _ h => h) (Or.inl ⟨by kernel_rfl, ?_⟩) ?_; rotate_left; focus ((intro w'); go_simp; (try with_reducible rfl))
                refine wpAny_take (i := 23) (v := ?_) rfl (by kernel_rfl) (by kernel_rfl) (by kernel_rfl) (fun _ _ _ h => h) (Or.inl ⟨by kernel_rfl, ?_⟩) ?_; rotate_left; focus ((intro w'); go_simp; (try with_reducible rfl))
                refine wpAny_take (i := 24) (v := ?_) rfl (by kernel_rfl) (by kernel_rfl) (by kernel_rfl) (fun _ _ _ h => h) (Or.inl ⟨by kernel_rfl, ?_⟩) ?_; rotate_left; focus ((intro w'); go_simp; (try with_reducible rfl))
                refine wpAny_take (i := 26) (v := ?_) rfl (by kernel_rfl) (by kernel_rfl) (by kernel_rfl) (fun _ _ _ h => h) (Or.inl ⟨by kernel_rfl, ?_⟩) ?_; rotate_left; focus ((intro w'); go_simp; (try with_reducible rfl))
                refine wpAny_take (i := 27) (v := ?_) rfl (by kernel_rfl) (by kernel_rfl) (by kernel_rfl) (fun _ _ _ h => h) (Or.inl ⟨by kernel_rfl, ?_⟩) ?_; rotate_left; focus ((intro w'); go_simp; (try with_reducible rfl))
                refine wpAny_take (i := 28) (v := ?_) rfl (by kernel_rfl) (by kernel_rfl) (by kernel_rfl) (fun _ _ _ h => h) (Or.inl ⟨by kernel_rfl, ?_⟩) ?_; rotate_left; focus ((intro w'); go_simp; (try with_reducible rfl))
                apply join
                · intro hG
                  refine wpAny_ready (rs := [25, 29]) (by kernel_rfl) (by simp) ?_
                  refine AllReady.cons rfl (fun K hK => ?_) (AllReady.cons rfl (fun K hK => ?_) AllReady.nil)
                  · go_simp
                    refine (HOPS.out _ HD12.out).mono ?_
                    rintro e w' ⟨rfl, rfl⟩
                    refine hK _ _ ?_
                    clear hK K
                    refine wpAny_ready (rs := [29]) (by kernel_rfl) (by simp) ?_
                    refine AllReady.cons rfl (fun K hK => ?_) AllReady.nil
                    go_simp
                    refine hK _ _ ?_
                    clear hK K
                    exact hG
                  · go_simp
                    refine hK _ _ ?_
                    clear hK K
                    refine wpAny_ready (rs := [25]) (by kernel_rfl) (by simp) ?_
                    refine AllReady.cons rfl (fun K hK => ?_) AllReady.nil
                    go_simp
                    refine (HOPS.out _ HD12.out).mono ?_
                    rintro e w' ⟨rfl, rfl⟩
                    refine hK _ _ ?_
                    clear hK K
                    exact hG
                · refine Mix.wpAny_of_seqV [30, 31] _ _ _ (by kernel_rfl) ?_
                  simp only [Mix.pick, List.filterMap_cons, List.filterMap_nil, List.getElem?_cons_zero, List.getElem?_cons_succ]
                  have HBE := Lib.hid (BothB.below HB8.out HB12.out)
                  have HBL := Lib.hid (HBE.out.blk.1)
                  have HROW2 := Lib.hid (fun wa (hb : Below w12.heap.size w12 wa) k (hk : k < 18) => (hb.cell (p := ⟨g, k, none⟩) HBE.out.blk.2).trans ((World.cell?_of_block (a := ⟨g, k, none⟩) HBL.out).trans (HROW.out k hk)))
                  clear q8 HB12 HBL HROW HQ0 HQ1 HQ3 HSEC HWTS HOPS HRS HWX
                  by_cases hg0 : rv = 0
                  · subst hg0
                    have HS0 := Lib.hid (HSURE.out rfl)
                    clear HSURE
                    go_wp2_with fail
                    go_loopw [18] (fun i wa => ∃ k : Nat, k ≤ 18 ∧ i = .int .i64 (k : Int) ∧ Hid (Below w12.heap.size w12 wa)) (fun i _ => 18 - (intOf i).toNat)
                    case atStart => exact ⟨0, by omega, rfl, Below.refl _ w12⟩
                    case round =>
                      obtain ⟨k, hk, rfl, hB⟩ := hrel
                      by_cases hk18 : k < 18
                      · have HBK2 := Lib.hid (HBE.out.below hB.out)
                        have hread := read_dk d (j + len1 + 1) s2 L (k : Int) wr (dk_below HD12.out hB.out) HOK2.out (by omega)
                        rw [HS0.out k hk18] at hread
                        have hHas := fun wa hb => has_any a1 len1 cap1 (k : Int) xs wa (HI.out.keep hb) hl1
                        have d3 := fun wa hb => HROW2.out wa hb k hk18
                        by_cases m : (k : Int) ∈ xs
                        · rw [if_pos m] at hread
                          simp only [decide_eq_true m] at hHas
                          have HRD := Lib.hid hread; have HHAS := Lib.hid hHas
                          clear hread hHas d3 m
                          generalize DiskP.blank = bl at *
                          go_wp2_with fail
                          refine HRD.out.mono ?_
                          rintro e wb ⟨rfl, hb⟩
                          have HB13 := Lib.hid (hB.out.trans (hb.mono hB.out.size)); have HB14 := Lib.hid (HBK2.out.bel.trans (hb.mono HBK2.out.bel.size))
                          clear hb hB HRD HBK2
                          go_wp2_with fail
                          refine (HHAS.out _ HB14.out).mono ?_
                          rintro e w' ⟨rfl, rfl⟩
                          go_wp2_with fail
                          refine (HBK.out _).mono ?_
                          rintro e wc ⟨rfl, hb⟩
                          have HB15 := Lib.hid (HB13.out.trans (hb.mono HB13.out.size)); have HB16 := Lib.hid (HB14.out.trans (hb.mono HB14.out.size))
                          clear hb HB13 HB14
                          go_wp2_with fail
                          refine (HHAS.out _ HB16.out).mono ?_
                          rintro e w' ⟨rfl, rfl⟩
                          go_wp2_with fail
                          go_roundw
                          case rel => exact ⟨k + 1, by omega, by go_num, HB15⟩
                          case measure => simp [intOf]; omega
                        · rw [if_neg m] at hread
                          simp only [decide_eq_false m] at hHas
                          generalize (rd st (k : Int)).1 = s at *
                          have HRD := Lib.hid hread; have HHAS := Lib.hid hHas; have HD3 := Lib.hid d3
                          clear hread hHas d3 m
                          go_wp2_with fail
                          refine HRD.out.mono ?_
                          rintro e wb ⟨rfl, hb⟩
                          have HB13 := Lib.hid (hB.out.trans (hb.mono hB.out.size)); have HB14 := Lib.hid (HBK2.out.bel.trans (hb.mono HBK2.out.bel.size))
                          clear hb hB HRD HBK2
                          have d3 := HD3.out _ HB13.out
                          go_wp2_with fail
                          refine (HHAS.out _ HB14.out).mono ?_
                          rintro e w' ⟨rfl, rfl⟩
                          go_wp2_with fail
                          refine (HHAS.out _ HB14.out).mono ?_
                          rintro e w' ⟨rfl, rfl⟩
                          go_wp2_with fail
                          go_roundw
                          case rel => exact ⟨k + 1, by omega, by go_num, HB13⟩
                          case measure => simp [intOf]; omega
                      · obtain rfl : k = 18 := by omega
                        have HB17 := Lib.hid (HBE.out.bel.trans (hB.out.mono HBE.out.bel.size))
                        clear hB
                        go_wp2_with fail
                        refine (awake_in HB17.out).mono ?_
                        rintro e wq ⟨rfl, hb⟩
                        have HBQ := Lib.hid hb
                        clear hb
                        go_wp2_with fail
                        go_ret
                        exact ⟨rfl, HBQ.out⟩
                  · have hne : (rv == 0) = false := by simpa using hg0
                    clear HSURE hg0
                    go_wp2_with fail
                    go_loopw [18] (fun i wa => i = .int .i64 0 ∧ w12 = wa) (fun _ _ => 0)
                    case atStart => exact ⟨rfl, rfl⟩
                    case round =>
                      obtain ⟨rfl, rfl⟩ := hrel
                      go_wp2_with fail
                      refine (awake_in HBE.out.bel).mono ?_
                      rintro e wq ⟨rfl, hb⟩
                      have HBQ := Lib.hid hb
                      clear hb
                      go_wp2_with fail
                      go_ret
                      exact ⟨rfl, HBQ.out⟩
end Go.Proofs.Ytklklcohbfnpjaa
