/-
  append behind what left tells: where there is room, in its own row; else in a new one.
-/
import Derived.Test.YtnnakhdndmjmiaaGreatNoDiskN
import Derived.Test.YtnnakhdndmjmiaaGreatNoSuperPlain
import Derived.Test.YtnnakhdndmjmiaaGreatNoWalC
import Derived.Test.YtnnakhdndmjmiaaGreatNoWalG
import Derived.Test.YtnnakhdndmjmiaaGreatNoWalI
import Derived.ArgAppend
import Derived.Test.YtnnakhdndmjmiaaGreatRows
import Derived.OpenShut
set_option linter.unusedVariables false
set_option maxRecDepth 4000
namespace Go.Proofs.YtnnakhdndmjmiaaGreat.Wal
open Go.RowKit DiskP SegsP WalP Disk
open Ints (IntsAt IntsAt.keep)

/-- What left tells: a part of a row of the call's own. -/
def LeftAt (w : World) (a : Option Addr) (c : Nat) (R : List Int) (p : Nat) : Prop := ∃ g cg cur, a = cutA (some ⟨g, 0, none⟩) cg p ∧ c = cg - p ∧ w.heap[g]? = some (.cells cur 3 (0, 0)) ∧ R.length ≤ cg ∧ cg ≤ maxLen ∧ cur.size = cg ∧ cur.toList.take R.length = Ints.cellsI R
theorem cutA_some {g c p : Nat} : ∃ o, cutA (some ⟨g, 0, none⟩) c p = some ⟨g, o, none⟩ := by
  unfold cutA
  split
  · exact ⟨0, rfl⟩
  · exact ⟨0 + p, by show some (Addr.add _ _) = _; rw [Addr.add_lit]⟩
theorem LeftAt.block {w w' : World} {a : Option Addr} {c : Nat} {R : List Int} {p : Nat} (h : LeftAt w a c R p) (hb : ∀ y, a = some y → w'.heap[y.block]? = w.heap[y.block]?) : LeftAt w' a c R p := by
  obtain ⟨g, cg, cur, h1, h2, h3, h4⟩ := h
  obtain ⟨o, ho⟩ := cutA_some (g := g) (c := cg) (p := p)
  exact ⟨g, cg, cur, h1, h2, (hb ⟨g, o, none⟩ (h1.trans ho)).trans h3, h4⟩
theorem left_lt {w : World} {a : Option Addr} {c : Nat} {R : List Int} {p : Nat} (h : LeftAt w a c R p) : ∀ y, a = some y → y.block < w.heap.size := by
  obtain ⟨g, cg, cur, h1, h2, h3, h4⟩ := h
  intro y hy
  obtain ⟨x, hx, he⟩ := cutA_block (h1.symm.trans hy)
  cases hx
  rw [he]
  exact heap_lt h3
theorem LeftAt.keep {w w' : World} {a : Option Addr} {c : Nat} {R : List Int} {p : Nat} (h : LeftAt w a c R p) (hb : Below w.heap.size w w') : LeftAt w' a c R p :=
  h.block fun y hy => hb.block _ (left_lt h y hy)
end Go.Proofs.YtnnakhdndmjmiaaGreat.Wal

/-
  The contract of Append: a log that goes on, where it has to grow and does: the superblock that is stored, the batch behind it.
-/
set_option linter.unusedVariables false
set_option maxRecDepth 4000
namespace Go.Proofs.YtnnakhdndmjmiaaGreat.Wal
open Go.RowKit DiskP SegsP WalP Disk
open Ints (IntsAt IntsAt.keep cellsI)
open SuperP (Sup)
open FrameP (frs sz Rec tk)

theorem lay_ok {st : St} {x : Sup} {n : Nat} (h : Ok n st) : Ok (n + 10) (lay st x).2 := by
  unfold lay
  split
  · exact (er_ok _ _ _ _ h).mono (by simp)
  · exact (puts_ok _ _ _ (er_ok _ _ _ _ h)).mono (by simp)
end Go.Proofs.YtnnakhdndmjmiaaGreat.Wal

/-
  The contracts of Open, in the laws' form: a new disk, a disk that keeps something, a log at rest.
-/
set_option linter.unusedVariables false
set_option maxRecDepth 4000
namespace Go.Proofs.YtnnakhdndmjmiaaGreat.Wal
open Go.RowKit DiskP SegsP WalP Disk
open Ints (IntsAt IntsAt.keep)
open SuperP (Sup)

theorem rests_eta {lg : Lg} {st : St} {K : Kept} (h : Rests lg st K) : lg = ⟨lg.x, atn lg.x (octs K.bats), lg.x.base + K.bats.length, false⟩ := by
  obtain ⟨x, p, n, d⟩ := lg
  have h1 := h.pos; have h2 := h.num; have h3 := h.alive
  simp only at h1 h2 h3
  rw [h1, h2, h3]
theorem good_cnt {S : List ByteArray} {x : Sup} {B : Option (List UInt8)} {l : List (List UInt8)} (h : WalP.Good S x B l) : 0 < SegsP.cnt (S.length : Int) := by
  have hlog : 0 < x.log.length := h.fit.2.2.1.2.2.2.2.2.2.1
  have hm : x.log[0] ∈ x.chk ++ x.log := List.mem_append_right _ (List.getElem_mem _)
  have h1 := h.named _ hm
  have h2 := fit_range h.fit _ hm
  omega
theorem cur_is_good (L : List Nat) (B d n : Nat) (st : St) (w : World) (h : LS w L B d lgz st) (hok : Ok n st) (hn : n ≤ 900000) (hi : Idle st) (x : Sup) (K : Option (List UInt8)) (l : List (List UInt8)) (hg : WalP.Good st.S x K l) :
    Calls Tryz.prog 48 #[.pointer (some ⟨B, 0, none⟩)] w (CurOut L B d x st w) := by
  have h2 := hg.two
  obtain ⟨bb, hbb⟩ := good_best hi hg
  have r0 := rd_idle hi (p := 0) ⟨by omega, by omega⟩
  have r1 := rd_idle hi (p := 1) ⟨by omega, by omega⟩
  have hs := SuperP.segs_len (fit_segs hg.fit)
  have hlog : 0 < x.log.length := hg.fit.2.2.1.2.2.2.2.2.2.1
  have s0 : (sec st.S (0 : Int).toNat).size = 128 := sec_size hok (by show (0 : Int).toNat < _; omega)
  have s1 : (sec st.S (1 : Int).toNat).size = 128 := sec_size hok (by show (1 : Int).toNat < _; omega)
  have hhi := hok.hi
  refine (cur_good L B d n lgz st w h hok hn x bb (by rw [r0]) (by rw [r1]) ⟨by rw [r0, s0]; decide, by rw [r1, s1]; decide⟩ hbb (by rw [List.length_append]; omega) (by omega) hg.named (by omega)).mono ?_
  rintro e w' ⟨⟨a1, c1, a2, c2, rfl, hS, n1, n2, b1, b2⟩, hB⟩
  have hBl := h.lk.lt
  have out : ∀ y : Addr, w.heap.size ≤ y.block → y.block ∉ B :: L := fun y hy hm => by
    rcases List.mem_cons.1 hm with g | g
    · omega
    · have := h.dk.lt _ g; omega
  exact ⟨a1, c1, a2, c2, L, rfl, hS.chk, hS.log, n1, n2, fun _ y hy => out y (b1 y hy), fun _ y hy => out y (b2 y hy), h.below hB, Upd.of_below hB⟩
theorem open_rests (L : List Nat) (d n : Nat) (lg : Lg) (st : St) (w : World) (h : Dk w L d st) (hok : Ok n st) (hn : n ≤ 700000) (K : Kept) (hr : Rests lg st K) :
    Calls Tryz.prog 17 #[.pointer (some ⟨d, 0, none⟩)] w fun e w' => OpenOk w L d lg st K e w' := by
  have hg := hr.live.good
  have hi := hr.live.idle
  have h2 := hg.two
  have hhi := hok.hi
  refine (open_walk L d n st w h hi.2 (good_cnt hg) (by omega) (by omega) lg.x K st hi hg hr.takes hok (by omega) (fun w1 B hl => cur_is_good L B d n st w1 hl hok (by omega) hi lg.x K.base _ hg) 0 st (open_live hr.live)).mono ?_
  rintro e w' ⟨g1, _⟩
  have g := g1 rfl
  rw [← rests_eta hr] at g
  exact g
theorem open_new (L : List Nat) (d m : Nat) (w : World) (hm : 10 ≤ m) (hm2 : m ≤ 512) (h : Dk w L d (DiskP.fresh (List.replicate m DiskP.blank))) :
    Calls Tryz.prog 17 #[.pointer (some ⟨d, 0, none⟩)] w fun e w' => ∃ st', OpenOk w L d ⟨sup0, 0, 0, false⟩ st' ⟨none, []⟩ e w' ∧ Rests ⟨sup0, 0, 0, false⟩ st' ⟨none, []⟩ ∧ st'.S.length = m ∧ Unfused st' ∧ Ok 10 st' := by
  obtain ⟨s3, he, hl, hb, hc, hr, hlen, hu⟩ := blank_new hm hm2
  have hl0 : (DiskP.fresh (List.replicate m DiskP.blank)).S.length = m := by simp [DiskP.fresh]
  have hbs : ∀ s ∈ List.replicate m DiskP.blank, s.size = 128 := fun s hs => by rw [List.eq_of_mem_replicate hs]; exact blank_size
  have hok : Ok 0 (DiskP.fresh (List.replicate m DiskP.blank)) := fresh_ok (by rw [List.length_replicate]; omega) (by rw [List.length_replicate]; omega) hbs
  have hok3 : Ok 10 s3 := by
    have h9 := lay_ok (x := sup0) hok
    rw [hl] at h9
    exact h9
  have hi : Idle (DiskP.fresh (List.replicate m DiskP.blank)) := ⟨rfl, rfl⟩
  have r0 := rd_idle hi (p := 0) ⟨by omega, by omega⟩
  have r1 := rd_idle hi (p := 1) ⟨by omega, by omega⟩
  have s0 : (sec (DiskP.fresh (List.replicate m DiskP.blank)).S (0 : Int).toNat).size = 128 := sec_size hok (by show (0 : Int).toNat < _; omega)
  have s1 : (sec (DiskP.fresh (List.replicate m DiskP.blank)).S (1 : Int).toNat).size = 128 := sec_size hok (by show (1 : Int).toNat < _; omega)
  generalize DiskP.fresh (List.replicate m DiskP.blank) = st at *
  have hcur : ∀ w1 B, LS w1 L B d lgz st → Calls Tryz.prog 48 #[.pointer (some ⟨B, 0, none⟩)] w1 (CurOut L B d sup0 s3 w1) := fun w1 B hls => by
    refine (cur_new L B d 0 lgz st w1 hls hok (by omega) (by rw [r0]) (by rw [r1]) ⟨by rw [r0, s0]; decide, by rw [r1, s1]; decide⟩ hb (by rw [hl0]; exact hc) st s3 he hl (by omega) (by omega)).mono ?_
    rintro e w' ⟨a2, L', rfl, hI, hnb, hls', hU⟩
    exact ⟨none, 0, some a2, 1, L', rfl, ⟨rfl, (fun x hx => by cases hx), .inl rfl⟩, hI, fun _ => rfl, (fun h => by cases h), (fun h0 => by cases h0), fun _ y hy => by cases hy; exact hnb, hls', hU⟩
  refine (open_walk L d 10 st w h hi.2 (by rw [hl0]; exact hc) (by omega) (by omega) sup0 ⟨none, []⟩ s3 hr.live.idle hr.live.good hr.takes hok3 (by omega) hcur 0 s3 (open_live hr.live)).mono ?_
  rintro e w' ⟨g1, _⟩
  have g := g1 rfl
  exact ⟨s3, by rw [rests_eta hr]; exact g, hr, hlen, hu, hok3⟩
end Go.Proofs.YtnnakhdndmjmiaaGreat.Wal

/-
  The contracts of Append and Check, in the laws' form: a log at rest, a log that is dead.
-/
set_option linter.unusedVariables false
set_option maxRecDepth 4000
namespace Go.Proofs.YtnnakhdndmjmiaaGreat.Wal
open Go.RowKit DiskP SegsP WalP Disk
open Ints (IntsAt IntsAt.keep)
open SuperP (Sup)
open FrameP (frs sz Rec tk)

theorem rests_lv {lg : Lg} {st : St} {K : Kept} {n : Nat} (hr : Rests lg st K) (hg : lg.x.gen < 1099511627776) (hN : lg.num < 1099511627776) (hok : Ok n st) (hn : n ≤ 700000) : Lv lg st n :=
  ⟨hr.live.good.fit, hr.live.good.named, by rw [hr.pos]; exact hr.live.good.split.1, ⟨(rests_num hr).1, hN⟩, hg, hok, by omega, hr.alive, hr.live.idle.2⟩
/-- One call, told by what it does without a program. -/
def Gone (w : World) (L : List Nat) (b d n : Nat) (lg : Lg) (st : St) (r : Int × Lg × St) (e : Ending) (w' : World) : Prop :=
  Ok (n + 2000) r.2.2 ∧ ((r.1 = 0 ∧ Told w L b d 0 r.2.1 r.2.2 e w') ∨ (r.1 ≠ 0 ∧ r.2.1.dead = true ∧ Told w L b d r.1 { lg with dead := true } r.2.2 e w') ∨ (r.1 ≠ 0 ∧ r.2 = (lg, st) ∧ Told w L b d r.1 lg st e w'))
theorem check_gone (L : List Nat) (b d n : Nat) (lg : Lg) (st : St) (w : World) (h : LS w L b d lg st) (hv : Lv lg st n) (s : List UInt8) (hs : s.length ≤ 52416) :
    Calls Tryz.prog 21 #[.pointer (some ⟨b, 0, none⟩), .string (bs s)] w (Gone w L b d n lg st (chk lg st s)) := by
  have hal := hv.alive; have hrn := hv.run
  have hok0 : Ok (n + 2000) st := hv.ok.mono (by omega)
  have hp := pc_pos s.length
  have hpl : pc s.length ≤ 504 := by unfold pc; omega
  have hnl := WalP.need_le (m := (pc s.length : Int)) (by omega)
  have hnr := WalP.need_room (m := (pc s.length : Int))
  have hn0 : 0 < SegsP.need (pc s.length : Int) := WalP.need_pos.2 (by omega)
  unfold chk
  simp only
  rw [if_neg (by rw [hal, hrn]; simp), if_neg (by omega), if_neg (by have := hv.gen; omega)]
  obtain ⟨m, hm⟩ : ∃ m : Nat, SegsP.need (pc s.length : Int) = (m : Int) := ⟨(SegsP.need (pc s.length : Int)).toNat, by omega⟩
  rw [hm] at hnl hnr hn0 ⊢
  rw [Int.toNat_natCast]
  have hm2 : m ≤ 64 := by omega
  by_cases hf : (WalP.free lg st.S.length).length < m + 1
  · rw [if_pos hf]
    refine (check_full L b d n m (m + 1) lg st w h hv s hs hm rfl hm2 hf).mono ?_
    rintro e w' g
    exact ⟨hok0, .inr (.inr ⟨by show (4 : Int) ≠ 0; decide, rfl, g⟩)⟩
  rw [if_neg hf]
  have hf' : m + 1 ≤ (WalP.free lg st.S.length).length := by omega
  have hto := take_one (WalP.free lg st.S.length) m (by omega)
  obtain ⟨c1, s1, he⟩ : ∃ c1 s1, er st false (secs ((WalP.free lg st.S.length).take (m + 1))) = (c1, s1) := ⟨_, _, rfl⟩
  obtain ⟨c2, s2, hw2⟩ : ∃ c2 s2, puts s1 ((secs ((WalP.free lg st.S.length).take m)).zip (seald (lg.x.gen + 1).toNat s)) = (c2, s2) := ⟨_, _, rfl⟩
  obtain ⟨c3, s3, hl⟩ : ∃ c3 s3, lay s2 (based lg.x lg.num s.length ((WalP.free lg st.S.length).take m) ((WalP.free lg st.S.length).getD m 0)) = (c3, s3) := ⟨_, _, rfl⟩
  have hbl : baseLay st lg.x lg.num s ((WalP.free lg st.S.length).take m) ((WalP.free lg st.S.length).getD m 0) = if c1 ≠ 0 then (c1, s1) else if c2 ≠ 0 then (c2, s2) else (c3, s3) := by
    unfold baseLay
    rw [hto, he]
    simp only
    rw [hw2]
    simp only
    rw [hl]
  have hsm : (secs ((WalP.free lg st.S.length).take (m + 1))).length ≤ 520 := by
    have h9 := secs_len ((WalP.free lg st.S.length).take (m + 1))
    rw [List.length_take] at h9
    omega
  have ho1 := er_ok (secs ((WalP.free lg st.S.length).take (m + 1))) st false n hv.ok
  rw [he] at ho1
  have ho1 : Ok (n + 600) s1 := ho1.mono (by omega)
  have hfn := fit_nums hv.fit
  have hgn := hv.gen
  have hsl : (seald (lg.x.gen + 1).toNat s).length ≤ 504 := by rw [seald_length]; exact hpl
  have ho2 := puts_ok ((secs ((WalP.free lg st.S.length).take m)).zip (seald (lg.x.gen + 1).toNat s)) s1 _ ho1
  rw [hw2] at ho2
  have ho2 : Ok (n + 1200) s2 := ho2.mono (by rw [List.length_zip]; omega)
  have ho3 := lay_ok (x := based lg.x lg.num s.length ((WalP.free lg st.S.length).take m) ((WalP.free lg st.S.length).getD m 0)) ho2
  rw [hl] at ho3
  have ho3 : Ok (n + 2000) s3 := ho3.mono (by omega)
  rw [hbl]
  by_cases hc1 : c1 = 0
  rotate_left
  · rw [if_pos (show c1 ≠ 0 from hc1), if_neg (show ¬ (c1, s1).1 = 0 from hc1)]
    refine (check_erase L b d n m (m + 1) lg st w h hv s hs hm rfl hm2 hf' c1 s1 he hc1).mono ?_
    rintro e w' g
    exact ⟨ho1.mono (by omega), .inr (.inl ⟨hc1, rfl, g⟩)⟩
  rw [if_neg (show ¬ c1 ≠ 0 from fun g => g hc1)]
  rw [hc1] at he
  have hsp : Spare st.S.length lg.x ((WalP.free lg st.S.length).take m ++ [(WalP.free lg st.S.length).getD m 0]) := by
    rw [hto]; exact spare_take _ _ _
  have hfl : ((WalP.free lg st.S.length).take m).length = m := by rw [List.length_take]; omega
  have hfit : SuperP.Fit (based lg.x lg.num s.length ((WalP.free lg st.S.length).take m) ((WalP.free lg st.S.length).getD m 0)) := based_fit hv.fit hgn hsp ⟨hv.num.1, by have := hv.num.2; omega⟩ (by rw [hfl]; omega)
  refine (check_main L b d n m (m + 1) lg st w h hv s hs hm rfl hm2 hf' s1 he c2 s2 hw2 c3 s3 hl hfit).mono ?_
  rintro e w' ⟨g1, g2, g3⟩
  by_cases hc2 : c2 = 0
  rotate_left
  · rw [if_pos (show c2 ≠ 0 from hc2), if_neg (show ¬ (c2, s2).1 = 0 from hc2)]
    exact ⟨ho2.mono (by omega), .inr (.inl ⟨hc2, rfl, g1 hc2⟩)⟩
  · rw [if_neg (show ¬ c2 ≠ 0 from fun g => g hc2)]
    by_cases hc3 : c3 = 0
    · rw [if_pos (show (c3, s3).1 = 0 from hc3)]
      exact ⟨ho3, .inl ⟨rfl, g3 hc2 hc3⟩⟩
    · rw [if_neg (show ¬ (c3, s3).1 = 0 from hc3)]
      exact ⟨ho3, .inr (.inl ⟨hc3, rfl, g2 hc2 hc3⟩)⟩
end Go.Proofs.YtnnakhdndmjmiaaGreat.Wal

/-
  The contracts of what the statements of stage 10 compare and make: Same, SameKept, Long, any values.
-/
set_option linter.unusedVariables false
set_option maxRecDepth 4000
namespace Go.Proofs.YtnnakhdndmjmiaaGreat.Wal
open Go.RowKit DiskP SegsP WalP Disk
open Ints (IntsAt IntsAt.keep)

/-- What a comparison tells: true, where this holds. -/
def SameP (w : World) (P : Prop) (e : Ending) (w' : World) : Prop := ∃ r : Bool, e = .returned (.bool r) ∧ (P → r = true) ∧ Below w.heap.size w w'
theorem sameP_no {w w' : World} {P : Prop} (h : ¬ P) (hb : Below w.heap.size w w') : SameP w P (.returned (.bool false)) w' := ⟨false, rfl, fun g => absurd g h, hb⟩
theorem sameP_yes {w w' : World} {P : Prop} (hb : Below w.heap.size w w') : SameP w P (.returned (.bool true)) w' := ⟨true, rfl, fun _ => rfl, hb⟩
theorem strs_len {w : World} {a : Option Addr} {n : Nat} {ss : List ByteArray} (h : StrsAt w a n ss) : n ≤ 9223372036854775807 := h.2.1
set_option maxHeartbeats 1000000 in
theorem dsame_any (a c : Option Addr) (la ca lc cc : Nat) (ss ts : List ByteArray) (w : World) (h1 : StrsAt w a la ss) (h2 : StrsAt w c lc ts) :
    Calls Tryz.prog 14 #[.slice a la ca, .slice c lc cc] w (SameP w (ss = ts)) := by
  have hl1 := strs_len h1; have hl2 := strs_len h2
  have e1 := h1.1; have e2 := h2.1
  by_cases hl : la = lc
  · subst hl
    have HC1 := Lib.hid h1.2.2; have HC2 := Lib.hid h2.2.2
    clear h1 h2 e1 e2
    go_enter Tryz.func14, Tryz.ntmps14
    go_wp2_with fail
    go_loopw [5] (fun i wr => ∃ j : Nat, j ≤ la ∧ i = .int .i64 (j : Int) ∧ Hid (Below w.heap.size w wr)) (fun i _ => la - (intOf i).toNat)
    case atStart => exact ⟨0, Nat.zero_le _, rfl, Below.refl _ w⟩
    case round =>
      obtain ⟨j, hj, rfl, hB⟩ := hrel
      by_cases hlt : j < la
      · obtain ⟨b1, o1, rfl, g1, k1⟩ := HC1.out.resolve_left (by omega)
        obtain ⟨b2, o2, rfl, g2, k2⟩ := HC2.out.resolve_left (by omega)
        have d1 := (hB.out.cell (p := ⟨b1, o1 + j, none⟩) g1).trans (k1 j hlt)
        have d2 := (hB.out.cell (p := ⟨b2, o2 + j, none⟩) g2).trans (k2 j hlt)
        have HB := Lib.hid hB.out.drew
        have hne : (ss.getD j ByteArray.empty) ≠ (ts.getD j ByteArray.empty) → ¬ ss = ts := fun e g => e (by rw [g])
        clear hB k1 k2 HC1 HC2
        generalize ss.getD j ByteArray.empty = s at *
        generalize ts.getD j ByteArray.empty = t at *
        have HNE := Lib.hid hne
        clear hne
        cases hq : (s.toList == t.toList) with
        | true =>
          go_wp2_with fail
          go_region
          all_goals
            go_wp2_with fail
            go_roundw
            case rel => exact ⟨j + 1, by omega, by go_num, HB⟩
            case measure => simp [intOf]; omega
        | false =>
          have hst : ¬ s = t := fun e => by rw [e, beq_self_eq_true] at hq; cases hq
          have HEND := Lib.hid (sameP_no (HNE.out hst) HB.out)
          clear hst
          go_wp2_with fail
          go_region
          all_goals
            go_wp2_with fail
            go_ret
            exact HEND.out
      · have HEND := Lib.hid (sameP_yes (P := ss = ts) hB.out)
        clear hB
        go_wp2_with fail
        go_ret
        exact HEND.out
  · have hn : ¬ ss = ts := fun g => hl (by rw [← e1, ← e2, g])
    have HEND := Lib.hid (sameP_no (P := ss = ts) hn (Below.refl _ w))
    have hne : ((la : Int) != (lc : Int)) = true := by simp; omega
    clear h1 h2 e1 e2 hn
    go_enter Tryz.func14, Tryz.ntmps14
    go_wp2_with fail
    go_ret
    exact HEND.out
theorem boxes_two (w : World) (A B : Array Value) (TA TB : TypeId) : Below w.heap.size w ((w.alloc (.cells A TA)).alloc (.cells B TB)) ∧
    ((w.alloc (.cells A TA)).alloc (.cells B TB)).heap[w.heap.size]? = some (.cells A TA (0, 0)) ∧ ((w.alloc (.cells A TA)).alloc (.cells B TB)).heap[w.heap.size + 1]? = some (.cells B TB (0, 0)) := by
  have hA := heap_alloc_new w (.cells A TA)
  have sA : (w.alloc (.cells A TA)).heap.size = w.heap.size + 1 := by simp
  have bA : Below w.heap.size w (w.alloc (.cells A TA)) := (Below.refl _ w).alloc (Nat.le_refl _) _
  generalize w.alloc (.cells A TA) = u at *
  have hB := heap_alloc_new u (.cells B TB)
  have bB : Below u.heap.size u (u.alloc (.cells B TB)) := (Below.refl _ u).alloc (Nat.le_refl _) _
  rw [sA] at hB bB
  generalize u.alloc (.cells B TB) = v at *
  exact ⟨bA.trans (bB.mono (by omega)), (bB.block _ (by omega)).trans hA, hB⟩
/-- Batches in memory, as far as a reader knows. -/
def BatsAt (w : World) (a : Option Addr) (n : Nat) (B : List (List (List UInt8))) : Prop :=
  n = B.length ∧ (n = 0 ∨ ∃ b off, a = some ⟨b, off, none⟩ ∧ b < w.heap.size ∧ ∀ i, i < n → ∃ a' n' c', w.cell? ⟨b, off + i, none⟩ = some (.slice a' n' c') ∧ StrsAt w a' n' ((B.getD i []).map bs))
theorem BatsF.at {w : World} {F : List Nat} {a : Option Addr} {n : Nat} {B : List (List (List UInt8))} (h : BatsF w F a n B) : BatsAt w a n B := by
  refine ⟨h.1, h.2.imp id ?_⟩
  rintro ⟨b, off, rfl, hb, hF, hc⟩
  refine ⟨b, off, rfl, hb, fun i hi => ?_⟩
  obtain ⟨a', n', c', h1, h2, h3⟩ := hc i hi
  exact ⟨a', n', c', h1, h3.1⟩
theorem BatsAt.keep {w w' : World} {a : Option Addr} {n : Nat} {B : List (List (List UInt8))} (h : BatsAt w a n B) (hb : Below w.heap.size w w') : BatsAt w' a n B := by
  refine ⟨h.1, h.2.imp id ?_⟩
  rintro ⟨b, off, rfl, hlt, hc⟩
  refine ⟨b, off, rfl, by have := hb.size; omega, fun i hi => ?_⟩
  obtain ⟨a', n', c', h1, h3⟩ := hc i hi
  exact ⟨a', n', c', (hb.cell (p := ⟨b, off + i, none⟩) hlt).trans h1, h3.keep hb⟩
theorem bats_ne {B1 B2 : List (List (List UInt8))} {j : Nat} (h : ¬ (B1.getD j []).map bs = (B2.getD j []).map bs) : ¬ B1 = B2 := fun e => h (by rw [e])
set_option maxHeartbeats 2000000 in
theorem sameKept_any (h1 h2 : Bool) (s1 s2 : ByteArray) (a1 a2 : Option Addr) (n1 c1 n2 c2 : Nat) (B1 B2 : List (List (List UInt8))) (w : World) (hb1 : BatsAt w a1 n1 B1) (hb2 : BatsAt w a2 n2 B2) (hn1 : n1 ≤ 1000000000) (hn2 : n2 ≤ 1000000000) (P : Prop) (hP : P → h1 = h2 ∧ s1 = s2 ∧ B1 = B2) :
    Calls Tryz.prog 26 #[.agg #[.bool h1, .string s1, .slice a1 n1 c1], .agg #[.bool h2, .string s2, .slice a2 n2 c2]] w (SameP w P) := by
  have HP := Lib.hid hP
  clear hP
  obtain ⟨hB2, hA, hB⟩ := boxes_two w #[.bool h1, .string s1, .slice a1 n1 c1] #[.bool h2, .string s2, .slice a2 n2 c2] 51 51
  obtain ⟨w2, hw2⟩ : ∃ w2, (w.alloc (.cells #[.bool h1, .string s1, .slice a1 n1 c1] 51)).alloc (.cells #[.bool h2, .string s2, .slice a2 n2 c2] 51) = w2 := ⟨_, rfl⟩
  rw [hw2] at hB2 hA hB
  have p0 : w2.cell? ⟨w.heap.size, 0, none⟩ = some (.bool h1) := cell_of_heap hA
  have p1 : w2.cell? ⟨w.heap.size, 1, none⟩ = some (.string s1) := cell_of_heap hA
  have p2 : w2.cell? ⟨w.heap.size, 2, none⟩ = some (.slice a1 n1 c1) := cell_of_heap hA
  have q0 : w2.cell? ⟨w.heap.size + 1, 0, none⟩ = some (.bool h2) := cell_of_heap hB
  have q1 : w2.cell? ⟨w.heap.size + 1, 1, none⟩ = some (.string s2) := cell_of_heap hB
  have q2 : w2.cell? ⟨w.heap.size + 1, 2, none⟩ = some (.slice a2 n2 c2) := cell_of_heap hB
  have HB2 := Lib.hid hB2
  have hs2 : w.heap.size + 1 < w2.heap.size := heap_lt hB
  clear hB2 hA hB
  by_cases hh : h1 = h2
  rotate_left
  · have hne : (h1 != h2) = true := by simpa using hh
    have HEND := Lib.hid (sameP_no (P := P) (fun g => hh (HP.out g).1) HB2.out)
    clear hb1 hb2
    go_enter Tryz.func26, Tryz.ntmps26
    go_wp2_with fail
    go_ret
    exact HEND.out
  subst hh
  cases hq : (s1.toList == s2.toList) with
  | false =>
    have hst : ¬ s1 = s2 := fun e => by rw [e, beq_self_eq_true] at hq; cases hq
    have HEND := Lib.hid (sameP_no (P := P) (fun g => hst (HP.out g).2.1) HB2.out)
    clear hb1 hb2 hst
    go_enter Tryz.func26, Tryz.ntmps26
    go_wp2_with fail
    go_ret
    exact HEND.out
  | true =>
    by_cases hn : n1 = n2
    rotate_left
    · have hne : ((n1 : Int) != (n2 : Int)) = true := by simp; omega
      have HEND := Lib.hid (sameP_no (P := P) (fun g => hn (by rw [hb1.1, hb2.1, (HP.out g).2.2])) HB2.out)
      clear hb1 hb2 hn
      go_enter Tryz.func26, Tryz.ntmps26
      go_wp2_with fail
      go_ret
      exact HEND.out
    subst hn
    have HP1 := Lib.hid (hb1.keep HB2.out); have HP2 := Lib.hid (hb2.keep HB2.out)
    clear hb1 hb2 hn2
    go_enter Tryz.func26, Tryz.ntmps26
    go_wp2_with fail
    clear hw2
    go_loopw [5] (fun i wr => ∃ j : Nat, j ≤ n1 ∧ i = .int .i64 (j : Int) ∧ Hid (Below w2.heap.size w2 wr)) (fun i _ => n1 - (intOf i).toNat)
    case atStart => exact ⟨0, Nat.zero_le _, rfl, Below.refl _ w2⟩
    case round =>
      obtain ⟨j, hj, rfl, hB⟩ := hrel
      have u2 := (hB.out.cell (p := ⟨w.heap.size, 2, none⟩) (by show w.heap.size < _; omega)).trans p2
      have v2 := (hB.out.cell (p := ⟨w.heap.size + 1, 2, none⟩) hs2).trans q2
      by_cases hlt : j < n1
      · obtain ⟨b1, o1, rfl, g1, k1⟩ := (HP1.out.keep hB.out).2.resolve_left (by omega)
        obtain ⟨b2, o2, rfl, g2, k2⟩ := (HP2.out.keep hB.out).2.resolve_left (by omega)
        obtain ⟨x1, m1, z1, d1, S1⟩ := k1 j hlt
        obtain ⟨x2, m2, z2, d2, S2⟩ := k2 j hlt
        have HS := Lib.hid (dsame_any x1 x2 m1 z1 m2 z2 _ _ wr.drew (S1.keep (Below.refl _ wr).drew) (S2.keep (Below.refl _ wr).drew))
        have HNE := Lib.hid (fun h => bats_ne (B1 := B1) (B2 := B2) (j := j) h)
        have HBW := Lib.hid (HB2.out.trans (hB.out.mono HB2.out.size))
        have u2' : wr.drew.cell? ⟨w.heap.size, 2, none⟩ = some (.slice (some ⟨b1, o1, none⟩) n1 c1) := u2
        have v2' : wr.drew.cell? ⟨w.heap.size + 1, 2, none⟩ = some (.slice (some ⟨b2, o2, none⟩) n1 c2) := v2
        have d1' : wr.drew.cell? ⟨b1, o1 + j, none⟩ = some (.slice x1 m1 z1) := d1
        have d2' : wr.drew.cell? ⟨b2, o2 + j, none⟩ = some (.slice x2 m2 z2) := d2
        clear k1 k2 S1 S2 HP1 HP2 p0 p1 p2 q0 q1 q2
        go_wp2_with fail
        refine wp_region_held_drew (S := (fun w' => w'.cell? ⟨w.heap.size, 2, none⟩ = some (.slice (some ⟨b1, o1, none⟩) n1 c1) ∧ w'.cell? ⟨w.heap.size + 1, 2, none⟩ = some (.slice (some ⟨b2, o2, none⟩) n1 c2) ∧ w'.cell? ⟨b1, o1 + j, none⟩ = some (.slice x1 m1 z1) ∧ w'.cell? ⟨b2, o2 + j, none⟩ = some (.slice x2 m2 z2))) (by kernel_rfl) (by first | exact ⟨u2', v2', d1', d2'⟩) (fun hH0 => ?_)
        refine wpAnyH_take (i := 0) (v := ?v1) rfl ?s1 ?f1 ?r1 ?q1 (Or.inl ⟨?y1, ?z1⟩) ?h1 ?k1
        case s1 => kernel_rfl
        case f1 => kernel_rfl
        case r1 => kernel_rfl
        case q1 => (intro _ _ _ h; exact h)
        case y1 => kernel_rfl
        case z1 => (intro w' hSw; (try dsimp only at hSw); go_simp; (try with_reducible rfl))
        case h1 => exact hH0
        refine wpAnyH_take (i := 1) (v := ?v2) rfl ?s2 ?f2 ?r2 ?q2 (Or.inl ⟨?y2, ?z2⟩) ?h2 ?k2
        case s2 => kernel_rfl
        case f2 => kernel_rfl
        case r2 => kernel_rfl
        case q2 => (intro _ _ _ h; exact h)
        case y2 => kernel_rfl
        case z2 => (intro w' hSw; (try dsimp only at hSw); go_simp; (try with_reducible rfl))
        case h2 => exact hH0
        refine wpAnyH_take (i := 2) (v := ?v3) rfl ?s3 ?f3 ?r3 ?q3 (Or.inl ⟨?y3, ?z3⟩) ?h3 ?k3
        case s3 => kernel_rfl
        case f3 => kernel_rfl
        case r3 => kernel_rfl
        case q3 => (intro _ _ _ h; exact h)
        case y3 => kernel_rfl
        case z3 => (intro w' hSw; (try dsimp only at hSw); go_simp; (try with_reducible rfl))
        case h3 => exact hH0
        refine wpAnyH_take (i := 3) (v := ?v4) rfl ?s4 ?f4 ?r4 ?q4 (Or.inl ⟨?y4, ?z4⟩) ?h4 ?k4
        case s4 => kernel_rfl
        case f4 => kernel_rfl
        case r4 => kernel_rfl
        case q4 => (intro _ _ _ h; exact h)
        case y4 => kernel_rfl
        case z4 => (intro w' hSw; (try dsimp only at hSw); go_simp; (try with_reducible rfl))
        case h4 => exact hH0
        refine wpAnyH_take (i := 4) (v := ?v5) rfl ?s5 ?f5 ?r5 ?q5 (Or.inl ⟨?y5, ?z5⟩) ?h5 ?k5
        case s5 => kernel_rfl
        case f5 => kernel_rfl
        case r5 => kernel_rfl
        case q5 => (intro _ _ _ h; exact h)
        case y5 => kernel_rfl
        case z5 => (intro w' hSw; (try dsimp only at hSw); go_simp; (try with_reducible rfl))
        case h5 => exact hH0
        refine wpAnyH_take (i := 5) (v := ?v6) rfl ?s6 ?f6 ?r6 ?q6 (Or.inl ⟨?y6, ?z6⟩) ?h6 ?k6
        case s6 => kernel_rfl
        case f6 => kernel_rfl
        case r6 => kernel_rfl
        case q6 => (intro _ _ _ h; exact h)
        case y6 => kernel_rfl
        case z6 => (intro w' hSw; (try dsimp only at hSw); go_simp; (try with_reducible rfl))
        case h6 => exact hH0
        refine wpAnyH_take (i := 6) (v := ?v7) rfl ?s7 ?f7 ?r7 ?q7 (Or.inl ⟨?y7, ?z7⟩) ?h7 ?k7
        case s7 => kernel_rfl
        case f7 => kernel_rfl
        case r7 => kernel_rfl
        case q7 => (intro _ _ _ h; exact h)
        case y7 => kernel_rfl
        case z7 => (intro w' hSw; (try dsimp only at hSw); go_simp; (try with_reducible rfl))
        case h7 => exact hH0
        refine wpAnyH_take (i := 7) (v := ?v8) rfl ?s8 ?f8 ?r8 ?q8 (Or.inl ⟨?y8, ?z8⟩) ?h8 ?k8
        case s8 => kernel_rfl
        case f8 => kernel_rfl
        case r8 => kernel_rfl
        case q8 => (intro _ _ _ h; exact h)
        case y8 => kernel_rfl
        case z8 => (intro w' hSw; (try dsimp only at hSw); go_simp; (try with_reducible rfl))
        case h8 => exact hH0
        refine wpAnyH_take (i := 8) (v := ?v9) rfl ?s9 ?f9 ?r9 ?q9 (Or.inl ⟨?y9, ?z9⟩) ?h9 ?k9
        case s9 => kernel_rfl
        case f9 => kernel_rfl
        case r9 => kernel_rfl
        case q9 => (intro _ _ _ h; exact h)
        case y9 => kernel_rfl
        case z9 => (intro w' hSw; (try dsimp only at hSw); go_simp; (try with_reducible rfl))
        case h9 => exact hH0
        refine wpAnyH_take (i := 9) (v := ?v10) rfl ?s10 ?f10 ?r10 ?q10 (Or.inl ⟨?y10, ?z10⟩) ?h10 ?k10
        case s10 => kernel_rfl
        case f10 => kernel_rfl
        case r10 => kernel_rfl
        case q10 => (intro _ _ _ h; exact h)
        case y10 => kernel_rfl
        case z10 => (intro w' hSw; (try dsimp only at hSw); go_simp; (try with_reducible rfl))
        case h10 => exact hH0
        refine wpAnyH_ready (rs := [10]) (by kernel_rfl) (by simp) ?_
        refine AllReadyH.cons rfl (fun K hK => ?_) AllReadyH.nil
        go_simp
        refine HS.out.mono ?_
        rintro e w5 ⟨r, rfl, hr, hb5⟩
        have hBw5 : Below wr.heap.size wr w5 := (Below.refl _ wr).drew.trans hb5
        have HB5 := Lib.hid (hB.out.trans (hBw5.mono hB.out.size) : Below w2.heap.size w2 w5)
        refine hK.out _ _ ⟨(hBw5.cell (p := ⟨w.heap.size, 2, none⟩) (by have := hB.out.size; show w.heap.size < _; omega)).trans u2, (hBw5.cell (p := ⟨w.heap.size + 1, 2, none⟩) (by have := hB.out.size; show w.heap.size + 1 < _; omega)).trans v2, (hBw5.cell (p := ⟨b1, o1 + j, none⟩) g1).trans d1, (hBw5.cell (p := ⟨b2, o2 + j, none⟩) g2).trans d2⟩ (fun hH1 => ?_)
        clear hK K hH0
        refine wpAnyH_take (i := 11) (v := ?v11) rfl ?s11 ?f11 ?r11 ?q11 (Or.inl ⟨?y11, ?z11⟩) ?h11 ?k11
        case s11 => kernel_rfl
        case f11 => kernel_rfl
        case r11 => kernel_rfl
        case q11 => (intro _ _ _ h; exact h)
        case y11 => kernel_rfl
        case z11 => (intro w' hSw; (try dsimp only at hSw); go_simp; (try with_reducible rfl))
        case h11 => exact hH1
        refine wpAnyH_done (by kernel_rfl) ?_ _
        have HR := Lib.hid hr
        have HBE := Lib.hid (HB2.out.trans (HB5.out.mono HB2.out.size))
        clear hr hb5 hBw5 hH1 u2 v2 d1 d2 u2' v2' d1' d2' hB HS
        cases r with
        | true =>
          go_wp2_with fail
          go_roundw
          case rel => exact ⟨j + 1, by omega, by go_num, HB5⟩
          case measure => simp [intOf]; omega
        | false =>
          have HEND := Lib.hid (sameP_no (P := P) (fun g => HNE.out (fun e => by have := HR.out e; cases this) (HP.out g).2.2) HBE.out)
          go_wp2_with fail
          go_ret
          exact HEND.out
      · have HEND := Lib.hid (sameP_yes (P := P) (HB2.out.trans (hB.out.mono HB2.out.size)))
        clear hB HP1 HP2
        go_wp2_with fail
        go_ret
        exact HEND.out
end Go.Proofs.YtnnakhdndmjmiaaGreat.Wal

/-
  Append and Check where there is room and no fuse, told exactly; a log of the call's own.
-/
set_option linter.unusedVariables false
set_option maxRecDepth 4000
namespace Go.Proofs.YtnnakhdndmjmiaaGreat.Wal
open Go.RowKit DiskP SegsP WalP Disk
open Ints (IntsAt IntsAt.keep)
open SuperP (Sup)
open FrameP (frs sz Rec tk)

theorem append_roomy (L : List Nat) (b d n : Nat) (lg : Lg) (st : St) (w : World) (h : LS w L b d lg st) (hok : Ok n st) (hn : n ≤ 700000) (K : Kept) (hr : Rests lg st K) (hG : lg.x.gen ≤ 100) (hN : lg.num ≤ 100) (hu : Unfused st) (recs : List (List UInt8)) (a : Option Addr) (nr cap : Nat) (hS : StrsAt w a nr (recs.map bs)) (ht : Takes recs) (hf : recs.length ≤ 100)
    (hroom : lg.pos + pc (frs recs).length ≤ (secs lg.x.log).length) :
    Calls Tryz.prog 19 #[.pointer (some ⟨b, 0, none⟩), .slice a nr cap] w fun e w' => ∃ st', Told w L b d 0 { lg with num := lg.num + 1, pos := lg.pos + pc (frs recs).length } st' e w' ∧
      Rests { lg with num := lg.num + 1, pos := lg.pos + pc (frs recs).length } st' ⟨K.base, K.bats ++ [recs]⟩ ∧ Unfused st' ∧ Ok (n + 2000) st' ∧ st'.S.length = st.S.length := by
  have hv := rests_lv hr (by omega) (by omega) hok hn
  have hal := hr.alive; have hrn := hr.live.idle.2
  have hadd : add lg st recs = addS lg st (frs recs) := by
    unfold add
    rw [if_neg (by rw [hal, hrn]; simp), if_neg ht.1, if_neg (fun g => g ht.2.1), if_neg (by have := ht.2.2; omega)]
  have hnd : SegsP.need ((lg.pos : Int) + (pc (frs recs).length : Nat) - ((secs lg.x.log).length : Nat)) = 0 := by unfold SegsP.need; rw [if_pos (by omega)]
  obtain ⟨c, st1, hp⟩ : ∃ c st1, puts st (((secs lg.x.log).drop lg.pos).zip (seald (lg.num + 1).toNat (frs recs))) = (c, st1) := ⟨_, _, rfl⟩
  have hval : add lg st recs = if c = 0 then (0, { lg with num := lg.num + 1, pos := lg.pos + pc (frs recs).length }, st1) else (c, { lg with dead := true }, st1) := by
    rw [hadd]
    unfold addS
    simp only
    rw [hnd, if_neg (by have := hv.num; have := hv.gen; omega), if_neg (by omega), if_pos (Int.le_refl _), hp]
  have hun := unf_add hu recs (lg := lg)
  have hc : c = 0 := by
    refine Classical.byContradiction fun hc => ?_
    rw [if_neg hc] at hval
    rcases add_rests_b hr hG hN (by omega) (by omega) (recs := recs) with ⟨_, lg', st', h1, _⟩ | ⟨_, _, h2, _⟩ | ⟨_, h1⟩ | ⟨h1, _⟩
    · rw [hval] at h1; exact hc (Prod.mk.inj h1).1
    · rw [hun.2] at h2; cases h2
    · rw [hval] at h1
      have h3 := (Prod.mk.inj (Prod.mk.inj h1).2).1
      have h4 : lg.dead = true := by rw [← h3]
      rw [hal] at h4; cases h4
    · exact h1 ht
  subst hc
  rw [if_pos rfl] at hval
  rw [hval] at hun
  have ho := puts_ok (((secs lg.x.log).drop lg.pos).zip (seald (lg.num + 1).toNat (frs recs))) st n hok
  rw [hp] at ho
  have hfits : Fits (lg.num + 1).toNat (frs recs) := takes_fits ht (by have := hv.num; omega) (by have := hv.num; omega)
  have hzl : (((secs lg.x.log).drop lg.pos).zip (seald (lg.num + 1).toNat (frs recs))).length ≤ 512 := by rw [List.length_zip, seald_length]; have := hfits.2.2; omega
  rcases add_rests_b hr hG hN (by omega) (by omega) (recs := recs) with ⟨_, lg', st', h1, h2, h3, _⟩ | ⟨_, _, h2, _⟩ | ⟨_, h1⟩ | ⟨h1, _⟩
  · rw [hval] at h1
    obtain ⟨_, h1⟩ := Prod.mk.inj h1
    obtain ⟨rfl, rfl⟩ := Prod.mk.inj h1
    refine (append_room L b d n lg st w h hv recs a nr cap hS ht hf 0 st1 (by omega) hp).mono ?_
    rintro e w' ⟨g1, _⟩
    exact ⟨st1, g1 rfl, h2, hun, ho.mono (by omega), h3⟩
  · rw [hval, hun.2] at h2; cases h2
  · rw [hval] at h1; cases (Prod.mk.inj h1).1
  · exact absurd ht h1
theorem check_roomy (L : List Nat) (b d n : Nat) (lg : Lg) (st : St) (w : World) (h : LS w L b d lg st) (hok : Ok n st) (hn : n ≤ 700000) (K : Kept) (hr : Rests lg st K) (hG : lg.x.gen ≤ 100) (hN : lg.num ≤ 100) (hu : Unfused st) (s : List UInt8) (hs : s.length ≤ 52416)
    (m : Nat) (hm : (SegsP.need (pc s.length : Int)).toNat = m) (hf : m + 1 ≤ (WalP.free lg st.S.length).length) :
    Calls Tryz.prog 21 #[.pointer (some ⟨b, 0, none⟩), .string (bs s)] w fun e w' => ∃ st', Told w L b d 0 { lg with x := based lg.x lg.num s.length ((WalP.free lg st.S.length).take m) ((WalP.free lg st.S.length).getD m 0), pos := 0 } st' e w' ∧
      Rests { lg with x := based lg.x lg.num s.length ((WalP.free lg st.S.length).take m) ((WalP.free lg st.S.length).getD m 0), pos := 0 } st' ⟨some s, []⟩ ∧ Unfused st' ∧ Ok (n + 2000) st' ∧ st'.S.length = st.S.length := by
  have hv := rests_lv hr (by omega) (by omega) hok hn
  have hal := hr.alive; have hrn := hr.live.idle.2
  obtain ⟨c, st1, hp⟩ : ∃ c st1, baseLay st lg.x lg.num s ((WalP.free lg st.S.length).take m) ((WalP.free lg st.S.length).getD m 0) = (c, st1) := ⟨_, _, rfl⟩
  have hval : chk lg st s = if c = 0 then (0, { lg with x := based lg.x lg.num s.length ((WalP.free lg st.S.length).take m) ((WalP.free lg st.S.length).getD m 0), pos := 0 }, st1) else (c, { lg with dead := true }, st1) := by
    unfold chk
    simp only
    rw [hm, if_neg (by rw [hal, hrn]; simp), if_neg (by omega), if_neg (by have := hv.gen; omega), if_neg (by omega), hp]
  have hun := unf_chk hu s (lg := lg)
  have hd := chk_rests_b hr hG hN (by omega) hs
  have hc : c = 0 := by
    refine Classical.byContradiction fun hc => ?_
    rw [if_neg hc] at hval
    rcases hd with ⟨lg', st', h1, _⟩ | ⟨_, h2, _⟩ | h1
    · rw [hval] at h1; exact hc (Prod.mk.inj h1).1
    · rw [hun.2] at h2; cases h2
    · rw [hval] at h1
      have h3 := (Prod.mk.inj (Prod.mk.inj h1).2).1
      have h4 : lg.dead = true := by rw [← h3]
      rw [hal] at h4; cases h4
  subst hc
  rw [if_pos rfl] at hval
  rcases hd with ⟨lg', st', h1, h2, h3, _⟩ | ⟨_, h2, _⟩ | h1
  · have hgo := check_gone L b d n lg st w h hv s hs
    rw [hval] at h1 hun hgo
    obtain ⟨_, h1⟩ := Prod.mk.inj h1
    obtain ⟨rfl, rfl⟩ := Prod.mk.inj h1
    refine hgo.mono ?_
    rintro e w' ⟨g0, g⟩
    rcases g with ⟨_, g⟩ | ⟨g, _⟩ | ⟨g, _⟩
    · exact ⟨st1, g, h2, hun, g0, h3⟩
    · exact absurd rfl g
    · exact absurd rfl g
  · rw [hun.2] at h2; cases h2
  · rw [hval] at h1; cases (Prod.mk.inj h1).1

/-- A log of the call's own, on a disk of its own; blocks F are others. -/
def OwnL (w0 w : World) (F : List Nat) (b d : Nat) (lg : Lg) (st : St) : Prop := ∃ L, LS w L b d lg st ∧ (∀ k ∈ b :: L, w0.heap.size ≤ k) ∧ Below w0.heap.size w0 w ∧ ∀ k ∈ F, k ∉ b :: L ∧ k < w.heap.size
theorem OwnL.below {w0 w w' : World} {F : List Nat} {b d : Nat} {lg : Lg} {st : St} (h : OwnL w0 w F b d lg st) (hb : Below w.heap.size w w') : OwnL w0 w' F b d lg st := by
  obtain ⟨L, h1, h2, h3, h4⟩ := h
  exact ⟨L, h1.below hb, h2, h3.trans (hb.mono h3.size), fun k hk => ⟨(h4 k hk).1, by have := (h4 k hk).2; have := hb.size; omega⟩⟩
theorem OwnL.more {w0 w : World} {F : List Nat} {b d : Nat} {lg : Lg} {st : St} (h : OwnL w0 w F b d lg st) {k : Nat} (hk : w.heap.size ≤ k) {w' : World} (hb : Below w.heap.size w w') (hk2 : k < w'.heap.size) : OwnL w0 w' (k :: F) b d lg st := by
  obtain ⟨L, h1, h2, h3, h4⟩ := h
  refine ⟨L, h1.below hb, h2, h3.trans (hb.mono h3.size), fun j hj => ?_⟩
  rcases List.mem_cons.1 hj with e | hj
  · refine ⟨fun hm => ?_, by omega⟩
    rcases List.mem_cons.1 hm with g | g
    · have := h1.lk.lt; omega
    · have := h1.dk.lt _ g; omega
  · exact ⟨(h4 j hj).1, by have := (h4 j hj).2; have := hb.size; omega⟩
theorem OwnL.less {w0 w : World} {F G : List Nat} {b d : Nat} {lg : Lg} {st : St} (h : OwnL w0 w F b d lg st) (hs : ∀ k ∈ G, k ∈ F) : OwnL w0 w G b d lg st := by
  obtain ⟨L, h1, h2, h3, h4⟩ := h
  exact ⟨L, h1, h2, h3, fun k hk => h4 k (hs k hk)⟩
theorem OwnL.bel {w0 w : World} {F : List Nat} {b d : Nat} {lg : Lg} {st : St} (h : OwnL w0 w F b d lg st) : Below w0.heap.size w0 w := h.choose_spec.2.2.1
theorem told_own {w0 w w' : World} {F L : List Nat} {b d : Nat} {lg lg' : Lg} {st st' : St} {c : Int} {e : Ending} (hL : LS w L b d lg st) (h2 : ∀ k ∈ b :: L, w0.heap.size ≤ k) (h3 : Below w0.heap.size w0 w) (h4 : ∀ k ∈ F, k ∉ b :: L ∧ k < w.heap.size) (ht : Told w L b d c lg' st' e w') :
    e = .returned (.int .i64 c) ∧ OwnL w0 w' F b d lg' st' ∧ ∀ k ∈ F, w'.heap[k]? = w.heap[k]? := by
  obtain ⟨rfl, L', hl, hU⟩ := ht
  refine ⟨rfl, ⟨L', hl, fun k hk => (hU.sub k hk).elim (h2 k) (fun g => by have := h3.size; omega), h3.trans (hU.below h2 h3.size), fun k hk => ⟨upd_out hU (h4 k hk).2 (h4 k hk).1, by have := (h4 k hk).2; have := hU.size; omega⟩⟩, fun k hk => hU.block k (h4 k hk).2 (h4 k hk).1⟩
/-- What Open tells beside a log that is there already. -/
def OpenBy (w0 w : World) (F : List Nat) (b d : Nat) (lg lg2 : Lg) (st' : St) (K : Kept) (e : Ending) (w' : World) : Prop :=
  ∃ B a c, e = .returned (.tuple #[.pointer (some ⟨B, 0, none⟩), keptV K a c, .int .i64 0]) ∧ OwnL w0 w' F B d lg2 st' ∧ OwnL w0 w' F b d lg st' ∧ (∀ k ∈ F, w'.heap[k]? = w.heap[k]?) ∧ BatsF w' (List.range w.heap.size) a K.bats.length K.bats ∧ w.heap.size ≤ B
theorem open_own {w0 w w' : World} {F L : List Nat} {b d : Nat} {lg lg2 : Lg} {st st' : St} {K : Kept} {e : Ending} (hL : LS w L b d lg st) (h2 : ∀ k ∈ b :: L, w0.heap.size ≤ k) (h3 : Below w0.heap.size w0 w) (h4 : ∀ k ∈ F, k ∉ b :: L ∧ k < w.heap.size) (ho : OpenOk w L d lg2 st' K e w') : OpenBy w0 w F b d lg lg2 st' K e w' := by
  obtain ⟨B, L', a, c, rfl, hn, hb, hl, hU, hB⟩ := ho
  have hs := h3.size
  have hlow : ∀ k ∈ L', w0.heap.size ≤ k := fun k hk => (hU.sub k hk).elim (fun g => h2 k (List.mem_cons_of_mem _ g)) (fun g => by omega)
  have hbel : Below w0.heap.size w0 w' := h3.trans (hU.below (fun k hk => h2 k (List.mem_cons_of_mem _ hk)) hs)
  have hf : ∀ k ∈ F, k ∉ L := fun k hk g => (h4 k hk).1 (List.mem_cons_of_mem _ g)
  have hus := hU.size
  refine ⟨B, a, c, rfl, ⟨L', hl, fun k hk => ?_, hbel, fun k hk => ⟨fun hm => ?_, by have := (h4 k hk).2; omega⟩⟩, ⟨L', ⟨hl.dk, hL.lk.upd hU⟩, fun k hk => ?_, hbel, fun k hk => ⟨fun hm => ?_, by have := (h4 k hk).2; omega⟩⟩, fun k hk => hU.block k (h4 k hk).2 (hf k hk), hb.less (fun k hk => List.mem_append_left _ hk), hB⟩
  · rcases List.mem_cons.1 hk with g | g
    · omega
    · exact hlow k g
  · rcases List.mem_cons.1 hm with g | g
    · have := (h4 k hk).2; omega
    · exact upd_out hU (h4 k hk).2 (hf k hk) g
  · rcases List.mem_cons.1 hk with g | g
    · exact h2 k (by rw [g]; simp)
    · exact hlow k g
  · rcases List.mem_cons.1 hm with g | g
    · exact (h4 k hk).1 (by rw [g]; simp)
    · exact upd_out hU (h4 k hk).2 (hf k hk) g
/-- What the first Open tells. -/
def OpenFirst (w0 : World) (d : Nat) (lg2 : Lg) (st' : St) (K : Kept) (e : Ending) (w' : World) : Prop :=
  ∃ B a c, e = .returned (.tuple #[.pointer (some ⟨B, 0, none⟩), keptV K a c, .int .i64 0]) ∧ OwnL w0 w' [] B d lg2 st'
theorem open_first {w0 w w' : World} {L : List Nat} {d : Nat} {lg2 : Lg} {st' : St} {K : Kept} {e : Ending} (h2 : ∀ k ∈ L, w0.heap.size ≤ k) (h3 : Below w0.heap.size w0 w) (ho : OpenOk w L d lg2 st' K e w') : OpenFirst w0 d lg2 st' K e w' := by
  obtain ⟨B, L', a, c, rfl, hn, hb, hl, hU, hB⟩ := ho
  have hs := h3.size
  refine ⟨B, a, c, rfl, ⟨L', hl, fun k hk => ?_, h3.trans (hU.below h2 hs), fun k hk => (by cases hk)⟩⟩
  rcases List.mem_cons.1 hk with g | g
  · omega
  · exact (hU.sub k g).elim (h2 k) (fun g => by omega)
/-- A block of what is kept is written: no concern of the log's. -/
theorem OwnL.kept {w0 w w' : World} {F : List Nat} {b d k : Nat} {lg : Lg} {st : St} {b1 : Bool} {s2 : ByteArray} {a3 : Option Addr} {n3 c3 : Nat} {T : TypeId} (h : OwnL w0 w F b d lg st) (hk : k ∈ F) (hk0 : w0.heap.size ≤ k) (hq : w.heap[k]? = some (.cells #[.bool b1, .string s2, .slice a3 n3 c3] T (0, 0))) (hU : Upd [k] w w' [k]) : OwnL w0 w' F b d lg st := by
  obtain ⟨L, ⟨hD, ca, cc, la, lc, hl, g1, g2, g3⟩, h2, h3, h4⟩ := h
  have hkn := (h4 k hk).1
  have hs := hU.size
  have ne : ∀ j, j ≠ k → j ∉ [k] := fun j h1 hm => h1 (List.mem_singleton.1 hm)
  refine ⟨L, ⟨hD.keep fun j hj => hU.block j (hD.lt j hj) (ne j (fun e => hkn (by rw [← e]; exact List.mem_cons_of_mem _ hj))), ca, cc, la, lc, ⟨(hU.block b (heap_lt hl.blk) (ne b (fun e => hkn (by rw [← e]; simp)))).trans hl.blk, ints_other hl.chk (fun h0 y hy => ne _ (ints_notQ hl.chk h0 hq y hy)) hU, ints_other hl.log (fun h0 y hy => ne _ (ints_notQ hl.log h0 hq y hy)) hU, hl.cn, hl.ln⟩, g1, g2, g3⟩, h2, h3.trans (hU.below (fun j hj => by rw [List.mem_singleton.1 hj]; exact hk0) h3.size), fun j hj => ⟨(h4 j hj).1, by have := (h4 j hj).2; omega⟩⟩
/-- What is kept is stored into a block. -/
def putK (w : World) (k : Nat) (v0 v1 v2 : Value) : World := ((w.setCell ⟨k, 0, none⟩ v0).setCell ⟨k, 1, none⟩ v1).setCell ⟨k, 2, none⟩ v2
theorem heap_putK {w : World} {k : Nat} {x0 x1 x2 : Value} {T : TypeId} (h : w.heap[k]? = some (.cells #[x0, x1, x2] T (0, 0))) (v0 v1 v2 : Value) : (putK w k v0 v1 v2).heap[k]? = some (.cells #[v0, v1, v2] T (0, 0)) := by
  unfold putK
  have h1 := Lib.heap_setCell_same (i := 0) h v0
  have h2 := Lib.heap_setCell_same (i := 1) h1 v1
  have h3 := Lib.heap_setCell_same (i := 2) h2 v2
  rw [h3]; rfl
theorem upd_putK (w : World) (k : Nat) (v0 v1 v2 : Value) : Upd [k] w (putK w k v0 v1 v2) [k] := by
  have h1 := upd_set w k 0 v0
  have h2 := h1.trans (upd_set _ k 1 v1)
  exact h2.trans (upd_set _ k 2 v2)
/-- One letter is a record. -/
theorem takes_one (x : UInt8) : Takes [[x]] := ⟨by simp, fun r hr => by rw [List.mem_singleton.1 hr]; exact ⟨Nat.le_refl 1, by show 1 ≤ 4096; decide⟩, by rw [FrameP.sz_one]; show 6 + 1 ≤ 16384; decide⟩
theorem pc_one (x : UInt8) : pc (frs [[x]]).length = 1 := by rw [FrameP.frs_length, FrameP.sz_one, List.length_singleton]; unfold pc; omega
theorem strs_lit (w : World) (t : ByteArray) (ht : t.size ≤ 1000) : StrsAt (w.alloc (.cells #[.string t] 9)) (some ⟨w.heap.size, 0, none⟩) 1 [t] := by
  refine ⟨rfl, by decide, .inr ⟨w.heap.size, 0, rfl, by simp, fun i hi => ?_⟩⟩
  obtain rfl : i = 0 := by omega
  rw [cell_of_heap (heap_alloc_new w _)]; rfl
end Go.Proofs.YtnnakhdndmjmiaaGreat.Wal

/-
  The steps of the chapter's example (awake), at a log of the call's own.
-/
set_option linter.unusedVariables false
set_option maxRecDepth 4000
namespace Go.Proofs.YtnnakhdndmjmiaaGreat.Wal
open Go.RowKit DiskP SegsP WalP Disk
open Ints (IntsAt IntsAt.keep)
open SuperP (Sup)
open FrameP (frs sz Rec tk)

/-- What stands beside a log. -/
structure Fine (lg : Lg) (st : St) (K : Kept) (n N : Nat) : Prop where
  rests : Rests lg st K
  ok : Ok n st
  unf : Unfused st
  len : st.S.length = N
  nn : n ≤ 700000
  gen : lg.x.gen ≤ 100
  num : lg.num ≤ 100
theorem step_append {w0 w : World} {F : List Nat} {b d n N p : Nat} {x : Sup} {m : Int} {st : St} {K : Kept} (h : OwnL w0 w F b d ⟨x, p, m, false⟩ st) (hf : Fine ⟨x, p, m, false⟩ st K n N) (c : UInt8) (a : Option Addr) (cap : Nat) (hS : StrsAt w a 1 [⟨#[c]⟩]) (hroom : p + 1 ≤ (secs x.log).length) :
    Calls Tryz.prog 19 #[.pointer (some ⟨b, 0, none⟩), .slice a 1 cap] w fun e w' => e = .returned (.int .i64 0) ∧ ∃ st', OwnL w0 w' F b d ⟨x, p + 1, m + 1, false⟩ st' ∧
      Rests ⟨x, p + 1, m + 1, false⟩ st' ⟨K.base, K.bats ++ [[[c]]]⟩ ∧ Unfused st' ∧ Ok (n + 2000) st' ∧ st'.S.length = N ∧ ∀ k ∈ F, w'.heap[k]? = w.heap[k]? := by
  obtain ⟨L, h1, h2, h3, h4⟩ := h
  have hc := append_roomy L b d n ⟨x, p, m, false⟩ st w h1 hf.ok hf.nn K hf.rests hf.gen hf.num hf.unf [[c]] a 1 cap hS (takes_one c) (by rw [List.length_singleton]; decide) (by rw [pc_one]; exact hroom)
  rw [pc_one] at hc
  refine hc.mono ?_
  rintro e w' ⟨st', ht, hr, hu, ho, hl⟩
  obtain ⟨g1, g2, g3⟩ := told_own (F := F) h1 h2 h3 h4 ht
  exact ⟨g1, st', g2, hr, hu, ho, hl.trans hf.len, g3⟩
theorem step_none {w0 w : World} {F : List Nat} {b d n N : Nat} {lg : Lg} {st : St} {K : Kept} (h : OwnL w0 w F b d lg st) (hf : Fine lg st K n N) (a : Option Addr) (cap : Nat) :
    Calls Tryz.prog 19 #[.pointer (some ⟨b, 0, none⟩), .slice a 0 cap] w fun e w' => e = .returned (.int .i64 1) ∧ OwnL w0 w' F b d lg st ∧ ∀ k ∈ F, w'.heap[k]? = w.heap[k]? := by
  obtain ⟨L, h1, h2, h3, h4⟩ := h
  refine (append_none L b d lg st w h1 hf.rests.alive hf.rests.live.idle.2 a cap).mono ?_
  intro e w' ht
  exact told_own (F := F) h1 h2 h3 h4 ht
theorem step_check {w0 w : World} {F : List Nat} {b d n N p : Nat} {x : Sup} {m : Int} {st : St} {K : Kept} (h : OwnL w0 w F b d ⟨x, p, m, false⟩ st) (hf : Fine ⟨x, p, m, false⟩ st K n N) (c : UInt8) (ch : List Int) (lo : Int) (hfr : fre (SegsP.cnt N) (x.chk ++ x.log) = ch ++ [lo]) (hch : ch.length = 1) :
    Calls Tryz.prog 21 #[.pointer (some ⟨b, 0, none⟩), .string ⟨#[c]⟩] w fun e w' => e = .returned (.int .i64 0) ∧ ∃ st', OwnL w0 w' F b d ⟨based x m 1 ch lo, 0, m, false⟩ st' ∧
      Rests ⟨based x m 1 ch lo, 0, m, false⟩ st' ⟨some [c], []⟩ ∧ Unfused st' ∧ Ok (n + 2000) st' ∧ st'.S.length = N ∧ ∀ k ∈ F, w'.heap[k]? = w.heap[k]? := by
  obtain ⟨L, h1, h2, h3, h4⟩ := h
  have hfree : WalP.free ⟨x, p, m, false⟩ st.S.length = ch ++ [lo] := by rw [hf.len]; exact hfr
  have e1 : (ch ++ [lo]).take 1 = ch := by rw [← hch, List.take_left]
  have e2 : (ch ++ [lo]).getD 1 0 = lo := by rw [← hch]; simp [List.getD]
  have hc := check_roomy L b d n ⟨x, p, m, false⟩ st w h1 hf.ok hf.nn K hf.rests hf.gen hf.num hf.unf [c] (by rw [List.length_singleton]; decide) 1 (by rw [List.length_singleton]; rfl) (by rw [hfree, List.length_append]; simp [hch])
  rw [hfree, e1, e2] at hc
  refine hc.mono ?_
  rintro e w' ⟨st', ht, hr, hu, ho, hl⟩
  obtain ⟨g1, g2, g3⟩ := told_own (F := F) h1 h2 h3 h4 ht
  exact ⟨g1, st', g2, hr, hu, ho, hl.trans hf.len, g3⟩
theorem step_open {w0 w : World} {F : List Nat} {b d n N : Nat} {lg : Lg} {st : St} {K : Kept} (h : OwnL w0 w F b d lg st) (hf : Fine lg st K n N) :
    Calls Tryz.prog 17 #[.pointer (some ⟨d, 0, none⟩)] w (OpenBy w0 w F b d lg lg st K) := by
  obtain ⟨L, h1, h2, h3, h4⟩ := h
  refine (open_rests L d n lg st w h1.dk hf.ok hf.nn K hf.rests).mono ?_
  intro e w' ho
  exact open_own (F := F) h1 h2 h3 h4 ho
theorem step_num {w0 w : World} {F : List Nat} {b d : Nat} {lg : Lg} {st : St} (h : OwnL w0 w F b d lg st) : Calls Tryz.prog 27 #[.pointer (some ⟨b, 0, none⟩)] w fun e w' => e = .returned (.int .i64 lg.num) ∧ w = w' := by
  obtain ⟨L, h1, _⟩ := h
  exact num_yes L b d lg w h1.lk
theorem step_gen {w0 w : World} {F : List Nat} {b d : Nat} {lg : Lg} {st : St} (h : OwnL w0 w F b d lg st) : Calls Tryz.prog 28 #[.pointer (some ⟨b, 0, none⟩)] w fun e w' => e = .returned (.int .i64 lg.x.gen) ∧ w = w' := by
  obtain ⟨L, h1, _⟩ := h
  exact gen_yes L b d lg w h1.lk
theorem step_free {w0 w : World} {F : List Nat} {b d n N : Nat} {lg : Lg} {st : St} {K : Kept} (h : OwnL w0 w F b d lg st) (hf : Fine lg st K n N) (k : Nat) (hk : (fre (SegsP.cnt N) (lg.x.chk ++ lg.x.log)).length = k) : Calls Tryz.prog 29 #[.pointer (some ⟨b, 0, none⟩)] w fun e w' => e = .returned (.int .i64 (k : Int)) ∧ Below w.heap.size w w' := by
  obtain ⟨L, h1, _⟩ := h
  have hg := hf.rests.live.good
  have h9 := SuperP.segs_len (fit_segs hg.fit)
  have h8 : 0 < lg.x.log.length := hg.fit.2.2.1.2.2.2.2.2.2.1
  have hhi := hf.ok.hi
  have hc := gfree_yes L b d lg st w h1 (by omega) (by rw [List.length_append]; omega) (by omega)
  rw [show WalP.free lg st.S.length = fre (SegsP.cnt N) (lg.x.chk ++ lg.x.log) by rw [hf.len]; rfl, hk] at hc
  exact hc
theorem step_first {w0 w : World} {L : List Nat} {d N : Nat} (h : Dk w L d (DiskP.fresh (List.replicate N DiskP.blank))) (h2 : ∀ k ∈ L, w0.heap.size ≤ k) (h3 : Below w0.heap.size w0 w) (hN : 10 ≤ N) (hN2 : N ≤ 512) :
    Calls Tryz.prog 17 #[.pointer (some ⟨d, 0, none⟩)] w fun e w' => ∃ st', OpenFirst w0 d ⟨sup0, 0, 0, false⟩ st' ⟨none, []⟩ e w' ∧ Rests ⟨sup0, 0, 0, false⟩ st' ⟨none, []⟩ ∧ Unfused st' ∧ Ok 10 st' ∧ st'.S.length = N := by
  refine (open_new L d N w hN hN2 h).mono ?_
  rintro e w' ⟨st', ho, hr, hl, hu, hok⟩
  exact ⟨st', open_first h2 h3 ho, hr, hu, hok, hl⟩
/-- Literals of batches. -/
theorem lit_two (w : World) (s t : UInt8) : Below w.heap.size w (((w.alloc (.cells #[.string ⟨#[s]⟩] 9)).alloc (.cells #[.string ⟨#[t]⟩] 9)).alloc (.cells #[.slice (some ⟨w.heap.size, 0, none⟩) 1 1, .slice (some ⟨w.heap.size + 1, 0, none⟩) 1 1] 22)) ∧
    BatsAt (((w.alloc (.cells #[.string ⟨#[s]⟩] 9)).alloc (.cells #[.string ⟨#[t]⟩] 9)).alloc (.cells #[.slice (some ⟨w.heap.size, 0, none⟩) 1 1, .slice (some ⟨w.heap.size + 1, 0, none⟩) 1 1] 22)) (some ⟨w.heap.size + 1 + 1, 0, none⟩) 2 [[[s]], [[t]]] := by
  obtain ⟨hb, h1, h2, h3⟩ := three_new w #[.string ⟨#[s]⟩] #[.string ⟨#[t]⟩] #[.slice (some ⟨w.heap.size, 0, none⟩) 1 1, .slice (some ⟨w.heap.size + 1, 0, none⟩) 1 1] 9 9 22
  generalize ((w.alloc (.cells #[.string ⟨#[s]⟩] 9)).alloc (.cells #[.string ⟨#[t]⟩] 9)).alloc (.cells #[.slice (some ⟨w.heap.size, 0, none⟩) 1 1, .slice (some ⟨w.heap.size + 1, 0, none⟩) 1 1] 22) = v at *
  refine ⟨hb, rfl, .inr ⟨w.heap.size + 1 + 1, 0, rfl, heap_lt h3, fun i hi => ?_⟩⟩
  rcases (show i = 0 ∨ i = 1 by omega) with rfl | rfl
  · refine ⟨some ⟨w.heap.size, 0, none⟩, 1, 1, cell_of_heap h3, rfl, by decide, .inr ⟨w.heap.size, 0, rfl, heap_lt h1, fun i hi => ?_⟩⟩
    obtain rfl : i = 0 := by omega
    rw [cell_of_heap h1]; rfl
  · refine ⟨some ⟨w.heap.size + 1, 0, none⟩, 1, 1, cell_of_heap h3, rfl, by decide, .inr ⟨w.heap.size + 1, 0, rfl, heap_lt h2, fun i hi => ?_⟩⟩
    obtain rfl : i = 0 := by omega
    rw [cell_of_heap h2]; rfl
theorem lit_one (w : World) (s : UInt8) : Below w.heap.size w ((w.alloc (.cells #[.string ⟨#[s]⟩] 9)).alloc (.cells #[.slice (some ⟨w.heap.size, 0, none⟩) 1 1] 22)) ∧
    BatsAt ((w.alloc (.cells #[.string ⟨#[s]⟩] 9)).alloc (.cells #[.slice (some ⟨w.heap.size, 0, none⟩) 1 1] 22)) (some ⟨w.heap.size + 1, 0, none⟩) 1 [[[s]]] := by
  obtain ⟨hb, h1, h2⟩ := boxes_two w #[.string ⟨#[s]⟩] #[.slice (some ⟨w.heap.size, 0, none⟩) 1 1] 9 22
  generalize (w.alloc (.cells #[.string ⟨#[s]⟩] 9)).alloc (.cells #[.slice (some ⟨w.heap.size, 0, none⟩) 1 1] 22) = v at *
  refine ⟨hb, rfl, .inr ⟨w.heap.size + 1, 0, rfl, heap_lt h2, fun i hi => ?_⟩⟩
  obtain rfl : i = 0 := by omega
  refine ⟨some ⟨w.heap.size, 0, none⟩, 1, 1, cell_of_heap h2, rfl, by decide, .inr ⟨w.heap.size, 0, rfl, heap_lt h1, fun i hi => ?_⟩⟩
  obtain rfl : i = 0 := by omega
  rw [cell_of_heap h1]; rfl
theorem free_0 : fre (SegsP.cnt 26) (sup0.chk ++ sup0.log) = [1] ++ [2] := by decide
theorem free_1 : (fre (SegsP.cnt 26) ((based sup0 2 1 [1] 2).chk ++ (based sup0 2 1 [1] 2).log)).length = 1 := by decide
theorem room_0 : (secs sup0.log).length = 8 := by decide
theorem room_1 : (secs (based sup0 2 1 [1] 2).log).length = 8 := by decide
end Go.Proofs.YtnnakhdndmjmiaaGreat.Wal

/-
  The chapter's example: awake tells true.
-/
set_option linter.unusedVariables false
set_option maxRecDepth 4000
namespace Go.Proofs.YtnnakhdndmjmiaaGreat.Wal
open Go.RowKit DiskP SegsP WalP Disk
open Ints (IntsAt IntsAt.keep)
open SuperP (Sup)

set_option maxHeartbeats 4000000 in
theorem awake_any (w : World) : Calls Tryz.prog 9 #[] w fun e w' => e = .returned (.bool true) ∧ Below w.heap.size w w' := by
  have HN := Lib.hid (new_yes 26 w (by decide) (by decide))
  have HR0 := Lib.hid room_0; have HR1 := Lib.hid room_1; have HF0 := Lib.hid free_0; have HF1 := Lib.hid free_1
  go_enter Tryz.func9, Tryz.ntmps9
  go_wp2_with fail
  refine HN.out.mono ?_
  rintro e w1 ⟨d, L, rfl, hD, hL, hb⟩
  have HO := Lib.hid (step_first (w0 := w) hD hL hb (by decide) (by decide))
  clear hD hL hb HN
  go_wp2_with fail
  refine HO.out.mono ?_
  rintro e w2 ⟨st1, ⟨B, a1, c1, rfl, ho⟩, hr1, hu1, hk1, hl1⟩
  clear HO
  rw [show keptV ⟨none, []⟩ a1 c1 = .agg #[.bool false, .string ⟨#[]⟩, .slice a1 0 c1] from rfl]
  have hb3 : Below w2.heap.size w2 (w2.alloc (.cells #[.bool false, .string ⟨#[]⟩, .slice a1 0 c1] 51)) := (Below.refl _ w2).alloc (Nat.le_refl _) _
  have hs3 : (w2.alloc (.cells #[.bool false, .string ⟨#[]⟩, .slice a1 0 c1] 51)).heap.size = w2.heap.size + 1 := by simp
  have hS4 := strs_lit (w2.alloc (.cells #[.bool false, .string ⟨#[]⟩, .slice a1 0 c1] 51)) ⟨#[97]⟩ (by decide)
  have hb4 : Below (w2.alloc (.cells #[.bool false, .string ⟨#[]⟩, .slice a1 0 c1] 51)).heap.size (w2.alloc (.cells #[.bool false, .string ⟨#[]⟩, .slice a1 0 c1] 51)) ((w2.alloc (.cells #[.bool false, .string ⟨#[]⟩, .slice a1 0 c1] 51)).alloc (.cells #[.string ⟨#[97]⟩] 9)) := (Below.refl _ _).alloc (Nat.le_refl _) _
  have F1 : Fine ⟨sup0, 0, 0, false⟩ st1 ⟨none, []⟩ 10 26 := ⟨hr1, hk1, hu1, hl1, by decide, by decide, by decide⟩
  rw [hs3] at hS4
  have HA := Lib.hid (step_append (F := []) ((ho.below hb3).below hb4) F1 97 _ 1 hS4 (by rw [HR0.out]; decide))
  clear ho hr1 hu1 hk1 hl1 hb3 hb4 hs3 hS4 F1
  go_wp2_with fail
  refine HA.out.mono ?_
  rintro e w5 ⟨rfl, st2, ho, hr, hu, hk, hl, _⟩
  have F2 : Fine ⟨sup0, 0 + 1, 0 + 1, false⟩ st2 ⟨none, [[[97]]]⟩ (10 + 2000) 26 := ⟨hr, hk, hu, hl, by decide, by decide, by decide⟩
  have hb6 : Below w5.heap.size w5 (w5.alloc (.cells #[.string ⟨#[98]⟩] 9)) := (Below.refl _ w5).alloc (Nat.le_refl _) _
  have HB := Lib.hid (step_append (F := []) (ho.below hb6) F2 98 _ 1 (strs_lit w5 ⟨#[98]⟩ (by decide)) (by rw [HR0.out]; decide))
  clear ho hr hu hk hl F2 hb6 HA
  go_wp2_with fail
  refine HB.out.mono ?_
  rintro e w6 ⟨rfl, st3, ho, hr, hu, hk, hl, _⟩
  have F3 : Fine ⟨sup0, 0 + 1 + 1, 0 + 1 + 1, false⟩ st3 ⟨none, [[[97]], [[98]]]⟩ (10 + 2000 + 2000) 26 := ⟨hr, hk, hu, hl, by decide, by decide, by decide⟩
  have HC := Lib.hid (step_none (F := []) ho F3 none 0)
  have HF3 := Lib.hid F3
  clear ho hr hu hk hl F3 HB
  go_wp2_with fail
  refine HC.out.mono ?_
  rintro e w7 ⟨rfl, ho, _⟩
  have HO := Lib.hid (step_open (F := []) ho HF3.out)
  clear ho HC
  go_wp2_with fail
  refine HO.out.mono ?_
  rintro e w8 ⟨B2, a2, c2, rfl, _, ho, _, hbt, _⟩
  clear HO
  rw [show keptV ⟨none, [[[97]], [[98]]]⟩ a2 c2 = .agg #[.bool false, .string ⟨#[]⟩, .slice a2 2 c2] from rfl]
  have hbt : BatsAt w8 a2 2 [[[97]], [[98]]] := hbt.at
  obtain ⟨w9, hw9⟩ : ∃ w9, w8.alloc (.cells #[.bool false, .string ⟨#[]⟩, .slice a2 2 c2] 51) = w9 := ⟨_, rfl⟩
  have hs9 : w9.heap.size = w8.heap.size + 1 := by rw [← hw9]; simp
  have hb9 : Below w8.heap.size w8 w9 := by rw [← hw9]; exact (Below.refl _ w8).alloc (Nat.le_refl _) _
  have hk9 : w9.heap[w8.heap.size]? = some (.cells #[.bool false, .string ⟨#[]⟩, .slice a2 2 c2] 51 (0, 0)) := by rw [← hw9]; exact heap_alloc_new w8 _
  have HB8 := Lib.hid (show w.heap.size ≤ w8.heap.size from ho.bel.size)
  have ho9 := ho.more (k := w8.heap.size) (Nat.le_refl _) hb9 (by omega)
  have p0 : w9.cell? ⟨w8.heap.size, 0, none⟩ = some (.bool false) := cell_of_heap hk9
  have p1 : w9.cell? ⟨w8.heap.size, 1, none⟩ = some (.string ⟨#[]⟩) := cell_of_heap hk9
  have p2 : w9.cell? ⟨w8.heap.size, 2, none⟩ = some (.slice a2 2 c2) := cell_of_heap hk9
  have HO9 := Lib.hid ho9; have HK9 := Lib.hid hk9; have HBT := Lib.hid (hbt.keep hb9)
  clear ho ho9 hbt hk9 hb9
  go_wp2_with fail
  obtain ⟨hbl, hlt⟩ := lit_two w9 97 98
  rw [hs9] at hbl hlt
  have hbl' : Below w9.heap.size w9 (((w9.alloc (.cells #[.string ⟨#[97]⟩] 9)).alloc (.cells #[.string ⟨#[98]⟩] 9)).alloc (.cells #[.slice (some ⟨w8.heap.size + 1, 0, none⟩) 1 1, .slice (some ⟨w8.heap.size + 1 + 1, 0, none⟩) 1 1] 22)) := by rw [hs9]; exact hbl
  have HSK := Lib.hid (sameKept_any false false ⟨#[]⟩ ⟨#[]⟩ a2 (some ⟨w8.heap.size + 1 + 1 + 1, 0, none⟩) 2 c2 2 2 _ _ _ (HBT.out.keep hbl') hlt (by decide) (by decide) True (fun _ => ⟨rfl, rfl, rfl⟩))
  have HOL := Lib.hid (HO9.out.below hbl')
  have HKL := Lib.hid ((hbl'.block w8.heap.size (by omega)).trans HK9.out)
  clear hbl hlt hbl' HO9 HK9 HBT p0 p1 p2 hw9
  refine HSK.out.mono ?_
  rintro e w10 ⟨r, rfl, hr, hb10⟩
  have hr := hr trivial
  subst hr
  have ho10 := HOL.out.below hb10
  have hk10 := (hb10.block w8.heap.size (heap_lt HKL.out)).trans HKL.out
  have HCHK := Lib.hid (step_check (F := [w8.heap.size]) ho10 HF3.out 120 [1] 2 HF0.out rfl)
  have HK10 := Lib.hid hk10
  clear HSK hb10 HOL HKL ho10 hk10 hs9
  go_wp2_with fail
  refine HCHK.out.mono ?_
  rintro e w11 ⟨rfl, st4, ho, hr, hu, hk, hl, hkeep⟩
  have F4 : Fine ⟨based sup0 2 1 [1] 2, 0, 2, false⟩ st4 ⟨some [120], []⟩ (10 + 2000 + 2000 + 2000) 26 := ⟨hr, hk, hu, hl, by decide, by decide, by decide⟩
  have ho : OwnL w w11 [w8.heap.size] B d ⟨based sup0 2 1 [1] 2, 0, 2, false⟩ st4 := ho
  have HK11 := Lib.hid ((hkeep w8.heap.size (by simp)).trans HK10.out)
  have hb12 : Below w11.heap.size w11 (w11.alloc (.cells #[.string ⟨#[99]⟩] 9)) := (Below.refl _ w11).alloc (Nat.le_refl _) _
  have HAP := Lib.hid (step_append (F := [w8.heap.size]) (ho.below hb12) F4 99 _ 1 (strs_lit w11 ⟨#[99]⟩ (by decide)) (by rw [HR1.out]; decide))
  have HK12 := Lib.hid ((hb12.block w8.heap.size (heap_lt HK11.out)).trans HK11.out)
  clear ho hr hu hk hl hkeep F4 hb12 HCHK HK10 HK11 HF3
  go_wp2_with fail
  refine HAP.out.mono ?_
  rintro e w13 ⟨rfl, st5, ho, hr, hu, hk, hl, hkeep⟩
  have F5 : Fine ⟨based sup0 2 1 [1] 2, 1, 3, false⟩ st5 ⟨some [120], [[[99]]]⟩ (10 + 2000 + 2000 + 2000 + 2000) 26 := ⟨hr, hk, hu, hl, by decide, by decide, by decide⟩
  have ho : OwnL w w13 [w8.heap.size] B d ⟨based sup0 2 1 [1] 2, 1, 3, false⟩ st5 := ho
  have hk13 := (hkeep w8.heap.size (by simp)).trans HK12.out
  have HO := Lib.hid (step_open (F := [w8.heap.size]) ho F5)
  have HF5 := Lib.hid F5; have HK13 := Lib.hid hk13
  clear ho hr hu hk hl hkeep F5 hk13 HAP HK12
  go_wp2_with fail
  refine HO.out.mono ?_
  rintro e w14 ⟨B3, a3, c3, rfl, ho, _, hkeep, hbt, _⟩
  rw [show keptV ⟨some [120], [[[99]]]⟩ a3 c3 = .agg #[.bool true, .string ⟨#[120]⟩, .slice a3 1 c3] from rfl]
  have hbt : BatsF w14 (List.range w13.heap.size) a3 1 [[[99]]] := hbt
  have hk14 := (hkeep w8.heap.size (by simp)).trans HK13.out
  have hlt8 : w8.heap.size < w13.heap.size := heap_lt HK13.out
  obtain ⟨w15, hw15⟩ : ∃ w15, putK w14 w8.heap.size (.bool true) (.string ⟨#[120]⟩) (.slice a3 1 c3) = w15 := ⟨_, rfl⟩
  have hU15 := upd_putK w14 w8.heap.size (.bool true) (.string ⟨#[120]⟩) (.slice a3 1 c3)
  have hk15 := heap_putK hk14 (.bool true) (.string ⟨#[120]⟩) (.slice a3 1 c3)
  rw [hw15] at hU15 hk15
  have hbw : w.heap.size ≤ w8.heap.size := HB8.out
  have ho15 := ho.kept (by simp) hbw hk14 hU15
  have hbt15 := (hbt.upd (upd_more hU15 (N := List.range w13.heap.size) (fun k hk => by rw [List.mem_singleton.1 hk]; exact List.mem_range.2 hlt8))).at
  have hw15' : ((w14.setCell ⟨w8.heap.size, 0, none⟩ (.bool true)).setCell ⟨w8.heap.size, 1, none⟩ (.string ⟨#[120]⟩)).setCell ⟨w8.heap.size, 2, none⟩ (.slice a3 1 c3) = w15 := hw15
  have x0 : w14.cell? ⟨w8.heap.size, 0, none⟩ = some (.bool false) := cell_of_heap hk14
  have x1 : w14.cell? ⟨w8.heap.size, 1, none⟩ = some (.string ⟨#[]⟩) := cell_of_heap hk14
  have x2 : w14.cell? ⟨w8.heap.size, 2, none⟩ = some (.slice a2 2 c2) := cell_of_heap hk14
  have y0 : w14.frozen? ⟨w8.heap.size, 0, none⟩ = false := frozen_of_heap hk14
  have y1 : w14.frozen? ⟨w8.heap.size, 1, none⟩ = false := frozen_of_heap hk14
  have y2 : w14.frozen? ⟨w8.heap.size, 2, none⟩ = false := frozen_of_heap hk14
  have p0 : w15.cell? ⟨w8.heap.size, 0, none⟩ = some (.bool true) := cell_of_heap hk15
  have p1 : w15.cell? ⟨w8.heap.size, 1, none⟩ = some (.string ⟨#[120]⟩) := cell_of_heap hk15
  have p2 : w15.cell? ⟨w8.heap.size, 2, none⟩ = some (.slice a3 1 c3) := cell_of_heap hk15
  have HO15 := Lib.hid ho15; have HBT := Lib.hid hbt15
  clear ho hkeep hbt hk14 hk15 hw15 hU15 ho15 hbt15 HO HK13 hbw
  go_wp2_with fail
  clear x0 x1 x2 y0 y1 y2 hw15'
  obtain ⟨hbl, hlt⟩ := lit_one w15 99
  have HSK := Lib.hid (sameKept_any true true ⟨#[120]⟩ ⟨#[120]⟩ a3 (some ⟨w15.heap.size + 1, 0, none⟩) 1 c3 1 1 _ _ _ (HBT.out.keep hbl) hlt (by decide) (by decide) True (fun _ => ⟨rfl, rfl, rfl⟩))
  have HOL := Lib.hid (HO15.out.below hbl)
  clear hbl hlt HO15 HBT p0 p1 p2
  refine HSK.out.mono ?_
  rintro e w16 ⟨r, rfl, hr, hb16⟩
  have hr := hr trivial
  subst hr
  have ho16 := HOL.out.below hb16
  have HNM := Lib.hid (step_num ho16); have HGN := Lib.hid (step_gen ho16); have HFR := Lib.hid (step_free ho16 HF5.out 1 HF1.out)
  have HBW := Lib.hid ho16.bel
  clear HSK hb16 HOL ho16
  go_wp2_with fail
  refine HNM.out.mono ?_
  rintro e w17 ⟨rfl, rfl⟩
  go_wp2_with fail
  refine HGN.out.mono ?_
  rintro e w17 ⟨rfl, rfl⟩
  go_wp2_with fail
  refine HFR.out.mono ?_
  rintro e w17 ⟨rfl, hb17⟩
  have HEND := Lib.hid (HBW.out.trans (hb17.mono HBW.out.size))
  clear hb17
  go_wp2_with fail
  go_ret
  exact ⟨rfl, HEND.out⟩
end Go.Proofs.YtnnakhdndmjmiaaGreat.Wal

/-
  The walk of WalNobody: any records, any base.
-/
set_option linter.unusedVariables false
set_option maxRecDepth 4000
namespace Go.Proofs.YtnnakhdndmjmiaaGreat.Wal
open Go.RowKit DiskP SegsP WalP Disk
open Ints (IntsAt IntsAt.keep)

theorem awake_in {w w' : World} (hb : Below w.heap.size w w') : Calls Tryz.prog 9 #[] w' fun e w'' => e = .returned (.bool true) ∧ Below w.heap.size w w'' :=
  (awake_any w').mono fun e w'' h => ⟨h.1, hb.trans (h.2.mono hb.size)⟩
set_option maxHeartbeats 2000000 in
theorem walNobody_walk (a : Option Addr) (n cap : Nat) (s : ByteArray) (w : World) (hn : n ≤ 9223372036854775807) :
    Calls Tryz.prog 7 #[.slice a n cap, .string s] w fun e w' => e = .returned (.bool true) ∧ Below w.heap.size w w' := by
  by_cases h6 : n ≤ 6
  rotate_left
  · have HAW := Lib.hid (awake_in (Below.refl _ w))
    go_enter Tryz.func7, Tryz.ntmps7
    go_wp2_with fail
    refine HAW.out.mono ?_
    rintro e w' ⟨rfl, hb⟩
    have HB := Lib.hid hb
    clear hb HAW
    go_wp2_with fail
    go_ret
    exact ⟨rfl, HB.out⟩
  have HO := Lib.hid (open_early none w (fun w1 _ => size_no none w1 (.inl rfl)))
  have HAW := Lib.hid (fun w' (hb : Below w.heap.size w w') => awake_in hb)
  go_enter Tryz.func7, Tryz.ntmps7
  go_wp2_with fail
  refine HO.out.mono ?_
  rintro e w2 ⟨rfl, hb2⟩
  have hb3 : Below w2.heap.size w2 (w2.alloc (.cells #[.bool false, .string ⟨#[]⟩, .slice none 0 0] 51)) := (Below.refl _ w2).alloc (Nat.le_refl _) _
  have HSK := Lib.hid (sameKept_any false false ⟨#[]⟩ ⟨#[]⟩ none none 0 0 0 0 [] [] (w2.alloc (.cells #[.bool false, .string ⟨#[]⟩, .slice none 0 0] 51)) ⟨rfl, .inl rfl⟩ ⟨rfl, .inl rfl⟩ (by decide) (by decide) True (fun _ => ⟨rfl, rfl, rfl⟩))
  have HB3 := Lib.hid (hb2.trans (hb3.mono hb2.size))
  clear hb2 hb3 HO
  go_wp2_with fail
  refine HSK.out.mono ?_
  rintro e w4 ⟨r, rfl, hr, hb4⟩
  have hr := hr trivial
  subst hr
  have HB4 := Lib.hid (HB3.out.trans (hb4.mono HB3.out.size))
  clear hb4 HSK HB3
  go_wp2_with fail
  obtain ⟨hb5, hA5, hM5⟩ := boxes_two w4 #[.pointer none, .int .i64 0, .int .i64 0, .int .i64 0, .int .i64 0, .slice none 0 0, .slice none 0 0, .int .i64 0, .int .i64 0, .bool false] #[.pointer none, .pointer (some ⟨w4.heap.size, 0, none⟩)] 71 34
  generalize (w4.alloc (.cells #[.pointer none, .int .i64 0, .int .i64 0, .int .i64 0, .int .i64 0, .slice none 0 0, .slice none 0 0, .int .i64 0, .int .i64 0, .bool false] 71)).alloc (.cells #[.pointer none, .pointer (some ⟨w4.heap.size, 0, none⟩)] 34) = w5 at *
  have c0 : w5.cell? ⟨w4.heap.size + 1, 0, none⟩ = some (.pointer none) := cell_of_heap hM5
  have c1 : w5.cell? ⟨w4.heap.size + 1, 1, none⟩ = some (.pointer (some ⟨w4.heap.size, 0, none⟩)) := cell_of_heap hM5
  have h41 : w4.heap.size + 1 < w5.heap.size := heap_lt hM5
  have h40 : w4.heap.size < w5.heap.size := by omega
  have HA5 := Lib.hid hA5
  have HB5 := Lib.hid (HB4.out.trans (hb5.mono HB4.out.size))
  clear hb5 hA5 hM5 HB4
  go_loopw [9] (fun i wr => ∃ j : Nat, j ≤ 2 ∧ i = .int .i64 (j : Int) ∧ Hid (Below w5.heap.size w5 wr)) (fun i _ => 2 - (intOf i).toNat)
  case atStart => exact ⟨0, by omega, rfl, Below.refl _ w5⟩
  case round =>
    obtain ⟨j, hj, rfl, hB⟩ := hrel
    rcases (show j = 0 ∨ j = 1 ∨ j = 2 by omega) with rfl | rfl | rfl
    · have d0 := (hB.out.cell (p := ⟨w4.heap.size + 1, 0, none⟩) h41).trans c0
      have HNL := Lib.hid (fun w1 (hb : Below w5.heap.size w5 w1) => (show NoLog w1 none from .inl rfl))
      have HAP := Lib.hid (append_early 1 none a n cap wr (fun w1 hb => ready_no none w1 (HNL.out w1 (hB.out.trans (hb.mono hB.out.size)))))
      go_wp2_with fail
      refine HAP.out.mono ?_
      rintro e w6 ⟨rfl, hb6⟩
      have HB6 := Lib.hid (hB.out.trans (hb6.mono hB.out.size))
      have d1 := (HB6.out.cell (p := ⟨w4.heap.size + 1, 0, none⟩) h41).trans c0
      have HCK := Lib.hid (check_early 1 none s w6 (fun w1 hb => ready_no none w1 (HNL.out w1 (HB6.out.trans (hb.mono HB6.out.size)))))
      clear hb6 HAP d0
      go_wp2_with fail
      refine HCK.out.mono ?_
      rintro e w7 ⟨rfl, hb7⟩
      have HB7 := Lib.hid (HB6.out.trans (hb7.mono HB6.out.size))
      have d2 := (HB7.out.cell (p := ⟨w4.heap.size + 1, 0, none⟩) h41).trans c0
      have HNM := Lib.hid (num_no none w7 (HNL.out w7 HB7.out)); have HGN := Lib.hid (gen_no none w7 (HNL.out w7 HB7.out)); have HFR := Lib.hid (gfree_no none w7 (HNL.out w7 HB7.out))
      clear hb7 HCK d1 HB6 HNL hB
      go_wp2_with fail
      refine HNM.out.mono ?_
      rintro e w8 ⟨rfl, rfl⟩
      go_wp2_with fail
      refine HGN.out.mono ?_
      rintro e w8 ⟨rfl, rfl⟩
      go_wp2_with fail
      refine HFR.out.mono ?_
      rintro e w8 ⟨rfl, rfl⟩
      clear HNM HGN HFR
      go_wp2_with fail
      go_roundw
      case rel => exact ⟨1, by omega, rfl, HB7⟩
      case measure => simp [intOf]
    · have d0 := (hB.out.cell (p := ⟨w4.heap.size + 1, 1, none⟩) h41).trans c1
      have HNL := Lib.hid (fun w1 (hb : Below w5.heap.size w5 w1) => (show NoLog w1 (some ⟨w4.heap.size, 0, none⟩) from .inr ⟨_, rfl, (hb.cell (p := ⟨w4.heap.size, 0, none⟩) h40).trans (cell_of_heap HA5.out)⟩))
      have HAP := Lib.hid (append_early 1 (some ⟨w4.heap.size, 0, none⟩) a n cap wr (fun w1 hb => ready_no (some ⟨w4.heap.size, 0, none⟩) w1 (HNL.out w1 (hB.out.trans (hb.mono hB.out.size)))))
      go_wp2_with fail
      refine HAP.out.mono ?_
      rintro e w6 ⟨rfl, hb6⟩
      have HB6 := Lib.hid (hB.out.trans (hb6.mono hB.out.size))
      have d1 := (HB6.out.cell (p := ⟨w4.heap.size + 1, 1, none⟩) h41).trans c1
      have HCK := Lib.hid (check_early 1 (some ⟨w4.heap.size, 0, none⟩) s w6 (fun w1 hb => ready_no (some ⟨w4.heap.size, 0, none⟩) w1 (HNL.out w1 (HB6.out.trans (hb.mono HB6.out.size)))))
      clear hb6 HAP d0
      go_wp2_with fail
      refine HCK.out.mono ?_
      rintro e w7 ⟨rfl, hb7⟩
      have HB7 := Lib.hid (HB6.out.trans (hb7.mono HB6.out.size))
      have d2 := (HB7.out.cell (p := ⟨w4.heap.size + 1, 1, none⟩) h41).trans c1
      have HNM := Lib.hid (num_no (some ⟨w4.heap.size, 0, none⟩) w7 (HNL.out w7 HB7.out)); have HGN := Lib.hid (gen_no (some ⟨w4.heap.size, 0, none⟩) w7 (HNL.out w7 HB7.out)); have HFR := Lib.hid (gfree_no (some ⟨w4.heap.size, 0, none⟩) w7 (HNL.out w7 HB7.out))
      clear hb7 HCK d1 HB6 HNL hB
      go_wp2_with fail
      refine HNM.out.mono ?_
      rintro e w8 ⟨rfl, rfl⟩
      go_wp2_with fail
      refine HGN.out.mono ?_
      rintro e w8 ⟨rfl, rfl⟩
      go_wp2_with fail
      refine HFR.out.mono ?_
      rintro e w8 ⟨rfl, rfl⟩
      clear HNM HGN HFR
      go_wp2_with fail
      go_roundw
      case rel => exact ⟨2, by omega, rfl, HB7⟩
      case measure => simp [intOf]
    · have HEND := Lib.hid (HAW.out _ (HB5.out.trans (hB.out.mono HB5.out.size)))
      clear hB HAW
      go_wp2_with fail
      refine HEND.out.mono ?_
      rintro e w9 ⟨rfl, hb9⟩
      have HB9 := Lib.hid hb9
      clear hb9 HEND
      go_wp2_with fail
      go_ret
      exact ⟨rfl, HB9.out⟩
end Go.Proofs.YtnnakhdndmjmiaaGreat.Wal

/-
  The contract of WalNobody in the frame's form: it returns true; what was there stays as it was; nothing is asked.
-/
set_option linter.unusedVariables false
namespace Go.Proofs.YtnnakhdndmjmiaaGreat
open Go.RowKit

/-- What the walk is told of a slice of strings that came in: it is nil, or it leads to its cells. -/
def IsStrs (w : World) (a : Option Addr) (len cap : Nat) (zs : List ByteArray) : Prop :=
  (a = none ∧ len = 0 ∧ cap = 0 ∧ zs = []) ∨
  ∃ x, a = some x ∧ len ≤ cap ∧ cap ≤ maxLen ∧ zs.length = cap ∧ (∀ i, i < zs.length → w.cell? (x.add i) = some (.string (zs.getD i ByteArray.empty))) ∧ ∀ s ∈ zs, s.size ≤ maxLen
namespace Contract
theorem walNobody (a0 : Option Addr) (len0 cap0 : Nat) (z0 : List ByteArray) (a1 : ByteArray) (W : World) (w0 : IsStrs W a0 len0 cap0 z0) (w1 : a1.size ≤ maxLen) :
    Calls Tryz.prog 7 #[.slice a0 len0 cap0, .string a1] W fun e w' => e = .returned (.bool true) ∧ Below W.heap.size W w' := by
  refine Wal.walNobody_walk a0 len0 cap0 a1 W ?_
  rcases w0 with ⟨_, rfl, _⟩ | ⟨_, _, h1, h2, _⟩
  · omega
  · unfold maxLen at h2; omega
end Contract
end Go.Proofs.YtnnakhdndmjmiaaGreat
