import Derived.Test.YtnnakhdndmjmiaaGreatPuDiskPlain
import Derived.Test.YtnnakhdndmjmiaaGreatPuDiskAct
import Derived.Test.YtnnakhdndmjmiaaGreatPuSegsA
set_option linter.unusedVariables false
set_option maxRecDepth 4000
set_option maxRecDepth 4000
namespace Go.Proofs.YtnnakhdndmjmiaaGreat.Disk
open Go.RowKit DiskP SegsP
open Ints (IntsAt IntsAt.keep)
def zcells : Array Value:=Array.replicate 128 (.int .u8 0)
theorem zero_arr (w : World) : (zeroValue 150).run Tryz.prog w = .ok (.agg zcells) w:=by kernel_rfl
theorem zcells_size : zcells.size = 128:=by simp [zcells]
theorem rep_zero (n j : Nat) : (List.replicate n (0 : Int)).getD j 0 = 0:=by
 rw [List.getD_eq_getElem?_getD,List.getElem?_replicate]
 split <;> rfl
def Zer (w : World) (B : Nat) : Prop:=w.heap[B]? = some (.cells zcells 150 (0,0))
theorem Zer.text {w : World} {B : Nat} (h : Zer w B) : (convert 137 9 (.slice (some ⟨B,0,none⟩) 128 128)).run Tryz.prog w = .ok (.string DiskP.blank) w:=by
 have h2:=run_convert_bytes_arg (P:=Tryz.prog) w 137 5 Tryz.underlying137 Tryz.underlying5 B 0 128 128 (List.replicate 128 (0 : Int)) (by simp) (fun j hj=>by
  rw [cell_of_heap h,Nat.zero_add]
  unfold zcells
  rw [Array.getElem?_replicate,if_pos hj]
  rw [rep_zero]) 9 Tryz.underlying9
 rw [blank_nums] at h2
 exact h2
theorem zer_new (w : World) : Zer (w.alloc (.cells zcells 150)) w.heap.size:=heap_alloc_new w _
theorem Zer.upd {w w' : World} {B : Nat} {L L' : List Nat} (h : Zer w B) (hU : Upd L w w' L') (hlt : B < w.heap.size) (hn : B ∉ L) : Zer w' B:=(hU.block B hlt hn).trans h
theorem Zer.below {w w' : World} {B : Nat} (h : Zer w B) (hb : Below w.heap.size w w') : Zer w' B:=(hb.block B (heap_lt h)).trans h
theorem sblank_any (s : ByteArray) (w : World) : Calls Tryz.prog 104 #[.string s] w fun e w'=>e = .returned (.bool (s.toList == DiskP.blank.toList)) ∧ Below w.heap.size w w':=by
 have hz:=zero_arr
 have ht:=(zer_new w).text
 have hc:=zcells_size
 generalize DiskP.blank = z at *
 generalize zcells = c0 at *
 go_enter Tryz.func104,Tryz.ntmps104
 go_wp2_with fail
 go_ret
 exact ⟨rfl,(Below.refl _ w).alloc (Nat.le_refl _) _⟩
theorem str_beq_yes {a b : ByteArray} (h : a = b) : (a.toList == b.toList) = true:=by rw [h];simp
theorem bytes_toList (a : ByteArray) : a.toList = a.data.toList:=ByteArray.toList_eq a
theorem str_beq_no {a b : ByteArray} (h : ¬ a = b) : (a.toList == b.toList) = false:=by
 rw [beq_eq_false_iff_ne]
 intro e
 rw [bytes_toList,bytes_toList] at e
 exact h (ByteArray.ext (Array.toList_inj.1 e))
theorem cell_upd' {L L' : List Nat} {w w' : World} {p : Addr} (hU : Upd L w w' L') (h1 : p.block < w.heap.size) (h2 : p.block ∉ L) : w'.cell? p = w.cell? p:=World.cell?_of_block (hU.block p.block h1 h2)
theorem ints_upd {L L' : List Nat} {w w' : World} {a : Option Addr} {len : Nat} {xs : List Int} (h : IntsAt w a len xs) (ha : 0 < len → ∀ y,a = some y → y.block ∉ L) (hU : Upd L w w' L') : IntsAt w' a len xs:=by
 refine ⟨h.1,h.2.1,?_⟩
 rcases h.2.2 with h0 | ⟨b,off,rfl,hlt,hc⟩
 ·exact .inl h0
 ·by_cases h0 : len = 0
  ·exact .inl h0
  ·exact .inr ⟨b,off,rfl,by have:=hU.size;omega,fun i hi=>(cell_upd' (p:=⟨b,off + i,none⟩) hU hlt (ha (by omega) ⟨b,off,none⟩ rfl)).trans (hc i hi)⟩
set_option maxHeartbeats 2000000 in
theorem erase_dk (b n : Nat) (st : St) (L : List Nat) (a : Option Addr) (len cap : Nat) (xs : List Int) (w : World) (h : Dk w L b st) (hok : Ok n st) (hn : n + len ≤ 1000000) (hI : IntsAt w a len xs) (ha : 0 < len → ∀ y, a = some y → y.block ∉ L) :
    Calls Tryz.prog 52 #[.pointer (some ⟨b, 0, none⟩), .slice a len cap] w (Did w L b (er st false xs).2 (.int .i64 (er st false xs).1)) := by
  obtain ⟨r, hr⟩ : ∃ r, er st false xs = r := ⟨_, rfl⟩
  rw [hr]
  have hz := zero_arr
  have hzn := zer_new w
  have hb1 : Below w.heap.size w (w.alloc (.cells zcells 150)) := (Below.refl _ w).alloc (Nat.le_refl _) _
  have HLN := Lib.hid hI.1; have HF := Lib.hid hI.2.1; have HROW := Lib.hid (hI.keep hb1); have HR := Lib.hid hr; have HOK := Lib.hid hok; have HD1 := Lib.hid (dk_below h hb1)
  have HB1 := Lib.hid hb1; have HZN := Lib.hid hzn; have HA := Lib.hid ha; have HLT := Lib.hid h.lt
  have HSZ := Lib.hid (show (w.alloc (.cells zcells 150)).heap.size = w.heap.size + 1 by simp)
  clear h hok hI hr hb1 hzn ha
  generalize zcells = c0 at *
  go_enter Tryz.func52, Tryz.ntmps52
  go_wp2_with fail
  clear hz
  generalize w.alloc (.cells c0 150) = w1 at *
  go_loopw [6, 14] (fun f i wr => ∃ (j : Nat) (sj : St) (fd : Bool) (Lj : List Nat), j ≤ len ∧ f = .bool fd ∧ i = .int .i64 (j : Int) ∧ Hid (er sj fd (xs.drop j) = r) ∧ Hid (Dk wr Lj b sj) ∧ Hid (Upd L w1 wr Lj) ∧ Hid (Ok (n + j) sj)) (fun _ i _ => len - (intOf i).toNat)
  case atStart => exact ⟨0, st, false, L, Nat.zero_le _, rfl, rfl, by rw [List.drop_zero]; exact HR.out, HD1.out, Upd.refl _ _, HOK.out⟩
  case round =>
    obtain ⟨j, sj, fd, Lj, hj, rfl, rfl, hE, hD, hU, hOK⟩ := hrel
    have HROWJ := Lib.hid (ints_upd HROW.out HA.out hU.out)
    have hnj : n + j ≤ 1000000000 := by omega
    have HZB := Lib.hid (show w.heap.size ∉ Lj from fun hk => by have := hU.out.sub _ hk; have := HLT.out; have h2 := HSZ.out; rcases hU.out.sub _ hk with g | g
                                                                 · exact absurd (HLT.out _ g) (Nat.lt_irrefl _)
                                                                 · omega)
    by_cases hlt : j < len
    · obtain ⟨b1, o1, rfl, hb1, hd1⟩ := HROWJ.out.2.2.resolve_left (by omega)
      have hjx : j < xs.length := by rw [HLN.out]; exact hlt
      have d1 := hd1 j hlt
      have hdr : xs.drop j = xs.getD j 0 :: xs.drop (j + 1) := by rw [List.drop_eq_getElem_cons hjx]; simp [List.getD, hjx]
      obtain ⟨k0, k1⟩ := HF.out _ (Ints.getD_mem hjx)
      rw [hdr] at hE
      generalize xs.getD j 0 = k at *
      clear hd1 hdr HROWJ
      obtain ⟨s, hs⟩ : ∃ s, (rd sj k).1 = s := ⟨_, rfl⟩
      obtain ⟨er1, he1⟩ : ∃ er1, (rd sj k).2 = er1 := ⟨_, rfl⟩
      have hread := read_dk b (n + j) sj Lj k wr hD.out hOK.out hnj
      rw [hs, he1] at hread
      have HS := Lib.hid hs; have HE1 := Lib.hid he1
      clear hs he1
      go_wp2_with fail
      refine hread.mono ?_
      rintro e w2 ⟨rfl, hb⟩
      have HD2 := Lib.hid (dk_below hD.out hb); have HU2 := Lib.hid (hU.out.trans (Upd.of_below hb))
      clear hb hD hU hread d1
      by_cases hz0 : er1 = 0
      · subst hz0
        go_wp2_with fail
        refine (sblank_any s w2).mono ?_
        rintro e w3 ⟨rfl, hb⟩
        have HD3 := Lib.hid (dk_below HD2.out hb); have HU3 := Lib.hid (HU2.out.trans (Upd.of_below hb))
        clear hb HD2 HU2
        by_cases hsb : s = DiskP.blank
        · have HE2 := Lib.hid (by have := hE.out; rw [er_skip HE1.out (HS.out.trans hsb)] at this; exact this)
          rw [str_beq_yes hsb]
          clear hsb hE
          go_wp2_with fail
          go_roundw
          case rel => exact ⟨j + 1, sj, fd, Lj, by omega, rfl, by go_num, HE2, HD3, HU3, Lib.hid (hOK.out.mono (by omega))⟩
          case measure => simp [intOf]; omega
        · rw [str_beq_no hsb]
          have hcv := (HZN.out.upd HU3.out (by have := HSZ.out; omega) (fun hk => absurd (HLT.out _ hk) (Nat.lt_irrefl _))).text
          have hwr := write_dk b (n + j) sj Lj k DiskP.blank w3 HD3.out hOK.out hnj (by rw [show DiskP.blank.size = 128 from fill_size 0 128]; decide)
          have HOK3 := Lib.hid (wr_ok hOK.out k DiskP.blank)
          have HST := Lib.hid (fun h3 => er_step (f := fd) (l := xs.drop (j + 1)) HE1.out (fun e => hsb (HS.out.symm.trans e)) h3)
          have HSO := Lib.hid (fun h3 => er_stop (f := fd) (l := xs.drop (j + 1)) HE1.out (fun e => hsb (HS.out.symm.trans e)) h3)
          obtain ⟨wv, hwv⟩ : ∃ wv, (DiskP.wr sj k DiskP.blank).1 = wv := ⟨_, rfl⟩
          obtain ⟨s2, hs2⟩ : ∃ s2, (DiskP.wr sj k DiskP.blank).2 = s2 := ⟨_, rfl⟩
          rw [hwv, hs2] at hwr
          rw [hs2] at HOK3
          have hwe : DiskP.wr sj k DiskP.blank = (wv, s2) := by rw [← hwv, ← hs2]
          rw [hwe] at HST HSO
          have hbs : DiskP.blank.size = 128 := fill_size 0 128
          generalize DiskP.blank = bl at *
          have HWR := Lib.hid hwr
          clear hsb hwv hs2 hwe hwr hbs
          go_wp2_with fail
          refine HWR.out.mono ?_
          rintro e w4 ⟨rfl, L4, hD4, hU4⟩
          have HD4 := Lib.hid hD4; have HU4 := Lib.hid (HU3.out.trans hU4)
          clear hD4 hU4 HD3 HU3 HWR hcv
          by_cases hw0 : wv = 0
          · subst hw0
            have HE2 := Lib.hid (by have := hE.out; rw [HST.out rfl] at this; exact this)
            clear hE HST HSO
            go_wp2_with fail
            go_roundw
            case rel => exact ⟨j + 1, s2, true, L4, by omega, rfl, by go_num, HE2, HD4, HU4, HOK3⟩
            case measure => simp [intOf]; omega
          · have hne : (wv != 0) = true := by simpa using hw0
            have HE2 := Lib.hid (by have := hE.out; rw [HSO.out hw0] at this; exact this)
            have HEND := Lib.hid (did_pre (v := .int .i64 wv) HB1.out HD4.out HU4.out)
            clear hE HST HSO hw0
            go_wp2_with fail
            go_ret
            rw [← HE2.out]
            exact HEND.out
      · have hne : (er1 != 0) = true := by simpa using hz0
        have HE2 := Lib.hid (by have := hE.out; rw [er_bad (fun e => hz0 (HE1.out.symm.trans e)), HE1.out] at this; exact this)
        have HEND := Lib.hid (did_pre (v := .int .i64 er1) HB1.out HD2.out HU2.out)
        clear hE hz0
        go_wp2_with fail
        go_ret
        rw [← HE2.out]
        exact HEND.out
    · obtain rfl : j = len := by omega
      rw [List.drop_of_length_le (by rw [HLN.out]; omega)] at hE
      clear HROWJ
      cases fd with
      | false =>
        have HE2 : Hid ((0, sj) = r) := hE
        have HEND := Lib.hid (did_pre (v := .int .i64 0) HB1.out hD.out hU.out)
        clear hE
        go_wp2_with fail
        go_ret
        rw [← HE2.out]
        exact HEND.out
      | true =>
        have HE2 : Hid (fl sj = r) := hE
        have hfl := flush_dk b (n + j) sj Lj wr hD.out hOK.out hnj
        rw [HE2.out] at hfl
        clear hE
        go_wp2_with fail
        refine hfl.mono ?_
        rintro e w4 ⟨rfl, L4, hD4, hU4⟩
        have HEND := Lib.hid (did_pre (v := .int .i64 r.1) HB1.out hD4 (hU.out.trans hU4))
        clear hD4 hU4
        go_wp2_with fail
        go_ret
        exact HEND.out
end Go.Proofs.YtnnakhdndmjmiaaGreat.Disk
