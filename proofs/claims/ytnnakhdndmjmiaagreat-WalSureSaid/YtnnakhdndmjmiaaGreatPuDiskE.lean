import Derived.Test.YtnnakhdndmjmiaaGreatPuDiskC
import Derived.StillTailTactics
import Derived.LoopTactic
set_option linter.unusedVariables false
set_option maxRecDepth 4000
namespace Go.Proofs.YtnnakhdndmjmiaaGreat.Disk
open Go.RowKit DiskP
theorem info_string : (Tryz.prog.info? 9).map (fun i=>(i.zero,i.size,i.bytes)) = some (some (.string ⟨#[]⟩),1,16):=by kernel_rfl
def Fresh (w : World) (n : Nat) (S : List ByteArray) (e : Ending) (w' : World) : Prop :=
 ∃ g cap,e = .returned (.slice (some ⟨g,0,none⟩) n cap) ∧ w'.ownsRow w.heap.size 9 1 (.slice (some ⟨g,0,none⟩) n cap) n (S.map Value.string) ∧ Below w.heap.size w w'
theorem with_any (g cap k n : Nat) (S : List ByteArray) (s : ByteArray) (w : World) (h : w.ownsRow 0 9 1 (.slice (some ⟨g,0,none⟩) n cap) n (S.map Value.string)) (hk : k < n) (hn : n ≤ 512) :
  Calls Tryz.prog 90 #[.slice (some ⟨g,0,none⟩) n cap,.int .i64 (k : Int),.string s] w (Fresh w n (S.set k s)):=by
 have hl : (S.map Value.string).length = n:=by have:=h.1;simpa using this
 have hc : ∀ j u,(S.map Value.string)[j]? = some u → w.cell? ((⟨g,0,none⟩ : Addr).add j) = some u:=h.cells (g:=g) rfl
 obtain ⟨xs,hx⟩ : ∃ xs,S.map Value.string = xs:=⟨_,rfl⟩
 have hx2 : (S.set k s).map Value.string = xs.set k (.string s):=by rw [← hx,List.map_set]
 have h1 : ∀ u ∈ xs,u.oneCell' = true:=by
  rw [← hx];intro u hu;obtain ⟨x,_,rfl⟩:=List.mem_map.1 hu;rfl
 unfold Fresh
 rw [hx2]
 rw [hx] at hc hl
 obtain ⟨i0,hi,hz0,hz1,hz2⟩:=info_parts info_string
 have HI:=Lib.hid hi;have HZ0:=Lib.hid hz0;have HZ1:=Lib.hid hz1;have HZ2:=Lib.hid hz2
 have HC:=Lib.hid hc;have HL:=Lib.hid hl;have H1:=Lib.hid h1
 clear hi hz0 hz1 hz2 hc hl h1 h hx hx2
 go_enter Tryz.func90,Tryz.ntmps90
 go_wp2_with (at_builtin;refine wpList_append_own _ rfl _ _ 22 rfl w.heap.size 9 i0 _ 1 16 Tryz.underlying22 HI.out HZ0.out HZ1.out HZ2.out rfl (by decide) _ _ _ rfl (World.ownsRow_nil _ _ _ _) ⟨g,0,none⟩ n cap xs rfl ?c1 HC.out H1.out ?c3 ?c4 ?c5 ?_)
 case c1=>rw [HL.out,Nat.mul_one]
 case c3=>unfold maxLen;omega
 case c4=>omega
 case c5=>exact Nat.le_refl _
 intro v' w1 hown hgrow _
 obtain ⟨m,rfl⟩ : ∃ m,n = m + 1:=⟨n - 1,by omega⟩
 obtain ⟨g',cap',rfl⟩:=owns_succ hown
 have hb1 : Below w.heap.size w w1:=(Below.refl _ w).grown hgrow (Nat.le_refl _) (fun k e=>by simp [Value.ownBlock] at e)
 have hlk : k < xs.length:=by rw [HL.out];exact hk
 have c0 : w1.cell? ⟨g',k,none⟩ = some xs[k]:=owns_cell hown rfl (List.getElem?_eq_getElem hlk)
 have f0 : w1.frozen? ⟨g',k,none⟩ = false:=owns_frozen hown rfl
 have hgb : w.heap.size ≤ g':=(hown.lt g' rfl).1
 have hst:=(World.ownsRow.stored hown k (.string s)).1
 have HST:=Lib.hid hst;have HB:=Lib.hid (hb1.setCell (p:=⟨g',k,none⟩) hgb (.string s));have HO:=Lib.hid (H1.out _ (List.getElem_mem hlk))
 clear hst hown hgrow hb1
 generalize xs[k] = x0 at *
 go_wp2
 go_ret
 exact ⟨g',cap',rfl,HST.out,HB.out⟩
end Go.Proofs.YtnnakhdndmjmiaaGreat.Disk
