import Derived.Test.YtnnakhdndmjmiaaGreatPuSuperPlain
import Derived.Test.YtnnakhdndmjmiaaGreatPuSuperH
import Derived.Deep.RegionHeld3
set_option linter.unusedVariables false
set_option maxRecDepth 4000
set_option maxRecDepth 4000
namespace Go.Proofs.YtnnakhdndmjmiaaGreat
open Go.RowKit SuperP
open Wire (IntsAt getD_mem take_snoc step_copy_row below_setRow info8)
open WireP (encs text)
def row104 (l : List UInt8) : Array Value:=(Lib.byteCells (l ++ List.replicate (104 - l.length) 0)).toArray
theorem zero_104 (w : World) : (zeroValue 210).run Tryz.prog w = .ok (.agg (row104 [])) w:=by kernel_rfl
theorem row104_size {l : List UInt8} (h : l.length ≤ 104) : (row104 l).size = 104:=by
 simp only [row104,List.size_toArray,Lib.byteCells_length,List.length_append,List.length_replicate]
 omega
theorem row104_copy {l r : List UInt8} (h : l.length + r.length ≤ 104) : ((row104 l).toList.take l.length ++ Lib.byteCells r ++ (row104 l).toList.drop (l.length + r.length)).toArray = row104 (l ++ r):=by
 unfold row104
 congr 1
 have e1 : (Lib.byteCells (l ++ List.replicate (104 - l.length) 0)).take l.length = Lib.byteCells l:=by
  rw [Lib.byteCells_append,List.take_left' (Lib.byteCells_length l)]
 have e2 : (Lib.byteCells (l ++ List.replicate (104 - l.length) 0)).drop (l.length + r.length) = Lib.byteCells (List.replicate (104 - (l ++ r).length) 0):=by
  rw [Lib.byteCells_append,← List.drop_drop,List.drop_left' (Lib.byteCells_length l)]
  unfold Lib.byteCells
  rw [← List.map_drop,List.drop_replicate,List.length_append]
  congr 2
  omega
 rw [e1,e2,← Lib.byteCells_append,← Lib.byteCells_append]
theorem cell_setRow_next (w : World) (B i : Nat) (row : Array Value) : (w.setRow (B + 1) row).cell? ⟨B,i,none⟩ = w.cell? ⟨B,i,none⟩ :=
 World.cell?_of_block (by simp only [World.setRow,Array.getElem?_modify];rw [if_neg (by omega)])
theorem heap_setRow_next (w : World) (B : Nat) (row : Array Value) : (w.setRow (B + 1) row).heap[B]? = w.heap[B]?:=by
 simp only [World.setRow,Array.getElem?_modify];rw [if_neg (by omega)]
structure Fd (w0 w : World) (B : Nat) (box : Array Value) (l : List UInt8) : Prop where
 below : Below B w0 w
 box : w.heap[B]? = some (.cells box 69 (0,0))
 row : w.heap[B + 1]? = some (.cells (row104 l) 210 (0,0))
theorem Fd.keep {w0 w w' : World} {B : Nat} {box : Array Value} {l : List UInt8} (h : Fd w0 w B box l) (hb : Below w.heap.size w w') : Fd w0 w' B box l:=by
 have h1:=(Array.getElem?_eq_some_iff.1 h.row).1
 exact ⟨h.below.trans (hb.mono (by omega)),(hb.block B (by omega)).trans h.box,(hb.block (B + 1) h1).trans h.row⟩
theorem Fd.copy {w0 w : World} {B : Nat} {box : Array Value} {l : List UInt8} (h : Fd w0 w B box l) (r : List UInt8) : Fd w0 (w.setRow (B + 1) (row104 (l ++ r))) B box (l ++ r) :=
 ⟨below_setRow h.below (Nat.le_succ B) _,(heap_setRow_next w B _).trans h.box,heap_setRow_at h.row _⟩
theorem Fd.text {w0 w : World} {B : Nat} {box : Array Value} {l : List UInt8} (h : Fd w0 w B box l) (n cap : Nat) (hn : l.length = n) (hl : n ≤ 104) :
  (convert 137 9 (.slice (some ⟨B + 1,0,none⟩) n cap)).run Tryz.prog w = .ok (.string ⟨l.toArray⟩) w:=by
 have h2:=run_convert_bytes_arg (P:=Tryz.prog) w 137 5 Tryz.underlying137 Tryz.underlying5 (B + 1) 0 n cap (l.map fun c=>(c.toNat : Int)) (by simp [hn]) (fun j hj=>by
  have hjl : j < l.length:=by omega
  rw [Nat.zero_add,Wire.cell_of_heap h.row]
  unfold row104
  rw [List.getElem?_toArray,Lib.byteCells_append,List.getElem?_append_left (by rw [Lib.byteCells_length];exact hjl)]
  simp [Lib.byteCells,List.getD,hjl]) 9 Tryz.underlying9
 rw [strOfNums_bytes] at h2
 exact h2
theorem ints_block {w : World} {b : Nat} {xs : List Int} (h : w.heap[b]? = some (.cells (cellsI xs).toArray 3 (0,0))) (hr : ∀ x ∈ xs,-9223372036854775808 ≤ x ∧ x ≤ 9223372036854775807) : IntsAt w (some ⟨b,0,none⟩) xs.length xs:=by
 refine ⟨rfl,hr,.inr ⟨b,0,rfl,(Array.getElem?_eq_some_iff.1 h).1,fun i hi=>?_⟩⟩
 rw [Wire.cell_of_heap h]
 simp [cellsI,List.getD,hi]
theorem four_in {x : Sup} (h : Fit x) : ∀ n ∈ [x.gen,x.base,x.size,x.cg],-9223372036854775808 ≤ n ∧ n ≤ 9223372036854775807:=by
 have hp:=(fit_parts h).1
 have hz : 0 ≤ x.size ∧ x.size ≤ 52416:=by
  have h9:=h.2.2.2
  have:=h.1
  split at h9
  ·omega
  ·omega
 intro n hn
 simp only [List.mem_cons,List.not_mem_nil,or_false] at hn
 rcases hn with rfl | rfl | rfl | rfl <;> omega
theorem segs_both {x : Sup} (h : Fit x) : (∀ n ∈ x.chk,0 ≤ n ∧ n < 63) ∧ ∀ n ∈ x.log,0 ≤ n ∧ n < 63:=by
 have hs:=(fit_parts h).2.2.1
 exact ⟨fun n hn=>hs.1 n (List.mem_append_left _ hn),fun n hn=>hs.1 n (List.mem_append_right _ hn)⟩
theorem list_size (l : List UInt8) : (⟨l.toArray⟩ : ByteArray).size = l.length:=by simp [ByteArray.size]
set_option maxHeartbeats 4000000 in
theorem fields_is (x : Sup) (a1 a2 : Option Addr) (l1 c1 l2 c2 : Nat) (w : World) (h : SupAt w x a1 l1 a2 l2) (hf : Fit x) :
  Calls Tryz.prog 150 #[supV x (.slice a1 l1 c1) (.slice a2 l2 c2)] w fun e w'=>e = .returned (.string ⟨(data x).toArray⟩) ∧ Below w.heap.size w w':=by
 have hdl:=data_length hf
 obtain ⟨_,_,_,hc63,hl63⟩:=fit_parts hf
 obtain ⟨hrA,hrB⟩:=segs_both hf
 have hlp:=(fit_parts hf).2.1
 obtain ⟨s1,hs1⟩ : ∃ s1 : ByteArray,(⟨(encs [x.gen,x.base,x.size,x.cg]).toArray⟩ : ByteArray) = s1:=⟨_,rfl⟩
 obtain ⟨s2,hs2⟩ : ∃ s2 : ByteArray,(⟨(text (octs x.chk)).toArray⟩ : ByteArray) = s2:=⟨_,rfl⟩
 obtain ⟨s3,hs3⟩ : ∃ s3 : ByteArray,(⟨(text (octs x.log)).toArray⟩ : ByteArray) = s3:=⟨_,rfl⟩
 have d1 : s1.data.toList = encs [x.gen,x.base,x.size,x.cg]:=by rw [← hs1]
 have d2 : s2.data.toList = text (octs x.chk):=by rw [← hs2]
 have d3 : s3.data.toList = text (octs x.log):=by rw [← hs3]
 have hdat : data x = s1.data.toList ++ (s2.data.toList ++ s3.data.toList):=by rw [d1,d2,d3];rfl
 have n3 : 0 < s3.size:=by
  rw [← Wire.len_list,d3]
  unfold text
  rw [List.length_append]
  have : (octs x.log).length = x.log.length:=by simp [octs]
  omega
 rw [hdat] at hdl ⊢
 rw [List.length_append,List.length_append,Wire.len_list,Wire.len_list,Wire.len_list] at hdl
 have hk1 : ∀ (b : Nat) (w : World),w.heap[b]? = some (.cells #[.int .i64 x.gen,.int .i64 x.base,.int .i64 x.size,.int .i64 x.cg] 3 (0,0)) → Calls Tryz.prog 175 #[.slice (some ⟨b,0,none⟩) 4 4] w fun e w'=>e = .returned (.string s1) ∧ Below w.heap.size w w':=fun b w hb=>by
  rw [← hs1]
  exact Wire.ints_any (some ⟨b,0,none⟩) 4 4 [x.gen,x.base,x.size,x.cg] w (ints_block hb (four_in hf)) (by decide)
 obtain ⟨o1,ho1⟩ : ∃ o1 : ByteArray,(⟨(octs x.chk).toArray⟩ : ByteArray) = o1:=⟨_,rfl⟩
 obtain ⟨o2,ho2⟩ : ∃ o2 : ByteArray,(⟨(octs x.log).toArray⟩ : ByteArray) = o2:=⟨_,rfl⟩
 have hk2 : ∀ w',IntsAt w' a1 l1 x.chk → Calls Tryz.prog 177 #[.slice a1 l1 c1] w' fun e w''=>e = .returned (.string o1) ∧ Below w'.heap.size w' w'':=fun w' hi=>by
  rw [← ho1]
  exact octets_is a1 l1 c1 x.chk w' hi hrA (by rw [← hi.1];omega)
 have hk3 : ∀ w',IntsAt w' a2 l2 x.log → Calls Tryz.prog 177 #[.slice a2 l2 c2] w' fun e w''=>e = .returned (.string o2) ∧ Below w'.heap.size w' w'':=fun w' hi=>by
  rw [← ho2]
  exact octets_is a2 l2 c2 x.log w' hi hrB (by rw [← hi.1];omega)
 have hk4 : ∀ w',Calls Tryz.prog 176 #[.string o1] w' fun e w''=>e = .returned (.string s2) ∧ Below w'.heap.size w' w'':=fun w' =>
  Wire.text_is o1 s2 w' (by rw [← ho1,list_size];simp [octs];omega) (by rw [d2,← ho1])
 have hk5 : ∀ w',Calls Tryz.prog 176 #[.string o2] w' fun e w''=>e = .returned (.string s3) ∧ Below w'.heap.size w' w'':=fun w' =>
  Wire.text_is o2 s3 w' (by rw [← ho2,list_size];simp [octs];omega) (by rw [d3,← ho2])
 have H:=Lib.hid h;have K1:=Lib.hid hk1;have K2:=Lib.hid hk2;have K3:=Lib.hid hk3;have K4:=Lib.hid hk4;have K5:=Lib.hid hk5
 have hz:=zero_104
 have hal : Tryz.prog.arrayLen 210 = 104:=by kernel_rfl
 have hsz0 : (row104 []).size = 104:=row104_size (by decide)
 obtain ⟨z0,hz0⟩ : ∃ z0,row104 [] = z0:=⟨_,rfl⟩
 rw [hz0] at hz hsz0
 have HZ0:=Lib.hid hz0
 have hb0 : Below w.heap.size w ((w.alloc (.cells #[.int .i64 x.gen,.int .i64 x.base,.int .i64 x.size,.int .i64 x.cg,.slice a1 l1 c1,.slice a2 l2 c2] 69)).alloc (.cells z0 210)):=((Below.refl _ w).alloc (Nat.le_refl _) _).alloc (by simp) _
 have q1 : ((w.alloc (.cells #[.int .i64 x.gen,.int .i64 x.base,.int .i64 x.size,.int .i64 x.cg,.slice a1 l1 c1,.slice a2 l2 c2] 69)).alloc (.cells z0 210)).heap[w.heap.size]? = some (.cells #[.int .i64 x.gen,.int .i64 x.base,.int .i64 x.size,.int .i64 x.cg,.slice a1 l1 c1,.slice a2 l2 c2] 69 (0,0)):=(Below.heap_alloc (w.alloc _) _ w.heap.size (by simp)).trans (heap_alloc_new w _)
 have q2:=cells_second (w:=w) (A:=#[.int .i64 x.gen,.int .i64 x.base,.int .i64 x.size,.int .i64 x.cg,.slice a1 l1 c1,.slice a2 l2 c2]) (B:=z0) (t:=69) (u:=210)
 have HF0:=Lib.hid (Fd.mk hb0 q1 (by rw [hz0];exact q2))
 have HL1:=Lib.hid (Wire.len_list s1);have HL2:=Lib.hid (Wire.len_list s2);have HL3:=Lib.hid (Wire.len_list s3)
 have hr1 : (z0.toList.take 0 ++ Lib.byteCells s1.data.toList ++ z0.toList.drop (0 + s1.size)).toArray = row104 s1.data.toList:=by
  have:=row104_copy (l:=[]) (r:=s1.data.toList) (by rw [HL1.out];show 0 + s1.size ≤ 104;omega)
  rw [hz0,HL1.out] at this
  exact this
 have hr2 : ((row104 s1.data.toList).toList.take s1.size ++ Lib.byteCells s2.data.toList ++ (row104 s1.data.toList).toList.drop (s1.size + s2.size)).toArray = row104 (s1.data.toList ++ s2.data.toList):=by
  have:=row104_copy (l:=s1.data.toList) (r:=s2.data.toList) (by rw [HL1.out,HL2.out];omega)
  rw [HL1.out,HL2.out] at this
  exact this
 have hr3 : ((row104 (s1.data.toList ++ s2.data.toList)).toList.take (s1.size + s2.size) ++ Lib.byteCells s3.data.toList ++ (row104 (s1.data.toList ++ s2.data.toList)).toList.drop (s1.size + s2.size + s3.size)).toArray = row104 (s1.data.toList ++ s2.data.toList ++ s3.data.toList):=by
  have:=row104_copy (l:=s1.data.toList ++ s2.data.toList) (r:=s3.data.toList) (by rw [List.length_append,HL1.out,HL2.out,HL3.out];omega)
  rw [List.length_append,HL1.out,HL2.out,HL3.out] at this
  exact this
 have HR1:=Lib.hid hr1;have HR2:=Lib.hid hr2;have HR3:=Lib.hid hr3
 have z1 : (row104 s1.data.toList).size = 104:=row104_size (by rw [HL1.out];omega)
 have z2 : (row104 (s1.data.toList ++ s2.data.toList)).size = 104:=row104_size (by rw [List.length_append,HL1.out,HL2.out];omega)
 have HZ1:=Lib.hid z1;have HZ2:=Lib.hid z2;have HSZ0:=Lib.hid hsz0
 clear hb0 q1 q2 h hk1 hk2 hk3 hk4 hk5 ho1 ho2 hs1 hs2 hs3 d1 d2 d3 hr1 hr2 hr3 hrA hrB hf hdat hz0 hlp hc63 hl63 z1 z2 hsz0
 unfold supV
 go_enter Tryz.func150,Tryz.ntmps150
 go_wp2_with fail
 clear hz
 generalize (w.alloc (.cells #[.int .i64 x.gen,.int .i64 x.base,.int .i64 x.size,.int .i64 x.cg,.slice a1 l1 c1,.slice a2 l2 c2] 69)).alloc (.cells z0 210) = w1 at *
 obtain ⟨p0,p1,p2,p3,p4,p5⟩:=six_cells HF0.out.box
 have hle1 : s1.size ≤ 104:=by omega
 have HC : Hid (∀ w2,Below (w1.drew.alloc (.cells #[.int .i64 x.gen,.int .i64 x.base,.int .i64 x.size,.int .i64 x.cg] 3)).heap.size (w1.drew.alloc (.cells #[.int .i64 x.gen,.int .i64 x.base,.int .i64 x.size,.int .i64 x.cg] 3)) w2 → Fd w w2 w.heap.size #[.int .i64 x.gen,.int .i64 x.base,.int .i64 x.size,.int .i64 x.cg,.slice a1 l1 c1,.slice a2 l2 c2] []) :=
  Lib.hid fun w2 hb=>HF0.out.keep (((Below.refl _ w1).drew.alloc (Nat.le_refl _) _).trans (hb.mono (by rw [World.size_alloc];exact Nat.le_succ _)))
 go_region_held3 (fun w'=>w'.cell? ⟨w.heap.size,0,none⟩ = some (.int .i64 x.gen) ∧ w'.cell? ⟨w.heap.size,1,none⟩ = some (.int .i64 x.base) ∧ w'.cell? ⟨w.heap.size,2,none⟩ = some (.int .i64 x.size) ∧ w'.cell? ⟨w.heap.size,3,none⟩ = some (.int .i64 x.cg))
  (first | exact ⟨p0,p1,p2,p3⟩ | exact ⟨Lib.cell?_alloc_some _ p0,Lib.cell?_alloc_some _ p1,Lib.cell?_alloc_some _ p2,Lib.cell?_alloc_some _ p3⟩ | exact ⟨g0,g1,g2,g3⟩ | exact ⟨(cell_setRow_next _ _ _ _).trans g0,(cell_setRow_next _ _ _ _).trans g1,(cell_setRow_next _ _ _ _).trans g2,(cell_setRow_next _ _ _ _).trans g3⟩)
  (first
   | (go_at_call 175;refine (K1.out _ _ (heap_alloc_new w1.drew _)).mono ?_;rintro e w2 ⟨rfl,hb2⟩;have HF2:=HC.out w2 hb2;obtain ⟨g0,g1,g2,g3,g4,g5⟩:=six_cells HF2.box)
   | (refine step_copy_row rfl (.tmp 5) (.tmp 15) 137 9 rfl 5 Tryz.underlying137 info8 (w.heap.size + 1) 0 104 104 (by simp [Act.eval]) s1 (by simp [Act.eval]) z0 210 (by rw [← HZ0.out];exact HF2.row) hle1 (by rw [HSZ0.out];omega) (row104 s1.data.toList) HR1.out ?_))
 have HF3:=Lib.hid (HF2.copy s1.data.toList)
 rw [List.nil_append] at HF3
 clear HF2 hb2 g0 g1 g2 g3 g4 g5 p0 p1 p2 p3 p4 p5 HC HF0
 generalize w2.setRow (w.heap.size + 1) (row104 s1.data.toList) = w3 at *
 go_wp2_with fail
 obtain ⟨p0,p1,p2,p3,p4,p5⟩:=six_cells HF3.out.box
 have m0 : (0 : Int) ≤ (s1.size : Int):=by omega
 have m1 : (s1.size : Int) ≤ 104:=by omega
 have m2 : ¬ s1.size = 104:=by omega
 have m3 : s1.size < 104:=by omega
 have mle : s2.size ≤ 104 - s1.size:=by omega
 have HD : Hid (∀ w2,Below w3.drew.heap.size w3.drew w2 → Fd w w2 w.heap.size #[.int .i64 x.gen,.int .i64 x.base,.int .i64 x.size,.int .i64 x.cg,.slice a1 l1 c1,.slice a2 l2 c2] s1.data.toList):=Lib.hid fun w2 hb=>HF3.out.keep ((Below.refl _ w3).drew.trans hb)
 have I3 : Hid (IntsAt w3.drew a1 l1 x.chk):=Lib.hid (H.out.chk.keep HF3.out.below.drew)
 go_region_held3 (fun w'=>w'.cell? ⟨w.heap.size,4,none⟩ = some (.slice a1 l1 c1))
  (first | exact p4 | exact g4 | exact k4 | exact (cell_setRow_next _ _ _ _).trans k4)
  (first
   | (go_at_call 177;refine (K2.out w3.drew I3.out).mono ?_;rintro e w4 ⟨rfl,hb4⟩;have HF4:=HD.out w4 hb4;obtain ⟨g0,g1,g2,g3,g4,g5⟩:=six_cells HF4.box)
   | (go_at_call 176;refine (K4.out _).mono ?_;rintro e w5 ⟨rfl,hb5⟩;have HF5:=HF4.keep hb5;obtain ⟨k0,k1,k2,k3,k4,k5⟩:=six_cells HF5.box)
   | (refine step_copy_row rfl (.tmp 19) (.tmp 23) 137 9 rfl 5 Tryz.underlying137 info8 (w.heap.size + 1) s1.size (104 - s1.size) (104 - s1.size) (by simp [Act.eval]) s2 (by simp [Act.eval]) (row104 s1.data.toList) 210 HF5.row mle (by rw [HZ1.out];omega) (row104 (s1.data.toList ++ s2.data.toList)) HR2.out ?_))
 have HF6:=Lib.hid (HF5.copy s2.data.toList)
 clear HF4 HF5 hb4 hb5 g0 g1 g2 g3 g4 g5 k0 k1 k2 k3 k4 k5 p0 p1 p2 p3 p4 p5 HD HF3 I3 m0 m1 m2 m3 mle
 generalize w5.setRow (w.heap.size + 1) (row104 (s1.data.toList ++ s2.data.toList)) = w6 at *
 go_wp2_with fail
 obtain ⟨p0,p1,p2,p3,p4,p5⟩:=six_cells HF6.out.box
 obtain ⟨n2,hn2⟩ : ∃ n2,s1.size + s2.size = n2:=⟨_,rfl⟩
 have hw2 : IntKind.i64.wrap ((s1.size : Int) + (s2.size : Int)) = (n2 : Int):=by rw [IntWalk.i64_in] <;> omega
 rw [hw2]
 have m0 : (0 : Int) ≤ (n2 : Int):=by omega
 have m1 : (n2 : Int) ≤ 104:=by omega
 have m2 : ¬ n2 = 104:=by omega
 have m3 : n2 < 104:=by omega
 have mle : s3.size ≤ 104 - n2:=by omega
 have hd3 : n2 + s3.size ≤ 104:=by omega
 have HR4:=Lib.hid HR3.out
 rw [hn2] at HR4
 have hll : (s1.data.toList ++ s2.data.toList ++ s3.data.toList).length = n2 + s3.size:=by rw [List.length_append,List.length_append,HL1.out,HL2.out,HL3.out,hn2]
 have HLL:=Lib.hid hll
 clear hw2 hn2 hdl n3 hll HR3
 have HD : Hid (∀ w2,Below w6.drew.heap.size w6.drew w2 → Fd w w2 w.heap.size #[.int .i64 x.gen,.int .i64 x.base,.int .i64 x.size,.int .i64 x.cg,.slice a1 l1 c1,.slice a2 l2 c2] (s1.data.toList ++ s2.data.toList)):=Lib.hid fun w2 hb=>HF6.out.keep ((Below.refl _ w6).drew.trans hb)
 have I3 : Hid (IntsAt w6.drew a2 l2 x.log):=Lib.hid (H.out.log.keep HF6.out.below.drew)
 go_region_held3 (fun w'=>w'.cell? ⟨w.heap.size,5,none⟩ = some (.slice a2 l2 c2))
  (first | exact p5 | exact g5 | exact k5 | exact (cell_setRow_next _ _ _ _).trans k5)
  (first
   | (go_at_call 177;refine (K3.out w6.drew I3.out).mono ?_;rintro e w7 ⟨rfl,hb7⟩;have HF7:=HD.out w7 hb7;obtain ⟨g0,g1,g2,g3,g4,g5⟩:=six_cells HF7.box)
   | (go_at_call 176;refine (K5.out _).mono ?_;rintro e w8 ⟨rfl,hb8⟩;have HF8:=HF7.keep hb8;obtain ⟨k0,k1,k2,k3,k4,k5⟩:=six_cells HF8.box)
   | (refine step_copy_row rfl (.tmp 28) (.tmp 32) 137 9 rfl 5 Tryz.underlying137 info8 (w.heap.size + 1) n2 (104 - n2) (104 - n2) (by simp [Act.eval]) s3 (by simp [Act.eval]) (row104 (s1.data.toList ++ s2.data.toList)) 210 HF8.row mle (by rw [HZ2.out];exact hd3) (row104 (s1.data.toList ++ s2.data.toList ++ s3.data.toList)) HR4.out ?_))
 have HF9:=Lib.hid (HF8.copy s3.data.toList)
 clear HF7 HF8 hb7 hb8 g0 g1 g2 g3 g4 g5 k0 k1 k2 k3 k4 k5 p0 p1 p2 p3 p4 p5 HD HF6 I3 m0 m1 m2 m3 mle
 generalize w8.setRow (w.heap.size + 1) (row104 (s1.data.toList ++ s2.data.toList ++ s3.data.toList)) = w9 at *
 obtain ⟨n4,hn4⟩ : ∃ n4,n2 + s3.size = n4:=⟨_,rfl⟩
 have hw4 : IntKind.i64.wrap ((n2 : Int) + (s3.size : Int)) = (n4 : Int):=by rw [IntWalk.i64_in] <;> omega
 have m0 : (0 : Int) ≤ (n4 : Int):=by omega
 have m1 : (n4 : Int) ≤ 104:=by omega
 have m3 : n4 ≤ 104:=by omega
 have hcv:=HF9.out.text n4 104 (by rw [HLL.out,hn4]) m3
 rw [List.append_assoc] at hcv
 rw [hw4]
 clear hn4 hd3 hw4
 go_wp2_with fail
 go_ret
 exact ⟨rfl,HF9.out.below⟩
end Go.Proofs.YtnnakhdndmjmiaaGreat
/-
 The contracts of both Encodes.
-/
set_option linter.unusedVariables false
set_option maxRecDepth 4000
set_option maxRecDepth 4000
namespace Go.Proofs.YtnnakhdndmjmiaaGreat
open Go.RowKit SuperP
open Wire (IntsAt getD_mem take_snoc)
open WireP (encs text)
def enR (x : Sup) : ByteArray × Int:=if Fit x then (str (sect x),0) else (⟨#[]⟩,1)
theorem slR_fit {x : Sup} (h : Fit x) : slR x.gen 0 1 (str (data x)) = (str (sect x),0):=by
 have hf:=fit_stamp h
 have hp:=(fit_parts h).1
 have hg : ((x.gen.toNat : Nat) : Int) = x.gen:=by omega
 rw [hg] at hf
 have hd:=data_length h
 have hf2 : StampP.fit x.gen 0 1:=hf
 unfold slR
 rw [if_pos hf2,if_pos (by rw [str_size];exact hd)]
 rfl
theorem seal_fit {x : Sup} (h : Fit x) (w : World) : Calls Tryz.prog 114 #[stV x.gen 0 1,.string ⟨(data x).toArray⟩] w fun e w'=>e = .returned (.tuple #[.string (str (sect x)),.int .i64 0]) ∧ Below w.heap.size w w':=by
 have hd:=data_length h
 have:=seal_any x.gen 0 1 (str (data x)) w (by rw [str_size];omega)
 rw [slR_fit h] at this
 exact this
structure Bo (w0 w : World) (B : Nat) (box : Array Value) : Prop where
 below : Below B w0 w
 box : w.heap[B]? = some (.cells box 69 (0,0))
theorem Bo.keep {w0 w w' : World} {B : Nat} {box : Array Value} (h : Bo w0 w B box) (hb : Below w.heap.size w w') : Bo w0 w' B box:=by
 have h1:=(Array.getElem?_eq_some_iff.1 h.box).1
 exact ⟨h.below.trans (hb.mono (by omega)),(hb.block B h1).trans h.box⟩
theorem bo_new (w : World) (box : Array Value) : Bo w (w.alloc (.cells box 69)) w.heap.size box:=⟨(Below.refl _ w).alloc (Nat.le_refl _) _,heap_alloc_new w _⟩
theorem Bo.drew {w0 w : World} {B : Nat} {box : Array Value} (h : Bo w0 w B box) : Bo w0 w.drew B box:=⟨h.below.drew,h.box⟩
set_option maxHeartbeats 4000000 in
theorem encode_any (x : Sup) (a1 a2 : Option Addr) (l1 c1 l2 c2 : Nat) (w : World) (h : SupAt w x a1 l1 a2 l2) (hl1 : l1 ≤ 1000000) (hl2 : l2 ≤ 1000000) :
  Calls Tryz.prog 111 #[supV x (.slice a1 l1 c1) (.slice a2 l2 c2)] w fun e w'=>e = .returned (.tuple #[.string (enR x).1,.int .i64 (enR x).2]) ∧ Below w.heap.size w w':=by
 have h0:=bo_new w #[.int .i64 x.gen,.int .i64 x.base,.int .i64 x.size,.int .i64 x.cg,.slice a1 l1 c1,.slice a2 l2 c2]
 have hF:=supfit_any x a1 a2 l1 c1 l2 c2 _ (h.keep h0.below) hl1 hl2
 have HB0:=Lib.hid h0;have HF:=Lib.hid hF
 by_cases hf : Fit x
 ·have hen : enR x = (str (sect x),0):=if_pos hf
  rw [hen]
  have hm:=fun w=>mark_any x (.slice a1 l1 c1) (.slice a2 l2 c2) w
  have hd:=fun (w' : World) (hb : Below w.heap.size w w')=>fields_is x a1 a2 l1 c1 l2 c2 w' (h.keep hb) hf
  have hs:=fun w=>seal_fit hf w
  rw [decide_eq_true hf] at HF
  generalize str (sect x) = z at *
  obtain ⟨d,hd0⟩ : ∃ d : ByteArray,(⟨(data x).toArray⟩ : ByteArray) = d:=⟨_,rfl⟩
  rw [hd0] at hd hs
  unfold supV stV at *
  have HM:=Lib.hid hm;have HD:=Lib.hid hd;have HS:=Lib.hid hs
  clear h h0 hF hen hm hd hs hd0 hf
  go_enter Tryz.func111,Tryz.ntmps111
  go_wp2_with fail
  refine HF.out.mono ?_
  rintro e w1 ⟨rfl,hb1⟩
  have HB1:=Lib.hid (HB0.out.keep hb1)
  clear hb1 HF HB0
  obtain ⟨p0,p1,p2,p3,p4,p5⟩:=six_cells HB1.out.box
  go_wp2_with fail
  have HC : Hid (∀ w2,Below w1.drew.heap.size w1.drew w2 → Bo w w2 w.heap.size #[.int .i64 x.gen,.int .i64 x.base,.int .i64 x.size,.int .i64 x.cg,.slice a1 l1 c1,.slice a2 l2 c2]):=Lib.hid fun w2 hb=>HB1.out.drew.keep hb
  go_region_held3 (fun w'=>w'.cell? ⟨w.heap.size,0,none⟩ = some (.int .i64 x.gen) ∧ w'.cell? ⟨w.heap.size,1,none⟩ = some (.int .i64 x.base) ∧ w'.cell? ⟨w.heap.size,2,none⟩ = some (.int .i64 x.size) ∧ w'.cell? ⟨w.heap.size,3,none⟩ = some (.int .i64 x.cg) ∧ w'.cell? ⟨w.heap.size,4,none⟩ = some (.slice a1 l1 c1) ∧ w'.cell? ⟨w.heap.size,5,none⟩ = some (.slice a2 l2 c2))
   (first | exact ⟨p0,p1,p2,p3,p4,p5⟩ | exact hq2 | exact hq3 | exact hq4)
   (first
    | (go_at_call 149;refine (HM.out _).mono ?_;rintro e w2 ⟨rfl,hb2⟩;have hB2:=HC.out w2 hb2;have hq2:=six_cells hB2.box)
    | (go_at_call 150;refine (HD.out _ hB2.below).mono ?_;rintro e w3 ⟨rfl,hb3⟩;have hB3:=hB2.keep hb3;have hq3:=six_cells hB3.box)
    | (go_at_call 114;refine (HS.out _).mono ?_;rintro e w4 ⟨rfl,hb4⟩;have hB4:=hB3.keep hb4;have hq4:=six_cells hB4.box))
  have HB4:=Lib.hid hB4.below
  clear hB2 hB3 hB4 hq2 hq3 hq4 hb2 hb3 hb4 p0 p1 p2 p3 p4 p5
  go_wp2_with fail
  go_ret2
  exact ⟨rfl,HB4.out⟩
 ·have hen : enR x = (⟨#[]⟩,1):=if_neg hf
  rw [hen]
  rw [decide_eq_false hf] at HF
  unfold supV at *
  clear h h0 hF hen hf
  go_enter Tryz.func111,Tryz.ntmps111
  go_wp2_with fail
  refine HF.out.mono ?_
  rintro e w1 ⟨rfl,hb1⟩
  have HB1:=Lib.hid (HB0.out.keep hb1).below
  clear hb1 HF HB0
  go_wp2_with fail
  go_ret2
  exact ⟨rfl,HB1.out⟩
end Go.Proofs.YtnnakhdndmjmiaaGreat
/-
 The contract of the program's read.
-/
set_option linter.unusedVariables false
set_option maxRecDepth 4000
set_option maxRecDepth 4000
namespace Go.Proofs.YtnnakhdndmjmiaaGreat
open Go.RowKit SuperP
open Wire (IntsAt getD_mem take_snoc RdAt RqAt RdStep)
open WireP (rdText rdInt St done)
theorem ints_step {w w' : World} {a : Option Addr} {len b : Nat} {xs : List Int} {st : St} (h : IntsAt w a len xs) (hr : RdAt w b st) (hg : w.grownBy w' (some b)) : IntsAt w' a len xs:=by
 refine ⟨h.1,h.2.1,?_⟩
 rcases h.2.2 with h0 | ⟨bl,off,rfl,hlt,hc⟩
 ·exact .inl h0
 ·by_cases h0 : len = 0
  ·exact .inl h0
  have hne : bl ≠ b:=by
   rintro rfl
   obtain ⟨z,hz,_⟩:=hr
   have:=hc 0 (by omega)
   rw [Wire.cell_of_heap hz] at this
   rcases off with _ | _ | off <;> simp at this
  exact .inr ⟨bl,off,rfl,Nat.lt_of_lt_of_le hlt hg.size,fun i hi=>hg.cell (hc i hi) (fun e=>hne (by simpa using e))⟩
abbrev zsup : Obj:=.cells #[.int .i64 0,.int .i64 0,.int .i64 0,.int .i64 0,.slice none 0 0,.slice none 0 0] 69
structure Rs (w0 w : World) (B b rb : Nat) (X : Option Nat) (L : List (Option Addr × List Int)) (st : St) : Prop where
 below : Below B w0 w
 le : B ≤ b ∧ b ≠ rb ∧ B ≤ rb
 rd : RdAt w b st
 cel : w.heap[rb]? = some (.cells #[.pointer (some ⟨b,0,none⟩)] 218 (0,0))
 new : ∀ k,X = some k → w.heap[k]? = some (.cells #[.int .i64 0,.int .i64 0,.int .i64 0,.int .i64 0,.slice none 0 0,.slice none 0 0] 69 (0,0)) ∧ k ≠ b ∧ k ≠ rb ∧ B ≤ k
 lists : ∀ t ∈ L,IntsAt w t.1 t.2.length t.2 ∧ (∀ k,X = some k → t.2.length = 0 ∨ ∀ ad,t.1 = some ad → ad.block ≠ k) ∧ ∀ ad,t.1 = some ad → B ≤ ad.block
theorem Rs.cell {w0 w : World} {B b rb : Nat} {X : Option Nat} {L : List (Option Addr × List Int)} {st : St} (h : Rs w0 w B b rb X L st) : w.cell? ⟨rb,0,none⟩ = some (.pointer (some ⟨b,0,none⟩)):=by rw [Wire.cell_of_heap h.cel];rfl
theorem Rs.step {w0 w w' : World} {B b rb : Nat} {X : Option Nat} {L : List (Option Addr × List Int)} {st st' : St} (h : Rs w0 w B b rb X L st) (hs : RdStep w b st' w') : Rs w0 w' B b rb X L st':=by
 have h1:=(Array.getElem?_eq_some_iff.1 h.cel).1
 refine ⟨h.below.trans (Wire.below_of_grown hs.2 h.le.1 h.rd.lt),h.le,hs.1,(hs.2.block rb h1 (fun e=>h.le.2.1 (by simpa using e.symm))).trans h.cel,fun k hk=>?_,fun t ht=>⟨ints_step (h.lists t ht).1 h.rd hs.2,(h.lists t ht).2⟩⟩
 obtain ⟨g1,g2,g3,g4⟩:=h.new k hk
 exact ⟨(hs.2.block k (Array.getElem?_eq_some_iff.1 g1).1 (fun e=>g2 (by simpa using e))).trans g1,g2,g3,g4⟩
theorem Rs.drew {w0 w : World} {B b rb : Nat} {X : Option Nat} {L : List (Option Addr × List Int)} {st : St} (h : Rs w0 w B b rb X L st) : Rs w0 w.drew B b rb X L st:=⟨h.below.drew,h.le,h.rd,h.cel,h.new,h.lists⟩
theorem Rs.alloc {w0 w : World} {B b rb : Nat} {X : Option Nat} {L : List (Option Addr × List Int)} {st : St} (h : Rs w0 w B b rb X L st) : Rs w0 (w.alloc zsup) B b rb (some w.heap.size) L st:=by
 have h1:=(Array.getElem?_eq_some_iff.1 h.cel).1
 have h2:=h.rd.lt
 refine ⟨h.below.alloc (by have:=h.le;omega) _,h.le,h.rd.keep (Below.heap_alloc w _ _ h2),(Below.heap_alloc w _ _ h1).trans h.cel,fun k hk=>?_,fun t ht=>⟨(h.lists t ht).1.keep ((Below.refl _ w).alloc (Nat.le_refl _) _),fun k hk=>?_,(h.lists t ht).2.2⟩⟩
 ·simp only [Option.some.injEq] at hk
  subst hk
  exact ⟨heap_alloc_new w _,by omega,by omega,by have:=h.le;omega⟩
 ·simp only [Option.some.injEq] at hk
  subst hk
  rcases (h.lists t ht).1.2.2 with h0 | ⟨bl,off,e,hlt,_⟩
  ·exact .inl h0
  ·refine .inr fun ad he=>?_
   rw [e] at he
   cases he
   exact Nat.ne_of_lt hlt
theorem Rs.list {w0 w w' : World} {B b rb : Nat} {X : Option Nat} {L : List (Option Addr × List Int)} {st st' : St} {a : Option Addr} {xs : List Int} (h : Rs w0 w B b rb X L st) (hl : IntsAt w' a xs.length xs) (hf : ∀ ad,a = some ad → w.heap.size ≤ ad.block) (hs : RdStep w b st' w') : Rs w0 w' B b rb X ((a,xs) :: L) st':=by
 have h2:=h.step hs
 refine ⟨h2.below,h2.le,h2.rd,h2.cel,h2.new,fun t ht=>?_⟩
 rcases List.mem_cons.1 ht with rfl | ht
 ·refine ⟨hl,fun k hk=>.inr fun ad he=>?_,fun ad he=>?_⟩
  ·have h3:=hf ad he
   have h4:=(Array.getElem?_eq_some_iff.1 (h.new k hk).1).1
   omega
  ·have h3:=hf ad he
   have h4:=h.rd.lt
   have:=h.le
   omega
 ·exact h2.lists t ht
theorem Rs.cells {w0 w : World} {B b rb k : Nat} {L : List (Option Addr × List Int)} {st : St} (h : Rs w0 w B b rb (some k) L st) :
  (w.cell? ⟨k,0,none⟩ = some (.int .i64 0) ∧ w.cell? ⟨k,1,none⟩ = some (.int .i64 0) ∧ w.cell? ⟨k,2,none⟩ = some (.int .i64 0) ∧ w.cell? ⟨k,3,none⟩ = some (.int .i64 0) ∧ w.cell? ⟨k,4,none⟩ = some (.slice none 0 0) ∧ w.cell? ⟨k,5,none⟩ = some (.slice none 0 0)) ∧
  w.frozen? ⟨k,0,none⟩ = false ∧ w.frozen? ⟨k,1,none⟩ = false ∧ w.frozen? ⟨k,2,none⟩ = false ∧ w.frozen? ⟨k,3,none⟩ = false ∧ w.frozen? ⟨k,4,none⟩ = false ∧ w.frozen? ⟨k,5,none⟩ = false:=by
 have g:=(h.new k rfl).1
 exact ⟨six_cells g,Wire.frozen_of_heap g,Wire.frozen_of_heap g,Wire.frozen_of_heap g,Wire.frozen_of_heap g,Wire.frozen_of_heap g,Wire.frozen_of_heap g⟩
abbrev put6 (w : World) (k : Nat) (v0 v1 v2 v3 v4 v5 : Value) : World :=
 (((((w.setCell ⟨k,0,none⟩ v0).setCell ⟨k,1,none⟩ v1).setCell ⟨k,2,none⟩ v2).setCell ⟨k,3,none⟩ v3).setCell ⟨k,4,none⟩ v4).setCell ⟨k,5,none⟩ v5
theorem heap_put6 {w : World} {k : Nat} {x0 x1 x2 x3 x4 x5 : Value} {ty : TypeId} (h : w.heap[k]? = some (.cells #[x0,x1,x2,x3,x4,x5] ty (0,0))) (v0 v1 v2 v3 v4 v5 : Value) : (put6 w k v0 v1 v2 v3 v4 v5).heap[k]? = some (.cells #[v0,v1,v2,v3,v4,v5] ty (0,0)):=by
 have h1:=Lib.heap_setCell_same (i:=0) h v0
 have h2:=Lib.heap_setCell_same (i:=1) h1 v1
 have h3:=Lib.heap_setCell_same (i:=2) h2 v2
 have h4:=Lib.heap_setCell_same (i:=3) h3 v3
 have h5:=Lib.heap_setCell_same (i:=4) h4 v4
 exact Lib.heap_setCell_same (i:=5) h5 v5
theorem put6_other {w : World} {k : Nat} (v0 v1 v2 v3 v4 v5 : Value) {j : Nat} (h : j ≠ k) : (put6 w k v0 v1 v2 v3 v4 v5).heap[j]? = w.heap[j]?:=by
 unfold put6
 rw [heap_setCell_other _ _ _ _ (by exact h),heap_setCell_other _ _ _ _ (by exact h),heap_setCell_other _ _ _ _ (by exact h),heap_setCell_other _ _ _ _ (by exact h),heap_setCell_other _ _ _ _ (by exact h),heap_setCell_other _ _ _ _ (by exact h)]
theorem cell_set6 {w0 w : World} {B b rb k : Nat} {L : List (Option Addr × List Int)} {st : St} (h : Rs w0 w B b rb (some k) L st) {v0 v1 v2 v3 v4 v5 : Value} : (put6 w k v0 v1 v2 v3 v4 v5).cell? ⟨rb,0,none⟩ = w.cell? ⟨rb,0,none⟩ :=
 World.cell?_of_block (put6_other _ _ _ _ _ _ (fun e=>(h.new k rfl).2.2.1 e.symm))
theorem ints_other {w w' : World} {k len : Nat} {a : Option Addr} {xs : List Int} (h : IntsAt w a len xs) (hk : len = 0 ∨ ∀ ad,a = some ad → ad.block ≠ k) (hsz : w.heap.size ≤ w'.heap.size) (hb : ∀ j,j ≠ k → w'.heap[j]? = w.heap[j]?) : IntsAt w' a len xs:=by
 refine ⟨h.1,h.2.1,?_⟩
 rcases h.2.2 with h0 | ⟨bl,off,e,hlt,hc⟩
 ·exact .inl h0
 rcases hk with h0 | hk
 ·exact .inl h0
 exact .inr ⟨bl,off,e,Nat.lt_of_lt_of_le hlt hsz,fun i hi=>(World.cell?_of_block (hb bl (hk _ e))).trans (hc i hi)⟩
theorem size_put6 (w : World) (k : Nat) (v0 v1 v2 v3 v4 v5 : Value) : w.heap.size ≤ (put6 w k v0 v1 v2 v3 v4 v5).heap.size:=by simp [put6]
structure Rw (w0 w : World) (B b rb bx : Nat) (box : Array Value) (a1 : Option Addr) (ck : List Int) (a2 : Option Addr) (co : List Int) (st : St) : Prop where
 below : Below B w0 w
 rd : RdAt w b st
 cel : w.heap[rb]? = some (.cells #[.pointer (some ⟨b,0,none⟩)] 218 (0,0))
 bxc : w.heap[bx]? = some (.cells box 69 (0,0))
 l1 : IntsAt w a1 ck.length ck
 l2 : IntsAt w a2 co.length co
 le : B ≤ b ∧ B ≤ rb ∧ B ≤ bx
 f1 : ∀ ad,a1 = some ad → B ≤ ad.block
 f2 : ∀ ad,a2 = some ad → B ≤ ad.block
theorem Rs.put {w0 w : World} {B b rb k : Nat} {a1 a2 : Option Addr} {ck co : List Int} {st : St} (h : Rs w0 w B b rb (some k) [(a2,co),(a1,ck)] st) (v0 v1 v2 v3 v4 v5 : Value) : Rw w0 (put6 w k v0 v1 v2 v3 v4 v5) B b rb k #[v0,v1,v2,v3,v4,v5] a1 ck a2 co st:=by
 obtain ⟨g1,g2,g3,g4⟩:=h.new k rfl
 have i1:=h.lists (a1,ck) (by simp)
 have i2:=h.lists (a2,co) (by simp)
 exact ⟨(((((h.below.setCell (p:=⟨k,0,none⟩) g4 _).setCell (p:=⟨k,1,none⟩) g4 _).setCell (p:=⟨k,2,none⟩) g4 _).setCell (p:=⟨k,3,none⟩) g4 _).setCell (p:=⟨k,4,none⟩) g4 _).setCell (p:=⟨k,5,none⟩) g4 _,
  h.rd.keep (put6_other _ _ _ _ _ _ (fun e=>g2 e.symm)),(put6_other _ _ _ _ _ _ (fun e=>g3 e.symm)).trans h.cel,heap_put6 g1 _ _ _ _ _ _,ints_other i1.1 (i1.2.1 k rfl) (size_put6 _ _ _ _ _ _ _ _) (fun j hj=>put6_other _ _ _ _ _ _ hj),ints_other i2.1 (i2.2.1 k rfl) (size_put6 _ _ _ _ _ _ _ _) (fun j hj=>put6_other _ _ _ _ _ _ hj),⟨h.le.1,h.le.2.2,g4⟩,i1.2.2,i2.2.2⟩
theorem Rs.made {w0 w : World} {B b rb : Nat} {X : Option Nat} {a1 a2 : Option Addr} {ck co : List Int} {st : St} (h : Rs w0 w B b rb X [(a2,co),(a1,ck)] st) (v0 v1 v2 v3 v4 v5 : Value) : Rw w0 (w.alloc (.cells #[v0,v1,v2,v3,v4,v5] 69)) B b rb w.heap.size #[v0,v1,v2,v3,v4,v5] a1 ck a2 co st:=by
 have i1:=h.lists (a1,ck) (by simp)
 have i2:=h.lists (a2,co) (by simp)
 have h1:=(Array.getElem?_eq_some_iff.1 h.cel).1
 have h2:=h.rd.lt
 have hb : Below w.heap.size w (w.alloc (.cells #[v0,v1,v2,v3,v4,v5] 69)):=(Below.refl _ w).alloc (Nat.le_refl _) _
 exact ⟨h.below.alloc (by have:=h.le;omega) _,h.rd.keep (hb.block b h2),(hb.block rb h1).trans h.cel,heap_alloc_new w _,i1.1.keep hb,i2.1.keep hb,⟨h.le.1,h.le.2.2,by have:=h.le;omega⟩,i1.2.2,i2.2.2⟩
theorem Rw.keep {w0 w w' : World} {B b rb bx : Nat} {box : Array Value} {a1 a2 : Option Addr} {ck co : List Int} {st : St} (h : Rw w0 w B b rb bx box a1 ck a2 co st) (hb : Below w.heap.size w w') : Rw w0 w' B b rb bx box a1 ck a2 co st:=by
 have n1:=(Array.getElem?_eq_some_iff.1 h.cel).1
 have n2:=(Array.getElem?_eq_some_iff.1 h.bxc).1
 have n3:=h.rd.lt
 exact ⟨h.below.trans (hb.mono (by have:=h.le;omega)),h.rd.keep (hb.block b n3),(hb.block rb n1).trans h.cel,(hb.block bx n2).trans h.bxc,h.l1.keep hb,h.l2.keep hb,h.le,h.f1,h.f2⟩
theorem results_two {fn : Func} {k : Nat} (h : fn.results = #[.cell 2 69,.tmp k]) (tmps : Array Value) (w : World) (b : Nat) (x0 x1 x2 x3 x4 x5 : Value) (hp : tmps.getD 2 undef = .pointer (some ⟨b,0,none⟩))
  (c : w.cell? ⟨b,0,none⟩ = some x0 ∧ w.cell? ⟨b,1,none⟩ = some x1 ∧ w.cell? ⟨b,2,none⟩ = some x2 ∧ w.cell? ⟨b,3,none⟩ = some x3 ∧ w.cell? ⟨b,4,none⟩ = some x4 ∧ w.cell? ⟨b,5,none⟩ = some x5) :
  (results fn tmps).run Tryz.prog w = .ok (.tuple #[.agg #[x0,x1,x2,x3,x4,x5],tmps.getD k undef]) w:=by
 have hp' : tmps[2]?.getD undef = .pointer (some ⟨b,0,none⟩):=by rw [← hp];simp
 obtain ⟨c0,c1,c2,c3,c4,c5⟩:=c
 simp only [results,h]
 go_simp
structure SupMade (w : World) (y : Sup) (v : Value) (e : Ending) (w' : World) : Prop where
 out : ∃ a1 c1 a2 c2,e = .returned (.tuple #[supV y (.slice a1 y.chk.length c1) (.slice a2 y.log.length c2),v]) ∧ SupAt w' y a1 y.chk.length a2 y.log.length ∧ (a1 = none → c1 = 0) ∧ (a2 = none → c2 = 0) ∧ (∀ ad,a1 = some ad → w.heap.size ≤ ad.block) ∧ ∀ ad,a2 = some ad → w.heap.size ≤ ad.block
 below : Below w.heap.size w w'
theorem zero_cells6 {w : World} {k : Nat} (g : w.heap[k]? = some (.cells #[.int .i64 0,.int .i64 0,.int .i64 0,.int .i64 0,.slice none 0 0,.slice none 0 0] 69 (0,0))) :
  (w.cell? ⟨k,0,none⟩ = some (.int .i64 0) ∧ w.cell? ⟨k,1,none⟩ = some (.int .i64 0) ∧ w.cell? ⟨k,2,none⟩ = some (.int .i64 0) ∧ w.cell? ⟨k,3,none⟩ = some (.int .i64 0) ∧ w.cell? ⟨k,4,none⟩ = some (.slice none 0 0) ∧ w.cell? ⟨k,5,none⟩ = some (.slice none 0 0)) ∧
  w.frozen? ⟨k,0,none⟩ = false ∧ w.frozen? ⟨k,1,none⟩ = false ∧ w.frozen? ⟨k,2,none⟩ = false ∧ w.frozen? ⟨k,3,none⟩ = false ∧ w.frozen? ⟨k,4,none⟩ = false ∧ w.frozen? ⟨k,5,none⟩ = false :=
 ⟨six_cells g,Wire.frozen_of_heap g,Wire.frozen_of_heap g,Wire.frozen_of_heap g,Wire.frozen_of_heap g,Wire.frozen_of_heap g,Wire.frozen_of_heap g⟩
theorem below_put6 {B : Nat} {w0 w : World} {k : Nat} (h : Below B w0 w) (hk : B ≤ k) (v0 v1 v2 v3 v4 v5 : Value) : Below B w0 (put6 w k v0 v1 v2 v3 v4 v5) :=
 (((((h.setCell (p:=⟨k,0,none⟩) hk _).setCell (p:=⟨k,1,none⟩) hk _).setCell (p:=⟨k,2,none⟩) hk _).setCell (p:=⟨k,3,none⟩) hk _).setCell (p:=⟨k,4,none⟩) hk _).setCell (p:=⟨k,5,none⟩) hk _
theorem read_done {w wA W : World} {b rb bx : Nat} {box : Array Value} {a1 a2 : Option Addr} {d1 c2 : Nat} {y : Sup} {st : St} {v : Value} (h : Rw wA W (w.heap.size + 1) b rb bx box a1 y.chk a2 y.log st) (hba : Below w.heap.size w wA)
  (k1 : y.chk.length ≤ 63) (k2 : y.log.length ≤ 63) (n1 : a1 = none → d1 = 0) (n2 : a2 = none → c2 = 0) (v0 v1 v2 v3 v4 v5 : Value) : SupMade w y v (.returned (.tuple #[supV y (.slice a1 y.chk.length d1) (.slice a2 y.log.length c2),v])) (put6 W w.heap.size v0 v1 v2 v3 v4 v5) :=
 ⟨⟨a1,d1,a2,c2,rfl,⟨ints_other h.l1 (.inr fun ad he=>by have:=h.f1 ad he;omega) (size_put6 _ _ _ _ _ _ _ _) (fun j hj=>put6_other _ _ _ _ _ _ hj),ints_other h.l2 (.inr fun ad he=>by have:=h.f2 ad he;omega) (size_put6 _ _ _ _ _ _ _ _) (fun j hj=>put6_other _ _ _ _ _ _ hj),by omega,by omega⟩,n1,n2,fun ad he=>by (have:=h.f1 ad he;omega),fun ad he=>by (have:=h.f2 ad he;omega)⟩,
  below_put6 (hba.trans (h.below.mono (Nat.le_succ _))) (Nat.le_refl _) _ _ _ _ _ _⟩
theorem Rw.res {w wA W : World} {b rb bx : Nat} {box : Array Value} {a1 a2 : Option Addr} {ck co : List Int} {st : St} (h : Rw wA W (w.heap.size + 1) b rb bx box a1 ck a2 co st) (hz : wA.heap[w.heap.size]? = some (.cells #[.int .i64 0,.int .i64 0,.int .i64 0,.int .i64 0,.slice none 0 0,.slice none 0 0] 69 (0,0))) :
  W.heap[w.heap.size]? = some (.cells #[.int .i64 0,.int .i64 0,.int .i64 0,.int .i64 0,.slice none 0 0,.slice none 0 0] 69 (0,0)):=(h.below.block w.heap.size (Nat.lt_succ_self _)).trans hz
theorem Rw.drew {w0 w : World} {B b rb bx : Nat} {box : Array Value} {a1 a2 : Option Addr} {ck co : List Int} {st : St} (h : Rw w0 w B b rb bx box a1 ck a2 co st) : Rw w0 w.drew B b rb bx box a1 ck a2 co st:=⟨h.below.drew,h.rd,h.cel,h.bxc,h.l1,h.l2,h.le,h.f1,h.f2⟩
set_option maxHeartbeats 8000000 in
theorem read_any (s : ByteArray) (w : World) (hs : s.size ≤ 1000000) :
  Calls Tryz.prog 169 #[.string s] w (SupMade w (rdX 1 s.data.toList).1 (.bool ((rdX 1 s.data.toList).2 && decide (Fit (rdX 1 s.data.toList).1)))):=by
 have hN:=fun w=>Wire.new_any s w (by omega)
 obtain ⟨g,hg⟩ : ∃ g,rdInt 1 most (some s.data.toList) = g:=⟨_,rfl⟩
 obtain ⟨bb,hbb⟩ : ∃ bb,rdInt 0 most g.2 = bb:=⟨_,rfl⟩
 obtain ⟨zz,hzz⟩ : ∃ zz,rdInt 0 most bb.2 = zz:=⟨_,rfl⟩
 obtain ⟨cc,hcc⟩ : ∃ cc,rdInt 0 most zz.2 = cc:=⟨_,rfl⟩
 obtain ⟨kk,hkk⟩ : ∃ kk,rdText 63 cc.2 = kk:=⟨_,rfl⟩
 obtain ⟨oo,hoo⟩ : ∃ oo,rdText 63 kk.2 = oo:=⟨_,rfl⟩
 have hX : rdX 1 s.data.toList = (⟨g.1,bb.1,zz.1,cc.1,nums kk.1,nums oo.1⟩,done oo.2):=by
  unfold rdX
  simp only [hg,hbb,hzz,hcc,hkk,hoo]
 rw [hX]
 have lk : (nums kk.1).length ≤ 63:=by rw [nums_len,← hkk];exact rdText_len _
 have lo : (nums oo.1).length ≤ 63:=by rw [nums_len,← hoo];exact rdText_len _
 obtain ⟨zk,hzk⟩ : ∃ zk : ByteArray,zk.data.toList = kk.1:=⟨⟨kk.1.toArray⟩,by simp⟩
 obtain ⟨zo,hzo⟩ : ∃ zo : ByteArray,zo.data.toList = oo.1:=⟨⟨oo.1.toArray⟩,by simp⟩
 have lzk : zk.size ≤ 1000000:=by rw [← Wire.len_list,hzk];rw [nums_len] at lk;omega
 have lzo : zo.size ≤ 1000000:=by rw [← Wire.len_list,hzo];rw [nums_len] at lo;omega
 unfold most at hg hbb hzz hcc
 obtain ⟨g1,gs⟩:=g
 obtain ⟨b1,bs⟩:=bb
 obtain ⟨z1,zs⟩:=zz
 obtain ⟨c1,cs⟩:=cc
 obtain ⟨k1,ks⟩:=kk
 obtain ⟨o1,os⟩:=oo
 simp only at hg hbb hzz hcc hkk hoo hzk hzo lk lo ⊢
 subst hzk hzo
 have i1:=fun (b : Nat) (w : World) (h : RdAt w b (some s.data.toList))=>Wire.rdint_is b _ _ 1 1099511627776 g1 w h hg
 have i2:=fun (b : Nat) (w : World) (h : RdAt w b gs)=>Wire.rdint_is b _ _ 0 1099511627776 b1 w h hbb
 have i3:=fun (b : Nat) (w : World) (h : RdAt w b bs)=>Wire.rdint_is b _ _ 0 1099511627776 z1 w h hzz
 have i4:=fun (b : Nat) (w : World) (h : RdAt w b zs)=>Wire.rdint_is b _ _ 0 1099511627776 c1 w h hcc
 have i5:=fun (b : Nat) (w : World) (h : RdAt w b cs)=>numbers_any b _ _ zk w h hkk lzk
 have i6:=fun (b : Nat) (w : World) (h : RdAt w b ks)=>numbers_any b _ _ zo w h hoo lzo
 have HN:=Lib.hid hN;have I1:=Lib.hid i1;have I2:=Lib.hid i2;have I3:=Lib.hid i3;have I4:=Lib.hid i4;have I5:=Lib.hid i5;have I6:=Lib.hid i6
 clear hN i1 i2 i3 i4 i5 i6 hg hbb hzz hcc hkk hoo hX lzk lzo
 generalize nums zk.data.toList = ck at *
 generalize nums zo.data.toList = co at *
 go_enter Tryz.func169,Tryz.ntmps169
 go_wp2_with fail
 refine (HN.out _).mono ?_
 rintro e w1 ⟨rfl,hr1,hb1⟩
 have hr1':=hr1
 have hb1':=hb1
 rw [World.size_alloc] at hr1' hb1'
 have hlt1 : w.heap.size + 1 < w1.heap.size:=hr1'.lt
 have h0 : Rs (w.alloc (.cells #[.int .i64 0,.int .i64 0,.int .i64 0,.int .i64 0,.slice none 0 0,.slice none 0 0] 69)) (w1.alloc (.cells #[.pointer (some ⟨w.heap.size + 1,0,none⟩)] 218)) (w.heap.size + 1) (w.heap.size + 1) w1.heap.size none [] (some s.data.toList) :=
  ⟨hb1'.alloc (by omega) _,⟨Nat.le_refl _,Nat.ne_of_lt hlt1,by omega⟩,hr1'.keep (Below.heap_alloc w1 _ _ hlt1),heap_alloc_new w1 _,fun k hk=>(by cases hk),fun t ht=>(by cases ht)⟩
 have hz0:=heap_alloc_new w (.cells #[.int .i64 0,.int .i64 0,.int .i64 0,.int .i64 0,.slice none 0 0,.slice none 0 0] 69)
 have hba : Below w.heap.size w (w.alloc (.cells #[.int .i64 0,.int .i64 0,.int .i64 0,.int .i64 0,.slice none 0 0,.slice none 0 0] 69)):=(Below.refl _ w).alloc (Nat.le_refl _) _
 have HR:=Lib.hid h0;have HZ:=Lib.hid hz0;have HBA:=Lib.hid hba
 clear h0 hb1 hr1 hz0 hr1' hb1' hba
 go_wp2_with fail
 generalize w1.alloc (.cells #[.pointer (some ⟨w.heap.size + 1,0,none⟩)] 218) = w2 at *
 generalize w1.heap.size = rb at *
 generalize w.alloc (.cells #[.int .i64 0,.int .i64 0,.int .i64 0,.int .i64 0,.slice none 0 0,.slice none 0 0] 69) = wA at *
 have p0:=HR.out.cell
 have h0:=HR.out.drew
 have e0:=h0.cell
 have h00:=HR.out.alloc.drew
 have e00:=h00.cell
 go_region_held3 (fun w'=>w'.cell? ⟨rb,0,none⟩ = some (.pointer (some ⟨w.heap.size + 1,0,none⟩)))
  (first | with_reducible exact e0 | with_reducible exact e00 | with_reducible exact Lib.cell?_alloc_some _ e0 | with_reducible exact e1 | with_reducible exact Lib.cell?_alloc_some _ e1 | with_reducible exact e2 | with_reducible exact Lib.cell?_alloc_some _ e2 | with_reducible exact e3 | with_reducible exact Lib.cell?_alloc_some _ e3 | with_reducible exact e4 | with_reducible exact Lib.cell?_alloc_some _ e4 | with_reducible exact e5 | with_reducible exact Lib.cell?_alloc_some _ e5 | with_reducible exact e6 | with_reducible exact Lib.cell?_alloc_some _ e6 | with_reducible exact (cell_set6 h6).trans e6 | with_reducible exact (cell_set6 h6.alloc).trans (Lib.cell?_alloc_some _ e6))
  (first
   | (go_at_call 185;with_reducible refine (I6.out _ _ h5.rd).mono ?_;rintro e w8 ⟨⟨a2,c2,rfl,li2,lc2,ln2,lf2⟩,hs8⟩;have h6:=h5.list li2 lf2 hs8;have e6:=h6.cell;(try obtain ⟨⟨q0,q1,q2,q3,q4,q5⟩,r0,r1,r2,r3,r4,r5⟩:=h6.cells))
   | (go_at_call 185;with_reducible refine (I6.out _ _ h5.alloc.rd).mono ?_;rintro e w8 ⟨⟨a2,c2,rfl,li2,lc2,ln2,lf2⟩,hs8⟩;have h6:=h5.alloc.list li2 lf2 hs8;have e6:=h6.cell;(try obtain ⟨⟨q0,q1,q2,q3,q4,q5⟩,r0,r1,r2,r3,r4,r5⟩:=h6.cells))
   | (go_at_call 185;with_reducible refine (I5.out _ _ h4.rd).mono ?_;rintro e w7 ⟨⟨a1,d1,rfl,li1,lc1,ln1,lf1⟩,hs7⟩;have h5:=h4.list li1 lf1 hs7;have e5:=h5.cell)
   | (go_at_call 185;with_reducible refine (I5.out _ _ h4.alloc.rd).mono ?_;rintro e w7 ⟨⟨a1,d1,rfl,li1,lc1,ln1,lf1⟩,hs7⟩;have h5:=h4.alloc.list li1 lf1 hs7;have e5:=h5.cell)
   | (go_at_call 184;with_reducible refine (I4.out _ _ h3.rd).mono ?_;rintro e w6 ⟨rfl,hs6⟩;have h4:=h3.step hs6;have e4:=h4.cell)
   | (go_at_call 184;with_reducible refine (I4.out _ _ h3.alloc.rd).mono ?_;rintro e w6 ⟨rfl,hs6⟩;have h4:=h3.alloc.step hs6;have e4:=h4.cell)
   | (go_at_call 184;with_reducible refine (I3.out _ _ h2.rd).mono ?_;rintro e w5 ⟨rfl,hs5⟩;have h3:=h2.step hs5;have e3:=h3.cell)
   | (go_at_call 184;with_reducible refine (I3.out _ _ h2.alloc.rd).mono ?_;rintro e w5 ⟨rfl,hs5⟩;have h3:=h2.alloc.step hs5;have e3:=h3.cell)
   | (go_at_call 184;with_reducible refine (I2.out _ _ h1.rd).mono ?_;rintro e w4 ⟨rfl,hs4⟩;have h2:=h1.step hs4;have e2:=h2.cell)
   | (go_at_call 184;with_reducible refine (I2.out _ _ h1.alloc.rd).mono ?_;rintro e w4 ⟨rfl,hs4⟩;have h2:=h1.alloc.step hs4;have e2:=h2.cell)
   | (go_at_call 184;with_reducible refine (I1.out _ _ h0.rd).mono ?_;rintro e w3 ⟨rfl,hs3⟩;have h1:=h0.step hs3;have e1:=h1.cell)
   | (go_at_call 184;with_reducible refine (I1.out _ _ h00.rd).mono ?_;rintro e w3 ⟨rfl,hs3⟩;have h1:=h00.step hs3;have e1:=h1.cell))
 all_goals
  first
   | (have hR:=h6.made (.int .i64 g1) (.int .i64 b1) (.int .i64 z1) (.int .i64 c1) (.slice a1 ck.length d1) (.slice a2 co.length c2);obtain ⟨W,hW⟩ : ∃ W,w8.alloc (.cells #[.int .i64 g1,.int .i64 b1,.int .i64 z1,.int .i64 c1,.slice a1 ck.length d1,.slice a2 co.length c2] 69) = W:=⟨_,rfl⟩;rw [hW] at hR ⊢;clear hW;generalize w8.heap.size = bx at hR ⊢)
   | (have hR:=h6.put (.int .i64 g1) (.int .i64 b1) (.int .i64 z1) (.int .i64 c1) (.slice a1 ck.length d1) (.slice a2 co.length c2);unfold put6 at hR;obtain ⟨W,hW⟩ : ∃ W,((((((w8).setCell ⟨w7.heap.size,0,none⟩ (.int .i64 g1)).setCell ⟨w7.heap.size,1,none⟩ (.int .i64 b1)).setCell ⟨w7.heap.size,2,none⟩ (.int .i64 z1)).setCell ⟨w7.heap.size,3,none⟩ (.int .i64 c1)).setCell ⟨w7.heap.size,4,none⟩ (.slice a1 ck.length d1)).setCell ⟨w7.heap.size,5,none⟩ (.slice a2 co.length c2) = W:=⟨_,rfl⟩;rw [hW] at hR ⊢;clear hW;generalize w7.heap.size = bx at hR ⊢)
   | (have hR:=h6.put (.int .i64 g1) (.int .i64 b1) (.int .i64 z1) (.int .i64 c1) (.slice a1 ck.length d1) (.slice a2 co.length c2);unfold put6 at hR;obtain ⟨W,hW⟩ : ∃ W,((((((w8).setCell ⟨w6.heap.size,0,none⟩ (.int .i64 g1)).setCell ⟨w6.heap.size,1,none⟩ (.int .i64 b1)).setCell ⟨w6.heap.size,2,none⟩ (.int .i64 z1)).setCell ⟨w6.heap.size,3,none⟩ (.int .i64 c1)).setCell ⟨w6.heap.size,4,none⟩ (.slice a1 ck.length d1)).setCell ⟨w6.heap.size,5,none⟩ (.slice a2 co.length c2) = W:=⟨_,rfl⟩;rw [hW] at hR ⊢;clear hW;generalize w6.heap.size = bx at hR ⊢)
   | (have hR:=h6.put (.int .i64 g1) (.int .i64 b1) (.int .i64 z1) (.int .i64 c1) (.slice a1 ck.length d1) (.slice a2 co.length c2);unfold put6 at hR;obtain ⟨W,hW⟩ : ∃ W,((((((w8).setCell ⟨w5.heap.size,0,none⟩ (.int .i64 g1)).setCell ⟨w5.heap.size,1,none⟩ (.int .i64 b1)).setCell ⟨w5.heap.size,2,none⟩ (.int .i64 z1)).setCell ⟨w5.heap.size,3,none⟩ (.int .i64 c1)).setCell ⟨w5.heap.size,4,none⟩ (.slice a1 ck.length d1)).setCell ⟨w5.heap.size,5,none⟩ (.slice a2 co.length c2) = W:=⟨_,rfl⟩;rw [hW] at hR ⊢;clear hW;generalize w5.heap.size = bx at hR ⊢)
   | (have hR:=h6.put (.int .i64 g1) (.int .i64 b1) (.int .i64 z1) (.int .i64 c1) (.slice a1 ck.length d1) (.slice a2 co.length c2);unfold put6 at hR;obtain ⟨W,hW⟩ : ∃ W,((((((w8).setCell ⟨w4.heap.size,0,none⟩ (.int .i64 g1)).setCell ⟨w4.heap.size,1,none⟩ (.int .i64 b1)).setCell ⟨w4.heap.size,2,none⟩ (.int .i64 z1)).setCell ⟨w4.heap.size,3,none⟩ (.int .i64 c1)).setCell ⟨w4.heap.size,4,none⟩ (.slice a1 ck.length d1)).setCell ⟨w4.heap.size,5,none⟩ (.slice a2 co.length c2) = W:=⟨_,rfl⟩;rw [hW] at hR ⊢;clear hW;generalize w4.heap.size = bx at hR ⊢)
   | (have hR:=h6.put (.int .i64 g1) (.int .i64 b1) (.int .i64 z1) (.int .i64 c1) (.slice a1 ck.length d1) (.slice a2 co.length c2);unfold put6 at hR;obtain ⟨W,hW⟩ : ∃ W,((((((w8).setCell ⟨w3.heap.size,0,none⟩ (.int .i64 g1)).setCell ⟨w3.heap.size,1,none⟩ (.int .i64 b1)).setCell ⟨w3.heap.size,2,none⟩ (.int .i64 z1)).setCell ⟨w3.heap.size,3,none⟩ (.int .i64 c1)).setCell ⟨w3.heap.size,4,none⟩ (.slice a1 ck.length d1)).setCell ⟨w3.heap.size,5,none⟩ (.slice a2 co.length c2) = W:=⟨_,rfl⟩;rw [hW] at hR ⊢;clear hW;generalize w3.heap.size = bx at hR ⊢)
   | (have hR:=h6.put (.int .i64 g1) (.int .i64 b1) (.int .i64 z1) (.int .i64 c1) (.slice a1 ck.length d1) (.slice a2 co.length c2);unfold put6 at hR;obtain ⟨W,hW⟩ : ∃ W,((((((w8).setCell ⟨w2.heap.size,0,none⟩ (.int .i64 g1)).setCell ⟨w2.heap.size,1,none⟩ (.int .i64 b1)).setCell ⟨w2.heap.size,2,none⟩ (.int .i64 z1)).setCell ⟨w2.heap.size,3,none⟩ (.int .i64 c1)).setCell ⟨w2.heap.size,4,none⟩ (.slice a1 ck.length d1)).setCell ⟨w2.heap.size,5,none⟩ (.slice a2 co.length c2) = W:=⟨_,rfl⟩;rw [hW] at hR ⊢;clear hW;generalize w2.heap.size = bx at hR ⊢)
 all_goals
  have HW:=Lib.hid hR
  clear hR h00 e00 p0 h0 e0 e1 e2 e3 e4 e5 e6 h1 h2 h3 h4 h5 h6 hs3 hs4 hs5 hs6 hs7 hs8 li1 li2 lc1 lc2 lf1 lf2 I1 I2 I3 I4 I5 I6 HN
  (try clear q0 q1 q2 q3 q4 q5 r0 r1 r2 r3 r4 r5)
 all_goals
  have HD:=HW.out.drew
  have hDn:=fun v hv=>Wire.rddone_is (w.heap.size + 1) os v _ HD.rd hv
  have hFt:=fun (w' : World) (hs : SupAt w' ⟨g1,b1,z1,c1,ck,co⟩ a1 ck.length a2 co.length)=>supfit_any ⟨g1,b1,z1,c1,ck,co⟩ a1 a2 ck.length d1 co.length c2 w' hs (by omega) (by omega)
  unfold supV at hFt
  have HDn:=Lib.hid hDn;have HFt:=Lib.hid hFt
  have qb:=six_cells HD.bxc
  have qr : W.drew.cell? ⟨rb,0,none⟩ = some (.pointer (some ⟨w.heap.size + 1,0,none⟩)):=by rw [Wire.cell_of_heap HD.cel];rfl
  clear hDn hFt
  go_wp2_with fail
  have nbx : bx ≠ w.heap.size:=by have:=HW.out.le.2.2;omega
  have nrb : rb ≠ w.heap.size:=by have:=HW.out.le.2.1;omega
  cases hv : done os
  ·refine wp_region_noPanic ?_
   refine wp_region_held_drew (S:=(fun w'=>(w'.cell? ⟨bx,0,none⟩ = some (.int .i64 g1) ∧ w'.cell? ⟨bx,1,none⟩ = some (.int .i64 b1) ∧ w'.cell? ⟨bx,2,none⟩ = some (.int .i64 z1) ∧ w'.cell? ⟨bx,3,none⟩ = some (.int .i64 c1) ∧ w'.cell? ⟨bx,4,none⟩ = some (.slice a1 ck.length d1) ∧ w'.cell? ⟨bx,5,none⟩ = some (.slice a2 co.length c2)) ∧ w'.cell? ⟨rb,0,none⟩ = some (.pointer (some ⟨w.heap.size + 1,0,none⟩)))) (by kernel_rfl) ⟨qb,qr⟩ (fun hHeld=>?_)
   refine wpAnyH_take (i:=0) (v:=?_) rfl (by kernel_rfl) (by kernel_rfl) (by kernel_rfl) (fun _ _ _ h=>h) (Or.inl ⟨by kernel_rfl,?_⟩) hHeld ?_;rotate_left;focus ((intro w' hSw;(try dsimp only at hSw);go_simp;(try with_reducible rfl)))
   refine wpAnyH_take (i:=1) (v:=?_) rfl (by kernel_rfl) (by kernel_rfl) (by kernel_rfl) (fun _ _ _ h=>h) (Or.inl ⟨by kernel_rfl,?_⟩) hHeld ?_;rotate_left;focus ((intro w' hSw;(try dsimp only at hSw);go_simp;(try with_reducible rfl)))
   refine wpAnyH_take (i:=2) (v:=?_) rfl (by kernel_rfl) (by kernel_rfl) (by kernel_rfl) (fun _ _ _ h=>h) (Or.inl ⟨by kernel_rfl,?_⟩) hHeld ?_;rotate_left;focus ((intro w' hSw;(try dsimp only at hSw);go_simp;(try with_reducible rfl)))
   refine wpAnyH_ready (rs:=[3]) (by kernel_rfl) (by simp) ?_
   refine AllReadyH.cons rfl (fun K hK=>?_) AllReadyH.nil
   go_simp
   refine (HDn.out false hv).mono ?_
   rintro e w9 ⟨rfl,hb9⟩
   have h9:=HD.keep hb9
   have qr9 : w9.cell? ⟨rb,0,none⟩ = some (.pointer (some ⟨w.heap.size + 1,0,none⟩)):=(Wire.cell_of_heap h9.cel).trans rfl
   obtain ⟨⟨q0,q1,q2,q3,q4,q5⟩,r0,r1,r2,r3,r4,r5⟩:=zero_cells6 (h9.res HZ.out)
   refine hK.out _ _ ⟨six_cells h9.bxc,qr9⟩ (fun hHeld9=>?_)
   clear hK K hHeld
   refine wpAnyH_take (i:=4) (v:=?_) rfl (by kernel_rfl) (by kernel_rfl) (by kernel_rfl) (fun _ _ _ h=>h) (Or.inl ⟨by kernel_rfl,?_⟩) hHeld9 ?_;rotate_left;focus ((intro w' hSw;(try dsimp only at hSw);go_simp;(try with_reducible rfl)))
   refine wpAnyH_take (i:=5) (v:=undef) rfl (by kernel_rfl) (by kernel_rfl) (by kernel_rfl) (fun _ _ _ h=>h) (Or.inr ⟨by kernel_rfl,rfl⟩) hHeld9 ?_
   refine wpAnyH_take (i:=6) (v:=undef) rfl (by kernel_rfl) (by kernel_rfl) (by kernel_rfl) (fun _ _ _ h=>h) (Or.inr ⟨by kernel_rfl,rfl⟩) hHeld9 ?_
   refine wpAnyH_take (i:=7) (v:=?_) rfl (by kernel_rfl) (by kernel_rfl) (by kernel_rfl) (fun _ _ _ h=>h) (Or.inl ⟨by kernel_rfl,?_⟩) hHeld9 ?_;rotate_left;focus ((intro w' hSw;(try dsimp only at hSw);go_simp;(try with_reducible rfl)))
   refine wpAnyH_ready (rs:=[8]) (by kernel_rfl) (by simp) ?_
   refine AllReadyH.cons rfl (fun K hK=>?_) AllReadyH.nil
   go_simp
   refine hK.out _ _ ⟨six_cells ((put6_other _ _ _ _ _ _ nbx).trans h9.bxc),(World.cell?_of_block (put6_other _ _ _ _ _ _ nrb)).trans qr9⟩ (fun hHeldA=>?_)
   clear hK K hHeld9
   refine wpAnyH_take (i:=9) (v:=?_) rfl (by kernel_rfl) (by kernel_rfl) (by kernel_rfl) (fun _ _ _ h=>h) (Or.inl ⟨by kernel_rfl,?_⟩) hHeldA ?_;rotate_left;focus ((intro w' hSw;(try dsimp only at hSw);go_simp;(try with_reducible rfl)))
   refine wpAnyH_done (by kernel_rfl) ?_ _
   refine NoPanic.normal ?_
   have hz9:=h9.res HZ.out
   have HF:=Lib.hid (read_done (y:=⟨g1,b1,z1,c1,ck,co⟩) (v:=.bool false) (d1:=d1) (c2:=c2) h9 HBA.out lk lo ln1 ln2 (.int .i64 g1) (.int .i64 b1) (.int .i64 z1) (.int .i64 c1) (.slice a1 ck.length d1) (.slice a2 co.length c2))
   have HRS:=Lib.hid (six_cells (heap_put6 hz9 (.int .i64 g1) (.int .i64 b1) (.int .i64 z1) (.int .i64 c1) (.slice a1 ck.length d1) (.slice a2 co.length c2)))
   clear hHeldA q0 q1 q2 q3 q4 q5 r0 r1 r2 r3 r4 r5 hz9 h9 qr9 hb9 qb qr HD HDn HFt HW
   go_wp2_with fail
   refine bodyPost_ret (results_two rfl _ _ w.heap.size _ _ _ _ _ _ rfl HRS.out) rfl ?_
   first
    | exact HF.out
    | (rw [hv];exact HF.out)
  ·go_region_held3 (fun w'=>(w'.cell? ⟨bx,0,none⟩ = some (.int .i64 g1) ∧ w'.cell? ⟨bx,1,none⟩ = some (.int .i64 b1) ∧ w'.cell? ⟨bx,2,none⟩ = some (.int .i64 z1) ∧ w'.cell? ⟨bx,3,none⟩ = some (.int .i64 c1) ∧ w'.cell? ⟨bx,4,none⟩ = some (.slice a1 ck.length d1) ∧ w'.cell? ⟨bx,5,none⟩ = some (.slice a2 co.length c2)) ∧ w'.cell? ⟨rb,0,none⟩ = some (.pointer (some ⟨w.heap.size + 1,0,none⟩)))
    (first | with_reducible exact ⟨qb,qr⟩ | with_reducible exact ⟨qb9,qr9⟩ | with_reducible exact ⟨qb10,qr10⟩ | with_reducible exact ⟨six_cells ((put6_other _ _ _ _ _ _ nbx).trans h10.bxc),(World.cell?_of_block (put6_other _ _ _ _ _ _ nrb)).trans qr10⟩)
    (first
     | (go_at_call 148;refine (HFt.out _ ⟨h9.l1,h9.l2,by omega,by omega⟩).mono ?_;rintro e w10 ⟨rfl,hb10⟩;have h10:=h9.keep hb10;have qb10:=six_cells h10.bxc;have qr10 : w10.cell? ⟨rb,0,none⟩ = some (.pointer (some ⟨w.heap.size + 1,0,none⟩)):=(Wire.cell_of_heap h10.cel).trans rfl;obtain ⟨⟨q0,q1,q2,q3,q4,q5⟩,r0,r1,r2,r3,r4,r5⟩:=zero_cells6 (h10.res HZ.out))
     | (go_at_call 186;refine (HDn.out true hv).mono ?_;rintro e w9 ⟨rfl,hb9⟩;have h9:=HD.keep hb9;have qb9:=six_cells h9.bxc;have qr9 : w9.cell? ⟨rb,0,none⟩ = some (.pointer (some ⟨w.heap.size + 1,0,none⟩)):=(Wire.cell_of_heap h9.cel).trans rfl))
   have hz9:=h10.res HZ.out
   have HF:=Lib.hid (read_done (y:=⟨g1,b1,z1,c1,ck,co⟩) (v:=.bool (decide (Fit ⟨g1,b1,z1,c1,ck,co⟩))) (d1:=d1) (c2:=c2) h10 HBA.out lk lo ln1 ln2 (.int .i64 g1) (.int .i64 b1) (.int .i64 z1) (.int .i64 c1) (.slice a1 ck.length d1) (.slice a2 co.length c2))
   have HRS:=Lib.hid (six_cells (heap_put6 hz9 (.int .i64 g1) (.int .i64 b1) (.int .i64 z1) (.int .i64 c1) (.slice a1 ck.length d1) (.slice a2 co.length c2)))
   clear q0 q1 q2 q3 q4 q5 r0 r1 r2 r3 r4 r5 hz9 h9 h10 qr9 qr10 qb9 qb10 hb9 hb10 qb qr HD HDn HFt HW
   go_wp2_with fail
   refine bodyPost_ret (results_two rfl _ _ w.heap.size _ _ _ _ _ _ rfl HRS.out) rfl ?_
   first
    | exact HF.out
    | (rw [hv];exact HF.out)
end Go.Proofs.YtnnakhdndmjmiaaGreat
/-
 The contract of the program's Decode.
-/
set_option linter.unusedVariables false
set_option maxRecDepth 4000
set_option maxRecDepth 4000
namespace Go.Proofs.YtnnakhdndmjmiaaGreat
open Go.RowKit SuperP CrcP StampP
open Wire (IntsAt getD_mem take_snoc RdAt RqAt RdStep)
open WireP (rdText rdInt St done)
def zeroSup : Sup:=⟨0,0,0,0,[],[]⟩
def decY (l : List UInt8) : Sup:=(dec l).getD zeroSup
def decE (l : List UInt8) : Int:=if (dec l).isSome then 0 else 12
theorem dec_no {l : List UInt8} (h : dec l = none) : decY l = zeroSup ∧ decE l = 12:=by unfold decY decE;rw [h];exact ⟨rfl,rfl⟩
theorem dec_yes {l : List UInt8} {x : Sup} (h : dec l = some x) : decY l = x ∧ decE l = 0:=by unfold decY decE;rw [h];exact ⟨rfl,rfl⟩
theorem made_zero_sup {w w' : World} {v : Value} (hb : Below w.heap.size w w') : SupMade w zeroSup v (.returned (.tuple #[supV zeroSup (.slice none 0 0) (.slice none 0 0),v])) w' :=
 ⟨⟨none,0,none,0,rfl,⟨⟨rfl,by simp [zeroSup],.inl rfl⟩,⟨rfl,by simp [zeroSup],.inl rfl⟩,Nat.zero_le _,Nat.zero_le _⟩,fun _=>rfl,fun _=>rfl,fun ad he=>(by cases he),fun ad he=>(by cases he)⟩,hb⟩
theorem zero_stored {w w1 : World} {v : Value} (hb : Below w.heap.size w w1) : SupMade w zeroSup v (.returned (.tuple #[.agg #[.int .i64 0,.int .i64 0,.int .i64 0,.int .i64 0,.slice none 0 0,.slice none 0 0],v])) (put6 w1 w.heap.size (.int .i64 0) (.int .i64 0) (.int .i64 0) (.int .i64 0) (.slice none 0 0) (.slice none 0 0)) :=
 made_zero_sup (below_put6 hb (Nat.le_refl _) _ _ _ _ _ _)
theorem sup_stored {w w2 : World} {y : Sup} {a1 a2 : Option Addr} {d1 c2 : Nat} {v : Value} (hb : Below w.heap.size w w2) (h : SupAt w2 y a1 y.chk.length a2 y.log.length) (k1 : ∀ ad,a1 = some ad → w.heap.size < ad.block) (k2 : ∀ ad,a2 = some ad → w.heap.size < ad.block)
  (n1 : a1 = none → d1 = 0) (n2 : a2 = none → c2 = 0) : SupMade w y v (.returned (.tuple #[.agg #[.int .i64 y.gen,.int .i64 y.base,.int .i64 y.size,.int .i64 y.cg,.slice a1 y.chk.length d1,.slice a2 y.log.length c2],v])) (put6 w2 w.heap.size (.int .i64 y.gen) (.int .i64 y.base) (.int .i64 y.size) (.int .i64 y.cg) (.slice a1 y.chk.length d1) (.slice a2 y.log.length c2)) :=
 ⟨⟨a1,d1,a2,c2,rfl,⟨ints_other h.chk (.inr fun ad he=>by have:=k1 ad he;omega) (size_put6 _ _ _ _ _ _ _ _) (fun j hj=>put6_other _ _ _ _ _ _ hj),ints_other h.log (.inr fun ad he=>by have:=k2 ad he;omega) (size_put6 _ _ _ _ _ _ _ _) (fun j hj=>put6_other _ _ _ _ _ _ hj),h.big1,h.big2⟩,n1,n2,fun ad he=>Nat.le_of_lt (k1 ad he),fun ad he=>Nat.le_of_lt (k2 ad he)⟩,
  below_put6 hb (Nat.le_refl _) _ _ _ _ _ _⟩
set_option maxHeartbeats 4000000 in
theorem decode_none (s : ByteArray) (w : World) (HO : Hid (∀ w,Calls Tryz.prog 136 #[.string s] w fun e w'=>e = .returned (.tuple #[.agg #[.int .i64 0,.int .i64 0,.int .i64 0],.string ⟨#[]⟩,.int .i64 12]) ∧ Below w.heap.size w w')) :
  Calls Tryz.prog 135 #[.string s] w (SupMade w zeroSup (.int .i64 12)):=by
 obtain ⟨Z,hZ⟩ : ∃ Z,zeroSup = Z:=⟨_,rfl⟩
 rw [hZ]
 have HZZ:=Lib.hid hZ
 clear hZ
 go_enter Tryz.func135,Tryz.ntmps135
 go_wp2_with fail
 refine (HO.out _).mono ?_
 rintro e w1 ⟨rfl,hb1⟩
 have hB1:=((Below.refl _ w).alloc (Nat.le_refl _) zsup).trans (hb1.mono (by rw [World.size_alloc];exact Nat.le_succ _))
 have hz1:=(hb1.block w.heap.size (by simp)).trans (heap_alloc_new w zsup)
 have hlt1 : w.heap.size < w1.heap.size:=by have:=hb1.size;rw [World.size_alloc] at this;omega
 have hzA : (w1.alloc (.cells #[.int .i64 0,.int .i64 0,.int .i64 0] 161)).heap[w.heap.size]? = some (.cells #[.int .i64 0,.int .i64 0,.int .i64 0,.int .i64 0,.slice none 0 0,.slice none 0 0] 69 (0,0)):=(Below.heap_alloc w1 _ _ hlt1).trans hz1
 have hbA:=hB1.alloc (Nat.le_of_lt hlt1) (.cells #[.int .i64 0,.int .i64 0,.int .i64 0] 161)
 obtain ⟨⟨q0,q1,q2,q3,q4,q5⟩,r0,r1,r2,r3,r4,r5⟩:=zero_cells6 hzA
 have hf:=zero_stored (v:=.int .i64 12) hbA
 rw [HZZ.out] at hf
 have HF:=Lib.hid hf
 have HRS:=Lib.hid (six_cells (heap_put6 hzA (.int .i64 0) (.int .i64 0) (.int .i64 0) (.int .i64 0) (.slice none 0 0) (.slice none 0 0)))
 clear hb1 hB1 hz1 hzA hbA hf hlt1
 go_wp2_with fail
 generalize w1.alloc (.cells #[.int .i64 0,.int .i64 0,.int .i64 0] 161) = w2 at *
 go_wp2_with fail
 refine bodyPost_ret (results_two rfl _ _ w.heap.size _ _ _ _ _ _ rfl HRS.out) rfl ?_
 exact HF.out
theorem three_cells {w : World} {v0 v1 v2 : Value} {b : Nat} (h : w.heap[b]? = some (.cells #[v0,v1,v2] 161 (0,0))) :
  w.cell? ⟨b,0,none⟩ = some v0 ∧ w.cell? ⟨b,1,none⟩ = some v1 ∧ w.cell? ⟨b,2,none⟩ = some v2:=by
 refine ⟨?_,?_,?_⟩ <;> (rw [Wire.cell_of_heap h];rfl)
set_option maxHeartbeats 4000000 in
theorem decode_bad (s z : ByteArray) (gn gi gc : Int) (y : Sup) (w : World)  (HO : Hid (∀ w,Calls Tryz.prog 136 #[.string s] w fun e w'=>e = .returned (.tuple #[.agg #[.int .i64 gn,.int .i64 gi,.int .i64 gc],.string z,.int .i64 0]) ∧ Below w.heap.size w w'))
  (HR : Hid (∀ w,Calls Tryz.prog 169 #[.string z] w (SupMade w y (.bool false)))) :
  Calls Tryz.prog 135 #[.string s] w (SupMade w zeroSup (.int .i64 12)):=by
 obtain ⟨Z,hZ⟩ : ∃ Z,zeroSup = Z:=⟨_,rfl⟩
 rw [hZ]
 have HZZ:=Lib.hid hZ
 clear hZ
 go_enter Tryz.func135,Tryz.ntmps135
 go_wp2_with fail
 refine (HO.out _).mono ?_
 rintro e w1 ⟨rfl,hb1⟩
 have hB1:=((Below.refl _ w).alloc (Nat.le_refl _) zsup).trans (hb1.mono (by rw [World.size_alloc];exact Nat.le_succ _))
 have hz1:=(hb1.block w.heap.size (by simp)).trans (heap_alloc_new w zsup)
 have hlt1 : w.heap.size < w1.heap.size:=by have:=hb1.size;rw [World.size_alloc] at this;omega
 have hzA:=(Below.heap_alloc w1 (.cells #[.int .i64 gn,.int .i64 gi,.int .i64 gc] 161) _ hlt1).trans hz1
 have hsA:=heap_alloc_new w1 (.cells #[.int .i64 gn,.int .i64 gi,.int .i64 gc] 161)
 have hbA:=hB1.alloc (Nat.le_of_lt hlt1) (.cells #[.int .i64 gn,.int .i64 gi,.int .i64 gc] 161)
 have HZA:=Lib.hid hzA;have HBA:=Lib.hid hbA;have HSA:=Lib.hid hsA
 have HLT:=Lib.hid hlt1
 clear hb1 hB1 hz1 hzA hbA hsA hlt1
 go_wp2_with fail
 refine (HR.out _).mono ?_
 rintro e w3 ⟨⟨a1,d1,a2,d2,rfl,hsup,n1,n2,f1,f2⟩,hb3⟩
 simp only [supV]
 have hlt2 : (w1.alloc (.cells #[.int .i64 gn,.int .i64 gi,.int .i64 gc] 161)).heap.size = w1.heap.size + 1:=by simp
 rw [hlt2] at f1 f2
 have hz3:=(hb3.block w.heap.size (by rw [hlt2];have:=HLT.out;omega)).trans HZA.out
 have hs3:=(hb3.block w1.heap.size (by rw [hlt2];omega)).trans HSA.out
 have hB3:=HBA.out.trans (hb3.mono (by rw [hlt2];have:=HLT.out;omega))
 have hk3 : w1.heap.size < w3.heap.size:=by have:=hb3.size;omega
 have hlt3:=HLT.out
 have hz4:=(Below.heap_alloc w3 (.cells #[.int .i64 y.gen,.int .i64 y.base,.int .i64 y.size,.int .i64 y.cg,.slice a1 y.chk.length d1,.slice a2 y.log.length d2] 69) _ (Nat.lt_trans hlt3 hk3)).trans hz3
 have hs4:=(Below.heap_alloc w3 (.cells #[.int .i64 y.gen,.int .i64 y.base,.int .i64 y.size,.int .i64 y.cg,.slice a1 y.chk.length d1,.slice a2 y.log.length d2] 69) _ hk3).trans hs3
 have hy4:=heap_alloc_new w3 (.cells #[.int .i64 y.gen,.int .i64 y.base,.int .i64 y.size,.int .i64 y.cg,.slice a1 y.chk.length d1,.slice a2 y.log.length d2] 69)
 have hB4:=hB3.alloc hB3.size (.cells #[.int .i64 y.gen,.int .i64 y.base,.int .i64 y.size,.int .i64 y.cg,.slice a1 y.chk.length d1,.slice a2 y.log.length d2] 69)
 have hsup4:=hsup.keep ((Below.refl _ w3).alloc (Nat.le_refl _) (.cells #[.int .i64 y.gen,.int .i64 y.base,.int .i64 y.size,.int .i64 y.cg,.slice a1 y.chk.length d1,.slice a2 y.log.length d2] 69))
 have g1 : ∀ ad,a1 = some ad → w.heap.size < ad.block:=fun ad he=>by have:=f1 ad he;omega
 have g2 : ∀ ad,a2 = some ad → w.heap.size < ad.block:=fun ad he=>by have:=f2 ad he;omega
 have HZ4:=Lib.hid hz4;have HS4:=Lib.hid hs4;have HY4:=Lib.hid hy4;have HB4:=Lib.hid hB4;have HSUP:=Lib.hid hsup4;have G1:=Lib.hid g1;have G2:=Lib.hid g2;have N1:=Lib.hid n1;have N2:=Lib.hid n2
 clear hb3 hsup f1 f2 hlt2 hz3 hs3 hB3 hz4 hs4 hy4 hB4 hsup4 g1 g2 n1 n2 hk3 hlt3 HZA HBA HSA HR HO HLT
 go_wp2_with fail
 generalize w3.alloc (.cells #[.int .i64 y.gen,.int .i64 y.base,.int .i64 y.size,.int .i64 y.cg,.slice a1 y.chk.length d1,.slice a2 y.log.length d2] 69) = w4 at *
 clear HS4 HY4 HSUP
 go_quiet (fail)
 have hz5 : (w4.drewN nq).heap[w.heap.size]? = some (.cells #[.int .i64 0,.int .i64 0,.int .i64 0,.int .i64 0,.slice none 0 0,.slice none 0 0] 69 (0,0)):=HZ4.out
 have hb5:=below_drewN' HB4.out nq
 obtain ⟨⟨q0,q1,q2,q3,q4,q5⟩,r0,r1,r2,r3,r4,r5⟩:=zero_cells6 hz5
 have hf:=zero_stored (v:=.int .i64 12) hb5
 rw [HZZ.out] at hf
 have HF:=Lib.hid hf
 have HRS:=Lib.hid (six_cells (heap_put6 hz5 (.int .i64 0) (.int .i64 0) (.int .i64 0) (.int .i64 0) (.slice none 0 0) (.slice none 0 0)))
 clear hf hz5 hb5
 go_wp2_with fail
 refine bodyPost_ret (results_two rfl _ _ w.heap.size _ _ _ _ _ _ rfl HRS.out) rfl ?_
 exact HF.out
set_option maxHeartbeats 4000000 in
theorem decode_ne1 (s z : ByteArray) (gn gi gc : Int) (y : Sup) (w : World) (hq : ¬ gn = y.gen) (HO : Hid (∀ w,Calls Tryz.prog 136 #[.string s] w fun e w'=>e = .returned (.tuple #[.agg #[.int .i64 gn,.int .i64 gi,.int .i64 gc],.string z,.int .i64 0]) ∧ Below w.heap.size w w'))
  (HR : Hid (∀ w,Calls Tryz.prog 169 #[.string z] w (SupMade w y (.bool true)))) :
  Calls Tryz.prog 135 #[.string s] w (SupMade w zeroSup (.int .i64 12)):=by
 obtain ⟨Z,hZ⟩ : ∃ Z,zeroSup = Z:=⟨_,rfl⟩
 rw [hZ]
 have HZZ:=Lib.hid hZ
 clear hZ
 go_enter Tryz.func135,Tryz.ntmps135
 go_wp2_with fail
 refine (HO.out _).mono ?_
 rintro e w1 ⟨rfl,hb1⟩
 have hB1:=((Below.refl _ w).alloc (Nat.le_refl _) zsup).trans (hb1.mono (by rw [World.size_alloc];exact Nat.le_succ _))
 have hz1:=(hb1.block w.heap.size (by simp)).trans (heap_alloc_new w zsup)
 have hlt1 : w.heap.size < w1.heap.size:=by have:=hb1.size;rw [World.size_alloc] at this;omega
 have hzA:=(Below.heap_alloc w1 (.cells #[.int .i64 gn,.int .i64 gi,.int .i64 gc] 161) _ hlt1).trans hz1
 have hsA:=heap_alloc_new w1 (.cells #[.int .i64 gn,.int .i64 gi,.int .i64 gc] 161)
 have hbA:=hB1.alloc (Nat.le_of_lt hlt1) (.cells #[.int .i64 gn,.int .i64 gi,.int .i64 gc] 161)
 have HZA:=Lib.hid hzA;have HBA:=Lib.hid hbA;have HSA:=Lib.hid hsA
 have HLT:=Lib.hid hlt1
 clear hb1 hB1 hz1 hzA hbA hsA hlt1
 go_wp2_with fail
 refine (HR.out _).mono ?_
 rintro e w3 ⟨⟨a1,d1,a2,d2,rfl,hsup,n1,n2,f1,f2⟩,hb3⟩
 simp only [supV]
 have hlt2 : (w1.alloc (.cells #[.int .i64 gn,.int .i64 gi,.int .i64 gc] 161)).heap.size = w1.heap.size + 1:=by simp
 rw [hlt2] at f1 f2
 have hz3:=(hb3.block w.heap.size (by rw [hlt2];have:=HLT.out;omega)).trans HZA.out
 have hs3:=(hb3.block w1.heap.size (by rw [hlt2];omega)).trans HSA.out
 have hB3:=HBA.out.trans (hb3.mono (by rw [hlt2];have:=HLT.out;omega))
 have hk3 : w1.heap.size < w3.heap.size:=by have:=hb3.size;omega
 have hlt3:=HLT.out
 have hz4:=(Below.heap_alloc w3 (.cells #[.int .i64 y.gen,.int .i64 y.base,.int .i64 y.size,.int .i64 y.cg,.slice a1 y.chk.length d1,.slice a2 y.log.length d2] 69) _ (Nat.lt_trans hlt3 hk3)).trans hz3
 have hs4:=(Below.heap_alloc w3 (.cells #[.int .i64 y.gen,.int .i64 y.base,.int .i64 y.size,.int .i64 y.cg,.slice a1 y.chk.length d1,.slice a2 y.log.length d2] 69) _ hk3).trans hs3
 have hy4:=heap_alloc_new w3 (.cells #[.int .i64 y.gen,.int .i64 y.base,.int .i64 y.size,.int .i64 y.cg,.slice a1 y.chk.length d1,.slice a2 y.log.length d2] 69)
 have hB4:=hB3.alloc hB3.size (.cells #[.int .i64 y.gen,.int .i64 y.base,.int .i64 y.size,.int .i64 y.cg,.slice a1 y.chk.length d1,.slice a2 y.log.length d2] 69)
 have hsup4:=hsup.keep ((Below.refl _ w3).alloc (Nat.le_refl _) (.cells #[.int .i64 y.gen,.int .i64 y.base,.int .i64 y.size,.int .i64 y.cg,.slice a1 y.chk.length d1,.slice a2 y.log.length d2] 69))
 have g1 : ∀ ad,a1 = some ad → w.heap.size < ad.block:=fun ad he=>by have:=f1 ad he;omega
 have g2 : ∀ ad,a2 = some ad → w.heap.size < ad.block:=fun ad he=>by have:=f2 ad he;omega
 have HZ4:=Lib.hid hz4;have HS4:=Lib.hid hs4;have HY4:=Lib.hid hy4;have HB4:=Lib.hid hB4;have HSUP:=Lib.hid hsup4;have G1:=Lib.hid g1;have G2:=Lib.hid g2;have N1:=Lib.hid n1;have N2:=Lib.hid n2
 clear hb3 hsup f1 f2 hlt2 hz3 hs3 hB3 hz4 hs4 hy4 hB4 hsup4 g1 g2 n1 n2 hk3 hlt3 HZA HBA HSA HR HO HLT
 go_wp2_with fail
 generalize w3.alloc (.cells #[.int .i64 y.gen,.int .i64 y.base,.int .i64 y.size,.int .i64 y.cg,.slice a1 y.chk.length d1,.slice a2 y.log.length d2] 69) = w4 at *
 have qs:=three_cells HS4.out
 have qy:=six_cells HY4.out
 have hM:=fun w=>mark_any y (.slice a1 y.chk.length d1) (.slice a2 y.log.length d2) w
 unfold supV stV at hM
 have HM:=Lib.hid hM
 clear hM
 go_region_held3 (fun w'=>(w'.cell? ⟨w1.heap.size,0,none⟩ = some (.int .i64 gn) ∧ w'.cell? ⟨w1.heap.size,1,none⟩ = some (.int .i64 gi) ∧ w'.cell? ⟨w1.heap.size,2,none⟩ = some (.int .i64 gc)) ∧ w'.cell? ⟨w3.heap.size,0,none⟩ = some (.int .i64 y.gen) ∧ w'.cell? ⟨w3.heap.size,1,none⟩ = some (.int .i64 y.base) ∧ w'.cell? ⟨w3.heap.size,2,none⟩ = some (.int .i64 y.size) ∧ w'.cell? ⟨w3.heap.size,3,none⟩ = some (.int .i64 y.cg) ∧ w'.cell? ⟨w3.heap.size,4,none⟩ = some (.slice a1 y.chk.length d1) ∧ w'.cell? ⟨w3.heap.size,5,none⟩ = some (.slice a2 y.log.length d2))
  (first | exact ⟨qs,qy⟩ | exact ⟨qs5,qy5⟩)
  (first
   | (go_at_call 149;refine (HM.out w4.drew).mono ?_;rintro e w5 ⟨rfl,hb5⟩;have hs5:=(hb5.block w1.heap.size (Array.getElem?_eq_some_iff.1 HS4.out).1).trans HS4.out;have hy5:=(hb5.block w3.heap.size (Array.getElem?_eq_some_iff.1 HY4.out).1).trans HY4.out;have hz5:=(hb5.block w.heap.size (Array.getElem?_eq_some_iff.1 HZ4.out).1).trans HZ4.out;have qs5:=three_cells hs5;have qy5:=six_cells hy5))
 have hb5':=HB4.out.drew.trans (hb5.mono HB4.out.size)
 have hsup5:=HSUP.out.keep ((Below.refl _ w4).drew.trans hb5)
 clear hb5 qs5 qy5 hs5 qs qy HM HS4 HY4 HSUP
 have hb5:=hb5'
 clear hb5'
 obtain ⟨⟨q0,q1,q2,q3,q4,q5⟩,r0,r1,r2,r3,r4,r5⟩:=zero_cells6 hz5
 have hf:=zero_stored (v:=.int .i64 12) hb5
 rw [HZZ.out] at hf
 have HF:=Lib.hid hf
 have HRS:=Lib.hid (six_cells (heap_put6 hz5 (.int .i64 0) (.int .i64 0) (.int .i64 0) (.int .i64 0) (.slice none 0 0) (.slice none 0 0)))
 clear hf hz5 hb5
 go_wp2_with fail
 refine bodyPost_ret (results_two rfl _ _ w.heap.size _ _ _ _ _ _ rfl HRS.out) rfl ?_
 exact HF.out
set_option maxHeartbeats 4000000 in
theorem decode_ne2 (s z : ByteArray) (gi gc : Int) (y : Sup) (w : World) (hq : ¬ gi = 0) (HO : Hid (∀ w,Calls Tryz.prog 136 #[.string s] w fun e w'=>e = .returned (.tuple #[.agg #[.int .i64 y.gen,.int .i64 gi,.int .i64 gc],.string z,.int .i64 0]) ∧ Below w.heap.size w w'))
  (HR : Hid (∀ w,Calls Tryz.prog 169 #[.string z] w (SupMade w y (.bool true)))) :
  Calls Tryz.prog 135 #[.string s] w (SupMade w zeroSup (.int .i64 12)):=by
 obtain ⟨Z,hZ⟩ : ∃ Z,zeroSup = Z:=⟨_,rfl⟩
 rw [hZ]
 have HZZ:=Lib.hid hZ
 clear hZ
 go_enter Tryz.func135,Tryz.ntmps135
 go_wp2_with fail
 refine (HO.out _).mono ?_
 rintro e w1 ⟨rfl,hb1⟩
 have hB1:=((Below.refl _ w).alloc (Nat.le_refl _) zsup).trans (hb1.mono (by rw [World.size_alloc];exact Nat.le_succ _))
 have hz1:=(hb1.block w.heap.size (by simp)).trans (heap_alloc_new w zsup)
 have hlt1 : w.heap.size < w1.heap.size:=by have:=hb1.size;rw [World.size_alloc] at this;omega
 have hzA:=(Below.heap_alloc w1 (.cells #[.int .i64 y.gen,.int .i64 gi,.int .i64 gc] 161) _ hlt1).trans hz1
 have hsA:=heap_alloc_new w1 (.cells #[.int .i64 y.gen,.int .i64 gi,.int .i64 gc] 161)
 have hbA:=hB1.alloc (Nat.le_of_lt hlt1) (.cells #[.int .i64 y.gen,.int .i64 gi,.int .i64 gc] 161)
 have HZA:=Lib.hid hzA;have HBA:=Lib.hid hbA;have HSA:=Lib.hid hsA
 have HLT:=Lib.hid hlt1
 clear hb1 hB1 hz1 hzA hbA hsA hlt1
 go_wp2_with fail
 refine (HR.out _).mono ?_
 rintro e w3 ⟨⟨a1,d1,a2,d2,rfl,hsup,n1,n2,f1,f2⟩,hb3⟩
 simp only [supV]
 have hlt2 : (w1.alloc (.cells #[.int .i64 y.gen,.int .i64 gi,.int .i64 gc] 161)).heap.size = w1.heap.size + 1:=by simp
 rw [hlt2] at f1 f2
 have hz3:=(hb3.block w.heap.size (by rw [hlt2];have:=HLT.out;omega)).trans HZA.out
 have hs3:=(hb3.block w1.heap.size (by rw [hlt2];omega)).trans HSA.out
 have hB3:=HBA.out.trans (hb3.mono (by rw [hlt2];have:=HLT.out;omega))
 have hk3 : w1.heap.size < w3.heap.size:=by have:=hb3.size;omega
 have hlt3:=HLT.out
 have hz4:=(Below.heap_alloc w3 (.cells #[.int .i64 y.gen,.int .i64 y.base,.int .i64 y.size,.int .i64 y.cg,.slice a1 y.chk.length d1,.slice a2 y.log.length d2] 69) _ (Nat.lt_trans hlt3 hk3)).trans hz3
 have hs4:=(Below.heap_alloc w3 (.cells #[.int .i64 y.gen,.int .i64 y.base,.int .i64 y.size,.int .i64 y.cg,.slice a1 y.chk.length d1,.slice a2 y.log.length d2] 69) _ hk3).trans hs3
 have hy4:=heap_alloc_new w3 (.cells #[.int .i64 y.gen,.int .i64 y.base,.int .i64 y.size,.int .i64 y.cg,.slice a1 y.chk.length d1,.slice a2 y.log.length d2] 69)
 have hB4:=hB3.alloc hB3.size (.cells #[.int .i64 y.gen,.int .i64 y.base,.int .i64 y.size,.int .i64 y.cg,.slice a1 y.chk.length d1,.slice a2 y.log.length d2] 69)
 have hsup4:=hsup.keep ((Below.refl _ w3).alloc (Nat.le_refl _) (.cells #[.int .i64 y.gen,.int .i64 y.base,.int .i64 y.size,.int .i64 y.cg,.slice a1 y.chk.length d1,.slice a2 y.log.length d2] 69))
 have g1 : ∀ ad,a1 = some ad → w.heap.size < ad.block:=fun ad he=>by have:=f1 ad he;omega
 have g2 : ∀ ad,a2 = some ad → w.heap.size < ad.block:=fun ad he=>by have:=f2 ad he;omega
 have HZ4:=Lib.hid hz4;have HS4:=Lib.hid hs4;have HY4:=Lib.hid hy4;have HB4:=Lib.hid hB4;have HSUP:=Lib.hid hsup4;have G1:=Lib.hid g1;have G2:=Lib.hid g2;have N1:=Lib.hid n1;have N2:=Lib.hid n2
 clear hb3 hsup f1 f2 hlt2 hz3 hs3 hB3 hz4 hs4 hy4 hB4 hsup4 g1 g2 n1 n2 hk3 hlt3 HZA HBA HSA HR HO HLT
 go_wp2_with fail
 generalize w3.alloc (.cells #[.int .i64 y.gen,.int .i64 y.base,.int .i64 y.size,.int .i64 y.cg,.slice a1 y.chk.length d1,.slice a2 y.log.length d2] 69) = w4 at *
 have qs:=three_cells HS4.out
 have qy:=six_cells HY4.out
 have hM:=fun w=>mark_any y (.slice a1 y.chk.length d1) (.slice a2 y.log.length d2) w
 unfold supV stV at hM
 have HM:=Lib.hid hM
 clear hM
 go_region_held3 (fun w'=>(w'.cell? ⟨w1.heap.size,0,none⟩ = some (.int .i64 y.gen) ∧ w'.cell? ⟨w1.heap.size,1,none⟩ = some (.int .i64 gi) ∧ w'.cell? ⟨w1.heap.size,2,none⟩ = some (.int .i64 gc)) ∧ w'.cell? ⟨w3.heap.size,0,none⟩ = some (.int .i64 y.gen) ∧ w'.cell? ⟨w3.heap.size,1,none⟩ = some (.int .i64 y.base) ∧ w'.cell? ⟨w3.heap.size,2,none⟩ = some (.int .i64 y.size) ∧ w'.cell? ⟨w3.heap.size,3,none⟩ = some (.int .i64 y.cg) ∧ w'.cell? ⟨w3.heap.size,4,none⟩ = some (.slice a1 y.chk.length d1) ∧ w'.cell? ⟨w3.heap.size,5,none⟩ = some (.slice a2 y.log.length d2))
  (first | exact ⟨qs,qy⟩ | exact ⟨qs5,qy5⟩)
  (first
   | (go_at_call 149;refine (HM.out w4.drew).mono ?_;rintro e w5 ⟨rfl,hb5⟩;have hs5:=(hb5.block w1.heap.size (Array.getElem?_eq_some_iff.1 HS4.out).1).trans HS4.out;have hy5:=(hb5.block w3.heap.size (Array.getElem?_eq_some_iff.1 HY4.out).1).trans HY4.out;have hz5:=(hb5.block w.heap.size (Array.getElem?_eq_some_iff.1 HZ4.out).1).trans HZ4.out;have qs5:=three_cells hs5;have qy5:=six_cells hy5))
 have hb5':=HB4.out.drew.trans (hb5.mono HB4.out.size)
 have hsup5:=HSUP.out.keep ((Below.refl _ w4).drew.trans hb5)
 clear hb5 qs5 qy5 hs5 qs qy HM HS4 HY4 HSUP
 have hb5:=hb5'
 clear hb5'
 obtain ⟨⟨q0,q1,q2,q3,q4,q5⟩,r0,r1,r2,r3,r4,r5⟩:=zero_cells6 hz5
 have hf:=zero_stored (v:=.int .i64 12) hb5
 rw [HZZ.out] at hf
 have HF:=Lib.hid hf
 have HRS:=Lib.hid (six_cells (heap_put6 hz5 (.int .i64 0) (.int .i64 0) (.int .i64 0) (.int .i64 0) (.slice none 0 0) (.slice none 0 0)))
 clear hf hz5 hb5
 go_wp2_with fail
 refine bodyPost_ret (results_two rfl _ _ w.heap.size _ _ _ _ _ _ rfl HRS.out) rfl ?_
 exact HF.out
set_option maxHeartbeats 4000000 in
theorem decode_ne3 (s z : ByteArray) (gc : Int) (y : Sup) (w : World) (hq : ¬ gc = 1) (HO : Hid (∀ w,Calls Tryz.prog 136 #[.string s] w fun e w'=>e = .returned (.tuple #[.agg #[.int .i64 y.gen,.int .i64 0,.int .i64 gc],.string z,.int .i64 0]) ∧ Below w.heap.size w w'))
  (HR : Hid (∀ w,Calls Tryz.prog 169 #[.string z] w (SupMade w y (.bool true)))) :
  Calls Tryz.prog 135 #[.string s] w (SupMade w zeroSup (.int .i64 12)):=by
 obtain ⟨Z,hZ⟩ : ∃ Z,zeroSup = Z:=⟨_,rfl⟩
 rw [hZ]
 have HZZ:=Lib.hid hZ
 clear hZ
 go_enter Tryz.func135,Tryz.ntmps135
 go_wp2_with fail
 refine (HO.out _).mono ?_
 rintro e w1 ⟨rfl,hb1⟩
 have hB1:=((Below.refl _ w).alloc (Nat.le_refl _) zsup).trans (hb1.mono (by rw [World.size_alloc];exact Nat.le_succ _))
 have hz1:=(hb1.block w.heap.size (by simp)).trans (heap_alloc_new w zsup)
 have hlt1 : w.heap.size < w1.heap.size:=by have:=hb1.size;rw [World.size_alloc] at this;omega
 have hzA:=(Below.heap_alloc w1 (.cells #[.int .i64 y.gen,.int .i64 0,.int .i64 gc] 161) _ hlt1).trans hz1
 have hsA:=heap_alloc_new w1 (.cells #[.int .i64 y.gen,.int .i64 0,.int .i64 gc] 161)
 have hbA:=hB1.alloc (Nat.le_of_lt hlt1) (.cells #[.int .i64 y.gen,.int .i64 0,.int .i64 gc] 161)
 have HZA:=Lib.hid hzA;have HBA:=Lib.hid hbA;have HSA:=Lib.hid hsA
 have HLT:=Lib.hid hlt1
 clear hb1 hB1 hz1 hzA hbA hsA hlt1
 go_wp2_with fail
 refine (HR.out _).mono ?_
 rintro e w3 ⟨⟨a1,d1,a2,d2,rfl,hsup,n1,n2,f1,f2⟩,hb3⟩
 simp only [supV]
 have hlt2 : (w1.alloc (.cells #[.int .i64 y.gen,.int .i64 0,.int .i64 gc] 161)).heap.size = w1.heap.size + 1:=by simp
 rw [hlt2] at f1 f2
 have hz3:=(hb3.block w.heap.size (by rw [hlt2];have:=HLT.out;omega)).trans HZA.out
 have hs3:=(hb3.block w1.heap.size (by rw [hlt2];omega)).trans HSA.out
 have hB3:=HBA.out.trans (hb3.mono (by rw [hlt2];have:=HLT.out;omega))
 have hk3 : w1.heap.size < w3.heap.size:=by have:=hb3.size;omega
 have hlt3:=HLT.out
 have hz4:=(Below.heap_alloc w3 (.cells #[.int .i64 y.gen,.int .i64 y.base,.int .i64 y.size,.int .i64 y.cg,.slice a1 y.chk.length d1,.slice a2 y.log.length d2] 69) _ (Nat.lt_trans hlt3 hk3)).trans hz3
 have hs4:=(Below.heap_alloc w3 (.cells #[.int .i64 y.gen,.int .i64 y.base,.int .i64 y.size,.int .i64 y.cg,.slice a1 y.chk.length d1,.slice a2 y.log.length d2] 69) _ hk3).trans hs3
 have hy4:=heap_alloc_new w3 (.cells #[.int .i64 y.gen,.int .i64 y.base,.int .i64 y.size,.int .i64 y.cg,.slice a1 y.chk.length d1,.slice a2 y.log.length d2] 69)
 have hB4:=hB3.alloc hB3.size (.cells #[.int .i64 y.gen,.int .i64 y.base,.int .i64 y.size,.int .i64 y.cg,.slice a1 y.chk.length d1,.slice a2 y.log.length d2] 69)
 have hsup4:=hsup.keep ((Below.refl _ w3).alloc (Nat.le_refl _) (.cells #[.int .i64 y.gen,.int .i64 y.base,.int .i64 y.size,.int .i64 y.cg,.slice a1 y.chk.length d1,.slice a2 y.log.length d2] 69))
 have g1 : ∀ ad,a1 = some ad → w.heap.size < ad.block:=fun ad he=>by have:=f1 ad he;omega
 have g2 : ∀ ad,a2 = some ad → w.heap.size < ad.block:=fun ad he=>by have:=f2 ad he;omega
 have HZ4:=Lib.hid hz4;have HS4:=Lib.hid hs4;have HY4:=Lib.hid hy4;have HB4:=Lib.hid hB4;have HSUP:=Lib.hid hsup4;have G1:=Lib.hid g1;have G2:=Lib.hid g2;have N1:=Lib.hid n1;have N2:=Lib.hid n2
 clear hb3 hsup f1 f2 hlt2 hz3 hs3 hB3 hz4 hs4 hy4 hB4 hsup4 g1 g2 n1 n2 hk3 hlt3 HZA HBA HSA HR HO HLT
 go_wp2_with fail
 generalize w3.alloc (.cells #[.int .i64 y.gen,.int .i64 y.base,.int .i64 y.size,.int .i64 y.cg,.slice a1 y.chk.length d1,.slice a2 y.log.length d2] 69) = w4 at *
 have qs:=three_cells HS4.out
 have qy:=six_cells HY4.out
 have hM:=fun w=>mark_any y (.slice a1 y.chk.length d1) (.slice a2 y.log.length d2) w
 unfold supV stV at hM
 have HM:=Lib.hid hM
 clear hM
 go_region_held3 (fun w'=>(w'.cell? ⟨w1.heap.size,0,none⟩ = some (.int .i64 y.gen) ∧ w'.cell? ⟨w1.heap.size,1,none⟩ = some (.int .i64 0) ∧ w'.cell? ⟨w1.heap.size,2,none⟩ = some (.int .i64 gc)) ∧ w'.cell? ⟨w3.heap.size,0,none⟩ = some (.int .i64 y.gen) ∧ w'.cell? ⟨w3.heap.size,1,none⟩ = some (.int .i64 y.base) ∧ w'.cell? ⟨w3.heap.size,2,none⟩ = some (.int .i64 y.size) ∧ w'.cell? ⟨w3.heap.size,3,none⟩ = some (.int .i64 y.cg) ∧ w'.cell? ⟨w3.heap.size,4,none⟩ = some (.slice a1 y.chk.length d1) ∧ w'.cell? ⟨w3.heap.size,5,none⟩ = some (.slice a2 y.log.length d2))
  (first | exact ⟨qs,qy⟩ | exact ⟨qs5,qy5⟩)
  (first
   | (go_at_call 149;refine (HM.out w4.drew).mono ?_;rintro e w5 ⟨rfl,hb5⟩;have hs5:=(hb5.block w1.heap.size (Array.getElem?_eq_some_iff.1 HS4.out).1).trans HS4.out;have hy5:=(hb5.block w3.heap.size (Array.getElem?_eq_some_iff.1 HY4.out).1).trans HY4.out;have hz5:=(hb5.block w.heap.size (Array.getElem?_eq_some_iff.1 HZ4.out).1).trans HZ4.out;have qs5:=three_cells hs5;have qy5:=six_cells hy5))
 have hb5':=HB4.out.drew.trans (hb5.mono HB4.out.size)
 have hsup5:=HSUP.out.keep ((Below.refl _ w4).drew.trans hb5)
 clear hb5 qs5 qy5 hs5 qs qy HM HS4 HY4 HSUP
 have hb5:=hb5'
 clear hb5'
 obtain ⟨⟨q0,q1,q2,q3,q4,q5⟩,r0,r1,r2,r3,r4,r5⟩:=zero_cells6 hz5
 have hf:=zero_stored (v:=.int .i64 12) hb5
 rw [HZZ.out] at hf
 have HF:=Lib.hid hf
 have HRS:=Lib.hid (six_cells (heap_put6 hz5 (.int .i64 0) (.int .i64 0) (.int .i64 0) (.int .i64 0) (.slice none 0 0) (.slice none 0 0)))
 clear hf hz5 hb5
 go_wp2_with fail
 refine bodyPost_ret (results_two rfl _ _ w.heap.size _ _ _ _ _ _ rfl HRS.out) rfl ?_
 exact HF.out
set_option maxHeartbeats 4000000 in
theorem decode_eq (s z : ByteArray) (gn gi gc : Int) (y : Sup) (w : World) (h1 : gn = y.gen) (h2 : gi = 0) (h3 : gc = 1) (HO : Hid (∀ w,Calls Tryz.prog 136 #[.string s] w fun e w'=>e = .returned (.tuple #[.agg #[.int .i64 gn,.int .i64 gi,.int .i64 gc],.string z,.int .i64 0]) ∧ Below w.heap.size w w'))
  (HR : Hid (∀ w,Calls Tryz.prog 169 #[.string z] w (SupMade w y (.bool true)))) :
  Calls Tryz.prog 135 #[.string s] w (SupMade w y (.int .i64 0)):=by
 subst h1 h2 h3
 go_enter Tryz.func135,Tryz.ntmps135
 go_wp2_with fail
 refine (HO.out _).mono ?_
 rintro e w1 ⟨rfl,hb1⟩
 have hB1:=((Below.refl _ w).alloc (Nat.le_refl _) zsup).trans (hb1.mono (by rw [World.size_alloc];exact Nat.le_succ _))
 have hz1:=(hb1.block w.heap.size (by simp)).trans (heap_alloc_new w zsup)
 have hlt1 : w.heap.size < w1.heap.size:=by have:=hb1.size;rw [World.size_alloc] at this;omega
 have hzA:=(Below.heap_alloc w1 (.cells #[.int .i64 y.gen,.int .i64 0,.int .i64 1] 161) _ hlt1).trans hz1
 have hsA:=heap_alloc_new w1 (.cells #[.int .i64 y.gen,.int .i64 0,.int .i64 1] 161)
 have hbA:=hB1.alloc (Nat.le_of_lt hlt1) (.cells #[.int .i64 y.gen,.int .i64 0,.int .i64 1] 161)
 have HZA:=Lib.hid hzA;have HBA:=Lib.hid hbA;have HSA:=Lib.hid hsA
 have HLT:=Lib.hid hlt1
 clear hb1 hB1 hz1 hzA hbA hsA hlt1
 go_wp2_with fail
 refine (HR.out _).mono ?_
 rintro e w3 ⟨⟨a1,d1,a2,d2,rfl,hsup,n1,n2,f1,f2⟩,hb3⟩
 simp only [supV]
 have hlt2 : (w1.alloc (.cells #[.int .i64 y.gen,.int .i64 0,.int .i64 1] 161)).heap.size = w1.heap.size + 1:=by simp
 rw [hlt2] at f1 f2
 have hz3:=(hb3.block w.heap.size (by rw [hlt2];have:=HLT.out;omega)).trans HZA.out
 have hs3:=(hb3.block w1.heap.size (by rw [hlt2];omega)).trans HSA.out
 have hB3:=HBA.out.trans (hb3.mono (by rw [hlt2];have:=HLT.out;omega))
 have hk3 : w1.heap.size < w3.heap.size:=by have:=hb3.size;omega
 have hlt3:=HLT.out
 have hz4:=(Below.heap_alloc w3 (.cells #[.int .i64 y.gen,.int .i64 y.base,.int .i64 y.size,.int .i64 y.cg,.slice a1 y.chk.length d1,.slice a2 y.log.length d2] 69) _ (Nat.lt_trans hlt3 hk3)).trans hz3
 have hs4:=(Below.heap_alloc w3 (.cells #[.int .i64 y.gen,.int .i64 y.base,.int .i64 y.size,.int .i64 y.cg,.slice a1 y.chk.length d1,.slice a2 y.log.length d2] 69) _ hk3).trans hs3
 have hy4:=heap_alloc_new w3 (.cells #[.int .i64 y.gen,.int .i64 y.base,.int .i64 y.size,.int .i64 y.cg,.slice a1 y.chk.length d1,.slice a2 y.log.length d2] 69)
 have hB4:=hB3.alloc hB3.size (.cells #[.int .i64 y.gen,.int .i64 y.base,.int .i64 y.size,.int .i64 y.cg,.slice a1 y.chk.length d1,.slice a2 y.log.length d2] 69)
 have hsup4:=hsup.keep ((Below.refl _ w3).alloc (Nat.le_refl _) (.cells #[.int .i64 y.gen,.int .i64 y.base,.int .i64 y.size,.int .i64 y.cg,.slice a1 y.chk.length d1,.slice a2 y.log.length d2] 69))
 have g1 : ∀ ad,a1 = some ad → w.heap.size < ad.block:=fun ad he=>by have:=f1 ad he;omega
 have g2 : ∀ ad,a2 = some ad → w.heap.size < ad.block:=fun ad he=>by have:=f2 ad he;omega
 have HZ4:=Lib.hid hz4;have HS4:=Lib.hid hs4;have HY4:=Lib.hid hy4;have HB4:=Lib.hid hB4;have HSUP:=Lib.hid hsup4;have G1:=Lib.hid g1;have G2:=Lib.hid g2;have N1:=Lib.hid n1;have N2:=Lib.hid n2
 clear hb3 hsup f1 f2 hlt2 hz3 hs3 hB3 hz4 hs4 hy4 hB4 hsup4 g1 g2 n1 n2 hk3 hlt3 HZA HBA HSA HR HO HLT
 go_wp2_with fail
 generalize w3.alloc (.cells #[.int .i64 y.gen,.int .i64 y.base,.int .i64 y.size,.int .i64 y.cg,.slice a1 y.chk.length d1,.slice a2 y.log.length d2] 69) = w4 at *
 have qs:=three_cells HS4.out
 have qy:=six_cells HY4.out
 have hM:=fun w=>mark_any y (.slice a1 y.chk.length d1) (.slice a2 y.log.length d2) w
 unfold supV stV at hM
 have HM:=Lib.hid hM
 clear hM
 go_region_held3 (fun w'=>(w'.cell? ⟨w1.heap.size,0,none⟩ = some (.int .i64 y.gen) ∧ w'.cell? ⟨w1.heap.size,1,none⟩ = some (.int .i64 0) ∧ w'.cell? ⟨w1.heap.size,2,none⟩ = some (.int .i64 1)) ∧ w'.cell? ⟨w3.heap.size,0,none⟩ = some (.int .i64 y.gen) ∧ w'.cell? ⟨w3.heap.size,1,none⟩ = some (.int .i64 y.base) ∧ w'.cell? ⟨w3.heap.size,2,none⟩ = some (.int .i64 y.size) ∧ w'.cell? ⟨w3.heap.size,3,none⟩ = some (.int .i64 y.cg) ∧ w'.cell? ⟨w3.heap.size,4,none⟩ = some (.slice a1 y.chk.length d1) ∧ w'.cell? ⟨w3.heap.size,5,none⟩ = some (.slice a2 y.log.length d2))
  (first | exact ⟨qs,qy⟩ | exact ⟨qs5,qy5⟩)
  (first
   | (go_at_call 149;refine (HM.out w4.drew).mono ?_;rintro e w5 ⟨rfl,hb5⟩;have hs5:=(hb5.block w1.heap.size (Array.getElem?_eq_some_iff.1 HS4.out).1).trans HS4.out;have hy5:=(hb5.block w3.heap.size (Array.getElem?_eq_some_iff.1 HY4.out).1).trans HY4.out;have hz5:=(hb5.block w.heap.size (Array.getElem?_eq_some_iff.1 HZ4.out).1).trans HZ4.out;have qs5:=three_cells hs5;have qy5:=six_cells hy5))
 have hb5':=HB4.out.drew.trans (hb5.mono HB4.out.size)
 have hsup5:=HSUP.out.keep ((Below.refl _ w4).drew.trans hb5)
 clear hb5 qs5 qy5 hs5 qs qy HM HS4 HY4 HSUP
 have hb5:=hb5'
 clear hb5'
 obtain ⟨⟨q0,q1,q2,q3,q4,q5⟩,r0,r1,r2,r3,r4,r5⟩:=zero_cells6 hz5
 obtain ⟨y0,y1,y2,y3,y4,y5⟩:=six_cells hy5
 have hf:=sup_stored (v:=.int .i64 0) hb5 hsup5 G1.out G2.out N1.out N2.out
 have HF:=Lib.hid hf
 have HRS:=Lib.hid (six_cells (heap_put6 hz5 (.int .i64 y.gen) (.int .i64 y.base) (.int .i64 y.size) (.int .i64 y.cg) (.slice a1 y.chk.length d1) (.slice a2 y.log.length d2)))
 clear hf hz5 hb5 hsup5 hy5
 go_wp2_with fail
 refine bodyPost_ret (results_two rfl _ _ w.heap.size _ _ _ _ _ _ rfl HRS.out) rfl ?_
 exact HF.out
theorem decode_any (s : ByteArray) (w : World) (hs : s.size ≤ 1000000) :
  Calls Tryz.prog 135 #[.string s] w (SupMade w (decY s.data.toList) (.int .i64 (decE s.data.toList))):=by
 have hO:=fun w=>open_any s w (by omega)
 rcases ho : opn s.data.toList with _ | ⟨n,i,c,t⟩
 ·obtain ⟨e1,e2⟩:=dec_no (dec_none ho)
  rw [e1,e2]
  rw [ho] at hO
  exact decode_none s w (Lib.hid hO)
 ·obtain ⟨hy,hn⟩:=dec_prog ho
  have hlt:=(opn_some ho).2.2
  rw [ho] at hO
  have hR:=fun w=>read_any (str t) w (by rw [str_size];omega)
  rw [show (str t).data.toList = t from rfl] at hR
  by_cases hB : (rdX 1 t).2 = true ∧ Fit (rdX 1 t).1
  ·rw [hB.1,decide_eq_true hB.2,Bool.and_self] at hR
   have HO : Hid (∀ w,Calls Tryz.prog 136 #[.string s] w fun e w'=>e = .returned (.tuple #[.agg #[.int .i64 (n : Int),.int .i64 (i : Int),.int .i64 (c : Int)],.string (str t),.int .i64 0]) ∧ Below w.heap.size w w'):=Lib.hid hO
   by_cases h1 : (n : Int) = (rdX 1 t).1.gen
   ·by_cases h2 : (i : Int) = 0
    ·by_cases h3 : (c : Int) = 1
     ·obtain ⟨e1,e2⟩:=dec_yes (hy ⟨hB,h1,by omega,by omega⟩)
      rw [e1,e2]
      exact decode_eq s (str t) n i c (rdX 1 t).1 w h1 h2 h3 HO (Lib.hid hR)
     ·obtain ⟨e1,e2⟩:=dec_no (hn fun g=>h3 (by omega))
      rw [e1,e2]
      rw [h1,h2] at HO
      exact decode_ne3 s (str t) c (rdX 1 t).1 w h3 HO (Lib.hid hR)
    ·obtain ⟨e1,e2⟩:=dec_no (hn fun g=>h2 (by omega))
     rw [e1,e2]
     rw [h1] at HO
     exact decode_ne2 s (str t) i c (rdX 1 t).1 w h2 HO (Lib.hid hR)
   ·obtain ⟨e1,e2⟩:=dec_no (hn fun g=>h1 g.2.1)
    rw [e1,e2]
    exact decode_ne1 s (str t) n i c (rdX 1 t).1 w h1 HO (Lib.hid hR)
  ·have hF : ((rdX 1 t).2 && decide (Fit (rdX 1 t).1)) = false:=by
    rw [Bool.and_eq_false_iff,decide_eq_false_iff_not]
    by_cases g : (rdX 1 t).2 = true
    ·exact .inr fun f=>hB ⟨g,f⟩
    ·exact .inl (by simpa using g)
   rw [hF] at hR
   obtain ⟨e1,e2⟩:=dec_no (hn fun g=>hB g.1)
   rw [e1,e2]
   exact decode_bad s (str t) n i c (rdX 1 t).1 w (Lib.hid hO) (Lib.hid hR)
end Go.Proofs.YtnnakhdndmjmiaaGreat
/-
 The contract of the document's Decode.
-/
set_option linter.unusedVariables false
set_option maxRecDepth 4000
set_option maxRecDepth 4000
namespace Go.Proofs.YtnnakhdndmjmiaaGreat
open Go.RowKit SuperP
open StampP (opn opn_some)
open Wire (IntsAt getD_mem take_snoc RdAt RqAt RdStep)
open WireP (rdText rdInt St done)
structure Dq (w0 w : World) (B b bx : Nat) (box : Array Value) (L : List (Option Addr × List Int)) (st : St) : Prop where
 below : Below B w0 w
 rq : RqAt w b st
 bxc : w.heap[bx]? = some (.cells box 69 (0,0))
 le : B ≤ b ∧ b < bx
 lists : ∀ t ∈ L,IntsAt w t.1 t.2.length t.2 ∧ ∀ ad,t.1 = some ad → bx < ad.block
theorem Dq.step {w0 w w' : World} {B b bx : Nat} {box : Array Value} {L : List (Option Addr × List Int)} {st st' : St} (h : Dq w0 w B b bx box L st) (hs : RqAt w' b st' ∧ w.grownBy w' (some b)) : Dq w0 w' B b bx box L st':=by
 have h1:=(Array.getElem?_eq_some_iff.1 h.bxc).1
 refine ⟨h.below.trans (Wire.below_of_grown hs.2 h.le.1 h.rq.lt),hs.1,(hs.2.block bx h1 (fun e=>by have:=h.le.2;simp at e;omega)).trans h.bxc,h.le,fun t ht=>⟨?_,(h.lists t ht).2⟩⟩
 obtain ⟨g1,g2⟩:=h.lists t ht
 refine ⟨g1.1,g1.2.1,?_⟩
 rcases g1.2.2 with h0 | ⟨bl,off,e,hlt,hc⟩
 ·exact .inl h0
 ·have:=g2 _ e
  have hle:=h.le.2
  exact .inr ⟨bl,off,e,Nat.lt_of_lt_of_le hlt hs.2.size,fun i hi=>hs.2.cell (hc i hi) (fun e2=>by simp at e2;simp only at this;omega)⟩
theorem Dq.keep {w0 w w' : World} {B b bx : Nat} {box : Array Value} {L : List (Option Addr × List Int)} {st : St} (h : Dq w0 w B b bx box L st) (hb : Below w.heap.size w w') : Dq w0 w' B b bx box L st:=by
 have h1:=(Array.getElem?_eq_some_iff.1 h.bxc).1
 exact ⟨h.below.trans (hb.mono (by have:=h.le;omega)),h.rq.keep (hb.block b h.rq.lt),(hb.block bx h1).trans h.bxc,h.le,fun t ht=>⟨(h.lists t ht).1.keep hb,(h.lists t ht).2⟩⟩
theorem Dq.put {w0 w : World} {B b bx : Nat} {box : Array Value} {L : List (Option Addr × List Int)} {st : St} (h : Dq w0 w B b bx box L st) (i : Nat) (v : Value) : Dq w0 (w.setCell ⟨bx,i,none⟩ v) B b bx (box.setIfInBounds i v) L st:=by
 have ho : ∀ j,j ≠ bx → (w.setCell ⟨bx,i,none⟩ v).heap[j]? = w.heap[j]?:=fun j hj=>heap_setCell_other _ _ _ _ (by exact hj)
 refine ⟨h.below.setCell (p:=⟨bx,i,none⟩) (by show B ≤ bx;have:=h.le;omega) v,h.rq.keep (ho b (by have:=h.le.2;omega)),Lib.heap_setCell_same (i:=i) h.bxc v,h.le,fun t ht=>⟨ints_other (h.lists t ht).1 (.inr fun ad he=>by have:=(h.lists t ht).2 ad he;omega) (by simp) ho,(h.lists t ht).2⟩⟩
end Go.Proofs.YtnnakhdndmjmiaaGreat
/-
 The contracts of both Bests.
-/
set_option linter.unusedVariables false
set_option maxRecDepth 4000
set_option maxRecDepth 4000
namespace Go.Proofs.YtnnakhdndmjmiaaGreat
open Go.RowKit SuperP
open Wire (IntsAt)
structure BestMade (w : World) (y : Sup) (n er : Int) (e : Ending) (w' : World) : Prop where
 out : ∃ a1 c1 a2 c2,e = .returned (.tuple #[supV y (.slice a1 y.chk.length c1) (.slice a2 y.log.length c2),.int .i64 n,.int .i64 er]) ∧ SupAt w' y a1 y.chk.length a2 y.log.length ∧ (a1 = none → c1 = 0) ∧ (a2 = none → c2 = 0) ∧ (∀ ad,a1 = some ad → w.heap.size ≤ ad.block) ∧ ∀ ad,a2 = some ad → w.heap.size ≤ ad.block
 below : Below w.heap.size w w'
theorem results_three {fn : Func} (h : fn.results = #[.cell 4 69,.tmp 5,.tmp 6]) (tmps : Array Value) (w : World) (b : Nat) (x0 x1 x2 x3 x4 x5 : Value) (hp : tmps.getD 4 undef = .pointer (some ⟨b,0,none⟩))
  (c : w.cell? ⟨b,0,none⟩ = some x0 ∧ w.cell? ⟨b,1,none⟩ = some x1 ∧ w.cell? ⟨b,2,none⟩ = some x2 ∧ w.cell? ⟨b,3,none⟩ = some x3 ∧ w.cell? ⟨b,4,none⟩ = some x4 ∧ w.cell? ⟨b,5,none⟩ = some x5) :
  (results fn tmps).run Tryz.prog w = .ok (.tuple #[.agg #[x0,x1,x2,x3,x4,x5],tmps.getD 5 undef,tmps.getD 6 undef]) w:=by
 have hp' : tmps[4]?.getD undef = .pointer (some ⟨b,0,none⟩):=by rw [← hp];simp
 obtain ⟨c0,c1,c2,c3,c4,c5⟩:=c
 simp only [results,h]
 go_simp
theorem best_zero {w w1 : World} {n er : Int} (hb : Below w.heap.size w w1) : BestMade w zeroSup n er (.returned (.tuple #[.agg #[.int .i64 0,.int .i64 0,.int .i64 0,.int .i64 0,.slice none 0 0,.slice none 0 0],.int .i64 n,.int .i64 er])) (put6 w1 w.heap.size (.int .i64 0) (.int .i64 0) (.int .i64 0) (.int .i64 0) (.slice none 0 0) (.slice none 0 0)) :=
 ⟨⟨none,0,none,0,rfl,⟨⟨rfl,by simp [zeroSup],.inl rfl⟩,⟨rfl,by simp [zeroSup],.inl rfl⟩,Nat.zero_le _,Nat.zero_le _⟩,fun _=>rfl,fun _=>rfl,fun _ h=>(by cases h),fun _ h=>(by cases h)⟩,below_put6 hb (Nat.le_refl _) _ _ _ _ _ _⟩
theorem best_sup {w w2 : World} {y : Sup} {a1 a2 : Option Addr} {d1 c2 : Nat} {n er : Int} (hb : Below w.heap.size w w2) (h : SupAt w2 y a1 y.chk.length a2 y.log.length) (k1 : ∀ ad,a1 = some ad → w.heap.size < ad.block) (k2 : ∀ ad,a2 = some ad → w.heap.size < ad.block)
  (n1 : a1 = none → d1 = 0) (n2 : a2 = none → c2 = 0) : BestMade w y n er (.returned (.tuple #[.agg #[.int .i64 y.gen,.int .i64 y.base,.int .i64 y.size,.int .i64 y.cg,.slice a1 y.chk.length d1,.slice a2 y.log.length c2],.int .i64 n,.int .i64 er])) (put6 w2 w.heap.size (.int .i64 y.gen) (.int .i64 y.base) (.int .i64 y.size) (.int .i64 y.cg) (.slice a1 y.chk.length d1) (.slice a2 y.log.length c2)) :=
 ⟨⟨a1,d1,a2,c2,rfl,⟨ints_other h.chk (.inr fun ad he=>by have:=k1 ad he;omega) (size_put6 _ _ _ _ _ _ _ _) (fun j hj=>put6_other _ _ _ _ _ _ hj),ints_other h.log (.inr fun ad he=>by have:=k2 ad he;omega) (size_put6 _ _ _ _ _ _ _ _) (fun j hj=>put6_other _ _ _ _ _ _ hj),h.big1,h.big2⟩,n1,n2,fun ad he=>Nat.le_of_lt (k1 ad he),fun ad he=>Nat.le_of_lt (k2 ad he)⟩,
  below_put6 hb (Nat.le_refl _) _ _ _ _ _ _⟩
def bestY (a b : List UInt8) : Sup:=((best a b).map (·.1)).getD zeroSup
def bestN (a b : List UInt8) : Int:=if ((best a b).map (·.2)).getD false then 1 else 0
def bestE (a b : List UInt8) : Int:=if (best a b).isSome then 0 else 12
theorem best_is {a b : List UInt8} {r : Option (Sup × Bool)} (h : best a b = r) : bestY a b = (r.map (·.1)).getD zeroSup ∧ bestN a b = (if (r.map (·.2)).getD false then 1 else 0) ∧ bestE a b = (if r.isSome then 0 else 12):=by
 unfold bestY bestN bestE
 rw [h]
 exact ⟨rfl,rfl,rfl⟩
set_option maxHeartbeats 4000000 in
theorem sbest_none (a b : ByteArray) (x y : Sup) (w : World) (HA : Hid (∀ w,Calls Tryz.prog 135 #[.string a] w (SupMade w x (.int .i64 12)))) (HB : Hid (∀ w,Calls Tryz.prog 135 #[.string b] w (SupMade w y (.int .i64 12)))) :
  Calls Tryz.prog 98 #[.string a,.string b] w (BestMade w zeroSup 0 12):=by
 obtain ⟨Z,hZ⟩ : ∃ Z,zeroSup = Z:=⟨_,rfl⟩
 rw [hZ]
 have HZZ:=Lib.hid hZ
 clear hZ
 go_enter Tryz.func98,Tryz.ntmps98
 go_wp2_with fail
 refine (HA.out _).mono ?_
 rintro e w1 ⟨⟨a1,d1,a2,d2,rfl,hx,m1,m2,u1,u2⟩,hb1⟩
 simp only [supV]
 rw [World.size_alloc] at u1 u2 hb1
 have hB1:=((Below.refl _ w).alloc (Nat.le_refl _) zsup).trans (hb1.mono (Nat.le_succ _))
 have hs1:=hb1.size
 rw [World.size_alloc] at hs1
 have hz1:=(hb1.block w.heap.size (Nat.lt_succ_self _)).trans (heap_alloc_new w zsup)
 have hz2:=(Below.heap_alloc w1 (.cells #[.int .i64 x.gen,.int .i64 x.base,.int .i64 x.size,.int .i64 x.cg,.slice a1 x.chk.length d1,.slice a2 x.log.length d2] 69) _ (by omega)).trans hz1
 have hx2:=heap_alloc_new w1 (.cells #[.int .i64 x.gen,.int .i64 x.base,.int .i64 x.size,.int .i64 x.cg,.slice a1 x.chk.length d1,.slice a2 x.log.length d2] 69)
 have hB2:=hB1.alloc hB1.size (.cells #[.int .i64 x.gen,.int .i64 x.base,.int .i64 x.size,.int .i64 x.cg,.slice a1 x.chk.length d1,.slice a2 x.log.length d2] 69)
 have hxs2:=hx.keep ((Below.refl _ w1).alloc (Nat.le_refl _) (.cells #[.int .i64 x.gen,.int .i64 x.base,.int .i64 x.size,.int .i64 x.cg,.slice a1 x.chk.length d1,.slice a2 x.log.length d2] 69))
 have hw2 : (w1.alloc (.cells #[.int .i64 x.gen,.int .i64 x.base,.int .i64 x.size,.int .i64 x.cg,.slice a1 x.chk.length d1,.slice a2 x.log.length d2] 69)).heap.size = w1.heap.size + 1:=by simp
 have HZ2:=Lib.hid hz2;have HX2:=Lib.hid hx2;have HB2:=Lib.hid hB2;have HXS2:=Lib.hid hxs2;have HW2:=Lib.hid hw2;have HS1:=Lib.hid hs1
 have U1:=Lib.hid u1;have U2:=Lib.hid u2;have M1:=Lib.hid m1;have M2:=Lib.hid m2
 clear hb1 hB1 hs1 hz1 hz2 hx2 hB2 hxs2 hx u1 u2 m1 m2 hw2
 go_wp2_with fail
 refine (HB.out _).mono ?_
 rintro e w3 ⟨⟨b1,f1,b2,f2,rfl,hy,l1,l2,v1,v2⟩,hb3⟩
 simp only [supV]
 rw [HW2.out] at v1 v2
 have hh:=HS1.out
 have hw2:=HW2.out
 have hz3:=(hb3.block w.heap.size (by omega)).trans HZ2.out
 have hx3:=(hb3.block w1.heap.size (by omega)).trans HX2.out
 have hB3:=HB2.out.trans (hb3.mono (by omega))
 have hxs3:=HXS2.out.keep hb3
 have hs3:=hb3.size
 have hz4:=(Below.heap_alloc w3 (.cells #[.int .i64 y.gen,.int .i64 y.base,.int .i64 y.size,.int .i64 y.cg,.slice b1 y.chk.length f1,.slice b2 y.log.length f2] 69) _ (by omega)).trans hz3
 have hx4:=(Below.heap_alloc w3 (.cells #[.int .i64 y.gen,.int .i64 y.base,.int .i64 y.size,.int .i64 y.cg,.slice b1 y.chk.length f1,.slice b2 y.log.length f2] 69) _ (by omega)).trans hx3
 have hy4:=heap_alloc_new w3 (.cells #[.int .i64 y.gen,.int .i64 y.base,.int .i64 y.size,.int .i64 y.cg,.slice b1 y.chk.length f1,.slice b2 y.log.length f2] 69)
 have hB4:=hB3.alloc hB3.size (.cells #[.int .i64 y.gen,.int .i64 y.base,.int .i64 y.size,.int .i64 y.cg,.slice b1 y.chk.length f1,.slice b2 y.log.length f2] 69)
 have hxs4:=hxs3.keep ((Below.refl _ w3).alloc (Nat.le_refl _) (.cells #[.int .i64 y.gen,.int .i64 y.base,.int .i64 y.size,.int .i64 y.cg,.slice b1 y.chk.length f1,.slice b2 y.log.length f2] 69))
 have hys4:=hy.keep ((Below.refl _ w3).alloc (Nat.le_refl _) (.cells #[.int .i64 y.gen,.int .i64 y.base,.int .i64 y.size,.int .i64 y.cg,.slice b1 y.chk.length f1,.slice b2 y.log.length f2] 69))
 have g1 : ∀ ad,a1 = some ad → w.heap.size < ad.block:=fun ad he=>by have:=U1.out ad he;omega
 have g2 : ∀ ad,a2 = some ad → w.heap.size < ad.block:=fun ad he=>by have:=U2.out ad he;omega
 have g3 : ∀ ad,b1 = some ad → w.heap.size < ad.block:=fun ad he=>by have:=v1 ad he;omega
 have g4 : ∀ ad,b2 = some ad → w.heap.size < ad.block:=fun ad he=>by have:=v2 ad he;omega
 obtain ⟨⟨q0,q1,q2,q3,q4,q5⟩,r0,r1,r2,r3,r4,r5⟩:=zero_cells6 hz4
 obtain ⟨p0,p1,p2,p3,p4,p5⟩:=six_cells hx4
 obtain ⟨s0,s1,s2,s3,s4,s5⟩:=six_cells hy4
 have hf:=best_zero (n:=0) (er:=12) hB4
 rw [HZZ.out] at hf
 have HRS:=Lib.hid (six_cells (heap_put6 hz4 (.int .i64 0) (.int .i64 0) (.int .i64 0) (.int .i64 0) (.slice none 0 0) (.slice none 0 0)))
 have HF:=Lib.hid hf
 clear hf hz3 hx3 hB3 hxs3 hs3 hz4 hx4 hy4 hB4 hxs4 hys4 g1 g2 g3 g4 hy l1 l2 v1 v2 hb3 hh hw2 HZ2 HX2 HB2 HXS2 HW2 HS1 U1 U2 M1 M2 HA HB
 go_wp2_with fail
 refine bodyPost_ret (results_three rfl _ _ w.heap.size _ _ _ _ _ _ rfl HRS.out) rfl ?_
 exact HF.out
set_option maxHeartbeats 4000000 in
theorem sbest_left (a b : ByteArray) (x y : Sup) (w : World) (HA : Hid (∀ w,Calls Tryz.prog 135 #[.string a] w (SupMade w x (.int .i64 0)))) (HB : Hid (∀ w,Calls Tryz.prog 135 #[.string b] w (SupMade w y (.int .i64 12)))) :
  Calls Tryz.prog 98 #[.string a,.string b] w (BestMade w x 0 0):=by
 go_enter Tryz.func98,Tryz.ntmps98
 go_wp2_with fail
 refine (HA.out _).mono ?_
 rintro e w1 ⟨⟨a1,d1,a2,d2,rfl,hx,m1,m2,u1,u2⟩,hb1⟩
 simp only [supV]
 rw [World.size_alloc] at u1 u2 hb1
 have hB1:=((Below.refl _ w).alloc (Nat.le_refl _) zsup).trans (hb1.mono (Nat.le_succ _))
 have hs1:=hb1.size
 rw [World.size_alloc] at hs1
 have hz1:=(hb1.block w.heap.size (Nat.lt_succ_self _)).trans (heap_alloc_new w zsup)
 have hz2:=(Below.heap_alloc w1 (.cells #[.int .i64 x.gen,.int .i64 x.base,.int .i64 x.size,.int .i64 x.cg,.slice a1 x.chk.length d1,.slice a2 x.log.length d2] 69) _ (by omega)).trans hz1
 have hx2:=heap_alloc_new w1 (.cells #[.int .i64 x.gen,.int .i64 x.base,.int .i64 x.size,.int .i64 x.cg,.slice a1 x.chk.length d1,.slice a2 x.log.length d2] 69)
 have hB2:=hB1.alloc hB1.size (.cells #[.int .i64 x.gen,.int .i64 x.base,.int .i64 x.size,.int .i64 x.cg,.slice a1 x.chk.length d1,.slice a2 x.log.length d2] 69)
 have hxs2:=hx.keep ((Below.refl _ w1).alloc (Nat.le_refl _) (.cells #[.int .i64 x.gen,.int .i64 x.base,.int .i64 x.size,.int .i64 x.cg,.slice a1 x.chk.length d1,.slice a2 x.log.length d2] 69))
 have hw2 : (w1.alloc (.cells #[.int .i64 x.gen,.int .i64 x.base,.int .i64 x.size,.int .i64 x.cg,.slice a1 x.chk.length d1,.slice a2 x.log.length d2] 69)).heap.size = w1.heap.size + 1:=by simp
 have HZ2:=Lib.hid hz2;have HX2:=Lib.hid hx2;have HB2:=Lib.hid hB2;have HXS2:=Lib.hid hxs2;have HW2:=Lib.hid hw2;have HS1:=Lib.hid hs1
 have U1:=Lib.hid u1;have U2:=Lib.hid u2;have M1:=Lib.hid m1;have M2:=Lib.hid m2
 clear hb1 hB1 hs1 hz1 hz2 hx2 hB2 hxs2 hx u1 u2 m1 m2 hw2
 go_wp2_with fail
 refine (HB.out _).mono ?_
 rintro e w3 ⟨⟨b1,f1,b2,f2,rfl,hy,l1,l2,v1,v2⟩,hb3⟩
 simp only [supV]
 rw [HW2.out] at v1 v2
 have hh:=HS1.out
 have hw2:=HW2.out
 have hz3:=(hb3.block w.heap.size (by omega)).trans HZ2.out
 have hx3:=(hb3.block w1.heap.size (by omega)).trans HX2.out
 have hB3:=HB2.out.trans (hb3.mono (by omega))
 have hxs3:=HXS2.out.keep hb3
 have hs3:=hb3.size
 have hz4:=(Below.heap_alloc w3 (.cells #[.int .i64 y.gen,.int .i64 y.base,.int .i64 y.size,.int .i64 y.cg,.slice b1 y.chk.length f1,.slice b2 y.log.length f2] 69) _ (by omega)).trans hz3
 have hx4:=(Below.heap_alloc w3 (.cells #[.int .i64 y.gen,.int .i64 y.base,.int .i64 y.size,.int .i64 y.cg,.slice b1 y.chk.length f1,.slice b2 y.log.length f2] 69) _ (by omega)).trans hx3
 have hy4:=heap_alloc_new w3 (.cells #[.int .i64 y.gen,.int .i64 y.base,.int .i64 y.size,.int .i64 y.cg,.slice b1 y.chk.length f1,.slice b2 y.log.length f2] 69)
 have hB4:=hB3.alloc hB3.size (.cells #[.int .i64 y.gen,.int .i64 y.base,.int .i64 y.size,.int .i64 y.cg,.slice b1 y.chk.length f1,.slice b2 y.log.length f2] 69)
 have hxs4:=hxs3.keep ((Below.refl _ w3).alloc (Nat.le_refl _) (.cells #[.int .i64 y.gen,.int .i64 y.base,.int .i64 y.size,.int .i64 y.cg,.slice b1 y.chk.length f1,.slice b2 y.log.length f2] 69))
 have hys4:=hy.keep ((Below.refl _ w3).alloc (Nat.le_refl _) (.cells #[.int .i64 y.gen,.int .i64 y.base,.int .i64 y.size,.int .i64 y.cg,.slice b1 y.chk.length f1,.slice b2 y.log.length f2] 69))
 have g1 : ∀ ad,a1 = some ad → w.heap.size < ad.block:=fun ad he=>by have:=U1.out ad he;omega
 have g2 : ∀ ad,a2 = some ad → w.heap.size < ad.block:=fun ad he=>by have:=U2.out ad he;omega
 have g3 : ∀ ad,b1 = some ad → w.heap.size < ad.block:=fun ad he=>by have:=v1 ad he;omega
 have g4 : ∀ ad,b2 = some ad → w.heap.size < ad.block:=fun ad he=>by have:=v2 ad he;omega
 obtain ⟨⟨q0,q1,q2,q3,q4,q5⟩,r0,r1,r2,r3,r4,r5⟩:=zero_cells6 hz4
 obtain ⟨p0,p1,p2,p3,p4,p5⟩:=six_cells hx4
 obtain ⟨s0,s1,s2,s3,s4,s5⟩:=six_cells hy4
 have hf:=best_sup (n:=0) (er:=0) hB4 hxs4 g1 g2 M1.out M2.out
 have HRS:=Lib.hid (six_cells (heap_put6 hz4 (.int .i64 x.gen) (.int .i64 x.base) (.int .i64 x.size) (.int .i64 x.cg) (.slice a1 x.chk.length d1) (.slice a2 x.log.length d2)))
 have HF:=Lib.hid hf
 clear hf hz3 hx3 hB3 hxs3 hs3 hz4 hx4 hy4 hB4 hxs4 hys4 g1 g2 g3 g4 hy l1 l2 v1 v2 hb3 hh hw2 HZ2 HX2 HB2 HXS2 HW2 HS1 U1 U2 M1 M2 HA HB
 go_wp2_with fail
 refine bodyPost_ret (results_three rfl _ _ w.heap.size _ _ _ _ _ _ rfl HRS.out) rfl ?_
 exact HF.out
set_option maxHeartbeats 4000000 in
theorem sbest_right (a b : ByteArray) (x y : Sup) (w : World) (HA : Hid (∀ w,Calls Tryz.prog 135 #[.string a] w (SupMade w x (.int .i64 12)))) (HB : Hid (∀ w,Calls Tryz.prog 135 #[.string b] w (SupMade w y (.int .i64 0)))) :
  Calls Tryz.prog 98 #[.string a,.string b] w (BestMade w y 1 0):=by
 go_enter Tryz.func98,Tryz.ntmps98
 go_wp2_with fail
 refine (HA.out _).mono ?_
 rintro e w1 ⟨⟨a1,d1,a2,d2,rfl,hx,m1,m2,u1,u2⟩,hb1⟩
 simp only [supV]
 rw [World.size_alloc] at u1 u2 hb1
 have hB1:=((Below.refl _ w).alloc (Nat.le_refl _) zsup).trans (hb1.mono (Nat.le_succ _))
 have hs1:=hb1.size
 rw [World.size_alloc] at hs1
 have hz1:=(hb1.block w.heap.size (Nat.lt_succ_self _)).trans (heap_alloc_new w zsup)
 have hz2:=(Below.heap_alloc w1 (.cells #[.int .i64 x.gen,.int .i64 x.base,.int .i64 x.size,.int .i64 x.cg,.slice a1 x.chk.length d1,.slice a2 x.log.length d2] 69) _ (by omega)).trans hz1
 have hx2:=heap_alloc_new w1 (.cells #[.int .i64 x.gen,.int .i64 x.base,.int .i64 x.size,.int .i64 x.cg,.slice a1 x.chk.length d1,.slice a2 x.log.length d2] 69)
 have hB2:=hB1.alloc hB1.size (.cells #[.int .i64 x.gen,.int .i64 x.base,.int .i64 x.size,.int .i64 x.cg,.slice a1 x.chk.length d1,.slice a2 x.log.length d2] 69)
 have hxs2:=hx.keep ((Below.refl _ w1).alloc (Nat.le_refl _) (.cells #[.int .i64 x.gen,.int .i64 x.base,.int .i64 x.size,.int .i64 x.cg,.slice a1 x.chk.length d1,.slice a2 x.log.length d2] 69))
 have hw2 : (w1.alloc (.cells #[.int .i64 x.gen,.int .i64 x.base,.int .i64 x.size,.int .i64 x.cg,.slice a1 x.chk.length d1,.slice a2 x.log.length d2] 69)).heap.size = w1.heap.size + 1:=by simp
 have HZ2:=Lib.hid hz2;have HX2:=Lib.hid hx2;have HB2:=Lib.hid hB2;have HXS2:=Lib.hid hxs2;have HW2:=Lib.hid hw2;have HS1:=Lib.hid hs1
 have U1:=Lib.hid u1;have U2:=Lib.hid u2;have M1:=Lib.hid m1;have M2:=Lib.hid m2
 clear hb1 hB1 hs1 hz1 hz2 hx2 hB2 hxs2 hx u1 u2 m1 m2 hw2
 go_wp2_with fail
 refine (HB.out _).mono ?_
 rintro e w3 ⟨⟨b1,f1,b2,f2,rfl,hy,l1,l2,v1,v2⟩,hb3⟩
 simp only [supV]
 rw [HW2.out] at v1 v2
 have hh:=HS1.out
 have hw2:=HW2.out
 have hz3:=(hb3.block w.heap.size (by omega)).trans HZ2.out
 have hx3:=(hb3.block w1.heap.size (by omega)).trans HX2.out
 have hB3:=HB2.out.trans (hb3.mono (by omega))
 have hxs3:=HXS2.out.keep hb3
 have hs3:=hb3.size
 have hz4:=(Below.heap_alloc w3 (.cells #[.int .i64 y.gen,.int .i64 y.base,.int .i64 y.size,.int .i64 y.cg,.slice b1 y.chk.length f1,.slice b2 y.log.length f2] 69) _ (by omega)).trans hz3
 have hx4:=(Below.heap_alloc w3 (.cells #[.int .i64 y.gen,.int .i64 y.base,.int .i64 y.size,.int .i64 y.cg,.slice b1 y.chk.length f1,.slice b2 y.log.length f2] 69) _ (by omega)).trans hx3
 have hy4:=heap_alloc_new w3 (.cells #[.int .i64 y.gen,.int .i64 y.base,.int .i64 y.size,.int .i64 y.cg,.slice b1 y.chk.length f1,.slice b2 y.log.length f2] 69)
 have hB4:=hB3.alloc hB3.size (.cells #[.int .i64 y.gen,.int .i64 y.base,.int .i64 y.size,.int .i64 y.cg,.slice b1 y.chk.length f1,.slice b2 y.log.length f2] 69)
 have hxs4:=hxs3.keep ((Below.refl _ w3).alloc (Nat.le_refl _) (.cells #[.int .i64 y.gen,.int .i64 y.base,.int .i64 y.size,.int .i64 y.cg,.slice b1 y.chk.length f1,.slice b2 y.log.length f2] 69))
 have hys4:=hy.keep ((Below.refl _ w3).alloc (Nat.le_refl _) (.cells #[.int .i64 y.gen,.int .i64 y.base,.int .i64 y.size,.int .i64 y.cg,.slice b1 y.chk.length f1,.slice b2 y.log.length f2] 69))
 have g1 : ∀ ad,a1 = some ad → w.heap.size < ad.block:=fun ad he=>by have:=U1.out ad he;omega
 have g2 : ∀ ad,a2 = some ad → w.heap.size < ad.block:=fun ad he=>by have:=U2.out ad he;omega
 have g3 : ∀ ad,b1 = some ad → w.heap.size < ad.block:=fun ad he=>by have:=v1 ad he;omega
 have g4 : ∀ ad,b2 = some ad → w.heap.size < ad.block:=fun ad he=>by have:=v2 ad he;omega
 obtain ⟨⟨q0,q1,q2,q3,q4,q5⟩,r0,r1,r2,r3,r4,r5⟩:=zero_cells6 hz4
 obtain ⟨p0,p1,p2,p3,p4,p5⟩:=six_cells hx4
 obtain ⟨s0,s1,s2,s3,s4,s5⟩:=six_cells hy4
 have hf:=best_sup (n:=1) (er:=0) hB4 hys4 g3 g4 l1 l2
 have HRS:=Lib.hid (six_cells (heap_put6 hz4 (.int .i64 y.gen) (.int .i64 y.base) (.int .i64 y.size) (.int .i64 y.cg) (.slice b1 y.chk.length f1) (.slice b2 y.log.length f2)))
 have HF:=Lib.hid hf
 clear hf hz3 hx3 hB3 hxs3 hs3 hz4 hx4 hy4 hB4 hxs4 hys4 g1 g2 g3 g4 hy l1 l2 v1 v2 hb3 hh hw2 HZ2 HX2 HB2 HXS2 HW2 HS1 U1 U2 M1 M2 HA HB
 go_wp2_with fail
 refine bodyPost_ret (results_three rfl _ _ w.heap.size _ _ _ _ _ _ rfl HRS.out) rfl ?_
 exact HF.out
set_option maxHeartbeats 4000000 in
theorem sbest_lt (a b : ByteArray) (x y : Sup) (w : World) (hg : x.gen < y.gen) (HA : Hid (∀ w,Calls Tryz.prog 135 #[.string a] w (SupMade w x (.int .i64 0)))) (HB : Hid (∀ w,Calls Tryz.prog 135 #[.string b] w (SupMade w y (.int .i64 0)))) :
  Calls Tryz.prog 98 #[.string a,.string b] w (BestMade w y 1 0):=by
 have tg : decide (x.gen < y.gen) = true:=decide_eq_true hg
 go_enter Tryz.func98,Tryz.ntmps98
 go_wp2_with fail
 refine (HA.out _).mono ?_
 rintro e w1 ⟨⟨a1,d1,a2,d2,rfl,hx,m1,m2,u1,u2⟩,hb1⟩
 simp only [supV]
 rw [World.size_alloc] at u1 u2 hb1
 have hB1:=((Below.refl _ w).alloc (Nat.le_refl _) zsup).trans (hb1.mono (Nat.le_succ _))
 have hs1:=hb1.size
 rw [World.size_alloc] at hs1
 have hz1:=(hb1.block w.heap.size (Nat.lt_succ_self _)).trans (heap_alloc_new w zsup)
 have hz2:=(Below.heap_alloc w1 (.cells #[.int .i64 x.gen,.int .i64 x.base,.int .i64 x.size,.int .i64 x.cg,.slice a1 x.chk.length d1,.slice a2 x.log.length d2] 69) _ (by omega)).trans hz1
 have hx2:=heap_alloc_new w1 (.cells #[.int .i64 x.gen,.int .i64 x.base,.int .i64 x.size,.int .i64 x.cg,.slice a1 x.chk.length d1,.slice a2 x.log.length d2] 69)
 have hB2:=hB1.alloc hB1.size (.cells #[.int .i64 x.gen,.int .i64 x.base,.int .i64 x.size,.int .i64 x.cg,.slice a1 x.chk.length d1,.slice a2 x.log.length d2] 69)
 have hxs2:=hx.keep ((Below.refl _ w1).alloc (Nat.le_refl _) (.cells #[.int .i64 x.gen,.int .i64 x.base,.int .i64 x.size,.int .i64 x.cg,.slice a1 x.chk.length d1,.slice a2 x.log.length d2] 69))
 have hw2 : (w1.alloc (.cells #[.int .i64 x.gen,.int .i64 x.base,.int .i64 x.size,.int .i64 x.cg,.slice a1 x.chk.length d1,.slice a2 x.log.length d2] 69)).heap.size = w1.heap.size + 1:=by simp
 have HZ2:=Lib.hid hz2;have HX2:=Lib.hid hx2;have HB2:=Lib.hid hB2;have HXS2:=Lib.hid hxs2;have HW2:=Lib.hid hw2;have HS1:=Lib.hid hs1
 have U1:=Lib.hid u1;have U2:=Lib.hid u2;have M1:=Lib.hid m1;have M2:=Lib.hid m2
 clear hb1 hB1 hs1 hz1 hz2 hx2 hB2 hxs2 hx u1 u2 m1 m2 hw2
 go_wp2_with fail
 refine (HB.out _).mono ?_
 rintro e w3 ⟨⟨b1,f1,b2,f2,rfl,hy,l1,l2,v1,v2⟩,hb3⟩
 simp only [supV]
 rw [HW2.out] at v1 v2
 have hh:=HS1.out
 have hw2:=HW2.out
 have hz3:=(hb3.block w.heap.size (by omega)).trans HZ2.out
 have hx3:=(hb3.block w1.heap.size (by omega)).trans HX2.out
 have hB3:=HB2.out.trans (hb3.mono (by omega))
 have hxs3:=HXS2.out.keep hb3
 have hs3:=hb3.size
 have hz4:=(Below.heap_alloc w3 (.cells #[.int .i64 y.gen,.int .i64 y.base,.int .i64 y.size,.int .i64 y.cg,.slice b1 y.chk.length f1,.slice b2 y.log.length f2] 69) _ (by omega)).trans hz3
 have hx4:=(Below.heap_alloc w3 (.cells #[.int .i64 y.gen,.int .i64 y.base,.int .i64 y.size,.int .i64 y.cg,.slice b1 y.chk.length f1,.slice b2 y.log.length f2] 69) _ (by omega)).trans hx3
 have hy4:=heap_alloc_new w3 (.cells #[.int .i64 y.gen,.int .i64 y.base,.int .i64 y.size,.int .i64 y.cg,.slice b1 y.chk.length f1,.slice b2 y.log.length f2] 69)
 have hB4:=hB3.alloc hB3.size (.cells #[.int .i64 y.gen,.int .i64 y.base,.int .i64 y.size,.int .i64 y.cg,.slice b1 y.chk.length f1,.slice b2 y.log.length f2] 69)
 have hxs4:=hxs3.keep ((Below.refl _ w3).alloc (Nat.le_refl _) (.cells #[.int .i64 y.gen,.int .i64 y.base,.int .i64 y.size,.int .i64 y.cg,.slice b1 y.chk.length f1,.slice b2 y.log.length f2] 69))
 have hys4:=hy.keep ((Below.refl _ w3).alloc (Nat.le_refl _) (.cells #[.int .i64 y.gen,.int .i64 y.base,.int .i64 y.size,.int .i64 y.cg,.slice b1 y.chk.length f1,.slice b2 y.log.length f2] 69))
 have g1 : ∀ ad,a1 = some ad → w.heap.size < ad.block:=fun ad he=>by have:=U1.out ad he;omega
 have g2 : ∀ ad,a2 = some ad → w.heap.size < ad.block:=fun ad he=>by have:=U2.out ad he;omega
 have g3 : ∀ ad,b1 = some ad → w.heap.size < ad.block:=fun ad he=>by have:=v1 ad he;omega
 have g4 : ∀ ad,b2 = some ad → w.heap.size < ad.block:=fun ad he=>by have:=v2 ad he;omega
 obtain ⟨⟨q0,q1,q2,q3,q4,q5⟩,r0,r1,r2,r3,r4,r5⟩:=zero_cells6 hz4
 obtain ⟨p0,p1,p2,p3,p4,p5⟩:=six_cells hx4
 obtain ⟨s0,s1,s2,s3,s4,s5⟩:=six_cells hy4
 have hf:=best_sup (n:=1) (er:=0) hB4 hys4 g3 g4 l1 l2
 have HRS:=Lib.hid (six_cells (heap_put6 hz4 (.int .i64 y.gen) (.int .i64 y.base) (.int .i64 y.size) (.int .i64 y.cg) (.slice b1 y.chk.length f1) (.slice b2 y.log.length f2)))
 have HF:=Lib.hid hf
 clear hf hz3 hx3 hB3 hxs3 hs3 hz4 hx4 hy4 hB4 hxs4 hys4 g1 g2 g3 g4 hy l1 l2 v1 v2 hb3 hh hw2 HZ2 HX2 HB2 HXS2 HW2 HS1 U1 U2 M1 M2 HA HB
 go_wp2_with fail
 refine bodyPost_ret (results_three rfl _ _ w.heap.size _ _ _ _ _ _ rfl HRS.out) rfl ?_
 exact HF.out
set_option maxHeartbeats 4000000 in
theorem sbest_ge (a b : ByteArray) (x y : Sup) (w : World) (hg : ¬ x.gen < y.gen) (HA : Hid (∀ w,Calls Tryz.prog 135 #[.string a] w (SupMade w x (.int .i64 0)))) (HB : Hid (∀ w,Calls Tryz.prog 135 #[.string b] w (SupMade w y (.int .i64 0)))) :
  Calls Tryz.prog 98 #[.string a,.string b] w (BestMade w x 0 0):=by
 have tg : decide (x.gen < y.gen) = false:=decide_eq_false hg
 go_enter Tryz.func98,Tryz.ntmps98
 go_wp2_with fail
 refine (HA.out _).mono ?_
 rintro e w1 ⟨⟨a1,d1,a2,d2,rfl,hx,m1,m2,u1,u2⟩,hb1⟩
 simp only [supV]
 rw [World.size_alloc] at u1 u2 hb1
 have hB1:=((Below.refl _ w).alloc (Nat.le_refl _) zsup).trans (hb1.mono (Nat.le_succ _))
 have hs1:=hb1.size
 rw [World.size_alloc] at hs1
 have hz1:=(hb1.block w.heap.size (Nat.lt_succ_self _)).trans (heap_alloc_new w zsup)
 have hz2:=(Below.heap_alloc w1 (.cells #[.int .i64 x.gen,.int .i64 x.base,.int .i64 x.size,.int .i64 x.cg,.slice a1 x.chk.length d1,.slice a2 x.log.length d2] 69) _ (by omega)).trans hz1
 have hx2:=heap_alloc_new w1 (.cells #[.int .i64 x.gen,.int .i64 x.base,.int .i64 x.size,.int .i64 x.cg,.slice a1 x.chk.length d1,.slice a2 x.log.length d2] 69)
 have hB2:=hB1.alloc hB1.size (.cells #[.int .i64 x.gen,.int .i64 x.base,.int .i64 x.size,.int .i64 x.cg,.slice a1 x.chk.length d1,.slice a2 x.log.length d2] 69)
 have hxs2:=hx.keep ((Below.refl _ w1).alloc (Nat.le_refl _) (.cells #[.int .i64 x.gen,.int .i64 x.base,.int .i64 x.size,.int .i64 x.cg,.slice a1 x.chk.length d1,.slice a2 x.log.length d2] 69))
 have hw2 : (w1.alloc (.cells #[.int .i64 x.gen,.int .i64 x.base,.int .i64 x.size,.int .i64 x.cg,.slice a1 x.chk.length d1,.slice a2 x.log.length d2] 69)).heap.size = w1.heap.size + 1:=by simp
 have HZ2:=Lib.hid hz2;have HX2:=Lib.hid hx2;have HB2:=Lib.hid hB2;have HXS2:=Lib.hid hxs2;have HW2:=Lib.hid hw2;have HS1:=Lib.hid hs1
 have U1:=Lib.hid u1;have U2:=Lib.hid u2;have M1:=Lib.hid m1;have M2:=Lib.hid m2
 clear hb1 hB1 hs1 hz1 hz2 hx2 hB2 hxs2 hx u1 u2 m1 m2 hw2
 go_wp2_with fail
 refine (HB.out _).mono ?_
 rintro e w3 ⟨⟨b1,f1,b2,f2,rfl,hy,l1,l2,v1,v2⟩,hb3⟩
 simp only [supV]
 rw [HW2.out] at v1 v2
 have hh:=HS1.out
 have hw2:=HW2.out
 have hz3:=(hb3.block w.heap.size (by omega)).trans HZ2.out
 have hx3:=(hb3.block w1.heap.size (by omega)).trans HX2.out
 have hB3:=HB2.out.trans (hb3.mono (by omega))
 have hxs3:=HXS2.out.keep hb3
 have hs3:=hb3.size
 have hz4:=(Below.heap_alloc w3 (.cells #[.int .i64 y.gen,.int .i64 y.base,.int .i64 y.size,.int .i64 y.cg,.slice b1 y.chk.length f1,.slice b2 y.log.length f2] 69) _ (by omega)).trans hz3
 have hx4:=(Below.heap_alloc w3 (.cells #[.int .i64 y.gen,.int .i64 y.base,.int .i64 y.size,.int .i64 y.cg,.slice b1 y.chk.length f1,.slice b2 y.log.length f2] 69) _ (by omega)).trans hx3
 have hy4:=heap_alloc_new w3 (.cells #[.int .i64 y.gen,.int .i64 y.base,.int .i64 y.size,.int .i64 y.cg,.slice b1 y.chk.length f1,.slice b2 y.log.length f2] 69)
 have hB4:=hB3.alloc hB3.size (.cells #[.int .i64 y.gen,.int .i64 y.base,.int .i64 y.size,.int .i64 y.cg,.slice b1 y.chk.length f1,.slice b2 y.log.length f2] 69)
 have hxs4:=hxs3.keep ((Below.refl _ w3).alloc (Nat.le_refl _) (.cells #[.int .i64 y.gen,.int .i64 y.base,.int .i64 y.size,.int .i64 y.cg,.slice b1 y.chk.length f1,.slice b2 y.log.length f2] 69))
 have hys4:=hy.keep ((Below.refl _ w3).alloc (Nat.le_refl _) (.cells #[.int .i64 y.gen,.int .i64 y.base,.int .i64 y.size,.int .i64 y.cg,.slice b1 y.chk.length f1,.slice b2 y.log.length f2] 69))
 have g1 : ∀ ad,a1 = some ad → w.heap.size < ad.block:=fun ad he=>by have:=U1.out ad he;omega
 have g2 : ∀ ad,a2 = some ad → w.heap.size < ad.block:=fun ad he=>by have:=U2.out ad he;omega
 have g3 : ∀ ad,b1 = some ad → w.heap.size < ad.block:=fun ad he=>by have:=v1 ad he;omega
 have g4 : ∀ ad,b2 = some ad → w.heap.size < ad.block:=fun ad he=>by have:=v2 ad he;omega
 obtain ⟨⟨q0,q1,q2,q3,q4,q5⟩,r0,r1,r2,r3,r4,r5⟩:=zero_cells6 hz4
 obtain ⟨p0,p1,p2,p3,p4,p5⟩:=six_cells hx4
 obtain ⟨s0,s1,s2,s3,s4,s5⟩:=six_cells hy4
 have hf:=best_sup (n:=0) (er:=0) hB4 hxs4 g1 g2 M1.out M2.out
 have HRS:=Lib.hid (six_cells (heap_put6 hz4 (.int .i64 x.gen) (.int .i64 x.base) (.int .i64 x.size) (.int .i64 x.cg) (.slice a1 x.chk.length d1) (.slice a2 x.log.length d2)))
 have HF:=Lib.hid hf
 clear hf hz3 hx3 hB3 hxs3 hs3 hz4 hx4 hy4 hB4 hxs4 hys4 g1 g2 g3 g4 hy l1 l2 v1 v2 hb3 hh hw2 HZ2 HX2 HB2 HXS2 HW2 HS1 U1 U2 M1 M2 HA HB
 go_wp2_with fail
 refine bodyPost_ret (results_three rfl _ _ w.heap.size _ _ _ _ _ _ rfl HRS.out) rfl ?_
 exact HF.out
theorem sbest_any (a b : ByteArray) (w : World) (ha : a.size ≤ 1000000) (hb : b.size ≤ 1000000) :
  Calls Tryz.prog 98 #[.string a,.string b] w (BestMade w (bestY a.data.toList b.data.toList) (bestN a.data.toList b.data.toList) (bestE a.data.toList b.data.toList)):=by
 have hA:=fun w=>decode_any a w ha
 have hB:=fun w=>decode_any b w hb
 rcases h1 : dec a.data.toList with _ | x
 ·rw [(dec_no h1).1,(dec_no h1).2] at hA
  rcases h2 : dec b.data.toList with _ | y
  ·rw [(dec_no h2).1,(dec_no h2).2] at hB
   obtain ⟨e1,e2,e3⟩:=best_is (best_none h1 h2)
   rw [e1,e2,e3]
   exact sbest_none a b zeroSup zeroSup w (Lib.hid hA) (Lib.hid hB)
  ·rw [(dec_yes h2).1,(dec_yes h2).2] at hB
   obtain ⟨e1,e2,e3⟩:=best_is (best_right h1 h2)
   rw [e1,e2,e3]
   exact sbest_right a b zeroSup y w (Lib.hid hA) (Lib.hid hB)
 ·rw [(dec_yes h1).1,(dec_yes h1).2] at hA
  rcases h2 : dec b.data.toList with _ | y
  ·rw [(dec_no h2).1,(dec_no h2).2] at hB
   obtain ⟨e1,e2,e3⟩:=best_is (best_left h1 h2)
   rw [e1,e2,e3]
   exact sbest_left a b x zeroSup w (Lib.hid hA) (Lib.hid hB)
  ·rw [(dec_yes h2).1,(dec_yes h2).2] at hB
   have hbo:=best_both h1 h2
   by_cases hg : x.gen < y.gen
   ·rw [if_pos hg] at hbo
    obtain ⟨e1,e2,e3⟩:=best_is hbo
    rw [e1,e2,e3]
    exact sbest_lt a b x y w hg (Lib.hid hA) (Lib.hid hB)
   ·rw [if_neg hg] at hbo
    obtain ⟨e1,e2,e3⟩:=best_is hbo
    rw [e1,e2,e3]
    exact sbest_ge a b x y w hg (Lib.hid hA) (Lib.hid hB)
end Go.Proofs.YtnnakhdndmjmiaaGreat
