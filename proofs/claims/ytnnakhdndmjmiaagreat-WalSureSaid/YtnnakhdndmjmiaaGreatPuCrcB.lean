import Derived.Test.YtnnakhdndmjmiaaGreatPuCrcA
import Derived.Lib.BufferWrite
import Derived.Lib.LazyBuf
import Derived.Laws.BytesArg
set_option linter.unusedVariables false
set_option maxRecDepth 4000
namespace Go.Proofs.YtnnakhdndmjmiaaGreat
open Go.RowKit CrcP
theorem cell_of_heap {w : World} {b i : Nat} {cs : Array Value} {t : TypeId} {fr : Nat × Nat} (h : w.heap[b]? = some (.cells cs t fr)) : w.cell? ⟨b,i,none⟩ = cs[i]?:=by simp [World.cell?,h]
theorem frozen_of_heap {w : World} {b i : Nat} {cs : Array Value} {t : TypeId} (h : w.heap[b]? = some (.cells cs t (0,0))) : w.frozen? ⟨b,i,none⟩ = false:=by simp [World.frozen?,h]
theorem strOfNums_bytes (l : List UInt8) : strOfNums (l.map fun c=>(c.toNat : Int)) = ⟨l.toArray⟩:=by
 simp only [strOfNums,List.map_map]
 have h : List.map ((fun n : Int=>UInt8.ofNat n.toNat) ∘ fun c : UInt8=>(c.toNat : Int)) l = l:=by
  induction l with
  | nil=>rfl
  | cons c r ih=>rw [List.map_cons,ih];simp
 first
  | rw [h]
  | (simp [h])
theorem text_of_row {w : World} {b : Nat} {l : List UInt8} {t : TypeId} {fr : Nat × Nat} (h : w.heap[b]? = some (.cells (Lib.byteCells l).toArray t fr)) (n cap : Nat) (hn : l.length = n) :
  (convert 137 9 (.slice (some ⟨b,0,none⟩) n cap)).run Tryz.prog w = .ok (.string ⟨l.toArray⟩) w:=by
 have h2:=run_convert_bytes_arg (P:=Tryz.prog) w 137 5 Tryz.underlying137 Tryz.underlying5 b 0 n cap (l.map fun c=>(c.toNat : Int)) (by simp [hn]) (fun j hj=>by
  have hjl : j < l.length:=by omega
  rw [Nat.zero_add,cell_of_heap h]
  simp [Lib.byteCells,List.getD,hjl]) 9 Tryz.underlying9
 rw [strOfNums_bytes] at h2
 exact h2
def row (n j : Nat) : List UInt8:=List.replicate (4 - j) 0 ++ (oc n).drop (4 - j)
theorem row_set {w : World} {b k : Nat} {l l2 : List UInt8} {t : TypeId} {v : Value} (h : w.heap[b]? = some (.cells (Lib.byteCells l).toArray t (0,0))) (hs : (Lib.byteCells l).toArray.setIfInBounds k v = (Lib.byteCells l2).toArray) :
  Hid ((w.setCell ⟨b,k,none⟩ v).heap[b]? = some (.cells (Lib.byteCells l2).toArray t (0,0))):=by
 rw [← hs];exact Lib.heap_setCell_same (i:=k) h v
theorem row_step0 (n : Nat) : (Lib.byteCells (row n 0)).toArray.setIfInBounds 3 (.int .u8 ((n : Int) % 256)) = (Lib.byteCells (row n 1)).toArray:=by
 simp [row,oc,Lib.byteCells]
theorem row_step1 (n : Nat) : (Lib.byteCells (row n 1)).toArray.setIfInBounds 2 (.int .u8 ((n : Int) / 256 % 256)) = (Lib.byteCells (row n 2)).toArray:=by
 simp [row,oc,Lib.byteCells]
theorem row_step2 (n : Nat) : (Lib.byteCells (row n 2)).toArray.setIfInBounds 1 (.int .u8 ((n : Int) / 65536 % 256)) = (Lib.byteCells (row n 3)).toArray:=by
 simp [row,oc,Lib.byteCells]
theorem row_step3 (n : Nat) (hn : n < 4294967296) : (Lib.byteCells (row n 3)).toArray.setIfInBounds 0 (.int .u8 ((n : Int) / 16777216)) = (Lib.byteCells (row n 4)).toArray:=by
 have h : (n / 16777216) % 256 = n / 16777216:=by omega
 simp [row,oc,Lib.byteCells,h]
theorem octets_any (n : Nat) (w : World) (hn : n < 4294967296) : Calls Tryz.prog 146 #[.int .u32 (n : Int)] w fun e w'=>e = .returned (.string ⟨(oc n).toArray⟩) ∧ Below w.heap.size w w':=by
 go_enter Tryz.func146,Tryz.ntmps146
 go_wp2
 go_loopw [5] (fun i wr => ∃ j : Nat,j ≤ 4 ∧ i = .int .i64 (j : Int) ∧ Hid (wr.heap[w.heap.size]? = some (.cells (Lib.byteCells (row n j)).toArray 208 (0,0))) ∧ Below w.heap.size w wr) (fun i _=>4 - (intOf i).toNat)
 case atStart=>exact ⟨0,by omega,rfl,heap_alloc_new _ _,(Below.refl _ w).alloc (Nat.le_refl _) _⟩
 case round =>
  obtain ⟨j,hj,rfl,hh,hb⟩:=hrel
  by_cases hlt : j < 4
  ·obtain rfl | rfl | rfl | rfl : j = 0 ∨ j = 1 ∨ j = 2 ∨ j = 3:=by omega
   ·have hh2:=hh.out
    have hc : wr.cell? ⟨w.heap.size,3,none⟩ = some (.int .u8 0):=by rw [cell_of_heap hh2];rfl
    have hf : wr.frozen? ⟨w.heap.size,3,none⟩ = false:=frozen_of_heap hh2
    clear hh2
    go_wp2
    go_roundw
    case rel=>exact ⟨1,by omega,rfl,row_set hh.out (row_step0 n),hb.setCell (Nat.le_refl _) _⟩
    case measure=>simp [intOf]
   ·have hh2:=hh.out
    have hc : wr.cell? ⟨w.heap.size,2,none⟩ = some (.int .u8 0):=by rw [cell_of_heap hh2];rfl
    have hf : wr.frozen? ⟨w.heap.size,2,none⟩ = false:=frozen_of_heap hh2
    clear hh2
    go_wp2
    go_roundw
    case rel=>exact ⟨2,by omega,rfl,row_set hh.out (row_step1 n),hb.setCell (Nat.le_refl _) _⟩
    case measure=>simp [intOf]
   ·have hh2:=hh.out
    have hc : wr.cell? ⟨w.heap.size,1,none⟩ = some (.int .u8 0):=by rw [cell_of_heap hh2];rfl
    have hf : wr.frozen? ⟨w.heap.size,1,none⟩ = false:=frozen_of_heap hh2
    clear hh2
    go_wp2
    go_roundw
    case rel=>exact ⟨3,by omega,rfl,row_set hh.out (row_step2 n),hb.setCell (Nat.le_refl _) _⟩
    case measure=>simp [intOf]
   ·have hh2:=hh.out
    have hc : wr.cell? ⟨w.heap.size,0,none⟩ = some (.int .u8 0):=by rw [cell_of_heap hh2];rfl
    have hf : wr.frozen? ⟨w.heap.size,0,none⟩ = false:=frozen_of_heap hh2
    clear hh2
    go_wp2
    go_roundw
    case rel=>exact ⟨4,by omega,rfl,row_set hh.out (row_step3 n hn),hb.setCell (Nat.le_refl _) _⟩
    case measure=>simp [intOf]
  ·obtain rfl : j = 4:=by omega
   have ht:=text_of_row hh.out 4 4 rfl
   rw [show row n 4 = oc n from rfl] at ht
   go_wp2
   go_ret
   exact ⟨rfl,hb⟩
theorem ofNat_mod (x : Nat) : UInt8.ofNat (x % 256) = UInt8.ofNat x:=by
 apply UInt8.toNat_inj.1
 rw [UInt8.toNat_ofNat',UInt8.toNat_ofNat',Nat.mod_mod]
theorem four_bytes (w : World) (a b c d : Int) : (convert 137 9 (.slice (some ⟨w.heap.size,0,none⟩) 4 4)).run Tryz.prog (w.alloc (.cells #[.int .u8 a,.int .u8 b,.int .u8 c,.int .u8 d] 5)) = .ok (.string ⟨#[UInt8.ofNat a.toNat,UInt8.ofNat b.toNat,UInt8.ofNat c.toNat,UInt8.ofNat d.toNat]⟩) (w.alloc (.cells #[.int .u8 a,.int .u8 b,.int .u8 c,.int .u8 d] 5)):=by
 have h:=run_convert_bytes_arg (P:=Tryz.prog) (w.alloc (.cells #[.int .u8 a,.int .u8 b,.int .u8 c,.int .u8 d] 5)) 137 5 Tryz.underlying137 Tryz.underlying5 w.heap.size 0 4 4 [a,b,c,d] rfl (fun i hi=>by
  rw [Nat.zero_add,World.cell?_alloc_new]
  obtain rfl | rfl | rfl | rfl : i = 0 ∨ i = 1 ∨ i = 2 ∨ i = 3:=by omega
  all_goals rfl) 9 Tryz.underlying9
 exact h
theorem roctets_any (n : Nat) (w : World) (hn : n < 4294967296) : Calls Tryz.prog 121 #[.int .u32 (n : Int)] w fun e w'=>e = .returned (.string ⟨(oc n).toArray⟩) ∧ Below w.heap.size w w':=by
 have ha : ∀ x : Nat,x < 4294967296 → bits .and .u32 (x : Int) 255 = (x : Int) % 256:=fun x hx=>by
  have h:=u32_and_nat x 255 hx (by decide)
  rw [show (255 : Nat) = 2 ^ 8 - 1 from rfl,Nat.and_two_pow_sub_one_eq_mod] at h
  exact h
 have h1:=ha (n / 65536) (by omega)
 have h2:=ha (n / 256) (by omega)
 have h3:=ha n (by omega)
 have e1 : ((n / 65536 : Nat) : Int) = (n : Int) / 65536:=by omega
 have e2 : ((n / 256 : Nat) : Int) = (n : Int) / 256:=by omega
 rw [e1] at h1
 rw [e2] at h2
 have hq:=fun a b c d=>four_bytes w a b c d
 have e3 : (oc n).toArray = #[UInt8.ofNat (n / 16777216),UInt8.ofNat (n / 65536),UInt8.ofNat (n / 256),UInt8.ofNat n]:=rfl
 rw [e3]
 clear ha e1 e2 e3
 go_enter Tryz.func121,Tryz.ntmps121
 go_wp2
 go_ret
 refine ⟨?_,(Below.refl _ w).alloc (Nat.le_refl _) _⟩
 simp only [ofNat_mod]
 rfl
end Go.Proofs.YtnnakhdndmjmiaaGreat
