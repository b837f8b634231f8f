import Derived.Test.YtnnakhdndmjmiaaGreatPuWireC
import Derived.Test.YtnnakhdndmjmiaaGreatPuWireF
set_option linter.unusedVariables false
set_option maxRecDepth 4000
namespace Go.Proofs.YtnnakhdndmjmiaaGreat.Wire
open Go.RowKit WireP
theorem text_is (s z : ByteArray) (w : World) (hs : s.size ≤ 4398046511104) (h : text s.data.toList = z.data.toList) :
  Calls Tryz.prog 176 #[.string s] w fun e w'=>e = .returned (.string z) ∧ Below w.heap.size w w':=by
 have h2:=text_any s w hs
 rw [h,← str_eq (s:=z) rfl] at h2
 exact h2
def RdStep (w : World) (b : Nat) (st : St) (w' : World) : Prop:=RdAt w' b st ∧ w.grownBy w' (some b)
theorem rdint_is (b : Nat) (st st' : St) (lo hi n : Int) (w : World) (h : RdAt w b st) (hr : rdInt lo hi st = (n,st')) :
  Calls Tryz.prog 184 #[.pointer (some ⟨b,0,none⟩),.int .i64 lo,.int .i64 hi] w fun e w'=>e = .returned (.int .i64 n) ∧ RdStep w b st' w':=by
 have h2:=rdint_any b st lo hi w h
 rw [hr] at h2
 exact h2
theorem rdtext_is (b : Nat) (st st' : St) (most : Int) (z : ByteArray) (w : World) (h : RdAt w b st) (hr : rdText most st = (z.data.toList,st')) :
  Calls Tryz.prog 195 #[.pointer (some ⟨b,0,none⟩),.int .i64 most] w fun e w'=>e = .returned (.string z) ∧ RdStep w b st' w':=by
 have h2:=rdtext_any b st most w h
 rw [hr,← str_eq (s:=z) rfl] at h2
 exact h2
theorem rddone_is (b : Nat) (st : St) (v : Bool) (w : World) (h : RdAt w b st) (hr : done st = v) :
  Calls Tryz.prog 186 #[.pointer (some ⟨b,0,none⟩)] w fun e w'=>e = .returned (.bool v) ∧ Below w.heap.size w w':=by
 have h2:=rddone_any b st w h
 rw [hr] at h2
 exact h2
theorem RdStep.below {w w' : World} {b B : Nat} {st st0 : St} (h : RdStep w b st w') (h0 : RdAt w b st0) (hB : B ≤ b) : Below B w w':=below_of_grown h.2 hB h0.lt
theorem below_keep {B : Nat} {a b c : World} (h : Below B a b) (k : Below b.heap.size b c) (hB : B ≤ b.heap.size) : Below B a c:=h.trans (k.mono hB)
end Go.Proofs.YtnnakhdndmjmiaaGreat.Wire
