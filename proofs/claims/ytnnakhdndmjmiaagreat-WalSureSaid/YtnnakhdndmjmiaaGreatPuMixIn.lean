import Derived.Test.YtnnakhdndmjmiaaGreatPuMix
import Derived.OrdersIn
import Derived.TacticsIn
import Derived.OwnWalkIn
import Derived.RangeFuncCalls
set_option linter.unusedVariables false
set_option maxRecDepth 4000
namespace Go.Proofs.YtnnakhdndmjmiaaGreat
open Go
namespace Mix
section
variable {P : Program} {ops : Array Oper} {md : Region.Mode} {F : Fence} {n : Nat}
structure Open (F : Fence) (P : Program) : Prop where
 fn : ∀ f,F.fn f
 dep : F.depth = none
 call : ∀ {m : Nat} {f : FuncId} {args : Array Value} {w : World} {R : Ending → World → Prop},Calls P f args w R → CallsIn F m P f args w R
theorem open_wide : Open Fence.wide P:=⟨fun _=>trivial,rfl,fun h=>callsIn_wide.2 h⟩
theorem open_round (l : Nat) : Open (Fence.wide.inRound l) P:=⟨fun _=>trivial,rfl,fun h=>CallsIn.inRound l (callsIn_wide.2 h)⟩
theorem wpIn_of_still (hO : Open F P) {o : Oper} {a : Act} {w : World} {K : Act → Prop} {K' : Act → World → Prop} {Q' : Exit → Act → World → Prop} (hnd : ∀ c,o.op ≠ .defer c) (h : ∀ a,K a → K' a w) (hh : o.still P a w K) : o.wpIn F n P a w K' Q':=by
 unfold Oper.still at hh
 refine ⟨fun f _=>hO.fn f,?_⟩
 rw [Oper.semAt_plain F _ _ hnd]
 generalize (execOp a.eval o).run P w = r at *
 cases r with
 | ok x w' =>
  cases x <;> simp only [Oper.stillUpon] at hh <;> simp only [Oper.uponIn]
  case enter f args =>
   obtain ⟨rfl,v,hc,hn⟩:=hh
   exact ⟨fun h=>(by rw [hO.dep] at h;cases h),(hO.call hc).mono fun e w'' ⟨he,hw⟩=>by subst he;subst hw;exact h _ hn⟩
  all_goals (obtain ⟨rfl,h2⟩:=hh;exact h _ h2)
 | halt x w'=>simp only [Oper.stillUpon] at hh
theorem wpOpIn_of_stOp (hO : Open F P) {i : Nat} {a : Act} {w : World} {K : Act → Prop} {K' : Act → World → Prop} {Q' : Exit → Act → World → Prop} (hnd : ∀ (j : Nat) (o : Oper) c,ops[j]? = some o → o.op ≠ .defer c) (h : ∀ a,K a → K' a w) (hh : stOp P ops w i K a) : wpOpIn F n P ops Q' i K' a w:=by
 unfold stOp at hh
 unfold wpOpIn
 split
 ·rename_i ho;simp only [ho] at hh;exact h _ hh
 ·rename_i o ho
  simp only [ho] at hh
  split
  ·rename_i hw;simp only [hw,if_true] at hh;exact wpIn_of_still hO (fun c=>hnd i o c ho) h hh
  ·rename_i hw;simp only [hw] at hh;exact ⟨fun f _=>hO.fn f,h _ hh⟩
theorem wpAnyIn_of_headV (hO : Open F P) {w : World} {hd : List Nat} {g : Nat} {L : Array Bool → Act → Prop} {Q' : Exit → Act → World → Prop} (hnd : ∀ (j : Nat) (o : Oper) c,ops[j]? = some o → o.op ≠ .defer c) (hL : ∀ listed a,L listed a → wpAnyIn F n P md ops Q' g listed a w) :
  ∀ (f : Nat) (listed : Array Bool) (a : Act),wpAnyV P md ops w hd L f listed a → wpAnyIn F n P md ops Q' (f + g) listed a w
 | 0,listed,a,h=>by rw [Nat.zero_add];exact hL _ _ h
 | f + 1,listed,a,h=>by
  rw [show f + 1 + g = (f + g) + 1 by omega]
  exact ⟨fun h0=>absurd h0 h.1,fun i hi=>wpOpIn_of_stOp hO hnd (fun a' h'=>wpAnyIn_of_headV hO hnd hL f _ a' h') (h.2 i hi).2⟩
theorem wpAnyIn_of_seqV {l : List Oper} {Q' : Exit → Act → World → Prop} : ∀ (ks : List Nat) (listed : Array Bool) (a : Act) (w : World),
  seqV md l.toArray ks listed = true → wpListIn F n P l.toArray Q' (pick l ks) a w → wpAnyIn F n P md l.toArray Q' ks.length listed a w
 | [],_,_,_,hB,h=>⟨by simpa [seqV] using hB,h⟩
 | k :: ks,listed,a,w,hB,h=>by
  simp only [seqV,Bool.and_eq_true,decide_eq_true_eq] at hB
  obtain ⟨⟨hB1,hlt⟩,hB2⟩:=hB
  have hlt' : k < l.length:=by simpa using hlt
  have h0 : l[k]? = some l[k]:=List.getElem?_eq_getElem hlt'
  have h0' : l.toArray[k]? = some l[k]:=by simp
  have hp : pick l (k :: ks) = l[k] :: pick l ks:=by simp [pick,h0]
  rw [hp] at h
  refine ⟨fun h1=>(by rw [hB1] at h1;cases h1),fun i hi=>?_⟩
  rw [hB1] at hi
  have hik : i = k:=by simpa using hi
  subst hik
  have hw : wpOpIn F n P l.toArray Q' i (wpListIn F n P l.toArray Q' (pick l ks)) a w:=by unfold wpOpIn;simp only [h0'];exact h
  exact wpOpIn_mono (fun a' w' h'=>wpAnyIn_of_seqV ks _ a' w' hB2 h') hw
def noDefer (ops : Array Oper) : Bool:=ops.all fun o=>match o.op with | .defer _=>false | _=>true
theorem noDefer_spec (h : noDefer ops = true) : ∀ (j : Nat) (o : Oper) c,ops[j]? = some o → o.op ≠ .defer c:=by
 intro j o c hj hc
 have h1:=Array.all_eq_true_iff_forall_mem.1 h o (Array.mem_of_getElem? hj)
 rw [hc] at h1
 cases h1
theorem wpIn_region_mix (hO : Open F P) {id : Nat} {l : List Oper} {Q : Exit → Act → World → Prop} {a : Act} {w : World} (hd tl : List Nat) (t0 : Nat) (hm : P.follows .mixedOrders = true) (hB : (checkB l.toArray [] hd tl t0 && noDefer l.toArray) = true)
  (h : wpStill P l.toArray w.drew (fun a2=>wpListIn F n P l.toArray Q (pick l tl) a2 w.drew) (pick l hd) a) : (Code.region id l.toArray true).wpIn F n P Q a w:=by
 simp only [checkB,Bool.and_eq_true,decide_eq_true_eq] at hB
 obtain ⟨⟨⟨⟨⟨⟨hsel,hs⟩,hc⟩,ht0⟩,hsz⟩,hfree⟩,hnd⟩:=hB
 simp only [freeV,Bool.and_eq_true] at hfree
 have H:=wpAnyV_lex (md:=.any) hsel hs hc (by simpa using ht0) hd _ a (fun _ h=>h) (inv_of hfree.1) hfree.2 h
 have H2:=wpAnyIn_of_headV hO (Q':=Q) (g:=tl.length) (noDefer_spec hnd) (fun listed a' hL=>wpAnyIn_of_seqV tl listed a' w.drew hL.1 hL.2) _ _ _ H
 refine wpIn_region_any hm ?_
 have e : hd.length + tl.length = l.toArray.size:=by simpa using hsz
 rw [e] at H2
 exact H2
end
end Mix
end Go.Proofs.YtnnakhdndmjmiaaGreat
