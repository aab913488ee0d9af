/- Layer 2 of the texts that LoanDoubles takes: Valq. -/
import Derived.Test.YtoiompoapikkbaaGreatVaeq
set_option linter.unusedVariables false
set_option linter.unusedSimpArgs false
/- slices.Insert at numbers, one value, into a row of the call's own: out of the shelf's contracts, laid at the program. -/
namespace Go.Proofs.YtoiompoapikkbaaGreat
open Go.RowKit Go.Shelf Go.Proofs
theorem grown_drew (w:World) (row:Option Nat):w.grownBy w.drew row:=⟨rfl,rfl,rfl,Nat.le_refl _,fun _ _ _=>rfl⟩
theorem grown_alloc (w:World) (o:Obj) (row:Option Nat):w.grownBy (w.alloc o) row:=⟨rfl,rfl,rfl,by simp,fun _ hk _=>Below.heap_alloc _ _ _ hk⟩
theorem grown_setCell (w:World) (g o:Nat) (v:Value):w.grownBy (w.setCell ⟨g,o,none⟩ v) (some g):=⟨rfl,rfl,rfl,by simp,fun k _ hne=>Below.heap_setCell _ _ _ _ (fun e=>hne (by rw [e]))⟩
theorem grown_setCells (g:Nat):∀ (vs:List Value) (o:Nat) (w:World),w.grownBy (w.setCells g o vs) (some g)
 | [],_,_=>⟨rfl,rfl,rfl,Nat.le_refl _,fun _ _ _=>rfl⟩
 | v :: r,o,w=>(grown_setCell w g o v).trans (grown_setCells g r (o+1) _)
theorem block_setCells {g:Nat} {t:TypeId}:∀ (vs:List Value) (o:Nat) (w:World) (cur:Array Value),w.heap[g]?=some (.cells cur t (0,0))→∃ cur',(w.setCells g o vs).heap[g]?=some (.cells cur' t (0,0))∧cur'.size=cur.size ∧
 ∀ j,j<cur.size→cur'[j]?=if o≤j∧j<o+vs.length then vs[j - o]? else cur[j]?
 | [],o,w,cur,h=>⟨cur,h,rfl,fun j _=>by rw [if_neg (by simp)]⟩
 | v :: r,o,w,cur,h=>by
   obtain ⟨c',h1,h2,h3⟩:=block_setCells r (o+1) (w.setCell ⟨g,o,none⟩ v) _ (heap_setCell_same w g o cur t v h)
   refine ⟨c',h1,by simpa using h2,fun j hj=>?_⟩
   rw [h3 j (by simpa using hj),Array.getElem?_setIfInBounds]
   by_cases e:j=o
   ·subst e
    rw [if_neg (by omega),if_pos rfl,if_pos hj,if_pos (by simp),Nat.sub_self,List.getElem?_cons_zero]
   ·by_cases h4:o+1≤j∧j<o+1+r.length
    ·rw [if_pos h4,if_pos (by simp;omega),show j - o=(j - (o+1))+1 from by omega,List.getElem?_cons_succ]
    ·rw [if_neg h4,if_neg (fun h=>e h.symm),if_neg (by simp;omega)]
end Go.Proofs.YtoiompoapikkbaaGreat
/- whoMay. -/
namespace Go.Proofs.YtoiompoapikkbaaGreat
open Go.RowKit Go.Shelf Go.Maps
attribute [local go_sem] Oper.semAt_some
theorem wpIn_named2 {F:Fence} {n:Nat} {P:Program} {c:Code} {Q:Exit→Act→World→Prop} {a:Act} {w:World} (h:∀ a0 W,a=a0→w=W→c.wpIn F n P Q a0 W):c.wpIn F n P Q a w:=h a w rfl rfl
def Coll (base bp:Nat) (m:Nat) (M:Int→Prop) (W:World):Prop :=
 ∃ v xs,Boxed W bp 30 v∧W.ownsRow base 3 1 v xs.length (xs.map fun x=>.int .i64 x)∧SS xs∧xs.length≤m∧∀ a,a∈xs↔M a
theorem Coll.kept {base bp m:Nat} {M:Int→Prop} {X Y:World} {row:Option Nat} (h:Coll base bp m M X) (hg:X.grownBy Y row) (hr:∀ r,row=some r→∃ o:Obj,X.heap[r]?=some o∧o.isCells=false):Coll base bp m M Y:=by
 obtain ⟨v,xs,hv,ho,h3⟩:=h
 refine ⟨v,xs,hv.kept hg (fun e=>?_),own_keep ho (fun b hb=>?_),h3⟩
 ·obtain ⟨o,h1,h2⟩:=hr bp e.symm
  rw [show X.heap[bp]?=_ from hv] at h1
  cases h1
  cases h2
 ·obtain ⟨cur,hh⟩:=own_block ho hb
  refine hg.block b (block_lt hh) fun e=>?_
  obtain ⟨o,h1,h2⟩:=hr b e.symm
  rw [hh] at h1
  cases h1
  cases h2
theorem Coll.congr {base bp m m':Nat} {M M':Int→Prop} {X:World} (h:Coll base bp m M X) (hm:m≤m') (hM:∀ a,M a↔M' a):Coll base bp m' M' X:=by
 obtain ⟨v,xs,hv,ho,h1,h2,h3⟩:=h
 exact ⟨v,xs,hv,ho,h1,by omega,fun a=>(h3 a).trans (hM a)⟩
end Go.Proofs.YtoiompoapikkbaaGreat
