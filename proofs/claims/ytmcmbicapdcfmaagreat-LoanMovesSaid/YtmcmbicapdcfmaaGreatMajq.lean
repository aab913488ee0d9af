/- Layer 2 of the texts that LoanMoves takes: Majq. -/
import Derived.Test.YtmcmbicapdcfmaaGreatMaiq
set_option linter.unusedVariables false
set_option linter.unusedSimpArgs false
set_option maxHeartbeats 16000000
namespace Go.Proofs.YtmcmbicapdcfmaaGreat
open Go.RowKit Go.Shelf Go.Proofs
theorem grown_drew (w:World) (row:Option Nat):w.grownBy w.drew row:=⟨rfl,rfl,rfl,lr_,fun _ _ _=>rfl⟩
theorem grown_alloc (w:World) (o:Obj) (row:Option Nat):w.grownBy (w.alloc o) row:=⟨rfl,rfl,rfl,by simp,fun _ hk _=>Below.heap_alloc _ _ _ hk⟩
theorem grown_setCell (w:World) (g o:Nat) (v:Value):w.grownBy (w.setCell ⟨g,o,none⟩ v) (some g):=⟨rfl,rfl,rfl,by simp,fun k _ hne=>Below.heap_setCell _ _ _ _ (fun e=>hne (by rw [e]))⟩
theorem grown_setCells (g:Nat):∀ (vs:List Value) (o:Nat) (w:World),w.grownBy (w.setCells g o vs) (some g)
 | [],_,_=>⟨rfl,rfl,rfl,lr_,fun _ _ _=>rfl⟩
 | v :: r,o,w=>(grown_setCell w g o v).trans (grown_setCells g r (o+1) _)
theorem block_setCells {g:Nat} {t:TypeId}:∀ (vs:List Value) (o:Nat) (w:World) (cur:Array Value),w.heap[g]?=some (.cells cur t (0,0))→∃ cur',(w.setCells g o vs).heap[g]?=some (.cells cur' t (0,0))∧cur'.size=cur.size ∧
 ∀ j,j<cur.size→cur'[j]?=if o≤j∧j<o+vs.length then vs[j - o]? else cur[j]?
 | [],o,w,cur,h=>⟨cur,h,rfl,fun j _=>by rw [if_neg (by simp)]⟩
 | v :: r,o,w,cur,h=>by
   obtain ⟨c',h1,h2,h3⟩:=block_setCells r (o+1) (w.setCell ⟨g,o,none⟩ v) _ (heap_setCell_same w g o cur t v h)
   refine ⟨c',h1,by simpa using h2,fun j hj=>?_⟩
   rw [h3 j (by simpa using hj),Array.getElem?_setIfInBounds]
   by_cases e:j=o
   ·subst e
    rw [if_neg (by omega),if_pos rfl,if_pos hj,if_pos (by simp),Nat.sub_self,List.getElem?_cons_zero]
   ·by_cases h4:o+1≤j∧j<o+1+r.length
    ·rw [if_pos h4,if_pos (by simp;omega),show j - o=(j - (o+1))+1 from by omega,List.getElem?_cons_succ]
    ·rw [if_neg h4,if_neg (fun h=>e h.symm),if_neg (by simp;omega)]
end Go.Proofs.YtmcmbicapdcfmaaGreat
namespace Go.Proofs.YtmcmbicapdcfmaaGreat
open Go.RowKit Go.Shelf Go.Maps
attribute [local go_sem] Oper.semAt_some
theorem wpIn_named2 {F:Fence} {n:Nat} {P:Program} {c:Code} {Q:Exit→Act→World→Prop} {a:Act} {w:World} (h:∀ a0 W,a=a0→w=W→c.wpIn F n P Q a0 W):c.wpIn F n P Q a w:=h a w rfl rfl
def Coll (base bp:Nat) (m:Nat) (M:Int→Prop) (W:World):Prop :=
 ∃ v xs,Boxed W bp 33 v∧W.ownsRow base 3 1 v xs.length (xs.map fun x=>.int .i64 x)∧SS xs∧xs.length≤m∧∀ a,a∈xs↔M a
theorem Coll.kept {base bp m:Nat} {M:Int→Prop} {X Y:World} {row:Option Nat} (h:Coll base bp m M X) (hg:X.grownBy Y row) (hr:∀ r,row=some r→∃ o:Obj,X.heap[r]?=some o∧o.isCells=false):Coll base bp m M Y:=by
 obtain ⟨v,xs,hv,ho,h3⟩:=h
 refine ⟨v,xs,hv.kept hg (fun e=>?_),own_keep ho (fun b hb=>?_),h3⟩
 ·obtain ⟨o,h1,h2⟩:=hr bp e.symm
  rw [show X.heap[bp]?=_ from hv] at h1
  cases h1
  cases h2
 ·obtain ⟨cur,hh⟩:=own_block ho hb
  refine hg.block b (block_lt hh) fun e=>?_
  obtain ⟨o,h1,h2⟩:=hr b e.symm
  rw [hh] at h1
  cases h1
  cases h2
theorem Coll.congr {base bp m m':Nat} {M M':Int→Prop} {X:World} (h:Coll base bp m M X) (hm:m≤m') (hM:∀ a,M a↔M' a):Coll base bp m' M' X:=by
 obtain ⟨v,xs,hv,ho,h1,h2,h3⟩:=h
 exact ⟨v,xs,hv,ho,h1,by omega,fun a=>(h3 a).trans (hM a)⟩
end Go.Proofs.YtmcmbicapdcfmaaGreat
namespace Go.Proofs.YtmcmbicapdcfmaaGreat
open Go.RowKit Go.Maps
section
variable {P:Program} {k E T:TypeId} {w:World} {b:Nat} {es:Array MapEntry} {clock:Nat} {x v z:Value} {lx:Lit}
theorem map_look2_hit (K:Keyed P k) (ht:P.underlying T=some (.map k E)) (hb:w.heap[b]?=some (.map es clock)) (hx:keyOf P k x=some lx) (hall:∀ e∈es.toList,∃ l,keyOf P k e.key=some l)
 (hex:∃ e∈es.toList,e.key=x) (hv:∀ e∈es.toList,e.key=x→e.val=v):(Instr.lookup T (.map (some b)) x true).run P w=.ok (.tuple #[v,.bool true]) w:=by
 have h1:=K.check w es.isEmpty hx
 rcases K.find w hx es.toList hall with ⟨_,h3⟩ | ⟨j,e,h2,h3,h4⟩
 ·obtain ⟨e,he,hk⟩:=hex
  exact absurd hk (h3 e he)
 ·have:=hv e (List.mem_of_getElem? h3) h4
  simp [Instr.lookup,run_underlying ht,MapKept.run_getObj_map hb,h1,h2,this,Result.andThen]
theorem map_look2_miss (K:Keyed P k) (ht:P.underlying T=some (.map k E)) (hb:w.heap[b]?=some (.map es clock)) (hx:keyOf P k x=some lx) (hall:∀ e∈es.toList,∃ l,keyOf P k e.key=some l)
 (hno:∀ e∈es.toList,e.key≠x) (hz:(zeroValue E).run P w=.ok z w):(Instr.lookup T (.map (some b)) x true).run P w=.ok (.tuple #[z,.bool false]) w:=by
 have h1:=K.check w es.isEmpty hx
 rcases K.find w hx es.toList hall with ⟨h2,_⟩ | ⟨j,e,h2,h3,h4⟩
 ·simp [Instr.lookup,run_underlying ht,MapKept.run_getObj_map hb,h1,h2,hz,Result.andThen]
 ·exact absurd h4 (hno e (List.mem_of_getElem? h3))
end
section
variable {κ:Type}
def getG [DecidableEq κ] (L:List (κ × Value)) (k:κ):Option Value:=match L with
 | []=>none
 | x :: l=>if x.1=k then some x.2 else getG l k
def putG [DecidableEq κ] (L:List (κ × Value)) (k:κ) (v:Value):List (κ × Value):=match L with
 | []=>[(k,v)]
 | x :: l=>if x.1=k then (k,v) :: l else x :: putG l k v
theorem getG_mem [DecidableEq κ] {L:List (κ × Value)} {k:κ} {v:Value} (h:getG L k=some v):(k,v)∈L:=by
 induction L with
 | nil=>simp [getG] at h
 | cons x l ih =>
   by_cases hx:x.1=k
   ·simp only [getG,hx,if_true,Option.some.injEq] at h
    subst h
    rw [← hx]
    simp
   ·simp only [getG,hx,if_false] at h
    exact List.mem_cons_of_mem _ (ih h)
theorem getG_none [DecidableEq κ] {L:List (κ × Value)} {k:κ} (h:getG L k=none):∀ x∈L,x.1≠k:=by
 induction L with
 | nil=>simp
 | cons x l ih =>
   by_cases hx:x.1=k
   ·simp [getG,hx] at h
   ·simp only [getG,hx,if_false] at h
    intro y hy
    rcases List.mem_cons.1 hy with rfl | hy
    ·exact hx
    ·exact ih h y hy
theorem putG_keys [DecidableEq κ] (L:List (κ × Value)) (k:κ) (v:Value):∀ x∈putG L k v,x.1=k∨∃ y∈L,y.1=x.1:=by
 induction L with
 | nil=>simp [putG]
 | cons y l ih =>
   intro x hx
   by_cases hy:y.1=k
   ·simp only [putG,hy,if_true,List.mem_cons] at hx
    rcases hx with rfl | hx
    ·exact .inl rfl
    ·exact .inr ⟨x,List.mem_cons_of_mem _ hx,rfl⟩
   ·simp only [putG,hy,if_false,List.mem_cons] at hx
    rcases hx with rfl | hx
    ·exact .inr ⟨x,List.mem_cons_self,rfl⟩
    ·rcases ih x hx with h | ⟨z,hz,e⟩
     ·exact .inl h
     ·exact .inr ⟨z,List.mem_cons_of_mem _ hz,e⟩
theorem putG_nodup [DecidableEq κ] {L:List (κ × Value)} (h:(L.map (·.1)).Nodup) (k:κ) (v:Value):((putG L k v).map (·.1)).Nodup:=by
 induction L with
 | nil=>simp [putG]
 | cons y l ih =>
   rw [List.map_cons,List.nodup_cons] at h
   by_cases hy:y.1=k
   ·simp only [putG,hy,if_true,List.map_cons,List.nodup_cons]
    exact ⟨by rw [← hy];exact h.1,h.2⟩
   ·simp only [putG,hy,if_false,List.map_cons,List.nodup_cons]
    refine ⟨fun hm=>?_,ih h.2⟩
    obtain ⟨x,hx,e⟩:=List.mem_map.1 hm
    rcases putG_keys l k v x hx with h1 | ⟨z,hz,e2⟩
    ·exact hy (e.symm.trans h1)
    ·exact h.1 (List.mem_map.2 ⟨z,hz,e2.trans e⟩)
theorem putG_none [DecidableEq κ] {L:List (κ × Value)} {k:κ} (h:getG L k=none) (v:Value):putG L k v=L ++ [(k,v)]:=by
 induction L with
 | nil=>rfl
 | cons x l ih =>
   by_cases hx:x.1=k
   ·simp [getG,hx] at h
   ·simp only [getG,hx,if_false] at h
    simp only [putG,hx,if_false,ih h,List.cons_append]
theorem putG_at [DecidableEq κ] {L:List (κ × Value)} {k:κ} {j:Nat} {u:Value} (hn:(L.map (·.1)).Nodup) (h:L[j]?=some (k,u)) (v:Value):putG L k v=L.set j (k,v):=by
 induction L generalizing j with
 | nil=>simp at h
 | cons x l ih =>
   rw [List.map_cons,List.nodup_cons] at hn
   cases j with
   | zero =>
     simp only [List.getElem?_cons_zero,Option.some.injEq] at h
     subst h
     simp [putG]
   | succ j =>
     have hm:(k,u)∈l:=List.mem_of_getElem? (by simpa using h)
     have hx:¬ x.1=k:=fun e=>hn.1 (List.mem_map.2 ⟨_,hm,e.symm⟩)
     simp only [putG,hx,if_false,List.set_cons_succ]
     rw [ih hn.2 (by simpa using h)]
theorem nodupG_val {L:List (κ × Value)} (h:(L.map (·.1)).Nodup) {k:κ} {u v:Value} (h1:(k,u)∈L) (h2:(k,v)∈L):u=v:=by
 induction L with
 | nil=>simp at h1
 | cons x l ih =>
   rw [List.map_cons,List.nodup_cons] at h
   rcases List.mem_cons.1 h1 with e1 | m1 <;> rcases List.mem_cons.1 h2 with e2 | m2
   ·rw [← e1] at e2;injection e2 with _ e3;exact e3.symm
   ·exact absurd (List.mem_map.2 ⟨_,m2,by rw [← e1]⟩) h.1
   ·exact absurd (List.mem_map.2 ⟨_,m1,by rw [← e2]⟩) h.1
   ·exact ih h.2 m1 m2
structure MapG (mk:κ→Value) (wf:κ→Prop) (w:World) (b:Nat) (L:List (κ × Value)):Prop where
 ex:∃ es clock,w.heap[b]?=some (.map es clock)∧es.toList.map (fun e=>(e.key,e.val))=L.map fun x=>(mk x.1,x.2)
 wf:∀ x∈L,wf x.1
 nodup:(L.map (·.1)).Nodup
structure KeyG (mk:κ→Value) (wf:κ→Prop) (k:TypeId):Prop where
 law:Keyed Tryz.prog k
 of:∀ a,wf a→∃ l,keyOf Tryz.prog k (mk a)=some l
 inj:∀ a b,mk a=mk b→a=b
variable {mk:κ→Value} {wf:κ→Prop} {k E T:TypeId} {w w':World} {b:Nat} {L:List (κ × Value)}
theorem MapG.made (w:World):MapG mk wf (w.alloc (.map #[] 0)) w.heap.size []:=⟨⟨#[],0,heap_alloc_new w _,rfl⟩,by simp,by simp⟩
theorem MapG.lt (h:MapG mk wf w b L):b<w.heap.size:=by
 obtain ⟨es,c,hb,_⟩:=h.ex
 exact block_lt hb
theorem MapG.keep (h:MapG mk wf w b L) (hb:w'.heap[b]?=w.heap[b]?):MapG mk wf w' b L :=
 ⟨by obtain ⟨es,c,h1,h2⟩:=h.ex;exact ⟨es,c,hb.trans h1,h2⟩,h.wf,h.nodup⟩
theorem MapG.ext (h:MapG mk wf w b L) (hb:Below w.heap.size w w'):MapG mk wf w' b L:=h.keep (hb.block b h.lt)
theorem MapG.alloc (h:MapG mk wf w b L) (o:Obj):MapG mk wf (w.alloc o) b L:=h.keep (Below.heap_alloc _ _ _ h.lt)
theorem MapG.setCell (h:MapG mk wf w b L) {a:Addr} (ha:b≠a.block) (v:Value):MapG mk wf (w.setCell a v) b L:=h.keep (Below.heap_setCell _ _ _ _ ha)
theorem MapG.facts (K:KeyG mk wf k) {es:Array MapEntry} (he:es.toList.map (fun e=>(e.key,e.val))=L.map fun x=>(mk x.1,x.2)) (hwf:∀ x∈L,wf x.1) :
 (∀ e∈es.toList,∃ x∈L,e.key=mk x.1∧e.val=x.2)∧(∀ x∈L,∃ e∈es.toList,e.key=mk x.1∧e.val=x.2)∧(∀ e∈es.toList,∃ l,keyOf Tryz.prog k e.key=some l):=by
 have h1:∀ e∈es.toList,∃ x∈L,e.key=mk x.1∧e.val=x.2:=fun e hm=>by
  have:(e.key,e.val)∈L.map fun x=>(mk x.1,x.2):=by rw [← he];exact List.mem_map.2 ⟨e,hm,rfl⟩
  obtain ⟨x,hx,e2⟩:=List.mem_map.1 this
  exact ⟨x,hx,(congrArg Prod.fst e2).symm,(congrArg Prod.snd e2).symm⟩
 refine ⟨h1,fun x hx=>?_,fun e hm=>?_⟩
 ·have:(mk x.1,x.2)∈es.toList.map (fun e=>(e.key,e.val)):=by rw [he];exact List.mem_map.2 ⟨x,hx,rfl⟩
  obtain ⟨e,hm,e2⟩:=List.mem_map.1 this
  exact ⟨e,hm,congrArg Prod.fst e2,congrArg Prod.snd e2⟩
 ·obtain ⟨x,hx,e2,_⟩:=h1 e hm
  rw [e2]
  exact K.of _ (hwf x hx)
theorem MapG.look2 [DecidableEq κ] (K:KeyG mk wf k) (ht:Tryz.prog.underlying T=some (.map k E)) (h:MapG mk wf w b L) {a:κ} (hk:wf a) {z:Value} (hz:(zeroValue E).run Tryz.prog w=.ok z w) :
 (Instr.lookup T (.map (some b)) (mk a) true).run Tryz.prog w=.ok (.tuple #[(getG L a).getD z,.bool (getG L a).isSome]) w:=by
 obtain ⟨es,clock,hb,he⟩:=h.ex
 obtain ⟨f1,f2,f3⟩:=MapG.facts K he h.wf
 obtain ⟨l,hl⟩:=K.of a hk
 cases hg:getG L a with
 | none =>
   refine map_look2_miss K.law ht hb hl f3 (fun e hm hkey=>?_) hz
   obtain ⟨x,hx,e1,_⟩:=f1 e hm
   exact getG_none hg x hx (K.inj _ _ (e1.symm.trans hkey))
 | some v =>
   have hm:=getG_mem hg
   obtain ⟨e,he1,he2,he3⟩:=f2 _ hm
   refine map_look2_hit K.law ht hb hl f3 ⟨e,he1,he2⟩ (fun e' hm' hkey=>?_)
   obtain ⟨x,hx,e1,e2⟩:=f1 e' hm'
   have hxk:x.1=a:=K.inj _ _ (e1.symm.trans hkey)
   rw [e2]
   exact nodupG_val h.nodup (by rw [← hxk];exact hx) hm
theorem MapG.update [DecidableEq κ] (K:KeyG mk wf k) (ht:Tryz.prog.underlying T=some (.map k E)) (h:MapG mk wf w b L) {a:κ} (hk:wf a) (v:Value) :
 ∃ es n,(Instr.mapUpdate T (.map (some b)) (mk a) v).run Tryz.prog w=.ok () (setObj' w b (.map es n))∧MapG mk wf (setObj' w b (.map es n)) b (putG L a v):=by
 obtain ⟨es,clock,hb,he⟩:=h.ex
 obtain ⟨f1,f2,f3⟩:=MapG.facts K he h.wf
 obtain ⟨l,hl⟩:=K.of a hk
 have hwf:∀ x∈putG L a v,wf x.1:=fun x hx=>by
  rcases putG_keys L a v x hx with e | ⟨y,hy,e⟩
  ·rw [e];exact hk
  ·rw [← e];exact h.wf y hy
 cases hg:getG L a with
 | none =>
   refine ⟨_,_,map_update_new K.law ht hb hl f3 (fun e hm hkey=>?_),⟨⟨_,_,setObj'_at h.lt _,?_⟩,hwf,putG_nodup h.nodup _ _⟩⟩
   ·obtain ⟨x,hx,e1,_⟩:=f1 e hm
    exact getG_none hg x hx (K.inj _ _ (e1.symm.trans hkey))
   ·rw [putG_none hg,Array.toList_push,List.map_append,List.map_append,he]
    rfl
 | some u =>
   have hm:=getG_mem hg
   obtain ⟨e,he1,he2,he3⟩:=f2 _ hm
   obtain ⟨j,e',hj,hkey,hrun⟩:=map_update_old (v:=v) K.law ht hb hl f3 ⟨e,he1,he2⟩
   refine ⟨_,_,hrun,⟨⟨_,_,setObj'_at h.lt _,?_⟩,hwf,putG_nodup h.nodup _ _⟩⟩
   have hlj:(L.map fun x=>(mk x.1,x.2))[j]?=some (e'.key,e'.val):=by rw [← he,List.getElem?_map,hj];rfl
   rw [List.getElem?_map] at hlj
   obtain ⟨x,hx,ex⟩:=Option.map_eq_some_iff.1 hlj
   have hxk:x.1=a:=K.inj _ _ ((congrArg Prod.fst ex).trans hkey)
   have hx2:L[j]?=some (a,x.2):=by rw [hx,← hxk]
   rw [putG_at h.nodup hx2,List.map_set,← he]
   apply List.ext_getElem?
   intro i
   simp only [Array.toList_modify,List.getElem?_map,List.getElem?_modify,List.getElem?_set,List.length_map]
   by_cases hij:j=i
   ·subst hij
    have hlt:j<es.toList.length:=(List.getElem?_eq_some_iff.1 hj).1
    have hj2:es[j]?=some e':=by simpa using hj
    have hlt2:j<es.size:=by simpa using hlt
    simp [hj2,hlt2]
   ·simp [hij]
end
end Go.Proofs.YtmcmbicapdcfmaaGreat
