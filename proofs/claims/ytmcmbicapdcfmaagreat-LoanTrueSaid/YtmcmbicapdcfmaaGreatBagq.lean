/- Layer 2 of the texts that LoanBack takes: Bagq. -/
import Derived.Test.YtmcmbicapdcfmaaGreatBafq
set_option linter.unusedVariables false
set_option linter.unusedSimpArgs false
set_option maxHeartbeats 16000000
namespace Go.Proofs.YtmcmbicapdcfmaaGreat
open Go.RowKit Go.Maps
abbrev nk (a b:Int):Value:=.agg #[.int .i64 a,.int .i64 b]
def wf2 (a b:Int):Prop:=(Lit.int .i64 a).wf=true∧(Lit.int .i64 b).wf=true
theorem cells_int:Tryz.prog.cellsOf 3=1:=by kernel_rfl
theorem types_pos:∃ m,Tryz.prog.types.size=m+1:=by
 have h:decide (0<Tryz.prog.types.size)=true:=by kernel_rfl
 exact ⟨Tryz.prog.types.size - 1,by have:=of_decide_eq_true h;omega⟩
section
variable {P:Program} {k E T:TypeId} {w:World} {b:Nat} {es:Array MapEntry} {clock:Nat} {x v z:Value} {lx:Lit}
theorem map_lookup_hit (K:Keyed P k) (ht:P.underlying T=some (.map k E)) (hb:w.heap[b]?=some (.map es clock)) (hx:keyOf P k x=some lx) (hall:∀ e∈es.toList,∃ l,keyOf P k e.key=some l)
 (hex:∃ e∈es.toList,e.key=x) (hv:∀ e∈es.toList,e.key=x→e.val=v):(Instr.lookup T (.map (some b)) x false).run P w=.ok v w:=by
 have h1:=K.check w es.isEmpty hx
 rcases K.find w hx es.toList hall with ⟨_,h3⟩ | ⟨j,e,h2,h3,h4⟩
 ·obtain ⟨e,he,hk⟩:=hex
  exact absurd hk (h3 e he)
 ·have:=hv e (List.mem_of_getElem? h3) h4
  simp [Instr.lookup,run_underlying ht,MapKept.run_getObj_map hb,h1,h2,this,Result.andThen]
theorem map_lookup_miss (K:Keyed P k) (ht:P.underlying T=some (.map k E)) (hb:w.heap[b]?=some (.map es clock)) (hx:keyOf P k x=some lx) (hall:∀ e∈es.toList,∃ l,keyOf P k e.key=some l)
 (hno:∀ e∈es.toList,e.key≠x) (hz:(zeroValue E).run P w=.ok z w):(Instr.lookup T (.map (some b)) x false).run P w=.ok z w:=by
 have h1:=K.check w es.isEmpty hx
 rcases K.find w hx es.toList hall with ⟨h2,_⟩ | ⟨j,e,h2,h3,h4⟩
 ·simp [Instr.lookup,run_underlying ht,MapKept.run_getObj_map hb,h1,h2,hz,Result.andThen]
 ·exact absurd h4 (hno e (List.mem_of_getElem? h3))
def setObj' (w:World) (b:Nat) (o:Obj):World:={ w with heap:=w.heap.setIfInBounds b o }
theorem map_update_new (K:Keyed P k) (ht:P.underlying T=some (.map k E)) (hb:w.heap[b]?=some (.map es clock)) (hx:keyOf P k x=some lx) (hall:∀ e∈es.toList,∃ l,keyOf P k e.key=some l)
 (hno:∀ e∈es.toList,e.key≠x):(Instr.mapUpdate T (.map (some b)) x v).run P w=.ok () (setObj' w b (.map (es.push { key:=x,val:=v,born:=clock }) (clock+1))):=by
 have h1:=K.check w false hx
 rcases K.find w hx es.toList hall with ⟨h2,_⟩ | ⟨j,e,h2,h3,h4⟩
 ·simp [Instr.mapUpdate,run_underlying ht,MapKept.run_getObj_map hb,h1,h2,MapKept.run_setObj_map _ hb,Result.andThen,setObj']
 ·exact absurd h4 (hno e (List.mem_of_getElem? h3))
theorem map_update_old (K:Keyed P k) (ht:P.underlying T=some (.map k E)) (hb:w.heap[b]?=some (.map es clock)) (hx:keyOf P k x=some lx) (hall:∀ e∈es.toList,∃ l,keyOf P k e.key=some l)
 (hex:∃ e∈es.toList,e.key=x):∃ j e,es.toList[j]?=some e∧e.key=x∧(Instr.mapUpdate T (.map (some b)) x v).run P w=.ok () (setObj' w b (.map (es.modify j fun e=>{ e with key:=x,val:=v }) clock)):=by
 have h1:=K.check w false hx
 rcases K.find w hx es.toList hall with ⟨_,h3⟩ | ⟨j,e,h2,h3,h4⟩
 ·obtain ⟨e,he,hk⟩:=hex
  exact absurd hk (h3 e he)
 ·refine ⟨j,e,h3,h4,?_⟩
  have h5:es[j]?=some e:=by simpa using h3
  have h6:=K.stays w hx
  simp [Instr.mapUpdate,run_underlying ht,MapKept.run_getObj_map hb,h1,h2,h5,h4,h6,MapKept.run_setObj_map _ hb,Result.andThen,setObj']
end
def getM (L:List ((Int × Int) × Value)) (k:Int × Int):Option Value:=match L with
 | []=>none
 | x :: l=>if x.1=k then some x.2 else getM l k
def putM (L:List ((Int × Int) × Value)) (k:Int × Int) (v:Value):List ((Int × Int) × Value):=match L with
 | []=>[(k,v)]
 | x :: l=>if x.1=k then (k,v) :: l else x :: putM l k v
theorem getM_mem {L:List ((Int × Int) × Value)} {k:Int × Int} {v:Value} (h:getM L k=some v):(k,v)∈L:=by
 induction L with
 | nil=>simp [getM] at h
 | cons x l ih =>
   by_cases hx:x.1=k
   ·simp only [getM,hx,if_true,Option.some.injEq] at h
    subst h
    rw [← hx]
    simp
   ·simp only [getM,hx,if_false] at h
    exact List.mem_cons_of_mem _ (ih h)
theorem getM_none {L:List ((Int × Int) × Value)} {k:Int × Int} (h:getM L k=none):∀ x∈L,x.1≠k:=by
 induction L with
 | nil=>simp
 | cons x l ih =>
   by_cases hx:x.1=k
   ·simp [getM,hx] at h
   ·simp only [getM,hx,if_false] at h
    intro y hy
    rcases List.mem_cons.1 hy with rfl | hy
    ·exact hx
    ·exact ih h y hy
theorem putM_keys (L:List ((Int × Int) × Value)) (k:Int × Int) (v:Value):∀ x∈putM L k v,x.1=k∨∃ y∈L,y.1=x.1:=by
 induction L with
 | nil=>simp [putM]
 | cons y l ih =>
   intro x hx
   by_cases hy:y.1=k
   ·simp only [putM,hy,if_true,List.mem_cons] at hx
    rcases hx with rfl | hx
    ·exact .inl rfl
    ·exact .inr ⟨x,List.mem_cons_of_mem _ hx,rfl⟩
   ·simp only [putM,hy,if_false,List.mem_cons] at hx
    rcases hx with rfl | hx
    ·exact .inr ⟨x,List.mem_cons_self,rfl⟩
    ·rcases ih x hx with h | ⟨z,hz,e⟩
     ·exact .inl h
     ·exact .inr ⟨z,List.mem_cons_of_mem _ hz,e⟩
def Born (w:World) (b:Nat):Prop:=∃ es clock,w.heap[b]?=some (.map es clock)∧(es.toList.map (·.born)).Nodup∧∀ e∈es.toList,e.born<clock
theorem Born.made (w:World):Born (w.alloc (.map #[] 0)) w.heap.size:=⟨#[],0,heap_alloc_new w _,by simp,by simp⟩
theorem Born.keep {w w':World} {b:Nat} (h:Born w b) (hb:w'.heap[b]?=w.heap[b]?):Born w' b:=by
 obtain ⟨es,c,h1,h2⟩:=h
 exact ⟨es,c,hb.trans h1,h2⟩
structure MapN (w:World) (b:Nat) (L:List ((Int × Int) × Value)):Prop where
 ex:∃ es clock,w.heap[b]?=some (.map es clock)∧es.toList.map (fun e=>(e.key,e.val))=L.map fun x=>(nk x.1.1 x.1.2,x.2)
 wf:∀ x∈L,wf2 x.1.1 x.1.2
 nodup:(L.map (·.1)).Nodup
 brn:Born w b
theorem putM_nodup {L:List ((Int × Int) × Value)} (h:(L.map (·.1)).Nodup) (k:Int × Int) (v:Value):((putM L k v).map (·.1)).Nodup:=by
 induction L with
 | nil=>simp [putM]
 | cons y l ih =>
   rw [List.map_cons,List.nodup_cons] at h
   by_cases hy:y.1=k
   ·simp only [putM,hy,if_true,List.map_cons,List.nodup_cons]
    exact ⟨by rw [← hy];exact h.1,h.2⟩
   ·simp only [putM,hy,if_false,List.map_cons,List.nodup_cons]
    refine ⟨fun hm=>?_,ih h.2⟩
    obtain ⟨x,hx,e⟩:=List.mem_map.1 hm
    rcases putM_keys l k v x hx with h1 | ⟨z,hz,e2⟩
    ·exact hy (e.symm.trans h1)
    ·exact h.1 (List.mem_map.2 ⟨z,hz,e2.trans e⟩)
theorem MapN.made (w:World):MapN (w.alloc (.map #[] 0)) w.heap.size []:=⟨⟨#[],0,heap_alloc_new w _,rfl⟩,by simp,by simp,Born.made w⟩
theorem MapN.lt {w:World} {b:Nat} {L:List ((Int × Int) × Value)} (h:MapN w b L):b<w.heap.size:=by
 obtain ⟨es,c,hb,_⟩:=h.ex
 rcases Nat.lt_or_ge b w.heap.size with hlt | hge
 ·exact hlt
 ·rw [Array.getElem?_eq_none hge] at hb;cases hb
theorem MapN.keep {w w':World} {b:Nat} {L:List ((Int × Int) × Value)} (h:MapN w b L) (hb:w'.heap[b]?=w.heap[b]?):MapN w' b L :=
 ⟨by obtain ⟨es,c,h1,h2⟩:=h.ex;exact ⟨es,c,hb.trans h1,h2⟩,h.wf,h.nodup,h.brn.keep hb⟩
theorem MapN.ext {w w':World} {b:Nat} {L:List ((Int × Int) × Value)} (h:MapN w b L) (hb:Below w.heap.size w w'):MapN w' b L:=h.keep (hb.block b h.lt)
theorem MapN.alloc {w:World} {b:Nat} {L:List ((Int × Int) × Value)} (h:MapN w b L) (o:Obj):MapN (w.alloc o) b L:=h.keep (Below.heap_alloc _ _ _ h.lt)
theorem MapN.setCell {w:World} {b:Nat} {L:List ((Int × Int) × Value)} (h:MapN w b L) {a:Addr} (ha:b≠a.block) (v:Value):MapN (w.setCell a v) b L:=h.keep (Below.heap_setCell _ _ _ _ ha)
theorem nk_inj {a b c d:Int} (h:nk a b=nk c d):(a,b)=(c,d):=by simpa using h
structure Key2 (k:TypeId):Prop where
 law:Keyed Tryz.prog k
 of:∀ a b,wf2 a b→∃ l,keyOf Tryz.prog k (nk a b)=some l
section
variable {k E T:TypeId} {w:World} {b:Nat} {L:List ((Int × Int) × Value)}
theorem MapN.facts (K:Key2 k) {es:Array MapEntry} (he:es.toList.map (fun e=>(e.key,e.val))=L.map fun x=>(nk x.1.1 x.1.2,x.2)) (hwf:∀ x∈L,wf2 x.1.1 x.1.2) :
 (∀ e∈es.toList,∃ x∈L,e.key=nk x.1.1 x.1.2∧e.val=x.2)∧(∀ x∈L,∃ e∈es.toList,e.key=nk x.1.1 x.1.2∧e.val=x.2)∧(∀ e∈es.toList,∃ l,keyOf Tryz.prog k e.key=some l):=by
 have h1:∀ e∈es.toList,∃ x∈L,e.key=nk x.1.1 x.1.2∧e.val=x.2:=fun e hm=>by
  have:(e.key,e.val)∈L.map fun x=>(nk x.1.1 x.1.2,x.2):=by rw [← he];exact List.mem_map.2 ⟨e,hm,rfl⟩
  obtain ⟨x,hx,e2⟩:=List.mem_map.1 this
  exact ⟨x,hx,(congrArg Prod.fst e2).symm,(congrArg Prod.snd e2).symm⟩
 refine ⟨h1,fun x hx=>?_,fun e hm=>?_⟩
 ·have:(nk x.1.1 x.1.2,x.2)∈es.toList.map (fun e=>(e.key,e.val)):=by rw [he];exact List.mem_map.2 ⟨x,hx,rfl⟩
  obtain ⟨e,hm,e2⟩:=List.mem_map.1 this
  exact ⟨e,hm,congrArg Prod.fst e2,congrArg Prod.snd e2⟩
 ·obtain ⟨x,hx,e2,_⟩:=h1 e hm
  rw [e2]
  exact K.of _ _ (hwf x hx)
theorem nodup_val {L:List ((Int × Int) × Value)} (h:(L.map (·.1)).Nodup) {k:Int × Int} {u v:Value} (h1:(k,u)∈L) (h2:(k,v)∈L):u=v:=by
 induction L with
 | nil=>simp at h1
 | cons x l ih =>
   rw [List.map_cons,List.nodup_cons] at h
   rcases List.mem_cons.1 h1 with e1 | m1 <;> rcases List.mem_cons.1 h2 with e2 | m2
   ·rw [← e1] at e2;injection e2 with _ e3;exact e3.symm
   ·exact absurd (List.mem_map.2 ⟨_,m2,by rw [← e1]⟩) h.1
   ·exact absurd (List.mem_map.2 ⟨_,m1,by rw [← e2]⟩) h.1
   ·exact ih h.2 m1 m2
theorem MapN.lookup (K:Key2 k) (ht:Tryz.prog.underlying T=some (.map k E)) (h:MapN w b L) {a c:Int} (hk:wf2 a c) {z:Value} (hz:(zeroValue E).run Tryz.prog w=.ok z w) :
 (Instr.lookup T (.map (some b)) (nk a c) false).run Tryz.prog w=.ok ((getM L (a,c)).getD z) w:=by
 obtain ⟨es,clock,hb,he⟩:=h.ex
 obtain ⟨f1,f2,f3⟩:=MapN.facts K he h.wf
 obtain ⟨l,hl⟩:=K.of a c hk
 cases hg:getM L (a,c) with
 | none =>
   refine map_lookup_miss K.law ht hb hl f3 (fun e hm hkey=>?_) hz
   obtain ⟨x,hx,e1,_⟩:=f1 e hm
   exact getM_none hg x hx (nk_inj (e1.symm.trans hkey))
 | some v =>
   have hm:=getM_mem hg
   obtain ⟨e,he1,he2,he3⟩:=f2 _ hm
   refine map_lookup_hit K.law ht hb hl f3 ⟨e,he1,he2⟩ (fun e' hm' hkey=>?_)
   obtain ⟨x,hx,e1,e2⟩:=f1 e' hm'
   have hxk:x.1=(a,c):=nk_inj (e1.symm.trans hkey)
   rw [e2]
   exact nodup_val h.nodup (by rw [← hxk];exact hx) hm
theorem putM_none {L:List ((Int × Int) × Value)} {k:Int × Int} (h:getM L k=none) (v:Value):putM L k v=L ++ [(k,v)]:=by
 induction L with
 | nil=>rfl
 | cons x l ih =>
   by_cases hx:x.1=k
   ·simp [getM,hx] at h
   ·simp only [getM,hx,if_false] at h
    simp only [putM,hx,if_false,ih h,List.cons_append]
theorem putM_at {L:List ((Int × Int) × Value)} {k:Int × Int} {j:Nat} {u:Value} (hn:(L.map (·.1)).Nodup) (h:L[j]?=some (k,u)) (v:Value):putM L k v=L.set j (k,v):=by
 induction L generalizing j with
 | nil=>simp at h
 | cons x l ih =>
   rw [List.map_cons,List.nodup_cons] at hn
   cases j with
   | zero =>
     simp only [List.getElem?_cons_zero,Option.some.injEq] at h
     subst h
     simp [putM]
   | succ j =>
     have hm:(k,u)∈l:=List.mem_of_getElem? (by simpa using h)
     have hx:¬ x.1=k:=fun e=>hn.1 (List.mem_map.2 ⟨_,hm,e.symm⟩)
     simp only [putM,hx,if_false,List.set_cons_succ]
     rw [ih hn.2 (by simpa using h)]
theorem setObj'_at {w:World} {b:Nat} (h:b<w.heap.size) (o:Obj):(setObj' w b o).heap[b]?=some o:=by
 simp [setObj',Array.getElem?_setIfInBounds,h]
theorem setObj'_other {w:World} {b c:Nat} (h:c≠b) (o:Obj):(setObj' w b o).heap[c]?=w.heap[c]?:=by
 simp only [setObj',Array.getElem?_setIfInBounds]
 rw [if_neg (by omega)]
theorem Below.setObj' {B:Nat} {u w:World} (h:Below B u w) {b:Nat} (hb:B≤b) (o:Obj):Below B u (setObj' w b o) :=
 h.trans ⟨rfl,rfl,rfl,by simp [Go.Proofs.YtmcmbicapdcfmaaGreat.setObj'],fun c hc=>setObj'_other (by omega) o⟩
theorem born_new {w:World} {b:Nat} {es:Array MapEntry} {clock:Nat} (hb:w.heap[b]?=some (.map es clock)) (hl:b<w.heap.size) (h:Born w b) (x v:Value):Born (setObj' w b (.map (es.push { key:=x,val:=v,born:=clock }) (clock+1))) b:=by
 obtain ⟨es',clock',hb',hnd,hlt⟩:=h
 rw [hb] at hb'
 cases hb'
 refine ⟨_,_,setObj'_at hl _,?_,fun e he2=>?_⟩
 ·rw [Array.toList_push,List.map_append,List.nodup_append]
  refine ⟨hnd,by simp,fun x hx y hy e=>?_⟩
  obtain ⟨z,hz,rfl⟩:=List.mem_map.1 hx
  simp at hy
  have:=hlt z hz
  omega
 ·rw [Array.toList_push] at he2
  rcases List.mem_append.1 he2 with h1 | h1
  ·have:=hlt e h1;omega
  ·simp at h1
   subst h1
   exact Nat.lt_succ_self _
theorem born_old {w:World} {b j:Nat} {es:Array MapEntry} {clock:Nat} {e':MapEntry} (hb:w.heap[b]?=some (.map es clock)) (hl:b<w.heap.size) (h:Born w b) (hj:es.toList[j]?=some e') (x v:Value):Born (setObj' w b (.map (es.modify j fun e=>{ e with key:=x,val:=v }) clock)) b:=by
 obtain ⟨es',clock',hb',hnd,hlt⟩:=h
 rw [hb] at hb'
 cases hb'
 have hm:(es.modify j fun e=>{ e with key:=x,val:=v }).toList.map (·.born)=es.toList.map (·.born):=by
  rw [Array.toList_modify]
  apply List.ext_getElem?
  intro i
  simp only [List.getElem?_map,List.getElem?_modify]
  by_cases hij:j=i
  ·subst hij
   rw [hj]
   simp
  ·simp [hij]
 refine ⟨_,_,setObj'_at hl _,by rw [hm];exact hnd,fun e he2=>?_⟩
 have:e.born∈es.toList.map (·.born):=by rw [← hm];exact List.mem_map.2 ⟨e,he2,rfl⟩
 obtain ⟨z,hz,ez⟩:=List.mem_map.1 this
 rw [← ez]
 exact hlt z hz
theorem MapN.update (K:Key2 k) (ht:Tryz.prog.underlying T=some (.map k E)) (h:MapN w b L) {a c:Int} (hk:wf2 a c) (v:Value) :
 ∃ es n,(Instr.mapUpdate T (.map (some b)) (nk a c) v).run Tryz.prog w=.ok () (setObj' w b (.map es n))∧MapN (setObj' w b (.map es n)) b (putM L (a,c) v):=by
 obtain ⟨es,clock,hb,he⟩:=h.ex
 obtain ⟨f1,f2,f3⟩:=MapN.facts K he h.wf
 obtain ⟨l,hl⟩:=K.of a c hk
 have hwf:∀ x∈putM L (a,c) v,wf2 x.1.1 x.1.2:=fun x hx=>by
  rcases putM_keys L (a,c) v x hx with e | ⟨y,hy,e⟩
  ·rw [e];exact hk
  ·rw [← e];exact h.wf y hy
 cases hg:getM L (a,c) with
 | none =>
   refine ⟨_,_,map_update_new K.law ht hb hl f3 (fun e hm hkey=>?_),⟨⟨_,_,setObj'_at h.lt _,?_⟩,hwf,putM_nodup h.nodup _ _,born_new hb h.lt h.brn _ _⟩⟩
   ·obtain ⟨x,hx,e1,_⟩:=f1 e hm
    exact getM_none hg x hx (nk_inj (e1.symm.trans hkey))
   ·rw [putM_none hg,Array.toList_push,List.map_append,List.map_append,he]
    rfl
 | some u =>
   have hm:=getM_mem hg
   obtain ⟨e,he1,he2,he3⟩:=f2 _ hm
   obtain ⟨j,e',hj,hkey,hrun⟩:=map_update_old (v:=v) K.law ht hb hl f3 ⟨e,he1,he2⟩
   refine ⟨_,_,hrun,⟨⟨_,_,setObj'_at h.lt _,?_⟩,hwf,putM_nodup h.nodup _ _,born_old hb h.lt h.brn hj _ _⟩⟩
   have hlj:(L.map fun x=>(nk x.1.1 x.1.2,x.2))[j]?=some (e'.key,e'.val):=by rw [← he,List.getElem?_map,hj];rfl
   rw [List.getElem?_map] at hlj
   obtain ⟨x,hx,ex⟩:=Option.map_eq_some_iff.1 hlj
   have hxk:x.1=(a,c):=nk_inj ((congrArg Prod.fst ex).trans hkey)
   have hx2:L[j]?=some ((a,c),x.2):=by rw [hx,← hxk]
   rw [putM_at h.nodup hx2,List.map_set,← he]
   apply List.ext_getElem?
   intro i
   simp only [Array.toList_modify,List.getElem?_map,List.getElem?_modify,List.getElem?_set,List.length_map]
   by_cases hij:j=i
   ·subst hij
    have hlt:j<es.toList.length:=(List.getElem?_eq_some_iff.1 hj).1
    have hj2:es[j]?=some e':=by simpa using hj
    have hlt2:j<es.size:=by simpa using hlt
    simp [hj2,hlt2]
   ·simp [hij]
end
abbrev Nm:=Int × Int
def nmD (d:Deed):Nm:=(nmLock d,nmPerson d)
def upd {α:Type} (f:Nm→α) (n:Nm) (v:α):Nm→α:=fun m=>if m=n then v else f m
theorem upd_same {α:Type} (f:Nm→α) (n:Nm) (v:α):upd f n v n=v:=by simp [upd]
theorem upd_other {α:Type} (f:Nm→α) {n m:Nm} (h:m≠n) (v:α):upd f n v m=f m:=by simp [upd,h]
abbrev TL:=List (Deed × Nat)
structure Fam (w:World) (base:Nat) (e:TypeId) (size:Nat) (g:Nm→Value) (c:TL→List Value) (S:Nm→TL):Prop where
 own:∀ n,w.ownsRow base e size (g n) (S n).length (c (S n))
 dis:∀ n m,n≠m→∀ b,(g n).ownBlock=some b→(g m).ownBlock≠some b
theorem own_block {w:World} {base size n:Nat} {e:TypeId} {v:Value} {xs:List Value} (h:w.ownsRow base e size v n xs) {b:Nat} (hb:v.ownBlock=some b):∃ cur,w.heap[b]?=some (.cells cur e (0,0)):=by
 rcases h.2 with ⟨rfl,_⟩ | ⟨g,cap,cur,rfl,_,hh,_⟩
 ·simp [Value.ownBlock] at hb
 ·simp [Value.ownBlock] at hb
  subst hb
  exact ⟨cur,hh⟩
theorem own_keep {w w':World} {base size n:Nat} {e:TypeId} {v:Value} {xs:List Value} (h:w.ownsRow base e size v n xs) (hk:∀ b,v.ownBlock=some b→w'.heap[b]?=w.heap[b]?):w'.ownsRow base e size v n xs:=by
 refine ⟨h.1,?_⟩
 rcases h.2 with h2 | ⟨g,cap,cur,rfl,hb,hh,r⟩
 ·exact .inl h2
 ·exact .inr ⟨g,cap,cur,rfl,hb,(hk g rfl).trans hh,r⟩
theorem block_lt {w:World} {b:Nat} {o:Obj} (h:w.heap[b]?=some o):b<w.heap.size:=by
 rcases Nat.lt_or_ge b w.heap.size with hlt | hge
 ·exact hlt
 ·rw [Array.getElem?_eq_none hge] at h;cases h
section
variable {w w':World} {base size:Nat} {e:TypeId} {g:Nm→Value} {c:TL→List Value} {S:Nm→TL}
theorem Fam.start (w:World) (base:Nat) (e:TypeId) (size:Nat) (c:TL→List Value) (hc:c []=[]):Fam w base e size (fun _=>.slice none 0 0) c (fun _=>[]) :=
 ⟨fun _=>by rw [hc];exact World.ownsRow_nil _ _ _ _,fun _ _ _ b hb=>by simp [Value.ownBlock] at hb⟩
theorem Fam.keep (h:Fam w base e size g c S) (hk:∀ n b,(g n).ownBlock=some b→w'.heap[b]?=w.heap[b]?):Fam w' base e size g c S :=
 ⟨fun n=>own_keep (h.own n) (hk n),h.dis⟩
theorem Fam.lt (h:Fam w base e size g c S) {n:Nm} {b:Nat} (hb:(g n).ownBlock=some b):b<w.heap.size:=by
 obtain ⟨cur,hh⟩:=own_block (h.own n) hb
 exact block_lt hh
theorem Fam.ext (h:Fam w base e size g c S) (hb:Below w.heap.size w w'):Fam w' base e size g c S:=h.keep fun _ b hg=>hb.block b (h.lt hg)
theorem Fam.alloc (h:Fam w base e size g c S) (o:Obj):Fam (w.alloc o) base e size g c S:=h.keep fun _ b hg=>Below.heap_alloc _ _ _ (h.lt hg)
theorem Fam.drew (h:Fam w base e size g c S):Fam w.drew base e size g c S:=h.keep fun _ _ _=>rfl
theorem Fam.set (h:Fam w base e size g c S) {p:Addr} {t:TypeId} {cs:Array Value} {fr:Nat × Nat} (hp:w.heap[p.block]?=some (.cells cs t fr)) (hne:t≠e) (u:Value):Fam (w.setCell p u) base e size g c S :=
 h.keep fun n b hg=>Below.heap_setCell _ _ _ _ fun eb=>by
  obtain ⟨cur,hh⟩:=own_block (h.own n) hg
  rw [eb,hp] at hh
  injection hh with hh
  injection hh with _ ht
  exact hne ht
theorem Fam.grown (h:Fam w base e size g c S) {base' size' n':Nat} {e':TypeId} {v:Value} {xs:List Value} (hv:w.ownsRow base' e' size' v n' xs) (hne:e'≠e) (hg:w.grownBy w' v.ownBlock):Fam w' base e size g c S :=
 h.keep fun n b hgb=>hg.block b (h.lt hgb) fun eb=>by
  obtain ⟨cur,hh⟩:=own_block (h.own n) hgb
  obtain ⟨cur',hh'⟩:=own_block hv eb.symm
  rw [hh] at hh'
  injection hh' with hh'
  injection hh' with _ ht
  exact hne ht.symm
theorem Fam.push (h:Fam w base e size g c S) {n:Nm} {x:Deed × Nat} {news:List Value} {b cap:Nat} (hc:c (S n ++ [x])=c (S n) ++ news)
 (hown:w'.ownsRow base e size (.slice (some ⟨b,0,none⟩) ((S n).length+1) cap) ((S n).length+1) (c (S n) ++ news)) (hg:w.grownBy w' (g n).ownBlock) (hb:(g n).ownBlock=some b∨w.heap.size≤b) :
 Fam w' base e size (upd g n (.slice (some ⟨b,0,none⟩) ((S n).length+1) cap)) c (upd S n (S n ++ [x])):=by
 refine ⟨fun m=>?_,fun m k hmk b' hb'=>?_⟩
 ·by_cases hm:m=n
  ·subst hm
   rw [upd_same,upd_same,List.length_append,hc]
   exact hown
  ·rw [upd_other _ hm,upd_other _ hm]
   exact own_keep (h.own m) fun b' hb'=>hg.block b' (h.lt hb') fun eb=>h.dis m n hm b' hb' eb.symm
 ·by_cases hm:m=n
  ·subst hm
   have hk:k≠m:=fun e=>hmk e.symm
   rw [upd_same] at hb'
   rw [upd_other _ hk]
   have hbb:b=b':=by simpa [Value.ownBlock] using hb'
   subst hbb
   rcases hb with hb | hb
   ·exact h.dis m k hmk b hb
   ·intro e2
    have:=h.lt e2
    omega
  ·rw [upd_other _ hm] at hb'
   by_cases hk:k=n
   ·subst hk
    rw [upd_same]
    intro e2
    have hbb:b=b':=by simpa [Value.ownBlock] using e2
    subst hbb
    rcases hb with hb | hb
    ·exact h.dis m k hmk b hb' hb
    ·have:=h.lt hb'
     omega
   ·rw [upd_other _ hk]
    exact h.dis m k hmk b' hb'
end
def sub (ds:List Deed) (n:Nm):TL:=ds.zipIdx.filter fun x=>decide (nmD x.1=n)
def aftL (ds:List Deed):List St:=(List.range ds.length).map fun i=>runSt (ds.take (i+1))
end Go.Proofs.YtmcmbicapdcfmaaGreat
