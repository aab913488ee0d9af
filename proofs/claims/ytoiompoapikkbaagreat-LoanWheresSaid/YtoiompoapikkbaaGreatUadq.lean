/- Layer 2 of the texts that LoanWheres takes: Uadq. -/
import Derived.Test.YtoiompoapikkbaaGreatUabq
import Derived.Test.YtoiompoapikkbaaGreatUacq
set_option linter.unusedVariables false
set_option linter.unusedSimpArgs false
/- CheckConflict, even. -/
namespace Go.Proofs.YtoiompoapikkbaaGreat
open Go.RowKit
theorem itemCells_length (l:List (Int × Int)):(itemCells l).length=l.length*2:=by
 induction l with
 | nil=>rfl
 | cons d ds ih=>simp only [itemCells,List.flatMap_cons,List.length_append,List.length_cons] at *;simp only [ih,List.length_nil];omega
theorem Its.len {w:World} {B n:Nat} {A:Option Addr} {l:List (Int × Int)} (h:Its w B A n l):l.length=n:=by
 have:=h.1
 rw [itemCells_length] at this
 omega
theorem Its.now {w w':World} {n:Nat} {A:Option Addr} {l:List (Int × Int)} (h:Its w w.heap.size A n l) (hb:Below w.heap.size w w'):Its w' w'.heap.size A n l:=(Rd.ext h hb (Nat.le_refl _)).more hb.size
theorem Its.two {w:World} {B:Nat} {A:Option Addr} {p q r s:Int} (h:Its w B A 2 [(p,q),(r,s)]) :
 ∃ b o,A=some ⟨b,o,none⟩∧b<B∧w.cell? ⟨b,o,none⟩=some (.int .i64 p)∧w.cell? ⟨b,o+1,none⟩=some (.int .i64 q)∧w.cell? ⟨b,o+2,none⟩=some (.int .i64 r)∧w.cell? ⟨b,o+3,none⟩=some (.int .i64 s):=by
 obtain ⟨b,o,e,hb,hc⟩:=h.2 (by omega)
 exact ⟨b,o,e,hb,hc 0 _ rfl,hc 1 _ rfl,hc 2 _ rfl,hc 3 _ rfl⟩
theorem Ds.grow {w:World} {n:Nat} {A:Option Addr} {ds:List Deed} (h:Ds w w.heap.size A n ds) (g:Grow w):Ds g.1 g.1.heap.size A n ds:=Ds.now h g.2
end Go.Proofs.YtoiompoapikkbaaGreat
/- Threads: the states behind deeds, the earliest and the latest day, whether just the first n deeds may have happened. -/
namespace Go.Proofs.YtoiompoapikkbaaGreat
open Go.RowKit
structure St where
 holder:Int
 hand:Int
 office:Bool
deriving DecidableEq
def St.zero:St:=⟨0,0,false⟩
def stepSt (s:St) (d:Deed):St :=
 if d.kind=1 then { s with office:=true }
 else if d.kind=2 then { s with office:=false }
 else if d.kind=3 then { s with holder:=d.person,hand:=d.person }
 else if d.kind=4 then (if s.holder=0 then s else { s with hand:=d.person })
 else if d.kind=5 then { s with hand:=s.holder }
 else { s with holder:=0,hand:=0 }
def runSt (ds:List Deed):St:=ds.foldl stepSt St.zero
def stCells (l:List St):List Value:=l.flatMap fun s=>[.int .i64 s.holder,.int .i64 s.hand,.bool s.office]
theorem stCells_length (l:List St):(stCells l).length=l.length*3:=by
 induction l with
 | nil=>rfl
 | cons d ds ih=>simp only [stCells,List.flatMap_cons,List.length_append,List.length_cons] at *;simp only [ih,List.length_nil];omega
theorem stCells_cons (s:St) (l:List St):stCells (s :: l)=[.int .i64 s.holder,.int .i64 s.hand,.bool s.office] ++ stCells l:=rfl
theorem stCells_get (l:List St) (k j:Nat) (s:St) (hd:l[k]?=some s) (hj:j<3) :
 (stCells l)[k*3+j]?=[Value.int .i64 s.holder,.int .i64 s.hand,.bool s.office][j]?:=by
 induction l generalizing k with
 | nil=>simp at hd
 | cons a ds ih =>
   cases k with
   | zero =>
     simp only [List.getElem?_cons_zero,Option.some.injEq] at hd
     subst hd
     rw [stCells_cons,List.getElem?_append_left (by simp;omega)]
     simp
   | succ k =>
     rw [stCells_cons,List.getElem?_append_right (by simp;omega)]
     rw [show (k+1)*3+j - [Value.int .i64 a.holder,.int .i64 a.hand,.bool a.office].length=k*3+j from by simp;omega]
     exact ih k (by simpa using hd)
def Ss (w:World) (B:Nat) (A:Option Addr) (n:Nat) (l:List St):Prop:=Rd w B 3 A n (stCells l)
theorem Ss.len {w:World} {B n:Nat} {A:Option Addr} {l:List St} (h:Ss w B A n l):l.length=n:=by
 have:=h.1
 rw [stCells_length] at this
 omega
theorem Ss.now {w w':World} {n:Nat} {A:Option Addr} {l:List St} (h:Ss w w.heap.size A n l) (hb:Below w.heap.size w w'):Ss w' w'.heap.size A n l:=(Rd.ext h hb (Nat.le_refl _)).more hb.size
theorem Ss.at_ {w:World} {B n:Nat} {A:Option Addr} {l:List St} (h:Ss w B A n l) {k:Nat} (hk:k<n) :
 ∃ b o s,A=some ⟨b,o,none⟩∧b<B∧l[k]?=some s∧w.cell? ⟨b,o+k*3,none⟩=some (.int .i64 s.holder)∧w.cell? ⟨b,o+k*3+1,none⟩=some (.int .i64 s.hand)∧w.cell? ⟨b,o+k*3+2,none⟩=some (.bool s.office):=by
 obtain ⟨b,o,e,hb,hc⟩:=h.2 (by omega)
 have hl:=h.len
 have hd:l[k]?=some l[k]:=List.getElem?_eq_getElem (by omega)
 have g:∀ j,j<3→∀ u,[Value.int .i64 l[k].holder,.int .i64 l[k].hand,.bool l[k].office][j]?=some u→w.cell? ⟨b,o+(k*3+j),none⟩=some u:=fun j hj u hu=>hc _ u (by rw [stCells_get l k j _ hd hj];exact hu)
 exact ⟨b,o,l[k],e,hb,hd,g 0 (by omega) _ rfl,g 1 (by omega) _ rfl,g 2 (by omega) _ rfl⟩
end Go.Proofs.YtoiompoapikkbaaGreat
/- Maps of the call's own, keyed by structs of two numbers, whose elements are any values. -/
namespace Go.Proofs.YtoiompoapikkbaaGreat
open Go.RowKit Go.Maps
abbrev nk (a b:Int):Value:=.agg #[.int .i64 a,.int .i64 b]
def wf2 (a b:Int):Prop:=(Lit.int .i64 a).wf=true∧(Lit.int .i64 b).wf=true
theorem cells_int:Tryz.prog.cellsOf 3=1:=by kernel_rfl
theorem types_pos:∃ m,Tryz.prog.types.size=m+1:=by
 have h:decide (0<Tryz.prog.types.size)=true:=by kernel_rfl
 exact ⟨Tryz.prog.types.size - 1,by have:=of_decide_eq_true h;omega⟩
section
variable {P:Program} {k E T:TypeId} {w:World} {b:Nat} {es:Array MapEntry} {clock:Nat} {x v z:Value} {lx:Lit}
theorem map_lookup_hit (K:Keyed P k) (ht:P.underlying T=some (.map k E)) (hb:w.heap[b]?=some (.map es clock)) (hx:keyOf P k x=some lx) (hall:∀ e∈es.toList,∃ l,keyOf P k e.key=some l)
 (hex:∃ e∈es.toList,e.key=x) (hv:∀ e∈es.toList,e.key=x→e.val=v):(Instr.lookup T (.map (some b)) x false).run P w=.ok v w:=by
 have h1:=K.check w es.isEmpty hx
 rcases K.find w hx es.toList hall with ⟨_,h3⟩ | ⟨j,e,h2,h3,h4⟩
 ·obtain ⟨e,he,hk⟩:=hex
  exact absurd hk (h3 e he)
 ·have:=hv e (List.mem_of_getElem? h3) h4
  simp [Instr.lookup,run_underlying ht,MapKept.run_getObj_map hb,h1,h2,this,Result.andThen]
theorem map_lookup_miss (K:Keyed P k) (ht:P.underlying T=some (.map k E)) (hb:w.heap[b]?=some (.map es clock)) (hx:keyOf P k x=some lx) (hall:∀ e∈es.toList,∃ l,keyOf P k e.key=some l)
 (hno:∀ e∈es.toList,e.key≠x) (hz:(zeroValue E).run P w=.ok z w):(Instr.lookup T (.map (some b)) x false).run P w=.ok z w:=by
 have h1:=K.check w es.isEmpty hx
 rcases K.find w hx es.toList hall with ⟨h2,_⟩ | ⟨j,e,h2,h3,h4⟩
 ·simp [Instr.lookup,run_underlying ht,MapKept.run_getObj_map hb,h1,h2,hz,Result.andThen]
 ·exact absurd h4 (hno e (List.mem_of_getElem? h3))
def setObj' (w:World) (b:Nat) (o:Obj):World:={ w with heap:=w.heap.setIfInBounds b o }
theorem map_update_new (K:Keyed P k) (ht:P.underlying T=some (.map k E)) (hb:w.heap[b]?=some (.map es clock)) (hx:keyOf P k x=some lx) (hall:∀ e∈es.toList,∃ l,keyOf P k e.key=some l)
 (hno:∀ e∈es.toList,e.key≠x):(Instr.mapUpdate T (.map (some b)) x v).run P w=.ok () (setObj' w b (.map (es.push { key:=x,val:=v,born:=clock }) (clock+1))):=by
 have h1:=K.check w false hx
 rcases K.find w hx es.toList hall with ⟨h2,_⟩ | ⟨j,e,h2,h3,h4⟩
 ·simp [Instr.mapUpdate,run_underlying ht,MapKept.run_getObj_map hb,h1,h2,MapKept.run_setObj_map _ hb,Result.andThen,setObj']
 ·exact absurd h4 (hno e (List.mem_of_getElem? h3))
theorem map_update_old (K:Keyed P k) (ht:P.underlying T=some (.map k E)) (hb:w.heap[b]?=some (.map es clock)) (hx:keyOf P k x=some lx) (hall:∀ e∈es.toList,∃ l,keyOf P k e.key=some l)
 (hex:∃ e∈es.toList,e.key=x):∃ j e,es.toList[j]?=some e∧e.key=x∧(Instr.mapUpdate T (.map (some b)) x v).run P w=.ok () (setObj' w b (.map (es.modify j fun e=>{ e with key:=x,val:=v }) clock)):=by
 have h1:=K.check w false hx
 rcases K.find w hx es.toList hall with ⟨_,h3⟩ | ⟨j,e,h2,h3,h4⟩
 ·obtain ⟨e,he,hk⟩:=hex
  exact absurd hk (h3 e he)
 ·refine ⟨j,e,h3,h4,?_⟩
  have h5:es[j]?=some e:=by simpa using h3
  have h6:=K.stays w hx
  simp [Instr.mapUpdate,run_underlying ht,MapKept.run_getObj_map hb,h1,h2,h5,h4,h6,MapKept.run_setObj_map _ hb,Result.andThen,setObj']
end
def getM (L:List ((Int × Int) × Value)) (k:Int × Int):Option Value:=match L with
 | []=>none
 | x :: l=>if x.1=k then some x.2 else getM l k
def putM (L:List ((Int × Int) × Value)) (k:Int × Int) (v:Value):List ((Int × Int) × Value):=match L with
 | []=>[(k,v)]
 | x :: l=>if x.1=k then (k,v) :: l else x :: putM l k v
theorem getM_mem {L:List ((Int × Int) × Value)} {k:Int × Int} {v:Value} (h:getM L k=some v):(k,v)∈L:=by
 induction L with
 | nil=>simp [getM] at h
 | cons x l ih =>
   by_cases hx:x.1=k
   ·simp only [getM,hx,if_true,Option.some.injEq] at h
    subst h
    rw [← hx]
    simp
   ·simp only [getM,hx,if_false] at h
    exact List.mem_cons_of_mem _ (ih h)
theorem getM_none {L:List ((Int × Int) × Value)} {k:Int × Int} (h:getM L k=none):∀ x∈L,x.1≠k:=by
 induction L with
 | nil=>simp
 | cons x l ih =>
   by_cases hx:x.1=k
   ·simp [getM,hx] at h
   ·simp only [getM,hx,if_false] at h
    intro y hy
    rcases List.mem_cons.1 hy with rfl | hy
    ·exact hx
    ·exact ih h y hy
theorem putM_keys (L:List ((Int × Int) × Value)) (k:Int × Int) (v:Value):∀ x∈putM L k v,x.1=k∨∃ y∈L,y.1=x.1:=by
 induction L with
 | nil=>simp [putM]
 | cons y l ih =>
   intro x hx
   by_cases hy:y.1=k
   ·simp only [putM,hy,if_true,List.mem_cons] at hx
    rcases hx with rfl | hx
    ·exact .inl rfl
    ·exact .inr ⟨x,List.mem_cons_of_mem _ hx,rfl⟩
   ·simp only [putM,hy,if_false,List.mem_cons] at hx
    rcases hx with rfl | hx
    ·exact .inr ⟨x,List.mem_cons_self,rfl⟩
    ·rcases ih x hx with h | ⟨z,hz,e⟩
     ·exact .inl h
     ·exact .inr ⟨z,List.mem_cons_of_mem _ hz,e⟩
def Born (w:World) (b:Nat):Prop:=∃ es clock,w.heap[b]?=some (.map es clock)∧(es.toList.map (·.born)).Nodup∧∀ e∈es.toList,e.born<clock
theorem Born.made (w:World):Born (w.alloc (.map #[] 0)) w.heap.size:=⟨#[],0,heap_alloc_new w _,by simp,by simp⟩
theorem Born.keep {w w':World} {b:Nat} (h:Born w b) (hb:w'.heap[b]?=w.heap[b]?):Born w' b:=by
 obtain ⟨es,c,h1,h2⟩:=h
 exact ⟨es,c,hb.trans h1,h2⟩
structure MapN (w:World) (b:Nat) (L:List ((Int × Int) × Value)):Prop where
 ex:∃ es clock,w.heap[b]?=some (.map es clock)∧es.toList.map (fun e=>(e.key,e.val))=L.map fun x=>(nk x.1.1 x.1.2,x.2)
 wf:∀ x∈L,wf2 x.1.1 x.1.2
 nodup:(L.map (·.1)).Nodup
 brn:Born w b
theorem putM_nodup {L:List ((Int × Int) × Value)} (h:(L.map (·.1)).Nodup) (k:Int × Int) (v:Value):((putM L k v).map (·.1)).Nodup:=by
 induction L with
 | nil=>simp [putM]
 | cons y l ih =>
   rw [List.map_cons,List.nodup_cons] at h
   by_cases hy:y.1=k
   ·simp only [putM,hy,if_true,List.map_cons,List.nodup_cons]
    exact ⟨by rw [← hy];exact h.1,h.2⟩
   ·simp only [putM,hy,if_false,List.map_cons,List.nodup_cons]
    refine ⟨fun hm=>?_,ih h.2⟩
    obtain ⟨x,hx,e⟩:=List.mem_map.1 hm
    rcases putM_keys l k v x hx with h1 | ⟨z,hz,e2⟩
    ·exact hy (e.symm.trans h1)
    ·exact h.1 (List.mem_map.2 ⟨z,hz,e2.trans e⟩)
theorem MapN.made (w:World):MapN (w.alloc (.map #[] 0)) w.heap.size []:=⟨⟨#[],0,heap_alloc_new w _,rfl⟩,by simp,by simp,Born.made w⟩
theorem MapN.lt {w:World} {b:Nat} {L:List ((Int × Int) × Value)} (h:MapN w b L):b<w.heap.size:=by
 obtain ⟨es,c,hb,_⟩:=h.ex
 rcases Nat.lt_or_ge b w.heap.size with hlt | hge
 ·exact hlt
 ·rw [Array.getElem?_eq_none hge] at hb;cases hb
theorem MapN.keep {w w':World} {b:Nat} {L:List ((Int × Int) × Value)} (h:MapN w b L) (hb:w'.heap[b]?=w.heap[b]?):MapN w' b L :=
 ⟨by obtain ⟨es,c,h1,h2⟩:=h.ex;exact ⟨es,c,hb.trans h1,h2⟩,h.wf,h.nodup,h.brn.keep hb⟩
theorem MapN.ext {w w':World} {b:Nat} {L:List ((Int × Int) × Value)} (h:MapN w b L) (hb:Below w.heap.size w w'):MapN w' b L:=h.keep (hb.block b h.lt)
theorem MapN.alloc {w:World} {b:Nat} {L:List ((Int × Int) × Value)} (h:MapN w b L) (o:Obj):MapN (w.alloc o) b L:=h.keep (Below.heap_alloc _ _ _ h.lt)
theorem MapN.setCell {w:World} {b:Nat} {L:List ((Int × Int) × Value)} (h:MapN w b L) {a:Addr} (ha:b≠a.block) (v:Value):MapN (w.setCell a v) b L:=h.keep (Below.heap_setCell _ _ _ _ ha)
theorem nk_inj {a b c d:Int} (h:nk a b=nk c d):(a,b)=(c,d):=by simpa using h
structure Key2 (k:TypeId):Prop where
 law:Keyed Tryz.prog k
 of:∀ a b,wf2 a b→∃ l,keyOf Tryz.prog k (nk a b)=some l
section
variable {k E T:TypeId} {w:World} {b:Nat} {L:List ((Int × Int) × Value)}
theorem MapN.facts (K:Key2 k) {es:Array MapEntry} (he:es.toList.map (fun e=>(e.key,e.val))=L.map fun x=>(nk x.1.1 x.1.2,x.2)) (hwf:∀ x∈L,wf2 x.1.1 x.1.2) :
 (∀ e∈es.toList,∃ x∈L,e.key=nk x.1.1 x.1.2∧e.val=x.2)∧(∀ x∈L,∃ e∈es.toList,e.key=nk x.1.1 x.1.2∧e.val=x.2)∧(∀ e∈es.toList,∃ l,keyOf Tryz.prog k e.key=some l):=by
 have h1:∀ e∈es.toList,∃ x∈L,e.key=nk x.1.1 x.1.2∧e.val=x.2:=fun e hm=>by
  have:(e.key,e.val)∈L.map fun x=>(nk x.1.1 x.1.2,x.2):=by rw [← he];exact List.mem_map.2 ⟨e,hm,rfl⟩
  obtain ⟨x,hx,e2⟩:=List.mem_map.1 this
  exact ⟨x,hx,(congrArg Prod.fst e2).symm,(congrArg Prod.snd e2).symm⟩
 refine ⟨h1,fun x hx=>?_,fun e hm=>?_⟩
 ·have:(nk x.1.1 x.1.2,x.2)∈es.toList.map (fun e=>(e.key,e.val)):=by rw [he];exact List.mem_map.2 ⟨x,hx,rfl⟩
  obtain ⟨e,hm,e2⟩:=List.mem_map.1 this
  exact ⟨e,hm,congrArg Prod.fst e2,congrArg Prod.snd e2⟩
 ·obtain ⟨x,hx,e2,_⟩:=h1 e hm
  rw [e2]
  exact K.of _ _ (hwf x hx)
theorem nodup_val {L:List ((Int × Int) × Value)} (h:(L.map (·.1)).Nodup) {k:Int × Int} {u v:Value} (h1:(k,u)∈L) (h2:(k,v)∈L):u=v:=by
 induction L with
 | nil=>simp at h1
 | cons x l ih =>
   rw [List.map_cons,List.nodup_cons] at h
   rcases List.mem_cons.1 h1 with e1 | m1 <;> rcases List.mem_cons.1 h2 with e2 | m2
   ·rw [← e1] at e2;injection e2 with _ e3;exact e3.symm
   ·exact absurd (List.mem_map.2 ⟨_,m2,by rw [← e1]⟩) h.1
   ·exact absurd (List.mem_map.2 ⟨_,m1,by rw [← e2]⟩) h.1
   ·exact ih h.2 m1 m2
theorem MapN.lookup (K:Key2 k) (ht:Tryz.prog.underlying T=some (.map k E)) (h:MapN w b L) {a c:Int} (hk:wf2 a c) {z:Value} (hz:(zeroValue E).run Tryz.prog w=.ok z w) :
 (Instr.lookup T (.map (some b)) (nk a c) false).run Tryz.prog w=.ok ((getM L (a,c)).getD z) w:=by
 obtain ⟨es,clock,hb,he⟩:=h.ex
 obtain ⟨f1,f2,f3⟩:=MapN.facts K he h.wf
 obtain ⟨l,hl⟩:=K.of a c hk
 cases hg:getM L (a,c) with
 | none =>
   refine map_lookup_miss K.law ht hb hl f3 (fun e hm hkey=>?_) hz
   obtain ⟨x,hx,e1,_⟩:=f1 e hm
   exact getM_none hg x hx (nk_inj (e1.symm.trans hkey))
 | some v =>
   have hm:=getM_mem hg
   obtain ⟨e,he1,he2,he3⟩:=f2 _ hm
   refine map_lookup_hit K.law ht hb hl f3 ⟨e,he1,he2⟩ (fun e' hm' hkey=>?_)
   obtain ⟨x,hx,e1,e2⟩:=f1 e' hm'
   have hxk:x.1=(a,c):=nk_inj (e1.symm.trans hkey)
   rw [e2]
   exact nodup_val h.nodup (by rw [← hxk];exact hx) hm
theorem putM_none {L:List ((Int × Int) × Value)} {k:Int × Int} (h:getM L k=none) (v:Value):putM L k v=L ++ [(k,v)]:=by
 induction L with
 | nil=>rfl
 | cons x l ih =>
   by_cases hx:x.1=k
   ·simp [getM,hx] at h
   ·simp only [getM,hx,if_false] at h
    simp only [putM,hx,if_false,ih h,List.cons_append]
theorem putM_at {L:List ((Int × Int) × Value)} {k:Int × Int} {j:Nat} {u:Value} (hn:(L.map (·.1)).Nodup) (h:L[j]?=some (k,u)) (v:Value):putM L k v=L.set j (k,v):=by
 induction L generalizing j with
 | nil=>simp at h
 | cons x l ih =>
   rw [List.map_cons,List.nodup_cons] at hn
   cases j with
   | zero =>
     simp only [List.getElem?_cons_zero,Option.some.injEq] at h
     subst h
     simp [putM]
   | succ j =>
     have hm:(k,u)∈l:=List.mem_of_getElem? (by simpa using h)
     have hx:¬ x.1=k:=fun e=>hn.1 (List.mem_map.2 ⟨_,hm,e.symm⟩)
     simp only [putM,hx,if_false,List.set_cons_succ]
     rw [ih hn.2 (by simpa using h)]
theorem setObj'_at {w:World} {b:Nat} (h:b<w.heap.size) (o:Obj):(setObj' w b o).heap[b]?=some o:=by
 simp [setObj',Array.getElem?_setIfInBounds,h]
theorem setObj'_other {w:World} {b c:Nat} (h:c≠b) (o:Obj):(setObj' w b o).heap[c]?=w.heap[c]?:=by
 simp only [setObj',Array.getElem?_setIfInBounds]
 rw [if_neg (by omega)]
theorem Below.setObj' {B:Nat} {u w:World} (h:Below B u w) {b:Nat} (hb:B≤b) (o:Obj):Below B u (setObj' w b o) :=
 h.trans ⟨rfl,rfl,rfl,by simp [Go.Proofs.YtoiompoapikkbaaGreat.setObj'],fun c hc=>setObj'_other (by omega) o⟩
theorem born_new {w:World} {b:Nat} {es:Array MapEntry} {clock:Nat} (hb:w.heap[b]?=some (.map es clock)) (hl:b<w.heap.size) (h:Born w b) (x v:Value):Born (setObj' w b (.map (es.push { key:=x,val:=v,born:=clock }) (clock+1))) b:=by
 obtain ⟨es',clock',hb',hnd,hlt⟩:=h
 rw [hb] at hb'
 cases hb'
 refine ⟨_,_,setObj'_at hl _,?_,fun e he2=>?_⟩
 ·rw [Array.toList_push,List.map_append,List.nodup_append]
  refine ⟨hnd,by simp,fun x hx y hy e=>?_⟩
  obtain ⟨z,hz,rfl⟩:=List.mem_map.1 hx
  simp at hy
  have:=hlt z hz
  omega
 ·rw [Array.toList_push] at he2
  rcases List.mem_append.1 he2 with h1 | h1
  ·have:=hlt e h1;omega
  ·simp at h1
   subst h1
   exact Nat.lt_succ_self _
theorem born_old {w:World} {b j:Nat} {es:Array MapEntry} {clock:Nat} {e':MapEntry} (hb:w.heap[b]?=some (.map es clock)) (hl:b<w.heap.size) (h:Born w b) (hj:es.toList[j]?=some e') (x v:Value):Born (setObj' w b (.map (es.modify j fun e=>{ e with key:=x,val:=v }) clock)) b:=by
 obtain ⟨es',clock',hb',hnd,hlt⟩:=h
 rw [hb] at hb'
 cases hb'
 have hm:(es.modify j fun e=>{ e with key:=x,val:=v }).toList.map (·.born)=es.toList.map (·.born):=by
  rw [Array.toList_modify]
  apply List.ext_getElem?
  intro i
  simp only [List.getElem?_map,List.getElem?_modify]
  by_cases hij:j=i
  ·subst hij
   rw [hj]
   simp
  ·simp [hij]
 refine ⟨_,_,setObj'_at hl _,by rw [hm];exact hnd,fun e he2=>?_⟩
 have:e.born∈es.toList.map (·.born):=by rw [← hm];exact List.mem_map.2 ⟨e,he2,rfl⟩
 obtain ⟨z,hz,ez⟩:=List.mem_map.1 this
 rw [← ez]
 exact hlt z hz
theorem MapN.update (K:Key2 k) (ht:Tryz.prog.underlying T=some (.map k E)) (h:MapN w b L) {a c:Int} (hk:wf2 a c) (v:Value) :
 ∃ es n,(Instr.mapUpdate T (.map (some b)) (nk a c) v).run Tryz.prog w=.ok () (setObj' w b (.map es n))∧MapN (setObj' w b (.map es n)) b (putM L (a,c) v):=by
 obtain ⟨es,clock,hb,he⟩:=h.ex
 obtain ⟨f1,f2,f3⟩:=MapN.facts K he h.wf
 obtain ⟨l,hl⟩:=K.of a c hk
 have hwf:∀ x∈putM L (a,c) v,wf2 x.1.1 x.1.2:=fun x hx=>by
  rcases putM_keys L (a,c) v x hx with e | ⟨y,hy,e⟩
  ·rw [e];exact hk
  ·rw [← e];exact h.wf y hy
 cases hg:getM L (a,c) with
 | none =>
   refine ⟨_,_,map_update_new K.law ht hb hl f3 (fun e hm hkey=>?_),⟨⟨_,_,setObj'_at h.lt _,?_⟩,hwf,putM_nodup h.nodup _ _,born_new hb h.lt h.brn _ _⟩⟩
   ·obtain ⟨x,hx,e1,_⟩:=f1 e hm
    exact getM_none hg x hx (nk_inj (e1.symm.trans hkey))
   ·rw [putM_none hg,Array.toList_push,List.map_append,List.map_append,he]
    rfl
 | some u =>
   have hm:=getM_mem hg
   obtain ⟨e,he1,he2,he3⟩:=f2 _ hm
   obtain ⟨j,e',hj,hkey,hrun⟩:=map_update_old (v:=v) K.law ht hb hl f3 ⟨e,he1,he2⟩
   refine ⟨_,_,hrun,⟨⟨_,_,setObj'_at h.lt _,?_⟩,hwf,putM_nodup h.nodup _ _,born_old hb h.lt h.brn hj _ _⟩⟩
   have hlj:(L.map fun x=>(nk x.1.1 x.1.2,x.2))[j]?=some (e'.key,e'.val):=by rw [← he,List.getElem?_map,hj];rfl
   rw [List.getElem?_map] at hlj
   obtain ⟨x,hx,ex⟩:=Option.map_eq_some_iff.1 hlj
   have hxk:x.1=(a,c):=nk_inj ((congrArg Prod.fst ex).trans hkey)
   have hx2:L[j]?=some ((a,c),x.2):=by rw [hx,← hxk]
   rw [putM_at h.nodup hx2,List.map_set,← he]
   apply List.ext_getElem?
   intro i
   simp only [Array.toList_modify,List.getElem?_map,List.getElem?_modify,List.getElem?_set,List.length_map]
   by_cases hij:j=i
   ·subst hij
    have hlt:j<es.toList.length:=(List.getElem?_eq_some_iff.1 hj).1
    have hj2:es[j]?=some e':=by simpa using hj
    have hlt2:j<es.size:=by simpa using hlt
    simp [hj2,hlt2]
   ·simp [hij]
end
end Go.Proofs.YtoiompoapikkbaaGreat
