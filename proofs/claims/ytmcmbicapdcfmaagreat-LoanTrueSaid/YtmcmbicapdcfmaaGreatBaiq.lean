/- Layer 2 of the texts that LoanBack takes: Baiq. -/
import Derived.Test.YtmcmbicapdcfmaaGreatBagq
import Derived.Test.YtmcmbicapdcfmaaGreatBahq
set_option linter.unusedVariables false
set_option linter.unusedSimpArgs false
set_option maxHeartbeats 16000000
namespace Go.Proofs.YtmcmbicapdcfmaaGreat
open Go.RowKit
def sinkQ (P:Program) (o:Oper) (Q:Exit→Act→World→Prop):Exit→Act→World→Prop
 | .normal,a,w=>o.wp P a w (Q .normal) Q
 | e,a,w=>Q e a w
def sinkOk (L:Array Oper) (o:Oper):Bool :=
 o.guard.isNone && (List.range L.size).all (fun i=>o.after.any fun e=>Region.binds .any e && e.on == i) &&
 (List.range L.size).all fun i=>match L[i]? with
   | none=>true
   | some x=>x.after.all (fun e=>decide (e.on<i)) && (match x.guard with | none=>true | some (g,_)=>decide (g<L.size))
section
variable {P:Program} {L:Array Oper} {o:Oper} {Q:Exit→Act→World→Prop}
theorem wp_post {Q':Exit→Act→World→Prop} {x:Oper} {a:Act} {w:World} {K:Act→World→Prop} (hp:∀ c a w,Q' (.panic c) a w→Q (.panic c) a w) (hl:LetsOut Q'→LetsOut Q) (h:x.wp P a w K Q'):x.wp P a w K Q:=by
 unfold Oper.wp at *
 generalize (execOp a.eval x).run P w=r at *
 cases r with
 | ok n w' =>
   cases n <;> simp only [Oper.upon] at h ⊢ <;>
    first
     | exact h
     | exact Calls.mono h (fun e w'' he=>by cases e <;> first | exact hp _ _ _ he | exact hl he | exact he)
     | exact Rows.mono h (fun _ _ he=>he)
 | halt y w'=>cases y <;> simp only [Oper.upon] at h ⊢ <;> first | exact hp _ _ _ h | exact h
theorem push_get {i:Nat} (h:i<L.size):(L.push o)[i]?=L[i]?:=by
 rw [Array.getElem?_push,if_neg (by omega)]
theorem listed_push {l:Array Bool} {i:Nat} (d:Bool) (h:i<l.size):(l.push false).getD i d=l.getD i d:=by
 simp [Array.getD_eq_getD_getElem?,Array.getElem?_push]
 rw [if_neg (by omega)]
theorem listed_last (l:Array Bool) (d:Bool):(l.push false).getD l.size d=false:=by
 simp [Array.getD_eq_getD_getElem?,Array.getElem?_push]
theorem set_push {l:Array Bool} {i:Nat} (h:i<l.size):(l.push false).setIfInBounds i true=(l.setIfInBounds i true).push false:=by
 apply Array.ext'
 simp [List.set_append,h]
theorem sink_spec (h:sinkOk L o=true):o.guard=none∧(∀ i,i<L.size→∃ e∈o.after,Region.binds .any e=true∧e.on=i) ∧
 (∀ (i:Nat) (x:Oper),L[i]?=some x→(∀ e∈x.after,e.on<i)∧(∀ g b,x.guard=some (g,b)→g<L.size)):=by
 simp only [sinkOk,Bool.and_eq_true,List.all_eq_true,List.mem_range] at h
 obtain ⟨⟨h1,h2⟩,h3⟩:=h
 refine ⟨by simpa using h1,fun i hi=>?_,fun i x hx=>?_⟩
 ·have:=h2 i hi
  rw [Array.any_eq_true'] at this
  obtain ⟨e,he,hb⟩:=this
  simp only [Bool.and_eq_true,beq_iff_eq] at hb
  exact ⟨e,he,hb⟩
 ·have hi:i<L.size:=by
   rcases Nat.lt_or_ge i L.size with hlt | hge
   ·exact hlt
   ·rw [Array.getElem?_eq_none hge] at hx;cases hx
  have:=h3 i hi
  rw [hx] at this
  simp only [Bool.and_eq_true,Array.all_eq_true',decide_eq_true_eq] at this
  refine ⟨this.1,fun g b hg=>?_⟩
  have h4:=this.2
  rw [hg] at h4
  simpa using h4
theorem ready_mem {ops:Array Oper} {l:Array Bool} {i:Nat}:i∈Region.ready .any ops l↔i<ops.size∧l.getD i true=false∧∃ x,ops[i]?=some x∧∀ e∈x.after,Region.binds .any e=true→l.getD e.on false=true:=by
 unfold Region.ready
 rw [List.mem_filter,List.mem_range]
 constructor
 ·rintro ⟨h1,h2⟩
  simp only [Bool.and_eq_true,Bool.not_eq_true'] at h2
  obtain ⟨h3,h4⟩:=h2
  refine ⟨h1,h3,?_⟩
  cases hx:ops[i]? with
  | none=>rw [hx] at h4;simp at h4
  | some x =>
    rw [hx] at h4
    simp only [Option.map_some,Option.getD_some,Array.all_eq_true',Bool.or_eq_true,Bool.not_eq_true'] at h4
    exact ⟨x,rfl,fun e he hb=>by rcases h4 e he with h | h;· rw [hb] at h;cases h
                                 ·exact h⟩
 ·rintro ⟨h1,h3,x,hx,h4⟩
  refine ⟨h1,?_⟩
  simp only [Bool.and_eq_true,Bool.not_eq_true']
  refine ⟨h3,?_⟩
  rw [hx]
  simp only [Option.map_some,Option.getD_some,Array.all_eq_true',Bool.or_eq_true,Bool.not_eq_true']
  intro e he
  cases hb:Region.binds .any e
  ·exact .inl rfl
  ·exact .inr (h4 e he hb)
theorem ready_push (h:sinkOk L o=true) {l:Array Bool} (hl:l.size=L.size) (hne:∃ i,i<L.size∧l.getD i true=false) :
 Region.ready .any (L.push o) (l.push false)=Region.ready .any L l:=by
 obtain ⟨_,h2,h3⟩:=sink_spec h
 have hlast:∀ i,i∈Region.ready .any (L.push o) (l.push false)→i<L.size:=fun i hi=>by
  obtain ⟨g1,g2,x,hx,hw⟩:=ready_mem.1 hi
  rcases Nat.lt_or_ge i L.size with hlt | hge
  ·exact hlt
  ·have hi2:i=L.size:=by rw [Array.size_push] at g1;omega
   subst hi2
   have hxo:o=x:=by simpa using hx
   subst hxo
   obtain ⟨j,hj,hu⟩:=hne
   obtain ⟨e,he,hb,hon⟩:=h2 j hj
   have:=hw e he hb
   rw [hon,listed_push _ (by omega)] at this
   have h5:l.getD j true=true:=by
    simp [Array.getD_eq_getD_getElem?,Array.getElem?_eq_getElem (show j<l.size by omega)] at this ⊢
    exact this
   rw [h5] at hu
   cases hu
 have hiff:∀ i,i<L.size→(i∈Region.ready .any (L.push o) (l.push false)↔i∈Region.ready .any L l):=fun i hi=>by
  rw [ready_mem,ready_mem,push_get hi,listed_push _ (by omega),Array.size_push]
  constructor
  ·rintro ⟨_,g2,x,hx,hw⟩
   refine ⟨hi,g2,x,hx,fun e he hb=>?_⟩
   have:=hw e he hb
   rwa [listed_push _ (by have:=(h3 i x hx).1 e he;omega)] at this
  ·rintro ⟨_,g2,x,hx,hw⟩
   refine ⟨by omega,g2,x,hx,fun e he hb=>?_⟩
   rw [listed_push _ (by have:=(h3 i x hx).1 e he;omega)]
   exact hw e he hb
 unfold Region.ready at *
 rw [Array.size_push,List.range_succ,List.filter_append]
 have h6:List.filter (fun i=>!(l.push false).getD i true && (Option.map (fun x=>x.after.all fun e=>!Region.binds Region.Mode.any e || (l.push false).getD e.on false) (L.push o)[i]?).getD false) [L.size]=[]:=by
  rw [List.filter_eq_nil_iff]
  intro i hi hq
  have hi2:i=L.size:=by simpa using hi
  have:=hlast i (by rw [List.mem_filter,List.mem_range];exact ⟨by rw [Array.size_push];omega,hq⟩)
  omega
 rw [h6,List.append_nil]
 apply List.filter_congr
 intro i hi
 have hi:=List.mem_range.1 hi
 have:=hiff i hi
 rw [List.mem_filter,List.mem_filter,List.mem_range,List.mem_range,Array.size_push] at this
 rw [Bool.eq_iff_iff]
 constructor
 ·exact fun hq=>(this.1 ⟨by omega,hq⟩).2
 ·exact fun hq=>(this.2 ⟨hi,hq⟩).2
theorem ready_last (h:sinkOk L o=true) {l:Array Bool} (hl:l.size=L.size) (hall:∀ i,i<L.size→l.getD i true=true) :
 ∀ i∈Region.ready .any (L.push o) (l.push false),i=L.size:=fun i hi=>by
 obtain ⟨g1,g2,x,hx,hw⟩:=ready_mem.1 hi
 rcases Nat.lt_or_ge i L.size with hlt | hge
 ·rw [listed_push _ (by omega),hall i hlt] at g2
  cases g2
 ·rw [Array.size_push] at g1
  omega
theorem ready_last_mem (hB:∀ e∈o.after,e.on<L.size) {l:Array Bool} (hl:l.size=L.size) (hall:∀ i,i<L.size→l.getD i true=true) :
 L.size∈Region.ready .any (L.push o) (l.push false):=by
 rw [ready_mem]
 refine ⟨by simp,by rw [← hl,listed_last],o,by simp,fun e he _=>?_⟩
 have h1:=hB e he
 rw [listed_push _ (by omega)]
 have:=hall _ h1
 simp [Array.getD_eq_getD_getElem?,Array.getElem?_eq_getElem (show e.on<l.size by omega)] at this ⊢
 exact this
theorem ready_nil (h:sinkOk L o=true) {l:Array Bool} (hr:Region.ready .any L l=[]):∀ n i,i<n→i<L.size→l.getD i true=true:=by
 obtain ⟨_,_,h3⟩:=sink_spec h
 intro n
 induction n with
 | zero=>intro i hi;omega
 | succ n ih =>
   intro i hi hiL
   cases hg:l.getD i true with
   | true=>rfl
   | false =>
     exfalso
     have hx:L[i]?=some L[i]:=Array.getElem?_eq_getElem hiL
     have:i∈Region.ready .any L l:=ready_mem.2 ⟨hiL,hg,_,hx,fun e he _=>by
      have h1:=(h3 i _ hx).1 e he
      have h2:=ih e.on (by omega) (by omega)
      have h4:e.on<l.size:=by
       rcases Nat.lt_or_ge e.on l.size with hlt | hge
       ·exact hlt
       ·have h5:l.size≤i:=by omega
        simp [Array.getD_eq_getD_getElem?,Array.getElem?_eq_none h5] at hg
      simp [Array.getD_eq_getD_getElem?,Array.getElem?_eq_getElem h4] at h2 ⊢
      exact h2⟩
     rw [hr] at this
     cases this
theorem wpAny_sink (h:sinkOk L o=true) (hB:∀ e∈o.after,e.on<L.size):∀ (fuel:Nat) (l:Array Bool) (a:Act) (w:World),l.size=L.size →
 wpAny P .any L (sinkQ P o Q) fuel l a w→wpAny P .any (L.push o) Q (fuel+1) (l.push false) a w:=by
 obtain ⟨hgd,_,h3⟩:=sink_spec h
 have last:∀ (fuel:Nat) (l:Array Bool) (a:Act) (w:World),l.size=L.size→Region.ready .any L l=[]→sinkQ P o Q .normal a w→wpAny P .any (L.push o) Q (fuel+1) (l.push false) a w:=by
  intro fuel l a w hl hr hq
  have hall:∀ i,i<L.size→l.getD i true=true:=fun i hi=>ready_nil h hr (i+1) i (by omega) hi
  have hm:=ready_last_mem (o:=o) hB hl hall
  refine ⟨fun h0=>(by rw [h0] at hm;cases hm),fun i hi=>?_⟩
  obtain rfl:=ready_last h hl hall i hi
  unfold wpOp
  have ho:(L.push o)[L.size]?=some o:=by simp
  simp only [ho,Region.wanted,hgd,if_true]
  refine .inl (Oper.wp_mono (fun a' w' hq'=>?_) hq)
  have hrd:Region.ready .any (L.push o) ((l.push false).setIfInBounds L.size true)=[]:=by
   rw [List.eq_nil_iff_forall_not_mem]
   intro i hi
   obtain ⟨g1,g2,_⟩:=ready_mem.1 hi
   rw [Array.size_push] at g1
   have h7:((l.push false).setIfInBounds L.size true).getD i true=true:=by
    rcases Nat.lt_or_ge i L.size with hlt | hge
    ·have h8:=hall i hlt
     have h9:i<l.size:=by omega
     simp [Array.getD_eq_getD_getElem?,Array.getElem?_setIfInBounds,Array.getElem?_push,hl,Nat.ne_of_lt hlt,Array.getElem?_eq_getElem h9,Nat.ne_of_gt hlt] at h8 ⊢
     exact h8
    ·have hi2:i=L.size:=by omega
     subst hi2
     simp [Array.getD_eq_getD_getElem?,Array.getElem?_setIfInBounds,hl]
   rw [h7] at g2
   cases g2
  exact wpAny_done hrd hq' fuel
 intro fuel
 induction fuel with
 | zero=>intro l a w hl hh;exact last 0 l a w hl hh.1 hh.2
 | succ f ih =>
   intro l a w hl hh
   by_cases hr:Region.ready .any L l=[]
   ·exact last (f+1) l a w hl hr (hh.1 hr)
   ·have hne:∃ i,i<L.size∧l.getD i true=false:=by
     obtain ⟨i,hi⟩:=List.exists_mem_of_ne_nil _ hr
     obtain ⟨g1,g2,_⟩:=ready_mem.1 hi
     exact ⟨i,g1,g2⟩
    have hrp:=ready_push (o:=o) h hl hne
    refine ⟨fun h0=>absurd (hrp ▸ h0) hr,fun i hi=>?_⟩
    rw [hrp] at hi
    have hk:=hh.2 i hi
    have hiL:i<L.size:=(ready_mem.1 hi).1
    have hx:L[i]?=some L[i]:=Array.getElem?_eq_getElem hiL
    have hx':(L.push o)[i]?=some L[i]:=by rw [push_get hiL];exact hx
    have hyl:Region.wanted L[i] (yielded (L.push o) a.tmps)=Region.wanted L[i] (yielded L a.tmps):=by
     unfold Region.wanted
     cases hg:L[i].guard with
     | none=>rfl
     | some gb =>
       obtain ⟨g,b⟩:=gb
       have:=(h3 i _ hx).2 g b hg
       simp only [yielded,push_get this]
    unfold wpOp at hk ⊢
    simp only [hx,hx',hyl] at hk ⊢
    have next:∀ a' w',wpAny P .any L (sinkQ P o Q) f (l.setIfInBounds i true) a' w'→wpAny P .any (L.push o) Q (f+1) ((l.push false).setIfInBounds i true) a' w':=fun a' w' hq=>by
     rw [set_push (by omega)]
     exact ih _ a' w' (by simpa using hl) hq
    split
    ·rename_i hw
     simp only [hw,if_true] at hk
     exact hk.imp (fun hq=>wp_post (fun _ _ _ q=>q) id (Oper.wp_mono next hq)) id
    ·rename_i hw
     simp only [hw] at hk
     exact next _ _ hk
theorem wp_region_sink {S:World→Prop} {id:Nat} {a:Act} {w:World} (hm:P.follows .mixedOrders=true) (h:sinkOk L o=true) (hB:o.after.all (fun e=>decide (e.on<L.size))=true)
 (hh:wpAnyH P .any L (sinkQ P o Q) S L.size (Array.replicate L.size false) a w.drew):(Code.region id (L.push o) true).wp P Q a w:=by
 refine wp_region_any hm ?_
 have h1:=wpAny_sink h (fun e he=>by rw [Array.all_eq_true'] at hB;simpa using hB e he) L.size (Array.replicate L.size false) a w.drew (by simp) (wpAny_of_held _ _ _ _ hh)
 rw [Array.size_push,show Array.replicate (L.size+1) false=(Array.replicate L.size false).push false from by simp [Array.replicate_succ]]
 exact h1
theorem wp_region_sink_lit {S:World→Prop} {id:Nat} {a:Act} {w:World} {l:List Oper} (n:Nat) (hm:P.follows .mixedOrders=true) (hd:l.drop n=[o]) (hn:(l.take n).length=n) (h:sinkOk (l.take n).toArray o=true) (hB:o.after.all (fun e=>decide (e.on<n))=true)
 (hS:S w.drew) (hh:S w.drew→wpAnyH P .any (l.take n).toArray (sinkQ P o Q) S n (Array.replicate n false) a w.drew):(Code.region id l.toArray true).wp P Q a w:=by
 have e:l.toArray=(l.take n).toArray.push o:=by
  apply Array.ext'
  simp only [Array.toList_push]
  rw [← hd]
  simp
 have hs:(l.take n).toArray.size=n:=by simpa using hn
 rw [e]
 refine wp_region_sink (S:=S) hm h (by rw [hs];exact hB) ?_
 rw [hs]
 exact hh hS
end
end Go.Proofs.YtmcmbicapdcfmaaGreat
namespace Go.Proofs.YtmcmbicapdcfmaaGreat
open Go.RowKit Go.Shelf Go.Proofs
theorem grown_drew (w:World) (row:Option Nat):w.grownBy w.drew row:=⟨rfl,rfl,rfl,lr_,fun _ _ _=>rfl⟩
theorem grown_alloc (w:World) (o:Obj) (row:Option Nat):w.grownBy (w.alloc o) row:=⟨rfl,rfl,rfl,by simp,fun _ hk _=>Below.heap_alloc _ _ _ hk⟩
theorem grown_setCell (w:World) (g o:Nat) (v:Value):w.grownBy (w.setCell ⟨g,o,none⟩ v) (some g):=⟨rfl,rfl,rfl,by simp,fun k _ hne=>Below.heap_setCell _ _ _ _ (fun e=>hne (by rw [e]))⟩
theorem grown_setCells (g:Nat):∀ (vs:List Value) (o:Nat) (w:World),w.grownBy (w.setCells g o vs) (some g)
 | [],_,_=>⟨rfl,rfl,rfl,lr_,fun _ _ _=>rfl⟩
 | v :: r,o,w=>(grown_setCell w g o v).trans (grown_setCells g r (o+1) _)
theorem block_setCells {g:Nat} {t:TypeId}:∀ (vs:List Value) (o:Nat) (w:World) (cur:Array Value),w.heap[g]?=some (.cells cur t (0,0))→∃ cur',(w.setCells g o vs).heap[g]?=some (.cells cur' t (0,0))∧cur'.size=cur.size ∧
 ∀ j,j<cur.size→cur'[j]?=if o≤j∧j<o+vs.length then vs[j - o]? else cur[j]?
 | [],o,w,cur,h=>⟨cur,h,rfl,fun j _=>by rw [if_neg (by simp)]⟩
 | v :: r,o,w,cur,h=>by
   obtain ⟨c',h1,h2,h3⟩:=block_setCells r (o+1) (w.setCell ⟨g,o,none⟩ v) _ (heap_setCell_same w g o cur t v h)
   refine ⟨c',h1,by simpa using h2,fun j hj=>?_⟩
   rw [h3 j (by simpa using hj),Array.getElem?_setIfInBounds]
   by_cases e:j=o
   ·subst e
    rw [if_neg (by omega),if_pos rfl,if_pos hj,if_pos (by simp),Nat.sub_self,List.getElem?_cons_zero]
   ·by_cases h4:o+1≤j∧j<o+1+r.length
    ·rw [if_pos h4,if_pos (by simp;omega),show j - o=(j - (o+1))+1 from by omega,List.getElem?_cons_succ]
    ·rw [if_neg h4,if_neg (fun h=>e h.symm),if_neg (by simp;omega)]
end Go.Proofs.YtmcmbicapdcfmaaGreat
namespace Go.Proofs.YtmcmbicapdcfmaaGreat
open Go.RowKit
theorem infoFol:(Tryz.prog.info? 48).map (fun i=>(i.zero,i.size,i.bytes))=some (some (.agg #[.int .i64 0,.int .i64 0]),2,16):=by kernel_rfl
def folCells (fs:List (Int × Int)):List Value:=fs.flatMap fun f=>[.int .i64 f.1,.int .i64 f.2]
def rcFol (r:Rcp):List (Int × Int):=r.lv.map fun x=>(r.pap,x)
def namL (l:Led):List (Int × Int):=l.rc.flatMap rcFol ++ l.sg.map fun s=>(s.pap,s.leaf)
def RetF (fs:List (Int × Int)) (w:World) (e:Ending) (w':World):Prop:=∃ v,e=.returned v∧Below w.heap.size w w'∧w'.ownsRow w.heap.size 48 2 v fs.length (folCells fs)
theorem own_ne {W:World} {base size n b:Nat} {e T:TypeId} {v:Value} {xs:List Value} {cs:Array Value} (h:W.ownsRow base e size v n xs) (hb:W.heap[b]?=some (.cells cs T (0,0))) (hT:T≠e):some b≠v.ownBlock:=by
 rcases h.2 with ⟨rfl,_⟩ | ⟨g,cap,cur,rfl,_,hg,_⟩
 ·simp [Value.ownBlock]
 ·intro he
  simp only [Value.ownBlock,Option.some.injEq] at he
  subst he
  rw [hg] at hb
  simp only [Option.some.injEq,Obj.cells.injEq] at hb
  exact hT hb.2.1.symm
theorem box_kept {W W0 w':World} {base size n b:Nat} {e T:TypeId} {v:Value} {xs:List Value} {cs:Array Value} (hb:W.heap[b]?=some (.cells cs T (0,0))) (h:W0.ownsRow base e size v n xs) (hb0:W0.heap[b]?=some (.cells cs T (0,0))) (hT:T≠e) (hg:W.grownBy w' v.ownBlock):w'.heap[b]?=some (.cells cs T (0,0)) :=
 (hg.block b (Array.getElem?_eq_some_iff.1 hb).1 (own_ne h hb0 hT)).trans hb
theorem OwnS.below {w W W0 w2:World} {B size n:Nat} {e:TypeId} {v:Value} {xs:List Value} (hB:Below B w W) (ho:W0.ownsRow B e size v n xs) (hs:B≤W.heap.size) (hg:W.grownBy w2 v.ownBlock):Below B w w2 :=
 hB.grown hg hs fun k ek=>own_base ho ek
theorem own_ex {W W':World} {base size n:Nat} {e:TypeId} {v:Value} {xs:List Value} (h:W.ownsRow base e size v n xs) (hb:Below W.heap.size W W'):W'.ownsRow base e size v n xs:=by
 refine ⟨h.1,h.2.imp id ?_⟩
 rintro ⟨g,cap,cur,hv,hB,hg,r⟩
 exact ⟨g,cap,cur,hv,hB,(hb.block g (Array.getElem?_eq_some_iff.1 hg).1).trans hg,r⟩
theorem take_fol {l:List Rcp} {k:Nat} {r:Rcp} (h:l[k]?=some r):(l.take (k+1)).flatMap rcFol=(l.take k).flatMap rcFol ++ rcFol r:=by rw [take_snoc_some h];simp
theorem fol_len {l:List Rcp} (h:∀ r∈l,r.lv.length≤30) (k:Nat):((l.take k).flatMap rcFol).length≤30*k:=by
 induction k generalizing l with
 | zero=>simp
 | succ k ih =>
   cases l with
   | nil=>simp
   | cons r l =>
     have h1:=ih (l:=l) fun r hr=>h r (List.mem_cons_of_mem _ hr)
     have h2:=h r (by simp)
     simp only [List.take_succ_cons,List.flatMap_cons,List.length_append,rcFol,List.length_map] at h1 ⊢
     omega
set_option maxRecDepth 10000 in
theorem p_named (l:Led) (x:Lsl) (w:World) (hr:x.rn≤60) (hs:x.sn≤60) (hl30:∀ r∈l.rc,r.lv.length≤30) (hd:LedIn w w.heap.size x l) :
 Calls Tryz.prog 58 #[.agg #[.slice x.pA x.pn x.pc,.slice x.rA x.rn x.rc,.slice x.tA x.tn x.tc,.slice x.sA x.sn x.sc]] w (RetF (namL l) w):=by
 obtain ⟨i0,hi,hz0,hz1,hz2⟩:=info_parts infoFol
 have hl1:=hd.r.len
 have hl3:=hd.s.len
 have HD:=hd_ (hd.now ((Below.refl w.heap.size w).alloc lr_ (.cells #[.slice x.pA x.pn x.pc,.slice x.rA x.rn x.rc,.slice x.tA x.tn x.tc,.slice x.sA x.sn x.sc] 32)))
 have HL1:=hd_ hl1
 have HL3:=hd_ hl3
 have H30:=hd_ hl30
 clear hl1 hl3 hd hl30
 go_enter Tryz.func58,Tryz.ntmps58
 go_wp2
 go_loopw [3,13] (fun v i wr=>∃ k:Nat,k≤x.rn∧i=.int .i64 k∧wr.ownsRow (w.heap.size+1) 48 2 v ((l.rc.take k).flatMap rcFol).length (folCells ((l.rc.take k).flatMap rcFol))∧Below (w.heap.size+1) (w.alloc (.cells #[.slice x.pA x.pn x.pc,.slice x.rA x.rn x.rc,.slice x.tA x.tn x.tc,.slice x.sA x.sn x.sc] 32)) wr) (fun _ i _=>x.rn - (intOf i).toNat)
 case atStart=>exact ⟨0,by omega,rfl,World.ownsRow_nil _ _ _ _,by exact bel_⟩
 case round =>
  obtain ⟨k,hk,rfl,hown,hB⟩:=hrel
  have hs0:w.heap.size+1≤wr.heap.size:=by have h:=hB.size;simp at h;omega
  by_cases hlt:k<x.rn
  ·obtain ⟨b,o,e,hA,hb,he,hq⟩:=(Sq.ext HD.out.r abR (w':=wr) (by simpa using hB) lr_).at_ hlt
   obtain ⟨A1,n1,c1,⟨a0,a1,a2,a3,a4,a5,a6⟩,hi1,hc1,hm1⟩:=hq
   have hbr:b<wr.heap.size:=by simp at hb;omega
   have hn1:n1≤30:=by rw [← hi1.len];exact H30.out e (List.mem_of_getElem? he)
   have hfl:=fol_len H30.out k
   have HE:=hd_ (take_fol he)
   have HI:=hd_ hi1
   have HIL:=hd_ hi1.len
   obtain ⟨L0,hL0⟩:∃ L0,(l.rc.take k).flatMap rcFol=L0:=⟨_,rfl⟩
   rw [hL0] at hown hfl HE
   obtain ⟨wo,hwo⟩:∃ wo,wo=wr:=⟨_,rfl⟩
   subst hwo
   have HB:=hd_ hB
   have HO:=hd_ hown
   clear he hi1 hB hL0 hown
   go_wp2
   have HAA:=hd_ hA
   clear hA
   go_loopw [3,20] (fun v i wq=>∃ j:Nat,j≤n1∧i=.int .i64 j∧wq.ownsRow (w.heap.size+1) 48 2 v (L0.length+j) (folCells (L0 ++ (e.lv.take j).map fun y=>(e.pap,y)))∧Below (w.heap.size+1) wo wq∧wq.heap[wo.heap.size]?=some (.cells #[.int .i64 e.src,.int .i64 e.bor,.int .i64 e.pap,.slice A1 n1 c1,.int .i64 e.day,.int .i64 e.kn,.int .i64 e.un] 79 (0,0))) (fun _ i _=>n1 - (intOf i).toNat)
   case atStart=>exact ⟨0,by omega,rfl,by simpa using HO.out.alloc _,by exact bel_,by simpa using World.alloc_heap_new wo _⟩
   case round =>
    obtain ⟨j,hj,rfl,hown,hQ,hbox⟩:=hrel
    have hBQ:Below (w.heap.size+1) (w.alloc (.cells #[.slice x.pA x.pn x.pc,.slice x.rA x.rn x.rc,.slice x.tA x.tn x.tc,.slice x.sA x.sn x.sc] 32)) wr:=HB.out.trans hQ
    have hbl:wo.heap.size<wr.heap.size:=(Array.getElem?_eq_some_iff.1 hbox).1
    have x2:wr.cell? ⟨wo.heap.size,2,none⟩=some (.int .i64 e.pap):=by simp [World.cell?,hbox]
    by_cases hjn:j<n1
    ·have HI2:Is wr (w.alloc (.cells #[.slice x.pA x.pn x.pc,.slice x.rA x.rn x.rc,.slice x.tA x.tn x.tc,.slice x.sA x.sn x.sc] 32)).heap.size A1 n1 e.lv:=Rd.keep HI.out (w':=wr) fun b' o' hb'=>hQ.cell (p:=⟨b',o',none⟩) (by simpa using hb')
     obtain ⟨b1,o1,y,rfl,hb1,hy,hc0⟩:=HI2.at_ hjn
     clear HI2
     have HY:=hd_ (take_snoc_some hy)
     have HOI:=hd_ hown
     have HQ:=hd_ hQ
     have HBX:=hd_ hbox
     clear hy hQ hbox
     go_wp2_with (at_builtin;refine wpList_append_own _ rfl (.tmp 24) (.tmp 29) 44 rfl (w.heap.size+1) 48 i0 _ 2 16 Tryz.underlying44 hi hz0 hz1 hz2 rfl (by decide) _ _ _ rfl (hown.alloc _) ⟨wr.heap.size,0,none⟩ 1 1 [.int .i64 e.pap,.int .i64 y] rfl rfl ?c1 ?c2 ?c3 ?c4 ?c5 ?_;rotate_left 5;intro v' w2 hown2 hgrow2 _)
     case c1=>intro j u hj;match j,hj with
      | 0,hj=>simp at hj;subst hj;simp [Addr.add]
      | 1,hj=>simp at hj;subst hj;simp [Addr.add]
     case c2=>simp [Value.oneCell']
     case c3=>unfold maxLen;omega
     case c4=>omega
     case c5=>simp;omega
     go_roundw
     case rel =>
      refine ⟨j+1,by omega,by go_num,?_,OwnS.below (by have:=HQ.out;exact bel_) HOI.out (by simp;omega) hgrow2,?_⟩
      ·rw [HY.out]
       have e1:folCells (L0 ++ (e.lv.take j ++ [y]).map fun y=>(e.pap,y))=folCells (L0 ++ (e.lv.take j).map fun y=>(e.pap,y)) ++ [.int .i64 e.pap,.int .i64 y]:=by simp [folCells]
       rw [e1]
       exact hown2
      ·exact box_kept (W:=wr.alloc (.cells #[.int .i64 e.pap,.int .i64 y] 48)) ((Below.heap_alloc _ _ _ hbl).trans HBX.out) HOI.out HBX.out (by decide) hgrow2
     case measure=>exact ms_
    ·have hjk:Hid (j=n1):=by show _=_;omega
     have HOI:=hd_ hown
     have HBQ:=hd_ hBQ
     clear hown hBQ hbox hQ
     go_wp2
     have hA:=HAA.out
     go_roundw
     case rel =>
      refine ⟨k+1,by omega,by go_num,?_,HBQ.out⟩
      rw [HE.out]
      have h:=HOI.out
      rw [hjk.out,List.take_of_length_le (by rw [HIL.out];exact lr_)] at h
      rw [List.length_append,show (rcFol e).length=n1 from by rw [rcFol,List.length_map,HIL.out]]
      exact h
     case measure=>exact ms_
  ·have hkn:Hid (k=x.rn):=by show _=_;omega
   obtain ⟨hcw,hfw⟩:=bcell (W:=(w.alloc (.cells #[.slice x.pA x.pn x.pc,.slice x.rA x.rn x.rc,.slice x.tA x.tn x.tc,.slice x.sA x.sn x.sc] 32))) (by simpa using hB)
   have HBW:=hd_ hB
   have HOW:=hown
   rw [hkn.out,List.take_of_length_le (by rw [HL1.out];exact lr_)] at HOW
   have hlen1:(l.rc.flatMap rcFol).length≤1800:=by
    have h:=fol_len H30.out x.rn
    rw [List.take_of_length_le (by rw [HL1.out];exact lr_)] at h
    omega
   obtain ⟨L1,hL1⟩:∃ L1,l.rc.flatMap rcFol=L1:=⟨_,rfl⟩
   rw [hL1] at HOW hlen1
   have HOW:=hd_ HOW
   have HL:=hd_ hL1
   clear hB hown hL1
   go_wp2
   go_loopw [3,36] (fun v i wr=>∃ k:Nat,k≤x.sn∧i=.int .i64 k∧wr.ownsRow (w.heap.size+1) 48 2 v (L1.length+k) (folCells (L1 ++ (l.sg.take k).map fun s=>(s.pap,s.leaf)))∧Below (w.heap.size+1) (w.alloc (.cells #[.slice x.pA x.pn x.pc,.slice x.rA x.rn x.rc,.slice x.tA x.tn x.tc,.slice x.sA x.sn x.sc] 32)) wr) (fun _ i _=>x.sn - (intOf i).toNat)
   case atStart=>exact ⟨0,by omega,rfl,by simpa using HOW.out,HBW.out⟩
   case round =>
    obtain ⟨k3,hk3,rfl,hown,hB⟩:=hrel
    have hs0:w.heap.size+1≤wr.heap.size:=by have h:=hB.size;simp at h;omega
    by_cases hlt3:k3<x.sn
    ·obtain ⟨b,o,e,hA,hb,he,a0,a1,a2,a3,a4,a5,a6⟩:=(Sq.ext HD.out.s abS (w':=wr) (by simpa using hB) lr_).at_ hlt3
     have hbr:b<wr.heap.size:=by simp at hb;omega
     have HE:=hd_ (take_snoc_some he)
     have HO:=hd_ hown
     have HB:=hd_ hB
     clear he hB hown
     go_wp2_with (go_at_call 87;refine (p_folioOf e _).mono ?_;rintro e' w4 ⟨rfl,hb4⟩;refine Hid.out ?_)
     refine hd_ ?_
     have hQ4:Below wr.heap.size wr w4:=bt_ (W:=wr.alloc (.cells #[.int .i64 e.src,.int .i64 e.per,.int .i64 e.pap,.int .i64 e.leaf,.int .i64 e.day,.int .i64 e.kn,.int .i64 e.un] 70)) (by exact bel_) hb4
     have hs4:=hQ4.size
     have hown4:=own_ex HO.out hQ4
     have HO4:=hd_ hown4
     have HQ4:=hd_ hQ4
     clear hb4 hQ4
     go_wp2_with (at_builtin;refine wpList_append_own _ rfl (.tmp 40) (.tmp 43) 44 rfl (w.heap.size+1) 48 i0 _ 2 16 Tryz.underlying44 hi hz0 hz1 hz2 rfl (by decide) _ _ _ rfl (hown4.alloc _) ⟨w4.heap.size,0,none⟩ 1 1 [.int .i64 e.pap,.int .i64 e.leaf] rfl rfl ?c1 ?c2 ?c3 ?c4 ?c5 ?_;rotate_left 5;intro v' w2 hown2 hgrow2 _)
     case c1=>intro j u hj;match j,hj with
      | 0,hj=>simp at hj;subst hj;simp [Addr.add]
      | 1,hj=>simp at hj;subst hj;simp [Addr.add]
     case c2=>simp [Value.oneCell']
     case c3=>unfold maxLen;omega
     case c4=>omega
     case c5=>simp;omega
     go_roundw
     case rel =>
      (repeat apply Exists.intro)
      refine ⟨⟨k3+1,by omega,by go_num,?_,OwnS.below ((HB.out.trans (HQ4.out.mono hs0)).alloc (by omega) _) HO4.out (by simp;omega) hgrow2⟩,?_⟩
      ·rw [HE.out]
       have e1:folCells (L1 ++ (l.sg.take k3 ++ [e]).map fun s=>(s.pap,s.leaf))=folCells (L1 ++ (l.sg.take k3).map fun s=>(s.pap,s.leaf)) ++ [.int .i64 e.pap,.int .i64 e.leaf]:=by simp [folCells]
       rw [e1]
       exact hown2
      ·first | rfl | (rw [hA] <;> rfl) | rw [hA]
     case measure=>exact ms_
    ·have hk3n:Hid (k3=x.sn):=by show _=_;omega
     have HO:=hd_ hown
     have HB:=hd_ hB
     clear hown hB
     go_wp2
     go_ret
     refine ⟨_,rfl,(show Below w.heap.size w (w.alloc (.cells #[.slice x.pA x.pn x.pc,.slice x.rA x.rn x.rc,.slice x.tA x.tn x.tc,.slice x.sA x.sn x.sc] 32)) by exact bel_).trans (HB.out.mono (Nat.le_succ _)),?_⟩
     have h:=HO.out
     rw [hk3n.out,List.take_of_length_le (by rw [HL3.out];exact lr_)] at h
     rw [namL,HL.out,List.length_append,List.length_map,HL3.out]
     exact own_dn h (Nat.le_succ _)
def QF (w:World) (_ b o:Nat) (f:Int × Int):Prop:=w.cell? ⟨b,o,none⟩=some (.int .i64 f.1)∧w.cell? ⟨b,o+1,none⟩=some (.int .i64 f.2)
theorem abF:Abides QF:=⟨fun w w' B b o x h hb hk=>⟨(hk _ _ hb).trans h.1,(hk _ _ hb).trans h.2⟩,fun _ _ _ _ _ _ h _=>h⟩
abbrev Fos:=Sq QF 2
theorem folCells_get:∀ (fs:List (Int × Int)) (k:Nat) (f:Int × Int),fs[k]?=some f→(folCells fs)[k*2]?=some (.int .i64 f.1)∧(folCells fs)[k*2+1]?=some (.int .i64 f.2)
 | [],k,f,h=>by simp at h
 | g :: fs,0,f,h=>by
   simp at h
   subst h
   simp [folCells]
 | g :: fs,k+1,f,h=>by
   have h1:=folCells_get fs k f (by simpa using h)
   have e:folCells (g :: fs)=.int .i64 g.1 :: .int .i64 g.2 :: folCells fs:=rfl
   rw [e,show (k+1)*2=k*2+1+1 from by omega]
   simpa using h1
theorem fos_of_own {w:World} {base n c:Nat} {A:Option Addr} {fs:List (Int × Int)} (h:w.ownsRow base 48 2 (.slice A n c) n (folCells fs)) (hn:fs.length=n):Fos w w.heap.size A n fs:=by
 have hr:=Rd.of_own h
 refine ⟨hn,fun h0=>?_⟩
 obtain ⟨b,o,e,hb,hc⟩:=hr.2 h0
 refine ⟨b,o,e,hb,fun k f hf=>?_⟩
 obtain ⟨h1,h2⟩:=folCells_get fs k f hf
 exact ⟨hc _ _ h1,by have:=hc _ _ h2;rwa [← Nat.add_assoc] at this⟩
def LedBox (w:World) (bl:Nat) (x:Lsl):Prop:=w.cell? ⟨bl,0,none⟩=some (.slice x.pA x.pn x.pc)∧w.cell? ⟨bl,1,none⟩=some (.slice x.rA x.rn x.rc)∧w.cell? ⟨bl,2,none⟩=some (.slice x.tA x.tn x.tc)∧w.cell? ⟨bl,3,none⟩=some (.slice x.sA x.sn x.sc)
theorem LedBox.lt {w:World} {bl:Nat} {x:Lsl} (h:LedBox w bl x):bl<w.heap.size:=block_lt_of_cell h.1
theorem LedBox.ext {w w':World} {bl:Nat} {x:Lsl} (h:LedBox w bl x) (hb:Below w.heap.size w w'):LedBox w' bl x:=by
 have hl:=h.lt
 obtain ⟨h0,h1,h2,h3⟩:=h
 exact ⟨(hb.cell (p:=⟨bl,0,none⟩) hl).trans h0,(hb.cell (p:=⟨bl,1,none⟩) hl).trans h1,(hb.cell (p:=⟨bl,2,none⟩) hl).trans h2,(hb.cell (p:=⟨bl,3,none⟩) hl).trans h3⟩
theorem p_notHas (pp:List Ppr) (x:Lsl) (a b:Int) (v:Bool) (bl:Nat) (w:World) (hn:x.pn≤9223372036854775807) (hd:Pps w w.heap.size x.pA x.pn pp) (hbx:LedBox w bl x) (hv:folB pp a b=v) :
 Calls Tryz.prog 59 #[.agg #[.int .i64 a,.int .i64 b],.pointer (some ⟨bl,0,none⟩)] w fun e w'=>e=.returned (.bool (!v))∧Below w.heap.size w w':=by
 subst hv
 have HD:=hd_ hd
 have hbl:=hbx.lt
 obtain ⟨c0,c1,c2,c3⟩:=hbx
 clear hd
 go_enter Tryz.func59,Tryz.ntmps59
 go_wp2_with (go_at_call 60;refine (p_has pp x a b _ hn (HD.out.now abP (by exact bel_))).mono ?_;rintro e w1 ⟨rfl,hb1⟩)
 go_ret
 exact ⟨rfl,bt_ (W:=w.alloc (.cells #[.int .i64 a,.int .i64 b] 48)) (by exact bel_) hb1⟩
def folsB (pp:List Ppr) (fs:List (Int × Int)):Bool:=fs.all fun f=>folB pp f.1 f.2
theorem l_indexFol (pp:List Ppr) (x:Lsl) (fs:List (Int × Int)) (bl:Nat) (A:Option Addr) (n c:Nat) (w:World) (hn:n≤1000000) (hp:x.pn≤9223372036854775807) (hd:Pps w w.heap.size x.pA x.pn pp) (hbx:LedBox w bl x) (h:Fos w w.heap.size A n fs) :
 Calls Tryz.prog 116 #[.slice A n c,.func (.func 59) #[] #[.pointer (some ⟨bl,0,none⟩)]] w fun e w'=>(∃ r:Int,e=.returned (.int .i64 r)∧decide (0≤r)=!folsB pp fs)∧Below w.heap.size w w':=by
 have HI:=hd_ h
 have HL:=hd_ h.len
 have HD:=hd_ hd
 have HX:=hd_ hbx
 clear h hd hbx
 go_enter Tryz.func116,Tryz.ntmps116
 go_wp2
 go_loopw [8] (fun i wr=>∃ k:Nat,k≤n∧i=.int .i64 k∧folsB pp (fs.take k)=true∧Below w.heap.size w wr) (fun i _=>n - (intOf i).toNat)
 case atStart=>exact ⟨0,by omega,rfl,rfl,Below.refl _ _⟩
 case round =>
  obtain ⟨k,hk,rfl,ho,hB⟩:=hrel
  have HO:=hd_ ho
  clear ho
  by_cases hlt:k<n
  ·obtain ⟨b,o,f,rfl,hb,hf,h0,h1⟩:=(Sq.ext HI.out abF hB lr_).at_ hlt
   have HF:=hd_ hf
   clear hf
   have hs0:=hB.size
   cases hv:folB pp f.1 f.2 with
   | true =>
     have hN:=hd_ (p_notHas pp x f.1 f.2 true bl wr hp (HD.out.now abP hB) (HX.out.ext hB) hv)
     have H1:Hid (folsB pp (fs.take (k+1))=true):=by
      show _=_
      have:=HO.out
      rw [folsB,take_snoc_some HF.out,List.all_append]
      rw [folsB] at this
      simp [this,hv]
     clear hv
     go_wp2_with (go_at_call 59;refine hN.out.mono ?_;rintro e w1 ⟨rfl,hb1⟩)
     go_roundw
     case rel=>exact ⟨k+1,by omega,by go_num,H1.out,bt_ hB hb1⟩
     case measure=>exact ms_
   | false =>
     have hN:=hd_ (p_notHas pp x f.1 f.2 false bl wr hp (HD.out.now abP hB) (HX.out.ext hB) hv)
     have H1:Hid (folsB pp fs=false):=by
      show _=_
      rw [folsB,List.all_eq_false]
      exact ⟨f,List.mem_of_getElem? HF.out,by simp [hv]⟩
     clear hv
     go_wp2_with (go_at_call 59;refine hN.out.mono ?_;rintro e w1 ⟨rfl,hb1⟩)
     go_ret
     exact ⟨⟨k,rfl,by rw [H1.out];simp⟩,bt_ hB hb1⟩
  ·have H1:Hid (folsB pp fs=true):=by
    show _=_
    have:=HO.out
    rwa [List.take_of_length_le (by rw [HL.out];omega)] at this
   go_wp2
   go_ret
   exact ⟨⟨-1,rfl,by rw [H1.out];rfl⟩,hB⟩
theorem l_containsFol (pp:List Ppr) (x:Lsl) (fs:List (Int × Int)) (bl:Nat) (A:Option Addr) (n c:Nat) (w:World) (hn:n≤1000000) (hp:x.pn≤9223372036854775807) (hd:Pps w w.heap.size x.pA x.pn pp) (hbx:LedBox w bl x) (h:Fos w w.heap.size A n fs) :
 Calls Tryz.prog 57 #[.slice A n c,.func (.func 59) #[] #[.pointer (some ⟨bl,0,none⟩)]] w fun e w'=>e=.returned (.bool (!folsB pp fs))∧Below w.heap.size w w':=by
 have HC:=hd_ (l_indexFol pp x fs bl A n c w hn hp hd hbx h)
 clear hd hbx h
 go_enter Tryz.func57,Tryz.ntmps57
 go_wp2_with (go_at_call 116;refine HC.out.mono ?_;rintro e w1 ⟨⟨r,rfl,hr⟩,hb1⟩)
 go_ret
 exact ⟨ret_bool (by rw [← hr]),hb1⟩
end Go.Proofs.YtmcmbicapdcfmaaGreat
