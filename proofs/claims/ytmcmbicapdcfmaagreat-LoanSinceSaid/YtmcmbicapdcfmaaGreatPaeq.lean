/- Layer 2 of the texts that the statements over histories take: Paeq. -/
import Derived.Test.YtmcmbicapdcfmaaGreatPaaq
set_option linter.unusedVariables false
set_option linter.unusedSimpArgs false
set_option maxHeartbeats 16000000
namespace Go.Proofs.YtmcmbicapdcfmaaGreat
open Go.RowKit
def sinkQ (P:Program) (o:Oper) (Q:Exit→Act→World→Prop):Exit→Act→World→Prop
 | .normal,a,w=>o.wp P a w (Q .normal) Q
 | e,a,w=>Q e a w
def sinkOk (L:Array Oper) (o:Oper):Bool :=
 o.guard.isNone && (List.range L.size).all (fun i=>o.after.any fun e=>Region.binds .any e && e.on == i) &&
 (List.range L.size).all fun i=>match L[i]? with
   | none=>true
   | some x=>x.after.all (fun e=>decide (e.on<i)) && (match x.guard with | none=>true | some (g,_)=>decide (g<L.size))
section
variable {P:Program} {L:Array Oper} {o:Oper} {Q:Exit→Act→World→Prop}
theorem wp_post {Q':Exit→Act→World→Prop} {x:Oper} {a:Act} {w:World} {K:Act→World→Prop} (hp:∀ c a w,Q' (.panic c) a w→Q (.panic c) a w) (hl:LetsOut Q'→LetsOut Q) (h:x.wp P a w K Q'):x.wp P a w K Q:=by
 unfold Oper.wp at *
 generalize (execOp a.eval x).run P w=r at *
 cases r with
 | ok n w' =>
   cases n <;> simp only [Oper.upon] at h ⊢ <;>
    first
     | exact h
     | exact Calls.mono h (fun e w'' he=>by cases e <;> first | exact hp _ _ _ he | exact hl he | exact he)
     | exact Rows.mono h (fun _ _ he=>he)
 | halt y w'=>cases y <;> simp only [Oper.upon] at h ⊢ <;> first | exact hp _ _ _ h | exact h
theorem push_get {i:Nat} (h:i<L.size):(L.push o)[i]?=L[i]?:=by
 rw [Array.getElem?_push,if_neg (by omega)]
theorem listed_push {l:Array Bool} {i:Nat} (d:Bool) (h:i<l.size):(l.push false).getD i d=l.getD i d:=by
 simp [Array.getD_eq_getD_getElem?,Array.getElem?_push]
 rw [if_neg (by omega)]
theorem listed_last (l:Array Bool) (d:Bool):(l.push false).getD l.size d=false:=by
 simp [Array.getD_eq_getD_getElem?,Array.getElem?_push]
theorem set_push {l:Array Bool} {i:Nat} (h:i<l.size):(l.push false).setIfInBounds i true=(l.setIfInBounds i true).push false:=by
 apply Array.ext'
 simp [List.set_append,h]
theorem sink_spec (h:sinkOk L o=true):o.guard=none∧(∀ i,i<L.size→∃ e∈o.after,Region.binds .any e=true∧e.on=i) ∧
 (∀ (i:Nat) (x:Oper),L[i]?=some x→(∀ e∈x.after,e.on<i)∧(∀ g b,x.guard=some (g,b)→g<L.size)):=by
 simp only [sinkOk,Bool.and_eq_true,List.all_eq_true,List.mem_range] at h
 obtain ⟨⟨h1,h2⟩,h3⟩:=h
 refine ⟨by simpa using h1,fun i hi=>?_,fun i x hx=>?_⟩
 ·have:=h2 i hi
  rw [Array.any_eq_true'] at this
  obtain ⟨e,he,hb⟩:=this
  simp only [Bool.and_eq_true,beq_iff_eq] at hb
  exact ⟨e,he,hb⟩
 ·have hi:i<L.size:=by
   rcases Nat.lt_or_ge i L.size with hlt | hge
   ·exact hlt
   ·rw [Array.getElem?_eq_none hge] at hx;cases hx
  have:=h3 i hi
  rw [hx] at this
  simp only [Bool.and_eq_true,Array.all_eq_true',decide_eq_true_eq] at this
  refine ⟨this.1,fun g b hg=>?_⟩
  have h4:=this.2
  rw [hg] at h4
  simpa using h4
theorem ready_mem {ops:Array Oper} {l:Array Bool} {i:Nat}:i∈Region.ready .any ops l↔i<ops.size∧l.getD i true=false∧∃ x,ops[i]?=some x∧∀ e∈x.after,Region.binds .any e=true→l.getD e.on false=true:=by
 unfold Region.ready
 rw [List.mem_filter,List.mem_range]
 constructor
 ·rintro ⟨h1,h2⟩
  simp only [Bool.and_eq_true,Bool.not_eq_true'] at h2
  obtain ⟨h3,h4⟩:=h2
  refine ⟨h1,h3,?_⟩
  cases hx:ops[i]? with
  | none=>rw [hx] at h4;simp at h4
  | some x =>
    rw [hx] at h4
    simp only [Option.map_some,Option.getD_some,Array.all_eq_true',Bool.or_eq_true,Bool.not_eq_true'] at h4
    exact ⟨x,rfl,fun e he hb=>by rcases h4 e he with h | h;· rw [hb] at h;cases h
                                 ·exact h⟩
 ·rintro ⟨h1,h3,x,hx,h4⟩
  refine ⟨h1,?_⟩
  simp only [Bool.and_eq_true,Bool.not_eq_true']
  refine ⟨h3,?_⟩
  rw [hx]
  simp only [Option.map_some,Option.getD_some,Array.all_eq_true',Bool.or_eq_true,Bool.not_eq_true']
  intro e he
  cases hb:Region.binds .any e
  ·exact .inl rfl
  ·exact .inr (h4 e he hb)
theorem ready_push (h:sinkOk L o=true) {l:Array Bool} (hl:l.size=L.size) (hne:∃ i,i<L.size∧l.getD i true=false) :
 Region.ready .any (L.push o) (l.push false)=Region.ready .any L l:=by
 obtain ⟨_,h2,h3⟩:=sink_spec h
 have hlast:∀ i,i∈Region.ready .any (L.push o) (l.push false)→i<L.size:=fun i hi=>by
  obtain ⟨g1,g2,x,hx,hw⟩:=ready_mem.1 hi
  rcases Nat.lt_or_ge i L.size with hlt | hge
  ·exact hlt
  ·have hi2:i=L.size:=by rw [Array.size_push] at g1;omega
   subst hi2
   have hxo:o=x:=by simpa using hx
   subst hxo
   obtain ⟨j,hj,hu⟩:=hne
   obtain ⟨e,he,hb,hon⟩:=h2 j hj
   have:=hw e he hb
   rw [hon,listed_push _ (by omega)] at this
   have h5:l.getD j true=true:=by
    simp [Array.getD_eq_getD_getElem?,Array.getElem?_eq_getElem (show j<l.size by omega)] at this ⊢
    exact this
   rw [h5] at hu
   cases hu
 have hiff:∀ i,i<L.size→(i∈Region.ready .any (L.push o) (l.push false)↔i∈Region.ready .any L l):=fun i hi=>by
  rw [ready_mem,ready_mem,push_get hi,listed_push _ (by omega),Array.size_push]
  constructor
  ·rintro ⟨_,g2,x,hx,hw⟩
   refine ⟨hi,g2,x,hx,fun e he hb=>?_⟩
   have:=hw e he hb
   rwa [listed_push _ (by have:=(h3 i x hx).1 e he;omega)] at this
  ·rintro ⟨_,g2,x,hx,hw⟩
   refine ⟨by omega,g2,x,hx,fun e he hb=>?_⟩
   rw [listed_push _ (by have:=(h3 i x hx).1 e he;omega)]
   exact hw e he hb
 unfold Region.ready at *
 rw [Array.size_push,List.range_succ,List.filter_append]
 have h6:List.filter (fun i=>!(l.push false).getD i true && (Option.map (fun x=>x.after.all fun e=>!Region.binds Region.Mode.any e || (l.push false).getD e.on false) (L.push o)[i]?).getD false) [L.size]=[]:=by
  rw [List.filter_eq_nil_iff]
  intro i hi hq
  have hi2:i=L.size:=by simpa using hi
  have:=hlast i (by rw [List.mem_filter,List.mem_range];exact ⟨by rw [Array.size_push];omega,hq⟩)
  omega
 rw [h6,List.append_nil]
 apply List.filter_congr
 intro i hi
 have hi:=List.mem_range.1 hi
 have:=hiff i hi
 rw [List.mem_filter,List.mem_filter,List.mem_range,List.mem_range,Array.size_push] at this
 rw [Bool.eq_iff_iff]
 constructor
 ·exact fun hq=>(this.1 ⟨by omega,hq⟩).2
 ·exact fun hq=>(this.2 ⟨hi,hq⟩).2
theorem ready_last (h:sinkOk L o=true) {l:Array Bool} (hl:l.size=L.size) (hall:∀ i,i<L.size→l.getD i true=true) :
 ∀ i∈Region.ready .any (L.push o) (l.push false),i=L.size:=fun i hi=>by
 obtain ⟨g1,g2,x,hx,hw⟩:=ready_mem.1 hi
 rcases Nat.lt_or_ge i L.size with hlt | hge
 ·rw [listed_push _ (by omega),hall i hlt] at g2
  cases g2
 ·rw [Array.size_push] at g1
  omega
theorem ready_last_mem (hB:∀ e∈o.after,e.on<L.size) {l:Array Bool} (hl:l.size=L.size) (hall:∀ i,i<L.size→l.getD i true=true) :
 L.size∈Region.ready .any (L.push o) (l.push false):=by
 rw [ready_mem]
 refine ⟨by simp,by rw [← hl,listed_last],o,by simp,fun e he _=>?_⟩
 have h1:=hB e he
 rw [listed_push _ (by omega)]
 have:=hall _ h1
 simp [Array.getD_eq_getD_getElem?,Array.getElem?_eq_getElem (show e.on<l.size by omega)] at this ⊢
 exact this
theorem ready_nil (h:sinkOk L o=true) {l:Array Bool} (hr:Region.ready .any L l=[]):∀ n i,i<n→i<L.size→l.getD i true=true:=by
 obtain ⟨_,_,h3⟩:=sink_spec h
 intro n
 induction n with
 | zero=>intro i hi;omega
 | succ n ih =>
   intro i hi hiL
   cases hg:l.getD i true with
   | true=>rfl
   | false =>
     exfalso
     have hx:L[i]?=some L[i]:=Array.getElem?_eq_getElem hiL
     have:i∈Region.ready .any L l:=ready_mem.2 ⟨hiL,hg,_,hx,fun e he _=>by
      have h1:=(h3 i _ hx).1 e he
      have h2:=ih e.on (by omega) (by omega)
      have h4:e.on<l.size:=by
       rcases Nat.lt_or_ge e.on l.size with hlt | hge
       ·exact hlt
       ·have h5:l.size≤i:=by omega
        simp [Array.getD_eq_getD_getElem?,Array.getElem?_eq_none h5] at hg
      simp [Array.getD_eq_getD_getElem?,Array.getElem?_eq_getElem h4] at h2 ⊢
      exact h2⟩
     rw [hr] at this
     cases this
theorem wpAny_sink (h:sinkOk L o=true) (hB:∀ e∈o.after,e.on<L.size):∀ (fuel:Nat) (l:Array Bool) (a:Act) (w:World),l.size=L.size →
 wpAny P .any L (sinkQ P o Q) fuel l a w→wpAny P .any (L.push o) Q (fuel+1) (l.push false) a w:=by
 obtain ⟨hgd,_,h3⟩:=sink_spec h
 have last:∀ (fuel:Nat) (l:Array Bool) (a:Act) (w:World),l.size=L.size→Region.ready .any L l=[]→sinkQ P o Q .normal a w→wpAny P .any (L.push o) Q (fuel+1) (l.push false) a w:=by
  intro fuel l a w hl hr hq
  have hall:∀ i,i<L.size→l.getD i true=true:=fun i hi=>ready_nil h hr (i+1) i (by omega) hi
  have hm:=ready_last_mem (o:=o) hB hl hall
  refine ⟨fun h0=>(by rw [h0] at hm;cases hm),fun i hi=>?_⟩
  obtain rfl:=ready_last h hl hall i hi
  unfold wpOp
  have ho:(L.push o)[L.size]?=some o:=by simp
  simp only [ho,Region.wanted,hgd,if_true]
  refine .inl (Oper.wp_mono (fun a' w' hq'=>?_) hq)
  have hrd:Region.ready .any (L.push o) ((l.push false).setIfInBounds L.size true)=[]:=by
   rw [List.eq_nil_iff_forall_not_mem]
   intro i hi
   obtain ⟨g1,g2,_⟩:=ready_mem.1 hi
   rw [Array.size_push] at g1
   have h7:((l.push false).setIfInBounds L.size true).getD i true=true:=by
    rcases Nat.lt_or_ge i L.size with hlt | hge
    ·have h8:=hall i hlt
     have h9:i<l.size:=by omega
     simp [Array.getD_eq_getD_getElem?,Array.getElem?_setIfInBounds,Array.getElem?_push,hl,Nat.ne_of_lt hlt,Array.getElem?_eq_getElem h9,Nat.ne_of_gt hlt] at h8 ⊢
     exact h8
    ·have hi2:i=L.size:=by omega
     subst hi2
     simp [Array.getD_eq_getD_getElem?,Array.getElem?_setIfInBounds,hl]
   rw [h7] at g2
   cases g2
  exact wpAny_done hrd hq' fuel
 intro fuel
 induction fuel with
 | zero=>intro l a w hl hh;exact last 0 l a w hl hh.1 hh.2
 | succ f ih =>
   intro l a w hl hh
   by_cases hr:Region.ready .any L l=[]
   ·exact last (f+1) l a w hl hr (hh.1 hr)
   ·have hne:∃ i,i<L.size∧l.getD i true=false:=by
     obtain ⟨i,hi⟩:=List.exists_mem_of_ne_nil _ hr
     obtain ⟨g1,g2,_⟩:=ready_mem.1 hi
     exact ⟨i,g1,g2⟩
    have hrp:=ready_push (o:=o) h hl hne
    refine ⟨fun h0=>absurd (hrp ▸ h0) hr,fun i hi=>?_⟩
    rw [hrp] at hi
    have hk:=hh.2 i hi
    have hiL:i<L.size:=(ready_mem.1 hi).1
    have hx:L[i]?=some L[i]:=Array.getElem?_eq_getElem hiL
    have hx':(L.push o)[i]?=some L[i]:=by rw [push_get hiL];exact hx
    have hyl:Region.wanted L[i] (yielded (L.push o) a.tmps)=Region.wanted L[i] (yielded L a.tmps):=by
     unfold Region.wanted
     cases hg:L[i].guard with
     | none=>rfl
     | some gb =>
       obtain ⟨g,b⟩:=gb
       have:=(h3 i _ hx).2 g b hg
       simp only [yielded,push_get this]
    unfold wpOp at hk ⊢
    simp only [hx,hx',hyl] at hk ⊢
    have next:∀ a' w',wpAny P .any L (sinkQ P o Q) f (l.setIfInBounds i true) a' w'→wpAny P .any (L.push o) Q (f+1) ((l.push false).setIfInBounds i true) a' w':=fun a' w' hq=>by
     rw [set_push (by omega)]
     exact ih _ a' w' (by simpa using hl) hq
    split
    ·rename_i hw
     simp only [hw,if_true] at hk
     exact hk.imp (fun hq=>wp_post (fun _ _ _ q=>q) id (Oper.wp_mono next hq)) id
    ·rename_i hw
     simp only [hw] at hk
     exact next _ _ hk
theorem wp_region_sink {S:World→Prop} {id:Nat} {a:Act} {w:World} (hm:P.follows .mixedOrders=true) (h:sinkOk L o=true) (hB:o.after.all (fun e=>decide (e.on<L.size))=true)
 (hh:wpAnyH P .any L (sinkQ P o Q) S L.size (Array.replicate L.size false) a w.drew):(Code.region id (L.push o) true).wp P Q a w:=by
 refine wp_region_any hm ?_
 have h1:=wpAny_sink h (fun e he=>by rw [Array.all_eq_true'] at hB;simpa using hB e he) L.size (Array.replicate L.size false) a w.drew (by simp) (wpAny_of_held _ _ _ _ hh)
 rw [Array.size_push,show Array.replicate (L.size+1) false=(Array.replicate L.size false).push false from by simp [Array.replicate_succ]]
 exact h1
theorem wp_region_sink_lit {S:World→Prop} {id:Nat} {a:Act} {w:World} {l:List Oper} (n:Nat) (hm:P.follows .mixedOrders=true) (hd:l.drop n=[o]) (hn:(l.take n).length=n) (h:sinkOk (l.take n).toArray o=true) (hB:o.after.all (fun e=>decide (e.on<n))=true)
 (hS:S w.drew) (hh:S w.drew→wpAnyH P .any (l.take n).toArray (sinkQ P o Q) S n (Array.replicate n false) a w.drew):(Code.region id l.toArray true).wp P Q a w:=by
 have e:l.toArray=(l.take n).toArray.push o:=by
  apply Array.ext'
  simp only [Array.toList_push]
  rw [← hd]
  simp
 have hs:(l.take n).toArray.size=n:=by simpa using hn
 rw [e]
 refine wp_region_sink (S:=S) hm h (by rw [hs];exact hB) ?_
 rw [hs]
 exact hh hS
end
def SS (xs:List Int):Prop:=xs.Pairwise (·<·)
end Go.Proofs.YtmcmbicapdcfmaaGreat
namespace Go.Proofs.YtmcmbicapdcfmaaGreat
open Go.RowKit Go.Shelf Go.Maps
end Go.Proofs.YtmcmbicapdcfmaaGreat
namespace Go.Proofs.YtmcmbicapdcfmaaGreat
open Go.RowKit
attribute [local go_sem] Oper.semAt_some
end Go.Proofs.YtmcmbicapdcfmaaGreat
