/- Layer 2 of the texts that LoanWheres takes: Uajq. -/
import Derived.Test.YtoiompoapikkbaaGreatUaiq
set_option linter.unusedVariables false
set_option linter.unusedSimpArgs false
/- A region that draws its order, and whose last operation waits for all others (a store, a map's update): the others in whatever order, then that one. -/
namespace Go.Proofs.YtoiompoapikkbaaGreat
open Go.RowKit
def sinkQ (P:Program) (o:Oper) (Q:Exit→Act→World→Prop):Exit→Act→World→Prop
 | .normal,a,w=>o.wp P a w (Q .normal) Q
 | e,a,w=>Q e a w
def sinkOk (L:Array Oper) (o:Oper):Bool :=
 o.guard.isNone && (List.range L.size).all (fun i=>o.after.any fun e=>Region.binds .any e && e.on == i) &&
 (List.range L.size).all fun i=>match L[i]? with
   | none=>true
   | some x=>x.after.all (fun e=>decide (e.on<i)) && (match x.guard with | none=>true | some (g,_)=>decide (g<L.size))
section
variable {P:Program} {L:Array Oper} {o:Oper} {Q:Exit→Act→World→Prop}
theorem wp_post {Q':Exit→Act→World→Prop} {x:Oper} {a:Act} {w:World} {K:Act→World→Prop} (hp:∀ c a w,Q' (.panic c) a w→Q (.panic c) a w) (hl:LetsOut Q'→LetsOut Q) (h:x.wp P a w K Q'):x.wp P a w K Q:=by
 unfold Oper.wp at *
 generalize (execOp a.eval x).run P w=r at *
 cases r with
 | ok n w' =>
   cases n <;> simp only [Oper.upon] at h ⊢ <;>
    first
     | exact h
     | exact Calls.mono h (fun e w'' he=>by cases e <;> first | exact hp _ _ _ he | exact hl he | exact he)
     | exact Rows.mono h (fun _ _ he=>he)
 | halt y w'=>cases y <;> simp only [Oper.upon] at h ⊢ <;> first | exact hp _ _ _ h | exact h
theorem push_get {i:Nat} (h:i<L.size):(L.push o)[i]?=L[i]?:=by
 rw [Array.getElem?_push,if_neg (by omega)]
theorem listed_push {l:Array Bool} {i:Nat} (d:Bool) (h:i<l.size):(l.push false).getD i d=l.getD i d:=by
 simp [Array.getD_eq_getD_getElem?,Array.getElem?_push]
 rw [if_neg (by omega)]
theorem listed_last (l:Array Bool) (d:Bool):(l.push false).getD l.size d=false:=by
 simp [Array.getD_eq_getD_getElem?,Array.getElem?_push]
theorem set_push {l:Array Bool} {i:Nat} (h:i<l.size):(l.push false).setIfInBounds i true=(l.setIfInBounds i true).push false:=by
 apply Array.ext'
 simp [List.set_append,h]
theorem sink_spec (h:sinkOk L o=true):o.guard=none∧(∀ i,i<L.size→∃ e∈o.after,Region.binds .any e=true∧e.on=i) ∧
 (∀ (i:Nat) (x:Oper),L[i]?=some x→(∀ e∈x.after,e.on<i)∧(∀ g b,x.guard=some (g,b)→g<L.size)):=by
 simp only [sinkOk,Bool.and_eq_true,List.all_eq_true,List.mem_range] at h
 obtain ⟨⟨h1,h2⟩,h3⟩:=h
 refine ⟨by simpa using h1,fun i hi=>?_,fun i x hx=>?_⟩
 ·have:=h2 i hi
  rw [Array.any_eq_true'] at this
  obtain ⟨e,he,hb⟩:=this
  simp only [Bool.and_eq_true,beq_iff_eq] at hb
  exact ⟨e,he,hb⟩
 ·have hi:i<L.size:=by
   rcases Nat.lt_or_ge i L.size with hlt | hge
   ·exact hlt
   ·rw [Array.getElem?_eq_none hge] at hx;cases hx
  have:=h3 i hi
  rw [hx] at this
  simp only [Bool.and_eq_true,Array.all_eq_true',decide_eq_true_eq] at this
  refine ⟨this.1,fun g b hg=>?_⟩
  have h4:=this.2
  rw [hg] at h4
  simpa using h4
theorem ready_mem {ops:Array Oper} {l:Array Bool} {i:Nat}:i∈Region.ready .any ops l↔i<ops.size∧l.getD i true=false∧∃ x,ops[i]?=some x∧∀ e∈x.after,Region.binds .any e=true→l.getD e.on false=true:=by
 unfold Region.ready
 rw [List.mem_filter,List.mem_range]
 constructor
 ·rintro ⟨h1,h2⟩
  simp only [Bool.and_eq_true,Bool.not_eq_true'] at h2
  obtain ⟨h3,h4⟩:=h2
  refine ⟨h1,h3,?_⟩
  cases hx:ops[i]? with
  | none=>rw [hx] at h4;simp at h4
  | some x =>
    rw [hx] at h4
    simp only [Option.map_some,Option.getD_some,Array.all_eq_true',Bool.or_eq_true,Bool.not_eq_true'] at h4
    exact ⟨x,rfl,fun e he hb=>by rcases h4 e he with h | h;· rw [hb] at h;cases h
                                 ·exact h⟩
 ·rintro ⟨h1,h3,x,hx,h4⟩
  refine ⟨h1,?_⟩
  simp only [Bool.and_eq_true,Bool.not_eq_true']
  refine ⟨h3,?_⟩
  rw [hx]
  simp only [Option.map_some,Option.getD_some,Array.all_eq_true',Bool.or_eq_true,Bool.not_eq_true']
  intro e he
  cases hb:Region.binds .any e
  ·exact .inl rfl
  ·exact .inr (h4 e he hb)
theorem ready_push (h:sinkOk L o=true) {l:Array Bool} (hl:l.size=L.size) (hne:∃ i,i<L.size∧l.getD i true=false) :
 Region.ready .any (L.push o) (l.push false)=Region.ready .any L l:=by
 obtain ⟨_,h2,h3⟩:=sink_spec h
 have hlast:∀ i,i∈Region.ready .any (L.push o) (l.push false)→i<L.size:=fun i hi=>by
  obtain ⟨g1,g2,x,hx,hw⟩:=ready_mem.1 hi
  rcases Nat.lt_or_ge i L.size with hlt | hge
  ·exact hlt
  ·have hi2:i=L.size:=by rw [Array.size_push] at g1;omega
   subst hi2
   have hxo:o=x:=by simpa using hx
   subst hxo
   obtain ⟨j,hj,hu⟩:=hne
   obtain ⟨e,he,hb,hon⟩:=h2 j hj
   have:=hw e he hb
   rw [hon,listed_push _ (by omega)] at this
   have h5:l.getD j true=true:=by
    simp [Array.getD_eq_getD_getElem?,Array.getElem?_eq_getElem (show j<l.size by omega)] at this ⊢
    exact this
   rw [h5] at hu
   cases hu
 have hiff:∀ i,i<L.size→(i∈Region.ready .any (L.push o) (l.push false)↔i∈Region.ready .any L l):=fun i hi=>by
  rw [ready_mem,ready_mem,push_get hi,listed_push _ (by omega),Array.size_push]
  constructor
  ·rintro ⟨_,g2,x,hx,hw⟩
   refine ⟨hi,g2,x,hx,fun e he hb=>?_⟩
   have:=hw e he hb
   rwa [listed_push _ (by have:=(h3 i x hx).1 e he;omega)] at this
  ·rintro ⟨_,g2,x,hx,hw⟩
   refine ⟨by omega,g2,x,hx,fun e he hb=>?_⟩
   rw [listed_push _ (by have:=(h3 i x hx).1 e he;omega)]
   exact hw e he hb
 unfold Region.ready at *
 rw [Array.size_push,List.range_succ,List.filter_append]
 have h6:List.filter (fun i=>!(l.push false).getD i true && (Option.map (fun x=>x.after.all fun e=>!Region.binds Region.Mode.any e || (l.push false).getD e.on false) (L.push o)[i]?).getD false) [L.size]=[]:=by
  rw [List.filter_eq_nil_iff]
  intro i hi hq
  have hi2:i=L.size:=by simpa using hi
  have:=hlast i (by rw [List.mem_filter,List.mem_range];exact ⟨by rw [Array.size_push];omega,hq⟩)
  omega
 rw [h6,List.append_nil]
 apply List.filter_congr
 intro i hi
 have hi:=List.mem_range.1 hi
 have:=hiff i hi
 rw [List.mem_filter,List.mem_filter,List.mem_range,List.mem_range,Array.size_push] at this
 rw [Bool.eq_iff_iff]
 constructor
 ·exact fun hq=>(this.1 ⟨by omega,hq⟩).2
 ·exact fun hq=>(this.2 ⟨hi,hq⟩).2
theorem ready_last (h:sinkOk L o=true) {l:Array Bool} (hl:l.size=L.size) (hall:∀ i,i<L.size→l.getD i true=true) :
 ∀ i∈Region.ready .any (L.push o) (l.push false),i=L.size:=fun i hi=>by
 obtain ⟨g1,g2,x,hx,hw⟩:=ready_mem.1 hi
 rcases Nat.lt_or_ge i L.size with hlt | hge
 ·rw [listed_push _ (by omega),hall i hlt] at g2
  cases g2
 ·rw [Array.size_push] at g1
  omega
theorem ready_last_mem (hB:∀ e∈o.after,e.on<L.size) {l:Array Bool} (hl:l.size=L.size) (hall:∀ i,i<L.size→l.getD i true=true) :
 L.size∈Region.ready .any (L.push o) (l.push false):=by
 rw [ready_mem]
 refine ⟨by simp,by rw [← hl,listed_last],o,by simp,fun e he _=>?_⟩
 have h1:=hB e he
 rw [listed_push _ (by omega)]
 have:=hall _ h1
 simp [Array.getD_eq_getD_getElem?,Array.getElem?_eq_getElem (show e.on<l.size by omega)] at this ⊢
 exact this
theorem ready_nil (h:sinkOk L o=true) {l:Array Bool} (hr:Region.ready .any L l=[]):∀ n i,i<n→i<L.size→l.getD i true=true:=by
 obtain ⟨_,_,h3⟩:=sink_spec h
 intro n
 induction n with
 | zero=>intro i hi;omega
 | succ n ih =>
   intro i hi hiL
   cases hg:l.getD i true with
   | true=>rfl
   | false =>
     exfalso
     have hx:L[i]?=some L[i]:=Array.getElem?_eq_getElem hiL
     have:i∈Region.ready .any L l:=ready_mem.2 ⟨hiL,hg,_,hx,fun e he _=>by
      have h1:=(h3 i _ hx).1 e he
      have h2:=ih e.on (by omega) (by omega)
      have h4:e.on<l.size:=by
       rcases Nat.lt_or_ge e.on l.size with hlt | hge
       ·exact hlt
       ·have h5:l.size≤i:=by omega
        simp [Array.getD_eq_getD_getElem?,Array.getElem?_eq_none h5] at hg
      simp [Array.getD_eq_getD_getElem?,Array.getElem?_eq_getElem h4] at h2 ⊢
      exact h2⟩
     rw [hr] at this
     cases this
theorem wpAny_sink (h:sinkOk L o=true) (hB:∀ e∈o.after,e.on<L.size):∀ (fuel:Nat) (l:Array Bool) (a:Act) (w:World),l.size=L.size →
 wpAny P .any L (sinkQ P o Q) fuel l a w→wpAny P .any (L.push o) Q (fuel+1) (l.push false) a w:=by
 obtain ⟨hgd,_,h3⟩:=sink_spec h
 have last:∀ (fuel:Nat) (l:Array Bool) (a:Act) (w:World),l.size=L.size→Region.ready .any L l=[]→sinkQ P o Q .normal a w→wpAny P .any (L.push o) Q (fuel+1) (l.push false) a w:=by
  intro fuel l a w hl hr hq
  have hall:∀ i,i<L.size→l.getD i true=true:=fun i hi=>ready_nil h hr (i+1) i (by omega) hi
  have hm:=ready_last_mem (o:=o) hB hl hall
  refine ⟨fun h0=>(by rw [h0] at hm;cases hm),fun i hi=>?_⟩
  obtain rfl:=ready_last h hl hall i hi
  unfold wpOp
  have ho:(L.push o)[L.size]?=some o:=by simp
  simp only [ho,Region.wanted,hgd,if_true]
  refine .inl (Oper.wp_mono (fun a' w' hq'=>?_) hq)
  have hrd:Region.ready .any (L.push o) ((l.push false).setIfInBounds L.size true)=[]:=by
   rw [List.eq_nil_iff_forall_not_mem]
   intro i hi
   obtain ⟨g1,g2,_⟩:=ready_mem.1 hi
   rw [Array.size_push] at g1
   have h7:((l.push false).setIfInBounds L.size true).getD i true=true:=by
    rcases Nat.lt_or_ge i L.size with hlt | hge
    ·have h8:=hall i hlt
     have h9:i<l.size:=by omega
     simp [Array.getD_eq_getD_getElem?,Array.getElem?_setIfInBounds,Array.getElem?_push,hl,Nat.ne_of_lt hlt,Array.getElem?_eq_getElem h9,Nat.ne_of_gt hlt] at h8 ⊢
     exact h8
    ·have hi2:i=L.size:=by omega
     subst hi2
     simp [Array.getD_eq_getD_getElem?,Array.getElem?_setIfInBounds,hl]
   rw [h7] at g2
   cases g2
  exact wpAny_done hrd hq' fuel
 intro fuel
 induction fuel with
 | zero=>intro l a w hl hh;exact last 0 l a w hl hh.1 hh.2
 | succ f ih =>
   intro l a w hl hh
   by_cases hr:Region.ready .any L l=[]
   ·exact last (f+1) l a w hl hr (hh.1 hr)
   ·have hne:∃ i,i<L.size∧l.getD i true=false:=by
     obtain ⟨i,hi⟩:=List.exists_mem_of_ne_nil _ hr
     obtain ⟨g1,g2,_⟩:=ready_mem.1 hi
     exact ⟨i,g1,g2⟩
    have hrp:=ready_push (o:=o) h hl hne
    refine ⟨fun h0=>absurd (hrp ▸ h0) hr,fun i hi=>?_⟩
    rw [hrp] at hi
    have hk:=hh.2 i hi
    have hiL:i<L.size:=(ready_mem.1 hi).1
    have hx:L[i]?=some L[i]:=Array.getElem?_eq_getElem hiL
    have hx':(L.push o)[i]?=some L[i]:=by rw [push_get hiL];exact hx
    have hyl:Region.wanted L[i] (yielded (L.push o) a.tmps)=Region.wanted L[i] (yielded L a.tmps):=by
     unfold Region.wanted
     cases hg:L[i].guard with
     | none=>rfl
     | some gb =>
       obtain ⟨g,b⟩:=gb
       have:=(h3 i _ hx).2 g b hg
       simp only [yielded,push_get this]
    unfold wpOp at hk ⊢
    simp only [hx,hx',hyl] at hk ⊢
    have next:∀ a' w',wpAny P .any L (sinkQ P o Q) f (l.setIfInBounds i true) a' w'→wpAny P .any (L.push o) Q (f+1) ((l.push false).setIfInBounds i true) a' w':=fun a' w' hq=>by
     rw [set_push (by omega)]
     exact ih _ a' w' (by simpa using hl) hq
    split
    ·rename_i hw
     simp only [hw,if_true] at hk
     exact hk.imp (fun hq=>wp_post (fun _ _ _ q=>q) id (Oper.wp_mono next hq)) id
    ·rename_i hw
     simp only [hw] at hk
     exact next _ _ hk
theorem wp_region_sink {S:World→Prop} {id:Nat} {a:Act} {w:World} (hm:P.follows .mixedOrders=true) (h:sinkOk L o=true) (hB:o.after.all (fun e=>decide (e.on<L.size))=true)
 (hh:wpAnyH P .any L (sinkQ P o Q) S L.size (Array.replicate L.size false) a w.drew):(Code.region id (L.push o) true).wp P Q a w:=by
 refine wp_region_any hm ?_
 have h1:=wpAny_sink h (fun e he=>by rw [Array.all_eq_true'] at hB;simpa using hB e he) L.size (Array.replicate L.size false) a w.drew (by simp) (wpAny_of_held _ _ _ _ hh)
 rw [Array.size_push,show Array.replicate (L.size+1) false=(Array.replicate L.size false).push false from by simp [Array.replicate_succ]]
 exact h1
theorem wp_region_sink_lit {S:World→Prop} {id:Nat} {a:Act} {w:World} {l:List Oper} (n:Nat) (hm:P.follows .mixedOrders=true) (hd:l.drop n=[o]) (hn:(l.take n).length=n) (h:sinkOk (l.take n).toArray o=true) (hB:o.after.all (fun e=>decide (e.on<n))=true)
 (hS:S w.drew) (hh:S w.drew→wpAnyH P .any (l.take n).toArray (sinkQ P o Q) S n (Array.replicate n false) a w.drew):(Code.region id l.toArray true).wp P Q a w:=by
 have e:l.toArray=(l.take n).toArray.push o:=by
  apply Array.ext'
  simp only [Array.toList_push]
  rw [← hd]
  simp
 have hs:(l.take n).toArray.size=n:=by simpa using hn
 rw [e]
 refine wp_region_sink (S:=S) hm h (by rw [hs];exact hB) ?_
 rw [hs]
 exact hh hS
end
end Go.Proofs.YtoiompoapikkbaaGreat
/- Layer 2: Has and apart of the reference. -/
namespace Go.Proofs.YtoiompoapikkbaaGreat
open Go.RowKit
theorem mem_take_succ {l:List Int} {k:Nat} {x n:Int} (h:l[k]?=some x):n∈l.take (k+1)↔n∈l.take k∨n=x:=by
 rw [take_snoc_some h,List.mem_append,List.mem_singleton]
set_option maxHeartbeats 1000000 in
theorem r_Has2 (l:List Int) (v:Int) (A:Option Addr) (n c:Nat) (w:World) (hn:n≤9223372036854775807) (hd:Is w w.heap.size A n l) :
 Calls Tryz.prog 65 #[.slice A n c,.int .i64 v] w fun e w'=>e=.returned (.bool (decide (v∈l)))∧Below w.heap.size w w':=by
 have hlen:=hd.len
 have HD:=Lib.hid hd
 have HL:=Lib.hid hlen
 clear hd hlen
 go_enter Tryz.func65,Tryz.ntmps65
 go_wp2
 go_loopw [5] (fun i wr=>∃ k:Nat,k≤n∧i=.int .i64 k∧v ∉ l.take k∧Below w.heap.size w wr) (fun i _=>n - (intOf i).toNat)
 case atStart=>exact ⟨0,by omega,rfl,by simp,Below.refl _ _⟩
 case round =>
  obtain ⟨k,hk,rfl,hno,hB⟩:=hrel
  have HNo:=Lib.hid hno
  clear hno
  by_cases hlt:k<n
  ·obtain ⟨b,o,x,rfl,hb,hx,hc0⟩:=(Is.ext HD.out hB (Nat.le_refl _)).at_ hlt
   have HX:=Lib.hid hx
   clear hx
   by_cases he:x=v
   ·go_wp2
    go_ret
    exact ⟨ret_bool (by rw [he] at HX;simp [List.mem_of_getElem? HX.out]),hB⟩
   ·go_wp2
    go_roundw
    case rel=>exact ⟨k+1,by omega,by go_num,by rw [mem_take_succ HX.out];exact fun h=>h.elim HNo.out fun e=>he e.symm,hB⟩
    case measure=>exact ms_
  ·have hkn:Hid (k=n):=by show _=_;omega
   go_wp2
   go_ret
   refine ⟨ret_bool ?_,hB⟩
   have h:=HNo.out
   rw [List.take_of_length_le (by rw [HL.out,hkn.out];exact Nat.le_refl _)] at h
   simp [h]
set_option maxHeartbeats 2000000 in
theorem r_apart2 (l:List Int) (A:Option Addr) (n c:Nat) (w:World) (hn:n≤1000000) (hd:Is w w.heap.size A n l) :
 Calls Tryz.prog 97 #[.slice A n c] w fun e w'=>e=.returned (.bool (decide l.Nodup))∧Below w.heap.size w w':=by
 have hlen:=hd.len
 have HD:=Lib.hid hd
 have HL:=Lib.hid hlen
 clear hd hlen
 go_enter Tryz.func97,Tryz.ntmps97
 go_wp2
 go_loopw [3] (fun i wr=>∃ k:Nat,k≤n∧i=.int .i64 k∧(l.take k).Nodup∧Below w.heap.size w wr) (fun i _=>n - (intOf i).toNat)
 case atStart=>exact ⟨0,by omega,rfl,by simp,Below.refl _ _⟩
 case round =>
  obtain ⟨k,hk,rfl,hno,hB⟩:=hrel
  have HNo:=Lib.hid hno
  clear hno
  by_cases hlt:k<n
  ·obtain ⟨b,o,x,rfl,hb,hx,hc0⟩:=(Is.ext HD.out hB (Nat.le_refl _)).at_ hlt
   have HX:=Lib.hid hx
   clear hx
   go_wp2
   go_loopw [4] (fun i wq=>∃ j:Nat,j≤k∧i=.int .i64 j∧x ∉ l.take j∧Below w.heap.size w wq) (fun i _=>k - (intOf i).toNat)
   case atStart=>exact ⟨0,by omega,rfl,by simp,hB⟩
   case round =>
    obtain ⟨j,hj,rfl,hni,hQ⟩:=hrel
    have HNi:=Lib.hid hni
    clear hni
    by_cases hjk:j<k
    ·obtain ⟨b',o',y,e',_,hy,hc1⟩:=(Is.ext HD.out hQ (Nat.le_refl _)).at_ (k:=j) (by omega)
     obtain ⟨rfl,rfl⟩:b=b'∧o=o':=by simpa using e'
     obtain ⟨b2,o2,x2,e2,_,hx2,hc2⟩:=(Is.ext HD.out hQ (Nat.le_refl _)).at_ (k:=k) hlt
     obtain ⟨rfl,rfl⟩:b=b2∧o=o2:=by simpa using e2
     obtain rfl:x2=x:=Option.some.inj (hx2.symm.trans HX.out)
     have HY:=Lib.hid hy
     clear hy e' e2 hx2
     have hs0:w.heap.size≤wr.heap.size:=hQ.size
     have hbr:b<wr.heap.size:=by omega
     by_cases hxy:x2=y
     ·go_wp2_with fail
      (refine rg_ ?_;(repeat (go_big_quiet_step (fail)));refine qn_ fun w1 hb1 hc1 hf1=>?_)
      go_wp2_with fail
      go_ret
      refine ⟨ret_bool ?_,Below.then_ hQ hb1⟩
      have h1:¬ l.Nodup:=fun h=>by
       have h3:=(List.getElem?_inj (by rw [HL.out];omega) h (i:=j) (j:=k)).1 (by rw [HY.out,HX.out,hxy])
       omega
      simp [h1]
     ·go_wp2_with fail
      (refine rg_ ?_;(repeat (go_big_quiet_step (fail)));refine qn_ fun w1 hb1 hc1 hf1=>?_)
      go_wp2_with fail
      go_roundw
      case rel=>exact ⟨j+1,by omega,by go_num,by rw [mem_take_succ HY.out];exact fun h=>h.elim HNi.out hxy,Below.then_ hQ hb1⟩
      case measure=>exact ms_
    ·have hkj:Hid (j=k):=by show _=_;omega
     go_wp2
     go_roundw
     case rel =>
      refine ⟨k+1,by omega,by go_num,?_,hQ⟩
      rw [take_snoc_some HX.out,List.nodup_append]
      have h:=HNi.out
      rw [hkj.out] at h
      exact ⟨HNo.out,by simp,fun a ha b hb' e=>by rw [List.mem_singleton] at hb';exact h (by rw [← hb',← e];exact ha)⟩
     case measure=>exact ms_
  ·have hkn:Hid (k=n):=by show _=_;omega
   go_wp2
   go_ret
   refine ⟨ret_bool ?_,hB⟩
   have h:=HNo.out
   rw [List.take_of_length_le (by rw [HL.out,hkn.out];exact Nat.le_refl _)] at h
   simp [h]
end Go.Proofs.YtoiompoapikkbaaGreat
/- Layer 2: a row of the call's own sorted and compacted; of a sorted list, that compacting leaves its length tells whether all numbers differ. -/
namespace Go.Proofs.YtoiompoapikkbaaGreat
open Go.RowKit Go.Sort
def srtI (xs:List Int):List Int:=xs.mergeSort fun x y=>decide (x≤y)
theorem srtI_len (xs:List Int):(srtI xs).length=xs.length:=List.length_mergeSort ..
theorem srtI_perm (xs:List Int):(srtI xs).Perm xs:=List.mergeSort_perm ..
theorem srtI_pair (xs:List Int):(srtI xs).Pairwise (·≤·):=by
 have h:=List.pairwise_mergeSort (le:=fun x y:Int=>decide (x≤y)) (fun a b c h1 h2=>by simp at h1 h2 ⊢;omega) (fun a b=>by simp;omega) xs
 exact h.imp fun h=>by simpa using h
theorem adj_nodup {zs:List Int} (hs:zs.Pairwise (·≤·)) (h:∀ j (h1:j+1<zs.length),zs[j+1]≠zs[j]):zs.Nodup:=by
 induction zs with
 | nil=>exact List.nodup_nil
 | cons a l ih =>
   rw [List.nodup_cons]
   rw [List.pairwise_cons] at hs
   have hl:=ih hs.2 fun j h1=>by
    have:=h (j+1) (by simp;omega)
    simpa using this
   refine ⟨fun ha=>?_,hl⟩
   cases l with
   | nil=>simp at ha
   | cons b m =>
     have h0:=h 0 (by simp)
     simp at h0
     have hab:=hs.1 b (by simp)
     rw [List.pairwise_cons] at hs
     rcases List.mem_cons.1 ha with e | hm
     ·exact h0 e.symm
     ·have:=hs.2.1 a hm
      omega
theorem compact_nodup {zs:List Int} (hs:zs.Pairwise (·≤·)):decide ((Lib.compact zs).length=zs.length)=decide zs.Nodup:=by
 rw [decide_eq_decide]
 constructor
 ·intro h
  have hall:∀ j,j<zs.length→Lib.keeps zs.toArray j=true:=by
   have h2:((List.range zs.length).filter (Lib.keeps zs.toArray)).length=(List.range zs.length).length:=by
    have h3:=h
    simp only [Lib.compact,Lib.compactUpTo,List.length_map] at h3
    simpa using h3
   intro j hj
   exact (List.length_filter_eq_length_iff.1 h2) j (List.mem_range.2 hj)
  refine adj_nodup hs fun j h1 e=>?_
  have:=hall (j+1) h1
  rw [Lib.keeps_neg (by omega) (by simp [h1,show j<zs.length by omega,e])] at this
  cases this
 ·intro h
  have hk:∀ j,j<zs.length→Lib.keeps zs.toArray j=true:=fun j hj=>by
   cases j with
   | zero=>exact Lib.keeps_lt_one _ 0 (by omega)
   | succ j =>
     refine Lib.keeps_pos ?_
     simp only [Nat.add_sub_cancel]
     intro e
     have e2:zs[j+1]=zs[j]'(by omega):=by simpa [hj,show j<zs.length by omega] using e
     have:=(List.getElem_inj h).1 e2
     omega
  rw [Lib.compact_all zs hk]
theorem p_SortI {base n c:Nat} {A:Option Addr} {xs:List Int} (w:World) (hn:n≤1000000) (h:w.ownsRow base 3 1 (.slice A n c) n (intL xs)) :
 Calls Tryz.prog 157 #[.slice A n c] w fun e w'=>e=.returned (.tuple #[])∧w'.ownsRow base 3 1 (.slice A n c) n (intL (srtI xs))∧w.grownBy w' (Value.slice A n c).ownBlock:=by
 have hl:xs.length=n:=by have:=h.1;simpa [intL] using this
 rcases h.2 with ⟨hv,h0⟩ | ⟨g,cap,cur,hv,hB,hg,h1,h2,h3,ht⟩
 ·injection hv with e1 e2 e3
  subst e1 e2 e3
  refine (Any.slices_Sort_int_none Tryz.laysSortI none 0 w).mono ?_
  rintro e w' ⟨he,rfl⟩
  have hx:xs=[]:=List.eq_nil_of_length_eq_zero hl
  subst hx
  exact ⟨he,by rw [show srtI []=[] from by simp [srtI]];exact h,⟨rfl,rfl,rfl,Nat.le_refl _,fun _ _ _=>rfl⟩⟩
 ·injection hv with e1 e2 e3
  subst e1 e3
  have ht':cur.toList.take xs.length=xs.map (Value.int .i64):=by rw [hl];simpa [intL] using ht
  have hH:=holds_of_blockI hg ht'
  have hc:=Any.slices_Sort_int Tryz.laysSortI g 0 c xs w hH (Array.getElem?_eq_some_iff.1 hg).1 (by omega)
  rw [hl] at hc
  refine hc.mono ?_
  rintro e w' ⟨he,m,os,rfl⟩
  refine ⟨he,?_,by simpa [Value.ownBlock] using grownBy_sortedI _⟩
  have ho:=ownsRow_sortedI (w:=w) (n:=m) (os:=os) (ss:=xs) (ts:=srtI xs) (srtI_len xs) hB hg (by rw [hl];exact h1) h2 (by simpa using h3)
  rw [hl] at ho
  exact ho
theorem p_CompactI {base n c:Nat} {A:Option Addr} {xs:List Int} (w:World) (hn:n≤1000000) (h:w.ownsRow base 3 1 (.slice A n c) n (intL xs)) :
 Calls Tryz.prog 158 #[.slice A n c] w fun e w'=>e=.returned (.slice A (Lib.compact xs).length c)∧w.grownBy w' (Value.slice A n c).ownBlock:=by
 have hl:xs.length=n:=by have:=h.1;simpa [intL] using this
 rcases h.2 with ⟨hv,h0⟩ | ⟨g,cap,cur,hv,hB,hg,h1,h2,h3,ht⟩
 ·injection hv with e1 e2 e3
  subst e1 e2 e3
  refine (Any.slices_Compact_int_empty Tryz.laysCompactI none 0 w).mono ?_
  rintro e w' ⟨he,rfl⟩
  have hx:xs=[]:=List.eq_nil_of_length_eq_zero hl
  subst hx
  exact ⟨he,⟨rfl,rfl,rfl,Nat.le_refl _,fun _ _ _=>rfl⟩⟩
 ·injection hv with e1 e2 e3
  subst e1 e3
  have ht':cur.toList.take xs.length=xs.map (Value.int .i64):=by rw [hl];simpa [intL] using ht
  have hH:=holds_of_blockI hg ht'
  have hc:=Any.slices_Compact_int Tryz.laysCompactI g 0 c xs w hH (by omega) (by omega)
  rw [hl] at hc
  refine hc.mono ?_
  rintro e w' ⟨he,m,rfl⟩
  refine ⟨he,?_⟩
  have h5:=grownBy_sortedI (w:=w) (g:=g) (n:=m) (os:=#[]) (Lib.compact xs ++ List.replicate (n - (Lib.compact xs).length) 0).toArray
  rw [grow_empty] at h5
  simpa [Value.ownBlock] using h5
end Go.Proofs.YtoiompoapikkbaaGreat
/- Layer 2: areApart of the program. -/
namespace Go.Proofs.YtoiompoapikkbaaGreat
open Go.RowKit
theorem apart_eq (xs:List Int):decide ((Lib.compact (srtI xs)).length=xs.length)=decide xs.Nodup:=by
 have h:=compact_nodup (srtI_pair xs)
 rw [srtI_len] at h
 rw [h,decide_eq_decide]
 exact (srtI_perm xs).nodup_iff
theorem srcL_len {l:Led} {a b c:Nat} (h1:l.rc.length=a) (h2:l.rt.length=b) (h3:l.sg.length=c):(srcL l).length=a+b+c:=by simp [srcL,h1,h2,h3];omega
set_option maxRecDepth 10000 in
set_option maxHeartbeats 4000000 in
theorem p_areApart (l:Led) (x:Lsl) (w:World) (hr:x.rn≤60) (ht:x.tn≤60) (hs:x.sn≤60) (hd:LedIn w w.heap.size x l) :
 Calls Tryz.prog 93 #[.agg #[.slice x.pA x.pn x.pc,.slice x.rA x.rn x.rc,.slice x.tA x.tn x.tc,.slice x.sA x.sn x.sc]] w fun e w'=>e=.returned (.bool (decide (srcL l).Nodup))∧Below w.heap.size w w':=by
 obtain ⟨W1,hW1⟩:∃ W1,w.alloc (.cells #[.slice x.pA x.pn x.pc,.slice x.rA x.rn x.rc,.slice x.tA x.tn x.tc,.slice x.sA x.sn x.sc] 27)=W1:=⟨_,rfl⟩
 have hB1:Below w.heap.size w W1:=by rw [← hW1];exact (Below.refl _ _).alloc (Nat.le_refl _) _
 have hz1:W1.heap.size=w.heap.size+1:=by rw [← hW1];simp
 have b0:W1.cell? ⟨w.heap.size,0,none⟩=some (.slice x.pA x.pn x.pc):=by rw [← hW1];simp
 have b1:W1.cell? ⟨w.heap.size,1,none⟩=some (.slice x.rA x.rn x.rc):=by rw [← hW1];simp
 have b2:W1.cell? ⟨w.heap.size,2,none⟩=some (.slice x.tA x.tn x.tc):=by rw [← hW1];simp
 have b3:W1.cell? ⟨w.heap.size,3,none⟩=some (.slice x.sA x.sn x.sc):=by rw [← hW1];simp
 have HD:=Lib.hid (hd.now hB1)
 have hln:=srcL_len hd.r.len hd.t.len hd.s.len
 obtain ⟨xs,hxs⟩:∃ xs,srcL l=xs:=⟨_,rfl⟩
 have HS:Hid (∀ W:World,LedIn W W.heap.size x l→Calls Tryz.prog 58 #[.agg #[.slice x.pA x.pn x.pc,.slice x.rA x.rn x.rc,.slice x.tA x.tn x.tc,.slice x.sA x.sn x.sc]] W (RetO xs W)):=by
  show ∀ _,_
  intro W h
  rw [← hxs]
  exact p_sources l x W hr ht hs h
 rw [hxs] at hln ⊢
 obtain ⟨n,hn⟩:∃ n,xs.length=n:=⟨_,rfl⟩
 have hn180:n≤180:=by omega
 unfold RetO at HS
 rw [hn] at HS
 have HE:=Lib.hid (apart_eq xs)
 rw [hn] at HE
 obtain ⟨m,hm⟩:∃ m,(Lib.compact (srtI xs)).length=m:=⟨_,rfl⟩
 rw [hm] at HE
 have HM:=Lib.hid hm
 clear hxs hln hd hn hm
 go_enter Tryz.func93,Tryz.ntmps93
 go_wp2_with (go_at_call 58;(first | rw [hW1] | skip);refine (HS.out _ HD.out).mono ?_;rintro e w1 ⟨v1,rfl,hb1,hown1⟩;refine Hid.out ?_)
 refine Lib.hid ?_
 obtain ⟨A,c,rfl,hcc⟩:=own_slice hown1
 have hs1:=hb1.size
 have HP:=Lib.hid (p_SortI (base:=W1.heap.size) w1 (by omega) hown1)
 clear hW1
 go_wp2_with (go_at_call 157;refine HP.out.mono ?_;rintro e w2 ⟨rfl,hown2,hg2⟩;refine Hid.out ?_)
 refine Lib.hid ?_
 have hB2:Below W1.heap.size W1 w2:=hb1.grown hg2 hs1 fun k ek=>own_base hown1 ek
 have hs2:=hB2.size
 obtain ⟨q2,f2⟩:=bcell hB2
 have HO2:=Lib.hid hown2
 have HB2:=Lib.hid hB2
 clear hown1 hown2 hg2 hb1 hB2 HP
 go_wp2_with fail
 have hown3:w2.drew.ownsRow W1.heap.size 3 1 (.slice A n c) n (intL (srtI xs)):=HO2.out
 have HP3:=Lib.hid (p_CompactI (base:=W1.heap.size) w2.drew (by omega) hown3)
 rw [HM.out] at HP3
 go_region_with (first
  | (go_at_call 158;refine HP3.out.mono ?_;rintro e w3 ⟨rfl,hg3⟩;have hB3:Below W1.heap.size W1 w3:=HB2.out.drew.grown hg3 hs2 fun k ek=>own_base hown3 ek;obtain ⟨q3,f3⟩:=bcell hB3)
  | (go_at_call 58;refine (HS.out _ (HD.out.now hB3)).mono ?_;rintro e w4 ⟨v4,rfl,hb4,hown4⟩;obtain ⟨A4,c4,rfl,_⟩:=own_slice hown4))
 all_goals
  go_wp2_with fail
  go_ret
  refine ⟨ret_bool ?_,(hB1.trans (hB3.mono (by omega))).trans (hb4.mono (by have:=hB3.size;omega))⟩
  rw [← HE.out,Bool.eq_iff_iff]
  simp
  try omega
end Go.Proofs.YtoiompoapikkbaaGreat
