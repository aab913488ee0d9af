/- Layer 2 of the texts that LoanBack takes: Bbvq. -/
import Derived.Test.YtmcmbicapdcfmaaGreatBbuq
set_option linter.unusedVariables false
set_option linter.unusedSimpArgs false
set_option maxHeartbeats 16000000
namespace Go.Proofs.YtmcmbicapdcfmaaGreat
open Go.RowKit Go.Maps
theorem rvs_rd {w:World} {B n:Nat} {A:Option Addr} {R:List Rcp} (h:Rcs w B A n R):∃ xs:List Rv,xs.map Rv.r=R∧Rd w B 7 A n (xs.flatMap rvC)∧∀ v∈xs,Is w B v.A v.n v.r.lv∧v.n≤v.c∧v.c≤maxLen:=by
 obtain ⟨xs,e,hl,hx⟩:=rvs_of h
 by_cases h0:0<n
 ·obtain ⟨b,o,rfl,hb,hc⟩:=hx h0
  refine ⟨xs,e,rd_flat rvC 7 (fun _=>rfl) (by decide) hl hb fun k x hk m u hm hu=>?_,fun v hv=>?_⟩
  ·obtain ⟨⟨c0,c1,c2,c3,c4,c5,c6⟩,-⟩:=hc k x hk
   match m,hm,hu with
   | 0,_,hu=>simp at hu;subst hu;simpa using c0
   | 1,_,hu=>simp at hu;subst hu;exact c1
   | 2,_,hu=>simp at hu;subst hu;exact c2
   | 3,_,hu=>simp at hu;subst hu;exact c3
   | 4,_,hu=>simp at hu;subst hu;exact c4
   | 5,_,hu=>simp at hu;subst hu;exact c5
   | 6,_,hu=>simp at hu;subst hu;exact c6
   | m+7,hm,_=>omega
  ·obtain ⟨k,hk⟩:=List.getElem?_of_mem hv
   exact (hc k v hk).2
 ·obtain rfl:n=0:=by omega
  obtain rfl:xs=[]:=List.length_eq_zero_iff.1 hl
  exact ⟨[],e,⟨rfl,fun h=>absurd h (by omega)⟩,fun v hv=>by cases hv⟩
theorem lastK_spec {kn pap leaf day:Int} {R:List Rcp}:∀ (k:Nat),(match lastK kn pap leaf day R k with
 | none=>∀ (i:Nat) u,i<k→R[i]?=some u→countsB u.kn u.un kn=true→isOfB pap leaf u=true→¬ u.day≤day
 | some (_,d)=>d≤day∧(∃ (j:Nat) (r:Rcp),(lastK kn pap leaf day R k).map Prod.fst=some j∧R[j]?=some r∧r.day=d∧countsB r.kn r.un kn=true∧isOfB pap leaf r=true)∧∀ (i:Nat) u,i<k→R[i]?=some u→countsB u.kn u.un kn=true→isOfB pap leaf u=true→u.day≤day→u.day≤d)
 | 0=>by simp [lastK]
 | k+1=>by
   have ih:=lastK_spec (kn:=kn) (pap:=pap) (leaf:=leaf) (day:=day) (R:=R) k
   rw [lastK_succ,lastStep]
   cases hr:R[k]? with
   | none =>
     dsimp only
     cases hL:lastK kn pap leaf day R k with
     | none =>
       rw [hL] at ih
       intro i u hi hu
       by_cases hik:i=k
       ·subst hik;rw [hr] at hu;cases hu
       ·exact ih i u (by omega) hu
     | some p =>
       obtain ⟨j,d⟩:=p
       rw [hL] at ih
       refine ⟨ih.1,ih.2.1,fun i u hi hu=>?_⟩
       by_cases hik:i=k
       ·subst hik;rw [hr] at hu;cases hu
       ·exact ih.2.2 i u (by omega) hu
   | some r =>
     dsimp only
     by_cases hc:((countsB r.kn r.un kn && isOfB pap leaf r) && (decide (r.day≤day) && newer (lastK kn pap leaf day R k) r.day))=true
     ·rw [if_pos hc]
      simp only [Bool.and_eq_true,decide_eq_true_eq] at hc
      obtain ⟨⟨c1,c2⟩,c3,c4⟩:=hc
      refine ⟨c3,⟨k,r,rfl,hr,rfl,c1,c2⟩,fun i u hi hu h1 h2 h3=>?_⟩
      by_cases hik:i=k
      ·subst hik
       obtain rfl:=Option.some.inj (hr.symm.trans hu)
       omega
      ·cases hL:lastK kn pap leaf day R k with
       | none =>
         rw [hL] at ih
         exact absurd h3 (ih i u (by omega) hu h1 h2)
       | some p =>
         obtain ⟨j,d⟩:=p
         rw [hL] at ih c4
         have h5:=ih.2.2 i u (by omega) hu h1 h2 h3
         simp [newer] at c4
         omega
     ·rw [if_neg hc]
      cases hL:lastK kn pap leaf day R k with
      | none =>
        rw [hL] at ih hc
        intro i u hi hu h1 h2
        by_cases hik:i=k
        ·subst hik
         obtain rfl:=Option.some.inj (hr.symm.trans hu)
         intro h3
         apply hc
         simp [h1,h2,h3,newer]
        ·exact ih i u (by omega) hu h1 h2
      | some p =>
        obtain ⟨j,d⟩:=p
        rw [hL] at ih hc
        refine ⟨ih.1,ih.2.1,fun i u hi hu h1 h2 h3=>?_⟩
        by_cases hik:i=k
        ·subst hik
         obtain rfl:=Option.some.inj (hr.symm.trans hu)
         by_cases h4:r.day≤d
         ·exact h4
         ·exfalso
          apply hc
          simp [h1,h2,h3,newer]
          omega
        ·exact ih.2.2 i u (by omega) hu h1 h2 h3
theorem last_some {kn pap leaf day:Int} {R:List Rcp} {p:Nat × Int} (h:lastK kn pap leaf day R R.length=some p):∃ r,R[p.1]?=some r∧r.day≤day∧r.pap=pap∧leaf∈r.lv∧∀ u∈R,countsB u.kn u.un kn=true→u.pap=pap→leaf∈u.lv→u.day≤day→u.day≤r.day:=by
 have hs:=lastK_spec (kn:=kn) (pap:=pap) (leaf:=leaf) (day:=day) (R:=R) R.length
 rw [h] at hs
 obtain ⟨j,d⟩:=p
 obtain ⟨h1,⟨i,r,hi,hr,hd,hc,ho⟩,h2⟩:=hs
 obtain rfl:j=i:=Option.some.inj hi
 simp only [isOfB,Bool.and_eq_true,decide_eq_true_eq] at ho
 refine ⟨r,hr,by omega,ho.1,ho.2,fun u hu hcu hpu hlu hdu=>?_⟩
 obtain ⟨i,hi⟩:=List.getElem?_of_mem hu
 have:=h2 i u (List.getElem?_eq_some_iff.1 hi).1 hi hcu (by simp [isOfB,hpu,hlu]) hdu
 omega
theorem last_none {kn pap leaf day:Int} {R:List Rcp} (h:lastK kn pap leaf day R R.length=none):∀ u∈R,countsB u.kn u.un kn=true→u.pap=pap→leaf∈u.lv→¬ u.day≤day:=by
 have hs:=lastK_spec (kn:=kn) (pap:=pap) (leaf:=leaf) (day:=day) (R:=R) R.length
 rw [h] at hs
 intro u hu hcu hpu hlu
 obtain ⟨i,hi⟩:=List.getElem?_of_mem hu
 exact hs i u (List.getElem?_eq_some_iff.1 hi).1 hi hcu (by simp [isOfB,hpu,hlu])
theorem pre_okH {l:Led} {ds:List Int} (h1:ledB l=true) (h2:daysOk ds=true):preE l ds=0:=by simp [preE,h1,h2,orL,errI]
theorem pre2 {l:Led} (hl:ledB l=true) {a b:Int} (ha:0≤a∧a≤100000) (hb:0≤b∧b≤100000):preE l [a,b]=0:=pre_okH hl (by simp [daysOk,withinB];omega)
theorem pre1 {l:Led} (hl:ledB l=true) {b:Int} (hb:0≤b∧b≤100000):preE l [b]=0:=pre_okH hl (by simp [daysOk,withinB];omega)
theorem findR_src {l:Led} {kn:Int} {r:Rcp} (hu:l.rc.Pairwise fun x y=>x.src<y.src) (hr:r∈l.rc) (hc:countsB r.kn r.un kn=true):findR (cntR l kn) r.src=some r:=by
 obtain ⟨i,hi,hr2⟩:=rc_ix hu hr hc
 rw [findR_cnt,hi]
 exact hr2
theorem same_srcR {R:List Rcp} (hu:R.Pairwise fun x y=>x.src<y.src) {x y:Rcp} (hx:x∈R) (hy:y∈R) (h:x.src=y.src):x=y:=by
 obtain ⟨i,hi,rfl⟩:=List.mem_iff_getElem.1 hx
 obtain ⟨j,hj,rfl⟩:=List.mem_iff_getElem.1 hy
 rcases Nat.lt_trichotomy i j with h1 | h1 | h1
 ·have:=List.pairwise_iff_getElem.1 hu i j hi hj h1;omega
 ·subst h1;rfl
 ·have:=List.pairwise_iff_getElem.1 hu j i hj hi h1;omega
theorem set_att {l:Led} {kn:Int} {k:Nat} {t:Rtn} {d:Int × Int} (hl:ledB l=true) (hp:preE l [kn]=0) (hs:setE l kn=0) (ht:l.rt[k]?=some t) (hT:(tellK l kn l.rt.length)[k]?=some true) (hd:(setP l kn)[k]?=some d) :
 daysX l t.src kn=(d,0)∧∀ last:Bool,∃ L,trueE l kn L=0∧L[k]?=some (if last=true then d.2 else d.1):=by
 have hm:t.src∈(telX l kn).1:=by rw [telX,if_pos hp];exact at_tel ht (by rw [opn_tell];exact hT)
 have hr:=tel_ret hl hp hs hm
 obtain ⟨i,e,hi,hdy,hat⟩:=att_ok hr
 obtain rfl:k=i:=Option.some.inj ((findI_src (rt_rise hl) ht).symm.trans hi)
 have he:e=d:=by
  have h9:=hdy
  rw [daysX,if_pos hr,hi,Option.getD_some,List.getD_eq_getElem?_getD,hd] at h9
  exact (congrArg Prod.fst h9).symm
 subst he
 refine ⟨hdy,fun last=>?_⟩
 obtain ⟨L,-,h1,h2⟩:=hat last
 exact ⟨L,(check_of h1).2,h2⟩
section
variable {l:Led} {days:List Int} (h:HnOk l days)
include h
theorem HnOk.set0:setE l 900=0:=(true_of h.true_).2.1
theorem HnOk.day {r:Rcp} (hr:r∈l.rc):0≤r.day∧r.day≤160:=by
 obtain ⟨j,-,hj⟩:=h.rc r hr
 exact hj.day
theorem HnOk.over {k:Nat} {t:Rtn} {d:Int × Int} (ht:l.rt[k]?=some t) (hd:(setP l 900)[k]?=some d):d.1≤200∧d.2≤200:=by
 have hpos:=setP_pos h.led h.set0 k d hd
 obtain ⟨-,hat⟩:=set_att h.led (pre1 h.led (by decide)) h.set0 ht (h.tell ht) hd
 obtain ⟨L,hL,hk⟩:=hat true
 rw [if_pos rfl] at hk
 obtain ⟨-,-,hc,-⟩:=(true_iff h.led).1 hL
 have hkl:k<l.rt.length:=(List.getElem?_eq_some_iff.1 ht).1
 obtain ⟨e,he⟩:∃ e,(byL l 900)[k]?=some e:=⟨_,List.getElem?_eq_getElem (by rw [byL_len];exact hkl)⟩
 have h2:=hc.2 k _ _ hk he
 rw [byL,List.getElem?_map,List.getElem?_range hkl,Option.map_some] at he
 obtain ⟨ix,r,hix,hr,hby⟩:=byR_true (h.tell ht) ht
 rw [hby] at he
 obtain ⟨y,j,r2,-,-,hm,-⟩:=h.rt k t ht
 have h4:=hm.day
 have hfold:=(foldl_le (q:=fun v (u:Rcp)=>∀ x∈t.lv,r.day<u.day∧(countsB u.kn u.un 900 && isOfB r.pap x u)=true→v≤u.day) (fun v a u=>refHi_le 900 v r t.lv a u) (l.rc.foldl (refHi 900 r t.lv) t.hi) l.rc t.hi).1 (Int.le_refl _)
 have h5:=congrArg Prod.snd (Option.some.inj he)
 dsimp only at h5
 omega
end
theorem any_nallB {α:Type} {p:α→Bool} (xs:List α):xs.any (fun x=>!p x)=!xs.all p:=by
 induction xs with
 | nil=>rfl
 | cons x xs ih=>rw [List.any_cons,List.all_cons,ih,Bool.not_and]
theorem preF_zeroB {l:Led} {day kn pap leaf:Int} (hl:ledB l=true) (hd:daysOk [day,kn]=true) (hf:folB l.pp pap leaf=true):preF l day kn pap leaf=0:=by simp [preF,hl,hd,hf,orL,errI]
theorem lf_inB {p:Ppr} (h:p∈mPp) {leaf:Int} (h1:1≤leaf) (h2:leaf≤p.lv):folB mPp p.id leaf=true:=by
 rw [folB,lv_pp h]
 simp [withinB,h1,h2]
theorem lv_inB {p:Ppr} (h:p∈mPp):folB mPp p.id 1=true:=lf_inB h (by decide) (by rcases mem_pp h with ⟨-,e⟩ | ⟨-,e⟩ | ⟨-,e⟩ <;> omega)
def fndB (rt:List Rtn) (x:Rcp) (f:Int):Bool:=rt.any fun t=>decide (t.rcp=x.src) && decide (f∈t.lv)
def bakB (l:Led) (x:Rcp):Bool:=x.lv.all (fndB l.rt x)
def whoB (l:Led) (pid:Int) (k:Nat):Bool:=(l.rc.take k).all fun x=>!decide (x.pap=pid) || bakB l x
section
variable {l:Led} {days:List Int} (h:HnOk l days)
include h
theorem HnOk.fnd (x:Rcp) (f:Int):(fndB l.rt x f=true→∃ k t,l.rt[k]?=some t∧rtIx (tellK l 900 l.rt.length) l.rt x.src f=some k)∧(fndB l.rt x f=false→rtIx (tellK l 900 l.rt.length) l.rt x.src f=none):=by
 constructor
 ·intro hf
  obtain ⟨t,ht,hc⟩:=List.any_eq_true.1 hf
  simp only [Bool.and_eq_true,decide_eq_true_eq] at hc
  obtain ⟨k,hk⟩:=List.getElem?_of_mem ht
  exact ⟨k,t,hk,by rw [← hc.1];exact h.ix hk hc.2⟩
 ·intro hf
  cases hr:rtIx (tellK l 900 l.rt.length) l.rt x.src f with
  | none=>rfl
  | some k =>
    obtain ⟨-,t,ht,hs,hlv⟩:=rt_some hr
    have:=List.any_eq_false.1 hf t (List.mem_of_getElem? ht)
    simp [hs,hlv] at this
theorem HnOk.setAt {k:Nat} {t:Rtn} (ht:l.rt[k]?=some t):∃ d:Int × Int,(setP l 900)[k]?=some d∧d.1≤200∧d.2≤200:=by
 have hk:k<l.rt.length:=(List.getElem?_eq_some_iff.1 ht).1
 obtain ⟨d,hd⟩:∃ d,(setP l 900)[k]?=some d:=⟨_,List.getElem?_eq_getElem (by rw [setP_len h.led h.set0];exact hk)⟩
 exact ⟨d,hd,h.over ht hd⟩
theorem HnOk.lie (x:Rcp) (f:Int):lieO l 900 900 x f=!fndB l.rt x f∧lieB l 900 900 x f=fndB l.rt x f:=by
 obtain ⟨h1,h2⟩:=h.fnd x f
 rw [lieO,lieB,opn_rt,opn_tell]
 cases hf:fndB l.rt x f with
 | true =>
   obtain ⟨k,t,ht,hr⟩:=h1 hf
   obtain ⟨d,hd,hd1,hd2⟩:=h.setAt ht
   simp only [hr,List.getD_eq_getElem?_getD,hd,Option.getD_some]
   constructor
   ·simp;omega
   ·simp;omega
 | false=>simp [h2 hf]
theorem HnOk.backLies {x:Rcp} (hx:x∈l.rc):liesX l x.src 900 900=(if bakB l x=true then 0 else 1,0):=by
 rw [liesX,if_pos (pre2 h.led (by decide) (by decide)),findR_src h.ru hx (h.cnt hx)]
 dsimp only
 have hd:=h.day hx
 rw [if_pos h.set0,if_neg (by omega)]
 have e1:x.lv.any (lieO l 900 900 x)=!bakB l x:=by
  rw [bakB,← any_nallB]
  congr 1
  funext f
  exact (h.lie x f).1
 have e2:x.lv.all (lieB l 900 900 x)=bakB l x:=by
  rw [bakB]
  congr 1
  funext f
  exact (h.lie x f).2
 rw [e1,e2]
 cases bakB l x <;> rfl
theorem HnOk.last0 (pap leaf:Int):(whL l 900 900 (pap,leaf)=[0]∧∀ x∈l.rc,x.pap=pap→leaf∈x.lv→fndB l.rt x leaf=true)∨(∃ b x,b≠0∧whL l 900 900 (pap,leaf)=[b]∧x∈l.rc∧x.pap=pap∧leaf∈x.lv∧fndB l.rt x leaf=false):=by
 obtain ⟨h0,hb⟩:=led_bor h.led
 cases hL:lastK 900 pap leaf 900 l.rc l.rc.length with
 | none =>
   refine .inl ⟨wh_none h0 hL,fun x hx hp hl=>?_⟩
   have h1:=h.day hx
   exact absurd (show x.day≤900 by omega) (last_none hL x hx (h.cnt hx) hp hl)
 | some p =>
   obtain ⟨r,hr,hrd,hrp,hrl,hmax⟩:=last_some hL
   have hrm:=List.mem_of_getElem? hr
   rw [wh_some h0 hL hr]
   obtain ⟨f1,f2⟩:=h.fnd r leaf
   cases hf:fndB l.rt r leaf with
   | false =>
     rw [f2 hf]
     exact .inr ⟨r.bor,r,hb r hrm,rfl,hrm,hrp,hrl,hf⟩
   | true =>
     obtain ⟨k,t,ht,hx⟩:=f1 hf
     obtain ⟨d,hd,hd1,hd2⟩:=h.setAt ht
     refine .inl ⟨?_,fun x hx hp hl=>?_⟩
     ·rw [hx,refW]
      simp only [List.getD_eq_getElem?_getD,hd,Option.getD_some]
      rw [if_neg (by omega),if_pos (by omega)]
     ·by_cases he:x.src=r.src
      ·rw [same_srcR h.ru hx hrm he];exact hf
      ·have h2:=hmax x hx (h.cnt hx) hp hl (by have:=h.day hx;omega)
       rcases Int.lt_or_gt_of_ne he with h3 | h3
       ·obtain ⟨k2,t2,d2,ht2,-,hs2,hl2,-⟩:=h.back (sub2_of h.ru hx hrm h3) (hp.trans hrp.symm) hl hrl
        rw [fndB,List.any_eq_true]
        exact ⟨t2,List.mem_of_getElem? ht2,by simp [hs2,hl2]⟩
       ·obtain ⟨k2,t2,d2,-,-,-,-,h5,-,h6,-⟩:=h.back (sub2_of h.ru hrm hx h3) (hrp.trans hp.symm) hrl hl
        omega
theorem HnOk.backWhole {p:Ppr} (hp:p∈mPp):wholeX l p.id 900 900=(if whoB l p.id l.rc.length=true then 1 else 0,0):=by
 have hpre:preF l 900 900 p.id 1=0:=preF_zeroB h.led (by decide) (by rw [h.pp];exact lv_inB hp)
 rw [wholeX,if_pos hpre,if_pos h.set0,h.pp,lv_pp hp]
 have e1:∀ i,notW l 900 900 p.id i=!canW l 900 900 p.id i:=fun i=>by
  unfold notW canW
  rcases h.last0 p.id ((i:Int)+1) with ⟨h1,-⟩ | ⟨b,x,hb,h1,-⟩
  ·simp [h1]
  ·have hb2:¬ (0:Int)=b:=fun e=>hb e.symm
   simp [h1,hb,hb2]
 have e2:((List.range p.lv.toNat).any (notW l 900 900 p.id))=!((List.range p.lv.toNat).all (canW l 900 900 p.id)):=by
  rw [← any_nallB]
  congr 1
  funext i
  exact e1 i
 have e3:((List.range p.lv.toNat).all (canW l 900 900 p.id))=whoB l p.id l.rc.length:=by
  rw [Bool.eq_iff_iff,List.all_eq_true,whoB,List.take_length,List.all_eq_true]
  constructor
  ·intro ha x hx
   by_cases hxp:x.pap=p.id
   ·simp only [hxp,decide_true,Bool.not_true,Bool.false_or]
    rw [bakB,List.all_eq_true]
    intro f hf
    obtain ⟨j,-,hj⟩:=h.rc x hx
    obtain ⟨q,hq,hqp,hbo⟩:=hj.pap
    have hlo:=hbo.lo f hf
    have hql:q.lv=p.lv:=by
     have h1:=lv_pp hq
     have h2:=lv_pp hp
     rw [← hqp,hxp] at h1
     rw [← h1,← h2]
    have hi:=ha (f - 1).toNat (List.mem_range.2 (by omega))
    unfold canW at hi
    rw [show ((f - 1).toNat:Int)+1=f by omega] at hi
    rcases h.last0 p.id f with ⟨-,h2⟩ | ⟨b,y,hb,h1,-⟩
    ·exact h2 x hx hxp hf
    ·rw [h1] at hi
     simp at hi
     exact absurd hi.symm hb
   ·simp [hxp]
  ·intro ha i hi
   unfold canW
   rcases h.last0 p.id ((i:Int)+1) with ⟨h1,-⟩ | ⟨b,y,hb,-,hy,hyp,hyl,hf⟩
   ·simp [h1]
   ·have h2:=ha y hy
    simp only [hyp,decide_true,Bool.not_true,Bool.false_or] at h2
    rw [bakB,List.all_eq_true] at h2
    have:=h2 _ hyl
    rw [hf] at this
    cases this
 rw [e2,e3]
 cases whoB l p.id l.rc.length <;> rfl
end
theorem whoB_succ {l:Led} {pid:Int} {k:Nat} {x:Rcp} (h:l.rc[k]?=some x):whoB l pid (k+1)=(whoB l pid k && (!decide (x.pap=pid) || bakB l x)):=by
 rw [whoB,take_snoc_some h,List.all_append];simp [whoB]
end Go.Proofs.YtmcmbicapdcfmaaGreat
namespace Go.Proofs.YtmcmbicapdcfmaaGreat
open Go.RowKit
end Go.Proofs.YtmcmbicapdcfmaaGreat
namespace Go.Proofs.YtmcmbicapdcfmaaGreat
open Go.ChangeShapes Go.WideShapes Go.ChangeAt Go.RowKit Go.Deep Go.Joins
section
variable {H:Type} {enc:TypeId × Value→H} {w:World} {base:Nat} {spare:Nat→Bool} {held:Bool} {r:Reach} {b0:Nat} {v:Value} {d:DataW H} {p:List MemPlace}
end
end Go.Proofs.YtmcmbicapdcfmaaGreat
namespace Go.Proofs.YtmcmbicapdcfmaaGreat
open Go.RowKit Go.Maps Go.Shelf
end Go.Proofs.YtmcmbicapdcfmaaGreat
