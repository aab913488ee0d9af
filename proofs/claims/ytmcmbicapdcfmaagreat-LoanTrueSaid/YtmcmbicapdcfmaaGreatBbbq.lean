/- Layer 2 of the texts that LoanBack takes: Bbbq. -/
import Derived.Test.YtmcmbicapdcfmaaGreatBbaq
set_option linter.unusedVariables false
set_option linter.unusedSimpArgs false
set_option maxHeartbeats 16000000
namespace Go.Proofs.YtmcmbicapdcfmaaGreat
open Go.RowKit Go.Maps
theorem getN_putK_eq (M:List ((Int × Int) × Nat)) (src:Int) (i:Nat) (l:List Int) (k:Int × Int):getN (putK M src i l) k=if k.1=src∧k.2∈l then some i else getN M k:=by
 induction l generalizing M with
 | nil=>simp [putK]
 | cons x l ih =>
   have e:putK M src i (x :: l)=putK (putN M (src,x) i) src i l:=rfl
   rw [e,ih,getN_put]
   obtain ⟨a,b⟩:=k
   by_cases h1:a=src∧b∈l
   ·simp [h1]
   ·by_cases h2:(a,b)=(src,x)
    ·obtain ⟨rfl,rfl⟩:=Prod.mk.inj h2
     simp
    ·have h3:¬ (a=src∧b∈x :: l):=by
      rintro ⟨rfl,hb⟩
      rcases List.mem_cons.1 hb with rfl | hb
      ·exact h2 rfl
      ·exact h1 ⟨rfl,hb⟩
     rw [if_neg h1,if_neg h2,if_neg h3]
theorem find_none_set {B:List Bool} {k:Nat} (hk:k<B.length) (h:B.findIdx? id=none):(B.set k true).findIdx? id=some k:=by
 rw [List.findIdx?_eq_some_iff_getElem]
 refine ⟨by simpa using hk,by simp,fun j hj=>?_⟩
 have h2:=List.findIdx?_eq_none_iff.1 h B[j] (List.getElem_mem (by omega))
 rw [List.getElem_set_ne (by omega)]
 simpa using h2
theorem zip_set {T:List Bool} {rt:List Rtn} {k:Nat} {t:Rtn} {b:Bool} (ht:rt[k]?=some t) (s x:Int) :
 ((T.set k b).zip rt).map (rtAt s x)=((T.zip rt).map (rtAt s x)).set k (rtAt s x (b,t)):=by
 apply List.ext_getElem?
 intro j
 have hg:∀ U:List Bool,((U.zip rt).map (rtAt s x))[j]?=(match U[j]?,rt[j]? with | some a,some c=>some (rtAt s x (a,c)) | _,_=>none):=fun U=>by
  rw [List.getElem?_map,List.zip,List.getElem?_zipWith]
  cases U[j]? <;> cases rt[j]? <;> rfl
 rw [hg,List.getElem?_set,List.getElem?_set,hg]
 by_cases hkj:k=j
 ·subst hkj
  have hl:k<rt.length:=(List.getElem?_eq_some_iff.1 ht).1
  by_cases hk:k<T.length
  ·have he:rt[k]=t:=(List.getElem?_eq_some_iff.1 ht).2
   simp [hk,hl,he]
   try omega
  ·simp [hk]
   try omega
 ·simp [hkj]
theorem opn_inv (kn:Int) (R:List Rcp) (rt:List Rtn):∀ k,k≤rt.length→(∀ s x,getN (opnK kn R rt rt.length k).M (s,x)=rtIx (opnK kn R rt rt.length k).T rt s x)∧∀ j,k≤j→j<rt.length→(opnK kn R rt rt.length k).T[j]?=some false
 | 0,_=>by
   refine ⟨fun s x=>?_,fun j _ hj=>by rw [opnK_zero];simp [hj]⟩
   rw [opnK_zero]
   show none=_
   rw [rtIx,eq_comm,List.findIdx?_eq_none_iff]
   intro p hp
   have h:=(List.of_mem_zip (a:=p.1) (b:=p.2) hp).1
   have h2:=List.eq_of_mem_replicate h
   simp [rtAt,h2]
 | k+1,hk=>by
   obtain ⟨ih1,ih2⟩:=opn_inv kn R rt k (by omega)
   obtain ⟨t,ht⟩:∃ t,rt[k]?=some t:=⟨rt[k],List.getElem?_eq_getElem (by omega)⟩
   rw [opnK_succ ht]
   generalize opnK kn R rt rt.length k=S at ih1 ih2
   unfold readS
   cases hr:readR kn R S.M t with
   | none=>exact ⟨ih1,fun j hj hl=>ih2 j (by omega) hl⟩
   | some r =>
     have hTk:=ih2 k lr_ (by omega)
     have hlt:k<S.T.length:=(List.getElem?_eq_some_iff.1 hTk).1
     have hrr:r.src=t.rcp∧takesB (encM S.M) r t.lv=true:=by
      unfold readR at hr
      split at hr
      ·cases hr
      ·rename_i r' hf
       split at hr
       ·rename_i hc
        obtain rfl:=Option.some.inj hr
        have:=List.find?_some hf
        simp only [Bool.and_eq_true] at hc
        exact ⟨by simpa using this,hc.2.1⟩
       ·cases hr
     refine ⟨fun s x=>?_,fun j hj hl=>?_⟩
     ·show getN (putK S.M r.src k t.lv) (s,x)=rtIx (S.T.set k true) rt s x
      rw [getN_putK_eq,rtIx]
      have e:∀ L:List (Bool × Rtn),L.findIdx? (rtAt s x)=(L.map (rtAt s x)).findIdx? id:=fun L=>by rw [List.findIdx?_map];rfl
      rw [e,zip_set ht]
      have hB:((S.T.zip rt).map (rtAt s x))[k]?=some false:=by
       rw [List.getElem?_map,List.zip,List.getElem?_zipWith,hTk,ht]
       simp [rtAt]
      have ih:=ih1 s x
      rw [rtIx,e] at ih
      by_cases hc:s=r.src∧x∈t.lv
      ·have hv:rtAt s x (true,t)=true:=by simp [rtAt,hc.1,hc.2,hrr.1]
       have hg:=List.all_eq_true.1 hrr.2 x hc.2
       rw [getG_enc] at hg
       have hn:getN S.M (s,x)=none:=by
        rw [hc.1]
        simp at hg
        exact hg.1
       rw [if_pos hc,hv,find_none_set (List.getElem?_eq_some_iff.1 hB).1 (ih.symm.trans hn)]
      ·have hv:rtAt s x (true,t)=false:=by
        simp only [rtAt,Bool.true_and,Bool.and_eq_false_iff,decide_eq_false_iff_not]
        by_cases h1:t.rcp=s
        ·exact .inr fun h2=>hc ⟨by rw [← h1,hrr.1],h2⟩
        ·exact .inl h1
       rw [if_neg hc,hv,ih]
       congr 1
       rw [eq_comm,← List.getElem?_eq_some_iff.1 hB |>.2,List.set_getElem_self]
     ·show (S.T.set k true)[j]?=some false
      rw [List.getElem?_set_ne (by omega)]
      exact ih2 j (by omega) hl
theorem opn_rt (l:Led) (kn s x:Int):getN (opnL l kn).M (s,x)=rtIx (opnL l kn).T l.rt s x:=(opn_inv kn (cntR l kn) l.rt l.rt.length lr_).1 s x
def fineB (T:List Bool) (rt:List Rtn) (i:Nat) (t:Rtn) (r:Rcp) (lv:List Int):Bool:=lv.all fun x=>decide (x∈r.lv) && !((T.zip rt).take i).any (rtAt t.rcp x)
def tellB (l:Led) (kn:Int) (T:List Bool) (i:Nat) (t:Rtn):Bool:=match rcIx l.rc t.rcp kn with
 | none=>false
 | some k=>match l.rc[k]? with
   | none=>false
   | some r=>countsB t.kn t.un kn && (!decide (t.hi<max t.lo (r.day+1)) && fineB T l.rt i t r t.lv)
def tellK (l:Led) (kn:Int):Nat→List Bool
 | 0=>List.replicate l.rt.length false
 | k+1=>match l.rt[k]? with
   | none=>tellK l kn k
   | some t=>(tellK l kn k).set k (tellB l kn (tellK l kn k) k t)
theorem find_ix {α:Type} (p:α→Bool):∀ l:List α,l.find? p=(l.findIdx? p).bind fun k=>l[k]?
 | []=>rfl
 | x :: l=>by
   rw [List.find?_cons,List.findIdx?_cons]
   cases h:p x with
   | true=>simp
   | false =>
     simp only [find_ix p l]
     cases List.findIdx? p l <;> simp
theorem findR_cnt (l:Led) (kn src:Int):findR (cntR l kn) src=(rcIx l.rc src kn).bind fun k=>l.rc[k]?:=by
 rw [rcIx,← find_ix,findR,cntR,List.find?_filter]
 congr 1
 funext r
 rw [rcAt,Bool.and_comm]
 cases countsB r.kn r.un kn <;> by_cases h:r.src=src <;> simp [h]
theorem any_take {T:List Bool} {rt:List Rtn} {i:Nat} (s x:Int) (h:∀ j,i≤j→j<rt.length→T[j]?=some false):((T.zip rt).take i).any (rtAt s x)=(T.zip rt).any (rtAt s x):=by
 conv=>rhs;rw [← List.take_append_drop i (T.zip rt),List.any_append]
 have hd:((T.zip rt).drop i).any (rtAt s x)=false:=by
  rw [List.any_eq_false]
  intro p hp
  obtain ⟨j,hj,he⟩:=List.mem_iff_getElem.1 hp
  rw [List.getElem_drop,List.getElem_zip] at he
  simp at hj
  have h2:=h (i+j) (by omega) (by omega)
  rw [List.getElem?_eq_getElem (by omega)] at h2
  rw [← he]
  simp [rtAt,Option.some.inj h2]
 rw [hd,Bool.or_false]
theorem rt_any {T:List Bool} {rt:List Rtn} {s x:Int}:(rtIx T rt s x).isNone=!(T.zip rt).any (rtAt s x):=by
 rw [rtIx]
 cases h:(T.zip rt).any (rtAt s x) with
 | false=>rw [ix_none h];rfl
 | true =>
   cases h2:(T.zip rt).findIdx? (rtAt s x) with
   | some k=>rfl
   | none =>
     obtain ⟨p,hp,hq⟩:=List.any_eq_true.1 h
     have:=List.findIdx?_eq_none_iff.1 h2 p hp
     rw [hq] at this
     cases this
theorem tell_opn (l:Led) (kn:Int):∀ k,k≤l.rt.length→(opnK kn (cntR l kn) l.rt l.rt.length k).T=tellK l kn k
 | 0,_=>rfl
 | k+1,hk=>by
   have ih:=tell_opn l kn k (by omega)
   obtain ⟨i1,i2⟩:=opn_inv kn (cntR l kn) l.rt k (by omega)
   obtain ⟨t,ht⟩:∃ t,l.rt[k]?=some t:=⟨l.rt[k],List.getElem?_eq_getElem (by omega)⟩
   rw [opnK_succ ht,tellK,ht]
   dsimp only
   generalize opnK kn (cntR l kn) l.rt l.rt.length k=S at ih i1 i2
   rw [← ih]
   have hTk:=i2 k lr_ (by omega)
   have hset:S.T.set k false=S.T:=by
    have hlt:k<S.T.length:=(List.getElem?_eq_some_iff.1 hTk).1
    rw [eq_comm,← (List.getElem?_eq_some_iff.1 hTk).2,List.set_getElem_self]
   have hfine:∀ r:Rcp,r.src=t.rcp→takesB (encM S.M) r t.lv=fineB S.T l.rt k t r t.lv:=fun r hr=>by
    rw [takesB,fineB]
    congr 1
    funext x
    rw [getG_enc,hr,i1,any_take _ _ i2,← rt_any,Bool.and_comm]
    cases rtIx S.T l.rt t.rcp x <;> rfl
   have key:(readR kn (cntR l kn) S.M t).isSome=tellB l kn S.T k t:=by
    unfold readR tellB
    rw [findR_cnt]
    cases h1:rcIx l.rc t.rcp kn with
    | none=>rfl
    | some i =>
      show (match l.rc[i]? with | none=>none | some r=>_).isSome=match l.rc[i]? with | none=>false | some r=>_
      cases h2:l.rc[i]? with
      | none=>rfl
      | some r =>
        have hr:r.src=t.rcp:=by
         have h3:=(List.findIdx?_eq_some_iff_getElem.1 h1)
         obtain ⟨hl,hp,_⟩:=h3
         have h4:l.rc[i]=r:=(List.getElem?_eq_some_iff.1 h2).2
         rw [h4] at hp
         simp [rcAt] at hp
         exact hp.1
        dsimp only
        rw [hfine r hr,Bool.and_comm (fineB _ _ _ _ _ _)]
        split
        ·rename_i h;rw [h];rfl
        ·rename_i h;simp at h ⊢;simpa using h
   unfold readS
   cases hr:readR kn (cntR l kn) S.M t with
   | none=>rw [← key,hr];exact hset.symm
   | some r=>rw [← key,hr];rfl
theorem opn_tell (l:Led) (kn:Int):(opnL l kn).T=tellK l kn l.rt.length:=tell_opn l kn _ lr_
def lastV (M:List ((Int × Int) × Nat)) (R:List Rcp) (leaf:Int):Option (Nat × Int)→Int × Int × Int
 | none=>(0,-1,-1)
 | some p=>match R[p.1]? with
   | none=>(0,-1,-1)
   | some r=>(r.bor,backI M r.src leaf,p.2)
theorem stay_last (R:List Rcp) (kn pap leaf day:Int) (M:List ((Int × Int) × Nat)) (h0:∀ r∈R,0≤r.day):∀ k,stayL M leaf day (((R.take k).filter fun r=>countsB r.kn r.un kn).filter (isOfB pap leaf))=lastV M R leaf (lastK kn pap leaf day R k)
 | 0=>by simp [stayL,lastK,lastV]
 | k+1=>by
   have ih:=stay_last R kn pap leaf day M h0 k
   rw [lastK_succ,lastStep]
   cases hr:R[k]? with
   | none =>
     have hl:R.length≤k:=by simpa using hr
     have e:R.take (k+1)=R.take k:=by rw [List.take_of_length_le (by omega),List.take_of_length_le hl]
     rw [e]
     exact ih
   | some r =>
     rw [take_snoc_some hr,List.filter_append,List.filter_append]
     dsimp only
     have hd0:=h0 r (List.mem_of_getElem? hr)
     cases hc:countsB r.kn r.un kn with
     | false=>simpa [hc] using ih
     | true =>
       cases ho:isOfB pap leaf r with
       | false=>simpa [hc,ho] using ih
       | true =>
         have e:(([r].filter fun r=>countsB r.kn r.un kn).filter (isOfB pap leaf))=[r]:=by simp [hc,ho]
         rw [e,stayL_snoc,ih]
         cases hL:lastK kn pap leaf day R k with
         | none =>
           by_cases h1:r.day≤day
           ·rw [if_pos (by simp [h1,newer])]
            have h2:¬ (day<r.day∨r.day≤((0:Int),(-1:Int),(-1:Int)).2.2):=by dsimp only;omega
            show stayStep M leaf day (0,-1,-1) r=_
            rw [stayStep,if_neg h2]
            simp [lastV,hr]
           ·rw [if_neg (by simp [h1])]
            have h2:day<r.day∨r.day≤((0:Int),(-1:Int),(-1:Int)).2.2:=by dsimp only;omega
            show stayStep M leaf day (0,-1,-1) r=_
            rw [stayStep,if_pos h2]
            rfl
         | some p =>
           obtain ⟨j,d⟩:=p
           obtain ⟨_,r2,hr2,hd2⟩:=lastK_at hL
           have e2:lastV M R leaf (some (j,d))=(r2.bor,backI M r2.src leaf,d):=by simp [lastV,hr2]
           rw [e2]
           by_cases h1:r.day≤day∧d<r.day
           ·rw [if_pos (by simp [h1.1,h1.2,newer])]
            have h2:¬ (day<r.day∨r.day≤(r2.bor,backI M r2.src leaf,d).2.2):=by dsimp only;omega
            rw [stayStep,if_neg h2]
            simp [lastV,hr]
           ·rw [if_neg (by simp only [newer,Bool.true_and,Bool.and_eq_true,decide_eq_true_eq];exact h1)]
            have h2:day<r.day∨r.day≤(r2.bor,backI M r2.src leaf,d).2.2:=by dsimp only;omega
            rw [stayStep,if_pos h2,e2]
theorem stayF_last (l:Led) (kn pap leaf day:Int) (M:List ((Int × Int) × Nat)) (h0:∀ r∈l.rc,0≤r.day):stayF M (cntR l kn) pap leaf day=lastV M l.rc leaf (lastK kn pap leaf day l.rc l.rc.length):=by
 have h:=stay_last l.rc kn pap leaf day M h0 l.rc.length
 rw [List.take_of_length_le lr_] at h
 exact h
theorem back_rt (l:Led) (kn src leaf:Int):backI (opnL l kn).M src leaf=ixI (rtIx (opnL l kn).T l.rt src leaf):=by
 rw [backI,opn_rt]
 cases rtIx (opnL l kn).T l.rt src leaf <;> rfl
theorem r_returnOf_v (l:Led) (v:Vw) (T:List Bool) (i:Nat) (r:Rcp) (leaf k:Int) (w:World) (hn:v.x.rn≤1000000) (htn:v.x.tn≤1000000) (hTt:v.Tn=v.x.tn) (hd:LedIn w w.heap.size v.x l) (hT:Sq QB 1 w w.heap.size v.TA v.Tn T) (hr:l.rc[i]?=some r) (hk:ixI (rtIx T l.rt r.src leaf)=k) :
 Calls Tryz.prog 103 #[vwV v,.int .i64 i,.int .i64 leaf] w fun e w'=>e=.returned (.int .i64 k)∧Below w.heap.size w w':=hk ▸ r_returnOf l v T i r leaf w hn htn hTt hd hT hr
section
variable {P:Program} {o:Oper} {Q:Exit→Act→World→Prop}
end
end Go.Proofs.YtmcmbicapdcfmaaGreat
namespace Go.Proofs.YtmcmbicapdcfmaaGreat
open Go.RowKit
def ansI (can cannot:Bool):Int:=if can then (if cannot then 2 else 1) else 0
theorem p_answer (can cannot:Bool) (w:World) :
 Calls Tryz.prog 94 #[.bool can,.bool cannot] w fun e w'=>e=.returned (.int .i64 (ansI can cannot))∧w=w':=by
 cases can <;> cases cannot <;>
 ·go_enter Tryz.func94,Tryz.ntmps94
  go_wp2
  go_ret
  exact ⟨rfl,rfl⟩
end Go.Proofs.YtmcmbicapdcfmaaGreat
namespace Go.Proofs.YtmcmbicapdcfmaaGreat
open Go.ChangeShapes Go.WideShapes Go.ChangeAt Go.RowKit Go.Deep
theorem own:ownKnob Tryz.prog.godebug=none:=by kernel_rfl
theorem laidOut:laidOutB Tryz.prog=true:=by kernel_rfl
theorem c1_int:Tryz.prog.cellsOf 3=1:=by kernel_rfl
theorem len2 {α:Type}:∀ {l:List α},l.length=2→∃ a b,l=[a,b]
 | [a,b],_=>⟨a,b,rfl⟩
section
variable {H:Type} {enc:TypeId × Value→H} {w:World} {base:Nat} {spare:Nat→Bool} {held:Bool} {fuel:Nat} {cs:List Value} {x:DataW H × List MemPlace}
theorem int_of (h:DataW.trod enc Tryz.prog w base spare held fuel 3 cs=some x):∃ a,cs=[.int .i64 a]:=by
 obtain ⟨n,h1,_⟩:=DataW.trod_int Tryz.underlying3 h
 exact ⟨n,h1⟩
theorem some_at {α:Type} {l:List α} {i n:Nat} (hl:l.length=n) (hi:i<n):∃ y,l[i]?=some y:=⟨_,List.getElem?_eq_getElem (by omega)⟩
theorem row_of {α:Type} {e t:TypeId} {size:Nat} (enc':α→List Value) (hk:∀ a,(enc' a).length=size) (hsz:0<size) (ht:Tryz.prog.underlying t=some (.slice e)) (hC:Tryz.prog.cellsOf e=size)
 (hel:∀ (fuel:Nat) (cs:List Value) (x:DataW H × List MemPlace),DataW.trod enc Tryz.prog w base spare held fuel e cs=some x→∃ a,cs=enc' a)
 {A:Option Addr} {n c:Nat} (h:DataW.trod enc Tryz.prog w base spare held fuel t (Value.slice A n c).cells.toList=some x) :
 n≤c∧c≤maxLen∧∃ l:List α,l.length=n∧Rd w w.heap.size size A n (l.flatMap enc'):=by
 rcases open_slice ht h with ⟨hcs,_⟩ | ⟨a,len,cap,m,nn,D,Pl,hcs,_,hl,hm,hmm,_,hi⟩
 ·simp [Value.cells] at hcs
  obtain ⟨rfl,rfl,rfl⟩:=hcs
  exact ⟨lr_,Nat.zero_le _,[],rfl,by simp,fun h0=>absurd h0 (by omega)⟩
 ·simp [Value.cells] at hcs
  obtain ⟨rfl,rfl,rfl⟩:=hcs
  refine ⟨hl,hm,?_⟩
  have hlm:n≤m:=by rw [hmm];split <;> omega
  have hex:∀ i,i<n→∃ y:α,∀ j u,(enc' y)[j]?=some u→w.cell? (a.add (i*size+j))=some u:=fun i hin=>by
   obtain ⟨cs',hc,ht'⟩:=hi i (by omega)
   rw [hC] at hc
   obtain ⟨_,hcl,hat⟩:=World.cells?_some hc
   obtain ⟨y,rfl⟩:=hel _ _ _ ht'
   refine ⟨y,fun j u hj=>?_⟩
   have hjl:j<size:=by have:=(List.getElem?_eq_some_iff.1 hj).1;rw [hk] at this;exact this
   rw [← Go.Deep.add_add,hat j hjl,hj]
  have hlist:∀ k,k≤n→∃ l:List α,l.length=k∧∀ i y,l[i]?=some y→∀ j u,(enc' y)[j]?=some u→w.cell? (a.add (i*size+j))=some u:=by
   intro k
   induction k with
   | zero=>exact fun _=>⟨[],rfl,fun i y hy=>by simp at hy⟩
   | succ k ih =>
     intro hkn
     obtain ⟨l,hll,hlf⟩:=ih (by omega)
     obtain ⟨y,hy⟩:=hex k (by omega)
     refine ⟨l ++ [y],by simp [hll],fun i z hz=>?_⟩
     rw [List.getElem?_append] at hz
     split at hz
     ·exact hlf i z hz
     ·rename_i hik
      have hi0:i - l.length=0:=by have:=(List.getElem?_eq_some_iff.1 hz).1;simp at this;omega
      rw [hi0] at hz
      obtain rfl:y=z:=by simpa using hz
      obtain rfl:i=k:=by omega
      exact hy
  obtain ⟨l,hll,hlf⟩:=hlist n lr_
  have hfl:(l.flatMap enc').length=n*size:=by
   rw [← hll]
   clear hlf hll hlist
   induction l with
   | nil=>simp
   | cons y l ih=>simp only [List.flatMap_cons,List.length_append,hk,ih,List.length_cons];rw [Nat.succ_mul];omega
  have hget:∀ t u,(l.flatMap enc')[t]?=some u→w.cell? (a.add t)=some u:=fun t u ht=>by
   have hlt:t<n*size:=by have:=(List.getElem?_eq_some_iff.1 ht).1;omega
   have key:∀ (l:List α) (t:Nat),(l.flatMap enc')[t]?=(l[t / size]?).bind fun y=>(enc' y)[t % size]?:=by
    intro l
    induction l with
    | nil=>intro t;simp
    | cons y l ih =>
      intro t
      rw [List.flatMap_cons,List.getElem?_append,hk]
      by_cases h1:t<size
      ·rw [if_pos h1,Nat.div_eq_of_lt h1,Nat.mod_eq_of_lt h1]
       rfl
      ·rw [if_neg h1,ih]
       have e1:t / size=(t - size) / size+1:=by
        rw [Nat.div_eq t size,if_pos ⟨hsz,by omega⟩]
       have e2:t % size=(t - size) % size:=Nat.mod_eq_sub_mod (by omega)
       rw [e1,e2,List.getElem?_cons_succ]
   rw [key] at ht
   obtain ⟨y,hy,hu⟩:=Option.bind_eq_some_iff.1 ht
   have:=hlf _ y hy _ u hu
   have e3:t / size*size+t % size=t:=by rw [Nat.mul_comm];exact Nat.div_add_mod t size
   rwa [e3] at this
  refine ⟨l,hll,hfl,fun h0=>?_⟩
  obtain ⟨u0,hu0⟩:∃ u,(l.flatMap enc')[0]?=some u:=⟨_,List.getElem?_eq_getElem (by rw [hfl];exact Nat.mul_pos h0 hsz)⟩
  obtain ⟨b,off,spot⟩:=a
  have hspot:spot=none:=by simpa [Addr.add] using World.cell?_spot (hget 0 u0 hu0)
  subst hspot
  have hc0:=hget 0 u0 hu0
  rw [Go.WideShapes.add_plain] at hc0
  refine ⟨b,off,rfl,?_,fun j u hj=>by rw [← Go.WideShapes.add_plain];exact hget j u hj⟩
  exact block_lt_of_cell hc0
end
end Go.Proofs.YtmcmbicapdcfmaaGreat
namespace Go.Proofs.YtmcmbicapdcfmaaGreat
open Go.RowKit Go.Maps
def sgIx (S:List Sgt) (n:Int):Nat:=S.findIdx fun x=>decide (n≤x.src)
def seenE (l:Led) (s:Sgt):Int:=if ledB l=true then (if (s.okB && (folB l.pp s.pap s.leaf && !decide (s.src∈srcL l)))=true then (if l.sg.length=60 then 2 else 0) else 23) else 24
def sgIns (S:List Sgt) (s:Sgt):List Sgt:=S.take (sgIx S s.src) ++ s :: S.drop (sgIx S s.src)
def seenL (l:Led) (s:Sgt):Led:=if seenE l s=0 then { l with sg:=sgIns l.sg s } else ⟨[],[],[],[]⟩
end Go.Proofs.YtmcmbicapdcfmaaGreat
namespace Go.Proofs.YtmcmbicapdcfmaaGreat
open Go.RowKit Go.Maps Go.Shelf
end Go.Proofs.YtmcmbicapdcfmaaGreat
