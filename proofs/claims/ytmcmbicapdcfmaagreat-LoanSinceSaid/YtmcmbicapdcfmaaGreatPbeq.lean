/- Layer 2 of the texts that the statements over histories take: Pbeq. -/
import Derived.Test.YtmcmbicapdcfmaaGreatPbdq
set_option linter.unusedVariables false
set_option linter.unusedSimpArgs false
set_option maxHeartbeats 16000000
namespace Go.Proofs.YtmcmbicapdcfmaaGreat
open Go.RowKit Go.Maps
def fineB (T:List Bool) (rt:List Rtn) (i:Nat) (t:Rtn) (r:Rcp) (lv:List Int):Bool:=lv.all fun x=>decide (x∈r.lv) && !((T.zip rt).take i).any (rtAt t.rcp x)
def tellB (l:Led) (kn:Int) (T:List Bool) (i:Nat) (t:Rtn):Bool:=match rcIx l.rc t.rcp kn with
 | none=>false
 | some k=>match l.rc[k]? with
   | none=>false
   | some r=>countsB t.kn t.un kn && (!decide (t.hi<max t.lo (r.day+1)) && fineB T l.rt i t r t.lv)
def tellK (l:Led) (kn:Int):Nat→List Bool
 | 0=>List.replicate l.rt.length false
 | k+1=>match l.rt[k]? with
   | none=>tellK l kn k
   | some t=>(tellK l kn k).set k (tellB l kn (tellK l kn k) k t)
theorem find_ix {α:Type} (p:α→Bool):∀ l:List α,l.find? p=(l.findIdx? p).bind fun k=>l[k]?
 | []=>rfl
 | x :: l=>by
   rw [List.find?_cons,List.findIdx?_cons]
   cases h:p x with
   | true=>simp
   | false =>
     simp only [find_ix p l]
     cases List.findIdx? p l <;> simp
theorem findR_cnt (l:Led) (kn src:Int):findR (cntR l kn) src=(rcIx l.rc src kn).bind fun k=>l.rc[k]?:=by
 rw [rcIx,← find_ix,findR,cntR,List.find?_filter]
 congr 1
 funext r
 rw [rcAt,Bool.and_comm]
 cases countsB r.kn r.un kn <;> by_cases h:r.src=src <;> simp [h]
theorem any_take {T:List Bool} {rt:List Rtn} {i:Nat} (s x:Int) (h:∀ j,i≤j→j<rt.length→T[j]?=some false):((T.zip rt).take i).any (rtAt s x)=(T.zip rt).any (rtAt s x):=by
 conv=>rhs;rw [← List.take_append_drop i (T.zip rt),List.any_append]
 have hd:((T.zip rt).drop i).any (rtAt s x)=false:=by
  rw [List.any_eq_false]
  intro p hp
  obtain ⟨j,hj,he⟩:=List.mem_iff_getElem.1 hp
  rw [List.getElem_drop,List.getElem_zip] at he
  simp at hj
  have h2:=h (i+j) (by omega) (by omega)
  rw [List.getElem?_eq_getElem (by omega)] at h2
  rw [← he]
  simp [rtAt,Option.some.inj h2]
 rw [hd,Bool.or_false]
theorem rt_any {T:List Bool} {rt:List Rtn} {s x:Int}:(rtIx T rt s x).isNone=!(T.zip rt).any (rtAt s x):=by
 rw [rtIx]
 cases h:(T.zip rt).any (rtAt s x) with
 | false=>rw [ix_none h];rfl
 | true =>
   cases h2:(T.zip rt).findIdx? (rtAt s x) with
   | some k=>rfl
   | none =>
     obtain ⟨p,hp,hq⟩:=List.any_eq_true.1 h
     have:=List.findIdx?_eq_none_iff.1 h2 p hp
     rw [hq] at this
     cases this
theorem tell_opn (l:Led) (kn:Int):∀ k,k≤l.rt.length→(opnK kn (cntR l kn) l.rt l.rt.length k).T=tellK l kn k
 | 0,_=>rfl
 | k+1,hk=>by
   have ih:=tell_opn l kn k (by omega)
   obtain ⟨i1,i2⟩:=opn_inv kn (cntR l kn) l.rt k (by omega)
   obtain ⟨t,ht⟩:∃ t,l.rt[k]?=some t:=⟨l.rt[k],List.getElem?_eq_getElem (by omega)⟩
   rw [opnK_succ ht,tellK,ht]
   dsimp only
   generalize opnK kn (cntR l kn) l.rt l.rt.length k=S at ih i1 i2
   rw [← ih]
   have hTk:=i2 k lr_ (by omega)
   have hset:S.T.set k false=S.T:=by
    have hlt:k<S.T.length:=(List.getElem?_eq_some_iff.1 hTk).1
    rw [eq_comm,← (List.getElem?_eq_some_iff.1 hTk).2,List.set_getElem_self]
   have hfine:∀ r:Rcp,r.src=t.rcp→takesB (encM S.M) r t.lv=fineB S.T l.rt k t r t.lv:=fun r hr=>by
    rw [takesB,fineB]
    congr 1
    funext x
    rw [getG_enc,hr,i1,any_take _ _ i2,← rt_any,Bool.and_comm]
    cases rtIx S.T l.rt t.rcp x <;> rfl
   have key:(readR kn (cntR l kn) S.M t).isSome=tellB l kn S.T k t:=by
    unfold readR tellB
    rw [findR_cnt]
    cases h1:rcIx l.rc t.rcp kn with
    | none=>rfl
    | some i =>
      show (match l.rc[i]? with | none=>none | some r=>_).isSome=match l.rc[i]? with | none=>false | some r=>_
      cases h2:l.rc[i]? with
      | none=>rfl
      | some r =>
        have hr:r.src=t.rcp:=by
         have h3:=(List.findIdx?_eq_some_iff_getElem.1 h1)
         obtain ⟨hl,hp,_⟩:=h3
         have h4:l.rc[i]=r:=(List.getElem?_eq_some_iff.1 h2).2
         rw [h4] at hp
         simp [rcAt] at hp
         exact hp.1
        dsimp only
        rw [hfine r hr,Bool.and_comm (fineB _ _ _ _ _ _)]
        split
        ·rename_i h;rw [h];rfl
        ·rename_i h;simp at h ⊢;simpa using h
   unfold readS
   cases hr:readR kn (cntR l kn) S.M t with
   | none=>rw [← key,hr];exact hset.symm
   | some r=>rw [← key,hr];rfl
theorem opn_tell (l:Led) (kn:Int):(opnL l kn).T=tellK l kn l.rt.length:=tell_opn l kn _ lr_
def firstP (p:Rcp→Rcp→Bool):List Rcp→Option (Rcp × Rcp)
 | []=>none
 | x :: l=>match l.find? (p x) with
   | some y=>some (x,y)
   | none=>firstP p l
theorem dblR_first (M:List ((Int × Int) × Nat)) (P:List (Int × Int)):∀ l,dblR M P l=firstP (dblB M P) l
 | []=>rfl
 | x :: l=>by
   rw [dblR,firstP,dblR_first M P l]
   cases l.find? (dblB M P x) <;> rfl
theorem find_congr {α:Type} {p q:α→Bool}:∀ {l:List α},(∀ x∈l,p x=q x)→l.find? p=l.find? q
 | [],_=>rfl
 | x :: l,h=>by
   rw [List.find?_cons,List.find?_cons,h x (List.mem_cons_self ..),find_congr fun y hy=>h y (List.mem_cons_of_mem _ hy)]
theorem firstP_congr {p q:Rcp→Rcp→Bool}:∀ {l:List Rcp},(∀ x∈l,∀ y∈l,p x y=q x y)→firstP p l=firstP q l
 | [],_=>rfl
 | x :: l,h=>by
   rw [firstP,firstP,find_congr fun y hy=>h x (List.mem_cons_self ..) y (List.mem_cons_of_mem _ hy),firstP_congr fun a ha b hb=>h a (List.mem_cons_of_mem _ ha) b (List.mem_cons_of_mem _ hb)]
theorem firstP_filter {p:Rcp→Rcp→Bool} {q:Rcp→Bool} (h:∀ x y,p x y=true→q x=true∧q y=true):∀ l,firstP p (l.filter q)=firstP p l
 | []=>rfl
 | x :: l=>by
   have ih:=firstP_filter h l
   have hf:(l.filter q).find? (p x)=l.find? (p x):=by
    rw [List.find?_filter]
    congr 1
    funext y
    cases hp:p x y with
    | false=>simp
    | true=>simp [(h x y hp).2]
   cases hq:q x with
   | true=>rw [List.filter_cons_of_pos (by simpa using hq),firstP,firstP,hf,ih]
   | false =>
     have hn:l.find? (p x)=none:=by
      rw [List.find?_eq_none]
      intro y _ hp
      have:=(h x y hp).1
      rw [hq] at this
      cases this
     rw [List.filter_cons_of_neg (by simp [hq]),ih,firstP,hn]
theorem refD_cnt {l:Led} {T:List Bool} {kn:Int} {x y:Rcp} (h:refD l T kn x y=true):countsB x.kn x.un kn=true∧countsB y.kn y.un kn=true:=by
 have hr:∀ (a b:Rcp),a.lv.any (refOut l T kn a b)=true→countsB a.kn a.un kn=true∧countsB b.kn b.un kn=true:=fun a b h=>by
  obtain ⟨f,_,hf⟩:=List.any_eq_true.1 h
  simp only [refOut,Bool.and_eq_true] at hf
  exact ⟨hf.1.1,hf.2.1.1⟩
 rw [refD] at h
 split at h
 ·exact (hr y x h).symm
 ·exact hr x y h
theorem find_self {l:List Rcp} (hn:(l.map Rcp.src).Nodup) {u:Rcp} (hu:u∈l):findR l u.src=some u:=by
 rw [findR]
 induction l with
 | nil=>cases hu
 | cons x l ih =>
   rw [List.map_cons,List.nodup_cons] at hn
   rw [List.find?_cons]
   rcases List.mem_cons.1 hu with rfl | hu
   ·simp
   ·have hne:(x.src == u.src)=false:=by
     rw [beq_eq_false_iff_ne]
     intro he
     exact hn.1 (he ▸ List.mem_map.2 ⟨u,hu,rfl⟩)
    rw [hne]
    exact ih hn.2 hu
theorem cnt_self {l:Led} {kn:Int} (h:ledB l=true) {u:Rcp} (hu:u∈cntR l kn):findR (cntR l kn) u.src=some u:=by
 refine find_self ?_ hu
 simp only [ledB,Bool.and_eq_true,decide_eq_true_eq] at h
 have hn:(l.rc.map Rcp.src).Nodup:=by
  have h5:=h.2.2.2.2.1
  rw [srcL] at h5
  simp only [List.nodup_append] at h5
  first | exact h5.1 | exact h5.1.1
 exact hn.sublist ((List.filter_sublist ..).map _)
theorem dbl_first {l:Led} {kn:Int} (h:ledB l=true):dblR (opnL l kn).M (opnL l kn).P (cntR l kn)=firstP (refD l (tellK l kn l.rt.length) kn) l.rc:=by
 rw [dblR_first,← opn_tell,← firstP_filter (q:=fun r=>countsB r.kn r.un kn) (fun x y h=>refD_cnt h) l.rc]
 refine firstP_congr fun x hx y hy=>?_
 exact dbl_ref l kn x y (by simpa using (List.mem_filter.1 hx).2) (by simpa using (List.mem_filter.1 hy).2) (cnt_self h hx) (cnt_self h hy)
theorem foldl_le {α:Type} {f:Int→α→Int} {q:Int→α→Prop} (h:∀ v a x,v≤f a x↔v≤a∧q v x) (v:Int):∀ (l:List α) (a:Int),v≤l.foldl f a↔v≤a∧∀ x∈l,q v x
 | [],a=>by simp
 | x :: l,a=>by
   rw [List.foldl_cons,foldl_le h v l,h,and_assoc]
   simp
theorem hiStep_le (d v h:Int) (x:Rcp):v≤hiStep d h x↔v≤h∧(d<x.day→v≤x.day):=by
 unfold hiStep
 split <;> rename_i hd <;> simp [hd] <;> omega
theorem hiK_le (R:List Rcp) (r:Rcp) (h v:Int) (l:List Int):v≤hiK R r h l↔v≤h∧∀ x∈l,∀ u∈R.filter (isOfB r.pap x),r.day<u.day→v≤u.day:=by
 rw [hiK]
 exact foldl_le (q:=fun v x=>∀ u∈R.filter (isOfB r.pap x),r.day<u.day→v≤u.day) (fun v a x=>by rw [hiL];exact foldl_le (fun v a u=>hiStep_le r.day v a u) v _ a) v l h
def refHi (kn:Int) (r:Rcp) (lv:List Int) (h:Int) (u:Rcp):Int:=lv.foldl (fun h x=>if r.day<u.day∧(countsB u.kn u.un kn && isOfB r.pap x u)=true then min h u.day else h) h
theorem refHi_le (kn v:Int) (r:Rcp) (lv:List Int) (h:Int) (u:Rcp):v≤refHi kn r lv h u↔v≤h∧∀ x∈lv,r.day<u.day∧(countsB u.kn u.un kn && isOfB r.pap x u)=true→v≤u.day:=by
 rw [refHi]
 refine foldl_le (q:=fun v x=>r.day<u.day∧(countsB u.kn u.un kn && isOfB r.pap x u)=true→v≤u.day) (fun v a x=>?_) v lv h
 split
 ·rename_i hc
  constructor
  ·intro hv;exact ⟨by omega,fun _=>by omega⟩
  ·rintro ⟨h1,h2⟩;have:=h2 hc;omega
 ·rename_i hc
  exact ⟨fun hv=>⟨hv,fun h2=>absurd h2 hc⟩,fun hv=>hv.1⟩
theorem hi_ref (l:Led) (kn:Int) (r:Rcp) (h:Int) (lv:List Int):hiK (cntR l kn) r h lv=l.rc.foldl (refHi kn r lv) h:=by
 have e:∀ v,v≤hiK (cntR l kn) r h lv↔v≤l.rc.foldl (refHi kn r lv) h:=fun v=>by
  rw [hiK_le,foldl_le (fun v a u=>refHi_le kn v r lv a u)]
  refine and_congr_right fun _=>⟨fun H u hu x hx hc=>?_,fun H x hx u hu hd=>?_⟩
  ·simp only [Bool.and_eq_true] at hc
   exact H x hx u (List.mem_filter.2 ⟨List.mem_filter.2 ⟨hu,by simpa using hc.2.1⟩,hc.2.2⟩) hc.1
  ·obtain ⟨h1,h2⟩:=List.mem_filter.1 hu
   obtain ⟨h3,h4⟩:=List.mem_filter.1 h1
   exact H u h3 x hx ⟨hd,by simp only [Bool.and_eq_true];exact ⟨by simpa using h4,h2⟩⟩
 have h1:=(e (hiK (cntR l kn) r h lv)).1 (Int.le_refl _)
 have h2:=(e (l.rc.foldl (refHi kn r lv) h)).2 (Int.le_refl _)
 omega
def byR (l:Led) (T:List Bool) (kn:Int) (i:Nat):Int × Int:=match T[i]?,l.rt[i]? with
 | some true,some t=>(match findR (cntR l kn) t.rcp with
   | some r=>(max t.lo (r.day+1),l.rc.foldl (refHi kn r t.lv) t.hi)
   | none=>(0,100000))
 | _,_=>(0,100000)
theorem opn_by (l:Led) (kn:Int):∀ k,k≤l.rt.length→∀ j,j<k→(opnK kn (cntR l kn) l.rt l.rt.length k).P[j]?=some (byR l (opnK kn (cntR l kn) l.rt l.rt.length k).T kn j)
 | 0,_,j,hj=>by omega
 | k+1,hk,j,hj=>by
   have ih:=opn_by l kn k (by omega)
   obtain ⟨_,i2⟩:=opn_inv kn (cntR l kn) l.rt k (by omega)
   have hP:=(opnK_len kn (cntR l kn) l.rt l.rt.length k).2
   have hTl:=(opnK_len kn (cntR l kn) l.rt l.rt.length k).1
   obtain ⟨u,hu⟩:∃ u,l.rt[k]?=some u:=⟨l.rt[k],List.getElem?_eq_getElem (by omega)⟩
   rw [opnK_succ hu]
   generalize opnK kn (cntR l kn) l.rt l.rt.length k=S at ih i2 hP hTl ⊢
   have hk2:=i2 k lr_ (by omega)
   unfold readS
   cases hr:readR kn (cntR l kn) S.M u with
   | none =>
     show (S.P.set k (0,100000))[j]?=some (byR l S.T kn j)
     by_cases hkj:k=j
     ·subst hkj
      rw [List.getElem?_set_self (by omega),byR,hk2]
     ·rw [List.getElem?_set_ne hkj]
      exact ih j (by omega)
   | some r =>
     show ((S.P.set k (0,100000)).set k (max u.lo (r.day+1),hiK (cntR l kn) r u.hi u.lv))[j]?=some (byR l (S.T.set k true) kn j)
     by_cases hkj:k=j
     ·subst hkj
      have hf:findR (cntR l kn) u.rcp=some r:=by
       unfold readR at hr
       split at hr
       ·cases hr
       ·rename_i r' hf
        split at hr
        ·rw [hf,hr]
        ·cases hr
      rw [List.getElem?_set_self (by simp;omega),byR,List.getElem?_set_self (by omega),hu]
      simp only [hf,hi_ref]
     ·rw [List.getElem?_set_ne hkj,List.getElem?_set_ne hkj,ih j (by omega),byR,byR,List.getElem?_set_ne hkj]
theorem opn_days (l:Led) (kn:Int):(opnL l kn).P=(List.range l.rt.length).map (byR l (tellK l kn l.rt.length) kn):=by
 apply List.ext_getElem?
 intro j
 by_cases hj:j<l.rt.length
 ·have h:=opn_by l kn l.rt.length lr_ j hj
  rw [show (opnL l kn).P[j]?=some (byR l (opnL l kn).T kn j) from h,opn_tell,List.getElem?_map,List.getElem?_range hj]
  rfl
 ·have hP:=(opnK_len kn (cntR l kn) l.rt l.rt.length l.rt.length).2
  rw [List.getElem?_eq_none (by show (opnL l kn).P.length≤j;have:(opnL l kn).P.length=l.rt.length:=hP;omega),List.getElem?_eq_none (by simp;omega)]
def grd:List Int→List Sgt→List Sgt
 | _,[]=>[]
 | [],_ :: _=>[]
 | b :: bs,s :: S=>if b=s.src then s :: grd bs S else grd (b :: bs) S
theorem grd_nil:∀ S,grd [] S=[]
 | []=>rfl
 | _ :: _=>rfl
theorem grd_end:∀ bs,grd bs []=[]
 | []=>rfl
 | _ :: _=>rfl
theorem find_grd (bys:List Int):∀ (S f:List Sgt),S.foldl (findStep bys) f=f ++ grd (bys.drop f.length) S
 | [],f=>by simp [grd_end]
 | s :: S,f=>by
   rw [List.foldl_cons,find_grd bys S,findStep]
   by_cases h:f.length<bys.length
   ·rw [List.drop_eq_getElem_cons h,grd,List.getElem?_eq_getElem h]
    by_cases e:bys[f.length]=s.src
    ·rw [if_pos (by rw [e]),if_pos e,List.length_append,List.append_assoc]
     rfl
    ·rw [if_neg (fun h2=>e (Option.some.inj h2)),if_neg e,List.drop_eq_getElem_cons h]
   ·have hd:bys.drop f.length=[]:=List.drop_eq_nil_of_le (by omega)
    rw [hd,List.getElem?_eq_none (by omega),if_neg (by simp),hd,grd_nil,grd_nil]
theorem findS_grd (bys:List Int) (S:List Sgt):findS bys S=grd bys S:=by
 have h:=find_grd bys S []
 simpa [findS] using h
theorem grd_sub:∀ (S:List Sgt) (bs:List Int),(grd bs S).Sublist S
 | [],bs=>by rw [grd_end];exact List.Sublist.refl _
 | s :: S,[]=>by rw [grd_nil];exact List.nil_sublist _
 | s :: S,b :: bs=>by
   rw [grd]
   split
   ·exact (grd_sub S bs).cons_cons s
   ·exact (grd_sub S (b :: bs)).cons s
theorem r_leavesOf_v (pp:List Ppr) (x:Lsl) (n v:Int) (w:World) (hn:x.pn≤9223372036854775807) (hd:Pps w w.heap.size x.pA x.pn pp) (h:lvOf pp n=v) :
 Calls Tryz.prog 78 #[.agg #[.slice x.pA x.pn x.pc,.slice x.rA x.rn x.rc,.slice x.tA x.tn x.tc,.slice x.sA x.sn x.sc],.int .i64 n] w fun e w'=>e=.returned (.int .i64 v)∧Below w.heap.size w w':=h ▸ r_leavesOf pp x n w hn hd
end Go.Proofs.YtmcmbicapdcfmaaGreat
namespace Go.Proofs.YtmcmbicapdcfmaaGreat
open Go.RowKit
theorem val_rise {l:List Int} {ok:Int→Bool} {most:Nat} (h:valB id ok most l=true):∀ (j:Nat) (h1:j+1<l.length),l[j]<l[j+1]:=fun j h1=>by
 rw [valB,Bool.and_eq_true] at h
 have h2:=List.all_eq_true.1 h.2 (j+1) (List.mem_range.2 h1)
 have e1:l[j+1]?=some l[j+1]:=List.getElem?_eq_getElem h1
 have e2:l[j]?=some (l[j]'(by omega)):=List.getElem?_eq_getElem (by omega)
 simp only [valAt,e1,e2,id,Bool.and_eq_true,decide_eq_true_eq] at h2
 exact h2.2
theorem rise_le {l:List Int} (h:∀ (j:Nat) (h1:j+1<l.length),l[j]<l[j+1]):∀ (d i:Nat) (hi:i+d<l.length),l[i]'(by omega)≤l[i+d]
 | 0,i,hi=>by simp
 | d+1,i,hi=>by
   have h1:=rise_le h d i (by omega)
   have h2:=h (i+d) (by omega)
   have e:i+(d+1)=i+d+1:=by omega
   simp only [e]
   omega
def Rcp.last (r:Rcp):Int:=r.lv.getD (r.lv.length - 1) 0
theorem fol_last {r:Rcp} (pp:List Ppr) (h:r.okB=true):(rcFol r).all (fun f=>folB pp f.1 f.2)=folB pp r.pap r.last:=by
 have h1:=h
 simp only [Rcp.okB,Bool.and_eq_true] at h1
 have hl:=h1.2.2.2.1
 rw [leavesB,Bool.and_eq_true,decide_eq_true_eq] at hl
 obtain ⟨h0,hv⟩:=hl
 have hr:=val_rise hv
 have ho:=val_all hv
 have hlast:r.last=r.lv[r.lv.length - 1]'(by omega):=by
  rw [Rcp.last,List.getD_eq_getElem?_getD,List.getElem?_eq_getElem (by omega)];rfl
 rw [rcFol,List.all_map,Bool.eq_iff_iff,List.all_eq_true]
 constructor
 ·intro ha
  have:=ha r.last (by rw [hlast];exact List.getElem_mem _)
  simpa using this
 ·intro hf y hy
  obtain ⟨i,hi,rfl⟩:=List.getElem_of_mem hy
  have h2:=rise_le hr (r.lv.length - 1 - i) i (by omega)
  have e:i+(r.lv.length - 1 - i)=r.lv.length - 1:=by omega
  simp only [e] at h2
  have h3:=ho _ (List.getElem_mem hi)
  simp only [folB,withinB,leafB,Function.comp,Bool.and_eq_true,decide_eq_true_eq] at hf h3 ⊢
  rw [hlast] at hf
  omega
def rcOk (pp:List Ppr) (r:Rcp):Bool:=r.okB && folB pp r.pap r.last
def sgOk (pp:List Ppr) (s:Sgt):Bool:=s.okB && folB pp s.pap s.leaf
theorem val_ext {α:Type} {num:α→Int} {ok ok':α→Bool} {l:List α} (h:∀ x∈l,ok x=ok' x) (most:Nat):valB num ok most l=valB num ok' most l:=by
 have h1:∀ k,valAt num ok l k=valAt num ok' l k:=fun k=>by
  cases k with
  | zero =>
    cases h0:l[0]? with
    | none=>simp [valAt,h0]
    | some x=>simp [valAt,h0,h x (List.mem_of_getElem? h0)]
  | succ j =>
    cases h0:l[j+1]? with
    | none=>simp [valAt,h0]
    | some x =>
      cases h2:l[j]? with
      | none=>simp [valAt,h0,h2]
      | some y=>simp [valAt,h0,h2,h x (List.mem_of_getElem? h0)]
 rw [valB,valB,funext h1]
theorem val_and {α:Type} {num:α→Int} {ok q:α→Bool} {l:List α} (most:Nat):valB num (fun x=>ok x && q x) most l=(valB num ok most l && l.all q):=by
 by_cases hq:l.all q=true
 ·rw [hq,Bool.and_true]
  exact val_ext (fun x hx=>by simp [List.all_eq_true.1 hq x hx]) most
 ·have hf:l.all q=false:=by simpa using hq
  rw [hf,Bool.and_false,Bool.eq_false_iff]
  intro h
  refine hq (List.all_eq_true.2 fun x hx=>?_)
  have:=val_all h x hx
  simp only [Bool.and_eq_true] at this
  exact this.2
theorem ledB_ref (l:Led):ledB l=(valB Ppr.id Ppr.okB 12 l.pp && (valB Rcp.src (rcOk l.pp) 60 l.rc && (valB Rtn.src Rtn.okB 60 l.rt && (valB Sgt.src (sgOk l.pp) 60 l.sg && decide (srcL l).Nodup)))):=by
 have e1:valB Rcp.src (rcOk l.pp) 60 l.rc=(valB Rcp.src Rcp.okB 60 l.rc && l.rc.all fun r=>folB l.pp r.pap r.last):=val_and 60
 have e2:valB Sgt.src (sgOk l.pp) 60 l.sg=(valB Sgt.src Sgt.okB 60 l.sg && l.sg.all fun s=>folB l.pp s.pap s.leaf):=val_and 60
 have e3:folsB l.pp (namL l)=((l.rc.all fun r=>(rcFol r).all fun f=>folB l.pp f.1 f.2) && l.sg.all fun s=>folB l.pp s.pap s.leaf):=by
  rw [folsB,namL,List.all_append,List.all_flatMap,List.all_map]
  rfl
 rw [ledB,e1,e2,e3]
 by_cases hr:valB Rcp.src Rcp.okB 60 l.rc=true
 ·have h4:(l.rc.all fun r=>(rcFol r).all fun f=>folB l.pp f.1 f.2)=l.rc.all fun r=>folB l.pp r.pap r.last:=by
   rw [Bool.eq_iff_iff,List.all_eq_true,List.all_eq_true]
   exact ⟨fun h r hr'=>by rw [← fol_last l.pp (val_all hr r hr')];exact h r hr',fun h r hr'=>by rw [fol_last l.pp (val_all hr r hr')];exact h r hr'⟩
  rw [h4]
  cases valB Ppr.id Ppr.okB 12 l.pp <;> cases valB Rcp.src Rcp.okB 60 l.rc <;> cases valB Rtn.src Rtn.okB 60 l.rt <;> cases valB Sgt.src Sgt.okB 60 l.sg <;> cases decide (srcL l).Nodup <;> simp
 ·have hf:valB Rcp.src Rcp.okB 60 l.rc=false:=by simpa using hr
  rw [hf]
  simp
end Go.Proofs.YtmcmbicapdcfmaaGreat
namespace Go.Proofs.YtmcmbicapdcfmaaGreat
open Go.RowKit Go.Maps
def sgIx (S:List Sgt) (n:Int):Nat:=S.findIdx fun x=>decide (n≤x.src)
def seenE (l:Led) (s:Sgt):Int:=if ledB l=true then (if (s.okB && (folB l.pp s.pap s.leaf && !decide (s.src∈srcL l)))=true then (if l.sg.length=60 then 2 else 0) else 23) else 24
def sgIns (S:List Sgt) (s:Sgt):List Sgt:=S.take (sgIx S s.src) ++ s :: S.drop (sgIx S s.src)
def seenL (l:Led) (s:Sgt):Led:=if seenE l s=0 then { l with sg:=sgIns l.sg s } else ⟨[],[],[],[]⟩
def excL (l:Led) (s:Int):Led:=⟨l.pp,l.rc.filter (fun r=>!(r.src == s)),l.rt.filter (fun r=>!(r.src == s)),l.sg.filter (fun r=>!(r.src == s))⟩
theorem LedOk.exc {l:Led} (h:LedOk l) (s:Int):LedOk (excL l s) :=
 ⟨h.pn,Nat.le_trans (List.length_filter_le _ _) h.rn,Nat.le_trans (List.length_filter_le _ _) h.tn,Nat.le_trans (List.length_filter_le _ _) h.sn,h.pp,fun r hr=>h.rc r (List.mem_filter.1 hr).1,fun r hr=>h.rt r (List.mem_filter.1 hr).1,fun r hr=>h.sg r (List.mem_filter.1 hr).1⟩
def movL (l:Led) (src day kn:Int):List (Int × Int):=(folL l.pp).filter fun f=>!decide (whL l kn day f=whL (excL l src) kn day f)
def movX (l:Led) (src day kn:Int):List (Int × Int) × Int :=
 if preE l [day,kn]=0 then (if src∈srcL l then (if setE l kn=setE (excL l src) kn then (if setE l kn=0 then (movL l src day kn,0) else ([],0)) else (folL l.pp,0)) else ([],3)) else ([],preE l [day,kn])
theorem exc_rv (xs:List Rv) (s:Int):(xs.filter fun v=>!(v.r.src == s)).map Rv.r=(xs.map Rv.r).filter fun r=>!(r.src == s):=by
 rw [List.filter_map]
 rfl
theorem exc_tv (xs:List Tv) (s:Int):(xs.filter fun v=>!(v.r.src == s)).map Tv.r=(xs.map Tv.r).filter fun r=>!(r.src == s):=by
 rw [List.filter_map]
 rfl
end Go.Proofs.YtmcmbicapdcfmaaGreat
