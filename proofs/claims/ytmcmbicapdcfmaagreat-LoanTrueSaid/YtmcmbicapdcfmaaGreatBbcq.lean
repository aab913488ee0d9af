/- Layer 2 of the texts that LoanBack takes: Bbcq. -/
import Derived.Test.YtmcmbicapdcfmaaGreatBbbq
set_option linter.unusedVariables false
set_option linter.unusedSimpArgs false
set_option maxHeartbeats 16000000
namespace Go.Proofs.YtmcmbicapdcfmaaGreat
open Go.RowKit Go.Maps
theorem opn_P (kn:Int) (R:List Rcp) (rt:List Rtn):∀ k,k≤rt.length→∀ j t,(opnK kn R rt rt.length k).T[j]?=some true→rt[j]?=some t→∃ r,findR R t.rcp=some r∧((opnK kn R rt rt.length k).P.getD j (0,0)).1=max t.lo (r.day+1)
 | 0,_,j,t,h,_=>by
   rw [opnK_zero] at h
   obtain ⟨hl,h2⟩:=List.getElem?_eq_some_iff.1 h
   simp at h2
 | k+1,hk,j,t,h,htj=>by
   have ih:=opn_P kn R rt k (by omega)
   obtain ⟨_,i2⟩:=opn_inv kn R rt k (by omega)
   have hP:=(opnK_len kn R rt rt.length k).2
   obtain ⟨u,hu⟩:∃ u,rt[k]?=some u:=⟨rt[k],List.getElem?_eq_getElem (by omega)⟩
   rw [opnK_succ hu] at h ⊢
   generalize opnK kn R rt rt.length k=S at ih i2 hP h ⊢
   have hk2:=i2 k lr_ (by omega)
   unfold readS at h ⊢
   cases hr:readR kn R S.M u with
   | none =>
     rw [hr] at h
     have hne:k≠j:=by
      rintro rfl
      rw [show (S.T)[k]?=some true from h] at hk2
      cases hk2
     obtain ⟨r,h1,h2⟩:=ih j t h htj
     refine ⟨r,h1,?_⟩
     show ((S.P.set k (0,100000)).getD j (0,0)).1=_
     rw [List.getD_eq_getElem?_getD,List.getElem?_set_ne hne,← List.getD_eq_getElem?_getD]
     exact h2
   | some r =>
     rw [hr] at h
     show ∃ r',_∧((((S.P.set k (0,100000)).set k (max u.lo (r.day+1),hiK R r u.hi u.lv)).getD j (0,0)).1=_)
     by_cases hkj:k=j
     ·subst hkj
      obtain rfl:t=u:=Option.some.inj (htj.symm.trans hu)
      refine ⟨r,?_,?_⟩
      ·unfold readR at hr
       split at hr
       ·cases hr
       ·rename_i r' hf
        split at hr
        ·rw [hf,hr]
        ·cases hr
      ·rw [List.getD_eq_getElem?_getD,List.getElem?_set_self (by simp;omega)]
       rfl
     ·have h3:S.T[j]?=some true:=by
       have h4:(S.T.set k true)[j]?=some true:=h
       rwa [List.getElem?_set_ne hkj] at h4
      obtain ⟨r2,h1,h2⟩:=ih j t h3 htj
      refine ⟨r2,h1,?_⟩
      rw [List.getD_eq_getElem?_getD,List.getElem?_set_ne hkj,List.getElem?_set_ne hkj,← List.getD_eq_getElem?_getD]
      exact h2
def refOut (l:Led) (T:List Bool) (kn:Int) (x y:Rcp) (f:Int):Bool:=(countsB x.kn x.un kn && isOfB x.pap f x) && ((countsB y.kn y.un kn && isOfB x.pap f y) && (decide (x.day=y.day) || match rtIx T l.rt x.src f with
 | none=>true
 | some k=>match l.rt[k]? with
   | none=>true
   | some t=>decide (y.day<max t.lo (x.day+1))))
def refD (l:Led) (T:List Bool) (kn:Int) (x y:Rcp):Bool:=if y.day<x.day then y.lv.any (refOut l T kn y x) else x.lv.any (refOut l T kn x y)
theorem rt_some {T:List Bool} {rt:List Rtn} {s x:Int} {k:Nat} (h:rtIx T rt s x=some k):T[k]?=some true∧∃ t,rt[k]?=some t∧t.rcp=s∧x∈t.lv:=by
 obtain ⟨hl,hp,_⟩:=List.findIdx?_eq_some_iff_getElem.1 h
 rw [List.getElem_zip] at hp
 simp at hl
 simp only [rtAt,Bool.and_eq_true,decide_eq_true_eq] at hp
 have h1:k<T.length:=by omega
 have h2:k<rt.length:=by omega
 exact ⟨by rw [List.getElem?_eq_getElem h1,hp.1],_,List.getElem?_eq_getElem h2,hp.2.1,hp.2.2⟩
theorem out_ref (l:Led) (kn:Int) (x y:Rcp) (f:Int) (hx:countsB x.kn x.un kn=true) (hy:countsB y.kn y.un kn=true) (hf:f∈x.lv) (hp:x.pap=y.pap) (hu:findR (cntR l kn) x.src=some x):outB (opnL l kn).M (opnL l kn).P x y f=refOut l (opnL l kn).T kn x y f:=by
 rw [outB,backB,opn_rt,refOut,hx,hy]
 have h1:isOfB x.pap f x=true:=by simp [isOfB,hf]
 have h2:isOfB x.pap f y=decide (f∈y.lv):=by simp [isOfB,hp]
 rw [h1,h2]
 cases h:rtIx (opnL l kn).T l.rt x.src f with
 | none=>simp
 | some k =>
   obtain ⟨hT,t,ht,hts,_⟩:=rt_some h
   obtain ⟨r,hr,hq⟩:=opn_P kn (cntR l kn) l.rt l.rt.length lr_ k t hT ht
   rw [hts,hu] at hr
   obtain rfl:=Option.some.inj hr
   have hq2:((opnL l kn).P.getD k (0,0)).1=max t.lo (x.day+1):=hq
   simp only [hq2,ht,Bool.true_and]
   congr 1
   by_cases he:x.day=y.day
   ·simp [he];omega
   ·simp only [he,decide_false,Bool.false_or]
    rw [← decide_not]
    congr 1
    rw [Int.not_le]
theorem dbl_ref (l:Led) (kn:Int) (x y:Rcp) (hx:countsB x.kn x.un kn=true) (hy:countsB y.kn y.un kn=true) (hu:findR (cntR l kn) x.src=some x) (hv:findR (cntR l kn) y.src=some y):dblB (opnL l kn).M (opnL l kn).P x y=refD l (opnL l kn).T kn x y:=by
 have hne:∀ (a b:Rcp),a.pap≠b.pap→a.lv.any (refOut l (opnL l kn).T kn a b)=false:=fun a b hab=>by
  rw [List.any_eq_false]
  intro f _
  have:isOfB a.pap f b=false:=by simp [isOfB];intro h;exact absurd h.symm hab
  simp [refOut,this]
 have hany:∀ (a b:Rcp),countsB a.kn a.un kn=true→countsB b.kn b.un kn=true→a.pap=b.pap→findR (cntR l kn) a.src=some a→a.lv.any (outB (opnL l kn).M (opnL l kn).P a b)=a.lv.any (refOut l (opnL l kn).T kn a b):=fun a b ha hb hab hua=>by
  rw [Bool.eq_iff_iff,List.any_eq_true,List.any_eq_true]
  constructor
  ·rintro ⟨f,hf,h⟩
   exact ⟨f,hf,by rw [← out_ref l kn a b f ha hb hf hab hua];exact h⟩
  ·rintro ⟨f,hf,h⟩
   exact ⟨f,hf,by rw [out_ref l kn a b f ha hb hf hab hua];exact h⟩
 rw [dblB,refD]
 by_cases hp:x.pap=y.pap
 ·rw [if_pos hp]
  split
  ·exact hany y x hy hx hp.symm hv
  ·exact hany x y hx hy hp hu
 ·rw [if_neg hp]
  split
  ·exact (hne y x (fun h=>hp h.symm)).symm
  ·exact (hne x y hp).symm
theorem take_eq_succ2 {α:Type} {xs ys:List α} {k:Nat} {x y:α} (hx:xs[k]?=some x) (hy:ys[k]?=some y) (h:xs.take k=ys.take k):xs.take (k+1)=ys.take (k+1)↔x=y:=by
 rw [take_snoc_some hx,take_snoc_some hy,h]
 simp
theorem r_Same2 (xs ys:List (Int)) (v:Bool) (A B:Option Addr) (n c m d:Nat) (w:World) (hn:n≤1000000) (hm:m≤1000000) (hx:Is w w.heap.size A n xs) (hy:Is w w.heap.size B m ys) (hv:decide (xs=ys)=v) :
 Calls Tryz.prog 33 #[.slice A n c,.slice B m d] w fun e w'=>e=.returned (.bool v)∧Below w.heap.size w w':=by
 have HX:=hd_ hx
 have HY:=hd_ hy
 have HLX:=hd_ hx.len
 have HLY:=hd_ hy.len
 have HV:=hd_ hv
 clear hx hy hv
 by_cases hnm:n=m
 ·subst hnm
  go_enter Tryz.func33,Tryz.ntmps33
  go_wp2
  go_loopw [5] (fun i wr=>∃ k:Nat,k≤n∧i=.int .i64 k∧xs.take k=ys.take k∧Below w.heap.size w wr) (fun i _=>n - (intOf i).toNat)
  case atStart=>exact ⟨0,by omega,rfl,by simp,Below.refl _ _⟩
  case round =>
   obtain ⟨k,hk,rfl,hpre,hB⟩:=hrel
   have HP:=hd_ hpre
   clear hpre
   have hs0:w.heap.size≤wr.heap.size:=hB.size
   by_cases hlt:k<n
   ·obtain ⟨b,o,x,rfl,hb,hxk,hcx⟩:=(HX.out.ext hB lr_).at_ hlt
    obtain ⟨b',o',y,rfl,hb',hyk,hcy⟩:=(HY.out.ext hB lr_).at_ hlt
    have HXK:=hd_ hxk
    have HYK:=hd_ hyk
    clear hxk hyk
    have hbr:b<wr.heap.size:=by omega
    have hbr':b'<wr.heap.size:=by omega
    have HS:=hd_ (take_eq_succ2 HXK.out HYK.out HP.out)
    by_cases hxy:x=y
    ·have hb1:(x != y)=false:=by simp [hxy]
     have HXY:=hd_ hxy
     clear hxy
     go_wp2_with fail
     (refine rg_ ?_;(repeat (go_big_quiet_step (fail)));refine qn_ fun w1 hb1 hc1 hf1=>?_)
     go_wp2_with fail
     go_roundw
     case rel=>exact ⟨k+1,by omega,by go_num,HS.out.2 HXY.out,bt_ hB hb1⟩
     case measure=>exact ms_
    ·have hb1:(x != y)=true:=by simp [hxy]
     have HXY:=hd_ hxy
     clear hxy
     go_wp2_with fail
     (refine rg_ ?_;(repeat (go_big_quiet_step (fail)));refine qn_ fun w1 hb1 hc1 hf1=>?_)
     go_wp2_with fail
     go_ret
     refine ⟨ret_bool ?_,bt_ hB hb1⟩
     rw [← HV.out]
     symm
     apply decide_eq_false
     intro e
     exact HXY.out (HS.out.1 (by rw [e]))
   ·have hkn:k=n:=by omega
    have HKn:=hd_ hkn
    clear hkn
    go_wp2
    go_ret
    refine ⟨ret_bool ?_,hB⟩
    rw [← HV.out]
    symm
    apply decide_eq_true
    have h1:=HP.out
    rwa [List.take_of_length_le (by rw [HLX.out,HKn.out];exact lr_),List.take_of_length_le (by rw [HLY.out,HKn.out];exact lr_)] at h1
 ·have h1:((n:Int) != (m:Int))=true:=by simp;omega
  go_enter Tryz.func33,Tryz.ntmps33
  go_wp2
  go_ret
  refine ⟨ret_bool ?_,Below.refl _ _⟩
  rw [← HV.out]
  symm
  apply decide_eq_false
  intro e
  exact hnm (by rw [← HLX.out,← HLY.out,e])
theorem r_SameFols (xs ys:List (Int × Int)) (v:Bool) (A B:Option Addr) (n c m d:Nat) (w:World) (hn:n≤1000000) (hm:m≤1000000) (hx:Sq QF 2 w w.heap.size A n xs) (hy:Sq QF 2 w w.heap.size B m ys) (hv:decide (xs=ys)=v) :
 Calls Tryz.prog 76 #[.slice A n c,.slice B m d] w fun e w'=>e=.returned (.bool v)∧Below w.heap.size w w':=by
 have HX:=hd_ hx
 have HY:=hd_ hy
 have HLX:=hd_ hx.len
 have HLY:=hd_ hy.len
 have HV:=hd_ hv
 clear hx hy hv
 by_cases hnm:n=m
 ·subst hnm
  go_enter Tryz.func76,Tryz.ntmps76
  go_wp2
  go_loopw [5] (fun i wr=>∃ k:Nat,k≤n∧i=.int .i64 k∧xs.take k=ys.take k∧Below w.heap.size w wr) (fun i _=>n - (intOf i).toNat)
  case atStart=>exact ⟨0,by omega,rfl,by simp,Below.refl _ _⟩
  case round =>
   obtain ⟨k,hk,rfl,hpre,hB⟩:=hrel
   have HP:=hd_ hpre
   clear hpre
   have hs0:w.heap.size≤wr.heap.size:=hB.size
   by_cases hlt:k<n
   ·obtain ⟨b,o,⟨x,x2⟩,rfl,hb,hxk,hcx,hcx2⟩:=(Sq.ext HX.out abF hB lr_).at_ hlt
    obtain ⟨b',o',⟨y,y2⟩,rfl,hb',hyk,hcy,hcy2⟩:=(Sq.ext HY.out abF hB lr_).at_ hlt
    have HXK:=hd_ hxk
    have HYK:=hd_ hyk
    clear hxk hyk
    have hbr:b<wr.heap.size:=by omega
    have hbr':b'<wr.heap.size:=by omega
    have HS:=hd_ (take_eq_succ2 HXK.out HYK.out HP.out)
    by_cases hxy:x=y
    ·by_cases hxy2:x2=y2
     ·have HXY:Hid ((x,x2)=(y,y2)):=by show _=_;rw [hxy,hxy2]
      subst hxy hxy2
      go_wp2_with fail
      (refine rg_ ?_;(repeat (go_big_quiet_step (fail)));refine qn_ fun w1 hb1 hc1 hf1=>?_)
      go_wp2_with fail
      go_roundw
      case rel=>exact ⟨k+1,by omega,by go_num,HS.out.2 HXY.out,bt_ hB hb1⟩
      case measure=>exact ms_
     ·have HXY:Hid (¬ (x,x2)=(y,y2)):=by show ¬ _;intro e;injection e with e1 e2;exact hxy2 e2
      go_wp2_with fail
      (refine rg_ ?_;(repeat (go_big_quiet_step (fail)));refine qn_ fun w1 hb1 hc1 hf1=>?_)
      go_wp2_with fail
      go_ret
      refine ⟨ret_bool ?_,bt_ hB hb1⟩
      rw [← HV.out]
      symm
      apply decide_eq_false
      intro e
      exact HXY.out (HS.out.1 (by rw [e]))
    ·have HXY:Hid (¬ (x,x2)=(y,y2)):=by show ¬ _;intro e;injection e with e1 e2;exact hxy e1
     go_wp2_with fail
     (refine rg_ ?_;(repeat (go_big_quiet_step (fail)));refine qn_ fun w1 hb1 hc1 hf1=>?_)
     go_wp2_with fail
     go_ret
     refine ⟨ret_bool ?_,bt_ hB hb1⟩
     rw [← HV.out]
     symm
     apply decide_eq_false
     intro e
     exact HXY.out (HS.out.1 (by rw [e]))
   ·have hkn:k=n:=by omega
    have HKn:=hd_ hkn
    clear hkn
    go_wp2
    go_ret
    refine ⟨ret_bool ?_,hB⟩
    rw [← HV.out]
    symm
    apply decide_eq_true
    have h1:=HP.out
    rwa [List.take_of_length_le (by rw [HLX.out,HKn.out];exact lr_),List.take_of_length_le (by rw [HLY.out,HKn.out];exact lr_)] at h1
 ·have h1:((n:Int) != (m:Int))=true:=by simp;omega
  go_enter Tryz.func76,Tryz.ntmps76
  go_wp2
  go_ret
  refine ⟨ret_bool ?_,Below.refl _ _⟩
  rw [← HV.out]
  symm
  apply decide_eq_false
  intro e
  exact hnm (by rw [← HLX.out,← HLY.out,e])
def trueE (l:Led) (kn:Int) (days:List Int):Int:=if days.length=l.rt.length∧setE l kn=0 then errI (trueD days (setP l kn)) 29 else 29
theorem p_checkTrueN (l:Led) (kn:Int) (days:List Int) (D:Option Addr) (m c0:Nat) (a:Acc) (v:Int) (w:World) (hl:LedOk l) (h:OpnA w a l kn) (hm:m≤9223372036854775807) (hdy:Is w w.heap.size D m days) (hv:trueE l kn days=v) (h0:¬ v=0) :
 Calls Tryz.prog 65 #[.pointer (some ⟨w.heap.size,0,none⟩),.slice D m c0] (w.alloc (.cells (accC a) 115)) fun e w'=>e=.returned (.int .i64 v)∧Below w.heap.size w w':=by
 have hb:Below w.heap.size w (w.alloc (.cells (accC a) 115)):=by exact bel_
 have hc:=p_checkTrue (opnL l kn).M (cntR l kn) (opnL l kn).P (cntS l kn) days a w.heap.size D m c0 _ (h.acc.now hb) (cnt_sgs hl kn) (by have:=h.sn;omega) (h.sg.now abS hb) (BoxA.new w 115 (accC a)) hm (Is.ext hdy hb lr_)
 refine hc.mono fun e w' hr=>?_
 subst hv
 unfold trueE at h0 ⊢
 by_cases hlen:days.length=l.rt.length
 ·have h2:=hr.2 (hlen.trans h.pn.symm)
  have hse:setE l kn=match dblR (opnL l kn).M (opnL l kn).P (cntR l kn),narL (opnL l kn).M (cntR l kn) (cntS l kn) (opnL l kn).P with
   | some _,_=>25
   | none,none=>27
   | none,some _=>0:=rfl
  cases hd:dblR (opnL l kn).M (opnL l kn).P (cntR l kn) with
  | some p =>
    rw [hd] at h2 hse
    rw [if_neg (by rw [hse];simp)]
    exact ⟨h2.1,bt_ hb h2.2⟩
  | none =>
    cases ho:narL (opnL l kn).M (cntR l kn) (cntS l kn) (opnL l kn).P with
    | none =>
      rw [hd,ho] at h2 hse
      rw [if_neg (by rw [hse];simp)]
      exact ⟨h2.1,bt_ hb h2.2⟩
    | some P' =>
      rw [hd,ho] at h2 hse
      have hsp:setP l kn=P':=by rw [setP,ho];rfl
      rw [if_pos ⟨hlen,hse⟩,hsp]
      obtain ⟨h3,ws,⟨_,w1,A,c,hb1,_,_,hws⟩,hb2⟩:=h2
      refine ⟨h3,?_⟩
      have hB:=(bt_ hb hb1).setCell (show w.heap.size≤(⟨w.heap.size,9,none⟩:Addr).block from lr_) (.slice A a.Pn c)
      rw [← hws] at hB
      exact bt_ hB hb2
 ·have h1:=hr.1 (fun e=>hlen (e.trans h.pn))
  rw [if_neg (fun h=>hlen h.1)]
  exact ⟨h1.1,bt_ hb h1.2⟩
theorem p_checkTrue0 (l:Led) (kn:Int) (days:List Int) (D:Option Addr) (m c0:Nat) (a:Acc) (w:World) (hl:LedOk l) (h:OpnA w a l kn) (hm:m≤9223372036854775807) (hdy:Is w w.heap.size D m days) (hv:trueE l kn days=0) :
 Calls Tryz.prog 65 #[.pointer (some ⟨w.heap.size,0,none⟩),.slice D m c0] (w.alloc (.cells (accC a) 115)) fun e w'=>∃ A c,e=.returned (.int .i64 0)∧Below w.heap.size w w'∧BoxA w' w.heap.size 115 (accC { a with PA:=A,Pc:=c }) ∧
  AccR w' { a with PA:=A,Pc:=c } (opnL l kn).M (cntR l kn) (setP l kn):=by
 have hb:Below w.heap.size w (w.alloc (.cells (accC a) 115)):=by exact bel_
 have hbox:=BoxA.new w 115 (accC a)
 have hc:=p_checkTrue (opnL l kn).M (cntR l kn) (opnL l kn).P (cntS l kn) days a w.heap.size D m c0 _ (h.acc.now hb) (cnt_sgs hl kn) (by have:=h.sn;omega) (h.sg.now abS hb) hbox hm (Is.ext hdy hb lr_)
 refine hc.mono fun e w' hr=>?_
 unfold trueE at hv
 split at hv
 ·rename_i hq
  have h2:=hr.2 (hq.1.trans h.pn.symm)
  have hse:=hq.2
  unfold setE at hse
  cases hd:dblR (opnL l kn).M (opnL l kn).P (cntR l kn) with
  | some p=>rw [hd] at hse;cases hse
  | none =>
    cases ho:narL (opnL l kn).M (cntR l kn) (cntS l kn) (opnL l kn).P with
    | none=>rw [hd,ho] at hse;cases hse
    | some P' =>
      rw [hd,ho] at h2
      have hsp:setP l kn=P':=by rw [setP,ho];rfl
      rw [hsp] at hv ⊢
      obtain ⟨h3,ws,⟨_,w1,A,c,hb1,ho1,hl1,hws⟩,hb2⟩:=h2
      rw [hv] at h3
      have hB:Below w.heap.size w w1:=bt_ hb hb1
      have hB2:=hB.setCell (show w.heap.size≤(⟨w.heap.size,9,none⟩:Addr).block from lr_) (.slice A a.Pn c)
      have ho2:(w1.setCell ⟨w.heap.size,9,none⟩ (.slice A a.Pn c)).ownsRow (w.alloc (.cells (accC a) 115)).heap.size 133 2 (.slice A a.Pn c) a.Pn (folCells P'):=own_keep ho1 fun b hb9=>Below.heap_setCell _ _ _ _ (fun e=>by
       have:=own_le ho1 hb9
       simp only [World.size_alloc] at this
       have e:b=w.heap.size:=e
       omega)
      have hbx:=(hbox.ext hb1).set 9 (.slice A a.Pn c)
      have hac:=h.acc.settled hB2 ho2 hl1
      rw [← hws] at hB2 hbx hac
      exact ⟨A,c,h3,bt_ hB2 hb2,hbx.ext hb2,hac.now hb2⟩
 ·cases hv
def checkTrueX (l:Led) (kn:Int) (days:List Int):Int:=if preE l [kn]=0 then trueE l kn days else preE l [kn]
set_option maxRecDepth 10000 in
theorem p_CheckTrue (l:Led) (x:Lsl) (kn:Int) (days:List Int) (D:Option Addr) (m c0:Nat) (w:World) (hf:x.fit) (hd:LedIn w w.heap.size x l) (hm:m≤9223372036854775807) (hdy:Is w w.heap.size D m days) :
 Calls Tryz.prog 13 #[.agg #[.slice x.pA x.pn x.pc,.slice x.rA x.rn x.rc,.slice x.tA x.tn x.tc,.slice x.sA x.sn x.sc],.int .i64 kn,.slice D m c0] w (fun e w'=>e=.returned (.int .i64 (checkTrueX l kn days))∧Below w.heap.size w w'):=by
 obtain ⟨pA,pn,pc,rA,rn,rc,tA,tn,tc,sA,sn,sc⟩:=x
 have HD:=hd_ hd
 have hml:maxLen≤9223372036854775807:=by decide
 have hpn:pn≤9223372036854775807:=by have:=hf.p;dsimp only at this;omega
 have hrn:rn≤9223372036854775807:=by have:=hf.r;dsimp only at this;omega
 have htn:tn≤9223372036854775807:=by have:=hf.t;dsimp only at this;omega
 have hsn:sn≤9223372036854775807:=by have:=hf.s;dsimp only at this;omega
 clear hd hf hml
 obtain ⟨v,hv⟩:∃ v,preE l [kn]=v:=⟨_,rfl⟩
 have HV:Hid (orL [errI (ledB l) 24,errI (daysOk [kn]) 6]=v):=by show _=_;exact hv
 have HDY:=hd_ hdy
 clear hdy
 by_cases hv0:v=0
 ·subst hv0
  have HLO:=hd_ (led_ok (pre_zero hv).1)
  have hres:checkTrueX l kn days=trueE l kn days:=by rw [checkTrueX,if_pos hv]
  rw [hres]
  obtain ⟨ve,hve⟩:∃ ve,trueE l kn days=ve:=⟨_,rfl⟩
  have HTE0:=hd_ hve
  rw [hve]
  clear hres hv
  by_cases he:ve=0
  ·subst he
   have HTE:=HTE0
   clear hve
   go_enter Tryz.func13,Tryz.ntmps13
   go_wp2_with (first | (go_at_call 12;refine (p_Check l ⟨pA,pn,pc,rA,rn,rc,tA,tn,tc,sA,sn,sc⟩ _ hpn hrn htn hsn (HD.out.now (by exact bel_))).mono ?_;rintro e w1 ⟨rfl,hb1⟩;have HB1:Below w.heap.size w w1:=bt_ (by exact bel_) hb1;have hs1:=HB1.size;have bL0:=BoxA.new w 32 #[.slice pA pn pc,.slice rA rn rc,.slice tA tn tc,.slice sA sn sc];have bL1:=bL0.ext hb1;have kL1:=bL1.cell;have zL1:=bL1.lt;clear hb1) | (go_at_call 63;refine (p_checkDays [kn] _ 1 1 _ (by decide) (Rd.new _ #[.int .i64 kn] _ 1 1 _ (by simp) rfl)).mono ?_;rintro e w2 ⟨rfl,hb2⟩;have HB2:Below w.heap.size w w2:=bt_ (by exact bel_) hb2;have hs2:=HB2.size;have bL2:=(bL1.alloc _).ext hb2;have kL2:=bL2.cell;have zL2:=bL2.lt;clear kL1 zL1;clear hb2) | (go_at_call 62;refine (p_first [errI (ledB l) 24,errI (daysOk [kn]) 6] 0 _ 2 2 _ (by decide) (Rd.new _ #[.int .i64 (errI (ledB l) 24),.int .i64 (errI (daysOk [kn]) 6)] _ 1 2 _ (by simp) rfl) HV.out).mono ?_;rintro e w1 ⟨rfl,rfl⟩) | (go_at_call 64;refine (p_openA l ⟨pA,pn,pc,rA,rn,rc,tA,tn,tc,sA,sn,sc⟩ kn _ HLO.out (HD.out.now (by exact bel_))).mono ?_;rintro e w5 ⟨RA,Rn,Rc,SA,Sn,Sc,bm,TA,Tn,Tc,PA,Pn,Pc,rfl,hb5,hO⟩;have HB5:Below w.heap.size w w5:=bt_ (by exact bel_) hb5;have hs5:=HB5.size;have HO:=hd_ hO;have bL5:=(bL2.alloc _).ext hb5;have kL5:=bL5.cell;have zL5:=bL5.lt;clear kL2 zL2;clear hO hb5) | (go_at_call 65;refine (p_checkTrue0 l kn days D m c0 ⟨⟨pA,pn,pc,rA,rn,rc,tA,tn,tc,sA,sn,sc⟩,kn,RA,Rn,Rc,SA,Sn,Sc,bm,TA,Tn,Tc,PA,Pn,Pc⟩ w5 HLO.out HO.out hm (HDY.out.now HB5) HTE.out).mono ?_;rintro e w6 ⟨PA2,Pc2,rfl,hb6,hbx6,hac6⟩;have HB6:Below w.heap.size w w6:=bt_ HB5 hb6;have hs6:=HB6.size))
   go_ret
   exact ⟨rfl,HB6⟩
  ·have HTE:=HTE0
   have HVE:=hd_ he
   clear hve he
   go_enter Tryz.func13,Tryz.ntmps13
   go_wp2_with (first | (go_at_call 12;refine (p_Check l ⟨pA,pn,pc,rA,rn,rc,tA,tn,tc,sA,sn,sc⟩ _ hpn hrn htn hsn (HD.out.now (by exact bel_))).mono ?_;rintro e w1 ⟨rfl,hb1⟩;have HB1:Below w.heap.size w w1:=bt_ (by exact bel_) hb1;have hs1:=HB1.size;have bL0:=BoxA.new w 32 #[.slice pA pn pc,.slice rA rn rc,.slice tA tn tc,.slice sA sn sc];have bL1:=bL0.ext hb1;have kL1:=bL1.cell;have zL1:=bL1.lt;clear hb1) | (go_at_call 63;refine (p_checkDays [kn] _ 1 1 _ (by decide) (Rd.new _ #[.int .i64 kn] _ 1 1 _ (by simp) rfl)).mono ?_;rintro e w2 ⟨rfl,hb2⟩;have HB2:Below w.heap.size w w2:=bt_ (by exact bel_) hb2;have hs2:=HB2.size;have bL2:=(bL1.alloc _).ext hb2;have kL2:=bL2.cell;have zL2:=bL2.lt;clear kL1 zL1;clear hb2) | (go_at_call 62;refine (p_first [errI (ledB l) 24,errI (daysOk [kn]) 6] 0 _ 2 2 _ (by decide) (Rd.new _ #[.int .i64 (errI (ledB l) 24),.int .i64 (errI (daysOk [kn]) 6)] _ 1 2 _ (by simp) rfl) HV.out).mono ?_;rintro e w1 ⟨rfl,rfl⟩) | (go_at_call 64;refine (p_openA l ⟨pA,pn,pc,rA,rn,rc,tA,tn,tc,sA,sn,sc⟩ kn _ HLO.out (HD.out.now (by exact bel_))).mono ?_;rintro e w5 ⟨RA,Rn,Rc,SA,Sn,Sc,bm,TA,Tn,Tc,PA,Pn,Pc,rfl,hb5,hO⟩;have HB5:Below w.heap.size w w5:=bt_ (by exact bel_) hb5;have hs5:=HB5.size;have HO:=hd_ hO;have bL5:=(bL2.alloc _).ext hb5;have kL5:=bL5.cell;have zL5:=bL5.lt;clear kL2 zL2;clear hO hb5) | (go_at_call 65;refine (p_checkTrueN l kn days D m c0 ⟨⟨pA,pn,pc,rA,rn,rc,tA,tn,tc,sA,sn,sc⟩,kn,RA,Rn,Rc,SA,Sn,Sc,bm,TA,Tn,Tc,PA,Pn,Pc⟩ ve w5 HLO.out HO.out hm (HDY.out.now HB5) HTE.out HVE.out).mono ?_;rintro e w6 ⟨rfl,hb6⟩;have HB6:Below w.heap.size w w6:=bt_ HB5 hb6;have hs6:=HB6.size))
   go_ret
   exact ⟨rfl,HB6⟩
 ·have hres:checkTrueX l kn days=v:=by rw [checkTrueX,if_neg (by rw [hv];exact hv0),hv]
  rw [hres]
  have hv1:(v != 0)=true:=by simpa using hv0
  clear hres hv hv0
  go_enter Tryz.func13,Tryz.ntmps13
  go_wp2_with (first | (go_at_call 12;refine (p_Check l ⟨pA,pn,pc,rA,rn,rc,tA,tn,tc,sA,sn,sc⟩ _ hpn hrn htn hsn (HD.out.now (by exact bel_))).mono ?_;rintro e w1 ⟨rfl,hb1⟩;have HB1:Below w.heap.size w w1:=bt_ (by exact bel_) hb1;have hs1:=HB1.size;have bL0:=BoxA.new w 32 #[.slice pA pn pc,.slice rA rn rc,.slice tA tn tc,.slice sA sn sc];have bL1:=bL0.ext hb1;have kL1:=bL1.cell;have zL1:=bL1.lt;clear hb1) | (go_at_call 63;refine (p_checkDays [kn] _ 1 1 _ (by decide) (Rd.new _ #[.int .i64 kn] _ 1 1 _ (by simp) rfl)).mono ?_;rintro e w2 ⟨rfl,hb2⟩;have HB2:Below w.heap.size w w2:=bt_ (by exact bel_) hb2;have hs2:=HB2.size;have bL2:=(bL1.alloc _).ext hb2;have kL2:=bL2.cell;have zL2:=bL2.lt;clear kL1 zL1;clear hb2) | (go_at_call 62;refine (p_first [errI (ledB l) 24,errI (daysOk [kn]) 6] v _ 2 2 _ (by decide) (Rd.new _ #[.int .i64 (errI (ledB l) 24),.int .i64 (errI (daysOk [kn]) 6)] _ 1 2 _ (by simp) rfl) HV.out).mono ?_;rintro e w1 ⟨rfl,rfl⟩))
  go_ret
  exact ⟨rfl,by exact bel_⟩
end Go.Proofs.YtmcmbicapdcfmaaGreat
