/- LoanTrue: for every history that numbers describe, and for every day, paper and person by numbers, whatever memory they lie in, the Go function LoanTrue (layer 2, promise P2.2) returns true and leaves its arguments as they read. Conditions: none. -/
import Derived.Test.YtmcmbicapdcfmaaGreatBbzq
import Derived.Deep.DeepCutAuto
set_option linter.unusedVariables false
set_option linter.unusedSimpArgs false
set_option maxHeartbeats 16000000
namespace Go.Proofs.YtmcmbicapdcfmaaGreat
open Go.RowKit Go.Maps
set_option maxRecDepth 10000 in
theorem p_leavesOfMay (l:Led) (x:Lsl) (person day kn:Int) (w:World) (hf:x.fit) (hd:LedIn w w.heap.size x l) :
 Calls Tryz.prog 69 #[.agg #[.slice x.pA x.pn x.pc,.slice x.rA x.rn x.rc,.slice x.tA x.tn x.tc,.slice x.sA x.sn x.sc],.int .i64 person,.int .i64 day,.int .i64 kn,.func (.func 71) #[] #[]] w (RetFE (leavesX (fun f=>decide (person∈whL l kn day f)) l person day kn) w):=by
 obtain ⟨pA,pn,pc,rA,rn,rc,tA,tn,tc,sA,sn,sc⟩:=x
 have HD:=hd_ hd
 have q3:maxLen<=9223372036854775807:=by decide
 have xx:pn<=9223372036854775807:=by have:=hf.p;dsimp only at this;omega
 have Jy:rn<=9223372036854775807:=by have:=hf.r;dsimp only at this;omega
 have zX:tn<=9223372036854775807:=by have:=hf.t;dsimp only at this;omega
 have yu:sn<=9223372036854775807:=by have:=hf.s;dsimp only at this;omega
 clear hd hf q3
 obtain ⟨p,hp⟩:∃ p:Int × Int->Bool,(fun f=>decide (person∈whL l kn day f))=p:=⟨_,rfl⟩
 have HP:Hid (∀ f,(decide (person∈whL l kn day f))=p f):=by show ∀ _,_;intro f;rw [<- hp]
 rw [hp]
 clear hp
 obtain ⟨v,hv⟩:∃ v,preP l person day kn=v:=⟨_,rfl⟩
 have HV:Hid (orL [errI (ledB l) 24,errI (withinB person 0 99) 1,errI (daysOk [day,kn]) 6]=v):=by show _=_;exact hv
 by_cases vy:v=0
 ·subst vy
  have jX:=hd_ (led_ok (preP_zero hv))
  obtain ⟨ve,q7⟩:∃ ve,setE l kn=ve:=⟨_,rfl⟩
  by_cases he:ve=0
  ·subst he
   have gj:leavesX p l person day kn=((folL l.pp).filter p,0):=by rw [leavesX,if_pos hv,if_pos q7]
   rw [gj]
   have J2:=hd_ q7
   have v2:pn<=12:=by have h1:=jX.out.pn;have h2:l.pp.length=pn:=HD.out.p.len;omega
   obtain ⟨i0,hi,X5,hz1,Y1⟩:=info_parts infoFol
   have QJ:=folL_len jX.out
   have Q5:=hd_ (fol_wf jX.out)
   obtain ⟨fs,Xv⟩:∃ fs,folL l.pp=fs:=⟨_,rfl⟩
   have qq:=hd_ Xv
   clear gj hv q7
   go_enter Tryz.func69,Tryz.ntmps69
   go_wp2_with (first | (go_at_call 12;refine (p_Check l ⟨pA,pn,pc,rA,rn,rc,tA,tn,tc,sA,sn,sc⟩ _ xx Jy zX yu (HD.out.now (by exact bel_))).mono ?_;rintro e w1 ⟨rfl,hb1⟩;have HB1:Below w.heap.size w w1:=bt_ (by exact bel_) hb1;have hs1:=HB1.size;have uQ:=BoxA.new w 32 #[.slice pA pn pc,.slice rA rn rc,.slice tA tn tc,.slice sA sn sc];have gX:=uQ.ext hb1;have uJ:=gX.cell;have u4:=gX.lt;clear hb1) | (go_at_call 122;refine (p_checkPerson2 person _).mono ?_;rintro e w1 ⟨rfl,rfl⟩) | (go_at_call 63;refine (p_checkDays [day,kn] _ 2 2 _ (by decide) (Rd.new _ #[.int .i64 day,.int .i64 kn] _ 1 2 _ (by simp) rfl)).mono ?_;rintro e w2 ⟨rfl,gu⟩;have gv:Below w.heap.size w w2:=bt_ (by exact bel_) gu;have zq:=gv.size;have g9:=(gX.alloc _).ext gu;have vX:=g9.cell;have x3:=g9.lt;clear uJ u4;clear gu) | (go_at_call 62;refine (p_first [errI (ledB l) 24,errI (withinB person 0 99) 1,errI (daysOk [day,kn]) 6] 0 _ 3 3 _ (by decide) (Rd.new _ #[.int .i64 (errI (ledB l) 24),.int .i64 (errI (withinB person 0 99) 1),.int .i64 (errI (daysOk [day,kn]) 6)] _ 1 3 _ (by simp) rfl) HV.out).mono ?_;rintro e w1 ⟨rfl,rfl⟩) | (go_at_call 64;refine (p_openA l ⟨pA,pn,pc,rA,rn,rc,tA,tn,tc,sA,sn,sc⟩ kn _ jX.out (HD.out.now (by exact bel_))).mono ?_;rintro e w5 ⟨RA,Rn,Rc,SA,Sn,Sc,bm,TA,Tn,Tc,PA,Pn,Pc,rfl,gx,hO⟩;have q5:Below w.heap.size w w5:=bt_ (by exact bel_) gx;have Q0:=q5.size;have HO:=hd_ hO;have kx:=(g9.alloc _).ext gx;have M3:=kx.cell;have Mq:=kx.lt;clear vX x3;clear hO gx) | (go_at_call 73;refine (p_settle0 l kn ⟨⟨pA,pn,pc,rA,rn,rc,tA,tn,tc,sA,sn,sc⟩,kn,RA,Rn,Rc,SA,Sn,Sc,bm,TA,Tn,Tc,PA,Pn,Pc⟩ w5 jX.out HO.out J2.out).mono ?_;rintro e w6 ⟨PA2,Pc2,rfl,gJ,jj,uv,uu⟩;have q8:Below w.heap.size w w6:=bt_ q5 gJ;have JJ:=q8.size;have k6:=jj.cell;have z6:=jj.lt;have Uq:=hd_ uv;have YX:=hd_ uu;have vY:=hd_ jj;have U3:=gJ.size;have u5:=kx.ext gJ;have M0:=u5.cell;have M1:=u5.lt;clear M3 Mq;clear uv uu jj gJ) | (go_at_call 96;refine (p_folios l ⟨pA,pn,pc,rA,rn,rc,tA,tn,tc,sA,sn,sc⟩ w6 v2 jX.out.pp ((HD.out.now q8))).mono ?_;rintro e w7 ⟨vf,rfl,jy,Jx⟩;obtain ⟨AF,cF,rfl,Yy⟩:=own_slice Jx;have Qx:Below w.heap.size w w7:=q8.trans (jy.mono JJ);have V6:=jy.size;have U8:=hd_ (sq_of_own Jx rfl);have y3:=hd_ (vY.out.ext jy);have Jq:=hd_ (Uq.out.now jy);clear Jx M0 M1 k6 z6))
   have Zj:Hid ((folL l.pp).length=fs.length):=by show _=_;rw [qq.out]
   have Ku:Hid (∀ (W:World) (a b:Int),Below w7.heap.size w7 W->(Lit.int .i64 b).wf=true->Calls Tryz.prog 74 #[.agg #[.slice pA pn pc,.slice rA rn rc,.slice tA tn tc,.slice sA sn sc,.int .i64 kn,.slice RA Rn Rc,.slice SA Sn Sc,.map (some bm),.slice TA Tn Tc,.slice PA2 Pn Pc2],.agg #[.int .i64 a,.int .i64 b],.int .i64 day] W (RetO (whL l kn day (a,b)) W)):=by
    show ∀ _,_
    exact fun W a b hW z0=>p_where _ _ _ ⟨⟨pA,pn,pc,rA,rn,rc,tA,tn,tc,sA,sn,sc⟩,kn,RA,Rn,Rc,SA,Sn,Sc,bm,TA,Tn,Tc,PA2,Pn,Pc2⟩ a b day W (Jq.out.now hW) z0
   have yJ:=U8.out
   (try rw [qq.out] at yJ)
   (try rw [qq.out] at QJ)
   (try rw [qq.out])
   have Qy:=hd_ yJ
   clear yJ
   go_loopw [15,41] (fun v i wr=>∃ k:Nat,k<=fs.length/\i=.int .i64 k/\wr.ownsRow w7.heap.size 48 2 v ((fs.take k).filter p).length (folCells ((fs.take k).filter p))/\Below w7.heap.size w7 wr) (fun _ i _=>fs.length - (intOf i).toNat)
   case atStart=>exact ⟨0,by omega,rfl,World.ownsRow_nil _ _ _ _,Below.refl _ _⟩
   case round =>
    obtain ⟨k,hk,rfl,k7,hB⟩:=hrel
    have u0:=hB.size
    have KJ:=y3.out.ext hB
    have Zy:=KJ.cell
    have Z6:=KJ.lt
    obtain ⟨xl,vQ⟩:∃ xl,(fs.take k).filter p=xl:=⟨_,rfl⟩
    have Zu:xl.length<=360:=by
     have h1:=List.length_filter_le p (fs.take k)
     rw [vQ,List.length_take] at h1
     omega
    rw [vQ] at k7
    have HO:=hd_ k7
    have Ju:=hd_ vQ
    clear k7 vQ
    by_cases hlt:k<fs.length
    ·obtain ⟨b,o,f,xy,hb,hf,q0,q1⟩:=(Sq.ext Qy.out abF hB lr_).at_ hlt
     have x9:b<wr.heap.size:=by omega
     have M4:=hd_ (Q5.out f (by rw [qq.out];exact List.mem_of_getElem? hf))
     have HF:=hd_ (filt_succ (p:=p) hf)
     have Y9:=hd_ xy
     rw [xy]
     clear hf xy
     obtain ⟨q,hq⟩:∃ q,p f=q:=⟨_,rfl⟩
     have HQ:=hd_ ((HP.out f).trans hq)
     have hn:(q=true/\(fs.take (k+1)).filter p=xl ++ [f])\/(q=false/\(fs.take (k+1)).filter p=xl):=by
      cases q with
      | true=>exact .inl ⟨rfl,by rw [HF.out,if_pos hq,Ju.out]⟩
      | false=>exact .inr ⟨rfl,by rw [HF.out,if_neg (by rw [hq];simp),Ju.out]⟩
     rcases hn with ⟨rfl,hn⟩ | ⟨rfl,hn⟩
     all_goals (
     have HN:=hd_ hn
     clear hn hq
     go_wp2_with (first | (go_at_call 74;refine (Ku.out _ f.1 f.2 (hB.trans ((show Below wr.heap.size wr _ by exact bel_).mono u0)) M4.out).mono ?_;rintro e w8 ⟨v8,rfl,gY,j7⟩;obtain ⟨A8,c8,rfl,X6⟩:=own_slice j7;have j8:Below wr.heap.size wr w8:=bt_ (by exact bel_) gY;have Ky:=j8.size;have v4:=(BoxA.new wr 48 #[.int .i64 f.1,.int .i64 f.2]).ext gY;have UY:=v4.cell;have Qu:=v4.lt;have y9:=hd_ (Rd.of_own j7);have VJ:=whL_len l kn day (f.1,f.2);clear j7 gY) | (go_at_call 71;refine (l_contains (whL l kn day f) person _ _ _ _ _ (by omega) y9.out HQ.out).mono ?_;rintro e w9 ⟨rfl,rfl⟩) | (at_builtin;refine wpList_append_own _ rfl (.tmp 52) (.tmp 54) 44 rfl w7.heap.size 48 i0 _ 2 16 Tryz.underlying44 hi X5 hz1 Y1 rfl (by decide) _ _ _ rfl ((own_ex HO.out j8).alloc (.cells #[.int .i64 f.1,.int .i64 f.2] 48)) ⟨w8.heap.size,0,none⟩ 1 1 [.int .i64 f.1,.int .i64 f.2] rfl rfl ?c1 ?c2 ?c3 ?c4 ?c5 ?_;rotate_left 5;intro v' w2 uy ku _)))
     case c1=>intro j u hj;match j,hj with
      | 0,hj=>simp at hj;subst hj;simp [Addr.add]
      | 1,hj=>simp at hj;subst hj;simp [Addr.add]
     case c2=>simp [Value.oneCell']
     case c3=>unfold maxLen;omega
     case c4=>omega
     case c5=>simp;omega
     go_roundw
     case rel =>
      refine ⟨k+1,by omega,by go_num,?_,OwnS.below ((hB.trans (j8.mono u0)).alloc (by omega) _) ((own_ex HO.out j8).alloc (.cells #[.int .i64 f.1,.int .i64 f.2] 48)) (by simp;omega) ku⟩
      rw [HN.out,List.length_append]
      have e1:folCells (xl ++ [f])=folCells xl ++ [.int .i64 f.1,.int .i64 f.2]:=by simp [folCells]
      rw [e1]
      exact uy
     case measure=>exact ms_
     go_roundw
     case rel=>exact ⟨k+1,by omega,by go_num,by rw [HN.out];exact own_ex HO.out j8,hB.trans (j8.mono u0)⟩
     case measure=>exact ms_
    ·have Uj:Hid (k=fs.length):=by show _=_;omega
     have u1:fs.filter p=xl:=by rw [<- Ju.out,Uj.out,List.take_length]
     have jJ:(folL l.pp).filter p=xl:=by rw [qq.out];exact u1
     have ux:=hd_ jJ
     clear u1 jJ
     have hO:=HO.out
     obtain ⟨A9,c9,rfl,Z4⟩:=own_slice hO
     go_wp2
     go_ret2
     exact ⟨A9,_,c9,rfl,Qx.trans (hB.mono (by omega)),by rw [ux.out];exact own_dn hO (by omega),by rw [ux.out]⟩
  ·have gj:leavesX p l person day kn=([],ve):=by rw [leavesX,if_pos hv,if_neg (by rw [q7];exact he),q7]
   rw [gj]
   have J2:=hd_ q7
   have U6:=hd_ he
   have Zq:(ve != 0)=true:=by simpa using he
   clear gj hv q7 he
   go_enter Tryz.func69,Tryz.ntmps69
   go_wp2_with (first | (go_at_call 12;refine (p_Check l ⟨pA,pn,pc,rA,rn,rc,tA,tn,tc,sA,sn,sc⟩ _ xx Jy zX yu (HD.out.now (by exact bel_))).mono ?_;rintro e w1 ⟨rfl,hb1⟩;have HB1:Below w.heap.size w w1:=bt_ (by exact bel_) hb1;have hs1:=HB1.size;have uQ:=BoxA.new w 32 #[.slice pA pn pc,.slice rA rn rc,.slice tA tn tc,.slice sA sn sc];have gX:=uQ.ext hb1;have uJ:=gX.cell;have u4:=gX.lt;clear hb1) | (go_at_call 122;refine (p_checkPerson2 person _).mono ?_;rintro e w1 ⟨rfl,rfl⟩) | (go_at_call 63;refine (p_checkDays [day,kn] _ 2 2 _ (by decide) (Rd.new _ #[.int .i64 day,.int .i64 kn] _ 1 2 _ (by simp) rfl)).mono ?_;rintro e w2 ⟨rfl,gu⟩;have gv:Below w.heap.size w w2:=bt_ (by exact bel_) gu;have zq:=gv.size;have g9:=(gX.alloc _).ext gu;have vX:=g9.cell;have x3:=g9.lt;clear uJ u4;clear gu) | (go_at_call 62;refine (p_first [errI (ledB l) 24,errI (withinB person 0 99) 1,errI (daysOk [day,kn]) 6] 0 _ 3 3 _ (by decide) (Rd.new _ #[.int .i64 (errI (ledB l) 24),.int .i64 (errI (withinB person 0 99) 1),.int .i64 (errI (daysOk [day,kn]) 6)] _ 1 3 _ (by simp) rfl) HV.out).mono ?_;rintro e w1 ⟨rfl,rfl⟩) | (go_at_call 64;refine (p_openA l ⟨pA,pn,pc,rA,rn,rc,tA,tn,tc,sA,sn,sc⟩ kn _ jX.out (HD.out.now (by exact bel_))).mono ?_;rintro e w5 ⟨RA,Rn,Rc,SA,Sn,Sc,bm,TA,Tn,Tc,PA,Pn,Pc,rfl,gx,hO⟩;have q5:Below w.heap.size w w5:=bt_ (by exact bel_) gx;have Q0:=q5.size;have HO:=hd_ hO) | (go_at_call 73;refine (p_settleN l kn ⟨⟨pA,pn,pc,rA,rn,rc,tA,tn,tc,sA,sn,sc⟩,kn,RA,Rn,Rc,SA,Sn,Sc,bm,TA,Tn,Tc,PA,Pn,Pc⟩ ve w5 jX.out HO.out J2.out U6.out).mono ?_;rintro e w6 ⟨rfl,gJ⟩;have q8:Below w.heap.size w w6:=bt_ q5 gJ;have JJ:=q8.size))
   go_ret2
   exact RetFE.err q8
 ·have gj:leavesX p l person day kn=([],v):=by rw [leavesX,if_neg (by rw [hv];exact vy),hv]
  rw [gj]
  have V0:(v != 0)=true:=by simpa using vy
  clear gj hv vy
  go_enter Tryz.func69,Tryz.ntmps69
  go_wp2_with (first | (go_at_call 12;refine (p_Check l ⟨pA,pn,pc,rA,rn,rc,tA,tn,tc,sA,sn,sc⟩ _ xx Jy zX yu (HD.out.now (by exact bel_))).mono ?_;rintro e w1 ⟨rfl,hb1⟩;have HB1:Below w.heap.size w w1:=bt_ (by exact bel_) hb1;have hs1:=HB1.size) | (go_at_call 122;refine (p_checkPerson2 person _).mono ?_;rintro e w1 ⟨rfl,rfl⟩) | (go_at_call 63;refine (p_checkDays [day,kn] _ 2 2 _ (by decide) (Rd.new _ #[.int .i64 day,.int .i64 kn] _ 1 2 _ (by simp) rfl)).mono ?_;rintro e w2 ⟨rfl,gu⟩;have gv:Below w.heap.size w w2:=bt_ (by exact bel_) gu;have zq:=gv.size) | (go_at_call 62;refine (p_first [errI (ledB l) 24,errI (withinB person 0 99) 1,errI (daysOk [day,kn]) 6] v _ 3 3 _ (by decide) (Rd.new _ #[.int .i64 (errI (ledB l) 24),.int .i64 (errI (withinB person 0 99) 1),.int .i64 (errI (daysOk [day,kn]) 6)] _ 1 3 _ (by simp) rfl) HV.out).mono ?_;rintro e w1 ⟨rfl,rfl⟩))
  go_ret2
  exact RetFE.err (by exact bel_)
set_option maxRecDepth 10000 in
theorem p_MayX (l:Led) (x:Lsl) (person day kn:Int) (w:World) (hf:x.fit) (hd:LedIn w w.heap.size x l) :
 Calls Tryz.prog 16 #[.agg #[.slice x.pA x.pn x.pc,.slice x.rA x.rn x.rc,.slice x.tA x.tn x.tc,.slice x.sA x.sn x.sc],.int .i64 person,.int .i64 day,.int .i64 kn] w (RetFE (leavesX (fun f=>decide (person∈whL l kn day f)) l person day kn) w):=by
 obtain ⟨pA,pn,pc,rA,rn,rc,tA,tn,tc,sA,sn,sc⟩:=x
 have HD:=hd_ hd
 have HC:Hid (∀ W:World,Below w.heap.size w W->Calls Tryz.prog 69 #[.agg #[.slice pA pn pc,.slice rA rn rc,.slice tA tn tc,.slice sA sn sc],.int .i64 person,.int .i64 day,.int .i64 kn,.func (.func 71) #[] #[]] W (RetFE (leavesX (fun f=>decide (person∈whL l kn day f)) l person day kn) W)):=by
  show ∀ _,_
  exact fun W hW=>p_leavesOfMay l ⟨pA,pn,pc,rA,rn,rc,tA,tn,tc,sA,sn,sc⟩ person day kn W hf (HD.out.now hW)
 obtain ⟨r,hr⟩:∃ r,leavesX (fun f=>decide (person∈whL l kn day f)) l person day kn=r:=⟨_,rfl⟩
 rw [hr] at HC ⊢
 clear hr hd hf
 go_enter Tryz.func16,Tryz.ntmps16
 go_wp2_with (go_at_call 69;refine (HC.out _ (by exact bel_)).mono ?_;rintro e w5 ⟨A,n,c,rfl,gx,M6,Mu⟩;have q5:Below w.heap.size w w5:=bt_ (by exact bel_) gx;have Y6:=hd_ M6;have Vx:=hd_ Mu;clear M6 Mu)
 go_ret2
 exact ⟨A,n,c,rfl,q5,own_dn Y6.out (by simp),Vx.out⟩
end Go.Proofs.YtmcmbicapdcfmaaGreat
namespace Go.Proofs.YtmcmbicapdcfmaaGreat
open Go.RowKit Go.Maps
theorem whoP_F (l:Led) (kn day pap:Int) (days:List Int) (i:Nat):whoP l kn day pap days i=whoF l kn day days pap ((i:Int)+1):=rfl
end Go.Proofs.YtmcmbicapdcfmaaGreat
namespace Go.Proofs.YtmcmbicapdcfmaaGreat
open Go.RowKit Go.Maps
theorem who_in {l:Led} {kn day pap leaf:Int} {days:List Int} (hl:ledB l=true) (h:trueE l kn days=0):whoF l kn day days pap leaf∈whL l kn day (pap,leaf):=by
 obtain ⟨h1,h2,h3⟩:=true_of h
 have U2:=setP_len hl h2
 have hb:=stayP_back (M:=(opnL l kn).M) (R:=cntR l kn) (pap:=pap) (leaf:=leaf) (day:=day) (n:=l.rt.length) (fun k i hi=>opnK_M _ _ _ _ _ _ _ hi)
 unfold whoF whL whereS
 obtain ⟨⟨p,b⟩,XJ⟩:∃ st,stayP (opnL l kn).M (cntR l kn) pap leaf day=st:=⟨_,rfl⟩
 rw [XJ] at hb ⊢
 rcases hb with hb | ⟨i,hi,hb⟩
 ·have hb:b=-1:=hb
  subst hb
  simp
 ·have hb:b=(i:Int):=hb
  subst hb
  obtain ⟨d,hd⟩:∃ d,(setP l kn)[i]?=some d:=⟨_,List.getElem?_eq_getElem (by omega)⟩
  obtain ⟨y,hy⟩:∃ y,days[i]?=some y:=⟨_,List.getElem?_eq_getElem (by omega)⟩
  have ht:=true_at h3 hy hd
  have hn:¬ ((i:Int)<0):=by omega
  simp only [Int.toNat_natCast,List.getD_eq_getElem?_getD,hd,hy,Option.getD_some,hn,false_or]
  by_cases c1:day<d.1
  ·rw [if_pos c1,if_pos (by omega)];simp
  ·rw [if_neg c1]
   by_cases c2:d.2<=day
   ·rw [if_pos c2,if_neg (by omega)];simp
   ·rw [if_neg c2]
    split <;> simp
end Go.Proofs.YtmcmbicapdcfmaaGreat
namespace Go.Proofs.YtmcmbicapdcfmaaGreat
open Go.RowKit Go.Maps
section
variable {l:Led} {days:List Int} (h:HnOk l days)
include h
theorem HnOk.lies {day pap leaf:Int} (hd:0<=day/\day<=100000) (hw:whoF l 900 day days pap leaf≠0):∃ p r,lastK 900 pap leaf day l.rc l.rc.length=some p/\l.rc[p.1]?=some r/\r.bor=whoF l 900 day days pap leaf/\∃ v,liesX l r.src day 900=(v,0)/\v≠0:=by
 obtain ⟨h0,hb⟩:=led_bor h.led
 cases hL:lastK 900 pap leaf day l.rc l.rc.length with
 | none=>rw [wt_none h0 hL] at hw;exact absurd rfl hw
 | some p =>
   obtain ⟨r,hr,x6,Z2,Xu,-⟩:=last_some hL
   rw [wt_some h0 hL hr] at hw ⊢
   have Kq:=List.mem_of_getElem? hr
   refine ⟨p,r,rfl,hr,?_,ansI (r.lv.any (lieO l 900 day r)) (r.lv.all (lieB l 900 day r)),?_,?_⟩
   ·unfold withR at hw ⊢
    split at hw
    ·rfl
    ·split at hw
     ·rename_i h2;rw [if_pos h2]
     ·exact absurd rfl hw
   ·rw [liesX,if_pos (pre2 h.led hd (by decide)),findR_src h.ru Kq (h.cnt Kq)]
    dsimp only
    rw [if_pos h.set0,if_neg (by omega)]
   ·have ha:r.lv.any (lieO l 900 day r)=true:=by
     rw [List.any_eq_true]
     refine ⟨leaf,Xu,?_⟩
     rw [lieO,opn_rt,opn_tell]
     unfold withR at hw
     cases hx:rtIx (tellK l 900 l.rt.length) l.rt r.src leaf with
     | none=>rfl
     | some k =>
       rw [hx] at hw
       dsimp only at hw ⊢
       have hk:=lt_rtIx hx
       have Z7:=setP_len h.led h.set0
       obtain ⟨d,Kx⟩:∃ d,(setP l 900)[k]?=some d:=⟨_,List.getElem?_eq_getElem (by omega)⟩
       obtain ⟨y,hy⟩:∃ y,days[k]?=some y:=⟨_,List.getElem?_eq_getElem (by have:=h.dl;omega)⟩
       have ht:=true_at (true_of h.true_).2.2 hy Kx
       rw [List.getD_eq_getElem?_getD,hy,Option.getD_some] at hw
       rw [List.getD_eq_getElem?_getD,Kx,Option.getD_some,decide_eq_true_eq]
       split at hw
       ·omega
       ·exact absurd rfl hw
    rw [ha,ansI]
    simp only [if_true]
    split <;> decide
theorem HnOk.whole (day:Int) (pap leaf:Int):whoF l 900 day days pap leaf∈whL l 900 day (pap,leaf):=who_in h.led h.true_
end
end Go.Proofs.YtmcmbicapdcfmaaGreat
namespace Go.Proofs.YtmcmbicapdcfmaaGreat
open Go.RowKit Go.Maps
theorem fol_inT {p:Ppr} (hp:p∈mPp) {leaf:Int} (h1:1<=leaf) (h2:leaf<=p.lv):(p.id,leaf)∈folL mPp:=by
 rw [folL,List.mem_flatMap]
 refine ⟨p,hp,?_⟩
 rw [ppFol,List.mem_map]
 exact ⟨(leaf - 1).toNat,List.mem_range.2 (by omega),by congr 1;omega⟩
theorem days9 {day:Int} (hd:0<=day/\day<=100000):daysOk [day,900]=true:=by simp [daysOk,withinB];omega
section
variable {l:Led} {days:List Int} (h:HnOk l days)
include h
theorem HnOk.check:checkTrueX l 900 days=0:=by rw [checkTrueX,if_pos (pre1 h.led (by decide))];exact h.true_
theorem HnOk.placed {p:Ppr} (hp:p∈mPp) {day:Int} (hd:0<=day/\day<=100000):placedX l days p.id day 900=((List.range p.lv.toNat).map (whoP l 900 day p.id days),0):=by
 have g8:preF l day 900 p.id 1=0:=preF_zeroB h.led (days9 hd) (by rw [h.pp];exact lv_inB hp)
 rw [placedX,if_pos g8,if_pos h.true_,h.pp,lv_pp hp]
theorem HnOk.where_ {p:Ppr} (hp:p∈mPp) {day leaf:Int} (hd:0<=day/\day<=100000) (h1:1<=leaf) (h2:leaf<=p.lv):whereX l p.id leaf day 900=(whL l 900 day (p.id,leaf),0):=by
 have g8:preF l day 900 p.id leaf=0:=preF_zeroB h.led (days9 hd) (by rw [h.pp];exact lf_inB hp h1 h2)
 rw [whereX,if_pos g8,if_pos h.set0]
theorem HnOk.leaves (g:Int × Int->Bool) {per day:Int} (hd:0<=day/\day<=100000) (kY:0<=per/\per<=99):leavesX g l per day 900=((folL mPp).filter g,0):=by
 have g8:preP l per day 900=0:=by
  have h1:=h.led
  have h2:=days9 hd
  have h3:withinB per 0 99=true:=by simp [withinB];omega
  simp [preP,h1,h2,h3,orL,errI]
 rw [leavesX,if_pos g8,if_pos h.set0,h.pp]
theorem HnOk.hasIn {p:Ppr} (hp:p∈mPp) {per day leaf:Int} (h1:1<=leaf) (h2:leaf<=p.lv) (hm:(p.id,leaf)∈(folL mPp).filter fun f=>decide (whL l 900 day f=[per])):whoF l 900 day days p.id leaf=per:=by
 have h3:=(List.mem_filter.1 hm).2
 have h4:=h.whole day p.id leaf
 rw [of_decide_eq_true h3,List.mem_singleton] at h4
 exact h4
theorem HnOk.mayIn {p:Ppr} (hp:p∈mPp) {per day leaf:Int} (h1:1<=leaf) (h2:leaf<=p.lv) (hw:whoF l 900 day days p.id leaf=per):(p.id,leaf)∈(folL mPp).filter fun f=>decide (per∈whL l 900 day f):=by
 refine List.mem_filter.2 ⟨fol_inT hp h1 h2,?_⟩
 have h4:=h.whole day p.id leaf
 rw [hw] at h4
 simpa using h4
end
end Go.Proofs.YtmcmbicapdcfmaaGreat
namespace Go.Proofs.YtmcmbicapdcfmaaGreat
open Go.RowKit Go.Maps
theorem p_LiesT (l:Led) (x:Lsl) (src day kn p v:Int) (w:World) (hf:x.fit) (hd:LedIn w w.heap.size x l) (h:liesX l src day kn=(p,v)) :
 Calls Tryz.prog 35 #[.agg #[.slice x.pA x.pn x.pc,.slice x.rA x.rn x.rc,.slice x.tA x.tn x.tc,.slice x.sA x.sn x.sc],.int .i64 src,.int .i64 day,.int .i64 kn] w (fun e w'=>e=.returned (.tuple #[.int .i64 p,.int .i64 v])/\Below w.heap.size w w'):=by
 have hc:=p_Lies l x src day kn w hf hd
 rw [h] at hc
 exact hc
theorem stepA {kn pap leaf day:Int} {R:List Rcp} {s:Option (Nat × Int)} {k:Nat} {u:Rcp} (hu:R[k]?=some u) (h:(countsB u.kn u.un kn && isOfB pap leaf u && (decide (u.day<=day) && newer s u.day))=false):lastStep kn pap leaf day R s k=s:=by
 rw [lastStep,hu];simp only [h];rfl
theorem stepB {kn pap leaf day:Int} {R:List Rcp} {s:Option (Nat × Int)} {k:Nat} {u:Rcp} (hu:R[k]?=some u) (h:(countsB u.kn u.un kn && isOfB pap leaf u && (decide (u.day<=day) && newer s u.day))=true):lastStep kn pap leaf day R s k=some (k,u.day):=by
 rw [lastStep,hu];simp only [h];rfl
set_option maxRecDepth 100000 in
theorem w_lies (l:Led) (v:Lsl) (pap leaf b day q:Int) (p:Nat × Int) (r:Rcp) (w:World) (hf:v.fit) (hd:LedIn w w.heap.size v l) (hl:LedOk l) (uq:∀ u∈l.rc,countsB u.kn u.un 900=true) (hL:lastK 900 pap leaf day l.rc l.rc.length=some p) (hr:l.rc[p.1]?=some r) (hb:r.bor=b) (hq:liesX l r.src day 900=(q,0)) (qx:q≠0) :
 Calls Tryz.prog 20 #[.agg #[.slice v.pA v.pn v.pc,.slice v.rA v.rn v.rc,.slice v.tA v.tn v.tc,.slice v.sA v.sn v.sc],.agg #[.int .i64 pap,.int .i64 leaf],.agg #[.int .i64 b,.int .i64 day]] w fun e w'=>e=.returned (.int .i64 1)/\Below w.heap.size w w':=by
 obtain ⟨pA,pn,pc,rA,rn,rc,tA,tn,tc,sA,sn,sc⟩:=v
 have J6:Hid (l.rc.length=rn):=by show _=_;exact hd.r.len
 have X2:rn<=1000000:=by have h:=J6.out;have h2:=hl.rn;omega
 have hk:p.1<rn:=by rw [<- J6.out];exact (List.getElem?_eq_some_iff.1 hr).1
 obtain ⟨bx,ox,r',gQ,k8,K9,A1,n1,c1,⟨g0,g1,-,-,-,-,-⟩,-⟩:=hd.r.at_ hk
 dsimp only at gQ
 subst gQ
 obtain rfl:r=r':=Option.some.inj (hr.symm.trans K9)
 rw [hb] at g1
 obtain ⟨ix,dd⟩:=p
 dsimp only at hk g0 g1 hr
 have HD:=hd_ hd
 have HF:=hd_ hf
 have HC:=hd_ uq
 have X8:=hd_ hL
 have HQ:=hd_ hq
 have K0:=hd_ g0
 have U9:=hd_ g1
 obtain ⟨src,yv⟩:∃ s,r.src=s:=⟨_,rfl⟩
 rw [yv] at HQ K0
 clear hd hf uq hL hq g0 g1 K9 hb hr
 have B3a:=box2 w 32 48 #[.slice pA pn pc,.slice (some ⟨bx,ox,none⟩) rn rc,.slice tA tn tc,.slice sA sn sc] #[.int .i64 pap,.int .i64 leaf]
 go_enter Tryz.func20,Tryz.ntmps20
 go_upto_region 1 with fail
 refine wp_named2 fun f1 W1 hf1 qY=>?_
 have bL:BoxA W1 w.heap.size 32 #[.slice pA pn pc,.slice (some ⟨bx,ox,none⟩) rn rc,.slice tA tn tc,.slice sA sn sc]:=by (rw [<- qY];simp only [boxed_iff,boxa_iff,alloc_get,drew_heap,World.size_alloc];(repeat (first | rw [if_pos trivial] | rw [if_pos (by omega)] | rw [if_neg (by omega)])))
 have bF:BoxA W1 (w.heap.size+1) 48 #[.int .i64 pap,.int .i64 leaf]:=by (rw [<- qY];simp only [boxed_iff,boxa_iff,alloc_get,drew_heap,World.size_alloc];(repeat (first | rw [if_pos trivial] | rw [if_pos (by omega)] | rw [if_neg (by omega)])))
 have bT:BoxA W1 (w.heap.size+1+1) 53 #[.int .i64 b,.int .i64 day]:=by (rw [<- qY];simp only [boxed_iff,boxa_iff,alloc_get,drew_heap,World.size_alloc];(repeat (first | rw [if_pos trivial] | rw [if_pos (by omega)] | rw [if_neg (by omega)])))
 have xv:Below w.heap.size w W1:=by rw [<- qY];exact bel_
 have hs1:=xv.size
 have X7:=hd_ bL
 have UX:=hd_ bF
 have XY:=hd_ bT
 have Q4:=hd_ xv
 have ZJ:=bT.lt
 clear qY bL bF bT xv B3a
 subst hf1
 go_wp2_with fail
 go_loopw [7,8] (fun lv i wr=>∃ k:Nat,k<=rn/\i=.int .i64 k/\lv=.int .i64 (lastI (lastK 900 pap leaf day l.rc k))/\Below W1.heap.size W1 wr) (fun _ i _=>rn - (intOf i).toNat)
 case atStart=>exact ⟨0,by omega,rfl,rfl,Below.refl _ _⟩
 case round =>
  obtain ⟨k,YY,rfl,rfl,hB⟩:=hrel
  have u0:=hB.size
  have HB:=hd_ hB
  have H0:Hid (Below w.heap.size w wr):=by show Below _ _ _;exact bt_ Q4.out hB
  have bL:=X7.out.ext hB
  have bF:=UX.out.ext hB
  have bT:=XY.out.ext hB
  have kL:=bL.cell
  have zL:=bL.lt
  have v5:=hd_ bL
  have y8:=hd_ bF
  have ju:=hd_ bT
  clear hB bL bF bT
  by_cases hlt:k<rn
  ·obtain ⟨Uu,ox2,u,gQ,k4,hu,A2,n2,c2,⟨g0,g1,g2,g3,g4,g5,g6⟩,gi,gc,gm⟩:=HD.out.r.at_ hlt
   dsimp only at gQ
   obtain ⟨rfl,rfl⟩:bx=Uu/\ox=ox2:=by simpa using gQ
   have j0:=(H0.out.cell (p:=⟨bx,ox+k*7,none⟩) k4).trans g0
   have j1:=(H0.out.cell (p:=⟨bx,ox+k*7+1,none⟩) k4).trans g1
   have j2:=(H0.out.cell (p:=⟨bx,ox+k*7+2,none⟩) k4).trans g2
   have j3:=(H0.out.cell (p:=⟨bx,ox+k*7+3,none⟩) k4).trans g3
   have j4:=(H0.out.cell (p:=⟨bx,ox+k*7+4,none⟩) k4).trans g4
   have j5:=(H0.out.cell (p:=⟨bx,ox+k*7+5,none⟩) k4).trans g5
   have j6:=(H0.out.cell (p:=⟨bx,ox+k*7+6,none⟩) k4).trans g6
   have x9:bx<wr.heap.size:=by omega
   have HU:=hd_ hu
   have u3:=hd_ gi
   have MQ:=hd_ (HC.out u (List.mem_of_getElem? hu))
   have uX:n2<=9223372036854775807:=by have:maxLen<=9223372036854775807:=(by decide);omega
   clear g0 g1 g2 g3 g4 g5 g6 gi hu gQ
   go_upto_region 6 with fail
   refine wp_named2 fun f2 W2 hf2 q6=>?_
   have bU:BoxA W2 wr.heap.size 79 #[.int .i64 u.src,.int .i64 u.bor,.int .i64 u.pap,.slice A2 n2 c2,.int .i64 u.day,.int .i64 u.kn,.int .i64 u.un]:=by rw [<- q6];exact BoxA.new _ _ _
   have h2:Below wr.heap.size wr W2:=by rw [<- q6];exact bel_
   have zq:=h2.size
   clear kL zL
   have g9:=v5.out.ext h2
   have jY:=y8.out.ext h2
   have yY:=ju.out.ext h2
   have kU:=bU.cell
   have zU:=bU.lt
   have kL:=g9.cell
   have zL:=g9.lt
   have kF:=jY.cell
   have zF:=jY.lt
   have kT:=yY.cell
   have zT:=yY.lt
   have q9:Hid (Below w.heap.size w W2):=by show Below _ _ _;exact bt_ H0.out h2
   have gv:Hid (Below W1.heap.size W1 W2):=by show Below _ _ _;exact bt_ HB.out h2
   clear q6 bU g9 jY yY h2 j0 j1 j2 j3 j4 j5 j6
   subst hf2
   have qv:=hd_ (lastK_succ 900 pap leaf day l.rc k)
   by_cases hp:u.pap=pap
   rotate_left
   ·have V8:(u.pap == pap)=false:=by simpa using hp
    have HV:Hid (lastK 900 pap leaf day l.rc (k+1)=lastK 900 pap leaf day l.rc k):=by show _=_;rw [qv.out];exact stepA HU.out (by simp [isOfB,hp])
    clear hp
    refine rg_ ?_;(repeat (go_big_quiet_step (fail)));refine qn_ fun w1 hb1 hc1 hf1=>?_
    go_wp2_with fail
    go_roundw
    case rel=>exact ⟨k+1,by omega,by go_num,by rw [HV.out],bt_ gv.out hb1⟩
    case measure=>exact ms_
   ·have V8:(u.pap == pap)=true:=by simpa using hp
    cases hm:decide (leaf∈u.lv) with
    | false =>
      have HM:=hd_ hm
      have HV:Hid (lastK 900 pap leaf day l.rc (k+1)=lastK 900 pap leaf day l.rc k):=by show _=_;rw [qv.out];exact stepA HU.out (by simp [isOfB,hm])
      clear hp hm
      refine rg_ ?_;(repeat (go_big_quiet_step ((go_at_call_of 18 (Value.slice A2 n2 c2);exact Calls.grow_all (fun g=>r_Has2_v u.lv leaf false A2 n2 c2 g.1 uX ((u3.out.now q9.out).now g.2) HM.out)))));refine qn_ fun w1 hb1 hc1 hf1=>?_
      go_wp2_with fail
      go_roundw
      case rel=>exact ⟨k+1,by omega,by go_num,by rw [HV.out],bt_ gv.out hb1⟩
      case measure=>exact ms_
    | true =>
      have HM:=hd_ hm
      cases hdy:decide (u.day<=day) with
      | false =>
        have HV:Hid (lastK 900 pap leaf day l.rc (k+1)=lastK 900 pap leaf day l.rc k):=by show _=_;rw [qv.out];exact stepA HU.out (by simp [hdy])
        clear hp hm
        refine rg_ ?_;(repeat (go_big_quiet_step ((go_at_call_of 18 (Value.slice A2 n2 c2);exact Calls.grow_all (fun g=>r_Has2_v u.lv leaf true A2 n2 c2 g.1 uX ((u3.out.now q9.out).now g.2) HM.out)))));refine qn_ fun w1 hb1 hc1 hf1=>?_
        go_wp2_with fail
        go_roundw
        case rel=>exact ⟨k+1,by omega,by go_num,by rw [HV.out],bt_ gv.out hb1⟩
        case measure=>exact ms_
      | true =>
        cases hK:lastK 900 pap leaf day l.rc k with
        | none =>
          have HV:Hid (lastK 900 pap leaf day l.rc (k+1)=some (k,u.day)):=by show _=_;rw [qv.out];exact stepB HU.out (by simp [isOfB,hp,hm,hdy,hK,newer,MQ.out])
          have Qq:decide ((-1:Int)<0)=true:=by decide
          clear hp hm hK
          simp only [lastI]
          refine rg_ ?_;(repeat (go_big_quiet_step ((go_at_call_of 18 (Value.slice A2 n2 c2);exact Calls.grow_all (fun g=>r_Has2_v u.lv leaf true A2 n2 c2 g.1 uX ((u3.out.now q9.out).now g.2) HM.out)))));refine qn_ fun w1 hb1 hc1 hf1=>?_
          go_wp2_with fail
          go_roundw
          case rel=>exact ⟨k+1,by omega,by go_num,by rw [HV.out];rfl,bt_ gv.out hb1⟩
          case measure=>exact ms_
        | some pj =>
          obtain ⟨j,d⟩:=pj
          obtain ⟨Yq,rj,J9,x6⟩:=lastK_at hK
          have Ux:j<rn:=by omega
          obtain ⟨U0,ox3,r3,gQ,vv,J3,A3,n3,c3,⟨-,-,-,-,g4,-,-⟩,-⟩:=HD.out.r.at_ Ux
          dsimp only at gQ
          obtain ⟨rfl,rfl⟩:bx=U0/\ox=ox3:=by simpa using gQ
          obtain rfl:rj=r3:=Option.some.inj (J9.symm.trans J3)
          rw [x6] at g4
          have e4:=(q9.out.cell (p:=⟨bx,ox+j*7+4,none⟩) vv).trans g4
          have gu:bx<W2.heap.size:=by omega
          have J8:decide ((j:Int)<0)=false:=by simp
          have ZQ:max (j:Int) 0=(j:Int):=by omega
          have hn:(decide (u.day>d)=true/\lastK 900 pap leaf day l.rc (k+1)=some (k,u.day))\/(decide (u.day>d)=false/\lastK 900 pap leaf day l.rc (k+1)=some (j,d)):=by
           cases jx:decide (u.day>d) with
           | true=>exact .inl ⟨rfl,by rw [qv.out];exact stepB HU.out (by simp only [gt_iff_lt] at jx;simp [isOfB,hp,hm,hdy,hK,newer,MQ.out,jx])⟩
           | false=>exact .inr ⟨rfl,by rw [qv.out,<- hK];exact stepA HU.out (by simp only [gt_iff_lt] at jx;simp [hK,newer,jx])⟩
          rcases hn with ⟨jx,hn⟩ | ⟨jx,hn⟩
          all_goals (
           have HV:=hd_ hn
           clear hn hp hm hK J9 J3 x6 g4 gQ
           simp only [lastI]
           refine rg_ ?_;(repeat (go_big_quiet_step ((go_at_call_of 18 (Value.slice A2 n2 c2);exact Calls.grow_all (fun g=>r_Has2_v u.lv leaf true A2 n2 c2 g.1 uX ((u3.out.now q9.out).now g.2) HM.out)))));refine qn_ fun w1 hb1 hc1 hf1=>?_
           go_wp2_with fail
           go_roundw
           case rel=>exact ⟨k+1,by omega,by go_num,by rw [HV.out];rfl,bt_ gv.out hb1⟩
           case measure=>exact ms_)
  ·obtain rfl:rn=k:=by omega
   have zQ:Hid (lastI (lastK 900 pap leaf day l.rc rn)=(ix:Int)):=by show _=_;rw [<- J6.out,X8.out];rfl
   rw [zQ.out]
   have J8:decide ((ix:Int)<0)=false:=by simp
   have e0:=(H0.out.cell (p:=⟨bx,ox+ix*7,none⟩) k8).trans K0.out
   have e1:=(H0.out.cell (p:=⟨bx,ox+ix*7+1,none⟩) k8).trans U9.out
   have x9:bx<wr.heap.size:=by omega
   have kT:=ju.out.cell
   have zT:=ju.out.lt
   have YQ:(b != b)=false:=by simp
   have Z0:(q == 0)=false:=by simpa using qx
   go_wp2_with fail
   refine rg_ ?_;(repeat (go_big_quiet_step (fail)));refine qn_ fun w1 hb1 hc1 hf1=>?_
   obtain ⟨w3,y7⟩:∃ w3,w3=w1:=⟨_,rfl⟩
   have h3:Below wr.heap.size wr w3:=by rw [y7];exact hb1
   rw [<- y7]
   clear hb1 hc1 hf1 y7 kL zL kT zT
   have QQ:=h3.size
   have f0:=(h3.cell (p:=⟨bx,ox+ix*7,none⟩) x9).trans e0
   have U7:bx<w3.heap.size:=by omega
   have JQ:=v5.out.ext h3
   have yx:=ju.out.ext h3
   have kL:=JQ.cell
   have zL:=JQ.lt
   have kT:=yx.cell
   have zT:=yx.lt
   have My:Hid (Below w.heap.size w w3):=by show Below _ _ _;exact bt_ H0.out h3
   clear e0 e1 JQ yx h3
   go_wp2_with fail
   refine rg_ ?_;(repeat (go_big_quiet_step ((go_at_call_of 35 (Value.agg #[.slice pA pn pc,.slice (some ⟨bx,ox,none⟩) rn rc,.slice tA tn tc,.slice sA sn sc]);exact Calls.grow_all (fun g=>p_LiesT l ⟨pA,pn,pc,some ⟨bx,ox,none⟩,rn,rc,tA,tn,tc,sA,sn,sc⟩ src day 900 q 0 g.1 HF.out ((HD.out.now My.out).now g.2) HQ.out)))));refine qn_ fun w1 hb1 hc1 hf1=>?_
   go_wp2_with fail
   go_ret
   exact ⟨rfl,bt_ My.out hb1⟩
end Go.Proofs.YtmcmbicapdcfmaaGreat
namespace Go.Proofs.YtmcmbicapdcfmaaGreat
open Go.RowKit Go.Maps
section
variable {C:Nat->Nat->Prop} {M M':List ((Int × Int) × Nat)} {P P':List (Int × Int)}
theorem Tw.where_ (h:Tw C M M' P P') (R:List Rcp) (pap leaf day:Int):whereS (stayP M R pap leaf day) P day=whereS (stayP M' R pap leaf day) P' day:=by
 obtain ⟨h1,-,h3⟩:=h.stayF R pap leaf day
 unfold whereS stayP
 dsimp only
 rw [h1]
 rcases h3 with ⟨h3,h4⟩ | ⟨a,b,h3,h4,h5⟩
 ·rw [h3,h4];rfl
 ·rw [h3,h4,Int.toNat_natCast,Int.toNat_natCast,(h.val a b h5).2.2]
  have e1:¬ (a:Int)<0:=by omega
  have e2:¬ (b:Int)<0:=by omega
  simp only [e1,e2,false_or]
end
end Go.Proofs.YtmcmbicapdcfmaaGreat
namespace Go.Proofs.YtmcmbicapdcfmaaGreat
open Go.RowKit Go.Maps
set_option maxRecDepth 10000 in
theorem w_among (fs:List (Int × Int)) (pap leaf:Int) (v:Bool) (A:Option Addr) (n c:Nat) (w:World) (hn:n<=1000000) (hd:Sq QF 2 w w.heap.size A n fs) (hv:decide ((pap,leaf)∈fs)=v) :
 Calls Tryz.prog 19 #[.slice A n c,.agg #[.int .i64 pap,.int .i64 leaf]] w fun e w'=>e=.returned (.bool v)/\Below w.heap.size w w':=by
 have HX:=hd_ hd
 have HL:=hd_ hd.len
 have HV:=hd_ hv
 clear hd hv
 have X9:=hd_ (BoxA.new w 48 #[.int .i64 pap,.int .i64 leaf])
 go_enter Tryz.func19,Tryz.ntmps19
 go_wp2
 go_loopw [5] (fun i wr=>∃ k:Nat,k<=n/\i=.int .i64 k/\(pap,leaf) ∉ fs.take k/\Below w.heap.size w wr/\BoxA wr w.heap.size 48 #[.int .i64 pap,.int .i64 leaf]) (fun i _=>n - (intOf i).toNat)
 case atStart=>exact ⟨0,by omega,rfl,by simp,by exact bel_,X9.out⟩
 case round =>
  obtain ⟨k,hk,rfl,g8,hB,k8⟩:=hrel
  have HP:=hd_ g8
  have vY:=hd_ k8
  have kF:=k8.cell
  have zF:=k8.lt
  clear g8 k8
  have Z1:w.heap.size<=wr.heap.size:=hB.size
  by_cases hlt:k<n
  ·obtain ⟨b,o,⟨x,x2⟩,rfl,hb,K8,Yx,Xj⟩:=(Sq.ext HX.out abF hB lr_).at_ hlt
   have zy:=hd_ K8
   clear K8
   have x9:b<wr.heap.size:=by omega
   by_cases hxy:x=pap
   ·by_cases hxy2:x2=leaf
    ·have Xx:Hid ((pap,leaf)∈fs):=by show _∈_;rw [<- hxy,<- hxy2];exact List.mem_of_getElem? zy.out
     subst hxy hxy2
     go_wp2_with fail
     refine rg_ ?_;(repeat (go_big_quiet_step (fail)));refine qn_ fun w1 hb1 hc1 hf1=>?_
     go_wp2_with fail
     go_ret
     refine ⟨ret_bool ?_,bt_ hB hb1⟩
     rw [<- HV.out]
     simp [Xx.out]
    ·have J0:Hid (¬ (pap,leaf)=(x,x2)):=by show ¬ _;intro e;injection e with e1 e2;exact hxy2 e2.symm
     have hq:(x2 == leaf)=false:=by simpa using hxy2
     go_wp2_with fail
     refine rg_ ?_;(repeat (go_big_quiet_step (fail)));refine qn_ fun w1 hb1 hc1 hf1=>?_
     go_wp2_with fail
     go_roundw
     case rel=>exact ⟨k+1,by omega,by go_num,by rw [take_snoc_some zy.out];simp only [List.mem_append,List.mem_singleton,not_or];exact ⟨HP.out,J0.out⟩,bt_ hB hb1,vY.out.ext hb1⟩
     case measure=>exact ms_
   ·have J0:Hid (¬ (pap,leaf)=(x,x2)):=by show ¬ _;intro e;injection e with e1 e2;exact hxy e1.symm
    have hq:(x == pap)=false:=by simpa using hxy
    go_wp2_with fail
    refine rg_ ?_;(repeat (go_big_quiet_step (fail)));refine qn_ fun w1 hb1 hc1 hf1=>?_
    go_wp2_with fail
    go_roundw
    case rel=>exact ⟨k+1,by omega,by go_num,by rw [take_snoc_some zy.out];simp only [List.mem_append,List.mem_singleton,not_or];exact ⟨HP.out,J0.out⟩,bt_ hB hb1,vY.out.ext hb1⟩
    case measure=>exact ms_
  ·obtain rfl:n=k:=by omega
   go_wp2_with fail
   go_ret
   refine ⟨ret_bool ?_,hB⟩
   rw [<- HV.out]
   symm
   apply decide_eq_false
   have h:=HP.out
   rwa [List.take_of_length_le (by rw [HL.out];exact lr_)] at h
end Go.Proofs.YtmcmbicapdcfmaaGreat
namespace Go.Proofs.YtmcmbicapdcfmaaGreat
open Go.RowKit Go.Maps
theorem p_CheckT (l:Led) (x:Lsl) (w:World) (hf:x.fit) (hd:LedIn w w.heap.size x l) (hl:ledB l=true) :
 Calls Tryz.prog 12 #[.agg #[.slice x.pA x.pn x.pc,.slice x.rA x.rn x.rc,.slice x.tA x.tn x.tc,.slice x.sA x.sn x.sc]] w fun e w'=>e=.returned (.int .i64 0)/\Below w.heap.size w w':=by
 have q3:maxLen<=9223372036854775807:=by decide
 have h:=p_Check l x w (by have:=hf.p;omega) (by have:=hf.r;omega) (by have:=hf.t;omega) (by have:=hf.s;omega) hd
 rw [hl] at h
 exact h
theorem p_CheckTrueT (l:Led) (x:Lsl) (kn:Int) (days:List Int) (D:Option Addr) (m c0:Nat) (w:World) (hf:x.fit) (hd:LedIn w w.heap.size x l) (hm:m<=9223372036854775807) (hdy:Is w w.heap.size D m days) (h:checkTrueX l kn days=0) :
 Calls Tryz.prog 13 #[.agg #[.slice x.pA x.pn x.pc,.slice x.rA x.rn x.rc,.slice x.tA x.tn x.tc,.slice x.sA x.sn x.sc],.int .i64 kn,.slice D m c0] w fun e w'=>e=.returned (.int .i64 0)/\Below w.heap.size w w':=by
 have hc:=p_CheckTrue l x kn days D m c0 w hf hd hm hdy
 rw [h] at hc
 exact hc
theorem p_PlacedT (l:Led) (x:Lsl) (days:List Int) (D:Option Addr) (m c0:Nat) (pap day kn:Int) (p:List Int) (v:Int) (w:World) (hf:x.fit) (hd:LedIn w w.heap.size x l) (hm:m<=9223372036854775807) (hdy:Is w w.heap.size D m days) (h:placedX l days pap day kn=(p,v)) :
 Calls Tryz.prog 14 #[.agg #[.slice x.pA x.pn x.pc,.slice x.rA x.rn x.rc,.slice x.tA x.tn x.tc,.slice x.sA x.sn x.sc],.slice D m c0,.int .i64 pap,.int .i64 day,.int .i64 kn] w (RetLE (p,v) w):=h ▸ p_PlacedX l x days D m c0 pap day kn w hf hd hm hdy
theorem p_HasT (l:Led) (x:Lsl) (per day kn:Int) (p:List (Int × Int)) (v:Int) (w:World) (hf:x.fit) (hd:LedIn w w.heap.size x l) (h:leavesX (fun f=>decide (whL l kn day f=[per])) l per day kn=(p,v)) :
 Calls Tryz.prog 15 #[.agg #[.slice x.pA x.pn x.pc,.slice x.rA x.rn x.rc,.slice x.tA x.tn x.tc,.slice x.sA x.sn x.sc],.int .i64 per,.int .i64 day,.int .i64 kn] w (RetFE (p,v) w):=h ▸ p_HasX l x per day kn w hf hd
theorem p_MayT (l:Led) (x:Lsl) (per day kn:Int) (p:List (Int × Int)) (v:Int) (w:World) (hf:x.fit) (hd:LedIn w w.heap.size x l) (h:leavesX (fun f=>decide (per∈whL l kn day f)) l per day kn=(p,v)) :
 Calls Tryz.prog 16 #[.agg #[.slice x.pA x.pn x.pc,.slice x.rA x.rn x.rc,.slice x.tA x.tn x.tc,.slice x.sA x.sn x.sc],.int .i64 per,.int .i64 day,.int .i64 kn] w (RetFE (p,v) w):=h ▸ p_MayX l x per day kn w hf hd
theorem p_WhereT (l:Led) (x:Lsl) (pap leaf day kn:Int) (p:List Int) (v:Int) (w:World) (hf:x.fit) (hd:LedIn w w.heap.size x l) (qy:(Lit.int .i64 leaf).wf=true) (h:whereX l pap leaf day kn=(p,v)) :
 Calls Tryz.prog 17 #[.agg #[.slice x.pA x.pn x.pc,.slice x.rA x.rn x.rc,.slice x.tA x.tn x.tc,.slice x.sA x.sn x.sc],.agg #[.int .i64 pap,.int .i64 leaf],.int .i64 day,.int .i64 kn] w (RetLE (p,v) w):=h ▸ p_WhereX l x pap leaf day kn w hf hd qy
theorem folL9:(folL mPp).length=9:=by decide
set_option maxRecDepth 100000 in
theorem w_LoanTrue (x:Rsl) (r:RawL) (n0 n1 n2:Int) (w:World) (hf:x.fit) (hd:RawIn w x r) :
 Calls Tryz.prog 3 #[.agg #[.slice x.aA x.an x.ac,.slice x.bA x.bn x.bc,.slice x.cA x.cn x.cc],.agg #[.int .i64 n0,.int .i64 n1,.int .i64 n2]] w fun e w'=>e=.returned (.bool true)/\Below w.heap.size w w':=by
 obtain ⟨aA,an,ac,bA,bn,bc,cA,cn,cc⟩:=x
 have HF:=hd_ hf
 have HD:=hd_ hd
 clear hf hd
 obtain ⟨day,v3,Zv⟩:=mod_nat n0 (m:=220) (by decide)
 obtain ⟨m,hm,Vq⟩:=mod_nat n1 (m:=3) (by decide)
 obtain ⟨per,kY,ZX⟩:=mod_nat n2 (m:=5) (by decide)
 obtain ⟨p,hp,KQ,yq,yX,zu,z4⟩:=pp_at Vq
 have U5:=hd_ v3
 have M8:=hd_ hm
 have Q6:=hd_ kY
 clear v3 hm kY
 have qQ:=hd_ (box2 w 25 26 #[.slice aA an ac,.slice bA bn bc,.slice cA cn cc] #[.int .i64 n0,.int .i64 n1,.int .i64 n2]).2
 go_enter Tryz.func3,Tryz.ntmps3
 go_wp2_with fail
 refine (r_Honest ⟨aA,an,ac,bA,bn,bc,cA,cn,cc⟩ r _ HF.out (HD.out.now (by exact bel_))).mono ?_
 rintro e wm ⟨y,l,days,DD,dc,rfl,hb1,K4,hl,hM,jx,kv,uY⟩
 obtain ⟨pA,pn,pc,rA,rn,rc,tA,tn,tc,sA,sn,sc⟩:=y
 have HB1:Below w.heap.size w wm:=bt_ (by exact bel_) hb1
 have K7:=qQ.out.ext hb1
 have xJ:days.length<=9223372036854775807:=by have:=kv;have:=uY;unfold maxLen at *;omega
 obtain ⟨dn,qX⟩:∃ n,days.length=n:=⟨_,rfl⟩
 rw [qX] at jx kv xJ ⊢
 have M7:=hd_ hl
 have k5:=hd_ K4
 have HM:=hd_ hM
 have Q1:=hd_ jx
 clear hl K4 hb1 hM jx qX kv uY
 go_upto_region 2 with fail
 refine wp_named2 fun f2 W2 hf2 q6=>?_
 have g9:BoxA W2 wm.heap.size 32 #[.slice pA pn pc,.slice rA rn rc,.slice tA tn tc,.slice sA sn sc]:=by rw [<- q6];exact BoxA.new _ _ _
 have jq:Below wm.heap.size wm W2:=by rw [<- q6];exact bel_
 have gv:Hid (Below w.heap.size w W2):=by show Below _ _ _;exact bt_ HB1 jq
 have KX:=hd_ (M7.out.now jq)
 have kX:=hd_ g9
 have gy:=hd_ (K7.ext jq)
 have y6:Hid (Is W2 W2.heap.size DD dn days):=by show Is _ _ _ _ _;exact Q1.out.now jq
 have z5:Pps W2 W2.heap.size pA pn mPp:=by have h:=KX.out.p;rwa [HM.out.pp] at h
 have J5:pn=3:=z5.len.symm
 subst J5
 obtain ⟨gb,go,p',hA,Vj,KY,hc0,hc1⟩:=z5.at_ (k:=m) (by omega)
 obtain rfl:p=p':=Option.some.inj (hp.symm.trans KY)
 obtain ⟨pid,plv⟩:=p
 dsimp only at yq yX zu z4 hc0 hc1
 obtain ⟨pl,rfl⟩:∃ n:Nat,plv=(n:Int):=⟨plv.toNat,by omega⟩
 subst hA
 have Mj:Hid (∀ j u,(ppC ⟨pid,(pl:Int)⟩)[j]?=some u->W2.cell? ⟨gb,go+m*2+j,none⟩=some u):=by
  show ∀ _,_
  intro j u hu
  match j,hu with
  | 0,hu=>simp at hu;subst hu;simpa using hc0
  | 1,hu=>simp at hu;subst hu;exact hc1
 have xj:=hd_ KQ
 have kN:=gy.out.cell
 have zN:=gy.out.lt
 clear q6 M7 jq g9 K7 hp KY KQ z5 hc0 hc1 Q1 qQ HB1
 subst hf2
 go_upto_region 3 with ((go_at_call 11;refine (r_Mod_v n0 220 day _ (by decide) (by decide) U5.out).mono ?_;rintro e w6 ⟨rfl,rfl⟩))
 clear kN zN
 go_cut [8] (fun c wx=>∃ B,c=.pointer (some ⟨B,0,none⟩)/\W2.heap.size<=B/\Below W2.heap.size W2 wx/\BoxA wx B 38 #[.int .i64 pid,.int .i64 (pl:Int)])
 case first =>
  (refine wp_region_sink_lit (S:=KE (w.heap.size+1) wm.heap.size #[.int .i64 n0,.int .i64 n1,.int .i64 n2] #[.slice (some ⟨gb,go,none⟩) 3 pc,.slice rA rn rc,.slice tA tn tc,.slice sA sn sc] gb (go+m*2) (ppC ⟨pid,(pl:Int)⟩)) 8 (by kernel_rfl) rfl rfl (by kernel_rfl) (by kernel_rfl) ⟨⟨gy.out.cell,kX.out.cell,gy.out.lt,kX.out.lt⟩,Vj,Mj.out⟩ (fun hS=>?_);simp only [List.take_succ_cons,List.take_zero,List.reduceReplicate,Array.replicate_succ,Array.replicate_zero])
  refine wpAnyH_abs (fun _ _ _ _ _ h=>h) (by kernel_rfl) (fun L Q HL HQ HP HN=>?_)
  refine wpAnyH_takeL (i:=0) (v:=?_) HL HP HN rfl (by kernel_rfl) (by kernel_rfl) rfl ?_ hS ?_;rotate_left;focus (intro w2 hw2;obtain ⟨⟨x1,x2,z1,z2⟩,z3,g7⟩:=hw2;have g0:=g7 0 _ rfl;have g1:=g7 1 _ rfl;simp only [Nat.add_zero] at g0;clear g7;go_simp;first | done | with_reducible rfl);(try simp only [Act.put,pu1,pu2,pu3])
  refine wpAnyH_takeL (i:=1) (v:=?_) HL HP HN rfl (by kernel_rfl) (by kernel_rfl) rfl ?_ hS ?_;rotate_left;focus (intro w2 hw2;obtain ⟨⟨x1,x2,z1,z2⟩,z3,g7⟩:=hw2;have g0:=g7 0 _ rfl;have g1:=g7 1 _ rfl;simp only [Nat.add_zero] at g0;clear g7;go_simp;first | done | with_reducible rfl);(try simp only [Act.put,pu1,pu2,pu3])
  refine wpAnyH_takeL (i:=2) (v:=?_) HL HP HN rfl (by kernel_rfl) (by kernel_rfl) rfl ?_ hS ?_;rotate_left;focus (intro w2 hw2;obtain ⟨⟨x1,x2,z1,z2⟩,z3,g7⟩:=hw2;have g0:=g7 0 _ rfl;have g1:=g7 1 _ rfl;simp only [Nat.add_zero] at g0;clear g7;go_simp;first | done | with_reducible rfl);(try simp only [Act.put,pu1,pu2,pu3])
  refine wpAnyH_takeL (i:=3) (v:=?_) HL HP HN rfl (by kernel_rfl) (by kernel_rfl) rfl ?_ hS ?_;rotate_left;focus (intro w2 hw2;obtain ⟨⟨x1,x2,z1,z2⟩,z3,g7⟩:=hw2;have g0:=g7 0 _ rfl;have g1:=g7 1 _ rfl;simp only [Nat.add_zero] at g0;clear g7;go_simp;first | done | with_reducible rfl);(try simp only [Act.put,pu1,pu2,pu3])
  refine wpAnyH_readyL (rs:=[4,7]) HL (by kernel_rfl) (by simp) ?_
  refine AllReadyH.consL HL rfl rfl (fun K hK=>?_) (AllReadyH.consL HL rfl rfl (fun K hK=>?_) AllReadyH.nil)
  rotate_left
  focus
   go_simp
   refine hK.out _ _ (KE.ext ((Below.refl _ _).alloc lr_ _) hS) (fun hS=>?_)
   clear hK K
   (try simp only [Act.put,pu1,pu2,pu3])
   refine wpAnyH_readyL (rs:=[4]) HL (by kernel_rfl) (by simp) ?_
   refine AllReadyH.consL HL rfl rfl (fun K hK=>?_) AllReadyH.nil
  rotate_left
  all_goals
   (go_simp;go_at_call 11;refine (r_Mod_v n1 3 m _ (by decide) (by decide) M8.out).mono ?_;rintro e w6 ⟨rfl,rfl⟩;go_simp)
   refine hK.out _ _ hS (fun hS=>?_)
   clear hK K
   (try simp only [Act.put,pu1,pu2,pu3])
   refine wpAnyH_takeL (i:=5) (v:=?_) HL HP HN rfl (by kernel_rfl) (by kernel_rfl) rfl ?_ hS ?_;rotate_left;focus (intro w2 hw2;obtain ⟨⟨x1,x2,z1,z2⟩,z3,g7⟩:=hw2;have g0:=g7 0 _ rfl;have g1:=g7 1 _ rfl;simp only [Nat.add_zero] at g0;clear g7;go_simp;first | done | with_reducible rfl);(try simp only [Act.put,pu1,pu2,pu3])
   refine wpAnyH_takeL (i:=6) (v:=?_) HL HP HN rfl (by kernel_rfl) (by kernel_rfl) rfl ?_ hS ?_;rotate_left;focus (intro w2 hw2;obtain ⟨⟨x1,x2,z1,z2⟩,z3,g7⟩:=hw2;have g0:=g7 0 _ rfl;have g1:=g7 1 _ rfl;simp only [Nat.add_zero] at g0;clear g7;go_simp;first | done | with_reducible rfl);(try simp only [Act.put,pu1,pu2,pu3])
  focus
   refine wpAnyH_readyL (rs:=[7]) HL (by kernel_rfl) (by simp) ?_
   refine AllReadyH.consL HL rfl rfl (fun K hK=>?_) AllReadyH.nil
   go_simp
   refine hK.out _ _ (KE.ext ((Below.refl _ _).alloc lr_ _) hS) (fun hS=>?_)
   clear hK K
   (try simp only [Act.put,pu1,pu2,pu3])
  all_goals
   refine wpAnyH_doneL HL HQ (by kernel_rfl) ?_ _
   simp only [sinkQ]
   go_simp
   go_wp2
   go_meet
   exact ⟨_,rfl,lr_,by exact bel_,BoxA.new _ _ _⟩
 case rest =>
 obtain ⟨BP,rfl,Zx,h3,bP⟩:=hcut
 obtain ⟨W3,rfl⟩:∃ W3:World,W3=wc:=⟨_,rfl⟩
 have QQ:=h3.size
 have z7:=gy.out.ext h3
 have kN:=z7.cell
 have zN:=z7.lt
 have X1:Hid (Below w.heap.size w W3):=by show Below _ _ _;exact bt_ gv.out h3
 have q4:=hd_ (KX.out.now h3)
 have gq:=hd_ (kX.out.ext h3)
 have kJ:=hd_ (y6.out.now h3)
 have qJ:=hd_ bP
 have Kv:Hid (ledB l=true):=by show _=_;exact HM.out.led
 have u6:(0:Int)<=(day:Int)/\(day:Int)<=100000:=⟨by omega,by omega⟩
 obtain ⟨WL,xq⟩:∃ q,(List.range (pl:Int).toNat).map (whoP l 900 day pid days)=q:=⟨_,rfl⟩
 have U1:Hid (placedX l days pid day 900=(WL,0)):=by show _=_;rw [<- xq];exact HM.out.placed xj.out u6
 have K5:WL.length=pl:=by rw [<- xq];simp
 obtain ⟨hl_,x5⟩:∃ q,(folL mPp).filter (fun f=>decide (whL l 900 day f=[(per:Int)]))=q:=⟨_,rfl⟩
 obtain ⟨ml_,q3⟩:∃ q,(folL mPp).filter (fun f=>decide ((per:Int)∈whL l 900 day f))=q:=⟨_,rfl⟩
 have Uy:Hid (leavesX (fun f=>decide (whL l 900 day f=[(per:Int)])) l per day 900=(hl_,0)):=by show _=_;rw [<- x5];exact HM.out.leaves _ u6 ⟨by omega,by omega⟩
 have Q9:Hid (leavesX (fun f=>decide ((per:Int)∈whL l 900 day f)) l per day 900=(ml_,0)):=by show _=_;rw [<- q3];exact HM.out.leaves _ u6 ⟨by omega,by omega⟩
 have ZY:hl_.length<=9:=by rw [<- x5,<- folL9];exact List.length_filter_le _ _
 have Z5:ml_.length<=9:=by rw [<- q3,<- folL9];exact List.length_filter_le _ _
 have X3:=hd_ x5
 have Q8:=hd_ q3
 have Y5:=hd_ xq
 have UJ:=hd_ K5
 clear h3 bP z7 x5 q3 xq K5 gy Mj
 go_upto_region 5 with ((go_at_call 11;refine (r_Mod_v n2 5 per _ (by decide) (by decide) Q6.out).mono ?_;rintro e w6 ⟨rfl,rfl⟩))
 clear kN zN
 have kL:=gq.out.cell
 have zL:=gq.out.lt
 go_wp2_with fail
 refine (p_CheckT l _ _ k5.out (q4.out.now (by exact bel_)) Kv.out).mono ?_
 rintro e W4 ⟨rfl,qu⟩
 have Y7:=qu.size
 have j9:Below W3.heap.size W3 W4:=bt_ (by exact bel_) qu
 clear kL zL qu
 have kq:=hd_ (gq.out.ext j9)
 have kL:=kq.out.cell
 have zL:=kq.out.lt
 go_wp2_with fail
 refine (p_CheckTrueT l _ 900 days DD dn dc _ k5.out (q4.out.now (bt_ j9 (by exact bel_))) xJ (kJ.out.now (bt_ j9 (by exact bel_))) HM.out.check).mono ?_
 rintro e W5 ⟨rfl,gx⟩
 have Q0:=gx.size
 have qj:Below W3.heap.size W3 W5:=bt_ j9 (bt_ (by exact bel_) gx)
 clear kL zL gx
 have k3:=hd_ (gq.out.ext qj)
 have kQ:=hd_ (qJ.out.ext qj)
 have kL:=k3.out.cell
 have zL:=k3.out.lt
 have kP:=kQ.out.cell
 have zP:=kQ.out.lt
 go_wp2_with fail
 refine (p_PlacedT l _ days DD dn dc pid day 900 WL 0 _ k5.out (q4.out.now (bt_ qj (by exact bel_))) xJ (kJ.out.now (bt_ qj (by exact bel_))) U1.out).mono ?_
 rintro e W6 ⟨AW,nW,cW,rfl,gJ,zv,-⟩
 have JJ:=gJ.size
 have v7:Below W3.heap.size W3 W6:=bt_ qj (bt_ (by exact bel_) gJ)
 obtain rfl:pl=nW:=by rw [<- UJ.out];exact zv.len
 have u2:Hid (Is W6 W6.heap.size AW pl WL):=by show Is _ _ _ _ _;exact zv
 clear kL zL kP zP gJ zv
 have k2:=hd_ (gq.out.ext v7)
 have kL:=k2.out.cell
 have zL:=k2.out.lt
 go_wp2_with fail
 refine (p_HasT l _ per day 900 hl_ 0 _ k5.out (q4.out.now (bt_ v7 (by exact bel_))) Uy.out).mono ?_
 rintro e W7 ⟨AH,nH,cH,rfl,jy,MJ,xQ⟩
 have V6:=jy.size
 have y5:Below W6.heap.size W6 W7:=bt_ (by exact bel_) jy
 have x8:Below W3.heap.size W3 W7:=bt_ v7 y5
 have V9:nH<=1000000:=by rw [<- xQ];dsimp only;omega
 have uj:Hid (Sq QF 2 W7 W7.heap.size AH nH hl_):=by show Sq _ _ _ _ _ _ _;exact sq_of_own MJ xQ
 have u8:=hd_ (u2.out.now y5)
 clear kL zL jy MJ xQ u2 y5
 have ky:=hd_ (gq.out.ext x8)
 have kL:=ky.out.cell
 have zL:=ky.out.lt
 go_wp2_with fail
 refine (p_MayT l _ per day 900 ml_ 0 _ k5.out (q4.out.now (bt_ x8 (by exact bel_))) Q9.out).mono ?_
 rintro e W8 ⟨AM,nM,cM,rfl,gY,j7,J1⟩
 have Ky:=gY.size
 have vq:Below W7.heap.size W7 W8:=bt_ (by exact bel_) gY
 have u7:Below W3.heap.size W3 W8:=bt_ x8 vq
 have Y2:nM<=1000000:=by rw [<- J1];dsimp only;omega
 have zx:Hid (Sq QF 2 W8 W8.heap.size AM nM ml_):=by show Sq _ _ _ _ _ _ _;exact sq_of_own j7 J1
 have JX:=hd_ (Sq.now uj.out abF vq)
 have J7:=hd_ (u8.out.now vq)
 have j8:Hid (Below w.heap.size w W8):=by show Below _ _ _;exact bt_ X1.out u7
 have K1:=hd_ (q4.out.now u7)
 have u9:=hd_ (gq.out.ext u7)
 have kj:=hd_ (qJ.out.ext u7)
 clear kL zL gY j7 J1 u8 uj vq j9 qj v7 x8 u7 gq kq k3 k2 ky kQ q4 kJ
 have kP:=kj.out.cell
 have zP:=kj.out.lt
 have Mx:((pl:Int) != (pl:Int))=false:=by simp
 go_wp2_with fail
 clear kP zP
 go_loopw [16] (fun i wr=>∃ k:Nat,k<=pl/\i=.int .i64 k/\Below W8.heap.size W8 wr) (fun i _=>pl - (intOf i).toNat)
 case atStart=>exact ⟨0,by omega,rfl,Below.refl _ _⟩
 case round =>
  obtain ⟨k,hk,rfl,hB⟩:=hrel
  have Q3:=hd_ hB
  have Yj:=hB.size
  have bP:=kj.out.ext hB
  have kP:=bP.cell
  have zP:=bP.lt
  clear hB bP
  by_cases hlt:k<pl
  ·have Yu:(k:Int)<(pl:Int):=by omega
   have wk:IntKind.i64.wrap ((k:Int)+1)=(k:Int)+1:=wrap_in (by omega) (by omega)
   go_upto_region 16 with fail
   refine wp_named2 fun f9 W9 hf9 y4=>?_
   have xu:BoxA W9 wr.heap.size 48 #[.int .i64 pid,.int .i64 ((k:Int)+1)]:=by rw [<- y4];exact BoxA.new _ _ _
   have h9:Below wr.heap.size wr W9:=by rw [<- y4];exact bel_
   have Yv:=h9.size
   have vJ:Below W8.heap.size W8 W9:=bt_ Q3.out h9
   have zJ:=u9.out.ext vJ
   have yj:=hd_ xu
   have Qv:=hd_ (K1.out.now vJ)
   have Vy:=hd_ vJ
   clear y4 kP zP h9 vJ
   subst hf9
   have kL:=zJ.cell
   have zL:=zJ.lt
   have kF:=xu.cell
   have zF:=xu.lt
   clear zJ xu
   obtain ⟨wl,qy⟩:∃ q,whL l 900 day (pid,(k:Int)+1)=q:=⟨_,rfl⟩
   obtain ⟨q,hq⟩:∃ q,whoF l 900 day days pid ((k:Int)+1)=q:=⟨_,rfl⟩
   have yQ:(1:Int)<=(k:Int)+1:=by omega
   have yy:(k:Int)+1<=(pl:Int):=by omega
   have z0:(Lit.int .i64 ((k:Int)+1)).wf=true:=wf_small (by omega) (by omega)
   have U4:Hid (whereX l pid ((k:Int)+1) day 900=(wl,0)):=by show _=_;rw [<- qy];exact HM.out.where_ xj.out u6 yQ yy
   have Y3:Hid (decide (q∈wl)=true):=by show _=_;rw [<- qy,<- hq];exact decide_eq_true (HM.out.whole _ _ _)
   have K6:WL[k]?=some q:=by rw [<- Y5.out,<- hq,List.getElem?_map,List.getElem?_range (by omega),Option.map_some,whoP_F]
   obtain ⟨bw,ow,q',Xy,Xq,M5,M2⟩:=J7.out.at_ hlt
   obtain rfl:q=q':=Option.some.inj (K6.symm.trans M5)
   subst Xy
   have v9:Hid (∀ W:World,Below W8.heap.size W8 W->W.cell? ⟨bw,ow+k,none⟩=some (.int .i64 q)):=by
    show ∀ _,_
    exact fun W hW=>(hW.cell (p:=⟨bw,ow+k,none⟩) Xq).trans M2
   obtain ⟨hb_,x0⟩:∃ b,decide ((pid,(k:Int)+1)∈hl_)=b:=⟨_,rfl⟩
   obtain ⟨mb_,J4⟩:∃ b,decide ((pid,(k:Int)+1)∈ml_)=b:=⟨_,rfl⟩
   have hH:hb_=true->q=(per:Int):=fun hh=>by
    rw [hh] at x0
    have h1:=of_decide_eq_true x0
    rw [<- X3.out] at h1
    rw [<- hq]
    exact HM.out.hasIn xj.out yQ yy h1
   have Kj:q=(per:Int)->mb_=true:=fun hh=>by
    rw [<- J4]
    refine decide_eq_true ?_
    rw [<- Q8.out]
    exact HM.out.mayIn xj.out yQ yy (hq.trans hh)
   have Q2:q≠0->∃ p r v,lastK 900 pid ((k:Int)+1) day l.rc l.rc.length=some p/\l.rc[p.1]?=some r/\r.bor=q/\liesX l r.src day 900=(v,0)/\v≠0:=fun hh=>by
    obtain ⟨p,r,a1,a2,a3,v,a4,a5⟩:=HM.out.lies (pap:=pid) (leaf:=(k:Int)+1) u6 (by rw [hq];exact hh)
    exact ⟨p,r,v,a1,a2,a3.trans hq,a4,a5⟩
   have XX:=hd_ x0
   have UQ:=hd_ J4
   have Y4:=hd_ hH
   have VQ:=hd_ Kj
   have zQ:=hd_ Q2
   clear qy hq K6 M5 M2 x0 J4 hH Kj Q2
   go_wp2_with fail
   refine (p_WhereT l _ pid ((k:Int)+1) day 900 wl 0 _ k5.out (Qv.out.now (by exact bel_)) z0 U4.out).mono ?_
   rintro e V1 ⟨AX,nX,cX,rfl,hb1,MY,xX⟩
   have vu:Below W9.heap.size W9 V1:=bt_ (by exact bel_) hb1
   have V0:=vu.size
   have Mv:Below W8.heap.size W8 V1:=bt_ Vy.out vu
   have Vu:nX<=9223372036854775807:=by have:=xX.1;have:=xX.2;unfold maxLen at *;omega
   have Vv:Hid (Is V1 V1.heap.size AX nX wl):=by show Is _ _ _ _ _;exact MY
   have q2:=hd_ (yj.out.ext vu)
   have z8:=hd_ Mv
   clear kL zL kF zF hb1 MY xX vu Mv
   have ew:=v9.out V1 z8.out
   have Uv:bw<V1.heap.size:=by have:=z8.out.size;omega
   have kF:=q2.out.cell
   have zF:=q2.out.lt
   have hc:(((q != (per:Int))=false/\(q == (per:Int))=true)/\mb_=true/\(hb_=true\/hb_=false))\/(((q != (per:Int))=true/\(q == (per:Int))=false)/\hb_=false/\(mb_=true\/mb_=false)):=by
    by_cases hqp:q=(per:Int)
    ·exact .inl ⟨by simp [hqp],VQ.out hqp,by cases hb_ <;> simp⟩
    ·refine .inr ⟨by simp [hqp],?_,by cases mb_ <;> simp⟩
     cases hb_ with
     | true=>exact absurd (Y4.out rfl) hqp
     | false=>rfl
   rcases hc with ⟨⟨hqe,hqe2⟩,rfl,rfl | rfl⟩ | ⟨⟨hqe,hqe2⟩,rfl,rfl | rfl⟩
   all_goals (
   go_wp2_with fail
   refine (r_Has2_v wl q true AX nX cX _ Vu (Vv.out.now (by exact bel_)) Y3.out).mono ?_
   rintro e V2 ⟨rfl,gu⟩
   have jq:Below V1.heap.size V1 V2:=bt_ (by exact bel_) gu
   have YJ:=jq.size
   have jY:=q2.out.ext jq
   have x4:Below W8.heap.size W8 V2:=bt_ z8.out jq
   clear kF zF gu ew
   have kF:=jY.cell
   have zF:=jY.lt
   have ew:=v9.out V2 x4
   have VX:bw<V2.heap.size:=by omega
   go_wp2_with fail
   refine (w_among hl_ pid ((k:Int)+1) _ AH nH cH _ V9 (Sq.now JX.out abF (bt_ x4 (by exact bel_))) XX.out).mono ?_
   rintro e V3 ⟨rfl,vv⟩
   have zY:Below V2.heap.size V2 V3:=bt_ (by exact bel_) vv
   have Z3:=zY.size
   have vj:=jY.ext zY
   have x7:Below W8.heap.size W8 V3:=bt_ x4 zY
   clear kF zF vv ew jY
   have kF:=vj.cell
   have zF:=vj.lt
   have ew:=v9.out V3 x7
   have X0:bw<V3.heap.size:=by omega
   go_wp2_with fail
   refine (w_among ml_ pid ((k:Int)+1) _ AM nM cM _ Y2 (Sq.now zx.out abF (bt_ x7 (by exact bel_))) UQ.out).mono ?_
   rintro e V4 ⟨rfl,qu⟩
   have j9:Below V3.heap.size V3 V4:=bt_ (by exact bel_) qu
   have Z9:=j9.size
   have xY:=vj.ext j9
   have v6:Below W8.heap.size W8 V4:=bt_ x7 j9
   clear kF zF qu ew vj
   have z9:=u9.out.ext v6
   have kL:=z9.cell
   have zL:=z9.lt
   have kF:=xY.cell
   have zF:=xY.lt
   have ew:=v9.out V4 v6
   have Q7:bw<V4.heap.size:=by omega
   have Jv:=hd_ v6
   clear j9 x7 v6 x4 xY z9
   by_cases qx:q=0
   ·have Qj:(q != 0)=false:=by simp [qx]
    clear qx
    go_wp2_with fail
    refine rg_ ?_;(repeat (go_big_quiet_step (fail)));refine qn_ fun w1 hb1 hc1 hf1=>?_
    go_wp2_with fail
    go_roundw
    case rel=>exact ⟨k+1,by omega,by go_num,bt_ Jv.out hb1⟩
    case measure=>exact ms_
   ·have Qj:(q != 0)=true:=by simpa using qx
    obtain ⟨px,rx,vx,a1,a2,a3,a4,a5⟩:=zQ.out qx
    have QX:=hd_ a1
    have QY:=hd_ a2
    have Y0:=hd_ a3
    have V7:=hd_ a4
    have X4:=hd_ a5
    clear a1 a2 a3 a4 a5
    go_wp2_with fail
    refine rg_ ?_;(repeat (go_big_quiet_step ((go_at_call_of 20 (Value.agg #[.slice (some ⟨gb,go,none⟩) 3 pc,.slice rA rn rc,.slice tA tn tc,.slice sA sn sc]);exact Calls.grow_all (fun g=>w_lies l ⟨some ⟨gb,go,none⟩,3,pc,rA,rn,rc,tA,tn,tc,sA,sn,sc⟩ pid ((k:Int)+1) q day vx px rx g.1 k5.out ((K1.out.now Jv.out).now g.2) (led_ok Kv.out) (fun u hu=>HM.out.cnt hu) QX.out QY.out Y0.out V7.out X4.out)))));refine qn_ fun w1 hb1 hc1 hf1=>?_
    go_wp2_with fail
    go_roundw
    case rel=>exact ⟨k+1,by omega,by go_num,bt_ Jv.out hb1⟩
    case measure=>exact ms_)
  ·obtain rfl:pl=k:=by omega
   go_wp2_with fail
   refine (r_sane2 _).mono ?_
   rintro e w9 ⟨rfl,VY⟩
   go_wp2_with fail
   go_ret
   exact ⟨rfl,bt_ (bt_ j8.out Q3.out) VY⟩
end Go.Proofs.YtmcmbicapdcfmaaGreat
namespace Go.Proofs.YtmcmbicapdcfmaaGreat
open Go.ChangeShapes Go.WideShapes Go.ChangeAt Go.RowKit Go.Deep Go.Joins Go.Maps
theorem okWide_arr2 {P:Program} {w:World} {r:Reach} {b0:Nat} {v:Value} {t e:TypeId} {n:Nat} (ht:P.underlying t=some (.array n e)) (h:Value.okWide P w r b0 t v):∃ cs,v=.agg cs:=by
 simp only [Value.okWide,ht] at h
 obtain ⟨cs,h1,_⟩:=h
 exact ⟨cs,h1⟩
section
variable {H:Type} {enc:TypeId × Value->H} {w:World} {jv:Nat} {spare:Nat->Bool} {held:Bool} {r:Reach} {b0:Nat} {v:Value} {d:DataW H} {p:List MemPlace} {fuel:Nat} {cs:List Value} {x:DataW H × List MemPlace}
end
end Go.Proofs.YtmcmbicapdcfmaaGreat
namespace Go.Proofs.YtmcmbicapdcfmaaGreat
open Go.ChangeShapes Go.WideShapes Go.ChangeAt Go.RowKit Go.Deep Go.Joins Go.Maps
theorem c3_three3:Tryz.prog.cellsOf 26=3:=by kernel_rfl
section
variable {H:Type} {enc:TypeId × Value->H} {w:World} {jv:Nat} {spare:Nat->Bool} {held:Bool} {r:Reach} {b0:Nat} {v:Value} {d:DataW H} {p:List MemPlace}
set_option maxRecDepth 100000 in
theorem three_of (hv:Value.okWide Tryz.prog w r b0 26 v) (h:DataW.Trod enc Tryz.prog w jv spare held 26 v d p):∃ a b c:Int,v=.agg #[.int .i64 a,.int .i64 b,.int .i64 c]:=by
 obtain ⟨cs,rfl⟩:=okWide_arr2 Tryz.underlying26 hv
 obtain ⟨fuel,hf0⟩:=h
 simp only [Value.cells] at hf0
 obtain ⟨xs,n,_,_,hl,hx,hf⟩:=DataW.trod_array Tryz.underlying26 hf0
 rw [c3_three3] at hl
 obtain ⟨y0,e0⟩:=some_at hx (i:=0) (by decide)
 obtain ⟨y1,e1⟩:=some_at hx (i:=1) (by decide)
 obtain ⟨y2,e2⟩:=some_at hx (i:=2) (by decide)
 obtain ⟨c0,c1,c2,MX⟩:=lenx3 hl
 rw [MX] at hf
 obtain ⟨a0,h0⟩:=int_of ((hf 0 (by decide)).trans e0)
 obtain ⟨a1,h1⟩:=int_of ((hf 1 (by decide)).trans e1)
 obtain ⟨a2,h2⟩:=int_of ((hf 2 (by decide)).trans e2)
 simp [c1_int] at h0 h1 h2
 refine ⟨a0,a1,a2,?_⟩
 congr 1
 apply Array.toList_inj.1
 rw [MX]
 simp [h0,h1,h2]
end
end Go.Proofs.YtmcmbicapdcfmaaGreat
namespace Go.Proofs.YtmcmbicapdcfmaaGreat.RowLoanTrue
open Go.ChangeShapes Go.WideShapes Go.ChangeAt Go.RowKit
open Go.Proofs.YtmcmbicapdcfmaaGreat
set_option maxRecDepth 100000 in
theorem lifted (os:Os) (started:os.Started) (H:Type) (enc:TypeId × Value->H) :
 ReturnsInHanded {} Tryz.checked os 3 .any (Rows.loanTrueSpec.pre6 enc Tryz.prog Tryz.f3 Rows.loanTrueRow.domain false) (Rows.loanTrueSpec.post enc Tryz.prog Tryz.f3 false true false false):=by
 refine returnsInHanded_of_change (C:=Tryz.checked) own started (by kernel_rfl) Tryz.func3
  (ChangeSpec.witness6 (enc:=enc) (C:=Tryz.checked) false ⟨#[],#[.agg #[.slice none 0 0,.slice none 0 0,.slice none 0 0],.agg #[.int .i64 0,.int .i64 0,.int .i64 0]],[]⟩ 8 (by kernel_rfl) (by kernel_rfl) (by kernel_rfl) (by kernel_rfl)) ?_
 intro W jv args ds gs zj jQ hW XQ _
 have k9:∀ (j:Nat) t v,Tryz.f3.params[j]?=some t->args[j]?=some v->Value.okWide Tryz.prog W .any jv t v:=jQ
 have V5:=hW
 obtain ⟨p,q,M9,hV,rfl,Z8,Y8⟩:=hW
 have hA:DataW.TrodAll enc Tryz.prog W 0 (fun _=>true) true Tryz.f3.params.toList args.toList ds p:=M9
 rw [Tryz.params3] at hA k9
 obtain ⟨v0,vs0,d0,ds0,p0,q0,JY,rfl,rfl,h0,r0⟩:=trodAll_cons hA
 obtain ⟨v1,vs1,d1,ds1,p1,q1,rfl,rfl,rfl,h1,r1⟩:=trodAll_cons r0
 obtain ⟨rfl,rfl,rfl⟩:=trodAll_nil r1
 obtain rfl:args=#[v0,v1]:=by cases args;simp_all
 obtain ⟨rfl,rfl⟩:=trodVars_none hV
 have k0:=h0
 have lt0:∀ x∈p0,x.block<W.heap.size:=by obtain ⟨m,hm⟩:=k0;exact DataW.trod_lt m _ _ _ hm
 obtain ⟨y0,l0,rfl,f0,w0⟩:=raw_of (k9 0 25 v0 rfl rfl) h0
 have k1:=h1
 have lt1:∀ x∈p1,x.block<W.heap.size:=by obtain ⟨m,hm⟩:=k1;exact DataW.trod_lt m _ _ _ hm
 obtain ⟨x10,x11,x12,rfl⟩:=three_of (k9 1 26 v1 rfl rfl) h1
 clear M9 jQ
 refine (w_LoanTrue y0 l0 x10 x11 x12 W f0 w0).mono fun e W' ⟨he,Jj⟩=>?_
 subst he
 exact ⟨_,rfl,_,_,_,[],_,[],V5,trodAll_mk1 (shut_bool Tryz.underlying4 _),(trodAll_cons_mk (Below.trod laidOut (by kernel_rfl) (of_decide_eq_true (by kernel_rfl)) k0 Jj lt0) (trodAll_cons_mk (Below.trod laidOut (by kernel_rfl) (of_decide_eq_true (by kernel_rfl)) k1 Jj lt1) trodAll_mk0)),rfl,Jj.frame _,fun h=>by cases h⟩
theorem over:Rows.loanTrueRow.holds Tryz.pinned (OpenSpec.ofChange Rows.loanTrueSpec) :=
 OpenClaim.holds_of_wide 3 Tryz.f3 rfl rfl rfl rfl rfl rfl rfl ⟨rfl,rfl,rfl,rfl,rfl⟩ rfl rfl rfl rfl rfl (by kernel_rfl) Tryz.func3 (by kernel_rfl)
  (of_decide_eq_true (by kernel_rfl)) (by unfold Func.isWrapper;first | (rw [if_pos (by decide +kernel)];kernel_rfl) | (rw [if_neg (by decide +kernel)];exact ⟨rfl,rfl⟩))
  (fun os started H enc _=>lifted os started H enc)
theorem proved:Rows.LoanTrueSaid:=over
end Go.Proofs.YtmcmbicapdcfmaaGreat.RowLoanTrue
namespace Go.Proofs.YtmcmbicapdcfmaaGreat
theorem loanTrue_holds:Rows.LoanTrueSaid:=RowLoanTrue.proved
end Go.Proofs.YtmcmbicapdcfmaaGreat
