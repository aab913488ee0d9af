/- Layer 2 of the texts that LoanPlaces takes: Pbqq. -/
import Derived.Test.YtoiompoapikkbaaGreatPbpq
set_option linter.unusedVariables false
set_option linter.unusedSimpArgs false
set_option maxHeartbeats 16000000
namespace Go.Proofs.YtoiompoapikkbaaGreat
open Go.RowKit Go.Maps
theorem r_soundE (l:Led) (x:Lsl) (kn v:Int) (w:World) (hl:ledB l=true) (hd:LedIn w w.heap.size x l) (hv:setE l kn=v) :
 Calls Tryz.prog 113 #[.agg #[.slice x.pA x.pn x.pc,.slice x.rA x.rn x.rc,.slice x.tA x.tn x.tc,.slice x.sA x.sn x.sc],.int .i64 kn] w (fun e w'=>∃ B Tc AD nD cD,e=.returned (.tuple #[.agg #[.slice x.pA x.pn x.pc,.slice x.rA x.rn x.rc,.slice x.tA x.tn x.tc,.slice x.sA x.sn x.sc,.int .i64 kn,.slice (some ⟨B,0,none⟩) x.tn Tc,.slice AD nD cD],.int .i64 v])∧Below w.heap.size w w'):=by
 subst hv
 rw [set_ref hl]
 cases ho:firstP (refD l (tellK l kn l.rt.length) kn) l.rc with
 | some q =>
   refine (r_soundD l x kn q w (led_ok hl) hd ho).mono ?_
   rintro e w' ⟨B,Tc,rfl,hb⟩
   exact ⟨_,_,_,_,_,rfl,hb⟩
 | none =>
   cases hR:(refL l (tellK l kn l.rt.length) kn (cntS l kn) (byL l kn)).2 with
   | false =>
     refine (r_soundC l x kn w (led_ok hl) hd ho hR).mono ?_
     rintro e w' ⟨B,Tc,rfl,hb⟩
     exact ⟨_,_,_,_,_,rfl,hb⟩
   | true =>
     refine (r_sound0 l x kn w (led_ok hl) hd ho hR).mono ?_
     rintro e w' ⟨B,Tc,A5,c5,rfl,hb,-,-,-⟩
     exact ⟨_,_,_,_,_,rfl,hb⟩
theorem r_soundZ (l:Led) (x:Lsl) (kn:Int) (w:World) (hl:ledB l=true) (hd:LedIn w w.heap.size x l) (hv:setE l kn=0) :
 Calls Tryz.prog 113 #[.agg #[.slice x.pA x.pn x.pc,.slice x.rA x.rn x.rc,.slice x.tA x.tn x.tc,.slice x.sA x.sn x.sc],.int .i64 kn] w (fun e w'=>∃ B Tc A5 c5,e=.returned (.tuple #[.agg #[.slice x.pA x.pn x.pc,.slice x.rA x.rn x.rc,.slice x.tA x.tn x.tc,.slice x.sA x.sn x.sc,.int .i64 kn,.slice (some ⟨B,0,none⟩) x.tn Tc,.slice A5 x.tn c5],.int .i64 0])∧Below w.heap.size w w'∧Sq QB 1 w' w'.heap.size (some ⟨B,0,none⟩) x.tn (tellK l kn l.rt.length)∧Sq QF 2 w' w'.heap.size A5 x.tn (setP l kn)):=by
 rw [set_ref hl] at hv
 cases ho:firstP (refD l (tellK l kn l.rt.length) kn) l.rc with
 | some q=>rw [ho] at hv;simp at hv
 | none =>
   cases hR:(refL l (tellK l kn l.rt.length) kn (cntS l kn) (byL l kn)).2 with
   | false=>rw [ho,hR] at hv;simp at hv
   | true =>
     refine (r_sound0 l x kn w (led_ok hl) hd ho hR).mono ?_
     rintro e w' ⟨B,Tc,A5,c5,rfl,hb,hT,-,hO⟩
     have htl:l.rt.length=x.tn:=hd.t.len
     rw [← setP_ref hl kn hR] at hO
     refine ⟨B,Tc,A5,c5,rfl,hb,hT.sqT (by rw [tellK_len,htl]) hT.lt,sq_of_own hO ?_⟩
     rw [setP_ref hl kn hR,refL_len,byL_len,htl]
def atK (l:Led) (kn src:Int):Nat→Option Nat
 | 0=>none
 | k+1=>if (tellK l kn l.rt.length)[k]?=some true∧(l.rt.map Rtn.src)[k]?=some src then some k else atK l kn src k
theorem atK_some {l:Led} {kn src:Int}:∀ {k i:Nat},atK l kn src k=some i→i<k∧(tellK l kn l.rt.length)[i]?=some true∧(l.rt.map Rtn.src)[i]?=some src
 | 0,i,h=>by cases h
 | k+1,i,h=>by
   rw [atK] at h
   split at h
   ·rename_i hc
    cases h
    exact ⟨Nat.lt_succ_self _,hc⟩
   ·obtain ⟨h1,h2⟩:=atK_some h
    exact ⟨Nat.lt_succ_of_lt h1,h2⟩
theorem atK_none {l:Led} {kn src:Int}:∀ {k:Nat},atK l kn src k=none→∀ i,i<k→¬ ((tellK l kn l.rt.length)[i]?=some true∧(l.rt.map Rtn.src)[i]?=some src)
 | 0,_,i,hi=>absurd hi (Nat.not_lt_zero _)
 | k+1,h,i,hi=>by
   rw [atK] at h
   split at h
   ·cases h
   ·rename_i hc
    by_cases hik:i=k
    ·subst hik
     exact hc
    ·exact atK_none h i (by omega)
theorem rt_nodup {l:Led} (h:ledB l=true):(l.rt.map Rtn.src).Nodup:=by
 simp only [ledB,Bool.and_eq_true,decide_eq_true_eq] at h
 have h5:=h.2.2.2.2.1
 rw [srcL] at h5
 exact h5.sublist ((List.sublist_append_left _ _).trans (List.sublist_append_right _ _))
theorem nodup_ix {xs:List Int} (h:xs.Nodup) {i j:Nat} {x:Int} (hi:xs[i]?=some x) (hj:xs[j]?=some x):i=j:=by
 obtain ⟨h1,h2⟩:=List.getElem?_eq_some_iff.1 hi
 obtain ⟨h3,h4⟩:=List.getElem?_eq_some_iff.1 hj
 have hp:=List.pairwise_iff_getElem.1 h
 rcases Nat.lt_trichotomy i j with hlt | he | hlt
 ·exact absurd (h2.trans h4.symm) (hp i j h1 h3 hlt)
 ·exact he
 ·exact absurd (h4.trans h2.symm) (hp j i h3 h1 hlt)
theorem find_src {l:List Rtn} {src:Int} {i:Nat} (h:l.findIdx? (fun t=>t.src == src)=some i):(l.map Rtn.src)[i]?=some src:=by
 obtain ⟨h1,h2,-⟩:=List.findIdx?_eq_some_iff_getElem.1 h
 rw [List.getElem?_map,List.getElem?_eq_getElem h1]
 simpa using h2
theorem find_none {l:List Rtn} {src:Int} {i:Nat} (h:l.findIdx? (fun t=>t.src == src)=none):(l.map Rtn.src)[i]?≠some src:=by
 intro hc
 rw [List.getElem?_map] at hc
 cases hx:l[i]? with
 | none=>rw [hx] at hc;cases hc
 | some t =>
   rw [hx] at hc
   have h1:=List.findIdx?_eq_none_iff.1 h t (List.mem_of_getElem? hx)
   simp at hc h1
   exact h1 hc
theorem at_ref {l:Led} (h:ledB l=true) (kn src:Int):retE l src kn=(if preE l [kn]=0 then (match atK l kn src l.rt.length with
 | none=>3
 | some _=>setE l kn) else preE l [kn])∧∀ i,atK l kn src l.rt.length=some i→l.rt.findIdx? (fun t=>t.src == src)=some i:=by
 cases hf:l.rt.findIdx? (fun t=>t.src == src) with
 | none =>
   cases ha:atK l kn src l.rt.length with
   | none=>exact ⟨by rw [retE,hf],fun i hi=>by cases hi⟩
   | some i=>exact absurd (atK_some ha).2.2 (find_none hf)
 | some j =>
   have hj:=find_src hf
   have hjl:j<l.rt.length:=(List.findIdx?_eq_some_iff_getElem.1 hf).1
   cases ha:atK l kn src l.rt.length with
   | none =>
     refine ⟨?_,fun i hi=>by cases hi⟩
     rw [retE,hf]
     have h1:¬ (tellK l kn l.rt.length)[j]?=some true:=fun hc=>atK_none ha j hjl ⟨hc,hj⟩
     simp only [opn_tell,if_neg h1]
   | some i =>
     obtain ⟨h1,h2,h3⟩:=atK_some ha
     obtain rfl:=nodup_ix (rt_nodup h) hj h3
     refine ⟨?_,fun i hi=>by cases hi;rfl⟩
     rw [retE,hf]
     simp only [opn_tell,if_pos h2]
set_option maxRecDepth 10000 in
theorem r_Days (l:Led) (x:Lsl) (day kn pap leaf per src:Int) (w:World) (hf:x.fit) (hd:LedIn w w.heap.size x l) :
 Calls Tryz.prog 35 #[.agg #[.slice x.pA x.pn x.pc,.slice x.rA x.rn x.rc,.slice x.tA x.tn x.tc,.slice x.sA x.sn x.sc],.agg #[.int .i64 day,.int .i64 kn,.int .i64 pap,.int .i64 leaf,.int .i64 per,.int .i64 src]] w (fun e w'=>e=.returned (.tuple #[.agg #[.int .i64 (daysX l src kn).1.1,.int .i64 (daysX l src kn).1.2],.int .i64 (daysX l src kn).2])∧Below w.heap.size w w'):=by
 obtain ⟨pA,pn,pc,rA,rn,rc,tA,tn,tc,sA,sn,sc⟩:=x
 have htl:l.rt.length=tn:=hd.t.len
 have HTL:=hd_ htl
 have HRT:Hid (Rts w w.heap.size tA tn l.rt):=by show Sq _ _ _ _ _ _ _;exact hd.t
 have HD:=hd_ hd
 have HF:=hd_ hf
 clear hd hf htl
 have B3:=box3 w 27 62 34 #[.slice pA pn pc,.slice rA rn rc,.slice tA tn tc,.slice sA sn sc] #[.int .i64 day,.int .i64 kn,.int .i64 pap,.int .i64 leaf,.int .i64 per,.int .i64 src] #[.int .i64 0,.int .i64 0]
 have BL0:=hd_ B3.1
 have BA0:=hd_ B3.2.1
 have BZ0:=hd_ B3.2.2
 clear B3
 obtain ⟨v,hv⟩:∃ v,preE l [kn]=v:=⟨_,rfl⟩
 have HV:=hd_ hv
 by_cases hv0:v=0
 rotate_left
 ·have hres:daysX l src kn=((0,0),v):=by
   have h:retE l src kn=v:=by rw [retE,if_neg (by rw [hv];exact hv0),hv]
   rw [daysX,if_neg (by rw [h];exact hv0),h]
  rw [hres]
  have hv1:(v != 0)=true:=by simpa using hv0
  clear hres hv hv0
  go_enter Tryz.func35,Tryz.ntmps35
  go_wp2_with (go_at_call 102;refine (r_asked_v l ⟨pA,pn,pc,rA,rn,rc,tA,tn,tc,sA,sn,sc⟩ [kn] v _ 1 1 _ HF.out (HD.out.now (by exact bel_)) (by decide) (Rd.new _ #[.int .i64 kn] _ 1 1 _ (by simp) rfl) HV.out).mono ?_;rintro e w1 ⟨rfl,hb1⟩;have HB1:Below w.heap.size w w1:=bt_ (by exact bel_) hb1;have hs1:=HB1.size;have bL1:=(BL0.out.alloc _).ext hb1;have kL1:=bL1.cell;have zL1:=bL1.lt;have bA1:=(BA0.out.alloc _).ext hb1;have kA1:=bA1.cell;have zA1:=bA1.lt;have bZ1:=(BZ0.out.alloc _).ext hb1;have kZ1:=bZ1.cell;have zZ1:=bZ1.lt;have fZ1:=bZ1.frozen;clear hb1)
  refine bodyPost_ret (v:=.tuple #[.agg #[.int .i64 0,.int .i64 0],.int .i64 v]) ?_ rfl ?_
  ·(simp [results,Tryz.f35,go_sem];try go_simp)
  ·exact ⟨rfl,by exact bel_⟩
 subst hv0
 have hlb:=(pre_zero hv).1
 have HLB:=hd_ hlb
 have HLO:=hd_ (led_ok hlb)
 have htn6:tn≤60:=by have h1:=HLO.out.tn;have h2:=HTL.out;omega
 have hat:=at_ref hlb kn src
 rw [if_pos hv] at hat
 have HAT:=hd_ hat
 clear hv hlb hat
 go_enter Tryz.func35,Tryz.ntmps35
 go_wp2_with (first | (go_at_call 102;refine (r_asked_v l ⟨pA,pn,pc,rA,rn,rc,tA,tn,tc,sA,sn,sc⟩ [kn] 0 _ 1 1 _ HF.out (HD.out.now (by exact bel_)) (by decide) (Rd.new _ #[.int .i64 kn] _ 1 1 _ (by simp) rfl) HV.out).mono ?_;rintro e w1 ⟨rfl,hb1⟩;have HB1:Below w.heap.size w w1:=bt_ (by exact bel_) hb1;have hs1:=HB1.size;have bL1:=(BL0.out.alloc _).ext hb1;have kL1:=bL1.cell;have zL1:=bL1.lt;have bA1:=(BA0.out.alloc _).ext hb1;have kA1:=bA1.cell;have zA1:=bA1.lt;have bZ1:=(BZ0.out.alloc _).ext hb1;have kZ1:=bZ1.cell;have zZ1:=bZ1.lt;have fZ1:=bZ1.frozen;clear hb1) | (go_at_call 103;refine (r_telling l ⟨pA,pn,pc,rA,rn,rc,tA,tn,tc,sA,sn,sc⟩ kn _ HLO.out (HD.out.now (by exact bel_))).mono ?_;rintro e w2 ⟨BT,cT,rfl,hb2,hBT,hBge⟩;have HB2:Below w.heap.size w w2:=bt_ (by exact bel_) hb2;have hs2:=HB2.size;have bL2:=bL1.ext hb2;have bA2:=bA1.ext hb2;have bZ2:=bZ1.ext hb2;clear hb2 kZ1 zZ1 fZ1 kL1 zL1 kA1 zA1))
 have HT2:Hid (Sq QB 1 w2 w2.heap.size (some ⟨BT,0,none⟩) tn (tellK l kn l.rt.length)):=by show Sq _ _ _ _ _ _ _;exact hBT.sqT (by rw [tellK_len,HTL.out]) hBT.lt
 have HBL:=hd_ bL2
 have HBA:=hd_ bA2
 have HBZ:=hd_ bZ2
 clear bL2 bA2 bZ2 hBT hBge
 obtain ⟨wv,rfl⟩:∃ wv,wv=w2:=⟨_,rfl⟩
 go_loopw [8,9] (fun a i wr=>∃ k:Nat,k≤tn∧i=.int .i64 k∧a=.int .i64 (ixI (atK l kn src k))∧Below wv.heap.size wv wr) (fun _ i _=>tn - (intOf i).toNat)
 case atStart=>exact ⟨0,by omega,rfl,rfl,Below.refl _ _⟩
 case round =>
  obtain ⟨k,hk,rfl,rfl,hQ⟩:=hrel
  have hBw:Below w.heap.size w wr:=HB2.trans (hQ.mono hs2)
  have hsw:=hBw.size
  have hsq:=hQ.size
  have bL:=HBL.out.ext hQ
  have bA:=HBA.out.ext hQ
  have kL:=bL.cell
  have zL:=bL.lt
  have kA:=bA.cell
  have zA:=bA.lt
  by_cases hlt:k<tn
  ·obtain ⟨bT,oT,tl,hBe,hbT,htT,q0⟩:=(HT2.out.now abB hQ).at_ hlt
   obtain ⟨e1,e2⟩:BT=bT∧0=oT:=by simpa using hBe
   rw [← e1] at hbT
   have q0:wr.cell? ⟨BT,k,none⟩=some (.bool tl):=by
    have h:wr.cell? ⟨bT,oT+k*1,none⟩=some (.bool tl):=q0
    rw [← e1,← e2,Nat.mul_one,Nat.zero_add] at h
    exact h
   clear e1 e2
   obtain ⟨b,o,t,rfl,hb,hx,A2,n2,c2,⟨h0,-,-,-,-,-,-,-⟩,-,-,-⟩:=(HRT.out.now abT hBw).at_ hlt
   have hsx:(l.rt.map Rtn.src)[k]?=some t.src:=by rw [List.getElem?_map,hx];rfl
   obtain ⟨q,hq⟩:∃ q,ixI (atK l kn src k)=q:=⟨_,rfl⟩
   rw [hq]
   cases tl with
   | false =>
     have HN:Hid (ixI (atK l kn src (k+1))=q):=by
      show _=_
      rw [atK,if_neg (by rintro ⟨h1,-⟩;rw [htT] at h1;cases h1),hq]
     clear hq hx hsx htT hBe
     go_wp2_with fail
     (refine rg_ ?_;(repeat (go_big_quiet_step (fail)));refine qn_ fun w1 hb1 hc1 hf1=>?_)
     go_wp2_with fail
     go_roundw
     case rel=>exact ⟨k+1,by omega,by go_num,by rw [HN.out],hQ.trans (hb1.mono hsq)⟩
     case measure=>exact ms_
   | true =>
     cases hs:(t.src == src) with
     | false =>
       have hs':¬ t.src=src:=by simpa using hs
       have HN:Hid (ixI (atK l kn src (k+1))=q):=by
        show _=_
        rw [atK,if_neg (by rintro ⟨-,h1⟩;rw [hsx] at h1;exact hs' (Option.some.inj h1)),hq]
       clear hq hx hsx htT hBe hs'
       go_wp2_with fail
       (refine rg_ ?_;(repeat (go_big_quiet_step (fail)));refine qn_ fun w1 hb1 hc1 hf1=>?_)
       go_wp2_with fail
       go_roundw
       case rel=>exact ⟨k+1,by omega,by go_num,by rw [HN.out],hQ.trans (hb1.mono hsq)⟩
       case measure=>exact ms_
     | true =>
       have hs':t.src=src:=by simpa using hs
       have HN:Hid (ixI (atK l kn src (k+1))=(k:Int)):=by
        show _=_
        rw [atK,if_pos ⟨htT,by rw [hsx,hs']⟩];rfl
       clear hq hx hsx htT hBe hs'
       go_wp2_with fail
       (refine rg_ ?_;(repeat (go_big_quiet_step (fail)));refine qn_ fun w1 hb1 hc1 hf1=>?_)
       go_wp2_with fail
       go_roundw
       case rel=>exact ⟨k+1,by omega,by go_num,by rw [HN.out],hQ.trans (hb1.mono hsq)⟩
       case measure=>exact ms_
  ·obtain rfl:k=tn:=by omega
   have bZ:=HBZ.out.ext hQ
   have kZ:=bZ.cell
   have zZ:=bZ.lt
   have fZ:=bZ.frozen
   have HZ0:=hd_ bZ
   have HL0:=hd_ bL
   have HA0:=hd_ bA
   have HBW:=hd_ hBw
   clear bZ bL bA
   obtain ⟨o,ho⟩:∃ o,atK l kn src l.rt.length=o:=⟨_,rfl⟩
   have hok:atK l kn src k=o:=by rw [← ho,HTL.out]
   rw [hok]
   have hat:=HAT.out
   rw [ho] at hat
   cases o with
   | none =>
     have hres:daysX l src kn=((0,0),3):=by
      have h:retE l src kn=3:=hat.1
      rw [daysX,if_neg (by rw [h];decide),h]
     have HRES:=hd_ hres
     simp only [ixI]
     clear hat hres ho hok
     have hneg:decide ((-1:Int)<0)=true:=by decide
     go_wp2_with fail
     refine bodyPost_ret (v:=.tuple #[.agg #[.int .i64 0,.int .i64 0],.int .i64 3]) ?_ rfl ?_
     ·(simp [results,Tryz.f35,go_sem];try go_simp)
     ·exact ⟨by rw [HRES.out],by have:=HBW.out;exact bel_⟩
   | some i =>
     have hrt:retE l src kn=setE l kn:=hat.1
     have HFI:=hd_ (hat.2 i rfl)
     have hil:i<k:=by have h:=(List.findIdx?_eq_some_iff_getElem.1 HFI.out).1;have h2:=HTL.out;omega
     have hin:decide ((i:Int)<0)=false:=by simp
     obtain ⟨se,hse⟩:∃ se,setE l kn=se:=⟨_,rfl⟩
     have HSE:=hd_ hse
     rw [hse] at hrt
     simp only [ixI]
     clear hat ho hok hse
     by_cases hs0:se=0
     ·subst hs0
      have hres:daysX l src kn=((setP l kn).getD i (0,0),0):=by rw [daysX,if_pos hrt,HFI.out,Option.getD_some]
      have HRES:=hd_ hres
      clear hres hrt
      go_wp2_with (go_at_call 113;refine (r_soundZ l ⟨pA,pn,pc,rA,rn,rc,tA,k,tc,sA,sn,sc⟩ kn _ HLB.out (HD.out.now (by exact bel_)) HSE.out).mono ?_;rintro e w3 ⟨B,Tc,A5,c5,rfl,hb3,hT3,hD3⟩;have HB3:Below w.heap.size w w3:=bt_ (by exact bel_) hb3;have hs3:=HB3.size;have bZ3:=HZ0.out.ext hb3;have kZ3:=bZ3.cell;have zZ3:=bZ3.lt;have fZ3:=bZ3.frozen;obtain ⟨b,o,d,rfl,hb,hdi,q0,q1⟩:=hD3.at_ hil;have HDI:=hd_ hdi;clear hb3 hT3 hD3 hdi kZ zZ fZ kL zL kA zA)
      have hval:(setP l kn).getD i (0,0)=d:=by rw [List.getD_eq_getElem?_getD,HDI.out];rfl
      have HVAL:=hd_ hval
      clear hval
      refine bodyPost_ret (v:=.tuple #[.agg #[.int .i64 d.1,.int .i64 d.2],.int .i64 0]) ?_ rfl ?_
      ·(simp [results,Tryz.f35,go_sem];try go_simp)
      ·exact ⟨by rw [HRES.out,HVAL.out],by exact bel_⟩
     ·have hres:daysX l src kn=((0,0),se):=by rw [daysX,if_neg (by rw [hrt];exact hs0),hrt]
      have HRES:=hd_ hres
      have hs1:(se != 0)=true:=by simpa using hs0
      clear hres hrt hs0
      go_wp2_with (go_at_call 113;refine (r_soundE l ⟨pA,pn,pc,rA,rn,rc,tA,k,tc,sA,sn,sc⟩ kn se _ HLB.out (HD.out.now (by exact bel_)) HSE.out).mono ?_;rintro e w3 ⟨B,Tc,AD,nD,cD,rfl,hb3⟩;have HB3:Below w.heap.size w w3:=bt_ (by exact bel_) hb3;have hs3:=HB3.size;have bZ3:=HZ0.out.ext hb3;have kZ3:=bZ3.cell;have zZ3:=bZ3.lt;have fZ3:=bZ3.frozen;clear hb3 kZ zZ fZ kL zL kA zA)
      refine bodyPost_ret (v:=.tuple #[.agg #[.int .i64 0,.int .i64 0],.int .i64 se]) ?_ rfl ?_
      ·(simp [results,Tryz.f35,go_sem];try go_simp)
      ·exact ⟨by rw [HRES.out],by exact bel_⟩
def RetLB (r:List Int) (w:World) (e:Ending) (w':World):Prop:=∃ b n c,e=.returned (.slice (some ⟨b,0,none⟩) n c)∧Below w.heap.size w w'∧BoxA w' b 3 (intL r).toArray∧w.heap.size≤b∧r.length=n∧n≤c∧c≤maxLen
set_option maxRecDepth 10000 in
theorem r_whereB (l:Led) (v:Vw) (pap leaf day:Int) (w:World) (hl:LedOk l) (hTt:v.Tn=v.x.tn) (hDt:v.Dn=v.x.tn) (hd:LedIn w w.heap.size v.x l) (hT:Sq QB 1 w w.heap.size v.TA v.Tn (tellK l v.kn l.rt.length)) (hD:Sq QF 2 w w.heap.size v.DA v.Dn (setP l v.kn)) :
 Calls Tryz.prog 123 #[vwV v,.agg #[.int .i64 pap,.int .i64 leaf],.int .i64 day] w (RetLB (whL l v.kn day (pap,leaf)) w):=by
 obtain ⟨⟨pA,pn,pc,rA,rn,rc,tA,tn,tc,sA,sn,sc⟩,kn,TA,Tn,Tc,DA,Dn,Dc⟩:=v
 obtain rfl:Tn=tn:=hTt
 obtain rfl:Tn=Dn:=hDt.symm
 show Calls _ _ #[.agg #[.slice pA pn pc,.slice rA rn rc,.slice tA Tn tc,.slice sA sn sc,.int .i64 kn,.slice TA Tn Tc,.slice DA Tn Dc],_,_] _ (RetLB (whL l kn day (pap,leaf)) w)
 have HR:Hid (Rcs w w.heap.size rA rn l.rc):=by show Sq _ _ _ _ _ _ _;exact hd.r
 have HTL:Hid (l.rt.length=Tn):=by show _=_;exact hd.t.len
 have hrn6:rn≤1000000:=by have h:=HR.out.len;have h2:=hl.rn;omega
 have htn6:Tn≤1000000:=by have h:=HTL.out;have h2:=hl.tn;omega
 have h0:∀ r∈l.rc,0≤r.day:=fun r hr=>(hl.rc r hr).2.2.2.1
 have HDD:Hid (Sq QF 2 w w.heap.size DA Tn (setP l kn)):=by show Sq _ _ _ _ _ _ _;exact hD
 have HLA:Hid (∀ (W:World) (k:Int),Below w.heap.size w W→lastI (lastK kn pap leaf day l.rc l.rc.length)=k→Calls Tryz.prog 173 #[.agg #[.slice pA pn pc,.slice rA rn rc,.slice tA Tn tc,.slice sA sn sc,.int .i64 kn,.slice TA Tn Tc,.slice DA Tn Dc],.agg #[.int .i64 pap,.int .i64 leaf],.int .i64 day] W fun e w'=>e=.returned (.int .i64 k)∧Below W.heap.size W w'):=by
  show ∀ _,_
  exact fun W k hW h=>r_last_v l ⟨⟨pA,pn,pc,rA,rn,rc,tA,Tn,tc,sA,sn,sc⟩,kn,TA,Tn,Tc,DA,Tn,Dc⟩ pap leaf day k W hrn6 (hd.now hW) h
 have HRO:Hid (∀ (W:World) (a:Nat) (x:Rcp) (k:Int),Below w.heap.size w W→l.rc[a]?=some x→ixI (rtIx (tellK l kn l.rt.length) l.rt x.src leaf)=k→Calls Tryz.prog 130 #[.agg #[.slice pA pn pc,.slice rA rn rc,.slice tA Tn tc,.slice sA sn sc,.int .i64 kn,.slice TA Tn Tc,.slice DA Tn Dc],.int .i64 a,.int .i64 leaf] W fun e w'=>e=.returned (.int .i64 k)∧Below W.heap.size W w'):=by
  show ∀ _,_
  exact fun W a x k hW ha h2=>r_returnOf_v l ⟨⟨pA,pn,pc,rA,rn,rc,tA,Tn,tc,sA,sn,sc⟩,kn,TA,Tn,Tc,DA,Tn,Dc⟩ _ a x leaf k W hrn6 htn6 rfl (hd.now hW) (hT.now abB hW) ha h2
 clear hd hT hD hl
 cases hL:lastK kn pap leaf day l.rc l.rc.length with
 | none =>
   rw [wh_none h0 hL]
   have HLV:Hid (lastI (lastK kn pap leaf day l.rc l.rc.length)=-1):=by show _=_;rw [hL];rfl
   clear hL
   go_enter Tryz.func123,Tryz.ntmps123
   go_wp2_with fail
   refine (HLA.out _ (-1) (by exact bel_) HLV.out).mono ?_
   rintro e w3 ⟨rfl,hb3⟩
   have HB3:Below w.heap.size w w3:=bt_ (by exact bel_) hb3
   have hs3:=HB3.size
   go_wp2_with fail
   go_ret
   exact ⟨_,_,_,rfl,by exact bel_,BoxA.new _ _ _,by first | omega | (simp;omega),rfl,lr_,by decide⟩
 | some p =>
   obtain ⟨a,dd⟩:=p
   obtain ⟨-,x,hx,-⟩:=lastK_at hL
   rw [wh_some h0 hL hx]
   have HLV:Hid (lastI (lastK kn pap leaf day l.rc l.rc.length)=(a:Int)):=by show _=_;rw [hL];rfl
   have hia:a<rn:=by rw [← HR.out.len];exact (List.getElem?_eq_some_iff.1 hx).1
   obtain ⟨bx,ox,x',rfl,hbx,hxx,A1,n1,c1,⟨-,g1,-,-,-,-,-⟩,-,-,-⟩:=HR.out.at_ hia
   obtain rfl:x=x':=Option.some.inj (hx.symm.trans hxx)
   have hxn:decide ((a:Int)<0)=false:=by simp
   obtain ⟨q,hq⟩:∃ q,rtIx (tellK l kn l.rt.length) l.rt x.src leaf=q:=⟨_,rfl⟩
   have HKI:Hid (ixI (rtIx (tellK l kn l.rt.length) l.rt x.src leaf)=ixI q):=by show _=_;rw [hq]
   have HQ:=hd_ hq
   rw [hq]
   have HX:=hd_ hx
   obtain ⟨bor,hbor⟩:∃ b,x.bor=b:=⟨_,rfl⟩
   rw [hbor] at g1 ⊢
   clear hL hx hxx hq hbor
   go_enter Tryz.func123,Tryz.ntmps123
   have bV0:=(BoxA.new w 127 #[.slice pA pn pc,.slice (some ⟨bx,ox,none⟩) rn rc,.slice tA Tn tc,.slice sA sn sc,.int .i64 kn,.slice TA Tn Tc,.slice DA Tn Dc]).alloc (.cells #[.int .i64 pap,.int .i64 leaf] 60)
   have bF0:BoxA ((w.alloc (.cells #[.slice pA pn pc,.slice (some ⟨bx,ox,none⟩) rn rc,.slice tA Tn tc,.slice sA sn sc,.int .i64 kn,.slice TA Tn Tc,.slice DA Tn Dc] 127)).alloc (.cells #[.int .i64 pap,.int .i64 leaf] 60)) (w.heap.size+1) 60 #[.int .i64 pap,.int .i64 leaf]:=by
    have h:=BoxA.new (w.alloc (.cells #[.slice pA pn pc,.slice (some ⟨bx,ox,none⟩) rn rc,.slice tA Tn tc,.slice sA sn sc,.int .i64 kn,.slice TA Tn Tc,.slice DA Tn Dc] 127)) 60 #[.int .i64 pap,.int .i64 leaf]
    simpa using h
   have HBV0:=hd_ bV0
   have HBF0:=hd_ bF0
   clear bV0 bF0
   go_wp2_with fail
   refine (HLA.out _ a (by exact bel_) HLV.out).mono ?_
   rintro e w3 ⟨rfl,hb3⟩
   have HB3:Below w.heap.size w w3:=bt_ (by exact bel_) hb3
   have hs3:=HB3.size
   have bV3:=HBV0.out.ext hb3
   have bF3:=HBF0.out.ext hb3
   have kV:=bV3.cell
   have zV:=bV3.lt
   have kF:=bF3.cell
   have zF:=bF3.lt
   have d1:=(HB3.cell (p:=⟨bx,ox+a*7+1,none⟩) hbx).trans g1
   have hbx3:bx<w3.heap.size:=by omega
   have HBV3:=hd_ bV3
   clear hb3 bV3 bF3
   go_wp2_with fail
   refine (HRO.out _ a x (ixI q) HB3 HX.out HKI.out).mono ?_
   rintro e w4 ⟨rfl,hb4⟩
   have HB4:=bt_ HB3 hb4
   have hs4:=HB4.size
   have bV4:=HBV3.out.ext hb4
   clear kV zV kF zF d1 hbx3
   have kV:=bV4.cell
   have zV:=bV4.lt
   clear bV4 hb4
   cases q with
   | none =>
     have hneg:decide ((-1:Int)<0)=true:=by decide
     simp only [ixI]
     go_wp2_with fail
     go_ret
     exact ⟨_,_,_,rfl,by exact bel_,BoxA.new _ _ _,by first | omega | (simp;omega),rfl,lr_,by decide⟩
   | some i =>
     obtain ⟨-,t,ht,-,-⟩:=rt_some HQ.out
     have hit:i<Tn:=by rw [← HTL.out];exact (List.getElem?_eq_some_iff.1 ht).1
     have hin:decide ((i:Int)<0)=false:=by simp
     obtain ⟨bd,od,d,rfl,hbd,hdx,q0,q1⟩:=HDD.out.at_ hit
     have hgd:(setP l kn).getD i (0,0)=d:=by rw [List.getD_eq_getElem?_getD,hdx];rfl
     have e0:=(HB4.cell (p:=⟨bd,od+i*2,none⟩) hbd).trans q0
     have e1:=(HB4.cell (p:=⟨bd,od+i*2+1,none⟩) hbd).trans q1
     have hbd4:bd<w4.heap.size:=by omega
     have HRW:Hid (refW (setP l kn) day bor (some i)=if day<d.1 then [bor] else if d.2≤day then [0] else [0,bor]):=by show _=_;simp only [refW,hgd]
     simp only [ixI]
     clear hgd hdx ht q0 q1
     cases h1:decide (d.1>day) with
     | true =>
       go_wp2_with fail
       go_ret
       rw [HRW.out,if_pos (of_decide_eq_true h1)]
       exact ⟨_,_,_,rfl,by exact bel_,BoxA.new _ _ _,by first | omega | (simp;omega),rfl,lr_,by decide⟩
     | false =>
       cases h2:decide (d.2≤day) with
       | true =>
         go_wp2_with fail
         go_ret
         rw [HRW.out,if_neg (of_decide_eq_false h1),if_pos (of_decide_eq_true h2)]
         exact ⟨_,_,_,rfl,by exact bel_,BoxA.new _ _ _,by first | omega | (simp;omega),rfl,lr_,by decide⟩
       | false =>
         go_wp2_with fail
         go_ret
         rw [HRW.out,if_neg (of_decide_eq_false h1),if_neg (of_decide_eq_false h2)]
         exact ⟨_,_,_,rfl,by exact bel_,BoxA.new _ _ _,by first | omega | (simp;omega),rfl,lr_,by decide⟩
structure Rw where
 A:Option Addr
 (n c:Nat)
 xs:List Int
def Rw.v (r:Rw):Value:=.slice r.A r.n r.c
structure RwAt (lo:Nat) (W:World) (r:Rw):Prop where
 len:r.xs.length=r.n
 cap:r.n≤r.c∧r.c≤maxLen
 at_:r.A=none∧r.n=0∧r.c=0∨∃ b,r.A=some ⟨b,0,none⟩∧lo≤b∧BoxA W b 3 (intL r.xs).toArray
theorem RwAt.ext {lo:Nat} {W W':World} {r:Rw} (h:RwAt lo W r) (hb:Below W.heap.size W W'):RwAt lo W' r:=⟨h.len,h.cap,h.at_.imp id fun ⟨b,e,hl,hx⟩=>⟨b,e,hl,hx.ext hb⟩⟩
theorem RwAt.kept {lo base size n:Nat} {W W':World} {r:Rw} {t:TypeId} {v:Value} {xs:List Value} (h:RwAt lo W r) (ho:W.ownsRow base t size v n xs) (ht:t≠3) (hg:W.grownBy W' v.ownBlock):RwAt lo W' r:=⟨h.len,h.cap,h.at_.imp id fun ⟨b,e,hl,hx⟩=>⟨b,e,hl,hx.kept hg (fun he=>by
 obtain ⟨cur,hh⟩:=own_block ho he.symm
 have h2:W.heap[b]?=some (.cells (intL r.xs).toArray 3 (0,0)):=hx
 rw [h2] at hh
 injection hh with hh
 injection hh with _ h3
 exact ht h3.symm)⟩⟩
theorem RwAt.is {lo:Nat} {W:World} {r:Rw} (h:RwAt lo W r):Is W W.heap.size r.A r.n r.xs:=by
 rcases h.at_ with ⟨h1,h2,-⟩ | ⟨b,h1,-,hx⟩
 ·have h3:=h.len
  rw [h2] at h3
  rw [h1,h2,List.eq_nil_of_length_eq_zero h3]
  exact Rd.nil_
 ·rw [h1]
  exact is_box hx h.len
structure TlI (wv:World) (fs:List (Int × Int)) (WF:Int × Int→List Int) (rs:List Rw) (v:Value) (wr:World):Prop where
 own:wr.ownsRow wv.heap.size 30 1 v fs.length (rs.map Rw.v)
 xs:rs.map Rw.xs=fs.map WF
 at_:∀ r∈rs,RwAt wv.heap.size wr r
 bel:Below wv.heap.size wv wr
theorem infoSl:(Tryz.prog.info? 30).map (fun i=>(i.zero,i.size,i.bytes))=some (some (.slice none 0 0),1,24):=by kernel_rfl
theorem TlI.snoc {wv wr w9 w10:World} {fs:List (Int × Int)} {f:Int × Int} {WF:Int × Int→List Int} {rs:List Rw} {r:Rw} {v v':Value} (h:TlI wv fs WF rs v wr) (hx:r.xs=WF f) (h9:Below wr.heap.size wr w9) (hr:RwAt wv.heap.size w9 r) (ho:w10.ownsRow wv.heap.size 30 1 v' (fs.length+1) (rs.map Rw.v ++ [r.v])) (hg:w9.grownBy w10 v.ownBlock):TlI wv (fs ++ [f]) WF (rs ++ [r]) v' w10:=by
 have h9o:=own_ex h.own h9
 refine ⟨?_,?_,?_,?_⟩
 ·rw [List.length_append,List.map_append]
  exact ho
 ·rw [List.map_append,List.map_append,h.xs,List.map_cons,List.map_nil,List.map_cons,List.map_nil,hx]
 ·intro q hq
  rcases List.mem_append.1 hq with hq | hq
  ·exact ((h.at_ q hq).ext h9).kept h9o (by decide) hg
  ·obtain rfl:q=r:=by simpa using hq
   exact hr.kept h9o (by decide) hg
 ·have h1:Below wv.heap.size wv w9:=h.bel.trans (h9.mono h.bel.size)
  exact h1.grown hg h1.size fun k ek=>own_base h.own ek
def RetTold (T:List (List Int)) (v:Int) (w:World) (e:Ending) (w':World):Prop:=∃ A c,∃ rs:List Rw,e=.returned (.tuple #[.slice A T.length c,.int .i64 v])∧Below w.heap.size w w'∧w'.ownsRow w.heap.size 30 1 (.slice A T.length c) T.length (rs.map Rw.v)∧rs.map Rw.xs=T∧∀ r∈rs,RwAt w.heap.size w' r
def toldW (l:Led) (kn day:Int) (f:Int × Int):List Int:=if setE l kn=0 then whL l kn day f else []
set_option maxRecDepth 10000 in
theorem r_told (l:Led) (x:Lsl) (day kn pap leaf per src:Int) (w:World) (hlb:ledB l=true) (hd:LedIn w w.heap.size x l) :
 Calls Tryz.prog 142 #[.agg #[.slice x.pA x.pn x.pc,.slice x.rA x.rn x.rc,.slice x.tA x.tn x.tc,.slice x.sA x.sn x.sc],.agg #[.int .i64 day,.int .i64 kn,.int .i64 pap,.int .i64 leaf,.int .i64 per,.int .i64 src]] w (RetTold ((folL l.pp).map (toldW l kn day)) (setE l kn) w):=by
 obtain ⟨pA,pn,pc,rA,rn,rc,tA,tn,tc,sA,sn,sc⟩:=x
 have HD:=hd_ hd
 have HLB:=hd_ hlb
 have HLO:=hd_ (led_ok hlb)
 clear hd hlb
 have B2:=box2 w 27 62 #[.slice pA pn pc,.slice rA rn rc,.slice tA tn tc,.slice sA sn sc] #[.int .i64 day,.int .i64 kn,.int .i64 pap,.int .i64 leaf,.int .i64 per,.int .i64 src]
 have BL0:=hd_ B2.1
 have BA0:=hd_ B2.2
 clear B2
 have hpn12:pn≤12:=by have h1:=HLO.out.pn;have h2:l.pp.length=pn:=HD.out.p.len;omega
 obtain ⟨i0,hi,hz0,hz1,hz2⟩:=info_parts infoSl
 have hfl:=folL_len HLO.out
 obtain ⟨se,hse⟩:∃ se,setE l kn=se:=⟨_,rfl⟩
 have HSE:=hd_ hse
 obtain ⟨WF,hWF⟩:∃ WF,toldW l kn day=WF:=⟨_,rfl⟩
 rw [hse,hWF]
 by_cases hs0:se=0
 rotate_left
 ·have HWF:Hid (∀ f,WF f=[]):=by show ∀ _,_;intro f;rw [← hWF,toldW,if_neg (by rw [hse];exact hs0)]
  have hs1:(se != 0)=true:=by simpa using hs0
  clear hse hs0 hWF
  go_enter Tryz.func142,Tryz.ntmps142
  go_wp2_with (first | (go_at_call 113;refine (r_soundE l ⟨pA,pn,pc,rA,rn,rc,tA,tn,tc,sA,sn,sc⟩ kn se _ HLB.out (HD.out.now (by exact bel_)) HSE.out).mono ?_;rintro e w3 ⟨B,Tc,AD,nD,cD,rfl,hb3⟩;have HB3:Below w.heap.size w w3:=bt_ (by exact bel_) hb3;have hs3:=HB3.size;have bL3:=(BL0.out.ext hb3).alloc (.cells #[.slice pA pn pc,.slice rA rn rc,.slice tA tn tc,.slice sA sn sc,.int .i64 kn,.slice (some ⟨B,0,none⟩) tn Tc,.slice AD nD cD] 127);have kL3:=bL3.cell;have zL3:=bL3.lt;clear hb3) | (go_at_call 144;refine (r_folios l ⟨pA,pn,pc,rA,rn,rc,tA,tn,tc,sA,sn,sc⟩ _ hpn12 (fun r hr=>HLO.out.pp r hr) (HD.out.now (by exact bel_))).mono ?_;rintro e w5 ⟨v5,rfl,hb5,ho5⟩;obtain ⟨AF,cF,rfl,hcF⟩:=own_slice ho5;have HB35:Below w3.heap.size w3 w5:=bt_ (by exact bel_) hb5;have HB5:Below w.heap.size w w5:=bt_ HB3 HB35;have hs5:=HB5.size;have HSF:Hid (Sq QF 2 w5 w5.heap.size AF (folL l.pp).length (folL l.pp)):=(by show Sq _ _ _ _ _ _ _;exact sq_of_own ho5 rfl);clear hb5 ho5 kL3 zL3))
  obtain ⟨fs,hfs⟩:∃ fs,folL l.pp=fs:=⟨_,rfl⟩
  rw [hfs] at HSF hfl
  rw [hfs]
  have HFS:=hd_ hfs
  clear hfs bL3
  obtain ⟨wv,rfl⟩:∃ wv,wv=w5:=⟨_,rfl⟩
  go_loopw [9,10] (fun v i wr=>∃ k:Nat,k≤fs.length∧i=.int .i64 k∧∃ rs:List Rw,TlI wv (fs.take k) WF rs v wr) (fun _ i _=>fs.length - (intOf i).toNat)
  case atStart=>exact ⟨0,by omega,rfl,[],World.ownsRow_nil _ _ _ _,rfl,by simp,Below.refl _ _⟩
  case round =>
   obtain ⟨k,hk,rfl,rs,hI⟩:=hrel
   have HI:=hd_ hI
   have hsq:=hI.bel.size
   clear hI
   by_cases hlt:k<fs.length
   ·obtain ⟨f,hf⟩:∃ f,fs[k]?=some f:=⟨_,List.getElem?_eq_getElem hlt⟩
    have HF:=hd_ (take_snoc_some hf)
    have htl:(fs.take k).length=k:=by rw [List.length_take];omega
    have HTK:=hd_ htl
    have htk:(fs.take k).length≤360:=by omega
    clear hf htl
    go_wp2_with (at_builtin;refine wpList_append_own _ rfl (.tmp 28) (.tmp 29) 159 rfl wv.heap.size 30 i0 _ 1 24 Tryz.underlying159 hi hz0 hz1 hz2 rfl (by decide) _ _ _ rfl (HI.out.own.alloc (.cells #[.slice none 0 0] 30)) ⟨wr.heap.size,0,none⟩ 1 1 [.slice none 0 0] rfl rfl ?c1 ?c2 ?c3 ?c4 ?c5 ?_;rotate_left 5;intro v' w2 hown2 hgrow2 _)
    case c1=>intro j u hj;match j,hj with
     | 0,hj=>simp at hj;subst hj;simp [Addr.add]
    case c2=>simp [Value.oneCell']
    case c3=>unfold maxLen;omega
    case c4=>omega
    case c5=>simp;omega
    go_roundw
    case rel =>
     refine ⟨k+1,by omega,by go_num,rs ++ [⟨none,0,0,[]⟩],?_⟩
     rw [HF.out]
     exact HI.out.snoc (by rw [HWF.out]) ((Below.refl _ _).alloc lr_ _) ⟨rfl,⟨lr_,Nat.zero_le _⟩,.inl ⟨rfl,rfl,rfl⟩⟩ hown2 hgrow2
    case measure=>exact ms_
   ·obtain rfl:k=fs.length:=by omega
    have h:TlI wv fs WF rs u9 wr:=by have h:=HI.out;rwa [List.take_length] at h
    obtain ⟨A9,c9,rfl,hc9⟩:=own_slice h.own
    go_wp2
    go_ret2
    rw [HFS.out]
    refine ⟨A9,c9,rs,by rw [List.length_map];rfl,HB5.trans (h.bel.mono hs5),by rw [List.length_map];exact own_dn h.own hs5,h.xs,fun r hr=>?_⟩
    exact ⟨(h.at_ r hr).len,(h.at_ r hr).cap,(h.at_ r hr).at_.imp id fun ⟨b,e,hl,hx⟩=>⟨b,e,Nat.le_trans hs5 hl,hx⟩⟩
 subst hs0
 have HWF:Hid (∀ f,whL l kn day f=WF f):=by show ∀ _,_;intro f;rw [← hWF,toldW,if_pos hse]
 clear hse hWF
 go_enter Tryz.func142,Tryz.ntmps142
 go_wp2_with (first | (go_at_call 113;refine (r_soundZ l ⟨pA,pn,pc,rA,rn,rc,tA,tn,tc,sA,sn,sc⟩ kn _ HLB.out (HD.out.now (by exact bel_)) HSE.out).mono ?_;rintro e w3 ⟨B,Tc,A5,c5,rfl,hb3,hT3,hD3⟩;have HB3:Below w.heap.size w w3:=bt_ (by exact bel_) hb3;have hs3:=HB3.size;have bL3:=(BL0.out.ext hb3).alloc (.cells #[.slice pA pn pc,.slice rA rn rc,.slice tA tn tc,.slice sA sn sc,.int .i64 kn,.slice (some ⟨B,0,none⟩) tn Tc,.slice A5 tn c5] 127);have kL3:=bL3.cell;have zL3:=bL3.lt;have bA3:=(BA0.out.ext hb3).alloc (.cells #[.slice pA pn pc,.slice rA rn rc,.slice tA tn tc,.slice sA sn sc,.int .i64 kn,.slice (some ⟨B,0,none⟩) tn Tc,.slice A5 tn c5] 127);have kA3:=bA3.cell;have zA3:=bA3.lt;have bV3:=BoxA.new w3 127 #[.slice pA pn pc,.slice rA rn rc,.slice tA tn tc,.slice sA sn sc,.int .i64 kn,.slice (some ⟨B,0,none⟩) tn Tc,.slice A5 tn c5];have HT3:=hd_ hT3;have HD3:=hd_ hD3;clear hb3 hT3 hD3) | (go_at_call 144;refine (r_folios l ⟨pA,pn,pc,rA,rn,rc,tA,tn,tc,sA,sn,sc⟩ _ hpn12 (fun r hr=>HLO.out.pp r hr) (HD.out.now (by exact bel_))).mono ?_;rintro e w5 ⟨v5,rfl,hb5,ho5⟩;obtain ⟨AF,cF,rfl,hcF⟩:=own_slice ho5;have HB35:Below w3.heap.size w3 w5:=bt_ (by exact bel_) hb5;have HB5:Below w.heap.size w w5:=bt_ HB3 HB35;have hs5:=HB5.size;have bV5:=bV3.ext hb5;have bA5:=bA3.ext hb5;have HSF:Hid (Sq QF 2 w5 w5.heap.size AF (folL l.pp).length (folL l.pp)):=(by show Sq _ _ _ _ _ _ _;exact sq_of_own ho5 rfl);clear hb5 ho5 kL3 zL3 kA3 zA3))
 have HWH:Hid (∀ (W:World) (f:Int × Int),Below w5.heap.size w5 W→Calls Tryz.prog 123 #[.agg #[.slice pA pn pc,.slice rA rn rc,.slice tA tn tc,.slice sA sn sc,.int .i64 kn,.slice (some ⟨B,0,none⟩) tn Tc,.slice A5 tn c5],.agg #[.int .i64 f.1,.int .i64 f.2],.int .i64 day] W (RetLB (WF f) W)):=by
  show ∀ _,_
  intro W f hW
  have h:=r_whereB l ⟨⟨pA,pn,pc,rA,rn,rc,tA,tn,tc,sA,sn,sc⟩,kn,some ⟨B,0,none⟩,tn,Tc,A5,tn,c5⟩ f.1 f.2 day W HLO.out rfl rfl (HD.out.now (HB5.trans (hW.mono hs5))) (HT3.out.now abB (HB35.trans (hW.mono HB35.size))) (HD3.out.now abF (HB35.trans (hW.mono HB35.size)))
  dsimp only at h
  rw [HWF.out] at h
  exact h
 obtain ⟨fs,hfs⟩:∃ fs,folL l.pp=fs:=⟨_,rfl⟩
 rw [hfs] at HSF hfl
 rw [hfs]
 have HFS:=hd_ hfs
 have kV:=bV5.cell
 have zV:=bV5.lt
 have kA:=bA5.cell
 have zA:=bA5.lt
 clear hfs HT3 HD3 bV3 bA3 bL3 bV5 bA5
 obtain ⟨wv,rfl⟩:∃ wv,wv=w5:=⟨_,rfl⟩
 go_loopw [9,10] (fun v i wr=>∃ k:Nat,k≤fs.length∧i=.int .i64 k∧∃ rs:List Rw,TlI wv (fs.take k) WF rs v wr) (fun _ i _=>fs.length - (intOf i).toNat)
 case atStart=>exact ⟨0,by omega,rfl,[],World.ownsRow_nil _ _ _ _,rfl,by simp,Below.refl _ _⟩
 case round =>
  obtain ⟨k,hk,rfl,rs,hI⟩:=hrel
  have HI:=hd_ hI
  have hB:=hI.bel
  have hsq:=hI.bel.size
  clear hI
  by_cases hlt:k<fs.length
  ·obtain ⟨b,o,f,hAF,hbr,hf,q0,q1⟩:=HSF.out.at_ hlt
   have HF:=hd_ (take_snoc_some hf)
   have htl:(fs.take k).length=k:=by rw [List.length_take];omega
   have HTK:=hd_ htl
   have htk:(fs.take k).length≤360:=by omega
   subst hAF
   clear hf htl
   go_wp2_with fail
   (refine wp_region_held_lit (S:=(fun V=>Below wv.heap.size wv V)) 12 (by kernel_rfl) rfl (show Below wv.heap.size wv wr.drew by exact bel_) (fun hS=>?_);simp only [List.reduceReplicate,Array.replicate_succ,Array.replicate_zero])
   (refine tk_ (i:=0) (v:=?_) rfl ?_ hS ?_;rotate_left;focus (intro w2 hw2;obtain ⟨hc2,hf2⟩:=bcell hw2;go_simp;first | done | with_reducible rfl);(try simp only [Act.put,pu1,pu2,pu3]))
   (refine tk_ (i:=1) (v:=?_) rfl ?_ hS ?_;rotate_left;focus (intro w2 hw2;obtain ⟨hc2,hf2⟩:=bcell hw2;go_simp;first | done | with_reducible rfl);(try simp only [Act.put,pu1,pu2,pu3]))
   (refine tk_ (i:=2) (v:=?_) rfl ?_ hS ?_;rotate_left;focus (intro w2 hw2;obtain ⟨hc2,hf2⟩:=bcell hw2;go_simp;first | done | with_reducible rfl);(try simp only [Act.put,pu1,pu2,pu3]))
   (refine tk_ (i:=3) (v:=?_) rfl ?_ hS ?_;rotate_left;focus (intro w2 hw2;obtain ⟨hc2,hf2⟩:=bcell hw2;go_simp;first | done | with_reducible rfl);(try simp only [Act.put,pu1,pu2,pu3]))
   (refine tk_ (i:=4) (v:=?_) rfl ?_ hS ?_;rotate_left;focus (intro w2 hw2;obtain ⟨hc2,hf2⟩:=bcell hw2;go_simp;first | done | with_reducible rfl);(try simp only [Act.put,pu1,pu2,pu3]))
   (refine tk_ (i:=5) (v:=?_) rfl ?_ hS ?_;rotate_left;focus (intro w2 hw2;obtain ⟨hc2,hf2⟩:=bcell hw2;go_simp;first | done | with_reducible rfl);(try simp only [Act.put,pu1,pu2,pu3]))
   (refine tk_ (i:=6) (v:=?_) rfl ?_ hS ?_;rotate_left;focus (intro w2 hw2;obtain ⟨hc2,hf2⟩:=bcell hw2;go_simp;first | done | with_reducible rfl);(try simp only [Act.put,pu1,pu2,pu3]))
   (refine tk_ (i:=7) (v:=?_) rfl ?_ hS ?_;rotate_left;focus (intro w2 hw2;obtain ⟨hc2,hf2⟩:=bcell hw2;go_simp;first | done | with_reducible rfl);(try simp only [Act.put,pu1,pu2,pu3]))
   refine rd_ [8] ?_
   refine ah1 rfl fun K hK=>?_
   (go_simp;refine (HWH.out _ f hS).mono ?_;rintro e w8 ⟨b9,n9,c9,rfl,hb8,hx9,hl9,hn9,hc9,hm9⟩;go_simp)
   have h8:Below wr.heap.size wr w8:=bt_ (show Below wr.heap.size wr wr.drew by exact bel_) hb8
   have hS8:=bt_ hS hb8
   refine hK.out _ _ hS8 (fun hS=>?_)
   clear hK K
   (try simp only [Act.put,pu1,pu2,pu3])
   refine rd_ [9] ?_
   refine ah1 rfl fun K hK=>?_
   go_simp
   refine hK.out _ _ (hS8.alloc hS8.size (.cells #[.slice (some ⟨b9,0,none⟩) n9 c9] 30)) (fun hS=>?_)
   clear hK K
   (try simp only [Act.put,pu1,pu2,pu3])
   have h9:Below wr.heap.size wr (w8.alloc (.cells #[.slice (some ⟨b9,0,none⟩) n9 c9] 30)):=h8.alloc h8.size _
   have hs8:=h8.size
   refine rd_ [10] ?_
   refine ah1 rfl fun K hK=>?_
   refine step_app (by rfl) (.tmp 31) (.tmp 40) 159 (by rfl) (base:=wv.heap.size) (B:=_) (e:=30) (i:=i0) (size:=1) (bytes:=24) Tryz.underlying159 hi hz0 hz1 hz2 rfl (by decide) (n:=(fs.take k).length) (m:=1) (A:=some ⟨w8.heap.size,0,none⟩) (c:=1) (xs:=rs.map Rw.v) (news:=[.slice (some ⟨b9,0,none⟩) n9 c9]) (by rfl) (by rfl) (own_ex HI.out.own h9) (Rd.new w8 #[.slice (some ⟨b9,0,none⟩) n9 c9] 30 1 1 _ rfl rfl) (by intro u hu;simp at hu;subst hu;rfl) (by unfold maxLen;omega) (by omega) (by simp;omega) ?_
   intro v6 w6 hown6 hgrow6
   have HT6:Hid (TlI wv (fs.take k ++ [f]) WF (rs ++ [⟨some ⟨b9,0,none⟩,n9,c9,WF f⟩]) v6 w6):=by
    show TlI _ _ _ _ _ _
    exact HI.out.snoc rfl h9 ⟨hn9,⟨hc9,hm9⟩,.inr ⟨b9,rfl,Nat.le_trans hsq hl9,hx9.alloc _⟩⟩ hown6 hgrow6
   refine hK.out _ _ HT6.out.bel (fun hS=>?_)
   clear hK K
   (try simp only [Act.put,pu1,pu2,pu3])
   (refine tk_ (i:=11) (v:=?_) rfl ?_ hS ?_;rotate_left;focus (intro w2 hw2;obtain ⟨hc2,hf2⟩:=bcell hw2;go_simp;first | done | with_reducible rfl);(try simp only [Act.put,pu1,pu2,pu3]))
   refine wpAnyH_done (by kernel_rfl) ?_ _
   clear hown6 hgrow6 hS hS8 h9 h8 hb8 q0 q1 hx9
   go_wp2_with fail
   go_roundw
   case rel=>exact ⟨k+1,by omega,by go_num,_,by rw [HF.out];exact HT6.out⟩
   case measure=>exact ms_
  ·obtain rfl:k=fs.length:=by omega
   have h:TlI wv fs WF rs u9 wr:=by have h:=HI.out;rwa [List.take_length] at h
   obtain ⟨A9,c9,rfl,hc9⟩:=own_slice h.own
   clear kV zV kA zA
   go_wp2
   go_ret2
   rw [HFS.out]
   refine ⟨A9,c9,rs,by rw [List.length_map];rfl,HB5.trans (h.bel.mono hs5),by rw [List.length_map];exact own_dn h.own hs5,h.xs,fun r hr=>?_⟩
   exact ⟨(h.at_ r hr).len,(h.at_ r hr).cap,(h.at_ r hr).at_.imp id fun ⟨b,e,hl,hx⟩=>⟨b,e,Nat.le_trans hs5 hl,hx⟩⟩
theorem tellK_get {l:Led} {kn:Int} {t:Rtn} {k:Nat} (ht:l.rt[k]?=some t):∀ n,k<n→n≤l.rt.length→(tellK l kn n)[k]?=some (tellB l kn (tellK l kn k) k t)
 | 0,h,_=>absurd h (Nat.not_lt_zero _)
 | n+1,h,hn=>by
   obtain ⟨u,hu⟩:∃ u,l.rt[n]?=some u:=⟨_,List.getElem?_eq_getElem (by omega)⟩
   rw [tellK,hu]
   by_cases hk:k=n
   ·subst hk
    obtain rfl:t=u:=Option.some.inj (ht.symm.trans hu)
    show ((tellK l kn k).set k _)[k]?=_
    rw [List.getElem?_set_self (by rw [tellK_len];omega)]
   ·show ((tellK l kn n).set n _)[k]?=_
    rw [List.getElem?_set_ne (by omega)]
    exact tellK_get ht n (by omega) (by omega)
theorem tellK_low {l:Led} {kn:Int} {j k:Nat} (hj:j<k) (hk:k≤l.rt.length):(tellK l kn k)[j]?=(tellK l kn l.rt.length)[j]?:=by
 obtain ⟨u,hu⟩:∃ u,l.rt[j]?=some u:=⟨_,List.getElem?_eq_getElem (by omega)⟩
 rw [tellK_get hu k hj hk,tellK_get hu l.rt.length (by omega) lr_]
theorem tell_is {l:Led} {kn:Int} {k ix:Nat} {t:Rtn} {r:Rcp} (hT:(tellK l kn l.rt.length)[k]?=some true) (ht:l.rt[k]?=some t) (hix:rcIx l.rc t.rcp kn=some ix) (hr:l.rc[ix]?=some r):max t.lo (r.day+1)≤t.hi∧fineB (tellK l kn k) l.rt k t r t.lv=true:=by
 have hk:k<l.rt.length:=(List.getElem?_eq_some_iff.1 ht).1
 rw [tellK_get ht _ hk lr_] at hT
 have h1:tellB l kn (tellK l kn k) k t=true:=Option.some.inj hT
 rw [tellB,hix] at h1
 simp only [hr,Bool.and_eq_true] at h1
 refine ⟨?_,h1.2.2⟩
 have h2:=h1.2.1
 simp at h2
 omega
theorem tell_rt {l:Led} {kn:Int} {k ix:Nat} {t:Rtn} {r:Rcp} {x:Int} (hT:(tellK l kn l.rt.length)[k]?=some true) (ht:l.rt[k]?=some t) (hix:rcIx l.rc t.rcp kn=some ix) (hr:l.rc[ix]?=some r) (hx:x∈t.lv):x∈r.lv∧rtIx (tellK l kn l.rt.length) l.rt t.rcp x=some k:=by
 have hk:k<l.rt.length:=(List.getElem?_eq_some_iff.1 ht).1
 have hf:=(tell_is hT ht hix hr).2
 rw [fineB,List.all_eq_true] at hf
 have h1:=hf x hx
 simp only [Bool.and_eq_true,decide_eq_true_eq,Bool.not_eq_true'] at h1
 refine ⟨h1.1,?_⟩
 have hz:(List.zip (tellK l kn l.rt.length) l.rt)[k]?=some (true,t):=by rw [List.getElem?_zip_eq_some];exact ⟨hT,ht⟩
 refine ix_found hz (by simp [rtAt,hx]) ?_
 rw [← h1.2]
 have he:(List.zip (tellK l kn l.rt.length) l.rt).take k=(List.zip (tellK l kn k) l.rt).take k:=by
  apply List.ext_getElem?
  intro j
  rw [List.getElem?_take,List.getElem?_take]
  split
  ·rename_i hj
   simp only [List.zip,List.getElem?_zipWith]
   rw [tellK_low hj (by omega)]
  ·rfl
 rw [he]
theorem first_none {p:Rcp→Rcp→Bool}:∀ {xs:List Rcp},firstP p xs=none→∀ (i j:Nat) (a b:Rcp),i<j→xs[i]?=some a→xs[j]?=some b→p a b=false
 | [],_,i,j,a,b,_,ha,_=>by simp at ha
 | x :: xs,h,i,j,a,b,hij,ha,hb=>by
   rw [firstP] at h
   split at h
   ·cases h
   ·rename_i hf
    cases j with
    | zero=>omega
    | succ j =>
      rw [List.getElem?_cons_succ] at hb
      cases i with
      | zero =>
        rw [List.getElem?_cons_zero] at ha
        cases ha
        have:=List.find?_eq_none.1 hf b (List.mem_of_getElem? hb)
        simpa using this
      | succ i =>
        rw [List.getElem?_cons_succ] at ha
        exact first_none h i j a b (by omega) ha hb
theorem byR_pos {l:Led} {kn:Int} (hn:firstP (refD l (tellK l kn l.rt.length) kn) l.rc=none) (k:Nat):(byR l (tellK l kn l.rt.length) kn k).1≤(byR l (tellK l kn l.rt.length) kn k).2:=by
 cases hT:(tellK l kn l.rt.length)[k]? with
 | none=>rw [byR,hT];show (0:Int)≤100000;omega
 | some b =>
   cases b with
   | false=>rw [byR_false hT];show (0:Int)≤100000;omega
   | true =>
     cases ht:l.rt[k]? with
     | none=>rw [byR,hT,ht];show (0:Int)≤100000;omega
     | some t =>
       obtain ⟨ix,r,hix,hr,he⟩:=byR_true hT ht
       obtain ⟨r',hr',hrs,hrc⟩:=rcIx_some hix
       obtain rfl:r=r':=Option.some.inj (hr.symm.trans hr')
       rw [he]
       obtain ⟨h1,-⟩:=tell_is hT ht hix hr
       have hfold:=foldl_le (q:=fun v (u:Rcp)=>∀ x∈t.lv,r.day<u.day∧(countsB u.kn u.un kn && isOfB r.pap x u)=true→v≤u.day) (fun v a u=>refHi_le kn v r t.lv a u) (max t.lo (r.day+1)) l.rc t.hi
       refine hfold.2 ⟨h1,fun u hu x hx hc=>?_⟩
       obtain ⟨hlv,hrt⟩:=tell_rt hT ht hix hr hx
       obtain ⟨iu,hiu⟩:=List.getElem?_of_mem hu
       have hne:iu≠ix:=fun e=>by
        subst e
        have:u=r:=Option.some.inj (hiu.symm.trans hr)
        subst this
        omega
       have hd:∀ b:Bool,r.lv.any (refOut l (tellK l kn l.rt.length) kn r u)=b→b=false→max t.lo (r.day+1)≤u.day:=by
        intro b hb hbf
        subst hbf
        have h2:=List.any_eq_false.1 hb x hlv
        have hdd:¬ r.day=u.day:=by omega
        have hcu:=hc.2
        rw [Bool.and_eq_true] at hcu
        have hir:isOfB r.pap x r=true:=by simp [isOfB,hlv]
        simp only [refOut,hrc,hir,hcu.1,hcu.2,hrs,hrt,ht,hdd,decide_false,Bool.true_and,Bool.false_or,decide_eq_true_eq] at h2
        omega
       rcases Nat.lt_or_gt_of_ne hne with h | h
       ·have h2:=first_none hn iu ix u r h hiu hr
        rw [refD,if_pos hc.1] at h2
        exact hd _ rfl h2
       ·have h2:=first_none hn ix iu r u h hr hiu
        rw [refD,if_neg (by omega)] at h2
        exact hd _ rfl h2
theorem set_pos_of {D:List (Int × Int)} {k:Nat} {a b:Int} (h:∀ (j:Nat) (d:Int × Int),D[j]?=some d→d.1≤d.2) (hab:a≤b):∀ (j:Nat) (d:Int × Int),(D.set k (a,b))[j]?=some d→d.1≤d.2:=by
 intro j d hd
 rw [List.getElem?_set] at hd
 split at hd
 ·split at hd
  ·cases hd;exact hab
  ·cases hd
 ·exact h j d hd
theorem refN_pos {l:Led} {T:List Bool} {kn:Int} {D:List (Int × Int)} {s:Sgt} (h:∀ (j:Nat) (d:Int × Int),D[j]?=some d→d.1≤d.2) (ho:(refN l T kn D s).2=true):∀ (j:Nat) (d:Int × Int),(refN l T kn D s).1[j]?=some d→d.1≤d.2:=by
 unfold refN at ho ⊢
 cases hL:lastK kn s.pap s.leaf s.day l.rc l.rc.length with
 | none=>exact h
 | some p =>
   simp only [hL] at ho ⊢
   cases hx:l.rc[p.1]? with
   | none=>exact h
   | some x =>
     simp only [hx] at ho ⊢
     cases hr:rtIx T l.rt x.src s.leaf with
     | none=>exact h
     | some k =>
       simp only [hr] at ho ⊢
       by_cases hp:s.per=x.bor
       ·rw [if_pos hp] at ho ⊢
        exact set_pos_of h (of_decide_eq_true ho)
       ·rw [if_neg hp] at ho ⊢
        by_cases hq:s.per=0
        ·rw [if_pos hq] at ho ⊢
         exact set_pos_of h (of_decide_eq_true ho)
        ·rw [if_neg hq] at ho
         cases ho
theorem refL_pos {l:Led} {T:List Bool} {kn:Int}:∀ {S:List Sgt} {D:List (Int × Int)},(∀ (j:Nat) (d:Int × Int),D[j]?=some d→d.1≤d.2)→(refL l T kn S D).2=true→∀ (j:Nat) (d:Int × Int),(refL l T kn S D).1[j]?=some d→d.1≤d.2
 | [],_,h,_=>h
 | s :: S,D,h,ho=>by
   rw [refL] at ho ⊢
   simp only [Bool.and_eq_true] at ho
   exact refL_pos (refN_pos h ho.1) ho.2
theorem setP_pos {l:Led} (h:ledB l=true) {kn:Int} (hs:setE l kn=0):∀ (j:Nat) (d:Int × Int),(setP l kn)[j]?=some d→d.1≤d.2:=by
 rw [set_ref h] at hs
 cases ho:firstP (refD l (tellK l kn l.rt.length) kn) l.rc with
 | some q=>rw [ho] at hs;simp at hs
 | none =>
   cases hR:(refL l (tellK l kn l.rt.length) kn (cntS l kn) (byL l kn)).2 with
   | false=>rw [ho,hR] at hs;simp at hs
   | true =>
     rw [setP_ref h kn hR]
     refine refL_pos (fun j d hd=>?_) hR
     rw [byL,List.getElem?_map] at hd
     obtain ⟨i,hi,rfl⟩:=Option.map_eq_some_iff.1 hd
     exact byR_pos ho i
end Go.Proofs.YtoiompoapikkbaaGreat
