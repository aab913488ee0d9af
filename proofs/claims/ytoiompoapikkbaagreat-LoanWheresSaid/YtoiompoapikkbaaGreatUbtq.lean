/- Layer 2 of the texts that LoanWheres takes: Ubtq. -/
import Derived.Test.YtoiompoapikkbaaGreatUbrq
import Derived.Test.YtoiompoapikkbaaGreatUbsq
set_option linter.unusedVariables false
set_option linter.unusedSimpArgs false
/- Layer 2, the reference: Where. -/
namespace Go.Proofs.YtoiompoapikkbaaGreat
open Go.RowKit Go.Maps
theorem r_soundZ (l:Led) (x:Lsl) (kn:Int) (w:World) (hl:ledB l=true) (hd:LedIn w w.heap.size x l) (hv:setE l kn=0) :
 Calls Tryz.prog 113 #[.agg #[.slice x.pA x.pn x.pc,.slice x.rA x.rn x.rc,.slice x.tA x.tn x.tc,.slice x.sA x.sn x.sc],.int .i64 kn] w (fun e w'=>∃ B Tc A5 c5,e=.returned (.tuple #[.agg #[.slice x.pA x.pn x.pc,.slice x.rA x.rn x.rc,.slice x.tA x.tn x.tc,.slice x.sA x.sn x.sc,.int .i64 kn,.slice (some ⟨B,0,none⟩) x.tn Tc,.slice A5 x.tn c5],.int .i64 0])∧Below w.heap.size w w'∧Sq QB 1 w' w'.heap.size (some ⟨B,0,none⟩) x.tn (tellK l kn l.rt.length)∧Sq QF 2 w' w'.heap.size A5 x.tn (setP l kn)):=by
 rw [set_ref hl] at hv
 cases ho:firstP (refD l (tellK l kn l.rt.length) kn) l.rc with
 | some q=>rw [ho] at hv;simp at hv
 | none =>
   cases hR:(refL l (tellK l kn l.rt.length) kn (cntS l kn) (byL l kn)).2 with
   | false=>rw [ho,hR] at hv;simp at hv
   | true =>
     refine (r_sound0 l x kn w (led_ok hl) hd ho hR).mono ?_
     rintro e w' ⟨B,Tc,A5,c5,rfl,hb,hT,-,hO⟩
     have htl:l.rt.length=x.tn:=hd.t.len
     rw [← setP_ref hl kn hR] at hO
     refine ⟨B,Tc,A5,c5,rfl,hb,hT.sqT (by rw [tellK_len,htl]) hT.lt,sq_of_own hO ?_⟩
     rw [setP_ref hl kn hR,refL_len,byL_len,htl]
set_option maxRecDepth 10000 in
set_option maxHeartbeats 4000000 in
theorem r_Where (l:Led) (x:Lsl) (day kn pap leaf per src:Int) (w:World) (hf:x.fit) (hd:LedIn w w.heap.size x l) :
 Calls Tryz.prog 37 #[.agg #[.slice x.pA x.pn x.pc,.slice x.rA x.rn x.rc,.slice x.tA x.tn x.tc,.slice x.sA x.sn x.sc],.agg #[.int .i64 day,.int .i64 kn,.int .i64 pap,.int .i64 leaf,.int .i64 per,.int .i64 src]] w (RetLE (whereX l pap leaf day kn) w):=by
 obtain ⟨pA,pn,pc,rA,rn,rc,tA,tn,tc,sA,sn,sc⟩:=x
 have hml:maxLen≤9223372036854775807:=by decide
 have hpn:pn≤9223372036854775807:=by have:=hf.p;dsimp only at this;omega
 have HD:=Lib.hid hd
 have HF:=Lib.hid hf
 clear hd hf hml
 have BL0:=Lib.hid ((BoxA.new w 27 #[.slice pA pn pc,.slice rA rn rc,.slice tA tn tc,.slice sA sn sc]).alloc (.cells #[.int .i64 day,.int .i64 kn,.int .i64 pap,.int .i64 leaf,.int .i64 per,.int .i64 src] 62))
 have BA0:Hid (BoxA ((w.alloc (.cells #[.slice pA pn pc,.slice rA rn rc,.slice tA tn tc,.slice sA sn sc] 27)).alloc (.cells #[.int .i64 day,.int .i64 kn,.int .i64 pap,.int .i64 leaf,.int .i64 per,.int .i64 src] 62)) (w.heap.size+1) 62 #[.int .i64 day,.int .i64 kn,.int .i64 pap,.int .i64 leaf,.int .i64 per,.int .i64 src]):=by
  show BoxA _ _ _ _
  have h:=BoxA.new (w.alloc (.cells #[.slice pA pn pc,.slice rA rn rc,.slice tA tn tc,.slice sA sn sc] 27)) 62 #[.int .i64 day,.int .i64 kn,.int .i64 pap,.int .i64 leaf,.int .i64 per,.int .i64 src]
  simpa using h
 obtain ⟨v,hv⟩:∃ v,preE l [day,kn]=v:=⟨_,rfl⟩
 have HV:=Lib.hid hv
 have hF:preF l day kn pap leaf=if v=0 then errI (folB l.pp pap leaf) 26 else v:=by
  rw [← hv,preF,preE]
  cases ledB l <;> cases daysOk [day,kn] <;> cases folB l.pp pap leaf <;> simp [orL,errI]
 by_cases hv0:v=0
 rotate_left
 ·have hres:whereX l pap leaf day kn=([],v):=by rw [whereX,hF,if_neg hv0,if_neg hv0]
  rw [hres]
  have hv1:(v != 0)=true:=by simpa using hv0
  clear hres hv hv0 hF
  go_enter Tryz.func37,Tryz.ntmps37
  go_wp2_with (go_at_call 102;refine (r_asked_v l ⟨pA,pn,pc,rA,rn,rc,tA,tn,tc,sA,sn,sc⟩ [day,kn] v _ 2 2 _ HF.out (HD.out.now (by exact bel_)) (by decide) (Rd.new _ #[.int .i64 day,.int .i64 kn] _ 1 2 _ (by simp) rfl) HV.out).mono ?_;rintro e w1 ⟨rfl,hb1⟩;have HB1:Below w.heap.size w w1:=Below.then_ (by exact bel_) hb1;have hs1:=HB1.size;have bL1:=(BL0.out.alloc _).ext hb1;have kL1:=bL1.cell;have zL1:=bL1.lt;have bA1:=(BA0.out.alloc _).ext hb1;have kA1:=bA1.cell;have zA1:=bA1.lt;clear hb1)
  go_ret2
  exact RetLE.err (by exact bel_)
 subst hv0
 have HLB:=Lib.hid (pre_zero hv).1
 have HLO:=Lib.hid (led_ok (pre_zero hv).1)
 cases hfo:folB l.pp pap leaf with
 | false =>
   have hres:whereX l pap leaf day kn=([],26):=by rw [whereX,hF,if_pos rfl,hfo];rfl
   rw [hres]
   have HFO:=Lib.hid hfo
   clear hres hv hF hfo
   go_enter Tryz.func37,Tryz.ntmps37
   go_wp2_with (first | (go_at_call 102;refine (r_asked_v l ⟨pA,pn,pc,rA,rn,rc,tA,tn,tc,sA,sn,sc⟩ [day,kn] 0 _ 2 2 _ HF.out (HD.out.now (by exact bel_)) (by decide) (Rd.new _ #[.int .i64 day,.int .i64 kn] _ 1 2 _ (by simp) rfl) HV.out).mono ?_;rintro e w1 ⟨rfl,hb1⟩;have HB1:Below w.heap.size w w1:=Below.then_ (by exact bel_) hb1;have hs1:=HB1.size;have bL1:=(BL0.out.alloc _).ext hb1;have kL1:=bL1.cell;have zL1:=bL1.lt;have bA1:=(BA0.out.alloc _).ext hb1;have kA1:=bA1.cell;have zA1:=bA1.lt;clear hb1) | (go_at_call 64;refine (r_isFolio_v l.pp ⟨pA,pn,pc,rA,rn,rc,tA,tn,tc,sA,sn,sc⟩ pap leaf false _ hpn ((HD.out.now (by exact bel_)).p) HFO.out).mono ?_;rintro e w2 ⟨rfl,hb2⟩;have HB2:Below w.heap.size w w2:=Below.then_ (by exact bel_) hb2;have hs2:=HB2.size;have bL2:=bL1.ext hb2;have kL2:=bL2.cell;have zL2:=bL2.lt;have bA2:=bA1.ext hb2;have kA2:=bA2.cell;have zA2:=bA2.lt;clear hb2 kL1 zL1 kA1 zA1))
   go_ret2
   exact RetLE.err (by exact bel_)
 | true =>
   have hX:whereX l pap leaf day kn=if setE l kn=0 then (whL l kn day (pap,leaf),0) else ([],setE l kn):=by rw [whereX,hF,if_pos rfl,hfo];rfl
   have HFO:=Lib.hid hfo
   obtain ⟨se,hse⟩:∃ se,setE l kn=se:=⟨_,rfl⟩
   rw [hse] at hX
   by_cases hs0:se=0
   ·subst hs0
    rw [if_pos rfl] at hX
    have HX:=Lib.hid hX
    have HSE:=Lib.hid hse
    clear hX hse hv hF hfo
    go_enter Tryz.func37,Tryz.ntmps37
    go_wp2_with (first | (go_at_call 102;refine (r_asked_v l ⟨pA,pn,pc,rA,rn,rc,tA,tn,tc,sA,sn,sc⟩ [day,kn] 0 _ 2 2 _ HF.out (HD.out.now (by exact bel_)) (by decide) (Rd.new _ #[.int .i64 day,.int .i64 kn] _ 1 2 _ (by simp) rfl) HV.out).mono ?_;rintro e w1 ⟨rfl,hb1⟩;have HB1:Below w.heap.size w w1:=Below.then_ (by exact bel_) hb1;have hs1:=HB1.size;have bL1:=(BL0.out.alloc _).ext hb1;have kL1:=bL1.cell;have zL1:=bL1.lt;have bA1:=(BA0.out.alloc _).ext hb1;have kA1:=bA1.cell;have zA1:=bA1.lt;clear hb1) | (go_at_call 64;refine (r_isFolio_v l.pp ⟨pA,pn,pc,rA,rn,rc,tA,tn,tc,sA,sn,sc⟩ pap leaf true _ hpn ((HD.out.now (by exact bel_)).p) HFO.out).mono ?_;rintro e w2 ⟨rfl,hb2⟩;have HB2:Below w.heap.size w w2:=Below.then_ (by exact bel_) hb2;have hs2:=HB2.size;have bL2:=bL1.ext hb2;have kL2:=bL2.cell;have zL2:=bL2.lt;have bA2:=bA1.ext hb2;have kA2:=bA2.cell;have zA2:=bA2.lt;clear hb2 kL1 zL1 kA1 zA1) | (go_at_call 113;refine (r_soundZ l ⟨pA,pn,pc,rA,rn,rc,tA,tn,tc,sA,sn,sc⟩ kn _ HLB.out (HD.out.now (by exact bel_)) HSE.out).mono ?_;rintro e w3 ⟨B,Tc,A5,c5,rfl,hb3,hT3,hD3⟩;have HB3:Below w.heap.size w w3:=Below.then_ (by exact bel_) hb3;have hs3:=HB3.size;have bL3:=bL2.ext hb3;have kL3:=bL3.cell;have zL3:=bL3.lt;have bA3:=bA2.ext hb3;have kA3:=bA3.cell;have zA3:=bA3.lt;have HT3:=Lib.hid hT3;have HD3:=Lib.hid hD3;clear hb3 kL2 zL2 kA2 zA2 hT3 hD3) | (go_at_call 123;refine (r_whereV l ⟨⟨pA,pn,pc,rA,rn,rc,tA,tn,tc,sA,sn,sc⟩,kn,some ⟨B,0,none⟩,tn,Tc,A5,tn,c5⟩ pap leaf day _ HLO.out rfl rfl (HD.out.now (by exact bel_)) (HT3.out.now abB (by exact bel_)) (HD3.out.now abF (by exact bel_))).mono ?_;rintro e w4 ⟨A9,n9,c9,rfl,hb9,hi9,hc9⟩))
    go_ret2
    rw [HX.out]
    exact ⟨_,_,_,rfl,Below.then_ (by exact bel_) hb9,hi9,hc9⟩
   ·rw [if_neg hs0] at hX
    rw [hX]
    have HSE:=Lib.hid hse
    have hs1:(se != 0)=true:=by simpa using hs0
    clear hX hse hv hF hfo hs0
    go_enter Tryz.func37,Tryz.ntmps37
    go_wp2_with (first | (go_at_call 102;refine (r_asked_v l ⟨pA,pn,pc,rA,rn,rc,tA,tn,tc,sA,sn,sc⟩ [day,kn] 0 _ 2 2 _ HF.out (HD.out.now (by exact bel_)) (by decide) (Rd.new _ #[.int .i64 day,.int .i64 kn] _ 1 2 _ (by simp) rfl) HV.out).mono ?_;rintro e w1 ⟨rfl,hb1⟩;have HB1:Below w.heap.size w w1:=Below.then_ (by exact bel_) hb1;have hs1:=HB1.size;have bL1:=(BL0.out.alloc _).ext hb1;have kL1:=bL1.cell;have zL1:=bL1.lt;have bA1:=(BA0.out.alloc _).ext hb1;have kA1:=bA1.cell;have zA1:=bA1.lt;clear hb1) | (go_at_call 64;refine (r_isFolio_v l.pp ⟨pA,pn,pc,rA,rn,rc,tA,tn,tc,sA,sn,sc⟩ pap leaf true _ hpn ((HD.out.now (by exact bel_)).p) HFO.out).mono ?_;rintro e w2 ⟨rfl,hb2⟩;have HB2:Below w.heap.size w w2:=Below.then_ (by exact bel_) hb2;have hs2:=HB2.size;have bL2:=bL1.ext hb2;have kL2:=bL2.cell;have zL2:=bL2.lt;have bA2:=bA1.ext hb2;have kA2:=bA2.cell;have zA2:=bA2.lt;clear hb2 kL1 zL1 kA1 zA1) | (go_at_call 113;refine (r_soundE l ⟨pA,pn,pc,rA,rn,rc,tA,tn,tc,sA,sn,sc⟩ kn se _ HLB.out (HD.out.now (by exact bel_)) HSE.out).mono ?_;rintro e w3 ⟨B,Tc,AD,nD,cD,rfl,hb3⟩;have HB3:Below w.heap.size w w3:=Below.then_ (by exact bel_) hb3;have hs3:=HB3.size))
    go_ret2
    exact RetLE.err (by exact bel_)
end Go.Proofs.YtoiompoapikkbaaGreat
/- Layer 2, the reference: Whole. -/
namespace Go.Proofs.YtoiompoapikkbaaGreat
open Go.RowKit Go.Maps
theorem r_leavesOf_v (pp:List Ppr) (x:Lsl) (n v:Int) (w:World) (hn:x.pn≤9223372036854775807) (hd:Pps w w.heap.size x.pA x.pn pp) (h:lvOf pp n=v) :
 Calls Tryz.prog 128 #[.agg #[.slice x.pA x.pn x.pc,.slice x.rA x.rn x.rc,.slice x.tA x.tn x.tc,.slice x.sA x.sn x.sc],.int .i64 n] w fun e w'=>e=.returned (.int .i64 v)∧Below w.heap.size w w':=h ▸ r_leavesOf pp x n w hn hd
theorem wh_cases {l:Led} (h:ledB l=true) (kn day pap leaf:Int):∃ b,b≠0∧(whL l kn day (pap,leaf)=[b]∨whL l kn day (pap,leaf)=[0]∨whL l kn day (pap,leaf)=[0,b]):=by
 obtain ⟨h0,hb⟩:=led_bor h
 cases hL:lastK kn pap leaf day l.rc l.rc.length with
 | none=>exact ⟨1,by decide,.inr (.inl (wh_none h0 hL))⟩
 | some p =>
   obtain ⟨a,dd⟩:=p
   obtain ⟨-,x,hx,-⟩:=lastK_at hL
   refine ⟨x.bor,hb x (List.mem_of_getElem? hx),?_⟩
   rw [wh_some h0 hL hx]
   unfold refW
   split
   ·exact .inl rfl
   ·split
    ·exact .inl rfl
    ·split
     ·exact .inr (.inl rfl)
     ·exact .inr (.inr rfl)
def oneW (l:Led) (kn day pap:Int) (i:Nat):Bool:=decide ((whL l kn day (pap,(i:Int)+1)).length=1)
theorem ans_whole {l:Led} (h:ledB l=true) (kn day pap:Int) (n:Nat):ansR (!(List.range n).all (canW l kn day pap)) ((List.range n).all (oneW l kn day pap))=ansI ((List.range n).all (canW l kn day pap)) ((List.range n).any (notW l kn day pap)):=by
 unfold ansR ansI
 cases hc:(List.range n).all (canW l kn day pap) with
 | false=>rfl
 | true =>
   have hq:(List.range n).any (notW l kn day pap)=!(List.range n).all (oneW l kn day pap):=by
    have hpt:∀ i∈List.range n,notW l kn day pap i=!oneW l kn day pap i:=by
     intro i hi
     have h1:=List.all_eq_true.1 hc i hi
     obtain ⟨b,hb0,hw | hw | hw⟩:=wh_cases h kn day pap ((i:Int)+1)
     ·rw [canW,hw] at h1
      simp at h1
      exact absurd h1.symm hb0
     ·rw [notW,oneW,hw]
      simp
     ·rw [notW,oneW,hw]
      simp
    cases ho:(List.range n).all (oneW l kn day pap) with
    | true =>
      show _=false
      rw [List.any_eq_false]
      intro i hi
      rw [hpt i hi,List.all_eq_true.1 ho i hi]
      simp
    | false =>
      show _=true
      refine Classical.byContradiction fun hn=>?_
      have h2:(List.range n).all (oneW l kn day pap)=true:=by
       rw [List.all_eq_true]
       intro i hi
       cases h3:oneW l kn day pap i with
       | true=>rfl
       | false=>exact absurd (List.any_eq_true.2 ⟨i,hi,by rw [hpt i hi,h3];rfl⟩) hn
      rw [ho] at h2
      cases h2
   rw [hq]
   cases (List.range n).all (oneW l kn day pap) <;> rfl
set_option maxRecDepth 10000 in
set_option maxHeartbeats 8000000 in
theorem r_Whole (l:Led) (x:Lsl) (day kn pap leaf per src:Int) (w:World) (hf:x.fit) (hd:LedIn w w.heap.size x l) :
 Calls Tryz.prog 39 #[.agg #[.slice x.pA x.pn x.pc,.slice x.rA x.rn x.rc,.slice x.tA x.tn x.tc,.slice x.sA x.sn x.sc],.agg #[.int .i64 day,.int .i64 kn,.int .i64 pap,.int .i64 leaf,.int .i64 per,.int .i64 src]] w (fun e w'=>e=.returned (.tuple #[.int .i64 (wholeX l pap day kn).1,.int .i64 (wholeX l pap day kn).2])∧Below w.heap.size w w'):=by
 obtain ⟨pA,pn,pc,rA,rn,rc,tA,tn,tc,sA,sn,sc⟩:=x
 have hml:maxLen≤9223372036854775807:=by decide
 have hpn:pn≤9223372036854775807:=by have:=hf.p;dsimp only at this;omega
 have HD:=Lib.hid hd
 have HF:=Lib.hid hf
 clear hd hf hml
 have BL0:=Lib.hid ((BoxA.new w 27 #[.slice pA pn pc,.slice rA rn rc,.slice tA tn tc,.slice sA sn sc]).alloc (.cells #[.int .i64 day,.int .i64 kn,.int .i64 pap,.int .i64 leaf,.int .i64 per,.int .i64 src] 62))
 have BA0:Hid (BoxA ((w.alloc (.cells #[.slice pA pn pc,.slice rA rn rc,.slice tA tn tc,.slice sA sn sc] 27)).alloc (.cells #[.int .i64 day,.int .i64 kn,.int .i64 pap,.int .i64 leaf,.int .i64 per,.int .i64 src] 62)) (w.heap.size+1) 62 #[.int .i64 day,.int .i64 kn,.int .i64 pap,.int .i64 leaf,.int .i64 per,.int .i64 src]):=by
  show BoxA _ _ _ _
  have h:=BoxA.new (w.alloc (.cells #[.slice pA pn pc,.slice rA rn rc,.slice tA tn tc,.slice sA sn sc] 27)) 62 #[.int .i64 day,.int .i64 kn,.int .i64 pap,.int .i64 leaf,.int .i64 per,.int .i64 src]
  simpa using h
 obtain ⟨v,hv⟩:∃ v,preE l [day,kn]=v:=⟨_,rfl⟩
 have HV:=Lib.hid hv
 have hF:preF l day kn pap 1=if v=0 then errI (folB l.pp pap 1) 26 else v:=by
  rw [← hv,preF,preE]
  cases ledB l <;> cases daysOk [day,kn] <;> cases folB l.pp pap 1 <;> simp [orL,errI]
 by_cases hv0:v=0
 rotate_left
 ·have hres:wholeX l pap day kn=(0,v):=by rw [wholeX,hF,if_neg hv0,if_neg hv0]
  rw [hres]
  have hv1:(v != 0)=true:=by simpa using hv0
  clear hres hv hv0 hF
  go_enter Tryz.func39,Tryz.ntmps39
  go_wp2_with (go_at_call 102;refine (r_asked_v l ⟨pA,pn,pc,rA,rn,rc,tA,tn,tc,sA,sn,sc⟩ [day,kn] v _ 2 2 _ HF.out (HD.out.now (by exact bel_)) (by decide) (Rd.new _ #[.int .i64 day,.int .i64 kn] _ 1 2 _ (by simp) rfl) HV.out).mono ?_;rintro e w1 ⟨rfl,hb1⟩;have HB1:Below w.heap.size w w1:=Below.then_ (by exact bel_) hb1;have hs1:=HB1.size;have bL1:=(BL0.out.alloc _).ext hb1;have kL1:=bL1.cell;have zL1:=bL1.lt;have bA1:=(BA0.out.alloc _).ext hb1;have kA1:=bA1.cell;have zA1:=bA1.lt;clear hb1)
  go_ret2
  exact ⟨rfl,by exact bel_⟩
 subst hv0
 have hlb:=(pre_zero hv).1
 have HLB:=Lib.hid hlb
 have HLO:=Lib.hid (led_ok hlb)
 obtain ⟨n,hnl,hn30⟩:=lv_range HLO.out pap
 by_cases hn0:n=0
 ·have hres:wholeX l pap day kn=(0,26):=by
   rw [wholeX,hF,if_pos rfl,folB,hnl,hn0];rfl
  rw [hres]
  have HNN:Hid (lvOf l.pp pap=0):=by show _=_;rw [hnl,hn0];rfl
  clear hres hv hF hnl hlb
  go_enter Tryz.func39,Tryz.ntmps39
  go_wp2_with (first | (go_at_call 102;refine (r_asked_v l ⟨pA,pn,pc,rA,rn,rc,tA,tn,tc,sA,sn,sc⟩ [day,kn] 0 _ 2 2 _ HF.out (HD.out.now (by exact bel_)) (by decide) (Rd.new _ #[.int .i64 day,.int .i64 kn] _ 1 2 _ (by simp) rfl) HV.out).mono ?_;rintro e w1 ⟨rfl,hb1⟩;have HB1:Below w.heap.size w w1:=Below.then_ (by exact bel_) hb1;have hs1:=HB1.size;have bL1:=(BL0.out.alloc _).ext hb1;have kL1:=bL1.cell;have zL1:=bL1.lt;have bA1:=(BA0.out.alloc _).ext hb1;have kA1:=bA1.cell;have zA1:=bA1.lt;clear hb1) | (go_at_call 128;refine (r_leavesOf_v l.pp ⟨pA,pn,pc,rA,rn,rc,tA,tn,tc,sA,sn,sc⟩ pap 0 _ hpn ((HD.out.now (by exact bel_)).p) HNN.out).mono ?_;rintro e w2 ⟨rfl,hb2⟩;have HB2:Below w.heap.size w w2:=Below.then_ (by exact bel_) hb2;have hs2:=HB2.size;have bL2:=bL1.ext hb2;have kL2:=bL2.cell;have zL2:=bL2.lt;have bA2:=bA1.ext hb2;have kA2:=bA2.cell;have zA2:=bA2.lt;clear hb2 kL1 zL1 kA1 zA1))
  go_ret2
  exact ⟨rfl,by exact bel_⟩
 have hfo:folB l.pp pap 1=true:=by simp [folB,withinB,hnl];omega
 have hX:wholeX l pap day kn=if setE l kn=0 then (ansI ((List.range n).all (canW l kn day pap)) ((List.range n).any (notW l kn day pap)),0) else (0,setE l kn):=by rw [wholeX,hF,if_pos rfl,hfo,hnl];rfl
 have HNN:Hid (lvOf l.pp pap=(n:Int)):=by show _=_;exact hnl
 have hnz:((n:Int) == 0)=false:=by simp;omega
 obtain ⟨se,hse⟩:∃ se,setE l kn=se:=⟨_,rfl⟩
 rw [hse] at hX
 have HSE:=Lib.hid hse
 by_cases hs0:se=0
 rotate_left
 ·rw [if_neg hs0] at hX
  rw [hX]
  have hs1:(se != 0)=true:=by simpa using hs0
  clear hX hse hv hF hfo hs0 hlb hnl
  go_enter Tryz.func39,Tryz.ntmps39
  go_wp2_with (first | (go_at_call 102;refine (r_asked_v l ⟨pA,pn,pc,rA,rn,rc,tA,tn,tc,sA,sn,sc⟩ [day,kn] 0 _ 2 2 _ HF.out (HD.out.now (by exact bel_)) (by decide) (Rd.new _ #[.int .i64 day,.int .i64 kn] _ 1 2 _ (by simp) rfl) HV.out).mono ?_;rintro e w1 ⟨rfl,hb1⟩;have HB1:Below w.heap.size w w1:=Below.then_ (by exact bel_) hb1;have hs1:=HB1.size;have bL1:=(BL0.out.alloc _).ext hb1;have kL1:=bL1.cell;have zL1:=bL1.lt;have bA1:=(BA0.out.alloc _).ext hb1;have kA1:=bA1.cell;have zA1:=bA1.lt;clear hb1) | (go_at_call 128;refine (r_leavesOf_v l.pp ⟨pA,pn,pc,rA,rn,rc,tA,tn,tc,sA,sn,sc⟩ pap n _ hpn ((HD.out.now (by exact bel_)).p) HNN.out).mono ?_;rintro e w2 ⟨rfl,hb2⟩;have HB2:Below w.heap.size w w2:=Below.then_ (by exact bel_) hb2;have hs2:=HB2.size;have bL2:=bL1.ext hb2;have kL2:=bL2.cell;have zL2:=bL2.lt;have bA2:=bA1.ext hb2;have kA2:=bA2.cell;have zA2:=bA2.lt;clear hb2 kL1 zL1 kA1 zA1) | (go_at_call 113;refine (r_soundE l ⟨pA,pn,pc,rA,rn,rc,tA,tn,tc,sA,sn,sc⟩ kn se _ HLB.out (HD.out.now (by exact bel_)) HSE.out).mono ?_;rintro e w3 ⟨B,Tc,AD,nD,cD,rfl,hb3⟩;have HB3:Below w.heap.size w w3:=Below.then_ (by exact bel_) hb3;have hs3:=HB3.size))
  go_ret2
  exact ⟨rfl,by exact bel_⟩
 subst hs0
 rw [if_pos rfl,← ans_whole hlb] at hX
 have HX:=Lib.hid hX
 clear hX hse hv hF hfo hlb hnl
 go_enter Tryz.func39,Tryz.ntmps39
 go_wp2_with (first | (go_at_call 102;refine (r_asked_v l ⟨pA,pn,pc,rA,rn,rc,tA,tn,tc,sA,sn,sc⟩ [day,kn] 0 _ 2 2 _ HF.out (HD.out.now (by exact bel_)) (by decide) (Rd.new _ #[.int .i64 day,.int .i64 kn] _ 1 2 _ (by simp) rfl) HV.out).mono ?_;rintro e w1 ⟨rfl,hb1⟩;have HB1:Below w.heap.size w w1:=Below.then_ (by exact bel_) hb1;have hs1:=HB1.size;have bL1:=(BL0.out.alloc _).ext hb1;have kL1:=bL1.cell;have zL1:=bL1.lt;have bA1:=(BA0.out.alloc _).ext hb1;have kA1:=bA1.cell;have zA1:=bA1.lt;clear hb1) | (go_at_call 128;refine (r_leavesOf_v l.pp ⟨pA,pn,pc,rA,rn,rc,tA,tn,tc,sA,sn,sc⟩ pap n _ hpn ((HD.out.now (by exact bel_)).p) HNN.out).mono ?_;rintro e w2 ⟨rfl,hb2⟩;have HB2:Below w.heap.size w w2:=Below.then_ (by exact bel_) hb2;have hs2:=HB2.size;have bL2:=bL1.ext hb2;have kL2:=bL2.cell;have zL2:=bL2.lt;have bA2:=bA1.ext hb2;have kA2:=bA2.cell;have zA2:=bA2.lt;clear hb2 kL1 zL1 kA1 zA1) | (go_at_call 113;refine (r_soundZ l ⟨pA,pn,pc,rA,rn,rc,tA,tn,tc,sA,sn,sc⟩ kn _ HLB.out (HD.out.now (by exact bel_)) HSE.out).mono ?_;rintro e w3 ⟨B,Tc,A5,c5,rfl,hb3,hT3,hD3⟩;have HB3:Below w.heap.size w w3:=Below.then_ (by exact bel_) hb3;have hs3:=HB3.size;have bL3:=bL2.ext hb3;have kL3:=bL3.cell;have zL3:=bL3.lt;have bA3:=bA2.ext hb3;have kA3:=bA3.cell;have zA3:=bA3.lt;have HT3:=Lib.hid hT3;have HD3:=Lib.hid hD3;clear hb3 kL2 zL2 kA2 zA2 hT3 hD3))
 have HBV:Hid (BoxA (w3.alloc (.cells #[.slice pA pn pc,.slice rA rn rc,.slice tA tn tc,.slice sA sn sc,.int .i64 kn,.slice (some ⟨B,0,none⟩) tn Tc,.slice A5 tn c5] 127)) w3.heap.size 127 #[.slice pA pn pc,.slice rA rn rc,.slice tA tn tc,.slice sA sn sc,.int .i64 kn,.slice (some ⟨B,0,none⟩) tn Tc,.slice A5 tn c5]):=by show BoxA _ _ _ _;exact BoxA.new _ _ _
 have HBA3:=Lib.hid (bA3.alloc (.cells #[.slice pA pn pc,.slice rA rn rc,.slice tA tn tc,.slice sA sn sc,.int .i64 kn,.slice (some ⟨B,0,none⟩) tn Tc,.slice A5 tn c5] 127))
 have HW3:Below w.heap.size w (w3.alloc (.cells #[.slice pA pn pc,.slice rA rn rc,.slice tA tn tc,.slice sA sn sc,.int .i64 kn,.slice (some ⟨B,0,none⟩) tn Tc,.slice A5 tn c5] 127)):=by exact bel_
 obtain ⟨wv,hwv⟩:∃ wv,w3.alloc (.cells #[.slice pA pn pc,.slice rA rn rc,.slice tA tn tc,.slice sA sn sc,.int .i64 kn,.slice (some ⟨B,0,none⟩) tn Tc,.slice A5 tn c5] 127)=wv:=⟨_,rfl⟩
 have HT9:Hid (Sq QB 1 wv wv.heap.size (some ⟨B,0,none⟩) tn (tellK l kn l.rt.length)):=by show Sq _ _ _ _ _ _ _;rw [← hwv];exact HT3.out.now abB (by exact bel_)
 have HD9:Hid (Sq QF 2 wv wv.heap.size A5 tn (setP l kn)):=by show Sq _ _ _ _ _ _ _;rw [← hwv];exact HD3.out.now abF (by exact bel_)
 rw [hwv] at HBV HBA3 HW3
 have hsv:=HW3.size
 rw [hwv]
 clear hwv kL3 zL3 kA3 zA3
 go_loopw [10,11,12] (fun a b i wr=>∃ m:Nat,1≤m∧m≤n+1∧i=.int .i64 m∧∃ nf af:Bool,a=.bool nf∧b=.bool af∧nf=(!(List.range (m - 1)).all (canW l kn day pap))∧af=(List.range (m - 1)).all (oneW l kn day pap)∧Below wv.heap.size wv wr) (fun _ _ i _=>n+1 - (intOf i).toNat)
 case atStart=>exact ⟨1,Nat.le_refl _,by omega,rfl,false,true,rfl,rfl,rfl,rfl,Below.refl _ _⟩
 case round =>
  obtain ⟨m,hm1,hm,rfl,nf,af,rfl,rfl,hnf,haf,hQ⟩:=hrel
  have HNF:=Lib.hid hnf
  have HAF:=Lib.hid haf
  have bV:=HBV.out.ext hQ
  have kV:=bV.cell
  have zV:=bV.lt
  have bA:=HBA3.out.ext hQ
  have kA:=bA.cell
  have zA:=bA.lt
  have hBw:Below w.heap.size w wr:=HW3.trans (hQ.mono hsv)
  clear hnf haf bV bA
  by_cases hlt:m≤n
  ·have hme:((m - 1:Nat):Int)+1=(m:Int):=by omega
   go_wp2_with fail
   refine (r_whereV l ⟨⟨pA,pn,pc,rA,rn,rc,tA,tn,tc,sA,sn,sc⟩,kn,some ⟨B,0,none⟩,tn,Tc,A5,tn,c5⟩ pap m day wr HLO.out rfl rfl (HD.out.now hBw) (HT9.out.now abB hQ) (HD9.out.now abF hQ)).mono ?_
   rintro e w4 ⟨A9,n9,c9,rfl,hb4,hi9,hc9⟩
   have hQ4:=Below.then_ hQ hb4
   have hs4:=hQ4.size
   clear kV zV hb4
   obtain ⟨b,hb0,hwl | hwl | hwl⟩:=wh_cases HLB.out kn day pap m
   ·have hi9:Is w4 w4.heap.size A9 n9 [b]:=by rw [← hwl];exact hi9
    obtain rfl:n9=1:=hi9.len.symm
    have hbn:(b != 0)=true:=by simpa using hb0
    have hi:Is w4 w4.heap.size A9 1 [b]:=hi9
    obtain ⟨b9,o9,y9,rfl,hb9b,hy9,hc0⟩:=hi.at_ (k:=0) (by omega)
    obtain rfl:b=y9:=by simpa using hy9
    simp only [Nat.add_zero] at hc0
    have hcw:canW l kn day pap (m - 1)=false:=by rw [canW,hme,hwl];simp;exact fun h=>hb0 h.symm
    have hln:decide ((whL l kn day (pap,(m:Int))).length=1)=true:=by rw [hwl];rfl
    have hst:∀ nf af:Bool,nf=!(List.range (m - 1)).all (canW l kn day pap)→af=(List.range (m - 1)).all (oneW l kn day pap)→(nf || true)=!(List.range m).all (canW l kn day pap)∧(af && true)=(List.range m).all (oneW l kn day pap):=by
     intro nf af h1 h2
     rw [show m=m - 1+1 from by omega,rng_all,rng_all,h1,h2,hcw,oneW,hme,hln]
     simp
    have HST:=Lib.hid hst
    clear hst hcw hln hi hy9 hwl
    cases nf with
    | false =>
      cases af with
      | false =>
        have hs2:=HST.out false false HNF.out HAF.out
        have HS2:=Lib.hid hs2
        clear hs2
        go_wp2_with fail
        go_roundw
        case rel=>exact ⟨m+1,by omega,by omega,by go_num,_,_,rfl,rfl,HS2.out.1,HS2.out.2,hQ4⟩
        case measure=>exact ms_
      | true =>
        have hs2:=HST.out false true HNF.out HAF.out
        have HS2:=Lib.hid hs2
        clear hs2
        go_wp2_with fail
        go_roundw
        case rel=>exact ⟨m+1,by omega,by omega,by go_num,_,_,rfl,rfl,HS2.out.1,HS2.out.2,hQ4⟩
        case measure=>exact ms_
    | true =>
      cases af with
      | false =>
        have hs2:=HST.out true false HNF.out HAF.out
        have HS2:=Lib.hid hs2
        clear hs2
        go_wp2_with fail
        go_roundw
        case rel=>exact ⟨m+1,by omega,by omega,by go_num,_,_,rfl,rfl,HS2.out.1,HS2.out.2,hQ4⟩
        case measure=>exact ms_
      | true =>
        have hs2:=HST.out true true HNF.out HAF.out
        have HS2:=Lib.hid hs2
        clear hs2
        go_wp2_with fail
        go_roundw
        case rel=>exact ⟨m+1,by omega,by omega,by go_num,_,_,rfl,rfl,HS2.out.1,HS2.out.2,hQ4⟩
        case measure=>exact ms_
   ·have hi9:Is w4 w4.heap.size A9 n9 [0]:=by rw [← hwl];exact hi9
    obtain rfl:n9=1:=hi9.len.symm
    have hi:Is w4 w4.heap.size A9 1 [0]:=hi9
    obtain ⟨b9,o9,y9,rfl,hb9b,hy9,hc0⟩:=hi.at_ (k:=0) (by omega)
    obtain rfl:(0:Int)=y9:=by simpa using hy9
    simp only [Nat.add_zero] at hc0
    have hcw:canW l kn day pap (m - 1)=true:=by rw [canW,hme,hwl];simp
    have hln:decide ((whL l kn day (pap,(m:Int))).length=1)=true:=by rw [hwl];rfl
    have hst:∀ nf af:Bool,nf=!(List.range (m - 1)).all (canW l kn day pap)→af=(List.range (m - 1)).all (oneW l kn day pap)→(nf || false)=!(List.range m).all (canW l kn day pap)∧(af && true)=(List.range m).all (oneW l kn day pap):=by
     intro nf af h1 h2
     rw [show m=m - 1+1 from by omega,rng_all,rng_all,h1,h2,hcw,oneW,hme,hln]
     simp
    have HST:=Lib.hid hst
    clear hst hcw hln hi hy9 hwl
    cases nf with
    | false =>
      cases af with
      | false =>
        have hs2:=HST.out false false HNF.out HAF.out
        have HS2:=Lib.hid hs2
        clear hs2
        go_wp2_with fail
        go_roundw
        case rel=>exact ⟨m+1,by omega,by omega,by go_num,_,_,rfl,rfl,HS2.out.1,HS2.out.2,hQ4⟩
        case measure=>exact ms_
      | true =>
        have hs2:=HST.out false true HNF.out HAF.out
        have HS2:=Lib.hid hs2
        clear hs2
        go_wp2_with fail
        go_roundw
        case rel=>exact ⟨m+1,by omega,by omega,by go_num,_,_,rfl,rfl,HS2.out.1,HS2.out.2,hQ4⟩
        case measure=>exact ms_
    | true =>
      cases af with
      | false =>
        have hs2:=HST.out true false HNF.out HAF.out
        have HS2:=Lib.hid hs2
        clear hs2
        go_wp2_with fail
        go_roundw
        case rel=>exact ⟨m+1,by omega,by omega,by go_num,_,_,rfl,rfl,HS2.out.1,HS2.out.2,hQ4⟩
        case measure=>exact ms_
      | true =>
        have hs2:=HST.out true true HNF.out HAF.out
        have HS2:=Lib.hid hs2
        clear hs2
        go_wp2_with fail
        go_roundw
        case rel=>exact ⟨m+1,by omega,by omega,by go_num,_,_,rfl,rfl,HS2.out.1,HS2.out.2,hQ4⟩
        case measure=>exact ms_
   ·have hi9:Is w4 w4.heap.size A9 n9 [0,b]:=by rw [← hwl];exact hi9
    obtain rfl:n9=2:=hi9.len.symm
    have hi:Is w4 w4.heap.size A9 2 [0,b]:=hi9
    obtain ⟨b9,o9,y9,rfl,hb9b,hy9,hc0⟩:=hi.at_ (k:=0) (by omega)
    obtain rfl:(0:Int)=y9:=by simpa using hy9
    simp only [Nat.add_zero] at hc0
    have hcw:canW l kn day pap (m - 1)=true:=by rw [canW,hme,hwl];simp
    have hln:decide ((whL l kn day (pap,(m:Int))).length=1)=false:=by rw [hwl];rfl
    have hst:∀ nf af:Bool,nf=!(List.range (m - 1)).all (canW l kn day pap)→af=(List.range (m - 1)).all (oneW l kn day pap)→(nf || false)=!(List.range m).all (canW l kn day pap)∧(af && false)=(List.range m).all (oneW l kn day pap):=by
     intro nf af h1 h2
     rw [show m=m - 1+1 from by omega,rng_all,rng_all,h1,h2,hcw,oneW,hme,hln]
     simp
    have HST:=Lib.hid hst
    clear hst hcw hln hi hy9 hwl
    cases nf with
    | false =>
      cases af with
      | false =>
        have hs2:=HST.out false false HNF.out HAF.out
        have HS2:=Lib.hid hs2
        clear hs2
        go_wp2_with fail
        go_roundw
        case rel=>exact ⟨m+1,by omega,by omega,by go_num,_,_,rfl,rfl,HS2.out.1,HS2.out.2,hQ4⟩
        case measure=>exact ms_
      | true =>
        have hs2:=HST.out false true HNF.out HAF.out
        have HS2:=Lib.hid hs2
        clear hs2
        go_wp2_with fail
        go_roundw
        case rel=>exact ⟨m+1,by omega,by omega,by go_num,_,_,rfl,rfl,HS2.out.1,HS2.out.2,hQ4⟩
        case measure=>exact ms_
    | true =>
      cases af with
      | false =>
        have hs2:=HST.out true false HNF.out HAF.out
        have HS2:=Lib.hid hs2
        clear hs2
        go_wp2_with fail
        go_roundw
        case rel=>exact ⟨m+1,by omega,by omega,by go_num,_,_,rfl,rfl,HS2.out.1,HS2.out.2,hQ4⟩
        case measure=>exact ms_
      | true =>
        have hs2:=HST.out true true HNF.out HAF.out
        have HS2:=Lib.hid hs2
        clear hs2
        go_wp2_with fail
        go_roundw
        case rel=>exact ⟨m+1,by omega,by omega,by go_num,_,_,rfl,rfl,HS2.out.1,HS2.out.2,hQ4⟩
        case measure=>exact ms_
  ·have hme:m=n+1:=by omega
   subst hme
   have HR:Hid (ansR nf af=(wholeX l pap day kn).1∧(wholeX l pap day kn).2=0):=by show _∧_;rw [HX.out,HNF.out,HAF.out];exact ⟨rfl,rfl⟩
   clear kV zV kA zA
   go_wp2_with (go_at_call 129;refine (r_answer nf af _).mono ?_;rintro e w1 ⟨rfl,rfl⟩)
   go_ret2
   rw [HR.out.1,HR.out.2]
   exact ⟨rfl,hBw⟩
end Go.Proofs.YtoiompoapikkbaaGreat
/- Layer 2, the reference: Days. -/
namespace Go.Proofs.YtoiompoapikkbaaGreat
open Go.RowKit Go.Maps
def atK (l:Led) (kn src:Int):Nat→Option Nat
 | 0=>none
 | k+1=>if (tellK l kn l.rt.length)[k]?=some true∧(l.rt.map Rtn.src)[k]?=some src then some k else atK l kn src k
theorem atK_some {l:Led} {kn src:Int}:∀ {k i:Nat},atK l kn src k=some i→i<k∧(tellK l kn l.rt.length)[i]?=some true∧(l.rt.map Rtn.src)[i]?=some src
 | 0,i,h=>by cases h
 | k+1,i,h=>by
   rw [atK] at h
   split at h
   ·rename_i hc
    cases h
    exact ⟨Nat.lt_succ_self _,hc⟩
   ·obtain ⟨h1,h2⟩:=atK_some h
    exact ⟨Nat.lt_succ_of_lt h1,h2⟩
theorem atK_none {l:Led} {kn src:Int}:∀ {k:Nat},atK l kn src k=none→∀ i,i<k→¬ ((tellK l kn l.rt.length)[i]?=some true∧(l.rt.map Rtn.src)[i]?=some src)
 | 0,_,i,hi=>absurd hi (Nat.not_lt_zero _)
 | k+1,h,i,hi=>by
   rw [atK] at h
   split at h
   ·cases h
   ·rename_i hc
    by_cases hik:i=k
    ·subst hik
     exact hc
    ·exact atK_none h i (by omega)
theorem rt_nodup {l:Led} (h:ledB l=true):(l.rt.map Rtn.src).Nodup:=by
 simp only [ledB,Bool.and_eq_true,decide_eq_true_eq] at h
 have h5:=h.2.2.2.2.1
 rw [srcL] at h5
 exact h5.sublist ((List.sublist_append_left _ _).trans (List.sublist_append_right _ _))
theorem nodup_ix {xs:List Int} (h:xs.Nodup) {i j:Nat} {x:Int} (hi:xs[i]?=some x) (hj:xs[j]?=some x):i=j:=by
 obtain ⟨h1,h2⟩:=List.getElem?_eq_some_iff.1 hi
 obtain ⟨h3,h4⟩:=List.getElem?_eq_some_iff.1 hj
 have hp:=List.pairwise_iff_getElem.1 h
 rcases Nat.lt_trichotomy i j with hlt | he | hlt
 ·exact absurd (h2.trans h4.symm) (hp i j h1 h3 hlt)
 ·exact he
 ·exact absurd (h4.trans h2.symm) (hp j i h3 h1 hlt)
theorem find_src {l:List Rtn} {src:Int} {i:Nat} (h:l.findIdx? (fun t=>t.src == src)=some i):(l.map Rtn.src)[i]?=some src:=by
 obtain ⟨h1,h2,-⟩:=List.findIdx?_eq_some_iff_getElem.1 h
 rw [List.getElem?_map,List.getElem?_eq_getElem h1]
 simpa using h2
theorem find_none {l:List Rtn} {src:Int} {i:Nat} (h:l.findIdx? (fun t=>t.src == src)=none):(l.map Rtn.src)[i]?≠some src:=by
 intro hc
 rw [List.getElem?_map] at hc
 cases hx:l[i]? with
 | none=>rw [hx] at hc;cases hc
 | some t =>
   rw [hx] at hc
   have h1:=List.findIdx?_eq_none_iff.1 h t (List.mem_of_getElem? hx)
   simp at hc h1
   exact h1 hc
theorem at_ref {l:Led} (h:ledB l=true) (kn src:Int):retE l src kn=(if preE l [kn]=0 then (match atK l kn src l.rt.length with
 | none=>3
 | some _=>setE l kn) else preE l [kn])∧∀ i,atK l kn src l.rt.length=some i→l.rt.findIdx? (fun t=>t.src == src)=some i:=by
 cases hf:l.rt.findIdx? (fun t=>t.src == src) with
 | none =>
   cases ha:atK l kn src l.rt.length with
   | none=>exact ⟨by rw [retE,hf],fun i hi=>by cases hi⟩
   | some i=>exact absurd (atK_some ha).2.2 (find_none hf)
 | some j =>
   have hj:=find_src hf
   have hjl:j<l.rt.length:=(List.findIdx?_eq_some_iff_getElem.1 hf).1
   cases ha:atK l kn src l.rt.length with
   | none =>
     refine ⟨?_,fun i hi=>by cases hi⟩
     rw [retE,hf]
     have h1:¬ (tellK l kn l.rt.length)[j]?=some true:=fun hc=>atK_none ha j hjl ⟨hc,hj⟩
     simp only [opn_tell,if_neg h1]
   | some i =>
     obtain ⟨h1,h2,h3⟩:=atK_some ha
     obtain rfl:=nodup_ix (rt_nodup h) hj h3
     refine ⟨?_,fun i hi=>by cases hi;rfl⟩
     rw [retE,hf]
     simp only [opn_tell,if_pos h2]
set_option maxRecDepth 10000 in
set_option maxHeartbeats 8000000 in
theorem r_Days (l:Led) (x:Lsl) (day kn pap leaf per src:Int) (w:World) (hf:x.fit) (hd:LedIn w w.heap.size x l) :
 Calls Tryz.prog 35 #[.agg #[.slice x.pA x.pn x.pc,.slice x.rA x.rn x.rc,.slice x.tA x.tn x.tc,.slice x.sA x.sn x.sc],.agg #[.int .i64 day,.int .i64 kn,.int .i64 pap,.int .i64 leaf,.int .i64 per,.int .i64 src]] w (fun e w'=>e=.returned (.tuple #[.agg #[.int .i64 (daysX l src kn).1.1,.int .i64 (daysX l src kn).1.2],.int .i64 (daysX l src kn).2])∧Below w.heap.size w w'):=by
 obtain ⟨pA,pn,pc,rA,rn,rc,tA,tn,tc,sA,sn,sc⟩:=x
 have htl:l.rt.length=tn:=hd.t.len
 have HTL:=Lib.hid htl
 have HRT:Hid (Rts w w.heap.size tA tn l.rt):=by show Sq _ _ _ _ _ _ _;exact hd.t
 have HD:=Lib.hid hd
 have HF:=Lib.hid hf
 clear hd hf htl
 have B3:=box3 w 27 62 34 #[.slice pA pn pc,.slice rA rn rc,.slice tA tn tc,.slice sA sn sc] #[.int .i64 day,.int .i64 kn,.int .i64 pap,.int .i64 leaf,.int .i64 per,.int .i64 src] #[.int .i64 0,.int .i64 0]
 have BL0:=Lib.hid B3.1
 have BA0:=Lib.hid B3.2.1
 have BZ0:=Lib.hid B3.2.2
 clear B3
 obtain ⟨v,hv⟩:∃ v,preE l [kn]=v:=⟨_,rfl⟩
 have HV:=Lib.hid hv
 by_cases hv0:v=0
 rotate_left
 ·have hres:daysX l src kn=((0,0),v):=by
   have h:retE l src kn=v:=by rw [retE,if_neg (by rw [hv];exact hv0),hv]
   rw [daysX,if_neg (by rw [h];exact hv0),h]
  rw [hres]
  have hv1:(v != 0)=true:=by simpa using hv0
  clear hres hv hv0
  go_enter Tryz.func35,Tryz.ntmps35
  go_wp2_with (go_at_call 102;refine (r_asked_v l ⟨pA,pn,pc,rA,rn,rc,tA,tn,tc,sA,sn,sc⟩ [kn] v _ 1 1 _ HF.out (HD.out.now (by exact bel_)) (by decide) (Rd.new _ #[.int .i64 kn] _ 1 1 _ (by simp) rfl) HV.out).mono ?_;rintro e w1 ⟨rfl,hb1⟩;have HB1:Below w.heap.size w w1:=Below.then_ (by exact bel_) hb1;have hs1:=HB1.size;have bL1:=(BL0.out.alloc _).ext hb1;have kL1:=bL1.cell;have zL1:=bL1.lt;have bA1:=(BA0.out.alloc _).ext hb1;have kA1:=bA1.cell;have zA1:=bA1.lt;have bZ1:=(BZ0.out.alloc _).ext hb1;have kZ1:=bZ1.cell;have zZ1:=bZ1.lt;have fZ1:=bZ1.frozen;clear hb1)
  refine bodyPost_ret (v:=.tuple #[.agg #[.int .i64 0,.int .i64 0],.int .i64 v]) ?_ rfl ?_
  ·(simp [results,Tryz.f35,go_sem];try go_simp)
  ·exact ⟨rfl,by exact bel_⟩
 subst hv0
 have hlb:=(pre_zero hv).1
 have HLB:=Lib.hid hlb
 have HLO:=Lib.hid (led_ok hlb)
 have htn6:tn≤60:=by have h1:=HLO.out.tn;have h2:=HTL.out;omega
 have hat:=at_ref hlb kn src
 rw [if_pos hv] at hat
 have HAT:=Lib.hid hat
 clear hv hlb hat
 go_enter Tryz.func35,Tryz.ntmps35
 go_wp2_with (first | (go_at_call 102;refine (r_asked_v l ⟨pA,pn,pc,rA,rn,rc,tA,tn,tc,sA,sn,sc⟩ [kn] 0 _ 1 1 _ HF.out (HD.out.now (by exact bel_)) (by decide) (Rd.new _ #[.int .i64 kn] _ 1 1 _ (by simp) rfl) HV.out).mono ?_;rintro e w1 ⟨rfl,hb1⟩;have HB1:Below w.heap.size w w1:=Below.then_ (by exact bel_) hb1;have hs1:=HB1.size;have bL1:=(BL0.out.alloc _).ext hb1;have kL1:=bL1.cell;have zL1:=bL1.lt;have bA1:=(BA0.out.alloc _).ext hb1;have kA1:=bA1.cell;have zA1:=bA1.lt;have bZ1:=(BZ0.out.alloc _).ext hb1;have kZ1:=bZ1.cell;have zZ1:=bZ1.lt;have fZ1:=bZ1.frozen;clear hb1) | (go_at_call 103;refine (r_telling l ⟨pA,pn,pc,rA,rn,rc,tA,tn,tc,sA,sn,sc⟩ kn _ HLO.out (HD.out.now (by exact bel_))).mono ?_;rintro e w2 ⟨BT,cT,rfl,hb2,hBT,hBge⟩;have HB2:Below w.heap.size w w2:=Below.then_ (by exact bel_) hb2;have hs2:=HB2.size;have bL2:=bL1.ext hb2;have bA2:=bA1.ext hb2;have bZ2:=bZ1.ext hb2;clear hb2 kZ1 zZ1 fZ1 kL1 zL1 kA1 zA1))
 have HT2:Hid (Sq QB 1 w2 w2.heap.size (some ⟨BT,0,none⟩) tn (tellK l kn l.rt.length)):=by show Sq _ _ _ _ _ _ _;exact hBT.sqT (by rw [tellK_len,HTL.out]) hBT.lt
 have HBL:=Lib.hid bL2
 have HBA:=Lib.hid bA2
 have HBZ:=Lib.hid bZ2
 clear bL2 bA2 bZ2 hBT hBge
 obtain ⟨wv,rfl⟩:∃ wv,wv=w2:=⟨_,rfl⟩
 go_loopw [8,9] (fun a i wr=>∃ k:Nat,k≤tn∧i=.int .i64 k∧a=.int .i64 (ixI (atK l kn src k))∧Below wv.heap.size wv wr) (fun _ i _=>tn - (intOf i).toNat)
 case atStart=>exact ⟨0,by omega,rfl,rfl,Below.refl _ _⟩
 case round =>
  obtain ⟨k,hk,rfl,rfl,hQ⟩:=hrel
  have hBw:Below w.heap.size w wr:=HB2.trans (hQ.mono hs2)
  have hsw:=hBw.size
  have hsq:=hQ.size
  have bL:=HBL.out.ext hQ
  have bA:=HBA.out.ext hQ
  have kL:=bL.cell
  have zL:=bL.lt
  have kA:=bA.cell
  have zA:=bA.lt
  by_cases hlt:k<tn
  ·obtain ⟨bT,oT,tl,hBe,hbT,htT,q0⟩:=(HT2.out.now abB hQ).at_ hlt
   obtain ⟨e1,e2⟩:BT=bT∧0=oT:=by simpa using hBe
   rw [← e1] at hbT
   have q0:wr.cell? ⟨BT,k,none⟩=some (.bool tl):=by
    have h:wr.cell? ⟨bT,oT+k*1,none⟩=some (.bool tl):=q0
    rw [← e1,← e2,Nat.mul_one,Nat.zero_add] at h
    exact h
   clear e1 e2
   obtain ⟨b,o,t,rfl,hb,hx,A2,n2,c2,⟨h0,-,-,-,-,-,-,-⟩,-,-,-⟩:=(HRT.out.now abT hBw).at_ hlt
   have hsx:(l.rt.map Rtn.src)[k]?=some t.src:=by rw [List.getElem?_map,hx];rfl
   obtain ⟨q,hq⟩:∃ q,ixI (atK l kn src k)=q:=⟨_,rfl⟩
   rw [hq]
   cases tl with
   | false =>
     have HN:Hid (ixI (atK l kn src (k+1))=q):=by
      show _=_
      rw [atK,if_neg (by rintro ⟨h1,-⟩;rw [htT] at h1;cases h1),hq]
     clear hq hx hsx htT hBe
     go_wp2_with fail
     (refine rg_ ?_;(repeat (go_big_quiet_step (fail)));refine qn_ fun w1 hb1 hc1 hf1=>?_)
     go_wp2_with fail
     go_roundw
     case rel=>exact ⟨k+1,by omega,by go_num,by rw [HN.out],hQ.trans (hb1.mono hsq)⟩
     case measure=>exact ms_
   | true =>
     cases hs:(t.src == src) with
     | false =>
       have hs':¬ t.src=src:=by simpa using hs
       have HN:Hid (ixI (atK l kn src (k+1))=q):=by
        show _=_
        rw [atK,if_neg (by rintro ⟨-,h1⟩;rw [hsx] at h1;exact hs' (Option.some.inj h1)),hq]
       clear hq hx hsx htT hBe hs'
       go_wp2_with fail
       (refine rg_ ?_;(repeat (go_big_quiet_step (fail)));refine qn_ fun w1 hb1 hc1 hf1=>?_)
       go_wp2_with fail
       go_roundw
       case rel=>exact ⟨k+1,by omega,by go_num,by rw [HN.out],hQ.trans (hb1.mono hsq)⟩
       case measure=>exact ms_
     | true =>
       have hs':t.src=src:=by simpa using hs
       have HN:Hid (ixI (atK l kn src (k+1))=(k:Int)):=by
        show _=_
        rw [atK,if_pos ⟨htT,by rw [hsx,hs']⟩];rfl
       clear hq hx hsx htT hBe hs'
       go_wp2_with fail
       (refine rg_ ?_;(repeat (go_big_quiet_step (fail)));refine qn_ fun w1 hb1 hc1 hf1=>?_)
       go_wp2_with fail
       go_roundw
       case rel=>exact ⟨k+1,by omega,by go_num,by rw [HN.out],hQ.trans (hb1.mono hsq)⟩
       case measure=>exact ms_
  ·obtain rfl:k=tn:=by omega
   have bZ:=HBZ.out.ext hQ
   have kZ:=bZ.cell
   have zZ:=bZ.lt
   have fZ:=bZ.frozen
   have HZ0:=Lib.hid bZ
   have HL0:=Lib.hid bL
   have HA0:=Lib.hid bA
   have HBW:=Lib.hid hBw
   clear bZ bL bA
   obtain ⟨o,ho⟩:∃ o,atK l kn src l.rt.length=o:=⟨_,rfl⟩
   have hok:atK l kn src k=o:=by rw [← ho,HTL.out]
   rw [hok]
   have hat:=HAT.out
   rw [ho] at hat
   cases o with
   | none =>
     have hres:daysX l src kn=((0,0),3):=by
      have h:retE l src kn=3:=hat.1
      rw [daysX,if_neg (by rw [h];decide),h]
     have HRES:=Lib.hid hres
     simp only [ixI]
     clear hat hres ho hok
     have hneg:decide ((-1:Int)<0)=true:=by decide
     go_wp2_with fail
     refine bodyPost_ret (v:=.tuple #[.agg #[.int .i64 0,.int .i64 0],.int .i64 3]) ?_ rfl ?_
     ·(simp [results,Tryz.f35,go_sem];try go_simp)
     ·exact ⟨by rw [HRES.out],by have:=HBW.out;exact bel_⟩
   | some i =>
     have hrt:retE l src kn=setE l kn:=hat.1
     have HFI:=Lib.hid (hat.2 i rfl)
     have hil:i<k:=by have h:=(List.findIdx?_eq_some_iff_getElem.1 HFI.out).1;have h2:=HTL.out;omega
     have hin:decide ((i:Int)<0)=false:=by simp
     obtain ⟨se,hse⟩:∃ se,setE l kn=se:=⟨_,rfl⟩
     have HSE:=Lib.hid hse
     rw [hse] at hrt
     simp only [ixI]
     clear hat ho hok hse
     by_cases hs0:se=0
     ·subst hs0
      have hres:daysX l src kn=((setP l kn).getD i (0,0),0):=by rw [daysX,if_pos hrt,HFI.out,Option.getD_some]
      have HRES:=Lib.hid hres
      clear hres hrt
      go_wp2_with (go_at_call 113;refine (r_soundZ l ⟨pA,pn,pc,rA,rn,rc,tA,k,tc,sA,sn,sc⟩ kn _ HLB.out (HD.out.now (by exact bel_)) HSE.out).mono ?_;rintro e w3 ⟨B,Tc,A5,c5,rfl,hb3,hT3,hD3⟩;have HB3:Below w.heap.size w w3:=Below.then_ (by exact bel_) hb3;have hs3:=HB3.size;have bZ3:=HZ0.out.ext hb3;have kZ3:=bZ3.cell;have zZ3:=bZ3.lt;have fZ3:=bZ3.frozen;obtain ⟨b,o,d,rfl,hb,hdi,q0,q1⟩:=hD3.at_ hil;have HDI:=Lib.hid hdi;clear hb3 hT3 hD3 hdi kZ zZ fZ kL zL kA zA)
      have hval:(setP l kn).getD i (0,0)=d:=by rw [List.getD_eq_getElem?_getD,HDI.out];rfl
      have HVAL:=Lib.hid hval
      clear hval
      refine bodyPost_ret (v:=.tuple #[.agg #[.int .i64 d.1,.int .i64 d.2],.int .i64 0]) ?_ rfl ?_
      ·(simp [results,Tryz.f35,go_sem];try go_simp)
      ·exact ⟨by rw [HRES.out,HVAL.out],by exact bel_⟩
     ·have hres:daysX l src kn=((0,0),se):=by rw [daysX,if_neg (by rw [hrt];exact hs0),hrt]
      have HRES:=Lib.hid hres
      have hs1:(se != 0)=true:=by simpa using hs0
      clear hres hrt hs0
      go_wp2_with (go_at_call 113;refine (r_soundE l ⟨pA,pn,pc,rA,rn,rc,tA,k,tc,sA,sn,sc⟩ kn se _ HLB.out (HD.out.now (by exact bel_)) HSE.out).mono ?_;rintro e w3 ⟨B,Tc,AD,nD,cD,rfl,hb3⟩;have HB3:Below w.heap.size w w3:=Below.then_ (by exact bel_) hb3;have hs3:=HB3.size;have bZ3:=HZ0.out.ext hb3;have kZ3:=bZ3.cell;have zZ3:=bZ3.lt;have fZ3:=bZ3.frozen;clear hb3 kZ zZ fZ kL zL kA zA)
      refine bodyPost_ret (v:=.tuple #[.agg #[.int .i64 0,.int .i64 0],.int .i64 se]) ?_ rfl ?_
      ·(simp [results,Tryz.f35,go_sem];try go_simp)
      ·exact ⟨by rw [HRES.out],by exact bel_⟩
end Go.Proofs.YtoiompoapikkbaaGreat
