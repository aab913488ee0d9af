/- Layer 2 of the texts that LoanWheres takes: Ubvq. -/
import Derived.Test.YtoiompoapikkbaaGreatUbtq
set_option linter.unusedVariables false
set_option linter.unusedSimpArgs false
/- Layer 2, the reference: Lies. -/
namespace Go.Proofs.YtoiompoapikkbaaGreat
open Go.RowKit Go.Maps
def outK (P:List (Int × Int)) (day:Int):Option Nat→Bool
 | none=>true
 | some k=>decide ((P.getD k (0,0)).1>day)
def bckK (P:List (Int × Int)) (day:Int):Option Nat→Bool
 | none=>false
 | some k=>decide ((P.getD k (0,0)).2≤day)
theorem lieO_ref (l:Led) (kn day:Int) (r:Rcp) (leaf:Int):(!lieO l kn day r leaf)=bckK (setP l kn) day (rtIx (tellK l kn l.rt.length) l.rt r.src leaf):=by
 rw [lieO,opn_rt,opn_tell]
 cases rtIx (tellK l kn l.rt.length) l.rt r.src leaf with
 | none=>rfl
 | some k=>rw [Bool.eq_iff_iff];simp [bckK]
theorem lieB_ref (l:Led) (kn day:Int) (r:Rcp) (leaf:Int):(!lieB l kn day r leaf)=outK (setP l kn) day (rtIx (tellK l kn l.rt.length) l.rt r.src leaf):=by
 rw [lieB,opn_rt,opn_tell]
 cases rtIx (tellK l kn l.rt.length) l.rt r.src leaf with
 | none=>rfl
 | some k=>rw [Bool.eq_iff_iff];simp [outK]
theorem any_nall {α:Type} {p:α→Bool} (xs:List α):xs.any (fun x=>!p x)=!xs.all p:=by
 induction xs with
 | nil=>rfl
 | cons x xs ih=>rw [List.any_cons,List.all_cons,ih,Bool.not_and]
theorem all_nany {α:Type} {p:α→Bool} (xs:List α):xs.all (fun x=>!p x)=!xs.any p:=by
 induction xs with
 | nil=>rfl
 | cons x xs ih=>rw [List.any_cons,List.all_cons,ih,Bool.not_or]
theorem ans_lies (l:Led) (kn day:Int) (r:Rcp):ansR (r.lv.all fun x=>!lieO l kn day r x) (r.lv.any fun x=>!lieB l kn day r x)=ansI (r.lv.any (lieO l kn day r)) (r.lv.all (lieB l kn day r)):=by
 rw [all_nany,any_nall]
 unfold ansR ansI
 cases r.lv.any (lieO l kn day r) <;> cases r.lv.all (lieB l kn day r) <;> rfl
set_option maxRecDepth 100000 in
set_option maxHeartbeats 16000000 in
theorem r_Lies (l:Led) (x:Lsl) (day kn pap leaf per src:Int) (w:World) (hf:x.fit) (hd:LedIn w w.heap.size x l) :
 Calls Tryz.prog 41 #[.agg #[.slice x.pA x.pn x.pc,.slice x.rA x.rn x.rc,.slice x.tA x.tn x.tc,.slice x.sA x.sn x.sc],.agg #[.int .i64 day,.int .i64 kn,.int .i64 pap,.int .i64 leaf,.int .i64 per,.int .i64 src]] w (fun e w'=>e=.returned (.tuple #[.int .i64 (liesX l src day kn).1,.int .i64 (liesX l src day kn).2])∧Below w.heap.size w w'):=by
 obtain ⟨pA,pn,pc,rA,rn,rc,tA,tn,tc,sA,sn,sc⟩:=x
 have HRR:Hid (Rcs w w.heap.size rA rn l.rc):=by show Sq _ _ _ _ _ _ _;exact hd.r
 have htl:l.rt.length=tn:=hd.t.len
 have HTL:=Lib.hid htl
 have HD:=Lib.hid hd
 have HF:=Lib.hid hf
 clear hd hf htl
 obtain ⟨v,hv⟩:∃ v,preE l [day,kn]=v:=⟨_,rfl⟩
 have HV:=Lib.hid hv
 by_cases hv0:v=0
 rotate_left
 ·have hres:liesX l src day kn=(0,v):=by rw [liesX,if_neg (by rw [hv];exact hv0),hv]
  rw [hres]
  have hv1:(v != 0)=true:=by simpa using hv0
  have B2:=box2 w 27 62 #[.slice pA pn pc,.slice rA rn rc,.slice tA tn tc,.slice sA sn sc] #[.int .i64 day,.int .i64 kn,.int .i64 pap,.int .i64 leaf,.int .i64 per,.int .i64 src]
  have BL0:=Lib.hid B2.1
  have BA0:=Lib.hid B2.2
  clear hres hv hv0 B2
  go_enter Tryz.func41,Tryz.ntmps41
  go_wp2_with (go_at_call 102;refine (r_asked_v l ⟨pA,pn,pc,rA,rn,rc,tA,tn,tc,sA,sn,sc⟩ [day,kn] v _ 2 2 _ HF.out (HD.out.now (by exact bel_)) (by decide) (Rd.new _ #[.int .i64 day,.int .i64 kn] _ 1 2 _ (by simp) rfl) HV.out).mono ?_;rintro e w1 ⟨rfl,hb1⟩;have HB1:Below w.heap.size w w1:=Below.then_ (by exact bel_) hb1;have hs1:=HB1.size;have bL1:=(BL0.out.alloc _).ext hb1;have kL1:=bL1.cell;have zL1:=bL1.lt;have bA1:=(BA0.out.alloc _).ext hb1;have kA1:=bA1.cell;have zA1:=bA1.lt;clear hb1)
  go_ret2
  exact ⟨rfl,by exact bel_⟩
 subst hv0
 have hlb:=(pre_zero hv).1
 have HLB:=Lib.hid hlb
 have HLO:=Lib.hid (led_ok hlb)
 have hrn6:rn≤1000000:=by have h:=HRR.out.len;have h2:=HLO.out.rn;omega
 have htn6:tn≤1000000:=by have h:=HTL.out;have h2:=HLO.out.tn;omega
 have hfr:findR (cntR l kn) src=(rcIx l.rc src kn).bind fun k=>l.rc[k]?:=findR_cnt l kn src
 cases hq:rcIx l.rc src kn with
 | none =>
   rw [hq] at hfr
   have hfr:findR (cntR l kn) src=none:=hfr
   have hres:liesX l src day kn=(0,3):=by rw [liesX,if_pos hv,hfr]
   rw [hres]
   have HRI:Hid (ixI (rcIx l.rc src kn)=-1):=by show _=_;rw [hq];rfl
   have hneg:decide ((-1:Int)<0)=true:=by decide
   have B2:=box2 w 27 62 #[.slice pA pn pc,.slice rA rn rc,.slice tA tn tc,.slice sA sn sc] #[.int .i64 day,.int .i64 kn,.int .i64 pap,.int .i64 leaf,.int .i64 per,.int .i64 src]
   have BL0:=Lib.hid B2.1
   have BA0:=Lib.hid B2.2
   clear hres hv hq hfr hlb B2
   go_enter Tryz.func41,Tryz.ntmps41
   go_wp2_with (first | (go_at_call 102;refine (r_asked_v l ⟨pA,pn,pc,rA,rn,rc,tA,tn,tc,sA,sn,sc⟩ [day,kn] 0 _ 2 2 _ HF.out (HD.out.now (by exact bel_)) (by decide) (Rd.new _ #[.int .i64 day,.int .i64 kn] _ 1 2 _ (by simp) rfl) HV.out).mono ?_;rintro e w1 ⟨rfl,hb1⟩;have HB1:Below w.heap.size w w1:=Below.then_ (by exact bel_) hb1;have hs1:=HB1.size;have bL1:=(BL0.out.alloc _).ext hb1;have kL1:=bL1.cell;have zL1:=bL1.lt;have bA1:=(BA0.out.alloc _).ext hb1;have kA1:=bA1.cell;have zA1:=bA1.lt;clear hb1) | (go_at_call 116;refine (r_receiptOf_v l ⟨pA,pn,pc,rA,rn,rc,tA,tn,tc,sA,sn,sc⟩ src kn (-1) _ hrn6 (HD.out.now (by exact bel_)) HRI.out).mono ?_;rintro e w2 ⟨rfl,hb2⟩;have HB2:Below w.heap.size w w2:=Below.then_ (by exact bel_) hb2;have hs2:=HB2.size;have bL2:=bL1.ext hb2;have kL2:=bL2.cell;have zL2:=bL2.lt;have bA2:=bA1.ext hb2;have kA2:=bA2.cell;have zA2:=bA2.lt;clear hb2 kL1 zL1 kA1 zA1))
   go_ret2
   exact ⟨rfl,by exact bel_⟩
 | some ix =>
   obtain ⟨r,hr,hrs,hrc⟩:=rcIx_some hq
   have hfr:findR (cntR l kn) src=some r:=by rw [hfr,hq];exact hr
   have hix:ix<rn:=by rw [← HRR.out.len];exact (List.getElem?_eq_some_iff.1 hr).1
   obtain ⟨br,or_,r',rfl,hbr,hrx,A1,n1,c1,⟨g0,g1,g2,g3,g4,g5,g6⟩,gi,gc,gm⟩:=HRR.out.at_ hix
   obtain rfl:r=r':=Option.some.inj (hr.symm.trans hrx)
   have HG:=Lib.hid (And.intro g0 (And.intro g1 (And.intro g2 (And.intro g3 (And.intro g4 (And.intro g5 g6))))))
   have HRX:=Lib.hid hr
   have HRI:Hid (ixI (rcIx l.rc src kn)=(ix:Int)):=by show _=_;rw [hq];rfl
   have hixn:decide ((ix:Int)<0)=false:=by simp
   have hn1:n1≤30:=by have h:=gi.len;have h2:=(HLO.out.rc r (List.mem_of_getElem? hr)).1;omega
   have HLV:Hid (Is w w.heap.size A1 n1 r.lv):=by show Is _ _ _ _ _;exact gi
   have B2:=box2 w 27 62 #[.slice pA pn pc,.slice (some ⟨br,or_,none⟩) rn rc,.slice tA tn tc,.slice sA sn sc] #[.int .i64 day,.int .i64 kn,.int .i64 pap,.int .i64 leaf,.int .i64 per,.int .i64 src]
   have BL0:=Lib.hid B2.1
   have BA0:=Lib.hid B2.2
   obtain ⟨se,hse⟩:∃ se,setE l kn=se:=⟨_,rfl⟩
   have HSE:=Lib.hid hse
   by_cases hs0:se=0
   rotate_left
   ·have hres:liesX l src day kn=(0,se):=by simp only [liesX,if_pos hv,hfr,hse,if_neg hs0]
    rw [hres]
    have hs1:(se != 0)=true:=by simpa using hs0
    clear hres hv hq hfr hlb B2 hr hrx hrs hrc g0 g1 g2 g3 g4 g5 g6 gi gc gm hse hs0
    go_enter Tryz.func41,Tryz.ntmps41
    go_wp2_with (first | (go_at_call 102;refine (r_asked_v l ⟨pA,pn,pc,some ⟨br,or_,none⟩,rn,rc,tA,tn,tc,sA,sn,sc⟩ [day,kn] 0 _ 2 2 _ HF.out (HD.out.now (by exact bel_)) (by decide) (Rd.new _ #[.int .i64 day,.int .i64 kn] _ 1 2 _ (by simp) rfl) HV.out).mono ?_;rintro e w1 ⟨rfl,hb1⟩;have HB1:Below w.heap.size w w1:=Below.then_ (by exact bel_) hb1;have hs1:=HB1.size;have bL1:=(BL0.out.alloc _).ext hb1;have kL1:=bL1.cell;have zL1:=bL1.lt;have bA1:=(BA0.out.alloc _).ext hb1;have kA1:=bA1.cell;have zA1:=bA1.lt;clear hb1) | (go_at_call 116;refine (r_receiptOf_v l ⟨pA,pn,pc,some ⟨br,or_,none⟩,rn,rc,tA,tn,tc,sA,sn,sc⟩ src kn ix _ hrn6 (HD.out.now (by exact bel_)) HRI.out).mono ?_;rintro e w2 ⟨rfl,hb2⟩;have HB2:Below w.heap.size w w2:=Below.then_ (by exact bel_) hb2;have hs2:=HB2.size;have bL2:=bL1.ext hb2;have kL2:=bL2.cell;have zL2:=bL2.lt;have bA2:=bA1.ext hb2;have kA2:=bA2.cell;have zA2:=bA2.lt;clear hb2 kL1 zL1 kA1 zA1) | (go_at_call 113;refine (r_soundE l ⟨pA,pn,pc,some ⟨br,or_,none⟩,rn,rc,tA,tn,tc,sA,sn,sc⟩ kn se _ HLB.out (HD.out.now (by exact bel_)) HSE.out).mono ?_;rintro e w3 ⟨B,Tc,AD,nD,cD,rfl,hb3⟩;have HB3:Below w.heap.size w w3:=Below.then_ (by exact bel_) hb3;have hs3:=HB3.size))
    go_ret2
    exact ⟨rfl,by exact bel_⟩
   subst hs0
   cases hday:decide (r.day>day) with
   | true =>
     have hres:liesX l src day kn=(0,0):=by
      have h:day<r.day:=of_decide_eq_true hday
      simp only [liesX,if_pos hv,hfr,hse,if_true,if_pos h]
     rw [hres]
     clear hres hv hq hfr hlb B2 hr hrx hrs hrc g0 g1 g2 g3 g4 g5 g6 gi gc gm hse
     go_enter Tryz.func41,Tryz.ntmps41
     go_wp2_with (first | (go_at_call 102;refine (r_asked_v l ⟨pA,pn,pc,some ⟨br,or_,none⟩,rn,rc,tA,tn,tc,sA,sn,sc⟩ [day,kn] 0 _ 2 2 _ HF.out (HD.out.now (by exact bel_)) (by decide) (Rd.new _ #[.int .i64 day,.int .i64 kn] _ 1 2 _ (by simp) rfl) HV.out).mono ?_;rintro e w1 ⟨rfl,hb1⟩;have HB1:Below w.heap.size w w1:=Below.then_ (by exact bel_) hb1;have hs1:=HB1.size;have bL1:=(BL0.out.alloc _).ext hb1;have kL1:=bL1.cell;have zL1:=bL1.lt;have bA1:=(BA0.out.alloc _).ext hb1;have kA1:=bA1.cell;have zA1:=bA1.lt;clear hb1) | (go_at_call 116;refine (r_receiptOf_v l ⟨pA,pn,pc,some ⟨br,or_,none⟩,rn,rc,tA,tn,tc,sA,sn,sc⟩ src kn ix _ hrn6 (HD.out.now (by exact bel_)) HRI.out).mono ?_;rintro e w2 ⟨rfl,hb2⟩;have HB2:Below w.heap.size w w2:=Below.then_ (by exact bel_) hb2;have hs2:=HB2.size;have bL2:=bL1.ext hb2;have kL2:=bL2.cell;have zL2:=bL2.lt;have bA2:=bA1.ext hb2;have kA2:=bA2.cell;have zA2:=bA2.lt;clear hb2 kL1 zL1 kA1 zA1) | (go_at_call 113;refine (r_soundZ l ⟨pA,pn,pc,some ⟨br,or_,none⟩,rn,rc,tA,tn,tc,sA,sn,sc⟩ kn _ HLB.out (HD.out.now (by exact bel_)) HSE.out).mono ?_;rintro e w3 ⟨B,Tc,A5,c5,rfl,hb3,hT3,hD3⟩;have HB3:Below w.heap.size w w3:=Below.then_ (by exact bel_) hb3;have hs3:=HB3.size;have bL3:=bL2.ext hb3;have kL3:=bL3.cell;have zL3:=bL3.lt;have bA3:=bA2.ext hb3;have kA3:=bA3.cell;have zA3:=bA3.lt;have hbr3:br<w3.heap.size:=(by omega);have e0:=(HB3.cell (p:=⟨br,or_+ix*7,none⟩) hbr).trans HG.out.1;have e1:=(HB3.cell (p:=⟨br,or_+ix*7+1,none⟩) hbr).trans HG.out.2.1;have e2:=(HB3.cell (p:=⟨br,or_+ix*7+2,none⟩) hbr).trans HG.out.2.2.1;have e3:=(HB3.cell (p:=⟨br,or_+ix*7+3,none⟩) hbr).trans HG.out.2.2.2.1;have e4:=(HB3.cell (p:=⟨br,or_+ix*7+4,none⟩) hbr).trans HG.out.2.2.2.2.1;have e5:=(HB3.cell (p:=⟨br,or_+ix*7+5,none⟩) hbr).trans HG.out.2.2.2.2.2.1;have e6:=(HB3.cell (p:=⟨br,or_+ix*7+6,none⟩) hbr).trans HG.out.2.2.2.2.2.2;have HT3:=Lib.hid hT3;have HD3:=Lib.hid hD3;clear hb3 kL2 zL2 kA2 zA2 hT3 hD3))
     go_ret2
     exact ⟨rfl,by exact bel_⟩
   | false =>
     have hres:liesX l src day kn=(ansR (r.lv.all fun x=>!lieO l kn day r x) (r.lv.any fun x=>!lieB l kn day r x),0):=by
      have h:¬ day<r.day:=of_decide_eq_false hday
      rw [ans_lies]
      simp only [liesX,if_pos hv,hfr,hse,if_true,if_neg h]
     rw [hres]
     clear hres hv hq hfr hlb B2 hr hrx hrs hrc g0 g1 g2 g3 g4 g5 g6 gi gc gm hse
     go_enter Tryz.func41,Tryz.ntmps41
     go_wp2_with (first | (go_at_call 102;refine (r_asked_v l ⟨pA,pn,pc,some ⟨br,or_,none⟩,rn,rc,tA,tn,tc,sA,sn,sc⟩ [day,kn] 0 _ 2 2 _ HF.out (HD.out.now (by exact bel_)) (by decide) (Rd.new _ #[.int .i64 day,.int .i64 kn] _ 1 2 _ (by simp) rfl) HV.out).mono ?_;rintro e w1 ⟨rfl,hb1⟩;have HB1:Below w.heap.size w w1:=Below.then_ (by exact bel_) hb1;have hs1:=HB1.size;have bL1:=(BL0.out.alloc _).ext hb1;have kL1:=bL1.cell;have zL1:=bL1.lt;have bA1:=(BA0.out.alloc _).ext hb1;have kA1:=bA1.cell;have zA1:=bA1.lt;clear hb1) | (go_at_call 116;refine (r_receiptOf_v l ⟨pA,pn,pc,some ⟨br,or_,none⟩,rn,rc,tA,tn,tc,sA,sn,sc⟩ src kn ix _ hrn6 (HD.out.now (by exact bel_)) HRI.out).mono ?_;rintro e w2 ⟨rfl,hb2⟩;have HB2:Below w.heap.size w w2:=Below.then_ (by exact bel_) hb2;have hs2:=HB2.size;have bL2:=bL1.ext hb2;have kL2:=bL2.cell;have zL2:=bL2.lt;have bA2:=bA1.ext hb2;have kA2:=bA2.cell;have zA2:=bA2.lt;clear hb2 kL1 zL1 kA1 zA1) | (go_at_call 113;refine (r_soundZ l ⟨pA,pn,pc,some ⟨br,or_,none⟩,rn,rc,tA,tn,tc,sA,sn,sc⟩ kn _ HLB.out (HD.out.now (by exact bel_)) HSE.out).mono ?_;rintro e w3 ⟨B,Tc,A5,c5,rfl,hb3,hT3,hD3⟩;have HB3:Below w.heap.size w w3:=Below.then_ (by exact bel_) hb3;have hs3:=HB3.size;have bL3:=bL2.ext hb3;have kL3:=bL3.cell;have zL3:=bL3.lt;have bA3:=bA2.ext hb3;have kA3:=bA3.cell;have zA3:=bA3.lt;have hbr3:br<w3.heap.size:=(by omega);have e0:=(HB3.cell (p:=⟨br,or_+ix*7,none⟩) hbr).trans HG.out.1;have e1:=(HB3.cell (p:=⟨br,or_+ix*7+1,none⟩) hbr).trans HG.out.2.1;have e2:=(HB3.cell (p:=⟨br,or_+ix*7+2,none⟩) hbr).trans HG.out.2.2.1;have e3:=(HB3.cell (p:=⟨br,or_+ix*7+3,none⟩) hbr).trans HG.out.2.2.2.1;have e4:=(HB3.cell (p:=⟨br,or_+ix*7+4,none⟩) hbr).trans HG.out.2.2.2.2.1;have e5:=(HB3.cell (p:=⟨br,or_+ix*7+5,none⟩) hbr).trans HG.out.2.2.2.2.2.1;have e6:=(HB3.cell (p:=⟨br,or_+ix*7+6,none⟩) hbr).trans HG.out.2.2.2.2.2.2;have HT3:=Lib.hid hT3;have HD3:=Lib.hid hD3;clear hb3 kL2 zL2 kA2 zA2 hT3 hD3))
     have HBV:Hid (BoxA ((w3.alloc (.cells #[.slice pA pn pc,.slice (some ⟨br,or_,none⟩) rn rc,.slice tA tn tc,.slice sA sn sc,.int .i64 kn,.slice (some ⟨B,0,none⟩) tn Tc,.slice A5 tn c5] 127)).alloc (.cells #[.int .i64 r.src,.int .i64 r.bor,.int .i64 r.pap,.slice A1 n1 c1,.int .i64 r.day,.int .i64 r.kn,.int .i64 r.un] 32)) w3.heap.size 127 #[.slice pA pn pc,.slice (some ⟨br,or_,none⟩) rn rc,.slice tA tn tc,.slice sA sn sc,.int .i64 kn,.slice (some ⟨B,0,none⟩) tn Tc,.slice A5 tn c5]):=by show BoxA _ _ _ _;exact (box2 w3 _ _ _ _).1
     have HBR:Hid (BoxA ((w3.alloc (.cells #[.slice pA pn pc,.slice (some ⟨br,or_,none⟩) rn rc,.slice tA tn tc,.slice sA sn sc,.int .i64 kn,.slice (some ⟨B,0,none⟩) tn Tc,.slice A5 tn c5] 127)).alloc (.cells #[.int .i64 r.src,.int .i64 r.bor,.int .i64 r.pap,.slice A1 n1 c1,.int .i64 r.day,.int .i64 r.kn,.int .i64 r.un] 32)) (w3.heap.size+1) 32 #[.int .i64 r.src,.int .i64 r.bor,.int .i64 r.pap,.slice A1 n1 c1,.int .i64 r.day,.int .i64 r.kn,.int .i64 r.un]):=by show BoxA _ _ _ _;exact (box2 w3 _ _ _ _).2
     have HBA:=Lib.hid ((bA3.alloc (.cells #[.slice pA pn pc,.slice (some ⟨br,or_,none⟩) rn rc,.slice tA tn tc,.slice sA sn sc,.int .i64 kn,.slice (some ⟨B,0,none⟩) tn Tc,.slice A5 tn c5] 127)).alloc (.cells #[.int .i64 r.src,.int .i64 r.bor,.int .i64 r.pap,.slice A1 n1 c1,.int .i64 r.day,.int .i64 r.kn,.int .i64 r.un] 32))
     have HW3:Below w3.heap.size w3 ((w3.alloc (.cells #[.slice pA pn pc,.slice (some ⟨br,or_,none⟩) rn rc,.slice tA tn tc,.slice sA sn sc,.int .i64 kn,.slice (some ⟨B,0,none⟩) tn Tc,.slice A5 tn c5] 127)).alloc (.cells #[.int .i64 r.src,.int .i64 r.bor,.int .i64 r.pap,.slice A1 n1 c1,.int .i64 r.day,.int .i64 r.kn,.int .i64 r.un] 32)):=by exact bel_
     obtain ⟨wv,hwv⟩:∃ wv,(w3.alloc (.cells #[.slice pA pn pc,.slice (some ⟨br,or_,none⟩) rn rc,.slice tA tn tc,.slice sA sn sc,.int .i64 kn,.slice (some ⟨B,0,none⟩) tn Tc,.slice A5 tn c5] 127)).alloc (.cells #[.int .i64 r.src,.int .i64 r.bor,.int .i64 r.pap,.slice A1 n1 c1,.int .i64 r.day,.int .i64 r.kn,.int .i64 r.un] 32)=wv:=⟨_,rfl⟩
     rw [hwv] at HBV HBR HBA HW3
     have hs3v:=HW3.size
     have HWV:Below w.heap.size w wv:=HB3.trans (HW3.mono hs3)
     have hsv:=HWV.size
     rw [hwv]
     clear hwv kL3 zL3 kA3 zA3 bL3 bA3 e0 e1 e2 e3 e4 e5 e6 hbr3
     have HRO:Hid (∀ (W:World) (leaf k:Int),Below wv.heap.size wv W→ixI (rtIx (tellK l kn l.rt.length) l.rt r.src leaf)=k→Calls Tryz.prog 130 #[.agg #[.slice pA pn pc,.slice (some ⟨br,or_,none⟩) rn rc,.slice tA tn tc,.slice sA sn sc,.int .i64 kn,.slice (some ⟨B,0,none⟩) tn Tc,.slice A5 tn c5],.int .i64 ix,.int .i64 leaf] W fun e w'=>e=.returned (.int .i64 k)∧Below W.heap.size W w'):=by
      show ∀ _,_
      exact fun W leaf k hW h2=>r_returnOf_v l ⟨⟨pA,pn,pc,some ⟨br,or_,none⟩,rn,rc,tA,tn,tc,sA,sn,sc⟩,kn,some ⟨B,0,none⟩,tn,Tc,A5,tn,c5⟩ _ ix r leaf k W hrn6 htn6 rfl (HD.out.now (HWV.trans (hW.mono hsv))) (HT3.out.now abB (HW3.trans (hW.mono hs3v))) HRX.out h2
     go_loopw [11,12,13] (fun a b i wr=>∃ k:Nat,k≤n1∧i=.int .i64 k∧∃ of bf:Bool,a=.bool of∧b=.bool bf∧of=((r.lv.take k).any fun x=>!lieB l kn day r x)∧bf=((r.lv.take k).all fun x=>!lieO l kn day r x)∧Below wv.heap.size wv wr) (fun _ _ i _=>n1 - (intOf i).toNat)
     case atStart=>exact ⟨0,by omega,rfl,false,true,rfl,rfl,rfl,rfl,Below.refl _ _⟩
     case round =>
      obtain ⟨k,hk,rfl,of,bf,rfl,rfl,hof,hbf,hQ⟩:=hrel
      have HOF:=Lib.hid hof
      have HBF:=Lib.hid hbf
      have hBw:Below w.heap.size w wr:=HWV.trans (hQ.mono hsv)
      have hsr:=hBw.size
      have hsq:=hQ.size
      have bV:=HBV.out.ext hQ
      have bR:=HBR.out.ext hQ
      have bA:=HBA.out.ext hQ
      have kV:=bV.cell
      have zV:=bV.lt
      have kR:=bR.cell
      have zR:=bR.lt
      have kA:=bA.cell
      have zA:=bA.lt
      have HQV:=Lib.hid bV
      have HQA:=Lib.hid bA
      clear hof hbf bV bR bA
      by_cases hlt:k<n1
      ·obtain ⟨b1,o1,y,hA1,hb1x,hy,hcy⟩:=HLV.out.at_ hlt
       rw [hA1] at kR
       clear hA1
       have cy:=(hBw.cell (p:=⟨b1,o1+k,none⟩) hb1x).trans hcy
       have hb1r:b1<wr.heap.size:=by omega
       obtain ⟨q,hq⟩:∃ q,rtIx (tellK l kn l.rt.length) l.rt r.src y=q:=⟨_,rfl⟩
       have HKI:Hid (ixI (rtIx (tellK l kn l.rt.length) l.rt r.src y)=ixI q):=by show _=_;rw [hq]
       have HQ:=Lib.hid hq
       have hst:∀ of bf:Bool,of=((r.lv.take k).any fun x=>!lieB l kn day r x)→bf=((r.lv.take k).all fun x=>!lieO l kn day r x)→(of || outK (setP l kn) day q)=((r.lv.take (k+1)).any fun x=>!lieB l kn day r x)∧(bf && bckK (setP l kn) day q)=((r.lv.take (k+1)).all fun x=>!lieO l kn day r x):=by
        intro of bf h1 h2
        rw [take_snoc_some hy,List.any_append,List.all_append,h1,h2,List.any_cons,List.any_nil,List.all_cons,List.all_nil,lieB_ref,lieO_ref,hq,Bool.or_false,Bool.and_true]
        exact ⟨rfl,rfl⟩
       have HST:=Lib.hid hst
       clear hst hq hy hcy
       go_wp2_with fail
       (refine wp_region_bheld 9 (by kernel_rfl) rfl (fun hS=>?_);simp only [List.reduceReplicate,Array.replicate_succ,Array.replicate_zero])
       (refine tk_ (i:=0) (v:=?_) rfl ?_ hS ?_ (fun _ _ _ h=>h);rotate_left;focus (intro w2 hw2;(try dsimp only at hw2);obtain ⟨hc2,hf2⟩:=bcell hw2;go_simp;first | done | with_reducible rfl);(try simp only [Act.put,pu1,pu2,pu3]))
       (refine tk_ (i:=1) (v:=?_) rfl ?_ hS ?_ (fun _ _ _ h=>h);rotate_left;focus (intro w2 hw2;(try dsimp only at hw2);obtain ⟨hc2,hf2⟩:=bcell hw2;go_simp;first | done | with_reducible rfl);(try simp only [Act.put,pu1,pu2,pu3]))
       (refine tk_ (i:=2) (v:=?_) rfl ?_ hS ?_ (fun _ _ _ h=>h);rotate_left;focus (intro w2 hw2;(try dsimp only at hw2);obtain ⟨hc2,hf2⟩:=bcell hw2;go_simp;first | done | with_reducible rfl);(try simp only [Act.put,pu1,pu2,pu3]))
       (refine tk_ (i:=3) (v:=?_) rfl ?_ hS ?_ (fun _ _ _ h=>h);rotate_left;focus (intro w2 hw2;(try dsimp only at hw2);obtain ⟨hc2,hf2⟩:=bcell hw2;go_simp;first | done | with_reducible rfl);(try simp only [Act.put,pu1,pu2,pu3]))
       (refine tk_ (i:=4) (v:=?_) rfl ?_ hS ?_ (fun _ _ _ h=>h);rotate_left;focus (intro w2 hw2;(try dsimp only at hw2);obtain ⟨hc2,hf2⟩:=bcell hw2;go_simp;first | done | with_reducible rfl);(try simp only [Act.put,pu1,pu2,pu3]))
       (refine tk_ (i:=5) (v:=?_) rfl ?_ hS ?_ (fun _ _ _ h=>h);rotate_left;focus (intro w2 hw2;(try dsimp only at hw2);obtain ⟨hc2,hf2⟩:=bcell hw2;go_simp;first | done | with_reducible rfl);(try simp only [Act.put,pu1,pu2,pu3]))
       (refine tk_ (i:=6) (v:=?_) rfl ?_ hS ?_ (fun _ _ _ h=>h);rotate_left;focus (intro w2 hw2;(try dsimp only at hw2);obtain ⟨hc2,hf2⟩:=bcell hw2;go_simp;first | done | with_reducible rfl);(try simp only [Act.put,pu1,pu2,pu3]))
       (refine rd_ [7] ?_;refine ah1 rfl fun K hK=>?_;(go_simp;refine (HRO.out _ y (ixI q) (hQ.trans (hS.mono hsq)) HKI.out).mono ?_;rintro e w8 ⟨rfl,hb8⟩;have h8:Below wr.heap.size wr w8:=Below.then_ hS hb8;go_simp);refine hK.out _ _ h8 (fun hS=>?_);clear hK K;(try simp only [Act.put,pu1,pu2,pu3]))
       (refine tk_ (i:=8) (v:=?_) rfl ?_ hS ?_ (fun _ _ _ h=>h);rotate_left;focus (intro w2 hw2;(try dsimp only at hw2);obtain ⟨hc2,hf2⟩:=bcell hw2;go_simp;first | done | with_reducible rfl);(try simp only [Act.put,pu1,pu2,pu3]))
       refine wpAnyH_done (by kernel_rfl) ?_ _
       have hQ8:Below wv.heap.size wv w8:=hQ.trans (h8.mono hsq)
       have hs8:=h8.size
       have bV8:=HQV.out.ext h8
       have bA8:=HQA.out.ext h8
       have kV8:=bV8.cell
       have zV8:=bV8.lt
       have kA8:=bA8.cell
       have zA8:=bA8.lt
       have HV8:=Lib.hid bV8
       have HA8:=Lib.hid bA8
       clear kV zV kR zR kA zA cy hS hb8 bV8 bA8
       cases q with
       | none =>
         have h1:outK (setP l kn) day none=true:=rfl
         have h2:bckK (setP l kn) day none=false:=rfl
         rw [h1,h2] at HST
         have hn0:decide ((-1:Int)<0)=true:=by decide
         have hg0:decide ((-1:Int)≥0)=false:=by decide
         simp only [ixI]
         clear h1 h2
         cases of with
         | false =>
           cases bf with
           | false =>
             have HS2:=Lib.hid (HST.out false false HOF.out HBF.out)
             go_wp2_with fail
             (try simp only [List.getElem_toArray,List.getElem_cons_succ,List.getElem_cons_zero,Act.put,List.setIfInBounds_toArray,List.set_cons_zero,List.set_cons_succ])
             (refine rg_ ?_;(repeat (go_big_quiet_step (fail)));refine qn_ fun w1 hb1 hc1 hf1=>?_)
             have hQ9:Below wv.heap.size wv w1:=hQ8.trans (hb1.mono hQ8.size)
             have bV9:=HV8.out.ext hb1
             have bA9:=HA8.out.ext hb1
             have hs9:=hb1.size
             obtain ⟨wa,rfl⟩:∃ wa,wa=w1:=⟨_,rfl⟩
             have kV9:=bV9.cell
             have zV9:=bV9.lt
             have kA9:=bA9.cell
             have zA9:=bA9.lt
             clear hb1 hc1 hf1 bV9 bA9 kV8 zV8 kA8 zA8
             go_wp2_with fail
             (refine rg_ ?_;(repeat (go_big_quiet_step (fail)));refine qn_ fun w1 hb1 hc1 hf1=>?_)
             have hQX:Below wv.heap.size wv w1:=hQ9.trans (hb1.mono hQ9.size)
             go_wp2_with fail
             go_roundw
             case rel=>exact ⟨k+1,by omega,by go_num,_,_,rfl,rfl,by rw [← HS2.out.1];(first | rfl | simp),by rw [← HS2.out.2];(first | rfl | simp),hQX⟩
             case measure=>exact ms_
           | true =>
             have HS2:=Lib.hid (HST.out false true HOF.out HBF.out)
             go_wp2_with fail
             (try simp only [List.getElem_toArray,List.getElem_cons_succ,List.getElem_cons_zero,Act.put,List.setIfInBounds_toArray,List.set_cons_zero,List.set_cons_succ])
             (refine rg_ ?_;(repeat (go_big_quiet_step (fail)));refine qn_ fun w1 hb1 hc1 hf1=>?_)
             have hQ9:Below wv.heap.size wv w1:=hQ8.trans (hb1.mono hQ8.size)
             have bV9:=HV8.out.ext hb1
             have bA9:=HA8.out.ext hb1
             have hs9:=hb1.size
             obtain ⟨wa,rfl⟩:∃ wa,wa=w1:=⟨_,rfl⟩
             have kV9:=bV9.cell
             have zV9:=bV9.lt
             have kA9:=bA9.cell
             have zA9:=bA9.lt
             clear hb1 hc1 hf1 bV9 bA9 kV8 zV8 kA8 zA8
             go_wp2_with fail
             (refine rg_ ?_;(repeat (go_big_quiet_step (fail)));refine qn_ fun w1 hb1 hc1 hf1=>?_)
             have hQX:Below wv.heap.size wv w1:=hQ9.trans (hb1.mono hQ9.size)
             go_wp2_with fail
             go_roundw
             case rel=>exact ⟨k+1,by omega,by go_num,_,_,rfl,rfl,by rw [← HS2.out.1];(first | rfl | simp),by rw [← HS2.out.2];(first | rfl | simp),hQX⟩
             case measure=>exact ms_
         | true =>
           cases bf with
           | false =>
             have HS2:=Lib.hid (HST.out true false HOF.out HBF.out)
             go_wp2_with fail
             (try simp only [List.getElem_toArray,List.getElem_cons_succ,List.getElem_cons_zero,Act.put,List.setIfInBounds_toArray,List.set_cons_zero,List.set_cons_succ])
             (refine rg_ ?_;(repeat (go_big_quiet_step (fail)));refine qn_ fun w1 hb1 hc1 hf1=>?_)
             have hQ9:Below wv.heap.size wv w1:=hQ8.trans (hb1.mono hQ8.size)
             have bV9:=HV8.out.ext hb1
             have bA9:=HA8.out.ext hb1
             have hs9:=hb1.size
             obtain ⟨wa,rfl⟩:∃ wa,wa=w1:=⟨_,rfl⟩
             have kV9:=bV9.cell
             have zV9:=bV9.lt
             have kA9:=bA9.cell
             have zA9:=bA9.lt
             clear hb1 hc1 hf1 bV9 bA9 kV8 zV8 kA8 zA8
             go_wp2_with fail
             (refine rg_ ?_;(repeat (go_big_quiet_step (fail)));refine qn_ fun w1 hb1 hc1 hf1=>?_)
             have hQX:Below wv.heap.size wv w1:=hQ9.trans (hb1.mono hQ9.size)
             go_wp2_with fail
             go_roundw
             case rel=>exact ⟨k+1,by omega,by go_num,_,_,rfl,rfl,by rw [← HS2.out.1];(first | rfl | simp),by rw [← HS2.out.2];(first | rfl | simp),hQX⟩
             case measure=>exact ms_
           | true =>
             have HS2:=Lib.hid (HST.out true true HOF.out HBF.out)
             go_wp2_with fail
             (try simp only [List.getElem_toArray,List.getElem_cons_succ,List.getElem_cons_zero,Act.put,List.setIfInBounds_toArray,List.set_cons_zero,List.set_cons_succ])
             (refine rg_ ?_;(repeat (go_big_quiet_step (fail)));refine qn_ fun w1 hb1 hc1 hf1=>?_)
             have hQ9:Below wv.heap.size wv w1:=hQ8.trans (hb1.mono hQ8.size)
             have bV9:=HV8.out.ext hb1
             have bA9:=HA8.out.ext hb1
             have hs9:=hb1.size
             obtain ⟨wa,rfl⟩:∃ wa,wa=w1:=⟨_,rfl⟩
             have kV9:=bV9.cell
             have zV9:=bV9.lt
             have kA9:=bA9.cell
             have zA9:=bA9.lt
             clear hb1 hc1 hf1 bV9 bA9 kV8 zV8 kA8 zA8
             go_wp2_with fail
             (refine rg_ ?_;(repeat (go_big_quiet_step (fail)));refine qn_ fun w1 hb1 hc1 hf1=>?_)
             have hQX:Below wv.heap.size wv w1:=hQ9.trans (hb1.mono hQ9.size)
             go_wp2_with fail
             go_roundw
             case rel=>exact ⟨k+1,by omega,by go_num,_,_,rfl,rfl,by rw [← HS2.out.1];(first | rfl | simp),by rw [← HS2.out.2];(first | rfl | simp),hQX⟩
             case measure=>exact ms_
       | some i =>
         obtain ⟨-,t,ht,-,-⟩:=rt_some HQ.out
         have hit:i<tn:=by rw [← HTL.out];exact (List.getElem?_eq_some_iff.1 ht).1
         obtain ⟨bd,od,d,rfl,hbd,hdx,q0,q1⟩:=HD3.out.at_ hit
         have hgd:(setP l kn).getD i (0,0)=d:=by rw [List.getD_eq_getElem?_getD,hdx];rfl
         have h1:outK (setP l kn) day (some i)=decide (d.1>day):=by rw [outK,hgd]
         have h2:bckK (setP l kn) day (some i)=decide (d.2≤day):=by rw [bckK,hgd]
         rw [h1,h2] at HST
         have h38:Below w3.heap.size w3 w8:=HW3.trans (hQ8.mono hs3v)
         have e0:=(h38.cell (p:=⟨bd,od+i*2,none⟩) hbd).trans q0
         have e1:=(h38.cell (p:=⟨bd,od+i*2+1,none⟩) hbd).trans q1
         have hbd8:bd<w8.heap.size:=by have:=h38.size;omega
         have hin:decide ((i:Int)<0)=false:=by simp
         have hig:decide ((i:Int)≥0)=true:=by simp
         have hmx:max (i:Int) 0=(i:Int):=by omega
         simp only [ixI]
         clear h1 h2 hgd hdx ht q0 q1
         cases of with
         | false =>
           cases bf with
           | false =>
             have HS2:=Lib.hid (HST.out false false HOF.out HBF.out)
             go_wp2_with fail
             (try simp only [List.getElem_toArray,List.getElem_cons_succ,List.getElem_cons_zero,Act.put,List.setIfInBounds_toArray,List.set_cons_zero,List.set_cons_succ])
             (refine rg_ ?_;(repeat (go_big_quiet_step (fail)));refine qn_ fun w1 hb1 hc1 hf1=>?_)
             have hQ9:Below wv.heap.size wv w1:=hQ8.trans (hb1.mono hQ8.size)
             have bV9:=HV8.out.ext hb1
             have bA9:=HA8.out.ext hb1
             have hs9:=hb1.size
             have x0:=(hb1.cell (p:=⟨bd,od+i*2,none⟩) hbd8).trans e0
             have x1:=(hb1.cell (p:=⟨bd,od+i*2+1,none⟩) hbd8).trans e1
             have hbd9:bd<w1.heap.size:=by omega
             obtain ⟨wa,rfl⟩:∃ wa,wa=w1:=⟨_,rfl⟩
             have kV9:=bV9.cell
             have zV9:=bV9.lt
             have kA9:=bA9.cell
             have zA9:=bA9.lt
             clear hb1 hc1 hf1 bV9 bA9 kV8 zV8 kA8 zA8 e0 e1 hbd8
             go_wp2_with fail
             (refine rg_ ?_;(repeat (go_big_quiet_step (fail)));refine qn_ fun w1 hb1 hc1 hf1=>?_)
             have hQX:Below wv.heap.size wv w1:=hQ9.trans (hb1.mono hQ9.size)
             go_wp2_with fail
             go_roundw
             case rel=>exact ⟨k+1,by omega,by go_num,_,_,rfl,rfl,by rw [← HS2.out.1];(first | rfl | simp),by rw [← HS2.out.2];(first | rfl | simp),hQX⟩
             case measure=>exact ms_
           | true =>
             have HS2:=Lib.hid (HST.out false true HOF.out HBF.out)
             go_wp2_with fail
             (try simp only [List.getElem_toArray,List.getElem_cons_succ,List.getElem_cons_zero,Act.put,List.setIfInBounds_toArray,List.set_cons_zero,List.set_cons_succ])
             (refine rg_ ?_;(repeat (go_big_quiet_step (fail)));refine qn_ fun w1 hb1 hc1 hf1=>?_)
             have hQ9:Below wv.heap.size wv w1:=hQ8.trans (hb1.mono hQ8.size)
             have bV9:=HV8.out.ext hb1
             have bA9:=HA8.out.ext hb1
             have hs9:=hb1.size
             have x0:=(hb1.cell (p:=⟨bd,od+i*2,none⟩) hbd8).trans e0
             have x1:=(hb1.cell (p:=⟨bd,od+i*2+1,none⟩) hbd8).trans e1
             have hbd9:bd<w1.heap.size:=by omega
             obtain ⟨wa,rfl⟩:∃ wa,wa=w1:=⟨_,rfl⟩
             have kV9:=bV9.cell
             have zV9:=bV9.lt
             have kA9:=bA9.cell
             have zA9:=bA9.lt
             clear hb1 hc1 hf1 bV9 bA9 kV8 zV8 kA8 zA8 e0 e1 hbd8
             go_wp2_with fail
             (refine rg_ ?_;(repeat (go_big_quiet_step (fail)));refine qn_ fun w1 hb1 hc1 hf1=>?_)
             have hQX:Below wv.heap.size wv w1:=hQ9.trans (hb1.mono hQ9.size)
             go_wp2_with fail
             go_roundw
             case rel=>exact ⟨k+1,by omega,by go_num,_,_,rfl,rfl,by rw [← HS2.out.1];(first | rfl | simp),by rw [← HS2.out.2];(first | rfl | simp),hQX⟩
             case measure=>exact ms_
         | true =>
           cases bf with
           | false =>
             have HS2:=Lib.hid (HST.out true false HOF.out HBF.out)
             go_wp2_with fail
             (try simp only [List.getElem_toArray,List.getElem_cons_succ,List.getElem_cons_zero,Act.put,List.setIfInBounds_toArray,List.set_cons_zero,List.set_cons_succ])
             (refine rg_ ?_;(repeat (go_big_quiet_step (fail)));refine qn_ fun w1 hb1 hc1 hf1=>?_)
             have hQ9:Below wv.heap.size wv w1:=hQ8.trans (hb1.mono hQ8.size)
             have bV9:=HV8.out.ext hb1
             have bA9:=HA8.out.ext hb1
             have hs9:=hb1.size
             have x0:=(hb1.cell (p:=⟨bd,od+i*2,none⟩) hbd8).trans e0
             have x1:=(hb1.cell (p:=⟨bd,od+i*2+1,none⟩) hbd8).trans e1
             have hbd9:bd<w1.heap.size:=by omega
             obtain ⟨wa,rfl⟩:∃ wa,wa=w1:=⟨_,rfl⟩
             have kV9:=bV9.cell
             have zV9:=bV9.lt
             have kA9:=bA9.cell
             have zA9:=bA9.lt
             clear hb1 hc1 hf1 bV9 bA9 kV8 zV8 kA8 zA8 e0 e1 hbd8
             go_wp2_with fail
             (refine rg_ ?_;(repeat (go_big_quiet_step (fail)));refine qn_ fun w1 hb1 hc1 hf1=>?_)
             have hQX:Below wv.heap.size wv w1:=hQ9.trans (hb1.mono hQ9.size)
             go_wp2_with fail
             go_roundw
             case rel=>exact ⟨k+1,by omega,by go_num,_,_,rfl,rfl,by rw [← HS2.out.1];(first | rfl | simp),by rw [← HS2.out.2];(first | rfl | simp),hQX⟩
             case measure=>exact ms_
           | true =>
             have HS2:=Lib.hid (HST.out true true HOF.out HBF.out)
             go_wp2_with fail
             (try simp only [List.getElem_toArray,List.getElem_cons_succ,List.getElem_cons_zero,Act.put,List.setIfInBounds_toArray,List.set_cons_zero,List.set_cons_succ])
             (refine rg_ ?_;(repeat (go_big_quiet_step (fail)));refine qn_ fun w1 hb1 hc1 hf1=>?_)
             have hQ9:Below wv.heap.size wv w1:=hQ8.trans (hb1.mono hQ8.size)
             have bV9:=HV8.out.ext hb1
             have bA9:=HA8.out.ext hb1
             have hs9:=hb1.size
             have x0:=(hb1.cell (p:=⟨bd,od+i*2,none⟩) hbd8).trans e0
             have x1:=(hb1.cell (p:=⟨bd,od+i*2+1,none⟩) hbd8).trans e1
             have hbd9:bd<w1.heap.size:=by omega
             obtain ⟨wa,rfl⟩:∃ wa,wa=w1:=⟨_,rfl⟩
             have kV9:=bV9.cell
             have zV9:=bV9.lt
             have kA9:=bA9.cell
             have zA9:=bA9.lt
             clear hb1 hc1 hf1 bV9 bA9 kV8 zV8 kA8 zA8 e0 e1 hbd8
             go_wp2_with fail
             (refine rg_ ?_;(repeat (go_big_quiet_step (fail)));refine qn_ fun w1 hb1 hc1 hf1=>?_)
             have hQX:Below wv.heap.size wv w1:=hQ9.trans (hb1.mono hQ9.size)
             go_wp2_with fail
             go_roundw
             case rel=>exact ⟨k+1,by omega,by go_num,_,_,rfl,rfl,by rw [← HS2.out.1];(first | rfl | simp),by rw [← HS2.out.2];(first | rfl | simp),hQX⟩
             case measure=>exact ms_
      ·obtain rfl:k=n1:=by omega
       have htk:r.lv.take k=r.lv:=List.take_of_length_le (by have h:=HLV.out.len;omega)
       have HR:Hid (ansR bf of=ansR (r.lv.all fun x=>!lieO l kn day r x) (r.lv.any fun x=>!lieB l kn day r x)):=by show _=_;rw [HOF.out,HBF.out,htk]
       clear htk kV zV kA zA
       go_wp2_with (go_at_call 129;refine (r_answer bf of _).mono ?_;rintro e w1 ⟨rfl,rfl⟩)
       go_ret2
       rw [← HR.out]
       exact ⟨rfl,hBw⟩
end Go.Proofs.YtoiompoapikkbaaGreat
