/- Layer 2 of the texts that LoanPlaces takes: Pbaq. -/
import Derived.Test.YtoiompoapikkbaaGreatPayq
set_option linter.unusedVariables false
set_option linter.unusedSimpArgs false
set_option maxHeartbeats 16000000
namespace Go.Proofs.YtoiompoapikkbaaGreat
open Go.RowKit Go.Maps
end Go.Proofs.YtoiompoapikkbaaGreat
namespace Go.Proofs.YtoiompoapikkbaaGreat
open Go.RowKit Go.Shelf Go.Maps
end Go.Proofs.YtoiompoapikkbaaGreat
namespace Go.Proofs.YtoiompoapikkbaaGreat
open Go.RowKit Go.Maps
def RetLE (r:List Int × Int) (w:World) (e:Ending) (w':World):Prop:=∃ A n c,e=.returned (.tuple #[.slice A n c,.int .i64 r.2])∧Below w.heap.size w w'∧Is w' w'.heap.size A n r.1∧n≤c∧c≤maxLen
def doubleX (l:Led) (kn:Int):List Int × Int:=if preE l [kn]=0 then (match dblR (opnL l kn).M (opnL l kn).P (cntR l kn) with | none=>([],28) | some p=>([p.1.src,p.2.src],0)) else ([],preE l [kn])
theorem RetLE.err {v:Int} {w w':World} (hb:Below w.heap.size w w'):RetLE ([],v) w (.returned (.tuple #[.slice none 0 0,.int .i64 v])) w':=⟨none,0,0,rfl,hb,Rd.nil_,lr_,by decide⟩
set_option maxRecDepth 10000 in
theorem p_Double (l:Led) (x:Lsl) (kn:Int) (w:World) (hf:x.fit) (hd:LedIn w w.heap.size x l) :
 Calls Tryz.prog 23 #[.agg #[.slice x.pA x.pn x.pc,.slice x.rA x.rn x.rc,.slice x.tA x.tn x.tc,.slice x.sA x.sn x.sc],.int .i64 kn] w (RetLE (doubleX l kn) w):=by
 obtain ⟨pA,pn,pc,rA,rn,rc,tA,tn,tc,sA,sn,sc⟩:=x
 have HD:=hd_ hd
 have hml:maxLen≤9223372036854775807:=by decide
 have hpn:pn≤9223372036854775807:=by have:=hf.p;dsimp only at this;omega
 have hrn:rn≤9223372036854775807:=by have:=hf.r;dsimp only at this;omega
 have htn:tn≤9223372036854775807:=by have:=hf.t;dsimp only at this;omega
 have hsn:sn≤9223372036854775807:=by have:=hf.s;dsimp only at this;omega
 clear hd hf hml
 obtain ⟨v,hv⟩:∃ v,preE l [kn]=v:=⟨_,rfl⟩
 have HV:Hid (orL [errI (ledB l) 24,errI (daysOk [kn]) 6]=v):=by show _=_;exact hv
 by_cases hv0:v=0
 ·subst hv0
  have HLO:=hd_ (led_ok (pre_zero hv).1)
  cases hdr:dblR (opnL l kn).M (opnL l kn).P (cntR l kn) with
  | none =>
    have hres:doubleX l kn=([],28):=by rw [doubleX,if_pos hv,hdr]
    rw [hres]
    have HDR:=hd_ hdr
    clear hres hdr hv
    go_enter Tryz.func23,Tryz.ntmps23
    go_wp2_with (first | (go_at_call 18;refine (p_Check l ⟨pA,pn,pc,rA,rn,rc,tA,tn,tc,sA,sn,sc⟩ _ hpn hrn htn hsn (HD.out.now (by exact bel_))).mono ?_;rintro e w1 ⟨rfl,hb1⟩;have HB1:Below w.heap.size w w1:=bt_ (by exact bel_) hb1;have hs1:=HB1.size;have bL0:=BoxA.new w 27 #[.slice pA pn pc,.slice rA rn rc,.slice tA tn tc,.slice sA sn sc];have bL1:=bL0.ext hb1;have kL1:=bL1.cell;have zL1:=bL1.lt;clear hb1) | (go_at_call 100;refine (p_checkDays [kn] _ 1 1 _ (by decide) (Rd.new _ #[.int .i64 kn] _ 1 1 _ (by simp) rfl)).mono ?_;rintro e w2 ⟨rfl,hb2⟩;have HB2:Below w.heap.size w w2:=bt_ (by exact bel_) hb2;have hs2:=HB2.size;have bL2:=(bL1.alloc _).ext hb2;have kL2:=bL2.cell;have zL2:=bL2.lt;clear kL1 zL1;clear hb2) | (go_at_call 99;refine (p_first [errI (ledB l) 24,errI (daysOk [kn]) 6] 0 _ 2 2 _ (by decide) (Rd.new _ #[.int .i64 (errI (ledB l) 24),.int .i64 (errI (daysOk [kn]) 6)] _ 1 2 _ (by simp) rfl) HV.out).mono ?_;rintro e w1 ⟨rfl,rfl⟩) | (go_at_call 101;refine (p_openA l ⟨pA,pn,pc,rA,rn,rc,tA,tn,tc,sA,sn,sc⟩ kn _ HLO.out (HD.out.now (by exact bel_))).mono ?_;rintro e w5 ⟨RA,Rn,Rc,SA,Sn,Sc,bm,TA,Tn,Tc,PA,Pn,Pc,rfl,hb5,hO⟩;have HB5:Below w.heap.size w w5:=bt_ (by exact bel_) hb5;have hs5:=HB5.size;have HO:=hd_ hO;have bL5:=(bL2.alloc _).ext hb5;have kL5:=bL5.cell;have zL5:=bL5.lt;clear kL2 zL2;clear hO hb5) | (go_at_call 104;obtain ⟨xs,hxs,hx⟩:=rvs_of HO.out.acc.r;have hdb:=p_double (opnL l kn).M (cntR l kn) (opnL l kn).P xs ⟨⟨pA,pn,pc,rA,rn,rc,tA,tn,tc,sA,sn,sc⟩,kn,RA,Rn,Rc,SA,Sn,Sc,bm,TA,Tn,Tc,PA,Pn,Pc⟩ w5 HO.out.acc hx hxs;have hdm:=dbl2_map (opnL l kn).M (opnL l kn).P xs;rw [hxs,HDR.out] at hdm;have hdn:dbl2 (opnL l kn).M (opnL l kn).P xs=none:=Option.map_eq_none_iff.1 hdm;rw [hdn] at hdb;refine hdb.mono ?_;rintro e w6 ⟨hb6,rfl⟩;have HB6:Below w.heap.size w w6:=bt_ HB5 hb6;have hs6:=HB6.size))
    go_ret2
    exact RetLE.err (by exact bel_)
  | some q =>
    have hres:doubleX l kn=([q.1.src,q.2.src],0):=by rw [doubleX,if_pos hv,hdr]
    rw [hres]
    have HDR:=hd_ hdr
    clear hres hdr hv
    go_enter Tryz.func23,Tryz.ntmps23
    go_wp2_with (first | (go_at_call 18;refine (p_Check l ⟨pA,pn,pc,rA,rn,rc,tA,tn,tc,sA,sn,sc⟩ _ hpn hrn htn hsn (HD.out.now (by exact bel_))).mono ?_;rintro e w1 ⟨rfl,hb1⟩;have HB1:Below w.heap.size w w1:=bt_ (by exact bel_) hb1;have hs1:=HB1.size;have bL0:=BoxA.new w 27 #[.slice pA pn pc,.slice rA rn rc,.slice tA tn tc,.slice sA sn sc];have bL1:=bL0.ext hb1;have kL1:=bL1.cell;have zL1:=bL1.lt;clear hb1) | (go_at_call 100;refine (p_checkDays [kn] _ 1 1 _ (by decide) (Rd.new _ #[.int .i64 kn] _ 1 1 _ (by simp) rfl)).mono ?_;rintro e w2 ⟨rfl,hb2⟩;have HB2:Below w.heap.size w w2:=bt_ (by exact bel_) hb2;have hs2:=HB2.size;have bL2:=(bL1.alloc _).ext hb2;have kL2:=bL2.cell;have zL2:=bL2.lt;clear kL1 zL1;clear hb2) | (go_at_call 99;refine (p_first [errI (ledB l) 24,errI (daysOk [kn]) 6] 0 _ 2 2 _ (by decide) (Rd.new _ #[.int .i64 (errI (ledB l) 24),.int .i64 (errI (daysOk [kn]) 6)] _ 1 2 _ (by simp) rfl) HV.out).mono ?_;rintro e w1 ⟨rfl,rfl⟩) | (go_at_call 101;refine (p_openA l ⟨pA,pn,pc,rA,rn,rc,tA,tn,tc,sA,sn,sc⟩ kn _ HLO.out (HD.out.now (by exact bel_))).mono ?_;rintro e w5 ⟨RA,Rn,Rc,SA,Sn,Sc,bm,TA,Tn,Tc,PA,Pn,Pc,rfl,hb5,hO⟩;have HB5:Below w.heap.size w w5:=bt_ (by exact bel_) hb5;have hs5:=HB5.size;have HO:=hd_ hO;have bL5:=(bL2.alloc _).ext hb5;have kL5:=bL5.cell;have zL5:=bL5.lt;clear kL2 zL2;clear hO hb5) | (go_at_call 104;obtain ⟨xs,hxs,hx⟩:=rvs_of HO.out.acc.r;have hdb:=p_double (opnL l kn).M (cntR l kn) (opnL l kn).P xs ⟨⟨pA,pn,pc,rA,rn,rc,tA,tn,tc,sA,sn,sc⟩,kn,RA,Rn,Rc,SA,Sn,Sc,bm,TA,Tn,Tc,PA,Pn,Pc⟩ w5 HO.out.acc hx hxs;have hdm:=dbl2_map (opnL l kn).M (opnL l kn).P xs;rw [hxs,HDR.out] at hdm;obtain ⟨⟨ya,yb⟩,hdn,hde⟩:=Option.map_eq_some_iff.1 hdm;rw [hdn] at hdb;have hsa:ya.r.src=q.1.src:=congrArg (fun p:Rcp × Rcp=>p.1.src) hde;have hsb:yb.r.src=q.2.src:=congrArg (fun p:Rcp × Rcp=>p.2.src) hde;refine hdb.mono ?_;rintro e w6 ⟨hb6,rfl⟩;have HB6:Below w.heap.size w w6:=bt_ HB5 hb6;have hs6:=HB6.size;have HSA:=hd_ hsa;have HSB:=hd_ hsb;clear hdb hdm hdn hde hxs hx hsa hsb))
    go_ret2
    refine ⟨_,_,_,rfl,by exact bel_,?_,lr_,by decide⟩
    rw [← HSA.out,← HSB.out]
    exact Rd.new _ #[.int .i64 ya.r.src,.int .i64 yb.r.src] 3 1 2 _ (by simp) rfl
 ·have hres:doubleX l kn=([],v):=by rw [doubleX,if_neg (by rw [hv];exact hv0),hv]
  rw [hres]
  have hv1:(v != 0)=true:=by simpa using hv0
  clear hres hv hv0
  go_enter Tryz.func23,Tryz.ntmps23
  go_wp2_with (first | (go_at_call 18;refine (p_Check l ⟨pA,pn,pc,rA,rn,rc,tA,tn,tc,sA,sn,sc⟩ _ hpn hrn htn hsn (HD.out.now (by exact bel_))).mono ?_;rintro e w1 ⟨rfl,hb1⟩;have HB1:Below w.heap.size w w1:=bt_ (by exact bel_) hb1;have hs1:=HB1.size;have bL0:=BoxA.new w 27 #[.slice pA pn pc,.slice rA rn rc,.slice tA tn tc,.slice sA sn sc];have bL1:=bL0.ext hb1;have kL1:=bL1.cell;have zL1:=bL1.lt;clear hb1) | (go_at_call 100;refine (p_checkDays [kn] _ 1 1 _ (by decide) (Rd.new _ #[.int .i64 kn] _ 1 1 _ (by simp) rfl)).mono ?_;rintro e w2 ⟨rfl,hb2⟩;have HB2:Below w.heap.size w w2:=bt_ (by exact bel_) hb2;have hs2:=HB2.size;have bL2:=(bL1.alloc _).ext hb2;have kL2:=bL2.cell;have zL2:=bL2.lt;clear kL1 zL1;clear hb2) | (go_at_call 99;refine (p_first [errI (ledB l) 24,errI (daysOk [kn]) 6] v _ 2 2 _ (by decide) (Rd.new _ #[.int .i64 (errI (ledB l) 24),.int .i64 (errI (daysOk [kn]) 6)] _ 1 2 _ (by simp) rfl) HV.out).mono ?_;rintro e w1 ⟨rfl,rfl⟩))
  go_ret2
  exact RetLE.err (by exact bel_)
end Go.Proofs.YtoiompoapikkbaaGreat
