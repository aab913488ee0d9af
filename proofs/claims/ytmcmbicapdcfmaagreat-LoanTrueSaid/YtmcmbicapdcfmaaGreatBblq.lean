/- Layer 2 of the texts that LoanBack takes: Bblq. -/
import Derived.Test.YtmcmbicapdcfmaaGreatBbbq
set_option linter.unusedVariables false
set_option linter.unusedSimpArgs false
set_option maxHeartbeats 16000000
namespace Go.Proofs.YtmcmbicapdcfmaaGreat
open Go.RowKit Go.Maps
theorem Is.box {W W':World} {B q n:Nat} {A:Option Addr} {t t':TypeId} {cs cs':Array Value} {xs:List Int} (h:Is W B A n xs) (hb:BoxA W q t cs) (hb':BoxA W' q t' cs') (hk:∀ b,b<B→b≠q→W'.heap[b]?=W.heap[b]?) (hc:∀ (m:Nat) (v:Int),cs[m]?=some (.int .i64 v)→cs'[m]?=some (.int .i64 v)):Is W' B A n xs:=by
 refine ⟨h.1,fun h0=>?_⟩
 obtain ⟨b,o,e,hbB,hcell⟩:=h.2 h0
 refine ⟨b,o,e,hbB,fun j u hu=>?_⟩
 have h1:=hcell j u hu
 by_cases hq:b=q
 ·subst hq
  rw [hb.cell] at h1
  rw [hb'.cell]
  obtain ⟨v,rfl⟩:∃ v,u=.int .i64 v:=by
   have:=List.mem_of_getElem? hu
   obtain ⟨v,_,rfl⟩:=List.mem_map.1 this
   exact ⟨v,rfl⟩
  exact hc _ _ h1
 ·rw [← h1]
  simp only [World.cell?,hk b hbB hq]
theorem acc_int (a:Acc) (A:Option Addr) (c:Nat) (m:Nat) (v:Int) (h:(accC a)[m]?=some (.int .i64 v)):(accC { a with PA:=A,Pc:=c })[m]?=some (.int .i64 v):=by
 match m,h with
 | 0,h=>simp at h
 | 1,h=>simp at h
 | 2,h=>simp at h
 | 3,h=>simp at h
 | 4,h=>exact h
 | 5,h=>simp at h
 | 6,h=>simp at h
 | 7,h=>simp at h
 | 8,h=>simp at h
 | 9,h=>simp at h
 | m+10,h=>simp at h
def lieO (l:Led) (kn day:Int) (r:Rcp) (leaf:Int):Bool:=match getN (opnL l kn).M (r.src,leaf) with
 | none=>true
 | some i=>decide (day<((setP l kn).getD i (0,0)).2)
def lieB (l:Led) (kn day:Int) (r:Rcp) (leaf:Int):Bool:=match getN (opnL l kn).M (r.src,leaf) with
 | none=>false
 | some i=>decide (((setP l kn).getD i (0,0)).1≤day)
def liesX (l:Led) (src day kn:Int):Int × Int:=if preE l [day,kn]=0 then (match findR (cntR l kn) src with
 | none=>(0,3)
 | some r=>if setE l kn=0 then (if day<r.day then (0,0) else (ansI (r.lv.any (lieO l kn day r)) (r.lv.all (lieB l kn day r)),0)) else (0,setE l kn)) else (0,preE l [day,kn])
set_option maxRecDepth 10000 in
theorem p_Lies (l:Led) (x:Lsl) (src day kn:Int) (w:World) (hf:x.fit) (hd:LedIn w w.heap.size x l) :
 Calls Tryz.prog 35 #[.agg #[.slice x.pA x.pn x.pc,.slice x.rA x.rn x.rc,.slice x.tA x.tn x.tc,.slice x.sA x.sn x.sc],.int .i64 src,.int .i64 day,.int .i64 kn] w (fun e w'=>e=.returned (.tuple #[.int .i64 (liesX l src day kn).1,.int .i64 (liesX l src day kn).2])∧Below w.heap.size w w'):=by
 obtain ⟨pA,pn,pc,rA,rn,rc,tA,tn,tc,sA,sn,sc⟩:=x
 have HD:=hd_ hd
 have hml:maxLen≤9223372036854775807:=by decide
 have hpn:pn≤9223372036854775807:=by have:=hf.p;dsimp only at this;omega
 have hrn:rn≤9223372036854775807:=by have:=hf.r;dsimp only at this;omega
 have htn:tn≤9223372036854775807:=by have:=hf.t;dsimp only at this;omega
 have hsn:sn≤9223372036854775807:=by have:=hf.s;dsimp only at this;omega
 clear hd hf hml
 obtain ⟨v,hv⟩:∃ v,preE l [day,kn]=v:=⟨_,rfl⟩
 have HV:Hid (orL [errI (ledB l) 24,errI (daysOk [day,kn]) 6]=v):=by show _=_;exact hv
 by_cases hv0:v=0
 ·subst hv0
  have HLO:=hd_ (led_ok (pre_zero hv).1)
  cases hfr:findR (cntR l kn) src with
  | none =>
    have hres:liesX l src day kn=(0,3):=by rw [liesX,if_pos hv,hfr]
    rw [hres]
    have HFR:=hd_ hfr
    clear hres hfr hv
    go_enter Tryz.func35,Tryz.ntmps35
    go_wp2_with (first | (go_at_call 12;refine (p_Check l ⟨pA,pn,pc,rA,rn,rc,tA,tn,tc,sA,sn,sc⟩ _ hpn hrn htn hsn (HD.out.now (by exact bel_))).mono ?_;rintro e w1 ⟨rfl,hb1⟩;have HB1:Below w.heap.size w w1:=bt_ (by exact bel_) hb1;have hs1:=HB1.size;have bL0:=BoxA.new w 32 #[.slice pA pn pc,.slice rA rn rc,.slice tA tn tc,.slice sA sn sc];have bL1:=bL0.ext hb1;have kL1:=bL1.cell;have zL1:=bL1.lt;clear hb1) | (go_at_call 63;refine (p_checkDays [day,kn] _ 2 2 _ (by decide) (Rd.new _ #[.int .i64 day,.int .i64 kn] _ 1 2 _ (by simp) rfl)).mono ?_;rintro e w2 ⟨rfl,hb2⟩;have HB2:Below w.heap.size w w2:=bt_ (by exact bel_) hb2;have hs2:=HB2.size;have bL2:=(bL1.alloc _).ext hb2;have kL2:=bL2.cell;have zL2:=bL2.lt;clear kL1 zL1;clear hb2) | (go_at_call 62;refine (p_first [errI (ledB l) 24,errI (daysOk [day,kn]) 6] 0 _ 2 2 _ (by decide) (Rd.new _ #[.int .i64 (errI (ledB l) 24),.int .i64 (errI (daysOk [day,kn]) 6)] _ 1 2 _ (by simp) rfl) HV.out).mono ?_;rintro e w1 ⟨rfl,rfl⟩) | (go_at_call 64;refine (p_openA l ⟨pA,pn,pc,rA,rn,rc,tA,tn,tc,sA,sn,sc⟩ kn _ HLO.out (HD.out.now (by exact bel_))).mono ?_;rintro e w5 ⟨RA,Rn,Rc,SA,Sn,Sc,bm,TA,Tn,Tc,PA,Pn,Pc,rfl,hb5,hO⟩;have HB5:Below w.heap.size w w5:=bt_ (by exact bel_) hb5;have hs5:=HB5.size;have HO:=hd_ hO;have bL5:=(bL2.alloc _).ext hb5;have kL5:=bL5.cell;have zL5:=bL5.lt;clear kL2 zL2;clear hO hb5) | (go_at_call 83;have hrc:=p_receipt (cntR l kn) ⟨⟨pA,pn,pc,rA,rn,rc,tA,tn,tc,sA,sn,sc⟩,kn,RA,Rn,Rc,SA,Sn,Sc,bm,TA,Tn,Tc,PA,Pn,Pc⟩ src (w5.alloc (.cells #[.slice pA pn pc,.slice rA rn rc,.slice tA tn tc,.slice sA sn sc,.int .i64 kn,.slice RA Rn Rc,.slice SA Sn Sc,.map (some bm),.slice TA Tn Tc,.slice PA Pn Pc] 115)) HO.out.acc.nR ((HO.out.now (show Below w5.heap.size w5 (w5.alloc (.cells #[.slice pA pn pc,.slice rA rn rc,.slice tA tn tc,.slice sA sn sc,.int .i64 kn,.slice RA Rn Rc,.slice SA Sn Sc,.map (some bm),.slice TA Tn Tc,.slice PA Pn Pc] 115)) by exact bel_)).acc.r);rw [HFR.out] at hrc;refine hrc.mono ?_;clear hrc;rintro e w6 ⟨hb6,rfl⟩;have HB6:Below w.heap.size w w6:=HB5.trans ((bt_ (show Below w5.heap.size w5 _ by exact bel_) hb6).mono hs5);have hs6:=HB6.size))
    go_ret2
    exact ⟨rfl,by exact bel_⟩
  | some r =>
    have HFR:=hd_ hfr
    have HRL:Hid (r.lv.length≤1000000):=by show _≤_;have h1:=(HLO.out.rc r (List.mem_filter.1 (findR_mem hfr).1).1).1;omega
    have hrs:=(HLO.out.rc r (List.mem_filter.1 (findR_mem hfr).1).1).2.1
    have hrw:=(HLO.out.rc r (List.mem_filter.1 (findR_mem hfr).1).1).2.2.1
    have HRW:=hd_ hrw
    obtain ⟨ve,hve⟩:∃ ve,setE l kn=ve:=⟨_,rfl⟩
    by_cases he:ve=0
    ·subst he
     have HSE:=hd_ hve
     by_cases hdd:day<r.day
     ·have hres:liesX l src day kn=(0,0):=by rw [liesX,if_pos hv,hfr];simp only [if_pos hve,if_pos hdd]
      rw [hres]
      clear hres hfr hv hve hrw
      go_enter Tryz.func35,Tryz.ntmps35
      go_wp2_with (first | (go_at_call 12;refine (p_Check l ⟨pA,pn,pc,rA,rn,rc,tA,tn,tc,sA,sn,sc⟩ _ hpn hrn htn hsn (HD.out.now (by exact bel_))).mono ?_;rintro e w1 ⟨rfl,hb1⟩;have HB1:Below w.heap.size w w1:=bt_ (by exact bel_) hb1;have hs1:=HB1.size;have bL0:=BoxA.new w 32 #[.slice pA pn pc,.slice rA rn rc,.slice tA tn tc,.slice sA sn sc];have bL1:=bL0.ext hb1;have kL1:=bL1.cell;have zL1:=bL1.lt;clear hb1) | (go_at_call 63;refine (p_checkDays [day,kn] _ 2 2 _ (by decide) (Rd.new _ #[.int .i64 day,.int .i64 kn] _ 1 2 _ (by simp) rfl)).mono ?_;rintro e w2 ⟨rfl,hb2⟩;have HB2:Below w.heap.size w w2:=bt_ (by exact bel_) hb2;have hs2:=HB2.size;have bL2:=(bL1.alloc _).ext hb2;have kL2:=bL2.cell;have zL2:=bL2.lt;clear kL1 zL1;clear hb2) | (go_at_call 62;refine (p_first [errI (ledB l) 24,errI (daysOk [day,kn]) 6] 0 _ 2 2 _ (by decide) (Rd.new _ #[.int .i64 (errI (ledB l) 24),.int .i64 (errI (daysOk [day,kn]) 6)] _ 1 2 _ (by simp) rfl) HV.out).mono ?_;rintro e w1 ⟨rfl,rfl⟩) | (go_at_call 64;refine (p_openA l ⟨pA,pn,pc,rA,rn,rc,tA,tn,tc,sA,sn,sc⟩ kn _ HLO.out (HD.out.now (by exact bel_))).mono ?_;rintro e w5 ⟨RA,Rn,Rc,SA,Sn,Sc,bm,TA,Tn,Tc,PA,Pn,Pc,rfl,hb5,hO⟩;have HB5:Below w.heap.size w w5:=bt_ (by exact bel_) hb5;have hs5:=HB5.size;have HO:=hd_ hO;have bL5:=(bL2.alloc _).ext hb5;have kL5:=bL5.cell;have zL5:=bL5.lt;clear kL2 zL2;clear hO hb5) | (go_at_call 83;have hrc:=p_receipt (cntR l kn) ⟨⟨pA,pn,pc,rA,rn,rc,tA,tn,tc,sA,sn,sc⟩,kn,RA,Rn,Rc,SA,Sn,Sc,bm,TA,Tn,Tc,PA,Pn,Pc⟩ src (w5.alloc (.cells #[.slice pA pn pc,.slice rA rn rc,.slice tA tn tc,.slice sA sn sc,.int .i64 kn,.slice RA Rn Rc,.slice SA Sn Sc,.map (some bm),.slice TA Tn Tc,.slice PA Pn Pc] 115)) HO.out.acc.nR ((HO.out.now (show Below w5.heap.size w5 (w5.alloc (.cells #[.slice pA pn pc,.slice rA rn rc,.slice tA tn tc,.slice sA sn sc,.int .i64 kn,.slice RA Rn Rc,.slice SA Sn Sc,.map (some bm),.slice TA Tn Tc,.slice PA Pn Pc] 115)) by exact bel_)).acc.r);rw [HFR.out] at hrc;refine hrc.mono ?_;clear hrc;rintro e w6 ⟨hb6,A1,n1,c1,rfl,hi1,hc1,hm1⟩;have HW6:Below w5.heap.size w5 w6:=bt_ (show Below w5.heap.size w5 _ by exact bel_) hb6;have HB6:Below w.heap.size w w6:=HB5.trans (HW6.mono hs5);have hs6:=HB6.size;have hs56:=HW6.size;have bA6:=(BoxA.new w5 115 #[.slice pA pn pc,.slice rA rn rc,.slice tA tn tc,.slice sA sn sc,.int .i64 kn,.slice RA Rn Rc,.slice SA Sn Sc,.map (some bm),.slice TA Tn Tc,.slice PA Pn Pc]).ext hb6;have k6:=bA6.cell;have z6:=bA6.lt;have HI1:=hd_ (hi1.now hb6);have hn1:n1≤1000000:=(by rw [← hi1.len];exact HRL.out);clear hi1 hb6 kL5 zL5) | (go_at_call 73;refine (p_settle0G l kn ⟨⟨pA,pn,pc,rA,rn,rc,tA,tn,tc,sA,sn,sc⟩,kn,RA,Rn,Rc,SA,Sn,Sc,bm,TA,Tn,Tc,PA,Pn,Pc⟩ w5 (w6.alloc (.cells #[.int .i64 r.src,.int .i64 r.bor,.int .i64 r.pap,.slice A1 n1 c1,.int .i64 r.day,.int .i64 r.kn,.int .i64 r.un] 79)) HLO.out HO.out (HW6.trans ((show Below w6.heap.size w6 (w6.alloc (.cells #[.int .i64 r.src,.int .i64 r.bor,.int .i64 r.pap,.slice A1 n1 c1,.int .i64 r.day,.int .i64 r.kn,.int .i64 r.un] 79)) by exact bel_).mono hs56)) (bA6.alloc _) HSE.out).mono ?_;rintro e w7 ⟨PA2,Pc2,rfl,hb7,hk7,hz7,hbx7,hac7,hlp7,_⟩;have HB7:Below w.heap.size w w7:=HB5.trans (hb7.mono hs5);have hs7:=HB7.size;have bR7:BoxA w7 w6.heap.size 79 #[.int .i64 r.src,.int .i64 r.bor,.int .i64 r.pap,.slice A1 n1 c1,.int .i64 r.day,.int .i64 r.kn,.int .i64 r.un]:=(hk7 _ (by simp) (by have:=bA6.lt;omega)).trans (BoxA.new w6 _ _);have kR7:=bR7.cell;have zR7:=bR7.lt;have HI7:=hd_ ((Is.box (HI1.out.now (show Below w6.heap.size w6 (w6.alloc (.cells #[.int .i64 r.src,.int .i64 r.bor,.int .i64 r.pap,.slice A1 n1 c1,.int .i64 r.day,.int .i64 r.kn,.int .i64 r.un] 79)) by exact bel_)) (bA6.alloc _) hbx7 hk7 (acc_int ⟨⟨pA,pn,pc,rA,rn,rc,tA,tn,tc,sA,sn,sc⟩,kn,RA,Rn,Rc,SA,Sn,Sc,bm,TA,Tn,Tc,PA,Pn,Pc⟩ PA2 Pc2)).more hz7);have HBX:=hd_ hbx7;have HAC:=hd_ hac7;have HLP:=hd_ hlp7;have HBR:=hd_ bR7;have k7:=hbx7.cell;have z7:=hbx7.lt;clear k6 z6 hbx7 hac7 hlp7))
      go_ret2
      exact ⟨rfl,HB7⟩
     ·have hres:liesX l src day kn=(ansI (r.lv.any (lieO l kn day r)) (r.lv.all (lieB l kn day r)),0):=by rw [liesX,if_pos hv,hfr];simp only [if_pos hve,if_neg hdd]
      rw [hres]
      clear hres hfr hv hve hrw
      go_enter Tryz.func35,Tryz.ntmps35
      go_wp2_with (first | (go_at_call 12;refine (p_Check l ⟨pA,pn,pc,rA,rn,rc,tA,tn,tc,sA,sn,sc⟩ _ hpn hrn htn hsn (HD.out.now (by exact bel_))).mono ?_;rintro e w1 ⟨rfl,hb1⟩;have HB1:Below w.heap.size w w1:=bt_ (by exact bel_) hb1;have hs1:=HB1.size;have bL0:=BoxA.new w 32 #[.slice pA pn pc,.slice rA rn rc,.slice tA tn tc,.slice sA sn sc];have bL1:=bL0.ext hb1;have kL1:=bL1.cell;have zL1:=bL1.lt;clear hb1) | (go_at_call 63;refine (p_checkDays [day,kn] _ 2 2 _ (by decide) (Rd.new _ #[.int .i64 day,.int .i64 kn] _ 1 2 _ (by simp) rfl)).mono ?_;rintro e w2 ⟨rfl,hb2⟩;have HB2:Below w.heap.size w w2:=bt_ (by exact bel_) hb2;have hs2:=HB2.size;have bL2:=(bL1.alloc _).ext hb2;have kL2:=bL2.cell;have zL2:=bL2.lt;clear kL1 zL1;clear hb2) | (go_at_call 62;refine (p_first [errI (ledB l) 24,errI (daysOk [day,kn]) 6] 0 _ 2 2 _ (by decide) (Rd.new _ #[.int .i64 (errI (ledB l) 24),.int .i64 (errI (daysOk [day,kn]) 6)] _ 1 2 _ (by simp) rfl) HV.out).mono ?_;rintro e w1 ⟨rfl,rfl⟩) | (go_at_call 64;refine (p_openA l ⟨pA,pn,pc,rA,rn,rc,tA,tn,tc,sA,sn,sc⟩ kn _ HLO.out (HD.out.now (by exact bel_))).mono ?_;rintro e w5 ⟨RA,Rn,Rc,SA,Sn,Sc,bm,TA,Tn,Tc,PA,Pn,Pc,rfl,hb5,hO⟩;have HB5:Below w.heap.size w w5:=bt_ (by exact bel_) hb5;have hs5:=HB5.size;have HO:=hd_ hO;have bL5:=(bL2.alloc _).ext hb5;have kL5:=bL5.cell;have zL5:=bL5.lt;clear kL2 zL2;clear hO hb5) | (go_at_call 83;have hrc:=p_receipt (cntR l kn) ⟨⟨pA,pn,pc,rA,rn,rc,tA,tn,tc,sA,sn,sc⟩,kn,RA,Rn,Rc,SA,Sn,Sc,bm,TA,Tn,Tc,PA,Pn,Pc⟩ src (w5.alloc (.cells #[.slice pA pn pc,.slice rA rn rc,.slice tA tn tc,.slice sA sn sc,.int .i64 kn,.slice RA Rn Rc,.slice SA Sn Sc,.map (some bm),.slice TA Tn Tc,.slice PA Pn Pc] 115)) HO.out.acc.nR ((HO.out.now (show Below w5.heap.size w5 (w5.alloc (.cells #[.slice pA pn pc,.slice rA rn rc,.slice tA tn tc,.slice sA sn sc,.int .i64 kn,.slice RA Rn Rc,.slice SA Sn Sc,.map (some bm),.slice TA Tn Tc,.slice PA Pn Pc] 115)) by exact bel_)).acc.r);rw [HFR.out] at hrc;refine hrc.mono ?_;clear hrc;rintro e w6 ⟨hb6,A1,n1,c1,rfl,hi1,hc1,hm1⟩;have HW6:Below w5.heap.size w5 w6:=bt_ (show Below w5.heap.size w5 _ by exact bel_) hb6;have HB6:Below w.heap.size w w6:=HB5.trans (HW6.mono hs5);have hs6:=HB6.size;have hs56:=HW6.size;have bA6:=(BoxA.new w5 115 #[.slice pA pn pc,.slice rA rn rc,.slice tA tn tc,.slice sA sn sc,.int .i64 kn,.slice RA Rn Rc,.slice SA Sn Sc,.map (some bm),.slice TA Tn Tc,.slice PA Pn Pc]).ext hb6;have k6:=bA6.cell;have z6:=bA6.lt;have HI1:=hd_ (hi1.now hb6);have hn1:n1≤1000000:=(by rw [← hi1.len];exact HRL.out);clear hi1 hb6 kL5 zL5) | (go_at_call 73;refine (p_settle0G l kn ⟨⟨pA,pn,pc,rA,rn,rc,tA,tn,tc,sA,sn,sc⟩,kn,RA,Rn,Rc,SA,Sn,Sc,bm,TA,Tn,Tc,PA,Pn,Pc⟩ w5 (w6.alloc (.cells #[.int .i64 r.src,.int .i64 r.bor,.int .i64 r.pap,.slice A1 n1 c1,.int .i64 r.day,.int .i64 r.kn,.int .i64 r.un] 79)) HLO.out HO.out (HW6.trans ((show Below w6.heap.size w6 (w6.alloc (.cells #[.int .i64 r.src,.int .i64 r.bor,.int .i64 r.pap,.slice A1 n1 c1,.int .i64 r.day,.int .i64 r.kn,.int .i64 r.un] 79)) by exact bel_).mono hs56)) (bA6.alloc _) HSE.out).mono ?_;rintro e w7 ⟨PA2,Pc2,rfl,hb7,hk7,hz7,hbx7,hac7,hlp7,_⟩;have HB7:Below w.heap.size w w7:=HB5.trans (hb7.mono hs5);have hs7:=HB7.size;have bR7:BoxA w7 w6.heap.size 79 #[.int .i64 r.src,.int .i64 r.bor,.int .i64 r.pap,.slice A1 n1 c1,.int .i64 r.day,.int .i64 r.kn,.int .i64 r.un]:=(hk7 _ (by simp) (by have:=bA6.lt;omega)).trans (BoxA.new w6 _ _);have kR7:=bR7.cell;have zR7:=bR7.lt;have HI7:=hd_ ((Is.box (HI1.out.now (show Below w6.heap.size w6 (w6.alloc (.cells #[.int .i64 r.src,.int .i64 r.bor,.int .i64 r.pap,.slice A1 n1 c1,.int .i64 r.day,.int .i64 r.kn,.int .i64 r.un] 79)) by exact bel_)) (bA6.alloc _) hbx7 hk7 (acc_int ⟨⟨pA,pn,pc,rA,rn,rc,tA,tn,tc,sA,sn,sc⟩,kn,RA,Rn,Rc,SA,Sn,Sc,bm,TA,Tn,Tc,PA,Pn,Pc⟩ PA2 Pc2)).more hz7);have HBX:=hd_ hbx7;have HAC:=hd_ hac7;have HLP:=hd_ hlp7;have HBR:=hd_ bR7;have k7:=hbx7.cell;have z7:=hbx7.lt;clear k6 z6 hbx7 hac7 hlp7))
      have hnl:Hid (r.lv.length=n1):=by show _=_;exact HI7.out.len
      go_loopw [15,16,54] (fun ca cb i wr=>∃ k:Nat,k≤n1∧i=.int .i64 k∧ca=.bool ((r.lv.take k).any (lieO l kn day r))∧cb=.bool ((r.lv.take k).all (lieB l kn day r))∧Below w7.heap.size w7 wr) (fun _ _ i _=>n1 - (intOf i).toNat)
      case atStart=>exact ⟨0,by omega,rfl,rfl,rfl,Below.refl _ _⟩
      case round =>
       obtain ⟨k,hk,rfl,rfl,rfl,hB⟩:=hrel
       have hsB:=hB.size
       have bAw:=HBX.out.ext hB
       have kAw:=bAw.cell
       have zAw:=bAw.lt
       have bRw:=HBR.out.ext hB
       have kRw:=bRw.cell
       have zRw:=bRw.lt
       have HACw:=hd_ (HAC.out.now hB)
       obtain ⟨ca,hca⟩:∃ b,(r.lv.take k).any (lieO l kn day r)=b:=⟨_,rfl⟩
       obtain ⟨cb,hcb⟩:∃ b,(r.lv.take k).all (lieB l kn day r)=b:=⟨_,rfl⟩
       rw [hca,hcb]
       have HCA:=hd_ hca
       have HCB:=hd_ hcb
       clear hca hcb
       by_cases hlt:k<n1
       ·obtain ⟨b,o,x,hA1,hb,hx,hcx⟩:=(HI7.out.now hB).at_ hlt
        have hwx:=HRW.out x (List.mem_of_getElem? hx)
        have HAN:=hd_ (any_take_succ2 (p:=lieO l kn day r) hx)
        have HAL:=hd_ (all_take_succ (p:=lieB l kn day r) hx)
        have hA1':A1=some ⟨b,o,none⟩:=hA1
        subst hA1'
        have hlk:=(HACw.out.m).look2 key_slips Tryz.underlying112 (a:=(r.src,x)) ⟨hrs,hwx⟩ (zeroInt2 wr)
        rw [getG_enc] at hlk
        clear hx hA1 hwx
        cases hg:getN (opnL l kn).M (r.src,x) with
        | none =>
          rw [hg] at hlk
          simp only [Option.map_none,Option.getD_none,Option.isSome_none] at hlk
          have HP1:Hid (lieO l kn day r x=true):=by show _=_;rw [lieO,hg]
          have HP2:Hid (lieB l kn day r x=false):=by show _=_;rw [lieB,hg]
          clear hg
          cases ca <;> cases cb
          all_goals
           go_wp2_with fail
           go_roundw
           case rel=>exact ⟨k+1,by omega,by go_num,by rw [HAN.out,HCA.out,HP1.out] <;> rfl,by rw [HAL.out,HCB.out,HP2.out] <;> rfl,hB⟩
           case measure=>exact ms_
        | some i =>
          rw [hg] at hlk
          simp only [Option.map_some,Option.getD_some,Option.isSome_some] at hlk
          have hiP:i<Pn:=HACw.out.mP _ _ hg
          obtain ⟨b2,o2,d,hPA,hb2,hd,q0,q1⟩:=HACw.out.p.at_ hiP
          have hPA':PA2=some ⟨b2,o2,none⟩:=hPA
          subst hPA'
          have hgd:(setP l kn).getD i (0,0)=d:=by rw [List.getD_eq_getElem?_getD,hd];rfl
          have HP1:Hid (lieO l kn day r x=decide (day<d.2)):=by show _=_;rw [lieO,hg];simp only [hgd]
          have HP2:Hid (lieB l kn day r x=decide (d.1≤day)):=by show _=_;rw [lieB,hg];simp only [hgd]
          clear hg hd hgd hPA
          cases ca <;> cases cb
          all_goals
           go_wp2_with fail
           go_roundw
           case rel=>exact ⟨k+1,by omega,by go_num,by rw [HAN.out,HCA.out,HP1.out] <;> rfl,by rw [HAL.out,HCB.out,HP2.out] <;> rfl,hB⟩
           case measure=>exact ms_
       ·have hkn:Hid (k=n1):=by show _=_;omega
        have hfa:r.lv.any (lieO l kn day r)=ca:=by
         have:=HCA.out
         rwa [List.take_of_length_le (by rw [hnl.out,hkn.out];exact lr_)] at this
        have hfb:r.lv.all (lieB l kn day r)=cb:=by
         have:=HCB.out
         rwa [List.take_of_length_le (by rw [hnl.out,hkn.out];exact lr_)] at this
        have HFA:=hd_ hfa
        have HFB:=hd_ hfb
        clear hfa hfb
        go_wp2_with (go_at_call 94;refine (p_answer ca cb _).mono ?_;rintro e w1 ⟨rfl,rfl⟩)
        go_ret2
        exact ⟨by rw [HFA.out,HFB.out];rfl,HB7.trans (hB.mono (by omega))⟩
    ·have hres:liesX l src day kn=(0,ve):=by rw [liesX,if_pos hv,hfr];simp only [hve,if_neg he]
     rw [hres]
     have HSE:=hd_ hve
     have HVE:=hd_ he
     have hed:(ve != 0)=true:=by simpa using he
     clear hres hfr hv hve he hrw
     go_enter Tryz.func35,Tryz.ntmps35
     go_wp2_with (first | (go_at_call 12;refine (p_Check l ⟨pA,pn,pc,rA,rn,rc,tA,tn,tc,sA,sn,sc⟩ _ hpn hrn htn hsn (HD.out.now (by exact bel_))).mono ?_;rintro e w1 ⟨rfl,hb1⟩;have HB1:Below w.heap.size w w1:=bt_ (by exact bel_) hb1;have hs1:=HB1.size;have bL0:=BoxA.new w 32 #[.slice pA pn pc,.slice rA rn rc,.slice tA tn tc,.slice sA sn sc];have bL1:=bL0.ext hb1;have kL1:=bL1.cell;have zL1:=bL1.lt;clear hb1) | (go_at_call 63;refine (p_checkDays [day,kn] _ 2 2 _ (by decide) (Rd.new _ #[.int .i64 day,.int .i64 kn] _ 1 2 _ (by simp) rfl)).mono ?_;rintro e w2 ⟨rfl,hb2⟩;have HB2:Below w.heap.size w w2:=bt_ (by exact bel_) hb2;have hs2:=HB2.size;have bL2:=(bL1.alloc _).ext hb2;have kL2:=bL2.cell;have zL2:=bL2.lt;clear kL1 zL1;clear hb2) | (go_at_call 62;refine (p_first [errI (ledB l) 24,errI (daysOk [day,kn]) 6] 0 _ 2 2 _ (by decide) (Rd.new _ #[.int .i64 (errI (ledB l) 24),.int .i64 (errI (daysOk [day,kn]) 6)] _ 1 2 _ (by simp) rfl) HV.out).mono ?_;rintro e w1 ⟨rfl,rfl⟩) | (go_at_call 64;refine (p_openA l ⟨pA,pn,pc,rA,rn,rc,tA,tn,tc,sA,sn,sc⟩ kn _ HLO.out (HD.out.now (by exact bel_))).mono ?_;rintro e w5 ⟨RA,Rn,Rc,SA,Sn,Sc,bm,TA,Tn,Tc,PA,Pn,Pc,rfl,hb5,hO⟩;have HB5:Below w.heap.size w w5:=bt_ (by exact bel_) hb5;have hs5:=HB5.size;have HO:=hd_ hO;have bL5:=(bL2.alloc _).ext hb5;have kL5:=bL5.cell;have zL5:=bL5.lt;clear kL2 zL2;clear hO hb5) | (go_at_call 83;have hrc:=p_receipt (cntR l kn) ⟨⟨pA,pn,pc,rA,rn,rc,tA,tn,tc,sA,sn,sc⟩,kn,RA,Rn,Rc,SA,Sn,Sc,bm,TA,Tn,Tc,PA,Pn,Pc⟩ src (w5.alloc (.cells #[.slice pA pn pc,.slice rA rn rc,.slice tA tn tc,.slice sA sn sc,.int .i64 kn,.slice RA Rn Rc,.slice SA Sn Sc,.map (some bm),.slice TA Tn Tc,.slice PA Pn Pc] 115)) HO.out.acc.nR ((HO.out.now (show Below w5.heap.size w5 (w5.alloc (.cells #[.slice pA pn pc,.slice rA rn rc,.slice tA tn tc,.slice sA sn sc,.int .i64 kn,.slice RA Rn Rc,.slice SA Sn Sc,.map (some bm),.slice TA Tn Tc,.slice PA Pn Pc] 115)) by exact bel_)).acc.r);rw [HFR.out] at hrc;refine hrc.mono ?_;clear hrc;rintro e w6 ⟨hb6,A1,n1,c1,rfl,hi1,hc1,hm1⟩;have HW6:Below w5.heap.size w5 w6:=bt_ (show Below w5.heap.size w5 _ by exact bel_) hb6;have HB6:Below w.heap.size w w6:=HB5.trans (HW6.mono hs5);have hs6:=HB6.size;have hs56:=HW6.size;have bA6:=(BoxA.new w5 115 #[.slice pA pn pc,.slice rA rn rc,.slice tA tn tc,.slice sA sn sc,.int .i64 kn,.slice RA Rn Rc,.slice SA Sn Sc,.map (some bm),.slice TA Tn Tc,.slice PA Pn Pc]).ext hb6;have k6:=bA6.cell;have z6:=bA6.lt;have HI1:=hd_ (hi1.now hb6);have hn1:n1≤1000000:=(by rw [← hi1.len];exact HRL.out);clear hi1 hb6 kL5 zL5) | (go_at_call 73;refine (p_settleNG l kn ⟨⟨pA,pn,pc,rA,rn,rc,tA,tn,tc,sA,sn,sc⟩,kn,RA,Rn,Rc,SA,Sn,Sc,bm,TA,Tn,Tc,PA,Pn,Pc⟩ ve w5 (w6.alloc (.cells #[.int .i64 r.src,.int .i64 r.bor,.int .i64 r.pap,.slice A1 n1 c1,.int .i64 r.day,.int .i64 r.kn,.int .i64 r.un] 79)) HLO.out HO.out (HW6.trans ((show Below w6.heap.size w6 (w6.alloc (.cells #[.int .i64 r.src,.int .i64 r.bor,.int .i64 r.pap,.slice A1 n1 c1,.int .i64 r.day,.int .i64 r.kn,.int .i64 r.un] 79)) by exact bel_).mono hs56)) (bA6.alloc _) HSE.out HVE.out).mono ?_;rintro e w7 ⟨rfl,hb7⟩;have HB7:Below w.heap.size w w7:=HB6.trans ((bt_ (show Below w6.heap.size w6 (w6.alloc (.cells #[.int .i64 r.src,.int .i64 r.bor,.int .i64 r.pap,.slice A1 n1 c1,.int .i64 r.day,.int .i64 r.kn,.int .i64 r.un] 79)) by exact bel_) hb7).mono hs6);have hs7:=HB7.size))
     go_ret2
     exact ⟨rfl,HB7⟩
 ·have hres:liesX l src day kn=(0,v):=by rw [liesX,if_neg (by rw [hv];exact hv0),hv]
  rw [hres]
  have hv1:(v != 0)=true:=by simpa using hv0
  clear hres hv hv0
  go_enter Tryz.func35,Tryz.ntmps35
  go_wp2_with (first | (go_at_call 12;refine (p_Check l ⟨pA,pn,pc,rA,rn,rc,tA,tn,tc,sA,sn,sc⟩ _ hpn hrn htn hsn (HD.out.now (by exact bel_))).mono ?_;rintro e w1 ⟨rfl,hb1⟩;have HB1:Below w.heap.size w w1:=bt_ (by exact bel_) hb1;have hs1:=HB1.size;have bL0:=BoxA.new w 32 #[.slice pA pn pc,.slice rA rn rc,.slice tA tn tc,.slice sA sn sc];have bL1:=bL0.ext hb1;have kL1:=bL1.cell;have zL1:=bL1.lt;clear hb1) | (go_at_call 63;refine (p_checkDays [day,kn] _ 2 2 _ (by decide) (Rd.new _ #[.int .i64 day,.int .i64 kn] _ 1 2 _ (by simp) rfl)).mono ?_;rintro e w2 ⟨rfl,hb2⟩;have HB2:Below w.heap.size w w2:=bt_ (by exact bel_) hb2;have hs2:=HB2.size;have bL2:=(bL1.alloc _).ext hb2;have kL2:=bL2.cell;have zL2:=bL2.lt;clear kL1 zL1;clear hb2) | (go_at_call 62;refine (p_first [errI (ledB l) 24,errI (daysOk [day,kn]) 6] v _ 2 2 _ (by decide) (Rd.new _ #[.int .i64 (errI (ledB l) 24),.int .i64 (errI (daysOk [day,kn]) 6)] _ 1 2 _ (by simp) rfl) HV.out).mono ?_;rintro e w1 ⟨rfl,rfl⟩))
  go_ret2
  exact ⟨rfl,by exact bel_⟩
end Go.Proofs.YtmcmbicapdcfmaaGreat
