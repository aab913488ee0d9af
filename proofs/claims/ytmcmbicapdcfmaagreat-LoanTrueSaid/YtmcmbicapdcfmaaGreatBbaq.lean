/- Layer 2 of the texts that LoanBack takes: Bbaq. -/
import Derived.Test.YtmcmbicapdcfmaaGreatBaxq
import Derived.Test.YtmcmbicapdcfmaaGreatBazq
set_option linter.unusedVariables false
set_option linter.unusedSimpArgs false
set_option maxHeartbeats 16000000
namespace Go.Proofs.YtmcmbicapdcfmaaGreat
open Go.RowKit Go.Maps
theorem is_box {W:World} {b n:Nat} {t:TypeId} {xs:List Int} (h:BoxA W b t (intL xs).toArray) (hn:xs.length=n):Is W W.heap.size (some ⟨b,0,none⟩) n xs:=by
 refine ⟨by simpa using hn,fun _=>⟨b,0,rfl,h.lt,fun j u hu=>?_⟩⟩
 rw [h.cell]
 simpa [intL] using hu
structure IsFr2 (F:(Nat→Value)→Act) (a:Act):Prop where
 ex:∃ u,a=F u
theorem IsFr2.of {F:(Nat→Value)→Act} {X:Act} (h:X=F fun j=>X.tmps.getD j undef):IsFr2 F X:=⟨_,h⟩
def preF (l:Led) (day kn pap leaf:Int):Int:=orL [errI (ledB l) 24,errI (daysOk [day,kn]) 6,errI (folB l.pp pap leaf) 26]
theorem preF_zero {l:Led} {d k p f:Int} (h:preF l d k p f=0):ledB l=true:=by
 unfold preF at h
 cases h1:ledB l <;> simp_all [orL,errI]
def whereX (l:Led) (pap leaf day kn:Int):List Int × Int:=if preF l day kn pap leaf=0 then (if setE l kn=0 then (whL l kn day (pap,leaf),0) else ([],setE l kn)) else ([],preF l day kn pap leaf)
set_option maxRecDepth 10000 in
theorem p_WhereX (l:Led) (x:Lsl) (pap leaf day kn:Int) (w:World) (hf:x.fit) (hd:LedIn w w.heap.size x l) (hwl:(Lit.int .i64 leaf).wf=true) :
 Calls Tryz.prog 17 #[.agg #[.slice x.pA x.pn x.pc,.slice x.rA x.rn x.rc,.slice x.tA x.tn x.tc,.slice x.sA x.sn x.sc],.agg #[.int .i64 pap,.int .i64 leaf],.int .i64 day,.int .i64 kn] w (RetLE (whereX l pap leaf day kn) w):=by
 obtain ⟨pA,pn,pc,rA,rn,rc,tA,tn,tc,sA,sn,sc⟩:=x
 have HD:=hd_ hd
 have hml:maxLen≤9223372036854775807:=by decide
 have hpn:pn≤9223372036854775807:=by have:=hf.p;dsimp only at this;omega
 have hrn:rn≤9223372036854775807:=by have:=hf.r;dsimp only at this;omega
 have htn:tn≤9223372036854775807:=by have:=hf.t;dsimp only at this;omega
 have hsn:sn≤9223372036854775807:=by have:=hf.s;dsimp only at this;omega
 clear hd hf hml
 obtain ⟨vp,hv⟩:∃ vp,preF l day kn pap leaf=vp:=⟨_,rfl⟩
 have HV:Hid (orL [errI (ledB l) 24,errI (daysOk [day,kn]) 6,errI (folB l.pp pap leaf) 26]=vp):=by show _=_;exact hv
 obtain ⟨W0,hW0⟩:∃ W0,W0=((w.alloc (.cells #[.slice pA pn pc,.slice rA rn rc,.slice tA tn tc,.slice sA sn sc] 32)).alloc (.cells #[.int .i64 pap,.int .i64 leaf] 48)):=⟨_,rfl⟩
 have hb2:=box2 w 32 48 #[.slice pA pn pc,.slice rA rn rc,.slice tA tn tc,.slice sA sn sc] #[.int .i64 pap,.int .i64 leaf]
 have HC0:Below w.heap.size w W0:=by rw [hW0];exact bel_
 rw [← hW0] at hb2
 have bL:=hb2.1
 have bF:=hb2.2
 have HW0:=hd_ hW0
 have HVP:=hd_ hv
 clear hb2 hW0 hv
 go_enter Tryz.func17,Tryz.ntmps17
 go_wp2
 refine wp_named2 fun f1 V1 hf1 hV1=>?_
 obtain rfl:V1=W0:=by rw [← hV1,HW0.out]
 clear hV1
 refine wp_cut2 (fun a' W'=>IsFr2 (fun u=>{ tmps:=#[.agg #[.slice pA pn pc,.slice rA rn rc,.slice tA tn tc,.slice sA sn sc],.agg #[.int .i64 pap,.int .i64 leaf],.int .i64 day,.int .i64 kn,.pointer (some ⟨w.heap.size,0,none⟩),.pointer (some ⟨w.heap.size+1,0,none⟩),u 6,u 7,.slice none 0 0,.int .i64 0,.int .i64 vp,u 11,u 12,u 13,u 14,u 15,u 16,u 17,u 18,u 19,u 20,u 21,u 22,u 23,u 24,u 25,u 26,u 27,u 28,u 29,u 30,u 31,u 32,u 33,u 34,u 35,u 36,u 37],defers:=[] }) a'∧Below w.heap.size w W'∧(∀ o,W'.cell? ⟨w.heap.size,o,none⟩=(#[.slice pA pn pc,.slice rA rn rc,.slice tA tn tc,.slice sA sn sc]:Array Value)[o]?)∧(∀ o,W'.cell? ⟨w.heap.size+1,o,none⟩=(#[.int .i64 pap,.int .i64 leaf]:Array Value)[o]?)∧w.heap.size<W'.heap.size∧w.heap.size+1<W'.heap.size) ?reg ?rest
 case reg =>
  subst hf1
  have HC:Below w.heap.size w V1.drew:=HC0.drew
  have zF:w.heap.size+1<V1.heap.size:=bF.lt
  have zL:w.heap.size<V1.heap.size:=bL.lt
  (refine wp_region_sink_lit (S:=S1 w.heap.size (w.heap.size+1) #[.slice pA pn pc,.slice rA rn rc,.slice tA tn tc,.slice sA sn sc] #[.int .i64 pap,.int .i64 leaf]) 11 (by kernel_rfl) rfl rfl (by kernel_rfl) (by kernel_rfl) ⟨bL.cell,bF.cell,zL,zF⟩ (fun hS=>?_);simp only [List.take_succ_cons,List.take_zero,List.reduceReplicate,Array.replicate_succ,Array.replicate_zero])
  (refine tk_ (i:=0) (v:=?_) rfl ?_ hS ?_;rotate_left;focus (intro w2 hw2;(try unfold S1 at hw2);go_split_ands;go_simp;first | done | with_reducible rfl);(try simp only [Act.put,pu1,pu2,pu3]))
  (refine tk_ (i:=2) (v:=?_) rfl ?_ hS ?_;rotate_left;focus (intro w2 hw2;(try unfold S1 at hw2);go_split_ands;go_simp;first | done | with_reducible rfl);(try simp only [Act.put,pu1,pu2,pu3]))
  (refine tk_ (i:=3) (v:=?_) rfl ?_ hS ?_;rotate_left;focus (intro w2 hw2;(try unfold S1 at hw2);go_split_ands;go_simp;first | done | with_reducible rfl);(try simp only [Act.put,pu1,pu2,pu3]))
  (refine tk_ (i:=6) (v:=?_) rfl ?_ hS ?_;rotate_left;focus (intro w2 hw2;(try unfold S1 at hw2);go_split_ands;go_simp;first | done | with_reducible rfl);(try simp only [Act.put,pu1,pu2,pu3]))
  (refine tk_ (i:=7) (v:=?_) rfl ?_ hS ?_;rotate_left;focus (intro w2 hw2;(try unfold S1 at hw2);go_split_ands;go_simp;first | done | with_reducible rfl);(try simp only [Act.put,pu1,pu2,pu3]))
  refine rd_ [1,4] ?_
  refine AllReadyH.cons rfl (fun K hK=>?_) (AllReadyH.cons rfl (fun K hK=>?_) AllReadyH.nil)
  ·(go_simp;go_at_call 12;refine (p_Check l ⟨pA,pn,pc,rA,rn,rc,tA,tn,tc,sA,sn,sc⟩ _ hpn hrn htn hsn (HD.out.now HC)).mono ?_;rintro e v1 ⟨rfl,hb⟩;go_simp)
   have HC:=bt_ HC hb
   refine hK.out _ _ (S1.ext hb hS) (fun hS=>?_)
   clear hK K hb
   (try simp only [Act.put,pu1,pu2,pu3])
   refine rd_ [4] ?_
   refine ah1 rfl fun K hK=>?_
   go_simp
   have hAr:=BoxA.new (v1) 3 #[.int .i64 day,.int .i64 kn]
   have HC:=HC.alloc HC.size (.cells #[.int .i64 day,.int .i64 kn] 3)
   refine hK.out _ _ (S1.ext ((Below.refl _ _).alloc lr_ _) hS) (fun hS=>?_)
   clear hK K
   (try simp only [Act.put,pu1,pu2,pu3])
   refine rd_ [5] ?_
   refine ah1 rfl fun K hK=>?_
   (go_simp;go_at_call 63;refine (p_checkDays [day,kn] _ 2 2 _ (by decide) (is_box hAr rfl)).mono ?_;rintro e v3 ⟨rfl,hb⟩;go_simp)
   have HC:=bt_ HC hb
   have hAr:=hAr.ext hb
   refine hK.out _ _ (S1.ext hb hS) (fun hS=>?_)
   clear hK K hb
   (try simp only [Act.put,pu1,pu2,pu3])
   refine rd_ [8] ?_
   refine ah1 rfl fun K hK=>?_
   (go_simp;go_at_call 72;refine (p_checkFolio l.pp ⟨pA,pn,pc,rA,rn,rc,tA,tn,tc,sA,sn,sc⟩ pap leaf _ hpn (HD.out.now HC).p).mono ?_;rintro e v4 ⟨rfl,hb⟩;go_simp)
   have HC:=bt_ HC hb
   have hAr:=hAr.ext hb
   refine hK.out _ _ (S1.ext hb hS) (fun hS=>?_)
   clear hK K hb
   (try simp only [Act.put,pu1,pu2,pu3])
   refine rd_ [9] ?_
   refine ah1 rfl fun K hK=>?_
   go_simp
   have HCX:=HC.alloc HC.size (.cells #[.int .i64 (errI (ledB l) 24),.int .i64 (errI (daysOk [day,kn]) 6),.int .i64 (errI (folB l.pp pap leaf) 26)] 39)
   refine hK.out _ _ (S1.ext ((Below.refl _ _).alloc lr_ _) hS) (fun hS=>?_)
   clear hK K
   (try simp only [Act.put,pu1,pu2,pu3])
   refine rd_ [10] ?_
   refine ah1 rfl fun K hK=>?_
   (go_simp;go_at_call 62;refine (p_first [errI (ledB l) 24,errI (daysOk [day,kn]) 6,errI (folB l.pp pap leaf) 26] vp _ 3 3 _ (by decide) (Rd.new _ #[.int .i64 (errI (ledB l) 24),.int .i64 (errI (daysOk [day,kn]) 6),.int .i64 (errI (folB l.pp pap leaf) 26)] _ 1 3 _ (by simp) rfl) HV.out).mono ?_;rintro e w9 ⟨rfl,rfl⟩;go_simp)
   refine hK.out _ _ hS (fun hS=>?_)
   clear hK K
   (try simp only [Act.put,pu1,pu2,pu3])
   refine wpAnyH_done (by kernel_rfl) ?_ _
   simp only [sinkQ]
   go_simp
   refine ⟨IsFr2.of rfl,HCX,fun o=>?_,fun o=>?_,hS.2.2.1,hS.2.2.2⟩
   ·have h:=hS.1 o
    simpa using h
   ·have h:=hS.2.1 o
    simpa using h
  ·go_simp
   have hAr:=BoxA.new (V1.drew) 3 #[.int .i64 day,.int .i64 kn]
   have HC:=HC.alloc HC.size (.cells #[.int .i64 day,.int .i64 kn] 3)
   refine hK.out _ _ (S1.ext ((Below.refl _ _).alloc lr_ _) hS) (fun hS=>?_)
   clear hK K
   (try simp only [Act.put,pu1,pu2,pu3])
   refine rd_ [1] ?_
   refine ah1 rfl fun K hK=>?_
   (go_simp;go_at_call 12;refine (p_Check l ⟨pA,pn,pc,rA,rn,rc,tA,tn,tc,sA,sn,sc⟩ _ hpn hrn htn hsn (HD.out.now HC)).mono ?_;rintro e v6 ⟨rfl,hb⟩;go_simp)
   have HC:=bt_ HC hb
   have hAr:=hAr.ext hb
   refine hK.out _ _ (S1.ext hb hS) (fun hS=>?_)
   clear hK K hb
   (try simp only [Act.put,pu1,pu2,pu3])
   refine rd_ [5] ?_
   refine ah1 rfl fun K hK=>?_
   (go_simp;go_at_call 63;refine (p_checkDays [day,kn] _ 2 2 _ (by decide) (is_box hAr rfl)).mono ?_;rintro e v7 ⟨rfl,hb⟩;go_simp)
   have HC:=bt_ HC hb
   have hAr:=hAr.ext hb
   refine hK.out _ _ (S1.ext hb hS) (fun hS=>?_)
   clear hK K hb
   (try simp only [Act.put,pu1,pu2,pu3])
   refine rd_ [8] ?_
   refine ah1 rfl fun K hK=>?_
   (go_simp;go_at_call 72;refine (p_checkFolio l.pp ⟨pA,pn,pc,rA,rn,rc,tA,tn,tc,sA,sn,sc⟩ pap leaf _ hpn (HD.out.now HC).p).mono ?_;rintro e v8 ⟨rfl,hb⟩;go_simp)
   have HC:=bt_ HC hb
   have hAr:=hAr.ext hb
   refine hK.out _ _ (S1.ext hb hS) (fun hS=>?_)
   clear hK K hb
   (try simp only [Act.put,pu1,pu2,pu3])
   refine rd_ [9] ?_
   refine ah1 rfl fun K hK=>?_
   go_simp
   have HCX:=HC.alloc HC.size (.cells #[.int .i64 (errI (ledB l) 24),.int .i64 (errI (daysOk [day,kn]) 6),.int .i64 (errI (folB l.pp pap leaf) 26)] 39)
   refine hK.out _ _ (S1.ext ((Below.refl _ _).alloc lr_ _) hS) (fun hS=>?_)
   clear hK K
   (try simp only [Act.put,pu1,pu2,pu3])
   refine rd_ [10] ?_
   refine ah1 rfl fun K hK=>?_
   (go_simp;go_at_call 62;refine (p_first [errI (ledB l) 24,errI (daysOk [day,kn]) 6,errI (folB l.pp pap leaf) 26] vp _ 3 3 _ (by decide) (Rd.new _ #[.int .i64 (errI (ledB l) 24),.int .i64 (errI (daysOk [day,kn]) 6),.int .i64 (errI (folB l.pp pap leaf) 26)] _ 1 3 _ (by simp) rfl) HV.out).mono ?_;rintro e w9 ⟨rfl,rfl⟩;go_simp)
   refine hK.out _ _ hS (fun hS=>?_)
   clear hK K
   (try simp only [Act.put,pu1,pu2,pu3])
   refine wpAnyH_done (by kernel_rfl) ?_ _
   simp only [sinkQ]
   go_simp
   refine ⟨IsFr2.of rfl,HCX,fun o=>?_,fun o=>?_,hS.2.2.1,hS.2.2.2⟩
   ·have h:=hS.1 o
    simpa using h
   ·have h:=hS.2.1 o
    simpa using h
 case rest =>
  clear hf1 bL bF HC0
  rintro a' W' ⟨⟨u,rfl⟩,HB2,kL2,kF2,zL2,zF2⟩
  have hs2:=HB2.size
  by_cases hv0:vp=0
  ·subst hv0
   have HLO:=hd_ (led_ok (preF_zero HVP.out))
   obtain ⟨ve,hve⟩:∃ ve,setE l kn=ve:=⟨_,rfl⟩
   by_cases he:ve=0
   ·subst he
    have hres:whereX l pap leaf day kn=(whL l kn day (pap,leaf),0):=by rw [whereX,if_pos HVP.out,if_pos hve]
    have HRES:=hd_ hres
    have HSE:=hd_ hve
    clear hres hve
    go_wp2_with (first | (go_at_call 64;refine (p_openA l ⟨pA,pn,pc,rA,rn,rc,tA,tn,tc,sA,sn,sc⟩ kn _ HLO.out (HD.out.now HB2)).mono ?_;rintro e w5 ⟨RA,Rn,Rc,SA,Sn,Sc,bm,TA,Tn,Tc,PA,Pn,Pc,rfl,hb5,hO⟩;have HB5:Below w.heap.size w w5:=bt_ HB2 hb5;have hs5:=HB5.size;have hs25:=hb5.size;have HO:=hd_ hO;have kL5:∀ o,w5.cell? ⟨w.heap.size,o,none⟩=(#[.slice pA pn pc,.slice rA rn rc,.slice tA tn tc,.slice sA sn sc]:Array Value)[o]?:=(fun o=>(hb5.cell (p:=⟨w.heap.size,o,none⟩) zL2).trans (kL2 o));have kF5:∀ o,w5.cell? ⟨w.heap.size+1,o,none⟩=(#[.int .i64 pap,.int .i64 leaf]:Array Value)[o]?:=(fun o=>(hb5.cell (p:=⟨w.heap.size+1,o,none⟩) zF2).trans (kF2 o));have zF5:w.heap.size+1<w5.heap.size:=(by omega);clear kL2 kF2 hO hb5) | (go_at_call 73;refine (p_settle0 l kn ⟨⟨pA,pn,pc,rA,rn,rc,tA,tn,tc,sA,sn,sc⟩,kn,RA,Rn,Rc,SA,Sn,Sc,bm,TA,Tn,Tc,PA,Pn,Pc⟩ w5 HLO.out HO.out HSE.out).mono ?_;rintro e w6 ⟨PA2,Pc2,rfl,hb6,hbx6,hac6,hlp6⟩;have HB6:Below w.heap.size w w6:=bt_ HB5 hb6;have hs6:=HB6.size;have hs56:=hb6.size;have k6:=hbx6.cell;have z6:=hbx6.lt;have HAC:=hd_ hac6;have kF6:∀ o,w6.cell? ⟨w.heap.size+1,o,none⟩=(#[.int .i64 pap,.int .i64 leaf]:Array Value)[o]?:=(fun o=>(hb6.cell (p:=⟨w.heap.size+1,o,none⟩) zF5).trans (kF5 o));have zF6:w.heap.size+1<w6.heap.size:=(by omega);clear kL5 kF5 hac6 hlp6 hb6) | (go_at_call 74;refine (p_where _ _ _ ⟨⟨pA,pn,pc,rA,rn,rc,tA,tn,tc,sA,sn,sc⟩,kn,RA,Rn,Rc,SA,Sn,Sc,bm,TA,Tn,Tc,PA2,Pn,Pc2⟩ pap leaf day _ HAC.out hwl).mono ?_;rintro e w8 ⟨v8,rfl,hb8,ho8⟩;obtain ⟨A8,c8,rfl,hc8⟩:=own_slice ho8;have HB8:Below w.heap.size w w8:=HB6.trans (hb8.mono hs6);have HO8:=hd_ ho8;clear ho8 hb8))
    go_ret2
    rw [HRES.out]
    exact ⟨A8,_,c8,rfl,HB8,Rd.of_own HO8.out,hc8.1,hc8.2⟩
   ·have hres:whereX l pap leaf day kn=([],ve):=by rw [whereX,if_pos HVP.out,if_neg (by rw [hve];exact he),hve]
    have HRES:=hd_ hres
    have HSE:=hd_ hve
    have HVE:=hd_ he
    have hed:(ve != 0)=true:=by simpa using he
    clear hres hve he
    go_wp2_with (first | (go_at_call 64;refine (p_openA l ⟨pA,pn,pc,rA,rn,rc,tA,tn,tc,sA,sn,sc⟩ kn _ HLO.out (HD.out.now HB2)).mono ?_;rintro e w5 ⟨RA,Rn,Rc,SA,Sn,Sc,bm,TA,Tn,Tc,PA,Pn,Pc,rfl,hb5,hO⟩;have HB5:Below w.heap.size w w5:=bt_ HB2 hb5;have hs5:=HB5.size;have hs25:=hb5.size;have HO:=hd_ hO;have kL5:∀ o,w5.cell? ⟨w.heap.size,o,none⟩=(#[.slice pA pn pc,.slice rA rn rc,.slice tA tn tc,.slice sA sn sc]:Array Value)[o]?:=(fun o=>(hb5.cell (p:=⟨w.heap.size,o,none⟩) zL2).trans (kL2 o));have kF5:∀ o,w5.cell? ⟨w.heap.size+1,o,none⟩=(#[.int .i64 pap,.int .i64 leaf]:Array Value)[o]?:=(fun o=>(hb5.cell (p:=⟨w.heap.size+1,o,none⟩) zF2).trans (kF2 o));have zF5:w.heap.size+1<w5.heap.size:=(by omega);clear kL2 kF2 hO hb5) | (go_at_call 73;refine (p_settleN l kn ⟨⟨pA,pn,pc,rA,rn,rc,tA,tn,tc,sA,sn,sc⟩,kn,RA,Rn,Rc,SA,Sn,Sc,bm,TA,Tn,Tc,PA,Pn,Pc⟩ ve w5 HLO.out HO.out HSE.out HVE.out).mono ?_;rintro e w6 ⟨rfl,hb6⟩;have HB6:Below w.heap.size w w6:=bt_ HB5 hb6;have hs6:=HB6.size))
    go_ret2
    rw [HRES.out]
    exact RetLE.err HB6
  ·have hres:whereX l pap leaf day kn=([],vp):=by rw [whereX,if_neg (by rw [HVP.out];exact hv0),HVP.out]
   have HRES:=hd_ hres
   have hv1:(vp != 0)=true:=by simpa using hv0
   clear hres hv0
   go_wp2
   go_ret2
   rw [HRES.out]
   exact RetLE.err HB2
def S4 (b1 b2 b3 b4:Nat) (c1 c2 c3 c4:Array Value) (V:World):Prop:=(∀ o,V.cell? ⟨b1,o,none⟩=c1[o]?)∧(∀ o,V.cell? ⟨b2,o,none⟩=c2[o]?)∧(∀ o,V.cell? ⟨b3,o,none⟩=c3[o]?)∧(∀ o,V.cell? ⟨b4,o,none⟩=c4[o]?)∧b1<V.heap.size∧b2<V.heap.size∧b3<V.heap.size∧b4<V.heap.size
theorem S4.ext {b1 b2 b3 b4:Nat} {c1 c2 c3 c4:Array Value} {V V':World} (hb:Below V.heap.size V V') (h:S4 b1 b2 b3 b4 c1 c2 c3 c4 V):S4 b1 b2 b3 b4 c1 c2 c3 c4 V':=by
 obtain ⟨h1,h2,h3,h4,z1,z2,z3,z4⟩:=h
 have hs:=hb.size
 exact ⟨fun o=>(hb.cell (p:=⟨b1,o,none⟩) z1).trans (h1 o),fun o=>(hb.cell (p:=⟨b2,o,none⟩) z2).trans (h2 o),fun o=>(hb.cell (p:=⟨b3,o,none⟩) z3).trans (h3 o),fun o=>(hb.cell (p:=⟨b4,o,none⟩) z4).trans (h4 o),by omega,by omega,by omega,by omega⟩
set_option maxRecDepth 10000 in
theorem p_moved1 (M1 M2:List ((Int × Int) × Nat)) (R1 R2:List Rcp) (P1 P2:List (Int × Int)) (a1 a2:Acc) (f:Int × Int) (day:Int) (q1 qd q2:Nat) (w:World) (h1:AccR w a1 M1 R1 P1) (h2:AccR w a2 M2 R2 P2) (hwl:(Lit.int .i64 f.2).wf=true)
 (b1:BoxA w q1 115 (accC a1)) (b2:BoxA w q2 115 (accC a2)) (bd:BoxA w qd 3 #[.int .i64 day]) :
 Calls Tryz.prog 98 #[.agg (foC f).toArray,.pointer (some ⟨q1,0,none⟩),.pointer (some ⟨qd,0,none⟩),.pointer (some ⟨q2,0,none⟩)] w fun e w'=>e=.returned (.bool (decide (whereS (stayP M1 R1 f.1 f.2 day) P1 day=whereS (stayP M2 R2 f.1 f.2 day) P2 day)))∧Below w.heap.size w w':=by
 have len2:∀ (st:Int × Int) (P:List (Int × Int)),(whereS st P day).length≤2:=fun st P=>by
  unfold whereS
  split
  ·simp
  ·split <;> simp
 obtain ⟨q,hq⟩:∃ q,decide (whereS (stayP M1 R1 f.1 f.2 day) P1 day=whereS (stayP M2 R2 f.1 f.2 day) P2 day)=q:=⟨_,rfl⟩
 rw [hq]
 have HQ:=hd_ hq
 have HL1:=hd_ (len2 (stayP M1 R1 f.1 f.2 day) P1)
 have HL2:=hd_ (len2 (stayP M2 R2 f.1 f.2 day) P2)
 have HA1:Hid (∀ W,Below w.heap.size w W→Calls Tryz.prog 74 #[.agg (accC a1),.agg #[.int .i64 f.1,.int .i64 f.2],.int .i64 day] W (RetO (whereS (stayP M1 R1 f.1 f.2 day) P1 day) W)):=by
  show ∀ _,_
  exact fun W hW=>p_where M1 R1 P1 a1 f.1 f.2 day W (h1.now hW) hwl
 have HA2:Hid (∀ W,Below w.heap.size w W→Calls Tryz.prog 74 #[.agg (accC a2),.agg #[.int .i64 f.1,.int .i64 f.2],.int .i64 day] W (RetO (whereS (stayP M2 R2 f.1 f.2 day) P2 day) W)):=by
  show ∀ _,_
  exact fun W hW=>p_where M2 R2 P2 a2 f.1 f.2 day W (h2.now hW) hwl
 obtain ⟨L1,hL1⟩:∃ L,whereS (stayP M1 R1 f.1 f.2 day) P1 day=L:=⟨_,rfl⟩
 obtain ⟨L2,hL2⟩:∃ L,whereS (stayP M2 R2 f.1 f.2 day) P2 day=L:=⟨_,rfl⟩
 rw [hL1] at HA1 HQ HL1
 rw [hL2] at HA2 HQ HL2
 clear hq hL1 hL2 len2 h1 h2
 obtain ⟨⟨pA,pn,pc,rA,rn,rc,tA,tn,tc,sA,sn,sc⟩,kn,RA,Rn,Rc,SA,Sn,Sc,bm,TA,Tn,Tc,PA,Pn,Pc⟩:=a1
 obtain ⟨⟨pA',pn',pc',rA',rn',rc',tA',tn',tc',sA',sn',sc'⟩,kn',RA',Rn',Rc',SA',Sn',Sc',bm',TA',Tn',Tc',PA',Pn',Pc'⟩:=a2
 have hB0:Below w.heap.size w (w.alloc (.cells #[.int .i64 f.1,.int .i64 f.2] 48)):=by exact bel_
 have c1:=(b1.alloc (.cells #[.int .i64 f.1,.int .i64 f.2] 48))
 have c2:=(b2.alloc (.cells #[.int .i64 f.1,.int .i64 f.2] 48))
 have cd:=(bd.alloc (.cells #[.int .i64 f.1,.int .i64 f.2] 48))
 have cf:=BoxA.new w 48 #[.int .i64 f.1,.int .i64 f.2]
 have hS0:S4 q1 q2 qd w.heap.size #[.slice pA pn pc,.slice rA rn rc,.slice tA tn tc,.slice sA sn sc,.int .i64 kn,.slice RA Rn Rc,.slice SA Sn Sc,.map (some bm),.slice TA Tn Tc,.slice PA Pn Pc] #[.slice pA' pn' pc',.slice rA' rn' rc',.slice tA' tn' tc',.slice sA' sn' sc',.int .i64 kn',.slice RA' Rn' Rc',.slice SA' Sn' Sc',.map (some bm'),.slice TA' Tn' Tc',.slice PA' Pn' Pc'] #[.int .i64 day] #[.int .i64 f.1,.int .i64 f.2] (w.alloc (.cells #[.int .i64 f.1,.int .i64 f.2] 48)):=⟨c1.cell,c2.cell,cd.cell,cf.cell,c1.lt,c2.lt,cd.lt,cf.lt⟩
 have HS0:=hd_ hS0
 clear c1 c2 cd cf hS0 b1 b2 bd
 go_enter Tryz.func98,Tryz.ntmps98
 go_wp2
 refine wp_named2 fun f1 V1 hf1 hV1=>?_
 have hS1:=HS0.out
 rw [hV1] at hB0 hS1
 clear hV1
 refine wp_cut2 (fun a' W'=>IsFr2 (fun u=>{ tmps:=#[u 0,u 1,u 2,u 3,u 4,.bool q,u 6,u 7,u 8,u 9,u 10,u 11,u 12,u 13,u 14],defers:=[] }) a'∧Below w.heap.size w W') ?reg ?rest
 case reg =>
  subst hf1
  have HC:Below w.heap.size w V1.drew:=hB0.drew
  (refine wp_region_sink_lit (S:=S4 q1 q2 qd w.heap.size #[.slice pA pn pc,.slice rA rn rc,.slice tA tn tc,.slice sA sn sc,.int .i64 kn,.slice RA Rn Rc,.slice SA Sn Sc,.map (some bm),.slice TA Tn Tc,.slice PA Pn Pc] #[.slice pA' pn' pc',.slice rA' rn' rc',.slice tA' tn' tc',.slice sA' sn' sc',.int .i64 kn',.slice RA' Rn' Rc',.slice SA' Sn' Sc',.map (some bm'),.slice TA' Tn' Tc',.slice PA' Pn' Pc'] #[.int .i64 day] #[.int .i64 f.1,.int .i64 f.2]) 9 (by kernel_rfl) rfl rfl (by kernel_rfl) (by kernel_rfl) hS1 (fun hS=>?_);simp only [List.take_succ_cons,List.take_zero,List.reduceReplicate,Array.replicate_succ,Array.replicate_zero])
  (refine tk_ (i:=0) (v:=?_) rfl ?_ hS ?_;rotate_left;focus (intro w2 hw2;(try unfold S4 at hw2);go_split_ands;go_simp;first | done | with_reducible rfl);(try simp only [Act.put,pu1,pu2,pu3]))
  (refine tk_ (i:=1) (v:=?_) rfl ?_ hS ?_;rotate_left;focus (intro w2 hw2;(try unfold S4 at hw2);go_split_ands;go_simp;first | done | with_reducible rfl);(try simp only [Act.put,pu1,pu2,pu3]))
  (refine tk_ (i:=2) (v:=?_) rfl ?_ hS ?_;rotate_left;focus (intro w2 hw2;(try unfold S4 at hw2);go_split_ands;go_simp;first | done | with_reducible rfl);(try simp only [Act.put,pu1,pu2,pu3]))
  (refine tk_ (i:=4) (v:=?_) rfl ?_ hS ?_;rotate_left;focus (intro w2 hw2;(try unfold S4 at hw2);go_split_ands;go_simp;first | done | with_reducible rfl);(try simp only [Act.put,pu1,pu2,pu3]))
  (refine tk_ (i:=5) (v:=?_) rfl ?_ hS ?_;rotate_left;focus (intro w2 hw2;(try unfold S4 at hw2);go_split_ands;go_simp;first | done | with_reducible rfl);(try simp only [Act.put,pu1,pu2,pu3]))
  (refine tk_ (i:=6) (v:=?_) rfl ?_ hS ?_;rotate_left;focus (intro w2 hw2;(try unfold S4 at hw2);go_split_ands;go_simp;first | done | with_reducible rfl);(try simp only [Act.put,pu1,pu2,pu3]))
  refine rd_ [3] ?_
  refine ah1 rfl fun K hK=>?_
  (go_simp;go_at_call 74;refine (HA1.out _ HC).mono ?_;rintro e w2 ⟨v2,rfl,hb2,ho2⟩;obtain ⟨A2,c2,rfl,hc2⟩:=own_slice ho2;go_simp)
  have HC2:=bt_ HC hb2
  refine hK.out _ _ (S4.ext hb2 hS) (fun hS=>?_)
  clear hK K
  (try simp only [Act.put,pu1,pu2,pu3])
  refine rd_ [7] ?_
  refine ah1 rfl fun K hK=>?_
  (go_simp;go_at_call 74;refine (HA2.out _ HC2).mono ?_;rintro e w3 ⟨v3,rfl,hb3,ho3⟩;obtain ⟨A3,c3,rfl,hc3⟩:=own_slice ho3;go_simp)
  have HC3:=bt_ HC2 hb3
  have hI2:=(Is.now (show Is w2 w2.heap.size A2 L1.length L1 from Rd.of_own ho2) hb3)
  have hI3:Is w3 w3.heap.size A3 L2.length L2:=Rd.of_own ho3
  refine hK.out _ _ (S4.ext hb3 hS) (fun hS=>?_)
  clear hK K
  (try simp only [Act.put,pu1,pu2,pu3])
  refine rd_ [8] ?_
  refine ah1 rfl fun K hK=>?_
  (go_simp;go_at_call 99;refine (l_equal L1 L2 q A2 A3 L1.length c2 L2.length c3 w3 (by have:=HL1.out;omega) (by have:=HL2.out;omega) hI2 hI3 HQ.out).mono ?_;rintro e w4 ⟨rfl,hb4⟩;go_simp)
  have HC4:=bt_ HC3 hb4
  refine hK.out _ _ (S4.ext hb4 hS) (fun hS=>?_)
  clear hK K
  (try simp only [Act.put,pu1,pu2,pu3])
  refine wpAnyH_done (by kernel_rfl) ?_ _
  simp only [sinkQ]
  go_simp
  exact ⟨IsFr2.of rfl,HC4⟩
 case rest =>
  rintro a' W' ⟨⟨u,rfl⟩,HB⟩
  go_wp2
  go_ret
  exact ⟨rfl,HB⟩
theorem wp_region_held_lit {P:Program} {Q:Exit→Act→World→Prop} {S:World→Prop} {id:Nat} {a:Act} {w:World} {l:List Oper} (n:Nat) (hm:P.follows .mixedOrders=true) (hn:l.length=n)
 (hS:S w.drew) (h:S w.drew→wpAnyH P .any l.toArray Q S n (Array.replicate n false) a w.drew):(Code.region id l.toArray true).wp P Q a w :=
 wp_region_held_drew hm hS (fun hS=>by subst hn;simpa using h hS)
theorem S1.grown {b1 b2 B:Nat} {c1 c2:Array Value} {V V':World} (hg:V.grownBy V' (some B)) (h:S1 b1 b2 c1 c2 V) (n1:b1≠B) (n2:b2≠B):S1 b1 b2 c1 c2 V':=by
 obtain ⟨h1,h2,z1,z2⟩:=h
 have e1:=hg.block b1 z1 (fun e=>n1 (by injection e))
 have e2:=hg.block b2 z2 (fun e=>n2 (by injection e))
 have hs:=hg.size
 refine ⟨fun o=>?_,fun o=>?_,by omega,by omega⟩
 ·rw [← h1 o];simp [World.cell?,e1]
 ·rw [← h2 o];simp [World.cell?,e2]
theorem own_other {w w':World} {base base' size size' n n':Nat} {e e':TypeId} {v v':Value} {xs xs':List Value} (h:w.ownsRow base e size v n xs) (h':w.ownsRow base' e' size' v' n' xs') (he:e≠e') (hg:w.grownBy w' v'.ownBlock):w'.ownsRow base e size v n xs:=h.kept hg (by
 cases hb:v.ownBlock with
 | none=>exact .inl rfl
 | some b =>
   refine .inr fun e1=>?_
   obtain ⟨c1,h1⟩:=own_block h hb
   obtain ⟨c2,h2⟩:=own_block h' e1.symm
   rw [h1] at h2
   injection h2 with h2
   injection h2 with _ h3
   exact he h3)
abbrev ppC (p:Ppr):List Value:=[.int .i64 p.id,.int .i64 p.lv]
theorem sq_pp {w:World} {B n:Nat} {A:Option Addr} {xs:List Ppr} (h:Rd w B 2 A n (xs.flatMap ppC)) (hn:xs.length=n):Pps w B A n xs:=by
 refine ⟨hn,fun h0=>?_⟩
 obtain ⟨b,o,e,hb,hc⟩:=h.2 h0
 refine ⟨b,o,e,hb,fun k v hk=>?_⟩
 have g:∀ j u,j<2→(ppC v)[j]?=some u→w.cell? ⟨b,o+k*2+j,none⟩=some u:=fun j u hj hu=>by
  have:=hc (k*2+j) u (by rw [← hu];exact flat_get ppC 2 (fun _=>rfl) xs k j v hk hj)
  rwa [← Nat.add_assoc] at this
 exact ⟨g 0 _ (by omega) rfl,g 1 _ (by omega) rfl⟩
theorem rcs_of {w:World} {B n:Nat} {A:Option Addr} {xs:List Rv} (h:Sq QV 7 w B A n xs):Rcs w B A n (xs.map Rv.r):=by
 refine ⟨by rw [List.length_map];exact h.1,fun h0=>?_⟩
 obtain ⟨b,o,e,hb,hc⟩:=h.2 h0
 refine ⟨b,o,e,hb,fun k r hk=>?_⟩
 rw [List.getElem?_map] at hk
 obtain ⟨v,hv,rfl⟩:=Option.map_eq_some_iff.1 hk
 obtain ⟨h1,h2⟩:=hc k v hv
 exact ⟨v.A,v.n,v.c,h1,h2⟩
theorem rts_of {w:World} {B n:Nat} {A:Option Addr} {xs:List Tv} (h:Rd w B 8 A n (xs.flatMap tvC)) (hn:xs.length=n) (hv:∀ v∈xs,Is w B v.A v.n v.r.lv∧v.n≤v.c∧v.c≤maxLen):Rts w B A n (xs.map Tv.r):=by
 refine ⟨by rw [List.length_map];exact hn,fun h0=>?_⟩
 obtain ⟨b,o,e,hb,hc⟩:=h.2 h0
 refine ⟨b,o,e,hb,fun k r hk=>?_⟩
 rw [List.getElem?_map] at hk
 obtain ⟨v,hv2,rfl⟩:=Option.map_eq_some_iff.1 hk
 have g:∀ j u,j<8→(tvC v)[j]?=some u→w.cell? ⟨b,o+k*8+j,none⟩=some u:=fun j u hj hu=>by
  have:=hc (k*8+j) u (by rw [← hu];exact flat_get tvC 8 (fun _=>rfl) xs k j v hv2 hj)
  rwa [← Nat.add_assoc] at this
 exact ⟨v.A,v.n,v.c,⟨g 0 _ (by omega) rfl,g 1 _ (by omega) rfl,g 2 _ (by omega) rfl,g 3 _ (by omega) rfl,g 4 _ (by omega) rfl,g 5 _ (by omega) rfl,g 6 _ (by omega) rfl,g 7 _ (by omega) rfl⟩,hv v (List.mem_of_getElem? hv2)⟩
theorem rd_rv {w:World} {B n:Nat} {A:Option Addr} {xs:List Rv} (h:Sq QV 7 w B A n xs):Rd w B 7 A n (xs.flatMap rvC):=by
 by_cases h0:0<n
 ·obtain ⟨b,o,e,hb,hc⟩:=h.2 h0
  subst e
  refine rd_flat rvC 7 (fun _=>rfl) (by omega) h.1 hb fun k x hx m u hm hu=>?_
  obtain ⟨⟨a0,a1,a2,a3,a4,a5,a6⟩,_⟩:=hc k x hx
  match m,hm,hu with
  | 0,_,hu=>cases hu;exact a0
  | 1,_,hu=>cases hu;exact a1
  | 2,_,hu=>cases hu;exact a2
  | 3,_,hu=>cases hu;exact a3
  | 4,_,hu=>cases hu;exact a4
  | 5,_,hu=>cases hu;exact a5
  | 6,_,hu=>cases hu;exact a6
 ·have hn:n=0:=by omega
  subst hn
  have hx:xs=[]:=List.eq_nil_of_length_eq_zero h.1
  subst hx
  exact ⟨rfl,fun h=>absurd h (by omega)⟩
theorem rd_pp {w:World} {B n:Nat} {A:Option Addr} {xs:List Ppr} (h:Pps w B A n xs):Rd w B 2 A n (xs.flatMap ppC):=by
 by_cases h0:0<n
 ·obtain ⟨b,o,e,hb,hc⟩:=h.2 h0
  subst e
  refine rd_flat ppC 2 (fun _=>rfl) (by omega) h.1 hb fun k x hx m u hm hu=>?_
  obtain ⟨a0,a1⟩:=hc k x hx
  match m,hm,hu with
  | 0,_,hu=>cases hu;exact a0
  | 1,_,hu=>cases hu;exact a1
 ·have hn:n=0:=by omega
  subst hn
  have hx:xs=[]:=List.eq_nil_of_length_eq_zero h.1
  subst hx
  exact ⟨rfl,fun h=>absurd h (by omega)⟩
theorem rd_sg {w:World} {B n:Nat} {A:Option Addr} {xs:List Sgt} (h:Sgs w B A n xs):Rd w B 7 A n (xs.flatMap sgC):=by
 by_cases h0:0<n
 ·obtain ⟨b,o,e,hb,hc⟩:=h.2 h0
  subst e
  refine rd_flat sgC 7 (fun _=>rfl) (by omega) h.1 hb fun k x hx m u hm hu=>?_
  obtain ⟨a0,a1,a2,a3,a4,a5,a6⟩:=hc k x hx
  match m,hm,hu with
  | 0,_,hu=>cases hu;exact a0
  | 1,_,hu=>cases hu;exact a1
  | 2,_,hu=>cases hu;exact a2
  | 3,_,hu=>cases hu;exact a3
  | 4,_,hu=>cases hu;exact a4
  | 5,_,hu=>cases hu;exact a5
  | 6,_,hu=>cases hu;exact a6
 ·have hn:n=0:=by omega
  subst hn
  have hx:xs=[]:=List.eq_nil_of_length_eq_zero h.1
  subst hx
  exact ⟨rfl,fun h=>absurd h (by omega)⟩
theorem flat_ones {α:Type} {f:α→List Value} (h:∀ x,∀ u∈f x,u.oneCell'=true) (xs:List α):∀ u∈xs.flatMap f,u.oneCell'=true:=by
 intro u hu
 obtain ⟨x,_,hx⟩:=List.mem_flatMap.1 hu
 exact h x u hx
theorem flat_set {α:Type} (f:α→List Value) (s:Nat) (hs:∀ x,(f x).length=s):∀ (xs:List α) (k j:Nat) (x:α) (u:Value),k<xs.length→j<s→xs[k]?.map (fun y=>(f y).set j u)=some (f x)→(xs.flatMap f).set (k*s+j) u=(xs.set k x).flatMap f
 | [],k,j,x,u,hk,_,_=>by simp at hk
 | y :: xs,0,j,x,u,_,hj,h=>by
   simp at h
   rw [List.set_cons_zero,List.flatMap_cons,List.flatMap_cons,Nat.zero_mul,Nat.zero_add,List.set_append_left _ _ (by rw [hs];exact hj),h]
 | y :: xs,k+1,j,x,u,hk,hj,h=>by
   have e:(k+1)*s+j - s=k*s+j:=by rw [Nat.succ_mul];omega
   rw [List.set_cons_succ,List.flatMap_cons,List.flatMap_cons,List.set_append_right _ _ (by rw [hs,Nat.succ_mul];omega),hs,e,flat_set f s hs xs k j x u (by simpa using hk) hj (by simpa using h)]
structure Cop (W:World) (base:Nat) (y:Lsl) (pp:List Ppr) (rvs:List Rv) (tvs:List Tv) (sg:List Sgt):Prop where
 p:W.ownsRow base 38 2 (.slice y.pA y.pn y.pc) y.pn (pp.flatMap ppC)
 r:W.ownsRow base 79 7 (.slice y.rA y.rn y.rc) y.rn (rvs.flatMap rvC)
 t:W.ownsRow base 75 8 (.slice y.tA y.tn y.tc) y.tn (tvs.flatMap tvC)
 s:W.ownsRow base 70 7 (.slice y.sA y.sn y.sc) y.sn (sg.flatMap sgC)
 rl:∀ v∈rvs,W.ownsRow base 3 1 (.slice v.A v.n v.c) v.n (intL v.r.lv)
 tl:∀ v∈tvs,W.ownsRow base 3 1 (.slice v.A v.n v.c) v.n (intL v.r.lv)
theorem own_len {W:World} {base n s:Nat} {t:TypeId} {v:Value} {α:Type} {f:α→List Value} {xs:List α} (h:W.ownsRow base t s v n (xs.flatMap f)) (hs:∀ x,(f x).length=s) (h0:0<s):xs.length=n:=by
 have h1:=h.1
 rw [flat_len f s hs] at h1
 exact Nat.eq_of_mul_eq_mul_right h0 h1
theorem own_fit {W:World} {base n s c:Nat} {t:TypeId} {A:Option Addr} {xs:List Value} (h:W.ownsRow base t s (.slice A n c) n xs):n≤c∧c≤maxLen:=by
 obtain ⟨A',c',e,h1⟩:=own_slice h
 cases e
 exact h1
theorem Cop.fit {W:World} {base:Nat} {y:Lsl} {pp:List Ppr} {rvs:List Rv} {tvs:List Tv} {sg:List Sgt} (h:Cop W base y pp rvs tvs sg):y.fit:=⟨own_fit h.p,own_fit h.r,own_fit h.t,own_fit h.s⟩
theorem Cop.led {W:World} {base:Nat} {y:Lsl} {pp:List Ppr} {rvs:List Rv} {tvs:List Tv} {sg:List Sgt} (h:Cop W base y pp rvs tvs sg):LedIn W W.heap.size y ⟨pp,rvs.map Rv.r,tvs.map Tv.r,sg⟩ :=
 ⟨sq_pp (Rd.of_own h.p) (own_len h.p (fun _=>rfl) (by omega)),rcs_of (sq_rv (Rd.of_own h.r) (own_len h.r (fun _=>rfl) (by omega)) fun v hv=>⟨Rd.of_own (h.rl v hv),own_fit (h.rl v hv)⟩),
   rts_of (Rd.of_own h.t) (own_len h.t (fun _=>rfl) (by omega)) (fun v hv=>⟨Rd.of_own (h.tl v hv),own_fit (h.tl v hv)⟩),sq_sg (Rd.of_own h.s) (own_len h.s (fun _=>rfl) (by omega))⟩
theorem Cop.ext {W W':World} {base:Nat} {y:Lsl} {pp:List Ppr} {rvs:List Rv} {tvs:List Tv} {sg:List Sgt} (h:Cop W base y pp rvs tvs sg) (hb:Below W.heap.size W W'):Cop W' base y pp rvs tvs sg :=
 ⟨own_ex h.p hb,own_ex h.r hb,own_ex h.t hb,own_ex h.s hb,fun v hv=>own_ex (h.rl v hv) hb,fun v hv=>own_ex (h.tl v hv) hb⟩
theorem own_cset {w:World} {base size n B o:Nat} {t:TypeId} {v:Value} {xs:List Value} (h:w.ownsRow base t size v n xs) (u:Value) (hB:B<base):(w.setCell ⟨B,o,none⟩ u).ownsRow base t size v n xs :=
 own_keep h fun b hb=>Below.heap_setCell _ _ _ _ (show b≠B by have:=own_le h hb;omega)
theorem Cop.dn {W:World} {base base':Nat} {y:Lsl} {pp:List Ppr} {rvs:List Rv} {tvs:List Tv} {sg:List Sgt} (h:Cop W base y pp rvs tvs sg) (hb:base'≤base):Cop W base' y pp rvs tvs sg :=
 ⟨own_dn h.p hb,own_dn h.r hb,own_dn h.t hb,own_dn h.s hb,fun v hv=>own_dn (h.rl v hv) hb,fun v hv=>own_dn (h.tl v hv) hb⟩
theorem Cop.cset {W:World} {base:Nat} {y:Lsl} {pp:List Ppr} {rvs:List Rv} {tvs:List Tv} {sg:List Sgt} (h:Cop W base y pp rvs tvs sg) {B o:Nat} (u:Value) (hB:B<base):Cop (W.setCell ⟨B,o,none⟩ u) base y pp rvs tvs sg :=
 ⟨own_cset h.p u hB,own_cset h.r u hB,own_cset h.t u hB,own_cset h.s u hB,fun v hv=>own_cset (h.rl v hv) u hB,fun v hv=>own_cset (h.tl v hv) u hB⟩
theorem Cop.kept {W W':World} {base B:Nat} {cs:Array Value} {y:Lsl} {pp:List Ppr} {rvs:List Rv} {tvs:List Tv} {sg:List Sgt} (h:Cop W base y pp rvs tvs sg) (hb:BoxA W B 32 cs) (hg:W.grownBy W' (some B)):Cop W' base y pp rvs tvs sg :=
 ⟨h.p.kept hg (.inr fun e=>own_ne h.p hb (by decide) e.symm),h.r.kept hg (.inr fun e=>own_ne h.r hb (by decide) e.symm),h.t.kept hg (.inr fun e=>own_ne h.t hb (by decide) e.symm),h.s.kept hg (.inr fun e=>own_ne h.s hb (by decide) e.symm),
   fun v hv=>(h.rl v hv).kept hg (.inr fun e=>own_ne (h.rl v hv) hb (by decide) e.symm),fun v hv=>(h.tl v hv).kept hg (.inr fun e=>own_ne (h.tl v hv) hb (by decide) e.symm)⟩
theorem ty_ne:38≠79∧38≠75∧38≠70∧79≠75∧79≠70∧75≠70∧3≠38∧3≠79∧3≠75∧3≠70:=by decide
end Go.Proofs.YtmcmbicapdcfmaaGreat
