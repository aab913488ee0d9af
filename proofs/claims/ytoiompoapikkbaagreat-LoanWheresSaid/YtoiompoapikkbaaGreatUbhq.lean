/- Layer 2 of the texts that LoanWheres takes: Ubhq. -/
import Derived.Test.YtoiompoapikkbaaGreatUbgq
set_option linter.unusedVariables false
set_option linter.unusedSimpArgs false
/- Layer 2: Whole. -/
namespace Go.Proofs.YtoiompoapikkbaaGreat
open Go.RowKit Go.Maps
theorem lv_range {l:Led} (h:LedOk l) (pap:Int):∃ n:Nat,lvOf l.pp pap=n∧n≤30:=by
 have g:∀ pp:List Ppr,(∀ p∈pp,0≤p.lv∧p.lv≤30)→0≤lvOf pp pap∧lvOf pp pap≤30:=by
  intro pp
  induction pp with
  | nil=>intro _;simp [lvOf]
  | cons p pp ih =>
    intro hp
    rw [lvOf]
    split
    ·exact hp p (by simp)
    ·exact ih fun q hq=>hp q (by simp [hq])
 obtain ⟨h1,h2⟩:=g l.pp h.pp
 exact ⟨(lvOf l.pp pap).toNat,by omega,by omega⟩
def canW (l:Led) (kn day pap:Int) (i:Nat):Bool:=decide ((0:Int)∈whL l kn day (pap,(i:Int)+1))
def notW (l:Led) (kn day pap:Int) (i:Nat):Bool:=!decide (whL l kn day (pap,(i:Int)+1)=[0])
def wholeX (l:Led) (pap day kn:Int):Int × Int:=if preF l day kn pap 1=0 then (if setE l kn=0 then (ansI ((List.range (lvOf l.pp pap).toNat).all (canW l kn day pap)) ((List.range (lvOf l.pp pap).toNat).any (notW l kn day pap)),0) else (0,setE l kn)) else (0,preF l day kn pap 1)
theorem rng_all {p:Nat→Bool} {k:Nat}:(List.range (k+1)).all p=((List.range k).all p && p k):=by rw [List.range_succ,List.all_append];simp
theorem rng_any {p:Nat→Bool} {k:Nat}:(List.range (k+1)).any p=((List.range k).any p || p k):=by rw [List.range_succ,List.any_append];simp
set_option maxRecDepth 10000 in
set_option maxHeartbeats 4000000 in
theorem p_WholeX (l:Led) (x:Lsl) (pap day kn:Int) (w:World) (hf:x.fit) (hd:LedIn w w.heap.size x l) :
 Calls Tryz.prog 38 #[.agg #[.slice x.pA x.pn x.pc,.slice x.rA x.rn x.rc,.slice x.tA x.tn x.tc,.slice x.sA x.sn x.sc],.int .i64 pap,.int .i64 day,.int .i64 kn] w (fun e w'=>e=.returned (.tuple #[.int .i64 (wholeX l pap day kn).1,.int .i64 (wholeX l pap day kn).2])∧Below w.heap.size w w'):=by
 obtain ⟨pA,pn,pc,rA,rn,rc,tA,tn,tc,sA,sn,sc⟩:=x
 have HD:=Lib.hid hd
 have hml:maxLen≤9223372036854775807:=by decide
 have hpn:pn≤9223372036854775807:=by have:=hf.p;dsimp only at this;omega
 have hrn:rn≤9223372036854775807:=by have:=hf.r;dsimp only at this;omega
 have htn:tn≤9223372036854775807:=by have:=hf.t;dsimp only at this;omega
 have hsn:sn≤9223372036854775807:=by have:=hf.s;dsimp only at this;omega
 clear hd hf hml
 obtain ⟨vp,hv⟩:∃ vp,preF l day kn pap 1=vp:=⟨_,rfl⟩
 have HV:Hid (orL [errI (ledB l) 24,errI (daysOk [day,kn]) 6,errI (folB l.pp pap 1) 26]=vp):=by show _=_;exact hv
 obtain ⟨W0,hW0⟩:∃ W0,W0=(w.alloc (.cells #[.slice pA pn pc,.slice rA rn rc,.slice tA tn tc,.slice sA sn sc] 27)):=⟨_,rfl⟩
 have HC0:Below w.heap.size w W0:=by rw [hW0];exact bel_
 have bL:BoxA W0 w.heap.size 27 #[.slice pA pn pc,.slice rA rn rc,.slice tA tn tc,.slice sA sn sc]:=by rw [hW0];exact BoxA.new _ _ _
 have HW0:=Lib.hid hW0
 have HVP:=Lib.hid hv
 clear hW0 hv
 go_enter Tryz.func38,Tryz.ntmps38
 go_wp2
 refine wp_named2 fun f1 V1 hf1 hV1=>?_
 obtain rfl:V1=W0:=by rw [← hV1,HW0.out]
 clear hV1
 refine wp_cut2 (fun a' W'=>IsFr2 (fun u=>{ tmps:=#[.agg #[.slice pA pn pc,.slice rA rn rc,.slice tA tn tc,.slice sA sn sc],.int .i64 pap,.int .i64 day,.int .i64 kn,.pointer (some ⟨w.heap.size,0,none⟩),u 5,u 6,u 7,.int .i64 0,.int .i64 0,.int .i64 vp,u 11,u 12,u 13,u 14,u 15,u 16,u 17,u 18,u 19,u 20,u 21,u 22,u 23,u 24,u 25,u 26,u 27,u 28,u 29,u 30,u 31,u 32,u 33,u 34,u 35,u 36,u 37,u 38,u 39,u 40,u 41,u 42,u 43,u 44,u 45,u 46,u 47,u 48,u 49,u 50,u 51,u 52,u 53,u 54,u 55,u 56,u 57,u 58,u 59,u 60,u 61,u 62,u 63,u 64,u 65],defers:=[] }) a'∧Below w.heap.size w W'∧(∀ o,W'.cell? ⟨w.heap.size,o,none⟩=(#[.slice pA pn pc,.slice rA rn rc,.slice tA tn tc,.slice sA sn sc]:Array Value)[o]?)∧w.heap.size<W'.heap.size) ?reg ?rest
 case reg =>
  subst hf1
  have HC:Below w.heap.size w V1.drew:=HC0.drew
  have zL:w.heap.size<V1.heap.size:=bL.lt
  (refine wp_region_sink_lit (S:=S1 w.heap.size w.heap.size #[.slice pA pn pc,.slice rA rn rc,.slice tA tn tc,.slice sA sn sc] #[.slice pA pn pc,.slice rA rn rc,.slice tA tn tc,.slice sA sn sc]) 11 (by kernel_rfl) rfl rfl (by kernel_rfl) (by kernel_rfl) ⟨bL.cell,bL.cell,zL,zL⟩ (fun hS=>?_);simp only [List.take_succ_cons,List.take_zero,List.reduceReplicate,Array.replicate_succ,Array.replicate_zero])
  (refine tk_ (i:=0) (v:=?_) rfl ?_ hS ?_ (fun _ _ _ h=>h);rotate_left;focus (intro w2 hw2;(try dsimp only at hw2);(try unfold S1 at hw2);go_split_ands;go_simp;first | done | with_reducible rfl);(try simp only [Act.put,pu1,pu2,pu3]))
  (refine tk_ (i:=2) (v:=?_) rfl ?_ hS ?_ (fun _ _ _ h=>h);rotate_left;focus (intro w2 hw2;(try dsimp only at hw2);(try unfold S1 at hw2);go_split_ands;go_simp;first | done | with_reducible rfl);(try simp only [Act.put,pu1,pu2,pu3]))
  (refine tk_ (i:=3) (v:=?_) rfl ?_ hS ?_ (fun _ _ _ h=>h);rotate_left;focus (intro w2 hw2;(try dsimp only at hw2);(try unfold S1 at hw2);go_split_ands;go_simp;first | done | with_reducible rfl);(try simp only [Act.put,pu1,pu2,pu3]))
  (refine tk_ (i:=6) (v:=?_) rfl ?_ hS ?_ (fun _ _ _ h=>h);rotate_left;focus (intro w2 hw2;(try dsimp only at hw2);(try unfold S1 at hw2);go_split_ands;go_simp;first | done | with_reducible rfl);(try simp only [Act.put,pu1,pu2,pu3]))
  (refine tk_ (i:=7) (v:=?_) rfl ?_ hS ?_ (fun _ _ _ h=>h);rotate_left;focus (intro w2 hw2;(try dsimp only at hw2);(try unfold S1 at hw2);go_split_ands;go_simp;first | done | with_reducible rfl);(try simp only [Act.put,pu1,pu2,pu3]))
  refine rd_ [1,4] ?_
  refine AllReadyH.cons rfl (fun K hK=>?_) (AllReadyH.cons rfl (fun K hK=>?_) AllReadyH.nil)
  ·(go_simp;go_at_call 18;refine (p_Check l ⟨pA,pn,pc,rA,rn,rc,tA,tn,tc,sA,sn,sc⟩ _ hpn hrn htn hsn (HD.out.now HC)).mono ?_;rintro e v1 ⟨rfl,hb⟩;go_simp)
   have HC:=Below.then_ HC hb
   refine hK.out _ _ (S1.ext hb hS) (fun hS=>?_)
   clear hK K hb
   (try simp only [Act.put,pu1,pu2,pu3])
   refine rd_ [4] ?_
   refine ah1 rfl fun K hK=>?_
   go_simp
   have hAr:=BoxA.new (v1) 3 #[.int .i64 day,.int .i64 kn]
   have HC:=HC.alloc HC.size (.cells #[.int .i64 day,.int .i64 kn] 3)
   refine hK.out _ _ (S1.ext ((Below.refl _ _).alloc (Nat.le_refl _) _) hS) (fun hS=>?_)
   clear hK K
   (try simp only [Act.put,pu1,pu2,pu3])
   refine rd_ [5] ?_
   refine ah1 rfl fun K hK=>?_
   (go_simp;go_at_call 100;refine (p_checkDays [day,kn] _ 2 2 _ (by decide) (is_box hAr rfl)).mono ?_;rintro e v3 ⟨rfl,hb⟩;go_simp)
   have HC:=Below.then_ HC hb
   have hAr:=hAr.ext hb
   refine hK.out _ _ (S1.ext hb hS) (fun hS=>?_)
   clear hK K hb
   (try simp only [Act.put,pu1,pu2,pu3])
   refine rd_ [8] ?_
   refine ah1 rfl fun K hK=>?_
   (go_simp;go_at_call 124;refine (p_checkPaper2 l.pp ⟨pA,pn,pc,rA,rn,rc,tA,tn,tc,sA,sn,sc⟩ pap _ hpn (HD.out.now HC).p).mono ?_;rintro e v4 ⟨rfl,hb⟩;go_simp)
   have HC:=Below.then_ HC hb
   have hAr:=hAr.ext hb
   refine hK.out _ _ (S1.ext hb hS) (fun hS=>?_)
   clear hK K hb
   (try simp only [Act.put,pu1,pu2,pu3])
   refine rd_ [9] ?_
   refine ah1 rfl fun K hK=>?_
   go_simp
   have HCX:=HC.alloc HC.size (.cells #[.int .i64 (errI (ledB l) 24),.int .i64 (errI (daysOk [day,kn]) 6),.int .i64 (errI (folB l.pp pap 1) 26)] 41)
   refine hK.out _ _ (S1.ext ((Below.refl _ _).alloc (Nat.le_refl _) _) hS) (fun hS=>?_)
   clear hK K
   (try simp only [Act.put,pu1,pu2,pu3])
   refine rd_ [10] ?_
   refine ah1 rfl fun K hK=>?_
   (go_simp;go_at_call 99;refine (p_first [errI (ledB l) 24,errI (daysOk [day,kn]) 6,errI (folB l.pp pap 1) 26] vp _ 3 3 _ (by decide) (Rd.new _ #[.int .i64 (errI (ledB l) 24),.int .i64 (errI (daysOk [day,kn]) 6),.int .i64 (errI (folB l.pp pap 1) 26)] _ 1 3 _ (by simp) rfl) HV.out).mono ?_;rintro e w9 ⟨rfl,rfl⟩;go_simp)
   refine hK.out _ _ hS (fun hS=>?_)
   clear hK K
   (try simp only [Act.put,pu1,pu2,pu3])
   refine wpAnyH_done (by kernel_rfl) ?_ _
   simp only [sinkQ]
   go_simp
   refine ⟨IsFr2.of rfl,HCX,fun o=>?_,hS.2.2.1⟩
   have h:=hS.1 o
   simpa using h
  ·go_simp
   have hAr:=BoxA.new (V1.drew) 3 #[.int .i64 day,.int .i64 kn]
   have HC:=HC.alloc HC.size (.cells #[.int .i64 day,.int .i64 kn] 3)
   refine hK.out _ _ (S1.ext ((Below.refl _ _).alloc (Nat.le_refl _) _) hS) (fun hS=>?_)
   clear hK K
   (try simp only [Act.put,pu1,pu2,pu3])
   refine rd_ [1] ?_
   refine ah1 rfl fun K hK=>?_
   (go_simp;go_at_call 18;refine (p_Check l ⟨pA,pn,pc,rA,rn,rc,tA,tn,tc,sA,sn,sc⟩ _ hpn hrn htn hsn (HD.out.now HC)).mono ?_;rintro e v6 ⟨rfl,hb⟩;go_simp)
   have HC:=Below.then_ HC hb
   have hAr:=hAr.ext hb
   refine hK.out _ _ (S1.ext hb hS) (fun hS=>?_)
   clear hK K hb
   (try simp only [Act.put,pu1,pu2,pu3])
   refine rd_ [5] ?_
   refine ah1 rfl fun K hK=>?_
   (go_simp;go_at_call 100;refine (p_checkDays [day,kn] _ 2 2 _ (by decide) (is_box hAr rfl)).mono ?_;rintro e v7 ⟨rfl,hb⟩;go_simp)
   have HC:=Below.then_ HC hb
   have hAr:=hAr.ext hb
   refine hK.out _ _ (S1.ext hb hS) (fun hS=>?_)
   clear hK K hb
   (try simp only [Act.put,pu1,pu2,pu3])
   refine rd_ [8] ?_
   refine ah1 rfl fun K hK=>?_
   (go_simp;go_at_call 124;refine (p_checkPaper2 l.pp ⟨pA,pn,pc,rA,rn,rc,tA,tn,tc,sA,sn,sc⟩ pap _ hpn (HD.out.now HC).p).mono ?_;rintro e v8 ⟨rfl,hb⟩;go_simp)
   have HC:=Below.then_ HC hb
   have hAr:=hAr.ext hb
   refine hK.out _ _ (S1.ext hb hS) (fun hS=>?_)
   clear hK K hb
   (try simp only [Act.put,pu1,pu2,pu3])
   refine rd_ [9] ?_
   refine ah1 rfl fun K hK=>?_
   go_simp
   have HCX:=HC.alloc HC.size (.cells #[.int .i64 (errI (ledB l) 24),.int .i64 (errI (daysOk [day,kn]) 6),.int .i64 (errI (folB l.pp pap 1) 26)] 41)
   refine hK.out _ _ (S1.ext ((Below.refl _ _).alloc (Nat.le_refl _) _) hS) (fun hS=>?_)
   clear hK K
   (try simp only [Act.put,pu1,pu2,pu3])
   refine rd_ [10] ?_
   refine ah1 rfl fun K hK=>?_
   (go_simp;go_at_call 99;refine (p_first [errI (ledB l) 24,errI (daysOk [day,kn]) 6,errI (folB l.pp pap 1) 26] vp _ 3 3 _ (by decide) (Rd.new _ #[.int .i64 (errI (ledB l) 24),.int .i64 (errI (daysOk [day,kn]) 6),.int .i64 (errI (folB l.pp pap 1) 26)] _ 1 3 _ (by simp) rfl) HV.out).mono ?_;rintro e w9 ⟨rfl,rfl⟩;go_simp)
   refine hK.out _ _ hS (fun hS=>?_)
   clear hK K
   (try simp only [Act.put,pu1,pu2,pu3])
   refine wpAnyH_done (by kernel_rfl) ?_ _
   simp only [sinkQ]
   go_simp
   refine ⟨IsFr2.of rfl,HCX,fun o=>?_,hS.2.2.1⟩
   have h:=hS.1 o
   simpa using h
 case rest =>
  clear hf1 bL HC0
  rintro a' W' ⟨⟨u,rfl⟩,HB2,kL2,zL2⟩
  have hs2:=HB2.size
  by_cases hv0:vp=0
  ·subst hv0
   have HLO:=Lib.hid (led_ok (preF_zero HVP.out))
   obtain ⟨ve,hve⟩:∃ ve,setE l kn=ve:=⟨_,rfl⟩
   by_cases he:ve=0
   ·subst he
    obtain ⟨n,hn,hn30⟩:=lv_range HLO.out pap
    have hres:wholeX l pap day kn=(ansI ((List.range n).all (canW l kn day pap)) ((List.range n).any (notW l kn day pap)),0):=by rw [wholeX,if_pos HVP.out,if_pos hve,hn,Int.toNat_natCast]
    have HRES:=Lib.hid hres
    have HSE:=Lib.hid hve
    have HLN:=Lib.hid hn
    clear hres hve
    go_wp2_with (first | (go_at_call 101;refine (p_openA l ⟨pA,pn,pc,rA,rn,rc,tA,tn,tc,sA,sn,sc⟩ kn _ HLO.out (HD.out.now HB2)).mono ?_;rintro e w5 ⟨RA,Rn,Rc,SA,Sn,Sc,bm,TA,Tn,Tc,PA,Pn,Pc,rfl,hb5,hO⟩;have HB5:Below w.heap.size w w5:=Below.then_ HB2 hb5;have hs5:=HB5.size;have HO:=Lib.hid hO;have kL5:∀ o,w5.cell? ⟨w.heap.size,o,none⟩=(#[.slice pA pn pc,.slice rA rn rc,.slice tA tn tc,.slice sA sn sc]:Array Value)[o]?:=(fun o=>(hb5.cell (p:=⟨w.heap.size,o,none⟩) zL2).trans (kL2 o));have zL5:w.heap.size<w5.heap.size:=Nat.lt_of_lt_of_le zL2 hb5.size;clear kL2 hO hb5) | (go_at_call 112;refine (p_settle0 l kn ⟨⟨pA,pn,pc,rA,rn,rc,tA,tn,tc,sA,sn,sc⟩,kn,RA,Rn,Rc,SA,Sn,Sc,bm,TA,Tn,Tc,PA,Pn,Pc⟩ w5 HLO.out HO.out HSE.out).mono ?_;rintro e w6 ⟨PA2,Pc2,rfl,hb6,hbx6,hac6,hlp6⟩;have HB6:Below w.heap.size w w6:=Below.then_ HB5 hb6;have hs6:=HB6.size;have hs56:=hb6.size;have k6:=hbx6.cell;have z6:=hbx6.lt;have HAC:=Lib.hid hac6;have HBX:=Lib.hid hbx6;have kL6:∀ o,w6.cell? ⟨w.heap.size,o,none⟩=(#[.slice pA pn pc,.slice rA rn rc,.slice tA tn tc,.slice sA sn sc]:Array Value)[o]?:=(fun o=>(hb6.cell (p:=⟨w.heap.size,o,none⟩) zL5).trans (kL5 o));have zL6:w.heap.size<w6.heap.size:=Nat.lt_of_lt_of_le zL5 hb6.size;clear kL5 hac6 hlp6 hb6 hbx6) | (go_at_call 125;refine (p_leaves l.pp ⟨pA,pn,pc,rA,rn,rc,tA,tn,tc,sA,sn,sc⟩ pap _ hpn (HD.out.now HB6).p).mono ?_;rintro e w7 ⟨rfl,hb7⟩;have HB7:Below w.heap.size w w7:=HB6.trans (hb7.mono hs6);have hs67:=hb7.size;have HBX7:=Lib.hid (HBX.out.ext hb7);have HAC7:=Lib.hid (HAC.out.now hb7);clear hb7 kL6 zL6 k6 z6))
    have HWH:Hid (∀ (W:World) (a b:Int),Below w7.heap.size w7 W→(Lit.int .i64 b).wf=true→Calls Tryz.prog 122 #[.agg #[.slice pA pn pc,.slice rA rn rc,.slice tA tn tc,.slice sA sn sc,.int .i64 kn,.slice RA Rn Rc,.slice SA Sn Sc,.map (some bm),.slice TA Tn Tc,.slice PA2 Pn Pc2],.agg #[.int .i64 a,.int .i64 b],.int .i64 day] W (RetO (whL l kn day (a,b)) W)):=by
     show ∀ _,_
     exact fun W a b hW hwf=>p_where _ _ _ ⟨⟨pA,pn,pc,rA,rn,rc,tA,tn,tc,sA,sn,sc⟩,kn,RA,Rn,Rc,SA,Sn,Sc,bm,TA,Tn,Tc,PA2,Pn,Pc2⟩ a b day W (HAC7.out.now hW) hwf
    go_loopw [13,14,41] (fun ca cb i wr=>∃ k:Nat,k≤n∧i=.int .i64 k∧ca=.bool ((List.range k).all (canW l kn day pap))∧cb=.bool ((List.range k).any (notW l kn day pap))∧Below w7.heap.size w7 wr) (fun _ _ i _=>n - (intOf i).toNat)
    case atStart=>exact ⟨0,by omega,rfl,rfl,rfl,Below.refl _ _⟩
    case round =>
     obtain ⟨k,hk,rfl,rfl,rfl,hB⟩:=hrel
     have hsB:=hB.size
     have bAw:=HBX7.out.ext hB
     have kAw:=bAw.cell
     have zAw:=bAw.lt
     obtain ⟨ca,hca⟩:∃ b,(List.range k).all (canW l kn day pap)=b:=⟨_,rfl⟩
     obtain ⟨cb,hcb⟩:∃ b,(List.range k).any (notW l kn day pap)=b:=⟨_,rfl⟩
     rw [hca,hcb]
     have HCA:=Lib.hid hca
     have HCB:=Lib.hid hcb
     clear hca hcb
     by_cases hlt:k<n
     ·have hwf:(Lit.int .i64 ((k:Int)+1)).wf=true:=wf_small (by omega) (by omega)
      have hwr:IntKind.i64.wrap ((k:Int)+1)=(k:Int)+1:=IntWalk.i64_in _ (by omega)
      obtain ⟨q1,hq1⟩:∃ q,decide ((0:Int)∈whL l kn day (pap,(k:Int)+1))=q:=⟨_,rfl⟩
      obtain ⟨q2,hq2⟩:∃ q,decide (whL l kn day (pap,(k:Int)+1)=[0])=q:=⟨_,rfl⟩
      have HQ1:=Lib.hid hq1
      have HQ2:=Lib.hid hq2
      have HA:Hid (canW l kn day pap k=q1):=by show _=_;exact hq1
      have HN:Hid (notW l kn day pap k=!q2):=by show _=_;rw [notW,hq2]
      clear hq1 hq2
      cases ca <;> cases cb
      all_goals
       go_wp2_with (first | (go_at_call 122;refine (HWH.out _ pap ((k:Int)+1) hB hwf).mono ?_;rintro e w8 ⟨v8,rfl,hb8,ho8⟩;obtain ⟨A8,c8,rfl,hc8⟩:=own_slice ho8;have HB8:Below wr.heap.size wr w8:=hb8;have hs8:=HB8.size;have HI8:=Lib.hid (Rd.of_own ho8);have hl8:=whL_len l kn day (pap,(k:Int)+1);clear ho8 hb8) | (go_at_call 57;refine (l_contains (whL l kn day (pap,(k:Int)+1)) 0 _ _ _ _ _ (by omega) HI8.out HQ1.out).mono ?_;rintro e w9 ⟨rfl,rfl⟩) | (go_at_call 126;refine (p_isOnly_v (whL l kn day (pap,(k:Int)+1)) 0 _ _ _ _ _ (by omega) HI8.out HQ2.out).mono ?_;rintro e w9 ⟨rfl,rfl⟩))
       go_roundw
       case rel=>exact ⟨k+1,by omega,by go_num,by rw [rng_all,HCA.out,HA.out] <;> rfl,by rw [rng_any,HCB.out,HN.out] <;> rfl,hB.trans (HB8.mono (by omega))⟩
       case measure=>exact ms_
     ·have hkn:Hid (k=n):=by show _=_;omega
      go_wp2_with (go_at_call 127;refine (p_answer ca cb _).mono ?_;rintro e w1 ⟨rfl,rfl⟩)
      go_ret2
      exact ⟨by rw [HRES.out,← HCA.out,← HCB.out,hkn.out];rfl,HB7.trans (hB.mono (by omega))⟩
   ·have hres:wholeX l pap day kn=(0,ve):=by rw [wholeX,if_pos HVP.out,if_neg (by rw [hve];exact he),hve]
    have HRES:=Lib.hid hres
    have HSE:=Lib.hid hve
    have HVE:=Lib.hid he
    have hed:(ve != 0)=true:=by simpa using he
    clear hres hve he
    go_wp2_with (first | (go_at_call 101;refine (p_openA l ⟨pA,pn,pc,rA,rn,rc,tA,tn,tc,sA,sn,sc⟩ kn _ HLO.out (HD.out.now HB2)).mono ?_;rintro e w5 ⟨RA,Rn,Rc,SA,Sn,Sc,bm,TA,Tn,Tc,PA,Pn,Pc,rfl,hb5,hO⟩;have HB5:Below w.heap.size w w5:=Below.then_ HB2 hb5;have hs5:=HB5.size;have HO:=Lib.hid hO;have kL5:∀ o,w5.cell? ⟨w.heap.size,o,none⟩=(#[.slice pA pn pc,.slice rA rn rc,.slice tA tn tc,.slice sA sn sc]:Array Value)[o]?:=(fun o=>(hb5.cell (p:=⟨w.heap.size,o,none⟩) zL2).trans (kL2 o));have zL5:w.heap.size<w5.heap.size:=Nat.lt_of_lt_of_le zL2 hb5.size;clear kL2 hO hb5) | (go_at_call 112;refine (p_settleN l kn ⟨⟨pA,pn,pc,rA,rn,rc,tA,tn,tc,sA,sn,sc⟩,kn,RA,Rn,Rc,SA,Sn,Sc,bm,TA,Tn,Tc,PA,Pn,Pc⟩ ve w5 HLO.out HO.out HSE.out HVE.out).mono ?_;rintro e w6 ⟨rfl,hb6⟩;have HB6:Below w.heap.size w w6:=Below.then_ HB5 hb6;have hs6:=HB6.size))
    go_ret2
    rw [HRES.out]
    exact ⟨rfl,HB6⟩
  ·have hres:wholeX l pap day kn=(0,vp):=by rw [wholeX,if_neg (by rw [HVP.out];exact hv0),HVP.out]
   have HRES:=Lib.hid hres
   have hv1:(vp != 0)=true:=by simpa using hv0
   clear hres hv0
   go_wp2
   go_ret2
   rw [HRES.out]
   exact ⟨rfl,HB2⟩
end Go.Proofs.YtoiompoapikkbaaGreat
