/- Layer 2 of the texts that LoanBack takes: Bbsq. -/
import Derived.Test.YtmcmbicapdcfmaaGreatBboq
set_option linter.unusedVariables false
set_option linter.unusedSimpArgs false
set_option maxHeartbeats 16000000
namespace Go.Proofs.YtmcmbicapdcfmaaGreat
open Go.RowKit Go.Maps
theorem box10 {W:World} {B:Nat} (hb:BoxA W B 115 zAcc) (v0 v1 v2 v3 v4 v5 v6 v7 v8 v9:Value) :
 W.grownBy (World.setCell (World.setCell (World.setCell (World.setCell (World.setCell (World.setCell (World.setCell (World.setCell (World.setCell (World.setCell W ⟨B,0,none⟩ v0) ⟨B,1,none⟩ v1) ⟨B,2,none⟩ v2) ⟨B,3,none⟩ v3) ⟨B,4,none⟩ v4) ⟨B,5,none⟩ v5) ⟨B,6,none⟩ v6) ⟨B,7,none⟩ v7) ⟨B,8,none⟩ v8) ⟨B,9,none⟩ v9) (some B)∧BoxA (World.setCell (World.setCell (World.setCell (World.setCell (World.setCell (World.setCell (World.setCell (World.setCell (World.setCell (World.setCell W ⟨B,0,none⟩ v0) ⟨B,1,none⟩ v1) ⟨B,2,none⟩ v2) ⟨B,3,none⟩ v3) ⟨B,4,none⟩ v4) ⟨B,5,none⟩ v5) ⟨B,6,none⟩ v6) ⟨B,7,none⟩ v7) ⟨B,8,none⟩ v8) ⟨B,9,none⟩ v9) B 115 #[v0,v1,v2,v3,v4,v5,v6,v7,v8,v9]∧((World.setCell (World.setCell (World.setCell (World.setCell (World.setCell (World.setCell (World.setCell (World.setCell (World.setCell (World.setCell W ⟨B,0,none⟩ v0) ⟨B,1,none⟩ v1) ⟨B,2,none⟩ v2) ⟨B,3,none⟩ v3) ⟨B,4,none⟩ v4) ⟨B,5,none⟩ v5) ⟨B,6,none⟩ v6) ⟨B,7,none⟩ v7) ⟨B,8,none⟩ v8) ⟨B,9,none⟩ v9)).heap.size=W.heap.size :=
 ⟨grown_setCells B [v0,v1,v2,v3,v4,v5,v6,v7,v8,v9] 0 W,hb.setAll [v0,v1,v2,v3,v4,v5,v6,v7,v8,v9] rfl,by simp⟩
theorem OneZ.of {W W':World} {B:Nat} {cs:Array Value} (hb:BoxA W B 115 zAcc) (h:W.grownBy W' (some B)∧BoxA W' B 115 cs∧W'.heap.size=W.heap.size):OneZ W W' B :=
 ⟨hb,h.2.2,fun b hne=>by
   rcases Nat.lt_or_ge b W.heap.size with h1 | h1
   ·exact h.1.block b h1 (fun e=>hne (by injection e))
   ·rw [Array.getElem?_eq_none (by rw [h.2.2];exact h1),Array.getElem?_eq_none h1]⟩
structure MvS (w W:World) (LC:Array Value) (day:Int) (q1 q2:Nat) (a1 a2:Acc) (l l2:Led) (kn:Int):Prop where
 hB:Below w.heap.size w W
 bL:BoxA W w.heap.size 32 LC
 bD:BoxA W (w.heap.size+1) 3 #[.int .i64 day]
 b1:BoxA W q1 115 (accC a1)
 b2:BoxA W q2 115 (accC a2)
 hne:q1≠q2
 z1:w.heap.size+2≤q1
 z2:w.heap.size+2≤q2
 o1:OpnA W a1 l kn
 o2:OpnA W a2 l2 kn
theorem mv_fin {w cur W9 W10:World} {LC:Array Value} {day:Int} {B1 B2:Nat} {a1 a2:Acc} {l l2:Led} {kn:Int} (hC:Below w.heap.size w cur) (h1:OpnA cur a1 l kn) (h2:OpnA cur a2 l2 kn) (p1:∀ r∈l.rc,∀ x∈r.lv,x≠0) (p2:∀ r∈l2.rc,∀ x∈r.lv,x≠0)
 (b1:BoxA cur B1 115 zAcc) (b2:BoxA W9 B2 115 zAcc) (hne:B1≠B2) (z1:w.heap.size+2≤B1) (z2:w.heap.size+2≤B2) (bL:BoxA cur w.heap.size 32 LC) (bD:BoxA cur (w.heap.size+1) 3 #[.int .i64 day])
 (f9:cur.grownBy W9 (some B1)∧BoxA W9 B1 115 (accC a1)∧W9.heap.size=cur.heap.size) (f10:W9.grownBy W10 (some B2)∧BoxA W10 B2 115 (accC a2)∧W10.heap.size=W9.heap.size) :
 MvS w W10 LC day B1 B2 a1 a2 l l2 kn:=by
 have hz1:=OneZ.of b1 f9
 have hz2:=OneZ.of b2 f10
 have hg1:=f9.1
 have hg2:=f10.1
 have hB1:=hC.grown hg1 hC.size (fun b e=>by cases e;omega)
 exact ⟨hB1.grown hg2 hB1.size (fun b e=>by cases e;omega),(bL.kept hg1 (fun e=>by injection e with e;omega)).kept hg2 (fun e=>by injection e with e;omega),(bD.kept hg1 (fun e=>by injection e with e;omega)).kept hg2 (fun e=>by injection e with e;omega),f9.2.1.kept hg2 (fun e=>hne (by injection e)),f10.2.1,hne,z1,z2,hz2.opn (hz1.opn h1 p1) p1,hz2.opn (hz1.opn h2 p2) p2⟩
set_option maxRecDepth 10000 in
theorem p_MovedX (l:Led) (x:Lsl) (src day kn:Int) (w:World) (hf:x.fit) (hd:LedIn w w.heap.size x l) :
 Calls Tryz.prog 36 #[.agg #[.slice x.pA x.pn x.pc,.slice x.rA x.rn x.rc,.slice x.tA x.tn x.tc,.slice x.sA x.sn x.sc],.int .i64 src,.int .i64 day,.int .i64 kn] w (RetFE (movX l src day kn) w):=by
 obtain ⟨pA,pn,pc,rA,rn,rc,tA,tn,tc,sA,sn,sc⟩:=x
 have HD:=hd_ hd
 have hml:maxLen≤9223372036854775807:=by decide
 have hpn:pn≤9223372036854775807:=by have:=hf.p;dsimp only at this;omega
 have hrn:rn≤9223372036854775807:=by have:=hf.r;dsimp only at this;omega
 have htn:tn≤9223372036854775807:=by have:=hf.t;dsimp only at this;omega
 have hsn:sn≤9223372036854775807:=by have:=hf.s;dsimp only at this;omega
 clear hd hf hml
 obtain ⟨vp,hv⟩:∃ vp,preE l [day,kn]=vp:=⟨_,rfl⟩
 have HV:Hid (orL [errI (ledB l) 24,errI (daysOk [day,kn]) 6]=vp):=by show _=_;exact hv
 obtain ⟨W0,hW0⟩:∃ W0,W0=((w.alloc (.cells #[.slice pA pn pc,.slice rA rn rc,.slice tA tn tc,.slice sA sn sc] 32)).alloc (.cells #[.int .i64 day] 3)):=⟨_,rfl⟩
 have hb2:=box2 w 32 3 #[.slice pA pn pc,.slice rA rn rc,.slice tA tn tc,.slice sA sn sc] #[.int .i64 day]
 have HC0:Below w.heap.size w W0:=by rw [hW0];exact bel_
 rw [← hW0] at hb2
 have bL:=hb2.1
 have bF:=hb2.2
 have HW0:=hd_ hW0
 have HVP:=hd_ hv
 clear hb2 hW0 hv
 go_enter Tryz.func36,Tryz.ntmps36
 go_wp2
 refine wp_named2 fun f1 V1 hf1 hV1=>?_
 obtain rfl:V1=W0:=by rw [← hV1,HW0.out]
 clear hV1
 refine wp_cut2 (fun a' W'=>IsFr2 (fun u=>{ tmps:=#[.agg #[.slice pA pn pc,.slice rA rn rc,.slice tA tn tc,.slice sA sn sc],.int .i64 src,.int .i64 day,.int .i64 kn,.pointer (some ⟨w.heap.size,0,none⟩),u 5,.pointer (some ⟨w.heap.size+1,0,none⟩),u 7,.slice none 0 0,.int .i64 0,.int .i64 vp,u 11,u 12,u 13,u 14,u 15,u 16,u 17,u 18,u 19,u 20,u 21,u 22,u 23,u 24,u 25,u 26,u 27,u 28,u 29,u 30,u 31,u 32,u 33,u 34,u 35,u 36,u 37,u 38,u 39,u 40,u 41,u 42,u 43,u 44,u 45,u 46,u 47,u 48,u 49],defers:=[] }) a'∧Below w.heap.size w W'∧BoxA W' w.heap.size 32 #[.slice pA pn pc,.slice rA rn rc,.slice tA tn tc,.slice sA sn sc]∧BoxA W' (w.heap.size+1) 3 #[.int .i64 day]) ?reg ?rest
 case reg =>
  subst hf1
  have HD:=hd_ (HD.out.now HC0)
  have HC:Below V1.heap.size V1 V1.drew:=(Below.refl _ _).drew
  have zF:w.heap.size+1<V1.heap.size:=bF.lt
  have zL:w.heap.size<V1.heap.size:=bL.lt
  (refine wp_region_sink_lit (S:=S1 w.heap.size (w.heap.size+1) #[.slice pA pn pc,.slice rA rn rc,.slice tA tn tc,.slice sA sn sc] #[.int .i64 day]) 8 (by kernel_rfl) rfl rfl (by kernel_rfl) (by kernel_rfl) ⟨bL.cell,bF.cell,zL,zF⟩ (fun hS=>?_);simp only [List.take_succ_cons,List.take_zero,List.reduceReplicate,Array.replicate_succ,Array.replicate_zero])
  (refine tk_ (i:=0) (v:=?_) rfl ?_ hS ?_;rotate_left;focus (intro w2 hw2;(try unfold S1 at hw2);go_split_ands;go_simp;first | done | with_reducible rfl);(try simp only [Act.put,pu1,pu2,pu3]))
  (refine tk_ (i:=2) (v:=?_) rfl ?_ hS ?_;rotate_left;focus (intro w2 hw2;(try unfold S1 at hw2);go_split_ands;go_simp;first | done | with_reducible rfl);(try simp only [Act.put,pu1,pu2,pu3]))
  (refine tk_ (i:=3) (v:=?_) rfl ?_ hS ?_;rotate_left;focus (intro w2 hw2;(try unfold S1 at hw2);go_split_ands;go_simp;first | done | with_reducible rfl);(try simp only [Act.put,pu1,pu2,pu3]))
  refine rd_ [1,4] ?_
  refine AllReadyH.cons rfl (fun K hK=>?_) (AllReadyH.cons rfl (fun K hK=>?_) AllReadyH.nil)
  ·(go_simp;go_at_call 12;refine (p_Check l ⟨pA,pn,pc,rA,rn,rc,tA,tn,tc,sA,sn,sc⟩ _ hpn hrn htn hsn (HD.out.now HC)).mono ?_;rintro e v1 ⟨rfl,hb⟩;go_simp)
   have HC:=bt_ HC hb
   refine hK.out _ _ (S1.ext hb hS) (fun hS=>?_)
   clear hK K hb
   (try simp only [Act.put,pu1,pu2,pu3])
   refine rd_ [4] ?_
   refine ah1 rfl fun K hK=>?_
   go_simp
   have hAr:=BoxA.new (v1) 3 #[.int .i64 day,.int .i64 kn]
   have HC:=HC.alloc HC.size (.cells #[.int .i64 day,.int .i64 kn] 3)
   refine hK.out _ _ (S1.ext ((Below.refl _ _).alloc lr_ _) hS) (fun hS=>?_)
   clear hK K
   (try simp only [Act.put,pu1,pu2,pu3])
   refine rd_ [5] ?_
   refine ah1 rfl fun K hK=>?_
   (go_simp;go_at_call 63;refine (p_checkDays [day,kn] _ 2 2 _ (by decide) (is_box hAr rfl)).mono ?_;rintro e v3 ⟨rfl,hb⟩;go_simp)
   have HC:=bt_ HC hb
   have hAr:=hAr.ext hb
   refine hK.out _ _ (S1.ext hb hS) (fun hS=>?_)
   clear hK K hb
   (try simp only [Act.put,pu1,pu2,pu3])
   refine rd_ [6] ?_
   refine ah1 rfl fun K hK=>?_
   go_simp
   have HCX:=HC.alloc HC.size (.cells #[.int .i64 (errI (ledB l) 24),.int .i64 (errI (daysOk [day,kn]) 6)] 39)
   refine hK.out _ _ (S1.ext ((Below.refl _ _).alloc lr_ _) hS) (fun hS=>?_)
   clear hK K
   (try simp only [Act.put,pu1,pu2,pu3])
   refine rd_ [7] ?_
   refine ah1 rfl fun K hK=>?_
   (go_simp;go_at_call 62;refine (p_first [errI (ledB l) 24,errI (daysOk [day,kn]) 6] vp _ 2 2 _ (by decide) (Rd.new _ #[.int .i64 (errI (ledB l) 24),.int .i64 (errI (daysOk [day,kn]) 6)] _ 1 2 _ (by simp) rfl) HV.out).mono ?_;rintro e w9 ⟨rfl,rfl⟩;go_simp)
   refine hK.out _ _ hS (fun hS=>?_)
   clear hK K
   (try simp only [Act.put,pu1,pu2,pu3])
   refine wpAnyH_done (by kernel_rfl) ?_ _
   simp only [sinkQ]
   go_simp
   exact ⟨IsFr2.of rfl,bt_ HC0 HCX,bL.ext HCX,bF.ext HCX⟩
  ·go_simp
   have hAr:=BoxA.new (V1.drew) 3 #[.int .i64 day,.int .i64 kn]
   have HC:=HC.alloc HC.size (.cells #[.int .i64 day,.int .i64 kn] 3)
   refine hK.out _ _ (S1.ext ((Below.refl _ _).alloc lr_ _) hS) (fun hS=>?_)
   clear hK K
   (try simp only [Act.put,pu1,pu2,pu3])
   refine rd_ [1] ?_
   refine ah1 rfl fun K hK=>?_
   (go_simp;go_at_call 12;refine (p_Check l ⟨pA,pn,pc,rA,rn,rc,tA,tn,tc,sA,sn,sc⟩ _ hpn hrn htn hsn (HD.out.now HC)).mono ?_;rintro e v5 ⟨rfl,hb⟩;go_simp)
   have HC:=bt_ HC hb
   have hAr:=hAr.ext hb
   refine hK.out _ _ (S1.ext hb hS) (fun hS=>?_)
   clear hK K hb
   (try simp only [Act.put,pu1,pu2,pu3])
   refine rd_ [5] ?_
   refine ah1 rfl fun K hK=>?_
   (go_simp;go_at_call 63;refine (p_checkDays [day,kn] _ 2 2 _ (by decide) (is_box hAr rfl)).mono ?_;rintro e v6 ⟨rfl,hb⟩;go_simp)
   have HC:=bt_ HC hb
   have hAr:=hAr.ext hb
   refine hK.out _ _ (S1.ext hb hS) (fun hS=>?_)
   clear hK K hb
   (try simp only [Act.put,pu1,pu2,pu3])
   refine rd_ [6] ?_
   refine ah1 rfl fun K hK=>?_
   go_simp
   have HCX:=HC.alloc HC.size (.cells #[.int .i64 (errI (ledB l) 24),.int .i64 (errI (daysOk [day,kn]) 6)] 39)
   refine hK.out _ _ (S1.ext ((Below.refl _ _).alloc lr_ _) hS) (fun hS=>?_)
   clear hK K
   (try simp only [Act.put,pu1,pu2,pu3])
   refine rd_ [7] ?_
   refine ah1 rfl fun K hK=>?_
   (go_simp;go_at_call 62;refine (p_first [errI (ledB l) 24,errI (daysOk [day,kn]) 6] vp _ 2 2 _ (by decide) (Rd.new _ #[.int .i64 (errI (ledB l) 24),.int .i64 (errI (daysOk [day,kn]) 6)] _ 1 2 _ (by simp) rfl) HV.out).mono ?_;rintro e w9 ⟨rfl,rfl⟩;go_simp)
   refine hK.out _ _ hS (fun hS=>?_)
   clear hK K
   (try simp only [Act.put,pu1,pu2,pu3])
   refine wpAnyH_done (by kernel_rfl) ?_ _
   simp only [sinkQ]
   go_simp
   exact ⟨IsFr2.of rfl,bt_ HC0 HCX,bL.ext HCX,bF.ext HCX⟩
 case rest =>
  clear hf1 bL bF HC0
  rintro a' W' ⟨⟨u,rfl⟩,HB2,bL2,bD2⟩
  have hs2:=HB2.size
  have kL2:=bL2.cell
  have zL2:=bL2.lt
  have kD2:=bD2.cell
  have zD2:=bD2.lt
  by_cases hv0:vp=0
  ·subst hv0
   have hled:=(pre_zero HVP.out).1
   have HLO:=hd_ (led_ok hled)
   have HPO:=hd_ (led_pos hled)
   have hrn6:rn≤60:=by have h1:=HLO.out.rn;have h2:l.rc.length=rn:=HD.out.r.len;omega
   have htn6:tn≤60:=by have h1:=HLO.out.tn;have h2:l.rt.length=tn:=HD.out.t.len;omega
   have hsn6:sn≤60:=by have h1:=HLO.out.sn;have h2:l.sg.length=sn:=HD.out.s.len;omega
   have hpn6:pn≤12:=by have h1:=HLO.out.pn;have h2:l.pp.length=pn:=HD.out.p.len;omega
   have hsl:(srcL l).length≤1000000:=by
    have h1:=HLO.out.rn
    have h2:=HLO.out.tn
    have h3:=HLO.out.sn
    simp only [srcL,List.length_append,List.length_map]
    omega
   clear hled
   by_cases hin:src∈srcL l
   ·have HIN:Hid (decide (src∈srcL l)=true):=by show _=_;simpa using hin
    have HM0:Hid (movX l src day kn=if setE l kn=setE (excL l src) kn then (if setE l kn=0 then (movL l src day kn,0) else ([],0)) else (folL l.pp,0)):=by show _=_;rw [movX,if_pos HVP.out,if_pos hin]
    clear hin
    go_wp2_with (first | (go_at_call 88;refine (p_sources l ⟨pA,pn,pc,rA,rn,rc,tA,tn,tc,sA,sn,sc⟩ _ hrn6 htn6 hsn6 (HD.out.now HB2)).mono ?_;rintro e w3 ⟨v3,rfl,hb3,ho3⟩;obtain ⟨A3,c3,rfl,hc3⟩:=own_slice ho3;have HB3:Below w.heap.size w w3:=bt_ HB2 hb3;have HO3:=hd_ ho3;have bL3:=bL2.ext hb3;have bD3:=bD2.ext hb3;have kL3:=bL3.cell;have zL3:=bL3.lt;have kD3:=bD3.cell;have zD3:=bD3.lt;clear kL2 kD2 zL2 zD2 ho3 hb3) | (go_at_call 71;refine (l_contains (srcL l) src true A3 (srcL l).length c3 _ hsl (Rd.of_own HO3.out) HIN.out).mono ?_;rintro e w4 ⟨rfl,rfl⟩))
    refine wp_named2 fun f2 V2 hf2 hV2=>?_
    subst hV2
    refine wp_cut2 (fun a' W'=>∃ q1 q2 a1 a2,IsFr2 (fun u=>{ tmps:=#[.agg #[.slice pA pn pc,.slice rA rn rc,.slice tA tn tc,.slice sA sn sc],.int .i64 src,.int .i64 day,.int .i64 kn,.pointer (some ⟨w.heap.size,0,none⟩),u 5,.pointer (some ⟨w.heap.size+1,0,none⟩),u 7,.slice none 0 0,.int .i64 0,u 10,.pointer (some ⟨q1,0,none⟩),.pointer (some ⟨q2,0,none⟩),u 13,u 14,u 15,u 16,u 17,u 18,u 19,u 20,u 21,u 22,u 23,u 24,u 25,u 26,u 27,u 28,u 29,u 30,u 31,u 32,u 33,u 34,u 35,u 36,u 37,u 38,u 39,u 40,u 41,u 42,u 43,u 44,u 45,u 46,u 47,u 48,u 49],defers:=[] }) a'∧MvS w W' #[.slice pA pn pc,.slice rA rn rc,.slice tA tn tc,.slice sA sn sc] day q1 q2 a1 a2 l (excL l src) kn) ?reg6 ?rest6
    case reg6 =>
     subst hf2
     have hV2:w.heap.size+2≤w3.heap.size:=by omega
     (refine wp_region_held_lit (S:=S1 w.heap.size (w.heap.size+1) #[.slice pA pn pc,.slice rA rn rc,.slice tA tn tc,.slice sA sn sc] #[.int .i64 day]) 12 (by kernel_rfl) rfl ⟨bL3.cell,bD3.cell,zL3,zD3⟩ (fun hS=>?_);simp only [List.reduceReplicate,Array.replicate_succ,Array.replicate_zero])
     obtain ⟨c0,hc0⟩:∃ c,c=w3.drew:=⟨_,rfl⟩
     have hC0:Below w3.heap.size w3 w3.drew:=(Below.refl _ _).drew
     have HC:Below w.heap.size w w3.drew:=HB3.drew
     rw [← hc0] at hC0 HC hS ⊢
     have bL0:=bL3
     have bD0:=bD3
     clear hc0 kL3 kD3
     (refine tk_ (i:=0) (v:=?_) rfl ?_ hS ?_;rotate_left;focus (intro w2 hw2;(try unfold S1 at hw2);go_split_ands;go_simp;first | done | with_reducible rfl);(try simp only [Act.put,pu1,pu2,pu3]))
     (refine tk_ (i:=1) (v:=?_) rfl ?_ hS ?_;rotate_left;focus (intro w2 hw2;(try unfold S1 at hw2);go_split_ands;go_simp;first | done | with_reducible rfl);(try simp only [Act.put,pu1,pu2,pu3]))
     (refine tk_ (i:=3) (v:=?_) rfl ?_ hS ?_;rotate_left;focus (intro w2 hw2;(try unfold S1 at hw2);go_split_ands;go_simp;first | done | with_reducible rfl);(try simp only [Act.put,pu1,pu2,pu3]))
     (refine tk_ (i:=4) (v:=?_) rfl ?_ hS ?_;rotate_left;focus (intro w2 hw2;(try unfold S1 at hw2);go_split_ands;go_simp;first | done | with_reducible rfl);(try simp only [Act.put,pu1,pu2,pu3]))
     (refine tk_ (i:=6) (v:=?_) rfl ?_ hS ?_;rotate_left;focus (intro w2 hw2;(try unfold S1 at hw2);go_split_ands;go_simp;first | done | with_reducible rfl);(try simp only [Act.put,pu1,pu2,pu3]))
     refine rd_ [2,8,9] ?_
     refine AllReadyH.cons rfl (fun K hK=>?_) (AllReadyH.cons rfl (fun K hK=>?_) (AllReadyH.cons rfl (fun K hK=>?_) AllReadyH.nil))
     ·(go_simp;go_at_call 64;refine (p_openA l ⟨pA,pn,pc,rA,rn,rc,tA,tn,tc,sA,sn,sc⟩ kn _ HLO.out (HD.out.now HC)).mono ?_;rintro e w_1 ⟨RA,Rn,Rc,SA,Sn,Sc,bm,TA,Tn,Tc,PA,Pn,Pc,rfl,hb,hO⟩;go_simp)
      refine hK.out _ _ (S1.ext hb hS) (fun hS=>?_)
      clear hK K
      (try simp only [Act.put,pu1,pu2,pu3])
      have HC:=bt_ HC hb
      have hC0:=bt_ hC0 hb
      have HO1:=hd_ hO
      clear hO
      refine rd_ [5,8,9] ?_
      refine AllReadyH.cons rfl (fun K hK=>?_) (AllReadyH.cons rfl (fun K hK=>?_) (AllReadyH.cons rfl (fun K hK=>?_) AllReadyH.nil))
      ·(go_simp;go_at_call 95;refine (p_except l ⟨pA,pn,pc,rA,rn,rc,tA,tn,tc,sA,sn,sc⟩ src _ HLO.out (HD.out.now HC)).mono ?_;rintro e w_2 ⟨⟨yA,yn,yc,zA,zn,zc,uA,un,uc,vA,vn,vc⟩,rfl,hb,hfy,hdy⟩;go_simp)
       refine hK.out _ _ (S1.ext hb hS) (fun hS=>?_)
       clear hK K
       (try simp only [Act.put,pu1,pu2,pu3])
       have HC:=bt_ HC hb
       have hC0:=bt_ hC0 hb
       have HO1:=hd_ (HO1.out.now hb)
       have HDY:=hd_ hdy
       clear hdy hfy
       refine rd_ [7,8,9] ?_
       refine AllReadyH.cons rfl (fun K hK=>?_) (AllReadyH.cons rfl (fun K hK=>?_) (AllReadyH.cons rfl (fun K hK=>?_) AllReadyH.nil))
       ·(go_simp;go_at_call 64;refine (p_openA (excL l src) ⟨yA,yn,yc,zA,zn,zc,uA,un,uc,vA,vn,vc⟩ kn _ (HLO.out.exc src) HDY.out).mono ?_;rintro e w_3 ⟨RB,Rm,Rd,SB,Sm,Sd,bq,TB,Tm,Td,PB,Pm,Pd,rfl,hb,hO⟩;go_simp)
        refine hK.out _ _ (S1.ext hb hS) (fun hS=>?_)
        clear hK K
        (try simp only [Act.put,pu1,pu2,pu3])
        have HC:=bt_ HC hb
        have hC0:=bt_ hC0 hb
        have HO1:=hd_ (HO1.out.now hb)
        have HDY:=hd_ (HDY.out.now hb)
        have HO2:=hd_ hO
        clear hO
        refine rd_ [8,9] ?_
        refine AllReadyH.cons rfl (fun K hK=>?_) (AllReadyH.cons rfl (fun K hK=>?_) AllReadyH.nil)
        ·go_simp
         refine hK.out _ _ (S1.ext ((Below.refl _ _).alloc lr_ (.cells zAcc 115)) hS) (fun hS=>?_)
         clear hK K
         (try simp only [Act.put,pu1,pu2,pu3])
         have hb:Below w_3.heap.size w_3 (w_3.alloc (.cells zAcc 115)):=(Below.refl _ _).alloc lr_ _
         have hqn:BoxA (w_3.alloc (.cells zAcc 115)) w_3.heap.size 115 zAcc:=BoxA.new _ _ _
         have hzn:w.heap.size+2≤w_3.heap.size:=Nat.le_trans hV2 hC0.size
         have HC:=bt_ HC hb
         have hC0:=bt_ hC0 hb
         have HO1:=hd_ (HO1.out.now hb)
         have HO2:=hd_ (HO2.out.now hb)
         obtain ⟨w_4,hw_4⟩:∃ W,W=w_3.alloc (.cells zAcc 115):=⟨_,rfl⟩
         rw [← hw_4] at hqn HC hC0 hS HO1 HO2
         change wpAnyH _ _ _ _ _ _ _ _ (w_3.alloc (.cells zAcc 115))
         rw [← hw_4]
         obtain ⟨B1,hB1⟩:∃ B,B=w_3.heap.size:=⟨_,rfl⟩
         rw [← hB1] at hqn hzn ⊢
         have hq1:=hqn
         have hz1:=hzn
         have hltq:=hq1.lt
         clear hw_4 hB1 hb
         refine rd_ [9] ?_
         refine ah1 rfl fun K hK=>?_
         go_simp
         refine hK.out _ _ (S1.ext ((Below.refl _ _).alloc lr_ (.cells zAcc 115)) hS) (fun hS=>?_)
         clear hK K
         (try simp only [Act.put,pu1,pu2,pu3])
         have hb:Below w_4.heap.size w_4 (w_4.alloc (.cells zAcc 115)):=(Below.refl _ _).alloc lr_ _
         have hqn:BoxA (w_4.alloc (.cells zAcc 115)) w_4.heap.size 115 zAcc:=BoxA.new _ _ _
         have hzn:w.heap.size+2≤w_4.heap.size:=Nat.le_trans hV2 hC0.size
         have HC:=bt_ HC hb
         have hC0:=bt_ hC0 hb
         have HO1:=hd_ (HO1.out.now hb)
         have HO2:=hd_ (HO2.out.now hb)
         have hq1:=hq1.ext hb
         obtain ⟨w_5,hw_5⟩:∃ W,W=w_4.alloc (.cells zAcc 115):=⟨_,rfl⟩
         rw [← hw_5] at hqn HC hC0 hS HO1 HO2 hq1
         change wpAnyH _ _ _ _ _ _ _ _ (w_4.alloc (.cells zAcc 115))
         rw [← hw_5]
         obtain ⟨B2,hB2⟩:∃ B,B=w_4.heap.size:=⟨_,rfl⟩
         rw [← hB2] at hqn hzn ⊢
         have hq2:=hqn
         have hz2:=hzn
         have hne:B1≠B2:=by have:=hltq;omega
         have hltq:=hq2.lt
         clear hw_5 hB2 hb
         have f9:=box10 hq1 (.slice pA pn pc) (.slice rA rn rc) (.slice tA tn tc) (.slice sA sn sc) (.int .i64 kn) (.slice RA Rn Rc) (.slice SA Sn Sc) (.map (some bm)) (.slice TA Tn Tc) (.slice PA Pn Pc)
         have kq1:=hq1.cell
         have zq1:=hq1.lt
         have fq1:=hq1.frozen
         refine rd_ [10] ?_
         refine ah1 rfl fun K hK=>?_
         go_simp
         refine hK.out _ _ (S1.grown f9.1 hS (by omega) (by omega)) (fun hS=>?_)
         clear hK K kq1 zq1 fq1
         (try simp only [Act.put,pu1,pu2,pu3])
         obtain ⟨u9,hu9⟩:∃ u9,u9=(World.setCell (World.setCell (World.setCell (World.setCell (World.setCell (World.setCell (World.setCell (World.setCell (World.setCell (World.setCell w_5 ⟨B1,0,none⟩ (.slice pA pn pc)) ⟨B1,1,none⟩ (.slice rA rn rc)) ⟨B1,2,none⟩ (.slice tA tn tc)) ⟨B1,3,none⟩ (.slice sA sn sc)) ⟨B1,4,none⟩ (.int .i64 kn)) ⟨B1,5,none⟩ (.slice RA Rn Rc)) ⟨B1,6,none⟩ (.slice SA Sn Sc)) ⟨B1,7,none⟩ (.map (some bm))) ⟨B1,8,none⟩ (.slice TA Tn Tc)) ⟨B1,9,none⟩ (.slice PA Pn Pc)):=⟨_,rfl⟩
         rw [← hu9] at hS f9 ⊢
         clear hu9
         have hq2u:BoxA u9 B2 115 zAcc:=hq2.kept f9.1 (fun e=>hne (by injection e with e;exact e.symm))
         have f10:=box10 hq2u (.slice yA yn yc) (.slice zA zn zc) (.slice uA un uc) (.slice vA vn vc) (.int .i64 kn) (.slice RB Rm Rd) (.slice SB Sm Sd) (.map (some bq)) (.slice TB Tm Td) (.slice PB Pm Pd)
         have kq2:=hq2u.cell
         have zq2:=hq2u.lt
         have fq2:=hq2u.frozen
         refine rd_ [11] ?_
         refine ah1 rfl fun K hK=>?_
         go_simp
         refine hK.out _ _ (S1.grown f10.1 hS (by omega) (by omega)) (fun hS=>?_)
         clear hK K kq2 zq2 fq2
         (try simp only [Act.put,pu1,pu2,pu3])
         refine wpAnyH_done (by kernel_rfl) ?_ _
         exact ⟨B1,B2,⟨⟨pA,pn,pc,rA,rn,rc,tA,tn,tc,sA,sn,sc⟩,kn,RA,Rn,Rc,SA,Sn,Sc,bm,TA,Tn,Tc,PA,Pn,Pc⟩,⟨⟨yA,yn,yc,zA,zn,zc,uA,un,uc,vA,vn,vc⟩,kn,RB,Rm,Rd,SB,Sm,Sd,bq,TB,Tm,Td,PB,Pm,Pd⟩,IsFr2.of rfl,mv_fin (a1:=⟨⟨pA,pn,pc,rA,rn,rc,tA,tn,tc,sA,sn,sc⟩,kn,RA,Rn,Rc,SA,Sn,Sc,bm,TA,Tn,Tc,PA,Pn,Pc⟩) (a2:=⟨⟨yA,yn,yc,zA,zn,zc,uA,un,uc,vA,vn,vc⟩,kn,RB,Rm,Rd,SB,Sm,Sd,bq,TB,Tm,Td,PB,Pm,Pd⟩) HC HO1.out HO2.out HPO.out (exc_pos HPO.out) hq1 hq2u hne hz1 hz2 (bL0.ext hC0) (bD0.ext hC0) f9 f10⟩
        ·go_simp
         refine hK.out _ _ (S1.ext ((Below.refl _ _).alloc lr_ (.cells zAcc 115)) hS) (fun hS=>?_)
         clear hK K
         (try simp only [Act.put,pu1,pu2,pu3])
         have hb:Below w_3.heap.size w_3 (w_3.alloc (.cells zAcc 115)):=(Below.refl _ _).alloc lr_ _
         have hqn:BoxA (w_3.alloc (.cells zAcc 115)) w_3.heap.size 115 zAcc:=BoxA.new _ _ _
         have hzn:w.heap.size+2≤w_3.heap.size:=Nat.le_trans hV2 hC0.size
         have HC:=bt_ HC hb
         have hC0:=bt_ hC0 hb
         have HO1:=hd_ (HO1.out.now hb)
         have HO2:=hd_ (HO2.out.now hb)
         obtain ⟨w_6,hw_6⟩:∃ W,W=w_3.alloc (.cells zAcc 115):=⟨_,rfl⟩
         rw [← hw_6] at hqn HC hC0 hS HO1 HO2
         change wpAnyH _ _ _ _ _ _ _ _ (w_3.alloc (.cells zAcc 115))
         rw [← hw_6]
         obtain ⟨B2,hB2⟩:∃ B,B=w_3.heap.size:=⟨_,rfl⟩
         rw [← hB2] at hqn hzn ⊢
         have hq2:=hqn
         have hz2:=hzn
         have hltq:=hq2.lt
         clear hw_6 hB2 hb
         refine rd_ [8] ?_
         refine ah1 rfl fun K hK=>?_
         go_simp
         refine hK.out _ _ (S1.ext ((Below.refl _ _).alloc lr_ (.cells zAcc 115)) hS) (fun hS=>?_)
         clear hK K
         (try simp only [Act.put,pu1,pu2,pu3])
         have hb:Below w_6.heap.size w_6 (w_6.alloc (.cells zAcc 115)):=(Below.refl _ _).alloc lr_ _
         have hqn:BoxA (w_6.alloc (.cells zAcc 115)) w_6.heap.size 115 zAcc:=BoxA.new _ _ _
         have hzn:w.heap.size+2≤w_6.heap.size:=Nat.le_trans hV2 hC0.size
         have HC:=bt_ HC hb
         have hC0:=bt_ hC0 hb
         have HO1:=hd_ (HO1.out.now hb)
         have HO2:=hd_ (HO2.out.now hb)
         have hq2:=hq2.ext hb
         obtain ⟨w_7,hw_7⟩:∃ W,W=w_6.alloc (.cells zAcc 115):=⟨_,rfl⟩
         rw [← hw_7] at hqn HC hC0 hS HO1 HO2 hq2
         change wpAnyH _ _ _ _ _ _ _ _ (w_6.alloc (.cells zAcc 115))
         rw [← hw_7]
         obtain ⟨B1,hB1⟩:∃ B,B=w_6.heap.size:=⟨_,rfl⟩
         rw [← hB1] at hqn hzn ⊢
         have hq1:=hqn
         have hz1:=hzn
         have hne:B1≠B2:=by have:=hltq;omega
         have hltq:=hq1.lt
         clear hw_7 hB1 hb
         have f9:=box10 hq1 (.slice pA pn pc) (.slice rA rn rc) (.slice tA tn tc) (.slice sA sn sc) (.int .i64 kn) (.slice RA Rn Rc) (.slice SA Sn Sc) (.map (some bm)) (.slice TA Tn Tc) (.slice PA Pn Pc)
         have kq1:=hq1.cell
         have zq1:=hq1.lt
         have fq1:=hq1.frozen
         refine rd_ [10] ?_
         refine ah1 rfl fun K hK=>?_
         go_simp
         refine hK.out _ _ (S1.grown f9.1 hS (by omega) (by omega)) (fun hS=>?_)
         clear hK K kq1 zq1 fq1
         (try simp only [Act.put,pu1,pu2,pu3])
         obtain ⟨u9,hu9⟩:∃ u9,u9=(World.setCell (World.setCell (World.setCell (World.setCell (World.setCell (World.setCell (World.setCell (World.setCell (World.setCell (World.setCell w_7 ⟨B1,0,none⟩ (.slice pA pn pc)) ⟨B1,1,none⟩ (.slice rA rn rc)) ⟨B1,2,none⟩ (.slice tA tn tc)) ⟨B1,3,none⟩ (.slice sA sn sc)) ⟨B1,4,none⟩ (.int .i64 kn)) ⟨B1,5,none⟩ (.slice RA Rn Rc)) ⟨B1,6,none⟩ (.slice SA Sn Sc)) ⟨B1,7,none⟩ (.map (some bm))) ⟨B1,8,none⟩ (.slice TA Tn Tc)) ⟨B1,9,none⟩ (.slice PA Pn Pc)):=⟨_,rfl⟩
         rw [← hu9] at hS f9 ⊢
         clear hu9
         have hq2u:BoxA u9 B2 115 zAcc:=hq2.kept f9.1 (fun e=>hne (by injection e with e;exact e.symm))
         have f10:=box10 hq2u (.slice yA yn yc) (.slice zA zn zc) (.slice uA un uc) (.slice vA vn vc) (.int .i64 kn) (.slice RB Rm Rd) (.slice SB Sm Sd) (.map (some bq)) (.slice TB Tm Td) (.slice PB Pm Pd)
         have kq2:=hq2u.cell
         have zq2:=hq2u.lt
         have fq2:=hq2u.frozen
         refine rd_ [11] ?_
         refine ah1 rfl fun K hK=>?_
         go_simp
         refine hK.out _ _ (S1.grown f10.1 hS (by omega) (by omega)) (fun hS=>?_)
         clear hK K kq2 zq2 fq2
         (try simp only [Act.put,pu1,pu2,pu3])
         refine wpAnyH_done (by kernel_rfl) ?_ _
         exact ⟨B1,B2,⟨⟨pA,pn,pc,rA,rn,rc,tA,tn,tc,sA,sn,sc⟩,kn,RA,Rn,Rc,SA,Sn,Sc,bm,TA,Tn,Tc,PA,Pn,Pc⟩,⟨⟨yA,yn,yc,zA,zn,zc,uA,un,uc,vA,vn,vc⟩,kn,RB,Rm,Rd,SB,Sm,Sd,bq,TB,Tm,Td,PB,Pm,Pd⟩,IsFr2.of rfl,mv_fin (a1:=⟨⟨pA,pn,pc,rA,rn,rc,tA,tn,tc,sA,sn,sc⟩,kn,RA,Rn,Rc,SA,Sn,Sc,bm,TA,Tn,Tc,PA,Pn,Pc⟩) (a2:=⟨⟨yA,yn,yc,zA,zn,zc,uA,un,uc,vA,vn,vc⟩,kn,RB,Rm,Rd,SB,Sm,Sd,bq,TB,Tm,Td,PB,Pm,Pd⟩) HC HO1.out HO2.out HPO.out (exc_pos HPO.out) hq1 hq2u hne hz1 hz2 (bL0.ext hC0) (bD0.ext hC0) f9 f10⟩
       ·go_simp
        refine hK.out _ _ (S1.ext ((Below.refl _ _).alloc lr_ (.cells zAcc 115)) hS) (fun hS=>?_)
        clear hK K
        (try simp only [Act.put,pu1,pu2,pu3])
        have hb:Below w_2.heap.size w_2 (w_2.alloc (.cells zAcc 115)):=(Below.refl _ _).alloc lr_ _
        have hqn:BoxA (w_2.alloc (.cells zAcc 115)) w_2.heap.size 115 zAcc:=BoxA.new _ _ _
        have hzn:w.heap.size+2≤w_2.heap.size:=Nat.le_trans hV2 hC0.size
        have HC:=bt_ HC hb
        have hC0:=bt_ hC0 hb
        have HO1:=hd_ (HO1.out.now hb)
        have HDY:=hd_ (HDY.out.now hb)
        obtain ⟨w_8,hw_8⟩:∃ W,W=w_2.alloc (.cells zAcc 115):=⟨_,rfl⟩
        rw [← hw_8] at hqn HC hC0 hS HO1 HDY
        change wpAnyH _ _ _ _ _ _ _ _ (w_2.alloc (.cells zAcc 115))
        rw [← hw_8]
        obtain ⟨B1,hB1⟩:∃ B,B=w_2.heap.size:=⟨_,rfl⟩
        rw [← hB1] at hqn hzn ⊢
        have hq1:=hqn
        have hz1:=hzn
        have hltq:=hq1.lt
        clear hw_8 hB1 hb
        refine rd_ [7,9] ?_
        refine AllReadyH.cons rfl (fun K hK=>?_) (AllReadyH.cons rfl (fun K hK=>?_) AllReadyH.nil)
        ·(go_simp;go_at_call 64;refine (p_openA (excL l src) ⟨yA,yn,yc,zA,zn,zc,uA,un,uc,vA,vn,vc⟩ kn _ (HLO.out.exc src) HDY.out).mono ?_;rintro e w_9 ⟨RB,Rm,Rd,SB,Sm,Sd,bq,TB,Tm,Td,PB,Pm,Pd,rfl,hb,hO⟩;go_simp)
         refine hK.out _ _ (S1.ext hb hS) (fun hS=>?_)
         clear hK K
         (try simp only [Act.put,pu1,pu2,pu3])
         have HC:=bt_ HC hb
         have hC0:=bt_ hC0 hb
         have HO1:=hd_ (HO1.out.now hb)
         have HDY:=hd_ (HDY.out.now hb)
         have hq1:=hq1.ext hb
         have HO2:=hd_ hO
         clear hO
         have hltq:=hq1.lt
         refine rd_ [9] ?_
         refine ah1 rfl fun K hK=>?_
         go_simp
         refine hK.out _ _ (S1.ext ((Below.refl _ _).alloc lr_ (.cells zAcc 115)) hS) (fun hS=>?_)
         clear hK K
         (try simp only [Act.put,pu1,pu2,pu3])
         have hb:Below w_9.heap.size w_9 (w_9.alloc (.cells zAcc 115)):=(Below.refl _ _).alloc lr_ _
         have hqn:BoxA (w_9.alloc (.cells zAcc 115)) w_9.heap.size 115 zAcc:=BoxA.new _ _ _
         have hzn:w.heap.size+2≤w_9.heap.size:=Nat.le_trans hV2 hC0.size
         have HC:=bt_ HC hb
         have hC0:=bt_ hC0 hb
         have HO1:=hd_ (HO1.out.now hb)
         have HO2:=hd_ (HO2.out.now hb)
         have hq1:=hq1.ext hb
         obtain ⟨w_10,hw_10⟩:∃ W,W=w_9.alloc (.cells zAcc 115):=⟨_,rfl⟩
         rw [← hw_10] at hqn HC hC0 hS HO1 HO2 hq1
         change wpAnyH _ _ _ _ _ _ _ _ (w_9.alloc (.cells zAcc 115))
         rw [← hw_10]
         obtain ⟨B2,hB2⟩:∃ B,B=w_9.heap.size:=⟨_,rfl⟩
         rw [← hB2] at hqn hzn ⊢
         have hq2:=hqn
         have hz2:=hzn
         have hne:B1≠B2:=by have:=hltq;omega
         have hltq:=hq2.lt
         clear hw_10 hB2 hb
         have f9:=box10 hq1 (.slice pA pn pc) (.slice rA rn rc) (.slice tA tn tc) (.slice sA sn sc) (.int .i64 kn) (.slice RA Rn Rc) (.slice SA Sn Sc) (.map (some bm)) (.slice TA Tn Tc) (.slice PA Pn Pc)
         have kq1:=hq1.cell
         have zq1:=hq1.lt
         have fq1:=hq1.frozen
         refine rd_ [10] ?_
         refine ah1 rfl fun K hK=>?_
         go_simp
         refine hK.out _ _ (S1.grown f9.1 hS (by omega) (by omega)) (fun hS=>?_)
         clear hK K kq1 zq1 fq1
         (try simp only [Act.put,pu1,pu2,pu3])
         obtain ⟨u9,hu9⟩:∃ u9,u9=(World.setCell (World.setCell (World.setCell (World.setCell (World.setCell (World.setCell (World.setCell (World.setCell (World.setCell (World.setCell w_10 ⟨B1,0,none⟩ (.slice pA pn pc)) ⟨B1,1,none⟩ (.slice rA rn rc)) ⟨B1,2,none⟩ (.slice tA tn tc)) ⟨B1,3,none⟩ (.slice sA sn sc)) ⟨B1,4,none⟩ (.int .i64 kn)) ⟨B1,5,none⟩ (.slice RA Rn Rc)) ⟨B1,6,none⟩ (.slice SA Sn Sc)) ⟨B1,7,none⟩ (.map (some bm))) ⟨B1,8,none⟩ (.slice TA Tn Tc)) ⟨B1,9,none⟩ (.slice PA Pn Pc)):=⟨_,rfl⟩
         rw [← hu9] at hS f9 ⊢
         clear hu9
         have hq2u:BoxA u9 B2 115 zAcc:=hq2.kept f9.1 (fun e=>hne (by injection e with e;exact e.symm))
         have f10:=box10 hq2u (.slice yA yn yc) (.slice zA zn zc) (.slice uA un uc) (.slice vA vn vc) (.int .i64 kn) (.slice RB Rm Rd) (.slice SB Sm Sd) (.map (some bq)) (.slice TB Tm Td) (.slice PB Pm Pd)
         have kq2:=hq2u.cell
         have zq2:=hq2u.lt
         have fq2:=hq2u.frozen
         refine rd_ [11] ?_
         refine ah1 rfl fun K hK=>?_
         go_simp
         refine hK.out _ _ (S1.grown f10.1 hS (by omega) (by omega)) (fun hS=>?_)
         clear hK K kq2 zq2 fq2
         (try simp only [Act.put,pu1,pu2,pu3])
         refine wpAnyH_done (by kernel_rfl) ?_ _
         exact ⟨B1,B2,⟨⟨pA,pn,pc,rA,rn,rc,tA,tn,tc,sA,sn,sc⟩,kn,RA,Rn,Rc,SA,Sn,Sc,bm,TA,Tn,Tc,PA,Pn,Pc⟩,⟨⟨yA,yn,yc,zA,zn,zc,uA,un,uc,vA,vn,vc⟩,kn,RB,Rm,Rd,SB,Sm,Sd,bq,TB,Tm,Td,PB,Pm,Pd⟩,IsFr2.of rfl,mv_fin (a1:=⟨⟨pA,pn,pc,rA,rn,rc,tA,tn,tc,sA,sn,sc⟩,kn,RA,Rn,Rc,SA,Sn,Sc,bm,TA,Tn,Tc,PA,Pn,Pc⟩) (a2:=⟨⟨yA,yn,yc,zA,zn,zc,uA,un,uc,vA,vn,vc⟩,kn,RB,Rm,Rd,SB,Sm,Sd,bq,TB,Tm,Td,PB,Pm,Pd⟩) HC HO1.out HO2.out HPO.out (exc_pos HPO.out) hq1 hq2u hne hz1 hz2 (bL0.ext hC0) (bD0.ext hC0) f9 f10⟩
        ·go_simp
         refine hK.out _ _ (S1.ext ((Below.refl _ _).alloc lr_ (.cells zAcc 115)) hS) (fun hS=>?_)
         clear hK K
         (try simp only [Act.put,pu1,pu2,pu3])
         have hb:Below w_8.heap.size w_8 (w_8.alloc (.cells zAcc 115)):=(Below.refl _ _).alloc lr_ _
         have hqn:BoxA (w_8.alloc (.cells zAcc 115)) w_8.heap.size 115 zAcc:=BoxA.new _ _ _
         have hzn:w.heap.size+2≤w_8.heap.size:=Nat.le_trans hV2 hC0.size
         have HC:=bt_ HC hb
         have hC0:=bt_ hC0 hb
         have HO1:=hd_ (HO1.out.now hb)
         have HDY:=hd_ (HDY.out.now hb)
         have hq1:=hq1.ext hb
         obtain ⟨w_11,hw_11⟩:∃ W,W=w_8.alloc (.cells zAcc 115):=⟨_,rfl⟩
         rw [← hw_11] at hqn HC hC0 hS HO1 HDY hq1
         change wpAnyH _ _ _ _ _ _ _ _ (w_8.alloc (.cells zAcc 115))
         rw [← hw_11]
         obtain ⟨B2,hB2⟩:∃ B,B=w_8.heap.size:=⟨_,rfl⟩
         rw [← hB2] at hqn hzn ⊢
         have hq2:=hqn
         have hz2:=hzn
         have hne:B1≠B2:=by have:=hltq;omega
         have hltq:=hq2.lt
         clear hw_11 hB2 hb
         refine rd_ [7] ?_
         refine ah1 rfl fun K hK=>?_
         (go_simp;go_at_call 64;refine (p_openA (excL l src) ⟨yA,yn,yc,zA,zn,zc,uA,un,uc,vA,vn,vc⟩ kn _ (HLO.out.exc src) HDY.out).mono ?_;rintro e w_12 ⟨RB,Rm,Rd,SB,Sm,Sd,bq,TB,Tm,Td,PB,Pm,Pd,rfl,hb,hO⟩;go_simp)
         refine hK.out _ _ (S1.ext hb hS) (fun hS=>?_)
         clear hK K
         (try simp only [Act.put,pu1,pu2,pu3])
         have HC:=bt_ HC hb
         have hC0:=bt_ hC0 hb
         have HO1:=hd_ (HO1.out.now hb)
         have HDY:=hd_ (HDY.out.now hb)
         have hq1:=hq1.ext hb
         have hq2:=hq2.ext hb
         have HO2:=hd_ hO
         clear hO
         have hltq:B1<w_12.heap.size∧B2<w_12.heap.size:=⟨hq1.lt,hq2.lt⟩
         have f9:=box10 hq1 (.slice pA pn pc) (.slice rA rn rc) (.slice tA tn tc) (.slice sA sn sc) (.int .i64 kn) (.slice RA Rn Rc) (.slice SA Sn Sc) (.map (some bm)) (.slice TA Tn Tc) (.slice PA Pn Pc)
         have kq1:=hq1.cell
         have zq1:=hq1.lt
         have fq1:=hq1.frozen
         refine rd_ [10] ?_
         refine ah1 rfl fun K hK=>?_
         go_simp
         refine hK.out _ _ (S1.grown f9.1 hS (by omega) (by omega)) (fun hS=>?_)
         clear hK K kq1 zq1 fq1
         (try simp only [Act.put,pu1,pu2,pu3])
         obtain ⟨u9,hu9⟩:∃ u9,u9=(World.setCell (World.setCell (World.setCell (World.setCell (World.setCell (World.setCell (World.setCell (World.setCell (World.setCell (World.setCell w_12 ⟨B1,0,none⟩ (.slice pA pn pc)) ⟨B1,1,none⟩ (.slice rA rn rc)) ⟨B1,2,none⟩ (.slice tA tn tc)) ⟨B1,3,none⟩ (.slice sA sn sc)) ⟨B1,4,none⟩ (.int .i64 kn)) ⟨B1,5,none⟩ (.slice RA Rn Rc)) ⟨B1,6,none⟩ (.slice SA Sn Sc)) ⟨B1,7,none⟩ (.map (some bm))) ⟨B1,8,none⟩ (.slice TA Tn Tc)) ⟨B1,9,none⟩ (.slice PA Pn Pc)):=⟨_,rfl⟩
         rw [← hu9] at hS f9 ⊢
         clear hu9
         have hq2u:BoxA u9 B2 115 zAcc:=hq2.kept f9.1 (fun e=>hne (by injection e with e;exact e.symm))
         have f10:=box10 hq2u (.slice yA yn yc) (.slice zA zn zc) (.slice uA un uc) (.slice vA vn vc) (.int .i64 kn) (.slice RB Rm Rd) (.slice SB Sm Sd) (.map (some bq)) (.slice TB Tm Td) (.slice PB Pm Pd)
         have kq2:=hq2u.cell
         have zq2:=hq2u.lt
         have fq2:=hq2u.frozen
         refine rd_ [11] ?_
         refine ah1 rfl fun K hK=>?_
         go_simp
         refine hK.out _ _ (S1.grown f10.1 hS (by omega) (by omega)) (fun hS=>?_)
         clear hK K kq2 zq2 fq2
         (try simp only [Act.put,pu1,pu2,pu3])
         refine wpAnyH_done (by kernel_rfl) ?_ _
         exact ⟨B1,B2,⟨⟨pA,pn,pc,rA,rn,rc,tA,tn,tc,sA,sn,sc⟩,kn,RA,Rn,Rc,SA,Sn,Sc,bm,TA,Tn,Tc,PA,Pn,Pc⟩,⟨⟨yA,yn,yc,zA,zn,zc,uA,un,uc,vA,vn,vc⟩,kn,RB,Rm,Rd,SB,Sm,Sd,bq,TB,Tm,Td,PB,Pm,Pd⟩,IsFr2.of rfl,mv_fin (a1:=⟨⟨pA,pn,pc,rA,rn,rc,tA,tn,tc,sA,sn,sc⟩,kn,RA,Rn,Rc,SA,Sn,Sc,bm,TA,Tn,Tc,PA,Pn,Pc⟩) (a2:=⟨⟨yA,yn,yc,zA,zn,zc,uA,un,uc,vA,vn,vc⟩,kn,RB,Rm,Rd,SB,Sm,Sd,bq,TB,Tm,Td,PB,Pm,Pd⟩) HC HO1.out HO2.out HPO.out (exc_pos HPO.out) hq1 hq2u hne hz1 hz2 (bL0.ext hC0) (bD0.ext hC0) f9 f10⟩
       ·go_simp
        refine hK.out _ _ (S1.ext ((Below.refl _ _).alloc lr_ (.cells zAcc 115)) hS) (fun hS=>?_)
        clear hK K
        (try simp only [Act.put,pu1,pu2,pu3])
        have hb:Below w_2.heap.size w_2 (w_2.alloc (.cells zAcc 115)):=(Below.refl _ _).alloc lr_ _
        have hqn:BoxA (w_2.alloc (.cells zAcc 115)) w_2.heap.size 115 zAcc:=BoxA.new _ _ _
        have hzn:w.heap.size+2≤w_2.heap.size:=Nat.le_trans hV2 hC0.size
        have HC:=bt_ HC hb
        have hC0:=bt_ hC0 hb
        have HO1:=hd_ (HO1.out.now hb)
        have HDY:=hd_ (HDY.out.now hb)
        obtain ⟨w_13,hw_13⟩:∃ W,W=w_2.alloc (.cells zAcc 115):=⟨_,rfl⟩
        rw [← hw_13] at hqn HC hC0 hS HO1 HDY
        change wpAnyH _ _ _ _ _ _ _ _ (w_2.alloc (.cells zAcc 115))
        rw [← hw_13]
        obtain ⟨B2,hB2⟩:∃ B,B=w_2.heap.size:=⟨_,rfl⟩
        rw [← hB2] at hqn hzn ⊢
        have hq2:=hqn
        have hz2:=hzn
        have hltq:=hq2.lt
        clear hw_13 hB2 hb
        refine rd_ [7,8] ?_
        refine AllReadyH.cons rfl (fun K hK=>?_) (AllReadyH.cons rfl (fun K hK=>?_) AllReadyH.nil)
        ·(go_simp;go_at_call 64;refine (p_openA (excL l src) ⟨yA,yn,yc,zA,zn,zc,uA,un,uc,vA,vn,vc⟩ kn _ (HLO.out.exc src) HDY.out).mono ?_;rintro e w_14 ⟨RB,Rm,Rd,SB,Sm,Sd,bq,TB,Tm,Td,PB,Pm,Pd,rfl,hb,hO⟩;go_simp)
         refine hK.out _ _ (S1.ext hb hS) (fun hS=>?_)
         clear hK K
         (try simp only [Act.put,pu1,pu2,pu3])
         have HC:=bt_ HC hb
         have hC0:=bt_ hC0 hb
         have HO1:=hd_ (HO1.out.now hb)
         have HDY:=hd_ (HDY.out.now hb)
         have hq2:=hq2.ext hb
         have HO2:=hd_ hO
         clear hO
         have hltq:=hq2.lt
         refine rd_ [8] ?_
         refine ah1 rfl fun K hK=>?_
         go_simp
         refine hK.out _ _ (S1.ext ((Below.refl _ _).alloc lr_ (.cells zAcc 115)) hS) (fun hS=>?_)
         clear hK K
         (try simp only [Act.put,pu1,pu2,pu3])
         have hb:Below w_14.heap.size w_14 (w_14.alloc (.cells zAcc 115)):=(Below.refl _ _).alloc lr_ _
         have hqn:BoxA (w_14.alloc (.cells zAcc 115)) w_14.heap.size 115 zAcc:=BoxA.new _ _ _
         have hzn:w.heap.size+2≤w_14.heap.size:=Nat.le_trans hV2 hC0.size
         have HC:=bt_ HC hb
         have hC0:=bt_ hC0 hb
         have HO1:=hd_ (HO1.out.now hb)
         have HO2:=hd_ (HO2.out.now hb)
         have hq2:=hq2.ext hb
         obtain ⟨w_15,hw_15⟩:∃ W,W=w_14.alloc (.cells zAcc 115):=⟨_,rfl⟩
         rw [← hw_15] at hqn HC hC0 hS HO1 HO2 hq2
         change wpAnyH _ _ _ _ _ _ _ _ (w_14.alloc (.cells zAcc 115))
         rw [← hw_15]
         obtain ⟨B1,hB1⟩:∃ B,B=w_14.heap.size:=⟨_,rfl⟩
         rw [← hB1] at hqn hzn ⊢
         have hq1:=hqn
         have hz1:=hzn
         have hne:B1≠B2:=by have:=hltq;omega
         have hltq:=hq1.lt
         clear hw_15 hB1 hb
         have f9:=box10 hq1 (.slice pA pn pc) (.slice rA rn rc) (.slice tA tn tc) (.slice sA sn sc) (.int .i64 kn) (.slice RA Rn Rc) (.slice SA Sn Sc) (.map (some bm)) (.slice TA Tn Tc) (.slice PA Pn Pc)
         have kq1:=hq1.cell
         have zq1:=hq1.lt
         have fq1:=hq1.frozen
         refine rd_ [10] ?_
         refine ah1 rfl fun K hK=>?_
         go_simp
         refine hK.out _ _ (S1.grown f9.1 hS (by omega) (by omega)) (fun hS=>?_)
         clear hK K kq1 zq1 fq1
         (try simp only [Act.put,pu1,pu2,pu3])
         obtain ⟨u9,hu9⟩:∃ u9,u9=(World.setCell (World.setCell (World.setCell (World.setCell (World.setCell (World.setCell (World.setCell (World.setCell (World.setCell (World.setCell w_15 ⟨B1,0,none⟩ (.slice pA pn pc)) ⟨B1,1,none⟩ (.slice rA rn rc)) ⟨B1,2,none⟩ (.slice tA tn tc)) ⟨B1,3,none⟩ (.slice sA sn sc)) ⟨B1,4,none⟩ (.int .i64 kn)) ⟨B1,5,none⟩ (.slice RA Rn Rc)) ⟨B1,6,none⟩ (.slice SA Sn Sc)) ⟨B1,7,none⟩ (.map (some bm))) ⟨B1,8,none⟩ (.slice TA Tn Tc)) ⟨B1,9,none⟩ (.slice PA Pn Pc)):=⟨_,rfl⟩
         rw [← hu9] at hS f9 ⊢
         clear hu9
         have hq2u:BoxA u9 B2 115 zAcc:=hq2.kept f9.1 (fun e=>hne (by injection e with e;exact e.symm))
         have f10:=box10 hq2u (.slice yA yn yc) (.slice zA zn zc) (.slice uA un uc) (.slice vA vn vc) (.int .i64 kn) (.slice RB Rm Rd) (.slice SB Sm Sd) (.map (some bq)) (.slice TB Tm Td) (.slice PB Pm Pd)
         have kq2:=hq2u.cell
         have zq2:=hq2u.lt
         have fq2:=hq2u.frozen
         refine rd_ [11] ?_
         refine ah1 rfl fun K hK=>?_
         go_simp
         refine hK.out _ _ (S1.grown f10.1 hS (by omega) (by omega)) (fun hS=>?_)
         clear hK K kq2 zq2 fq2
         (try simp only [Act.put,pu1,pu2,pu3])
         refine wpAnyH_done (by kernel_rfl) ?_ _
         exact ⟨B1,B2,⟨⟨pA,pn,pc,rA,rn,rc,tA,tn,tc,sA,sn,sc⟩,kn,RA,Rn,Rc,SA,Sn,Sc,bm,TA,Tn,Tc,PA,Pn,Pc⟩,⟨⟨yA,yn,yc,zA,zn,zc,uA,un,uc,vA,vn,vc⟩,kn,RB,Rm,Rd,SB,Sm,Sd,bq,TB,Tm,Td,PB,Pm,Pd⟩,IsFr2.of rfl,mv_fin (a1:=⟨⟨pA,pn,pc,rA,rn,rc,tA,tn,tc,sA,sn,sc⟩,kn,RA,Rn,Rc,SA,Sn,Sc,bm,TA,Tn,Tc,PA,Pn,Pc⟩) (a2:=⟨⟨yA,yn,yc,zA,zn,zc,uA,un,uc,vA,vn,vc⟩,kn,RB,Rm,Rd,SB,Sm,Sd,bq,TB,Tm,Td,PB,Pm,Pd⟩) HC HO1.out HO2.out HPO.out (exc_pos HPO.out) hq1 hq2u hne hz1 hz2 (bL0.ext hC0) (bD0.ext hC0) f9 f10⟩
        ·go_simp
         refine hK.out _ _ (S1.ext ((Below.refl _ _).alloc lr_ (.cells zAcc 115)) hS) (fun hS=>?_)
         clear hK K
         (try simp only [Act.put,pu1,pu2,pu3])
         have hb:Below w_13.heap.size w_13 (w_13.alloc (.cells zAcc 115)):=(Below.refl _ _).alloc lr_ _
         have hqn:BoxA (w_13.alloc (.cells zAcc 115)) w_13.heap.size 115 zAcc:=BoxA.new _ _ _
         have hzn:w.heap.size+2≤w_13.heap.size:=Nat.le_trans hV2 hC0.size
         have HC:=bt_ HC hb
         have hC0:=bt_ hC0 hb
         have HO1:=hd_ (HO1.out.now hb)
         have HDY:=hd_ (HDY.out.now hb)
         have hq2:=hq2.ext hb
         obtain ⟨w_16,hw_16⟩:∃ W,W=w_13.alloc (.cells zAcc 115):=⟨_,rfl⟩
         rw [← hw_16] at hqn HC hC0 hS HO1 HDY hq2
         change wpAnyH _ _ _ _ _ _ _ _ (w_13.alloc (.cells zAcc 115))
         rw [← hw_16]
         obtain ⟨B1,hB1⟩:∃ B,B=w_13.heap.size:=⟨_,rfl⟩
         rw [← hB1] at hqn hzn ⊢
         have hq1:=hqn
         have hz1:=hzn
         have hne:B1≠B2:=by have:=hltq;omega
         have hltq:=hq1.lt
         clear hw_16 hB1 hb
         refine rd_ [7] ?_
         refine ah1 rfl fun K hK=>?_
         (go_simp;go_at_call 64;refine (p_openA (excL l src) ⟨yA,yn,yc,zA,zn,zc,uA,un,uc,vA,vn,vc⟩ kn _ (HLO.out.exc src) HDY.out).mono ?_;rintro e w_17 ⟨RB,Rm,Rd,SB,Sm,Sd,bq,TB,Tm,Td,PB,Pm,Pd,rfl,hb,hO⟩;go_simp)
         refine hK.out _ _ (S1.ext hb hS) (fun hS=>?_)
         clear hK K
         (try simp only [Act.put,pu1,pu2,pu3])
         have HC:=bt_ HC hb
         have hC0:=bt_ hC0 hb
         have HO1:=hd_ (HO1.out.now hb)
         have HDY:=hd_ (HDY.out.now hb)
         have hq1:=hq1.ext hb
         have hq2:=hq2.ext hb
         have HO2:=hd_ hO
         clear hO
         have hltq:B1<w_17.heap.size∧B2<w_17.heap.size:=⟨hq1.lt,hq2.lt⟩
         have f9:=box10 hq1 (.slice pA pn pc) (.slice rA rn rc) (.slice tA tn tc) (.slice sA sn sc) (.int .i64 kn) (.slice RA Rn Rc) (.slice SA Sn Sc) (.map (some bm)) (.slice TA Tn Tc) (.slice PA Pn Pc)
         have kq1:=hq1.cell
         have zq1:=hq1.lt
         have fq1:=hq1.frozen
         refine rd_ [10] ?_
         refine ah1 rfl fun K hK=>?_
         go_simp
         refine hK.out _ _ (S1.grown f9.1 hS (by omega) (by omega)) (fun hS=>?_)
         clear hK K kq1 zq1 fq1
         (try simp only [Act.put,pu1,pu2,pu3])
         obtain ⟨u9,hu9⟩:∃ u9,u9=(World.setCell (World.setCell (World.setCell (World.setCell (World.setCell (World.setCell (World.setCell (World.setCell (World.setCell (World.setCell w_17 ⟨B1,0,none⟩ (.slice pA pn pc)) ⟨B1,1,none⟩ (.slice rA rn rc)) ⟨B1,2,none⟩ (.slice tA tn tc)) ⟨B1,3,none⟩ (.slice sA sn sc)) ⟨B1,4,none⟩ (.int .i64 kn)) ⟨B1,5,none⟩ (.slice RA Rn Rc)) ⟨B1,6,none⟩ (.slice SA Sn Sc)) ⟨B1,7,none⟩ (.map (some bm))) ⟨B1,8,none⟩ (.slice TA Tn Tc)) ⟨B1,9,none⟩ (.slice PA Pn Pc)):=⟨_,rfl⟩
         rw [← hu9] at hS f9 ⊢
         clear hu9
         have hq2u:BoxA u9 B2 115 zAcc:=hq2.kept f9.1 (fun e=>hne (by injection e with e;exact e.symm))
         have f10:=box10 hq2u (.slice yA yn yc) (.slice zA zn zc) (.slice uA un uc) (.slice vA vn vc) (.int .i64 kn) (.slice RB Rm Rd) (.slice SB Sm Sd) (.map (some bq)) (.slice TB Tm Td) (.slice PB Pm Pd)
         have kq2:=hq2u.cell
         have zq2:=hq2u.lt
         have fq2:=hq2u.frozen
         refine rd_ [11] ?_
         refine ah1 rfl fun K hK=>?_
         go_simp
         refine hK.out _ _ (S1.grown f10.1 hS (by omega) (by omega)) (fun hS=>?_)
         clear hK K kq2 zq2 fq2
         (try simp only [Act.put,pu1,pu2,pu3])
         refine wpAnyH_done (by kernel_rfl) ?_ _
         exact ⟨B1,B2,⟨⟨pA,pn,pc,rA,rn,rc,tA,tn,tc,sA,sn,sc⟩,kn,RA,Rn,Rc,SA,Sn,Sc,bm,TA,Tn,Tc,PA,Pn,Pc⟩,⟨⟨yA,yn,yc,zA,zn,zc,uA,un,uc,vA,vn,vc⟩,kn,RB,Rm,Rd,SB,Sm,Sd,bq,TB,Tm,Td,PB,Pm,Pd⟩,IsFr2.of rfl,mv_fin (a1:=⟨⟨pA,pn,pc,rA,rn,rc,tA,tn,tc,sA,sn,sc⟩,kn,RA,Rn,Rc,SA,Sn,Sc,bm,TA,Tn,Tc,PA,Pn,Pc⟩) (a2:=⟨⟨yA,yn,yc,zA,zn,zc,uA,un,uc,vA,vn,vc⟩,kn,RB,Rm,Rd,SB,Sm,Sd,bq,TB,Tm,Td,PB,Pm,Pd⟩) HC HO1.out HO2.out HPO.out (exc_pos HPO.out) hq1 hq2u hne hz1 hz2 (bL0.ext hC0) (bD0.ext hC0) f9 f10⟩
      ·go_simp
       refine hK.out _ _ (S1.ext ((Below.refl _ _).alloc lr_ (.cells zAcc 115)) hS) (fun hS=>?_)
       clear hK K
       (try simp only [Act.put,pu1,pu2,pu3])
       have hb:Below w_1.heap.size w_1 (w_1.alloc (.cells zAcc 115)):=(Below.refl _ _).alloc lr_ _
       have hqn:BoxA (w_1.alloc (.cells zAcc 115)) w_1.heap.size 115 zAcc:=BoxA.new _ _ _
       have hzn:w.heap.size+2≤w_1.heap.size:=Nat.le_trans hV2 hC0.size
       have HC:=bt_ HC hb
       have hC0:=bt_ hC0 hb
       have HO1:=hd_ (HO1.out.now hb)
       obtain ⟨w_18,hw_18⟩:∃ W,W=w_1.alloc (.cells zAcc 115):=⟨_,rfl⟩
       rw [← hw_18] at hqn HC hC0 hS HO1
       change wpAnyH _ _ _ _ _ _ _ _ (w_1.alloc (.cells zAcc 115))
       rw [← hw_18]
       obtain ⟨B1,hB1⟩:∃ B,B=w_1.heap.size:=⟨_,rfl⟩
       rw [← hB1] at hqn hzn ⊢
       have hq1:=hqn
       have hz1:=hzn
       have hltq:=hq1.lt
       clear hw_18 hB1 hb
       refine rd_ [5,9] ?_
       refine AllReadyH.cons rfl (fun K hK=>?_) (AllReadyH.cons rfl (fun K hK=>?_) AllReadyH.nil)
       ·(go_simp;go_at_call 95;refine (p_except l ⟨pA,pn,pc,rA,rn,rc,tA,tn,tc,sA,sn,sc⟩ src _ HLO.out (HD.out.now HC)).mono ?_;rintro e w_19 ⟨⟨yA,yn,yc,zA,zn,zc,uA,un,uc,vA,vn,vc⟩,rfl,hb,hfy,hdy⟩;go_simp)
        refine hK.out _ _ (S1.ext hb hS) (fun hS=>?_)
        clear hK K
        (try simp only [Act.put,pu1,pu2,pu3])
        have HC:=bt_ HC hb
        have hC0:=bt_ hC0 hb
        have HO1:=hd_ (HO1.out.now hb)
        have hq1:=hq1.ext hb
        have HDY:=hd_ hdy
        clear hdy hfy
        have hltq:=hq1.lt
        refine rd_ [7,9] ?_
        refine AllReadyH.cons rfl (fun K hK=>?_) (AllReadyH.cons rfl (fun K hK=>?_) AllReadyH.nil)
        ·(go_simp;go_at_call 64;refine (p_openA (excL l src) ⟨yA,yn,yc,zA,zn,zc,uA,un,uc,vA,vn,vc⟩ kn _ (HLO.out.exc src) HDY.out).mono ?_;rintro e w_20 ⟨RB,Rm,Rd,SB,Sm,Sd,bq,TB,Tm,Td,PB,Pm,Pd,rfl,hb,hO⟩;go_simp)
         refine hK.out _ _ (S1.ext hb hS) (fun hS=>?_)
         clear hK K
         (try simp only [Act.put,pu1,pu2,pu3])
         have HC:=bt_ HC hb
         have hC0:=bt_ hC0 hb
         have HO1:=hd_ (HO1.out.now hb)
         have HDY:=hd_ (HDY.out.now hb)
         have hq1:=hq1.ext hb
         have HO2:=hd_ hO
         clear hO
         have hltq:=hq1.lt
         refine rd_ [9] ?_
         refine ah1 rfl fun K hK=>?_
         go_simp
         refine hK.out _ _ (S1.ext ((Below.refl _ _).alloc lr_ (.cells zAcc 115)) hS) (fun hS=>?_)
         clear hK K
         (try simp only [Act.put,pu1,pu2,pu3])
         have hb:Below w_20.heap.size w_20 (w_20.alloc (.cells zAcc 115)):=(Below.refl _ _).alloc lr_ _
         have hqn:BoxA (w_20.alloc (.cells zAcc 115)) w_20.heap.size 115 zAcc:=BoxA.new _ _ _
         have hzn:w.heap.size+2≤w_20.heap.size:=Nat.le_trans hV2 hC0.size
         have HC:=bt_ HC hb
         have hC0:=bt_ hC0 hb
         have HO1:=hd_ (HO1.out.now hb)
         have HO2:=hd_ (HO2.out.now hb)
         have hq1:=hq1.ext hb
         obtain ⟨w_21,hw_21⟩:∃ W,W=w_20.alloc (.cells zAcc 115):=⟨_,rfl⟩
         rw [← hw_21] at hqn HC hC0 hS HO1 HO2 hq1
         change wpAnyH _ _ _ _ _ _ _ _ (w_20.alloc (.cells zAcc 115))
         rw [← hw_21]
         obtain ⟨B2,hB2⟩:∃ B,B=w_20.heap.size:=⟨_,rfl⟩
         rw [← hB2] at hqn hzn ⊢
         have hq2:=hqn
         have hz2:=hzn
         have hne:B1≠B2:=by have:=hltq;omega
         have hltq:=hq2.lt
         clear hw_21 hB2 hb
         have f9:=box10 hq1 (.slice pA pn pc) (.slice rA rn rc) (.slice tA tn tc) (.slice sA sn sc) (.int .i64 kn) (.slice RA Rn Rc) (.slice SA Sn Sc) (.map (some bm)) (.slice TA Tn Tc) (.slice PA Pn Pc)
         have kq1:=hq1.cell
         have zq1:=hq1.lt
         have fq1:=hq1.frozen
         refine rd_ [10] ?_
         refine ah1 rfl fun K hK=>?_
         go_simp
         refine hK.out _ _ (S1.grown f9.1 hS (by omega) (by omega)) (fun hS=>?_)
         clear hK K kq1 zq1 fq1
         (try simp only [Act.put,pu1,pu2,pu3])
         obtain ⟨u9,hu9⟩:∃ u9,u9=(World.setCell (World.setCell (World.setCell (World.setCell (World.setCell (World.setCell (World.setCell (World.setCell (World.setCell (World.setCell w_21 ⟨B1,0,none⟩ (.slice pA pn pc)) ⟨B1,1,none⟩ (.slice rA rn rc)) ⟨B1,2,none⟩ (.slice tA tn tc)) ⟨B1,3,none⟩ (.slice sA sn sc)) ⟨B1,4,none⟩ (.int .i64 kn)) ⟨B1,5,none⟩ (.slice RA Rn Rc)) ⟨B1,6,none⟩ (.slice SA Sn Sc)) ⟨B1,7,none⟩ (.map (some bm))) ⟨B1,8,none⟩ (.slice TA Tn Tc)) ⟨B1,9,none⟩ (.slice PA Pn Pc)):=⟨_,rfl⟩
         rw [← hu9] at hS f9 ⊢
         clear hu9
         have hq2u:BoxA u9 B2 115 zAcc:=hq2.kept f9.1 (fun e=>hne (by injection e with e;exact e.symm))
         have f10:=box10 hq2u (.slice yA yn yc) (.slice zA zn zc) (.slice uA un uc) (.slice vA vn vc) (.int .i64 kn) (.slice RB Rm Rd) (.slice SB Sm Sd) (.map (some bq)) (.slice TB Tm Td) (.slice PB Pm Pd)
         have kq2:=hq2u.cell
         have zq2:=hq2u.lt
         have fq2:=hq2u.frozen
         refine rd_ [11] ?_
         refine ah1 rfl fun K hK=>?_
         go_simp
         refine hK.out _ _ (S1.grown f10.1 hS (by omega) (by omega)) (fun hS=>?_)
         clear hK K kq2 zq2 fq2
         (try simp only [Act.put,pu1,pu2,pu3])
         refine wpAnyH_done (by kernel_rfl) ?_ _
         exact ⟨B1,B2,⟨⟨pA,pn,pc,rA,rn,rc,tA,tn,tc,sA,sn,sc⟩,kn,RA,Rn,Rc,SA,Sn,Sc,bm,TA,Tn,Tc,PA,Pn,Pc⟩,⟨⟨yA,yn,yc,zA,zn,zc,uA,un,uc,vA,vn,vc⟩,kn,RB,Rm,Rd,SB,Sm,Sd,bq,TB,Tm,Td,PB,Pm,Pd⟩,IsFr2.of rfl,mv_fin (a1:=⟨⟨pA,pn,pc,rA,rn,rc,tA,tn,tc,sA,sn,sc⟩,kn,RA,Rn,Rc,SA,Sn,Sc,bm,TA,Tn,Tc,PA,Pn,Pc⟩) (a2:=⟨⟨yA,yn,yc,zA,zn,zc,uA,un,uc,vA,vn,vc⟩,kn,RB,Rm,Rd,SB,Sm,Sd,bq,TB,Tm,Td,PB,Pm,Pd⟩) HC HO1.out HO2.out HPO.out (exc_pos HPO.out) hq1 hq2u hne hz1 hz2 (bL0.ext hC0) (bD0.ext hC0) f9 f10⟩
        ·go_simp
         refine hK.out _ _ (S1.ext ((Below.refl _ _).alloc lr_ (.cells zAcc 115)) hS) (fun hS=>?_)
         clear hK K
         (try simp only [Act.put,pu1,pu2,pu3])
         have hb:Below w_19.heap.size w_19 (w_19.alloc (.cells zAcc 115)):=(Below.refl _ _).alloc lr_ _
         have hqn:BoxA (w_19.alloc (.cells zAcc 115)) w_19.heap.size 115 zAcc:=BoxA.new _ _ _
         have hzn:w.heap.size+2≤w_19.heap.size:=Nat.le_trans hV2 hC0.size
         have HC:=bt_ HC hb
         have hC0:=bt_ hC0 hb
         have HO1:=hd_ (HO1.out.now hb)
         have HDY:=hd_ (HDY.out.now hb)
         have hq1:=hq1.ext hb
         obtain ⟨w_22,hw_22⟩:∃ W,W=w_19.alloc (.cells zAcc 115):=⟨_,rfl⟩
         rw [← hw_22] at hqn HC hC0 hS HO1 HDY hq1
         change wpAnyH _ _ _ _ _ _ _ _ (w_19.alloc (.cells zAcc 115))
         rw [← hw_22]
         obtain ⟨B2,hB2⟩:∃ B,B=w_19.heap.size:=⟨_,rfl⟩
         rw [← hB2] at hqn hzn ⊢
         have hq2:=hqn
         have hz2:=hzn
         have hne:B1≠B2:=by have:=hltq;omega
         have hltq:=hq2.lt
         clear hw_22 hB2 hb
         refine rd_ [7] ?_
         refine ah1 rfl fun K hK=>?_
         (go_simp;go_at_call 64;refine (p_openA (excL l src) ⟨yA,yn,yc,zA,zn,zc,uA,un,uc,vA,vn,vc⟩ kn _ (HLO.out.exc src) HDY.out).mono ?_;rintro e w_23 ⟨RB,Rm,Rd,SB,Sm,Sd,bq,TB,Tm,Td,PB,Pm,Pd,rfl,hb,hO⟩;go_simp)
         refine hK.out _ _ (S1.ext hb hS) (fun hS=>?_)
         clear hK K
         (try simp only [Act.put,pu1,pu2,pu3])
         have HC:=bt_ HC hb
         have hC0:=bt_ hC0 hb
         have HO1:=hd_ (HO1.out.now hb)
         have HDY:=hd_ (HDY.out.now hb)
         have hq1:=hq1.ext hb
         have hq2:=hq2.ext hb
         have HO2:=hd_ hO
         clear hO
         have hltq:B1<w_23.heap.size∧B2<w_23.heap.size:=⟨hq1.lt,hq2.lt⟩
         have f9:=box10 hq1 (.slice pA pn pc) (.slice rA rn rc) (.slice tA tn tc) (.slice sA sn sc) (.int .i64 kn) (.slice RA Rn Rc) (.slice SA Sn Sc) (.map (some bm)) (.slice TA Tn Tc) (.slice PA Pn Pc)
         have kq1:=hq1.cell
         have zq1:=hq1.lt
         have fq1:=hq1.frozen
         refine rd_ [10] ?_
         refine ah1 rfl fun K hK=>?_
         go_simp
         refine hK.out _ _ (S1.grown f9.1 hS (by omega) (by omega)) (fun hS=>?_)
         clear hK K kq1 zq1 fq1
         (try simp only [Act.put,pu1,pu2,pu3])
         obtain ⟨u9,hu9⟩:∃ u9,u9=(World.setCell (World.setCell (World.setCell (World.setCell (World.setCell (World.setCell (World.setCell (World.setCell (World.setCell (World.setCell w_23 ⟨B1,0,none⟩ (.slice pA pn pc)) ⟨B1,1,none⟩ (.slice rA rn rc)) ⟨B1,2,none⟩ (.slice tA tn tc)) ⟨B1,3,none⟩ (.slice sA sn sc)) ⟨B1,4,none⟩ (.int .i64 kn)) ⟨B1,5,none⟩ (.slice RA Rn Rc)) ⟨B1,6,none⟩ (.slice SA Sn Sc)) ⟨B1,7,none⟩ (.map (some bm))) ⟨B1,8,none⟩ (.slice TA Tn Tc)) ⟨B1,9,none⟩ (.slice PA Pn Pc)):=⟨_,rfl⟩
         rw [← hu9] at hS f9 ⊢
         clear hu9
         have hq2u:BoxA u9 B2 115 zAcc:=hq2.kept f9.1 (fun e=>hne (by injection e with e;exact e.symm))
         have f10:=box10 hq2u (.slice yA yn yc) (.slice zA zn zc) (.slice uA un uc) (.slice vA vn vc) (.int .i64 kn) (.slice RB Rm Rd) (.slice SB Sm Sd) (.map (some bq)) (.slice TB Tm Td) (.slice PB Pm Pd)
         have kq2:=hq2u.cell
         have zq2:=hq2u.lt
         have fq2:=hq2u.frozen
         refine rd_ [11] ?_
         refine ah1 rfl fun K hK=>?_
         go_simp
         refine hK.out _ _ (S1.grown f10.1 hS (by omega) (by omega)) (fun hS=>?_)
         clear hK K kq2 zq2 fq2
         (try simp only [Act.put,pu1,pu2,pu3])
         refine wpAnyH_done (by kernel_rfl) ?_ _
         exact ⟨B1,B2,⟨⟨pA,pn,pc,rA,rn,rc,tA,tn,tc,sA,sn,sc⟩,kn,RA,Rn,Rc,SA,Sn,Sc,bm,TA,Tn,Tc,PA,Pn,Pc⟩,⟨⟨yA,yn,yc,zA,zn,zc,uA,un,uc,vA,vn,vc⟩,kn,RB,Rm,Rd,SB,Sm,Sd,bq,TB,Tm,Td,PB,Pm,Pd⟩,IsFr2.of rfl,mv_fin (a1:=⟨⟨pA,pn,pc,rA,rn,rc,tA,tn,tc,sA,sn,sc⟩,kn,RA,Rn,Rc,SA,Sn,Sc,bm,TA,Tn,Tc,PA,Pn,Pc⟩) (a2:=⟨⟨yA,yn,yc,zA,zn,zc,uA,un,uc,vA,vn,vc⟩,kn,RB,Rm,Rd,SB,Sm,Sd,bq,TB,Tm,Td,PB,Pm,Pd⟩) HC HO1.out HO2.out HPO.out (exc_pos HPO.out) hq1 hq2u hne hz1 hz2 (bL0.ext hC0) (bD0.ext hC0) f9 f10⟩
       ·go_simp
        refine hK.out _ _ (S1.ext ((Below.refl _ _).alloc lr_ (.cells zAcc 115)) hS) (fun hS=>?_)
        clear hK K
        (try simp only [Act.put,pu1,pu2,pu3])
        have hb:Below w_18.heap.size w_18 (w_18.alloc (.cells zAcc 115)):=(Below.refl _ _).alloc lr_ _
        have hqn:BoxA (w_18.alloc (.cells zAcc 115)) w_18.heap.size 115 zAcc:=BoxA.new _ _ _
        have hzn:w.heap.size+2≤w_18.heap.size:=Nat.le_trans hV2 hC0.size
        have HC:=bt_ HC hb
        have hC0:=bt_ hC0 hb
        have HO1:=hd_ (HO1.out.now hb)
        have hq1:=hq1.ext hb
        obtain ⟨w_24,hw_24⟩:∃ W,W=w_18.alloc (.cells zAcc 115):=⟨_,rfl⟩
        rw [← hw_24] at hqn HC hC0 hS HO1 hq1
        change wpAnyH _ _ _ _ _ _ _ _ (w_18.alloc (.cells zAcc 115))
        rw [← hw_24]
        obtain ⟨B2,hB2⟩:∃ B,B=w_18.heap.size:=⟨_,rfl⟩
        rw [← hB2] at hqn hzn ⊢
        have hq2:=hqn
        have hz2:=hzn
        have hne:B1≠B2:=by have:=hltq;omega
        have hltq:=hq2.lt
        clear hw_24 hB2 hb
        refine rd_ [5] ?_
        refine ah1 rfl fun K hK=>?_
        (go_simp;go_at_call 95;refine (p_except l ⟨pA,pn,pc,rA,rn,rc,tA,tn,tc,sA,sn,sc⟩ src _ HLO.out (HD.out.now HC)).mono ?_;rintro e w_25 ⟨⟨yA,yn,yc,zA,zn,zc,uA,un,uc,vA,vn,vc⟩,rfl,hb,hfy,hdy⟩;go_simp)
        refine hK.out _ _ (S1.ext hb hS) (fun hS=>?_)
        clear hK K
        (try simp only [Act.put,pu1,pu2,pu3])
        have HC:=bt_ HC hb
        have hC0:=bt_ hC0 hb
        have HO1:=hd_ (HO1.out.now hb)
        have hq1:=hq1.ext hb
        have hq2:=hq2.ext hb
        have HDY:=hd_ hdy
        clear hdy hfy
        have hltq:B1<w_25.heap.size∧B2<w_25.heap.size:=⟨hq1.lt,hq2.lt⟩
        refine rd_ [7] ?_
        refine ah1 rfl fun K hK=>?_
        (go_simp;go_at_call 64;refine (p_openA (excL l src) ⟨yA,yn,yc,zA,zn,zc,uA,un,uc,vA,vn,vc⟩ kn _ (HLO.out.exc src) HDY.out).mono ?_;rintro e w_26 ⟨RB,Rm,Rd,SB,Sm,Sd,bq,TB,Tm,Td,PB,Pm,Pd,rfl,hb,hO⟩;go_simp)
        refine hK.out _ _ (S1.ext hb hS) (fun hS=>?_)
        clear hK K
        (try simp only [Act.put,pu1,pu2,pu3])
        have HC:=bt_ HC hb
        have hC0:=bt_ hC0 hb
        have HO1:=hd_ (HO1.out.now hb)
        have HDY:=hd_ (HDY.out.now hb)
        have hq1:=hq1.ext hb
        have hq2:=hq2.ext hb
        have HO2:=hd_ hO
        clear hO
        have hltq:B1<w_26.heap.size∧B2<w_26.heap.size:=⟨hq1.lt,hq2.lt⟩
        have f9:=box10 hq1 (.slice pA pn pc) (.slice rA rn rc) (.slice tA tn tc) (.slice sA sn sc) (.int .i64 kn) (.slice RA Rn Rc) (.slice SA Sn Sc) (.map (some bm)) (.slice TA Tn Tc) (.slice PA Pn Pc)
        have kq1:=hq1.cell
        have zq1:=hq1.lt
        have fq1:=hq1.frozen
        refine rd_ [10] ?_
        refine ah1 rfl fun K hK=>?_
        go_simp
        refine hK.out _ _ (S1.grown f9.1 hS (by omega) (by omega)) (fun hS=>?_)
        clear hK K kq1 zq1 fq1
        (try simp only [Act.put,pu1,pu2,pu3])
        obtain ⟨u9,hu9⟩:∃ u9,u9=(World.setCell (World.setCell (World.setCell (World.setCell (World.setCell (World.setCell (World.setCell (World.setCell (World.setCell (World.setCell w_26 ⟨B1,0,none⟩ (.slice pA pn pc)) ⟨B1,1,none⟩ (.slice rA rn rc)) ⟨B1,2,none⟩ (.slice tA tn tc)) ⟨B1,3,none⟩ (.slice sA sn sc)) ⟨B1,4,none⟩ (.int .i64 kn)) ⟨B1,5,none⟩ (.slice RA Rn Rc)) ⟨B1,6,none⟩ (.slice SA Sn Sc)) ⟨B1,7,none⟩ (.map (some bm))) ⟨B1,8,none⟩ (.slice TA Tn Tc)) ⟨B1,9,none⟩ (.slice PA Pn Pc)):=⟨_,rfl⟩
        rw [← hu9] at hS f9 ⊢
        clear hu9
        have hq2u:BoxA u9 B2 115 zAcc:=hq2.kept f9.1 (fun e=>hne (by injection e with e;exact e.symm))
        have f10:=box10 hq2u (.slice yA yn yc) (.slice zA zn zc) (.slice uA un uc) (.slice vA vn vc) (.int .i64 kn) (.slice RB Rm Rd) (.slice SB Sm Sd) (.map (some bq)) (.slice TB Tm Td) (.slice PB Pm Pd)
        have kq2:=hq2u.cell
        have zq2:=hq2u.lt
        have fq2:=hq2u.frozen
        refine rd_ [11] ?_
        refine ah1 rfl fun K hK=>?_
        go_simp
        refine hK.out _ _ (S1.grown f10.1 hS (by omega) (by omega)) (fun hS=>?_)
        clear hK K kq2 zq2 fq2
        (try simp only [Act.put,pu1,pu2,pu3])
        refine wpAnyH_done (by kernel_rfl) ?_ _
        exact ⟨B1,B2,⟨⟨pA,pn,pc,rA,rn,rc,tA,tn,tc,sA,sn,sc⟩,kn,RA,Rn,Rc,SA,Sn,Sc,bm,TA,Tn,Tc,PA,Pn,Pc⟩,⟨⟨yA,yn,yc,zA,zn,zc,uA,un,uc,vA,vn,vc⟩,kn,RB,Rm,Rd,SB,Sm,Sd,bq,TB,Tm,Td,PB,Pm,Pd⟩,IsFr2.of rfl,mv_fin (a1:=⟨⟨pA,pn,pc,rA,rn,rc,tA,tn,tc,sA,sn,sc⟩,kn,RA,Rn,Rc,SA,Sn,Sc,bm,TA,Tn,Tc,PA,Pn,Pc⟩) (a2:=⟨⟨yA,yn,yc,zA,zn,zc,uA,un,uc,vA,vn,vc⟩,kn,RB,Rm,Rd,SB,Sm,Sd,bq,TB,Tm,Td,PB,Pm,Pd⟩) HC HO1.out HO2.out HPO.out (exc_pos HPO.out) hq1 hq2u hne hz1 hz2 (bL0.ext hC0) (bD0.ext hC0) f9 f10⟩
      ·go_simp
       refine hK.out _ _ (S1.ext ((Below.refl _ _).alloc lr_ (.cells zAcc 115)) hS) (fun hS=>?_)
       clear hK K
       (try simp only [Act.put,pu1,pu2,pu3])
       have hb:Below w_1.heap.size w_1 (w_1.alloc (.cells zAcc 115)):=(Below.refl _ _).alloc lr_ _
       have hqn:BoxA (w_1.alloc (.cells zAcc 115)) w_1.heap.size 115 zAcc:=BoxA.new _ _ _
       have hzn:w.heap.size+2≤w_1.heap.size:=Nat.le_trans hV2 hC0.size
       have HC:=bt_ HC hb
       have hC0:=bt_ hC0 hb
       have HO1:=hd_ (HO1.out.now hb)
       obtain ⟨w_27,hw_27⟩:∃ W,W=w_1.alloc (.cells zAcc 115):=⟨_,rfl⟩
       rw [← hw_27] at hqn HC hC0 hS HO1
       change wpAnyH _ _ _ _ _ _ _ _ (w_1.alloc (.cells zAcc 115))
       rw [← hw_27]
       obtain ⟨B2,hB2⟩:∃ B,B=w_1.heap.size:=⟨_,rfl⟩
       rw [← hB2] at hqn hzn ⊢
       have hq2:=hqn
       have hz2:=hzn
       have hltq:=hq2.lt
       clear hw_27 hB2 hb
       refine rd_ [5,8] ?_
       refine AllReadyH.cons rfl (fun K hK=>?_) (AllReadyH.cons rfl (fun K hK=>?_) AllReadyH.nil)
       ·(go_simp;go_at_call 95;refine (p_except l ⟨pA,pn,pc,rA,rn,rc,tA,tn,tc,sA,sn,sc⟩ src _ HLO.out (HD.out.now HC)).mono ?_;rintro e w_28 ⟨⟨yA,yn,yc,zA,zn,zc,uA,un,uc,vA,vn,vc⟩,rfl,hb,hfy,hdy⟩;go_simp)
        refine hK.out _ _ (S1.ext hb hS) (fun hS=>?_)
        clear hK K
        (try simp only [Act.put,pu1,pu2,pu3])
        have HC:=bt_ HC hb
        have hC0:=bt_ hC0 hb
        have HO1:=hd_ (HO1.out.now hb)
        have hq2:=hq2.ext hb
        have HDY:=hd_ hdy
        clear hdy hfy
        have hltq:=hq2.lt
        refine rd_ [7,8] ?_
        refine AllReadyH.cons rfl (fun K hK=>?_) (AllReadyH.cons rfl (fun K hK=>?_) AllReadyH.nil)
        ·(go_simp;go_at_call 64;refine (p_openA (excL l src) ⟨yA,yn,yc,zA,zn,zc,uA,un,uc,vA,vn,vc⟩ kn _ (HLO.out.exc src) HDY.out).mono ?_;rintro e w_29 ⟨RB,Rm,Rd,SB,Sm,Sd,bq,TB,Tm,Td,PB,Pm,Pd,rfl,hb,hO⟩;go_simp)
         refine hK.out _ _ (S1.ext hb hS) (fun hS=>?_)
         clear hK K
         (try simp only [Act.put,pu1,pu2,pu3])
         have HC:=bt_ HC hb
         have hC0:=bt_ hC0 hb
         have HO1:=hd_ (HO1.out.now hb)
         have HDY:=hd_ (HDY.out.now hb)
         have hq2:=hq2.ext hb
         have HO2:=hd_ hO
         clear hO
         have hltq:=hq2.lt
         refine rd_ [8] ?_
         refine ah1 rfl fun K hK=>?_
         go_simp
         refine hK.out _ _ (S1.ext ((Below.refl _ _).alloc lr_ (.cells zAcc 115)) hS) (fun hS=>?_)
         clear hK K
         (try simp only [Act.put,pu1,pu2,pu3])
         have hb:Below w_29.heap.size w_29 (w_29.alloc (.cells zAcc 115)):=(Below.refl _ _).alloc lr_ _
         have hqn:BoxA (w_29.alloc (.cells zAcc 115)) w_29.heap.size 115 zAcc:=BoxA.new _ _ _
         have hzn:w.heap.size+2≤w_29.heap.size:=Nat.le_trans hV2 hC0.size
         have HC:=bt_ HC hb
         have hC0:=bt_ hC0 hb
         have HO1:=hd_ (HO1.out.now hb)
         have HO2:=hd_ (HO2.out.now hb)
         have hq2:=hq2.ext hb
         obtain ⟨w_30,hw_30⟩:∃ W,W=w_29.alloc (.cells zAcc 115):=⟨_,rfl⟩
         rw [← hw_30] at hqn HC hC0 hS HO1 HO2 hq2
         change wpAnyH _ _ _ _ _ _ _ _ (w_29.alloc (.cells zAcc 115))
         rw [← hw_30]
         obtain ⟨B1,hB1⟩:∃ B,B=w_29.heap.size:=⟨_,rfl⟩
         rw [← hB1] at hqn hzn ⊢
         have hq1:=hqn
         have hz1:=hzn
         have hne:B1≠B2:=by have:=hltq;omega
         have hltq:=hq1.lt
         clear hw_30 hB1 hb
         have f9:=box10 hq1 (.slice pA pn pc) (.slice rA rn rc) (.slice tA tn tc) (.slice sA sn sc) (.int .i64 kn) (.slice RA Rn Rc) (.slice SA Sn Sc) (.map (some bm)) (.slice TA Tn Tc) (.slice PA Pn Pc)
         have kq1:=hq1.cell
         have zq1:=hq1.lt
         have fq1:=hq1.frozen
         refine rd_ [10] ?_
         refine ah1 rfl fun K hK=>?_
         go_simp
         refine hK.out _ _ (S1.grown f9.1 hS (by omega) (by omega)) (fun hS=>?_)
         clear hK K kq1 zq1 fq1
         (try simp only [Act.put,pu1,pu2,pu3])
         obtain ⟨u9,hu9⟩:∃ u9,u9=(World.setCell (World.setCell (World.setCell (World.setCell (World.setCell (World.setCell (World.setCell (World.setCell (World.setCell (World.setCell w_30 ⟨B1,0,none⟩ (.slice pA pn pc)) ⟨B1,1,none⟩ (.slice rA rn rc)) ⟨B1,2,none⟩ (.slice tA tn tc)) ⟨B1,3,none⟩ (.slice sA sn sc)) ⟨B1,4,none⟩ (.int .i64 kn)) ⟨B1,5,none⟩ (.slice RA Rn Rc)) ⟨B1,6,none⟩ (.slice SA Sn Sc)) ⟨B1,7,none⟩ (.map (some bm))) ⟨B1,8,none⟩ (.slice TA Tn Tc)) ⟨B1,9,none⟩ (.slice PA Pn Pc)):=⟨_,rfl⟩
         rw [← hu9] at hS f9 ⊢
         clear hu9
         have hq2u:BoxA u9 B2 115 zAcc:=hq2.kept f9.1 (fun e=>hne (by injection e with e;exact e.symm))
         have f10:=box10 hq2u (.slice yA yn yc) (.slice zA zn zc) (.slice uA un uc) (.slice vA vn vc) (.int .i64 kn) (.slice RB Rm Rd) (.slice SB Sm Sd) (.map (some bq)) (.slice TB Tm Td) (.slice PB Pm Pd)
         have kq2:=hq2u.cell
         have zq2:=hq2u.lt
         have fq2:=hq2u.frozen
         refine rd_ [11] ?_
         refine ah1 rfl fun K hK=>?_
         go_simp
         refine hK.out _ _ (S1.grown f10.1 hS (by omega) (by omega)) (fun hS=>?_)
         clear hK K kq2 zq2 fq2
         (try simp only [Act.put,pu1,pu2,pu3])
         refine wpAnyH_done (by kernel_rfl) ?_ _
         exact ⟨B1,B2,⟨⟨pA,pn,pc,rA,rn,rc,tA,tn,tc,sA,sn,sc⟩,kn,RA,Rn,Rc,SA,Sn,Sc,bm,TA,Tn,Tc,PA,Pn,Pc⟩,⟨⟨yA,yn,yc,zA,zn,zc,uA,un,uc,vA,vn,vc⟩,kn,RB,Rm,Rd,SB,Sm,Sd,bq,TB,Tm,Td,PB,Pm,Pd⟩,IsFr2.of rfl,mv_fin (a1:=⟨⟨pA,pn,pc,rA,rn,rc,tA,tn,tc,sA,sn,sc⟩,kn,RA,Rn,Rc,SA,Sn,Sc,bm,TA,Tn,Tc,PA,Pn,Pc⟩) (a2:=⟨⟨yA,yn,yc,zA,zn,zc,uA,un,uc,vA,vn,vc⟩,kn,RB,Rm,Rd,SB,Sm,Sd,bq,TB,Tm,Td,PB,Pm,Pd⟩) HC HO1.out HO2.out HPO.out (exc_pos HPO.out) hq1 hq2u hne hz1 hz2 (bL0.ext hC0) (bD0.ext hC0) f9 f10⟩
        ·go_simp
         refine hK.out _ _ (S1.ext ((Below.refl _ _).alloc lr_ (.cells zAcc 115)) hS) (fun hS=>?_)
         clear hK K
         (try simp only [Act.put,pu1,pu2,pu3])
         have hb:Below w_28.heap.size w_28 (w_28.alloc (.cells zAcc 115)):=(Below.refl _ _).alloc lr_ _
         have hqn:BoxA (w_28.alloc (.cells zAcc 115)) w_28.heap.size 115 zAcc:=BoxA.new _ _ _
         have hzn:w.heap.size+2≤w_28.heap.size:=Nat.le_trans hV2 hC0.size
         have HC:=bt_ HC hb
         have hC0:=bt_ hC0 hb
         have HO1:=hd_ (HO1.out.now hb)
         have HDY:=hd_ (HDY.out.now hb)
         have hq2:=hq2.ext hb
         obtain ⟨w_31,hw_31⟩:∃ W,W=w_28.alloc (.cells zAcc 115):=⟨_,rfl⟩
         rw [← hw_31] at hqn HC hC0 hS HO1 HDY hq2
         change wpAnyH _ _ _ _ _ _ _ _ (w_28.alloc (.cells zAcc 115))
         rw [← hw_31]
         obtain ⟨B1,hB1⟩:∃ B,B=w_28.heap.size:=⟨_,rfl⟩
         rw [← hB1] at hqn hzn ⊢
         have hq1:=hqn
         have hz1:=hzn
         have hne:B1≠B2:=by have:=hltq;omega
         have hltq:=hq1.lt
         clear hw_31 hB1 hb
         refine rd_ [7] ?_
         refine ah1 rfl fun K hK=>?_
         (go_simp;go_at_call 64;refine (p_openA (excL l src) ⟨yA,yn,yc,zA,zn,zc,uA,un,uc,vA,vn,vc⟩ kn _ (HLO.out.exc src) HDY.out).mono ?_;rintro e w_32 ⟨RB,Rm,Rd,SB,Sm,Sd,bq,TB,Tm,Td,PB,Pm,Pd,rfl,hb,hO⟩;go_simp)
         refine hK.out _ _ (S1.ext hb hS) (fun hS=>?_)
         clear hK K
         (try simp only [Act.put,pu1,pu2,pu3])
         have HC:=bt_ HC hb
         have hC0:=bt_ hC0 hb
         have HO1:=hd_ (HO1.out.now hb)
         have HDY:=hd_ (HDY.out.now hb)
         have hq1:=hq1.ext hb
         have hq2:=hq2.ext hb
         have HO2:=hd_ hO
         clear hO
         have hltq:B1<w_32.heap.size∧B2<w_32.heap.size:=⟨hq1.lt,hq2.lt⟩
         have f9:=box10 hq1 (.slice pA pn pc) (.slice rA rn rc) (.slice tA tn tc) (.slice sA sn sc) (.int .i64 kn) (.slice RA Rn Rc) (.slice SA Sn Sc) (.map (some bm)) (.slice TA Tn Tc) (.slice PA Pn Pc)
         have kq1:=hq1.cell
         have zq1:=hq1.lt
         have fq1:=hq1.frozen
         refine rd_ [10] ?_
         refine ah1 rfl fun K hK=>?_
         go_simp
         refine hK.out _ _ (S1.grown f9.1 hS (by omega) (by omega)) (fun hS=>?_)
         clear hK K kq1 zq1 fq1
         (try simp only [Act.put,pu1,pu2,pu3])
         obtain ⟨u9,hu9⟩:∃ u9,u9=(World.setCell (World.setCell (World.setCell (World.setCell (World.setCell (World.setCell (World.setCell (World.setCell (World.setCell (World.setCell w_32 ⟨B1,0,none⟩ (.slice pA pn pc)) ⟨B1,1,none⟩ (.slice rA rn rc)) ⟨B1,2,none⟩ (.slice tA tn tc)) ⟨B1,3,none⟩ (.slice sA sn sc)) ⟨B1,4,none⟩ (.int .i64 kn)) ⟨B1,5,none⟩ (.slice RA Rn Rc)) ⟨B1,6,none⟩ (.slice SA Sn Sc)) ⟨B1,7,none⟩ (.map (some bm))) ⟨B1,8,none⟩ (.slice TA Tn Tc)) ⟨B1,9,none⟩ (.slice PA Pn Pc)):=⟨_,rfl⟩
         rw [← hu9] at hS f9 ⊢
         clear hu9
         have hq2u:BoxA u9 B2 115 zAcc:=hq2.kept f9.1 (fun e=>hne (by injection e with e;exact e.symm))
         have f10:=box10 hq2u (.slice yA yn yc) (.slice zA zn zc) (.slice uA un uc) (.slice vA vn vc) (.int .i64 kn) (.slice RB Rm Rd) (.slice SB Sm Sd) (.map (some bq)) (.slice TB Tm Td) (.slice PB Pm Pd)
         have kq2:=hq2u.cell
         have zq2:=hq2u.lt
         have fq2:=hq2u.frozen
         refine rd_ [11] ?_
         refine ah1 rfl fun K hK=>?_
         go_simp
         refine hK.out _ _ (S1.grown f10.1 hS (by omega) (by omega)) (fun hS=>?_)
         clear hK K kq2 zq2 fq2
         (try simp only [Act.put,pu1,pu2,pu3])
         refine wpAnyH_done (by kernel_rfl) ?_ _
         exact ⟨B1,B2,⟨⟨pA,pn,pc,rA,rn,rc,tA,tn,tc,sA,sn,sc⟩,kn,RA,Rn,Rc,SA,Sn,Sc,bm,TA,Tn,Tc,PA,Pn,Pc⟩,⟨⟨yA,yn,yc,zA,zn,zc,uA,un,uc,vA,vn,vc⟩,kn,RB,Rm,Rd,SB,Sm,Sd,bq,TB,Tm,Td,PB,Pm,Pd⟩,IsFr2.of rfl,mv_fin (a1:=⟨⟨pA,pn,pc,rA,rn,rc,tA,tn,tc,sA,sn,sc⟩,kn,RA,Rn,Rc,SA,Sn,Sc,bm,TA,Tn,Tc,PA,Pn,Pc⟩) (a2:=⟨⟨yA,yn,yc,zA,zn,zc,uA,un,uc,vA,vn,vc⟩,kn,RB,Rm,Rd,SB,Sm,Sd,bq,TB,Tm,Td,PB,Pm,Pd⟩) HC HO1.out HO2.out HPO.out (exc_pos HPO.out) hq1 hq2u hne hz1 hz2 (bL0.ext hC0) (bD0.ext hC0) f9 f10⟩
       ·go_simp
        refine hK.out _ _ (S1.ext ((Below.refl _ _).alloc lr_ (.cells zAcc 115)) hS) (fun hS=>?_)
        clear hK K
        (try simp only [Act.put,pu1,pu2,pu3])
        have hb:Below w_27.heap.size w_27 (w_27.alloc (.cells zAcc 115)):=(Below.refl _ _).alloc lr_ _
        have hqn:BoxA (w_27.alloc (.cells zAcc 115)) w_27.heap.size 115 zAcc:=BoxA.new _ _ _
        have hzn:w.heap.size+2≤w_27.heap.size:=Nat.le_trans hV2 hC0.size
        have HC:=bt_ HC hb
        have hC0:=bt_ hC0 hb
        have HO1:=hd_ (HO1.out.now hb)
        have hq2:=hq2.ext hb
        obtain ⟨w_33,hw_33⟩:∃ W,W=w_27.alloc (.cells zAcc 115):=⟨_,rfl⟩
        rw [← hw_33] at hqn HC hC0 hS HO1 hq2
        change wpAnyH _ _ _ _ _ _ _ _ (w_27.alloc (.cells zAcc 115))
        rw [← hw_33]
        obtain ⟨B1,hB1⟩:∃ B,B=w_27.heap.size:=⟨_,rfl⟩
        rw [← hB1] at hqn hzn ⊢
        have hq1:=hqn
        have hz1:=hzn
        have hne:B1≠B2:=by have:=hltq;omega
        have hltq:=hq1.lt
        clear hw_33 hB1 hb
        refine rd_ [5] ?_
        refine ah1 rfl fun K hK=>?_
        (go_simp;go_at_call 95;refine (p_except l ⟨pA,pn,pc,rA,rn,rc,tA,tn,tc,sA,sn,sc⟩ src _ HLO.out (HD.out.now HC)).mono ?_;rintro e w_34 ⟨⟨yA,yn,yc,zA,zn,zc,uA,un,uc,vA,vn,vc⟩,rfl,hb,hfy,hdy⟩;go_simp)
        refine hK.out _ _ (S1.ext hb hS) (fun hS=>?_)
        clear hK K
        (try simp only [Act.put,pu1,pu2,pu3])
        have HC:=bt_ HC hb
        have hC0:=bt_ hC0 hb
        have HO1:=hd_ (HO1.out.now hb)
        have hq1:=hq1.ext hb
        have hq2:=hq2.ext hb
        have HDY:=hd_ hdy
        clear hdy hfy
        have hltq:B1<w_34.heap.size∧B2<w_34.heap.size:=⟨hq1.lt,hq2.lt⟩
        refine rd_ [7] ?_
        refine ah1 rfl fun K hK=>?_
        (go_simp;go_at_call 64;refine (p_openA (excL l src) ⟨yA,yn,yc,zA,zn,zc,uA,un,uc,vA,vn,vc⟩ kn _ (HLO.out.exc src) HDY.out).mono ?_;rintro e w_35 ⟨RB,Rm,Rd,SB,Sm,Sd,bq,TB,Tm,Td,PB,Pm,Pd,rfl,hb,hO⟩;go_simp)
        refine hK.out _ _ (S1.ext hb hS) (fun hS=>?_)
        clear hK K
        (try simp only [Act.put,pu1,pu2,pu3])
        have HC:=bt_ HC hb
        have hC0:=bt_ hC0 hb
        have HO1:=hd_ (HO1.out.now hb)
        have HDY:=hd_ (HDY.out.now hb)
        have hq1:=hq1.ext hb
        have hq2:=hq2.ext hb
        have HO2:=hd_ hO
        clear hO
        have hltq:B1<w_35.heap.size∧B2<w_35.heap.size:=⟨hq1.lt,hq2.lt⟩
        have f9:=box10 hq1 (.slice pA pn pc) (.slice rA rn rc) (.slice tA tn tc) (.slice sA sn sc) (.int .i64 kn) (.slice RA Rn Rc) (.slice SA Sn Sc) (.map (some bm)) (.slice TA Tn Tc) (.slice PA Pn Pc)
        have kq1:=hq1.cell
        have zq1:=hq1.lt
        have fq1:=hq1.frozen
        refine rd_ [10] ?_
        refine ah1 rfl fun K hK=>?_
        go_simp
        refine hK.out _ _ (S1.grown f9.1 hS (by omega) (by omega)) (fun hS=>?_)
        clear hK K kq1 zq1 fq1
        (try simp only [Act.put,pu1,pu2,pu3])
        obtain ⟨u9,hu9⟩:∃ u9,u9=(World.setCell (World.setCell (World.setCell (World.setCell (World.setCell (World.setCell (World.setCell (World.setCell (World.setCell (World.setCell w_35 ⟨B1,0,none⟩ (.slice pA pn pc)) ⟨B1,1,none⟩ (.slice rA rn rc)) ⟨B1,2,none⟩ (.slice tA tn tc)) ⟨B1,3,none⟩ (.slice sA sn sc)) ⟨B1,4,none⟩ (.int .i64 kn)) ⟨B1,5,none⟩ (.slice RA Rn Rc)) ⟨B1,6,none⟩ (.slice SA Sn Sc)) ⟨B1,7,none⟩ (.map (some bm))) ⟨B1,8,none⟩ (.slice TA Tn Tc)) ⟨B1,9,none⟩ (.slice PA Pn Pc)):=⟨_,rfl⟩
        rw [← hu9] at hS f9 ⊢
        clear hu9
        have hq2u:BoxA u9 B2 115 zAcc:=hq2.kept f9.1 (fun e=>hne (by injection e with e;exact e.symm))
        have f10:=box10 hq2u (.slice yA yn yc) (.slice zA zn zc) (.slice uA un uc) (.slice vA vn vc) (.int .i64 kn) (.slice RB Rm Rd) (.slice SB Sm Sd) (.map (some bq)) (.slice TB Tm Td) (.slice PB Pm Pd)
        have kq2:=hq2u.cell
        have zq2:=hq2u.lt
        have fq2:=hq2u.frozen
        refine rd_ [11] ?_
        refine ah1 rfl fun K hK=>?_
        go_simp
        refine hK.out _ _ (S1.grown f10.1 hS (by omega) (by omega)) (fun hS=>?_)
        clear hK K kq2 zq2 fq2
        (try simp only [Act.put,pu1,pu2,pu3])
        refine wpAnyH_done (by kernel_rfl) ?_ _
        exact ⟨B1,B2,⟨⟨pA,pn,pc,rA,rn,rc,tA,tn,tc,sA,sn,sc⟩,kn,RA,Rn,Rc,SA,Sn,Sc,bm,TA,Tn,Tc,PA,Pn,Pc⟩,⟨⟨yA,yn,yc,zA,zn,zc,uA,un,uc,vA,vn,vc⟩,kn,RB,Rm,Rd,SB,Sm,Sd,bq,TB,Tm,Td,PB,Pm,Pd⟩,IsFr2.of rfl,mv_fin (a1:=⟨⟨pA,pn,pc,rA,rn,rc,tA,tn,tc,sA,sn,sc⟩,kn,RA,Rn,Rc,SA,Sn,Sc,bm,TA,Tn,Tc,PA,Pn,Pc⟩) (a2:=⟨⟨yA,yn,yc,zA,zn,zc,uA,un,uc,vA,vn,vc⟩,kn,RB,Rm,Rd,SB,Sm,Sd,bq,TB,Tm,Td,PB,Pm,Pd⟩) HC HO1.out HO2.out HPO.out (exc_pos HPO.out) hq1 hq2u hne hz1 hz2 (bL0.ext hC0) (bD0.ext hC0) f9 f10⟩
     ·go_simp
      refine hK.out _ _ (S1.ext ((Below.refl _ _).alloc lr_ (.cells zAcc 115)) hS) (fun hS=>?_)
      clear hK K
      (try simp only [Act.put,pu1,pu2,pu3])
      have hb:Below c0.heap.size c0 (c0.alloc (.cells zAcc 115)):=(Below.refl _ _).alloc lr_ _
      have hqn:BoxA (c0.alloc (.cells zAcc 115)) c0.heap.size 115 zAcc:=BoxA.new _ _ _
      have hzn:w.heap.size+2≤c0.heap.size:=Nat.le_trans hV2 hC0.size
      have HC:=bt_ HC hb
      have hC0:=bt_ hC0 hb
      obtain ⟨w_36,hw_36⟩:∃ W,W=c0.alloc (.cells zAcc 115):=⟨_,rfl⟩
      rw [← hw_36] at hqn HC hC0 hS
      change wpAnyH _ _ _ _ _ _ _ _ (c0.alloc (.cells zAcc 115))
      rw [← hw_36]
      obtain ⟨B1,hB1⟩:∃ B,B=c0.heap.size:=⟨_,rfl⟩
      rw [← hB1] at hqn hzn ⊢
      have hq1:=hqn
      have hz1:=hzn
      have hltq:=hq1.lt
      clear hw_36 hB1 hb
      refine rd_ [2,9] ?_
      refine AllReadyH.cons rfl (fun K hK=>?_) (AllReadyH.cons rfl (fun K hK=>?_) AllReadyH.nil)
      ·(go_simp;go_at_call 64;refine (p_openA l ⟨pA,pn,pc,rA,rn,rc,tA,tn,tc,sA,sn,sc⟩ kn _ HLO.out (HD.out.now HC)).mono ?_;rintro e w_37 ⟨RA,Rn,Rc,SA,Sn,Sc,bm,TA,Tn,Tc,PA,Pn,Pc,rfl,hb,hO⟩;go_simp)
       refine hK.out _ _ (S1.ext hb hS) (fun hS=>?_)
       clear hK K
       (try simp only [Act.put,pu1,pu2,pu3])
       have HC:=bt_ HC hb
       have hC0:=bt_ hC0 hb
       have hq1:=hq1.ext hb
       have HO1:=hd_ hO
       clear hO
       have hltq:=hq1.lt
       refine rd_ [5,9] ?_
       refine AllReadyH.cons rfl (fun K hK=>?_) (AllReadyH.cons rfl (fun K hK=>?_) AllReadyH.nil)
       ·(go_simp;go_at_call 95;refine (p_except l ⟨pA,pn,pc,rA,rn,rc,tA,tn,tc,sA,sn,sc⟩ src _ HLO.out (HD.out.now HC)).mono ?_;rintro e w_38 ⟨⟨yA,yn,yc,zA,zn,zc,uA,un,uc,vA,vn,vc⟩,rfl,hb,hfy,hdy⟩;go_simp)
        refine hK.out _ _ (S1.ext hb hS) (fun hS=>?_)
        clear hK K
        (try simp only [Act.put,pu1,pu2,pu3])
        have HC:=bt_ HC hb
        have hC0:=bt_ hC0 hb
        have HO1:=hd_ (HO1.out.now hb)
        have hq1:=hq1.ext hb
        have HDY:=hd_ hdy
        clear hdy hfy
        have hltq:=hq1.lt
        refine rd_ [7,9] ?_
        refine AllReadyH.cons rfl (fun K hK=>?_) (AllReadyH.cons rfl (fun K hK=>?_) AllReadyH.nil)
        ·(go_simp;go_at_call 64;refine (p_openA (excL l src) ⟨yA,yn,yc,zA,zn,zc,uA,un,uc,vA,vn,vc⟩ kn _ (HLO.out.exc src) HDY.out).mono ?_;rintro e w_39 ⟨RB,Rm,Rd,SB,Sm,Sd,bq,TB,Tm,Td,PB,Pm,Pd,rfl,hb,hO⟩;go_simp)
         refine hK.out _ _ (S1.ext hb hS) (fun hS=>?_)
         clear hK K
         (try simp only [Act.put,pu1,pu2,pu3])
         have HC:=bt_ HC hb
         have hC0:=bt_ hC0 hb
         have HO1:=hd_ (HO1.out.now hb)
         have HDY:=hd_ (HDY.out.now hb)
         have hq1:=hq1.ext hb
         have HO2:=hd_ hO
         clear hO
         have hltq:=hq1.lt
         refine rd_ [9] ?_
         refine ah1 rfl fun K hK=>?_
         go_simp
         refine hK.out _ _ (S1.ext ((Below.refl _ _).alloc lr_ (.cells zAcc 115)) hS) (fun hS=>?_)
         clear hK K
         (try simp only [Act.put,pu1,pu2,pu3])
         have hb:Below w_39.heap.size w_39 (w_39.alloc (.cells zAcc 115)):=(Below.refl _ _).alloc lr_ _
         have hqn:BoxA (w_39.alloc (.cells zAcc 115)) w_39.heap.size 115 zAcc:=BoxA.new _ _ _
         have hzn:w.heap.size+2≤w_39.heap.size:=Nat.le_trans hV2 hC0.size
         have HC:=bt_ HC hb
         have hC0:=bt_ hC0 hb
         have HO1:=hd_ (HO1.out.now hb)
         have HO2:=hd_ (HO2.out.now hb)
         have hq1:=hq1.ext hb
         obtain ⟨w_40,hw_40⟩:∃ W,W=w_39.alloc (.cells zAcc 115):=⟨_,rfl⟩
         rw [← hw_40] at hqn HC hC0 hS HO1 HO2 hq1
         change wpAnyH _ _ _ _ _ _ _ _ (w_39.alloc (.cells zAcc 115))
         rw [← hw_40]
         obtain ⟨B2,hB2⟩:∃ B,B=w_39.heap.size:=⟨_,rfl⟩
         rw [← hB2] at hqn hzn ⊢
         have hq2:=hqn
         have hz2:=hzn
         have hne:B1≠B2:=by have:=hltq;omega
         have hltq:=hq2.lt
         clear hw_40 hB2 hb
         have f9:=box10 hq1 (.slice pA pn pc) (.slice rA rn rc) (.slice tA tn tc) (.slice sA sn sc) (.int .i64 kn) (.slice RA Rn Rc) (.slice SA Sn Sc) (.map (some bm)) (.slice TA Tn Tc) (.slice PA Pn Pc)
         have kq1:=hq1.cell
         have zq1:=hq1.lt
         have fq1:=hq1.frozen
         refine rd_ [10] ?_
         refine ah1 rfl fun K hK=>?_
         go_simp
         refine hK.out _ _ (S1.grown f9.1 hS (by omega) (by omega)) (fun hS=>?_)
         clear hK K kq1 zq1 fq1
         (try simp only [Act.put,pu1,pu2,pu3])
         obtain ⟨u9,hu9⟩:∃ u9,u9=(World.setCell (World.setCell (World.setCell (World.setCell (World.setCell (World.setCell (World.setCell (World.setCell (World.setCell (World.setCell w_40 ⟨B1,0,none⟩ (.slice pA pn pc)) ⟨B1,1,none⟩ (.slice rA rn rc)) ⟨B1,2,none⟩ (.slice tA tn tc)) ⟨B1,3,none⟩ (.slice sA sn sc)) ⟨B1,4,none⟩ (.int .i64 kn)) ⟨B1,5,none⟩ (.slice RA Rn Rc)) ⟨B1,6,none⟩ (.slice SA Sn Sc)) ⟨B1,7,none⟩ (.map (some bm))) ⟨B1,8,none⟩ (.slice TA Tn Tc)) ⟨B1,9,none⟩ (.slice PA Pn Pc)):=⟨_,rfl⟩
         rw [← hu9] at hS f9 ⊢
         clear hu9
         have hq2u:BoxA u9 B2 115 zAcc:=hq2.kept f9.1 (fun e=>hne (by injection e with e;exact e.symm))
         have f10:=box10 hq2u (.slice yA yn yc) (.slice zA zn zc) (.slice uA un uc) (.slice vA vn vc) (.int .i64 kn) (.slice RB Rm Rd) (.slice SB Sm Sd) (.map (some bq)) (.slice TB Tm Td) (.slice PB Pm Pd)
         have kq2:=hq2u.cell
         have zq2:=hq2u.lt
         have fq2:=hq2u.frozen
         refine rd_ [11] ?_
         refine ah1 rfl fun K hK=>?_
         go_simp
         refine hK.out _ _ (S1.grown f10.1 hS (by omega) (by omega)) (fun hS=>?_)
         clear hK K kq2 zq2 fq2
         (try simp only [Act.put,pu1,pu2,pu3])
         refine wpAnyH_done (by kernel_rfl) ?_ _
         exact ⟨B1,B2,⟨⟨pA,pn,pc,rA,rn,rc,tA,tn,tc,sA,sn,sc⟩,kn,RA,Rn,Rc,SA,Sn,Sc,bm,TA,Tn,Tc,PA,Pn,Pc⟩,⟨⟨yA,yn,yc,zA,zn,zc,uA,un,uc,vA,vn,vc⟩,kn,RB,Rm,Rd,SB,Sm,Sd,bq,TB,Tm,Td,PB,Pm,Pd⟩,IsFr2.of rfl,mv_fin (a1:=⟨⟨pA,pn,pc,rA,rn,rc,tA,tn,tc,sA,sn,sc⟩,kn,RA,Rn,Rc,SA,Sn,Sc,bm,TA,Tn,Tc,PA,Pn,Pc⟩) (a2:=⟨⟨yA,yn,yc,zA,zn,zc,uA,un,uc,vA,vn,vc⟩,kn,RB,Rm,Rd,SB,Sm,Sd,bq,TB,Tm,Td,PB,Pm,Pd⟩) HC HO1.out HO2.out HPO.out (exc_pos HPO.out) hq1 hq2u hne hz1 hz2 (bL0.ext hC0) (bD0.ext hC0) f9 f10⟩
        ·go_simp
         refine hK.out _ _ (S1.ext ((Below.refl _ _).alloc lr_ (.cells zAcc 115)) hS) (fun hS=>?_)
         clear hK K
         (try simp only [Act.put,pu1,pu2,pu3])
         have hb:Below w_38.heap.size w_38 (w_38.alloc (.cells zAcc 115)):=(Below.refl _ _).alloc lr_ _
         have hqn:BoxA (w_38.alloc (.cells zAcc 115)) w_38.heap.size 115 zAcc:=BoxA.new _ _ _
         have hzn:w.heap.size+2≤w_38.heap.size:=Nat.le_trans hV2 hC0.size
         have HC:=bt_ HC hb
         have hC0:=bt_ hC0 hb
         have HO1:=hd_ (HO1.out.now hb)
         have HDY:=hd_ (HDY.out.now hb)
         have hq1:=hq1.ext hb
         obtain ⟨w_41,hw_41⟩:∃ W,W=w_38.alloc (.cells zAcc 115):=⟨_,rfl⟩
         rw [← hw_41] at hqn HC hC0 hS HO1 HDY hq1
         change wpAnyH _ _ _ _ _ _ _ _ (w_38.alloc (.cells zAcc 115))
         rw [← hw_41]
         obtain ⟨B2,hB2⟩:∃ B,B=w_38.heap.size:=⟨_,rfl⟩
         rw [← hB2] at hqn hzn ⊢
         have hq2:=hqn
         have hz2:=hzn
         have hne:B1≠B2:=by have:=hltq;omega
         have hltq:=hq2.lt
         clear hw_41 hB2 hb
         refine rd_ [7] ?_
         refine ah1 rfl fun K hK=>?_
         (go_simp;go_at_call 64;refine (p_openA (excL l src) ⟨yA,yn,yc,zA,zn,zc,uA,un,uc,vA,vn,vc⟩ kn _ (HLO.out.exc src) HDY.out).mono ?_;rintro e w_42 ⟨RB,Rm,Rd,SB,Sm,Sd,bq,TB,Tm,Td,PB,Pm,Pd,rfl,hb,hO⟩;go_simp)
         refine hK.out _ _ (S1.ext hb hS) (fun hS=>?_)
         clear hK K
         (try simp only [Act.put,pu1,pu2,pu3])
         have HC:=bt_ HC hb
         have hC0:=bt_ hC0 hb
         have HO1:=hd_ (HO1.out.now hb)
         have HDY:=hd_ (HDY.out.now hb)
         have hq1:=hq1.ext hb
         have hq2:=hq2.ext hb
         have HO2:=hd_ hO
         clear hO
         have hltq:B1<w_42.heap.size∧B2<w_42.heap.size:=⟨hq1.lt,hq2.lt⟩
         have f9:=box10 hq1 (.slice pA pn pc) (.slice rA rn rc) (.slice tA tn tc) (.slice sA sn sc) (.int .i64 kn) (.slice RA Rn Rc) (.slice SA Sn Sc) (.map (some bm)) (.slice TA Tn Tc) (.slice PA Pn Pc)
         have kq1:=hq1.cell
         have zq1:=hq1.lt
         have fq1:=hq1.frozen
         refine rd_ [10] ?_
         refine ah1 rfl fun K hK=>?_
         go_simp
         refine hK.out _ _ (S1.grown f9.1 hS (by omega) (by omega)) (fun hS=>?_)
         clear hK K kq1 zq1 fq1
         (try simp only [Act.put,pu1,pu2,pu3])
         obtain ⟨u9,hu9⟩:∃ u9,u9=(World.setCell (World.setCell (World.setCell (World.setCell (World.setCell (World.setCell (World.setCell (World.setCell (World.setCell (World.setCell w_42 ⟨B1,0,none⟩ (.slice pA pn pc)) ⟨B1,1,none⟩ (.slice rA rn rc)) ⟨B1,2,none⟩ (.slice tA tn tc)) ⟨B1,3,none⟩ (.slice sA sn sc)) ⟨B1,4,none⟩ (.int .i64 kn)) ⟨B1,5,none⟩ (.slice RA Rn Rc)) ⟨B1,6,none⟩ (.slice SA Sn Sc)) ⟨B1,7,none⟩ (.map (some bm))) ⟨B1,8,none⟩ (.slice TA Tn Tc)) ⟨B1,9,none⟩ (.slice PA Pn Pc)):=⟨_,rfl⟩
         rw [← hu9] at hS f9 ⊢
         clear hu9
         have hq2u:BoxA u9 B2 115 zAcc:=hq2.kept f9.1 (fun e=>hne (by injection e with e;exact e.symm))
         have f10:=box10 hq2u (.slice yA yn yc) (.slice zA zn zc) (.slice uA un uc) (.slice vA vn vc) (.int .i64 kn) (.slice RB Rm Rd) (.slice SB Sm Sd) (.map (some bq)) (.slice TB Tm Td) (.slice PB Pm Pd)
         have kq2:=hq2u.cell
         have zq2:=hq2u.lt
         have fq2:=hq2u.frozen
         refine rd_ [11] ?_
         refine ah1 rfl fun K hK=>?_
         go_simp
         refine hK.out _ _ (S1.grown f10.1 hS (by omega) (by omega)) (fun hS=>?_)
         clear hK K kq2 zq2 fq2
         (try simp only [Act.put,pu1,pu2,pu3])
         refine wpAnyH_done (by kernel_rfl) ?_ _
         exact ⟨B1,B2,⟨⟨pA,pn,pc,rA,rn,rc,tA,tn,tc,sA,sn,sc⟩,kn,RA,Rn,Rc,SA,Sn,Sc,bm,TA,Tn,Tc,PA,Pn,Pc⟩,⟨⟨yA,yn,yc,zA,zn,zc,uA,un,uc,vA,vn,vc⟩,kn,RB,Rm,Rd,SB,Sm,Sd,bq,TB,Tm,Td,PB,Pm,Pd⟩,IsFr2.of rfl,mv_fin (a1:=⟨⟨pA,pn,pc,rA,rn,rc,tA,tn,tc,sA,sn,sc⟩,kn,RA,Rn,Rc,SA,Sn,Sc,bm,TA,Tn,Tc,PA,Pn,Pc⟩) (a2:=⟨⟨yA,yn,yc,zA,zn,zc,uA,un,uc,vA,vn,vc⟩,kn,RB,Rm,Rd,SB,Sm,Sd,bq,TB,Tm,Td,PB,Pm,Pd⟩) HC HO1.out HO2.out HPO.out (exc_pos HPO.out) hq1 hq2u hne hz1 hz2 (bL0.ext hC0) (bD0.ext hC0) f9 f10⟩
       ·go_simp
        refine hK.out _ _ (S1.ext ((Below.refl _ _).alloc lr_ (.cells zAcc 115)) hS) (fun hS=>?_)
        clear hK K
        (try simp only [Act.put,pu1,pu2,pu3])
        have hb:Below w_37.heap.size w_37 (w_37.alloc (.cells zAcc 115)):=(Below.refl _ _).alloc lr_ _
        have hqn:BoxA (w_37.alloc (.cells zAcc 115)) w_37.heap.size 115 zAcc:=BoxA.new _ _ _
        have hzn:w.heap.size+2≤w_37.heap.size:=Nat.le_trans hV2 hC0.size
        have HC:=bt_ HC hb
        have hC0:=bt_ hC0 hb
        have HO1:=hd_ (HO1.out.now hb)
        have hq1:=hq1.ext hb
        obtain ⟨w_43,hw_43⟩:∃ W,W=w_37.alloc (.cells zAcc 115):=⟨_,rfl⟩
        rw [← hw_43] at hqn HC hC0 hS HO1 hq1
        change wpAnyH _ _ _ _ _ _ _ _ (w_37.alloc (.cells zAcc 115))
        rw [← hw_43]
        obtain ⟨B2,hB2⟩:∃ B,B=w_37.heap.size:=⟨_,rfl⟩
        rw [← hB2] at hqn hzn ⊢
        have hq2:=hqn
        have hz2:=hzn
        have hne:B1≠B2:=by have:=hltq;omega
        have hltq:=hq2.lt
        clear hw_43 hB2 hb
        refine rd_ [5] ?_
        refine ah1 rfl fun K hK=>?_
        (go_simp;go_at_call 95;refine (p_except l ⟨pA,pn,pc,rA,rn,rc,tA,tn,tc,sA,sn,sc⟩ src _ HLO.out (HD.out.now HC)).mono ?_;rintro e w_44 ⟨⟨yA,yn,yc,zA,zn,zc,uA,un,uc,vA,vn,vc⟩,rfl,hb,hfy,hdy⟩;go_simp)
        refine hK.out _ _ (S1.ext hb hS) (fun hS=>?_)
        clear hK K
        (try simp only [Act.put,pu1,pu2,pu3])
        have HC:=bt_ HC hb
        have hC0:=bt_ hC0 hb
        have HO1:=hd_ (HO1.out.now hb)
        have hq1:=hq1.ext hb
        have hq2:=hq2.ext hb
        have HDY:=hd_ hdy
        clear hdy hfy
        have hltq:B1<w_44.heap.size∧B2<w_44.heap.size:=⟨hq1.lt,hq2.lt⟩
        refine rd_ [7] ?_
        refine ah1 rfl fun K hK=>?_
        (go_simp;go_at_call 64;refine (p_openA (excL l src) ⟨yA,yn,yc,zA,zn,zc,uA,un,uc,vA,vn,vc⟩ kn _ (HLO.out.exc src) HDY.out).mono ?_;rintro e w_45 ⟨RB,Rm,Rd,SB,Sm,Sd,bq,TB,Tm,Td,PB,Pm,Pd,rfl,hb,hO⟩;go_simp)
        refine hK.out _ _ (S1.ext hb hS) (fun hS=>?_)
        clear hK K
        (try simp only [Act.put,pu1,pu2,pu3])
        have HC:=bt_ HC hb
        have hC0:=bt_ hC0 hb
        have HO1:=hd_ (HO1.out.now hb)
        have HDY:=hd_ (HDY.out.now hb)
        have hq1:=hq1.ext hb
        have hq2:=hq2.ext hb
        have HO2:=hd_ hO
        clear hO
        have hltq:B1<w_45.heap.size∧B2<w_45.heap.size:=⟨hq1.lt,hq2.lt⟩
        have f9:=box10 hq1 (.slice pA pn pc) (.slice rA rn rc) (.slice tA tn tc) (.slice sA sn sc) (.int .i64 kn) (.slice RA Rn Rc) (.slice SA Sn Sc) (.map (some bm)) (.slice TA Tn Tc) (.slice PA Pn Pc)
        have kq1:=hq1.cell
        have zq1:=hq1.lt
        have fq1:=hq1.frozen
        refine rd_ [10] ?_
        refine ah1 rfl fun K hK=>?_
        go_simp
        refine hK.out _ _ (S1.grown f9.1 hS (by omega) (by omega)) (fun hS=>?_)
        clear hK K kq1 zq1 fq1
        (try simp only [Act.put,pu1,pu2,pu3])
        obtain ⟨u9,hu9⟩:∃ u9,u9=(World.setCell (World.setCell (World.setCell (World.setCell (World.setCell (World.setCell (World.setCell (World.setCell (World.setCell (World.setCell w_45 ⟨B1,0,none⟩ (.slice pA pn pc)) ⟨B1,1,none⟩ (.slice rA rn rc)) ⟨B1,2,none⟩ (.slice tA tn tc)) ⟨B1,3,none⟩ (.slice sA sn sc)) ⟨B1,4,none⟩ (.int .i64 kn)) ⟨B1,5,none⟩ (.slice RA Rn Rc)) ⟨B1,6,none⟩ (.slice SA Sn Sc)) ⟨B1,7,none⟩ (.map (some bm))) ⟨B1,8,none⟩ (.slice TA Tn Tc)) ⟨B1,9,none⟩ (.slice PA Pn Pc)):=⟨_,rfl⟩
        rw [← hu9] at hS f9 ⊢
        clear hu9
        have hq2u:BoxA u9 B2 115 zAcc:=hq2.kept f9.1 (fun e=>hne (by injection e with e;exact e.symm))
        have f10:=box10 hq2u (.slice yA yn yc) (.slice zA zn zc) (.slice uA un uc) (.slice vA vn vc) (.int .i64 kn) (.slice RB Rm Rd) (.slice SB Sm Sd) (.map (some bq)) (.slice TB Tm Td) (.slice PB Pm Pd)
        have kq2:=hq2u.cell
        have zq2:=hq2u.lt
        have fq2:=hq2u.frozen
        refine rd_ [11] ?_
        refine ah1 rfl fun K hK=>?_
        go_simp
        refine hK.out _ _ (S1.grown f10.1 hS (by omega) (by omega)) (fun hS=>?_)
        clear hK K kq2 zq2 fq2
        (try simp only [Act.put,pu1,pu2,pu3])
        refine wpAnyH_done (by kernel_rfl) ?_ _
        exact ⟨B1,B2,⟨⟨pA,pn,pc,rA,rn,rc,tA,tn,tc,sA,sn,sc⟩,kn,RA,Rn,Rc,SA,Sn,Sc,bm,TA,Tn,Tc,PA,Pn,Pc⟩,⟨⟨yA,yn,yc,zA,zn,zc,uA,un,uc,vA,vn,vc⟩,kn,RB,Rm,Rd,SB,Sm,Sd,bq,TB,Tm,Td,PB,Pm,Pd⟩,IsFr2.of rfl,mv_fin (a1:=⟨⟨pA,pn,pc,rA,rn,rc,tA,tn,tc,sA,sn,sc⟩,kn,RA,Rn,Rc,SA,Sn,Sc,bm,TA,Tn,Tc,PA,Pn,Pc⟩) (a2:=⟨⟨yA,yn,yc,zA,zn,zc,uA,un,uc,vA,vn,vc⟩,kn,RB,Rm,Rd,SB,Sm,Sd,bq,TB,Tm,Td,PB,Pm,Pd⟩) HC HO1.out HO2.out HPO.out (exc_pos HPO.out) hq1 hq2u hne hz1 hz2 (bL0.ext hC0) (bD0.ext hC0) f9 f10⟩
      ·go_simp
       refine hK.out _ _ (S1.ext ((Below.refl _ _).alloc lr_ (.cells zAcc 115)) hS) (fun hS=>?_)
       clear hK K
       (try simp only [Act.put,pu1,pu2,pu3])
       have hb:Below w_36.heap.size w_36 (w_36.alloc (.cells zAcc 115)):=(Below.refl _ _).alloc lr_ _
       have hqn:BoxA (w_36.alloc (.cells zAcc 115)) w_36.heap.size 115 zAcc:=BoxA.new _ _ _
       have hzn:w.heap.size+2≤w_36.heap.size:=Nat.le_trans hV2 hC0.size
       have HC:=bt_ HC hb
       have hC0:=bt_ hC0 hb
       have hq1:=hq1.ext hb
       obtain ⟨w_46,hw_46⟩:∃ W,W=w_36.alloc (.cells zAcc 115):=⟨_,rfl⟩
       rw [← hw_46] at hqn HC hC0 hS hq1
       change wpAnyH _ _ _ _ _ _ _ _ (w_36.alloc (.cells zAcc 115))
       rw [← hw_46]
       obtain ⟨B2,hB2⟩:∃ B,B=w_36.heap.size:=⟨_,rfl⟩
       rw [← hB2] at hqn hzn ⊢
       have hq2:=hqn
       have hz2:=hzn
       have hne:B1≠B2:=by have:=hltq;omega
       have hltq:=hq2.lt
       clear hw_46 hB2 hb
       refine rd_ [2] ?_
       refine ah1 rfl fun K hK=>?_
       (go_simp;go_at_call 64;refine (p_openA l ⟨pA,pn,pc,rA,rn,rc,tA,tn,tc,sA,sn,sc⟩ kn _ HLO.out (HD.out.now HC)).mono ?_;rintro e w_47 ⟨RA,Rn,Rc,SA,Sn,Sc,bm,TA,Tn,Tc,PA,Pn,Pc,rfl,hb,hO⟩;go_simp)
       refine hK.out _ _ (S1.ext hb hS) (fun hS=>?_)
       clear hK K
       (try simp only [Act.put,pu1,pu2,pu3])
       have HC:=bt_ HC hb
       have hC0:=bt_ hC0 hb
       have hq1:=hq1.ext hb
       have hq2:=hq2.ext hb
       have HO1:=hd_ hO
       clear hO
       have hltq:B1<w_47.heap.size∧B2<w_47.heap.size:=⟨hq1.lt,hq2.lt⟩
       refine rd_ [5] ?_
       refine ah1 rfl fun K hK=>?_
       (go_simp;go_at_call 95;refine (p_except l ⟨pA,pn,pc,rA,rn,rc,tA,tn,tc,sA,sn,sc⟩ src _ HLO.out (HD.out.now HC)).mono ?_;rintro e w_48 ⟨⟨yA,yn,yc,zA,zn,zc,uA,un,uc,vA,vn,vc⟩,rfl,hb,hfy,hdy⟩;go_simp)
       refine hK.out _ _ (S1.ext hb hS) (fun hS=>?_)
       clear hK K
       (try simp only [Act.put,pu1,pu2,pu3])
       have HC:=bt_ HC hb
       have hC0:=bt_ hC0 hb
       have HO1:=hd_ (HO1.out.now hb)
       have hq1:=hq1.ext hb
       have hq2:=hq2.ext hb
       have HDY:=hd_ hdy
       clear hdy hfy
       have hltq:B1<w_48.heap.size∧B2<w_48.heap.size:=⟨hq1.lt,hq2.lt⟩
       refine rd_ [7] ?_
       refine ah1 rfl fun K hK=>?_
       (go_simp;go_at_call 64;refine (p_openA (excL l src) ⟨yA,yn,yc,zA,zn,zc,uA,un,uc,vA,vn,vc⟩ kn _ (HLO.out.exc src) HDY.out).mono ?_;rintro e w_49 ⟨RB,Rm,Rd,SB,Sm,Sd,bq,TB,Tm,Td,PB,Pm,Pd,rfl,hb,hO⟩;go_simp)
       refine hK.out _ _ (S1.ext hb hS) (fun hS=>?_)
       clear hK K
       (try simp only [Act.put,pu1,pu2,pu3])
       have HC:=bt_ HC hb
       have hC0:=bt_ hC0 hb
       have HO1:=hd_ (HO1.out.now hb)
       have HDY:=hd_ (HDY.out.now hb)
       have hq1:=hq1.ext hb
       have hq2:=hq2.ext hb
       have HO2:=hd_ hO
       clear hO
       have hltq:B1<w_49.heap.size∧B2<w_49.heap.size:=⟨hq1.lt,hq2.lt⟩
       have f9:=box10 hq1 (.slice pA pn pc) (.slice rA rn rc) (.slice tA tn tc) (.slice sA sn sc) (.int .i64 kn) (.slice RA Rn Rc) (.slice SA Sn Sc) (.map (some bm)) (.slice TA Tn Tc) (.slice PA Pn Pc)
       have kq1:=hq1.cell
       have zq1:=hq1.lt
       have fq1:=hq1.frozen
       refine rd_ [10] ?_
       refine ah1 rfl fun K hK=>?_
       go_simp
       refine hK.out _ _ (S1.grown f9.1 hS (by omega) (by omega)) (fun hS=>?_)
       clear hK K kq1 zq1 fq1
       (try simp only [Act.put,pu1,pu2,pu3])
       obtain ⟨u9,hu9⟩:∃ u9,u9=(World.setCell (World.setCell (World.setCell (World.setCell (World.setCell (World.setCell (World.setCell (World.setCell (World.setCell (World.setCell w_49 ⟨B1,0,none⟩ (.slice pA pn pc)) ⟨B1,1,none⟩ (.slice rA rn rc)) ⟨B1,2,none⟩ (.slice tA tn tc)) ⟨B1,3,none⟩ (.slice sA sn sc)) ⟨B1,4,none⟩ (.int .i64 kn)) ⟨B1,5,none⟩ (.slice RA Rn Rc)) ⟨B1,6,none⟩ (.slice SA Sn Sc)) ⟨B1,7,none⟩ (.map (some bm))) ⟨B1,8,none⟩ (.slice TA Tn Tc)) ⟨B1,9,none⟩ (.slice PA Pn Pc)):=⟨_,rfl⟩
       rw [← hu9] at hS f9 ⊢
       clear hu9
       have hq2u:BoxA u9 B2 115 zAcc:=hq2.kept f9.1 (fun e=>hne (by injection e with e;exact e.symm))
       have f10:=box10 hq2u (.slice yA yn yc) (.slice zA zn zc) (.slice uA un uc) (.slice vA vn vc) (.int .i64 kn) (.slice RB Rm Rd) (.slice SB Sm Sd) (.map (some bq)) (.slice TB Tm Td) (.slice PB Pm Pd)
       have kq2:=hq2u.cell
       have zq2:=hq2u.lt
       have fq2:=hq2u.frozen
       refine rd_ [11] ?_
       refine ah1 rfl fun K hK=>?_
       go_simp
       refine hK.out _ _ (S1.grown f10.1 hS (by omega) (by omega)) (fun hS=>?_)
       clear hK K kq2 zq2 fq2
       (try simp only [Act.put,pu1,pu2,pu3])
       refine wpAnyH_done (by kernel_rfl) ?_ _
       exact ⟨B1,B2,⟨⟨pA,pn,pc,rA,rn,rc,tA,tn,tc,sA,sn,sc⟩,kn,RA,Rn,Rc,SA,Sn,Sc,bm,TA,Tn,Tc,PA,Pn,Pc⟩,⟨⟨yA,yn,yc,zA,zn,zc,uA,un,uc,vA,vn,vc⟩,kn,RB,Rm,Rd,SB,Sm,Sd,bq,TB,Tm,Td,PB,Pm,Pd⟩,IsFr2.of rfl,mv_fin (a1:=⟨⟨pA,pn,pc,rA,rn,rc,tA,tn,tc,sA,sn,sc⟩,kn,RA,Rn,Rc,SA,Sn,Sc,bm,TA,Tn,Tc,PA,Pn,Pc⟩) (a2:=⟨⟨yA,yn,yc,zA,zn,zc,uA,un,uc,vA,vn,vc⟩,kn,RB,Rm,Rd,SB,Sm,Sd,bq,TB,Tm,Td,PB,Pm,Pd⟩) HC HO1.out HO2.out HPO.out (exc_pos HPO.out) hq1 hq2u hne hz1 hz2 (bL0.ext hC0) (bD0.ext hC0) f9 f10⟩
     ·go_simp
      refine hK.out _ _ (S1.ext ((Below.refl _ _).alloc lr_ (.cells zAcc 115)) hS) (fun hS=>?_)
      clear hK K
      (try simp only [Act.put,pu1,pu2,pu3])
      have hb:Below c0.heap.size c0 (c0.alloc (.cells zAcc 115)):=(Below.refl _ _).alloc lr_ _
      have hqn:BoxA (c0.alloc (.cells zAcc 115)) c0.heap.size 115 zAcc:=BoxA.new _ _ _
      have hzn:w.heap.size+2≤c0.heap.size:=Nat.le_trans hV2 hC0.size
      have HC:=bt_ HC hb
      have hC0:=bt_ hC0 hb
      obtain ⟨w_50,hw_50⟩:∃ W,W=c0.alloc (.cells zAcc 115):=⟨_,rfl⟩
      rw [← hw_50] at hqn HC hC0 hS
      change wpAnyH _ _ _ _ _ _ _ _ (c0.alloc (.cells zAcc 115))
      rw [← hw_50]
      obtain ⟨B2,hB2⟩:∃ B,B=c0.heap.size:=⟨_,rfl⟩
      rw [← hB2] at hqn hzn ⊢
      have hq2:=hqn
      have hz2:=hzn
      have hltq:=hq2.lt
      clear hw_50 hB2 hb
      refine rd_ [2,8] ?_
      refine AllReadyH.cons rfl (fun K hK=>?_) (AllReadyH.cons rfl (fun K hK=>?_) AllReadyH.nil)
      ·(go_simp;go_at_call 64;refine (p_openA l ⟨pA,pn,pc,rA,rn,rc,tA,tn,tc,sA,sn,sc⟩ kn _ HLO.out (HD.out.now HC)).mono ?_;rintro e w_51 ⟨RA,Rn,Rc,SA,Sn,Sc,bm,TA,Tn,Tc,PA,Pn,Pc,rfl,hb,hO⟩;go_simp)
       refine hK.out _ _ (S1.ext hb hS) (fun hS=>?_)
       clear hK K
       (try simp only [Act.put,pu1,pu2,pu3])
       have HC:=bt_ HC hb
       have hC0:=bt_ hC0 hb
       have hq2:=hq2.ext hb
       have HO1:=hd_ hO
       clear hO
       have hltq:=hq2.lt
       refine rd_ [5,8] ?_
       refine AllReadyH.cons rfl (fun K hK=>?_) (AllReadyH.cons rfl (fun K hK=>?_) AllReadyH.nil)
       ·(go_simp;go_at_call 95;refine (p_except l ⟨pA,pn,pc,rA,rn,rc,tA,tn,tc,sA,sn,sc⟩ src _ HLO.out (HD.out.now HC)).mono ?_;rintro e w_52 ⟨⟨yA,yn,yc,zA,zn,zc,uA,un,uc,vA,vn,vc⟩,rfl,hb,hfy,hdy⟩;go_simp)
        refine hK.out _ _ (S1.ext hb hS) (fun hS=>?_)
        clear hK K
        (try simp only [Act.put,pu1,pu2,pu3])
        have HC:=bt_ HC hb
        have hC0:=bt_ hC0 hb
        have HO1:=hd_ (HO1.out.now hb)
        have hq2:=hq2.ext hb
        have HDY:=hd_ hdy
        clear hdy hfy
        have hltq:=hq2.lt
        refine rd_ [7,8] ?_
        refine AllReadyH.cons rfl (fun K hK=>?_) (AllReadyH.cons rfl (fun K hK=>?_) AllReadyH.nil)
        ·(go_simp;go_at_call 64;refine (p_openA (excL l src) ⟨yA,yn,yc,zA,zn,zc,uA,un,uc,vA,vn,vc⟩ kn _ (HLO.out.exc src) HDY.out).mono ?_;rintro e w_53 ⟨RB,Rm,Rd,SB,Sm,Sd,bq,TB,Tm,Td,PB,Pm,Pd,rfl,hb,hO⟩;go_simp)
         refine hK.out _ _ (S1.ext hb hS) (fun hS=>?_)
         clear hK K
         (try simp only [Act.put,pu1,pu2,pu3])
         have HC:=bt_ HC hb
         have hC0:=bt_ hC0 hb
         have HO1:=hd_ (HO1.out.now hb)
         have HDY:=hd_ (HDY.out.now hb)
         have hq2:=hq2.ext hb
         have HO2:=hd_ hO
         clear hO
         have hltq:=hq2.lt
         refine rd_ [8] ?_
         refine ah1 rfl fun K hK=>?_
         go_simp
         refine hK.out _ _ (S1.ext ((Below.refl _ _).alloc lr_ (.cells zAcc 115)) hS) (fun hS=>?_)
         clear hK K
         (try simp only [Act.put,pu1,pu2,pu3])
         have hb:Below w_53.heap.size w_53 (w_53.alloc (.cells zAcc 115)):=(Below.refl _ _).alloc lr_ _
         have hqn:BoxA (w_53.alloc (.cells zAcc 115)) w_53.heap.size 115 zAcc:=BoxA.new _ _ _
         have hzn:w.heap.size+2≤w_53.heap.size:=Nat.le_trans hV2 hC0.size
         have HC:=bt_ HC hb
         have hC0:=bt_ hC0 hb
         have HO1:=hd_ (HO1.out.now hb)
         have HO2:=hd_ (HO2.out.now hb)
         have hq2:=hq2.ext hb
         obtain ⟨w_54,hw_54⟩:∃ W,W=w_53.alloc (.cells zAcc 115):=⟨_,rfl⟩
         rw [← hw_54] at hqn HC hC0 hS HO1 HO2 hq2
         change wpAnyH _ _ _ _ _ _ _ _ (w_53.alloc (.cells zAcc 115))
         rw [← hw_54]
         obtain ⟨B1,hB1⟩:∃ B,B=w_53.heap.size:=⟨_,rfl⟩
         rw [← hB1] at hqn hzn ⊢
         have hq1:=hqn
         have hz1:=hzn
         have hne:B1≠B2:=by have:=hltq;omega
         have hltq:=hq1.lt
         clear hw_54 hB1 hb
         have f9:=box10 hq1 (.slice pA pn pc) (.slice rA rn rc) (.slice tA tn tc) (.slice sA sn sc) (.int .i64 kn) (.slice RA Rn Rc) (.slice SA Sn Sc) (.map (some bm)) (.slice TA Tn Tc) (.slice PA Pn Pc)
         have kq1:=hq1.cell
         have zq1:=hq1.lt
         have fq1:=hq1.frozen
         refine rd_ [10] ?_
         refine ah1 rfl fun K hK=>?_
         go_simp
         refine hK.out _ _ (S1.grown f9.1 hS (by omega) (by omega)) (fun hS=>?_)
         clear hK K kq1 zq1 fq1
         (try simp only [Act.put,pu1,pu2,pu3])
         obtain ⟨u9,hu9⟩:∃ u9,u9=(World.setCell (World.setCell (World.setCell (World.setCell (World.setCell (World.setCell (World.setCell (World.setCell (World.setCell (World.setCell w_54 ⟨B1,0,none⟩ (.slice pA pn pc)) ⟨B1,1,none⟩ (.slice rA rn rc)) ⟨B1,2,none⟩ (.slice tA tn tc)) ⟨B1,3,none⟩ (.slice sA sn sc)) ⟨B1,4,none⟩ (.int .i64 kn)) ⟨B1,5,none⟩ (.slice RA Rn Rc)) ⟨B1,6,none⟩ (.slice SA Sn Sc)) ⟨B1,7,none⟩ (.map (some bm))) ⟨B1,8,none⟩ (.slice TA Tn Tc)) ⟨B1,9,none⟩ (.slice PA Pn Pc)):=⟨_,rfl⟩
         rw [← hu9] at hS f9 ⊢
         clear hu9
         have hq2u:BoxA u9 B2 115 zAcc:=hq2.kept f9.1 (fun e=>hne (by injection e with e;exact e.symm))
         have f10:=box10 hq2u (.slice yA yn yc) (.slice zA zn zc) (.slice uA un uc) (.slice vA vn vc) (.int .i64 kn) (.slice RB Rm Rd) (.slice SB Sm Sd) (.map (some bq)) (.slice TB Tm Td) (.slice PB Pm Pd)
         have kq2:=hq2u.cell
         have zq2:=hq2u.lt
         have fq2:=hq2u.frozen
         refine rd_ [11] ?_
         refine ah1 rfl fun K hK=>?_
         go_simp
         refine hK.out _ _ (S1.grown f10.1 hS (by omega) (by omega)) (fun hS=>?_)
         clear hK K kq2 zq2 fq2
         (try simp only [Act.put,pu1,pu2,pu3])
         refine wpAnyH_done (by kernel_rfl) ?_ _
         exact ⟨B1,B2,⟨⟨pA,pn,pc,rA,rn,rc,tA,tn,tc,sA,sn,sc⟩,kn,RA,Rn,Rc,SA,Sn,Sc,bm,TA,Tn,Tc,PA,Pn,Pc⟩,⟨⟨yA,yn,yc,zA,zn,zc,uA,un,uc,vA,vn,vc⟩,kn,RB,Rm,Rd,SB,Sm,Sd,bq,TB,Tm,Td,PB,Pm,Pd⟩,IsFr2.of rfl,mv_fin (a1:=⟨⟨pA,pn,pc,rA,rn,rc,tA,tn,tc,sA,sn,sc⟩,kn,RA,Rn,Rc,SA,Sn,Sc,bm,TA,Tn,Tc,PA,Pn,Pc⟩) (a2:=⟨⟨yA,yn,yc,zA,zn,zc,uA,un,uc,vA,vn,vc⟩,kn,RB,Rm,Rd,SB,Sm,Sd,bq,TB,Tm,Td,PB,Pm,Pd⟩) HC HO1.out HO2.out HPO.out (exc_pos HPO.out) hq1 hq2u hne hz1 hz2 (bL0.ext hC0) (bD0.ext hC0) f9 f10⟩
        ·go_simp
         refine hK.out _ _ (S1.ext ((Below.refl _ _).alloc lr_ (.cells zAcc 115)) hS) (fun hS=>?_)
         clear hK K
         (try simp only [Act.put,pu1,pu2,pu3])
         have hb:Below w_52.heap.size w_52 (w_52.alloc (.cells zAcc 115)):=(Below.refl _ _).alloc lr_ _
         have hqn:BoxA (w_52.alloc (.cells zAcc 115)) w_52.heap.size 115 zAcc:=BoxA.new _ _ _
         have hzn:w.heap.size+2≤w_52.heap.size:=Nat.le_trans hV2 hC0.size
         have HC:=bt_ HC hb
         have hC0:=bt_ hC0 hb
         have HO1:=hd_ (HO1.out.now hb)
         have HDY:=hd_ (HDY.out.now hb)
         have hq2:=hq2.ext hb
         obtain ⟨w_55,hw_55⟩:∃ W,W=w_52.alloc (.cells zAcc 115):=⟨_,rfl⟩
         rw [← hw_55] at hqn HC hC0 hS HO1 HDY hq2
         change wpAnyH _ _ _ _ _ _ _ _ (w_52.alloc (.cells zAcc 115))
         rw [← hw_55]
         obtain ⟨B1,hB1⟩:∃ B,B=w_52.heap.size:=⟨_,rfl⟩
         rw [← hB1] at hqn hzn ⊢
         have hq1:=hqn
         have hz1:=hzn
         have hne:B1≠B2:=by have:=hltq;omega
         have hltq:=hq1.lt
         clear hw_55 hB1 hb
         refine rd_ [7] ?_
         refine ah1 rfl fun K hK=>?_
         (go_simp;go_at_call 64;refine (p_openA (excL l src) ⟨yA,yn,yc,zA,zn,zc,uA,un,uc,vA,vn,vc⟩ kn _ (HLO.out.exc src) HDY.out).mono ?_;rintro e w_56 ⟨RB,Rm,Rd,SB,Sm,Sd,bq,TB,Tm,Td,PB,Pm,Pd,rfl,hb,hO⟩;go_simp)
         refine hK.out _ _ (S1.ext hb hS) (fun hS=>?_)
         clear hK K
         (try simp only [Act.put,pu1,pu2,pu3])
         have HC:=bt_ HC hb
         have hC0:=bt_ hC0 hb
         have HO1:=hd_ (HO1.out.now hb)
         have HDY:=hd_ (HDY.out.now hb)
         have hq1:=hq1.ext hb
         have hq2:=hq2.ext hb
         have HO2:=hd_ hO
         clear hO
         have hltq:B1<w_56.heap.size∧B2<w_56.heap.size:=⟨hq1.lt,hq2.lt⟩
         have f9:=box10 hq1 (.slice pA pn pc) (.slice rA rn rc) (.slice tA tn tc) (.slice sA sn sc) (.int .i64 kn) (.slice RA Rn Rc) (.slice SA Sn Sc) (.map (some bm)) (.slice TA Tn Tc) (.slice PA Pn Pc)
         have kq1:=hq1.cell
         have zq1:=hq1.lt
         have fq1:=hq1.frozen
         refine rd_ [10] ?_
         refine ah1 rfl fun K hK=>?_
         go_simp
         refine hK.out _ _ (S1.grown f9.1 hS (by omega) (by omega)) (fun hS=>?_)
         clear hK K kq1 zq1 fq1
         (try simp only [Act.put,pu1,pu2,pu3])
         obtain ⟨u9,hu9⟩:∃ u9,u9=(World.setCell (World.setCell (World.setCell (World.setCell (World.setCell (World.setCell (World.setCell (World.setCell (World.setCell (World.setCell w_56 ⟨B1,0,none⟩ (.slice pA pn pc)) ⟨B1,1,none⟩ (.slice rA rn rc)) ⟨B1,2,none⟩ (.slice tA tn tc)) ⟨B1,3,none⟩ (.slice sA sn sc)) ⟨B1,4,none⟩ (.int .i64 kn)) ⟨B1,5,none⟩ (.slice RA Rn Rc)) ⟨B1,6,none⟩ (.slice SA Sn Sc)) ⟨B1,7,none⟩ (.map (some bm))) ⟨B1,8,none⟩ (.slice TA Tn Tc)) ⟨B1,9,none⟩ (.slice PA Pn Pc)):=⟨_,rfl⟩
         rw [← hu9] at hS f9 ⊢
         clear hu9
         have hq2u:BoxA u9 B2 115 zAcc:=hq2.kept f9.1 (fun e=>hne (by injection e with e;exact e.symm))
         have f10:=box10 hq2u (.slice yA yn yc) (.slice zA zn zc) (.slice uA un uc) (.slice vA vn vc) (.int .i64 kn) (.slice RB Rm Rd) (.slice SB Sm Sd) (.map (some bq)) (.slice TB Tm Td) (.slice PB Pm Pd)
         have kq2:=hq2u.cell
         have zq2:=hq2u.lt
         have fq2:=hq2u.frozen
         refine rd_ [11] ?_
         refine ah1 rfl fun K hK=>?_
         go_simp
         refine hK.out _ _ (S1.grown f10.1 hS (by omega) (by omega)) (fun hS=>?_)
         clear hK K kq2 zq2 fq2
         (try simp only [Act.put,pu1,pu2,pu3])
         refine wpAnyH_done (by kernel_rfl) ?_ _
         exact ⟨B1,B2,⟨⟨pA,pn,pc,rA,rn,rc,tA,tn,tc,sA,sn,sc⟩,kn,RA,Rn,Rc,SA,Sn,Sc,bm,TA,Tn,Tc,PA,Pn,Pc⟩,⟨⟨yA,yn,yc,zA,zn,zc,uA,un,uc,vA,vn,vc⟩,kn,RB,Rm,Rd,SB,Sm,Sd,bq,TB,Tm,Td,PB,Pm,Pd⟩,IsFr2.of rfl,mv_fin (a1:=⟨⟨pA,pn,pc,rA,rn,rc,tA,tn,tc,sA,sn,sc⟩,kn,RA,Rn,Rc,SA,Sn,Sc,bm,TA,Tn,Tc,PA,Pn,Pc⟩) (a2:=⟨⟨yA,yn,yc,zA,zn,zc,uA,un,uc,vA,vn,vc⟩,kn,RB,Rm,Rd,SB,Sm,Sd,bq,TB,Tm,Td,PB,Pm,Pd⟩) HC HO1.out HO2.out HPO.out (exc_pos HPO.out) hq1 hq2u hne hz1 hz2 (bL0.ext hC0) (bD0.ext hC0) f9 f10⟩
       ·go_simp
        refine hK.out _ _ (S1.ext ((Below.refl _ _).alloc lr_ (.cells zAcc 115)) hS) (fun hS=>?_)
        clear hK K
        (try simp only [Act.put,pu1,pu2,pu3])
        have hb:Below w_51.heap.size w_51 (w_51.alloc (.cells zAcc 115)):=(Below.refl _ _).alloc lr_ _
        have hqn:BoxA (w_51.alloc (.cells zAcc 115)) w_51.heap.size 115 zAcc:=BoxA.new _ _ _
        have hzn:w.heap.size+2≤w_51.heap.size:=Nat.le_trans hV2 hC0.size
        have HC:=bt_ HC hb
        have hC0:=bt_ hC0 hb
        have HO1:=hd_ (HO1.out.now hb)
        have hq2:=hq2.ext hb
        obtain ⟨w_57,hw_57⟩:∃ W,W=w_51.alloc (.cells zAcc 115):=⟨_,rfl⟩
        rw [← hw_57] at hqn HC hC0 hS HO1 hq2
        change wpAnyH _ _ _ _ _ _ _ _ (w_51.alloc (.cells zAcc 115))
        rw [← hw_57]
        obtain ⟨B1,hB1⟩:∃ B,B=w_51.heap.size:=⟨_,rfl⟩
        rw [← hB1] at hqn hzn ⊢
        have hq1:=hqn
        have hz1:=hzn
        have hne:B1≠B2:=by have:=hltq;omega
        have hltq:=hq1.lt
        clear hw_57 hB1 hb
        refine rd_ [5] ?_
        refine ah1 rfl fun K hK=>?_
        (go_simp;go_at_call 95;refine (p_except l ⟨pA,pn,pc,rA,rn,rc,tA,tn,tc,sA,sn,sc⟩ src _ HLO.out (HD.out.now HC)).mono ?_;rintro e w_58 ⟨⟨yA,yn,yc,zA,zn,zc,uA,un,uc,vA,vn,vc⟩,rfl,hb,hfy,hdy⟩;go_simp)
        refine hK.out _ _ (S1.ext hb hS) (fun hS=>?_)
        clear hK K
        (try simp only [Act.put,pu1,pu2,pu3])
        have HC:=bt_ HC hb
        have hC0:=bt_ hC0 hb
        have HO1:=hd_ (HO1.out.now hb)
        have hq1:=hq1.ext hb
        have hq2:=hq2.ext hb
        have HDY:=hd_ hdy
        clear hdy hfy
        have hltq:B1<w_58.heap.size∧B2<w_58.heap.size:=⟨hq1.lt,hq2.lt⟩
        refine rd_ [7] ?_
        refine ah1 rfl fun K hK=>?_
        (go_simp;go_at_call 64;refine (p_openA (excL l src) ⟨yA,yn,yc,zA,zn,zc,uA,un,uc,vA,vn,vc⟩ kn _ (HLO.out.exc src) HDY.out).mono ?_;rintro e w_59 ⟨RB,Rm,Rd,SB,Sm,Sd,bq,TB,Tm,Td,PB,Pm,Pd,rfl,hb,hO⟩;go_simp)
        refine hK.out _ _ (S1.ext hb hS) (fun hS=>?_)
        clear hK K
        (try simp only [Act.put,pu1,pu2,pu3])
        have HC:=bt_ HC hb
        have hC0:=bt_ hC0 hb
        have HO1:=hd_ (HO1.out.now hb)
        have HDY:=hd_ (HDY.out.now hb)
        have hq1:=hq1.ext hb
        have hq2:=hq2.ext hb
        have HO2:=hd_ hO
        clear hO
        have hltq:B1<w_59.heap.size∧B2<w_59.heap.size:=⟨hq1.lt,hq2.lt⟩
        have f9:=box10 hq1 (.slice pA pn pc) (.slice rA rn rc) (.slice tA tn tc) (.slice sA sn sc) (.int .i64 kn) (.slice RA Rn Rc) (.slice SA Sn Sc) (.map (some bm)) (.slice TA Tn Tc) (.slice PA Pn Pc)
        have kq1:=hq1.cell
        have zq1:=hq1.lt
        have fq1:=hq1.frozen
        refine rd_ [10] ?_
        refine ah1 rfl fun K hK=>?_
        go_simp
        refine hK.out _ _ (S1.grown f9.1 hS (by omega) (by omega)) (fun hS=>?_)
        clear hK K kq1 zq1 fq1
        (try simp only [Act.put,pu1,pu2,pu3])
        obtain ⟨u9,hu9⟩:∃ u9,u9=(World.setCell (World.setCell (World.setCell (World.setCell (World.setCell (World.setCell (World.setCell (World.setCell (World.setCell (World.setCell w_59 ⟨B1,0,none⟩ (.slice pA pn pc)) ⟨B1,1,none⟩ (.slice rA rn rc)) ⟨B1,2,none⟩ (.slice tA tn tc)) ⟨B1,3,none⟩ (.slice sA sn sc)) ⟨B1,4,none⟩ (.int .i64 kn)) ⟨B1,5,none⟩ (.slice RA Rn Rc)) ⟨B1,6,none⟩ (.slice SA Sn Sc)) ⟨B1,7,none⟩ (.map (some bm))) ⟨B1,8,none⟩ (.slice TA Tn Tc)) ⟨B1,9,none⟩ (.slice PA Pn Pc)):=⟨_,rfl⟩
        rw [← hu9] at hS f9 ⊢
        clear hu9
        have hq2u:BoxA u9 B2 115 zAcc:=hq2.kept f9.1 (fun e=>hne (by injection e with e;exact e.symm))
        have f10:=box10 hq2u (.slice yA yn yc) (.slice zA zn zc) (.slice uA un uc) (.slice vA vn vc) (.int .i64 kn) (.slice RB Rm Rd) (.slice SB Sm Sd) (.map (some bq)) (.slice TB Tm Td) (.slice PB Pm Pd)
        have kq2:=hq2u.cell
        have zq2:=hq2u.lt
        have fq2:=hq2u.frozen
        refine rd_ [11] ?_
        refine ah1 rfl fun K hK=>?_
        go_simp
        refine hK.out _ _ (S1.grown f10.1 hS (by omega) (by omega)) (fun hS=>?_)
        clear hK K kq2 zq2 fq2
        (try simp only [Act.put,pu1,pu2,pu3])
        refine wpAnyH_done (by kernel_rfl) ?_ _
        exact ⟨B1,B2,⟨⟨pA,pn,pc,rA,rn,rc,tA,tn,tc,sA,sn,sc⟩,kn,RA,Rn,Rc,SA,Sn,Sc,bm,TA,Tn,Tc,PA,Pn,Pc⟩,⟨⟨yA,yn,yc,zA,zn,zc,uA,un,uc,vA,vn,vc⟩,kn,RB,Rm,Rd,SB,Sm,Sd,bq,TB,Tm,Td,PB,Pm,Pd⟩,IsFr2.of rfl,mv_fin (a1:=⟨⟨pA,pn,pc,rA,rn,rc,tA,tn,tc,sA,sn,sc⟩,kn,RA,Rn,Rc,SA,Sn,Sc,bm,TA,Tn,Tc,PA,Pn,Pc⟩) (a2:=⟨⟨yA,yn,yc,zA,zn,zc,uA,un,uc,vA,vn,vc⟩,kn,RB,Rm,Rd,SB,Sm,Sd,bq,TB,Tm,Td,PB,Pm,Pd⟩) HC HO1.out HO2.out HPO.out (exc_pos HPO.out) hq1 hq2u hne hz1 hz2 (bL0.ext hC0) (bD0.ext hC0) f9 f10⟩
      ·go_simp
       refine hK.out _ _ (S1.ext ((Below.refl _ _).alloc lr_ (.cells zAcc 115)) hS) (fun hS=>?_)
       clear hK K
       (try simp only [Act.put,pu1,pu2,pu3])
       have hb:Below w_50.heap.size w_50 (w_50.alloc (.cells zAcc 115)):=(Below.refl _ _).alloc lr_ _
       have hqn:BoxA (w_50.alloc (.cells zAcc 115)) w_50.heap.size 115 zAcc:=BoxA.new _ _ _
       have hzn:w.heap.size+2≤w_50.heap.size:=Nat.le_trans hV2 hC0.size
       have HC:=bt_ HC hb
       have hC0:=bt_ hC0 hb
       have hq2:=hq2.ext hb
       obtain ⟨w_60,hw_60⟩:∃ W,W=w_50.alloc (.cells zAcc 115):=⟨_,rfl⟩
       rw [← hw_60] at hqn HC hC0 hS hq2
       change wpAnyH _ _ _ _ _ _ _ _ (w_50.alloc (.cells zAcc 115))
       rw [← hw_60]
       obtain ⟨B1,hB1⟩:∃ B,B=w_50.heap.size:=⟨_,rfl⟩
       rw [← hB1] at hqn hzn ⊢
       have hq1:=hqn
       have hz1:=hzn
       have hne:B1≠B2:=by have:=hltq;omega
       have hltq:=hq1.lt
       clear hw_60 hB1 hb
       refine rd_ [2] ?_
       refine ah1 rfl fun K hK=>?_
       (go_simp;go_at_call 64;refine (p_openA l ⟨pA,pn,pc,rA,rn,rc,tA,tn,tc,sA,sn,sc⟩ kn _ HLO.out (HD.out.now HC)).mono ?_;rintro e w_61 ⟨RA,Rn,Rc,SA,Sn,Sc,bm,TA,Tn,Tc,PA,Pn,Pc,rfl,hb,hO⟩;go_simp)
       refine hK.out _ _ (S1.ext hb hS) (fun hS=>?_)
       clear hK K
       (try simp only [Act.put,pu1,pu2,pu3])
       have HC:=bt_ HC hb
       have hC0:=bt_ hC0 hb
       have hq1:=hq1.ext hb
       have hq2:=hq2.ext hb
       have HO1:=hd_ hO
       clear hO
       have hltq:B1<w_61.heap.size∧B2<w_61.heap.size:=⟨hq1.lt,hq2.lt⟩
       refine rd_ [5] ?_
       refine ah1 rfl fun K hK=>?_
       (go_simp;go_at_call 95;refine (p_except l ⟨pA,pn,pc,rA,rn,rc,tA,tn,tc,sA,sn,sc⟩ src _ HLO.out (HD.out.now HC)).mono ?_;rintro e w_62 ⟨⟨yA,yn,yc,zA,zn,zc,uA,un,uc,vA,vn,vc⟩,rfl,hb,hfy,hdy⟩;go_simp)
       refine hK.out _ _ (S1.ext hb hS) (fun hS=>?_)
       clear hK K
       (try simp only [Act.put,pu1,pu2,pu3])
       have HC:=bt_ HC hb
       have hC0:=bt_ hC0 hb
       have HO1:=hd_ (HO1.out.now hb)
       have hq1:=hq1.ext hb
       have hq2:=hq2.ext hb
       have HDY:=hd_ hdy
       clear hdy hfy
       have hltq:B1<w_62.heap.size∧B2<w_62.heap.size:=⟨hq1.lt,hq2.lt⟩
       refine rd_ [7] ?_
       refine ah1 rfl fun K hK=>?_
       (go_simp;go_at_call 64;refine (p_openA (excL l src) ⟨yA,yn,yc,zA,zn,zc,uA,un,uc,vA,vn,vc⟩ kn _ (HLO.out.exc src) HDY.out).mono ?_;rintro e w_63 ⟨RB,Rm,Rd,SB,Sm,Sd,bq,TB,Tm,Td,PB,Pm,Pd,rfl,hb,hO⟩;go_simp)
       refine hK.out _ _ (S1.ext hb hS) (fun hS=>?_)
       clear hK K
       (try simp only [Act.put,pu1,pu2,pu3])
       have HC:=bt_ HC hb
       have hC0:=bt_ hC0 hb
       have HO1:=hd_ (HO1.out.now hb)
       have HDY:=hd_ (HDY.out.now hb)
       have hq1:=hq1.ext hb
       have hq2:=hq2.ext hb
       have HO2:=hd_ hO
       clear hO
       have hltq:B1<w_63.heap.size∧B2<w_63.heap.size:=⟨hq1.lt,hq2.lt⟩
       have f9:=box10 hq1 (.slice pA pn pc) (.slice rA rn rc) (.slice tA tn tc) (.slice sA sn sc) (.int .i64 kn) (.slice RA Rn Rc) (.slice SA Sn Sc) (.map (some bm)) (.slice TA Tn Tc) (.slice PA Pn Pc)
       have kq1:=hq1.cell
       have zq1:=hq1.lt
       have fq1:=hq1.frozen
       refine rd_ [10] ?_
       refine ah1 rfl fun K hK=>?_
       go_simp
       refine hK.out _ _ (S1.grown f9.1 hS (by omega) (by omega)) (fun hS=>?_)
       clear hK K kq1 zq1 fq1
       (try simp only [Act.put,pu1,pu2,pu3])
       obtain ⟨u9,hu9⟩:∃ u9,u9=(World.setCell (World.setCell (World.setCell (World.setCell (World.setCell (World.setCell (World.setCell (World.setCell (World.setCell (World.setCell w_63 ⟨B1,0,none⟩ (.slice pA pn pc)) ⟨B1,1,none⟩ (.slice rA rn rc)) ⟨B1,2,none⟩ (.slice tA tn tc)) ⟨B1,3,none⟩ (.slice sA sn sc)) ⟨B1,4,none⟩ (.int .i64 kn)) ⟨B1,5,none⟩ (.slice RA Rn Rc)) ⟨B1,6,none⟩ (.slice SA Sn Sc)) ⟨B1,7,none⟩ (.map (some bm))) ⟨B1,8,none⟩ (.slice TA Tn Tc)) ⟨B1,9,none⟩ (.slice PA Pn Pc)):=⟨_,rfl⟩
       rw [← hu9] at hS f9 ⊢
       clear hu9
       have hq2u:BoxA u9 B2 115 zAcc:=hq2.kept f9.1 (fun e=>hne (by injection e with e;exact e.symm))
       have f10:=box10 hq2u (.slice yA yn yc) (.slice zA zn zc) (.slice uA un uc) (.slice vA vn vc) (.int .i64 kn) (.slice RB Rm Rd) (.slice SB Sm Sd) (.map (some bq)) (.slice TB Tm Td) (.slice PB Pm Pd)
       have kq2:=hq2u.cell
       have zq2:=hq2u.lt
       have fq2:=hq2u.frozen
       refine rd_ [11] ?_
       refine ah1 rfl fun K hK=>?_
       go_simp
       refine hK.out _ _ (S1.grown f10.1 hS (by omega) (by omega)) (fun hS=>?_)
       clear hK K kq2 zq2 fq2
       (try simp only [Act.put,pu1,pu2,pu3])
       refine wpAnyH_done (by kernel_rfl) ?_ _
       exact ⟨B1,B2,⟨⟨pA,pn,pc,rA,rn,rc,tA,tn,tc,sA,sn,sc⟩,kn,RA,Rn,Rc,SA,Sn,Sc,bm,TA,Tn,Tc,PA,Pn,Pc⟩,⟨⟨yA,yn,yc,zA,zn,zc,uA,un,uc,vA,vn,vc⟩,kn,RB,Rm,Rd,SB,Sm,Sd,bq,TB,Tm,Td,PB,Pm,Pd⟩,IsFr2.of rfl,mv_fin (a1:=⟨⟨pA,pn,pc,rA,rn,rc,tA,tn,tc,sA,sn,sc⟩,kn,RA,Rn,Rc,SA,Sn,Sc,bm,TA,Tn,Tc,PA,Pn,Pc⟩) (a2:=⟨⟨yA,yn,yc,zA,zn,zc,uA,un,uc,vA,vn,vc⟩,kn,RB,Rm,Rd,SB,Sm,Sd,bq,TB,Tm,Td,PB,Pm,Pd⟩) HC HO1.out HO2.out HPO.out (exc_pos HPO.out) hq1 hq2u hne hz1 hz2 (bL0.ext hC0) (bD0.ext hC0) f9 f10⟩
    case rest6 =>
     clear hf2 bL3 bD3 kL3 kD3 zL3 zD3 HB3 HO3
     rintro a' W6 ⟨q1,q2,a1,a2,⟨u6,rfl⟩,hM⟩
     have HM:=hd_ hM
     clear hM
     have hz1:=HM.out.z1
     have hz2:=HM.out.z2
     have hne:=HM.out.hne
     have hmf:∀ (fn:Fn) (first cap:Array Value) (w:World),(Instr.makeFunc fn first cap).run Tryz.prog w=.ok (.func fn first cap) w:=fun _ _ _ _=>rfl
     obtain ⟨e1,he1⟩:∃ e,setE l kn=e:=⟨_,rfl⟩
     obtain ⟨e2,he2⟩:∃ e,setE (excL l src) kn=e:=⟨_,rfl⟩
     rw [he1,he2] at HM0
     by_cases y1:e1=0
     ·subst y1
      have HE1:=hd_ he1
      clear he1
      by_cases y2:e2=0
      ·subst y2
       have HE2:=hd_ he2
       clear he2
       go_wp2_with fail
       refine (p_settleE0 l kn a1 q1 _ HLO.out HM.out.o1 HM.out.b1 HE1.out).mono ?_
       rintro e w7 ⟨w7a,PA2,Pc2,rfl,hb7,hw7,h9,hbx7,hac7⟩
       have HB7:Below w.heap.size w w7:=by rw [hw7];exact (bt_ HM.out.hB hb7).setCell (show w.heap.size≤q1 by omega) _
       have HO7:=hd_ (h9.opn (HM.out.o2.now hb7))
       have b27:=h9.box2 (HM.out.b2.ext hb7) (Ne.symm hne)
       have bL7:=h9.box2 (HM.out.bL.ext hb7) (show w.heap.size≠q1 by omega)
       have bD7:=h9.box2 (HM.out.bD.ext hb7) (show w.heap.size+1≠q1 by omega)
       have HAC7:=hd_ hac7
       have HBX7:=hd_ hbx7
       clear hb7 hw7 h9 hac7 hbx7
       go_wp2_with fail
       refine (p_settleE0 (excL l src) kn a2 q2 _ (HLO.out.exc src) HO7.out b27 HE2.out).mono ?_
       rintro e w8 ⟨w8a,PA3,Pc3,rfl,hb8,hw8,h9,hbx8,hac8⟩
       have HB8:Below w.heap.size w w8:=by rw [hw8];exact (bt_ HB7 hb8).setCell (show w.heap.size≤q2 by omega) _
       have bL8:=h9.box2 (bL7.ext hb8) (show w.heap.size≠q2 by omega)
       have bD8:=h9.box2 (bD7.ext hb8) (show w.heap.size+1≠q2 by omega)
       have HA1:=hd_ (h9.acc (HAC7.out.now hb8))
       have HX1:=hd_ (h9.box2 (HBX7.out.ext hb8) hne)
       have HA2:=hd_ hac8
       have HX2:=hd_ hbx8
       have kL8:=bL8.cell
       have zL8:=bL8.lt
       clear hb8 hw8 h9 hac8 hbx8
       have HRES:Hid (movX l src day kn=(movL l src day kn,0)):=by show _=_;rw [HM0.out];simp
       go_wp2_with fail
       refine (p_folios l ⟨pA,pn,pc,rA,rn,rc,tA,tn,tc,sA,sn,sc⟩ _ hpn6 HLO.out.pp (HD.out.now HB8)).mono ?_
       rintro e w9 ⟨v9,rfl,hb9,ho9⟩
       obtain ⟨A9,c9,rfl,hc9⟩:=own_slice ho9
       have HB9:Below w.heap.size w w9:=bt_ HB8 hb9
       have HO9:=hd_ ho9
       have HB89:=hd_ hb9
       have hfl:(folL l.pp).length≤1000000:=Nat.le_trans (folL_len HLO.out) (by decide)
       clear ho9 hb9
       go_wp2_with fail
       refine (l_deleteFol (folL l.pp) (fun f=>decide (whL l kn day f=whL (excL l src) kn day f)) q1 (w.heap.size+1) q2 w8.heap.size _ _ w9 hfl rfl HO9.out HB89.out.size (fun W hg f hf=>?_)).mono ?_
       ·have hbW:Below w8.heap.size w8 W:=HB89.out.grown hg HB89.out.size (fun b hb=>own_le HO9.out hb)
        exact p_moved1 _ _ _ _ _ _ _ _ f day q1 (w.heap.size+1) q2 W (HA1.out.now hbW) (HA2.out.now hbW) (fol_wf HLO.out f hf) (HX1.out.ext hbW) (HX2.out.ext hbW) (bD8.ext hbW)
       ·rintro e w10 ⟨v10,rfl,ho10,hg10,hob⟩
        obtain ⟨A10,c10,rfl,hc10⟩:=own_slice ho10
        have HB10:Below w.heap.size w w10:=HB9.grown hg10 HB9.size (fun b hb=>Nat.le_trans HB8.size (own_le HO9.out hb))
        have HO10:=hd_ (own_dn ho10 HB8.size)
        clear ho10
        go_wp2
        go_ret2
        rw [HRES.out]
        exact ⟨A10,_,c10,rfl,HB10,HO10.out,rfl⟩
      ·have HE2:=hd_ he2
       have HY2:=hd_ y2
       have hq:((0:Int) != e2)=true:=by simpa using fun e:(0:Int)=e2=>y2 e.symm
       have HRES:Hid (movX l src day kn=(folL l.pp,0)):=by show _=_;rw [HM0.out,if_neg (fun e=>y2 e.symm)]
       clear he2 y2
       go_wp2_with fail
       refine (p_settleE0 l kn a1 q1 _ HLO.out HM.out.o1 HM.out.b1 HE1.out).mono ?_
       rintro e w7 ⟨w7a,PA2,Pc2,rfl,hb7,hw7,h9,hbx7,hac7⟩
       have HB7:Below w.heap.size w w7:=by rw [hw7];exact (bt_ HM.out.hB hb7).setCell (show w.heap.size≤q1 by omega) _
       have HO7:=hd_ (h9.opn (HM.out.o2.now hb7))
       have b27:=h9.box2 (HM.out.b2.ext hb7) (Ne.symm hne)
       have bL7:=h9.box2 (HM.out.bL.ext hb7) (show w.heap.size≠q1 by omega)
       have bD7:=h9.box2 (HM.out.bD.ext hb7) (show w.heap.size+1≠q1 by omega)
       have HAC7:=hd_ hac7
       have HBX7:=hd_ hbx7
       clear hb7 hw7 h9 hac7 hbx7
       go_wp2_with fail
       refine (p_settleEN (excL l src) kn a2 e2 q2 _ (HLO.out.exc src) HO7.out b27 HE2.out HY2.out).mono ?_
       rintro e w8 ⟨rfl,hb8⟩
       have HB8:Below w.heap.size w w8:=bt_ HB7 hb8
       have bL8:=bL7.ext hb8
       have kL8:=bL8.cell
       have zL8:=bL8.lt
       clear hb8
       go_wp2_with fail
       refine (p_folios l ⟨pA,pn,pc,rA,rn,rc,tA,tn,tc,sA,sn,sc⟩ _ hpn6 HLO.out.pp (HD.out.now HB8)).mono ?_
       rintro e w9 ⟨v9,rfl,hb9,ho9⟩
       obtain ⟨A9,c9,rfl,hc9⟩:=own_slice ho9
       have HB9:Below w.heap.size w w9:=bt_ HB8 hb9
       have HO9:=hd_ (own_dn ho9 HB8.size)
       clear ho9
       go_wp2
       go_ret2
       rw [HRES.out]
       exact ⟨A9,_,c9,rfl,HB9,HO9.out,rfl⟩
     ·have HE1:=hd_ he1
      have HY1:=hd_ y1
      clear he1
      by_cases y2:e2=0
      ·subst y2
       have HE2:=hd_ he2
       have hq:(e1 != 0)=true:=by simpa using y1
       have HRES:Hid (movX l src day kn=(folL l.pp,0)):=by show _=_;rw [HM0.out,if_neg y1]
       clear he2 y1
       go_wp2_with fail
       refine (p_settleEN l kn a1 e1 q1 _ HLO.out HM.out.o1 HM.out.b1 HE1.out HY1.out).mono ?_
       rintro e w7 ⟨rfl,hb7⟩
       have HB7:Below w.heap.size w w7:=bt_ HM.out.hB hb7
       have HO7:=hd_ (HM.out.o2.now hb7)
       have b27:=HM.out.b2.ext hb7
       have bL7:=HM.out.bL.ext hb7
       have bD7:=HM.out.bD.ext hb7
       clear hb7
       go_wp2_with fail
       refine (p_settleE0 (excL l src) kn a2 q2 _ (HLO.out.exc src) HO7.out b27 HE2.out).mono ?_
       rintro e w8 ⟨w8a,PA3,Pc3,rfl,hb8,hw8,h9,hbx8,hac8⟩
       have HB8:Below w.heap.size w w8:=by rw [hw8];exact (bt_ HB7 hb8).setCell (show w.heap.size≤q2 by omega) _
       have bL8:=h9.box2 (bL7.ext hb8) (show w.heap.size≠q2 by omega)
       have bD8:=h9.box2 (bD7.ext hb8) (show w.heap.size+1≠q2 by omega)
       have kL8:=bL8.cell
       have zL8:=bL8.lt
       clear hb8 hw8 h9 hac8 hbx8
       go_wp2_with fail
       refine (p_folios l ⟨pA,pn,pc,rA,rn,rc,tA,tn,tc,sA,sn,sc⟩ _ hpn6 HLO.out.pp (HD.out.now HB8)).mono ?_
       rintro e w9 ⟨v9,rfl,hb9,ho9⟩
       obtain ⟨A9,c9,rfl,hc9⟩:=own_slice ho9
       have HB9:Below w.heap.size w w9:=bt_ HB8 hb9
       have HO9:=hd_ (own_dn ho9 HB8.size)
       clear ho9
       go_wp2
       go_ret2
       rw [HRES.out]
       exact ⟨A9,_,c9,rfl,HB9,HO9.out,rfl⟩
      ·have HE2:=hd_ he2
       have HY2:=hd_ y2
       clear he2
       by_cases y3:e1=e2
       ·have hq:(e1 != e2)=false:=by simpa using y3
        have hq0:(e1 != 0)=true:=by simpa using y1
        have HRES:Hid (movX l src day kn=([],0)):=by show _=_;rw [HM0.out,if_pos y3,if_neg y1]
        clear y1 y2 y3
        go_wp2_with fail
        refine (p_settleEN l kn a1 e1 q1 _ HLO.out HM.out.o1 HM.out.b1 HE1.out HY1.out).mono ?_
        rintro e w7 ⟨rfl,hb7⟩
        have HB7:Below w.heap.size w w7:=bt_ HM.out.hB hb7
        have HO7:=hd_ (HM.out.o2.now hb7)
        have b27:=HM.out.b2.ext hb7
        have bL7:=HM.out.bL.ext hb7
        have bD7:=HM.out.bD.ext hb7
        clear hb7
        go_wp2_with fail
        refine (p_settleEN (excL l src) kn a2 e2 q2 _ (HLO.out.exc src) HO7.out b27 HE2.out HY2.out).mono ?_
        rintro e w8 ⟨rfl,hb8⟩
        have HB8:Below w.heap.size w w8:=bt_ HB7 hb8
        have bL8:=bL7.ext hb8
        have kL8:=bL8.cell
        have zL8:=bL8.lt
        clear hb8
        go_wp2
        go_ret2
        rw [HRES.out]
        exact RetFE.err HB8
       ·have hq:(e1 != e2)=true:=by simpa using y3
        have HRES:Hid (movX l src day kn=(folL l.pp,0)):=by show _=_;rw [HM0.out,if_neg y3]
        clear y1 y2 y3
        go_wp2_with fail
        refine (p_settleEN l kn a1 e1 q1 _ HLO.out HM.out.o1 HM.out.b1 HE1.out HY1.out).mono ?_
        rintro e w7 ⟨rfl,hb7⟩
        have HB7:Below w.heap.size w w7:=bt_ HM.out.hB hb7
        have HO7:=hd_ (HM.out.o2.now hb7)
        have b27:=HM.out.b2.ext hb7
        have bL7:=HM.out.bL.ext hb7
        have bD7:=HM.out.bD.ext hb7
        clear hb7
        go_wp2_with fail
        refine (p_settleEN (excL l src) kn a2 e2 q2 _ (HLO.out.exc src) HO7.out b27 HE2.out HY2.out).mono ?_
        rintro e w8 ⟨rfl,hb8⟩
        have HB8:Below w.heap.size w w8:=bt_ HB7 hb8
        have bL8:=bL7.ext hb8
        have kL8:=bL8.cell
        have zL8:=bL8.lt
        clear hb8
        go_wp2_with fail
        refine (p_folios l ⟨pA,pn,pc,rA,rn,rc,tA,tn,tc,sA,sn,sc⟩ _ hpn6 HLO.out.pp (HD.out.now HB8)).mono ?_
        rintro e w9 ⟨v9,rfl,hb9,ho9⟩
        obtain ⟨A9,c9,rfl,hc9⟩:=own_slice ho9
        have HB9:Below w.heap.size w w9:=bt_ HB8 hb9
        have HO9:=hd_ (own_dn ho9 HB8.size)
        clear ho9
        go_wp2
        go_ret2
        rw [HRES.out]
        exact ⟨A9,_,c9,rfl,HB9,HO9.out,rfl⟩
   ·have HIN:Hid (decide (src∈srcL l)=false):=by show _=_;simpa using hin
    have HRES:Hid (movX l src day kn=([],3)):=by show _=_;rw [movX,if_pos HVP.out,if_neg hin]
    clear hin
    go_wp2_with (first | (go_at_call 88;refine (p_sources l ⟨pA,pn,pc,rA,rn,rc,tA,tn,tc,sA,sn,sc⟩ _ hrn6 htn6 hsn6 (HD.out.now HB2)).mono ?_;rintro e w3 ⟨v3,rfl,hb3,ho3⟩;obtain ⟨A3,c3,rfl,hc3⟩:=own_slice ho3;have HB3:Below w.heap.size w w3:=bt_ HB2 hb3;have HO3:=hd_ ho3;have bL3:=bL2.ext hb3;have bD3:=bD2.ext hb3;have kL3:=bL3.cell;have zL3:=bL3.lt;have kD3:=bD3.cell;have zD3:=bD3.lt;clear kL2 kD2 zL2 zD2 ho3 hb3) | (go_at_call 71;refine (l_contains (srcL l) src false A3 (srcL l).length c3 _ hsl (Rd.of_own HO3.out) HIN.out).mono ?_;rintro e w4 ⟨rfl,rfl⟩))
    go_ret2
    rw [HRES.out]
    exact RetFE.err HB3
  ·have hres:movX l src day kn=([],vp):=by rw [movX,if_neg (by rw [HVP.out];exact hv0),HVP.out]
   have HRES:=hd_ hres
   have hv1:(vp != 0)=true:=by simpa using hv0
   clear hres hv0
   go_wp2
   go_ret2
   rw [HRES.out]
   exact RetFE.err HB2
end Go.Proofs.YtmcmbicapdcfmaaGreat
