/- Layer 2 of the texts that LoanBack takes: Bbzq. -/
import Derived.Test.YtmcmbicapdcfmaaGreatBbrq
import Derived.Test.YtmcmbicapdcfmaaGreatBbvq
import Derived.Test.YtmcmbicapdcfmaaGreatBbxq
import Derived.Test.YtmcmbicapdcfmaaGreatBbyq
set_option linter.unusedVariables false
set_option linter.unusedSimpArgs false
set_option maxHeartbeats 16000000
namespace Go.Proofs.YtmcmbicapdcfmaaGreat
open Go.RowKit Go.Maps
set_option maxRecDepth 100000 in
theorem r_Honest (x:Rsl) (r:RawL) (w:World) (hf:x.fit) (hd:RawIn w x r) :
 Calls Tryz.prog 10 #[.agg #[.slice x.aA x.an x.ac,.slice x.bA x.bn x.bc,.slice x.cA x.cn x.cc]] w (RetHon w):=by
 obtain ⟨aA,an,ac,bA,bn,bc,cA,cn,cc⟩:=x
 obtain ⟨iR,hiR,hz0R,hz1R,hz2R⟩:=info_parts infoClRcpt
 obtain ⟨iT,hiT,hz0T,hz1T,hz2T⟩:=info_parts infoClRetn
 obtain ⟨iS,hiS,hz0S,hz1S,hz2S⟩:=info_parts infoClSight
 obtain ⟨i0,hi,hz0,hz1,hz2⟩:=info_parts infoI2
 have HRC:Hid (Rd w w.heap.size 5 cA cn (intL r.c)):=by show Rd _ _ _ _ _ _;exact hd.c
 have hml:maxLen≤9223372036854775807:=by decide
 have hcn:cn≤9223372036854775807:=by have:=hf.c;dsimp only at this;omega
 have HF3:Hid (Rsl.fit ⟨aA,an,ac,bA,bn,bc,none,0,0⟩):=by show Rsl.fit _;exact ⟨hf.a,hf.b,⟨Nat.le_refl 0,Nat.zero_le _⟩⟩
 have HD3:Hid (∀ W:World,Below w.heap.size w W→RawIn W ⟨aA,an,ac,bA,bn,bc,none,0,0⟩ ⟨r.a,r.b,[]⟩):=by
  show ∀ _,_
  exact fun W hW=>⟨(hd.now hW).a,(hd.now hW).b,⟨rfl,fun h=>absurd h (Nat.lt_irrefl 0)⟩⟩
 have B2:=box2 w 25 32 #[.slice aA an ac,.slice bA bn bc,.slice cA cn cc] #[.slice none 0 0,.slice none 0 0,.slice none 0 0,.slice none 0 0]
 have HX0:=hd_ B2.1
 have HZ0:=hd_ B2.2
 clear hd hf hml B2
 go_enter Tryz.func10,Tryz.ntmps10
 go_wp2_with fail
 refine (r_Made ⟨aA,an,ac,bA,bn,bc,none,0,0⟩ ⟨r.a,r.b,[]⟩ _ HF3.out (HD3.out _ (by exact bel_))).mono ?_
 rintro e wm ⟨y,l,days,DD,dc,d,rfl,hb1,hfy,hl,hM,hdd,hdc1,hdc2⟩
 obtain ⟨pA,pn,pc,rA,rn,rc,tA,tn,tc,sA,sn,sc⟩:=y
 have HB1:Below w.heap.size w wm:=bt_ (by exact bel_) hb1
 have HX1:=hd_ (HX0.out.ext hb1)
 have HZ1:=hd_ (HZ0.out.ext hb1)
 have hdn:days.length=tn:=by have h1:=hM.dl;have h2:=hl.t.len;dsimp only at h2;omega
 rw [hdn] at hdd hdc1 ⊢
 have HLD:=hd_ hl
 have HFY:=hd_ hfy
 have HM:=hd_ hM
 have HDD:=hd_ hdd
 have HDN:=hd_ hdn
 have hsm:=HB1.size
 have hxm:=HX1.out.lt
 have hzm:=HZ1.out.lt
 clear hb1 hfy hl hM hdd hdn HF3 HD3 HX0 HZ0
 go_upto_region 2 with fail
 refine wp_named2 fun f2 W2 hf2 hW2=>?_
 have bL:BoxA W2 wm.heap.size 32 #[.slice pA pn pc,.slice rA rn rc,.slice tA tn tc,.slice sA sn sc]:=by rw [← hW2];exact BoxA.new _ _ _
 have h12:Below wm.heap.size wm W2:=by rw [← hW2];exact bel_
 have hs2:=h12.size
 have HB2:Hid (Below w.heap.size w W2):=by show Below _ _ _;exact bt_ HB1 h12
 have HL2:=hd_ (HLD.out.now h12)
 have HX2:=hd_ (HX1.out.ext h12)
 have HZ2:=hd_ (HZ1.out.ext h12)
 have HDY:Hid (Is W2 W2.heap.size DD tn days):=by show Is _ _ _ _ _;exact HDD.out.now h12
 have HBL2:=hd_ bL
 have kL:=bL.cell
 have zL:=bL.lt
 clear hW2 h12 bL HLD HX1 HZ1 HDD HB1
 subst hf2
 have hrx:=rvs_rd HL2.out.r
 have htx:=tvs_of HL2.out.t
 dsimp only at hrx htx
 obtain ⟨XR,hXR,hRR,hRL⟩:=hrx
 obtain ⟨XT,hXT,hRT,hTL⟩:=htx
 have HRR:Hid (Rd W2 W2.heap.size 7 rA rn (XR.flatMap rvC)):=by show Rd _ _ _ _ _ _;exact hRR
 have HRT:Hid (Rd W2 W2.heap.size 8 tA tn (XT.flatMap tvC)):=by show Rd _ _ _ _ _ _;exact hRT
 have HLR:Hid (XR.length=rn):=by show _=_;have h:=HL2.out.r.len;dsimp only at h;rw [← h,← hXR,List.length_map]
 have HLT:Hid (XT.length=tn):=by show _=_;have h:=HL2.out.t.len;dsimp only at h;rw [← h,← hXT,List.length_map]
 have hrn8:rn≤8:=by have h1:=HL2.out.r.len;have h2:=HM.out.rl;dsimp only at h1;omega
 have htn8:tn≤8:=by have h1:=HL2.out.t.len;have h2:=HM.out.tl;dsimp only at h1;omega
 have HXR:=hd_ hXR
 have HXT:=hd_ hXT
 have HRL:=hd_ hRL
 have HTL:=hd_ hTL
 have HLO:Hid (LedOk l):=by show LedOk _;exact led_ok HM.out.led
 clear hXR hXT hRR hRT hRL hTL
 go_upto_region 3 with fail
 refine wp_named2 fun f3 wv hf3 hwv=>?_
 have bA:BoxA wv W2.heap.size 32 #[.slice pA pn pc,.slice rA rn rc,.slice none 0 0,.slice none 0 0]:=by rw [← hwv];exact BoxA.new _ _ _
 have h2v:Below W2.heap.size W2 wv:=by rw [← hwv];exact bel_
 have HBA:=hd_ bA
 have H2V:=hd_ h2v
 have hwv1:=h2v.size
 have hqq:W2.heap.size≤W2.heap.size∧W2.heap.size<wv.heap.size:=⟨lr_,bA.lt⟩
 clear hwv kL zL bA h2v
 subst hf3
 go_wp2_with fail
 go_loopw [7,8] (fun dv i wr=>∃ k:Nat,k≤tn∧i=.int .i64 k∧∃ (AT:Option Addr) (mT cT mD:Nat) (TV:List Tv) (DL:List Int),HdI W2 wv wr W2.heap.size #[.slice pA pn pc,.slice rA rn rc,.slice AT mT cT,.slice none 0 0] 0 (.slice none 0 0) [] mT (.slice AT mT cT) TV mD dv DL∧Iv1 l XT k TV DL) (fun _ i _=>tn - (intOf i).toNat)
 case atStart=>exact ⟨0,by omega,rfl,none,0,0,0,[],[],HdI.start H2V.out HBA.out,Iv1.nil _ _⟩
 case round =>
  obtain ⟨k,hk,rfl,AT,mT,cT,mD,TV,DL,hI,hV⟩:=hrel
  have hsz:=hI.wo.sz
  have hB:Below W2.heap.size W2 wr:=hI.wo.bel
  have hszB:=hB.size
  have bX:BoxA wr wm.heap.size 32 #[.slice pA pn pc,.slice rA rn rc,.slice tA tn tc,.slice sA sn sc]:=HBL2.out.ext hB
  have bO:=hI.wo.bO
  have kX:=bX.cell
  have zX:=bX.lt
  have kO:=bO.cell
  have zO:=bO.lt
  have hlT:=own_len hI.wo.t (fun _=>rfl) (by decide)
  have hlV:=hV.len
  have hlX:=HLT.out
  have hmT:mT≤8:=by omega
  have hlD:=hI.d.1
  have hlP:=hV.pd.1
  have hmD:mD=TV.length:=by simp [intL] at hlD;omega
  have hmD8:mD≤8:=by omega
  have HI:=hd_ hI
  have HV:=hd_ hV
  have HB:=hd_ hB
  have HX:=hd_ bX
  have HOB:=hd_ bO
  clear hI hV hB bX bO hlT hlV hlX hlD hlP
  by_cases hlt:k<tn
  ·obtain ⟨z,hz⟩:∃ z,XT[k]?=some z:=⟨_,List.getElem?_eq_getElem (by rw [HLT.out];exact hlt)⟩
   obtain ⟨b,o,hA,hb,hec⟩:=elemB HRT.out (flat_get tvC 8 (fun _=>rfl)) (fun _=>rfl) hz hlt
   obtain ⟨bd,od,yd,hDA,hbd,hyd,hcd⟩:=HDY.out.at_ hlt
   have hb1:b<wv.heap.size:=by omega
   have hbr:b<wr.heap.size:=by omega
   have hec2:∀ m u,(tvC z)[m]?=some u→wr.cell? ⟨b,o+k*8+m,none⟩=some u:=fun m u hu=>(HB.out.cell (p:=⟨b,o+k*8+m,none⟩) hb).trans (hec m u hu)
   subst hA
   subst hDA
   have g1:=hec2 1 _ rfl
   have HEC:=hd_ hec2
   have HZK:=hd_ hz
   have HYD:=hd_ hyd
   have HCD:=hd_ hcd
   obtain ⟨q,hq⟩:∃ q,rcIx l.rc z.r.rcp 900=q:=⟨_,rfl⟩
   have HQ:=hd_ hq
   have HQI:Hid (ixI (rcIx l.rc z.r.rcp 900)=ixI q):=by show _=_;rw [hq]
   have hrn6:rn≤1000000:=by omega
   clear hec hec2 hz hyd hcd hq
   go_wp2_with fail
   (refine rg_ ?_;(repeat (go_big_quiet_step ((first | (go_at_call_of 39 (Value.agg #[.slice pA pn pc,.slice rA rn rc,.slice (some ⟨b,o,none⟩) tn tc,.slice sA sn sc]);exact Calls.grow_all (fun g=>r_receiptOf_v l ⟨pA,pn,pc,rA,rn,rc,some ⟨b,o,none⟩,tn,tc,sA,sn,sc⟩ z.r.rcp 900 (ixI q) g.1 hrn6 ((HL2.out.now HB.out).now g.2) HQI.out))))));refine qn_ fun w1 hb1 hc1 hf1=>?_)
   obtain ⟨w8,hw8⟩:∃ w8,w8=w1:=⟨_,rfl⟩
   have h8:Below wr.heap.size wr w8:=by rw [hw8];exact hb1
   rw [← hw8]
   clear hb1 hc1 hf1 hw8 kX zX kO zO g1
   have hs8:=h8.size
   have HI8:=hd_ (HI.out.ext h8)
   have HX8:=hd_ (HX.out.ext h8)
   have HOB8:=hd_ (HOB.out.ext h8)
   have HB8:Hid (Below W2.heap.size W2 w8):=by show Below _ _ _;exact bt_ HB.out h8
   have HEC8:Hid (∀ m u,(tvC z)[m]?=some u→w8.cell? ⟨b,o+k*8+m,none⟩=some u):=by
    show ∀ _,_
    exact fun m u hu=>(h8.cell (p:=⟨b,o+k*8+m,none⟩) hbr).trans (HEC.out m u hu)
   have hbr8:b<w8.heap.size:=by omega
   have hsz8:=HI8.out.wo.sz
   clear HI HX HOB HEC hbr hsz h8
   cases q with
   | none =>
     have hneg:decide ((-1:Int)≥0)=false:=by decide
     simp only [ixI]
     go_wp2_with fail
     (refine rg_ ?_;(repeat (go_big_quiet_step (fail)));refine qn_ fun w1 hb1 hc1 hf1=>?_)
     go_wp2_with fail
     go_roundw
     case rel=>exact ⟨k+1,by omega,by go_num,AT,mT,cT,mD,TV,DL,HI8.out.ext hb1,HV.out.skip HZK.out⟩
     case measure=>exact ms_
   | some i =>
     obtain ⟨rr,hrr,hrs,-⟩:=rcIx_some HQ.out
     have hia:i<rn:=by have h:=HL2.out.r.len;dsimp only at h;rw [← h];exact (List.getElem?_eq_some_iff.1 hrr).1
     obtain ⟨bx,ox,rr',hRA,hbx,hxx,A1,n1,c1,⟨-,-,-,-,g4,-,-⟩,-,-,-⟩:=HL2.out.r.at_ hia
     dsimp only at hRA
     obtain rfl:rr=rr':=Option.some.inj (hrr.symm.trans hxx)
     have hLT:late l z.r yd=decide (rr.day<yd):=by rw [late,HQ.out];simp only [hrr]
     have HLT2:=hd_ hLT
     subst hRA
     have kL:=HX8.out.cell
     have zL:=HX8.out.lt
     have d4:=(HB8.out.cell (p:=⟨bx,ox+i*7+4,none⟩) hbx).trans g4
     have hbx8:bx<w8.heap.size:=by omega
     have e0:=(HB8.out.cell (p:=⟨bd,od+k,none⟩) hbd).trans HCD.out
     have hbd8:bd<w8.heap.size:=by omega
     have hpos:decide ((i:Int)≥0)=true:=by simp
     clear hrr hrs hxx g4 hLT
     simp only [ixI]
     cases hdg:decide (yd>rr.day) with
     | false =>
       go_wp2_with fail
       (refine rg_ ?_;(repeat (go_big_quiet_step (fail)));refine qn_ fun w1 hb1 hc1 hf1=>?_)
       go_wp2_with fail
       go_roundw
       case rel=>exact ⟨k+1,by omega,by go_num,AT,mT,cT,mD,TV,DL,HI8.out.ext hb1,HV.out.skip HZK.out⟩
       case measure=>exact ms_
     | true =>
       have HLV:Hid (late l z.r yd=true):=by show _=_;rw [HLT2.out];exact hdg
       clear HLT2
       go_wp2_with fail
       (refine rg_ ?_;(repeat (go_big_quiet_step (fail)));refine qn_ fun w1 hb1 hc1 hf1=>?_)
       obtain ⟨w9,hw9⟩:∃ w9,w9=w1:=⟨_,rfl⟩
       have h9:Below w8.heap.size w8 w9:=by rw [hw9];exact hb1
       rw [← hw9]
       clear hb1 hc1 hf1 hw9 kL zL d4 e0
       have hs9:=h9.size
       have HI9:=hd_ (HI8.out.ext h9)
       have HX9:=hd_ (HX8.out.ext h9)
       have HOB9:=hd_ (HOB8.out.ext h9)
       have HEC9:Hid (∀ m u,(tvC z)[m]?=some u→w9.cell? ⟨b,o+k*8+m,none⟩=some u):=by
        show ∀ _,_
        exact fun m u hu=>(h9.cell (p:=⟨b,o+k*8+m,none⟩) hbr8).trans (HEC8.out m u hu)
       have hbr9:b<w9.heap.size:=by omega
       have hsz9:=HI9.out.wo.sz
       clear HI8 HX8 HOB8 HEC8 hbr8 hsz8 h9 hbx8 hbd8
       have HRA:Hid (Below W2.heap.size W2 w9):=by show Below _ _ _;exact HI9.out.wo.bel
       go_wp2_with fail
       (refine wp_region_sink_lit (S:=SW wm.heap.size W2.heap.size #[.slice pA pn pc,.slice (some ⟨bx,ox,none⟩) rn rc,.slice (some ⟨b,o,none⟩) tn tc,.slice sA sn sc] #[.slice pA pn pc,.slice (some ⟨bx,ox,none⟩) rn rc,.slice AT mT cT,.slice none 0 0] b (o+k*8) (tvC z)) 10 (by kernel_rfl) rfl rfl (by kernel_rfl) (by kernel_rfl) ⟨⟨HX9.out.cell,HOB9.out.cell,HX9.out.lt,HOB9.out.lt⟩,hbr9,HEC9.out⟩ (fun hS=>?_);simp only [List.take_succ_cons,List.take_zero,List.reduceReplicate,Array.replicate_succ,Array.replicate_zero])
       refine wpAnyH_abs (fun _ _ _ _ _ h=>h) (by kernel_rfl) (fun L Q HL HQ HP HN=>?_)
       (refine wpAnyH_takeL (i:=0) (v:=?_) HL HP HN rfl (by kernel_rfl) (by kernel_rfl) rfl ?_ hS ?_;rotate_left;focus (intro w2 hw2;obtain ⟨⟨x1,x2,z1,z2⟩,z3,hec⟩:=hw2;have g0:=hec 0 _ rfl;have g1:=hec 1 _ rfl;have g2:=hec 2 _ rfl;have g3:=hec 3 _ rfl;have g4:=hec 4 _ rfl;have g5:=hec 5 _ rfl;have g6:=hec 6 _ rfl;have g7:=hec 7 _ rfl;simp only [Nat.add_zero] at g0;clear hec;go_simp;first | done | with_reducible rfl);(try simp only [Act.put,pu1,pu2,pu3]))
       (refine wpAnyH_takeL (i:=1) (v:=?_) HL HP HN rfl (by kernel_rfl) (by kernel_rfl) rfl ?_ hS ?_;rotate_left;focus (intro w2 hw2;obtain ⟨⟨x1,x2,z1,z2⟩,z3,hec⟩:=hw2;have g0:=hec 0 _ rfl;have g1:=hec 1 _ rfl;have g2:=hec 2 _ rfl;have g3:=hec 3 _ rfl;have g4:=hec 4 _ rfl;have g5:=hec 5 _ rfl;have g6:=hec 6 _ rfl;have g7:=hec 7 _ rfl;simp only [Nat.add_zero] at g0;clear hec;go_simp;first | done | with_reducible rfl);(try simp only [Act.put,pu1,pu2,pu3]))
       (refine wpAnyH_takeL (i:=2) (v:=?_) HL HP HN rfl (by kernel_rfl) (by kernel_rfl) rfl ?_ hS ?_;rotate_left;focus (intro w2 hw2;obtain ⟨⟨x1,x2,z1,z2⟩,z3,hec⟩:=hw2;have g0:=hec 0 _ rfl;have g1:=hec 1 _ rfl;have g2:=hec 2 _ rfl;have g3:=hec 3 _ rfl;have g4:=hec 4 _ rfl;have g5:=hec 5 _ rfl;have g6:=hec 6 _ rfl;have g7:=hec 7 _ rfl;simp only [Nat.add_zero] at g0;clear hec;go_simp;first | done | with_reducible rfl);(try simp only [Act.put,pu1,pu2,pu3]))
       (refine wpAnyH_takeL (i:=3) (v:=?_) HL HP HN rfl (by kernel_rfl) (by kernel_rfl) rfl ?_ hS ?_;rotate_left;focus (intro w2 hw2;obtain ⟨⟨x1,x2,z1,z2⟩,z3,hec⟩:=hw2;have g0:=hec 0 _ rfl;have g1:=hec 1 _ rfl;have g2:=hec 2 _ rfl;have g3:=hec 3 _ rfl;have g4:=hec 4 _ rfl;have g5:=hec 5 _ rfl;have g6:=hec 6 _ rfl;have g7:=hec 7 _ rfl;simp only [Nat.add_zero] at g0;clear hec;go_simp;first | done | with_reducible rfl);(try simp only [Act.put,pu1,pu2,pu3]))
       (refine wpAnyH_takeL (i:=4) (v:=?_) HL HP HN rfl (by kernel_rfl) (by kernel_rfl) rfl ?_ hS ?_;rotate_left;focus (intro w2 hw2;obtain ⟨⟨x1,x2,z1,z2⟩,z3,hec⟩:=hw2;have g0:=hec 0 _ rfl;have g1:=hec 1 _ rfl;have g2:=hec 2 _ rfl;have g3:=hec 3 _ rfl;have g4:=hec 4 _ rfl;have g5:=hec 5 _ rfl;have g6:=hec 6 _ rfl;have g7:=hec 7 _ rfl;simp only [Nat.add_zero] at g0;clear hec;go_simp;first | done | with_reducible rfl);(try simp only [Act.put,pu1,pu2,pu3]))
       (refine wpAnyH_takeL (i:=5) (v:=?_) HL HP HN rfl (by kernel_rfl) (by kernel_rfl) rfl ?_ hS ?_;rotate_left;focus (intro w2 hw2;obtain ⟨⟨x1,x2,z1,z2⟩,z3,hec⟩:=hw2;have g0:=hec 0 _ rfl;have g1:=hec 1 _ rfl;have g2:=hec 2 _ rfl;have g3:=hec 3 _ rfl;have g4:=hec 4 _ rfl;have g5:=hec 5 _ rfl;have g6:=hec 6 _ rfl;have g7:=hec 7 _ rfl;simp only [Nat.add_zero] at g0;clear hec;go_simp;first | done | with_reducible rfl);(try simp only [Act.put,pu1,pu2,pu3]))
       (refine wpAnyH_takeL (i:=6) (v:=?_) HL HP HN rfl (by kernel_rfl) (by kernel_rfl) rfl ?_ hS ?_;rotate_left;focus (intro w2 hw2;obtain ⟨⟨x1,x2,z1,z2⟩,z3,hec⟩:=hw2;have g0:=hec 0 _ rfl;have g1:=hec 1 _ rfl;have g2:=hec 2 _ rfl;have g3:=hec 3 _ rfl;have g4:=hec 4 _ rfl;have g5:=hec 5 _ rfl;have g6:=hec 6 _ rfl;have g7:=hec 7 _ rfl;simp only [Nat.add_zero] at g0;clear hec;go_simp;first | done | with_reducible rfl);(try simp only [Act.put,pu1,pu2,pu3]))
       refine wpAnyH_readyL (rs:=[7]) HL (by kernel_rfl) (by simp) ?_
       refine AllReadyH.consL HL rfl rfl (fun K hK=>?_) AllReadyH.nil
       go_simp
       have hS5:=SW.ext ((Below.refl _ _).alloc lr_ (.cells (tvC z).toArray 75)) hS
       refine hK.out _ _ hS5 (fun hS=>?_)
       clear hK K
       (try simp only [Act.put,pu1,pu2,pu3])
       have h5:Below w9.heap.size w9 (w9.drew.alloc (.cells (tvC z).toArray 75)):=by exact bel_
       refine wpAnyH_readyL (rs:=[8]) HL (by kernel_rfl) (by simp) ?_
       refine AllReadyH.consL HL rfl rfl (fun K hK=>?_) AllReadyH.nil
       refine step_appN (by rfl) (.tmp 70) (.tmp 76) 29 (by rfl) (base:=wv.heap.size) (B:=_) (e:=75) (i:=iT) (size:=8) (bytes:=80) Tryz.underlying29 hiT hz0T hz1T hz2T rfl (by decide) (v:=.slice AT mT cT) (n:=mT) (m:=1) (A:=some ⟨w9.heap.size,0,none⟩) (c:=1) (xs:=TV.flatMap tvC) (news:=tvC z) (by rfl) (by rfl) (own_ex HI9.out.wo.t h5) (Rd.new w9.drew (tvC z).toArray 75 8 1 _ rfl rfl) (by intro u hu;simp at hu;rcases hu with rfl | rfl | rfl | rfl | rfl | rfl | rfl | rfl <;> rfl) (by unfold maxLen;omega) (by omega) (by simp;omega) ?_
       intro v6 w6 hown6 hgrow6
       obtain ⟨A6,c6,rfl,hcc6⟩:=own_slice hown6
       have h5o:=own_ex HI9.out.wo.t h5
       refine hK.out _ _ (SW.grownR hgrow6 hS5 (own_ne h5o (HX9.out.ext h5) (by decide)) (own_ne h5o (HOB9.out.ext h5) (by decide)) (fun e=>by have:=own_le h5o e.symm;omega)) (fun hS=>?_)
       clear hK K
       (try simp only [Act.put,pu1,pu2,pu3])
       (refine wpAnyH_takeL (i:=9) (v:=?_) HL HP HN rfl (by kernel_rfl) (by kernel_rfl) rfl ?_ hS ?_;rotate_left;focus (intro w2 hw2;obtain ⟨⟨x1,x2,z1,z2⟩,z3,hec⟩:=hw2;have g0:=hec 0 _ rfl;have g1:=hec 1 _ rfl;have g2:=hec 2 _ rfl;have g3:=hec 3 _ rfl;have g4:=hec 4 _ rfl;have g5:=hec 5 _ rfl;have g6:=hec 6 _ rfl;have g7:=hec 7 _ rfl;simp only [Nat.add_zero] at g0;clear hec;go_simp;first | done | with_reducible rfl);(try simp only [Act.put,pu1,pu2,pu3]))
       have bO6:=(HOB9.out.ext h5).kept hgrow6 (own_ne h5o (HOB9.out.ext h5) (by decide))
       have kO6:=bO6.cell
       have zO6:=bO6.lt
       have fO6:=bO6.frozen
       have HT6:=hd_ (HI9.out.appT hqq hwv1 h5 (z:=z) hown6 hgrow6 (.slice A6 (mT+1) c6))
       clear hown6 hgrow6 hS hS5 h5o bO6 
       refine wpAnyH_doneL HL HQ (by kernel_rfl) ?_ _
       simp only [sinkQ]
       go_simp
       go_upto_region 10 with fail
       refine wp_named2 fun f6 W6 hf6 hW6=>?_
       have HT7:Hid (HdI W2 wv W6 W2.heap.size #[.slice pA pn pc,.slice (some ⟨bx,ox,none⟩) rn rc,.slice A6 (mT+1) c6,.slice none 0 0] 0 (.slice none 0 0) [] (mT+1) (.slice A6 (mT+1) c6) (TV ++ [z]) mD u7 DL):=by show HdI _ _ _ _ _ _ _ _ _ _ _ _ _ _;rw [← hW6];exact HT6.out
       clear hW6 HT6 kO6 zO6 fO6
       subst hf6
       have e0:=(HT7.out.wo.bel.cell (p:=⟨bd,od+k,none⟩) hbd).trans HCD.out
       have hbd8:bd<W6.heap.size:=by have:=HT7.out.wo.bel.size;omega
       have h68:Below W6.heap.size W6 (W6.alloc (.cells #[.int .i64 yd] 3)):=(Below.refl _ _).alloc lr_ _
       go_wp2_with (at_builtin;refine wpList_append_own_at _ rfl (.tmp 79) (.tmp 84) 33 rfl (wv.heap.size) 3 i0 _ 1 8 Tryz.underlying33 hi hz0 hz1 hz2 rfl (by decide) _ _ _ rfl (own_ex HT7.out.d h68) ⟨W6.heap.size,0,none⟩ 1 1 [.int .i64 yd] rfl rfl ?d1 ?d2 ?d3 ?d4 ?d5 ?_;rotate_left 5;intro v9 w9 hown9 hgrow9 _ hat9;have HT9:=hd_ (HT7.out.appD hwv1 h68 hown9 hgrow9);clear hown9 hgrow9 hat9)
       (try (case d1=>(exact new_at (by rfl))))
       (try (case d2=>(simp [Value.oneCell'])))
       (try (case d3=>(unfold maxLen;omega)))
       (try (case d4=>(omega)))
       (try (case d5=>(have:=HT7.out.wo.sz;simp;omega)))
       go_roundw
       case rel=>exact ⟨k+1,by omega,by go_num,A6,mT+1,c6,mD+1,TV ++ [z],DL ++ [yd],HT9.out,HV.out.add HM.out HXT.out HZK.out HYD.out HLV.out⟩
       case measure=>exact ms_
  ·obtain rfl:tn=k:=by omega
   clear hk hlt
   have hsubT:TV.Sublist XT:=HV.out.sub.trans (List.take_sublist ..)
   have HST:=hd_ hsubT
   have HOA:Hid (LedOk (allL l TV)):=by show LedOk _;exact all_ok HM.out HXT.out hsubT
   have HLA:Hid (LedIn wr wr.heap.size ⟨pA,pn,pc,rA,rn,rc,AT,mT,cT,none,0,0⟩ (allL l TV)):=by show LedIn _ _ _ _;exact HI.out.ledT rfl HL2.out.p HL2.out.r (fun z hz=>hsubT.subset hz) HTL.out
   clear hsubT
   obtain ⟨AD,cD,hvD,hcD⟩:=own_slice HI.out.d
   subst hvD
   have HDA:Hid (Is wr wr.heap.size AD mD DL):=by show Is _ _ _ _ _;exact HI.out.days rfl
   have HRA1:Hid (Rd wr wr.heap.size 8 AT mT (TV.flatMap tvC)):=by show Rd _ _ _ _ _ _;exact Rd.of_own HI.out.wo.t
   have hlT:TV.length=mT:=own_len HI.out.wo.t (fun _=>rfl) (by decide)
   have HLT1:=hd_ hlT
   have hmD2:mD=mT:=by omega
   subst hmD2
   clear hlT hmD
   go_upto_region 12 with ((go_at_call 40;refine (r_telling (allL l TV) ⟨pA,pn,pc,rA,rn,rc,AT,mD,cT,none,0,0⟩ 900 _ HOA.out (HLA.out.now (by exact bel_))).mono ?_;rintro e w4 ⟨BT,ct,rfl,hb4,hT4,hBT⟩;have h4:Below wr.heap.size wr w4:=bt_ (by exact bel_) hb4;have HT4:=hd_ hT4;clear hb4 hT4))
   clear kX zX kO zO
   have hs4:=h4.size
   have hszB2:=HB.out.size
   have HX4:=hd_ (HX.out.ext h4)
   have HO4:=hd_ (HOB.out.ext h4)
   have HDA4:=hd_ (HDA.out.now h4)
   have HRA4:Hid (Rd w4 w4.heap.size 8 AT mD (TV.flatMap tvC)):=by show Rd _ _ _ _ _ _;exact (Rd.ext HRA1.out h4 lr_).more h4.size
   have H24:Hid (Below W2.heap.size W2 w4):=by show Below _ _ _;exact bt_ HB.out h4
   have hbo4:W2.heap.size<w4.heap.size:=HO4.out.lt
   have hwm2:wm.heap.size<W2.heap.size:=HBL2.out.lt
   have kO:=HO4.out.cell
   have zO:=HO4.out.lt
   clear HI HX HOB HDA HRA1 HLA HOA h4 hsz
   go_upto_region 14 with fail
   refine wp_named2 fun f5 wv2 hf5 hwv2=>?_
   have bU:BoxA wv2 w4.heap.size 32 #[.slice pA pn pc,.slice rA rn rc,.slice none 0 0,.slice none 0 0]:=by
    rw [← hwv2]
    first
    | exact BoxA.new _ _ _
    | (have h:=(BoxA.new w4 32 #[.slice pA pn pc,.slice rA rn rc,.slice AT mD cT,.slice none 0 0]).set 2 (.slice none 0 0);simpa using h)
   have h45:Below w4.heap.size w4 wv2:=by rw [← hwv2];exact bel_
   have HBU:=hd_ bU
   have H45:=hd_ h45
   have hwv1:=h45.size
   have hqq:w4.heap.size≤w4.heap.size∧w4.heap.size<wv2.heap.size:=⟨lr_,bU.lt⟩
   clear hwv2 kO zO bU h45
   subst hf5
   go_wp2_with fail
   go_loopw [12,13] (fun dv i wr=>∃ k:Nat,k≤mD∧i=.int .i64 k∧∃ (AU:Option Addr) (mU cU mE:Nat) (UV:List Tv) (EL:List Int),HdI w4 wv2 wr w4.heap.size #[.slice pA pn pc,.slice rA rn rc,.slice AU mU cU,.slice none 0 0] 0 (.slice none 0 0) [] mU (.slice AU mU cU) UV mE dv EL∧Iv2 l TV k UV EL) (fun _ i _=>mD - (intOf i).toNat)
   case atStart=>exact ⟨0,by omega,rfl,none,0,0,0,[],[],HdI.start H45.out HBU.out,Iv2.nil _ _⟩
   case round =>
    obtain ⟨k,hk,rfl,AU,mU,cU,mE,UV,EL,hI,hV⟩:=hrel
    have hsz:=hI.wo.sz
    have hB:Below w4.heap.size w4 wr:=hI.wo.bel
    have hszB:=hB.size
    have bX:BoxA wr W2.heap.size 32 #[.slice pA pn pc,.slice rA rn rc,.slice AT mD cT,.slice none 0 0]:=HO4.out.ext hB
    have bO:=hI.wo.bO
    have bT:BoxA wr BT 4 (boolL (tellK (allL l TV) 900 (allL l TV).rt.length)).toArray:=HT4.out.ext hB
    have kX:=bX.cell
    have zX:=bX.lt
    have kO:=bO.cell
    have zO:=bO.lt
    have hlT:=own_len hI.wo.t (fun _=>rfl) (by decide)
    have hlV:=hV.len
    have hlX:=HLT1.out
    have hmU:mU≤8:=by omega
    have hlD:=hI.d.1
    have hlP:=hV.pd.1
    have hmE:mE=UV.length:=by simp [intL] at hlD;omega
    have hmE8:mE≤8:=by omega
    have HI:=hd_ hI
    have HV2:=hd_ hV
    have HB2b:=hd_ hB
    have HX:=hd_ bX
    have HOB:=hd_ bO
    have HBTr:=hd_ bT
    clear hI hV hB bX bO bT hlV hlX hlD hlP
    by_cases hlt:k<mD
    ·obtain ⟨z,hz⟩:∃ z,TV[k]?=some z:=⟨_,List.getElem?_eq_getElem (by rw [HLT1.out];exact hlt)⟩
     obtain ⟨b,o,hA,hb,hec⟩:=elemB HRA4.out (flat_get tvC 8 (fun _=>rfl)) (fun _=>rfl) hz hlt
     obtain ⟨bd,od,yd,hDA,hbd,hyd,hcd⟩:=HDA4.out.at_ hlt
     obtain ⟨bt,hbt⟩:∃ v,(tellK (allL l TV) 900 (allL l TV).rt.length)[k]?=some v:=⟨_,List.getElem?_eq_getElem (by rw [tellK_len];simp [allL,HLT1.out];exact hlt)⟩
     have cT0:wr.cell? ⟨BT,k,none⟩=some (.bool bt):=by rw [HBTr.out.cell];simp [boolL,hbt]
     have zT:=HBTr.out.lt
     have hb1:b<wv2.heap.size:=by omega
     have hbr:b<wr.heap.size:=by omega
     have hec2:∀ m u,(tvC z)[m]?=some u→wr.cell? ⟨b,o+k*8+m,none⟩=some u:=fun m u hu=>(HB2b.out.cell (p:=⟨b,o+k*8+m,none⟩) hb).trans (hec m u hu)
     subst hA
     subst hDA
     have HEC:=hd_ hec2
     have HZK:=hd_ hz
     have HYD:=hd_ hyd
     have HCD:=hd_ hcd
     have HBT2:Hid ((tellK (allL l TV) 900 TV.length)[k]?=some bt):=by show _=_;have h:=hbt;simpa [allL] using h
     clear hec hec2 hz hyd hcd hbt hlT
     cases bt with
     | false =>
       go_wp2_with fail
       go_roundw
       case rel=>exact ⟨k+1,by omega,by go_num,AU,mU,cU,mE,UV,EL,HI.out,HV2.out.skip HZK.out⟩
       case measure=>exact ms_
     | true =>
       go_wp2_with fail
       clear cT0 zT
       (refine wp_region_sink_lit (S:=SW W2.heap.size w4.heap.size #[.slice pA pn pc,.slice rA rn rc,.slice (some ⟨b,o,none⟩) mD cT,.slice none 0 0] #[.slice pA pn pc,.slice rA rn rc,.slice AU mU cU,.slice none 0 0] b (o+k*8) (tvC z)) 10 (by kernel_rfl) rfl rfl (by kernel_rfl) (by kernel_rfl) ⟨⟨HX.out.cell,HOB.out.cell,HX.out.lt,HOB.out.lt⟩,hbr,HEC.out⟩ (fun hS=>?_);simp only [List.take_succ_cons,List.take_zero,List.reduceReplicate,Array.replicate_succ,Array.replicate_zero])
       refine wpAnyH_abs (fun _ _ _ _ _ h=>h) (by kernel_rfl) (fun L Q HL HQ HP HN=>?_)
       (refine wpAnyH_takeL (i:=0) (v:=?_) HL HP HN rfl (by kernel_rfl) (by kernel_rfl) rfl ?_ hS ?_;rotate_left;focus (intro w2 hw2;obtain ⟨⟨x1,x2,z1,z2⟩,z3,hec⟩:=hw2;have g0:=hec 0 _ rfl;have g1:=hec 1 _ rfl;have g2:=hec 2 _ rfl;have g3:=hec 3 _ rfl;have g4:=hec 4 _ rfl;have g5:=hec 5 _ rfl;have g6:=hec 6 _ rfl;have g7:=hec 7 _ rfl;simp only [Nat.add_zero] at g0;clear hec;go_simp;first | done | with_reducible rfl);(try simp only [Act.put,pu1,pu2,pu3]))
       (refine wpAnyH_takeL (i:=1) (v:=?_) HL HP HN rfl (by kernel_rfl) (by kernel_rfl) rfl ?_ hS ?_;rotate_left;focus (intro w2 hw2;obtain ⟨⟨x1,x2,z1,z2⟩,z3,hec⟩:=hw2;have g0:=hec 0 _ rfl;have g1:=hec 1 _ rfl;have g2:=hec 2 _ rfl;have g3:=hec 3 _ rfl;have g4:=hec 4 _ rfl;have g5:=hec 5 _ rfl;have g6:=hec 6 _ rfl;have g7:=hec 7 _ rfl;simp only [Nat.add_zero] at g0;clear hec;go_simp;first | done | with_reducible rfl);(try simp only [Act.put,pu1,pu2,pu3]))
       (refine wpAnyH_takeL (i:=2) (v:=?_) HL HP HN rfl (by kernel_rfl) (by kernel_rfl) rfl ?_ hS ?_;rotate_left;focus (intro w2 hw2;obtain ⟨⟨x1,x2,z1,z2⟩,z3,hec⟩:=hw2;have g0:=hec 0 _ rfl;have g1:=hec 1 _ rfl;have g2:=hec 2 _ rfl;have g3:=hec 3 _ rfl;have g4:=hec 4 _ rfl;have g5:=hec 5 _ rfl;have g6:=hec 6 _ rfl;have g7:=hec 7 _ rfl;simp only [Nat.add_zero] at g0;clear hec;go_simp;first | done | with_reducible rfl);(try simp only [Act.put,pu1,pu2,pu3]))
       (refine wpAnyH_takeL (i:=3) (v:=?_) HL HP HN rfl (by kernel_rfl) (by kernel_rfl) rfl ?_ hS ?_;rotate_left;focus (intro w2 hw2;obtain ⟨⟨x1,x2,z1,z2⟩,z3,hec⟩:=hw2;have g0:=hec 0 _ rfl;have g1:=hec 1 _ rfl;have g2:=hec 2 _ rfl;have g3:=hec 3 _ rfl;have g4:=hec 4 _ rfl;have g5:=hec 5 _ rfl;have g6:=hec 6 _ rfl;have g7:=hec 7 _ rfl;simp only [Nat.add_zero] at g0;clear hec;go_simp;first | done | with_reducible rfl);(try simp only [Act.put,pu1,pu2,pu3]))
       (refine wpAnyH_takeL (i:=4) (v:=?_) HL HP HN rfl (by kernel_rfl) (by kernel_rfl) rfl ?_ hS ?_;rotate_left;focus (intro w2 hw2;obtain ⟨⟨x1,x2,z1,z2⟩,z3,hec⟩:=hw2;have g0:=hec 0 _ rfl;have g1:=hec 1 _ rfl;have g2:=hec 2 _ rfl;have g3:=hec 3 _ rfl;have g4:=hec 4 _ rfl;have g5:=hec 5 _ rfl;have g6:=hec 6 _ rfl;have g7:=hec 7 _ rfl;simp only [Nat.add_zero] at g0;clear hec;go_simp;first | done | with_reducible rfl);(try simp only [Act.put,pu1,pu2,pu3]))
       (refine wpAnyH_takeL (i:=5) (v:=?_) HL HP HN rfl (by kernel_rfl) (by kernel_rfl) rfl ?_ hS ?_;rotate_left;focus (intro w2 hw2;obtain ⟨⟨x1,x2,z1,z2⟩,z3,hec⟩:=hw2;have g0:=hec 0 _ rfl;have g1:=hec 1 _ rfl;have g2:=hec 2 _ rfl;have g3:=hec 3 _ rfl;have g4:=hec 4 _ rfl;have g5:=hec 5 _ rfl;have g6:=hec 6 _ rfl;have g7:=hec 7 _ rfl;simp only [Nat.add_zero] at g0;clear hec;go_simp;first | done | with_reducible rfl);(try simp only [Act.put,pu1,pu2,pu3]))
       (refine wpAnyH_takeL (i:=6) (v:=?_) HL HP HN rfl (by kernel_rfl) (by kernel_rfl) rfl ?_ hS ?_;rotate_left;focus (intro w2 hw2;obtain ⟨⟨x1,x2,z1,z2⟩,z3,hec⟩:=hw2;have g0:=hec 0 _ rfl;have g1:=hec 1 _ rfl;have g2:=hec 2 _ rfl;have g3:=hec 3 _ rfl;have g4:=hec 4 _ rfl;have g5:=hec 5 _ rfl;have g6:=hec 6 _ rfl;have g7:=hec 7 _ rfl;simp only [Nat.add_zero] at g0;clear hec;go_simp;first | done | with_reducible rfl);(try simp only [Act.put,pu1,pu2,pu3]))
       refine wpAnyH_readyL (rs:=[7]) HL (by kernel_rfl) (by simp) ?_
       refine AllReadyH.consL HL rfl rfl (fun K hK=>?_) AllReadyH.nil
       go_simp
       have hS5:=SW.ext ((Below.refl _ _).alloc lr_ (.cells (tvC z).toArray 75)) hS
       refine hK.out _ _ hS5 (fun hS=>?_)
       clear hK K
       (try simp only [Act.put,pu1,pu2,pu3])
       have h5:Below wr.heap.size wr (wr.drew.alloc (.cells (tvC z).toArray 75)):=by exact bel_
       refine wpAnyH_readyL (rs:=[8]) HL (by kernel_rfl) (by simp) ?_
       refine AllReadyH.consL HL rfl rfl (fun K hK=>?_) AllReadyH.nil
       refine step_appN (by rfl) (.tmp 101) (.tmp 107) 29 (by rfl) (base:=wv2.heap.size) (B:=_) (e:=75) (i:=iT) (size:=8) (bytes:=80) Tryz.underlying29 hiT hz0T hz1T hz2T rfl (by decide) (v:=.slice AU mU cU) (n:=mU) (m:=1) (A:=some ⟨wr.heap.size,0,none⟩) (c:=1) (xs:=UV.flatMap tvC) (news:=tvC z) (by rfl) (by rfl) (own_ex HI.out.wo.t h5) (Rd.new wr.drew (tvC z).toArray 75 8 1 _ rfl rfl) (by intro u hu;simp at hu;rcases hu with rfl | rfl | rfl | rfl | rfl | rfl | rfl | rfl <;> rfl) (by unfold maxLen;omega) (by omega) (by simp;omega) ?_
       intro v6 w6 hown6 hgrow6
       obtain ⟨A6,c6,rfl,hcc6⟩:=own_slice hown6
       have h5o:=own_ex HI.out.wo.t h5
       refine hK.out _ _ (SW.grownR hgrow6 hS5 (own_ne h5o (HX.out.ext h5) (by decide)) (own_ne h5o (HOB.out.ext h5) (by decide)) (fun e=>by have:=own_le h5o e.symm;omega)) (fun hS=>?_)
       clear hK K
       (try simp only [Act.put,pu1,pu2,pu3])
       (refine wpAnyH_takeL (i:=9) (v:=?_) HL HP HN rfl (by kernel_rfl) (by kernel_rfl) rfl ?_ hS ?_;rotate_left;focus (intro w2 hw2;obtain ⟨⟨x1,x2,z1,z2⟩,z3,hec⟩:=hw2;have g0:=hec 0 _ rfl;have g1:=hec 1 _ rfl;have g2:=hec 2 _ rfl;have g3:=hec 3 _ rfl;have g4:=hec 4 _ rfl;have g5:=hec 5 _ rfl;have g6:=hec 6 _ rfl;have g7:=hec 7 _ rfl;simp only [Nat.add_zero] at g0;clear hec;go_simp;first | done | with_reducible rfl);(try simp only [Act.put,pu1,pu2,pu3]))
       have bO6:=(HOB.out.ext h5).kept hgrow6 (own_ne h5o (HOB.out.ext h5) (by decide))
       have kO6:=bO6.cell
       have zO6:=bO6.lt
       have fO6:=bO6.frozen
       have HT6:=hd_ (HI.out.appT hqq hwv1 h5 (z:=z) hown6 hgrow6 (.slice A6 (mU+1) c6))
       clear hown6 hgrow6 hS hS5 h5o bO6 kX zX kO zO
       refine wpAnyH_doneL HL HQ (by kernel_rfl) ?_ _
       simp only [sinkQ]
       go_simp
       go_upto_region 20 with fail
       refine wp_named2 fun f6 W6 hf6 hW6=>?_
       have HT7:Hid (HdI w4 wv2 W6 w4.heap.size #[.slice pA pn pc,.slice rA rn rc,.slice A6 (mU+1) c6,.slice none 0 0] 0 (.slice none 0 0) [] (mU+1) (.slice A6 (mU+1) c6) (UV ++ [z]) mE u12 EL):=by show HdI _ _ _ _ _ _ _ _ _ _ _ _ _ _;rw [← hW6];exact HT6.out
       clear hW6 HT6 kO6 zO6 fO6
       subst hf6
       have e0:=(HT7.out.wo.bel.cell (p:=⟨bd,od+k,none⟩) hbd).trans HCD.out
       have hbd8:bd<W6.heap.size:=by have:=HT7.out.wo.bel.size;omega
       have h68:Below W6.heap.size W6 (W6.alloc (.cells #[.int .i64 yd] 3)):=(Below.refl _ _).alloc lr_ _
       go_wp2_with (at_builtin;refine wpList_append_own_at _ rfl (.tmp 110) (.tmp 115) 33 rfl (wv2.heap.size) 3 i0 _ 1 8 Tryz.underlying33 hi hz0 hz1 hz2 rfl (by decide) _ _ _ rfl (own_ex HT7.out.d h68) ⟨W6.heap.size,0,none⟩ 1 1 [.int .i64 yd] rfl rfl ?d1 ?d2 ?d3 ?d4 ?d5 ?_;rotate_left 5;intro v9 w9 hown9 hgrow9 _ hat9;have HT9:=hd_ (HT7.out.appD hwv1 h68 hown9 hgrow9);clear hown9 hgrow9 hat9)
       (try (case d1=>(exact new_at (by rfl))))
       (try (case d2=>(simp [Value.oneCell'])))
       (try (case d3=>(unfold maxLen;omega)))
       (try (case d4=>(omega)))
       (try (case d5=>(have:=HT7.out.wo.sz;simp;omega)))
       go_roundw
       case rel=>exact ⟨k+1,by omega,by go_num,A6,mU+1,c6,mE+1,UV ++ [z],EL ++ [yd],HT9.out,HV2.out.add HM.out HV.out.pd HZK.out HYD.out HBT2.out⟩
       case measure=>exact ms_
    ·obtain rfl:mD=k:=by omega
     clear hk hlt
     have hsubU:UV.Sublist TV:=HV2.out.sub.trans (List.take_sublist ..)
     have HSU:Hid (UV.Sublist XT):=by show List.Sublist _ _;exact hsubU.trans HST.out
     have HOU:Hid (LedOk (allL l UV)):=by show LedOk _;exact all_ok HM.out HXT.out HSU.out
     obtain ⟨AE,cE,hvE,hcE⟩:=own_slice HI.out.d
     subst hvE
     have hmE2:mE=mU:=by omega
     subst hmE2
     have HLU:Hid (∀ W:World,Below wr.heap.size wr W→LedIn W W.heap.size ⟨pA,pn,pc,rA,rn,rc,AU,mE,cU,none,0,0⟩ (allL l UV)):=by
      show ∀ _,_
      exact fun W hW=>(HI.out.ledT (l:=l) rfl (HL2.out.now H24.out).p (HL2.out.now H24.out).r (fun z hz=>HSU.out.subset hz) (fun v hv=>⟨(HTL.out v hv).1.now H24.out,(HTL.out v hv).2⟩)).now hW
     have HDE:Hid (∀ W:World,Below wr.heap.size wr W→Is W W.heap.size AE mE EL):=by
      show ∀ _,_
      exact fun W hW=>(HI.out.days rfl).now hW
     have HRU:Hid (Rd wr wr.heap.size 8 AU mE (UV.flatMap tvC)):=by show Rd _ _ _ _ _ _;exact Rd.of_own HI.out.wo.t
     have HLU1:Hid (UV.length=mE):=by show _=_;exact hlT
     have H2w:Hid (Below W2.heap.size W2 wr):=by show Below _ _ _;exact bt_ H24.out HB2b.out
     have HBL6:=hd_ (HBL2.out.ext H2w.out)
     have hw4r:w4.heap.size<wr.heap.size:=HOB.out.lt
     clear hsubU hmE kX zX kO zO
     obtain ⟨W6,rfl⟩:∃ W6:World,W6=wr:=⟨_,rfl⟩
     have kL:=HBL6.out.cell
     have zL:=HBL6.out.lt
     have hs26:=H2w.out.size
     go_upto_region 22 with fail
     refine wp_named2 fun f7 wv3 hf7 hwv3=>?_
     have bR:BoxA wv3 W6.heap.size 32 #[.slice pA pn pc,.slice none 0 0,.slice none 0 0,.slice none 0 0]:=by rw [← hwv3];exact BoxA.new _ _ _
     have h67:Below W6.heap.size W6 wv3:=by rw [← hwv3];exact bel_
     have HBR:=hd_ bR
     have H67:=hd_ h67
     have hwv3s:=h67.size
     have hqq3:W6.heap.size≤W6.heap.size∧W6.heap.size<wv3.heap.size:=⟨lr_,bR.lt⟩
     clear hwv3 kL zL bR h67 hwv1 hqq
     have hwv1:=hwv3s
     subst hf7
     go_wp2_with fail
     go_loopw [15] (fun i wr=>∃ k:Nat,k≤rn∧i=.int .i64 k∧∃ (AR:Option Addr) (mR cR:Nat) (RV:List Rv),HdI W6 wv3 wr W6.heap.size #[.slice pA pn pc,.slice AR mR cR,.slice none 0 0,.slice none 0 0] mR (.slice AR mR cR) RV 0 (.slice none 0 0) [] 0 (.slice none 0 0) []∧Iv3 (allL l UV) EL XR k RV) (fun i _=>rn - (intOf i).toNat)
     case atStart=>exact ⟨0,by omega,rfl,none,0,0,[],HdI.start H67.out HBR.out,Iv3.nil _ _ _⟩
     case round =>
      obtain ⟨k,hk,rfl,AR,mR,cR,RV,hI,hV⟩:=hrel
      have hsz:=hI.wo.sz
      have hB:Below W6.heap.size W6 wr:=hI.wo.bel
      have hszB:=hB.size
      have bX:BoxA wr w4.heap.size 32 #[.slice pA pn pc,.slice rA rn rc,.slice AU mE cU,.slice none 0 0]:=HOB.out.ext hB
      have bO:=hI.wo.bO
      have kX:=bX.cell
      have zX:=bX.lt
      have hlR:=own_len hI.wo.r (fun _=>rfl) (by decide)
      have hlV:=hV.len
      have hlX:=HLR.out
      have hmR:mR≤8:=by omega
      have HI3:=hd_ hI
      have HV3:=hd_ hV
      have HB3:=hd_ hB
      have HX3:=hd_ bX
      have HO3:=hd_ bO
      clear hI hV hB bX bO hlV hlX
      by_cases hlt:k<rn
      ·obtain ⟨z,hz⟩:∃ z,XR[k]?=some z:=⟨_,List.getElem?_eq_getElem (by rw [HLR.out];exact hlt)⟩
       obtain ⟨b,o,hA,hb,hec⟩:=elemB HRR.out (flat_get rvC 7 (fun _=>rfl)) (fun _=>rfl) hz hlt
       have HZK:=hd_ hz
       have HSR:Hid (RV.Sublist XR):=by show List.Sublist _ _;exact HV3.out.sub.trans (List.take_sublist ..)
       have HLRv:Hid (∀ W:World,Below wr.heap.size wr W→LedIn W W.heap.size ⟨pA,pn,pc,AR,mR,cR,none,0,0,none,0,0⟩ ⟨l.pp,RV.map Rv.r,[],[]⟩):=by
        show ∀ _,_
        exact fun W hW=>(HI3.out.ledRT (XR:=XR) (XT:=XT) (pA:=pA) (pn:=pn) (pc:=pc) rfl rfl (HL2.out.now H2w.out).p (fun z hz=>HSR.out.subset hz) (fun z hz=>by cases hz) (fun v hv=>⟨(HRL.out v hv).1.now H2w.out,(HRL.out v hv).2⟩) (fun v hv=>⟨(HTL.out v hv).1.now H2w.out,(HTL.out v hv).2⟩)).now hW
       subst hA
       have hbr:b<wr.heap.size:=by omega
       have HEC:Hid (∀ (j:Nat) (u:Rv),XR[j]?=some u→∀ W:World,Below wr.heap.size wr W→∀ m v,(rvC u)[m]?=some v→W.cell? ⟨b,o+j*7+m,none⟩=some v):=by
        show ∀ _,_
        intro j u hu W hW m v hv
        have hj:j<rn:=by rw [← HLR.out];exact (List.getElem?_eq_some_iff.1 hu).1
        obtain ⟨b',o',hA',hb',hec'⟩:=elemB HRR.out (flat_get rvC 7 (fun _=>rfl)) (fun _=>rfl) hu hj
        obtain ⟨rfl,rfl⟩:b=b'∧o=o':=by simpa using hA'
        exact (hW.cell (p:=⟨b,o+j*7+m,none⟩) hbr).trans ((HB3.out.cell (p:=⟨b,o+j*7+m,none⟩) (Nat.lt_of_lt_of_le hb' H2w.out.size)).trans ((H2w.out.cell (p:=⟨b,o+j*7+m,none⟩) hb').trans (hec' m v hv)))
       clear hec hz
       have hszr:=HI3.out.wo.sz
       go_wp2_with fail
       obtain ⟨wo,rfl⟩:∃ wo:World,wo=wr:=⟨_,rfl⟩
       clear kX zX
       go_loopw [16,17] (fun fv j wr=>∃ jj:Nat,jj≤k∧j=.int .i64 jj∧fv=.bool (fineK (allL l UV) EL XR RV z.r jj)∧Below wo.heap.size wo wr) (fun _ j _=>k - (intOf j).toNat)
       case atStart=>exact ⟨0,by omega,rfl,rfl,Below.refl _ _⟩
       case round =>
        obtain ⟨jj,hjj,rfl,rfl,hBo⟩:=hrel
        have HBo:=hd_ hBo
        have hso:=hBo.size
        have bX:=HX3.out.ext hBo
        have bO:=HO3.out.ext hBo
        have kX:=bX.cell
        have zX:=bX.lt
        have kO:=bO.cell
        have zO:=bO.lt
        clear hBo bX bO
        by_cases hjk:jj<k
        ·obtain ⟨u,hu⟩:∃ u,XR[jj]?=some u:=⟨_,List.getElem?_eq_getElem (by rw [HLR.out];omega)⟩
         have e0:=HEC.out jj u hu wr HBo.out 0 _ rfl
         simp only [Nat.add_zero] at e0
         have hbw:b<wr.heap.size:=by omega
         have HFK:=hd_ (fineK_succ (told:=(allL l UV)) (days:=EL) (RV:=RV) (y:=z.r) hu)
         have HU:=hd_ hu
         clear hu
         cases hfk:fineK (allL l UV) EL XR RV z.r jj with
         | false =>
           have HV4:Hid (fineK (allL l UV) EL XR RV z.r (jj+1)=false):=by show _=_;rw [HFK.out,hfk];rfl
           clear hfk HFK
           go_wp2_with fail
           (refine rg_ ?_;(repeat (go_big_quiet_step (fail)));refine qn_ fun w1 hb1 hc1 hf1=>?_)
           go_wp2_with fail
           go_roundw
           case rel=>exact ⟨jj+1,by omega,by go_num,by rw [HV4.out],bt_ HBo.out hb1⟩
           case measure=>exact ms_
         | true =>
           obtain ⟨q,hq⟩:∃ q,rcIx (RV.map Rv.r) u.r.src 900=q:=⟨_,rfl⟩
           have HQI:Hid (ixI (rcIx (RV.map Rv.r) u.r.src 900)=ixI q):=by show _=_;rw [hq]
           have hmR6:mR≤1000000:=by omega
           have HOK:Hid (fineK (allL l UV) EL XR RV z.r (jj+1)=(q.isNone || clrB (allL l UV) EL u.r z.r)):=by show _=_;rw [HFK.out,hfk,okK,hq];rfl
           clear hfk HFK hq
           cases q with
           | none =>
             have hneg:decide ((-1:Int)<0)=true:=by decide
             have HV4:Hid (fineK (allL l UV) EL XR RV z.r (jj+1)=true):=by show _=_;rw [HOK.out];rfl
             simp only [ixI] at HQI
             go_wp2_with fail
             (refine rg_ ?_;(repeat (go_big_quiet_step ((first | (go_at_call_of 39 (Value.agg #[.slice pA pn pc,.slice AR mR cR,.slice none 0 0,.slice none 0 0]);exact Calls.grow_all (fun g=>r_receiptOf_v ⟨l.pp,RV.map Rv.r,[],[]⟩ ⟨pA,pn,pc,AR,mR,cR,none,0,0,none,0,0⟩ u.r.src 900 (-1) g.1 hmR6 ((HLRv.out _ HBo.out).now g.2) HQI.out))))));refine qn_ fun w1 hb1 hc1 hf1=>?_)
             go_wp2_with fail
             go_roundw
             case rel=>exact ⟨jj+1,by omega,by go_num,by rw [HV4.out],bt_ HBo.out hb1⟩
             case measure=>exact ms_
           | some i =>
             have hpos:decide ((i:Int)<0)=false:=by simp
             obtain ⟨cb,hcb⟩:∃ c,clrB (allL l UV) EL u.r z.r=c:=⟨_,rfl⟩
             have HV4:Hid (fineK (allL l UV) EL XR RV z.r (jj+1)=cb):=by show _=_;rw [HOK.out,hcb];rfl
             have HCB:=hd_ hcb
             have HUr:Hid ((allL l UV).rc[jj]?=some u.r):=by show _=_;show l.rc[jj]?=_;rw [← HXR.out,List.getElem?_map,HU.out];rfl
             have HZr:Hid ((allL l UV).rc[k]?=some z.r):=by show _=_;show l.rc[k]?=_;rw [← HXR.out,List.getElem?_map,HZK.out];rfl
             simp only [ixI] at HQI
             clear hcb
             go_wp2_with fail
             (refine rg_ ?_;(repeat (go_big_quiet_step ((first | (go_at_call_of 39 (Value.agg #[.slice pA pn pc,.slice AR mR cR,.slice none 0 0,.slice none 0 0]);exact Calls.grow_all (fun g=>r_receiptOf_v ⟨l.pp,RV.map Rv.r,[],[]⟩ ⟨pA,pn,pc,AR,mR,cR,none,0,0,none,0,0⟩ u.r.src 900 i g.1 hmR6 ((HLRv.out _ HBo.out).now g.2) HQI.out)) | (go_at_call_of 41 (Value.agg #[.slice pA pn pc,.slice (some ⟨b,o,none⟩) rn rc,.slice AU mE cU,.slice none 0 0]);exact Calls.grow_all (fun g=>r_cleared_v (allL l UV) ⟨pA,pn,pc,some ⟨b,o,none⟩,rn,rc,AU,mE,cU,none,0,0⟩ EL AE cE jj k u.r z.r cb g.1 HOU.out ((HLU.out _ (bt_ HB3.out HBo.out)).now g.2) ((HDE.out _ (bt_ HB3.out HBo.out)).now g.2) HUr.out HZr.out HCB.out))))));refine qn_ fun w1 hb1 hc1 hf1=>?_)
             go_wp2_with fail
             go_roundw
             case rel=>exact ⟨jj+1,by omega,by go_num,by rw [HV4.out],bt_ HBo.out hb1⟩
             case measure=>exact ms_
        ·obtain rfl:jj=k:=by omega
         have HI4:=hd_ (HI3.out.ext HBo.out)
         have HX4b:=hd_ (HX3.out.ext HBo.out)
         have HO4b:=hd_ (HO3.out.ext HBo.out)
         have HEC4:=hd_ (HEC.out jj z HZK.out wr HBo.out)
         have hbw:b<wr.heap.size:=by omega
         have hszw:=HI4.out.wo.sz
         clear hjk hjj
         cases hfk:fineK (allL l UV) EL XR RV z.r jj with
         | false =>
           clear hfk
           go_wp2_with fail
           go_roundw
           case rel=>exact ⟨jj+1,by omega,by go_num,AR,mR,cR,RV,HI4.out,HV3.out.skip HZK.out⟩
           case measure=>exact ms_
         | true =>
           have HFK:=hd_ hfk
           have HRS:Hid (Iv3 (allL l UV) EL XR (jj+1) (RV ++ [z])):=by
            show Iv3 _ _ _ _ _
            exact HV3.out.add (by rw [HXR.out];exact (mk_rise HM.out).1) (fun v hv=>mk_cnt HM.out (by rw [← HXR.out];exact List.mem_map.2 ⟨v,hv,rfl⟩)) HZK.out hfk
           clear hfk
           go_wp2_with fail
           (refine wp_region_sink_lit (S:=SW w4.heap.size W6.heap.size #[.slice pA pn pc,.slice (some ⟨b,o,none⟩) rn rc,.slice AU mE cU,.slice none 0 0] #[.slice pA pn pc,.slice AR mR cR,.slice none 0 0,.slice none 0 0] b (o+jj*7) (rvC z)) 10 (by kernel_rfl) rfl rfl (by kernel_rfl) (by kernel_rfl) ⟨⟨HX4b.out.cell,HO4b.out.cell,HX4b.out.lt,HO4b.out.lt⟩,hbw,HEC4.out⟩ (fun hS=>?_);simp only [List.take_succ_cons,List.take_zero,List.reduceReplicate,Array.replicate_succ,Array.replicate_zero])
           refine wpAnyH_abs (fun _ _ _ _ _ h=>h) (by kernel_rfl) (fun L Q HL HQ HP HN=>?_)
           (refine wpAnyH_takeL (i:=0) (v:=?_) HL HP HN rfl (by kernel_rfl) (by kernel_rfl) rfl ?_ hS ?_;rotate_left;focus (intro w2 hw2;obtain ⟨⟨x1,x2,z1,z2⟩,z3,hec⟩:=hw2;have g0:=hec 0 _ rfl;have g1:=hec 1 _ rfl;have g2:=hec 2 _ rfl;have g3:=hec 3 _ rfl;have g4:=hec 4 _ rfl;have g5:=hec 5 _ rfl;have g6:=hec 6 _ rfl;simp only [Nat.add_zero] at g0;clear hec;go_simp;first | done | with_reducible rfl);(try simp only [Act.put,pu1,pu2,pu3]))
           (refine wpAnyH_takeL (i:=1) (v:=?_) HL HP HN rfl (by kernel_rfl) (by kernel_rfl) rfl ?_ hS ?_;rotate_left;focus (intro w2 hw2;obtain ⟨⟨x1,x2,z1,z2⟩,z3,hec⟩:=hw2;have g0:=hec 0 _ rfl;have g1:=hec 1 _ rfl;have g2:=hec 2 _ rfl;have g3:=hec 3 _ rfl;have g4:=hec 4 _ rfl;have g5:=hec 5 _ rfl;have g6:=hec 6 _ rfl;simp only [Nat.add_zero] at g0;clear hec;go_simp;first | done | with_reducible rfl);(try simp only [Act.put,pu1,pu2,pu3]))
           (refine wpAnyH_takeL (i:=2) (v:=?_) HL HP HN rfl (by kernel_rfl) (by kernel_rfl) rfl ?_ hS ?_;rotate_left;focus (intro w2 hw2;obtain ⟨⟨x1,x2,z1,z2⟩,z3,hec⟩:=hw2;have g0:=hec 0 _ rfl;have g1:=hec 1 _ rfl;have g2:=hec 2 _ rfl;have g3:=hec 3 _ rfl;have g4:=hec 4 _ rfl;have g5:=hec 5 _ rfl;have g6:=hec 6 _ rfl;simp only [Nat.add_zero] at g0;clear hec;go_simp;first | done | with_reducible rfl);(try simp only [Act.put,pu1,pu2,pu3]))
           (refine wpAnyH_takeL (i:=3) (v:=?_) HL HP HN rfl (by kernel_rfl) (by kernel_rfl) rfl ?_ hS ?_;rotate_left;focus (intro w2 hw2;obtain ⟨⟨x1,x2,z1,z2⟩,z3,hec⟩:=hw2;have g0:=hec 0 _ rfl;have g1:=hec 1 _ rfl;have g2:=hec 2 _ rfl;have g3:=hec 3 _ rfl;have g4:=hec 4 _ rfl;have g5:=hec 5 _ rfl;have g6:=hec 6 _ rfl;simp only [Nat.add_zero] at g0;clear hec;go_simp;first | done | with_reducible rfl);(try simp only [Act.put,pu1,pu2,pu3]))
           (refine wpAnyH_takeL (i:=4) (v:=?_) HL HP HN rfl (by kernel_rfl) (by kernel_rfl) rfl ?_ hS ?_;rotate_left;focus (intro w2 hw2;obtain ⟨⟨x1,x2,z1,z2⟩,z3,hec⟩:=hw2;have g0:=hec 0 _ rfl;have g1:=hec 1 _ rfl;have g2:=hec 2 _ rfl;have g3:=hec 3 _ rfl;have g4:=hec 4 _ rfl;have g5:=hec 5 _ rfl;have g6:=hec 6 _ rfl;simp only [Nat.add_zero] at g0;clear hec;go_simp;first | done | with_reducible rfl);(try simp only [Act.put,pu1,pu2,pu3]))
           (refine wpAnyH_takeL (i:=5) (v:=?_) HL HP HN rfl (by kernel_rfl) (by kernel_rfl) rfl ?_ hS ?_;rotate_left;focus (intro w2 hw2;obtain ⟨⟨x1,x2,z1,z2⟩,z3,hec⟩:=hw2;have g0:=hec 0 _ rfl;have g1:=hec 1 _ rfl;have g2:=hec 2 _ rfl;have g3:=hec 3 _ rfl;have g4:=hec 4 _ rfl;have g5:=hec 5 _ rfl;have g6:=hec 6 _ rfl;simp only [Nat.add_zero] at g0;clear hec;go_simp;first | done | with_reducible rfl);(try simp only [Act.put,pu1,pu2,pu3]))
           (refine wpAnyH_takeL (i:=6) (v:=?_) HL HP HN rfl (by kernel_rfl) (by kernel_rfl) rfl ?_ hS ?_;rotate_left;focus (intro w2 hw2;obtain ⟨⟨x1,x2,z1,z2⟩,z3,hec⟩:=hw2;have g0:=hec 0 _ rfl;have g1:=hec 1 _ rfl;have g2:=hec 2 _ rfl;have g3:=hec 3 _ rfl;have g4:=hec 4 _ rfl;have g5:=hec 5 _ rfl;have g6:=hec 6 _ rfl;simp only [Nat.add_zero] at g0;clear hec;go_simp;first | done | with_reducible rfl);(try simp only [Act.put,pu1,pu2,pu3]))
           refine wpAnyH_readyL (rs:=[7]) HL (by kernel_rfl) (by simp) ?_
           refine AllReadyH.consL HL rfl rfl (fun K hK=>?_) AllReadyH.nil
           go_simp
           have hS5:=SW.ext ((Below.refl _ _).alloc lr_ (.cells (rvC z).toArray 79)) hS
           refine hK.out _ _ hS5 (fun hS=>?_)
           clear hK K
           (try simp only [Act.put,pu1,pu2,pu3])
           have h5:Below wr.heap.size wr (wr.drew.alloc (.cells (rvC z).toArray 79)):=by exact bel_
           refine wpAnyH_readyL (rs:=[8]) HL (by kernel_rfl) (by simp) ?_
           refine AllReadyH.consL HL rfl rfl (fun K hK=>?_) AllReadyH.nil
           refine step_appN (by rfl) (.tmp 154) (.tmp 160) 28 (by rfl) (base:=wv3.heap.size) (B:=_) (e:=79) (i:=iR) (size:=7) (bytes:=72) Tryz.underlying28 hiR hz0R hz1R hz2R rfl (by decide) (v:=.slice AR mR cR) (n:=mR) (m:=1) (A:=some ⟨wr.heap.size,0,none⟩) (c:=1) (xs:=RV.flatMap rvC) (news:=rvC z) (by rfl) (by rfl) (own_ex HI4.out.wo.r h5) (Rd.new wr.drew (rvC z).toArray 79 7 1 _ rfl rfl) (by intro u hu;simp at hu;rcases hu with rfl | rfl | rfl | rfl | rfl | rfl | rfl <;> rfl) (by unfold maxLen;omega) (by omega) (by simp;omega) ?_
           intro v6 w6 hown6 hgrow6
           obtain ⟨A6,c6,rfl,hcc6⟩:=own_slice hown6
           have h5o:=own_ex HI4.out.wo.r h5
           refine hK.out _ _ (SW.grownR hgrow6 hS5 (own_ne h5o (HX4b.out.ext h5) (by decide)) (own_ne h5o (HO4b.out.ext h5) (by decide)) (fun e=>by have:=own_le h5o e.symm;omega)) (fun hS=>?_)
           clear hK K
           (try simp only [Act.put,pu1,pu2,pu3])
           (refine wpAnyH_takeL (i:=9) (v:=?_) HL HP HN rfl (by kernel_rfl) (by kernel_rfl) rfl ?_ hS ?_;rotate_left;focus (intro w2 hw2;obtain ⟨⟨x1,x2,z1,z2⟩,z3,hec⟩:=hw2;have g0:=hec 0 _ rfl;have g1:=hec 1 _ rfl;have g2:=hec 2 _ rfl;have g3:=hec 3 _ rfl;have g4:=hec 4 _ rfl;have g5:=hec 5 _ rfl;have g6:=hec 6 _ rfl;simp only [Nat.add_zero] at g0;clear hec;go_simp;first | done | with_reducible rfl);(try simp only [Act.put,pu1,pu2,pu3]))
           have bO6:=(HO4b.out.ext h5).kept hgrow6 (own_ne h5o (HO4b.out.ext h5) (by decide))
           have kO6:=bO6.cell
           have zO6:=bO6.lt
           have fO6:=bO6.frozen
           have HT6:=hd_ (HI4.out.appR hqq3 hwv1 h5 (z:=z) hown6 hgrow6 (.slice A6 (mR+1) c6))
           clear hown6 hgrow6 hS hS5 h5o bO6 kX zX kO zO
           refine wpAnyH_doneL HL HQ (by kernel_rfl) ?_ _
           simp only [sinkQ]
           go_simp
           go_wp2
           go_roundw
           case rel=>exact ⟨jj+1,by omega,by go_num,A6,mR+1,c6,RV ++ [z],HT6.out,HRS.out⟩
           case measure=>exact ms_
      ·obtain rfl:rn=k:=by omega
       clear hk hlt
       have HSR:Hid (RV.Sublist XR):=by show List.Sublist _ _;exact HV3.out.sub.trans (List.take_sublist ..)
       have hml2:RV.length=mR:=hlR
       clear hlR
       go_wp2_with fail
       clear kX zX
       go_loopw [18,19] (fun dv i wr=>∃ k:Nat,k≤mE∧i=.int .i64 k∧∃ (AW:Option Addr) (mW cW mF:Nat) (WV:List Tv) (FL:List Int),HdI W6 wv3 wr W6.heap.size #[.slice pA pn pc,.slice AR mR cR,.slice AW mW cW,.slice none 0 0] mR (.slice AR mR cR) RV mW (.slice AW mW cW) WV mF dv FL∧Iv5 RV (Gt2 l) UV EL k WV FL) (fun _ i _=>mE - (intOf i).toNat)
       case atStart=>exact ⟨0,by omega,rfl,none,0,0,0,[],[],HI3.out,Iv5.nil _ _ _ _⟩
       case round =>
        clear HI3 HX3 HO3 HB3 hsz hszB
        obtain ⟨k,hk,rfl,AW,mW,cW,mF,WV,FL,hI,hV⟩:=hrel
        have hsz:=hI.wo.sz
        have hB:Below W6.heap.size W6 wr:=hI.wo.bel
        have hszB:=hB.size
        have bX:BoxA wr w4.heap.size 32 #[.slice pA pn pc,.slice rA rn rc,.slice AU mE cU,.slice none 0 0]:=HOB.out.ext hB
        have bO:=hI.wo.bO
        have kX:=bX.cell
        have zX:=bX.lt
        have kO:=bO.cell
        have zO:=bO.lt
        have hlW:=own_len hI.wo.t (fun _=>rfl) (by decide)
        have hlV:=hV.len
        have hlX:=HLU1.out
        have hmW:mW≤8:=by omega
        have hlD:=hI.d.1
        have hlP:=hV.pd.1
        have hmF:mF=WV.length:=by simp [intL] at hlD;omega
        have hmF8:mF≤8:=by omega
        have HI5:=hd_ hI
        have HV5:=hd_ hV
        have HB5:=hd_ hB
        have HX5:=hd_ bX
        have HO5:=hd_ bO
        clear hI hV hB bX bO hlV hlX hlD hlP
        by_cases hlt:k<mE
        ·obtain ⟨z,hz⟩:∃ z,UV[k]?=some z:=⟨_,List.getElem?_eq_getElem (by rw [HLU1.out];exact hlt)⟩
         obtain ⟨b,o,hA,hb,hec⟩:=elemB HRU.out (flat_get tvC 8 (fun _=>rfl)) (fun _=>rfl) hz hlt
         obtain ⟨bd,od,yd,hDA,hbd,hyd,hcd⟩:=(HDE.out _ (Below.refl _ _)).at_ hlt
         have hb1:b<wv3.heap.size:=by omega
         have hbr:b<wr.heap.size:=by omega
         have hec2:∀ m u,(tvC z)[m]?=some u→wr.cell? ⟨b,o+k*8+m,none⟩=some u:=fun m u hu=>(HB5.out.cell (p:=⟨b,o+k*8+m,none⟩) hb).trans (hec m u hu)
         subst hA
         subst hDA
         have g1:=hec2 1 _ rfl
         have HEC:=hd_ hec2
         have HZK:=hd_ hz
         have HYD:=hd_ hyd
         have HCD:=hd_ hcd
         have HSW:Hid (WV.Sublist XT):=by show List.Sublist _ _;exact (HV5.out.sub.trans (List.take_sublist ..)).trans HSU.out
         have HLW:Hid (∀ W:World,Below wr.heap.size wr W→LedIn W W.heap.size ⟨pA,pn,pc,AR,mR,cR,AW,mW,cW,none,0,0⟩ (⟨l.pp,RV.map Rv.r,WV.map Tv.r,[]⟩:Led)):=by
          show ∀ _,_
          exact fun W hW=>(HI5.out.ledRT (XR:=XR) (XT:=XT) (pA:=pA) (pn:=pn) (pc:=pc) rfl rfl (HL2.out.now H2w.out).p (fun z hz=>HSR.out.subset hz) (fun z hz=>HSW.out.subset hz) (fun v hv=>⟨(HRL.out v hv).1.now H2w.out,(HRL.out v hv).2⟩) (fun v hv=>⟨(HTL.out v hv).1.now H2w.out,(HTL.out v hv).2⟩)).now hW
         obtain ⟨q,hq⟩:∃ q,rcIx (RV.map Rv.r) z.r.rcp 900=q:=⟨_,rfl⟩
         have HQ5:=hd_ hq
         have HQI:Hid (ixI (rcIx (RV.map Rv.r) z.r.rcp 900)=ixI q):=by show _=_;rw [hq]
         have hmR6:mR≤1000000:=by omega
         clear hec hec2 hz hyd hcd hq hlW
         cases q with
         | none =>
           have hneg:decide ((-1:Int)≥0)=false:=by decide
           have HVS:Hid (Iv5 RV (Gt2 l) UV EL (k+1) WV FL):=by show Iv5 _ _ _ _ _ _ _;exact HV5.out.skip (fun v hv=>mk_cnt HM.out (by rw [← HXR.out];exact List.mem_map.2 ⟨v,HSR.out.subset hv,rfl⟩)) HZK.out HQ5.out
           simp only [ixI] at HQI
           go_wp2_with fail
           (refine rg_ ?_;(repeat (go_big_quiet_step ((first | (go_at_call_of 39 (Value.agg #[.slice pA pn pc,.slice AR mR cR,.slice AW mW cW,.slice none 0 0]);exact Calls.grow_all (fun g=>r_receiptOf_v (⟨l.pp,RV.map Rv.r,WV.map Tv.r,[]⟩:Led) ⟨pA,pn,pc,AR,mR,cR,AW,mW,cW,none,0,0⟩ z.r.rcp 900 (-1) g.1 hmR6 ((HLW.out _ (Below.refl _ _)).now g.2) HQI.out))))));refine qn_ fun w1 hb1 hc1 hf1=>?_)
           go_wp2_with fail
           go_roundw
           case rel=>exact ⟨k+1,by omega,by go_num,AW,mW,cW,mF,WV,FL,HI5.out.ext hb1,HVS.out⟩
           case measure=>exact ms_
         | some i =>
           have hpos:decide ((i:Int)≥0)=true:=by simp
           simp only [ixI] at HQI
           go_wp2_with fail
           (refine rg_ ?_;(repeat (go_big_quiet_step ((first | (go_at_call_of 39 (Value.agg #[.slice pA pn pc,.slice AR mR cR,.slice AW mW cW,.slice none 0 0]);exact Calls.grow_all (fun g=>r_receiptOf_v (⟨l.pp,RV.map Rv.r,WV.map Tv.r,[]⟩:Led) ⟨pA,pn,pc,AR,mR,cR,AW,mW,cW,none,0,0⟩ z.r.rcp 900 i g.1 hmR6 ((HLW.out _ (Below.refl _ _)).now g.2) HQI.out))))));refine qn_ fun w1 hb1 hc1 hf1=>?_)
           obtain ⟨w8,hw8⟩:∃ w8,w8=w1:=⟨_,rfl⟩
           have h8:Below wr.heap.size wr w8:=by rw [hw8];exact hb1
           rw [← hw8]
           clear hb1 hc1 hf1 hw8 kX zX kO zO g1
           have hs8:=h8.size
           have HI8:=hd_ (HI5.out.ext h8)
           have HX8:=hd_ (HX5.out.ext h8)
           have HO8:=hd_ (HO5.out.ext h8)
           have HEC8:Hid (∀ m u,(tvC z)[m]?=some u→w8.cell? ⟨b,o+k*8+m,none⟩=some u):=by
            show ∀ _,_
            exact fun m u hu=>(h8.cell (p:=⟨b,o+k*8+m,none⟩) hbr).trans (HEC.out m u hu)
           have hbr8:b<w8.heap.size:=by omega
           have hsz8:=HI8.out.wo.sz
           clear HEC hbr hsz h8
           go_wp2_with fail
           (refine wp_region_sink_lit (S:=SW w4.heap.size W6.heap.size #[.slice pA pn pc,.slice rA rn rc,.slice (some ⟨b,o,none⟩) mE cU,.slice none 0 0] #[.slice pA pn pc,.slice AR mR cR,.slice AW mW cW,.slice none 0 0] b (o+k*8) (tvC z)) 10 (by kernel_rfl) rfl rfl (by kernel_rfl) (by kernel_rfl) ⟨⟨HX8.out.cell,HO8.out.cell,HX8.out.lt,HO8.out.lt⟩,hbr8,HEC8.out⟩ (fun hS=>?_);simp only [List.take_succ_cons,List.take_zero,List.reduceReplicate,Array.replicate_succ,Array.replicate_zero])
           refine wpAnyH_abs (fun _ _ _ _ _ h=>h) (by kernel_rfl) (fun L Q HL HQ HP HN=>?_)
           (refine wpAnyH_takeL (i:=0) (v:=?_) HL HP HN rfl (by kernel_rfl) (by kernel_rfl) rfl ?_ hS ?_;rotate_left;focus (intro w2 hw2;obtain ⟨⟨x1,x2,z1,z2⟩,z3,hec⟩:=hw2;have g0:=hec 0 _ rfl;have g1:=hec 1 _ rfl;have g2:=hec 2 _ rfl;have g3:=hec 3 _ rfl;have g4:=hec 4 _ rfl;have g5:=hec 5 _ rfl;have g6:=hec 6 _ rfl;have g7:=hec 7 _ rfl;simp only [Nat.add_zero] at g0;clear hec;go_simp;first | done | with_reducible rfl);(try simp only [Act.put,pu1,pu2,pu3]))
           (refine wpAnyH_takeL (i:=1) (v:=?_) HL HP HN rfl (by kernel_rfl) (by kernel_rfl) rfl ?_ hS ?_;rotate_left;focus (intro w2 hw2;obtain ⟨⟨x1,x2,z1,z2⟩,z3,hec⟩:=hw2;have g0:=hec 0 _ rfl;have g1:=hec 1 _ rfl;have g2:=hec 2 _ rfl;have g3:=hec 3 _ rfl;have g4:=hec 4 _ rfl;have g5:=hec 5 _ rfl;have g6:=hec 6 _ rfl;have g7:=hec 7 _ rfl;simp only [Nat.add_zero] at g0;clear hec;go_simp;first | done | with_reducible rfl);(try simp only [Act.put,pu1,pu2,pu3]))
           (refine wpAnyH_takeL (i:=2) (v:=?_) HL HP HN rfl (by kernel_rfl) (by kernel_rfl) rfl ?_ hS ?_;rotate_left;focus (intro w2 hw2;obtain ⟨⟨x1,x2,z1,z2⟩,z3,hec⟩:=hw2;have g0:=hec 0 _ rfl;have g1:=hec 1 _ rfl;have g2:=hec 2 _ rfl;have g3:=hec 3 _ rfl;have g4:=hec 4 _ rfl;have g5:=hec 5 _ rfl;have g6:=hec 6 _ rfl;have g7:=hec 7 _ rfl;simp only [Nat.add_zero] at g0;clear hec;go_simp;first | done | with_reducible rfl);(try simp only [Act.put,pu1,pu2,pu3]))
           (refine wpAnyH_takeL (i:=3) (v:=?_) HL HP HN rfl (by kernel_rfl) (by kernel_rfl) rfl ?_ hS ?_;rotate_left;focus (intro w2 hw2;obtain ⟨⟨x1,x2,z1,z2⟩,z3,hec⟩:=hw2;have g0:=hec 0 _ rfl;have g1:=hec 1 _ rfl;have g2:=hec 2 _ rfl;have g3:=hec 3 _ rfl;have g4:=hec 4 _ rfl;have g5:=hec 5 _ rfl;have g6:=hec 6 _ rfl;have g7:=hec 7 _ rfl;simp only [Nat.add_zero] at g0;clear hec;go_simp;first | done | with_reducible rfl);(try simp only [Act.put,pu1,pu2,pu3]))
           (refine wpAnyH_takeL (i:=4) (v:=?_) HL HP HN rfl (by kernel_rfl) (by kernel_rfl) rfl ?_ hS ?_;rotate_left;focus (intro w2 hw2;obtain ⟨⟨x1,x2,z1,z2⟩,z3,hec⟩:=hw2;have g0:=hec 0 _ rfl;have g1:=hec 1 _ rfl;have g2:=hec 2 _ rfl;have g3:=hec 3 _ rfl;have g4:=hec 4 _ rfl;have g5:=hec 5 _ rfl;have g6:=hec 6 _ rfl;have g7:=hec 7 _ rfl;simp only [Nat.add_zero] at g0;clear hec;go_simp;first | done | with_reducible rfl);(try simp only [Act.put,pu1,pu2,pu3]))
           (refine wpAnyH_takeL (i:=5) (v:=?_) HL HP HN rfl (by kernel_rfl) (by kernel_rfl) rfl ?_ hS ?_;rotate_left;focus (intro w2 hw2;obtain ⟨⟨x1,x2,z1,z2⟩,z3,hec⟩:=hw2;have g0:=hec 0 _ rfl;have g1:=hec 1 _ rfl;have g2:=hec 2 _ rfl;have g3:=hec 3 _ rfl;have g4:=hec 4 _ rfl;have g5:=hec 5 _ rfl;have g6:=hec 6 _ rfl;have g7:=hec 7 _ rfl;simp only [Nat.add_zero] at g0;clear hec;go_simp;first | done | with_reducible rfl);(try simp only [Act.put,pu1,pu2,pu3]))
           (refine wpAnyH_takeL (i:=6) (v:=?_) HL HP HN rfl (by kernel_rfl) (by kernel_rfl) rfl ?_ hS ?_;rotate_left;focus (intro w2 hw2;obtain ⟨⟨x1,x2,z1,z2⟩,z3,hec⟩:=hw2;have g0:=hec 0 _ rfl;have g1:=hec 1 _ rfl;have g2:=hec 2 _ rfl;have g3:=hec 3 _ rfl;have g4:=hec 4 _ rfl;have g5:=hec 5 _ rfl;have g6:=hec 6 _ rfl;have g7:=hec 7 _ rfl;simp only [Nat.add_zero] at g0;clear hec;go_simp;first | done | with_reducible rfl);(try simp only [Act.put,pu1,pu2,pu3]))
           refine wpAnyH_readyL (rs:=[7]) HL (by kernel_rfl) (by simp) ?_
           refine AllReadyH.consL HL rfl rfl (fun K hK=>?_) AllReadyH.nil
           go_simp
           have hS5:=SW.ext ((Below.refl _ _).alloc lr_ (.cells (tvC z).toArray 75)) hS
           refine hK.out _ _ hS5 (fun hS=>?_)
           clear hK K
           (try simp only [Act.put,pu1,pu2,pu3])
           have h5:Below w8.heap.size w8 (w8.drew.alloc (.cells (tvC z).toArray 75)):=by exact bel_
           refine wpAnyH_readyL (rs:=[8]) HL (by kernel_rfl) (by simp) ?_
           refine AllReadyH.consL HL rfl rfl (fun K hK=>?_) AllReadyH.nil
           refine step_appN (by rfl) (.tmp 180) (.tmp 186) 29 (by rfl) (base:=wv3.heap.size) (B:=_) (e:=75) (i:=iT) (size:=8) (bytes:=80) Tryz.underlying29 hiT hz0T hz1T hz2T rfl (by decide) (v:=.slice AW mW cW) (n:=mW) (m:=1) (A:=some ⟨w8.heap.size,0,none⟩) (c:=1) (xs:=WV.flatMap tvC) (news:=tvC z) (by rfl) (by rfl) (own_ex HI8.out.wo.t h5) (Rd.new w8.drew (tvC z).toArray 75 8 1 _ rfl rfl) (by intro u hu;simp at hu;rcases hu with rfl | rfl | rfl | rfl | rfl | rfl | rfl | rfl <;> rfl) (by unfold maxLen;omega) (by omega) (by simp;omega) ?_
           intro v6 w6 hown6 hgrow6
           obtain ⟨A6,c6,rfl,hcc6⟩:=own_slice hown6
           have h5o:=own_ex HI8.out.wo.t h5
           refine hK.out _ _ (SW.grownR hgrow6 hS5 (own_ne h5o (HX8.out.ext h5) (by decide)) (own_ne h5o (HO8.out.ext h5) (by decide)) (fun e=>by have:=own_le h5o e.symm;omega)) (fun hS=>?_)
           clear hK K
           (try simp only [Act.put,pu1,pu2,pu3])
           (refine wpAnyH_takeL (i:=9) (v:=?_) HL HP HN rfl (by kernel_rfl) (by kernel_rfl) rfl ?_ hS ?_;rotate_left;focus (intro w2 hw2;obtain ⟨⟨x1,x2,z1,z2⟩,z3,hec⟩:=hw2;have g0:=hec 0 _ rfl;have g1:=hec 1 _ rfl;have g2:=hec 2 _ rfl;have g3:=hec 3 _ rfl;have g4:=hec 4 _ rfl;have g5:=hec 5 _ rfl;have g6:=hec 6 _ rfl;have g7:=hec 7 _ rfl;simp only [Nat.add_zero] at g0;clear hec;go_simp;first | done | with_reducible rfl);(try simp only [Act.put,pu1,pu2,pu3]))
           have bO6:=(HO8.out.ext h5).kept hgrow6 (own_ne h5o (HO8.out.ext h5) (by decide))
           have kO6:=bO6.cell
           have zO6:=bO6.lt
           have fO6:=bO6.frozen
           have HT6:=hd_ (HI8.out.appT hqq3 hwv1 h5 (z:=z) hown6 hgrow6 (.slice A6 (mW+1) c6))
           clear hown6 hgrow6 hS hS5 h5o bO6 
           refine wpAnyH_doneL HL HQ (by kernel_rfl) ?_ _
           simp only [sinkQ]
           go_simp
           go_upto_region 38 with fail
           refine wp_named2 fun f6 W9 hf6 hW9=>?_
           have HT7:Hid (HdI W6 wv3 W9 W6.heap.size #[.slice pA pn pc,.slice AR mR cR,.slice A6 (mW+1) c6,.slice none 0 0] mR (.slice AR mR cR) RV (mW+1) (.slice A6 (mW+1) c6) (WV ++ [z]) mF u18 FL):=by show HdI _ _ _ _ _ _ _ _ _ _ _ _ _ _;rw [← hW9];exact HT6.out
           clear hW9 HT6 kO6 zO6 fO6
           subst hf6
           have e0:=(HT7.out.wo.bel.cell (p:=⟨bd,od+k,none⟩) hbd).trans HCD.out
           have hbd8:bd<W9.heap.size:=by have:=HT7.out.wo.bel.size;omega
           have h68:Below W9.heap.size W9 (W9.alloc (.cells #[.int .i64 yd] 3)):=(Below.refl _ _).alloc lr_ _
           go_wp2_with (at_builtin;refine wpList_append_own_at _ rfl (.tmp 189) (.tmp 194) 33 rfl (wv3.heap.size) 3 i0 _ 1 8 Tryz.underlying33 hi hz0 hz1 hz2 rfl (by decide) _ _ _ rfl (own_ex HT7.out.d h68) ⟨W9.heap.size,0,none⟩ 1 1 [.int .i64 yd] rfl rfl ?d1 ?d2 ?d3 ?d4 ?d5 ?_;rotate_left 5;intro v9 w9 hown9 hgrow9 _ hat9;have HT9:=hd_ (HT7.out.appD hwv1 h68 hown9 hgrow9);clear hown9 hgrow9 hat9)
           (try (case d1=>(exact new_at (by rfl))))
           (try (case d2=>(simp [Value.oneCell'])))
           (try (case d3=>(unfold maxLen;omega)))
           (try (case d4=>(omega)))
           (try (case d5=>(have:=HT7.out.wo.sz;simp;omega)))
           go_roundw
           case rel=>exact ⟨k+1,by omega,by go_num,A6,mW+1,c6,mF+1,WV ++ [z],FL ++ [yd],HT9.out,HV5.out.add HV2.out.pd HZK.out HYD.out HQ5.out⟩
           case measure=>exact ms_
        ·obtain rfl:mE=k:=by omega
         clear hk hlt
         have HSW:Hid (WV.Sublist XT):=by show List.Sublist _ _;exact (HV5.out.sub.trans (List.take_sublist ..)).trans HSU.out
         obtain ⟨AF,cF,hvF,hcF⟩:=own_slice HI5.out.d
         subst hvF
         have hmF2:mF=mW:=by omega
         subst hmF2
         have HLW1:Hid (WV.length=mF):=by show _=_;exact hlW
         have HOW:Hid (LedOk (⟨l.pp,RV.map Rv.r,WV.map Tv.r,[]⟩:Led)):=by show LedOk _;exact out_ok HM.out HXR.out HSR.out HXT.out HSW.out
         have HLW:Hid (∀ W:World,Below wr.heap.size wr W→LedIn W W.heap.size ⟨pA,pn,pc,AR,mR,cR,AW,mF,cW,none,0,0⟩ (⟨l.pp,RV.map Rv.r,WV.map Tv.r,[]⟩:Led)):=by
          show ∀ _,_
          exact fun W hW=>(HI5.out.ledRT (XR:=XR) (XT:=XT) (pA:=pA) (pn:=pn) (pc:=pc) rfl rfl (HL2.out.now H2w.out).p (fun z hz=>HSR.out.subset hz) (fun z hz=>HSW.out.subset hz) (fun v hv=>⟨(HRL.out v hv).1.now H2w.out,(HRL.out v hv).2⟩) (fun v hv=>⟨(HTL.out v hv).1.now H2w.out,(HTL.out v hv).2⟩)).now hW
         clear hlW hmF
         obtain ⟨W7,rfl⟩:∃ W7:World,W7=wr:=⟨_,rfl⟩
         go_upto_region 40 with ((go_at_call 42;refine (r_look (⟨l.pp,RV.map Rv.r,WV.map Tv.r,[]⟩:Led) ⟨pA,pn,pc,AR,mR,cR,AW,mF,cW,none,0,0⟩ 900 _ HOW.out (HLW.out _ (by exact bel_))).mono ?_;rintro e w7 ⟨BV,cv,rfl,hb7,hT7,hBV⟩;have h7:Below W7.heap.size W7 w7:=bt_ (by exact bel_) hb7;have HT7:=hd_ hT7;clear hT7 hb7))
         clear kO zO kX zX
         refine wp_named2 fun f8 wv4 hf8 hwv4=>?_
         have bV:BoxA wv4 w7.heap.size 89 #[.slice pA pn pc,.slice AR mR cR,.slice AW mF cW,.slice none 0 0,.int .i64 900,.slice (some ⟨BV,0,none⟩) mF cv,.slice none 0 0]:=by rw [← hwv4];exact BoxA.new _ _ _
         have h78:Below w7.heap.size w7 wv4:=by rw [← hwv4];exact bel_
         have hs7:=h7.size
         have hs78:=h78.size
         have h74:Below W7.heap.size W7 wv4:=bt_ h7 h78
         have H74:=hd_ h74
         have HT8:=hd_ (HT7.out.ext h78)
         have HBV4:=hd_ bV
         have HI9:=hd_ (HI5.out.ext h74)
         have zV4:=bV.lt
         have zT4:=HT8.out.lt
         have hq4:W6.heap.size<W7.heap.size:=HO5.out.lt
         have hqq4:W6.heap.size≤W6.heap.size∧W6.heap.size<wv4.heap.size:=⟨lr_,by omega⟩
         have hwv4s:W6.heap.size≤wv4.heap.size:=by omega
         have hpp:l.pp=mPp:=HM.out.pp
         have HPP:=hd_ hpp
         have HXW:Hid (BoxA W6 w.heap.size 25 #[.slice aA an ac,.slice bA bn bc,.slice cA cn cc]):=by show BoxA _ _ _ _;exact HX2.out.ext H2w.out
         have HBW6:Hid (Below w.heap.size w W6):=by show Below _ _ _;exact bt_ HB2.out H2w.out
         have hw6s:=HBW6.out.size
         have HZW:Hid (BoxA W6 (w.heap.size+1) 32 #[.slice none 0 0,.slice none 0 0,.slice none 0 0,.slice none 0 0]):=by show BoxA _ _ _ _;exact HZ2.out.ext H2w.out
         have hp6:Pps W6 W6.heap.size pA pn mPp:=by have h:=(HL2.out.now H2w.out).p;rwa [hpp] at h
         have hpn3:pn=3:=hp6.len.symm
         subst hpn3
         have HP6:=hd_ hp6
         have HWS:Hid (WoI W6 wv4 wv4 W6.heap.size #[.slice pA 3 pc,.slice AR mR cR,.slice AW mF cW,.slice none 0 0] (0,.slice none 0 0,[]) (0,.slice none 0 0,[]) (0,.slice none 0 0,[])):=by
          show WoI _ _ _ _ _ _ _ _
          exact ⟨HI9.out.wo.bel,fun _ _ _=>rfl,lr_,HI9.out.wo.bO,World.ownsRow_nil _ _ _ _,World.ownsRow_nil _ _ _ _,World.ownsRow_nil _ _ _ _⟩
         clear hwv4 bV h7 h78 h74 HT7 hpp hp6 HLW
         subst hf8
         go_wp2_with fail
         go_loopw [21] (fun i wr=>∃ (H:Nat) (SV:List Sgt) (AS:Option Addr) (cS:Nat),H≤6∧i=.int .i64 (H:Int)∧SV.length=H∧WoI W6 wv4 wr W6.heap.size #[.slice pA 3 pc,.slice AR mR cR,.slice AW mF cW,.slice AS H cS] (0,.slice none 0 0,[]) (0,.slice none 0 0,[]) (H,.slice AS H cS,SV.flatMap sgC)∧(∀ (k:Nat) s,SV[k]?=some s→HgMk k s)∧∀ s∈SV,s.per=whoF ⟨mPp,RV.map Rv.r,WV.map Tv.r,[]⟩ 900 s.day FL s.pap s.leaf) (fun i _=>6 - (intOf i).toNat)
         case atStart=>exact ⟨0,[],none,0,by omega,rfl,rfl,HWS.out,fun k s h=>by simp at h,fun s h=>by cases h⟩
         case round =>
          obtain ⟨H,SV,AS,cS,hH6,rfl,hSl,hI,hsg,hsw⟩:=hrel
          have hsz:=hI.sz
          have hB:Below W6.heap.size W6 wr:=hI.bel
          have hszB:=hB.size
          have bX:BoxA wr w.heap.size 25 #[.slice aA an ac,.slice bA bn bc,.slice cA cn cc]:=HXW.out.ext hB
          have bO:=hI.bO
          have hbw:Below w.heap.size w wr:=bt_ HBW6.out hB
          have kX:=bX.cell
          have zX:=bX.lt
          have kO:=bO.cell
          have zO:=bO.lt
          have HI:=hd_ hI
          have HB:=hd_ hB
          have HX:=hd_ bX
          have HO:=hd_ bO
          have HBW:=hd_ hbw
          have HSG:=hd_ hsg
          have HSW2:=hd_ hsw
          clear hI hB bX bO hbw hsg hsw
          go_upto_region 41 with fail
          go_cut [206] from 198 to 198 (fun c wx=>c=.bool (decide (H<cn) && decide (H<6))∧wx=wr)
          case first =>
           by_cases h1:H<cn
           ·by_cases h2:H<6
            ·go_wp2_with fail
             go_meet
             exact ⟨by first | (simp [h1,h2];done) | (simp [h1,h2];omega),rfl⟩
            ·go_wp2_with fail
             go_meet
             exact ⟨by first | (simp [h1,h2];done) | (simp [h1,h2];omega),rfl⟩
           ·go_wp2_with fail
            go_meet
            exact ⟨by first | (simp [h1];done) | (simp [h1];omega),rfl⟩
          case rest =>
          obtain ⟨rfl,hwc⟩:=hcut
          obtain rfl:wr=wc:=hwc.symm
          cases hC:(decide (H<cn) && decide (H<6)) with
          | true =>
            simp only [Bool.and_eq_true,decide_eq_true_eq] at hC
            obtain ⟨hKa,hH6'⟩:=hC
            obtain ⟨b,o,hA,hb,hec⟩:=raw_at HRC.out hKa
            have hec2:∀ j,j<5→wr.cell? ⟨b,o+H*5+j,none⟩=some (.int .i64 (r.c.getD (H*5+j) 0)):=fun j hj=>(HBW.out.cell (p:=⟨b,o+H*5+j,none⟩) hb).trans (hec j hj)
            have hbr:b<wr.heap.size:=by have:=HBW.out.size;omega
            obtain ⟨n0,hn0⟩:∃ n,r.c.getD (H*5+0) 0=n:=⟨_,rfl⟩
            obtain ⟨n1,hn1⟩:∃ n,r.c.getD (H*5+1) 0=n:=⟨_,rfl⟩
            obtain ⟨n2,hn2⟩:∃ n,r.c.getD (H*5+2) 0=n:=⟨_,rfl⟩
            obtain ⟨n3,hn3⟩:∃ n,r.c.getD (H*5+3) 0=n:=⟨_,rfl⟩
            obtain ⟨n4,hn4⟩:∃ n,r.c.getD (H*5+4) 0=n:=⟨_,rfl⟩
            have e0:=hec2 0 (by decide)
            have e1:=hec2 1 (by decide)
            have e2:=hec2 2 (by decide)
            have e3:=hec2 3 (by decide)
            have e4:=hec2 4 (by decide)
            rw [hn0,Nat.add_zero] at e0
            rw [hn1] at e1
            rw [hn2] at e2
            rw [hn3] at e3
            rw [hn4] at e4
            subst hA
            clear hec hec2 hn0 hn1 hn2 hn3 hn4
            go_upto_region 44 with fail
            refine wp_named2 fun f2 V1 hf2 hV1=>?_
            have bN:BoxA V1 wr.heap.size 68 #[.int .i64 n0,.int .i64 n1,.int .i64 n2,.int .i64 n3,.int .i64 n4]:=by rw [← hV1];exact BoxA.new _ _ _
            have h1:Below wr.heap.size wr V1:=by rw [← hV1];exact bel_
            have hs1:=h1.size
            have HBN:=hd_ bN
            have HOB1:=hd_ (HO.out.ext h1)
            have hPV:Pps V1 V1.heap.size pA 3 mPp:=HP6.out.now abP (bt_ HB.out h1)
            clear hV1 e0 e1 e2 e3 e4 kX zX kO zO bN
            subst hf2
            obtain ⟨m,hm,hm3⟩:=mod_nat n1 (m:=3) (by decide)
            obtain ⟨p,hp,hpm,hpl1,hpl4,hpi1,hpi5⟩:=pp_at hm3
            obtain ⟨gb,go,p',hA,hgb,hp',hc0,hc1⟩:=hPV.at_ (k:=m) (by omega)
            obtain rfl:p=p':=Option.some.inj (hp.symm.trans hp')
            obtain ⟨pid,plv⟩:=p
            dsimp only at hpl1 hpl4 hpi1 hpi5 hc0 hc1
            obtain ⟨pl,rfl⟩:∃ n:Nat,plv=(n:Int):=⟨plv.toNat,by omega⟩
            subst hA
            have HEC:Hid (∀ j u,(ppC ⟨pid,(pl:Int)⟩)[j]?=some u→V1.cell? ⟨gb,go+m*2+j,none⟩=some u):=by
             show ∀ _,_
             intro j u hu
             match j,hu with
             | 0,hu=>simp at hu;subst hu;simpa using hc0
             | 1,hu=>simp at hu;subst hu;exact hc1
            have HMM:=hd_ hm
            have HPM:=hd_ hpm
            clear hm hp hp' hpm hPV hc0 hc1
            go_cut [23] from 198 to 198 (fun c wx=>∃ B,c=.pointer (some ⟨B,0,none⟩)∧V1.heap.size≤B∧Below V1.heap.size V1 wx∧BoxA wx B 38 #[.int .i64 pid,.int .i64 (pl:Int)])
            case first =>
             (refine wp_region_sink_lit (S:=KE wr.heap.size W6.heap.size #[.int .i64 n0,.int .i64 n1,.int .i64 n2,.int .i64 n3,.int .i64 n4] #[.slice (some ⟨gb,go,none⟩) 3 pc,.slice AR mR cR,.slice AW mF cW,.slice AS H cS] gb (go+m*2) (ppC ⟨pid,(pl:Int)⟩)) 8 (by kernel_rfl) rfl rfl (by kernel_rfl) (by kernel_rfl) ⟨⟨HBN.out.cell,HOB1.out.cell,HBN.out.lt,HOB1.out.lt⟩,hgb,HEC.out⟩ (fun hS=>?_);simp only [List.take_succ_cons,List.take_zero,List.reduceReplicate,Array.replicate_succ,Array.replicate_zero])
             refine wpAnyH_abs (fun _ _ _ _ _ h=>h) (by kernel_rfl) (fun L Q HL HQ HP HN=>?_)
             (refine wpAnyH_takeL (i:=0) (v:=?_) HL HP HN rfl (by kernel_rfl) (by kernel_rfl) rfl ?_ hS ?_;rotate_left;focus (intro w2 hw2;obtain ⟨⟨x1,x2,z1,z2⟩,z3,hec⟩:=hw2;have g0:=hec 0 _ rfl;have g1:=hec 1 _ rfl;simp only [Nat.add_zero] at g0;clear hec;go_simp;first | done | with_reducible rfl);(try simp only [Act.put,pu1,pu2,pu3]))
             (refine wpAnyH_takeL (i:=1) (v:=?_) HL HP HN rfl (by kernel_rfl) (by kernel_rfl) rfl ?_ hS ?_;rotate_left;focus (intro w2 hw2;obtain ⟨⟨x1,x2,z1,z2⟩,z3,hec⟩:=hw2;have g0:=hec 0 _ rfl;have g1:=hec 1 _ rfl;simp only [Nat.add_zero] at g0;clear hec;go_simp;first | done | with_reducible rfl);(try simp only [Act.put,pu1,pu2,pu3]))
             (refine wpAnyH_takeL (i:=2) (v:=?_) HL HP HN rfl (by kernel_rfl) (by kernel_rfl) rfl ?_ hS ?_;rotate_left;focus (intro w2 hw2;obtain ⟨⟨x1,x2,z1,z2⟩,z3,hec⟩:=hw2;have g0:=hec 0 _ rfl;have g1:=hec 1 _ rfl;simp only [Nat.add_zero] at g0;clear hec;go_simp;first | done | with_reducible rfl);(try simp only [Act.put,pu1,pu2,pu3]))
             (refine wpAnyH_takeL (i:=3) (v:=?_) HL HP HN rfl (by kernel_rfl) (by kernel_rfl) rfl ?_ hS ?_;rotate_left;focus (intro w2 hw2;obtain ⟨⟨x1,x2,z1,z2⟩,z3,hec⟩:=hw2;have g0:=hec 0 _ rfl;have g1:=hec 1 _ rfl;simp only [Nat.add_zero] at g0;clear hec;go_simp;first | done | with_reducible rfl);(try simp only [Act.put,pu1,pu2,pu3]))
             refine wpAnyH_readyL (rs:=[4,7]) HL (by kernel_rfl) (by simp) ?_
             refine AllReadyH.consL HL rfl rfl (fun K hK=>?_) (AllReadyH.consL HL rfl rfl (fun K hK=>?_) AllReadyH.nil)
             ·skip
              (go_simp;go_at_call 11;refine (r_Mod_v n1 3 m _ (by decide) (by decide) HMM.out).mono ?_;rintro e w6 ⟨rfl,rfl⟩;go_simp)
              refine hK.out _ _ hS (fun hS=>?_)
              clear hK K
              (try simp only [Act.put,pu1,pu2,pu3])
              (refine wpAnyH_takeL (i:=5) (v:=?_) HL HP HN rfl (by kernel_rfl) (by kernel_rfl) rfl ?_ hS ?_;rotate_left;focus (intro w2 hw2;obtain ⟨⟨x1,x2,z1,z2⟩,z3,hec⟩:=hw2;have g0:=hec 0 _ rfl;have g1:=hec 1 _ rfl;simp only [Nat.add_zero] at g0;clear hec;go_simp;first | done | with_reducible rfl);(try simp only [Act.put,pu1,pu2,pu3]))
              (refine wpAnyH_takeL (i:=6) (v:=?_) HL HP HN rfl (by kernel_rfl) (by kernel_rfl) rfl ?_ hS ?_;rotate_left;focus (intro w2 hw2;obtain ⟨⟨x1,x2,z1,z2⟩,z3,hec⟩:=hw2;have g0:=hec 0 _ rfl;have g1:=hec 1 _ rfl;simp only [Nat.add_zero] at g0;clear hec;go_simp;first | done | with_reducible rfl);(try simp only [Act.put,pu1,pu2,pu3]))
              refine wpAnyH_readyL (rs:=[7]) HL (by kernel_rfl) (by simp) ?_
              refine AllReadyH.consL HL rfl rfl (fun K hK=>?_) AllReadyH.nil
              go_simp
              refine hK.out _ _ (KE.ext ((Below.refl _ _).alloc lr_ _) hS) (fun hS=>?_)
              clear hK K
              (try simp only [Act.put,pu1,pu2,pu3])
              refine wpAnyH_doneL HL HQ (by kernel_rfl) ?_ _
              simp only [sinkQ]
              go_simp
              go_wp2
              go_meet
              exact ⟨_,rfl,lr_,by exact bel_,BoxA.new _ _ _⟩
             ·skip
              go_simp
              refine hK.out _ _ (KE.ext ((Below.refl _ _).alloc lr_ _) hS) (fun hS=>?_)
              clear hK K
              (try simp only [Act.put,pu1,pu2,pu3])
              refine wpAnyH_readyL (rs:=[4]) HL (by kernel_rfl) (by simp) ?_
              refine AllReadyH.consL HL rfl rfl (fun K hK=>?_) AllReadyH.nil
              (go_simp;go_at_call 11;refine (r_Mod_v n1 3 m _ (by decide) (by decide) HMM.out).mono ?_;rintro e w6 ⟨rfl,rfl⟩;go_simp)
              refine hK.out _ _ hS (fun hS=>?_)
              clear hK K
              (try simp only [Act.put,pu1,pu2,pu3])
              (refine wpAnyH_takeL (i:=5) (v:=?_) HL HP HN rfl (by kernel_rfl) (by kernel_rfl) rfl ?_ hS ?_;rotate_left;focus (intro w2 hw2;obtain ⟨⟨x1,x2,z1,z2⟩,z3,hec⟩:=hw2;have g0:=hec 0 _ rfl;have g1:=hec 1 _ rfl;simp only [Nat.add_zero] at g0;clear hec;go_simp;first | done | with_reducible rfl);(try simp only [Act.put,pu1,pu2,pu3]))
              (refine wpAnyH_takeL (i:=6) (v:=?_) HL HP HN rfl (by kernel_rfl) (by kernel_rfl) rfl ?_ hS ?_;rotate_left;focus (intro w2 hw2;obtain ⟨⟨x1,x2,z1,z2⟩,z3,hec⟩:=hw2;have g0:=hec 0 _ rfl;have g1:=hec 1 _ rfl;simp only [Nat.add_zero] at g0;clear hec;go_simp;first | done | with_reducible rfl);(try simp only [Act.put,pu1,pu2,pu3]))
              refine wpAnyH_doneL HL HQ (by kernel_rfl) ?_ _
              simp only [sinkQ]
              go_simp
              go_wp2
              go_meet
              exact ⟨_,rfl,lr_,by exact bel_,BoxA.new _ _ _⟩
            case rest =>
            obtain ⟨B2,rfl,hB2,h2,bQ⟩:=hcut
            obtain ⟨V2,rfl⟩:∃ V2:World,V2=wc:=⟨_,rfl⟩
            have hs2:=h2.size
            have h12:Below wr.heap.size wr V2:=bt_ h1 h2
            have HN2:=hd_ (HBN.out.ext h2)
            have HQ2:=hd_ bQ
            obtain ⟨v2,hv2,hv2b⟩:=mod_nat n2 (m:=(pl:Int)) (by omega)
            obtain ⟨v3,hv3,hv3b⟩:=mod_nat n3 (m:=200) (by decide)
            obtain ⟨v4,hv4,hv4b⟩:=mod_nat n4 (m:=300) (by decide)
            have HV2b:=hd_ hv2
            have HV3b:=hd_ hv3
            have HV4b:=hd_ hv4
            have w26:IntKind.i64.wrap (3*(H:Int))=3*(H:Int):=wrap_in (by omega) (by omega)
            have w27:IntKind.i64.wrap (3*(H:Int)+3)=3*(H:Int)+3:=wrap_in (by omega) (by omega)
            have w28:IntKind.i64.wrap (1+(v2:Int))=1+(v2:Int):=wrap_in (by omega) (by omega)
            clear hv2 hv3 hv4 bQ HOB1 HBN HEC
            go_upto_region 45 with fail
            go_cut [24] from 198 to 198 (fun c wx=>∃ B,c=.pointer (some ⟨B,0,none⟩)∧V2.heap.size≤B∧Below V2.heap.size V2 wx∧BoxA wx B 70 #[.int .i64 (3*(H:Int)+3),.int .i64 0,.int .i64 pid,.int .i64 (1+(v2:Int)),.int .i64 (v3:Int),.int .i64 (v4:Int),.int .i64 0])
            case first =>
             (refine wp_region_sink_lit (S:=K2 wr.heap.size B2 #[.int .i64 n0,.int .i64 n1,.int .i64 n2,.int .i64 n3,.int .i64 n4] #[.int .i64 pid,.int .i64 (pl:Int)]) 19 (by kernel_rfl) rfl rfl (by kernel_rfl) (by kernel_rfl) ⟨HN2.out.cell,HQ2.out.cell,HN2.out.lt,HQ2.out.lt⟩ (fun hS=>?_);simp only [List.take_succ_cons,List.take_zero,List.reduceReplicate,Array.replicate_succ,Array.replicate_zero])
             refine wpAnyH_abs (fun _ _ _ _ _ h=>h) (by kernel_rfl) (fun L Q HL HQ HP HN=>?_)
             (refine wpAnyH_takeL (i:=0) (v:=?_) HL HP HN rfl (by kernel_rfl) (by kernel_rfl) rfl ?_ hS ?_;rotate_left;focus (intro w2 hw2;obtain ⟨x1,x2,z1,z2⟩:=hw2;go_simp;first | done | with_reducible rfl);(try simp only [Act.put,pu1,pu2,pu3]))
             (refine wpAnyH_takeL (i:=1) (v:=?_) HL HP HN rfl (by kernel_rfl) (by kernel_rfl) rfl ?_ hS ?_;rotate_left;focus (intro w2 hw2;obtain ⟨x1,x2,z1,z2⟩:=hw2;go_simp;first | done | with_reducible rfl);(try simp only [Act.put,pu1,pu2,pu3]))
             (refine wpAnyH_takeL (i:=2) (v:=?_) HL HP HN rfl (by kernel_rfl) (by kernel_rfl) rfl ?_ hS ?_;rotate_left;focus (intro w2 hw2;obtain ⟨x1,x2,z1,z2⟩:=hw2;go_simp;first | done | with_reducible rfl);(try simp only [Act.put,pu1,pu2,pu3]))
             (refine wpAnyH_takeL (i:=3) (v:=?_) HL HP HN rfl (by kernel_rfl) (by kernel_rfl) rfl ?_ hS ?_;rotate_left;focus (intro w2 hw2;obtain ⟨x1,x2,z1,z2⟩:=hw2;go_simp;first | done | with_reducible rfl);(try simp only [Act.put,pu1,pu2,pu3]))
             (refine wpAnyH_takeL (i:=4) (v:=?_) HL HP HN rfl (by kernel_rfl) (by kernel_rfl) rfl ?_ hS ?_;rotate_left;focus (intro w2 hw2;obtain ⟨x1,x2,z1,z2⟩:=hw2;go_simp;first | done | with_reducible rfl);(try simp only [Act.put,pu1,pu2,pu3]))
             (refine wpAnyH_takeL (i:=5) (v:=?_) HL HP HN rfl (by kernel_rfl) (by kernel_rfl) rfl ?_ hS ?_;rotate_left;focus (intro w2 hw2;obtain ⟨x1,x2,z1,z2⟩:=hw2;go_simp;first | done | with_reducible rfl);(try simp only [Act.put,pu1,pu2,pu3]))
             (refine wpAnyH_takeL (i:=6) (v:=?_) HL HP HN rfl (by kernel_rfl) (by kernel_rfl) rfl ?_ hS ?_;rotate_left;focus (intro w2 hw2;obtain ⟨x1,x2,z1,z2⟩:=hw2;go_simp;first | done | with_reducible rfl);(try simp only [Act.put,pu1,pu2,pu3]))
             (refine wpAnyH_takeL (i:=7) (v:=?_) HL HP HN rfl (by kernel_rfl) (by kernel_rfl) rfl ?_ hS ?_;rotate_left;focus (intro w2 hw2;obtain ⟨x1,x2,z1,z2⟩:=hw2;go_simp;first | done | with_reducible rfl);(try simp only [Act.put,pu1,pu2,pu3]))
             (refine wpAnyH_takeL (i:=8) (v:=?_) HL HP HN rfl (by kernel_rfl) (by kernel_rfl) rfl ?_ hS ?_;rotate_left;focus (intro w2 hw2;obtain ⟨x1,x2,z1,z2⟩:=hw2;go_simp;first | done | with_reducible rfl);(try simp only [Act.put,pu1,pu2,pu3]))
             (refine wpAnyH_takeL (i:=11) (v:=?_) HL HP HN rfl (by kernel_rfl) (by kernel_rfl) rfl ?_ hS ?_;rotate_left;focus (intro w2 hw2;obtain ⟨x1,x2,z1,z2⟩:=hw2;go_simp;first | done | with_reducible rfl);(try simp only [Act.put,pu1,pu2,pu3]))
             (refine wpAnyH_takeL (i:=12) (v:=?_) HL HP HN rfl (by kernel_rfl) (by kernel_rfl) rfl ?_ hS ?_;rotate_left;focus (intro w2 hw2;obtain ⟨x1,x2,z1,z2⟩:=hw2;go_simp;first | done | with_reducible rfl);(try simp only [Act.put,pu1,pu2,pu3]))
             (refine wpAnyH_takeL (i:=14) (v:=?_) HL HP HN rfl (by kernel_rfl) (by kernel_rfl) rfl ?_ hS ?_;rotate_left;focus (intro w2 hw2;obtain ⟨x1,x2,z1,z2⟩:=hw2;go_simp;first | done | with_reducible rfl);(try simp only [Act.put,pu1,pu2,pu3]))
             (refine wpAnyH_takeL (i:=15) (v:=?_) HL HP HN rfl (by kernel_rfl) (by kernel_rfl) rfl ?_ hS ?_;rotate_left;focus (intro w2 hw2;obtain ⟨x1,x2,z1,z2⟩:=hw2;go_simp;first | done | with_reducible rfl);(try simp only [Act.put,pu1,pu2,pu3]))
             refine wpAnyH_readyL (rs:=[9,18]) HL (by kernel_rfl) (by simp) ?_
             refine AllReadyH.consL HL rfl rfl (fun K hK=>?_) (AllReadyH.consL HL rfl rfl (fun K hK=>?_) AllReadyH.nil)
             ·skip
              (go_simp;go_at_call 11;refine (r_Mod_v n2 (pl:Int) v2 _ (by omega) (by omega) HV2b.out).mono ?_;rintro e w6 ⟨rfl,rfl⟩;go_simp)
              refine hK.out _ _ hS (fun hS=>?_)
              clear hK K
              (try simp only [Act.put,pu1,pu2,pu3])
              (refine wpAnyH_takeL (i:=10) (v:=?_) HL HP HN rfl (by kernel_rfl) (by kernel_rfl) rfl ?_ hS ?_;rotate_left;focus (intro w2 hw2;obtain ⟨x1,x2,z1,z2⟩:=hw2;go_simp;first | done | with_reducible rfl);(try simp only [Act.put,pu1,pu2,pu3]))
              refine wpAnyH_readyL (rs:=[13,18]) HL (by kernel_rfl) (by simp) ?_
              refine AllReadyH.consL HL rfl rfl (fun K hK=>?_) (AllReadyH.consL HL rfl rfl (fun K hK=>?_) AllReadyH.nil)
              ·skip
               (go_simp;go_at_call 11;refine (r_Mod_v n3 200 v3 _ (by decide) (by decide) HV3b.out).mono ?_;rintro e w6 ⟨rfl,rfl⟩;go_simp)
               refine hK.out _ _ hS (fun hS=>?_)
               clear hK K
               (try simp only [Act.put,pu1,pu2,pu3])
               refine wpAnyH_readyL (rs:=[16,18]) HL (by kernel_rfl) (by simp) ?_
               refine AllReadyH.consL HL rfl rfl (fun K hK=>?_) (AllReadyH.consL HL rfl rfl (fun K hK=>?_) AllReadyH.nil)
               ·skip
                (go_simp;go_at_call 11;refine (r_Mod_v n4 300 v4 _ (by decide) (by decide) HV4b.out).mono ?_;rintro e w6 ⟨rfl,rfl⟩;go_simp)
                refine hK.out _ _ hS (fun hS=>?_)
                clear hK K
                (try simp only [Act.put,pu1,pu2,pu3])
                (refine wpAnyH_takeL (i:=17) (v:=?_) HL HP HN rfl (by kernel_rfl) (by kernel_rfl) rfl ?_ hS ?_;rotate_left;focus (intro w2 hw2;obtain ⟨x1,x2,z1,z2⟩:=hw2;go_simp;first | done | with_reducible rfl);(try simp only [Act.put,pu1,pu2,pu3]))
                refine wpAnyH_readyL (rs:=[18]) HL (by kernel_rfl) (by simp) ?_
                refine AllReadyH.consL HL rfl rfl (fun K hK=>?_) AllReadyH.nil
                go_simp
                refine hK.out _ _ (K2.ext ((Below.refl _ _).alloc lr_ _) hS) (fun hS=>?_)
                clear hK K
                (try simp only [Act.put,pu1,pu2,pu3])
                refine wpAnyH_doneL HL HQ (by kernel_rfl) ?_ _
                simp only [sinkQ]
                go_simp
                go_wp2
                go_meet
                exact ⟨_,rfl,lr_,by exact bel_,BoxA.new _ _ _⟩
               ·skip
                go_simp
                refine hK.out _ _ (K2.ext ((Below.refl _ _).alloc lr_ _) hS) (fun hS=>?_)
                clear hK K
                (try simp only [Act.put,pu1,pu2,pu3])
                refine wpAnyH_readyL (rs:=[16]) HL (by kernel_rfl) (by simp) ?_
                refine AllReadyH.consL HL rfl rfl (fun K hK=>?_) AllReadyH.nil
                (go_simp;go_at_call 11;refine (r_Mod_v n4 300 v4 _ (by decide) (by decide) HV4b.out).mono ?_;rintro e w6 ⟨rfl,rfl⟩;go_simp)
                refine hK.out _ _ hS (fun hS=>?_)
                clear hK K
                (try simp only [Act.put,pu1,pu2,pu3])
                (refine wpAnyH_takeL (i:=17) (v:=?_) HL HP HN rfl (by kernel_rfl) (by kernel_rfl) rfl ?_ hS ?_;rotate_left;focus (intro w2 hw2;obtain ⟨x1,x2,z1,z2⟩:=hw2;go_simp;first | done | with_reducible rfl);(try simp only [Act.put,pu1,pu2,pu3]))
                refine wpAnyH_doneL HL HQ (by kernel_rfl) ?_ _
                simp only [sinkQ]
                go_simp
                go_wp2
                go_meet
                exact ⟨_,rfl,lr_,by exact bel_,BoxA.new _ _ _⟩
              ·skip
               go_simp
               refine hK.out _ _ (K2.ext ((Below.refl _ _).alloc lr_ _) hS) (fun hS=>?_)
               clear hK K
               (try simp only [Act.put,pu1,pu2,pu3])
               refine wpAnyH_readyL (rs:=[13]) HL (by kernel_rfl) (by simp) ?_
               refine AllReadyH.consL HL rfl rfl (fun K hK=>?_) AllReadyH.nil
               (go_simp;go_at_call 11;refine (r_Mod_v n3 200 v3 _ (by decide) (by decide) HV3b.out).mono ?_;rintro e w6 ⟨rfl,rfl⟩;go_simp)
               refine hK.out _ _ hS (fun hS=>?_)
               clear hK K
               (try simp only [Act.put,pu1,pu2,pu3])
               refine wpAnyH_readyL (rs:=[16]) HL (by kernel_rfl) (by simp) ?_
               refine AllReadyH.consL HL rfl rfl (fun K hK=>?_) AllReadyH.nil
               (go_simp;go_at_call 11;refine (r_Mod_v n4 300 v4 _ (by decide) (by decide) HV4b.out).mono ?_;rintro e w6 ⟨rfl,rfl⟩;go_simp)
               refine hK.out _ _ hS (fun hS=>?_)
               clear hK K
               (try simp only [Act.put,pu1,pu2,pu3])
               (refine wpAnyH_takeL (i:=17) (v:=?_) HL HP HN rfl (by kernel_rfl) (by kernel_rfl) rfl ?_ hS ?_;rotate_left;focus (intro w2 hw2;obtain ⟨x1,x2,z1,z2⟩:=hw2;go_simp;first | done | with_reducible rfl);(try simp only [Act.put,pu1,pu2,pu3]))
               refine wpAnyH_doneL HL HQ (by kernel_rfl) ?_ _
               simp only [sinkQ]
               go_simp
               go_wp2
               go_meet
               exact ⟨_,rfl,lr_,by exact bel_,BoxA.new _ _ _⟩
             ·skip
              go_simp
              refine hK.out _ _ (K2.ext ((Below.refl _ _).alloc lr_ _) hS) (fun hS=>?_)
              clear hK K
              (try simp only [Act.put,pu1,pu2,pu3])
              refine wpAnyH_readyL (rs:=[9]) HL (by kernel_rfl) (by simp) ?_
              refine AllReadyH.consL HL rfl rfl (fun K hK=>?_) AllReadyH.nil
              (go_simp;go_at_call 11;refine (r_Mod_v n2 (pl:Int) v2 _ (by omega) (by omega) HV2b.out).mono ?_;rintro e w6 ⟨rfl,rfl⟩;go_simp)
              refine hK.out _ _ hS (fun hS=>?_)
              clear hK K
              (try simp only [Act.put,pu1,pu2,pu3])
              (refine wpAnyH_takeL (i:=10) (v:=?_) HL HP HN rfl (by kernel_rfl) (by kernel_rfl) rfl ?_ hS ?_;rotate_left;focus (intro w2 hw2;obtain ⟨x1,x2,z1,z2⟩:=hw2;go_simp;first | done | with_reducible rfl);(try simp only [Act.put,pu1,pu2,pu3]))
              refine wpAnyH_readyL (rs:=[13]) HL (by kernel_rfl) (by simp) ?_
              refine AllReadyH.consL HL rfl rfl (fun K hK=>?_) AllReadyH.nil
              (go_simp;go_at_call 11;refine (r_Mod_v n3 200 v3 _ (by decide) (by decide) HV3b.out).mono ?_;rintro e w6 ⟨rfl,rfl⟩;go_simp)
              refine hK.out _ _ hS (fun hS=>?_)
              clear hK K
              (try simp only [Act.put,pu1,pu2,pu3])
              refine wpAnyH_readyL (rs:=[16]) HL (by kernel_rfl) (by simp) ?_
              refine AllReadyH.consL HL rfl rfl (fun K hK=>?_) AllReadyH.nil
              (go_simp;go_at_call 11;refine (r_Mod_v n4 300 v4 _ (by decide) (by decide) HV4b.out).mono ?_;rintro e w6 ⟨rfl,rfl⟩;go_simp)
              refine hK.out _ _ hS (fun hS=>?_)
              clear hK K
              (try simp only [Act.put,pu1,pu2,pu3])
              (refine wpAnyH_takeL (i:=17) (v:=?_) HL HP HN rfl (by kernel_rfl) (by kernel_rfl) rfl ?_ hS ?_;rotate_left;focus (intro w2 hw2;obtain ⟨x1,x2,z1,z2⟩:=hw2;go_simp;first | done | with_reducible rfl);(try simp only [Act.put,pu1,pu2,pu3]))
              refine wpAnyH_doneL HL HQ (by kernel_rfl) ?_ _
              simp only [sinkQ]
              go_simp
              go_wp2
              go_meet
              exact ⟨_,rfl,lr_,by exact bel_,BoxA.new _ _ _⟩
            case rest =>
            obtain ⟨BS,rfl,hBS,h3,bS⟩:=hcut
            obtain ⟨V3,rfl⟩:∃ V3:World,V3=wc:=⟨_,rfl⟩
            have hs3:=h3.size
            have h23:Below wr.heap.size wr V3:=bt_ h12 h3
            have hBSr:wr.heap.size≤BS:=by omega
            have HS3:=hd_ bS
            clear HN2 HQ2 bS
            have hkr:∀ k,k<wv4.heap.size→k≠W6.heap.size→V3.heap[k]?=wv4.heap[k]?:=fun k hk hne=>(h23.block k (by omega)).trans (HI.out.keep k hk hne)
            have HKR:=hd_ hkr
            have hbv:BoxA V3 w7.heap.size 89 #[.slice (some ⟨gb,go,none⟩) 3 pc,.slice AR mR cR,.slice AW mF cW,.slice none 0 0,.int .i64 900,.slice (some ⟨BV,0,none⟩) mF cv,.slice none 0 0]:=(HKR.out _ (by omega) (by omega)).trans HBV4.out
            have hbt:BoxA V3 BV 4 (boolL (tellK (⟨l.pp,RV.map Rv.r,WV.map Tv.r,[]⟩:Led) 900 (⟨l.pp,RV.map Rv.r,WV.map Tv.r,[]⟩:Led).rt.length)).toArray:=(HKR.out _ (by omega) (by omega)).trans HT8.out
            have hlw:=hon_later HI9.out HI9.out.wo.bO hkr (pA:=some ⟨gb,go,none⟩) (pn:=3) (pc:=pc) (pp:=mPp) (XR:=XR) (XT:=XT) rfl rfl rfl (HP6.out.now abP (bt_ HB.out h23)) (fun z hz=>HSR.out.subset hz) (fun z hz=>HSW.out.subset hz) (fun v hv=>⟨((HRL.out v hv).1.now H2w.out).now (bt_ HB.out h23),(HRL.out v hv).2⟩) (fun v hv=>⟨((HTL.out v hv).1.now H2w.out).now (bt_ HB.out h23),(HTL.out v hv).2⟩)
            have HLW2:=hd_ hlw.1
            have HFW2:=hd_ hlw.2
            have HBT3:=hd_ hbt
            have HO3:=hd_ (HO.out.ext h23)
            have kV:=hbv.cell
            have zV:=hbv.lt
            have kS:=HS3.out.cell
            have zS:=HS3.out.lt
            have fS:=HS3.out.frozen
            have HEL:Hid ((⟨l.pp,RV.map Rv.r,WV.map Tv.r,[]⟩:Led)=(⟨mPp,RV.map Rv.r,WV.map Tv.r,[]⟩:Led)):=by show _=_;rw [HPP.out]
            have hTL:(tellK (⟨mPp,RV.map Rv.r,WV.map Tv.r,[]⟩:Led) 900 (WV.map Tv.r).length).length=mF:=by rw [tellK_len];simp [HLW1.out]
            obtain ⟨pw,hpw⟩:∃ p,whoF (⟨mPp,RV.map Rv.r,WV.map Tv.r,[]⟩:Led) 900 (v3:Int) FL pid (1+(v2:Int))=p:=⟨_,rfl⟩
            have hpw4:0≤pw∧pw≤4:=by
             rw [← hpw]
             exact who_four (l:=(⟨mPp,RV.map Rv.r,WV.map Tv.r,[]⟩:Led)) (fun r hr=>by obtain ⟨v,hv,rfl⟩:=List.mem_map.1 hr;exact mk_bor HM.out (by rw [← HXR.out];exact List.mem_map.2 ⟨v,HSR.out.subset hv,rfl⟩))
            have HPW:=hd_ hpw
            have HTL2:=hd_ hTL
            have HOW2:Hid (LedOk (⟨mPp,RV.map Rv.r,WV.map Tv.r,[]⟩:Led)):=by show LedOk _;rw [← HEL.out];exact HOW.out
            have HWI:Hid (∀ W:World,Below V3.heap.size V3 W→Calls Tryz.prog 43 #[.agg #[.slice (some ⟨gb,go,none⟩) 3 pc,.slice AR mR cR,.slice AW mF cW,.slice none 0 0,.int .i64 900,.slice (some ⟨BV,0,none⟩) mF cv,.slice none 0 0],.agg #[.int .i64 pid,.int .i64 (1+(v2:Int))],.slice AF mF cF,.int .i64 (v3:Int)] W fun e w'=>e=.returned (.int .i64 pw)∧Below W.heap.size W w'):=by
             show ∀ _,_
             intro W hW
             have hbt2:BoxA V3 BV 4 (boolL (tellK (⟨mPp,RV.map Rv.r,WV.map Tv.r,[]⟩:Led) 900 (WV.map Tv.r).length)).toArray:=by have h:=HBT3.out;rw [HEL.out] at h;exact h
             have hc:=r_With (⟨mPp,RV.map Rv.r,WV.map Tv.r,[]⟩:Led) ⟨⟨some ⟨gb,go,none⟩,3,pc,AR,mR,cR,AW,mF,cW,none,0,0⟩,900,some ⟨BV,0,none⟩,mF,cv,none,0,0⟩ pid (1+(v2:Int)) (v3:Int) FL AF cF W HOW2.out rfl (HLW2.out.now hW) ((hbt2.ext hW).sqT HTL2.out (hbt2.ext hW).lt) (HFW2.out.now hW)
             exact hc.mono fun e w' h=>⟨by rw [h.1];exact congrArg (fun z=>Ending.returned (.int .i64 z)) HPW.out,h.2⟩
            clear hpw hTL hlw hbt hbv hkr
            go_upto_region 46 with fail
            go_upto_region 47 with ((go_at_call 43;refine (HWI.out _ (by exact bel_)).mono ?_;rintro e w8 ⟨rfl,hb8⟩;have h38:Below V3.heap.size V3 w8:=bt_ (by exact bel_) hb8;have bS8:=HS3.out.ext h38;have kS8:=bS8.cell;have zS8:=bS8.lt;have fS8:=bS8.frozen;have HS8:=hd_ bS8;clear hb8 bS8))
            clear kV zV kS zS fS kS8 zS8 fS8
            refine wp_named2 fun f8 V8 hf8 hV8=>?_
            have hY8:BoxA V8 BS 70 #[.int .i64 (3*(H:Int)+3),.int .i64 pw,.int .i64 pid,.int .i64 (1+(v2:Int)),.int .i64 (v3:Int),.int .i64 (v4:Int),.int .i64 0]:=by rw [← hV8];exact HS8.out.set71 _
            have h88:Below wr.heap.size wr V8:=by rw [← hV8];exact bel_far (bt_ h23 h38) hBSr _ _
            have hs8:=h88.size
            have HI5s:=hd_ (HI.out.ext h88)
            have bO5:=HI5s.out.bO
            have HO5s:=hd_ bO5
            have kY:=hY8.cell
            have zY:=hY8.lt
            have kO:=bO5.cell
            have zO:=bO5.lt
            clear hV8 HS8 HS3 hY8 bO5
            subst hf8
            have h58:Below V8.heap.size V8 (V8.alloc (.cells #[.int .i64 (3*(H:Int)+3),.int .i64 pw,.int .i64 pid,.int .i64 (1+(v2:Int)),.int .i64 (v3:Int),.int .i64 (v4:Int),.int .i64 0] 70)):=(Below.refl _ _).alloc lr_ _
            go_wp2_with (at_builtin;refine wpList_append_own _ rfl (.tmp 251) (.tmp 253) 30 rfl (wv4.heap.size) 70 iS _ 7 56 Tryz.underlying30 hiS hz0S hz1S hz2S rfl (by decide) _ _ _ rfl (own_ex HI5s.out.s h58) ⟨V8.heap.size,0,none⟩ 1 1 (sgC ⟨3*(H:Int)+3,pw,pid,1+(v2:Int),(v3:Int),(v4:Int),0⟩) rfl rfl ?f1 ?f2 ?f3 ?f4 ?f5 ?_;rotate_left 5;intro v8 w8s hown8 hgrow8 _;obtain ⟨A8,c8,rfl,hcc8⟩:=own_slice hown8;have h5o:=own_ex HI5s.out.s h58;have bO8:=(HO5s.out.ext h58).kept hgrow8 (own_ne h5o (HO5s.out.ext h58) (by decide));have kO8:=bO8.cell;have zO8:=bO8.lt;have fO8:=bO8.frozen;have HT8s:=hd_ (HI5s.out.appS hqq4 hwv4s h58 hown8 hgrow8 (.slice A8 (H+1) c8));clear hown8 hgrow8 h5o bO8)
            (try (case f1=>(exact new_at (by rfl))))
            (try (case f2=>(simp [Value.oneCell'])))
            (try (case f3=>(unfold maxLen;omega)))
            (try (case f4=>(omega)))
            (try (case f5=>(have:=HI5s.out.sz;simp;omega)))
            go_roundw
            case rel =>
             refine ⟨H+1,SV ++ [(⟨3*(H:Int)+3,pw,pid,1+(v2:Int),(v3:Int),(v4:Int),0⟩:Sgt)],A8,c8,by omega,by go_num,by simp [hSl],?_,fun k s hs=>?_,fun s hs=>?_⟩
             ·rw [List.flatMap_append,List.flatMap_cons,List.flatMap_nil,List.append_nil]
              exact HT8s.out
             ·rcases snoc_at hs with hs | ⟨rfl,rfl⟩
              ·exact HSG.out k s hs
              ·exact ⟨by simp [hSl],hpw4,⟨_,HPM.out,rfl,by dsimp only;omega,by dsimp only;omega⟩,by dsimp only;omega,by dsimp only;omega,rfl⟩
             ·rcases List.mem_append.1 hs with hs | hs
              ·exact HSW2.out s hs
              ·rw [List.mem_singleton.1 hs];exact HPW.out.symm
            case measure=>exact ms_
          | false =>
            clear hC kX zX
            have hkr:∀ k,k<wv4.heap.size→k≠W6.heap.size→wr.heap[k]?=wv4.heap[k]?:=HI.out.keep
            have hlw:=hon_later HI9.out HI9.out.wo.bO hkr (pA:=pA) (pn:=3) (pc:=pc) (pp:=mPp) (XR:=XR) (XT:=XT) rfl rfl rfl (HP6.out.now abP HB.out) (fun z hz=>HSR.out.subset hz) (fun z hz=>HSW.out.subset hz) (fun v hv=>⟨((HRL.out v hv).1.now H2w.out).now HB.out,(HRL.out v hv).2⟩) (fun v hv=>⟨((HTL.out v hv).1.now H2w.out).now HB.out,(HTL.out v hv).2⟩)
            have hsr:=sq_sg (Rd.of_own HI.out.s) (own_len HI.out.s (fun _=>rfl) (by decide))
            have hlf:LedIn wr wr.heap.size ⟨pA,3,pc,AR,mR,cR,AW,mF,cW,AS,H,cS⟩ ⟨mPp,RV.map Rv.r,WV.map Tv.r,SV⟩:=⟨hlw.1.p,hlw.1.r,hlw.1.t,hsr⟩
            have hft:Lsl.fit ⟨pA,3,pc,AR,mR,cR,AW,mF,cW,AS,H,cS⟩:=⟨HFY.out.p,own_cap HI9.out.wo.r,own_cap HI9.out.wo.t,own_cap HI.out.s⟩
            have hok:=hon_ok HM.out HXR.out HXT.out HV.out HV2.out HV3.out (by rw [HLU1.out];exact lr_) HV5.out (by omega) HSG.out HSW2.out
            have hfl:FL.length=mF:=by have h1:=HV5.out.pd.1;have h2:=HLW1.out;omega
            have HLF:=hd_ hlf
            have HFT:=hd_ hft
            have HOKK:=hd_ hok
            have HFL:=hd_ hfl
            have HFW:=hd_ hlw.2
            have bZ:=HZW.out.ext HB.out
            have kZ:=bZ.cell
            have zZ:=bZ.lt
            have fZ:=bZ.frozen
            have HBZ:=hd_ bZ
            clear hkr hlw hsr hlf hft hok hfl bZ
            go_wp2_with fail
            refine bodyPost_w (W2:=wr.setCells (w.heap.size+1) 0 (#[.slice pA 3 pc,.slice AR mR cR,.slice AW mF cW,.slice AS H cS]:Array Value).toList) rfl ?_
            refine bodyPost_ret (v:=.tuple #[.agg #[.slice pA 3 pc,.slice AR mR cR,.slice AW mF cW,.slice AS H cS],.slice AF mF cF]) ?_ rfl ?_
            ·have hbz:BoxA (wr.setCells (w.heap.size+1) 0 (#[.slice pA 3 pc,.slice AR mR cR,.slice AW mF cW,.slice AS H cS]:Array Value).toList) (w.heap.size+1) 32 #[.slice pA 3 pc,.slice AR mR cR,.slice AW mF cW,.slice AS H cS]:=HBZ.out.setAll _ rfl
             obtain ⟨W2_,hW2_⟩:∃ W2_,W2_=wr.setCells (w.heap.size+1) 0 (#[.slice pA 3 pc,.slice AR mR cR,.slice AW mF cW,.slice AS H cS]:Array Value).toList:=⟨_,rfl⟩
             rw [← hW2_] at hbz ⊢
             clear hW2_
             have hce:=hbz.cell
             (simp [results,Tryz.f10,go_sem];try go_simp)
            ·have hgr:=grown_setCells (w.heap.size+1) (#[.slice pA 3 pc,.slice AR mR cR,.slice AW mF cW,.slice AS H cS]:Array Value).toList 0 wr
             have hbel:Below w.heap.size w wr:=bt_ HBW6.out HB.out
             have hres:=hon_kept HLF.out HFW.out HBZ.out hgr
             exact ⟨_,⟨mPp,RV.map Rv.r,WV.map Tv.r,SV⟩,FL,AF,cF,by rw [HFL.out],hbel.grown hgr hbel.size (fun b e=>by cases e;omega),HFT.out,hres.1,HOKK.out,by rw [HFL.out];exact hres.2,by rw [HFL.out];exact hcF.1,hcF.2⟩
end Go.Proofs.YtmcmbicapdcfmaaGreat
