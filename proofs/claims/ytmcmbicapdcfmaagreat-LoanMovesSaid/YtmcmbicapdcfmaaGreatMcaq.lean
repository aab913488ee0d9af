/- Layer 2 of the texts that LoanMoves takes: Mcaq. -/
import Derived.Test.YtmcmbicapdcfmaaGreatMbyq
import Derived.Test.YtmcmbicapdcfmaaGreatMbzq
import Derived.Test.YtmcmbicapdcfmaaGreatMbwq
set_option linter.unusedVariables false
set_option linter.unusedSimpArgs false
set_option maxHeartbeats 16000000
namespace Go.Proofs.YtmcmbicapdcfmaaGreat
open Go.RowKit Go.Maps
set_option maxRecDepth 100000 in
theorem w_LoanMoves (x:Rsl) (r:RawL) (n0 n1 n2:Int) (w:World) (hf:x.fit) (hd:RawIn w x r) :
 Calls Tryz.prog 9 #[.agg #[.slice x.aA x.an x.ac,.slice x.bA x.bn x.bc,.slice x.cA x.cn x.cc],.agg #[.int .i64 n0,.int .i64 n1,.int .i64 n2]] w fun e w'=>e=.returned (.bool true)∧Below w.heap.size w w':=by
 obtain ⟨aA,an,ac,bA,bn,bc,cA,cn,cc⟩:=x
 have HF:=hd_ hf
 have HD:=hd_ hd
 clear hf hd
 obtain ⟨kn,hkn,hkb⟩:=mod_nat n0 (m:=300) (by decide)
 obtain ⟨day,hday,hdb⟩:=mod_nat n1 (m:=220) (by decide)
 obtain ⟨sr,hsr,hsb⟩:=mod_nat n2 (m:=24) (by decide)
 have HKN:=hd_ hkn
 have HDY:=hd_ hday
 have HSR:=hd_ hsr
 clear hkn hday hsr
 have w1s:IntKind.i64.wrap (1+(sr:Int))=(1+(sr:Int)):=wrap_in (by omega) (by omega)
 have HBN0:=hd_ (box2 w 25 26 #[.slice aA an ac,.slice bA bn bc,.slice cA cn cc] #[.int .i64 n0,.int .i64 n1,.int .i64 n2]).2
 go_enter Tryz.func9,Tryz.ntmps9
 go_wp2_with fail
 refine (r_Made ⟨aA,an,ac,bA,bn,bc,cA,cn,cc⟩ r _ HF.out (HD.out.now (by exact bel_))).mono ?_
 rintro e w1 ⟨y,l,days,DD,dc,d,rfl,hb1,hfy,hl,hM,-,-,-⟩
 obtain ⟨pA,pn,pc,rA,rn,rc,tA,tn,tc,sA,sn,sc⟩:=y
 have HB1:Below w.heap.size w w1:=bt_ (by exact bel_) hb1
 have bN1:=HBN0.out.ext hb1
 have HBN1:=hd_ bN1
 have kN:=bN1.cell
 have zN:=bN1.lt
 have HLD:=hd_ hl
 have HFY:=hd_ hfy
 have HM:=hd_ hM
 clear hl hfy hb1 hM bN1
 go_upto_region 3 with ((go_at_call 11;refine (r_Mod_v n0 300 kn _ (by decide) (by decide) HKN.out).mono ?_;rintro e w6 ⟨rfl,rfl⟩))
 go_upto_region 4 with ((go_at_call 11;refine (r_Mod_v n1 220 day _ (by decide) (by decide) HDY.out).mono ?_;rintro e w6 ⟨rfl,rfl⟩))
 go_upto_region 5 with ((go_at_call 11;refine (r_Mod_v n2 24 sr _ (by decide) (by decide) HSR.out).mono ?_;rintro e w6 ⟨rfl,rfl⟩))
 clear kN zN
 refine wp_named2 fun f2 W2 hf2 hW2=>?_
 have bL2:BoxA W2 w1.heap.size 32 #[.slice pA pn pc,.slice rA rn rc,.slice tA tn tc,.slice sA sn sc]:=by rw [← hW2];exact BoxA.new _ _ _
 have h12:Below w1.heap.size w1 W2:=by rw [← hW2];exact bel_
 have HB2:Below w.heap.size w W2:=bt_ HB1 h12
 have HL2:=hd_ (HLD.out.now h12)
 have kL2:=bL2.cell
 have zL2:=bL2.lt
 have hs2:=HB2.size
 clear hW2 HLD h12 HBN1
 subst hf2
 have hled:ledB l=true:=HM.out.led
 have hdk:daysOk [(day:Int),(kn:Int)]=true:=by simp [daysOk,withinB];omega
 have hpre:preE l [(day:Int),(kn:Int)]=0:=by simp [preE,hled,hdk,orL,errI]
 obtain ⟨mv,me,hmx⟩:∃ mv me,movX l (1+(sr:Int)) day kn=(mv,me):=⟨_,_,rfl⟩
 have HMX:=hd_ hmx
 have HLE:=hd_ hled
 have HDK:=hd_ hdk
 have HPRE:=hd_ hpre
 clear hmx hled hdk hpre
 go_wp2_with fail
 refine (p_Moved_u l ⟨pA,pn,pc,rA,rn,rc,tA,tn,tc,sA,sn,sc⟩ day kn 0 0 0 (1+(sr:Int)) [] none 0 0 mv me _ HFY.out (HL2.out.now (by exact bel_)) (by decide) Rd.nil_ HMX.out).mono ?_
 rintro e W3 ⟨AM,nM,cM,rfl,hb3,ho3,hn3⟩
 have HB3:Below w.heap.size w W3:=bt_ HB2 hb3
 have hs3:=HB3.size
 have HL3:=hd_ (HL2.out.now hb3)
 have HBL3:=hd_ (bL2.ext hb3)
 have HMV3:Hid (Sq QF 2 W3 W3.heap.size AM nM mv):=by show Sq _ _ _ _ _ _ _;exact sq_of_own ho3 hn3
 have hnM:nM≤1000000:=by rw [← hn3];exact movX_len HMX.out
 have HNM:=hd_ hn3
 clear hb3 ho3 hn3 kL2 zL2 bL2 HL2
 have kL:=HBL3.out.cell
 have zL:=HBL3.out.lt
 go_wp2_with fail
 refine (r_Without l ⟨pA,pn,pc,rA,rn,rc,tA,tn,tc,sA,sn,sc⟩ (1+(sr:Int)) _ (led_ok HLE.out) (HL3.out.now (by exact bel_))).mono ?_
 rintro e W4 ⟨y,rfl,hb4,hfy4,hl4⟩
 obtain ⟨qA,qn,qc,uA,un,uc,xA,xn,xc,zA,zn,zc⟩:=y
 have HB4:Below w.heap.size w W4:=bt_ HB3 hb4
 have hs4:=HB4.size
 have HFZ:=hd_ hfy4
 have HL4:=hd_ (HL3.out.now hb4)
 have HZ4:=hd_ hl4
 have HBL4:=hd_ (HBL3.out.ext hb4)
 have HMV4:=hd_ (Sq.now HMV3.out abF hb4)
 clear hb4 hfy4 hl4 kL zL HL3 HBL3 HMV3
 go_upto_region 7 with fail
 refine wp_named2 fun f5 W5 hf5 hW5=>?_
 have bZ5:BoxA W5 W4.heap.size 32 #[.slice qA qn qc,.slice uA un uc,.slice xA xn xc,.slice zA zn zc]:=by rw [← hW5];exact BoxA.new _ _ _
 have h45:Below W4.heap.size W4 W5:=by rw [← hW5];exact bel_
 have HB5:Below w.heap.size w W5:=bt_ HB4 h45
 have hs5:=HB5.size
 have HL5:=hd_ (HL4.out.now h45)
 have HZ5:=hd_ (HZ4.out.now h45)
 have bL5:=HBL4.out.ext h45
 have HBL5:=hd_ bL5
 have HBZ5:=hd_ bZ5
 have HMV5:=hd_ (Sq.now HMV4.out abF h45)
 have kL:=bL5.cell
 have zL:=bL5.lt
 have kZ:=bZ5.cell
 have zZ:=bZ5.lt
 clear hW5 h45 HL4 HZ4 HBL4 HMV4 bL5 bZ5
 subst hf5
 have l1:=HL5.out.r.len
 have l2:=HL5.out.t.len
 have l3:=HL5.out.s.len
 have m1:=HZ5.out.r.len
 have m2:=HZ5.out.t.len
 have m3:=HZ5.out.s.len
 dsimp only at l1 l2 l3 m1 m2 m3
 have b1:=HM.out.rl
 have b2:=HM.out.tl
 have b3:=HM.out.sl
 have c1:(excL l (1+(sr:Int))).rc.length≤l.rc.length:=List.length_filter_le _ _
 have c2:(excL l (1+(sr:Int))).rt.length≤l.rt.length:=List.length_filter_le _ _
 have c3:(excL l (1+(sr:Int))).sg.length≤l.sg.length:=List.length_filter_le _ _
 have w71:IntKind.i64.wrap ((un:Int)+(xn:Int))=(un:Int)+(xn:Int):=wrap_in (by omega) (by omega)
 have w72:IntKind.i64.wrap ((un:Int)+(xn:Int)+(zn:Int))=(un:Int)+(xn:Int)+(zn:Int):=wrap_in (by omega) (by omega)
 have w73:IntKind.i64.wrap ((rn:Int)+(tn:Int))=(rn:Int)+(tn:Int):=wrap_in (by omega) (by omega)
 have w74:IntKind.i64.wrap ((rn:Int)+(tn:Int)+(sn:Int))=(rn:Int)+(tn:Int)+(sn:Int):=wrap_in (by omega) (by omega)
 have hti:un+xn+zn<rn+tn+sn↔(1+(sr:Int))∈srcL l:=by rw [← m1,← m2,← m3,← l1,← l2,← l3];exact there_iff
 have HTI:=hd_ hti
 clear hti l1 l2 l3 m1 m2 m3 b1 b2 b3 c1 c2 c3
 by_cases hth:un+xn+zn<rn+tn+sn
 ·have hin:=HTI.out.1 hth
  have HIN:=hd_ hin
  have hth2:decide ((un:Int)+(xn:Int)+(zn:Int)<(rn:Int)+(tn:Int)+(sn:Int))=true:=by simp;omega
  have hth3:(un:Int)+(xn:Int)+(zn:Int)<(rn:Int)+(tn:Int)+(sn:Int):=by omega
  clear hin
  have hPP:Pps W5 W5.heap.size pA pn mPp:=by have h:=HL5.out.p;rwa [HM.out.pp] at h
  have hpn3:pn=3:=hPP.len.symm
  subst hpn3
  obtain ⟨gb,go,hA,hgb,hall⟩:=hPP.2 (by omega)
  have HPA:Hid (∀ (k:Nat) (p:Ppr),mPp[k]?=some p→W5.cell? ⟨gb,go+k*2,none⟩=some (.int .i64 p.id)∧W5.cell? ⟨gb,go+k*2+1,none⟩=some (.int .i64 p.lv)):=by show ∀ _,_;exact fun k p hp=>hall k p hp
  subst hA
  clear hPP hall
  go_wp2_with fail
  clear w71 w72 w73 w74 hth hth2 hth3 w1s
  go_loopw [14] (fun i wr=>∃ (a:Nat),a≤3∧i=.int .i64 (a:Int)∧Below W5.heap.size W5 wr) (fun i _=>3 - (intOf i).toNat)
  case atStart=>exact ⟨0,Nat.zero_le _,rfl,by exact bel_⟩
  case round =>
   obtain ⟨a,ha,rfl,hB⟩:=hrel
   obtain ⟨wk,rfl⟩:∃ wk:World,wk=wr:=⟨_,rfl⟩
   have hsk:=hB.size
   have HBK:=hd_ hB
   have bLk:=HBL5.out.ext hB
   by_cases hlt:a<3
   ·obtain ⟨p,hp,hpm,hpl1,hpl4,hpi1,hpi5⟩:=pp_at (m:=a) (by omega)
    obtain ⟨pid,plv⟩:=p
    dsimp only at hpl1 hpl4 hpi1 hpi5
    obtain ⟨pl,rfl⟩:∃ n:Nat,plv=(n:Int):=⟨plv.toNat,by omega⟩
    have HPM:=hd_ hpm
    have HPI:=hd_ hp
    have kL:=bLk.cell
    have zL:=bLk.lt
    have hlt2:(a:Int)<3:=by omega
    have hlt3:decide ((a:Int)<3)=true:=decide_eq_true hlt2
    clear hB hp hpm kZ zZ bLk
    go_wp2_with fail
    go_loopw [15] (fun j wr=>∃ (k:Nat),1≤k∧k≤pl+1∧j=.int .i64 (k:Int)∧Below W5.heap.size W5 wr) (fun j _=>pl+1 - (intOf j).toNat)
    case atStart=>exact ⟨1,lr_,by omega,rfl,bt_ HBK.out (by exact bel_)⟩
    case round =>
     clear kL zL
     obtain ⟨k,hk1,hk2,rfl,hB⟩:=hrel
     obtain ⟨wx,rfl⟩:∃ wx:World,wx=wr:=⟨_,rfl⟩
     have hsx:=hB.size
     have HBX:=hd_ hB
     have bLx:=HBL5.out.ext hB
     have bZx:=HBZ5.out.ext hB
     have kL:=bLx.cell
     have zL:=bLx.lt
     obtain ⟨q1,q2⟩:=HPA.out a _ HPI.out
     dsimp only at q1 q2
     have e1:wx.cell? ⟨gb,go+a*2,none⟩=some (.int .i64 pid):=(hB.cell (p:=⟨gb,go+a*2,none⟩) hgb).trans q1
     have e2:wx.cell? ⟨gb,go+a*2+1,none⟩=some (.int .i64 (pl:Int)):=(hB.cell (p:=⟨gb,go+a*2+1,none⟩) hgb).trans q2
     have hgx:gb<wx.heap.size:=by omega
     have HLx:=hd_ (HL5.out.now hB)
     have HZx:=hd_ (HZ5.out.now hB)
     have HMx:=hd_ (Sq.now HMV5.out abF hB)
     have HBLx:=hd_ bLx
     have HBZx:=hd_ bZx
     clear hB q1 q2 bLx bZx
     by_cases hkl:k≤pl
     ·obtain ⟨rfl,aL,ae,bL,be,hxa,hxb,hcas⟩:=mov_fol HLE.out HDK.out HIN.out HMX.out (p:=⟨pid,(pl:Int)⟩) (k:=k) (by rw [HM.out.pp];exact HPM.out) hk1 (by show (k:Int)≤(pl:Int);omega)
      dsimp only at hxa hxb hcas
      have HXA:=hd_ hxa
      have HXB:=hd_ hxb
      have HCA:=hd_ hcas
      have hwf:(Lit.int .i64 (k:Int)).wf=true:=wf_small (by omega) (by omega)
      clear hxa hxb hcas
      go_upto_region 17 with fail
      refine wp_named2 fun f6 W6 hf6 hW6=>?_
      have bF6:BoxA W6 wx.heap.size 48 #[.int .i64 pid,.int .i64 (k:Int)]:=by rw [← hW6];exact BoxA.new _ _ _
      have h6:Below wx.heap.size wx W6:=by rw [← hW6];exact bel_
      obtain ⟨BF,hBF⟩:∃ b,b=wx.heap.size:=⟨_,rfl⟩
      rw [← hBF] at bF6
      rw [← hBF] at hf6
      have hs6:=h6.size
      have h56:Below W5.heap.size W5 W6:=bt_ HBX.out h6
      have bL6:=HBLx.out.ext h6
      have bZ6:=HBZx.out.ext h6
      have HL6:=hd_ (HLx.out.now h6)
      have HBF6:=hd_ bF6
      have HBZ6:=hd_ bZ6
      clear hW6 kL zL e1 e2 HLx HBLx HBZx h6 hBF
      subst hf6
      have kL:=bL6.cell
      have zL:=bL6.lt
      have kF:=bF6.cell
      have zF:=bF6.lt
      clear bL6 bF6 bZ6
      go_wp2_with fail
      refine (p_WhereM l ⟨some ⟨gb,go,none⟩,3,pc,rA,rn,rc,tA,tn,tc,sA,sn,sc⟩ pid (k:Int) day kn aL ae _ HFY.out (HL6.out.now (by exact bel_)) hwf HXA.out).mono ?_
      rintro e W7 ⟨Aa,na,ca,rfl,hb7,hia,hca⟩
      have hs7:=hb7.size
      have h57:Below W5.heap.size W5 W7:=bt_ h56 hb7
      have hna:na≤1000000:=by rw [← hia.len];exact whereX_len HXA.out
      have HIA7:Hid (Is W7 W7.heap.size Aa na aL):=by show Is _ _ _ _ _;exact hia
      have bF7:=HBF6.out.ext hb7
      have bZ7:=HBZ6.out.ext hb7
      have HBF7:=hd_ bF7
      clear kL zL kF zF hia hb7 h56 HL6 HBF6 HBZ6
      have kF:=bF7.cell
      have zF:=bF7.lt
      have kZ:=bZ7.cell
      have zZ:=bZ7.lt
      clear bF7 bZ7
      go_wp2_with fail
      refine (p_WhereM (excL l (1+(sr:Int))) ⟨qA,qn,qc,uA,un,uc,xA,xn,xc,zA,zn,zc⟩ pid (k:Int) day kn bL be _ HFZ.out (HZ5.out.now (bt_ h57 (by exact bel_))) hwf HXB.out).mono ?_
      rintro e W8 ⟨Ab,nb,cb,rfl,hb8,hib,hcb⟩
      have hs8:=hb8.size
      have h58:Below W5.heap.size W5 W8:=bt_ h57 hb8
      have hnb:nb≤1000000:=by rw [← hib.len];exact whereX_len HXB.out
      have HIB8:Hid (Is W8 W8.heap.size Ab nb bL):=by show Is _ _ _ _ _;exact hib
      have HIA8:=hd_ (HIA7.out.now hb8)
      have HM8:=hd_ (Sq.now HMV5.out abF h58)
      have bF8:=HBF7.out.ext hb8
      clear kF zF kZ zZ hib hb8 h57 HIA7 HBF7
      have kF:=bF8.cell
      have zF:=bF8.lt
      clear bF8
      rcases HCA.out with ⟨h1,h2,h3⟩ | ⟨h1,h2,h3⟩ | ⟨h1,h3⟩
      ·skip
       subst h2
       have HSM:=hd_ (decide_eq_true h1)
       have HAM:=hd_ h3
       have hee:(be != be)=false:=by simp
       clear h1 h3
       go_upto_region 19 with fail
       (refine rg_ ?_;(repeat (go_big_quiet_step ((first | fail | (go_at_call_of 33 (Value.slice Aa na ca);exact Calls.grow_all (fun g=>r_Same2 aL bL true Aa Ab na ca nb cb g.1 hna hnb (HIA8.out.now g.2) (HIB8.out.now g.2) HSM.out)) | (go_at_call_of 19 (Value.slice AM nM cM);exact Calls.grow_all (fun g=>w_among mv pid (k:Int) false AM nM cM g.1 hnM (Sq.now HM8.out abF g.2) HAM.out))))));refine qn_ fun w1 hb1 hc1 hf1=>?_)
       obtain ⟨W9,rfl⟩:∃ W9:World,W9=w1:=⟨_,rfl⟩
       have h59:=bt_ h58 hb1
       clear hb1 hc1 hf1
       go_wp2_with fail
       go_roundw
       case rel=>exact ⟨k+1,by omega,by omega,by go_num,h59⟩
       case measure=>exact ms_
      ·skip
       have HSM:=hd_ (decide_eq_true h1)
       have HAM:=hd_ h3
       clear h1 h3
       go_upto_region 19 with fail
       (refine rg_ ?_;(repeat (go_big_quiet_step ((first | fail | (go_at_call_of 33 (Value.slice Aa na ca);exact Calls.grow_all (fun g=>r_Same2 aL bL true Aa Ab na ca nb cb g.1 hna hnb (HIA8.out.now g.2) (HIB8.out.now g.2) HSM.out)) | (go_at_call_of 19 (Value.slice AM nM cM);exact Calls.grow_all (fun g=>w_among mv pid (k:Int) true AM nM cM g.1 hnM (Sq.now HM8.out abF g.2) HAM.out))))));refine qn_ fun w1 hb1 hc1 hf1=>?_)
       obtain ⟨W9,rfl⟩:∃ W9:World,W9=w1:=⟨_,rfl⟩
       have h59:=bt_ h58 hb1
       clear hb1 hc1 hf1
       go_wp2_with fail
       go_roundw
       case rel=>exact ⟨k+1,by omega,by omega,by go_num,h59⟩
       case measure=>exact ms_
      ·skip
       have HSM:=hd_ h1
       have HAM:=hd_ h3
       clear h1 h3
       go_upto_region 19 with fail
       (refine rg_ ?_;(repeat (go_big_quiet_step ((first | fail | (go_at_call_of 33 (Value.slice Aa na ca);exact Calls.grow_all (fun g=>r_Same2 aL bL false Aa Ab na ca nb cb g.1 hna hnb (HIA8.out.now g.2) (HIB8.out.now g.2) HSM.out)) | (go_at_call_of 19 (Value.slice AM nM cM);exact Calls.grow_all (fun g=>w_among mv pid (k:Int) true AM nM cM g.1 hnM (Sq.now HM8.out abF g.2) HAM.out))))));refine qn_ fun w1 hb1 hc1 hf1=>?_)
       obtain ⟨W9,rfl⟩:∃ W9:World,W9=w1:=⟨_,rfl⟩
       have h59:=bt_ h58 hb1
       clear hb1 hc1 hf1
       go_wp2_with fail
       go_roundw
       case rel=>exact ⟨k+1,by omega,by omega,by go_num,h59⟩
       case measure=>exact ms_
     ·obtain rfl:k=pl+1:=by omega
      go_wp2_with fail
      go_roundw
      case rel=>exact ⟨a+1,by omega,by go_num,HBX.out⟩
      case measure=>exact ms_
   ·obtain ⟨cv,hcv⟩:∃ v,cntOf l (1+(sr:Int))=v:=⟨_,rfl⟩
    have HCV:=hd_ hcv
    have HL6:=hd_ (HL5.out.now hB)
    have kL:=bLk.cell
    have zL:=bLk.lt
    clear hB kZ zZ bLk
    by_cases hck:cv≤(kn:Int)
    ·clear hcv
     go_wp2_with ((go_at_call 38;refine (w_counting l ⟨some ⟨gb,go,none⟩,3,pc,rA,rn,rc,tA,tn,tc,sA,sn,sc⟩ (1+(sr:Int)) cv _ (led_ok HLE.out) (HL6.out.now (by exact bel_)) HCV.out).mono ?_;rintro e w8 ⟨rfl,hb8⟩;have h8:=bt_ (show Below wk.heap.size wk _ by exact bel_) hb8))
     refine (r_sane2 _).mono ?_
     rintro e w9 ⟨rfl,hb9⟩
     go_wp2_with fail
     go_ret
     exact ⟨rfl,bt_ (bt_ (bt_ HB5 HBK.out) h8) (bt_ (by exact bel_) hb9)⟩
    ·have hmv:mv=[]:=by
      obtain ⟨g1,g2,g3⟩:=cnt_none (kn:=(kn:Int)) (src:=(1+(sr:Int))) HM.out (by omega)
      have h:=mov_none HPRE.out HIN.out g1 g2 g3
      rw [HMX.out] at h
      exact (Prod.mk.inj h).1
     have hn0:nM=0:=by rw [← HNM.out,hmv];rfl
     subst hn0
     clear hcv hmv
     go_wp2_with ((go_at_call 38;refine (w_counting l ⟨some ⟨gb,go,none⟩,3,pc,rA,rn,rc,tA,tn,tc,sA,sn,sc⟩ (1+(sr:Int)) cv _ (led_ok HLE.out) (HL6.out.now (by exact bel_)) HCV.out).mono ?_;rintro e w8 ⟨rfl,hb8⟩;have h8:=bt_ (show Below wk.heap.size wk _ by exact bel_) hb8))
     refine (r_sane2 _).mono ?_
     rintro e w9 ⟨rfl,hb9⟩
     go_wp2_with fail
     go_ret
     exact ⟨rfl,bt_ (bt_ (bt_ HB5 HBK.out) h8) (bt_ (by exact bel_) hb9)⟩
 ·have hnin:(1+(sr:Int)) ∉ srcL l:=fun h=>hth (HTI.out.2 h)
  have hth2:decide ((un:Int)+(xn:Int)+(zn:Int)<(rn:Int)+(tn:Int)+(sn:Int))=false:=by simp;omega
  have hth3:¬ (un:Int)+(xn:Int)+(zn:Int)<(rn:Int)+(tn:Int)+(sn:Int):=by omega
  obtain ⟨rfl,rfl⟩:mv=[]∧me=3:=by
   have h:=mov_gone HPRE.out hnin
   rw [HMX.out] at h
   exact Prod.mk.inj h
  clear hnin
  go_wp2_with fail
  refine (r_sane2 _).mono ?_
  rintro e w9 ⟨rfl,hb9⟩
  go_wp2_with fail
  go_ret
  exact ⟨rfl,bt_ HB5 (bt_ (by exact bel_) hb9)⟩
 end Go.Proofs.YtmcmbicapdcfmaaGreat
