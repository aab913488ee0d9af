/- LoanBack: for every history that numbers describe, whatever memory it lies in, the Go function LoanBack (layer 2, promise P2.7) returns true and leaves its argument as it reads. Conditions: none. -/
import Derived.Test.YtmcmbicapdcfmaaGreatBbzq
set_option linter.unusedVariables false
set_option linter.unusedSimpArgs false
set_option maxHeartbeats 16000000
namespace Go.Proofs.YtmcmbicapdcfmaaGreat
open Go.RowKit Go.Maps
theorem p_LiesB (l:Led) (x:Lsl) (src day kn p v:Int) (w:World) (hf:x.fit) (hd:LedIn w w.heap.size x l) (h:liesX l src day kn=(p,v)) :
 Calls Tryz.prog 35 #[.agg #[.slice x.pA x.pn x.pc,.slice x.rA x.rn x.rc,.slice x.tA x.tn x.tc,.slice x.sA x.sn x.sc],.int .i64 src,.int .i64 day,.int .i64 kn] w (fun e w'=>e=.returned (.tuple #[.int .i64 p,.int .i64 v])∧Below w.heap.size w w'):=by
 have hc:=p_Lies l x src day kn w hf hd
 rw [h] at hc
 exact hc
theorem p_WholeB (l:Led) (x:Lsl) (pap day kn p v:Int) (w:World) (hf:x.fit) (hd:LedIn w w.heap.size x l) (h:wholeX l pap day kn=(p,v)) :
 Calls Tryz.prog 34 #[.agg #[.slice x.pA x.pn x.pc,.slice x.rA x.rn x.rc,.slice x.tA x.tn x.tc,.slice x.sA x.sn x.sc],.int .i64 pap,.int .i64 day,.int .i64 kn] w (fun e w'=>e=.returned (.tuple #[.int .i64 p,.int .i64 v])∧Below w.heap.size w w'):=by
 have hc:=p_WholeX l x pap day kn w hf hd
 rw [h] at hc
 exact hc
theorem any_succB {α:Type} {l:List α} {k:Nat} {x:α} {p:α→Bool} (h:l[k]?=some x):(l.take (k+1)).any p=((l.take k).any p || p x):=by rw [take_snoc_some h,List.any_append];simp
theorem all_succB {α:Type} {l:List α} {k:Nat} {x:α} {p:α→Bool} (h:l[k]?=some x):(l.take (k+1)).all p=((l.take k).all p && p x):=by rw [take_snoc_some h,List.all_append];simp
set_option maxRecDepth 100000 in
theorem w_LoanBack (x:Rsl) (r:RawL) (w:World) (hf:x.fit) (hd:RawIn w x r) :
 Calls Tryz.prog 8 #[.agg #[.slice x.aA x.an x.ac,.slice x.bA x.bn x.bc,.slice x.cA x.cn x.cc]] w fun e w'=>e=.returned (.bool true)∧Below w.heap.size w w':=by
 obtain ⟨aA,an,ac,bA,bn,bc,cA,cn,cc⟩:=x
 have HF:=hd_ hf
 have HD:=hd_ hd
 clear hf hd
 go_enter Tryz.func8,Tryz.ntmps8
 go_wp2_with fail
 refine (r_Honest ⟨aA,an,ac,bA,bn,bc,cA,cn,cc⟩ r _ HF.out (HD.out.now (by exact bel_))).mono ?_
 rintro e wm ⟨y,l,days,DD,dc,rfl,hb1,hfy,hl,hM,-,-,-⟩
 obtain ⟨pA,pn,pc,rA,rn,rc,tA,tn,tc,sA,sn,sc⟩:=y
 have HB1:Below w.heap.size w wm:=bt_ (by exact bel_) hb1
 have HLD:=hd_ hl
 have HFY:=hd_ hfy
 have HM:=hd_ hM
 clear hl hfy hb1 hM
 go_upto_region 2 with fail
 refine wp_named2 fun f2 W2 hf2 hW2=>?_
 have bL2:BoxA W2 wm.heap.size 32 #[.slice pA pn pc,.slice rA rn rc,.slice tA tn tc,.slice sA sn sc]:=by rw [← hW2];exact BoxA.new _ _ _
 have h12:Below wm.heap.size wm W2:=by rw [← hW2];exact bel_
 have HB2:Hid (Below w.heap.size w W2):=by show Below _ _ _;exact bt_ HB1 h12
 have HL2:=hd_ (HLD.out.now h12)
 have HBL2:=hd_ bL2
 have hPP:Pps W2 W2.heap.size pA pn mPp:=by have h:=HL2.out.p;rwa [HM.out.pp] at h
 have hpn3:pn=3:=hPP.len.symm
 subst hpn3
 have HPP:=hd_ hPP
 have hrn8:rn≤8:=by have h1:=HL2.out.r.len;have h2:=HM.out.rl;dsimp only at h1;omega
 have htn8:tn≤8:=by have h1:=HL2.out.t.len;have h2:=HM.out.tl;dsimp only at h1;omega
 have HRN:Hid (l.rc.length=rn):=by show _=_;exact HL2.out.r.len
 have HTN:Hid (l.rt.length=tn):=by show _=_;exact HL2.out.t.len
 clear hW2 HLD h12 bL2 hPP HB1
 subst hf2
 go_wp2_with fail
 go_loopw [5] (fun i wr=>∃ k:Nat,k≤3∧i=.int .i64 k∧Below W2.heap.size W2 wr) (fun i _=>3 - (intOf i).toNat)
 case atStart=>exact ⟨0,by omega,rfl,Below.refl _ _⟩
 case round =>
  obtain ⟨k,hk,rfl,hB⟩:=hrel
  have bL:=HBL2.out.ext hB
  have kL:=bL.cell
  have zL:=bL.lt
  have HB:=hd_ hB
  clear hB bL
  by_cases hlt:k<3
  ·obtain ⟨gb,go,p,hA,hgb,hp,hc0,hc1⟩:=HPP.out.at_ hlt
   have HP:=hd_ (List.mem_of_getElem? hp)
   subst hA
   have HC0:=hd_ hc0
   have hk3:(k:Int)<3:=by omega
   have hk3d:decide ((k:Int)<3)=true:=decide_eq_true hk3
   clear hp hc0 hc1
   go_wp2_with fail
   obtain ⟨wo,rfl⟩:∃ wo:World,wo=wr:=⟨_,rfl⟩
   clear kL zL
   go_loopw [6,7] (fun bv i wr=>∃ j:Nat,j≤rn∧i=.int .i64 j∧bv=.bool (whoB l p.id j)∧Below W2.heap.size W2 wr) (fun _ i _=>rn - (intOf i).toNat)
   case atStart=>exact ⟨0,by omega,rfl,rfl,HB.out⟩
   case round =>
    clear HB
    obtain ⟨j,hj,rfl,rfl,hB⟩:=hrel
    have bL:=HBL2.out.ext hB
    have kL:=bL.cell
    have zL:=bL.lt
    have HB:=hd_ hB
    have hsB:=hB.size
    clear hB bL
    by_cases hjl:j<rn
    ·obtain ⟨bx,ox,x,hRA,hbx,hx,A1,n1,c1,⟨g0,g1,g2,g3,g4,g5,g6⟩,gi,gc,gm⟩:=HL2.out.r.at_ hjl
     dsimp only at hRA
     subst hRA
     have j0:=(HB.out.cell (p:=⟨bx,ox+j*7,none⟩) hbx).trans g0
     have j1:=(HB.out.cell (p:=⟨bx,ox+j*7+1,none⟩) hbx).trans g1
     have j2:=(HB.out.cell (p:=⟨bx,ox+j*7+2,none⟩) hbx).trans g2
     have j3:=(HB.out.cell (p:=⟨bx,ox+j*7+3,none⟩) hbx).trans g3
     have j4:=(HB.out.cell (p:=⟨bx,ox+j*7+4,none⟩) hbx).trans g4
     have j5:=(HB.out.cell (p:=⟨bx,ox+j*7+5,none⟩) hbx).trans g5
     have j6:=(HB.out.cell (p:=⟨bx,ox+j*7+6,none⟩) hbx).trans g6
     have hbxr:bx<wr.heap.size:=by omega
     have HX:=hd_ hx
     have HGI:=hd_ gi
     have HWS:=hd_ (whoB_succ (pid:=p.id) hx)
     have hn1:n1≤1000000:=by
      have h:=gi.len
      have h2:=((led_ok HM.out.led).rc x (List.mem_of_getElem? hx)).1
      omega
     obtain ⟨xs,hxs⟩:∃ q,x.lv=q:=⟨_,rfl⟩
     have HXS:=hd_ hxs
     have HGX:Hid (Is W2 W2.heap.size A1 n1 xs):=by show Is _ _ _ _ _;rw [← hxs];exact gi
     clear g0 g1 g2 g3 g4 g5 g6 gi hx hxs
     go_upto_region 10 with fail
     refine wp_named2 fun f3 W3 hf3 hW3=>?_
     have bX3:BoxA W3 wr.heap.size 79 #[.int .i64 x.src,.int .i64 x.bor,.int .i64 x.pap,.slice A1 n1 c1,.int .i64 x.day,.int .i64 x.kn,.int .i64 x.un]:=by rw [← hW3];exact BoxA.new _ _ _
     have h03:Below wr.heap.size wr W3:=by rw [← hW3];exact bel_
     have HBX3:=hd_ bX3
     have HB3:Hid (Below W2.heap.size W2 W3):=by show Below _ _ _;exact bt_ HB.out h03
     have hs3:=h03.size
     have hzx3:=bX3.lt
     clear hW3 bX3 h03 j0 j1 j2 j3 j4 j5 j6 kL zL
     subst hf3
     go_wp2_with fail
     obtain ⟨wj,rfl⟩:∃ wj:World,wj=wr:=⟨_,rfl⟩
     go_loopw [9,10] (fun bv i wr=>∃ a:Nat,a≤n1∧i=.int .i64 a∧bv=.bool ((xs.take a).all (fndB l.rt x))∧Below W3.heap.size W3 wr) (fun _ i _=>n1 - (intOf i).toNat)
     case atStart=>exact ⟨0,by omega,rfl,rfl,Below.refl _ _⟩
     case round =>
      obtain ⟨a,ha,rfl,rfl,hBa⟩:=hrel
      have bX:=HBX3.out.ext hBa
      have kX:=bX.cell
      have zX:=bX.lt
      have HBa:=hd_ hBa
      have hsa:=hBa.size
      clear hBa bX
      by_cases hal:a<n1
      ·obtain ⟨bl,ol,f,hA1,hbl,hf,hcf⟩:=HGX.out.at_ hal
       subst hA1
       have HCF:=hd_ hcf
       have HAS:=hd_ (all_succB (p:=fndB l.rt x) hf)
       clear hf hcf
       go_wp2_with fail
       obtain ⟨wa,rfl⟩:∃ wa:World,wa=wr:=⟨_,rfl⟩
       clear kX zX
       go_loopw [11,12] (fun fv i wr=>∃ m:Nat,m≤tn∧i=.int .i64 m∧fv=.bool ((l.rt.take m).any fun t=>decide (t.rcp=x.src) && decide (f∈t.lv))∧Below W3.heap.size W3 wr) (fun _ i _=>tn - (intOf i).toNat)
       case atStart=>exact ⟨0,by omega,rfl,rfl,HBa.out⟩
       case round =>
        clear HBa hsa
        obtain ⟨m,hm,rfl,rfl,hBm⟩:=hrel
        have bX:=HBX3.out.ext hBm
        have kX:=bX.cell
        have zX:=bX.lt
        have HBm:=hd_ hBm
        have hsm:=hBm.size
        have HBw:Hid (Below W2.heap.size W2 wr):=by show Below _ _ _;exact bt_ HB3.out hBm
        have hsw:=HBw.out.size
        have bL:=HBL2.out.ext HBw.out
        have kL:=bL.cell
        have zL:=bL.lt
        clear hBm bX bL
        by_cases hml:m<tn
        ·obtain ⟨bt,ot,t,hTA,hbt,ht,A2,n2,c2,⟨m0,m1,m2,m3,m4,m5,m6,m7⟩,mi,mc,mm⟩:=HL2.out.t.at_ hml
         dsimp only at hTA
         subst hTA
         have e1:=(HBw.out.cell (p:=⟨bt,ot+m*8+1,none⟩) hbt).trans m1
         have e3:=(HBw.out.cell (p:=⟨bt,ot+m*8+3,none⟩) hbt).trans m3
         have cf:=(HBw.out.cell (p:=⟨bl,ol+a,none⟩) hbl).trans HCF.out
         have hbtr:bt<wr.heap.size:=by omega
         have hblr:bl<wr.heap.size:=by omega
         have hn2:n2≤9223372036854775807:=by have:maxLen≤9223372036854775807:=(by decide);omega
         have HMI:=hd_ mi
         have HMS:=hd_ (any_succB (p:=fun t:Rtn=>decide (t.rcp=x.src) && decide (f∈t.lv)) ht)
         clear m0 m1 m2 m3 m4 m5 m6 m7 mi ht
         cases hfd:(l.rt.take m).any (fun t=>decide (t.rcp=x.src) && decide (f∈t.lv)) with
         | true =>
           have HV:Hid ((l.rt.take (m+1)).any (fun t=>decide (t.rcp=x.src) && decide (f∈t.lv))=true):=by show _=_;rw [HMS.out,hfd];rfl
           clear hfd HMS
           go_wp2_with fail
           (refine rg_ ?_;(repeat (go_big_quiet_step (fail)));refine qn_ fun w1 hb1 hc1 hf1=>?_)
           go_wp2_with fail
           go_roundw
           case rel=>exact ⟨m+1,by omega,by go_num,by rw [HV.out],bt_ HBm.out hb1⟩
           case measure=>exact ms_
         | false =>
           by_cases hts:t.rcp=x.src
           ·have hq:(t.rcp == x.src)=true:=by simpa using hts
            obtain ⟨bv,hbv⟩:∃ b,decide (f∈t.lv)=b:=⟨_,rfl⟩
            have HBV:=hd_ hbv
            have HV:Hid ((l.rt.take (m+1)).any (fun t=>decide (t.rcp=x.src) && decide (f∈t.lv))=bv):=by show _=_;rw [HMS.out,hfd,hbv];simp [hts]
            clear hfd HMS hts hbv
            go_wp2_with fail
            (refine rg_ ?_;(repeat (go_big_quiet_step ((first | (go_at_call_of 18 (Value.slice A2 n2 c2);exact Calls.grow_all (fun g=>r_Has2_v t.lv f bv A2 n2 c2 g.1 hn2 ((HMI.out.now HBw.out).now g.2) HBV.out))))));refine qn_ fun w1 hb1 hc1 hf1=>?_)
            go_wp2_with fail
            go_roundw
            case rel=>exact ⟨m+1,by omega,by go_num,by rw [HV.out],bt_ HBm.out hb1⟩
            case measure=>exact ms_
           ·have hq:(t.rcp == x.src)=false:=by simpa using hts
            have HV:Hid ((l.rt.take (m+1)).any (fun t=>decide (t.rcp=x.src) && decide (f∈t.lv))=false):=by show _=_;rw [HMS.out,hfd];simp [hts]
            clear hfd HMS hts
            go_wp2_with fail
            (refine rg_ ?_;(repeat (go_big_quiet_step (fail)));refine qn_ fun w1 hb1 hc1 hf1=>?_)
            go_wp2_with fail
            go_roundw
            case rel=>exact ⟨m+1,by omega,by go_num,by rw [HV.out],bt_ HBm.out hb1⟩
            case measure=>exact ms_
        ·obtain rfl:tn=m:=by omega
         have HFN:Hid ((l.rt.take tn).any (fun t=>decide (t.rcp=x.src) && decide (f∈t.lv))=fndB l.rt x f):=by show _=_;rw [List.take_of_length_le (by rw [HTN.out];exact lr_)];rfl
         rw [HFN.out]
         cases hcb:(xs.take a).all (fndB l.rt x) with
         | true =>
           obtain ⟨fv,hfv⟩:∃ b,fndB l.rt x f=b:=⟨_,rfl⟩
           have HV:Hid ((xs.take (a+1)).all (fndB l.rt x)=fv):=by show _=_;rw [HAS.out,hcb,hfv];rfl
           rw [hfv]
           clear hcb hfv HAS HFN
           go_wp2_with fail
           go_roundw
           case rel=>exact ⟨a+1,by omega,by go_num,by rw [HV.out],HBm.out⟩
           case measure=>exact ms_
         | false =>
           obtain ⟨fv,hfv⟩:∃ b,fndB l.rt x f=b:=⟨_,rfl⟩
           have HV:Hid ((xs.take (a+1)).all (fndB l.rt x)=false):=by show _=_;rw [HAS.out,hcb];rfl
           rw [hfv]
           clear hcb hfv HAS HFN
           go_wp2_with fail
           go_roundw
           case rel=>exact ⟨a+1,by omega,by go_num,by rw [HV.out],HBm.out⟩
           case measure=>exact ms_
      ·obtain rfl:n1=a:=by omega
       obtain ⟨bk,hbk⟩:∃ b,bakB l x=b:=⟨_,rfl⟩
       have HAL:Hid ((xs.take n1).all (fndB l.rt x)=bk):=by show _=_;rw [List.take_of_length_le (by rw [HGX.out.len];exact lr_),← hbk,bakB,HXS.out]
       rw [HAL.out]
       have HBW:Hid (Below W2.heap.size W2 wr):=by show Below _ _ _;exact bt_ HB3.out HBa.out
       have hsw:=HBW.out.size
       have bL:=HBL2.out.ext HBW.out
       have kL:=bL.cell
       have zL:=bL.lt
       have HLI:Hid (liesX l x.src 900 900=(if bk=true then 0 else 1,0)):=by show _=_;rw [HM.out.backLies (List.mem_of_getElem? HX.out),hbk]
       have HBXr:=hd_ (HBX3.out.ext HBa.out)
       obtain ⟨w0,hw0⟩:∃ b,whoB l p.id j=b:=⟨_,rfl⟩
       rw [hw0]
       have HW0:=hd_ hw0
       have HBK:=hd_ hbk
       clear bL hw0 hbk HAL
       have cp0:=(HBW.out.cell (p:=⟨gb,go+k*2,none⟩) hgb).trans HC0.out
       have hgbr:gb<wr.heap.size:=by omega
       cases bk with
       | true =>
         go_wp2_with fail
         refine (p_LiesB l ⟨some ⟨gb,go,none⟩,3,pc,some ⟨bx,ox,none⟩,rn,rc,tA,tn,tc,sA,sn,sc⟩ x.src 900 900 0 0 _ HFY.out (HL2.out.now (bt_ HBW.out (by exact bel_))) HLI.out).mono ?_
         rintro e w5 ⟨rfl,hb5⟩
         have h5:Below wr.heap.size wr w5:=bt_ (by exact bel_) hb5
         have bX5:=HBXr.out.ext h5
         have bL5:=HBL2.out.ext (bt_ HBW.out h5)
         have cp5:=(h5.cell (p:=⟨gb,go+k*2,none⟩) hgbr).trans cp0
         have hs5:=h5.size
         have hgb5:gb<w5.heap.size:=by omega
         clear kX zX kL zL cp0 hb5
         have kX:=bX5.cell
         have zX:=bX5.lt
         have kL:=bL5.cell
         have zL:=bL5.lt
         have HB5:Hid (Below W2.heap.size W2 w5):=by show Below _ _ _;exact bt_ HBW.out h5
         clear bX5 bL5 h5
         by_cases hpp:x.pap=p.id
         ·have hq:(x.pap == p.id)=true:=by simpa using hpp
          have HV:Hid (whoB l p.id (j+1)=w0):=by show _=_;rw [HWS.out,HW0.out,HBK.out];simp
          clear hpp
          go_wp2_with fail
          (refine rg_ ?_;(repeat (go_big_quiet_step (fail)));refine qn_ fun w1 hb1 hc1 hf1=>?_)
          cases w0 with
          | true =>
            go_wp2_with fail
            go_roundw
            case rel=>exact ⟨j+1,by omega,by go_num,by rw [HV.out],bt_ HB5.out hb1⟩
            case measure=>exact ms_
          | false =>
            go_wp2_with fail
            go_roundw
            case rel=>exact ⟨j+1,by omega,by go_num,by rw [HV.out],bt_ HB5.out hb1⟩
            case measure=>exact ms_
         ·have hq:(x.pap == p.id)=false:=by simpa using hpp
          have HV:Hid (whoB l p.id (j+1)=w0):=by show _=_;rw [HWS.out,HW0.out];simp [hpp]
          clear hpp
          go_wp2_with fail
          (refine rg_ ?_;(repeat (go_big_quiet_step (fail)));refine qn_ fun w1 hb1 hc1 hf1=>?_)
          go_wp2_with fail
          go_roundw
          case rel=>exact ⟨j+1,by omega,by go_num,by rw [HV.out],bt_ HB5.out hb1⟩
          case measure=>exact ms_
       | false =>
         go_wp2_with fail
         refine (p_LiesB l ⟨some ⟨gb,go,none⟩,3,pc,some ⟨bx,ox,none⟩,rn,rc,tA,tn,tc,sA,sn,sc⟩ x.src 900 900 1 0 _ HFY.out (HL2.out.now (bt_ HBW.out (by exact bel_))) HLI.out).mono ?_
         rintro e w5 ⟨rfl,hb5⟩
         have h5:Below wr.heap.size wr w5:=bt_ (by exact bel_) hb5
         have bX5:=HBXr.out.ext h5
         have bL5:=HBL2.out.ext (bt_ HBW.out h5)
         have cp5:=(h5.cell (p:=⟨gb,go+k*2,none⟩) hgbr).trans cp0
         have hs5:=h5.size
         have hgb5:gb<w5.heap.size:=by omega
         clear kX zX kL zL cp0 hb5
         have kX:=bX5.cell
         have zX:=bX5.lt
         have kL:=bL5.cell
         have zL:=bL5.lt
         have HB5:Hid (Below W2.heap.size W2 w5):=by show Below _ _ _;exact bt_ HBW.out h5
         clear bX5 bL5 h5
         by_cases hpp:x.pap=p.id
         ·have hq:(x.pap == p.id)=true:=by simpa using hpp
          have HV:Hid (whoB l p.id (j+1)=false):=by show _=_;rw [HWS.out,HBK.out];simp [hpp]
          clear hpp
          go_wp2_with fail
          (refine rg_ ?_;(repeat (go_big_quiet_step (fail)));refine qn_ fun w1 hb1 hc1 hf1=>?_)
          cases w0 with
          | true =>
            go_wp2_with fail
            go_roundw
            case rel=>exact ⟨j+1,by omega,by go_num,by rw [HV.out],bt_ HB5.out hb1⟩
            case measure=>exact ms_
          | false =>
            go_wp2_with fail
            go_roundw
            case rel=>exact ⟨j+1,by omega,by go_num,by rw [HV.out],bt_ HB5.out hb1⟩
            case measure=>exact ms_
         ·have hq:(x.pap == p.id)=false:=by simpa using hpp
          have HV:Hid (whoB l p.id (j+1)=w0):=by show _=_;rw [HWS.out,HW0.out];simp [hpp]
          clear hpp
          go_wp2_with fail
          (refine rg_ ?_;(repeat (go_big_quiet_step (fail)));refine qn_ fun w1 hb1 hc1 hf1=>?_)
          go_wp2_with fail
          go_roundw
          case rel=>exact ⟨j+1,by omega,by go_num,by rw [HV.out],bt_ HB5.out hb1⟩
          case measure=>exact ms_
    ·obtain rfl:rn=j:=by omega
     obtain ⟨wb,hwb⟩:∃ b,whoB l p.id rn=b:=⟨_,rfl⟩
     have HWH:Hid (wholeX l p.id 900 900=(if wb=true then 1 else 0,0)):=by show _=_;rw [HM.out.backWhole HP.out,HRN.out,hwb]
     rw [hwb]
     clear hwb
     have cp0:=(HB.out.cell (p:=⟨gb,go+k*2,none⟩) hgb).trans HC0.out
     have hgbr:gb<wr.heap.size:=by omega
     cases wb with
     | true =>
       go_wp2_with fail
       (refine rg_ ?_;(repeat (go_big_quiet_step ((first | (go_at_call_of 34 (Value.agg #[.slice (some ⟨gb,go,none⟩) 3 pc,.slice rA rn rc,.slice tA tn tc,.slice sA sn sc]);exact Calls.grow_all (fun g=>p_WholeB l ⟨some ⟨gb,go,none⟩,3,pc,rA,rn,rc,tA,tn,tc,sA,sn,sc⟩ p.id 900 900 1 0 g.1 HFY.out ((HL2.out.now HB.out).now g.2) HWH.out))))));refine qn_ fun w1 hb1 hc1 hf1=>?_)
       go_wp2_with fail
       go_roundw
       case rel=>exact ⟨k+1,by omega,by go_num,bt_ HB.out hb1⟩
       case measure=>exact ms_
     | false =>
       go_wp2_with fail
       (refine rg_ ?_;(repeat (go_big_quiet_step ((first | (go_at_call_of 34 (Value.agg #[.slice (some ⟨gb,go,none⟩) 3 pc,.slice rA rn rc,.slice tA tn tc,.slice sA sn sc]);exact Calls.grow_all (fun g=>p_WholeB l ⟨some ⟨gb,go,none⟩,3,pc,rA,rn,rc,tA,tn,tc,sA,sn,sc⟩ p.id 900 900 0 0 g.1 HFY.out ((HL2.out.now HB.out).now g.2) HWH.out))))));refine qn_ fun w1 hb1 hc1 hf1=>?_)
       go_wp2_with fail
       go_roundw
       case rel=>exact ⟨k+1,by omega,by go_num,bt_ HB.out hb1⟩
       case measure=>exact ms_
  ·obtain rfl:3=k:=by omega
   go_wp2_with fail
   refine (r_sane2 _).mono ?_
   rintro e w9 ⟨rfl,hb9⟩
   go_wp2_with fail
   go_ret
   exact ⟨rfl,bt_ (bt_ HB2.out HB.out) hb9⟩
end Go.Proofs.YtmcmbicapdcfmaaGreat
namespace Go.Proofs.YtmcmbicapdcfmaaGreat.RowLoanBack
open Go.ChangeShapes Go.WideShapes Go.ChangeAt Go.RowKit
open Go.Proofs.YtmcmbicapdcfmaaGreat
set_option maxRecDepth 100000 in
theorem lifted (os:Os) (started:os.Started) (H:Type) (enc:TypeId × Value→H) :
 ReturnsInHanded {} Tryz.checked os 8 .any (Rows.loanBackSpec.pre6 enc Tryz.prog Tryz.f8 Rows.loanBackRow.domain false) (Rows.loanBackSpec.post enc Tryz.prog Tryz.f8 false true false false):=by
 refine returnsInHanded_of_change (C:=Tryz.checked) own started (by kernel_rfl) Tryz.func8
  (ChangeSpec.witness6 (enc:=enc) (C:=Tryz.checked) false ⟨#[],#[.agg #[.slice none 0 0,.slice none 0 0,.slice none 0 0]],[]⟩ 8 (by kernel_rfl) (by kernel_rfl) (by kernel_rfl) (by kernel_rfl)) ?_
 intro W base args ds gs before hval0 hW hcnd _
 have hval:∀ (j:Nat) t v,Tryz.f8.params[j]?=some t→args[j]?=some v→Value.okWide Tryz.prog W .any base t v:=hval0
 have hW':=hW
 obtain ⟨p,q,hA0,hV,rfl,hfz,hnd⟩:=hW
 have hA:DataW.TrodAll enc Tryz.prog W 0 (fun _=>true) true Tryz.f8.params.toList args.toList ds p:=hA0
 rw [Tryz.params8] at hA hval
 obtain ⟨v0,vs0,d0,ds0,p0,q0,hargs,rfl,rfl,h0,r0⟩:=trodAll_cons hA
 obtain ⟨rfl,rfl,rfl⟩:=trodAll_nil r0
 obtain rfl:args=#[v0]:=by cases args;simp_all
 obtain ⟨rfl,rfl⟩:=trodVars_none hV
 have k0:=h0
 have lt0:∀ x∈p0,x.block<W.heap.size:=by obtain ⟨m,hm⟩:=k0;exact DataW.trod_lt m _ _ _ hm
 obtain ⟨y0,l0,rfl,f0,w0⟩:=raw_of (hval 0 25 v0 rfl rfl) h0
 clear hA0 hval0
 refine (w_LoanBack y0 l0 W f0 w0).mono fun e W' ⟨he,bel⟩=>?_
 subst he
 exact ⟨_,rfl,_,_,_,[],_,[],hW',trodAll_mk1 (shut_bool Tryz.underlying4 _),(trodAll_cons_mk (Below.trod laidOut (by kernel_rfl) (of_decide_eq_true (by kernel_rfl)) k0 bel lt0) trodAll_mk0),rfl,bel.frame _,fun h=>by cases h⟩
theorem over:Rows.loanBackRow.holds Tryz.pinned (OpenSpec.ofChange Rows.loanBackSpec) :=
 OpenClaim.holds_of_wide 8 Tryz.f8 rfl rfl rfl rfl rfl rfl rfl ⟨rfl,rfl,rfl,rfl,rfl⟩ rfl rfl rfl rfl rfl (by kernel_rfl) Tryz.func8 (by kernel_rfl)
  (of_decide_eq_true (by kernel_rfl)) (by unfold Func.isWrapper;first | (rw [if_pos (by decide +kernel)];kernel_rfl) | (rw [if_neg (by decide +kernel)];exact ⟨rfl,rfl⟩))
  (fun os started H enc _=>lifted os started H enc)
theorem proved:Rows.LoanBackSaid:=over
end Go.Proofs.YtmcmbicapdcfmaaGreat.RowLoanBack
namespace Go.Proofs.YtmcmbicapdcfmaaGreat
theorem loanBack_holds:Rows.LoanBackSaid:=RowLoanBack.proved
end Go.Proofs.YtmcmbicapdcfmaaGreat
