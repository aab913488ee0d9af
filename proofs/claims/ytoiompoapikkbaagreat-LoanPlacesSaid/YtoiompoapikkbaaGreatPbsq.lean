/- Layer 2 of the texts that LoanPlaces takes: Pbsq. -/
import Derived.Test.YtoiompoapikkbaaGreatPbrq
set_option linter.unusedVariables false
set_option linter.unusedSimpArgs false
set_option maxHeartbeats 16000000
namespace Go.Proofs.YtoiompoapikkbaaGreat
open Go.RowKit Go.Maps
def whoF (l:Led) (kn day:Int) (days:List Int) (pap leaf:Int):Int:=if (stayP (opnL l kn).M (cntR l kn) pap leaf day).2<0∨day<days.getD (stayP (opnL l kn).M (cntR l kn) pap leaf day).2.toNat 0 then (stayP (opnL l kn).M (cntR l kn) pap leaf day).1 else 0
theorem whoP_F (l:Led) (kn day pap:Int) (days:List Int) (i:Nat):whoP l kn day pap days i=whoF l kn day days pap ((i:Int)+1):=rfl
def withR (days:List Int) (day bor:Int):Option Nat→Int
 | none=>bor
 | some k=>if day<days.getD k 0 then bor else 0
theorem wt_none {l:Led} {kn pap leaf day:Int} {days:List Int} (h0:∀ r∈l.rc,0≤r.day) (hL:lastK kn pap leaf day l.rc l.rc.length=none):whoF l kn day days pap leaf=0:=by
 rw [whoF,stayP,stayF_last l kn _ _ _ _ h0,hL]
 simp [lastV]
theorem wt_some {l:Led} {kn pap leaf day:Int} {days:List Int} {p:Nat × Int} {r:Rcp} (h0:∀ r∈l.rc,0≤r.day) (hL:lastK kn pap leaf day l.rc l.rc.length=some p) (hr:l.rc[p.1]?=some r):whoF l kn day days pap leaf=withR days day r.bor (rtIx (tellK l kn l.rt.length) l.rt r.src leaf):=by
 rw [whoF,stayP,stayF_last l kn _ _ _ _ h0,hL]
 simp only [lastV,hr,back_rt,opn_tell]
 cases rtIx (tellK l kn l.rt.length) l.rt r.src leaf with
 | none=>simp [ixI,withR]
 | some k =>
   have h1:¬ ((k:Int)<0):=by omega
   simp [ixI,withR,h1]
set_option maxRecDepth 10000 in
theorem r_With (l:Led) (v:Vw) (pap leaf day:Int) (days:List Int) (D:Option Addr) (c0:Nat) (w:World) (hl:LedOk l) (hTt:v.Tn=v.x.tn) (hd:LedIn w w.heap.size v.x l) (hT:Sq QB 1 w w.heap.size v.TA v.Tn (tellK l v.kn l.rt.length)) (hdy:Is w w.heap.size D v.Tn days) :
 Calls Tryz.prog 136 #[vwV v,.agg #[.int .i64 pap,.int .i64 leaf],.slice D v.Tn c0,.int .i64 day] w fun e w'=>e=.returned (.int .i64 (whoF l v.kn day days pap leaf))∧Below w.heap.size w w':=by
 obtain ⟨⟨pA,pn,pc,rA,rn,rc,tA,tn,tc,sA,sn,sc⟩,kn,TA,Tn,Tc,DA,Dn,Dc⟩:=v
 obtain rfl:Tn=tn:=hTt
 show Calls _ _ #[.agg #[.slice pA pn pc,.slice rA rn rc,.slice tA Tn tc,.slice sA sn sc,.int .i64 kn,.slice TA Tn Tc,.slice DA Dn Dc],_,.slice D Tn c0,_] _ fun e w'=>e=.returned (.int .i64 (whoF l kn day days pap leaf))∧Below w.heap.size w w'
 have HR:Hid (Rcs w w.heap.size rA rn l.rc):=by show Sq _ _ _ _ _ _ _;exact hd.r
 have HTL:Hid (l.rt.length=Tn):=by show _=_;exact hd.t.len
 have hrn6:rn≤1000000:=by have h:=HR.out.len;have h2:=hl.rn;omega
 have htn6:Tn≤1000000:=by have h:=HTL.out;have h2:=hl.tn;omega
 have h0:∀ r∈l.rc,0≤r.day:=fun r hr=>(hl.rc r hr).2.2.2.1
 have HDY:Hid (Is w w.heap.size D Tn days):=by show Is _ _ _ _ _;exact hdy
 have HLA:Hid (∀ (W:World) (k:Int),Below w.heap.size w W→lastI (lastK kn pap leaf day l.rc l.rc.length)=k→Calls Tryz.prog 173 #[.agg #[.slice pA pn pc,.slice rA rn rc,.slice tA Tn tc,.slice sA sn sc,.int .i64 kn,.slice TA Tn Tc,.slice DA Dn Dc],.agg #[.int .i64 pap,.int .i64 leaf],.int .i64 day] W fun e w'=>e=.returned (.int .i64 k)∧Below W.heap.size W w'):=by
  show ∀ _,_
  exact fun W k hW h=>r_last_v l ⟨⟨pA,pn,pc,rA,rn,rc,tA,Tn,tc,sA,sn,sc⟩,kn,TA,Tn,Tc,DA,Dn,Dc⟩ pap leaf day k W hrn6 (hd.now hW) h
 have HRO:Hid (∀ (W:World) (a:Nat) (x:Rcp) (k:Int),Below w.heap.size w W→l.rc[a]?=some x→ixI (rtIx (tellK l kn l.rt.length) l.rt x.src leaf)=k→Calls Tryz.prog 130 #[.agg #[.slice pA pn pc,.slice rA rn rc,.slice tA Tn tc,.slice sA sn sc,.int .i64 kn,.slice TA Tn Tc,.slice DA Dn Dc],.int .i64 a,.int .i64 leaf] W fun e w'=>e=.returned (.int .i64 k)∧Below W.heap.size W w'):=by
  show ∀ _,_
  exact fun W a x k hW ha h2=>r_returnOf_v l ⟨⟨pA,pn,pc,rA,rn,rc,tA,Tn,tc,sA,sn,sc⟩,kn,TA,Tn,Tc,DA,Dn,Dc⟩ _ a x leaf k W hrn6 htn6 rfl (hd.now hW) (hT.now abB hW) ha h2
 clear hd hT hdy hl
 cases hL:lastK kn pap leaf day l.rc l.rc.length with
 | none =>
   rw [wt_none h0 hL]
   have HLV:Hid (lastI (lastK kn pap leaf day l.rc l.rc.length)=-1):=by show _=_;rw [hL];rfl
   clear hL
   go_enter Tryz.func136,Tryz.ntmps136
   go_wp2_with fail
   refine (HLA.out _ (-1) (by exact bel_) HLV.out).mono ?_
   rintro e w3 ⟨rfl,hb3⟩
   have HB3:Below w.heap.size w w3:=bt_ (by exact bel_) hb3
   have hs3:=HB3.size
   go_wp2_with fail
   go_ret
   exact ⟨rfl,by exact bel_⟩
 | some p =>
   obtain ⟨a,dd⟩:=p
   obtain ⟨-,x,hx,-⟩:=lastK_at hL
   rw [wt_some h0 hL hx]
   have HLV:Hid (lastI (lastK kn pap leaf day l.rc l.rc.length)=(a:Int)):=by show _=_;rw [hL];rfl
   have hia:a<rn:=by rw [← HR.out.len];exact (List.getElem?_eq_some_iff.1 hx).1
   obtain ⟨bx,ox,x',rfl,hbx,hxx,A1,n1,c1,⟨-,g1,-,-,-,-,-⟩,-,-,-⟩:=HR.out.at_ hia
   obtain rfl:x=x':=Option.some.inj (hx.symm.trans hxx)
   have hxn:decide ((a:Int)<0)=false:=by simp
   obtain ⟨q,hq⟩:∃ q,rtIx (tellK l kn l.rt.length) l.rt x.src leaf=q:=⟨_,rfl⟩
   have HKI:Hid (ixI (rtIx (tellK l kn l.rt.length) l.rt x.src leaf)=ixI q):=by show _=_;rw [hq]
   have HQ:=hd_ hq
   rw [hq]
   have HX:=hd_ hx
   obtain ⟨bor,hbor⟩:∃ b,x.bor=b:=⟨_,rfl⟩
   rw [hbor] at g1 ⊢
   clear hL hx hxx hq hbor
   go_enter Tryz.func136,Tryz.ntmps136
   have bV0:=(BoxA.new w 127 #[.slice pA pn pc,.slice (some ⟨bx,ox,none⟩) rn rc,.slice tA Tn tc,.slice sA sn sc,.int .i64 kn,.slice TA Tn Tc,.slice DA Dn Dc]).alloc (.cells #[.int .i64 pap,.int .i64 leaf] 60)
   have bF0:BoxA ((w.alloc (.cells #[.slice pA pn pc,.slice (some ⟨bx,ox,none⟩) rn rc,.slice tA Tn tc,.slice sA sn sc,.int .i64 kn,.slice TA Tn Tc,.slice DA Dn Dc] 127)).alloc (.cells #[.int .i64 pap,.int .i64 leaf] 60)) (w.heap.size+1) 60 #[.int .i64 pap,.int .i64 leaf]:=by
    have h:=BoxA.new (w.alloc (.cells #[.slice pA pn pc,.slice (some ⟨bx,ox,none⟩) rn rc,.slice tA Tn tc,.slice sA sn sc,.int .i64 kn,.slice TA Tn Tc,.slice DA Dn Dc] 127)) 60 #[.int .i64 pap,.int .i64 leaf]
    simpa using h
   have HBV0:=hd_ bV0
   have HBF0:=hd_ bF0
   clear bV0 bF0
   go_wp2_with fail
   refine (HLA.out _ a (by exact bel_) HLV.out).mono ?_
   rintro e w3 ⟨rfl,hb3⟩
   have HB3:Below w.heap.size w w3:=bt_ (by exact bel_) hb3
   have hs3:=HB3.size
   have bV3:=HBV0.out.ext hb3
   have bF3:=HBF0.out.ext hb3
   have kV:=bV3.cell
   have zV:=bV3.lt
   have kF:=bF3.cell
   have zF:=bF3.lt
   have HBV3:=hd_ bV3
   clear hb3 bV3 bF3
   go_wp2_with fail
   refine (HRO.out _ a x (ixI q) HB3 HX.out HKI.out).mono ?_
   rintro e w4 ⟨rfl,hb4⟩
   have HB4:=bt_ HB3 hb4
   have hs4:=HB4.size
   have bV4:=HBV3.out.ext hb4
   clear kV zV kF zF
   have kV:=bV4.cell
   have zV:=bV4.lt
   have d1:=(HB4.cell (p:=⟨bx,ox+a*7+1,none⟩) hbx).trans g1
   have hbx4:bx<w4.heap.size:=by omega
   clear bV4 hb4
   cases q with
   | none =>
     have hneg:decide ((-1:Int)≥0)=false:=by decide
     simp only [ixI]
     go_wp2_with fail
     go_ret
     exact ⟨rfl,by exact bel_⟩
   | some i =>
     obtain ⟨-,t,ht,-,-⟩:=rt_some HQ.out
     have hit:i<Tn:=by rw [← HTL.out];exact (List.getElem?_eq_some_iff.1 ht).1
     have hin:decide ((i:Int)≥0)=true:=by simp
     have hmx:max (i:Int) 0=(i:Int):=by omega
     obtain ⟨bd,od,y,rfl,hbd,hy,hcy⟩:=HDY.out.at_ hit
     have hgd:days.getD i 0=y:=by rw [List.getD_eq_getElem?_getD,hy];rfl
     have e0:=(HB4.cell (p:=⟨bd,od+i,none⟩) hbd).trans hcy
     have hbd4:bd<w4.heap.size:=by omega
     have HRW:Hid (withR days day bor (some i)=if day<y then bor else 0):=by show _=_;simp only [withR,hgd]
     simp only [ixI]
     clear hgd hy ht hcy
     cases h1:decide (y≤day) with
     | true =>
       go_wp2_with fail
       go_ret
       rw [HRW.out,if_neg (by have:=of_decide_eq_true h1;omega)]
       exact ⟨rfl,by exact bel_⟩
     | false =>
       go_wp2_with fail
       go_ret
       rw [HRW.out,if_pos (by have:=of_decide_eq_false h1;omega)]
       exact ⟨rfl,by exact bel_⟩
set_option maxRecDepth 10000 in
theorem r_Placed (l:Led) (x:Lsl) (day kn pap leaf per src:Int) (days:List Int) (D:Option Addr) (m c0:Nat) (w:World) (hf:x.fit) (hd:LedIn w w.heap.size x l) (hm:m≤9223372036854775807) (hdy:Is w w.heap.size D m days) :
 Calls Tryz.prog 48 #[.agg #[.slice x.pA x.pn x.pc,.slice x.rA x.rn x.rc,.slice x.tA x.tn x.tc,.slice x.sA x.sn x.sc],.agg #[.int .i64 day,.int .i64 kn,.int .i64 pap,.int .i64 leaf,.int .i64 per,.int .i64 src],.slice D m c0] w (RetLE (placedX l days pap day kn) w):=by
 obtain ⟨pA,pn,pc,rA,rn,rc,tA,tn,tc,sA,sn,sc⟩:=x
 have hml:maxLen≤9223372036854775807:=by decide
 have hpn:pn≤9223372036854775807:=by have:=hf.p;dsimp only at this;omega
 have HTL:Hid (l.rt.length=tn):=by show _=_;exact hd.t.len
 have HDL:Hid (days.length=m):=by show _=_;exact hdy.len
 have HD:=hd_ hd
 have HF:=hd_ hf
 have HDY:=hd_ hdy
 clear hd hf hml hdy
 have B2:=box2 w 27 62 #[.slice pA pn pc,.slice rA rn rc,.slice tA tn tc,.slice sA sn sc] #[.int .i64 day,.int .i64 kn,.int .i64 pap,.int .i64 leaf,.int .i64 per,.int .i64 src]
 have BL0:=hd_ B2.1
 have BA0:=hd_ B2.2
 clear B2
 obtain ⟨v,hv⟩:∃ v,preE l [day,kn]=v:=⟨_,rfl⟩
 have HV:=hd_ hv
 have hF:preF l day kn pap 1=if v=0 then errI (folB l.pp pap 1) 26 else v:=by
  rw [← hv,preF,preE]
  cases ledB l <;> cases daysOk [day,kn] <;> cases folB l.pp pap 1 <;> simp [orL,errI]
 by_cases hv0:v=0
 rotate_left
 ·have hres:placedX l days pap day kn=([],v):=by rw [placedX,hF,if_neg hv0,if_neg hv0]
  rw [hres]
  have hv1:(v != 0)=true:=by simpa using hv0
  clear hres hv hv0 hF
  go_enter Tryz.func48,Tryz.ntmps48
  go_wp2_with (go_at_call 102;refine (r_asked_v l ⟨pA,pn,pc,rA,rn,rc,tA,tn,tc,sA,sn,sc⟩ [day,kn] v _ 2 2 _ HF.out (HD.out.now (by exact bel_)) (by decide) (Rd.new _ #[.int .i64 day,.int .i64 kn] _ 1 2 _ (by simp) rfl) HV.out).mono ?_;rintro e w1 ⟨rfl,hb1⟩;have HB1:Below w.heap.size w w1:=bt_ (by exact bel_) hb1;have hs1:=HB1.size;have bL1:=(BL0.out.alloc _).ext hb1;have kL1:=bL1.cell;have zL1:=bL1.lt;have bA1:=(BA0.out.alloc _).ext hb1;have kA1:=bA1.cell;have zA1:=bA1.lt;clear hb1)
  go_ret2
  exact RetLE.err (by exact bel_)
 subst hv0
 have hlb:=(pre_zero hv).1
 have HLB:=hd_ hlb
 have HLO:=hd_ (led_ok hlb)
 obtain ⟨n,hnl,hn30⟩:=lv_range HLO.out pap
 by_cases hn0:n=0
 ·have hres:placedX l days pap day kn=([],26):=by
   rw [placedX,hF,if_pos rfl,folB,hnl,hn0];rfl
  rw [hres]
  have HNN:Hid (lvOf l.pp pap=0):=by show _=_;rw [hnl,hn0];rfl
  clear hres hv hF hnl hlb
  go_enter Tryz.func48,Tryz.ntmps48
  go_wp2_with (first | (go_at_call 102;refine (r_asked_v l ⟨pA,pn,pc,rA,rn,rc,tA,tn,tc,sA,sn,sc⟩ [day,kn] 0 _ 2 2 _ HF.out (HD.out.now (by exact bel_)) (by decide) (Rd.new _ #[.int .i64 day,.int .i64 kn] _ 1 2 _ (by simp) rfl) HV.out).mono ?_;rintro e w1 ⟨rfl,hb1⟩;have HB1:Below w.heap.size w w1:=bt_ (by exact bel_) hb1;have hs1:=HB1.size;have bL1:=(BL0.out.alloc _).ext hb1;have kL1:=bL1.cell;have zL1:=bL1.lt;have bA1:=(BA0.out.alloc _).ext hb1;have kA1:=bA1.cell;have zA1:=bA1.lt;clear hb1) | (go_at_call 128;refine (r_leavesOf_v l.pp ⟨pA,pn,pc,rA,rn,rc,tA,tn,tc,sA,sn,sc⟩ pap 0 _ hpn ((HD.out.now (by exact bel_)).p) HNN.out).mono ?_;rintro e w2 ⟨rfl,hb2⟩;have HB2:Below w.heap.size w w2:=bt_ (by exact bel_) hb2;have hs2:=HB2.size;have bL2:=bL1.ext hb2;have kL2:=bL2.cell;have zL2:=bL2.lt;have bA2:=bA1.ext hb2;have kA2:=bA2.cell;have zA2:=bA2.lt;clear hb2 kL1 zL1 kA1 zA1))
  go_ret2
  exact RetLE.err (by exact bel_)
 have hfo:folB l.pp pap 1=true:=by simp [folB,withinB,hnl];omega
 have hX:placedX l days pap day kn=if trueE l kn days=0 then ((List.range n).map (whoP l kn day pap days),0) else ([],trueE l kn days):=by rw [placedX,hF,if_pos rfl,hfo,hnl];rfl
 have HNN:Hid (lvOf l.pp pap=(n:Int)):=by show _=_;exact hnl
 have hnz:((n:Int) == 0)=false:=by simp;omega
 have ht:trueE l kn days=0∨trueE l kn days=29:=by
  unfold trueE
  split
  ·cases trueD days (setP l kn)
   ·exact .inr rfl
   ·exact .inl rfl
  ·exact .inr rfl
 rcases ht with ht | ht
 rotate_left
 ·have HQ:Hid (decide (trueE l kn days=0)=false):=by show _=_;rw [ht];rfl
  rw [ht,if_neg (by decide)] at hX
  rw [hX]
  clear hX hv hF hfo hlb hnl ht
  go_enter Tryz.func48,Tryz.ntmps48
  go_wp2_with (first | (go_at_call 102;refine (r_asked_v l ⟨pA,pn,pc,rA,rn,rc,tA,tn,tc,sA,sn,sc⟩ [day,kn] 0 _ 2 2 _ HF.out (HD.out.now (by exact bel_)) (by decide) (Rd.new _ #[.int .i64 day,.int .i64 kn] _ 1 2 _ (by simp) rfl) HV.out).mono ?_;rintro e w1 ⟨rfl,hb1⟩;have HB1:Below w.heap.size w w1:=bt_ (by exact bel_) hb1;have hs1:=HB1.size;have bL1:=(BL0.out.alloc _).ext hb1;have kL1:=bL1.cell;have zL1:=bL1.lt;have bA1:=(BA0.out.alloc _).ext hb1;have kA1:=bA1.cell;have zA1:=bA1.lt;clear hb1) | (go_at_call 128;refine (r_leavesOf_v l.pp ⟨pA,pn,pc,rA,rn,rc,tA,tn,tc,sA,sn,sc⟩ pap n _ hpn ((HD.out.now (by exact bel_)).p) HNN.out).mono ?_;rintro e w2 ⟨rfl,hb2⟩;have HB2:Below w.heap.size w w2:=bt_ (by exact bel_) hb2;have hs2:=HB2.size;have bL2:=bL1.ext hb2;have kL2:=bL2.cell;have zL2:=bL2.lt;have bA2:=bA1.ext hb2;have kA2:=bA2.cell;have zA2:=bA2.lt;clear hb2 kL1 zL1 kA1 zA1) | (go_at_call 135;refine (r_isTrue l ⟨pA,pn,pc,rA,rn,rc,tA,tn,tc,sA,sn,sc⟩ kn days D m c0 false _ HLB.out (HD.out.now (by exact bel_)) hm (HDY.out.now (by exact bel_)) HQ.out).mono ?_;rintro e w3 ⟨rfl,hb3⟩;have HB3:Below w.heap.size w w3:=bt_ (by exact bel_) hb3;have hs3:=HB3.size;have bL3:=bL2.ext hb3;have kL3:=bL3.cell;have zL3:=bL3.lt;have bA3:=bA2.ext hb3;have kA3:=bA3.cell;have zA3:=bA3.lt;clear hb3 kL2 zL2 kA2 zA2))
  go_ret2
  exact RetLE.err (by exact bel_)
 have HQ:Hid (decide (trueE l kn days=0)=true):=by show _=_;rw [ht];rfl
 rw [if_pos ht] at hX
 have hmt:m=tn:=by have h1:=true_len ht;have h2:=HTL.out;have h3:=HDL.out;omega
 have HMT:=hd_ hmt
 have HX:=hd_ hX
 obtain ⟨i0,hi,hz0,hz1,hz2⟩:=info_parts infoI2
 clear hX hv hF hfo hlb hnl ht hmt
 go_enter Tryz.func48,Tryz.ntmps48
 go_wp2_with (first | (go_at_call 102;refine (r_asked_v l ⟨pA,pn,pc,rA,rn,rc,tA,tn,tc,sA,sn,sc⟩ [day,kn] 0 _ 2 2 _ HF.out (HD.out.now (by exact bel_)) (by decide) (Rd.new _ #[.int .i64 day,.int .i64 kn] _ 1 2 _ (by simp) rfl) HV.out).mono ?_;rintro e w1 ⟨rfl,hb1⟩;have HB1:Below w.heap.size w w1:=bt_ (by exact bel_) hb1;have hs1:=HB1.size;have bL1:=(BL0.out.alloc _).ext hb1;have kL1:=bL1.cell;have zL1:=bL1.lt;have bA1:=(BA0.out.alloc _).ext hb1;have kA1:=bA1.cell;have zA1:=bA1.lt;clear hb1) | (go_at_call 128;refine (r_leavesOf_v l.pp ⟨pA,pn,pc,rA,rn,rc,tA,tn,tc,sA,sn,sc⟩ pap n _ hpn ((HD.out.now (by exact bel_)).p) HNN.out).mono ?_;rintro e w2 ⟨rfl,hb2⟩;have HB2:Below w.heap.size w w2:=bt_ (by exact bel_) hb2;have hs2:=HB2.size;have bL2:=bL1.ext hb2;have kL2:=bL2.cell;have zL2:=bL2.lt;have bA2:=bA1.ext hb2;have kA2:=bA2.cell;have zA2:=bA2.lt;clear hb2 kL1 zL1 kA1 zA1) | (go_at_call 135;refine (r_isTrue l ⟨pA,pn,pc,rA,rn,rc,tA,tn,tc,sA,sn,sc⟩ kn days D m c0 true _ HLB.out (HD.out.now (by exact bel_)) hm (HDY.out.now (by exact bel_)) HQ.out).mono ?_;rintro e w3 ⟨rfl,hb3⟩;have HB3:Below w.heap.size w w3:=bt_ (by exact bel_) hb3;have hs3:=HB3.size;have bL3:=bL2.ext hb3;have kL3:=bL3.cell;have zL3:=bL3.lt;have bA3:=bA2.ext hb3;have kA3:=bA3.cell;have zA3:=bA3.lt;clear hb3 kL2 zL2 kA2 zA2) | (go_at_call 105;refine (r_look l ⟨pA,pn,pc,rA,rn,rc,tA,tn,tc,sA,sn,sc⟩ kn _ HLO.out (HD.out.now (by exact bel_))).mono ?_;rintro e w4 ⟨B,Tc,rfl,hb4,hBT,-⟩;have HB4:Below w.heap.size w w4:=bt_ (by exact bel_) hb4;have hs4:=HB4.size;have bA4:=bA3.ext hb4;have HT4:Hid (Sq QB 1 w4 w4.heap.size (some ⟨B,0,none⟩) tn (tellK l kn l.rt.length)):=(by show Sq _ _ _ _ _ _ _;exact hBT.sqT (by rw [tellK_len,HTL.out]) hBT.lt);clear hb4 hBT kL3 zL3 kA3 zA3))
 have HBV:Hid (BoxA (w4.alloc (.cells #[.slice pA pn pc,.slice rA rn rc,.slice tA tn tc,.slice sA sn sc,.int .i64 kn,.slice (some ⟨B,0,none⟩) tn Tc,.slice none 0 0] 127)) w4.heap.size 127 #[.slice pA pn pc,.slice rA rn rc,.slice tA tn tc,.slice sA sn sc,.int .i64 kn,.slice (some ⟨B,0,none⟩) tn Tc,.slice none 0 0]):=by show BoxA _ _ _ _;exact BoxA.new _ _ _
 have HBA:=hd_ (bA4.alloc (.cells #[.slice pA pn pc,.slice rA rn rc,.slice tA tn tc,.slice sA sn sc,.int .i64 kn,.slice (some ⟨B,0,none⟩) tn Tc,.slice none 0 0] 127))
 have HW4:Below w4.heap.size w4 (w4.alloc (.cells #[.slice pA pn pc,.slice rA rn rc,.slice tA tn tc,.slice sA sn sc,.int .i64 kn,.slice (some ⟨B,0,none⟩) tn Tc,.slice none 0 0] 127)):=by exact bel_
 obtain ⟨wv,hwv⟩:∃ wv,w4.alloc (.cells #[.slice pA pn pc,.slice rA rn rc,.slice tA tn tc,.slice sA sn sc,.int .i64 kn,.slice (some ⟨B,0,none⟩) tn Tc,.slice none 0 0] 127)=wv:=⟨_,rfl⟩
 rw [hwv] at HBV HBA HW4
 have hs4v:=HW4.size
 have HWV:Below w.heap.size w wv:=HB4.trans (HW4.mono hs4)
 have hsv:=HWV.size
 (try rw [hwv])
 clear hwv bA4
 have HWI:Hid (∀ (W:World) (i:Nat),Below wv.heap.size wv W→Calls Tryz.prog 136 #[.agg #[.slice pA pn pc,.slice rA rn rc,.slice tA tn tc,.slice sA sn sc,.int .i64 kn,.slice (some ⟨B,0,none⟩) tn Tc,.slice none 0 0],.agg #[.int .i64 pap,.int .i64 i],.slice D m c0,.int .i64 day] W fun e w'=>e=.returned (.int .i64 (whoF l kn day days pap i))∧Below W.heap.size W w'):=by
  show ∀ _,_
  intro W i hW
  have hI:=HDY.out.now (HWV.trans (hW.mono hsv))
  rw [HMT.out] at hI ⊢
  exact r_With l ⟨⟨pA,pn,pc,rA,rn,rc,tA,tn,tc,sA,sn,sc⟩,kn,some ⟨B,0,none⟩,tn,Tc,none,0,0⟩ pap i day days D c0 W HLO.out rfl (HD.out.now (HWV.trans (hW.mono hsv))) (HT4.out.now abB (HW4.trans (hW.mono hs4v))) hI
 go_loopw [11,12] (fun v i wr=>∃ m1:Nat,1≤m1∧m1≤n+1∧i=.int .i64 m1∧wr.ownsRow wv.heap.size 3 1 v (m1 - 1) (intL ((List.range (m1 - 1)).map (whoP l kn day pap days)))∧Below wv.heap.size wv wr) (fun _ i _=>n+1 - (intOf i).toNat)
 case atStart=>exact ⟨1,lr_,by omega,rfl,World.ownsRow_nil _ _ _ _,Below.refl _ _⟩
 case round =>
  obtain ⟨m1,hm1,hm2,rfl,hown,hQ⟩:=hrel
  have HO:=hd_ hown
  have hsq:=hQ.size
  have hBw:Below w.heap.size w wr:=HWV.trans (hQ.mono hsv)
  have bV:=HBV.out.ext hQ
  have kV:=bV.cell
  have zV:=bV.lt
  have bA:=HBA.out.ext hQ
  have kA:=bA.cell
  have zA:=bA.lt
  clear hown bV bA
  by_cases hlt:m1≤n
  ·have HN:Hid ((List.range (m1+1 - 1)).map (whoP l kn day pap days)=(List.range (m1 - 1)).map (whoP l kn day pap days) ++ [whoF l kn day days pap m1]):=by
    show _=_
    rw [show m1+1 - 1=m1 - 1+1 from by omega,List.range_succ,List.map_append,List.map_cons,List.map_nil,whoP_F,show ((m1 - 1:Nat):Int)+1=(m1:Int) from by omega]
   go_wp2_with (first | (go_at_call 136;refine (HWI.out _ m1 (hQ.trans ((show Below wr.heap.size wr _ by exact bel_).mono hsq))).mono ?_;rintro e w8 ⟨rfl,hb8⟩;have HB8:Below wr.heap.size wr w8:=bt_ (by exact bel_) hb8;have hs8:=HB8.size;clear hb8 kV zV kA zA) | (at_builtin;refine wpList_append_own _ rfl (.tmp 45) (.tmp 56) 30 rfl wv.heap.size 3 i0 _ 1 8 Tryz.underlying30 hi hz0 hz1 hz2 rfl (by decide) _ _ _ rfl ((own_ex HO.out HB8).alloc (.cells #[.int .i64 (whoF l kn day days pap m1)] 3)) ⟨w8.heap.size,0,none⟩ 1 1 [.int .i64 (whoF l kn day days pap m1)] rfl rfl ?c1 ?c2 ?c3 ?c4 ?c5 ?_;rotate_left 5;intro v' w10 hown2 hgrow2 _))
   case c1=>intro j u hj;match j,hj with
    | 0,hj=>simp at hj;subst hj;simp [Addr.add]
   case c2=>simp [Value.oneCell']
   case c3=>unfold maxLen;omega
   case c4=>omega
   case c5=>simp;omega
   go_roundw
   case rel =>
    refine ⟨m1+1,by omega,by omega,by go_num,?_,OwnS.below ((hQ.trans (HB8.mono hsq)).alloc (by omega) _) ((own_ex HO.out HB8).alloc (.cells #[.int .i64 (whoF l kn day days pap m1)] 3)) (by simp;omega) hgrow2⟩
    rw [HN.out,intL,List.map_append,show m1+1 - 1=m1 - 1+1 from by omega]
    exact hown2
   case measure=>exact ms_
  ·obtain rfl:m1=n+1:=by omega
   have hO:=HO.out
   rw [Nat.add_sub_cancel] at hO
   obtain ⟨A9,c9,rfl,hc9⟩:=own_slice hO
   clear kV zV kA zA
   go_wp2
   go_ret2
   rw [HX.out]
   exact ⟨A9,_,c9,rfl,hBw,Rd.of_own hO,hc9.1,hc9.2⟩
end Go.Proofs.YtoiompoapikkbaaGreat
namespace Go.Proofs.YtoiompoapikkbaaGreat
open Go.RowKit Go.Shelf Go.Maps
attribute [local go_sem] Oper.semAt_some
end Go.Proofs.YtoiompoapikkbaaGreat
namespace Go.Proofs.YtoiompoapikkbaaGreat
open Go.RowKit Go.Maps
end Go.Proofs.YtoiompoapikkbaaGreat
namespace Go.Proofs.YtoiompoapikkbaaGreat
open Go.RowKit Go.Maps Go.Shelf
end Go.Proofs.YtoiompoapikkbaaGreat
namespace Go.Proofs.YtoiompoapikkbaaGreat
open Go.RowKit Go.Maps
end Go.Proofs.YtoiompoapikkbaaGreat
