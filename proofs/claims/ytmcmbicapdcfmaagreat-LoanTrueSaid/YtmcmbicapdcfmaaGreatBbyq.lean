/- Layer 2 of the texts that LoanBack takes: Bbyq. -/
import Derived.Test.YtmcmbicapdcfmaaGreatBbwq
set_option linter.unusedVariables false
set_option linter.unusedSimpArgs false
set_option maxHeartbeats 16000000
namespace Go.Proofs.YtmcmbicapdcfmaaGreat
open Go.RowKit Go.Maps
theorem all_of_none {α:Type} {l:List α} {k:Nat} {x:α} {p:α→Bool} (h:l[k]?=some x) (hp:p x=false):l.all p=false:=List.all_eq_false.2 ⟨x,List.mem_of_getElem? h,by simp [hp]⟩
theorem all_take_succ2 {α:Type} {l:List α} {k:Nat} {x:α} {p:α→Bool} (h:l[k]?=some x):(l.take (k+1)).all p=((l.take k).all p && p x):=by rw [take_snoc_some h,List.all_append];simp
def clrQ (days:List Int) (x y:Rcp):Option Nat→Bool
 | none=>false
 | some k=>!decide (x.day=y.day) && !decide (y.day<days.getD k 0)
theorem clrO_eq (l:Led) (days:List Int) (x y:Rcp) (f:Int):clrO l days x y f=(!decide (f∈y.lv) || clrQ days x y (rtIx (tellK l 900 l.rt.length) l.rt x.src f)):=by
 rw [clrO]
 cases rtIx (tellK l 900 l.rt.length) l.rt x.src f <;> rfl
set_option maxRecDepth 100000 in
theorem r_cleared (l:Led) (v:Lsl) (days:List Int) (D:Option Addr) (c0:Nat) (a b:Nat) (x y:Rcp) (w:World) (hl:LedOk l) (hd:LedIn w w.heap.size v l) (hdy:Is w w.heap.size D v.tn days) (ha:l.rc[a]?=some x) (hb:l.rc[b]?=some y) :
 Calls Tryz.prog 41 #[.agg #[.slice v.pA v.pn v.pc,.slice v.rA v.rn v.rc,.slice v.tA v.tn v.tc,.slice v.sA v.sn v.sc],.slice D v.tn c0,.agg #[.int .i64 a,.int .i64 b]] w fun e w'=>e=.returned (.bool (clrB l days x y))∧Below w.heap.size w w':=by
 obtain ⟨pA,pn,pc,rA,rn,rc,tA,tn,tc,sA,sn,sc⟩:=v
 have HR:Hid (Rcs w w.heap.size rA rn l.rc):=by show Sq _ _ _ _ _ _ _;exact hd.r
 have HTL:Hid (l.rt.length=tn):=by show _=_;exact hd.t.len
 have HDY:Hid (Is w w.heap.size D tn days):=by show Is _ _ _ _ _;exact hdy
 have hrn6:rn≤1000000:=by have h:=HR.out.len;have h2:=hl.rn;omega
 have htn6:tn≤1000000:=by have h:=HTL.out;have h2:=hl.tn;omega
 have hia:a<rn:=by rw [← HR.out.len];exact (List.getElem?_eq_some_iff.1 ha).1
 have hib:b<rn:=by rw [← HR.out.len];exact (List.getElem?_eq_some_iff.1 hb).1
 obtain ⟨bx,ox,x',rfl,hbx,hxx,A1,n1,c1,⟨g0,g1,g2,g3,g4,g5,g6⟩,gi,gc,gm⟩:=HR.out.at_ hia
 obtain rfl:x=x':=Option.some.inj (ha.symm.trans hxx)
 obtain ⟨by_,oy,y',ey,hby,hyy,A2,n2,c2,⟨k0,k1,k2,k3,k4,k5,k6⟩,ki,kc,km⟩:=HR.out.at_ hib
 obtain rfl:y=y':=Option.some.inj (hb.symm.trans hyy)
 obtain ⟨rfl,rfl⟩:bx=by_∧ox=oy:=by simpa using ey
 have hn1:n1≤1000000:=by have h:=gi.len;have h2:=(hl.rc x (List.mem_of_getElem? ha)).1;omega
 have hn2:n2≤9223372036854775807:=by have:maxLen≤9223372036854775807:=(by decide);omega
 have HLK:Hid (∀ W:World,Below w.heap.size w W→Calls Tryz.prog 42 #[.agg #[.slice pA pn pc,.slice (some ⟨bx,ox,none⟩) rn rc,.slice tA tn tc,.slice sA sn sc],.int .i64 900] W fun e w'=>∃ B c,e=.returned (.agg #[.slice pA pn pc,.slice (some ⟨bx,ox,none⟩) rn rc,.slice tA tn tc,.slice sA sn sc,.int .i64 900,.slice (some ⟨B,0,none⟩) tn c,.slice none 0 0])∧Below W.heap.size W w'∧BoxA w' B 4 (boolL (tellK l 900 l.rt.length)).toArray∧W.heap.size≤B):=by
  show ∀ _,_
  exact fun W hW=>r_look l ⟨pA,pn,pc,some ⟨bx,ox,none⟩,rn,rc,tA,tn,tc,sA,sn,sc⟩ 900 W hl (hd.now hW)
 have HRO:Hid (∀ (W:World) (B c:Nat) (f k:Int),Below w.heap.size w W→BoxA W B 4 (boolL (tellK l 900 l.rt.length)).toArray→ixI (rtIx (tellK l 900 l.rt.length) l.rt x.src f)=k→Calls Tryz.prog 103 #[.agg #[.slice pA pn pc,.slice (some ⟨bx,ox,none⟩) rn rc,.slice tA tn tc,.slice sA sn sc,.int .i64 900,.slice (some ⟨B,0,none⟩) tn c,.slice none 0 0],.int .i64 a,.int .i64 f] W fun e w'=>e=.returned (.int .i64 k)∧Below W.heap.size W w'):=by
  show ∀ _,_
  exact fun W B c f k hW hB h2=>r_returnOf_v l ⟨⟨pA,pn,pc,some ⟨bx,ox,none⟩,rn,rc,tA,tn,tc,sA,sn,sc⟩,900,some ⟨B,0,none⟩,tn,c,none,0,0⟩ _ a x f k W hrn6 htn6 rfl (hd.now hW) (hB.sqT (by rw [tellK_len];exact HTL.out) hB.lt) ha h2
 have HA:=hd_ ha
 have HGI:=hd_ gi
 have HKI:=hd_ ki
 clear hd hl hdy ha hb hxx hyy ey gi ki
 have hpd:(x.pap != y.pap)=!decide (x.pap=y.pap):=by rw [Bool.eq_iff_iff];simp
 obtain ⟨xs,hxs⟩:∃ r,x.lv=r:=⟨_,rfl⟩
 obtain ⟨out,hout⟩:∃ o,clrB l days x y=o:=⟨_,rfl⟩
 rw [hout]
 rw [clrB] at hout
 have HGI2:Hid (Is w w.heap.size A1 n1 xs):=by show Is _ _ _ _ _;rw [← hxs];exact HGI.out
 rw [hxs] at hout
 have HO:=hd_ hout
 clear hout
 go_enter Tryz.func41,Tryz.ntmps41
 go_upto_region 2 with fail
 refine wp_named2 fun f0 W0 hf0 hW0=>?_
 have bA0:BoxA W0 (w.heap.size+1) 53 #[.int .i64 a,.int .i64 b]:=by (rw [← hW0];simp only [boxed_iff,boxa_iff,alloc_get,drew_heap,World.size_alloc];(repeat (first | rw [if_pos trivial] | rw [if_pos (by omega)] | rw [if_neg (by omega)])))
 have bX0:BoxA W0 (w.heap.size+1+1) 79 #[.int .i64 x.src,.int .i64 x.bor,.int .i64 x.pap,.slice A1 n1 c1,.int .i64 x.day,.int .i64 x.kn,.int .i64 x.un]:=by (rw [← hW0];simp only [boxed_iff,boxa_iff,alloc_get,drew_heap,World.size_alloc];(repeat (first | rw [if_pos trivial] | rw [if_pos (by omega)] | rw [if_neg (by omega)])))
 have bL0:BoxA W0 w.heap.size 32 #[.slice pA pn pc,.slice (some ⟨bx,ox,none⟩) rn rc,.slice tA tn tc,.slice sA sn sc]:=by (rw [← hW0];simp only [boxed_iff,boxa_iff,alloc_get,drew_heap,World.size_alloc];(repeat (first | rw [if_pos trivial] | rw [if_pos (by omega)] | rw [if_neg (by omega)])))
 have h00:Below w.heap.size w W0:=by rw [← hW0];exact bel_
 have hs0:W0.heap.size=w.heap.size+1+1+1:=by rw [← hW0];simp
 have hbx0:bx<W0.heap.size:=by omega
 have j0:=(h00.cell (p:=⟨bx,ox+b*7,none⟩) hbx).trans k0
 have j1:=(h00.cell (p:=⟨bx,ox+b*7+1,none⟩) hbx).trans k1
 have j2:=(h00.cell (p:=⟨bx,ox+b*7+2,none⟩) hbx).trans k2
 have j3:=(h00.cell (p:=⟨bx,ox+b*7+3,none⟩) hbx).trans k3
 have j4:=(h00.cell (p:=⟨bx,ox+b*7+4,none⟩) hbx).trans k4
 have j5:=(h00.cell (p:=⟨bx,ox+b*7+5,none⟩) hbx).trans k5
 have j6:=(h00.cell (p:=⟨bx,ox+b*7+6,none⟩) hbx).trans k6
 have kA0:=bA0.cell
 have zA0:=bA0.lt
 have kL0:=bL0.cell
 have zL0:=bL0.lt
 clear hW0 g0 g1 g2 g3 g4 g5 g6 k0 k1 k2 k3 k4 k5 k6 hs0
 subst hf0
 go_upto_region 3 with fail
 refine wp_named2 fun f1 W1 hf1 hW1=>?_
 have bY:BoxA W1 W0.heap.size 79 #[.int .i64 y.src,.int .i64 y.bor,.int .i64 y.pap,.slice A2 n2 c2,.int .i64 y.day,.int .i64 y.kn,.int .i64 y.un]:=by rw [← hW1];exact BoxA.new _ _ _
 have h0W:Below W0.heap.size W0 W1:=by rw [← hW1];exact bel_
 have bA:=bA0.ext h0W
 have bX:=bX0.ext h0W
 have bL:=bL0.ext h0W
 have h01:Below w.heap.size w W1:=bt_ h00 h0W
 have hs1:=h01.size
 have kL:=bL.cell
 have zL:=bL.lt
 have kX:=bX.cell
 have zX:=bX.lt
 have kY:=bY.cell
 have zY:=bY.lt
 clear hW1 j0 j1 j2 j3 j4 j5 j6 kA0 zA0 kL0 zL0 bA0 bX0 bL0 h00 h0W hbx0
 subst hf1
 have HBA:=hd_ bA
 have HBX:=hd_ bX
 have HBY:=hd_ bY
 have H01:=hd_ h01
 clear bA bX bY bL h01
 by_cases hp:x.pap=y.pap
 rotate_left
 ·have hq:(x.pap != y.pap)=true:=by simpa using hp
  have HV:Hid (out=true):=by show _=_;rw [← HO.out];simp [hp]
  clear hpd hp
  go_wp2_with fail
  go_ret
  exact ⟨by have h:=HV.out;subst h;rfl,H01.out⟩
 ·have hq:(x.pap != y.pap)=false:=by simpa using hp
  have HO2:Hid (xs.all (clrO l days x y)=out):=by show _=_;rw [← HO.out];simp [hp]
  clear hpd hp HO
  go_upto_region 6 with ((go_at_call 42;refine (HLK.out _ H01.out).mono ?_;rintro e w2 ⟨BT,ct,rfl,hb2,hT2,hBT⟩;have h12:Below W1.heap.size W1 w2:=hb2;have HT2:=hd_ hT2;clear hb2 hT2))
  clear kL zL kX zX kY zY
  refine wp_named2 fun f2 W2 hf2 hW2=>?_
  have bV:BoxA W2 w2.heap.size 89 #[.slice pA pn pc,.slice (some ⟨bx,ox,none⟩) rn rc,.slice tA tn tc,.slice sA sn sc,.int .i64 900,.slice (some ⟨BT,0,none⟩) tn ct,.slice none 0 0]:=by rw [← hW2];exact BoxA.new _ _ _
  have h22:Below w2.heap.size w2 W2:=by rw [← hW2];exact bel_
  have hs2:=h12.size
  have hs22:=h22.size
  have h13:Below W1.heap.size W1 W2:=bt_ h12 h22
  have H02:Hid (Below w.heap.size w W2):=by show Below _ _ _;exact bt_ H01.out h13
  have HBA2:=hd_ (HBA.out.ext h13)
  have HBX2:=hd_ (HBX.out.ext h13)
  have HBY2:=hd_ (HBY.out.ext h13)
  have HT3:=hd_ (HT2.out.ext h22)
  have HBV2:=hd_ bV
  clear hW2 bV h12 h22 h13 HT2 HBA HBX HBY H01
  subst hf2
  have zX2:=HBX2.out.lt
  go_wp2_with fail
  go_loopw [10] (fun i wr=>∃ j:Nat,j≤n1∧i=.int .i64 j∧(xs.take j).all (clrO l days x y)=true∧Below W2.heap.size W2 wr) (fun i _=>n1 - (intOf i).toNat)
  case atStart=>exact ⟨0,by omega,rfl,rfl,Below.refl _ _⟩
  case round =>
   obtain ⟨j,hj,rfl,hall,hB⟩:=hrel
   have HN:=hd_ hall
   have HB:=hd_ hB
   have hs0:=hB.size
   have bX:=HBX2.out.ext hB
   have bY:=HBY2.out.ext hB
   have bA:=HBA2.out.ext hB
   have bV:=HBV2.out.ext hB
   have kX:=bX.cell
   have zX:=bX.lt
   have kY:=bY.cell
   have zY:=bY.lt
   have HBXr:=hd_ bX
   have HBYr:=hd_ bY
   have HBAr:=hd_ bA
   have HBVr:=hd_ bV
   have H0r:Hid (Below w.heap.size w wr):=by show Below _ _ _;exact bt_ H02.out hB
   clear hall hB bX bY bA bV
   by_cases hlt:j<n1
   ·obtain ⟨bl,ol,f,rfl,hbl,hf,hcf⟩:=HGI2.out.at_ hlt
    have cf:=(H0r.out.cell (p:=⟨bl,ol+j,none⟩) hbl).trans hcf
    have hblr:bl<wr.heap.size:=by have:=H0r.out.size;omega
    have HFS:=hd_ (all_take_succ2 (p:=clrO l days x y) hf)
    have HFN:Hid (clrO l days x y f=false→out=false):=by show _→_;intro h;rw [← HO2.out];exact all_of_none hf h
    have HCE:=hd_ (clrO_eq l days x y f)
    clear hf hcf
    cases hm:decide (f∈y.lv) with
    | false =>
      have HM:=hd_ hm
      have HV:Hid ((xs.take (j+1)).all (clrO l days x y)=true):=by show _=_;rw [HFS.out,HN.out,HCE.out,hm];rfl
      clear hm
      go_wp2_with fail
      (refine rg_ ?_;(repeat (go_big_quiet_step ((first | (go_at_call_of 18 (Value.slice A2 n2 c2);exact Calls.grow_all (fun g=>r_Has2_v y.lv f false A2 n2 c2 g.1 hn2 ((HKI.out.now H0r.out).now g.2) HM.out))))));refine qn_ fun w1 hb1 hc1 hf1=>?_)
      go_wp2_with fail
      go_roundw
      case rel=>exact ⟨j+1,by omega,by go_num,HV.out,bt_ HB.out hb1⟩
      case measure=>exact ms_
    | true =>
      have HM:=hd_ hm
      obtain ⟨q,hqq⟩:∃ q,rtIx (tellK l 900 l.rt.length) l.rt x.src f=q:=⟨_,rfl⟩
      have HKQ:Hid (ixI (rtIx (tellK l 900 l.rt.length) l.rt x.src f)=ixI q):=by show _=_;rw [hqq]
      have HCV:Hid (clrO l days x y f=clrQ days x y q):=by show _=_;rw [HCE.out,hm,hqq];rfl
      have HQQ:=hd_ hqq
      clear hm hqq HCE
      go_wp2_with fail
      (refine rg_ ?_;(repeat (go_big_quiet_step ((first | (go_at_call_of 18 (Value.slice A2 n2 c2);exact Calls.grow_all (fun g=>r_Has2_v y.lv f true A2 n2 c2 g.1 hn2 ((HKI.out.now H0r.out).now g.2) HM.out))))));refine qn_ fun w1 hb1 hc1 hf1=>?_)
      obtain ⟨w3,hw3⟩:∃ w3,w3=w1:=⟨_,rfl⟩
      have h13:Below wr.heap.size wr w3:=by rw [hw3];exact hb1
      rw [← hw3]
      clear hb1 hc1 hf1 hw3 kX zX kY zY
      have hs3:=h13.size
      have bX:=HBXr.out.ext h13
      have bY:=HBYr.out.ext h13
      have bA:=HBAr.out.ext h13
      have bV:=HBVr.out.ext h13
      have kX:=bX.cell
      have zX:=bX.lt
      have kY:=bY.cell
      have zY:=bY.lt
      have kA:=bA.cell
      have zA:=bA.lt
      have kV:=bV.cell
      have zV:=bV.lt
      have cf3:=(h13.cell (p:=⟨bl,ol+j,none⟩) hblr).trans cf
      have hbl3:bl<w3.heap.size:=by omega
      have HTr:Hid (BoxA w3 BT 4 (boolL (tellK l 900 l.rt.length)).toArray):=by show BoxA _ _ _ _;exact (HT3.out.ext HB.out).ext h13
      have H03:Hid (Below w.heap.size w w3):=by show Below _ _ _;exact bt_ H0r.out h13
      have HB3:Hid (Below W2.heap.size W2 w3):=by show Below _ _ _;exact bt_ HB.out h13
      clear cf bX bY bA bV
      go_wp2_with fail
      (refine rg_ ?_;(repeat (go_big_quiet_step ((first | (go_at_call_of 103 (Value.agg #[.slice pA pn pc,.slice (some ⟨bx,ox,none⟩) rn rc,.slice tA tn tc,.slice sA sn sc,.int .i64 900,.slice (some ⟨BT,0,none⟩) tn ct,.slice none 0 0]);exact Calls.grow_all (fun g=>HRO.out g.1 BT ct f (ixI q) (bt_ H03.out g.2) (HTr.out.ext g.2) HKQ.out))))));refine qn_ fun w1 hb1 hc1 hf1=>?_)
      obtain ⟨w4,hw4⟩:∃ w4,w4=w1:=⟨_,rfl⟩
      have h34:Below w3.heap.size w3 w4:=by rw [hw4];exact hb1
      rw [← hw4]
      clear hb1 hc1 hf1 hw4 kX zX kY zY kA zA kV zV cf3
      have hs4:=h34.size
      have h14:=bt_ h13 h34
      have bX:=HBXr.out.ext h14
      have bY:=HBYr.out.ext h14
      have kX:=bX.cell
      have zX:=bX.lt
      have kY:=bY.cell
      have zY:=bY.lt
      have H04:Hid (Below w.heap.size w w4):=by show Below _ _ _;exact bt_ H03.out h34
      have HB4:Hid (Below W2.heap.size W2 w4):=by show Below _ _ _;exact bt_ HB3.out h34
      clear bX bY h14
      cases q with
      | none =>
        have hneg:decide ((-1:Int)<0)=true:=by decide
        have HV:Hid (out=false):=by show _=_;exact HFN.out (by rw [HCV.out];rfl)
        simp only [ixI]
        go_wp2_with fail
        (refine rg_ ?_;(repeat (go_big_quiet_step (fail)));refine qn_ fun w1 hb1 hc1 hf1=>?_)
        go_wp2_with fail
        go_ret
        exact ⟨by have h:=HV.out;subst h;rfl,bt_ H04.out hb1⟩
      | some k =>
        obtain ⟨-,t,ht,-,-⟩:=rt_some HQQ.out
        have hk:k<tn:=by rw [← HTL.out];exact (List.getElem?_eq_some_iff.1 ht).1
        have hpos:decide ((k:Int)<0)=false:=by simp
        have hmx:max (k:Int) 0=(k:Int):=by omega
        obtain ⟨bd,od,dy,rfl,hbd,hy,hcy⟩:=HDY.out.at_ hk
        have hgd:days.getD k 0=dy:=by rw [List.getD_eq_getElem?_getD,hy];rfl
        have e0:=(H04.out.cell (p:=⟨bd,od+k,none⟩) hbd).trans hcy
        have hbd4:bd<w4.heap.size:=by have:=H04.out.size;omega
        simp only [ixI]
        by_cases hde:x.day=y.day
        ·have hded:(x.day == y.day)=true:=by simpa using hde
         have HV:Hid (out=false):=by show _=_;exact HFN.out (by rw [HCV.out,clrQ,hde];simp)
         clear hde hgd hy ht hcy
         go_wp2_with fail
         (refine rg_ ?_;(repeat (go_big_quiet_step (fail)));refine qn_ fun w1 hb1 hc1 hf1=>?_)
         go_wp2_with fail
         go_ret
         exact ⟨by have h:=HV.out;subst h;rfl,bt_ H04.out hb1⟩
        ·have hded:(x.day == y.day)=false:=by simpa using hde
         cases hdg:decide (dy>y.day) with
         | true =>
           have HV:Hid (out=false):=by show _=_;exact HFN.out (by rw [HCV.out,clrQ,hgd];simp only [gt_iff_lt] at hdg;simp [hdg])
           clear hde hgd hy ht hcy
           go_wp2_with fail
           (refine rg_ ?_;(repeat (go_big_quiet_step (fail)));refine qn_ fun w1 hb1 hc1 hf1=>?_)
           go_wp2_with fail
           go_ret
           exact ⟨by have h:=HV.out;subst h;rfl,bt_ H04.out hb1⟩
         | false =>
           have HV:Hid ((xs.take (j+1)).all (clrO l days x y)=true):=by show _=_;rw [HFS.out,HN.out,HCV.out,clrQ,hgd];simp only [gt_iff_lt] at hdg;simp [hdg,hde]
           clear hde hgd hy ht hcy
           go_wp2_with fail
           (refine rg_ ?_;(repeat (go_big_quiet_step (fail)));refine qn_ fun w1 hb1 hc1 hf1=>?_)
           go_wp2_with fail
           go_roundw
           case rel=>exact ⟨j+1,by omega,by go_num,HV.out,bt_ HB4.out hb1⟩
           case measure=>exact ms_
   ·obtain rfl:n1=j:=by omega
    have HV:Hid (out=true):=by
     show _=_
     rw [← HO2.out]
     have h:=HN.out
     rwa [List.take_of_length_le (by rw [HGI2.out.len];exact lr_)] at h
    go_wp2_with fail
    go_ret
    exact ⟨by have h:=HV.out;subst h;rfl,H0r.out⟩
theorem r_cleared_v (l:Led) (v:Lsl) (days:List Int) (D:Option Addr) (c0:Nat) (a b:Nat) (x y:Rcp) (q:Bool) (w:World) (hl:LedOk l) (hd:LedIn w w.heap.size v l) (hdy:Is w w.heap.size D v.tn days) (ha:l.rc[a]?=some x) (hb:l.rc[b]?=some y) (hq:clrB l days x y=q) :
 Calls Tryz.prog 41 #[.agg #[.slice v.pA v.pn v.pc,.slice v.rA v.rn v.rc,.slice v.tA v.tn v.tc,.slice v.sA v.sn v.sc],.slice D v.tn c0,.agg #[.int .i64 a,.int .i64 b]] w fun e w'=>e=.returned (.bool q)∧Below w.heap.size w w':=hq ▸ r_cleared l v days D c0 a b x y w hl hd hdy ha hb
end Go.Proofs.YtmcmbicapdcfmaaGreat
