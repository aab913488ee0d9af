/- Layer 2 of the texts that LoanWheres takes: Ubuq. -/
import Derived.Test.YtoiompoapikkbaaGreatUbtq
set_option linter.unusedVariables false
set_option linter.unusedSimpArgs false
/- Layer 2, the reference: folios, Sure, May. -/
namespace Go.Proofs.YtoiompoapikkbaaGreat
open Go.RowKit Go.Maps
set_option maxRecDepth 10000 in
set_option maxHeartbeats 8000000 in
theorem r_folios (l:Led) (x:Lsl) (w:World) (hp:x.pn≤12) (hl30:∀ r∈l.pp,0≤r.lv∧r.lv≤30) (hd:LedIn w w.heap.size x l) :
 Calls Tryz.prog 144 #[.agg #[.slice x.pA x.pn x.pc,.slice x.rA x.rn x.rc,.slice x.tA x.tn x.tc,.slice x.sA x.sn x.sc]] w (RetF (folL l.pp) w):=by
 obtain ⟨pA,pn,pc,rA,rn,rc,tA,tn,tc,sA,sn,sc⟩:=x
 obtain ⟨i0,hi,hz0,hz1,hz2⟩:=info_parts infoFol
 have hpn:pn≤12:=hp
 have hl1:l.pp.length=pn:=hd.p.len
 have HP:Hid (Pps w w.heap.size pA pn l.pp):=by show Sq _ _ _ _ _ _ _;exact hd.p
 have HL1:=Lib.hid hl1
 have H30:=Lib.hid hl30
 clear hl1 hd hl30 hp
 show Calls _ _ #[.agg #[.slice pA pn pc,.slice rA rn rc,.slice tA tn tc,.slice sA sn sc]] _ _
 obtain ⟨W0,hW0⟩:∃ W0,w.alloc (.cells (#[.slice pA pn pc,.slice rA rn rc,.slice tA tn tc,.slice sA sn sc]:Array Value) 27)=W0:=⟨_,rfl⟩
 have HBX:Hid (BoxA W0 w.heap.size 27 #[.slice pA pn pc,.slice rA rn rc,.slice tA tn tc,.slice sA sn sc]):=by show BoxA _ _ _ _;rw [← hW0];exact BoxA.new _ _ _
 have HW0:Hid (Below w.heap.size w W0):=by show Below _ _ _;rw [← hW0];exact bel_
 have hsW:W0.heap.size=w.heap.size+1:=by rw [← hW0];simp
 have hsW1:w.heap.size+1≤W0.heap.size:=by omega
 have hsW2:W0.heap.size≤w.heap.size+1:=by omega
 clear hsW
 go_enter Tryz.func144,Tryz.ntmps144
 go_wp2
 (try rw [hW0])
 clear hW0
 go_loopw [3,4] (fun v i wr=>∃ k:Nat,k≤pn∧i=.int .i64 k∧wr.ownsRow (w.heap.size+1) 60 2 v ((l.pp.take k).flatMap ppFol).length (folCells ((l.pp.take k).flatMap ppFol))∧Below (w.heap.size+1) W0 wr) (fun _ i _=>pn - (intOf i).toNat)
 case atStart=>exact ⟨0,by omega,rfl,World.ownsRow_nil _ _ _ _,Below.refl _ _⟩
 case round =>
  obtain ⟨k,hk,rfl,hown,hB⟩:=hrel
  have hs0:w.heap.size+1≤wr.heap.size:=Nat.le_trans hsW1 hB.size
  have bL:BoxA wr w.heap.size 27 (#[.slice pA pn pc,.slice rA rn rc,.slice tA tn tc,.slice sA sn sc]:Array Value):=(hB.block w.heap.size (Nat.lt_succ_self _)).trans HBX.out
  have hBw:Below w.heap.size w wr:=HW0.out.trans (hB.mono (Nat.le_succ _))
  by_cases hlt:k<pn
  ·obtain ⟨b,o,e,rfl,hb,he,a0,a1⟩:=HP.out.at_ hlt
   have hlv:=H30.out e (List.mem_of_getElem? he)
   obtain ⟨n1,hn1⟩:∃ n:Nat,e.lv=(n:Int):=⟨e.lv.toNat,by omega⟩
   have hn30:n1≤30:=by omega
   have hfl:=pfol_len (fun r hr=>(H30.out r hr).2) k
   have HE:Hid ((l.pp.take (k+1)).flatMap ppFol=(l.pp.take k).flatMap ppFol ++ (List.range n1).map fun i:Nat=>(e.id,(i:Int)+1)):=by show _=_;rw [take_pfol he,ppFol,hn1];simp
   obtain ⟨L0,hL0⟩:∃ L0,(l.pp.take k).flatMap ppFol=L0:=⟨_,rfl⟩
   rw [hL0] at hown hfl HE
   rw [hn1] at a1
   obtain ⟨eid,heid⟩:∃ d,e.id=d:=⟨_,rfl⟩
   rw [heid] at a0 HE
   obtain ⟨wo,hwo⟩:∃ wo,wo=wr:=⟨_,rfl⟩
   subst hwo
   have HB:=Lib.hid hB
   have HBL:=Lib.hid bL
   have HBW:=Lib.hid hBw
   have HO:=Lib.hid hown
   have HA0:=Lib.hid a0
   have HA1:=Lib.hid a1
   have kL:=bL.cell
   have zL:=bL.lt
   clear he hB hL0 hown hlv hn1 heid bL hBw a0 a1
   go_wp2
   clear kL zL
   go_loopw [3,5] (fun v i wq=>∃ m:Nat,1≤m∧m≤n1+1∧i=.int .i64 m∧wq.ownsRow (w.heap.size+1) 60 2 v (L0.length+(m - 1)) (folCells (L0 ++ (List.range (m - 1)).map fun i:Nat=>(eid,(i:Int)+1)))∧Below (w.heap.size+1) wo wq) (fun _ i _=>n1+1 - (intOf i).toNat)
   case atStart=>exact ⟨1,by omega,by omega,rfl,by simpa using HO.out,Below.refl _ _⟩
   case round =>
    obtain ⟨m,hm1,hm,rfl,hown,hQ⟩:=hrel
    have hBQ:Below (w.heap.size+1) W0 wr:=HB.out.trans hQ
    have hsr:w.heap.size+1≤wr.heap.size:=Nat.le_trans hs0 hQ.size
    have bL:BoxA wr w.heap.size 27 (#[.slice (some ⟨b,o,none⟩) pn pc,.slice rA rn rc,.slice tA tn tc,.slice sA sn sc]:Array Value):=(hQ.block w.heap.size (Nat.lt_succ_self _)).trans HBL.out
    have kL:=bL.cell
    have zL:=bL.lt
    have hBr:Below w.heap.size w wr:=HBW.out.trans (hQ.mono (Nat.le_succ _))
    have x0:=(hBr.cell (p:=⟨b,o+k*2,none⟩) hb).trans HA0.out
    have x1:=(hBr.cell (p:=⟨b,o+k*2+1,none⟩) hb).trans HA1.out
    have hbr:b<wr.heap.size:=by omega
    have HQ:=Lib.hid hQ
    clear bL hBr hQ
    by_cases hjn:m≤n1
    ·have HOI:=Lib.hid hown
     go_wp2_with (at_builtin;refine wpList_append_own _ rfl (.tmp 23) (.tmp 32) 71 rfl (w.heap.size+1) 60 i0 _ 2 16 Tryz.underlying71 hi hz0 hz1 hz2 rfl (by decide) _ _ _ rfl (hown.alloc _) ⟨wr.heap.size,0,none⟩ 1 1 [.int .i64 eid,.int .i64 m] rfl rfl ?c1 ?c2 ?c3 ?c4 ?c5 ?_;rotate_left 5;intro v' w2 hown2 hgrow2 _)
     case c1=>intro j u hj;match j,hj with
      | 0,hj=>simp at hj;subst hj;simp [Addr.add]
      | 1,hj=>simp at hj;subst hj;simp [Addr.add]
     case c2=>simp [Value.oneCell']
     case c3=>unfold maxLen;omega
     case c4=>omega
     case c5=>simp;omega
     go_roundw
     case rel =>
      refine ⟨m+1,by omega,by omega,by go_num,?_,OwnS.below (by have:=HQ.out;exact bel_) HOI.out (by simp;omega) hgrow2⟩
      have hme:((m - 1:Nat):Int)+1=(m:Int):=by omega
      have e1:folCells (L0 ++ (List.range (m+1 - 1)).map fun i:Nat=>(eid,(i:Int)+1))=folCells (L0 ++ (List.range (m - 1)).map fun i:Nat=>(eid,(i:Int)+1)) ++ [.int .i64 eid,.int .i64 m]:=by rw [show m+1 - 1=m - 1+1 from by omega,List.range_succ];simp [folCells,hme]
      rw [e1,show L0.length+(m+1 - 1)=L0.length+(m - 1)+1 from by omega]
      exact hown2
     case measure=>exact ms_
    ·have hjk:Hid (m=n1+1):=by show _=_;omega
     have HOI:=Lib.hid hown
     have HBQ:=Lib.hid hBQ
     clear hown hBQ
     go_wp2
     go_roundw
     case rel =>
      refine ⟨k+1,by omega,by go_num,?_,HBQ.out⟩
      rw [HE.out]
      have h:=HOI.out
      rw [hjk.out,Nat.add_sub_cancel] at h
      rw [List.length_append,List.length_map,List.length_range]
      exact h
     case measure=>exact ms_
  ·have hkn:Hid (k=pn):=by show _=_;omega
   have HO:=Lib.hid hown
   have HBW:=Lib.hid hBw
   have kL:=bL.cell
   have zL:=bL.lt
   clear hown hB bL hBw
   go_wp2
   go_ret
   refine ⟨_,rfl,HBW.out,?_⟩
   have h:=HO.out
   rw [hkn.out,List.take_of_length_le (by rw [HL1.out];exact Nat.le_refl _)] at h
   exact own_dn h (Nat.le_succ _)
theorem only_of {wl:List Int} {p:Int}:decide (wl=[p])=(decide (p∈wl) && ((wl.length:Int) == 1)):=by
 match wl with
 | []=>simp
 | [x]=>rw [Bool.eq_iff_iff];simp;exact eq_comm
 | x :: y :: t =>
   have h:¬ ((t.length:Int)+1+1=1):=by omega
   simp [h]
theorem r_In2_v (n lo hi:Int) (q:Bool) (w:World) (h:withinB n lo hi=q):Calls Tryz.prog 73 #[.int .i64 n,.int .i64 lo,.int .i64 hi] w fun e w'=>e=.returned (.bool q)∧w=w':=h ▸ r_In2 n lo hi w
theorem r_Check_v (l:Led) (x:Lsl) (v:Int) (w:World) (hp:x.pn≤9223372036854775807) (hr:x.rn≤9223372036854775807) (ht:x.tn≤9223372036854775807) (hs:x.sn≤9223372036854775807) (hd:LedIn w w.heap.size x l) (h:errI (ledB l) 24=v) :
 Calls Tryz.prog 19 #[.agg #[.slice x.pA x.pn x.pc,.slice x.rA x.rn x.rc,.slice x.tA x.tn x.tc,.slice x.sA x.sn x.sc]] w fun e w'=>e=.returned (.int .i64 v)∧Below w.heap.size w w':=h ▸ r_Check l x w hp hr ht hs hd
set_option maxRecDepth 10000 in
set_option maxHeartbeats 8000000 in
theorem r_heldT (l:Led) (x:Lsl) (day kn pap leaf per src:Int) (w:World) (hf:x.fit) (hd:LedIn w w.heap.size x l) :
 Calls Tryz.prog 132 #[.agg #[.slice x.pA x.pn x.pc,.slice x.rA x.rn x.rc,.slice x.tA x.tn x.tc,.slice x.sA x.sn x.sc],.agg #[.int .i64 day,.int .i64 kn,.int .i64 pap,.int .i64 leaf,.int .i64 per,.int .i64 src],.bool true] w (RetFE (leavesX (fun f=>decide (whL l kn day f=[per])) l per day kn) w):=by
 obtain ⟨pA,pn,pc,rA,rn,rc,tA,tn,tc,sA,sn,sc⟩:=x
 have hml:maxLen≤9223372036854775807:=by decide
 have hpn:pn≤9223372036854775807:=by have:=hf.p;dsimp only at this;omega
 have hrn:rn≤9223372036854775807:=by have:=hf.r;dsimp only at this;omega
 have htn:tn≤9223372036854775807:=by have:=hf.t;dsimp only at this;omega
 have hsn:sn≤9223372036854775807:=by have:=hf.s;dsimp only at this;omega
 have HD:=Lib.hid hd
 have HF:=Lib.hid hf
 clear hd hf hml
 have B2:=box2 w 27 62 (#[.slice pA pn pc,.slice rA rn rc,.slice tA tn tc,.slice sA sn sc]:Array Value) #[.int .i64 day,.int .i64 kn,.int .i64 pap,.int .i64 leaf,.int .i64 per,.int .i64 src]
 have BL0:=Lib.hid B2.1
 have BA0:=Lib.hid B2.2
 clear B2
 obtain ⟨p,hp⟩:∃ p:Int × Int→Bool,(fun f=>decide (whL l kn day f=[per]))=p:=⟨_,rfl⟩
 have HP:Hid (∀ f,decide (whL l kn day f=[per])=p f):=by show ∀ _,_;intro f;rw [← hp]
 rw [hp]
 clear hp
 cases hlb:ledB l with
 | false =>
   have hv:preP l per day kn=24:=by simp [preP,hlb,orL,errI]
   have hres:leavesX p l per day kn=([],24):=by rw [leavesX,if_neg (by rw [hv];decide),hv]
   rw [hres]
   have HCK:Hid (errI (ledB l) 24=24):=by show _=_;rw [hlb];rfl
   clear hres hv hlb
   go_enter Tryz.func132,Tryz.ntmps132
   go_wp2_with (go_at_call 19;refine (r_Check_v l ⟨pA,pn,pc,rA,rn,rc,tA,tn,tc,sA,sn,sc⟩ 24 _ hpn hrn htn hsn (HD.out.now (by exact bel_)) HCK.out).mono ?_;rintro e w1 ⟨rfl,hb1⟩;have HB1:Below w.heap.size w w1:=Below.then_ (by exact bel_) hb1;have hs1:=HB1.size;have bL1:=BL0.out.ext hb1;have kL1:=bL1.cell;have zL1:=bL1.lt;have bA1:=BA0.out.ext hb1;have kA1:=bA1.cell;have zA1:=bA1.lt;clear hb1)
   go_ret2
   exact RetFE.err (by exact bel_)
 | true =>
   have HLB:=Lib.hid hlb
   have HLO:=Lib.hid (led_ok hlb)
   have HCK:Hid (errI (ledB l) 24=0):=by show _=_;rw [hlb];rfl
   cases hpe:withinB per 0 99 with
   | false =>
     have hv:preP l per day kn=1:=by simp [preP,hlb,hpe,orL,errI]
     have hres:leavesX p l per day kn=([],1):=by rw [leavesX,if_neg (by rw [hv];decide),hv]
     rw [hres]
     have HPE:=Lib.hid hpe
     clear hres hv hlb hpe
     go_enter Tryz.func132,Tryz.ntmps132
     go_wp2_with (first | (go_at_call 19;refine (r_Check_v l ⟨pA,pn,pc,rA,rn,rc,tA,tn,tc,sA,sn,sc⟩ 0 _ hpn hrn htn hsn (HD.out.now (by exact bel_)) HCK.out).mono ?_;rintro e w1 ⟨rfl,hb1⟩;have HB1:Below w.heap.size w w1:=Below.then_ (by exact bel_) hb1;have hs1:=HB1.size;have bL1:=BL0.out.ext hb1;have kL1:=bL1.cell;have zL1:=bL1.lt;have bA1:=BA0.out.ext hb1;have kA1:=bA1.cell;have zA1:=bA1.lt;clear hb1) | (go_at_call 73;refine (r_In2_v per 0 99 false _ HPE.out).mono ?_;rintro e w1 ⟨rfl,rfl⟩))
     go_ret2
     exact RetFE.err (by exact bel_)
   | true =>
     have HPE:=Lib.hid hpe
     obtain ⟨v,hv⟩:∃ v,preE l [day,kn]=v:=⟨_,rfl⟩
     have HV:=Lib.hid hv
     have hpp:preP l per day kn=v:=by rw [← hv];simp [preP,preE,hlb,hpe,orL,errI]
     by_cases hv0:v=0
     rotate_left
     ·have hres:leavesX p l per day kn=([],v):=by rw [leavesX,if_neg (by rw [hpp];exact hv0),hpp]
      rw [hres]
      have hv1:(v != 0)=true:=by simpa using hv0
      clear hres hv hv0 hlb hpe hpp
      go_enter Tryz.func132,Tryz.ntmps132
      go_wp2_with (first | (go_at_call 19;refine (r_Check_v l ⟨pA,pn,pc,rA,rn,rc,tA,tn,tc,sA,sn,sc⟩ 0 _ hpn hrn htn hsn (HD.out.now (by exact bel_)) HCK.out).mono ?_;rintro e w1 ⟨rfl,hb1⟩;have HB1:Below w.heap.size w w1:=Below.then_ (by exact bel_) hb1;have hs1:=HB1.size;have bL1:=BL0.out.ext hb1;have kL1:=bL1.cell;have zL1:=bL1.lt;have bA1:=BA0.out.ext hb1;have kA1:=bA1.cell;have zA1:=bA1.lt;clear hb1) | (go_at_call 73;refine (r_In2_v per 0 99 true _ HPE.out).mono ?_;rintro e w1 ⟨rfl,rfl⟩) | (go_at_call 102;refine (r_asked_v l ⟨pA,pn,pc,rA,rn,rc,tA,tn,tc,sA,sn,sc⟩ [day,kn] v _ 2 2 _ HF.out (HD.out.now (by exact bel_)) (by decide) (Rd.new _ #[.int .i64 day,.int .i64 kn] _ 1 2 _ (by simp) rfl) HV.out).mono ?_;rintro e w2 ⟨rfl,hb2⟩;have HB2:Below w.heap.size w w2:=Below.then_ (by exact bel_) hb2;have hs2:=HB2.size;have bL2:=(bL1.alloc _).ext hb2;have kL2:=bL2.cell;have zL2:=bL2.lt;have bA2:=(bA1.alloc _).ext hb2;have kA2:=bA2.cell;have zA2:=bA2.lt;clear hb2 kL1 zL1 kA1 zA1))
      go_ret2
      exact RetFE.err (by exact bel_)
     subst hv0
     obtain ⟨se,hse⟩:∃ se,setE l kn=se:=⟨_,rfl⟩
     have HSE:=Lib.hid hse
     by_cases hs0:se=0
     rotate_left
     ·have hres:leavesX p l per day kn=([],se):=by rw [leavesX,if_pos hpp,if_neg (by rw [hse];exact hs0),hse]
      rw [hres]
      have hs1:(se != 0)=true:=by simpa using hs0
      clear hres hv hs0 hlb hpe hpp hse
      go_enter Tryz.func132,Tryz.ntmps132
      go_wp2_with (first | (go_at_call 19;refine (r_Check_v l ⟨pA,pn,pc,rA,rn,rc,tA,tn,tc,sA,sn,sc⟩ 0 _ hpn hrn htn hsn (HD.out.now (by exact bel_)) HCK.out).mono ?_;rintro e w1 ⟨rfl,hb1⟩;have HB1:Below w.heap.size w w1:=Below.then_ (by exact bel_) hb1;have hs1:=HB1.size;have bL1:=BL0.out.ext hb1;have kL1:=bL1.cell;have zL1:=bL1.lt;have bA1:=BA0.out.ext hb1;have kA1:=bA1.cell;have zA1:=bA1.lt;clear hb1) | (go_at_call 73;refine (r_In2_v per 0 99 true _ HPE.out).mono ?_;rintro e w1 ⟨rfl,rfl⟩) | (go_at_call 102;refine (r_asked_v l ⟨pA,pn,pc,rA,rn,rc,tA,tn,tc,sA,sn,sc⟩ [day,kn] 0 _ 2 2 _ HF.out (HD.out.now (by exact bel_)) (by decide) (Rd.new _ #[.int .i64 day,.int .i64 kn] _ 1 2 _ (by simp) rfl) HV.out).mono ?_;rintro e w2 ⟨rfl,hb2⟩;have HB2:Below w.heap.size w w2:=Below.then_ (by exact bel_) hb2;have hs2:=HB2.size;have bL2:=(bL1.alloc _).ext hb2;have kL2:=bL2.cell;have zL2:=bL2.lt;have bA2:=(bA1.alloc _).ext hb2;have kA2:=bA2.cell;have zA2:=bA2.lt;clear hb2 kL1 zL1 kA1 zA1) | (go_at_call 113;refine (r_soundE l ⟨pA,pn,pc,rA,rn,rc,tA,tn,tc,sA,sn,sc⟩ kn se _ HLB.out (HD.out.now (by exact bel_)) HSE.out).mono ?_;rintro e w3 ⟨B,Tc,AD,nD,cD,rfl,hb3⟩;have HB3:Below w.heap.size w w3:=Below.then_ (by exact bel_) hb3;have hs3:=HB3.size))
      go_ret2
      exact RetFE.err (by exact bel_)
     subst hs0
     have hres:leavesX p l per day kn=((folL l.pp).filter p,0):=by rw [leavesX,if_pos hpp,if_pos hse]
     rw [hres]
     have hpn12:pn≤12:=by have h1:=HLO.out.pn;have h2:l.pp.length=pn:=HD.out.p.len;omega
     obtain ⟨i0,hi,hz0,hz1,hz2⟩:=info_parts infoFol
     have hfl:=folL_len HLO.out
     clear hres hv hlb hpe hpp hse
     go_enter Tryz.func132,Tryz.ntmps132
     go_wp2_with (first | (go_at_call 19;refine (r_Check_v l ⟨pA,pn,pc,rA,rn,rc,tA,tn,tc,sA,sn,sc⟩ 0 _ hpn hrn htn hsn (HD.out.now (by exact bel_)) HCK.out).mono ?_;rintro e w1 ⟨rfl,hb1⟩;have HB1:Below w.heap.size w w1:=Below.then_ (by exact bel_) hb1;have hs1:=HB1.size;have bL1:=BL0.out.ext hb1;have kL1:=bL1.cell;have zL1:=bL1.lt;have bA1:=BA0.out.ext hb1;have kA1:=bA1.cell;have zA1:=bA1.lt;clear hb1) | (go_at_call 73;refine (r_In2_v per 0 99 true _ HPE.out).mono ?_;rintro e w1 ⟨rfl,rfl⟩) | (go_at_call 102;refine (r_asked_v l ⟨pA,pn,pc,rA,rn,rc,tA,tn,tc,sA,sn,sc⟩ [day,kn] 0 _ 2 2 _ HF.out (HD.out.now (by exact bel_)) (by decide) (Rd.new _ #[.int .i64 day,.int .i64 kn] _ 1 2 _ (by simp) rfl) HV.out).mono ?_;rintro e w2 ⟨rfl,hb2⟩;have HB2:Below w.heap.size w w2:=Below.then_ (by exact bel_) hb2;have hs2:=HB2.size;have bL2:=(bL1.alloc _).ext hb2;have kL2:=bL2.cell;have zL2:=bL2.lt;have bA2:=(bA1.alloc _).ext hb2;have kA2:=bA2.cell;have zA2:=bA2.lt;clear hb2 kL1 zL1 kA1 zA1) | (go_at_call 113;refine (r_soundZ l ⟨pA,pn,pc,rA,rn,rc,tA,tn,tc,sA,sn,sc⟩ kn _ HLB.out (HD.out.now (by exact bel_)) HSE.out).mono ?_;rintro e w3 ⟨B,Tc,A5,c5,rfl,hb3,hT3,hD3⟩;have HB3:Below w.heap.size w w3:=Below.then_ (by exact bel_) hb3;have hs3:=HB3.size;have bL3:=(bL2.ext hb3).alloc (.cells #[.slice pA pn pc,.slice rA rn rc,.slice tA tn tc,.slice sA sn sc,.int .i64 kn,.slice (some ⟨B,0,none⟩) tn Tc,.slice A5 tn c5] 127);have kL3:=bL3.cell;have zL3:=bL3.lt;have bA3:=(bA2.ext hb3).alloc (.cells #[.slice pA pn pc,.slice rA rn rc,.slice tA tn tc,.slice sA sn sc,.int .i64 kn,.slice (some ⟨B,0,none⟩) tn Tc,.slice A5 tn c5] 127);have kA3:=bA3.cell;have zA3:=bA3.lt;have bV3:=BoxA.new w3 127 #[.slice pA pn pc,.slice rA rn rc,.slice tA tn tc,.slice sA sn sc,.int .i64 kn,.slice (some ⟨B,0,none⟩) tn Tc,.slice A5 tn c5];have HT3:=Lib.hid hT3;have HD3:=Lib.hid hD3;clear hb3 kL2 zL2 kA2 zA2 hT3 hD3) | (go_at_call 144;refine (r_folios l ⟨pA,pn,pc,rA,rn,rc,tA,tn,tc,sA,sn,sc⟩ _ hpn12 (fun r hr=>HLO.out.pp r hr) (HD.out.now (by exact bel_))).mono ?_;rintro e w5 ⟨v5,rfl,hb5,ho5⟩;obtain ⟨AF,cF,rfl,hcF⟩:=own_slice ho5;have HB35:Below w3.heap.size w3 w5:=Below.then_ (by exact bel_) hb5;have HB5:Below w.heap.size w w5:=Below.then_ HB3 HB35;have hs5:=HB5.size;have bV5:=bV3.ext hb5;have bA5:=bA3.ext hb5;have HSF:Hid (Sq QF 2 w5 w5.heap.size AF (folL l.pp).length (folL l.pp)):=(by show Sq _ _ _ _ _ _ _;exact sq_of_own ho5 rfl);clear hb5 ho5 kL3 zL3 kA3 zA3))
     have HWH:Hid (∀ (W:World) (f:Int × Int),Below w5.heap.size w5 W→Calls Tryz.prog 123 #[.agg #[.slice pA pn pc,.slice rA rn rc,.slice tA tn tc,.slice sA sn sc,.int .i64 kn,.slice (some ⟨B,0,none⟩) tn Tc,.slice A5 tn c5],.agg #[.int .i64 f.1,.int .i64 f.2],.int .i64 day] W (RetLI (whL l kn day f) W)):=by
      show ∀ _,_
      exact fun W f hW=>r_whereV l ⟨⟨pA,pn,pc,rA,rn,rc,tA,tn,tc,sA,sn,sc⟩,kn,some ⟨B,0,none⟩,tn,Tc,A5,tn,c5⟩ f.1 f.2 day W HLO.out rfl rfl (HD.out.now (HB5.trans (hW.mono hs5))) (HT3.out.now abB (HB35.trans (hW.mono HB35.size))) (HD3.out.now abF (HB35.trans (hW.mono HB35.size)))
     obtain ⟨fs,hfs⟩:∃ fs,folL l.pp=fs:=⟨_,rfl⟩
     rw [hfs] at HSF hfl
     rw [hfs]
     have HFS:=Lib.hid hfs
     have HBV:=Lib.hid bV5
     have HBA:=Lib.hid bA5
     clear hfs bV5 bA5 HT3 HD3 bV3 bA3 bL3
     obtain ⟨wv,rfl⟩:∃ wv,wv=w5:=⟨_,rfl⟩
     go_loopw [12,13] (fun v i wr=>∃ k:Nat,k≤fs.length∧i=.int .i64 k∧wr.ownsRow wv.heap.size 60 2 v ((fs.take k).filter p).length (folCells ((fs.take k).filter p))∧Below wv.heap.size wv wr) (fun _ i _=>fs.length - (intOf i).toNat)
     case atStart=>exact ⟨0,by omega,rfl,World.ownsRow_nil _ _ _ _,Below.refl _ _⟩
     case round =>
      obtain ⟨k,hk,rfl,hown,hB⟩:=hrel
      have hsB:=hB.size
      have bV:=HBV.out.ext hB
      have kV:=bV.cell
      have zV:=bV.lt
      have bA:=HBA.out.ext hB
      have kA:=bA.cell
      have zA:=bA.lt
      obtain ⟨xl,hxl⟩:∃ xl,(fs.take k).filter p=xl:=⟨_,rfl⟩
      have hxn:xl.length≤360:=by
       have h1:=List.length_filter_le p (fs.take k)
       rw [hxl,List.length_take] at h1
       omega
      rw [hxl] at hown
      have HO:=Lib.hid hown
      have HXL:=Lib.hid hxl
      clear hown hxl
      by_cases hlt:k<fs.length
      ·obtain ⟨b,o,f,hAF,hbr,hf,q0,q1⟩:=(HSF.out.now abF hB).at_ hlt
       have HF1:=Lib.hid (filt_succ (p:=p) hf)
       rw [hAF]
       have HD0:=Lib.hid q0
       have HD1:=Lib.hid q1
       have HBA2:=Lib.hid bA
       clear hf hAF bA bV
       go_wp2_with fail
       (refine wp_region_bheld 9 (by kernel_rfl) rfl (fun hS=>?_);simp only [List.reduceReplicate,Array.replicate_succ,Array.replicate_zero])
       (refine tk_ (i:=0) (v:=?_) rfl ?_ hS ?_ (fun _ _ _ h=>h);rotate_left;focus (intro w2 hw2;(try dsimp only at hw2);obtain ⟨hc2,hf2⟩:=bcell hw2;go_simp;first | done | with_reducible rfl);(try simp only [Act.put,pu1,pu2,pu3]))
       (refine tk_ (i:=1) (v:=?_) rfl ?_ hS ?_ (fun _ _ _ h=>h);rotate_left;focus (intro w2 hw2;(try dsimp only at hw2);obtain ⟨hc2,hf2⟩:=bcell hw2;go_simp;first | done | with_reducible rfl);(try simp only [Act.put,pu1,pu2,pu3]))
       (refine tk_ (i:=2) (v:=?_) rfl ?_ hS ?_ (fun _ _ _ h=>h);rotate_left;focus (intro w2 hw2;(try dsimp only at hw2);obtain ⟨hc2,hf2⟩:=bcell hw2;go_simp;first | done | with_reducible rfl);(try simp only [Act.put,pu1,pu2,pu3]))
       (refine tk_ (i:=3) (v:=?_) rfl ?_ hS ?_ (fun _ _ _ h=>h);rotate_left;focus (intro w2 hw2;(try dsimp only at hw2);obtain ⟨hc2,hf2⟩:=bcell hw2;go_simp;first | done | with_reducible rfl);(try simp only [Act.put,pu1,pu2,pu3]))
       (refine tk_ (i:=4) (v:=?_) rfl ?_ hS ?_ (fun _ _ _ h=>h);rotate_left;focus (intro w2 hw2;(try dsimp only at hw2);obtain ⟨hc2,hf2⟩:=bcell hw2;go_simp;first | done | with_reducible rfl);(try simp only [Act.put,pu1,pu2,pu3]))
       (refine tk_ (i:=5) (v:=?_) rfl ?_ hS ?_ (fun _ _ _ h=>h);rotate_left;focus (intro w2 hw2;(try dsimp only at hw2);obtain ⟨hc2,hf2⟩:=bcell hw2;go_simp;first | done | with_reducible rfl);(try simp only [Act.put,pu1,pu2,pu3]))
       (refine tk_ (i:=6) (v:=?_) rfl ?_ hS ?_ (fun _ _ _ h=>h);rotate_left;focus (intro w2 hw2;(try dsimp only at hw2);obtain ⟨hc2,hf2⟩:=bcell hw2;go_simp;first | done | with_reducible rfl);(try simp only [Act.put,pu1,pu2,pu3]))
       refine rd_ [7] ?_
       refine ah1 rfl fun K hK=>?_
       (go_simp;refine (HWH.out _ f (hB.trans (hS.mono hsB))).mono ?_;rintro e w8 ⟨A9,n9,c9,rfl,hb8,hi9,hc9,hm9⟩;go_simp)
       have h8:Below wr.heap.size wr w8:=Below.then_ hS hb8
       have HI8:Hid (Is w8 w8.heap.size A9 n9 (whL l kn day f)):=by show Is _ _ _ _ _;exact hi9
       refine hK.out _ _ h8 (fun hS=>?_)
       clear hK K hi9 hb8
       (try simp only [Act.put,pu1,pu2,pu3])
       (refine tk_ (i:=8) (v:=?_) rfl ?_ hS ?_ (fun _ _ _ h=>h);rotate_left;focus (intro w2 hw2;(try dsimp only at hw2);obtain ⟨hc2,hf2⟩:=bcell hw2;go_simp;first | done | with_reducible rfl);(try simp only [Act.put,pu1,pu2,pu3]))
       refine wpAnyH_done (by kernel_rfl) ?_ _
       have hwl:=whL_len l kn day f
       have hn9:(whL l kn day f).length=n9:=HI8.out.len
       have HL9:=Lib.hid hn9
       have h9:n9≤2:=by omega
       have bA8:=HBA2.out.ext h8
       have kA8:=bA8.cell
       have zA8:=bA8.lt
       have hs8:=h8.size
       clear kV zV kA zA q0 q1 hS bA8 hwl hn9
       cases hq1:decide (per∈whL l kn day f) with
       | false =>
         have HQ1:=Lib.hid hq1
         have hpf:p f=false:=by rw [← HP.out f,only_of,hq1];rfl
         clear hq1
         have HN:Hid ((fs.take (k+1)).filter p=xl):=by show _=_;rw [HF1.out,if_neg (by rw [hpf];simp),HXL.out]
         clear hpf
         go_wp2_with (first | (go_at_call 65;refine (r_Has2_v (whL l kn day f) per false _ _ _ _ (by omega) HI8.out HQ1.out).mono ?_;rintro e w9 ⟨rfl,hb9⟩;have HB9:Below wr.heap.size wr w9:=Below.then_ h8 hb9;have hs9:=HB9.size;have y0:=(HB9.cell (p:=⟨b,o+k*2,none⟩) hbr).trans HD0.out;have y1:=(HB9.cell (p:=⟨b,o+k*2+1,none⟩) hbr).trans HD1.out;clear hb9 kA8 zA8))
         go_roundw
         case rel=>exact ⟨k+1,by omega,by go_num,by rw [HN.out];exact own_ex HO.out HB9,hB.trans (HB9.mono hsB)⟩
         case measure=>exact ms_
       | true =>
         have HQ1:=Lib.hid hq1
         cases hq2:((n9:Int) == 1) with
         | false =>
           have hpf:p f=false:=by rw [← HP.out f,only_of,hq1,HL9.out,hq2];rfl
           clear hq1
           have HN:Hid ((fs.take (k+1)).filter p=xl):=by show _=_;rw [HF1.out,if_neg (by rw [hpf];simp),HXL.out]
           clear hpf
           go_wp2_with (first | (go_at_call 65;refine (r_Has2_v (whL l kn day f) per true _ _ _ _ (by omega) HI8.out HQ1.out).mono ?_;rintro e w9 ⟨rfl,hb9⟩;have HB9:Below wr.heap.size wr w9:=Below.then_ h8 hb9;have hs9:=HB9.size;have y0:=(HB9.cell (p:=⟨b,o+k*2,none⟩) hbr).trans HD0.out;have y1:=(HB9.cell (p:=⟨b,o+k*2+1,none⟩) hbr).trans HD1.out;clear hb9 kA8 zA8))
           go_roundw
           case rel=>exact ⟨k+1,by omega,by go_num,by rw [HN.out];exact own_ex HO.out HB9,hB.trans (HB9.mono hsB)⟩
           case measure=>exact ms_
         | true =>
           have hpf:p f=true:=by rw [← HP.out f,only_of,hq1,HL9.out,hq2];rfl
           clear hq1
           have HN:Hid ((fs.take (k+1)).filter p=xl ++ [f]):=by show _=_;rw [HF1.out,if_pos hpf,HXL.out]
           clear hpf
           go_wp2_with (first | (go_at_call 65;refine (r_Has2_v (whL l kn day f) per true _ _ _ _ (by omega) HI8.out HQ1.out).mono ?_;rintro e w9 ⟨rfl,hb9⟩;have HB9:Below wr.heap.size wr w9:=Below.then_ h8 hb9;have hs9:=HB9.size;have y0:=(HB9.cell (p:=⟨b,o+k*2,none⟩) hbr).trans HD0.out;have y1:=(HB9.cell (p:=⟨b,o+k*2+1,none⟩) hbr).trans HD1.out;clear hb9 kA8 zA8) | (at_builtin;refine wpList_append_own _ rfl (.tmp 71) (.tmp 76) 71 rfl wv.heap.size 60 i0 _ 2 16 Tryz.underlying71 hi hz0 hz1 hz2 rfl (by decide) _ _ _ rfl ((own_ex HO.out HB9).alloc (.cells #[.int .i64 f.1,.int .i64 f.2] 60)) ⟨w9.heap.size,0,none⟩ 1 1 [.int .i64 f.1,.int .i64 f.2] rfl rfl ?c1 ?c2 ?c3 ?c4 ?c5 ?_;rotate_left 5;intro v' w10 hown2 hgrow2 _))
           case c1=>intro j u hj;match j,hj with
            | 0,hj=>simp at hj;subst hj;simp [Addr.add]
            | 1,hj=>simp at hj;subst hj;simp [Addr.add]
           case c2=>simp [Value.oneCell']
           case c3=>unfold maxLen;omega
           case c4=>omega
           case c5=>simp;omega
           go_roundw
           case rel =>
            refine ⟨k+1,by omega,by go_num,?_,OwnS.below ((hB.trans (HB9.mono hsB)).alloc (by omega) _) ((own_ex HO.out HB9).alloc (.cells #[.int .i64 f.1,.int .i64 f.2] 60)) (by simp;omega) hgrow2⟩
            rw [HN.out,List.length_append]
            have e1:folCells (xl ++ [f])=folCells xl ++ [.int .i64 f.1,.int .i64 f.2]:=by simp [folCells]
            rw [e1]
            exact hown2
           case measure=>exact ms_
      ·have hkn:Hid (k=fs.length):=by show _=_;omega
       have hall:(folL l.pp).filter p=xl:=by rw [HFS.out,← HXL.out,hkn.out,List.take_length]
       have HALL:=Lib.hid hall
       clear hall
       have hO:=HO.out
       obtain ⟨A9,c9,rfl,hc9⟩:=own_slice hO
       clear kV zV kA zA bV bA
       go_wp2
       go_ret2
       exact ⟨A9,_,c9,rfl,HB5.trans (hB.mono hs5),by rw [HALL.out];exact own_dn hO hs5,by rw [HALL.out]⟩
set_option maxRecDepth 10000 in
set_option maxHeartbeats 8000000 in
theorem r_heldF (l:Led) (x:Lsl) (day kn pap leaf per src:Int) (w:World) (hf:x.fit) (hd:LedIn w w.heap.size x l) :
 Calls Tryz.prog 132 #[.agg #[.slice x.pA x.pn x.pc,.slice x.rA x.rn x.rc,.slice x.tA x.tn x.tc,.slice x.sA x.sn x.sc],.agg #[.int .i64 day,.int .i64 kn,.int .i64 pap,.int .i64 leaf,.int .i64 per,.int .i64 src],.bool false] w (RetFE (leavesX (fun f=>decide (per∈whL l kn day f)) l per day kn) w):=by
 obtain ⟨pA,pn,pc,rA,rn,rc,tA,tn,tc,sA,sn,sc⟩:=x
 have hml:maxLen≤9223372036854775807:=by decide
 have hpn:pn≤9223372036854775807:=by have:=hf.p;dsimp only at this;omega
 have hrn:rn≤9223372036854775807:=by have:=hf.r;dsimp only at this;omega
 have htn:tn≤9223372036854775807:=by have:=hf.t;dsimp only at this;omega
 have hsn:sn≤9223372036854775807:=by have:=hf.s;dsimp only at this;omega
 have HD:=Lib.hid hd
 have HF:=Lib.hid hf
 clear hd hf hml
 have B2:=box2 w 27 62 (#[.slice pA pn pc,.slice rA rn rc,.slice tA tn tc,.slice sA sn sc]:Array Value) #[.int .i64 day,.int .i64 kn,.int .i64 pap,.int .i64 leaf,.int .i64 per,.int .i64 src]
 have BL0:=Lib.hid B2.1
 have BA0:=Lib.hid B2.2
 clear B2
 obtain ⟨p,hp⟩:∃ p:Int × Int→Bool,(fun f=>decide (per∈whL l kn day f))=p:=⟨_,rfl⟩
 have HP:Hid (∀ f,decide (per∈whL l kn day f)=p f):=by show ∀ _,_;intro f;rw [← hp]
 rw [hp]
 clear hp
 cases hlb:ledB l with
 | false =>
   have hv:preP l per day kn=24:=by simp [preP,hlb,orL,errI]
   have hres:leavesX p l per day kn=([],24):=by rw [leavesX,if_neg (by rw [hv];decide),hv]
   rw [hres]
   have HCK:Hid (errI (ledB l) 24=24):=by show _=_;rw [hlb];rfl
   clear hres hv hlb
   go_enter Tryz.func132,Tryz.ntmps132
   go_wp2_with (go_at_call 19;refine (r_Check_v l ⟨pA,pn,pc,rA,rn,rc,tA,tn,tc,sA,sn,sc⟩ 24 _ hpn hrn htn hsn (HD.out.now (by exact bel_)) HCK.out).mono ?_;rintro e w1 ⟨rfl,hb1⟩;have HB1:Below w.heap.size w w1:=Below.then_ (by exact bel_) hb1;have hs1:=HB1.size;have bL1:=BL0.out.ext hb1;have kL1:=bL1.cell;have zL1:=bL1.lt;have bA1:=BA0.out.ext hb1;have kA1:=bA1.cell;have zA1:=bA1.lt;clear hb1)
   go_ret2
   exact RetFE.err (by exact bel_)
 | true =>
   have HLB:=Lib.hid hlb
   have HLO:=Lib.hid (led_ok hlb)
   have HCK:Hid (errI (ledB l) 24=0):=by show _=_;rw [hlb];rfl
   cases hpe:withinB per 0 99 with
   | false =>
     have hv:preP l per day kn=1:=by simp [preP,hlb,hpe,orL,errI]
     have hres:leavesX p l per day kn=([],1):=by rw [leavesX,if_neg (by rw [hv];decide),hv]
     rw [hres]
     have HPE:=Lib.hid hpe
     clear hres hv hlb hpe
     go_enter Tryz.func132,Tryz.ntmps132
     go_wp2_with (first | (go_at_call 19;refine (r_Check_v l ⟨pA,pn,pc,rA,rn,rc,tA,tn,tc,sA,sn,sc⟩ 0 _ hpn hrn htn hsn (HD.out.now (by exact bel_)) HCK.out).mono ?_;rintro e w1 ⟨rfl,hb1⟩;have HB1:Below w.heap.size w w1:=Below.then_ (by exact bel_) hb1;have hs1:=HB1.size;have bL1:=BL0.out.ext hb1;have kL1:=bL1.cell;have zL1:=bL1.lt;have bA1:=BA0.out.ext hb1;have kA1:=bA1.cell;have zA1:=bA1.lt;clear hb1) | (go_at_call 73;refine (r_In2_v per 0 99 false _ HPE.out).mono ?_;rintro e w1 ⟨rfl,rfl⟩))
     go_ret2
     exact RetFE.err (by exact bel_)
   | true =>
     have HPE:=Lib.hid hpe
     obtain ⟨v,hv⟩:∃ v,preE l [day,kn]=v:=⟨_,rfl⟩
     have HV:=Lib.hid hv
     have hpp:preP l per day kn=v:=by rw [← hv];simp [preP,preE,hlb,hpe,orL,errI]
     by_cases hv0:v=0
     rotate_left
     ·have hres:leavesX p l per day kn=([],v):=by rw [leavesX,if_neg (by rw [hpp];exact hv0),hpp]
      rw [hres]
      have hv1:(v != 0)=true:=by simpa using hv0
      clear hres hv hv0 hlb hpe hpp
      go_enter Tryz.func132,Tryz.ntmps132
      go_wp2_with (first | (go_at_call 19;refine (r_Check_v l ⟨pA,pn,pc,rA,rn,rc,tA,tn,tc,sA,sn,sc⟩ 0 _ hpn hrn htn hsn (HD.out.now (by exact bel_)) HCK.out).mono ?_;rintro e w1 ⟨rfl,hb1⟩;have HB1:Below w.heap.size w w1:=Below.then_ (by exact bel_) hb1;have hs1:=HB1.size;have bL1:=BL0.out.ext hb1;have kL1:=bL1.cell;have zL1:=bL1.lt;have bA1:=BA0.out.ext hb1;have kA1:=bA1.cell;have zA1:=bA1.lt;clear hb1) | (go_at_call 73;refine (r_In2_v per 0 99 true _ HPE.out).mono ?_;rintro e w1 ⟨rfl,rfl⟩) | (go_at_call 102;refine (r_asked_v l ⟨pA,pn,pc,rA,rn,rc,tA,tn,tc,sA,sn,sc⟩ [day,kn] v _ 2 2 _ HF.out (HD.out.now (by exact bel_)) (by decide) (Rd.new _ #[.int .i64 day,.int .i64 kn] _ 1 2 _ (by simp) rfl) HV.out).mono ?_;rintro e w2 ⟨rfl,hb2⟩;have HB2:Below w.heap.size w w2:=Below.then_ (by exact bel_) hb2;have hs2:=HB2.size;have bL2:=(bL1.alloc _).ext hb2;have kL2:=bL2.cell;have zL2:=bL2.lt;have bA2:=(bA1.alloc _).ext hb2;have kA2:=bA2.cell;have zA2:=bA2.lt;clear hb2 kL1 zL1 kA1 zA1))
      go_ret2
      exact RetFE.err (by exact bel_)
     subst hv0
     obtain ⟨se,hse⟩:∃ se,setE l kn=se:=⟨_,rfl⟩
     have HSE:=Lib.hid hse
     by_cases hs0:se=0
     rotate_left
     ·have hres:leavesX p l per day kn=([],se):=by rw [leavesX,if_pos hpp,if_neg (by rw [hse];exact hs0),hse]
      rw [hres]
      have hs1:(se != 0)=true:=by simpa using hs0
      clear hres hv hs0 hlb hpe hpp hse
      go_enter Tryz.func132,Tryz.ntmps132
      go_wp2_with (first | (go_at_call 19;refine (r_Check_v l ⟨pA,pn,pc,rA,rn,rc,tA,tn,tc,sA,sn,sc⟩ 0 _ hpn hrn htn hsn (HD.out.now (by exact bel_)) HCK.out).mono ?_;rintro e w1 ⟨rfl,hb1⟩;have HB1:Below w.heap.size w w1:=Below.then_ (by exact bel_) hb1;have hs1:=HB1.size;have bL1:=BL0.out.ext hb1;have kL1:=bL1.cell;have zL1:=bL1.lt;have bA1:=BA0.out.ext hb1;have kA1:=bA1.cell;have zA1:=bA1.lt;clear hb1) | (go_at_call 73;refine (r_In2_v per 0 99 true _ HPE.out).mono ?_;rintro e w1 ⟨rfl,rfl⟩) | (go_at_call 102;refine (r_asked_v l ⟨pA,pn,pc,rA,rn,rc,tA,tn,tc,sA,sn,sc⟩ [day,kn] 0 _ 2 2 _ HF.out (HD.out.now (by exact bel_)) (by decide) (Rd.new _ #[.int .i64 day,.int .i64 kn] _ 1 2 _ (by simp) rfl) HV.out).mono ?_;rintro e w2 ⟨rfl,hb2⟩;have HB2:Below w.heap.size w w2:=Below.then_ (by exact bel_) hb2;have hs2:=HB2.size;have bL2:=(bL1.alloc _).ext hb2;have kL2:=bL2.cell;have zL2:=bL2.lt;have bA2:=(bA1.alloc _).ext hb2;have kA2:=bA2.cell;have zA2:=bA2.lt;clear hb2 kL1 zL1 kA1 zA1) | (go_at_call 113;refine (r_soundE l ⟨pA,pn,pc,rA,rn,rc,tA,tn,tc,sA,sn,sc⟩ kn se _ HLB.out (HD.out.now (by exact bel_)) HSE.out).mono ?_;rintro e w3 ⟨B,Tc,AD,nD,cD,rfl,hb3⟩;have HB3:Below w.heap.size w w3:=Below.then_ (by exact bel_) hb3;have hs3:=HB3.size))
      go_ret2
      exact RetFE.err (by exact bel_)
     subst hs0
     have hres:leavesX p l per day kn=((folL l.pp).filter p,0):=by rw [leavesX,if_pos hpp,if_pos hse]
     rw [hres]
     have hpn12:pn≤12:=by have h1:=HLO.out.pn;have h2:l.pp.length=pn:=HD.out.p.len;omega
     obtain ⟨i0,hi,hz0,hz1,hz2⟩:=info_parts infoFol
     have hfl:=folL_len HLO.out
     clear hres hv hlb hpe hpp hse
     go_enter Tryz.func132,Tryz.ntmps132
     go_wp2_with (first | (go_at_call 19;refine (r_Check_v l ⟨pA,pn,pc,rA,rn,rc,tA,tn,tc,sA,sn,sc⟩ 0 _ hpn hrn htn hsn (HD.out.now (by exact bel_)) HCK.out).mono ?_;rintro e w1 ⟨rfl,hb1⟩;have HB1:Below w.heap.size w w1:=Below.then_ (by exact bel_) hb1;have hs1:=HB1.size;have bL1:=BL0.out.ext hb1;have kL1:=bL1.cell;have zL1:=bL1.lt;have bA1:=BA0.out.ext hb1;have kA1:=bA1.cell;have zA1:=bA1.lt;clear hb1) | (go_at_call 73;refine (r_In2_v per 0 99 true _ HPE.out).mono ?_;rintro e w1 ⟨rfl,rfl⟩) | (go_at_call 102;refine (r_asked_v l ⟨pA,pn,pc,rA,rn,rc,tA,tn,tc,sA,sn,sc⟩ [day,kn] 0 _ 2 2 _ HF.out (HD.out.now (by exact bel_)) (by decide) (Rd.new _ #[.int .i64 day,.int .i64 kn] _ 1 2 _ (by simp) rfl) HV.out).mono ?_;rintro e w2 ⟨rfl,hb2⟩;have HB2:Below w.heap.size w w2:=Below.then_ (by exact bel_) hb2;have hs2:=HB2.size;have bL2:=(bL1.alloc _).ext hb2;have kL2:=bL2.cell;have zL2:=bL2.lt;have bA2:=(bA1.alloc _).ext hb2;have kA2:=bA2.cell;have zA2:=bA2.lt;clear hb2 kL1 zL1 kA1 zA1) | (go_at_call 113;refine (r_soundZ l ⟨pA,pn,pc,rA,rn,rc,tA,tn,tc,sA,sn,sc⟩ kn _ HLB.out (HD.out.now (by exact bel_)) HSE.out).mono ?_;rintro e w3 ⟨B,Tc,A5,c5,rfl,hb3,hT3,hD3⟩;have HB3:Below w.heap.size w w3:=Below.then_ (by exact bel_) hb3;have hs3:=HB3.size;have bL3:=(bL2.ext hb3).alloc (.cells #[.slice pA pn pc,.slice rA rn rc,.slice tA tn tc,.slice sA sn sc,.int .i64 kn,.slice (some ⟨B,0,none⟩) tn Tc,.slice A5 tn c5] 127);have kL3:=bL3.cell;have zL3:=bL3.lt;have bA3:=(bA2.ext hb3).alloc (.cells #[.slice pA pn pc,.slice rA rn rc,.slice tA tn tc,.slice sA sn sc,.int .i64 kn,.slice (some ⟨B,0,none⟩) tn Tc,.slice A5 tn c5] 127);have kA3:=bA3.cell;have zA3:=bA3.lt;have bV3:=BoxA.new w3 127 #[.slice pA pn pc,.slice rA rn rc,.slice tA tn tc,.slice sA sn sc,.int .i64 kn,.slice (some ⟨B,0,none⟩) tn Tc,.slice A5 tn c5];have HT3:=Lib.hid hT3;have HD3:=Lib.hid hD3;clear hb3 kL2 zL2 kA2 zA2 hT3 hD3) | (go_at_call 144;refine (r_folios l ⟨pA,pn,pc,rA,rn,rc,tA,tn,tc,sA,sn,sc⟩ _ hpn12 (fun r hr=>HLO.out.pp r hr) (HD.out.now (by exact bel_))).mono ?_;rintro e w5 ⟨v5,rfl,hb5,ho5⟩;obtain ⟨AF,cF,rfl,hcF⟩:=own_slice ho5;have HB35:Below w3.heap.size w3 w5:=Below.then_ (by exact bel_) hb5;have HB5:Below w.heap.size w w5:=Below.then_ HB3 HB35;have hs5:=HB5.size;have bV5:=bV3.ext hb5;have bA5:=bA3.ext hb5;have HSF:Hid (Sq QF 2 w5 w5.heap.size AF (folL l.pp).length (folL l.pp)):=(by show Sq _ _ _ _ _ _ _;exact sq_of_own ho5 rfl);clear hb5 ho5 kL3 zL3 kA3 zA3))
     have HWH:Hid (∀ (W:World) (f:Int × Int),Below w5.heap.size w5 W→Calls Tryz.prog 123 #[.agg #[.slice pA pn pc,.slice rA rn rc,.slice tA tn tc,.slice sA sn sc,.int .i64 kn,.slice (some ⟨B,0,none⟩) tn Tc,.slice A5 tn c5],.agg #[.int .i64 f.1,.int .i64 f.2],.int .i64 day] W (RetLI (whL l kn day f) W)):=by
      show ∀ _,_
      exact fun W f hW=>r_whereV l ⟨⟨pA,pn,pc,rA,rn,rc,tA,tn,tc,sA,sn,sc⟩,kn,some ⟨B,0,none⟩,tn,Tc,A5,tn,c5⟩ f.1 f.2 day W HLO.out rfl rfl (HD.out.now (HB5.trans (hW.mono hs5))) (HT3.out.now abB (HB35.trans (hW.mono HB35.size))) (HD3.out.now abF (HB35.trans (hW.mono HB35.size)))
     obtain ⟨fs,hfs⟩:∃ fs,folL l.pp=fs:=⟨_,rfl⟩
     rw [hfs] at HSF hfl
     rw [hfs]
     have HFS:=Lib.hid hfs
     have HBV:=Lib.hid bV5
     have HBA:=Lib.hid bA5
     clear hfs bV5 bA5 HT3 HD3 bV3 bA3 bL3
     obtain ⟨wv,rfl⟩:∃ wv,wv=w5:=⟨_,rfl⟩
     go_loopw [12,13] (fun v i wr=>∃ k:Nat,k≤fs.length∧i=.int .i64 k∧wr.ownsRow wv.heap.size 60 2 v ((fs.take k).filter p).length (folCells ((fs.take k).filter p))∧Below wv.heap.size wv wr) (fun _ i _=>fs.length - (intOf i).toNat)
     case atStart=>exact ⟨0,by omega,rfl,World.ownsRow_nil _ _ _ _,Below.refl _ _⟩
     case round =>
      obtain ⟨k,hk,rfl,hown,hB⟩:=hrel
      have hsB:=hB.size
      have bV:=HBV.out.ext hB
      have kV:=bV.cell
      have zV:=bV.lt
      have bA:=HBA.out.ext hB
      have kA:=bA.cell
      have zA:=bA.lt
      obtain ⟨xl,hxl⟩:∃ xl,(fs.take k).filter p=xl:=⟨_,rfl⟩
      have hxn:xl.length≤360:=by
       have h1:=List.length_filter_le p (fs.take k)
       rw [hxl,List.length_take] at h1
       omega
      rw [hxl] at hown
      have HO:=Lib.hid hown
      have HXL:=Lib.hid hxl
      clear hown hxl
      by_cases hlt:k<fs.length
      ·obtain ⟨b,o,f,hAF,hbr,hf,q0,q1⟩:=(HSF.out.now abF hB).at_ hlt
       have HF1:=Lib.hid (filt_succ (p:=p) hf)
       rw [hAF]
       have HD0:=Lib.hid q0
       have HD1:=Lib.hid q1
       have HBA2:=Lib.hid bA
       clear hf hAF bA bV
       go_wp2_with fail
       (refine wp_region_bheld 9 (by kernel_rfl) rfl (fun hS=>?_);simp only [List.reduceReplicate,Array.replicate_succ,Array.replicate_zero])
       (refine tk_ (i:=0) (v:=?_) rfl ?_ hS ?_ (fun _ _ _ h=>h);rotate_left;focus (intro w2 hw2;(try dsimp only at hw2);obtain ⟨hc2,hf2⟩:=bcell hw2;go_simp;first | done | with_reducible rfl);(try simp only [Act.put,pu1,pu2,pu3]))
       (refine tk_ (i:=1) (v:=?_) rfl ?_ hS ?_ (fun _ _ _ h=>h);rotate_left;focus (intro w2 hw2;(try dsimp only at hw2);obtain ⟨hc2,hf2⟩:=bcell hw2;go_simp;first | done | with_reducible rfl);(try simp only [Act.put,pu1,pu2,pu3]))
       (refine tk_ (i:=2) (v:=?_) rfl ?_ hS ?_ (fun _ _ _ h=>h);rotate_left;focus (intro w2 hw2;(try dsimp only at hw2);obtain ⟨hc2,hf2⟩:=bcell hw2;go_simp;first | done | with_reducible rfl);(try simp only [Act.put,pu1,pu2,pu3]))
       (refine tk_ (i:=3) (v:=?_) rfl ?_ hS ?_ (fun _ _ _ h=>h);rotate_left;focus (intro w2 hw2;(try dsimp only at hw2);obtain ⟨hc2,hf2⟩:=bcell hw2;go_simp;first | done | with_reducible rfl);(try simp only [Act.put,pu1,pu2,pu3]))
       (refine tk_ (i:=4) (v:=?_) rfl ?_ hS ?_ (fun _ _ _ h=>h);rotate_left;focus (intro w2 hw2;(try dsimp only at hw2);obtain ⟨hc2,hf2⟩:=bcell hw2;go_simp;first | done | with_reducible rfl);(try simp only [Act.put,pu1,pu2,pu3]))
       (refine tk_ (i:=5) (v:=?_) rfl ?_ hS ?_ (fun _ _ _ h=>h);rotate_left;focus (intro w2 hw2;(try dsimp only at hw2);obtain ⟨hc2,hf2⟩:=bcell hw2;go_simp;first | done | with_reducible rfl);(try simp only [Act.put,pu1,pu2,pu3]))
       (refine tk_ (i:=6) (v:=?_) rfl ?_ hS ?_ (fun _ _ _ h=>h);rotate_left;focus (intro w2 hw2;(try dsimp only at hw2);obtain ⟨hc2,hf2⟩:=bcell hw2;go_simp;first | done | with_reducible rfl);(try simp only [Act.put,pu1,pu2,pu3]))
       refine rd_ [7] ?_
       refine ah1 rfl fun K hK=>?_
       (go_simp;refine (HWH.out _ f (hB.trans (hS.mono hsB))).mono ?_;rintro e w8 ⟨A9,n9,c9,rfl,hb8,hi9,hc9,hm9⟩;go_simp)
       have h8:Below wr.heap.size wr w8:=Below.then_ hS hb8
       have HI8:Hid (Is w8 w8.heap.size A9 n9 (whL l kn day f)):=by show Is _ _ _ _ _;exact hi9
       refine hK.out _ _ h8 (fun hS=>?_)
       clear hK K hi9 hb8
       (try simp only [Act.put,pu1,pu2,pu3])
       (refine tk_ (i:=8) (v:=?_) rfl ?_ hS ?_ (fun _ _ _ h=>h);rotate_left;focus (intro w2 hw2;(try dsimp only at hw2);obtain ⟨hc2,hf2⟩:=bcell hw2;go_simp;first | done | with_reducible rfl);(try simp only [Act.put,pu1,pu2,pu3]))
       refine wpAnyH_done (by kernel_rfl) ?_ _
       have hwl:=whL_len l kn day f
       have hn9:(whL l kn day f).length=n9:=HI8.out.len
       have HL9:=Lib.hid hn9
       have h9:n9≤2:=by omega
       have bA8:=HBA2.out.ext h8
       have kA8:=bA8.cell
       have zA8:=bA8.lt
       have hs8:=h8.size
       clear kV zV kA zA q0 q1 hS bA8 hwl hn9
       cases hq1:decide (per∈whL l kn day f) with
       | false =>
         have HQ1:=Lib.hid hq1
         have hpf:p f=false:=by rw [← HP.out f,hq1]
         clear hq1
         have HN:Hid ((fs.take (k+1)).filter p=xl):=by show _=_;rw [HF1.out,if_neg (by rw [hpf];simp),HXL.out]
         clear hpf
         go_wp2_with (first | (go_at_call 65;refine (r_Has2_v (whL l kn day f) per false _ _ _ _ (by omega) HI8.out HQ1.out).mono ?_;rintro e w9 ⟨rfl,hb9⟩;have HB9:Below wr.heap.size wr w9:=Below.then_ h8 hb9;have hs9:=HB9.size;have y0:=(HB9.cell (p:=⟨b,o+k*2,none⟩) hbr).trans HD0.out;have y1:=(HB9.cell (p:=⟨b,o+k*2+1,none⟩) hbr).trans HD1.out;clear hb9 kA8 zA8))
         go_roundw
         case rel=>exact ⟨k+1,by omega,by go_num,by rw [HN.out];exact own_ex HO.out HB9,hB.trans (HB9.mono hsB)⟩
         case measure=>exact ms_
       | true =>
         have HQ1:=Lib.hid hq1
         have hpf:p f=true:=by rw [← HP.out f,hq1]
         clear hq1
         have HN:Hid ((fs.take (k+1)).filter p=xl ++ [f]):=by show _=_;rw [HF1.out,if_pos hpf,HXL.out]
         clear hpf
         go_wp2_with (first | (go_at_call 65;refine (r_Has2_v (whL l kn day f) per true _ _ _ _ (by omega) HI8.out HQ1.out).mono ?_;rintro e w9 ⟨rfl,hb9⟩;have HB9:Below wr.heap.size wr w9:=Below.then_ h8 hb9;have hs9:=HB9.size;have y0:=(HB9.cell (p:=⟨b,o+k*2,none⟩) hbr).trans HD0.out;have y1:=(HB9.cell (p:=⟨b,o+k*2+1,none⟩) hbr).trans HD1.out;clear hb9 kA8 zA8) | (at_builtin;refine wpList_append_own _ rfl (.tmp 71) (.tmp 76) 71 rfl wv.heap.size 60 i0 _ 2 16 Tryz.underlying71 hi hz0 hz1 hz2 rfl (by decide) _ _ _ rfl ((own_ex HO.out HB9).alloc (.cells #[.int .i64 f.1,.int .i64 f.2] 60)) ⟨w9.heap.size,0,none⟩ 1 1 [.int .i64 f.1,.int .i64 f.2] rfl rfl ?c1 ?c2 ?c3 ?c4 ?c5 ?_;rotate_left 5;intro v' w10 hown2 hgrow2 _))
         case c1=>intro j u hj;match j,hj with
          | 0,hj=>simp at hj;subst hj;simp [Addr.add]
          | 1,hj=>simp at hj;subst hj;simp [Addr.add]
         case c2=>simp [Value.oneCell']
         case c3=>unfold maxLen;omega
         case c4=>omega
         case c5=>simp;omega
         go_roundw
         case rel =>
          refine ⟨k+1,by omega,by go_num,?_,OwnS.below ((hB.trans (HB9.mono hsB)).alloc (by omega) _) ((own_ex HO.out HB9).alloc (.cells #[.int .i64 f.1,.int .i64 f.2] 60)) (by simp;omega) hgrow2⟩
          rw [HN.out,List.length_append]
          have e1:folCells (xl ++ [f])=folCells xl ++ [.int .i64 f.1,.int .i64 f.2]:=by simp [folCells]
          rw [e1]
          exact hown2
         case measure=>exact ms_
      ·have hkn:Hid (k=fs.length):=by show _=_;omega
       have hall:(folL l.pp).filter p=xl:=by rw [HFS.out,← HXL.out,hkn.out,List.take_length]
       have HALL:=Lib.hid hall
       clear hall
       have hO:=HO.out
       obtain ⟨A9,c9,rfl,hc9⟩:=own_slice hO
       clear kV zV kA zA bV bA
       go_wp2
       go_ret2
       exact ⟨A9,_,c9,rfl,HB5.trans (hB.mono hs5),by rw [HALL.out];exact own_dn hO hs5,by rw [HALL.out]⟩
set_option maxRecDepth 10000 in
set_option maxHeartbeats 4000000 in
theorem r_Sure (l:Led) (x:Lsl) (day kn pap leaf per src:Int) (w:World) (hf:x.fit) (hd:LedIn w w.heap.size x l) :
 Calls Tryz.prog 43 #[.agg #[.slice x.pA x.pn x.pc,.slice x.rA x.rn x.rc,.slice x.tA x.tn x.tc,.slice x.sA x.sn x.sc],.agg #[.int .i64 day,.int .i64 kn,.int .i64 pap,.int .i64 leaf,.int .i64 per,.int .i64 src]] w (RetFE (leavesX (fun f=>decide (whL l kn day f=[per])) l per day kn) w):=by
 obtain ⟨pA,pn,pc,rA,rn,rc,tA,tn,tc,sA,sn,sc⟩:=x
 have HD:=Lib.hid hd
 have HC:Hid (∀ W:World,Below w.heap.size w W→Calls Tryz.prog 132 #[.agg #[.slice pA pn pc,.slice rA rn rc,.slice tA tn tc,.slice sA sn sc],.agg #[.int .i64 day,.int .i64 kn,.int .i64 pap,.int .i64 leaf,.int .i64 per,.int .i64 src],.bool true] W (RetFE (leavesX (fun f=>decide (whL l kn day f=[per])) l per day kn) W)):=by
  show ∀ _,_
  exact fun W hW=>r_heldT l ⟨pA,pn,pc,rA,rn,rc,tA,tn,tc,sA,sn,sc⟩ day kn pap leaf per src W hf (HD.out.now hW)
 obtain ⟨r,hr⟩:∃ r,leavesX (fun f=>decide (whL l kn day f=[per])) l per day kn=r:=⟨_,rfl⟩
 rw [hr] at HC ⊢
 clear hr hd hf
 go_enter Tryz.func43,Tryz.ntmps43
 go_wp2_with (go_at_call 132;refine (HC.out _ (by exact bel_)).mono ?_;rintro e w5 ⟨A,n,c,rfl,hb5,ho5,hl5⟩;have HB5:Below w.heap.size w w5:=Below.then_ (by exact bel_) hb5;have HO5:=Lib.hid ho5;have HL5:=Lib.hid hl5;clear ho5 hl5)
 go_ret2
 exact ⟨A,n,c,rfl,HB5,own_dn HO5.out (by simp;omega),HL5.out⟩
set_option maxRecDepth 10000 in
set_option maxHeartbeats 4000000 in
theorem r_May (l:Led) (x:Lsl) (day kn pap leaf per src:Int) (w:World) (hf:x.fit) (hd:LedIn w w.heap.size x l) :
 Calls Tryz.prog 45 #[.agg #[.slice x.pA x.pn x.pc,.slice x.rA x.rn x.rc,.slice x.tA x.tn x.tc,.slice x.sA x.sn x.sc],.agg #[.int .i64 day,.int .i64 kn,.int .i64 pap,.int .i64 leaf,.int .i64 per,.int .i64 src]] w (RetFE (leavesX (fun f=>decide (per∈whL l kn day f)) l per day kn) w):=by
 obtain ⟨pA,pn,pc,rA,rn,rc,tA,tn,tc,sA,sn,sc⟩:=x
 have HD:=Lib.hid hd
 have HC:Hid (∀ W:World,Below w.heap.size w W→Calls Tryz.prog 132 #[.agg #[.slice pA pn pc,.slice rA rn rc,.slice tA tn tc,.slice sA sn sc],.agg #[.int .i64 day,.int .i64 kn,.int .i64 pap,.int .i64 leaf,.int .i64 per,.int .i64 src],.bool false] W (RetFE (leavesX (fun f=>decide (per∈whL l kn day f)) l per day kn) W)):=by
  show ∀ _,_
  exact fun W hW=>r_heldF l ⟨pA,pn,pc,rA,rn,rc,tA,tn,tc,sA,sn,sc⟩ day kn pap leaf per src W hf (HD.out.now hW)
 obtain ⟨r,hr⟩:∃ r,leavesX (fun f=>decide (per∈whL l kn day f)) l per day kn=r:=⟨_,rfl⟩
 rw [hr] at HC ⊢
 clear hr hd hf
 go_enter Tryz.func45,Tryz.ntmps45
 go_wp2_with (go_at_call 132;refine (HC.out _ (by exact bel_)).mono ?_;rintro e w5 ⟨A,n,c,rfl,hb5,ho5,hl5⟩;have HB5:Below w.heap.size w w5:=Below.then_ (by exact bel_) hb5;have HO5:=Lib.hid ho5;have HL5:=Lib.hid hl5;clear ho5 hl5)
 go_ret2
 exact ⟨A,n,c,rfl,HB5,own_dn HO5.out (by simp;omega),HL5.out⟩
end Go.Proofs.YtoiompoapikkbaaGreat
