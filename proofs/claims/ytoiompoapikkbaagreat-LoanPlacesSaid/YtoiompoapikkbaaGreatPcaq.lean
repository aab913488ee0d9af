/- Layer 2 of the texts that LoanPlaces takes: Pcaq. -/
import Derived.Test.YtoiompoapikkbaaGreatPbwq
import Derived.Test.YtoiompoapikkbaaGreatPbsq
import Derived.Test.YtoiompoapikkbaaGreatPbzq
set_option linter.unusedVariables false
set_option linter.unusedSimpArgs false
set_option maxHeartbeats 16000000
namespace Go.Proofs.YtoiompoapikkbaaGreat
open Go.RowKit Go.Maps
theorem p_Placed_u (l:Led) (x:Lsl) (day kn pap leaf per src:Int) (days:List Int) (D:Option Addr) (m c0:Nat) (p:List Int) (v:Int) (w:World) (hf:x.fit) (hd:LedIn w w.heap.size x l) (hm:m<=9223372036854775807) (gu:Is w w.heap.size D m days) (h:placedX l days pap day kn=(p,v)) :
 Calls Tryz.prog 47 #[.agg #[.slice x.pA x.pn x.pc,.slice x.rA x.rn x.rc,.slice x.tA x.tn x.tc,.slice x.sA x.sn x.sc],.slice D m c0,.int .i64 pap,.int .i64 day,.int .i64 kn] w (RetLE (p,v) w):=by
 have hc:=p_PlacedX l x days D m c0 pap day kn w hf hd hm gu
 rw [h] at hc
 exact hc
theorem r_Placed_u (l:Led) (x:Lsl) (day kn pap leaf per src:Int) (days:List Int) (D:Option Addr) (m c0:Nat) (p:List Int) (v:Int) (w:World) (hf:x.fit) (hd:LedIn w w.heap.size x l) (hm:m<=9223372036854775807) (gu:Is w w.heap.size D m days) (h:placedX l days pap day kn=(p,v)) :
 Calls Tryz.prog 48 #[.agg #[.slice x.pA x.pn x.pc,.slice x.rA x.rn x.rc,.slice x.tA x.tn x.tc,.slice x.sA x.sn x.sc],.agg #[.int .i64 day,.int .i64 kn,.int .i64 pap,.int .i64 leaf,.int .i64 per,.int .i64 src],.slice D m c0] w (RetLE (p,v) w):=by
 have hc:=r_Placed l x day kn pap leaf per src days D m c0 w hf hd hm gu
 rw [h] at hc
 exact hc
theorem p_Moved_u (l:Led) (x:Lsl) (day kn pap leaf per src:Int) (days:List Int) (D:Option Addr) (m c0:Nat) (p:List (Int × Int)) (v:Int) (w:World) (hf:x.fit) (hd:LedIn w w.heap.size x l) (hm:m<=9223372036854775807) (gu:Is w w.heap.size D m days) (h:movX l src day kn=(p,v)) :
 Calls Tryz.prog 49 #[.agg #[.slice x.pA x.pn x.pc,.slice x.rA x.rn x.rc,.slice x.tA x.tn x.tc,.slice x.sA x.sn x.sc],.int .i64 src,.int .i64 day,.int .i64 kn] w (RetFE (p,v) w):=by
 have hc:=p_MovedX l x src day kn w hf hd
 rw [h] at hc
 exact hc
theorem r_Moved_u (l:Led) (x:Lsl) (day kn pap leaf per src:Int) (days:List Int) (D:Option Addr) (m c0:Nat) (p:List (Int × Int)) (v:Int) (w:World) (hf:x.fit) (hd:LedIn w w.heap.size x l) (hm:m<=9223372036854775807) (gu:Is w w.heap.size D m days) (h:movX l src day kn=(p,v)) :
 Calls Tryz.prog 50 #[.agg #[.slice x.pA x.pn x.pc,.slice x.rA x.rn x.rc,.slice x.tA x.tn x.tc,.slice x.sA x.sn x.sc],.agg #[.int .i64 day,.int .i64 kn,.int .i64 pap,.int .i64 leaf,.int .i64 per,.int .i64 src]] w (RetFE (p,v) w):=by
 have hc:=r_Moved l x day kn pap leaf per src w hf hd
 rw [h] at hc
 exact hc
theorem p_CheckTrue_u (l:Led) (x:Lsl) (kn:Int) (days:List Int) (D:Option Addr) (m c0:Nat) (v:Int) (w:World) (hf:x.fit) (hd:LedIn w w.heap.size x l) (hm:m<=9223372036854775807) (gu:Is w w.heap.size D m days) (h:checkTrueX l kn days=v) :
 Calls Tryz.prog 51 #[.agg #[.slice x.pA x.pn x.pc,.slice x.rA x.rn x.rc,.slice x.tA x.tn x.tc,.slice x.sA x.sn x.sc],.int .i64 kn,.slice D m c0] w (fun e w'=>e=.returned (.int .i64 v)/\Below w.heap.size w w'):=h ▸ p_CheckTrue l x kn days D m c0 w hf hd hm gu
theorem r_CheckTrue_u (l:Led) (x:Lsl) (kn:Int) (days:List Int) (D:Option Addr) (m c0:Nat) (v:Int) (w:World) (hf:x.fit) (hd:LedIn w w.heap.size x l) (hm:m<=9223372036854775807) (gu:Is w w.heap.size D m days) (h:checkTrueX l kn days=v) :
 Calls Tryz.prog 52 #[.agg #[.slice x.pA x.pn x.pc,.slice x.rA x.rn x.rc,.slice x.tA x.tn x.tc,.slice x.sA x.sn x.sc],.int .i64 kn,.slice D m c0] w (fun e w'=>e=.returned (.int .i64 v)/\Below w.heap.size w w'):=h ▸ r_CheckTrue l x kn days D m c0 w hf hd hm gu
theorem r_Days_u (l:Led) (x:Lsl) (day kn pap leaf per src p1 p2 v:Int) (w:World) (hf:x.fit) (hd:LedIn w w.heap.size x l) (h:daysX l src kn=((p1,p2),v)) :
 Calls Tryz.prog 35 #[.agg #[.slice x.pA x.pn x.pc,.slice x.rA x.rn x.rc,.slice x.tA x.tn x.tc,.slice x.sA x.sn x.sc],.agg #[.int .i64 day,.int .i64 kn,.int .i64 pap,.int .i64 leaf,.int .i64 per,.int .i64 src]] w (fun e w'=>e=.returned (.tuple #[.agg #[.int .i64 p1,.int .i64 p2],.int .i64 v])/\Below w.heap.size w w'):=by
 have hc:=r_Days l x day kn pap leaf per src w hf hd
 rw [h] at hc
 exact hc
theorem placedX_len {l:Led} {days:List Int} {pap day kn v:Int} {p:List Int} (h:placedX l days pap day kn=(p,v)):p.length<=1000000:=by
 unfold placedX at h
 split at h
 ·rename_i hv
  split at h
  ·cases h
   obtain ⟨n,hn,vy⟩:=lv_range (led_ok (preF_zero hv)) pap
   rw [List.length_map,List.length_range,hn]
   omega
  ·cases h;simp
 ·cases h;simp
theorem movX_len {l:Led} {src day kn v:Int} {p:List (Int × Int)} (h:movX l src day kn=(p,v)):p.length<=1000000:=by
 unfold movX at h
 split at h
 ·rename_i hv
  have h2:=folL_len (led_ok (pre_zero hv).1)
  split at h
  ·split at h
   ·split at h
    ·cases h
     have h1:=List.length_filter_le (fun f=>!decide (whL l kn day f=whL (excL l src) kn day f)) (folL l.pp)
     show (List.filter _ _).length<=_
     omega
    ·cases h;simp
   ·cases h;omega
  ·cases h;simp
 ·cases h;simp
set_option maxRecDepth 100000 in
theorem w_LoanPlaces (l:Led) (x:Lsl) (day kn pap leaf per src:Int) (days:List Int) (D:Option Addr) (m c0:Nat) (w:World) (hf:x.fit) (hd:LedIn w w.heap.size x l) (hm:m<=9223372036854775807) (gu:Is w w.heap.size D m days) :
 Calls Tryz.prog 6 #[.agg #[.slice x.pA x.pn x.pc,.slice x.rA x.rn x.rc,.slice x.tA x.tn x.tc,.slice x.sA x.sn x.sc],.agg #[.int .i64 day,.int .i64 kn,.int .i64 pap,.int .i64 leaf,.int .i64 per,.int .i64 src],.slice D m c0] w fun e w'=>e=.returned (.bool true)/\Below w.heap.size w w':=by
 obtain ⟨pA,pn,pc,rA,rn,rc,tA,tn,tc,sA,sn,sc⟩:=x
 have HD:=hd_ hd
 have HF:=hd_ hf
 have k0:=hd_ gu
 clear hd hf gu
 obtain ⟨⟨pl,e1⟩,h1⟩:∃ p,placedX l days pap day kn=p:=⟨_,rfl⟩
 obtain ⟨⟨ml,e2⟩,h2⟩:∃ p,movX l src day kn=p:=⟨_,rfl⟩
 obtain ⟨⟨⟨b1,b2⟩,e3⟩,h3⟩:∃ p,daysX l src kn=p:=⟨_,rfl⟩
 obtain ⟨z,h4⟩:∃ z,checkTrueX l kn days=z:=⟨_,rfl⟩
 have u3:=hd_ h1
 have uj:=hd_ h2
 have qv:=hd_ h3
 have HZ:=hd_ h4
 have lp:=placedX_len h1
 have lm:=movX_len h2
 clear h1 h2 h3 h4
 go_enter Tryz.func6,Tryz.ntmps6
 go_wp2_with fail
 refine (p_Placed_u l ⟨pA,pn,pc,rA,rn,rc,tA,tn,tc,sA,sn,sc⟩ day kn pap leaf per src days D m c0 pl e1 _ HF.out (HD.out.now (by exact bel_)) hm (k0.out.now (by exact bel_)) u3.out).mono ?_
 rintro e w1 ⟨A1,n1,c1,rfl,gq,uq,-⟩
 have j3:Hid (Is w1 w1.heap.size A1 n1 pl):=by show Is _ _ _ _ _;exact uq
 clear uq
 have u6:Below w.heap.size w w1:=bt_ (by exact bel_) gq
 have x4:=u6.size
 have g5:=(box2 w 27 62 #[.slice pA pn pc,.slice rA rn rc,.slice tA tn tc,.slice sA sn sc] #[.int .i64 day,.int .i64 kn,.int .i64 pap,.int .i64 leaf,.int .i64 per,.int .i64 src]).1.ext gq
 have g6:=(box2 w 27 62 #[.slice pA pn pc,.slice rA rn rc,.slice tA tn tc,.slice sA sn sc] #[.int .i64 day,.int .i64 kn,.int .i64 pap,.int .i64 leaf,.int .i64 per,.int .i64 src]).2.ext gq
 have jy:=g5.cell
 have j5:=g5.lt
 have j7:=g6.cell
 have jv:=g6.lt
 clear gq
 go_wp2_with fail
 refine (r_Placed_u l ⟨pA,pn,pc,rA,rn,rc,tA,tn,tc,sA,sn,sc⟩ day kn pap leaf per src days D m c0 pl e1 _ HF.out (HD.out.now (by exact bel_)) hm (k0.out.now (by exact bel_)) u3.out).mono ?_
 rintro e w2 ⟨A2,n2,c2,rfl,k7,qJ,-⟩
 have k1:Hid (Is w2 w2.heap.size A2 n2 pl):=by show Is _ _ _ _ _;exact qJ
 clear qJ
 have u4:Below w.heap.size w w2:=bt_ u6 k7
 have x6:=u4.size
 have j3:=hd_ (j3.out.now k7)
 have gQ:=g5.ext k7
 have gJ:=g6.ext k7
 clear jy j5 j7 jv g5 g6
 have qy:=gQ.cell
 have q4:=gQ.lt
 have qu:=gJ.cell
 have qx:=gJ.lt
 clear k7
 go_wp2_with fail
 refine (p_Moved_u l ⟨pA,pn,pc,rA,rn,rc,tA,tn,tc,sA,sn,sc⟩ day kn pap leaf per src days D m c0 ml e2 _ HF.out (HD.out.now (by exact bel_)) hm (k0.out.now (by exact bel_)) uj.out).mono ?_
 rintro e w3 ⟨A3,n3,c3,rfl,jX,u9,u8⟩
 have kX:Hid (Sq QF 2 w3 w3.heap.size A3 n3 ml):=by show Sq _ _ _ _ _ _ _;exact sq_of_own u9 u8
 clear u9 u8
 have uu:Below w.heap.size w w3:=bt_ u4 jX
 have x5:=uu.size
 have j3:=hd_ (j3.out.now jX)
 have k1:=hd_ (k1.out.now jX)
 have kv:=gQ.ext jX
 have q2:=gJ.ext jX
 clear qy q4 qu qx gQ gJ
 have ux:=kv.cell
 have vq:=kv.lt
 have vj:=q2.cell
 have vY:=q2.lt
 clear jX
 go_wp2_with fail
 refine (r_Moved_u l ⟨pA,pn,pc,rA,rn,rc,tA,tn,tc,sA,sn,sc⟩ day kn pap leaf per src days D m c0 ml e2 _ HF.out (HD.out.now (by exact bel_)) hm (k0.out.now (by exact bel_)) uj.out).mono ?_
 rintro e w4 ⟨A4,n4,c4,rfl,jx,qY,u1⟩
 have u2:Hid (Sq QF 2 w4 w4.heap.size A4 n4 ml):=by show Sq _ _ _ _ _ _ _;exact sq_of_own qY u1
 clear qY u1
 have jQ:Below w.heap.size w w4:=bt_ uu jx
 have x0:=jQ.size
 have j3:=hd_ (j3.out.now jx)
 have k1:=hd_ (k1.out.now jx)
 have kX:=hd_ (kX.out.now abF jx)
 have kq:=kv.ext jx
 have kY:=q2.ext jx
 clear ux vq vj vY kv q2
 have uy:=kq.cell
 have uX:=kq.lt
 have v9:=kY.cell
 have vv:=kY.lt
 clear jx
 go_wp2_with fail
 have h1:n1<=1000000:=by have h:=j3.out.len;omega
 have h2:n2<=1000000:=by have h:=k1.out.len;omega
 have h3:n3<=1000000:=by have h:=kX.out.len;omega
 have h4:n4<=1000000:=by have h:=u2.out.len;omega
 (refine rg_ ?_;(repeat (go_big_quiet_step ((first | (go_at_call_of 29 (Value.slice A1 n1 c1);exact Calls.grow_all (fun g=>r_Same2 pl pl true A1 A2 n1 c1 n2 c2 g.1 h1 h2 (j3.out.now g.2) (k1.out.now g.2) (by simp))) | (go_at_call_of 46 (Value.slice A3 n3 c3);exact Calls.grow_all (fun g=>r_SameFols ml ml true A3 A4 n3 c3 n4 c4 g.1 h3 h4 (kX.out.now abF g.2) (u2.out.now abF g.2) (by simp))) | (go_at_call_of 51 (Value.agg #[.slice pA pn pc,.slice rA rn rc,.slice tA tn tc,.slice sA sn sc]);exact Calls.grow_all (fun g=>p_CheckTrue_u l ⟨pA,pn,pc,rA,rn,rc,tA,tn,tc,sA,sn,sc⟩ kn days D m c0 z g.1 HF.out (HD.out.now (bt_ jQ g.2)) hm (k0.out.now (bt_ jQ g.2)) HZ.out)) | (go_at_call_of 52 (Value.agg #[.slice pA pn pc,.slice rA rn rc,.slice tA tn tc,.slice sA sn sc]);exact Calls.grow_all (fun g=>r_CheckTrue_u l ⟨pA,pn,pc,rA,rn,rc,tA,tn,tc,sA,sn,sc⟩ kn days D m c0 z g.1 HF.out (HD.out.now (bt_ jQ g.2)) hm (k0.out.now (bt_ jQ g.2)) HZ.out))))));refine qn_ fun w1 gq k2 qq=>?_)
 have u5:Below w.heap.size w w1:=bt_ jQ gq
 have kJ:=kq.ext gq
 have kx:=kY.ext gq
 clear gq k2 qq uy uX v9 vv kq kY
 obtain ⟨w5,rfl⟩:∃ w5,w5=w1:=⟨_,rfl⟩
 have x3:=u5.size
 have v5:=kJ.cell
 have v4:=kJ.lt
 have vQ:=kx.cell
 have uJ:=kx.lt
 go_wp2_with (go_at_call 35;refine (r_Days_u l ⟨pA,pn,pc,rA,rn,rc,tA,tn,tc,sA,sn,sc⟩ day kn pap leaf per src b1 b2 e3 _ HF.out (HD.out.now (by exact bel_)) qv.out).mono ?_;rintro e w9 ⟨rfl,kQ⟩;have u0:=bt_ u5 kQ;have uY:=u0.size;have q1:=kJ.ext kQ;have ky:=kx.ext kQ;clear v5 v4 vQ uJ kJ kx;have vu:=q1.cell;have v3:=q1.lt;have vX:=ky.cell;have v7:=ky.lt;clear kQ)
 have q0:Hid (BoxA (w9.alloc (.cells #[.int .i64 b1,.int .i64 b2] 34)) w9.heap.size 34 #[.int .i64 b1,.int .i64 b2]):=by show BoxA _ _ _ _;exact BoxA.new _ _ _
 have gX:=hd_ (q1.alloc (.cells #[.int .i64 b1,.int .i64 b2] 34))
 have j2:=hd_ (ky.alloc (.cells #[.int .i64 b1,.int .i64 b2] 34))
 have u7:Below w9.heap.size w9 (w9.alloc (.cells #[.int .i64 b1,.int .i64 b2] 34)):=by exact bel_
 obtain ⟨wv,q7⟩:∃ wv,w9.alloc (.cells #[.int .i64 b1,.int .i64 b2] 34)=wv:=⟨_,rfl⟩
 rw [q7] at q0 gX j2 u7
 have g9:Below w.heap.size w wv:=u0.trans (u7.mono uY)
 have j0:=g9.size
 (try rw [q7])
 clear q7 vu v3 vX v7 q1 ky
 by_cases g3:retE l src kn=0
 ·have v6:=ret_led g3
  have q9:tn<=1000000:=by have h1:=(led_ok v6).tn;have h2:l.rt.length=tn:=HD.out.t.len;omega
  have ku:Hid (∀ W:World,Below wv.heap.size wv W->Calls Tryz.prog 54 #[.agg #[.slice pA pn pc,.slice rA rn rc,.slice tA tn tc,.slice sA sn sc],.int .i64 src] W fun e w'=>e=.returned (.int .i64 (ixI (l.rt.findIdx? (fun t=>t.src == src))))/\Below W.heap.size W w'):=by
   show ∀ _,_
   intro W hW
   exact w_index l ⟨pA,pn,pc,rA,rn,rc,tA,tn,tc,sA,sn,sc⟩ src W (by exact q9) (HD.out.now (g9.trans (hW.mono j0)))
  obtain ⟨i,d,g4,k5,jJ⟩:=att_ok g3
  obtain ⟨L0,q6,uv,qX⟩:=jJ false
  obtain ⟨L1,q3,k2,qQ⟩:=jJ true
  have jY:d=(b1,b2)/\e3=0:=by
   have h:=qv.out
   rw [k5] at h
   injection h with h1 h2
   exact ⟨h1,h2.symm⟩
  obtain ⟨rfl,rfl⟩:=jY
  have g1:=hd_ q6
  have g7:=hd_ q3
  have gY:=hd_ uv
  have j9:=hd_ k2
  have g8:Hid (L0[i]?=some b1):=by show _=_;exact qX
  have gx:Hid (L1[i]?=some b2):=by show _=_;exact qQ
  have gv:Hid (L0.length<=60):=by show _<=_;exact att_len g3 q6
  have j1:Hid (L1.length<=60):=by show _<=_;exact att_len g3 q3
  rw [g4] at ku
  simp only [ixI] at ku
  have x1:decide ((i:Int)<0)=false:=by simp
  clear g3 g4 k5 jJ q6 q3 uv k2 qX qQ
  go_loopw [17] (fun i wr=>∃ k:Nat,k<=2/\i=.int .i64 k/\Below wv.heap.size wv wr) (fun i _=>2 - (intOf i).toNat)
  case atStart=>exact ⟨0,by omega,rfl,Below.refl _ _⟩
  case round =>
   obtain ⟨k,hk,rfl,hQ⟩:=hrel
   have kj:=hQ.size
   have bL:=gX.out.ext hQ
   have kL:=bL.cell
   have zL:=bL.lt
   have bA:=j2.out.ext hQ
   have kA:=bA.cell
   have zA:=bA.lt
   by_cases hlt:k<2
   ·have j4:Hid (∀ W:World,Below wv.heap.size wv W->Calls Tryz.prog 53 #[.agg #[.slice pA pn pc,.slice rA rn rc,.slice tA tn tc,.slice sA sn sc],.int .i64 src,.int .i64 kn,.bool false] W (RetLE (L0,0) W)):=by
     show ∀ _,_
     intro W hW
     have h:=p_Attain l ⟨pA,pn,pc,rA,rn,rc,tA,tn,tc,sA,sn,sc⟩ src kn false W HF.out (HD.out.now (g9.trans (hW.mono j0)))
     rw [g1.out] at h
     exact h
    have j8:Hid (∀ W:World,Below wv.heap.size wv W->Calls Tryz.prog 53 #[.agg #[.slice pA pn pc,.slice rA rn rc,.slice tA tn tc,.slice sA sn sc],.int .i64 src,.int .i64 kn,.bool true] W (RetLE (L1,0) W)):=by
     show ∀ _,_
     intro W hW
     have h:=p_Attain l ⟨pA,pn,pc,rA,rn,rc,tA,tn,tc,sA,sn,sc⟩ src kn true W HF.out (HD.out.now (g9.trans (hW.mono j0)))
     rw [g7.out] at h
     exact h
    rcases (show k=0\/k=1 by omega) with j6 | j6
    ·have q8:((k:Int) == 1)=false:=by first | (simp;omega) | (simp [beq_eq_false_iff_ne];omega)
     have vx:((k:Int) == 0)=true:=by first | (simp;omega) | (simp [beq_eq_false_iff_ne];omega)
     clear j6
     go_wp2_with (first | (go_at_call 53;refine (j4.out _ (by exact bel_)).mono ?_;rintro e v1 ⟨AX,nX,cX,rfl,gy,g4,-⟩;have jq:Below wr.heap.size wr v1:=bt_ (by exact bel_) gy;have g0:Below wv.heap.size wv v1:=hQ.trans (jq.mono kj);have k6:=g0.size;have g5:=gX.out.ext g0;have jy:=g5.cell;have j5:=g5.lt;have g6:=j2.out.ext g0;have j7:=g6.cell;have jv:=g6.lt;have k3:Hid (Is v1 v1.heap.size AX nX L0):=(by show Is _ _ _ _ _;exact g4);clear gy g4 kL zL kA zA) | (go_at_call 54;refine (ku.out _ (by exact bel_)).mono ?_;rintro e v2 ⟨rfl,k8⟩;have k4:Below v1.heap.size v1 v2:=bt_ (by exact bel_) k8;have gj:Below wv.heap.size wv v2:=g0.trans (k4.mono k6);have q5:=gj.size;have gQ:=gX.out.ext gj;have qy:=gQ.cell;have q4:=gQ.lt;have gJ:=j2.out.ext gj;have qu:=gJ.cell;have qx:=gJ.lt;have k9:=q0.out.ext gj;have v8:=k9.cell;have uQ:=k9.lt;have g2:=hd_ (k3.out.now k4);clear k8 jy j5 j7 jv))
     have jj:i<nX:=by have h:=g2.out.len;have h2:=(List.getElem?_eq_some_iff.1 g8.out).1;omega
     obtain ⟨bx,ox,y,rfl,v0,hy,vJ⟩:=g2.out.at_ jj
     obtain rfl:y=b1:=Option.some.inj (hy.symm.trans g8.out)
     have qj:nX<=9223372036854775807:=by have h:=g2.out.len;have h2:=gv.out;omega
     clear hy
     (refine rg_ ?_;(repeat (go_big_quiet_step ((first | (go_at_call_of 52 (Value.agg #[.slice pA pn pc,.slice rA rn rc,.slice tA tn tc,.slice sA sn sc]);exact Calls.grow_all (fun g=>r_CheckTrue_u l ⟨pA,pn,pc,rA,rn,rc,tA,tn,tc,sA,sn,sc⟩ kn L0 (some ⟨bx,ox,none⟩) nX cX 0 g.1 HF.out (HD.out.now ((g9.trans (gj.mono j0)).trans (g.2.mono (by have h1:=g9.size;omega)))) qj (g2.out.now g.2) gY.out))))));refine qn_ fun w1 gq k2 qq=>?_)
     go_wp2_with fail
     go_roundw
     case rel=>exact ⟨k+1,by omega,by go_num,gj.trans (gq.mono q5)⟩
     case measure=>exact ms_
    ·have q8:((k:Int) == 1)=true:=by first | (simp;omega) | (simp [beq_eq_false_iff_ne];omega)
     have vx:((k:Int) == 0)=false:=by first | (simp;omega) | (simp [beq_eq_false_iff_ne];omega)
     clear j6
     go_wp2_with (first | (go_at_call 53;refine (j8.out _ (by exact bel_)).mono ?_;rintro e v1 ⟨AX,nX,cX,rfl,gy,g4,-⟩;have jq:Below wr.heap.size wr v1:=bt_ (by exact bel_) gy;have g0:Below wv.heap.size wv v1:=hQ.trans (jq.mono kj);have k6:=g0.size;have g5:=gX.out.ext g0;have jy:=g5.cell;have j5:=g5.lt;have g6:=j2.out.ext g0;have j7:=g6.cell;have jv:=g6.lt;have k3:Hid (Is v1 v1.heap.size AX nX L1):=(by show Is _ _ _ _ _;exact g4);clear gy g4 kL zL kA zA) | (go_at_call 54;refine (ku.out _ (by exact bel_)).mono ?_;rintro e v2 ⟨rfl,k8⟩;have k4:Below v1.heap.size v1 v2:=bt_ (by exact bel_) k8;have gj:Below wv.heap.size wv v2:=g0.trans (k4.mono k6);have q5:=gj.size;have gQ:=gX.out.ext gj;have qy:=gQ.cell;have q4:=gQ.lt;have gJ:=j2.out.ext gj;have qu:=gJ.cell;have qx:=gJ.lt;have k9:=q0.out.ext gj;have v8:=k9.cell;have uQ:=k9.lt;have g2:=hd_ (k3.out.now k4);clear k8 jy j5 j7 jv))
     have jj:i<nX:=by have h:=g2.out.len;have h2:=(List.getElem?_eq_some_iff.1 gx.out).1;omega
     obtain ⟨bx,ox,y,rfl,v0,hy,vJ⟩:=g2.out.at_ jj
     obtain rfl:y=b2:=Option.some.inj (hy.symm.trans gx.out)
     have qj:nX<=9223372036854775807:=by have h:=g2.out.len;have h2:=j1.out;omega
     clear hy
     (refine rg_ ?_;(repeat (go_big_quiet_step ((first | (go_at_call_of 52 (Value.agg #[.slice pA pn pc,.slice rA rn rc,.slice tA tn tc,.slice sA sn sc]);exact Calls.grow_all (fun g=>r_CheckTrue_u l ⟨pA,pn,pc,rA,rn,rc,tA,tn,tc,sA,sn,sc⟩ kn L1 (some ⟨bx,ox,none⟩) nX cX 0 g.1 HF.out (HD.out.now ((g9.trans (gj.mono j0)).trans (g.2.mono (by have h1:=g9.size;omega)))) qj (g2.out.now g.2) j9.out))))));refine qn_ fun w1 gq k2 qq=>?_)
     go_wp2_with fail
     go_roundw
     case rel=>exact ⟨k+1,by omega,by go_num,gj.trans (gq.mono q5)⟩
     case measure=>exact ms_
   ·clear kL zL kA zA
    go_wp2_with (go_at_call 20;refine (r_sane2 _).mono ?_;rintro e w16 ⟨rfl,ju⟩)
    go_ret
    exact ⟨rfl,(g9.trans (hQ.mono j0)).trans (ju.mono (by have:=g9.size;omega))⟩
 ·obtain ⟨k5,jJ⟩:=att_err g3
  have jY:e3=retE l src kn:=by
   have h:=qv.out
   rw [k5] at h
   injection h with h1 h2
   exact h2.symm
  have x2:(e3 != 0)=true:=by rw [jY];simpa using g3
  have g1:Hid (attX l src kn false=([],e3)):=by show _=_;rw [jJ,jY]
  have g7:Hid (attX l src kn true=([],e3)):=by show _=_;rw [jJ,jY]
  clear g3 k5 jJ jY q0
  go_loopw [17] (fun i wr=>∃ k:Nat,k<=2/\i=.int .i64 k/\Below wv.heap.size wv wr) (fun i _=>2 - (intOf i).toNat)
  case atStart=>exact ⟨0,by omega,rfl,Below.refl _ _⟩
  case round =>
   obtain ⟨k,hk,rfl,hQ⟩:=hrel
   have kj:=hQ.size
   have bL:=gX.out.ext hQ
   have kL:=bL.cell
   have zL:=bL.lt
   have bA:=j2.out.ext hQ
   have kA:=bA.cell
   have zA:=bA.lt
   by_cases hlt:k<2
   ·have j4:Hid (∀ W:World,Below wv.heap.size wv W->Calls Tryz.prog 53 #[.agg #[.slice pA pn pc,.slice rA rn rc,.slice tA tn tc,.slice sA sn sc],.int .i64 src,.int .i64 kn,.bool false] W (RetLE (([]:List Int),e3) W)):=by
     show ∀ _,_
     intro W hW
     have h:=p_Attain l ⟨pA,pn,pc,rA,rn,rc,tA,tn,tc,sA,sn,sc⟩ src kn false W HF.out (HD.out.now (g9.trans (hW.mono j0)))
     rw [g1.out] at h
     exact h
    have j8:Hid (∀ W:World,Below wv.heap.size wv W->Calls Tryz.prog 53 #[.agg #[.slice pA pn pc,.slice rA rn rc,.slice tA tn tc,.slice sA sn sc],.int .i64 src,.int .i64 kn,.bool true] W (RetLE (([]:List Int),e3) W)):=by
     show ∀ _,_
     intro W hW
     have h:=p_Attain l ⟨pA,pn,pc,rA,rn,rc,tA,tn,tc,sA,sn,sc⟩ src kn true W HF.out (HD.out.now (g9.trans (hW.mono j0)))
     rw [g7.out] at h
     exact h
    rcases (show k=0\/k=1 by omega) with j6 | j6
    ·have q8:((k:Int) == 1)=false:=by first | (simp;omega) | (simp [beq_eq_false_iff_ne];omega)
     clear j6
     go_wp2_with (go_at_call 53;refine (j4.out _ (by exact bel_)).mono ?_;rintro e v1 ⟨AX,nX,cX,rfl,gy,g4,-⟩;obtain rfl:0=nX:=g4.len;have jq:Below wr.heap.size wr v1:=bt_ (by exact bel_) gy;have g0:Below wv.heap.size wv v1:=hQ.trans (jq.mono kj);have k6:=g0.size;have g5:=gX.out.ext g0;have jy:=g5.cell;have j5:=g5.lt;have g6:=j2.out.ext g0;have j7:=g6.cell;have jv:=g6.lt;have k3:Hid (Is v1 v1.heap.size AX 0 []):=(by show Is _ _ _ _ _;exact g4);clear gy g4 kL zL kA zA)
     go_roundw
     case rel=>exact ⟨k+1,by omega,by go_num,g0⟩
     case measure=>exact ms_
    ·have q8:((k:Int) == 1)=true:=by first | (simp;omega) | (simp [beq_eq_false_iff_ne];omega)
     clear j6
     go_wp2_with (go_at_call 53;refine (j8.out _ (by exact bel_)).mono ?_;rintro e v1 ⟨AX,nX,cX,rfl,gy,g4,-⟩;obtain rfl:0=nX:=g4.len;have jq:Below wr.heap.size wr v1:=bt_ (by exact bel_) gy;have g0:Below wv.heap.size wv v1:=hQ.trans (jq.mono kj);have k6:=g0.size;have g5:=gX.out.ext g0;have jy:=g5.cell;have j5:=g5.lt;have g6:=j2.out.ext g0;have j7:=g6.cell;have jv:=g6.lt;have k3:Hid (Is v1 v1.heap.size AX 0 []):=(by show Is _ _ _ _ _;exact g4);clear gy g4 kL zL kA zA)
     go_roundw
     case rel=>exact ⟨k+1,by omega,by go_num,g0⟩
     case measure=>exact ms_
   ·clear kL zL kA zA
    go_wp2_with (go_at_call 20;refine (r_sane2 _).mono ?_;rintro e w16 ⟨rfl,ju⟩)
    go_ret
    exact ⟨rfl,(g9.trans (hQ.mono j0)).trans (ju.mono (by have:=g9.size;omega))⟩
end Go.Proofs.YtoiompoapikkbaaGreat
