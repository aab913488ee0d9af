/- Layer 2 of the texts that LoanMoves takes: Matq. -/
import Derived.Test.YtmcmbicapdcfmaaGreatMasq
set_option linter.unusedVariables false
set_option linter.unusedSimpArgs false
set_option maxHeartbeats 16000000
namespace Go.Proofs.YtmcmbicapdcfmaaGreat
open Go.RowKit Go.Maps
def backB (M:List ((Int × Int) × Nat)) (P:List (Int × Int)) (src leaf day:Int):Bool:=match getN M (src,leaf) with
 | some i=>decide ((P.getD i (0,0)).1≤day)
 | none=>false
set_option maxRecDepth 10000 in
theorem p_backFor (M:List ((Int × Int) × Nat)) (R:List Rcp) (P:List (Int × Int)) (a:Acc) (v:Rv) (leaf day:Int) (w:World) (h:AccR w a M R P) (hws:(Lit.int .i64 v.r.src).wf=true) (hwl:(Lit.int .i64 leaf).wf=true) :
 Calls Tryz.prog 127 #[accV a,rvV v,.int .i64 leaf,.int .i64 day] w fun e w'=>e=.returned (.bool (backB M P v.r.src leaf day))∧Below w.heap.size w w':=by
 obtain ⟨⟨pA,pn,pc,rA,rn,rc,tA,tn,tc,sA,sn,sc⟩,kn,RA,Rn,Rc,SA,Sn,Sc,bm,TA,Tn,Tc,PA,Pn,Pc⟩:=a
 obtain ⟨r,A1,n1,c1⟩:=v
 show Calls _ _ #[.agg #[.slice pA pn pc,.slice rA rn rc,.slice tA tn tc,.slice sA sn sc,.int .i64 kn,.slice RA Rn Rc,.slice SA Sn Sc,.map (some bm),.slice TA Tn Tc,.slice PA Pn Pc],.agg #[.int .i64 r.src,.int .i64 r.bor,.int .i64 r.pap,.slice A1 n1 c1,.int .i64 r.day,.int .i64 r.kn,.int .i64 r.un],_,_] _ _
 have HP:Hid (Sq QF 2 w w.heap.size PA Pn P):=by show Sq _ _ _ _ _ _ _;exact h.p
 have hPn:Pn≤100000:=h.nP
 have hM:∀ i,getN M (r.src,leaf)=some i→i<Pn:=fun i hi=>h.mP _ i hi
 have hlk:=(show MapS w bm (encM M) from h.m).ext (w':=(w.alloc (.cells #[.slice pA pn pc,.slice rA rn rc,.slice tA tn tc,.slice sA sn sc,.int .i64 kn,.slice RA Rn Rc,.slice SA Sn Sc,.map (some bm),.slice TA Tn Tc,.slice PA Pn Pc] 115)).alloc (.cells #[.int .i64 r.src,.int .i64 r.bor,.int .i64 r.pap,.slice A1 n1 c1,.int .i64 r.day,.int .i64 r.kn,.int .i64 r.un] 79)) (by exact bel_) |>.look2 key_slips Tryz.underlying112 (a:=(r.src,leaf)) ⟨hws,hwl⟩ (zeroInt2 _)
 rw [getG_enc] at hlk
 clear h hws
 rw [show backB M P (⟨r,A1,n1,c1⟩:Rv).r.src leaf day=backB M P r.src leaf day from rfl,backB]
 cases hg:getN M (r.src,leaf) with
 | none =>
   rw [hg] at hlk
   simp only [Option.map_none,Option.getD_none,Option.isSome_none] at hlk
   clear hg
   go_enter Tryz.func127,Tryz.ntmps127
   go_wp2
   go_ret
   exact ⟨rfl,by exact bel_⟩
 | some i =>
   have hi:=hM i hg
   rw [hg] at hlk
   simp only [Option.map_some,Option.getD_some,Option.isSome_some] at hlk
   clear hg hM
   obtain ⟨b,o,d,rfl,hbb,hd,q0,q1⟩:=HP.out.at_ hi
   have hgd:P.getD i (0,0)=d:=by rw [List.getD_eq_getElem?_getD,hd];rfl
   simp only [hgd]
   clear hgd hd
   go_enter Tryz.func127,Tryz.ntmps127
   go_wp2
   go_ret
   exact ⟨rfl,by exact bel_⟩
theorem p_backFor_v (M:List ((Int × Int) × Nat)) (R:List Rcp) (P:List (Int × Int)) (a:Acc) (v:Rv) (leaf day:Int) (q:Bool) (w:World) (h:AccR w a M R P) (hws:(Lit.int .i64 v.r.src).wf=true) (hwl:(Lit.int .i64 leaf).wf=true) (hq:backB M P v.r.src leaf day=q) :
 Calls Tryz.prog 127 #[accV a,rvV v,.int .i64 leaf,.int .i64 day] w fun e w'=>e=.returned (.bool q)∧Below w.heap.size w w':=hq ▸ p_backFor M R P a v leaf day w h hws hwl
def outB (M:List ((Int × Int) × Nat)) (P:List (Int × Int)) (u v:Rcp) (leaf:Int):Bool:=decide (leaf∈v.lv) && !backB M P u.src leaf v.day
def dblB (M:List ((Int × Int) × Nat)) (P:List (Int × Int)) (x y:Rcp):Bool :=
 if x.pap=y.pap then (if y.day<x.day then y.lv.any (outB M P y x) else x.lv.any (outB M P x y)) else false
theorem any_not {l:List Int} {p:Int→Bool} {k:Nat} {x:Int} (hx:l[k]?=some x) (h:p x=true):l.any p=true:=List.any_eq_true.2 ⟨x,List.mem_of_getElem? hx,h⟩
theorem any_take_succ {l:List Int} {k:Nat} {x:Int} {p:Int→Bool} (h:l[k]?=some x):(l.take (k+1)).any p=((l.take k).any p || p x):=by rw [take_snoc_some h,List.any_append];simp
structure RvIn (w:World) (v:Rv):Prop where
 i:Is w w.heap.size v.A v.n v.r.lv
 n:v.n≤1000000
 ws:(Lit.int .i64 v.r.src).wf=true
 wl:∀ x∈v.r.lv,(Lit.int .i64 x).wf=true
theorem RvIn.now {w w':World} {v:Rv} (h:RvIn w v) (hb:Below w.heap.size w w'):RvIn w' v:=⟨h.i.now hb,h.n,h.ws,h.wl⟩
set_option maxRecDepth 10000 in
theorem p_areDouble (M:List ((Int × Int) × Nat)) (R:List Rcp) (P:List (Int × Int)) (a:Acc) (x y:Rv) (w:World) (h:AccR w a M R P) (hx:RvIn w x) (hy:RvIn w y) :
 Calls Tryz.prog 84 #[accV a,rvV x,rvV y] w fun e w'=>e=.returned (.bool (dblB M P x.r y.r))∧Below w.heap.size w w':=by
 obtain ⟨⟨pA,pn,pc,rA,rn,rc,tA,tn,tc,sA,sn,sc⟩,kn,RA,Rn,Rc,SA,Sn,Sc,bm,TA,Tn,Tc,PA,Pn,Pc⟩:=a
 have HBF:Hid (∀ (u:Rcp) (A:Option Addr) (n c:Nat) (leaf day:Int) (q:Bool) (W:World),Below w.heap.size w W→(Lit.int .i64 u.src).wf=true→(Lit.int .i64 leaf).wf=true→backB M P u.src leaf day=q→Calls Tryz.prog 127 #[.agg #[.slice pA pn pc,.slice rA rn rc,.slice tA tn tc,.slice sA sn sc,.int .i64 kn,.slice RA Rn Rc,.slice SA Sn Sc,.map (some bm),.slice TA Tn Tc,.slice PA Pn Pc],.agg #[.int .i64 u.src,.int .i64 u.bor,.int .i64 u.pap,.slice A n c,.int .i64 u.day,.int .i64 u.kn,.int .i64 u.un],.int .i64 leaf,.int .i64 day] W fun e w'=>e=.returned (.bool q)∧Below W.heap.size W w'):=by
  show ∀ _,_
  exact fun u A n c leaf day q W hW h1 h2 h3=>p_backFor_v M R P ⟨⟨pA,pn,pc,rA,rn,rc,tA,tn,tc,sA,sn,sc⟩,kn,RA,Rn,Rc,SA,Sn,Sc,bm,TA,Tn,Tc,PA,Pn,Pc⟩ ⟨u,A,n,c⟩ leaf day q W (h.now hW) h1 h2 h3
 obtain ⟨r,A1,n1,c1⟩:=x
 obtain ⟨s,A2,n2,c2⟩:=y
 have HX:Hid (Is w w.heap.size A1 n1 r.lv∧n1≤1000000∧(Lit.int .i64 r.src).wf=true∧∀ x∈r.lv,(Lit.int .i64 x).wf=true):=by show _∧_;exact ⟨hx.i,hx.n,hx.ws,hx.wl⟩
 have HY:Hid (Is w w.heap.size A2 n2 s.lv∧n2≤1000000∧(Lit.int .i64 s.src).wf=true∧∀ x∈s.lv,(Lit.int .i64 x).wf=true):=by show _∧_;exact ⟨hy.i,hy.n,hy.ws,hy.wl⟩
 clear h hx hy
 show Calls _ _ #[.agg #[.slice pA pn pc,.slice rA rn rc,.slice tA tn tc,.slice sA sn sc,.int .i64 kn,.slice RA Rn Rc,.slice SA Sn Sc,.map (some bm),.slice TA Tn Tc,.slice PA Pn Pc],.agg #[.int .i64 r.src,.int .i64 r.bor,.int .i64 r.pap,.slice A1 n1 c1,.int .i64 r.day,.int .i64 r.kn,.int .i64 r.un],.agg #[.int .i64 s.src,.int .i64 s.bor,.int .i64 s.pap,.slice A2 n2 c2,.int .i64 s.day,.int .i64 s.kn,.int .i64 s.un]] _ _
 obtain ⟨q,hq⟩:∃ q,dblB M P (⟨r,A1,n1,c1⟩:Rv).r (⟨s,A2,n2,c2⟩:Rv).r=q:=⟨_,rfl⟩
 rw [hq]
 have HQ:Hid (dblB M P r s=q):=by show _=_;exact hq
 clear hq
 by_cases hp:r.pap=s.pap
 ·have hpd:(r.pap != s.pap)=false:=by simpa using hp
  have HPp:=hd_ hp
  clear hp
  by_cases hd:s.day<r.day
  ·have HQ2:Hid (s.lv.any (outB M P s r)=q):=by show _=_;rw [← HQ.out,dblB,if_pos HPp.out,if_pos hd]
   have hnu:n2≤1000000:=HY.out.2.1
   go_enter Tryz.func84,Tryz.ntmps84
   go_wp2
   go_loopw [24] (fun i wr=>∃ k:Nat,k≤n2∧i=.int .i64 k∧(s.lv.take k).any (outB M P s r)=false∧Below w.heap.size w wr∧w.heap.size+3≤wr.heap.size∧BoxA wr w.heap.size 115 #[.slice pA pn pc,.slice rA rn rc,.slice tA tn tc,.slice sA sn sc,.int .i64 kn,.slice RA Rn Rc,.slice SA Sn Sc,.map (some bm),.slice TA Tn Tc,.slice PA Pn Pc]∧BoxA wr (w.heap.size+1) 79 #[.int .i64 s.src,.int .i64 s.bor,.int .i64 s.pap,.slice A2 n2 c2,.int .i64 s.day,.int .i64 s.kn,.int .i64 s.un]∧BoxA wr (w.heap.size+1+1) 79 #[.int .i64 r.src,.int .i64 r.bor,.int .i64 r.pap,.slice A1 n1 c1,.int .i64 r.day,.int .i64 r.kn,.int .i64 r.un]) (fun i _=>n2 - (intOf i).toNat)
   case atStart =>
    refine ⟨0,by omega,rfl,rfl,?_,?_,?_,?_,?_⟩
    ·exact bel_
    ·simp
    ·exact ((BoxA.new _ _ _).alloc _).alloc _
    ·have h:=(BoxA.new (w.alloc (.cells #[.slice pA pn pc,.slice rA rn rc,.slice tA tn tc,.slice sA sn sc,.int .i64 kn,.slice RA Rn Rc,.slice SA Sn Sc,.map (some bm),.slice TA Tn Tc,.slice PA Pn Pc] 115)) 79 #[.int .i64 s.src,.int .i64 s.bor,.int .i64 s.pap,.slice A2 n2 c2,.int .i64 s.day,.int .i64 s.kn,.int .i64 s.un]).alloc (.cells #[.int .i64 r.src,.int .i64 r.bor,.int .i64 r.pap,.slice A1 n1 c1,.int .i64 r.day,.int .i64 r.kn,.int .i64 r.un] 79);simpa using h
    ·have h:=BoxA.new ((w.alloc (.cells #[.slice pA pn pc,.slice rA rn rc,.slice tA tn tc,.slice sA sn sc,.int .i64 kn,.slice RA Rn Rc,.slice SA Sn Sc,.map (some bm),.slice TA Tn Tc,.slice PA Pn Pc] 115)).alloc (.cells #[.int .i64 s.src,.int .i64 s.bor,.int .i64 s.pap,.slice A2 n2 c2,.int .i64 s.day,.int .i64 s.kn,.int .i64 s.un] 79)) 79 #[.int .i64 r.src,.int .i64 r.bor,.int .i64 r.pap,.slice A1 n1 c1,.int .i64 r.day,.int .i64 r.kn,.int .i64 r.un];simpa using h
   case round =>
    obtain ⟨k,hk,rfl,hany,hB,hsz,b0,b1,b2⟩:=hrel
    have HA:=hd_ hany
    clear hany
    have hs0:=hB.size
    have k0:=b0.cell
    have k1:=b1.cell
    have k2:=b2.cell
    have z0:=b0.lt
    have z1:=b1.lt
    have z2:=b2.lt
    by_cases hlt:k<n2
    ·obtain ⟨b,o,x,rfl,hb,hx,hc0⟩:=(show Is wr w.heap.size A2 n2 s.lv from Is.ext HY.out.1 hB lr_).at_ hlt
     have hbr:b<wr.heap.size:=by omega
     have hwx:=HY.out.2.2.2 x (List.mem_of_getElem? hx)
     have HXk:=hd_ hx
     clear hx
     have hIv:Is wr wr.heap.size A1 n1 r.lv:=(show Is w w.heap.size A1 n1 r.lv from HX.out.1).now hB
     have HIV:=hd_ hIv
     clear hIv
     cases hd2:decide (x∈r.lv) with
     | false =>
       have HF:Hid ((s.lv.take (k+1)).any (outB M P s r)=false):=by show _=_;rw [any_take_succ HXk.out,HA.out,outB,hd2];rfl
       have HD:=hd_ hd2
       clear hd2
       have hcon:=l_contains r.lv x false A1 n1 c1 wr HX.out.2.1 HIV.out HD.out
       go_wp2_with (go_at_call 71;refine hcon.mono ?_;rintro e w1 ⟨rfl,rfl⟩)
       go_roundw
       case rel=>exact ⟨k+1,by omega,by go_num,HF.out,hB,hsz,b0,b1,b2⟩
       case measure=>exact ms_
     | true =>
       have HD:=hd_ hd2
       clear hd2
       have hcon:=l_contains r.lv x true A1 n1 c1 wr HX.out.2.1 HIV.out HD.out
       cases hbk:backB M P s.src x r.day with
       | true =>
         have HF:Hid ((s.lv.take (k+1)).any (outB M P s r)=false):=by show _=_;rw [any_take_succ HXk.out,HA.out,outB,hbk];simp
         have hcb:=HBF.out s (some ⟨b,o,none⟩) n2 c2 x r.day true wr hB HY.out.2.2.1 hwx hbk
         clear hbk
         go_wp2_with (first | (go_at_call 71;refine hcon.mono ?_;rintro e w1 ⟨rfl,rfl⟩) | (go_at_call 127;refine hcb.mono ?_;rintro e w2 ⟨rfl,hb2⟩))
         go_roundw
         case rel=>exact ⟨k+1,by omega,by go_num,HF.out,bt_ hB hb2,Nat.le_trans hsz hb2.size,b0.ext hb2,b1.ext hb2,b2.ext hb2⟩
         case measure=>exact ms_
       | false =>
         have ho:q=true:=by rw [← HQ2.out];exact any_not HXk.out (by rw [outB,HD.out,hbk];rfl)
         subst ho
         have hcb:=HBF.out s (some ⟨b,o,none⟩) n2 c2 x r.day false wr hB HY.out.2.2.1 hwx hbk
         clear hbk
         go_wp2_with (first | (go_at_call 71;refine hcon.mono ?_;rintro e w1 ⟨rfl,rfl⟩) | (go_at_call 127;refine hcb.mono ?_;rintro e w2 ⟨rfl,hb2⟩))
         go_ret
         exact ⟨rfl,bt_ hB hb2⟩
    ·have hkn:Hid (k=n2):=by show _=_;omega
     have ho:q=false:=by
      have:=HA.out
      have hl:s.lv.length=n2:=HY.out.1.len
      rw [List.take_of_length_le (by rw [hl,hkn.out];exact lr_)] at this
      rw [← HQ2.out,this]
     subst ho
     go_wp2
     go_ret
     exact ⟨rfl,hB⟩
  ·have HQ2:Hid (r.lv.any (outB M P r s)=q):=by show _=_;rw [← HQ.out,dblB,if_pos HPp.out,if_neg hd]
   have hnu:n1≤1000000:=HX.out.2.1
   go_enter Tryz.func84,Tryz.ntmps84
   go_wp2
   go_loopw [24] (fun i wr=>∃ k:Nat,k≤n1∧i=.int .i64 k∧(r.lv.take k).any (outB M P r s)=false∧Below w.heap.size w wr∧w.heap.size+3≤wr.heap.size∧BoxA wr w.heap.size 115 #[.slice pA pn pc,.slice rA rn rc,.slice tA tn tc,.slice sA sn sc,.int .i64 kn,.slice RA Rn Rc,.slice SA Sn Sc,.map (some bm),.slice TA Tn Tc,.slice PA Pn Pc]∧BoxA wr (w.heap.size+1) 79 #[.int .i64 r.src,.int .i64 r.bor,.int .i64 r.pap,.slice A1 n1 c1,.int .i64 r.day,.int .i64 r.kn,.int .i64 r.un]∧BoxA wr (w.heap.size+1+1) 79 #[.int .i64 s.src,.int .i64 s.bor,.int .i64 s.pap,.slice A2 n2 c2,.int .i64 s.day,.int .i64 s.kn,.int .i64 s.un]) (fun i _=>n1 - (intOf i).toNat)
   case atStart =>
    refine ⟨0,by omega,rfl,rfl,?_,?_,?_,?_,?_⟩
    ·exact bel_
    ·simp
    ·exact ((BoxA.new _ _ _).alloc _).alloc _
    ·have h:=(BoxA.new (w.alloc (.cells #[.slice pA pn pc,.slice rA rn rc,.slice tA tn tc,.slice sA sn sc,.int .i64 kn,.slice RA Rn Rc,.slice SA Sn Sc,.map (some bm),.slice TA Tn Tc,.slice PA Pn Pc] 115)) 79 #[.int .i64 r.src,.int .i64 r.bor,.int .i64 r.pap,.slice A1 n1 c1,.int .i64 r.day,.int .i64 r.kn,.int .i64 r.un]).alloc (.cells #[.int .i64 s.src,.int .i64 s.bor,.int .i64 s.pap,.slice A2 n2 c2,.int .i64 s.day,.int .i64 s.kn,.int .i64 s.un] 79);simpa using h
    ·have h:=BoxA.new ((w.alloc (.cells #[.slice pA pn pc,.slice rA rn rc,.slice tA tn tc,.slice sA sn sc,.int .i64 kn,.slice RA Rn Rc,.slice SA Sn Sc,.map (some bm),.slice TA Tn Tc,.slice PA Pn Pc] 115)).alloc (.cells #[.int .i64 r.src,.int .i64 r.bor,.int .i64 r.pap,.slice A1 n1 c1,.int .i64 r.day,.int .i64 r.kn,.int .i64 r.un] 79)) 79 #[.int .i64 s.src,.int .i64 s.bor,.int .i64 s.pap,.slice A2 n2 c2,.int .i64 s.day,.int .i64 s.kn,.int .i64 s.un];simpa using h
   case round =>
    obtain ⟨k,hk,rfl,hany,hB,hsz,b0,b1,b2⟩:=hrel
    have HA:=hd_ hany
    clear hany
    have hs0:=hB.size
    have k0:=b0.cell
    have k1:=b1.cell
    have k2:=b2.cell
    have z0:=b0.lt
    have z1:=b1.lt
    have z2:=b2.lt
    by_cases hlt:k<n1
    ·obtain ⟨b,o,x,rfl,hb,hx,hc0⟩:=(show Is wr w.heap.size A1 n1 r.lv from Is.ext HX.out.1 hB lr_).at_ hlt
     have hbr:b<wr.heap.size:=by omega
     have hwx:=HX.out.2.2.2 x (List.mem_of_getElem? hx)
     have HXk:=hd_ hx
     clear hx
     have hIv:Is wr wr.heap.size A2 n2 s.lv:=(show Is w w.heap.size A2 n2 s.lv from HY.out.1).now hB
     have HIV:=hd_ hIv
     clear hIv
     cases hd2:decide (x∈s.lv) with
     | false =>
       have HF:Hid ((r.lv.take (k+1)).any (outB M P r s)=false):=by show _=_;rw [any_take_succ HXk.out,HA.out,outB,hd2];rfl
       have HD:=hd_ hd2
       clear hd2
       have hcon:=l_contains s.lv x false A2 n2 c2 wr HY.out.2.1 HIV.out HD.out
       go_wp2_with (go_at_call 71;refine hcon.mono ?_;rintro e w1 ⟨rfl,rfl⟩)
       go_roundw
       case rel=>exact ⟨k+1,by omega,by go_num,HF.out,hB,hsz,b0,b1,b2⟩
       case measure=>exact ms_
     | true =>
       have HD:=hd_ hd2
       clear hd2
       have hcon:=l_contains s.lv x true A2 n2 c2 wr HY.out.2.1 HIV.out HD.out
       cases hbk:backB M P r.src x s.day with
       | true =>
         have HF:Hid ((r.lv.take (k+1)).any (outB M P r s)=false):=by show _=_;rw [any_take_succ HXk.out,HA.out,outB,hbk];simp
         have hcb:=HBF.out r (some ⟨b,o,none⟩) n1 c1 x s.day true wr hB HX.out.2.2.1 hwx hbk
         clear hbk
         go_wp2_with (first | (go_at_call 71;refine hcon.mono ?_;rintro e w1 ⟨rfl,rfl⟩) | (go_at_call 127;refine hcb.mono ?_;rintro e w2 ⟨rfl,hb2⟩))
         go_roundw
         case rel=>exact ⟨k+1,by omega,by go_num,HF.out,bt_ hB hb2,Nat.le_trans hsz hb2.size,b0.ext hb2,b1.ext hb2,b2.ext hb2⟩
         case measure=>exact ms_
       | false =>
         have ho:q=true:=by rw [← HQ2.out];exact any_not HXk.out (by rw [outB,HD.out,hbk];rfl)
         subst ho
         have hcb:=HBF.out r (some ⟨b,o,none⟩) n1 c1 x s.day false wr hB HX.out.2.2.1 hwx hbk
         clear hbk
         go_wp2_with (first | (go_at_call 71;refine hcon.mono ?_;rintro e w1 ⟨rfl,rfl⟩) | (go_at_call 127;refine hcb.mono ?_;rintro e w2 ⟨rfl,hb2⟩))
         go_ret
         exact ⟨rfl,bt_ hB hb2⟩
    ·have hkn:Hid (k=n1):=by show _=_;omega
     have ho:q=false:=by
      have:=HA.out
      have hl:r.lv.length=n1:=HX.out.1.len
      rw [List.take_of_length_le (by rw [hl,hkn.out];exact lr_)] at this
      rw [← HQ2.out,this]
     subst ho
     go_wp2
     go_ret
     exact ⟨rfl,hB⟩
 ·have hpd:(r.pap != s.pap)=true:=by simpa using hp
  have hf:q=false:=by rw [← HQ.out,dblB,if_neg hp]
  subst hf
  clear hp
  go_enter Tryz.func84,Tryz.ntmps84
  go_wp2
  go_ret
  exact ⟨rfl,by exact bel_⟩
theorem r_counts2 (a b k:Int) (w:World):Calls Tryz.prog 101 #[.int .i64 a,.int .i64 b,.int .i64 k] w fun e w'=>e=.returned (.bool (countsB a b k))∧w=w':=by
 go_enter Tryz.func101,Tryz.ntmps101
 go_wp2
 all_goals
  go_ret
  refine ⟨ret_bool ?_,rfl⟩
  simp_all [countsB]
  try omega
theorem r_counts2_v (a b k:Int) (v:Bool) (w:World) (h:countsB a b k=v):Calls Tryz.prog 101 #[.int .i64 a,.int .i64 b,.int .i64 k] w fun e w'=>e=.returned (.bool v)∧w=w':=h ▸ r_counts2 a b k w
theorem r_earliest (t:Rtn) (r:Rcp) (A B:Option Addr) (n c n2 c2:Nat) (w:World) (hd:0≤r.day) (hd2:r.day≤1000000) :
 Calls Tryz.prog 102 #[.agg #[.int .i64 t.src,.int .i64 t.rcp,.int .i64 t.per,.slice A n c,.int .i64 t.lo,.int .i64 t.hi,.int .i64 t.kn,.int .i64 t.un],.agg #[.int .i64 r.src,.int .i64 r.bor,.int .i64 r.pap,.slice B n2 c2,.int .i64 r.day,.int .i64 r.kn,.int .i64 r.un]] w fun e w'=>e=.returned (.int .i64 (max t.lo (r.day+1)))∧Below w.heap.size w w':=by
 have hw:IntKind.i64.wrap (r.day+1)=r.day+1:=IntWalk.i64_in _ (by omega)
 go_enter Tryz.func102,Tryz.ntmps102
 go_wp2
 go_ret
 exact ⟨rfl,by exact bel_⟩
def rcAt (src kn:Int) (r:Rcp):Bool:=decide (r.src=src) && countsB r.kn r.un kn
def rcIx (R:List Rcp) (src kn:Int):Option Nat:=R.findIdx? (rcAt src kn)
def ixI:Option Nat→Int
 | some i=>i
 | none=>-1
theorem any_get {α:Type} {l:List α} {p:α→Bool} {k j:Nat} (h:(l.take k).any p=false) (hj:j<k) (hl:j<l.length):p l[j]=false:=by
 have h2:=List.any_eq_false.1 h l[j] (by rw [List.mem_take_iff_getElem];exact ⟨j,by omega,rfl⟩)
 simpa using h2
theorem ix_found {α:Type} {l:List α} {p:α→Bool} {k:Nat} {x:α} (hx:l[k]?=some x) (hp:p x=true) (h:(l.take k).any p=false):l.findIdx? p=some k:=by
 have hlt:k<l.length:=(List.getElem?_eq_some_iff.1 hx).1
 rw [List.findIdx?_eq_some_iff_getElem]
 refine ⟨hlt,by rw [(List.getElem?_eq_some_iff.1 hx).2];exact hp,fun j hj=>?_⟩
 rw [any_get h hj (by omega)]
 simp
theorem ix_none {α:Type} {l:List α} {p:α→Bool} (h:l.any p=false):l.findIdx? p=none:=by
 rw [List.findIdx?_eq_none_iff]
 intro x hx
 have:=List.any_eq_false.1 h x hx
 simpa using this
theorem any_take_succ2 {α:Type} {l:List α} {k:Nat} {x:α} {p:α→Bool} (h:l[k]?=some x):(l.take (k+1)).any p=((l.take k).any p || p x):=by rw [take_snoc_some h,List.any_append];simp
set_option maxRecDepth 10000 in
theorem r_receiptOf (l:Led) (x:Lsl) (src kn:Int) (w:World) (hn:x.rn≤1000000) (hd:LedIn w w.heap.size x l) :
 Calls Tryz.prog 39 #[.agg #[.slice x.pA x.pn x.pc,.slice x.rA x.rn x.rc,.slice x.tA x.tn x.tc,.slice x.sA x.sn x.sc],.int .i64 src,.int .i64 kn] w fun e w'=>e=.returned (.int .i64 (ixI (rcIx l.rc src kn)))∧Below w.heap.size w w':=by
 obtain ⟨pA,pn,pc,rA,rn,rc,tA,tn,tc,sA,sn,sc⟩:=x
 show Calls _ _ #[.agg #[.slice pA pn pc,.slice rA rn rc,.slice tA tn tc,.slice sA sn sc],_,_] _ _
 have HR:Hid (Rcs w w.heap.size rA rn l.rc):=by show Sq _ _ _ _ _ _ _;exact hd.r
 have HL:Hid (l.rc.length=rn):=by show _=_;exact hd.r.len
 have hrn:rn≤1000000:=hn
 clear hd hn
 obtain ⟨q,hq⟩:∃ q,rcIx l.rc src kn=q:=⟨_,rfl⟩
 rw [hq]
 have HQ:=hd_ hq
 clear hq
 go_enter Tryz.func39,Tryz.ntmps39
 go_wp2
 go_loopw [7] (fun i wr=>∃ k:Nat,k≤rn∧i=.int .i64 k∧(l.rc.take k).any (rcAt src kn)=false∧Below w.heap.size w wr∧BoxA wr w.heap.size 32 #[.slice pA pn pc,.slice rA rn rc,.slice tA tn tc,.slice sA sn sc]) (fun i _=>rn - (intOf i).toNat)
 case atStart=>exact ⟨0,by omega,rfl,rfl,by exact bel_,BoxA.new _ _ _⟩
 case round =>
  obtain ⟨k,hk,rfl,hany,hB,hbx⟩:=hrel
  have HA:=hd_ hany
  clear hany
  have hs0:=hB.size
  have kx:=hbx.cell
  have zx:=hbx.lt
  by_cases hlt:k<rn
  ·obtain ⟨b,o,r,rfl,hb,hx,A1,n1,c1,⟨h0,h1,h2,h3,h4,h5,h6⟩,hi1,hc1,hm1⟩:=(Sq.ext HR.out abR hB lr_).at_ hlt
   have HX:=hd_ hx
   have hbr:b<wr.heap.size:=by omega
   clear hx hi1
   have HB2:=hd_ (hB.alloc hs0 (.cells #[.int .i64 r.src,.int .i64 r.bor,.int .i64 r.pap,.slice A1 n1 c1,.int .i64 r.day,.int .i64 r.kn,.int .i64 r.un] 79))
   have HX2:=hd_ (hbx.alloc (.cells #[.int .i64 r.src,.int .i64 r.bor,.int .i64 r.pap,.slice A1 n1 c1,.int .i64 r.day,.int .i64 r.kn,.int .i64 r.un] 79))
   by_cases he:r.src=src
   ·have hed:(r.src == src)=true:=by simpa using he
    have HE:=hd_ he
    clear he
    cases hc:countsB r.kn r.un kn with
    | true =>
      have ho:q=some k:=by rw [← HQ.out];exact ix_found HX.out (by simp [rcAt,HE.out,hc]) HA.out
      subst ho
      have HC:=hd_ hc
      clear hc
      go_wp2_with (go_at_call 101;refine (r_counts2_v _ _ _ true _ HC.out).mono ?_;rintro e w1 ⟨rfl,rfl⟩)
      go_ret
      exact ⟨rfl,HB2.out⟩
    | false =>
      have HF:Hid ((l.rc.take (k+1)).any (rcAt src kn)=false):=by show _=_;rw [any_take_succ2 HX.out,HA.out];simp [rcAt,hc]
      have HC:=hd_ hc
      clear hc
      go_wp2_with (go_at_call 101;refine (r_counts2_v _ _ _ false _ HC.out).mono ?_;rintro e w1 ⟨rfl,rfl⟩)
      go_roundw
      case rel=>exact ⟨k+1,by omega,by go_num,HF.out,HB2.out,HX2.out⟩
      case measure=>exact ms_
   ·have hed:(r.src == src)=false:=by simpa using he
    have HF:Hid ((l.rc.take (k+1)).any (rcAt src kn)=false):=by show _=_;rw [any_take_succ2 HX.out,HA.out];simp [rcAt,he]
    clear he
    go_wp2
    go_roundw
    case rel=>exact ⟨k+1,by omega,by go_num,HF.out,HB2.out,HX2.out⟩
    case measure=>exact ms_
  ·have hkn:Hid (k=rn):=by show _=_;omega
   have ho:q=none:=by
    have:=HA.out
    rw [List.take_of_length_le (by rw [HL.out,hkn.out];exact lr_)] at this
    rw [← HQ.out]
    exact ix_none this
   subst ho
   go_wp2
   go_ret
   exact ⟨rfl,hB⟩
structure Vw where
 x:Lsl
 kn:Int
 (TA:Option Addr) (Tn Tc:Nat)
 (DA:Option Addr) (Dn Dc:Nat)
abbrev vwV (v:Vw):Value:=.agg #[.slice v.x.pA v.x.pn v.x.pc,.slice v.x.rA v.x.rn v.x.rc,.slice v.x.tA v.x.tn v.x.tc,.slice v.x.sA v.x.sn v.x.sc,.int .i64 v.kn,.slice v.TA v.Tn v.Tc,.slice v.DA v.Dn v.Dc]
theorem r_Has2_v (l:List Int) (v:Int) (q:Bool) (A:Option Addr) (n c:Nat) (w:World) (hn:n≤9223372036854775807) (hd:Is w w.heap.size A n l) (h:decide (v∈l)=q) :
 Calls Tryz.prog 18 #[.slice A n c,.int .i64 v] w fun e w'=>e=.returned (.bool q)∧Below w.heap.size w w':=h ▸ r_Has2 l v A n c w hn hd
set_option maxRecDepth 10000 in
theorem r_isOf (l:Led) (v:Vw) (i:Nat) (r:Rcp) (pap leaf:Int) (w:World) (hn:v.x.rn≤1000000) (hd:LedIn w w.heap.size v.x l) (hr:l.rc[i]?=some r) :
 Calls Tryz.prog 143 #[vwV v,.int .i64 i,.agg #[.int .i64 pap,.int .i64 leaf]] w fun e w'=>e=.returned (.bool (countsB r.kn r.un v.kn && isOfB pap leaf r))∧Below w.heap.size w w':=by
 obtain ⟨⟨pA,pn,pc,rA,rn,rc,tA,tn,tc,sA,sn,sc⟩,kn,TA,Tn,Tc,DA,Dn,Dc⟩:=v
 show Calls _ _ #[.agg #[.slice pA pn pc,.slice rA rn rc,.slice tA tn tc,.slice sA sn sc,.int .i64 kn,.slice TA Tn Tc,.slice DA Dn Dc],_,_] _ (fun e w'=>e=.returned (.bool (countsB r.kn r.un kn && isOfB pap leaf r))∧Below w.heap.size w w')
 have HR:Hid (Rcs w w.heap.size rA rn l.rc):=by show Sq _ _ _ _ _ _ _;exact hd.r
 have hrn:rn≤1000000:=hn
 have hi:i<rn:=by rw [← HR.out.len];exact (List.getElem?_eq_some_iff.1 hr).1
 obtain ⟨b,o,r',rfl,hb,hx,A1,n1,c1,⟨h0,h1,h2,h3,h4,h5,h6⟩,hi1,hc1,hm1⟩:=HR.out.at_ hi
 obtain rfl:r=r':=Option.some.inj (hr.symm.trans hx)
 have hn1:n1≤9223372036854775807:=by have:maxLen≤9223372036854775807:=(by decide);omega
 have HI:Hid (∀ W:World,Below w.heap.size w W→Is W W.heap.size A1 n1 r.lv):=by show ∀ _,_;exact fun W hW=>hi1.now hW
 clear hd hn hr hx hi1
 cases hc:countsB r.kn r.un kn with
 | false =>
   have HC:=hd_ hc
   clear hc
   go_enter Tryz.func143,Tryz.ntmps143
   go_wp2_with (go_at_call 101;refine (r_counts2_v _ _ _ false _ HC.out).mono ?_;rintro e w1 ⟨rfl,rfl⟩)
   go_ret
   exact ⟨rfl,by exact bel_⟩
 | true =>
   have HC:=hd_ hc
   clear hc
   by_cases hp:r.pap=pap
   ·have hpd:(r.pap == pap)=true:=by simpa using hp
    have hres:(true && isOfB pap leaf r)=decide (leaf∈r.lv):=by simp [isOfB,hp]
    rw [hres]
    clear hp hres
    go_enter Tryz.func143,Tryz.ntmps143
    go_wp2_with (first | (go_at_call 101;refine (r_counts2_v _ _ _ true _ HC.out).mono ?_;rintro e w1 ⟨rfl,rfl⟩) | (go_at_call 18;refine (r_Has2 r.lv leaf A1 n1 c1 _ hn1 (HI.out _ (by exact bel_))).mono ?_;rintro e w2 ⟨rfl,hb2⟩;have HB2:Below w.heap.size w w2:=bt_ (by exact bel_) hb2))
    go_ret
    exact ⟨rfl,HB2⟩
   ·have hpd:(r.pap == pap)=false:=by simpa using hp
    have hres:(true && isOfB pap leaf r)=false:=by simp [isOfB,hp]
    rw [hres]
    clear hp hres
    go_enter Tryz.func143,Tryz.ntmps143
    go_wp2_with (go_at_call 101;refine (r_counts2_v _ _ _ true _ HC.out).mono ?_;rintro e w1 ⟨rfl,rfl⟩)
    go_ret
    exact ⟨rfl,by exact bel_⟩
structure Opn where
 M:List ((Int × Int) × Nat)
 T:List Bool
 P:List (Int × Int)
def hiStep (d h:Int) (x:Rcp):Int:=if d<x.day then min h x.day else h
def hiL (d h:Int) (xs:List Rcp):Int:=xs.foldl (hiStep d) h
theorem hiL_snoc (d h:Int) (xs:List Rcp) (x:Rcp):hiL d h (xs ++ [x])=hiStep d (hiL d h xs) x:=by simp [hiL]
def hiK (R:List Rcp) (r:Rcp) (h:Int) (l:List Int):Int:=l.foldl (fun h x=>hiL r.day h (R.filter (isOfB r.pap x))) h
theorem hiK_succ {R:List Rcp} {r:Rcp} {h:Int} {l:List Int} {k:Nat} {x:Int} (hx:l[k]?=some x):hiK R r h (l.take (k+1))=hiL r.day (hiK R r h (l.take k)) (R.filter (isOfB r.pap x)):=by
 rw [take_snoc_some hx,hiK,List.foldl_append];rfl
def putK (M:List ((Int × Int) × Nat)) (src:Int) (i:Nat) (l:List Int):List ((Int × Int) × Nat):=l.foldl (fun M x=>putN M (src,x) i) M
theorem putK_succ {M:List ((Int × Int) × Nat)} {src:Int} {i:Nat} {l:List Int} {k:Nat} {x:Int} (hx:l[k]?=some x):putK M src i (l.take (k+1))=putN (putK M src i (l.take k)) (src,x) i:=by
 rw [take_snoc_some hx,putK,List.foldl_append];rfl
theorem getN_putK {M:List ((Int × Int) × Nat)} {src:Int} {i:Nat} {l:List Int} {k:Int × Int} {j:Nat} (h:getN (putK M src i l) k=some j):j=i∨getN M k=some j:=by
 induction l generalizing M with
 | nil=>exact .inr h
 | cons x l ih =>
   rcases ih (M:=putN M (src,x) i) h with h | h
   ·exact .inl h
   ·rw [getN_put] at h
    split at h
    ·exact .inl (Option.some.inj h).symm
    ·exact .inr h
def readR (kn:Int) (R:List Rcp) (M:List ((Int × Int) × Nat)) (t:Rtn):Option Rcp:=match findR R t.rcp with
 | none=>none
 | some r=>if (countsB t.kn t.un kn && (takesB (encM M) r t.lv && !decide (t.hi<max t.lo (r.day+1))))=true then some r else none
def readS (kn:Int) (R:List Rcp) (s:Opn) (i:Nat) (t:Rtn):Opn:=match readR kn R s.M t with
 | none=>⟨s.M,s.T,s.P.set i (0,100000)⟩
 | some r=>⟨putK s.M r.src i t.lv,s.T.set i true,(s.P.set i (0,100000)).set i (max t.lo (r.day+1),hiK R r t.hi t.lv)⟩
theorem read_len (kn:Int) (R:List Rcp) (s:Opn) (i:Nat) (t:Rtn):(readS kn R s i t).T.length=s.T.length∧(readS kn R s i t).P.length=s.P.length:=by
 unfold readS
 split <;> simp
theorem read_M {kn:Int} {R:List Rcp} {s:Opn} {i:Nat} {t:Rtn} {k:Int × Int} {j:Nat} (h:getN (readS kn R s i t).M k=some j):j=i∨getN s.M k=some j:=by
 unfold readS at h
 split at h
 ·exact .inr h
 ·exact getN_putK h
theorem findR_mem {R:List Rcp} {n:Int} {r:Rcp} (h:findR R n=some r):r∈R∧r.src=n:=by
 refine ⟨List.mem_of_find?_eq_some h,?_⟩
 have:=List.find?_some h
 simpa using this
def opnK (kn:Int) (R:List Rcp) (rt:List Rtn) (n:Nat) (k:Nat):Opn:=(List.range k).foldl (fun s i=>match rt[i]? with | some t=>readS kn R s i t | none=>s) ⟨[],List.replicate n false,List.replicate n (0,0)⟩
theorem opnK_succ {kn:Int} {R:List Rcp} {rt:List Rtn} {n k:Nat} {t:Rtn} (h:rt[k]?=some t):opnK kn R rt n (k+1)=readS kn R (opnK kn R rt n k) k t:=by
 rw [opnK,List.range_succ,List.foldl_append]
 simp only [List.foldl_cons,List.foldl_nil,h]
 rfl
theorem opnK_zero (kn:Int) (R:List Rcp) (rt:List Rtn) (n:Nat):opnK kn R rt n 0=⟨[],List.replicate n false,List.replicate n (0,0)⟩:=rfl
theorem opnK_len (kn:Int) (R:List Rcp) (rt:List Rtn) (n:Nat):∀ k,(opnK kn R rt n k).T.length=n∧(opnK kn R rt n k).P.length=n
 | 0=>by simp [opnK_zero]
 | k+1=>by
   cases h:rt[k]? with
   | none =>
     have e:opnK kn R rt n (k+1)=opnK kn R rt n k:=by
      rw [opnK,List.range_succ,List.foldl_append]
      simp only [List.foldl_cons,List.foldl_nil,h]
      rfl
     rw [e]
     exact opnK_len kn R rt n k
   | some t =>
     rw [opnK_succ h]
     have h1:=read_len kn R (opnK kn R rt n k) k t
     have h2:=opnK_len kn R rt n k
     exact ⟨h1.1.trans h2.1,h1.2.trans h2.2⟩
theorem opnK_M (kn:Int) (R:List Rcp) (rt:List Rtn) (n:Nat):∀ (m:Nat) (k:Int × Int) (j:Nat),getN (opnK kn R rt n m).M k=some j→j<m
 | 0,k,j,h=>by simp [opnK_zero,getN] at h
 | m+1,k,j,h=>by
   cases ht:rt[m]? with
   | none =>
     have e:opnK kn R rt n (m+1)=opnK kn R rt n m:=by
      rw [opnK,List.range_succ,List.foldl_append]
      simp only [List.foldl_cons,List.foldl_nil,ht]
      rfl
     rw [e] at h
     exact Nat.lt_succ_of_lt (opnK_M kn R rt n m k j h)
   | some t =>
     rw [opnK_succ ht] at h
     rcases read_M h with h | h
     ·omega
     ·exact Nat.lt_succ_of_lt (opnK_M kn R rt n m k j h)
def cntR (l:Led) (kn:Int):List Rcp:=l.rc.filter fun r=>countsB r.kn r.un kn
def cntS (l:Led) (kn:Int):List Sgt:=l.sg.filter fun s=>countsB s.kn s.un kn
def opnL (l:Led) (kn:Int):Opn:=opnK kn (cntR l kn) l.rt l.rt.length l.rt.length
theorem BoxA.setF {W:World} {B:Nat} {t:TypeId} {P:List (Int × Int)} (h:BoxA W B t (folCells P).toArray) (i:Nat) (d:Int × Int) :
 BoxA ((W.setCell ⟨B,i*2,none⟩ (.int .i64 d.1)).setCell ⟨B,i*2+1,none⟩ (.int .i64 d.2)) B t (folCells (P.set i d)).toArray:=by
 have:=(h.set (i*2) (.int .i64 d.1)).set (i*2+1) (.int .i64 d.2)
 rw [← folCells_set P i d]
 simpa using this
def boolL (T:List Bool):List Value:=T.map fun b=>.bool b
theorem BoxA.setT {W:World} {B:Nat} {t:TypeId} {T:List Bool} (h:BoxA W B t (boolL T).toArray) (i:Nat) (b:Bool):BoxA (W.setCell ⟨B,i,none⟩ (.bool b)) B t (boolL (T.set i b)).toArray:=by
 have:=h.set i (.bool b)
 simpa [boolL,List.map_set] using this
theorem BoxA.sqF {W:World} {B B':Nat} {t:TypeId} {P:List (Int × Int)} {n:Nat} (h:BoxA W B t (folCells P).toArray) (hn:P.length=n) (hB:B<B'):Sq QF 2 W B' (some ⟨B,0,none⟩) n P:=by
 refine ⟨hn,fun _=>⟨B,0,rfl,hB,fun k f hf=>?_⟩⟩
 obtain ⟨h1,h2⟩:=folCells_get P k f hf
 exact ⟨by rw [h.cell];simpa using h1,by rw [h.cell,← h2];simp⟩
theorem BoxA.sqT {W:World} {B B':Nat} {t:TypeId} {T:List Bool} {n:Nat} (h:BoxA W B t (boolL T).toArray) (hn:T.length=n) (hB:B<B'):Sq QB 1 W B' (some ⟨B,0,none⟩) n T:=by
 refine ⟨hn,fun _=>⟨B,0,rfl,hB,fun k f hf=>?_⟩⟩
 show World.cell? _ _=_
 rw [h.cell]
 simp [boolL,hf]
theorem flat_get {α:Type} (f:α→List Value) (s:Nat) (hs:∀ x,(f x).length=s):∀ (xs:List α) (k j:Nat) (x:α),xs[k]?=some x→j<s→(xs.flatMap f)[k*s+j]?=(f x)[j]?
 | [],k,j,x,h,_=>by simp at h
 | y :: xs,0,j,x,h,hj=>by
   simp at h
   subst h
   rw [List.flatMap_cons,Nat.zero_mul,Nat.zero_add,List.getElem?_append_left (by rw [hs];exact hj)]
 | y :: xs,k+1,j,x,h,hj=>by
   rw [List.flatMap_cons,List.getElem?_append_right (by rw [hs,Nat.succ_mul];omega),hs,← flat_get f s hs xs k j x (by simpa using h) hj]
   congr 1
   rw [Nat.succ_mul]
   omega
theorem flat_len {α:Type} (f:α→List Value) (s:Nat) (hs:∀ x,(f x).length=s) (xs:List α):(xs.flatMap f).length=xs.length*s:=by
 induction xs with
 | nil=>simp
 | cons x xs ih=>rw [List.flatMap_cons,List.length_append,hs,ih,List.length_cons,Nat.succ_mul];omega
abbrev rvC (v:Rv):List Value:=[.int .i64 v.r.src,.int .i64 v.r.bor,.int .i64 v.r.pap,.slice v.A v.n v.c,.int .i64 v.r.day,.int .i64 v.r.kn,.int .i64 v.r.un]
def rvCells (xs:List Rv):List Value:=xs.flatMap rvC
theorem sq_rv {w:World} {B n:Nat} {A:Option Addr} {xs:List Rv} (h:Rd w B 7 A n (rvCells xs)) (hn:xs.length=n) (hv:∀ v∈xs,Is w B v.A v.n v.r.lv∧v.n≤v.c∧v.c≤maxLen):Sq QV 7 w B A n xs:=by
 refine ⟨hn,fun h0=>?_⟩
 obtain ⟨b,o,e,hb,hc⟩:=h.2 h0
 refine ⟨b,o,e,hb,fun k v hk=>⟨?_,hv v (List.mem_of_getElem? hk)⟩⟩
 have g:∀ j u,j<7→(rvC v)[j]?=some u→w.cell? ⟨b,o+k*7+j,none⟩=some u:=fun j u hj hu=>by
  have:=hc (k*7+j) u (by rw [← hu];exact flat_get rvC 7 (fun _=>rfl) xs k j v hk hj)
  rwa [← Nat.add_assoc] at this
 exact ⟨g 0 _ (by omega) rfl,g 1 _ (by omega) rfl,g 2 _ (by omega) rfl,g 3 _ (by omega) rfl,g 4 _ (by omega) rfl,g 5 _ (by omega) rfl,g 6 _ (by omega) rfl⟩
theorem sq_sg {w:World} {B n:Nat} {A:Option Addr} {xs:List Sgt} (h:Rd w B 7 A n (sgCells xs)) (hn:xs.length=n):Sgs w B A n xs:=by
 refine ⟨hn,fun h0=>?_⟩
 obtain ⟨b,o,e,hb,hc⟩:=h.2 h0
 refine ⟨b,o,e,hb,fun k v hk=>?_⟩
 have g:∀ j u,j<7→([.int .i64 v.src,.int .i64 v.per,.int .i64 v.pap,.int .i64 v.leaf,.int .i64 v.day,.int .i64 v.kn,.int .i64 v.un]:List Value)[j]?=some u→w.cell? ⟨b,o+k*7+j,none⟩=some u:=fun j u hj hu=>by
  have:=hc (k*7+j) u (by rw [← hu];exact flat_get (fun s:Sgt=>[.int .i64 s.src,.int .i64 s.per,.int .i64 s.pap,.int .i64 s.leaf,.int .i64 s.day,.int .i64 s.kn,.int .i64 s.un]) 7 (fun _=>rfl) xs k j v hk hj)
  rwa [← Nat.add_assoc] at this
 exact ⟨g 0 _ (by omega) rfl,g 1 _ (by omega) rfl,g 2 _ (by omega) rfl,g 3 _ (by omega) rfl,g 4 _ (by omega) rfl,g 5 _ (by omega) rfl,g 6 _ (by omega) rfl⟩
end Go.Proofs.YtmcmbicapdcfmaaGreat
