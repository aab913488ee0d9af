/- Layer 2 of the texts that LoanBack takes: Basq. -/
import Derived.Test.YtmcmbicapdcfmaaGreatBarq
set_option linter.unusedVariables false
set_option linter.unusedSimpArgs false
set_option maxHeartbeats 16000000
namespace Go.Proofs.YtmcmbicapdcfmaaGreat
open Go.RowKit Go.Maps
def backB (M:List ((Int × Int) × Nat)) (P:List (Int × Int)) (src leaf day:Int):Bool:=match getN M (src,leaf) with
 | some i=>decide ((P.getD i (0,0)).1≤day)
 | none=>false
set_option maxRecDepth 10000 in
theorem p_backFor (M:List ((Int × Int) × Nat)) (R:List Rcp) (P:List (Int × Int)) (a:Acc) (v:Rv) (leaf day:Int) (w:World) (h:AccR w a M R P) (hws:(Lit.int .i64 v.r.src).wf=true) (hwl:(Lit.int .i64 leaf).wf=true) :
 Calls Tryz.prog 127 #[accV a,rvV v,.int .i64 leaf,.int .i64 day] w fun e w'=>e=.returned (.bool (backB M P v.r.src leaf day))∧Below w.heap.size w w':=by
 obtain ⟨⟨pA,pn,pc,rA,rn,rc,tA,tn,tc,sA,sn,sc⟩,kn,RA,Rn,Rc,SA,Sn,Sc,bm,TA,Tn,Tc,PA,Pn,Pc⟩:=a
 obtain ⟨r,A1,n1,c1⟩:=v
 show Calls _ _ #[.agg #[.slice pA pn pc,.slice rA rn rc,.slice tA tn tc,.slice sA sn sc,.int .i64 kn,.slice RA Rn Rc,.slice SA Sn Sc,.map (some bm),.slice TA Tn Tc,.slice PA Pn Pc],.agg #[.int .i64 r.src,.int .i64 r.bor,.int .i64 r.pap,.slice A1 n1 c1,.int .i64 r.day,.int .i64 r.kn,.int .i64 r.un],_,_] _ _
 have HP:Hid (Sq QF 2 w w.heap.size PA Pn P):=by show Sq _ _ _ _ _ _ _;exact h.p
 have hPn:Pn≤100000:=h.nP
 have hM:∀ i,getN M (r.src,leaf)=some i→i<Pn:=fun i hi=>h.mP _ i hi
 have hlk:=(show MapS w bm (encM M) from h.m).ext (w':=(w.alloc (.cells #[.slice pA pn pc,.slice rA rn rc,.slice tA tn tc,.slice sA sn sc,.int .i64 kn,.slice RA Rn Rc,.slice SA Sn Sc,.map (some bm),.slice TA Tn Tc,.slice PA Pn Pc] 115)).alloc (.cells #[.int .i64 r.src,.int .i64 r.bor,.int .i64 r.pap,.slice A1 n1 c1,.int .i64 r.day,.int .i64 r.kn,.int .i64 r.un] 79)) (by exact bel_) |>.look2 key_slips Tryz.underlying112 (a:=(r.src,leaf)) ⟨hws,hwl⟩ (zeroInt2 _)
 rw [getG_enc] at hlk
 clear h hws
 rw [show backB M P (⟨r,A1,n1,c1⟩:Rv).r.src leaf day=backB M P r.src leaf day from rfl,backB]
 cases hg:getN M (r.src,leaf) with
 | none =>
   rw [hg] at hlk
   simp only [Option.map_none,Option.getD_none,Option.isSome_none] at hlk
   clear hg
   go_enter Tryz.func127,Tryz.ntmps127
   go_wp2
   go_ret
   exact ⟨rfl,by exact bel_⟩
 | some i =>
   have hi:=hM i hg
   rw [hg] at hlk
   simp only [Option.map_some,Option.getD_some,Option.isSome_some] at hlk
   clear hg hM
   obtain ⟨b,o,d,rfl,hbb,hd,q0,q1⟩:=HP.out.at_ hi
   have hgd:P.getD i (0,0)=d:=by rw [List.getD_eq_getElem?_getD,hd];rfl
   simp only [hgd]
   clear hgd hd
   go_enter Tryz.func127,Tryz.ntmps127
   go_wp2
   go_ret
   exact ⟨rfl,by exact bel_⟩
theorem p_backFor_v (M:List ((Int × Int) × Nat)) (R:List Rcp) (P:List (Int × Int)) (a:Acc) (v:Rv) (leaf day:Int) (q:Bool) (w:World) (h:AccR w a M R P) (hws:(Lit.int .i64 v.r.src).wf=true) (hwl:(Lit.int .i64 leaf).wf=true) (hq:backB M P v.r.src leaf day=q) :
 Calls Tryz.prog 127 #[accV a,rvV v,.int .i64 leaf,.int .i64 day] w fun e w'=>e=.returned (.bool q)∧Below w.heap.size w w':=hq ▸ p_backFor M R P a v leaf day w h hws hwl
def outB (M:List ((Int × Int) × Nat)) (P:List (Int × Int)) (u v:Rcp) (leaf:Int):Bool:=decide (leaf∈v.lv) && !backB M P u.src leaf v.day
def dblB (M:List ((Int × Int) × Nat)) (P:List (Int × Int)) (x y:Rcp):Bool :=
 if x.pap=y.pap then (if y.day<x.day then y.lv.any (outB M P y x) else x.lv.any (outB M P x y)) else false
theorem any_not {l:List Int} {p:Int→Bool} {k:Nat} {x:Int} (hx:l[k]?=some x) (h:p x=true):l.any p=true:=List.any_eq_true.2 ⟨x,List.mem_of_getElem? hx,h⟩
theorem any_take_succ {l:List Int} {k:Nat} {x:Int} {p:Int→Bool} (h:l[k]?=some x):(l.take (k+1)).any p=((l.take k).any p || p x):=by rw [take_snoc_some h,List.any_append];simp
structure RvIn (w:World) (v:Rv):Prop where
 i:Is w w.heap.size v.A v.n v.r.lv
 n:v.n≤1000000
 ws:(Lit.int .i64 v.r.src).wf=true
 wl:∀ x∈v.r.lv,(Lit.int .i64 x).wf=true
theorem RvIn.now {w w':World} {v:Rv} (h:RvIn w v) (hb:Below w.heap.size w w'):RvIn w' v:=⟨h.i.now hb,h.n,h.ws,h.wl⟩
set_option maxRecDepth 10000 in
theorem p_areDouble (M:List ((Int × Int) × Nat)) (R:List Rcp) (P:List (Int × Int)) (a:Acc) (x y:Rv) (w:World) (h:AccR w a M R P) (hx:RvIn w x) (hy:RvIn w y) :
 Calls Tryz.prog 84 #[accV a,rvV x,rvV y] w fun e w'=>e=.returned (.bool (dblB M P x.r y.r))∧Below w.heap.size w w':=by
 obtain ⟨⟨pA,pn,pc,rA,rn,rc,tA,tn,tc,sA,sn,sc⟩,kn,RA,Rn,Rc,SA,Sn,Sc,bm,TA,Tn,Tc,PA,Pn,Pc⟩:=a
 have HBF:Hid (∀ (u:Rcp) (A:Option Addr) (n c:Nat) (leaf day:Int) (q:Bool) (W:World),Below w.heap.size w W→(Lit.int .i64 u.src).wf=true→(Lit.int .i64 leaf).wf=true→backB M P u.src leaf day=q→Calls Tryz.prog 127 #[.agg #[.slice pA pn pc,.slice rA rn rc,.slice tA tn tc,.slice sA sn sc,.int .i64 kn,.slice RA Rn Rc,.slice SA Sn Sc,.map (some bm),.slice TA Tn Tc,.slice PA Pn Pc],.agg #[.int .i64 u.src,.int .i64 u.bor,.int .i64 u.pap,.slice A n c,.int .i64 u.day,.int .i64 u.kn,.int .i64 u.un],.int .i64 leaf,.int .i64 day] W fun e w'=>e=.returned (.bool q)∧Below W.heap.size W w'):=by
  show ∀ _,_
  exact fun u A n c leaf day q W hW h1 h2 h3=>p_backFor_v M R P ⟨⟨pA,pn,pc,rA,rn,rc,tA,tn,tc,sA,sn,sc⟩,kn,RA,Rn,Rc,SA,Sn,Sc,bm,TA,Tn,Tc,PA,Pn,Pc⟩ ⟨u,A,n,c⟩ leaf day q W (h.now hW) h1 h2 h3
 obtain ⟨r,A1,n1,c1⟩:=x
 obtain ⟨s,A2,n2,c2⟩:=y
 have HX:Hid (Is w w.heap.size A1 n1 r.lv∧n1≤1000000∧(Lit.int .i64 r.src).wf=true∧∀ x∈r.lv,(Lit.int .i64 x).wf=true):=by show _∧_;exact ⟨hx.i,hx.n,hx.ws,hx.wl⟩
 have HY:Hid (Is w w.heap.size A2 n2 s.lv∧n2≤1000000∧(Lit.int .i64 s.src).wf=true∧∀ x∈s.lv,(Lit.int .i64 x).wf=true):=by show _∧_;exact ⟨hy.i,hy.n,hy.ws,hy.wl⟩
 clear h hx hy
 show Calls _ _ #[.agg #[.slice pA pn pc,.slice rA rn rc,.slice tA tn tc,.slice sA sn sc,.int .i64 kn,.slice RA Rn Rc,.slice SA Sn Sc,.map (some bm),.slice TA Tn Tc,.slice PA Pn Pc],.agg #[.int .i64 r.src,.int .i64 r.bor,.int .i64 r.pap,.slice A1 n1 c1,.int .i64 r.day,.int .i64 r.kn,.int .i64 r.un],.agg #[.int .i64 s.src,.int .i64 s.bor,.int .i64 s.pap,.slice A2 n2 c2,.int .i64 s.day,.int .i64 s.kn,.int .i64 s.un]] _ _
 obtain ⟨q,hq⟩:∃ q,dblB M P (⟨r,A1,n1,c1⟩:Rv).r (⟨s,A2,n2,c2⟩:Rv).r=q:=⟨_,rfl⟩
 rw [hq]
 have HQ:Hid (dblB M P r s=q):=by show _=_;exact hq
 clear hq
 by_cases hp:r.pap=s.pap
 ·have hpd:(r.pap != s.pap)=false:=by simpa using hp
  have HPp:=hd_ hp
  clear hp
  by_cases hd:s.day<r.day
  ·have HQ2:Hid (s.lv.any (outB M P s r)=q):=by show _=_;rw [← HQ.out,dblB,if_pos HPp.out,if_pos hd]
   have hnu:n2≤1000000:=HY.out.2.1
   go_enter Tryz.func84,Tryz.ntmps84
   go_wp2
   go_loopw [24] (fun i wr=>∃ k:Nat,k≤n2∧i=.int .i64 k∧(s.lv.take k).any (outB M P s r)=false∧Below w.heap.size w wr∧w.heap.size+3≤wr.heap.size∧BoxA wr w.heap.size 115 #[.slice pA pn pc,.slice rA rn rc,.slice tA tn tc,.slice sA sn sc,.int .i64 kn,.slice RA Rn Rc,.slice SA Sn Sc,.map (some bm),.slice TA Tn Tc,.slice PA Pn Pc]∧BoxA wr (w.heap.size+1) 79 #[.int .i64 s.src,.int .i64 s.bor,.int .i64 s.pap,.slice A2 n2 c2,.int .i64 s.day,.int .i64 s.kn,.int .i64 s.un]∧BoxA wr (w.heap.size+1+1) 79 #[.int .i64 r.src,.int .i64 r.bor,.int .i64 r.pap,.slice A1 n1 c1,.int .i64 r.day,.int .i64 r.kn,.int .i64 r.un]) (fun i _=>n2 - (intOf i).toNat)
   case atStart =>
    refine ⟨0,by omega,rfl,rfl,?_,?_,?_,?_,?_⟩
    ·exact bel_
    ·simp
    ·exact ((BoxA.new _ _ _).alloc _).alloc _
    ·have h:=(BoxA.new (w.alloc (.cells #[.slice pA pn pc,.slice rA rn rc,.slice tA tn tc,.slice sA sn sc,.int .i64 kn,.slice RA Rn Rc,.slice SA Sn Sc,.map (some bm),.slice TA Tn Tc,.slice PA Pn Pc] 115)) 79 #[.int .i64 s.src,.int .i64 s.bor,.int .i64 s.pap,.slice A2 n2 c2,.int .i64 s.day,.int .i64 s.kn,.int .i64 s.un]).alloc (.cells #[.int .i64 r.src,.int .i64 r.bor,.int .i64 r.pap,.slice A1 n1 c1,.int .i64 r.day,.int .i64 r.kn,.int .i64 r.un] 79);simpa using h
    ·have h:=BoxA.new ((w.alloc (.cells #[.slice pA pn pc,.slice rA rn rc,.slice tA tn tc,.slice sA sn sc,.int .i64 kn,.slice RA Rn Rc,.slice SA Sn Sc,.map (some bm),.slice TA Tn Tc,.slice PA Pn Pc] 115)).alloc (.cells #[.int .i64 s.src,.int .i64 s.bor,.int .i64 s.pap,.slice A2 n2 c2,.int .i64 s.day,.int .i64 s.kn,.int .i64 s.un] 79)) 79 #[.int .i64 r.src,.int .i64 r.bor,.int .i64 r.pap,.slice A1 n1 c1,.int .i64 r.day,.int .i64 r.kn,.int .i64 r.un];simpa using h
   case round =>
    obtain ⟨k,hk,rfl,hany,hB,hsz,b0,b1,b2⟩:=hrel
    have HA:=hd_ hany
    clear hany
    have hs0:=hB.size
    have k0:=b0.cell
    have k1:=b1.cell
    have k2:=b2.cell
    have z0:=b0.lt
    have z1:=b1.lt
    have z2:=b2.lt
    by_cases hlt:k<n2
    ·obtain ⟨b,o,x,rfl,hb,hx,hc0⟩:=(show Is wr w.heap.size A2 n2 s.lv from Is.ext HY.out.1 hB lr_).at_ hlt
     have hbr:b<wr.heap.size:=by omega
     have hwx:=HY.out.2.2.2 x (List.mem_of_getElem? hx)
     have HXk:=hd_ hx
     clear hx
     have hIv:Is wr wr.heap.size A1 n1 r.lv:=(show Is w w.heap.size A1 n1 r.lv from HX.out.1).now hB
     have HIV:=hd_ hIv
     clear hIv
     cases hd2:decide (x∈r.lv) with
     | false =>
       have HF:Hid ((s.lv.take (k+1)).any (outB M P s r)=false):=by show _=_;rw [any_take_succ HXk.out,HA.out,outB,hd2];rfl
       have HD:=hd_ hd2
       clear hd2
       have hcon:=l_contains r.lv x false A1 n1 c1 wr HX.out.2.1 HIV.out HD.out
       go_wp2_with (go_at_call 71;refine hcon.mono ?_;rintro e w1 ⟨rfl,rfl⟩)
       go_roundw
       case rel=>exact ⟨k+1,by omega,by go_num,HF.out,hB,hsz,b0,b1,b2⟩
       case measure=>exact ms_
     | true =>
       have HD:=hd_ hd2
       clear hd2
       have hcon:=l_contains r.lv x true A1 n1 c1 wr HX.out.2.1 HIV.out HD.out
       cases hbk:backB M P s.src x r.day with
       | true =>
         have HF:Hid ((s.lv.take (k+1)).any (outB M P s r)=false):=by show _=_;rw [any_take_succ HXk.out,HA.out,outB,hbk];simp
         have hcb:=HBF.out s (some ⟨b,o,none⟩) n2 c2 x r.day true wr hB HY.out.2.2.1 hwx hbk
         clear hbk
         go_wp2_with (first | (go_at_call 71;refine hcon.mono ?_;rintro e w1 ⟨rfl,rfl⟩) | (go_at_call 127;refine hcb.mono ?_;rintro e w2 ⟨rfl,hb2⟩))
         go_roundw
         case rel=>exact ⟨k+1,by omega,by go_num,HF.out,bt_ hB hb2,Nat.le_trans hsz hb2.size,b0.ext hb2,b1.ext hb2,b2.ext hb2⟩
         case measure=>exact ms_
       | false =>
         have ho:q=true:=by rw [← HQ2.out];exact any_not HXk.out (by rw [outB,HD.out,hbk];rfl)
         subst ho
         have hcb:=HBF.out s (some ⟨b,o,none⟩) n2 c2 x r.day false wr hB HY.out.2.2.1 hwx hbk
         clear hbk
         go_wp2_with (first | (go_at_call 71;refine hcon.mono ?_;rintro e w1 ⟨rfl,rfl⟩) | (go_at_call 127;refine hcb.mono ?_;rintro e w2 ⟨rfl,hb2⟩))
         go_ret
         exact ⟨rfl,bt_ hB hb2⟩
    ·have hkn:Hid (k=n2):=by show _=_;omega
     have ho:q=false:=by
      have:=HA.out
      have hl:s.lv.length=n2:=HY.out.1.len
      rw [List.take_of_length_le (by rw [hl,hkn.out];exact lr_)] at this
      rw [← HQ2.out,this]
     subst ho
     go_wp2
     go_ret
     exact ⟨rfl,hB⟩
  ·have HQ2:Hid (r.lv.any (outB M P r s)=q):=by show _=_;rw [← HQ.out,dblB,if_pos HPp.out,if_neg hd]
   have hnu:n1≤1000000:=HX.out.2.1
   go_enter Tryz.func84,Tryz.ntmps84
   go_wp2
   go_loopw [24] (fun i wr=>∃ k:Nat,k≤n1∧i=.int .i64 k∧(r.lv.take k).any (outB M P r s)=false∧Below w.heap.size w wr∧w.heap.size+3≤wr.heap.size∧BoxA wr w.heap.size 115 #[.slice pA pn pc,.slice rA rn rc,.slice tA tn tc,.slice sA sn sc,.int .i64 kn,.slice RA Rn Rc,.slice SA Sn Sc,.map (some bm),.slice TA Tn Tc,.slice PA Pn Pc]∧BoxA wr (w.heap.size+1) 79 #[.int .i64 r.src,.int .i64 r.bor,.int .i64 r.pap,.slice A1 n1 c1,.int .i64 r.day,.int .i64 r.kn,.int .i64 r.un]∧BoxA wr (w.heap.size+1+1) 79 #[.int .i64 s.src,.int .i64 s.bor,.int .i64 s.pap,.slice A2 n2 c2,.int .i64 s.day,.int .i64 s.kn,.int .i64 s.un]) (fun i _=>n1 - (intOf i).toNat)
   case atStart =>
    refine ⟨0,by omega,rfl,rfl,?_,?_,?_,?_,?_⟩
    ·exact bel_
    ·simp
    ·exact ((BoxA.new _ _ _).alloc _).alloc _
    ·have h:=(BoxA.new (w.alloc (.cells #[.slice pA pn pc,.slice rA rn rc,.slice tA tn tc,.slice sA sn sc,.int .i64 kn,.slice RA Rn Rc,.slice SA Sn Sc,.map (some bm),.slice TA Tn Tc,.slice PA Pn Pc] 115)) 79 #[.int .i64 r.src,.int .i64 r.bor,.int .i64 r.pap,.slice A1 n1 c1,.int .i64 r.day,.int .i64 r.kn,.int .i64 r.un]).alloc (.cells #[.int .i64 s.src,.int .i64 s.bor,.int .i64 s.pap,.slice A2 n2 c2,.int .i64 s.day,.int .i64 s.kn,.int .i64 s.un] 79);simpa using h
    ·have h:=BoxA.new ((w.alloc (.cells #[.slice pA pn pc,.slice rA rn rc,.slice tA tn tc,.slice sA sn sc,.int .i64 kn,.slice RA Rn Rc,.slice SA Sn Sc,.map (some bm),.slice TA Tn Tc,.slice PA Pn Pc] 115)).alloc (.cells #[.int .i64 r.src,.int .i64 r.bor,.int .i64 r.pap,.slice A1 n1 c1,.int .i64 r.day,.int .i64 r.kn,.int .i64 r.un] 79)) 79 #[.int .i64 s.src,.int .i64 s.bor,.int .i64 s.pap,.slice A2 n2 c2,.int .i64 s.day,.int .i64 s.kn,.int .i64 s.un];simpa using h
   case round =>
    obtain ⟨k,hk,rfl,hany,hB,hsz,b0,b1,b2⟩:=hrel
    have HA:=hd_ hany
    clear hany
    have hs0:=hB.size
    have k0:=b0.cell
    have k1:=b1.cell
    have k2:=b2.cell
    have z0:=b0.lt
    have z1:=b1.lt
    have z2:=b2.lt
    by_cases hlt:k<n1
    ·obtain ⟨b,o,x,rfl,hb,hx,hc0⟩:=(show Is wr w.heap.size A1 n1 r.lv from Is.ext HX.out.1 hB lr_).at_ hlt
     have hbr:b<wr.heap.size:=by omega
     have hwx:=HX.out.2.2.2 x (List.mem_of_getElem? hx)
     have HXk:=hd_ hx
     clear hx
     have hIv:Is wr wr.heap.size A2 n2 s.lv:=(show Is w w.heap.size A2 n2 s.lv from HY.out.1).now hB
     have HIV:=hd_ hIv
     clear hIv
     cases hd2:decide (x∈s.lv) with
     | false =>
       have HF:Hid ((r.lv.take (k+1)).any (outB M P r s)=false):=by show _=_;rw [any_take_succ HXk.out,HA.out,outB,hd2];rfl
       have HD:=hd_ hd2
       clear hd2
       have hcon:=l_contains s.lv x false A2 n2 c2 wr HY.out.2.1 HIV.out HD.out
       go_wp2_with (go_at_call 71;refine hcon.mono ?_;rintro e w1 ⟨rfl,rfl⟩)
       go_roundw
       case rel=>exact ⟨k+1,by omega,by go_num,HF.out,hB,hsz,b0,b1,b2⟩
       case measure=>exact ms_
     | true =>
       have HD:=hd_ hd2
       clear hd2
       have hcon:=l_contains s.lv x true A2 n2 c2 wr HY.out.2.1 HIV.out HD.out
       cases hbk:backB M P r.src x s.day with
       | true =>
         have HF:Hid ((r.lv.take (k+1)).any (outB M P r s)=false):=by show _=_;rw [any_take_succ HXk.out,HA.out,outB,hbk];simp
         have hcb:=HBF.out r (some ⟨b,o,none⟩) n1 c1 x s.day true wr hB HX.out.2.2.1 hwx hbk
         clear hbk
         go_wp2_with (first | (go_at_call 71;refine hcon.mono ?_;rintro e w1 ⟨rfl,rfl⟩) | (go_at_call 127;refine hcb.mono ?_;rintro e w2 ⟨rfl,hb2⟩))
         go_roundw
         case rel=>exact ⟨k+1,by omega,by go_num,HF.out,bt_ hB hb2,Nat.le_trans hsz hb2.size,b0.ext hb2,b1.ext hb2,b2.ext hb2⟩
         case measure=>exact ms_
       | false =>
         have ho:q=true:=by rw [← HQ2.out];exact any_not HXk.out (by rw [outB,HD.out,hbk];rfl)
         subst ho
         have hcb:=HBF.out r (some ⟨b,o,none⟩) n1 c1 x s.day false wr hB HX.out.2.2.1 hwx hbk
         clear hbk
         go_wp2_with (first | (go_at_call 71;refine hcon.mono ?_;rintro e w1 ⟨rfl,rfl⟩) | (go_at_call 127;refine hcb.mono ?_;rintro e w2 ⟨rfl,hb2⟩))
         go_ret
         exact ⟨rfl,bt_ hB hb2⟩
    ·have hkn:Hid (k=n1):=by show _=_;omega
     have ho:q=false:=by
      have:=HA.out
      have hl:r.lv.length=n1:=HX.out.1.len
      rw [List.take_of_length_le (by rw [hl,hkn.out];exact lr_)] at this
      rw [← HQ2.out,this]
     subst ho
     go_wp2
     go_ret
     exact ⟨rfl,hB⟩
 ·have hpd:(r.pap != s.pap)=true:=by simpa using hp
  have hf:q=false:=by rw [← HQ.out,dblB,if_neg hp]
  subst hf
  clear hp
  go_enter Tryz.func84,Tryz.ntmps84
  go_wp2
  go_ret
  exact ⟨rfl,by exact bel_⟩
theorem r_counts2 (a b k:Int) (w:World):Calls Tryz.prog 101 #[.int .i64 a,.int .i64 b,.int .i64 k] w fun e w'=>e=.returned (.bool (countsB a b k))∧w=w':=by
 go_enter Tryz.func101,Tryz.ntmps101
 go_wp2
 all_goals
  go_ret
  refine ⟨ret_bool ?_,rfl⟩
  simp_all [countsB]
  try omega
theorem r_counts2_v (a b k:Int) (v:Bool) (w:World) (h:countsB a b k=v):Calls Tryz.prog 101 #[.int .i64 a,.int .i64 b,.int .i64 k] w fun e w'=>e=.returned (.bool v)∧w=w':=h ▸ r_counts2 a b k w
theorem r_earliest (t:Rtn) (r:Rcp) (A B:Option Addr) (n c n2 c2:Nat) (w:World) (hd:0≤r.day) (hd2:r.day≤1000000) :
 Calls Tryz.prog 102 #[.agg #[.int .i64 t.src,.int .i64 t.rcp,.int .i64 t.per,.slice A n c,.int .i64 t.lo,.int .i64 t.hi,.int .i64 t.kn,.int .i64 t.un],.agg #[.int .i64 r.src,.int .i64 r.bor,.int .i64 r.pap,.slice B n2 c2,.int .i64 r.day,.int .i64 r.kn,.int .i64 r.un]] w fun e w'=>e=.returned (.int .i64 (max t.lo (r.day+1)))∧Below w.heap.size w w':=by
 have hw:IntKind.i64.wrap (r.day+1)=r.day+1:=IntWalk.i64_in _ (by omega)
 go_enter Tryz.func102,Tryz.ntmps102
 go_wp2
 go_ret
 exact ⟨rfl,by exact bel_⟩
def rcAt (src kn:Int) (r:Rcp):Bool:=decide (r.src=src) && countsB r.kn r.un kn
def rcIx (R:List Rcp) (src kn:Int):Option Nat:=R.findIdx? (rcAt src kn)
def ixI:Option Nat→Int
 | some i=>i
 | none=>-1
theorem any_get {α:Type} {l:List α} {p:α→Bool} {k j:Nat} (h:(l.take k).any p=false) (hj:j<k) (hl:j<l.length):p l[j]=false:=by
 have h2:=List.any_eq_false.1 h l[j] (by rw [List.mem_take_iff_getElem];exact ⟨j,by omega,rfl⟩)
 simpa using h2
theorem ix_found {α:Type} {l:List α} {p:α→Bool} {k:Nat} {x:α} (hx:l[k]?=some x) (hp:p x=true) (h:(l.take k).any p=false):l.findIdx? p=some k:=by
 have hlt:k<l.length:=(List.getElem?_eq_some_iff.1 hx).1
 rw [List.findIdx?_eq_some_iff_getElem]
 refine ⟨hlt,by rw [(List.getElem?_eq_some_iff.1 hx).2];exact hp,fun j hj=>?_⟩
 rw [any_get h hj (by omega)]
 simp
theorem ix_none {α:Type} {l:List α} {p:α→Bool} (h:l.any p=false):l.findIdx? p=none:=by
 rw [List.findIdx?_eq_none_iff]
 intro x hx
 have:=List.any_eq_false.1 h x hx
 simpa using this
theorem any_take_succ2 {α:Type} {l:List α} {k:Nat} {x:α} {p:α→Bool} (h:l[k]?=some x):(l.take (k+1)).any p=((l.take k).any p || p x):=by rw [take_snoc_some h,List.any_append];simp
set_option maxRecDepth 10000 in
theorem r_receiptOf (l:Led) (x:Lsl) (src kn:Int) (w:World) (hn:x.rn≤1000000) (hd:LedIn w w.heap.size x l) :
 Calls Tryz.prog 39 #[.agg #[.slice x.pA x.pn x.pc,.slice x.rA x.rn x.rc,.slice x.tA x.tn x.tc,.slice x.sA x.sn x.sc],.int .i64 src,.int .i64 kn] w fun e w'=>e=.returned (.int .i64 (ixI (rcIx l.rc src kn)))∧Below w.heap.size w w':=by
 obtain ⟨pA,pn,pc,rA,rn,rc,tA,tn,tc,sA,sn,sc⟩:=x
 show Calls _ _ #[.agg #[.slice pA pn pc,.slice rA rn rc,.slice tA tn tc,.slice sA sn sc],_,_] _ _
 have HR:Hid (Rcs w w.heap.size rA rn l.rc):=by show Sq _ _ _ _ _ _ _;exact hd.r
 have HL:Hid (l.rc.length=rn):=by show _=_;exact hd.r.len
 have hrn:rn≤1000000:=hn
 clear hd hn
 obtain ⟨q,hq⟩:∃ q,rcIx l.rc src kn=q:=⟨_,rfl⟩
 rw [hq]
 have HQ:=hd_ hq
 clear hq
 go_enter Tryz.func39,Tryz.ntmps39
 go_wp2
 go_loopw [7] (fun i wr=>∃ k:Nat,k≤rn∧i=.int .i64 k∧(l.rc.take k).any (rcAt src kn)=false∧Below w.heap.size w wr∧BoxA wr w.heap.size 32 #[.slice pA pn pc,.slice rA rn rc,.slice tA tn tc,.slice sA sn sc]) (fun i _=>rn - (intOf i).toNat)
 case atStart=>exact ⟨0,by omega,rfl,rfl,by exact bel_,BoxA.new _ _ _⟩
 case round =>
  obtain ⟨k,hk,rfl,hany,hB,hbx⟩:=hrel
  have HA:=hd_ hany
  clear hany
  have hs0:=hB.size
  have kx:=hbx.cell
  have zx:=hbx.lt
  by_cases hlt:k<rn
  ·obtain ⟨b,o,r,rfl,hb,hx,A1,n1,c1,⟨h0,h1,h2,h3,h4,h5,h6⟩,hi1,hc1,hm1⟩:=(Sq.ext HR.out abR hB lr_).at_ hlt
   have HX:=hd_ hx
   have hbr:b<wr.heap.size:=by omega
   clear hx hi1
   have HB2:=hd_ (hB.alloc hs0 (.cells #[.int .i64 r.src,.int .i64 r.bor,.int .i64 r.pap,.slice A1 n1 c1,.int .i64 r.day,.int .i64 r.kn,.int .i64 r.un] 79))
   have HX2:=hd_ (hbx.alloc (.cells #[.int .i64 r.src,.int .i64 r.bor,.int .i64 r.pap,.slice A1 n1 c1,.int .i64 r.day,.int .i64 r.kn,.int .i64 r.un] 79))
   by_cases he:r.src=src
   ·have hed:(r.src == src)=true:=by simpa using he
    have HE:=hd_ he
    clear he
    cases hc:countsB r.kn r.un kn with
    | true =>
      have ho:q=some k:=by rw [← HQ.out];exact ix_found HX.out (by simp [rcAt,HE.out,hc]) HA.out
      subst ho
      have HC:=hd_ hc
      clear hc
      go_wp2_with (go_at_call 101;refine (r_counts2_v _ _ _ true _ HC.out).mono ?_;rintro e w1 ⟨rfl,rfl⟩)
      go_ret
      exact ⟨rfl,HB2.out⟩
    | false =>
      have HF:Hid ((l.rc.take (k+1)).any (rcAt src kn)=false):=by show _=_;rw [any_take_succ2 HX.out,HA.out];simp [rcAt,hc]
      have HC:=hd_ hc
      clear hc
      go_wp2_with (go_at_call 101;refine (r_counts2_v _ _ _ false _ HC.out).mono ?_;rintro e w1 ⟨rfl,rfl⟩)
      go_roundw
      case rel=>exact ⟨k+1,by omega,by go_num,HF.out,HB2.out,HX2.out⟩
      case measure=>exact ms_
   ·have hed:(r.src == src)=false:=by simpa using he
    have HF:Hid ((l.rc.take (k+1)).any (rcAt src kn)=false):=by show _=_;rw [any_take_succ2 HX.out,HA.out];simp [rcAt,he]
    clear he
    go_wp2
    go_roundw
    case rel=>exact ⟨k+1,by omega,by go_num,HF.out,HB2.out,HX2.out⟩
    case measure=>exact ms_
  ·have hkn:Hid (k=rn):=by show _=_;omega
   have ho:q=none:=by
    have:=HA.out
    rw [List.take_of_length_le (by rw [HL.out,hkn.out];exact lr_)] at this
    rw [← HQ.out]
    exact ix_none this
   subst ho
   go_wp2
   go_ret
   exact ⟨rfl,hB⟩
structure Vw where
 x:Lsl
 kn:Int
 (TA:Option Addr) (Tn Tc:Nat)
 (DA:Option Addr) (Dn Dc:Nat)
abbrev vwV (v:Vw):Value:=.agg #[.slice v.x.pA v.x.pn v.x.pc,.slice v.x.rA v.x.rn v.x.rc,.slice v.x.tA v.x.tn v.x.tc,.slice v.x.sA v.x.sn v.x.sc,.int .i64 v.kn,.slice v.TA v.Tn v.Tc,.slice v.DA v.Dn v.Dc]
theorem r_Has2_v (l:List Int) (v:Int) (q:Bool) (A:Option Addr) (n c:Nat) (w:World) (hn:n≤9223372036854775807) (hd:Is w w.heap.size A n l) (h:decide (v∈l)=q) :
 Calls Tryz.prog 18 #[.slice A n c,.int .i64 v] w fun e w'=>e=.returned (.bool q)∧Below w.heap.size w w':=h ▸ r_Has2 l v A n c w hn hd
set_option maxRecDepth 10000 in
theorem r_isOf (l:Led) (v:Vw) (i:Nat) (r:Rcp) (pap leaf:Int) (w:World) (hn:v.x.rn≤1000000) (hd:LedIn w w.heap.size v.x l) (hr:l.rc[i]?=some r) :
 Calls Tryz.prog 143 #[vwV v,.int .i64 i,.agg #[.int .i64 pap,.int .i64 leaf]] w fun e w'=>e=.returned (.bool (countsB r.kn r.un v.kn && isOfB pap leaf r))∧Below w.heap.size w w':=by
 obtain ⟨⟨pA,pn,pc,rA,rn,rc,tA,tn,tc,sA,sn,sc⟩,kn,TA,Tn,Tc,DA,Dn,Dc⟩:=v
 show Calls _ _ #[.agg #[.slice pA pn pc,.slice rA rn rc,.slice tA tn tc,.slice sA sn sc,.int .i64 kn,.slice TA Tn Tc,.slice DA Dn Dc],_,_] _ (fun e w'=>e=.returned (.bool (countsB r.kn r.un kn && isOfB pap leaf r))∧Below w.heap.size w w')
 have HR:Hid (Rcs w w.heap.size rA rn l.rc):=by show Sq _ _ _ _ _ _ _;exact hd.r
 have hrn:rn≤1000000:=hn
 have hi:i<rn:=by rw [← HR.out.len];exact (List.getElem?_eq_some_iff.1 hr).1
 obtain ⟨b,o,r',rfl,hb,hx,A1,n1,c1,⟨h0,h1,h2,h3,h4,h5,h6⟩,hi1,hc1,hm1⟩:=HR.out.at_ hi
 obtain rfl:r=r':=Option.some.inj (hr.symm.trans hx)
 have hn1:n1≤9223372036854775807:=by have:maxLen≤9223372036854775807:=(by decide);omega
 have HI:Hid (∀ W:World,Below w.heap.size w W→Is W W.heap.size A1 n1 r.lv):=by show ∀ _,_;exact fun W hW=>hi1.now hW
 clear hd hn hr hx hi1
 cases hc:countsB r.kn r.un kn with
 | false =>
   have HC:=hd_ hc
   clear hc
   go_enter Tryz.func143,Tryz.ntmps143
   go_wp2_with (go_at_call 101;refine (r_counts2_v _ _ _ false _ HC.out).mono ?_;rintro e w1 ⟨rfl,rfl⟩)
   go_ret
   exact ⟨rfl,by exact bel_⟩
 | true =>
   have HC:=hd_ hc
   clear hc
   by_cases hp:r.pap=pap
   ·have hpd:(r.pap == pap)=true:=by simpa using hp
    have hres:(true && isOfB pap leaf r)=decide (leaf∈r.lv):=by simp [isOfB,hp]
    rw [hres]
    clear hp hres
    go_enter Tryz.func143,Tryz.ntmps143
    go_wp2_with (first | (go_at_call 101;refine (r_counts2_v _ _ _ true _ HC.out).mono ?_;rintro e w1 ⟨rfl,rfl⟩) | (go_at_call 18;refine (r_Has2 r.lv leaf A1 n1 c1 _ hn1 (HI.out _ (by exact bel_))).mono ?_;rintro e w2 ⟨rfl,hb2⟩;have HB2:Below w.heap.size w w2:=bt_ (by exact bel_) hb2))
    go_ret
    exact ⟨rfl,HB2⟩
   ·have hpd:(r.pap == pap)=false:=by simpa using hp
    have hres:(true && isOfB pap leaf r)=false:=by simp [isOfB,hp]
    rw [hres]
    clear hp hres
    go_enter Tryz.func143,Tryz.ntmps143
    go_wp2_with (go_at_call 101;refine (r_counts2_v _ _ _ true _ HC.out).mono ?_;rintro e w1 ⟨rfl,rfl⟩)
    go_ret
    exact ⟨rfl,by exact bel_⟩
structure Opn where
 M:List ((Int × Int) × Nat)
 T:List Bool
 P:List (Int × Int)
def hiStep (d h:Int) (x:Rcp):Int:=if d<x.day then min h x.day else h
def hiL (d h:Int) (xs:List Rcp):Int:=xs.foldl (hiStep d) h
theorem hiL_snoc (d h:Int) (xs:List Rcp) (x:Rcp):hiL d h (xs ++ [x])=hiStep d (hiL d h xs) x:=by simp [hiL]
def hiK (R:List Rcp) (r:Rcp) (h:Int) (l:List Int):Int:=l.foldl (fun h x=>hiL r.day h (R.filter (isOfB r.pap x))) h
theorem hiK_succ {R:List Rcp} {r:Rcp} {h:Int} {l:List Int} {k:Nat} {x:Int} (hx:l[k]?=some x):hiK R r h (l.take (k+1))=hiL r.day (hiK R r h (l.take k)) (R.filter (isOfB r.pap x)):=by
 rw [take_snoc_some hx,hiK,List.foldl_append];rfl
def putK (M:List ((Int × Int) × Nat)) (src:Int) (i:Nat) (l:List Int):List ((Int × Int) × Nat):=l.foldl (fun M x=>putN M (src,x) i) M
theorem putK_succ {M:List ((Int × Int) × Nat)} {src:Int} {i:Nat} {l:List Int} {k:Nat} {x:Int} (hx:l[k]?=some x):putK M src i (l.take (k+1))=putN (putK M src i (l.take k)) (src,x) i:=by
 rw [take_snoc_some hx,putK,List.foldl_append];rfl
theorem getN_putK {M:List ((Int × Int) × Nat)} {src:Int} {i:Nat} {l:List Int} {k:Int × Int} {j:Nat} (h:getN (putK M src i l) k=some j):j=i∨getN M k=some j:=by
 induction l generalizing M with
 | nil=>exact .inr h
 | cons x l ih =>
   rcases ih (M:=putN M (src,x) i) h with h | h
   ·exact .inl h
   ·rw [getN_put] at h
    split at h
    ·exact .inl (Option.some.inj h).symm
    ·exact .inr h
def readR (kn:Int) (R:List Rcp) (M:List ((Int × Int) × Nat)) (t:Rtn):Option Rcp:=match findR R t.rcp with
 | none=>none
 | some r=>if (countsB t.kn t.un kn && (takesB (encM M) r t.lv && !decide (t.hi<max t.lo (r.day+1))))=true then some r else none
def readS (kn:Int) (R:List Rcp) (s:Opn) (i:Nat) (t:Rtn):Opn:=match readR kn R s.M t with
 | none=>⟨s.M,s.T,s.P.set i (0,100000)⟩
 | some r=>⟨putK s.M r.src i t.lv,s.T.set i true,(s.P.set i (0,100000)).set i (max t.lo (r.day+1),hiK R r t.hi t.lv)⟩
theorem read_len (kn:Int) (R:List Rcp) (s:Opn) (i:Nat) (t:Rtn):(readS kn R s i t).T.length=s.T.length∧(readS kn R s i t).P.length=s.P.length:=by
 unfold readS
 split <;> simp
theorem read_M {kn:Int} {R:List Rcp} {s:Opn} {i:Nat} {t:Rtn} {k:Int × Int} {j:Nat} (h:getN (readS kn R s i t).M k=some j):j=i∨getN s.M k=some j:=by
 unfold readS at h
 split at h
 ·exact .inr h
 ·exact getN_putK h
theorem findR_mem {R:List Rcp} {n:Int} {r:Rcp} (h:findR R n=some r):r∈R∧r.src=n:=by
 refine ⟨List.mem_of_find?_eq_some h,?_⟩
 have:=List.find?_some h
 simpa using this
def opnK (kn:Int) (R:List Rcp) (rt:List Rtn) (n:Nat) (k:Nat):Opn:=(List.range k).foldl (fun s i=>match rt[i]? with | some t=>readS kn R s i t | none=>s) ⟨[],List.replicate n false,List.replicate n (0,0)⟩
theorem opnK_succ {kn:Int} {R:List Rcp} {rt:List Rtn} {n k:Nat} {t:Rtn} (h:rt[k]?=some t):opnK kn R rt n (k+1)=readS kn R (opnK kn R rt n k) k t:=by
 rw [opnK,List.range_succ,List.foldl_append]
 simp only [List.foldl_cons,List.foldl_nil,h]
 rfl
theorem opnK_zero (kn:Int) (R:List Rcp) (rt:List Rtn) (n:Nat):opnK kn R rt n 0=⟨[],List.replicate n false,List.replicate n (0,0)⟩:=rfl
theorem opnK_len (kn:Int) (R:List Rcp) (rt:List Rtn) (n:Nat):∀ k,(opnK kn R rt n k).T.length=n∧(opnK kn R rt n k).P.length=n
 | 0=>by simp [opnK_zero]
 | k+1=>by
   cases h:rt[k]? with
   | none =>
     have e:opnK kn R rt n (k+1)=opnK kn R rt n k:=by
      rw [opnK,List.range_succ,List.foldl_append]
      simp only [List.foldl_cons,List.foldl_nil,h]
      rfl
     rw [e]
     exact opnK_len kn R rt n k
   | some t =>
     rw [opnK_succ h]
     have h1:=read_len kn R (opnK kn R rt n k) k t
     have h2:=opnK_len kn R rt n k
     exact ⟨h1.1.trans h2.1,h1.2.trans h2.2⟩
theorem opnK_M (kn:Int) (R:List Rcp) (rt:List Rtn) (n:Nat):∀ (m:Nat) (k:Int × Int) (j:Nat),getN (opnK kn R rt n m).M k=some j→j<m
 | 0,k,j,h=>by simp [opnK_zero,getN] at h
 | m+1,k,j,h=>by
   cases ht:rt[m]? with
   | none =>
     have e:opnK kn R rt n (m+1)=opnK kn R rt n m:=by
      rw [opnK,List.range_succ,List.foldl_append]
      simp only [List.foldl_cons,List.foldl_nil,ht]
      rfl
     rw [e] at h
     exact Nat.lt_succ_of_lt (opnK_M kn R rt n m k j h)
   | some t =>
     rw [opnK_succ ht] at h
     rcases read_M h with h | h
     ·omega
     ·exact Nat.lt_succ_of_lt (opnK_M kn R rt n m k j h)
def cntR (l:Led) (kn:Int):List Rcp:=l.rc.filter fun r=>countsB r.kn r.un kn
def cntS (l:Led) (kn:Int):List Sgt:=l.sg.filter fun s=>countsB s.kn s.un kn
def opnL (l:Led) (kn:Int):Opn:=opnK kn (cntR l kn) l.rt l.rt.length l.rt.length
theorem BoxA.setF {W:World} {B:Nat} {t:TypeId} {P:List (Int × Int)} (h:BoxA W B t (folCells P).toArray) (i:Nat) (d:Int × Int) :
 BoxA ((W.setCell ⟨B,i*2,none⟩ (.int .i64 d.1)).setCell ⟨B,i*2+1,none⟩ (.int .i64 d.2)) B t (folCells (P.set i d)).toArray:=by
 have:=(h.set (i*2) (.int .i64 d.1)).set (i*2+1) (.int .i64 d.2)
 rw [← folCells_set P i d]
 simpa using this
def boolL (T:List Bool):List Value:=T.map fun b=>.bool b
theorem BoxA.setT {W:World} {B:Nat} {t:TypeId} {T:List Bool} (h:BoxA W B t (boolL T).toArray) (i:Nat) (b:Bool):BoxA (W.setCell ⟨B,i,none⟩ (.bool b)) B t (boolL (T.set i b)).toArray:=by
 have:=h.set i (.bool b)
 simpa [boolL,List.map_set] using this
theorem BoxA.sqF {W:World} {B B':Nat} {t:TypeId} {P:List (Int × Int)} {n:Nat} (h:BoxA W B t (folCells P).toArray) (hn:P.length=n) (hB:B<B'):Sq QF 2 W B' (some ⟨B,0,none⟩) n P:=by
 refine ⟨hn,fun _=>⟨B,0,rfl,hB,fun k f hf=>?_⟩⟩
 obtain ⟨h1,h2⟩:=folCells_get P k f hf
 exact ⟨by rw [h.cell];simpa using h1,by rw [h.cell,← h2];simp⟩
theorem BoxA.sqT {W:World} {B B':Nat} {t:TypeId} {T:List Bool} {n:Nat} (h:BoxA W B t (boolL T).toArray) (hn:T.length=n) (hB:B<B'):Sq QB 1 W B' (some ⟨B,0,none⟩) n T:=by
 refine ⟨hn,fun _=>⟨B,0,rfl,hB,fun k f hf=>?_⟩⟩
 show World.cell? _ _=_
 rw [h.cell]
 simp [boolL,hf]
theorem flat_get {α:Type} (f:α→List Value) (s:Nat) (hs:∀ x,(f x).length=s):∀ (xs:List α) (k j:Nat) (x:α),xs[k]?=some x→j<s→(xs.flatMap f)[k*s+j]?=(f x)[j]?
 | [],k,j,x,h,_=>by simp at h
 | y :: xs,0,j,x,h,hj=>by
   simp at h
   subst h
   rw [List.flatMap_cons,Nat.zero_mul,Nat.zero_add,List.getElem?_append_left (by rw [hs];exact hj)]
 | y :: xs,k+1,j,x,h,hj=>by
   rw [List.flatMap_cons,List.getElem?_append_right (by rw [hs,Nat.succ_mul];omega),hs,← flat_get f s hs xs k j x (by simpa using h) hj]
   congr 1
   rw [Nat.succ_mul]
   omega
theorem flat_len {α:Type} (f:α→List Value) (s:Nat) (hs:∀ x,(f x).length=s) (xs:List α):(xs.flatMap f).length=xs.length*s:=by
 induction xs with
 | nil=>simp
 | cons x xs ih=>rw [List.flatMap_cons,List.length_append,hs,ih,List.length_cons,Nat.succ_mul];omega
abbrev rvC (v:Rv):List Value:=[.int .i64 v.r.src,.int .i64 v.r.bor,.int .i64 v.r.pap,.slice v.A v.n v.c,.int .i64 v.r.day,.int .i64 v.r.kn,.int .i64 v.r.un]
def rvCells (xs:List Rv):List Value:=xs.flatMap rvC
theorem sq_rv {w:World} {B n:Nat} {A:Option Addr} {xs:List Rv} (h:Rd w B 7 A n (rvCells xs)) (hn:xs.length=n) (hv:∀ v∈xs,Is w B v.A v.n v.r.lv∧v.n≤v.c∧v.c≤maxLen):Sq QV 7 w B A n xs:=by
 refine ⟨hn,fun h0=>?_⟩
 obtain ⟨b,o,e,hb,hc⟩:=h.2 h0
 refine ⟨b,o,e,hb,fun k v hk=>⟨?_,hv v (List.mem_of_getElem? hk)⟩⟩
 have g:∀ j u,j<7→(rvC v)[j]?=some u→w.cell? ⟨b,o+k*7+j,none⟩=some u:=fun j u hj hu=>by
  have:=hc (k*7+j) u (by rw [← hu];exact flat_get rvC 7 (fun _=>rfl) xs k j v hk hj)
  rwa [← Nat.add_assoc] at this
 exact ⟨g 0 _ (by omega) rfl,g 1 _ (by omega) rfl,g 2 _ (by omega) rfl,g 3 _ (by omega) rfl,g 4 _ (by omega) rfl,g 5 _ (by omega) rfl,g 6 _ (by omega) rfl⟩
theorem sq_sg {w:World} {B n:Nat} {A:Option Addr} {xs:List Sgt} (h:Rd w B 7 A n (sgCells xs)) (hn:xs.length=n):Sgs w B A n xs:=by
 refine ⟨hn,fun h0=>?_⟩
 obtain ⟨b,o,e,hb,hc⟩:=h.2 h0
 refine ⟨b,o,e,hb,fun k v hk=>?_⟩
 have g:∀ j u,j<7→([.int .i64 v.src,.int .i64 v.per,.int .i64 v.pap,.int .i64 v.leaf,.int .i64 v.day,.int .i64 v.kn,.int .i64 v.un]:List Value)[j]?=some u→w.cell? ⟨b,o+k*7+j,none⟩=some u:=fun j u hj hu=>by
  have:=hc (k*7+j) u (by rw [← hu];exact flat_get (fun s:Sgt=>[.int .i64 s.src,.int .i64 s.per,.int .i64 s.pap,.int .i64 s.leaf,.int .i64 s.day,.int .i64 s.kn,.int .i64 s.un]) 7 (fun _=>rfl) xs k j v hk hj)
  rwa [← Nat.add_assoc] at this
 exact ⟨g 0 _ (by omega) rfl,g 1 _ (by omega) rfl,g 2 _ (by omega) rfl,g 3 _ (by omega) rfl,g 4 _ (by omega) rfl,g 5 _ (by omega) rfl,g 6 _ (by omega) rfl⟩
end Go.Proofs.YtmcmbicapdcfmaaGreat
namespace Go.Proofs.YtmcmbicapdcfmaaGreat
open Go.RowKit Go.Shelf Go.Maps
attribute [local go_sem] Oper.semAt_some
structure RdK (lo bm bp bt:Nat) (w W:World):Prop where
 bel:Below lo w W
 blk:∀ k,k<w.heap.size→k≠bm→k≠bp→k≠bt→W.heap[k]?=w.heap[k]?
theorem RdK.refl {lo bm bp bt:Nat} (w:World):RdK lo bm bp bt w w:=⟨Below.refl _ _,fun _ _ _ _ _=>rfl⟩
theorem RdK.grown {lo bm bp bt:Nat} {w W W':World} {row:Option Nat} (h:RdK lo bm bp bt w W) (hlo:lo≤w.heap.size) (hg:W.grownBy W' row) (hr:∀ r,row=some r→(r=bm∨r=bp∨r=bt∨w.heap.size≤r)∧lo≤r):RdK lo bm bp bt w W' :=
 ⟨h.bel.grown hg (Nat.le_trans hlo h.bel.size) fun r e=>(hr r e).2,fun k hk h1 h2 h3=>(hg.block k (Nat.lt_of_lt_of_le hk h.bel.size) fun e=>by have:=(hr _ e.symm).1;omega).trans (h.blk k hk h1 h2 h3)⟩
structure RdJ (lo bm bp bt:Nat) (M:List ((Int × Int) × Nat)) (T:List Bool) (P:List (Int × Int)) (w W:World):Prop where
 m:MapS W bm (encM M)
 bP:BoxA W bp 133 (folCells P).toArray
 bT:BoxA W bt 4 (boolL T).toArray
 k:RdK lo bm bp bt w W
theorem RdJ.keep {lo bm bp bt:Nat} {M:List ((Int × Int) × Nat)} {T:List Bool} {P:List (Int × Int)} {w W W':World} {row:Option Nat} (h:RdJ lo bm bp bt M T P w W) (hlo:lo≤w.heap.size) (hs:bm<w.heap.size∧bp<w.heap.size∧bt<w.heap.size) (hg:W.grownBy W' row) (hr:∀ r,row=some r→w.heap.size≤r):RdJ lo bm bp bt M T P w W' :=
 ⟨h.m.keep (hg.block _ h.m.lt fun e=>by have:=hr _ e.symm;omega),h.bP.kept hg (fun e=>by have:=hr _ e.symm;omega),h.bT.kept hg (fun e=>by have:=hr _ e.symm;omega),h.k.grown hlo hg fun r e=>⟨by have:=hr _ e;omega,by have:=hr _ e;omega⟩⟩
theorem map_cell {w:World} {b:Nat} {L:List ((Int × Int) × Value)} (h:MapS w b L) (o:Nat):w.cell? ⟨b,o,none⟩=none:=by
 obtain ⟨es,c,hb,_⟩:=h.ex
 simp [World.cell?,hb]
theorem map_ne {w:World} {b b':Nat} {L:List ((Int × Int) × Value)} {t:TypeId} {cs:Array Value} (h:MapS w b L) (h':BoxA w b' t cs):b≠b':=by
 obtain ⟨es,c,hb,_⟩:=h.ex
 rintro rfl
 rw [show w.heap[b]?=_ from h'] at hb
 cases hb
theorem RdJ.cells {lo bm bp bt B:Nat} {M M0:List ((Int × Int) × Nat)} {T:List Bool} {P:List (Int × Int)} {w W:World} (h:RdJ lo bm bp bt M T P w W) (hm:MapS w bm (encM M0)) (hB:B≤bp∧B≤bt∧B≤w.heap.size) (b o:Nat) (hb:b<B):W.cell? ⟨b,o,none⟩=w.cell? ⟨b,o,none⟩:=by
 by_cases e:b=bm
 ·subst e
  rw [map_cell h.m,map_cell hm]
 ·simp only [World.cell?]
  rw [h.k.blk b (by omega) e (by omega) (by omega)]
theorem RdJ.setF {lo bm bp bt:Nat} {M:List ((Int × Int) × Nat)} {T:List Bool} {P:List (Int × Int)} {w W:World} (h:RdJ lo bm bp bt M T P w W) (hlo:lo≤w.heap.size) (hbp:lo≤bp) (i:Nat) (d:Int × Int) :
 RdJ lo bm bp bt M T (P.set i d) w ((W.setCell ⟨bp,i*2,none⟩ (.int .i64 d.1)).setCell ⟨bp,i*2+1,none⟩ (.int .i64 d.2)):=by
 have h1:bt≠bp:=fun e=>by
  have h2:W.heap[bt]?=_:=h.bT
  have h3:W.heap[bp]?=_:=h.bP
  rw [e,h3] at h2
  injection h2 with h2
  injection h2 with _ h2
  exact absurd h2 (by decide)
 have h4:=map_ne h.m h.bP
 have hg:=(grown_setCell W bp (i*2) (.int .i64 d.1)).trans (grown_setCell _ bp (i*2+1) (.int .i64 d.2))
 exact ⟨(h.m.setCell h4 _).setCell h4 _,h.bP.setF i d,(h.bT.other h1 _).other h1 _,h.k.grown hlo hg fun r e=>by cases e;exact ⟨.inr (.inl rfl),hbp⟩⟩
theorem RdJ.setT {lo bm bp bt:Nat} {M:List ((Int × Int) × Nat)} {T:List Bool} {P:List (Int × Int)} {w W:World} (h:RdJ lo bm bp bt M T P w W) (hlo:lo≤w.heap.size) (hbt:lo≤bt) (i:Nat) (b:Bool) :
 RdJ lo bm bp bt M (T.set i b) P w (W.setCell ⟨bt,i,none⟩ (.bool b)):=by
 have h1:bp≠bt:=fun e=>by
  have h2:W.heap[bt]?=_:=h.bT
  have h3:W.heap[bp]?=_:=h.bP
  rw [← e,h3] at h2
  injection h2 with h2
  injection h2 with _ h2
  exact absurd h2 (by decide)
 exact ⟨h.m.setCell (map_ne h.m h.bT) _,h.bP.other h1 _,h.bT.setT i b,h.k.grown hlo (grown_setCell W bt i (.bool b)) fun r e=>by cases e;exact ⟨.inr (.inr (.inl rfl)),hbt⟩⟩
theorem RdJ.setM {lo bm bp bt:Nat} {M M':List ((Int × Int) × Nat)} {T:List Bool} {P:List (Int × Int)} {w W:World} {o:Obj} (h:RdJ lo bm bp bt M T P w W) (hlo:lo≤w.heap.size) (hbm:lo≤bm) (hm:MapS (setObj' W bm o) bm (encM M')) :
 RdJ lo bm bp bt M' T P w (setObj' W bm o) :=
 ⟨hm,h.bP.kept (setObj'_grown W bm o) (fun e=>map_ne h.m h.bP (by injection e with e;exact e.symm)),h.bT.kept (setObj'_grown W bm o) (fun e=>map_ne h.m h.bT (by injection e with e;exact e.symm)),h.k.grown hlo (setObj'_grown W bm o) fun r e=>by cases e;exact ⟨.inl rfl,hbm⟩⟩
theorem BoxA.frozen {W:World} {B:Nat} {t:TypeId} {cs:Array Value} (h:BoxA W B t cs) (j:Nat):W.frozen? ⟨B,j,none⟩=false:=by
 simp [World.frozen?,show W.heap[B]?=_ from h]
theorem new_frozen (V:World) (cs:Array Value) (t:TypeId) (j:Nat):(V.alloc (.cells cs t)).frozen? ⟨V.heap.size,j,none⟩=false:=(BoxA.new V t cs).frozen j
structure RdL (lo bm bp bt:Nat) (M:List ((Int × Int) × Nat)) (T:List Bool) (P:List (Int × Int)) (w:World) (sA br bd base:Nat) (AC RC:Array Value) (dlo dhi:Int) (l:List Nat) (W:World):Prop where
 j:RdJ lo bm bp bt M T P w W
 bA:BoxA W sA 115 AC
 br:BoxA W br 79 RC
 bd:BoxA W bd 133 #[.int .i64 dlo,.int .i64 dhi]
 mks:Marked base l W
 sz:base≤W.heap.size
theorem RdL.keep {lo bm bp bt sA br bd base bs:Nat} {M:List ((Int × Int) × Nat)} {T:List Bool} {P:List (Int × Int)} {w W W':World} {AC RC:Array Value} {dlo dhi:Int} {l:List Nat} {row:Option Nat} (h:RdL lo bm bp bt M T P w sA br bd base AC RC dlo dhi l W) (hlo:lo≤w.heap.size)
 (hs:bm<w.heap.size∧bp<w.heap.size∧bt<w.heap.size) (hg:W.grownBy W' row) (hr:∀ r,row=some r→bs≤r) (hb:w.heap.size≤base∧sA<base∧br<base∧bd<base∧base≤bs) (hl:∀ D∈l,D<bs):RdL lo bm bp bt M T P w sA br bd base AC RC dlo dhi l W' :=
 ⟨h.j.keep hlo hs hg fun r e=>by have:=hr r e;omega,h.bA.kept hg (fun e=>by have:=hr _ e.symm;omega),h.br.kept hg (fun e=>by have:=hr _ e.symm;omega),h.bd.kept hg (fun e=>by have:=hr _ e.symm;omega),h.mks.kept hg (fun r e hm=>by have:=hr r e;have:=hl _ hm;omega),Nat.le_trans h.sz hg.size⟩
theorem RdL.setM {lo bm bp bt sA br bd base:Nat} {M M':List ((Int × Int) × Nat)} {T:List Bool} {P:List (Int × Int)} {w W:World} {AC RC:Array Value} {dlo dhi:Int} {l:List Nat} {o:Obj} (h:RdL lo bm bp bt M T P w sA br bd base AC RC dlo dhi l W) (hlo:lo≤w.heap.size) (hbm:lo≤bm)
 (hw:w.heap.size≤base) (hs:bm<w.heap.size) (hm:MapS (setObj' W bm o) bm (encM M')):RdL lo bm bp bt M' T P w sA br bd base AC RC dlo dhi l (setObj' W bm o) :=
 ⟨h.j.setM hlo hbm hm,h.bA.kept (setObj'_grown W bm o) (fun e=>map_ne h.j.m h.bA (by injection e with e;exact e.symm)),h.br.kept (setObj'_grown W bm o) (fun e=>map_ne h.j.m h.br (by injection e with e;exact e.symm)),h.bd.kept (setObj'_grown W bm o) (fun e=>map_ne h.j.m h.bd (by injection e with e;exact e.symm)),
   h.mks.kept (setObj'_grown W bm o) (fun r e hm=>by cases e;have:=h.mks.ge _ hm;omega),Nat.le_trans h.sz (setObj'_grown W bm o).size⟩
theorem RdL.setD {lo bm bp bt sA br bd base:Nat} {M:List ((Int × Int) × Nat)} {T:List Bool} {P:List (Int × Int)} {w W:World} {AC RC:Array Value} {dlo dhi:Int} {l:List Nat} (h:RdL lo bm bp bt M T P w sA br bd base AC RC dlo dhi l W) (hlo:lo≤w.heap.size)
 (hs:bm<w.heap.size∧bp<w.heap.size∧bt<w.heap.size) (hb:w.heap.size≤bd∧bd<base∧sA≠bd∧br≠bd) (d:Int):RdL lo bm bp bt M T P w sA br bd base AC RC dlo d l (W.setCell ⟨bd,1,none⟩ (.int .i64 d)) :=
 ⟨h.j.keep hlo hs (grown_setCell W bd 1 _) (fun r e=>by cases e;exact hb.1),h.bA.other (show sA≠bd from hb.2.2.1) _,h.br.other (show br≠bd from hb.2.2.2) _,h.bd.set 1 _,h.mks.keep (fun D hD=>Below.heap_setCell _ _ _ _ (show D≠bd by have:=h.mks.ge D hD;omega)),by simp;exact h.sz⟩
theorem p_takes_v (M:List ((Int × Int) × Value)) (a:Acc) (r:Rcp) (l:List Int) (A1:Option Addr) (n1 c1:Nat) (A:Option Addr) (n c:Nat) (v:Bool) (w:World) (hn:n≤1000000) (hn1:n1≤1000000)
 (hm:MapS w a.bm M) (hr:Is w w.heap.size A1 n1 r.lv) (hl:Is w w.heap.size A n l) (hwf:∀ x∈l,(Lit.int .i64 x).wf=true) (hws:(Lit.int .i64 r.src).wf=true) (hv:takesB M r l=v) :
 Calls Tryz.prog 151 #[accV a,.agg #[.int .i64 r.src,.int .i64 r.bor,.int .i64 r.pap,.slice A1 n1 c1,.int .i64 r.day,.int .i64 r.kn,.int .i64 r.un],.slice A n c] w fun e w'=>e=.returned (.bool v)∧Below w.heap.size w w':=hv ▸ p_takes M a r l A1 n1 c1 A n c w hn hn1 hm hr hl hwf hws
def RetRd (lo bm bp bt:Nat) (s:Opn) (w:World) (e:Ending) (w':World):Prop:=(∃ v,e=.returned v)∧RdJ lo bm bp bt s.M s.T s.P w w'
set_option maxRecDepth 100000 in
theorem p_read_no (l:Led) (R:List Rcp) (s:Opn) (i:Nat) (t:Rtn) (x:Lsl) (kn:Int) (RA SA:Option Addr) (Rn Rc Sn Sc bm bp bt Tc Pc lo B:Nat) (w:World) (ht:l.rt[i]?=some t)
 (hN:Rn≤1000000) (hok:∀ r∈R,r.lv.length≤1000000∧(Lit.int .i64 r.src).wf=true∧0≤r.day∧r.day≤1000000) (htn:t.lv.length≤1000000) (htw:∀ x∈t.lv,(Lit.int .i64 x).wf=true)
 (hB:B≤bp∧B≤bt∧B≤w.heap.size) (hlo:lo≤w.heap.size∧lo≤bm∧lo≤bp∧lo≤bt) (hr:Rcs w B RA Rn R) (hT:Rts w B x.tA x.tn l.rt) (hTn:s.T.length=x.tn) (hPn:s.P.length=x.tn) (hx60:x.tn≤1000000)
 (h:RdJ lo bm bp bt s.M s.T s.P w w) (hno:readR kn R s.M t=none) :
 Calls Tryz.prog 120 #[accV ⟨x,kn,RA,Rn,Rc,SA,Sn,Sc,bm,some ⟨bt,0,none⟩,x.tn,Tc,some ⟨bp,0,none⟩,x.tn,Pc⟩,.int .i64 i] w (RetRd lo bm bp bt (readS kn R s i t) w):=by
 obtain ⟨pA,pn,pc,rA,rn,rc,tA,tn,tc,sA,sn,sc⟩:=x
 obtain ⟨M,T,P⟩:=s
 have hT:Rts w B tA tn l.rt:=hT
 have hTn:T.length=tn:=hTn
 have hPn:P.length=tn:=hPn
 have htn60:tn≤1000000:=hx60
 have h:RdJ lo bm bp bt M T P w w:=h
 have hno:readR kn R M t=none:=hno
 show Calls _ _ #[.agg #[.slice pA pn pc,.slice rA rn rc,.slice tA tn tc,.slice sA sn sc,.int .i64 kn,.slice RA Rn Rc,.slice SA Sn Sc,.map (some bm),.slice (some ⟨bt,0,none⟩) tn Tc,.slice (some ⟨bp,0,none⟩) tn Pc],_] _ _
 have hit:i<tn:=by rw [← hT.len];exact (List.getElem?_eq_some_iff.1 ht).1
 obtain ⟨bR,oR,t',rfl,hbR,ht',A2,n2,c2,⟨t0,t1,t2,t3,t4,t5,t6,t7⟩,hi2,hc2,hm2⟩:=hT.at_ hit
 obtain rfl:t=t':=Option.some.inj (ht.symm.trans ht')
 have hRw:bR<w.heap.size:=by have:=hB.2.2;omega
 have hRn:bR≠bp:=by have:=hB.1;omega
 have hRn':bp≠bR:=by omega
 have hm0:=h.m
 have hbm:=h.m.lt
 have hbp:=h.bP.lt
 have hbt:=h.bT.lt
 have HS:Hid (bm<w.heap.size∧bp<w.heap.size∧bt<w.heap.size):=by show _∧_;exact ⟨hbm,hbp,hbt⟩
 have HJ:=hd_ h
 have HI2:Hid (∀ W,(∀ b o,b<B→W.cell? ⟨b,o,none⟩=w.cell? ⟨b,o,none⟩)→B≤W.heap.size→Is W W.heap.size A2 n2 t.lv):=by
  show ∀ _,_
  exact fun W hW hBW=>Is.more (Rd.keep hi2 hW) hBW
 obtain ⟨xs,hxs,hxv⟩:=rvs_of hr
 have HXV:Hid (∀ W,(∀ b o,b<B→W.cell? ⟨b,o,none⟩=w.cell? ⟨b,o,none⟩)→Sq QV 7 W B RA Rn xs):=by
  show ∀ _,_
  exact fun W hW=>hxv.keep abV hW
 have hl1:∀ v∈xs,v.n≤1000000:=fun v hv=>by
  obtain ⟨k,hk⟩:=List.getElem?_of_mem hv
  obtain ⟨b,o,y,_,_,hy,hq⟩:=hxv.at_ (k:=k) (by rw [← hxv.len];exact (List.getElem?_eq_some_iff.1 hk).1)
  obtain rfl:v=y:=Option.some.inj (hk.symm.trans hy)
  rw [← hq.2.1.len]
  exact (hok v.r (by rw [← hxs];exact List.mem_map.2 ⟨v,hv,rfl⟩)).1
 have HL1:=hd_ hl1
 have HXS:=hd_ hxs
 have hRn:Rn≤1000000:=hN
 clear hxv hl1 hxs
 have HRR:Hid (∀ W,(∀ b o,b<B→W.cell? ⟨b,o,none⟩=w.cell? ⟨b,o,none⟩)→B≤W.heap.size→Rcs W W.heap.size RA Rn R):=by
  show ∀ _,_
  exact fun W hW hBW=>(hr.keep abR hW).more abR hBW
 have HRC:Hid (∀ W,Below B w W→Calls Tryz.prog 83 #[.agg #[.slice pA pn pc,.slice rA rn rc,.slice (some ⟨bR,oR,none⟩) tn tc,.slice sA sn sc,.int .i64 kn,.slice RA Rn Rc,.slice SA Sn Sc,.map (some bm),.slice (some ⟨bt,0,none⟩) tn Tc,.slice (some ⟨bp,0,none⟩) tn Pc],.int .i64 t.rcp] W (RetRc (findR R t.rcp) W)):=by
  show ∀ _,_
  exact fun W hW=>p_receipt R ⟨⟨pA,pn,pc,rA,rn,rc,some ⟨bR,oR,none⟩,tn,tc,sA,sn,sc⟩,kn,RA,Rn,Rc,SA,Sn,Sc,bm,some ⟨bt,0,none⟩,tn,Tc,some ⟨bp,0,none⟩,tn,Pc⟩ t.rcp W hN (HRR.out W (fun b o hb=>hW.cell (p:=⟨b,o,none⟩) hb) (Nat.le_trans hB.2.2 hW.size))
 have hB1:=hB.1
 have hB2:=hB.2.1
 have hB3:=hB.2.2
 have HOK:=hd_ hok
 have HTW:=hd_ htw
 have HLT:=hd_ hi2.len
 have hn2:n2≤1000000:=by rw [← hi2.len];exact htn
 have hlo1:=hlo.1
 have hlo2:=hlo.2.1
 have hlo3:=hlo.2.2.1
 have hlo4:=hlo.2.2.2
 obtain ⟨d,hd⟩:∃ d,P[i]?=some d:=⟨_,List.getElem?_eq_getElem (by omega)⟩
 have g0:=(folCells_get P i d hd).1
 have g1:=(folCells_get P i d hd).2
 have cP0:w.cell? ⟨bp,i*2,none⟩=some (.int .i64 d.1):=by rw [h.bP.cell];simpa using g0
 have cP1:w.cell? ⟨bp,i*2+1,none⟩=some (.int .i64 d.2):=by rw [h.bP.cell];simpa using g1
 have fP:=h.bP.frozen
 clear h hr hT hi2 hok htw ht ht' g0 g1 hd hB hlo hN hx60
 have HFIN:Hid (∀ (W:World),Below ((((w.setCell ⟨bp,i*2,none⟩ (.int .i64 0)).setCell ⟨bp,i*2+1,none⟩ (.int .i64 100000)).alloc (.cells #[.slice pA pn pc,.slice rA rn rc,.slice (some ⟨bR,oR,none⟩) tn tc,.slice sA sn sc,.int .i64 kn,.slice RA Rn Rc,.slice SA Sn Sc,.map (some bm),.slice (some ⟨bt,0,none⟩) tn Tc,.slice (some ⟨bp,0,none⟩) tn Pc] 115)).alloc (.cells #[.int .i64 t.src,.int .i64 t.rcp,.int .i64 t.per,.slice A2 n2 c2,.int .i64 t.lo,.int .i64 t.hi,.int .i64 t.kn,.int .i64 t.un] 75)).heap.size ((((w.setCell ⟨bp,i*2,none⟩ (.int .i64 0)).setCell ⟨bp,i*2+1,none⟩ (.int .i64 100000)).alloc (.cells #[.slice pA pn pc,.slice rA rn rc,.slice (some ⟨bR,oR,none⟩) tn tc,.slice sA sn sc,.int .i64 kn,.slice RA Rn Rc,.slice SA Sn Sc,.map (some bm),.slice (some ⟨bt,0,none⟩) tn Tc,.slice (some ⟨bp,0,none⟩) tn Pc] 115)).alloc (.cells #[.int .i64 t.src,.int .i64 t.rcp,.int .i64 t.per,.slice A2 n2 c2,.int .i64 t.lo,.int .i64 t.hi,.int .i64 t.kn,.int .i64 t.un] 75)) W→RdJ lo bm bp bt M T (P.set i (0,100000)) w W∧BoxA W w.heap.size 115 #[.slice pA pn pc,.slice rA rn rc,.slice (some ⟨bR,oR,none⟩) tn tc,.slice sA sn sc,.int .i64 kn,.slice RA Rn Rc,.slice SA Sn Sc,.map (some bm),.slice (some ⟨bt,0,none⟩) tn Tc,.slice (some ⟨bp,0,none⟩) tn Pc]∧BoxA W (w.heap.size+1) 75 #[.int .i64 t.src,.int .i64 t.rcp,.int .i64 t.per,.slice A2 n2 c2,.int .i64 t.lo,.int .i64 t.hi,.int .i64 t.kn,.int .i64 t.un]∧w.heap.size+2≤W.heap.size):=by
  show ∀ _,_
  intro W hW
  have hb:=(BoxA.new ((w.setCell ⟨bp,i*2,none⟩ (.int .i64 0)).setCell ⟨bp,i*2+1,none⟩ (.int .i64 100000)) 115 #[.slice pA pn pc,.slice rA rn rc,.slice (some ⟨bR,oR,none⟩) tn tc,.slice sA sn sc,.int .i64 kn,.slice RA Rn Rc,.slice SA Sn Sc,.map (some bm),.slice (some ⟨bt,0,none⟩) tn Tc,.slice (some ⟨bp,0,none⟩) tn Pc]).alloc (.cells #[.int .i64 t.src,.int .i64 t.rcp,.int .i64 t.per,.slice A2 n2 c2,.int .i64 t.lo,.int .i64 t.hi,.int .i64 t.kn,.int .i64 t.un] 75)
  have hc:=BoxA.new (((w.setCell ⟨bp,i*2,none⟩ (.int .i64 0)).setCell ⟨bp,i*2+1,none⟩ (.int .i64 100000)).alloc (.cells #[.slice pA pn pc,.slice rA rn rc,.slice (some ⟨bR,oR,none⟩) tn tc,.slice sA sn sc,.int .i64 kn,.slice RA Rn Rc,.slice SA Sn Sc,.map (some bm),.slice (some ⟨bt,0,none⟩) tn Tc,.slice (some ⟨bp,0,none⟩) tn Pc] 115)) 75 #[.int .i64 t.src,.int .i64 t.rcp,.int .i64 t.per,.slice A2 n2 c2,.int .i64 t.lo,.int .i64 t.hi,.int .i64 t.kn,.int .i64 t.un]
  have hs:=hW.size
  simp only [World.size_alloc,World.size_setCell] at hs hc hb
  exact ⟨(((HJ.out.setF hlo1 hlo3 i (0,100000)).keep hlo1 HS.out (grown_alloc _ _ none) (by simp)).keep hlo1 HS.out (grown_alloc _ _ none) (by simp)).keep hlo1 HS.out (grown_of_below hW) (by simp),hb.ext hW,hc.ext hW,hs⟩
 have hcn':∀ b,countsB t.kn t.un kn=b→readS kn R ⟨M,T,P⟩ i t=readS kn R ⟨M,T,P⟩ i t:=fun _ _=>rfl
 clear hcn'
 cases hf:findR R t.rcp with
 | none =>
   have hRC:=HRC.out
   rw [hf] at hRC
   have HRC:=hd_ hRC
   clear hRC
   have hres:readS kn R ⟨M,T,P⟩ i t=⟨M,T,P.set i (0,100000)⟩:=by simp [readS,readR,hf]
   rw [hres]
   clear hres hf
   go_enter Tryz.func120,Tryz.ntmps120
   go_wp2_with (go_at_call 83;refine (HRC.out _ (by exact bel_)).mono ?_;rintro e w3 ⟨hb3,rfl⟩)
   refine bodyPost_ret (results_none rfl _ _ _) rfl ?_
   obtain ⟨hJ3,_,_,_⟩:=HFIN.out _ hb3
   exact ⟨⟨_,rfl⟩,hJ3.keep hlo1 HS.out (grown_alloc _ _ none) (by simp)⟩
 | some r =>
   obtain ⟨hr1,hr2,hr3,hr4⟩:=HOK.out r (findR_mem hf).1
   have hRC:=HRC.out
   rw [hf] at hRC
   have HRC:=hd_ hRC
   have HF:=hd_ hf
   have HM0:=hd_ hm0
   clear hRC hf hm0
   cases hcn:countsB t.kn t.un kn with
   | false =>
     have hres:readS kn R ⟨M,T,P⟩ i t=⟨M,T,P.set i (0,100000)⟩:=by simp [readS,readR,HF.out,hcn]
     rw [hres]
     have HC:=hd_ hcn
     clear hres hcn
     go_enter Tryz.func120,Tryz.ntmps120
     go_wp2_with (first | (go_at_call 83;refine (HRC.out _ (by exact bel_)).mono ?_;rintro e w3 ⟨hb3,A1,n1,c1,rfl,hi1,hc1,hm1⟩;obtain ⟨hJ3,bA3,bT3,hz3⟩:=HFIN.out _ hb3;have hn1:n1≤1000000:=(by rw [← hi1.len];exact hr1);have HJ3:=hd_ hJ3;have HI1:=hd_ (hi1.now hb3);have kA:=bA3.cell;have zA:=bA3.lt;have kT:=bT3.cell;have zT:=bT3.lt;clear hi1 hJ3 hb3) | (go_at_call 119;refine (p_counts2 _ _ _ false _ HC.out).mono ?_;rintro e w1 ⟨rfl,rfl⟩))
     refine bodyPost_ret (results_none rfl _ _ _) rfl ?_
     exact ⟨⟨_,rfl⟩,HJ3.out.keep hlo1 HS.out (grown_alloc _ _ none) (by simp)⟩
   | true =>
     have HC:=hd_ hcn
     cases htk:takesB (encM M) r t.lv with
     | false =>
       have hres:readS kn R ⟨M,T,P⟩ i t=⟨M,T,P.set i (0,100000)⟩:=by simp [readS,readR,HF.out,htk]
       rw [hres]
       have HTK:=hd_ htk
       clear hres hcn htk
       go_enter Tryz.func120,Tryz.ntmps120
       go_wp2_with (first | (go_at_call 83;refine (HRC.out _ (by exact bel_)).mono ?_;rintro e w3 ⟨hb3,A1,n1,c1,rfl,hi1,hc1,hm1⟩;obtain ⟨hJ3,bA3,bT3,hz3⟩:=HFIN.out _ hb3;have hn1:n1≤1000000:=(by rw [← hi1.len];exact hr1);have HJ3:=hd_ hJ3;have HI1:=hd_ (hi1.now hb3);have kA:=bA3.cell;have zA:=bA3.lt;have kT:=bT3.cell;have zT:=bT3.lt;clear hi1 hJ3 hb3) | (go_at_call 119;refine (p_counts2 _ _ _ true _ HC.out).mono ?_;rintro e w1 ⟨rfl,rfl⟩) | (go_at_call 151;refine (p_takes_v (encM M) ⟨⟨pA,pn,pc,rA,rn,rc,some ⟨bR,oR,none⟩,tn,tc,sA,sn,sc⟩,kn,RA,Rn,Rc,SA,Sn,Sc,bm,some ⟨bt,0,none⟩,tn,Tc,some ⟨bp,0,none⟩,tn,Pc⟩ r t.lv A1 n1 c1 A2 n2 c2 _ _ hn2 hn1 (HJ3.out.m.alloc _) (HI1.out.now (by exact bel_)) (HI2.out _ (fun b o hb=>(HJ3.out.keep hlo1 HS.out (grown_alloc w3 (.cells #[.int .i64 r.src,.int .i64 r.bor,.int .i64 r.pap,.slice A1 n1 c1,.int .i64 r.day,.int .i64 r.kn,.int .i64 r.un] 79) none) (by simp)).cells HM0.out ⟨hB1,hB2,hB3⟩ b o hb) (by simp;omega)) HTW.out hr2 HTK.out).mono ?_;rintro e w4 ⟨rfl,hb4⟩;have bA4:=(bA3.alloc (.cells #[.int .i64 r.src,.int .i64 r.bor,.int .i64 r.pap,.slice A1 n1 c1,.int .i64 r.day,.int .i64 r.kn,.int .i64 r.un] 79)).ext hb4;have bT4:=(bT3.alloc (.cells #[.int .i64 r.src,.int .i64 r.bor,.int .i64 r.pap,.slice A1 n1 c1,.int .i64 r.day,.int .i64 r.kn,.int .i64 r.un] 79)).ext hb4;have bR4:=(BoxA.new w3 79 #[.int .i64 r.src,.int .i64 r.bor,.int .i64 r.pap,.slice A1 n1 c1,.int .i64 r.day,.int .i64 r.kn,.int .i64 r.un]).ext hb4;have hs4:=hb4.size;simp only [World.size_alloc] at hs4;have HJ4:=hd_ ((HJ3.out.keep hlo1 HS.out (grown_alloc w3 (.cells #[.int .i64 r.src,.int .i64 r.bor,.int .i64 r.pap,.slice A1 n1 c1,.int .i64 r.day,.int .i64 r.kn,.int .i64 r.un] 79) none) (by simp)).keep hlo1 HS.out (grown_of_below hb4) (by simp));clear kA zA kT zT;have kA:=bA4.cell;have zA:=bA4.lt;have kT:=bT4.cell;have zT:=bT4.lt;have kR:=bR4.cell;have zR:=bR4.lt))
       refine bodyPost_ret (results_none rfl _ _ _) rfl ?_
       exact ⟨⟨_,rfl⟩,(HJ3.out.keep hlo1 HS.out (grown_alloc _ _ none) (by simp)).keep hlo1 HS.out (grown_of_below hb4) (by simp)⟩
     | true =>
       have HTK:=hd_ htk
       cases hem:decide (t.hi<max t.lo (r.day+1)) with
       | true =>
         have hres:readS kn R ⟨M,T,P⟩ i t=⟨M,T,P.set i (0,100000)⟩:=by
          have:=of_decide_eq_true hem
          simp only [readS,readR,HF.out,hcn,htk,hem]
          rfl
         rw [hres]
         have HEM:=hd_ hem
         clear hres hcn htk hem
         go_enter Tryz.func120,Tryz.ntmps120
         go_wp2_with (first | (go_at_call 83;refine (HRC.out _ (by exact bel_)).mono ?_;rintro e w3 ⟨hb3,A1,n1,c1,rfl,hi1,hc1,hm1⟩;obtain ⟨hJ3,bA3,bT3,hz3⟩:=HFIN.out _ hb3;have hn1:n1≤1000000:=(by rw [← hi1.len];exact hr1);have HJ3:=hd_ hJ3;have HI1:=hd_ (hi1.now hb3);have kA:=bA3.cell;have zA:=bA3.lt;have kT:=bT3.cell;have zT:=bT3.lt;clear hi1 hJ3 hb3) | (go_at_call 119;refine (p_counts2 _ _ _ true _ HC.out).mono ?_;rintro e w1 ⟨rfl,rfl⟩) | (go_at_call 151;refine (p_takes_v (encM M) ⟨⟨pA,pn,pc,rA,rn,rc,some ⟨bR,oR,none⟩,tn,tc,sA,sn,sc⟩,kn,RA,Rn,Rc,SA,Sn,Sc,bm,some ⟨bt,0,none⟩,tn,Tc,some ⟨bp,0,none⟩,tn,Pc⟩ r t.lv A1 n1 c1 A2 n2 c2 _ _ hn2 hn1 (HJ3.out.m.alloc _) (HI1.out.now (by exact bel_)) (HI2.out _ (fun b o hb=>(HJ3.out.keep hlo1 HS.out (grown_alloc w3 (.cells #[.int .i64 r.src,.int .i64 r.bor,.int .i64 r.pap,.slice A1 n1 c1,.int .i64 r.day,.int .i64 r.kn,.int .i64 r.un] 79) none) (by simp)).cells HM0.out ⟨hB1,hB2,hB3⟩ b o hb) (by simp;omega)) HTW.out hr2 HTK.out).mono ?_;rintro e w4 ⟨rfl,hb4⟩;have bA4:=(bA3.alloc (.cells #[.int .i64 r.src,.int .i64 r.bor,.int .i64 r.pap,.slice A1 n1 c1,.int .i64 r.day,.int .i64 r.kn,.int .i64 r.un] 79)).ext hb4;have bT4:=(bT3.alloc (.cells #[.int .i64 r.src,.int .i64 r.bor,.int .i64 r.pap,.slice A1 n1 c1,.int .i64 r.day,.int .i64 r.kn,.int .i64 r.un] 79)).ext hb4;have bR4:=(BoxA.new w3 79 #[.int .i64 r.src,.int .i64 r.bor,.int .i64 r.pap,.slice A1 n1 c1,.int .i64 r.day,.int .i64 r.kn,.int .i64 r.un]).ext hb4;have hs4:=hb4.size;simp only [World.size_alloc] at hs4;have HJ4:=hd_ ((HJ3.out.keep hlo1 HS.out (grown_alloc w3 (.cells #[.int .i64 r.src,.int .i64 r.bor,.int .i64 r.pap,.slice A1 n1 c1,.int .i64 r.day,.int .i64 r.kn,.int .i64 r.un] 79) none) (by simp)).keep hlo1 HS.out (grown_of_below hb4) (by simp));clear kA zA kT zT;have kA:=bA4.cell;have zA:=bA4.lt;have kT:=bT4.cell;have zT:=bT4.lt;have kR:=bR4.cell;have zR:=bR4.lt) | (go_at_call 152;refine (p_behind w4.heap.size 0 t.lo r.day _ hr3 hr4 (new_frozen w4 _ _) ((BoxA.new w4 133 #[.int .i64 t.lo,.int .i64 t.hi]).cell 0)).mono ?_;rintro e w6 ⟨⟨v6,rfl⟩,hw6⟩;have nA:w.heap.size≠w4.heap.size:=(by omega);have nT:w.heap.size+1≠w4.heap.size:=(by omega);have nR:w3.heap.size≠w4.heap.size:=(by omega);have bA6:BoxA w6 w.heap.size 115 #[.slice pA pn pc,.slice rA rn rc,.slice (some ⟨bR,oR,none⟩) tn tc,.slice sA sn sc,.int .i64 kn,.slice RA Rn Rc,.slice SA Sn Sc,.map (some bm),.slice (some ⟨bt,0,none⟩) tn Tc,.slice (some ⟨bp,0,none⟩) tn Pc]:=(by rw [hw6];exact (bA4.alloc _).other nA _);have bT6:BoxA w6 (w.heap.size+1) 75 #[.int .i64 t.src,.int .i64 t.rcp,.int .i64 t.per,.slice A2 n2 c2,.int .i64 t.lo,.int .i64 t.hi,.int .i64 t.kn,.int .i64 t.un]:=(by rw [hw6];exact (bT4.alloc _).other nT _);have bR6:BoxA w6 w3.heap.size 79 #[.int .i64 r.src,.int .i64 r.bor,.int .i64 r.pap,.slice A1 n1 c1,.int .i64 r.day,.int .i64 r.kn,.int .i64 r.un]:=(by rw [hw6];exact (bR4.alloc _).other nR _);have bD6:BoxA w6 w4.heap.size 133 #[.int .i64 (max t.lo (r.day+1)),.int .i64 t.hi]:=(by rw [hw6];exact (BoxA.new w4 _ _).set 0 _);have hs6:w4.heap.size<w6.heap.size:=bD6.lt;have HJ6:Hid (RdJ lo bm bp bt M T (P.set i (0,100000)) w w6):=(by show RdJ _ _ _ _ _ _ _ _ _;rw [hw6];exact (HJ4.out.keep hlo1 HS.out (grown_alloc w4 _ none) (by simp)).keep hlo1 HS.out (grown_setCell _ w4.heap.size 0 _) (fun r e=>by cases e;omega));clear kA zA kT zT kR zR hw6;have kA:=bA6.cell;have zA:=bA6.lt;have kT:=bT6.cell;have zT:=bT6.lt;have kR:=bR6.cell;have zR:=bR6.lt;have kD:=bD6.cell;have zD:=bD6.lt) | (go_at_call 153;refine (p_empty_v (max t.lo (r.day+1)) t.hi _ _ HEM.out).mono ?_;rintro e w7 ⟨rfl,hb7⟩))
         refine bodyPost_ret (results_none rfl _ _ _) rfl ?_
         exact ⟨⟨_,rfl⟩,HJ6.out.keep hlo1 HS.out (grown_of_below hb7) (by simp)⟩
       | false=>exact absurd hno (by simp only [readR,HF.out,hcn,htk,hem];simp)
end Go.Proofs.YtmcmbicapdcfmaaGreat
