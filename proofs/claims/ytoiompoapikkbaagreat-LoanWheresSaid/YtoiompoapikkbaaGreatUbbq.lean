/- Layer 2 of the texts that LoanWheres takes: Ubbq. -/
import Derived.Test.YtoiompoapikkbaaGreatUbaq
set_option linter.unusedVariables false
set_option linter.unusedSimpArgs false
/- Layer 2: CheckTrue, Clash. -/
namespace Go.Proofs.YtoiompoapikkbaaGreat
open Go.RowKit Go.Maps
def trueE (l:Led) (kn:Int) (days:List Int):Int:=if days.length=l.rt.length∧setE l kn=0 then errI (trueD days (setP l kn)) 29 else 29
theorem p_checkTrueN (l:Led) (kn:Int) (days:List Int) (D:Option Addr) (m c0:Nat) (a:Acc) (v:Int) (w:World) (hl:LedOk l) (h:OpnA w a l kn) (hm:m≤9223372036854775807) (hdy:Is w w.heap.size D m days) (hv:trueE l kn days=v) (h0:¬ v=0) :
 Calls Tryz.prog 133 #[.pointer (some ⟨w.heap.size,0,none⟩),.slice D m c0] (w.alloc (.cells (accC a) 119)) fun e w'=>e=.returned (.int .i64 v)∧Below w.heap.size w w':=by
 have hb:Below w.heap.size w (w.alloc (.cells (accC a) 119)):=by exact bel_
 have hc:=p_checkTrue (opnL l kn).M (cntR l kn) (opnL l kn).P (cntS l kn) days a w.heap.size D m c0 _ (h.acc.now hb) (cnt_sgs hl kn) (by have:=h.sn;omega) (h.sg.now abS hb) (BoxA.new w 119 (accC a)) hm (Is.ext hdy hb (Nat.le_refl _))
 refine hc.mono fun e w' hr=>?_
 subst hv
 unfold trueE at h0 ⊢
 by_cases hlen:days.length=l.rt.length
 ·have h2:=hr.2 (hlen.trans h.pn.symm)
  have hse:setE l kn=match dblR (opnL l kn).M (opnL l kn).P (cntR l kn),narL (opnL l kn).M (cntR l kn) (cntS l kn) (opnL l kn).P with
   | some _,_=>25
   | none,none=>27
   | none,some _=>0:=rfl
  cases hd:dblR (opnL l kn).M (opnL l kn).P (cntR l kn) with
  | some p =>
    rw [hd] at h2 hse
    rw [if_neg (by rw [hse];simp)]
    exact ⟨h2.1,Below.then_ hb h2.2⟩
  | none =>
    cases ho:narL (opnL l kn).M (cntR l kn) (cntS l kn) (opnL l kn).P with
    | none =>
      rw [hd,ho] at h2 hse
      rw [if_neg (by rw [hse];simp)]
      exact ⟨h2.1,Below.then_ hb h2.2⟩
    | some P' =>
      rw [hd,ho] at h2 hse
      have hsp:setP l kn=P':=by rw [setP,ho];rfl
      rw [if_pos ⟨hlen,hse⟩,hsp]
      obtain ⟨h3,ws,⟨_,w1,A,c,hb1,_,_,hws⟩,hb2⟩:=h2
      refine ⟨h3,?_⟩
      have hB:=(Below.then_ hb hb1).setCell (show w.heap.size≤(⟨w.heap.size,9,none⟩:Addr).block from Nat.le_refl _) (.slice A a.Pn c)
      rw [← hws] at hB
      exact Below.then_ hB hb2
 ·have h1:=hr.1 (fun e=>hlen (e.trans h.pn))
  rw [if_neg (fun h=>hlen h.1)]
  exact ⟨h1.1,Below.then_ hb h1.2⟩
theorem p_checkTrue0 (l:Led) (kn:Int) (days:List Int) (D:Option Addr) (m c0:Nat) (a:Acc) (w:World) (hl:LedOk l) (h:OpnA w a l kn) (hm:m≤9223372036854775807) (hdy:Is w w.heap.size D m days) (hv:trueE l kn days=0) :
 Calls Tryz.prog 133 #[.pointer (some ⟨w.heap.size,0,none⟩),.slice D m c0] (w.alloc (.cells (accC a) 119)) fun e w'=>∃ A c,e=.returned (.int .i64 0)∧Below w.heap.size w w'∧BoxA w' w.heap.size 119 (accC { a with PA:=A,Pc:=c }) ∧
  AccR w' { a with PA:=A,Pc:=c } (opnL l kn).M (cntR l kn) (setP l kn):=by
 have hb:Below w.heap.size w (w.alloc (.cells (accC a) 119)):=by exact bel_
 have hbox:=BoxA.new w 119 (accC a)
 have hc:=p_checkTrue (opnL l kn).M (cntR l kn) (opnL l kn).P (cntS l kn) days a w.heap.size D m c0 _ (h.acc.now hb) (cnt_sgs hl kn) (by have:=h.sn;omega) (h.sg.now abS hb) hbox hm (Is.ext hdy hb (Nat.le_refl _))
 refine hc.mono fun e w' hr=>?_
 unfold trueE at hv
 split at hv
 ·rename_i hq
  have h2:=hr.2 (hq.1.trans h.pn.symm)
  have hse:=hq.2
  unfold setE at hse
  cases hd:dblR (opnL l kn).M (opnL l kn).P (cntR l kn) with
  | some p=>rw [hd] at hse;cases hse
  | none =>
    cases ho:narL (opnL l kn).M (cntR l kn) (cntS l kn) (opnL l kn).P with
    | none=>rw [hd,ho] at hse;cases hse
    | some P' =>
      rw [hd,ho] at h2
      have hsp:setP l kn=P':=by rw [setP,ho];rfl
      rw [hsp] at hv ⊢
      obtain ⟨h3,ws,⟨_,w1,A,c,hb1,ho1,hl1,hws⟩,hb2⟩:=h2
      rw [hv] at h3
      have hB:Below w.heap.size w w1:=Below.then_ hb hb1
      have hB2:=hB.setCell (show w.heap.size≤(⟨w.heap.size,9,none⟩:Addr).block from Nat.le_refl _) (.slice A a.Pn c)
      have ho2:(w1.setCell ⟨w.heap.size,9,none⟩ (.slice A a.Pn c)).ownsRow (w.alloc (.cells (accC a) 119)).heap.size 143 2 (.slice A a.Pn c) a.Pn (folCells P'):=own_keep ho1 fun b hb9=>Below.heap_setCell _ _ _ _ (fun e=>by
       have:=own_le ho1 hb9
       simp only [World.size_alloc] at this
       have e:b=w.heap.size:=e
       omega)
      have hbx:=(hbox.ext hb1).set 9 (.slice A a.Pn c)
      have hac:=h.acc.settled hB2 ho2 hl1
      rw [← hws] at hB2 hbx hac
      exact ⟨A,c,h3,Below.then_ hB2 hb2,hbx.ext hb2,hac.now hb2⟩
 ·cases hv
def checkTrueX (l:Led) (kn:Int) (days:List Int):Int:=if preE l [kn]=0 then trueE l kn days else preE l [kn]
set_option maxRecDepth 10000 in
set_option maxHeartbeats 4000000 in
theorem p_CheckTrue (l:Led) (x:Lsl) (kn:Int) (days:List Int) (D:Option Addr) (m c0:Nat) (w:World) (hf:x.fit) (hd:LedIn w w.heap.size x l) (hm:m≤9223372036854775807) (hdy:Is w w.heap.size D m days) :
 Calls Tryz.prog 51 #[.agg #[.slice x.pA x.pn x.pc,.slice x.rA x.rn x.rc,.slice x.tA x.tn x.tc,.slice x.sA x.sn x.sc],.int .i64 kn,.slice D m c0] w (fun e w'=>e=.returned (.int .i64 (checkTrueX l kn days))∧Below w.heap.size w w'):=by
 obtain ⟨pA,pn,pc,rA,rn,rc,tA,tn,tc,sA,sn,sc⟩:=x
 have HD:=Lib.hid hd
 have hml:maxLen≤9223372036854775807:=by decide
 have hpn:pn≤9223372036854775807:=by have:=hf.p;dsimp only at this;omega
 have hrn:rn≤9223372036854775807:=by have:=hf.r;dsimp only at this;omega
 have htn:tn≤9223372036854775807:=by have:=hf.t;dsimp only at this;omega
 have hsn:sn≤9223372036854775807:=by have:=hf.s;dsimp only at this;omega
 clear hd hf hml
 obtain ⟨v,hv⟩:∃ v,preE l [kn]=v:=⟨_,rfl⟩
 have HV:Hid (orL [errI (ledB l) 24,errI (daysOk [kn]) 6]=v):=by show _=_;exact hv
 have HDY:=Lib.hid hdy
 clear hdy
 by_cases hv0:v=0
 ·subst hv0
  have HLO:=Lib.hid (led_ok (pre_zero hv).1)
  have hres:checkTrueX l kn days=trueE l kn days:=by rw [checkTrueX,if_pos hv]
  rw [hres]
  obtain ⟨ve,hve⟩:∃ ve,trueE l kn days=ve:=⟨_,rfl⟩
  have HTE0:=Lib.hid hve
  rw [hve]
  clear hres hv
  by_cases he:ve=0
  ·subst he
   have HTE:=HTE0
   clear hve
   go_enter Tryz.func51,Tryz.ntmps51
   go_wp2_with (first | (go_at_call 18;refine (p_Check l ⟨pA,pn,pc,rA,rn,rc,tA,tn,tc,sA,sn,sc⟩ _ hpn hrn htn hsn (HD.out.now (by exact bel_))).mono ?_;rintro e w1 ⟨rfl,hb1⟩;have HB1:Below w.heap.size w w1:=Below.then_ (by exact bel_) hb1;have hs1:=HB1.size;have bL0:=BoxA.new w 27 #[.slice pA pn pc,.slice rA rn rc,.slice tA tn tc,.slice sA sn sc];have bL1:=bL0.ext hb1;have kL1:=bL1.cell;have zL1:=bL1.lt;clear hb1) | (go_at_call 100;refine (p_checkDays [kn] _ 1 1 _ (by decide) (Rd.new _ #[.int .i64 kn] _ 1 1 _ (by simp) rfl)).mono ?_;rintro e w2 ⟨rfl,hb2⟩;have HB2:Below w.heap.size w w2:=Below.then_ (by exact bel_) hb2;have hs2:=HB2.size;have bL2:=(bL1.alloc _).ext hb2;have kL2:=bL2.cell;have zL2:=bL2.lt;clear kL1 zL1;clear hb2) | (go_at_call 99;refine (p_first [errI (ledB l) 24,errI (daysOk [kn]) 6] 0 _ 2 2 _ (by decide) (Rd.new _ #[.int .i64 (errI (ledB l) 24),.int .i64 (errI (daysOk [kn]) 6)] _ 1 2 _ (by simp) rfl) HV.out).mono ?_;rintro e w1 ⟨rfl,rfl⟩) | (go_at_call 101;refine (p_openA l ⟨pA,pn,pc,rA,rn,rc,tA,tn,tc,sA,sn,sc⟩ kn _ HLO.out (HD.out.now (by exact bel_))).mono ?_;rintro e w5 ⟨RA,Rn,Rc,SA,Sn,Sc,bm,TA,Tn,Tc,PA,Pn,Pc,rfl,hb5,hO⟩;have HB5:Below w.heap.size w w5:=Below.then_ (by exact bel_) hb5;have hs5:=HB5.size;have HO:=Lib.hid hO;have bL5:=(bL2.alloc _).ext hb5;have kL5:=bL5.cell;have zL5:=bL5.lt;clear kL2 zL2;clear hO hb5) | (go_at_call 133;refine (p_checkTrue0 l kn days D m c0 ⟨⟨pA,pn,pc,rA,rn,rc,tA,tn,tc,sA,sn,sc⟩,kn,RA,Rn,Rc,SA,Sn,Sc,bm,TA,Tn,Tc,PA,Pn,Pc⟩ w5 HLO.out HO.out hm (HDY.out.now HB5) HTE.out).mono ?_;rintro e w6 ⟨PA2,Pc2,rfl,hb6,hbx6,hac6⟩;have HB6:Below w.heap.size w w6:=Below.then_ HB5 hb6;have hs6:=HB6.size))
   go_ret
   exact ⟨rfl,HB6⟩
  ·have HTE:=HTE0
   have HVE:=Lib.hid he
   clear hve he
   go_enter Tryz.func51,Tryz.ntmps51
   go_wp2_with (first | (go_at_call 18;refine (p_Check l ⟨pA,pn,pc,rA,rn,rc,tA,tn,tc,sA,sn,sc⟩ _ hpn hrn htn hsn (HD.out.now (by exact bel_))).mono ?_;rintro e w1 ⟨rfl,hb1⟩;have HB1:Below w.heap.size w w1:=Below.then_ (by exact bel_) hb1;have hs1:=HB1.size;have bL0:=BoxA.new w 27 #[.slice pA pn pc,.slice rA rn rc,.slice tA tn tc,.slice sA sn sc];have bL1:=bL0.ext hb1;have kL1:=bL1.cell;have zL1:=bL1.lt;clear hb1) | (go_at_call 100;refine (p_checkDays [kn] _ 1 1 _ (by decide) (Rd.new _ #[.int .i64 kn] _ 1 1 _ (by simp) rfl)).mono ?_;rintro e w2 ⟨rfl,hb2⟩;have HB2:Below w.heap.size w w2:=Below.then_ (by exact bel_) hb2;have hs2:=HB2.size;have bL2:=(bL1.alloc _).ext hb2;have kL2:=bL2.cell;have zL2:=bL2.lt;clear kL1 zL1;clear hb2) | (go_at_call 99;refine (p_first [errI (ledB l) 24,errI (daysOk [kn]) 6] 0 _ 2 2 _ (by decide) (Rd.new _ #[.int .i64 (errI (ledB l) 24),.int .i64 (errI (daysOk [kn]) 6)] _ 1 2 _ (by simp) rfl) HV.out).mono ?_;rintro e w1 ⟨rfl,rfl⟩) | (go_at_call 101;refine (p_openA l ⟨pA,pn,pc,rA,rn,rc,tA,tn,tc,sA,sn,sc⟩ kn _ HLO.out (HD.out.now (by exact bel_))).mono ?_;rintro e w5 ⟨RA,Rn,Rc,SA,Sn,Sc,bm,TA,Tn,Tc,PA,Pn,Pc,rfl,hb5,hO⟩;have HB5:Below w.heap.size w w5:=Below.then_ (by exact bel_) hb5;have hs5:=HB5.size;have HO:=Lib.hid hO;have bL5:=(bL2.alloc _).ext hb5;have kL5:=bL5.cell;have zL5:=bL5.lt;clear kL2 zL2;clear hO hb5) | (go_at_call 133;refine (p_checkTrueN l kn days D m c0 ⟨⟨pA,pn,pc,rA,rn,rc,tA,tn,tc,sA,sn,sc⟩,kn,RA,Rn,Rc,SA,Sn,Sc,bm,TA,Tn,Tc,PA,Pn,Pc⟩ ve w5 HLO.out HO.out hm (HDY.out.now HB5) HTE.out HVE.out).mono ?_;rintro e w6 ⟨rfl,hb6⟩;have HB6:Below w.heap.size w w6:=Below.then_ HB5 hb6;have hs6:=HB6.size))
   go_ret
   exact ⟨rfl,HB6⟩
 ·have hres:checkTrueX l kn days=v:=by rw [checkTrueX,if_neg (by rw [hv];exact hv0),hv]
  rw [hres]
  have hv1:(v != 0)=true:=by simpa using hv0
  clear hres hv hv0
  go_enter Tryz.func51,Tryz.ntmps51
  go_wp2_with (first | (go_at_call 18;refine (p_Check l ⟨pA,pn,pc,rA,rn,rc,tA,tn,tc,sA,sn,sc⟩ _ hpn hrn htn hsn (HD.out.now (by exact bel_))).mono ?_;rintro e w1 ⟨rfl,hb1⟩;have HB1:Below w.heap.size w w1:=Below.then_ (by exact bel_) hb1;have hs1:=HB1.size;have bL0:=BoxA.new w 27 #[.slice pA pn pc,.slice rA rn rc,.slice tA tn tc,.slice sA sn sc];have bL1:=bL0.ext hb1;have kL1:=bL1.cell;have zL1:=bL1.lt;clear hb1) | (go_at_call 100;refine (p_checkDays [kn] _ 1 1 _ (by decide) (Rd.new _ #[.int .i64 kn] _ 1 1 _ (by simp) rfl)).mono ?_;rintro e w2 ⟨rfl,hb2⟩;have HB2:Below w.heap.size w w2:=Below.then_ (by exact bel_) hb2;have hs2:=HB2.size;have bL2:=(bL1.alloc _).ext hb2;have kL2:=bL2.cell;have zL2:=bL2.lt;clear kL1 zL1;clear hb2) | (go_at_call 99;refine (p_first [errI (ledB l) 24,errI (daysOk [kn]) 6] v _ 2 2 _ (by decide) (Rd.new _ #[.int .i64 (errI (ledB l) 24),.int .i64 (errI (daysOk [kn]) 6)] _ 1 2 _ (by simp) rfl) HV.out).mono ?_;rintro e w1 ⟨rfl,rfl⟩))
  go_ret
  exact ⟨rfl,by exact bel_⟩
end Go.Proofs.YtoiompoapikkbaaGreat
/- Layer 2: Clash. -/
namespace Go.Proofs.YtoiompoapikkbaaGreat
open Go.RowKit Go.Maps
def conB (l:Led) (kn:Int) (S:List Sgt):Bool:=(narL (opnL l kn).M (cntR l kn) S (opnL l kn).P).isNone
def clash2 (l:Led) (kn:Int):List Sgt→Option (Sgt × Sgt)
 | []=>none
 | x :: S=>match S.find? (fun y=>conB l kn [x,y]) with
   | some y=>some (x,y)
   | none=>clash2 l kn S
theorem clash2_some {l:Led} {kn:Int} {xs:List Sgt} {k:Nat} {x y:Sgt} {o:Option (Sgt × Sgt)} (hx:xs[k]?=some x) (hf:(xs.drop (k+1)).find? (fun y=>conB l kn [x,y])=some y) (ho:clash2 l kn (xs.drop k)=o):o=some (x,y):=by
 have hlt:k<xs.length:=(List.getElem?_eq_some_iff.1 hx).1
 rw [List.drop_eq_getElem_cons hlt,(List.getElem?_eq_some_iff.1 hx).2,clash2,hf] at ho
 exact ho.symm
theorem clash2_none {l:Led} {kn:Int} {xs:List Sgt} {k:Nat} {x:Sgt} {o:Option (Sgt × Sgt)} (hx:xs[k]?=some x) (hf:(xs.drop (k+1)).find? (fun y=>conB l kn [x,y])=none) (ho:clash2 l kn (xs.drop k)=o):clash2 l kn (xs.drop (k+1))=o:=by
 have hlt:k<xs.length:=(List.getElem?_eq_some_iff.1 hx).1
 rw [List.drop_eq_getElem_cons hlt,(List.getElem?_eq_some_iff.1 hx).2,clash2,hf] at ho
 exact ho
def clashR:Option (Sgt × Sgt)→List Int × Int
 | some p=>([p.1.src,p.2.src],0)
 | none=>([],28)
def clashX (l:Led) (kn:Int):List Int × Int:=if preE l [kn]=0 then (match dblR (opnL l kn).M (opnL l kn).P (cntR l kn) with
 | some _=>([],25)
 | none=>match (cntS l kn).find? (fun s=>conB l kn [s]) with
   | some s=>([s.src],0)
   | none=>clashR (clash2 l kn (cntS l kn))) else ([],preE l [kn])
theorem p_contradictA (l:Led) (kn:Int) (S:List Sgt) (v:Bool) (a:Acc) (A:Option Addr) (n c:Nat) (w:World) (hl:LedOk l) (h:OpnA w a l kn) (hS:∀ s∈S,s∈cntS l kn) (hn:n≤1000000) (hs:Sgs w w.heap.size A n S) (hv:conB l kn S=v) :
 Calls Tryz.prog 108 #[accV a,.slice A n c] w fun e w'=>e=.returned (.bool v)∧Below w.heap.size w w':=by
 subst hv
 exact p_contradict _ _ _ _ _ _ _ _ _ h.acc (fun s hs=>cnt_sgs hl kn s (hS s hs)) hn hs
theorem sgs_new1 (W:World) (s:Sgt) (b:Nat) (hb:W.heap.size=b):Sgs (W.alloc (.cells (sgC s).toArray 38)) (W.alloc (.cells (sgC s).toArray 38)).heap.size (some ⟨b,0,none⟩) 1 [s] :=
 sq_sg (Rd.new W (sgC s).toArray 38 7 1 b hb rfl) rfl
theorem sgs_new2 (W:World) (s t:Sgt) (b:Nat) (hb:W.heap.size=b):Sgs (W.alloc (.cells (sgC s ++ sgC t).toArray 38)) (W.alloc (.cells (sgC s ++ sgC t).toArray 38)).heap.size (some ⟨b,0,none⟩) 2 [s,t] :=
 sq_sg (Rd.new W (sgC s ++ sgC t).toArray 38 7 2 b hb rfl) rfl
set_option maxRecDepth 10000 in
set_option maxHeartbeats 4000000 in
theorem p_Clash (l:Led) (x:Lsl) (kn:Int) (w:World) (hf:x.fit) (hd:LedIn w w.heap.size x l) :
 Calls Tryz.prog 25 #[.agg #[.slice x.pA x.pn x.pc,.slice x.rA x.rn x.rc,.slice x.tA x.tn x.tc,.slice x.sA x.sn x.sc],.int .i64 kn] w (RetLE (clashX l kn) w):=by
 obtain ⟨pA,pn,pc,rA,rn,rc,tA,tn,tc,sA,sn,sc⟩:=x
 have HD:=Lib.hid hd
 have hml:maxLen≤9223372036854775807:=by decide
 have hpn:pn≤9223372036854775807:=by have:=hf.p;dsimp only at this;omega
 have hrn:rn≤9223372036854775807:=by have:=hf.r;dsimp only at this;omega
 have htn:tn≤9223372036854775807:=by have:=hf.t;dsimp only at this;omega
 have hsn:sn≤9223372036854775807:=by have:=hf.s;dsimp only at this;omega
 clear hd hf hml
 obtain ⟨v,hv⟩:∃ v,preE l [kn]=v:=⟨_,rfl⟩
 have HV:Hid (orL [errI (ledB l) 24,errI (daysOk [kn]) 6]=v):=by show _=_;exact hv
 by_cases hv0:v=0
 ·subst hv0
  have HLO:=Lib.hid (led_ok (pre_zero hv).1)
  cases hdr:dblR (opnL l kn).M (opnL l kn).P (cntR l kn) with
  | some q =>
    have hres:clashX l kn=([],25):=by rw [clashX,if_pos hv,hdr]
    rw [hres]
    have HDR:=Lib.hid hdr
    clear hres hdr hv
    go_enter Tryz.func25,Tryz.ntmps25
    go_wp2_with (first | (go_at_call 18;refine (p_Check l ⟨pA,pn,pc,rA,rn,rc,tA,tn,tc,sA,sn,sc⟩ _ hpn hrn htn hsn (HD.out.now (by exact bel_))).mono ?_;rintro e w1 ⟨rfl,hb1⟩;have HB1:Below w.heap.size w w1:=Below.then_ (by exact bel_) hb1;have hs1:=HB1.size;have bL0:=BoxA.new w 27 #[.slice pA pn pc,.slice rA rn rc,.slice tA tn tc,.slice sA sn sc];have bL1:=bL0.ext hb1;have kL1:=bL1.cell;have zL1:=bL1.lt;clear hb1) | (go_at_call 100;refine (p_checkDays [kn] _ 1 1 _ (by decide) (Rd.new _ #[.int .i64 kn] _ 1 1 _ (by simp) rfl)).mono ?_;rintro e w2 ⟨rfl,hb2⟩;have HB2:Below w.heap.size w w2:=Below.then_ (by exact bel_) hb2;have hs2:=HB2.size;have bL2:=(bL1.alloc _).ext hb2;have kL2:=bL2.cell;have zL2:=bL2.lt;clear kL1 zL1;clear hb2) | (go_at_call 99;refine (p_first [errI (ledB l) 24,errI (daysOk [kn]) 6] 0 _ 2 2 _ (by decide) (Rd.new _ #[.int .i64 (errI (ledB l) 24),.int .i64 (errI (daysOk [kn]) 6)] _ 1 2 _ (by simp) rfl) HV.out).mono ?_;rintro e w1 ⟨rfl,rfl⟩) | (go_at_call 101;refine (p_openA l ⟨pA,pn,pc,rA,rn,rc,tA,tn,tc,sA,sn,sc⟩ kn _ HLO.out (HD.out.now (by exact bel_))).mono ?_;rintro e w5 ⟨RA,Rn,Rc,SA,Sn,Sc,bm,TA,Tn,Tc,PA,Pn,Pc,rfl,hb5,hO⟩;have HB5:Below w.heap.size w w5:=Below.then_ (by exact bel_) hb5;have hs5:=HB5.size;have HO:=Lib.hid hO;have bL5:=(bL2.alloc _).ext hb5;have kL5:=bL5.cell;have zL5:=bL5.lt;clear kL2 zL2;clear hO hb5) | (go_at_call 107;have hag:=p_agree (opnL l kn).M (cntR l kn) (opnL l kn).P ⟨⟨pA,pn,pc,rA,rn,rc,tA,tn,tc,sA,sn,sc⟩,kn,RA,Rn,Rc,SA,Sn,Sc,bm,TA,Tn,Tc,PA,Pn,Pc⟩ (w5.alloc (.cells #[.slice pA pn pc,.slice rA rn rc,.slice tA tn tc,.slice sA sn sc,.int .i64 kn,.slice RA Rn Rc,.slice SA Sn Sc,.map (some bm),.slice TA Tn Tc,.slice PA Pn Pc] 119)) (HO.out.acc.now (by exact bel_));rw [HDR.out] at hag;simp only [Option.isNone_none,Option.isNone_some,errI] at hag;refine hag.mono ?_;rintro e w6 ⟨rfl,hb6⟩;have HB6:Below w.heap.size w w6:=Below.then_ HB5 (Below.then_ (by exact bel_) hb6);have hs6:=HB6.size;have bA6:=(BoxA.new w5 119 #[.slice pA pn pc,.slice rA rn rc,.slice tA tn tc,.slice sA sn sc,.int .i64 kn,.slice RA Rn Rc,.slice SA Sn Sc,.map (some bm),.slice TA Tn Tc,.slice PA Pn Pc]).ext hb6;have k6:=bA6.cell;have z6:=bA6.lt;have HO6:=Lib.hid ((HO.out.now (show Below w5.heap.size w5 (w5.alloc (.cells #[.slice pA pn pc,.slice rA rn rc,.slice tA tn tc,.slice sA sn sc,.int .i64 kn,.slice RA Rn Rc,.slice SA Sn Sc,.map (some bm),.slice TA Tn Tc,.slice PA Pn Pc] 119)) by exact bel_)).now hb6);have HBA:=Lib.hid bA6;clear kL5 zL5 hb6))
    go_ret2
    exact RetLE.err HB6
  | none =>
    obtain ⟨r,hres⟩:∃ r,clashX l kn=r:=⟨_,rfl⟩
    rw [hres]
    have HDR:=Lib.hid hdr
    have HV0:=Lib.hid hv
    have HRES:=Lib.hid hres
    clear hres hdr hv
    go_enter Tryz.func25,Tryz.ntmps25
    go_wp2_with (first | (go_at_call 18;refine (p_Check l ⟨pA,pn,pc,rA,rn,rc,tA,tn,tc,sA,sn,sc⟩ _ hpn hrn htn hsn (HD.out.now (by exact bel_))).mono ?_;rintro e w1 ⟨rfl,hb1⟩;have HB1:Below w.heap.size w w1:=Below.then_ (by exact bel_) hb1;have hs1:=HB1.size;have bL0:=BoxA.new w 27 #[.slice pA pn pc,.slice rA rn rc,.slice tA tn tc,.slice sA sn sc];have bL1:=bL0.ext hb1;have kL1:=bL1.cell;have zL1:=bL1.lt;clear hb1) | (go_at_call 100;refine (p_checkDays [kn] _ 1 1 _ (by decide) (Rd.new _ #[.int .i64 kn] _ 1 1 _ (by simp) rfl)).mono ?_;rintro e w2 ⟨rfl,hb2⟩;have HB2:Below w.heap.size w w2:=Below.then_ (by exact bel_) hb2;have hs2:=HB2.size;have bL2:=(bL1.alloc _).ext hb2;have kL2:=bL2.cell;have zL2:=bL2.lt;clear kL1 zL1;clear hb2) | (go_at_call 99;refine (p_first [errI (ledB l) 24,errI (daysOk [kn]) 6] 0 _ 2 2 _ (by decide) (Rd.new _ #[.int .i64 (errI (ledB l) 24),.int .i64 (errI (daysOk [kn]) 6)] _ 1 2 _ (by simp) rfl) HV.out).mono ?_;rintro e w1 ⟨rfl,rfl⟩) | (go_at_call 101;refine (p_openA l ⟨pA,pn,pc,rA,rn,rc,tA,tn,tc,sA,sn,sc⟩ kn _ HLO.out (HD.out.now (by exact bel_))).mono ?_;rintro e w5 ⟨RA,Rn,Rc,SA,Sn,Sc,bm,TA,Tn,Tc,PA,Pn,Pc,rfl,hb5,hO⟩;have HB5:Below w.heap.size w w5:=Below.then_ (by exact bel_) hb5;have hs5:=HB5.size;have HO:=Lib.hid hO;have bL5:=(bL2.alloc _).ext hb5;have kL5:=bL5.cell;have zL5:=bL5.lt;clear kL2 zL2;clear hO hb5) | (go_at_call 107;have hag:=p_agree (opnL l kn).M (cntR l kn) (opnL l kn).P ⟨⟨pA,pn,pc,rA,rn,rc,tA,tn,tc,sA,sn,sc⟩,kn,RA,Rn,Rc,SA,Sn,Sc,bm,TA,Tn,Tc,PA,Pn,Pc⟩ (w5.alloc (.cells #[.slice pA pn pc,.slice rA rn rc,.slice tA tn tc,.slice sA sn sc,.int .i64 kn,.slice RA Rn Rc,.slice SA Sn Sc,.map (some bm),.slice TA Tn Tc,.slice PA Pn Pc] 119)) (HO.out.acc.now (by exact bel_));rw [HDR.out] at hag;simp only [Option.isNone_none,Option.isNone_some,errI] at hag;refine hag.mono ?_;rintro e w6 ⟨rfl,hb6⟩;have HB6:Below w.heap.size w w6:=Below.then_ HB5 (Below.then_ (by exact bel_) hb6);have hs6:=HB6.size;have bA6:=(BoxA.new w5 119 #[.slice pA pn pc,.slice rA rn rc,.slice tA tn tc,.slice sA sn sc,.int .i64 kn,.slice RA Rn Rc,.slice SA Sn Sc,.map (some bm),.slice TA Tn Tc,.slice PA Pn Pc]).ext hb6;have k6:=bA6.cell;have z6:=bA6.lt;have HO6:=Lib.hid ((HO.out.now (show Below w5.heap.size w5 (w5.alloc (.cells #[.slice pA pn pc,.slice rA rn rc,.slice tA tn tc,.slice sA sn sc,.int .i64 kn,.slice RA Rn Rc,.slice SA Sn Sc,.map (some bm),.slice TA Tn Tc,.slice PA Pn Pc] 119)) by exact bel_)).now hb6);have HBA:=Lib.hid bA6;clear kL5 zL5 hb6))
    have HCON:Hid (∀ (W:World) (A:Option Addr) (n c:Nat) (S:List Sgt) (v:Bool),Below w6.heap.size w6 W→(∀ s∈S,s∈cntS l kn)→n≤1000000→Sgs W W.heap.size A n S→conB l kn S=v→Calls Tryz.prog 108 #[.agg #[.slice pA pn pc,.slice rA rn rc,.slice tA tn tc,.slice sA sn sc,.int .i64 kn,.slice RA Rn Rc,.slice SA Sn Sc,.map (some bm),.slice TA Tn Tc,.slice PA Pn Pc],.slice A n c] W fun e w'=>e=.returned (.bool v)∧Below W.heap.size W w'):=by
     show ∀ _,_
     exact fun W A n c S v hW hS hn hs hv=>p_contradictA l kn S v ⟨⟨pA,pn,pc,rA,rn,rc,tA,tn,tc,sA,sn,sc⟩,kn,RA,Rn,Rc,SA,Sn,Sc,bm,TA,Tn,Tc,PA,Pn,Pc⟩ A n c W HLO.out (HO6.out.now hW) hS hn hs hv
    have HSL:Hid ((cntS l kn).length=Sn):=by show _=_;exact HO6.out.sg.len
    have hSn:Sn≤60:=HO6.out.sn
    have hScc:Sn≤Sc∧Sc≤maxLen:=HO6.out.cs
    go_loopw [36] (fun i wr=>∃ k:Nat,k≤Sn∧i=.int .i64 k∧((cntS l kn).take k).find? (fun s=>conB l kn [s])=none∧Below w6.heap.size w6 wr) (fun i _=>Sn - (intOf i).toNat)
    case atStart=>exact ⟨0,by omega,rfl,rfl,Below.refl _ _⟩
    case round =>
     obtain ⟨k,hk,rfl,hfk,hB⟩:=hrel
     have HFK:=Lib.hid hfk
     clear hfk
     have hsB:=hB.size
     have HOw:=Lib.hid (HO6.out.now hB)
     have bAw:=HBA.out.ext hB
     have kAw:=bAw.cell
     have zAw:=bAw.lt
     have HBAw:=Lib.hid bAw
     by_cases hlt:k<Sn
     ·obtain ⟨b,o,s,hSA,hb,hs,a0,a1,a2,a3,a4,a5,a6⟩:=HOw.out.sg.at_ hlt
      have HMS:=Lib.hid (List.mem_of_getElem? hs)
      have HS:=Lib.hid hs
      obtain ⟨q,hq⟩:∃ q,conB l kn [s]=q:=⟨_,rfl⟩
      have HQ:=Lib.hid hq
      have hSA':SA=some ⟨b,o,none⟩:=hSA
      subst hSA'
      cases q with
      | true =>
        have hres2:r=([s.src],0):=by rw [← HRES.out,clashX,if_pos HV0.out,HDR.out];simp only [find_at2 HS.out hq HFK.out]
        subst hres2
        clear hs hq hSA
        go_wp2_with (go_at_call 108;refine (HCON.out _ _ _ _ [s] true (hB.trans ((show Below wr.heap.size wr _ by exact bel_).mono hsB)) (fun t ht=>by rw [List.mem_singleton.1 ht];exact HMS.out) (by decide) (sgs_new1 _ s _ (by simp)) HQ.out).mono ?_;rintro e w8 ⟨rfl,hb8⟩;have HB8:Below wr.heap.size wr w8:=Below.then_ (by exact bel_) hb8;have hs8:=HB8.size;have bs8:=((BoxA.new wr 38 (sgC s).toArray).alloc _).ext hb8;have ks8:=bs8.cell;have zs8:=bs8.lt)
        go_ret2
        have HBf:Below w.heap.size w w8:=HB6.trans ((hB.trans (HB8.mono (by omega))).mono (by omega))
        exact ⟨_,_,_,rfl,by exact bel_,Rd.new _ #[.int .i64 s.src] 3 1 1 _ (by simp) rfl,Nat.le_refl _,by decide⟩
      | false =>
        have HF:Hid (((cntS l kn).take (k+1)).find? (fun s=>conB l kn [s])=none):=by show _=_;exact find_step2 HS.out hq HFK.out
        clear hs hq hSA
        go_wp2_with (go_at_call 108;refine (HCON.out _ _ _ _ [s] false (hB.trans ((show Below wr.heap.size wr _ by exact bel_).mono hsB)) (fun t ht=>by rw [List.mem_singleton.1 ht];exact HMS.out) (by decide) (sgs_new1 _ s _ (by simp)) HQ.out).mono ?_;rintro e w8 ⟨rfl,hb8⟩;have HB8:Below wr.heap.size wr w8:=Below.then_ (by exact bel_) hb8;have hs8:=HB8.size;have bs8:=((BoxA.new wr 38 (sgC s).toArray).alloc _).ext hb8;have ks8:=bs8.cell;have zs8:=bs8.lt)
        go_roundw
        case rel=>exact ⟨k+1,by omega,by go_num,HF.out,hB.trans (HB8.mono (by omega))⟩
        case measure=>exact ms_
     ·have hkn:Hid (k=Sn):=by show _=_;omega
      have hf1:(cntS l kn).find? (fun s=>conB l kn [s])=none:=by
       have:=HFK.out
       rwa [List.take_of_length_le (by rw [HSL.out,hkn.out];exact Nat.le_refl _)] at this
      obtain ⟨q2,hq2⟩:∃ q,clash2 l kn (cntS l kn)=q:=⟨_,rfl⟩
      have hrr:r=clashR q2:=by
       rw [← HRES.out,clashX,if_pos HV0.out,HDR.out]
       simp only [hf1,hq2]
      have HRR:=Lib.hid hrr
      have HQ2:=Lib.hid hq2
      have HBk:=Lib.hid hB
      clear hrr hq2 hf1
      go_wp2
      go_loopw [51] (fun i wr=>∃ k:Nat,k≤Sn∧i=.int .i64 k∧clash2 l kn ((cntS l kn).drop k)=q2∧Below w6.heap.size w6 wr) (fun i _=>Sn - (intOf i).toNat)
      case atStart=>exact ⟨0,by omega,rfl,HQ2.out,HBk.out⟩
      case round =>
       clear hB HBAw HOw bAw kAw zAw hsB hlt hk
       obtain ⟨k,hk,rfl,hcl,hB⟩:=hrel
       obtain ⟨wo,hwo⟩:∃ wo:World,wo=wr:=⟨_,rfl⟩
       subst hwo
       have HCL:=Lib.hid hcl
       clear hcl
       have hsB:=hB.size
       have bAw:=HBA.out.ext hB
       have kAw:=bAw.cell
       have zAw:=bAw.lt
       by_cases hlt:k<Sn
       ·have hOo:Sgs wo wo.heap.size SA Sn (cntS l kn):=(HO6.out.now hB).sg
        obtain ⟨b,o,s,hSA,hb,hs,a0,a1,a2,a3,a4,a5,a6⟩:=hOo.at_ hlt
        have HMS:=Lib.hid (List.mem_of_getElem? hs)
        have HS:=Lib.hid hs
        have hSA':SA=some ⟨b,o,none⟩:=hSA
        subst hSA'
        obtain ⟨W2,hW2⟩:∃ W2,wo.alloc (.cells (sgC s).toArray 38)=W2:=⟨_,rfl⟩
        have hB2:Below wo.heap.size wo W2:=by rw [← hW2];exact (Below.refl _ _).alloc (Nat.le_refl _) _
        have bX:BoxA W2 wo.heap.size 38 (sgC s).toArray:=by rw [← hW2];exact BoxA.new _ _ _
        have HBX:=Lib.hid bX
        have HW2:=Lib.hid hW2
        have hs2':wo.heap.size<W2.heap.size:=bX.lt
        have HOo:=Lib.hid hOo
        clear hs hSA hW2 bX hOo
        by_cases hcap:Sc=k+1
        ·have hnk:Sn=k+1:=by omega
         have hfn:((cntS l kn).drop (k+1)).find? (fun y=>conB l kn [s,y])=none:=by
          rw [List.drop_eq_nil_of_le (by rw [HSL.out];omega)];rfl
         have HN:=Lib.hid (clash2_none HS.out hfn HCL.out)
         have HNK:=Lib.hid hnk
         clear hfn
         go_wp2
         go_loopw [62] (fun i wr=>i=.int .i64 0∧Below W2.heap.size W2 wr) (fun _ _=>0)
         case atStart=>exact ⟨rfl,by rw [← HW2.out];exact Below.refl _ _⟩
         case round =>
          obtain ⟨rfl,hB3⟩:=hrel
          have hz:Sn - (k+1)=0:=by have:=HNK.out;omega
          go_wp2
          go_roundw
          case rel=>exact ⟨k+1,by omega,by go_num,HN.out,hB.trans ((hB2.trans (hB3.mono (by omega))).mono (by omega))⟩
          case measure=>exact ms_
        ·have hcap2:¬ (k+1=Sc):=fun h=>hcap h.symm
         have HDR2:=Lib.hid (HOo.out.drop_ (k:=k+1) (by omega))
         go_wp2
         go_loopw [62] (fun i wr=>∃ j:Nat,j≤Sn - (k+1)∧i=.int .i64 j∧(((cntS l kn).drop (k+1)).take j).find? (fun y=>conB l kn [s,y])=none∧Below W2.heap.size W2 wr) (fun i _=>(Sn - (k+1)) - (intOf i).toNat)
         case atStart=>exact ⟨0,by omega,rfl,rfl,by rw [← HW2.out];exact Below.refl _ _⟩
         case round =>
          obtain ⟨j,hj,rfl,hfj,hB3⟩:=hrel
          have HFJ:=Lib.hid hfj
          clear hfj
          have hs3:=hB3.size
          have hBo:Below wo.heap.size wo wr:=hB2.trans (hB3.mono (by omega))
          have bAr:=bAw.ext hBo
          have m0:=bAr.cell
          have y0:=bAr.lt
          have bXr:=HBX.out.ext hB3
          have mX:=bXr.cell
          have yX:=bXr.lt
          by_cases hlj:j<Sn - (k+1)
          ·obtain ⟨b',o',y,e',hb',hy,p0,p1,p2,p3,p4,p5,p6⟩:=(HDR2.out.ext abS hBo (Nat.le_refl _)).at_ hlj
           obtain ⟨rfl,rfl⟩:b=b'∧o+(k+1)*7=o':=by simpa using e'
           have HY:=Lib.hid hy
           have HMY:Hid (y∈cntS l kn):=by show _∈_;exact List.mem_of_mem_drop (List.mem_of_getElem? hy)
           have hbr':b<wr.heap.size:=by omega
           obtain ⟨q,hq⟩:∃ q,conB l kn [s,y]=q:=⟨_,rfl⟩
           have HQ:=Lib.hid hq
           cases q with
           | true =>
             have hq2s:=clash2_some HS.out (find_at2 HY.out hq HFJ.out) HCL.out
             have hr2:r=([s.src,y.src],0):=by rw [HRR.out,hq2s];rfl
             subst hr2
             clear hy hq hq2s
             go_wp2_with (go_at_call 108;refine (HCON.out _ _ _ _ [s,y] true (hB.trans ((hBo.trans ((show Below wr.heap.size wr _ by exact bel_).mono (by omega))).mono (by omega))) (fun t ht=>by (rcases List.mem_cons.1 ht with rfl | ht);exact HMS.out;(rw [List.mem_singleton.1 ht];exact HMY.out)) (by decide) (sgs_new2 _ s y _ (by simp)) HQ.out).mono ?_;rintro e w8 ⟨rfl,hb8⟩;have HB8:Below wr.heap.size wr w8:=Below.then_ (by exact bel_) hb8;have hs8:=HB8.size;have bs8:=((bXr.alloc (.cells (sgC y).toArray 38)).alloc _).ext hb8;have ks8:=bs8.cell;have zs8:=bs8.lt;have by8:=((BoxA.new wr 38 (sgC y).toArray).alloc _).ext hb8;have ky8:=by8.cell;have zy8:=by8.lt)
             go_ret2
             have HBf:Below w.heap.size w w8:=HB6.trans ((hB.trans ((hBo.trans (HB8.mono (by omega))).mono (by omega))).mono (by omega))
             exact ⟨_,_,_,rfl,by exact bel_,Rd.new _ #[.int .i64 s.src,.int .i64 y.src] 3 1 2 _ (by simp) rfl,Nat.le_refl _,by decide⟩
           | false =>
             have HF:Hid ((((cntS l kn).drop (k+1)).take (j+1)).find? (fun y=>conB l kn [s,y])=none):=by show _=_;exact find_step2 HY.out hq HFJ.out
             clear hy hq
             go_wp2_with (go_at_call 108;refine (HCON.out _ _ _ _ [s,y] false (hB.trans ((hBo.trans ((show Below wr.heap.size wr _ by exact bel_).mono (by omega))).mono (by omega))) (fun t ht=>by (rcases List.mem_cons.1 ht with rfl | ht);exact HMS.out;(rw [List.mem_singleton.1 ht];exact HMY.out)) (by decide) (sgs_new2 _ s y _ (by simp)) HQ.out).mono ?_;rintro e w8 ⟨rfl,hb8⟩;have HB8:Below wr.heap.size wr w8:=Below.then_ (by exact bel_) hb8;have hs8:=HB8.size;have bs8:=((bXr.alloc (.cells (sgC y).toArray 38)).alloc _).ext hb8;have ks8:=bs8.cell;have zs8:=bs8.lt;have by8:=((BoxA.new wr 38 (sgC y).toArray).alloc _).ext hb8;have ky8:=by8.cell;have zy8:=by8.lt)
             go_roundw
             case rel=>exact ⟨j+1,by omega,by go_num,HF.out,hB3.trans (HB8.mono (by omega))⟩
             case measure=>exact ms_
          ·have hjn:Hid (j=Sn - (k+1)):=by show _=_;omega
           have hfn:((cntS l kn).drop (k+1)).find? (fun y=>conB l kn [s,y])=none:=by
            have:=HFJ.out
            rwa [List.take_of_length_le (by rw [List.length_drop,HSL.out,hjn.out];exact Nat.le_refl _)] at this
           have HN:=Lib.hid (clash2_none HS.out hfn HCL.out)
           clear hfn
           go_wp2
           go_roundw
           case rel=>exact ⟨k+1,by omega,by go_num,HN.out,hB.trans (hBo.mono (by omega))⟩
           case measure=>exact ms_
       ·have hkn2:Hid (k=Sn):=by show _=_;omega
        have hq2n:q2=none:=by
         rw [← HCL.out,List.drop_eq_nil_of_le (by rw [HSL.out,hkn2.out];exact Nat.le_refl _)];rfl
        have hr2:r=([],28):=by rw [HRR.out,hq2n];rfl
        subst hr2
        clear hq2n
        go_wp2
        go_ret2
        exact RetLE.err (HB6.trans (hB.mono (by omega)))
 ·have hres:clashX l kn=([],v):=by rw [clashX,if_neg (by rw [hv];exact hv0),hv]
  rw [hres]
  have hv1:(v != 0)=true:=by simpa using hv0
  clear hres hv hv0
  go_enter Tryz.func25,Tryz.ntmps25
  go_wp2_with (first | (go_at_call 18;refine (p_Check l ⟨pA,pn,pc,rA,rn,rc,tA,tn,tc,sA,sn,sc⟩ _ hpn hrn htn hsn (HD.out.now (by exact bel_))).mono ?_;rintro e w1 ⟨rfl,hb1⟩;have HB1:Below w.heap.size w w1:=Below.then_ (by exact bel_) hb1;have hs1:=HB1.size;have bL0:=BoxA.new w 27 #[.slice pA pn pc,.slice rA rn rc,.slice tA tn tc,.slice sA sn sc];have bL1:=bL0.ext hb1;have kL1:=bL1.cell;have zL1:=bL1.lt;clear hb1) | (go_at_call 100;refine (p_checkDays [kn] _ 1 1 _ (by decide) (Rd.new _ #[.int .i64 kn] _ 1 1 _ (by simp) rfl)).mono ?_;rintro e w2 ⟨rfl,hb2⟩;have HB2:Below w.heap.size w w2:=Below.then_ (by exact bel_) hb2;have hs2:=HB2.size;have bL2:=(bL1.alloc _).ext hb2;have kL2:=bL2.cell;have zL2:=bL2.lt;clear kL1 zL1;clear hb2) | (go_at_call 99;refine (p_first [errI (ledB l) 24,errI (daysOk [kn]) 6] v _ 2 2 _ (by decide) (Rd.new _ #[.int .i64 (errI (ledB l) 24),.int .i64 (errI (daysOk [kn]) 6)] _ 1 2 _ (by simp) rfl) HV.out).mono ?_;rintro e w1 ⟨rfl,rfl⟩))
  go_ret2
  exact RetLE.err (by exact bel_)
end Go.Proofs.YtoiompoapikkbaaGreat
