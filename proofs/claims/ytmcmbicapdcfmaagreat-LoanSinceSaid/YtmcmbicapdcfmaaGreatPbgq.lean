/- Layer 2 of the texts that the statements over histories take: Pbgq. -/
import Derived.Test.YtmcmbicapdcfmaaGreatPbfq
set_option linter.unusedVariables false
set_option linter.unusedSimpArgs false
set_option maxHeartbeats 16000000
namespace Go.Proofs.YtmcmbicapdcfmaaGreat
open Go.RowKit Go.Maps
def lastV (M:List ((Int × Int) × Nat)) (R:List Rcp) (leaf:Int):Option (Nat × Int)→Int × Int × Int
 | none=>(0,-1,-1)
 | some p=>match R[p.1]? with
   | none=>(0,-1,-1)
   | some r=>(r.bor,backI M r.src leaf,p.2)
theorem stay_last (R:List Rcp) (kn pap leaf day:Int) (M:List ((Int × Int) × Nat)) (h0:∀ r∈R,0≤r.day):∀ k,stayL M leaf day (((R.take k).filter fun r=>countsB r.kn r.un kn).filter (isOfB pap leaf))=lastV M R leaf (lastK kn pap leaf day R k)
 | 0=>by simp [stayL,lastK,lastV]
 | k+1=>by
   have ih:=stay_last R kn pap leaf day M h0 k
   rw [lastK_succ,lastStep]
   cases hr:R[k]? with
   | none =>
     have hl:R.length≤k:=by simpa using hr
     have e:R.take (k+1)=R.take k:=by rw [List.take_of_length_le (by omega),List.take_of_length_le hl]
     rw [e]
     exact ih
   | some r =>
     rw [take_snoc_some hr,List.filter_append,List.filter_append]
     dsimp only
     have hd0:=h0 r (List.mem_of_getElem? hr)
     cases hc:countsB r.kn r.un kn with
     | false=>simpa [hc] using ih
     | true =>
       cases ho:isOfB pap leaf r with
       | false=>simpa [hc,ho] using ih
       | true =>
         have e:(([r].filter fun r=>countsB r.kn r.un kn).filter (isOfB pap leaf))=[r]:=by simp [hc,ho]
         rw [e,stayL_snoc,ih]
         cases hL:lastK kn pap leaf day R k with
         | none =>
           by_cases h1:r.day≤day
           ·rw [if_pos (by simp [h1,newer])]
            have h2:¬ (day<r.day∨r.day≤((0:Int),(-1:Int),(-1:Int)).2.2):=by dsimp only;omega
            show stayStep M leaf day (0,-1,-1) r=_
            rw [stayStep,if_neg h2]
            simp [lastV,hr]
           ·rw [if_neg (by simp [h1])]
            have h2:day<r.day∨r.day≤((0:Int),(-1:Int),(-1:Int)).2.2:=by dsimp only;omega
            show stayStep M leaf day (0,-1,-1) r=_
            rw [stayStep,if_pos h2]
            rfl
         | some p =>
           obtain ⟨j,d⟩:=p
           obtain ⟨_,r2,hr2,hd2⟩:=lastK_at hL
           have e2:lastV M R leaf (some (j,d))=(r2.bor,backI M r2.src leaf,d):=by simp [lastV,hr2]
           rw [e2]
           by_cases h1:r.day≤day∧d<r.day
           ·rw [if_pos (by simp [h1.1,h1.2,newer])]
            have h2:¬ (day<r.day∨r.day≤(r2.bor,backI M r2.src leaf,d).2.2):=by dsimp only;omega
            rw [stayStep,if_neg h2]
            simp [lastV,hr]
           ·rw [if_neg (by simp only [newer,Bool.true_and,Bool.and_eq_true,decide_eq_true_eq];exact h1)]
            have h2:day<r.day∨r.day≤(r2.bor,backI M r2.src leaf,d).2.2:=by dsimp only;omega
            rw [stayStep,if_pos h2,e2]
theorem stayF_last (l:Led) (kn pap leaf day:Int) (M:List ((Int × Int) × Nat)) (h0:∀ r∈l.rc,0≤r.day):stayF M (cntR l kn) pap leaf day=lastV M l.rc leaf (lastK kn pap leaf day l.rc l.rc.length):=by
 have h:=stay_last l.rc kn pap leaf day M h0 l.rc.length
 rw [List.take_of_length_le lr_] at h
 exact h
theorem back_rt (l:Led) (kn src leaf:Int):backI (opnL l kn).M src leaf=ixI (rtIx (opnL l kn).T l.rt src leaf):=by
 rw [backI,opn_rt]
 cases rtIx (opnL l kn).T l.rt src leaf <;> rfl
def refN (l:Led) (T:List Bool) (kn:Int) (D:List (Int × Int)) (s:Sgt):List (Int × Int) × Bool:=match lastK kn s.pap s.leaf s.day l.rc l.rc.length with
 | none=>(D,decide (s.per=0))
 | some p=>match l.rc[p.1]? with
   | none=>(D,decide (s.per=0))
   | some x=>match rtIx T l.rt x.src s.leaf with
     | none=>(D,decide (s.per=x.bor))
     | some k=>if s.per=x.bor then (D.set k (max (D.getD k (0,0)).1 (s.day+1),(D.getD k (0,0)).2),decide (max (D.getD k (0,0)).1 (s.day+1)≤(D.getD k (0,0)).2))
       else if s.per=0 then (D.set k ((D.getD k (0,0)).1,min (D.getD k (0,0)).2 s.day),decide ((D.getD k (0,0)).1≤min (D.getD k (0,0)).2 s.day))
       else (D,false)
def refL (l:Led) (T:List Bool) (kn:Int):List Sgt→List (Int × Int)→List (Int × Int) × Bool
 | [],D=>(D,true)
 | s :: ss,D=>((refL l T kn ss (refN l T kn D s).1).1,(refN l T kn D s).2 && (refL l T kn ss (refN l T kn D s).1).2)
theorem nar_ref (l:Led) (kn:Int) (h0:∀ r∈l.rc,0≤r.day) (hb:∀ r∈l.rc,r.bor≠0) (D:List (Int × Int)) (s:Sgt):narS (staySg (opnL l kn).M (cntR l kn) s) D s.per s.day=if (refN l (opnL l kn).T kn D s).2=true then some (refN l (opnL l kn).T kn D s).1 else none:=by
 rw [staySg,stayF_last l kn _ _ _ _ h0,refN]
 cases hL:lastK kn s.pap s.leaf s.day l.rc l.rc.length with
 | none =>
   simp only [lastV,narS]
   by_cases hp:s.per=0
   ·simp [hp]
   ·simp [hp]
 | some p =>
   obtain ⟨j,d⟩:=p
   obtain ⟨_,x,hx,_⟩:=lastK_at hL
   have hbx:=hb x (List.mem_of_getElem? hx)
   simp only [lastV,hx,back_rt]
   cases hk:rtIx (opnL l kn).T l.rt x.src s.leaf with
   | none =>
     simp only [ixI,narS]
     by_cases hp:s.per=x.bor
     ·simp [hp]
     ·simp [hp]
   | some k =>
     have h1:¬ ((k:Int)<0):=by omega
     simp only [ixI,narS,h1,or_false,Int.toNat_natCast]
     by_cases hp:s.per=x.bor
     ·have hn0:s.per≠0:=by rw [hp];exact hbx
      simp only [hp,ne_eq,not_true_eq_false,false_and,if_false,if_true,narD,hbx,decide_eq_true_eq]
      split <;> split <;> first | rfl | omega
     ·by_cases h2:s.per=0
      ·have h3:¬ ((0:Int)=x.bor):=fun h=>hbx h.symm
       simp only [h2,ne_eq,h3,not_false_eq_true,not_true_eq_false,and_false,if_false,if_true,narD,decide_eq_true_eq]
       split <;> split <;> first | rfl | omega
      ·simp [hp,h2]
theorem nar_all (l:Led) (kn:Int) (h0:∀ r∈l.rc,0≤r.day) (hb:∀ r∈l.rc,r.bor≠0):∀ (ss:List Sgt) (D:List (Int × Int)),narL (opnL l kn).M (cntR l kn) ss D=if (refL l (opnL l kn).T kn ss D).2=true then some (refL l (opnL l kn).T kn ss D).1 else none
 | [],D=>rfl
 | s :: ss,D=>by
   rw [narL,nar_ref l kn h0 hb,refL]
   cases h:(refN l (opnL l kn).T kn D s).2 with
   | false=>rfl
   | true=>exact nar_all l kn h0 hb ss _
end Go.Proofs.YtmcmbicapdcfmaaGreat
namespace Go.Proofs.YtmcmbicapdcfmaaGreat
open Go.ChangeShapes Go.WideShapes Go.ChangeAt Go.RowKit Go.Deep Go.Joins
section
variable {H:Type} {enc:TypeId × Value→H} {w:World} {base:Nat} {spare:Nat→Bool} {held:Bool} {r:Reach} {b0:Nat} {v:Value} {d:DataW H} {p:List MemPlace}
end
end Go.Proofs.YtmcmbicapdcfmaaGreat
namespace Go.Proofs.YtmcmbicapdcfmaaGreat
open Go.RowKit Go.Maps
def trueE (l:Led) (kn:Int) (days:List Int):Int:=if days.length=l.rt.length∧setE l kn=0 then errI (trueD days (setP l kn)) 29 else 29
theorem p_checkTrueN (l:Led) (kn:Int) (days:List Int) (D:Option Addr) (m c0:Nat) (a:Acc) (v:Int) (w:World) (hl:LedOk l) (h:OpnA w a l kn) (hm:m≤9223372036854775807) (hdy:Is w w.heap.size D m days) (hv:trueE l kn days=v) (h0:¬ v=0) :
 Calls Tryz.prog 65 #[.pointer (some ⟨w.heap.size,0,none⟩),.slice D m c0] (w.alloc (.cells (accC a) 115)) fun e w'=>e=.returned (.int .i64 v)∧Below w.heap.size w w':=by
 have hb:Below w.heap.size w (w.alloc (.cells (accC a) 115)):=by exact bel_
 have hc:=p_checkTrue (opnL l kn).M (cntR l kn) (opnL l kn).P (cntS l kn) days a w.heap.size D m c0 _ (h.acc.now hb) (cnt_sgs hl kn) (by have:=h.sn;omega) (h.sg.now abS hb) (BoxA.new w 115 (accC a)) hm (Is.ext hdy hb lr_)
 refine hc.mono fun e w' hr=>?_
 subst hv
 unfold trueE at h0 ⊢
 by_cases hlen:days.length=l.rt.length
 ·have h2:=hr.2 (hlen.trans h.pn.symm)
  have hse:setE l kn=match dblR (opnL l kn).M (opnL l kn).P (cntR l kn),narL (opnL l kn).M (cntR l kn) (cntS l kn) (opnL l kn).P with
   | some _,_=>25
   | none,none=>27
   | none,some _=>0:=rfl
  cases hd:dblR (opnL l kn).M (opnL l kn).P (cntR l kn) with
  | some p =>
    rw [hd] at h2 hse
    rw [if_neg (by rw [hse];simp)]
    exact ⟨h2.1,bt_ hb h2.2⟩
  | none =>
    cases ho:narL (opnL l kn).M (cntR l kn) (cntS l kn) (opnL l kn).P with
    | none =>
      rw [hd,ho] at h2 hse
      rw [if_neg (by rw [hse];simp)]
      exact ⟨h2.1,bt_ hb h2.2⟩
    | some P' =>
      rw [hd,ho] at h2 hse
      have hsp:setP l kn=P':=by rw [setP,ho];rfl
      rw [if_pos ⟨hlen,hse⟩,hsp]
      obtain ⟨h3,ws,⟨_,w1,A,c,hb1,_,_,hws⟩,hb2⟩:=h2
      refine ⟨h3,?_⟩
      have hB:=(bt_ hb hb1).setCell (show w.heap.size≤(⟨w.heap.size,9,none⟩:Addr).block from lr_) (.slice A a.Pn c)
      rw [← hws] at hB
      exact bt_ hB hb2
 ·have h1:=hr.1 (fun e=>hlen (e.trans h.pn))
  rw [if_neg (fun h=>hlen h.1)]
  exact ⟨h1.1,bt_ hb h1.2⟩
theorem p_checkTrue0 (l:Led) (kn:Int) (days:List Int) (D:Option Addr) (m c0:Nat) (a:Acc) (w:World) (hl:LedOk l) (h:OpnA w a l kn) (hm:m≤9223372036854775807) (hdy:Is w w.heap.size D m days) (hv:trueE l kn days=0) :
 Calls Tryz.prog 65 #[.pointer (some ⟨w.heap.size,0,none⟩),.slice D m c0] (w.alloc (.cells (accC a) 115)) fun e w'=>∃ A c,e=.returned (.int .i64 0)∧Below w.heap.size w w'∧BoxA w' w.heap.size 115 (accC { a with PA:=A,Pc:=c }) ∧
  AccR w' { a with PA:=A,Pc:=c } (opnL l kn).M (cntR l kn) (setP l kn):=by
 have hb:Below w.heap.size w (w.alloc (.cells (accC a) 115)):=by exact bel_
 have hbox:=BoxA.new w 115 (accC a)
 have hc:=p_checkTrue (opnL l kn).M (cntR l kn) (opnL l kn).P (cntS l kn) days a w.heap.size D m c0 _ (h.acc.now hb) (cnt_sgs hl kn) (by have:=h.sn;omega) (h.sg.now abS hb) hbox hm (Is.ext hdy hb lr_)
 refine hc.mono fun e w' hr=>?_
 unfold trueE at hv
 split at hv
 ·rename_i hq
  have h2:=hr.2 (hq.1.trans h.pn.symm)
  have hse:=hq.2
  unfold setE at hse
  cases hd:dblR (opnL l kn).M (opnL l kn).P (cntR l kn) with
  | some p=>rw [hd] at hse;cases hse
  | none =>
    cases ho:narL (opnL l kn).M (cntR l kn) (cntS l kn) (opnL l kn).P with
    | none=>rw [hd,ho] at hse;cases hse
    | some P' =>
      rw [hd,ho] at h2
      have hsp:setP l kn=P':=by rw [setP,ho];rfl
      rw [hsp] at hv ⊢
      obtain ⟨h3,ws,⟨_,w1,A,c,hb1,ho1,hl1,hws⟩,hb2⟩:=h2
      rw [hv] at h3
      have hB:Below w.heap.size w w1:=bt_ hb hb1
      have hB2:=hB.setCell (show w.heap.size≤(⟨w.heap.size,9,none⟩:Addr).block from lr_) (.slice A a.Pn c)
      have ho2:(w1.setCell ⟨w.heap.size,9,none⟩ (.slice A a.Pn c)).ownsRow (w.alloc (.cells (accC a) 115)).heap.size 133 2 (.slice A a.Pn c) a.Pn (folCells P'):=own_keep ho1 fun b hb9=>Below.heap_setCell _ _ _ _ (fun e=>by
       have:=own_le ho1 hb9
       simp only [World.size_alloc] at this
       have e:b=w.heap.size:=e
       omega)
      have hbx:=(hbox.ext hb1).set 9 (.slice A a.Pn c)
      have hac:=h.acc.settled hB2 ho2 hl1
      rw [← hws] at hB2 hbx hac
      exact ⟨A,c,h3,bt_ hB2 hb2,hbx.ext hb2,hac.now hb2⟩
 ·cases hv
def checkTrueX (l:Led) (kn:Int) (days:List Int):Int:=if preE l [kn]=0 then trueE l kn days else preE l [kn]
set_option maxRecDepth 10000 in
theorem p_CheckTrue (l:Led) (x:Lsl) (kn:Int) (days:List Int) (D:Option Addr) (m c0:Nat) (w:World) (hf:x.fit) (hd:LedIn w w.heap.size x l) (hm:m≤9223372036854775807) (hdy:Is w w.heap.size D m days) :
 Calls Tryz.prog 13 #[.agg #[.slice x.pA x.pn x.pc,.slice x.rA x.rn x.rc,.slice x.tA x.tn x.tc,.slice x.sA x.sn x.sc],.int .i64 kn,.slice D m c0] w (fun e w'=>e=.returned (.int .i64 (checkTrueX l kn days))∧Below w.heap.size w w'):=by
 obtain ⟨pA,pn,pc,rA,rn,rc,tA,tn,tc,sA,sn,sc⟩:=x
 have HD:=hd_ hd
 have hml:maxLen≤9223372036854775807:=by decide
 have hpn:pn≤9223372036854775807:=by have:=hf.p;dsimp only at this;omega
 have hrn:rn≤9223372036854775807:=by have:=hf.r;dsimp only at this;omega
 have htn:tn≤9223372036854775807:=by have:=hf.t;dsimp only at this;omega
 have hsn:sn≤9223372036854775807:=by have:=hf.s;dsimp only at this;omega
 clear hd hf hml
 obtain ⟨v,hv⟩:∃ v,preE l [kn]=v:=⟨_,rfl⟩
 have HV:Hid (orL [errI (ledB l) 24,errI (daysOk [kn]) 6]=v):=by show _=_;exact hv
 have HDY:=hd_ hdy
 clear hdy
 by_cases hv0:v=0
 ·subst hv0
  have HLO:=hd_ (led_ok (pre_zero hv).1)
  have hres:checkTrueX l kn days=trueE l kn days:=by rw [checkTrueX,if_pos hv]
  rw [hres]
  obtain ⟨ve,hve⟩:∃ ve,trueE l kn days=ve:=⟨_,rfl⟩
  have HTE0:=hd_ hve
  rw [hve]
  clear hres hv
  by_cases he:ve=0
  ·subst he
   have HTE:=HTE0
   clear hve
   go_enter Tryz.func13,Tryz.ntmps13
   go_wp2_with (first | (go_at_call 12;refine (p_Check l ⟨pA,pn,pc,rA,rn,rc,tA,tn,tc,sA,sn,sc⟩ _ hpn hrn htn hsn (HD.out.now (by exact bel_))).mono ?_;rintro e w1 ⟨rfl,hb1⟩;have HB1:Below w.heap.size w w1:=bt_ (by exact bel_) hb1;have hs1:=HB1.size;have bL0:=BoxA.new w 32 #[.slice pA pn pc,.slice rA rn rc,.slice tA tn tc,.slice sA sn sc];have bL1:=bL0.ext hb1;have kL1:=bL1.cell;have zL1:=bL1.lt;clear hb1) | (go_at_call 63;refine (p_checkDays [kn] _ 1 1 _ (by decide) (Rd.new _ #[.int .i64 kn] _ 1 1 _ (by simp) rfl)).mono ?_;rintro e w2 ⟨rfl,hb2⟩;have HB2:Below w.heap.size w w2:=bt_ (by exact bel_) hb2;have hs2:=HB2.size;have bL2:=(bL1.alloc _).ext hb2;have kL2:=bL2.cell;have zL2:=bL2.lt;clear kL1 zL1;clear hb2) | (go_at_call 62;refine (p_first [errI (ledB l) 24,errI (daysOk [kn]) 6] 0 _ 2 2 _ (by decide) (Rd.new _ #[.int .i64 (errI (ledB l) 24),.int .i64 (errI (daysOk [kn]) 6)] _ 1 2 _ (by simp) rfl) HV.out).mono ?_;rintro e w1 ⟨rfl,rfl⟩) | (go_at_call 64;refine (p_openA l ⟨pA,pn,pc,rA,rn,rc,tA,tn,tc,sA,sn,sc⟩ kn _ HLO.out (HD.out.now (by exact bel_))).mono ?_;rintro e w5 ⟨RA,Rn,Rc,SA,Sn,Sc,bm,TA,Tn,Tc,PA,Pn,Pc,rfl,hb5,hO⟩;have HB5:Below w.heap.size w w5:=bt_ (by exact bel_) hb5;have hs5:=HB5.size;have HO:=hd_ hO;have bL5:=(bL2.alloc _).ext hb5;have kL5:=bL5.cell;have zL5:=bL5.lt;clear kL2 zL2;clear hO hb5) | (go_at_call 65;refine (p_checkTrue0 l kn days D m c0 ⟨⟨pA,pn,pc,rA,rn,rc,tA,tn,tc,sA,sn,sc⟩,kn,RA,Rn,Rc,SA,Sn,Sc,bm,TA,Tn,Tc,PA,Pn,Pc⟩ w5 HLO.out HO.out hm (HDY.out.now HB5) HTE.out).mono ?_;rintro e w6 ⟨PA2,Pc2,rfl,hb6,hbx6,hac6⟩;have HB6:Below w.heap.size w w6:=bt_ HB5 hb6;have hs6:=HB6.size))
   go_ret
   exact ⟨rfl,HB6⟩
  ·have HTE:=HTE0
   have HVE:=hd_ he
   clear hve he
   go_enter Tryz.func13,Tryz.ntmps13
   go_wp2_with (first | (go_at_call 12;refine (p_Check l ⟨pA,pn,pc,rA,rn,rc,tA,tn,tc,sA,sn,sc⟩ _ hpn hrn htn hsn (HD.out.now (by exact bel_))).mono ?_;rintro e w1 ⟨rfl,hb1⟩;have HB1:Below w.heap.size w w1:=bt_ (by exact bel_) hb1;have hs1:=HB1.size;have bL0:=BoxA.new w 32 #[.slice pA pn pc,.slice rA rn rc,.slice tA tn tc,.slice sA sn sc];have bL1:=bL0.ext hb1;have kL1:=bL1.cell;have zL1:=bL1.lt;clear hb1) | (go_at_call 63;refine (p_checkDays [kn] _ 1 1 _ (by decide) (Rd.new _ #[.int .i64 kn] _ 1 1 _ (by simp) rfl)).mono ?_;rintro e w2 ⟨rfl,hb2⟩;have HB2:Below w.heap.size w w2:=bt_ (by exact bel_) hb2;have hs2:=HB2.size;have bL2:=(bL1.alloc _).ext hb2;have kL2:=bL2.cell;have zL2:=bL2.lt;clear kL1 zL1;clear hb2) | (go_at_call 62;refine (p_first [errI (ledB l) 24,errI (daysOk [kn]) 6] 0 _ 2 2 _ (by decide) (Rd.new _ #[.int .i64 (errI (ledB l) 24),.int .i64 (errI (daysOk [kn]) 6)] _ 1 2 _ (by simp) rfl) HV.out).mono ?_;rintro e w1 ⟨rfl,rfl⟩) | (go_at_call 64;refine (p_openA l ⟨pA,pn,pc,rA,rn,rc,tA,tn,tc,sA,sn,sc⟩ kn _ HLO.out (HD.out.now (by exact bel_))).mono ?_;rintro e w5 ⟨RA,Rn,Rc,SA,Sn,Sc,bm,TA,Tn,Tc,PA,Pn,Pc,rfl,hb5,hO⟩;have HB5:Below w.heap.size w w5:=bt_ (by exact bel_) hb5;have hs5:=HB5.size;have HO:=hd_ hO;have bL5:=(bL2.alloc _).ext hb5;have kL5:=bL5.cell;have zL5:=bL5.lt;clear kL2 zL2;clear hO hb5) | (go_at_call 65;refine (p_checkTrueN l kn days D m c0 ⟨⟨pA,pn,pc,rA,rn,rc,tA,tn,tc,sA,sn,sc⟩,kn,RA,Rn,Rc,SA,Sn,Sc,bm,TA,Tn,Tc,PA,Pn,Pc⟩ ve w5 HLO.out HO.out hm (HDY.out.now HB5) HTE.out HVE.out).mono ?_;rintro e w6 ⟨rfl,hb6⟩;have HB6:Below w.heap.size w w6:=bt_ HB5 hb6;have hs6:=HB6.size))
   go_ret
   exact ⟨rfl,HB6⟩
 ·have hres:checkTrueX l kn days=v:=by rw [checkTrueX,if_neg (by rw [hv];exact hv0),hv]
  rw [hres]
  have hv1:(v != 0)=true:=by simpa using hv0
  clear hres hv hv0
  go_enter Tryz.func13,Tryz.ntmps13
  go_wp2_with (first | (go_at_call 12;refine (p_Check l ⟨pA,pn,pc,rA,rn,rc,tA,tn,tc,sA,sn,sc⟩ _ hpn hrn htn hsn (HD.out.now (by exact bel_))).mono ?_;rintro e w1 ⟨rfl,hb1⟩;have HB1:Below w.heap.size w w1:=bt_ (by exact bel_) hb1;have hs1:=HB1.size;have bL0:=BoxA.new w 32 #[.slice pA pn pc,.slice rA rn rc,.slice tA tn tc,.slice sA sn sc];have bL1:=bL0.ext hb1;have kL1:=bL1.cell;have zL1:=bL1.lt;clear hb1) | (go_at_call 63;refine (p_checkDays [kn] _ 1 1 _ (by decide) (Rd.new _ #[.int .i64 kn] _ 1 1 _ (by simp) rfl)).mono ?_;rintro e w2 ⟨rfl,hb2⟩;have HB2:Below w.heap.size w w2:=bt_ (by exact bel_) hb2;have hs2:=HB2.size;have bL2:=(bL1.alloc _).ext hb2;have kL2:=bL2.cell;have zL2:=bL2.lt;clear kL1 zL1;clear hb2) | (go_at_call 62;refine (p_first [errI (ledB l) 24,errI (daysOk [kn]) 6] v _ 2 2 _ (by decide) (Rd.new _ #[.int .i64 (errI (ledB l) 24),.int .i64 (errI (daysOk [kn]) 6)] _ 1 2 _ (by simp) rfl) HV.out).mono ?_;rintro e w1 ⟨rfl,rfl⟩))
  go_ret
  exact ⟨rfl,by exact bel_⟩
def telK (T:List Bool) (rt:List Rtn) (k:Nat):List Int:=(((List.zip T rt).take k).filter (fun p=>p.1)).map (fun p=>p.2.src)
theorem telK_succ {T:List Bool} {rt:List Rtn} {k:Nat} {b:Bool} {t:Rtn} (h1:T[k]?=some b) (h2:rt[k]?=some t):telK T rt (k+1)=if b=true then telK T rt k ++ [t.src] else telK T rt k:=by
 have hz:(List.zip T rt)[k]?=some (b,t):=by rw [List.getElem?_zip_eq_some];exact ⟨h1,h2⟩
 rw [telK,take_snoc_some hz,List.filter_append,List.map_append]
 cases b <;> simp [telK]
theorem telK_len (T:List Bool) (rt:List Rtn) (k:Nat):(telK T rt k).length≤k:=by
 rw [telK,List.length_map]
 exact Nat.le_trans (List.length_filter_le _ _) (by rw [List.length_take];omega)
def telX (l:Led) (kn:Int):List Int × Int:=if preE l [kn]=0 then (telK (opnL l kn).T l.rt l.rt.length,0) else ([],preE l [kn])
theorem fld_tells (pA rA tA sA RA SA TA PA:Option Addr) (pn pc rn rc tn tc sn sc Rn Rc Sn Sc Tn Tc Pn Pc bm:Nat) (kn:Int) (w:World):(Instr.field 115 (.agg #[.slice pA pn pc,.slice rA rn rc,.slice tA tn tc,.slice sA sn sc,.int .i64 kn,.slice RA Rn Rc,.slice SA Sn Sc,.map (some bm),.slice TA Tn Tc,.slice PA Pn Pc]) 5).run Tryz.prog w=.ok (.slice TA Tn Tc) w:=by kernel_rfl
set_option maxRecDepth 10000 in
theorem p_Telling (l:Led) (x:Lsl) (kn:Int) (w:World) (hf:x.fit) (hd:LedIn w w.heap.size x l) :
 Calls Tryz.prog 24 #[.agg #[.slice x.pA x.pn x.pc,.slice x.rA x.rn x.rc,.slice x.tA x.tn x.tc,.slice x.sA x.sn x.sc],.int .i64 kn] w (RetLE (telX l kn) w):=by
 obtain ⟨pA,pn,pc,rA,rn,rc,tA,tn,tc,sA,sn,sc⟩:=x
 have HD:=hd_ hd
 have hml:maxLen≤9223372036854775807:=by decide
 have hpn:pn≤9223372036854775807:=by have:=hf.p;dsimp only at this;omega
 have hrn:rn≤9223372036854775807:=by have:=hf.r;dsimp only at this;omega
 have htn:tn≤9223372036854775807:=by have:=hf.t;dsimp only at this;omega
 have hsn:sn≤9223372036854775807:=by have:=hf.s;dsimp only at this;omega
 clear hd hf hml
 obtain ⟨v,hv⟩:∃ v,preE l [kn]=v:=⟨_,rfl⟩
 have HV:Hid (orL [errI (ledB l) 24,errI (daysOk [kn]) 6]=v):=by show _=_;exact hv
 by_cases hv0:v=0
 ·subst hv0
  have HLO:=hd_ (led_ok (pre_zero hv).1)
  have hres:telX l kn=(telK (opnL l kn).T l.rt l.rt.length,0):=by rw [telX,if_pos hv]
  have HRES:=hd_ hres
  obtain ⟨i0,hi,hz0,hz1,hz2⟩:=info_parts infoI2
  clear hres hv
  go_enter Tryz.func24,Tryz.ntmps24
  go_wp2_with (first | (go_at_call 12;refine (p_Check l ⟨pA,pn,pc,rA,rn,rc,tA,tn,tc,sA,sn,sc⟩ _ hpn hrn htn hsn (HD.out.now (by exact bel_))).mono ?_;rintro e w1 ⟨rfl,hb1⟩;have HB1:Below w.heap.size w w1:=bt_ (by exact bel_) hb1;have hs1:=HB1.size;have bL0:=BoxA.new w 32 #[.slice pA pn pc,.slice rA rn rc,.slice tA tn tc,.slice sA sn sc];have bL1:=bL0.ext hb1;have kL1:=bL1.cell;have zL1:=bL1.lt;clear hb1) | (go_at_call 63;refine (p_checkDays [kn] _ 1 1 _ (by decide) (Rd.new _ #[.int .i64 kn] _ 1 1 _ (by simp) rfl)).mono ?_;rintro e w2 ⟨rfl,hb2⟩;have HB2:Below w.heap.size w w2:=bt_ (by exact bel_) hb2;have hs2:=HB2.size;have bL2:=(bL1.alloc _).ext hb2;have kL2:=bL2.cell;have zL2:=bL2.lt;clear kL1 zL1;clear hb2) | (go_at_call 62;refine (p_first [errI (ledB l) 24,errI (daysOk [kn]) 6] 0 _ 2 2 _ (by decide) (Rd.new _ #[.int .i64 (errI (ledB l) 24),.int .i64 (errI (daysOk [kn]) 6)] _ 1 2 _ (by simp) rfl) HV.out).mono ?_;rintro e w1 ⟨rfl,rfl⟩) | (go_at_call 64;refine (p_openA l ⟨pA,pn,pc,rA,rn,rc,tA,tn,tc,sA,sn,sc⟩ kn _ HLO.out (HD.out.now (by exact bel_))).mono ?_;rintro e w5 ⟨RA,Rn,Rc,SA,Sn,Sc,bm,TA,Tn,Tc,PA,Pn,Pc,rfl,hb5,hO⟩;have HB5:Below w.heap.size w w5:=bt_ (by exact bel_) hb5;have hs5:=HB5.size;have HO:=hd_ hO;have bL5:=(bL2.alloc _).ext hb5;have kL5:=bL5.cell;have zL5:=bL5.lt;clear kL2 zL2;clear hO hb5;have hfl:=fld_tells pA rA tA sA RA SA TA PA pn pc rn rc tn tc sn sc Rn Rc Sn Sc Tn Tc Pn Pc bm kn))
  have hTn:Hid (Tn=l.rt.length):=by show _=_;exact HO.out.tn
  have htl:Hid (l.rt.length=tn):=by show _=_;exact HD.out.t.len
  have htn60:tn≤60:=by have h1:=HLO.out.tn;have h2:=htl.out;omega
  have hTt:Hid (Tn=tn):=by show _=_;rw [hTn.out,htl.out]
  have hTn60:Tn≤60:=by have h1:=hTt.out;omega
  go_loopw [7,25] (fun v i wr=>∃ k:Nat,k≤Tn∧i=.int .i64 k∧wr.ownsRow w5.heap.size 3 1 v (telK (opnL l kn).T l.rt k).length (intL (telK (opnL l kn).T l.rt k))∧Below w5.heap.size w5 wr) (fun _ i _=>Tn - (intOf i).toNat)
  case atStart=>exact ⟨0,by omega,rfl,World.ownsRow_nil _ _ _ _,Below.refl _ _⟩
  case round =>
   obtain ⟨k,hk,rfl,hown,hB⟩:=hrel
   have hsB:=hB.size
   have bLw:=bL5.ext hB
   have kLw:=bLw.cell
   have zLw:=bLw.lt
   obtain ⟨xl,hxl⟩:∃ xl,telK (opnL l kn).T l.rt k=xl:=⟨_,rfl⟩
   have hxn:xl.length≤60:=by have h1:=telK_len (opnL l kn).T l.rt k;rw [hxl] at h1;omega
   rw [hxl] at hown
   have HR:=hd_ hown
   have HXL:=hd_ hxl
   clear hown hxl
   by_cases hlt:k<Tn
   ·obtain ⟨b,o,tb,hTA,hb,htb,q0⟩:=((HO.out.now hB).tl).at_ (k:=k) (show k<Tn from hlt)
    have hlt2:k<tn:=by have h1:=hTt.out;omega
    obtain ⟨b2,o2,t,htA,hb2,ht,A2,n2,c2,⟨h0,_,_,_,_,_,_,_⟩,_⟩:=((HD.out.now (HB5.trans (hB.mono hs5))).t).at_ (k:=k) (show k<tn from hlt2)
    have hTA':TA=some ⟨b,o,none⟩:=hTA
    have htA':tA=some ⟨b2,o2,none⟩:=htA
    subst hTA'
    subst htA'
    have HS:=hd_ (telK_succ htb ht)
    have hbr:b<wr.heap.size:=hb
    have hb2r:b2<wr.heap.size:=hb2
    have q0:wr.cell? ⟨b,o+k,none⟩=some (.bool tb):=by have h:wr.cell? ⟨b,o+k*1,none⟩=some (.bool tb):=q0;rwa [Nat.mul_one] at h
    clear htb ht hTA htA
    cases tb with
    | false =>
      have HN:Hid (telK (opnL l kn).T l.rt (k+1)=xl):=by show _=_;rw [HS.out,HXL.out];rfl
      go_wp2
      go_roundw
      case rel=>exact ⟨k+1,by omega,by go_num,by rw [HN.out];exact HR.out,hB⟩
      case measure=>exact ms_
    | true =>
      have HN:Hid (telK (opnL l kn).T l.rt (k+1)=xl ++ [t.src]):=by show _=_;rw [HS.out,HXL.out];rfl
      go_wp2_with (at_builtin;refine wpList_append_own _ rfl (.tmp 31) (.tmp 38) 33 rfl w5.heap.size 3 i0 _ 1 8 Tryz.underlying33 hi hz0 hz1 hz2 rfl (by decide) _ _ _ rfl (HR.out.alloc (.cells #[.int .i64 t.src] 3)) ⟨wr.heap.size,0,none⟩ 1 1 [.int .i64 t.src] rfl rfl ?c1 ?c2 ?c3 ?c4 ?c5 ?_;rotate_left 5;intro v' w2 hown2 hgrow2 _)
      case c2=>simp [Value.oneCell']
      case c3=>unfold maxLen;omega
      case c4=>omega
      case c5=>first | omega | (simp;omega)
      go_roundw
      case rel =>
       refine ⟨k+1,by omega,by go_num,?_,OwnB.below (hB.alloc hsB _) (HR.out.alloc (.cells #[.int .i64 t.src] 3)) (by simp;omega) hgrow2⟩
       rw [HN.out,List.length_append]
       have e1:intL (xl ++ [t.src])=intL xl ++ [.int .i64 t.src]:=by simp [intL]
       rw [e1]
       exact hown2
      case measure=>exact ms_
   ·have hkn:Hid (k=Tn):=by show _=_;omega
    have hO:=HR.out
    obtain ⟨A9,c9,rfl,hc9⟩:=own_slice hO
    have HO9:=hd_ hO
    clear hO
    go_wp2
    go_ret2
    rw [HRES.out,← hTn.out,← hkn.out,HXL.out]
    exact ⟨A9,_,c9,rfl,HB5.trans (hB.mono hs5),Rd.of_own HO9.out,hc9.1,hc9.2⟩
 ·have hres:telX l kn=([],v):=by rw [telX,if_neg (by rw [hv];exact hv0),hv]
  rw [hres]
  have hv1:(v != 0)=true:=by simpa using hv0
  clear hres hv hv0
  go_enter Tryz.func24,Tryz.ntmps24
  go_wp2_with (first | (go_at_call 12;refine (p_Check l ⟨pA,pn,pc,rA,rn,rc,tA,tn,tc,sA,sn,sc⟩ _ hpn hrn htn hsn (HD.out.now (by exact bel_))).mono ?_;rintro e w1 ⟨rfl,hb1⟩;have HB1:Below w.heap.size w w1:=bt_ (by exact bel_) hb1;have hs1:=HB1.size;have bL0:=BoxA.new w 32 #[.slice pA pn pc,.slice rA rn rc,.slice tA tn tc,.slice sA sn sc];have bL1:=bL0.ext hb1;have kL1:=bL1.cell;have zL1:=bL1.lt;clear hb1) | (go_at_call 63;refine (p_checkDays [kn] _ 1 1 _ (by decide) (Rd.new _ #[.int .i64 kn] _ 1 1 _ (by simp) rfl)).mono ?_;rintro e w2 ⟨rfl,hb2⟩;have HB2:Below w.heap.size w w2:=bt_ (by exact bel_) hb2;have hs2:=HB2.size;have bL2:=(bL1.alloc _).ext hb2;have kL2:=bL2.cell;have zL2:=bL2.lt;clear kL1 zL1;clear hb2) | (go_at_call 62;refine (p_first [errI (ledB l) 24,errI (daysOk [kn]) 6] v _ 2 2 _ (by decide) (Rd.new _ #[.int .i64 (errI (ledB l) 24),.int .i64 (errI (daysOk [kn]) 6)] _ 1 2 _ (by simp) rfl) HV.out).mono ?_;rintro e w1 ⟨rfl,rfl⟩))
  go_ret2
  exact RetLE.err (by exact bel_)
end Go.Proofs.YtmcmbicapdcfmaaGreat
namespace Go.Proofs.YtmcmbicapdcfmaaGreat
open Go.RowKit Go.Maps Go.Shelf
end Go.Proofs.YtmcmbicapdcfmaaGreat
namespace Go.Proofs.YtmcmbicapdcfmaaGreat
open Go.RowKit Go.Maps
end Go.Proofs.YtmcmbicapdcfmaaGreat
