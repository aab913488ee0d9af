/- Layer 2 of the texts that LoanBack takes: Bazq. -/
import Derived.Test.YtmcmbicapdcfmaaGreatBayq
import Derived.Test.YtmcmbicapdcfmaaGreatBawq
set_option linter.unusedVariables false
set_option linter.unusedSimpArgs false
set_option maxHeartbeats 16000000
namespace Go.Proofs.YtmcmbicapdcfmaaGreat
open Go.RowKit Go.Maps
theorem box3 (w:World) (t0 t1 t2:TypeId) (c0 c1 c2:Array Value):BoxA (((w.alloc (.cells c0 t0)).alloc (.cells c1 t1)).alloc (.cells c2 t2)) w.heap.size t0 c0∧BoxA (((w.alloc (.cells c0 t0)).alloc (.cells c1 t1)).alloc (.cells c2 t2)) (w.heap.size+1) t1 c1∧BoxA (((w.alloc (.cells c0 t0)).alloc (.cells c1 t1)).alloc (.cells c2 t2)) (w.heap.size+2) t2 c2:=by
 refine ⟨((BoxA.new w t0 c0).alloc _).alloc _,?_,?_⟩
 ·have h:=(BoxA.new (w.alloc (.cells c0 t0)) t1 c1).alloc (.cells c2 t2)
  simpa using h
 ·have h:=BoxA.new ((w.alloc (.cells c0 t0)).alloc (.cells c1 t1)) t2 c2
  simpa using h
theorem p_settleNG (l:Led) (kn:Int) (a:Acc) (v:Int) (w W:World) (hl:LedOk l) (h:OpnA w a l kn) (hW:Below w.heap.size w W) (hbox:BoxA W w.heap.size 115 (accC a)) (hv:setE l kn=v) (h0:¬ v=0) :
 Calls Tryz.prog 73 #[.pointer (some ⟨w.heap.size,0,none⟩)] W fun e w'=>e=.returned (.int .i64 v)∧Below W.heap.size W w':=by
 have hc:=p_settle (opnL l kn).M (cntR l kn) (opnL l kn).P (cntS l kn) a w.heap.size _ (h.acc.now hW) (cnt_sgs hl kn) (by have:=h.sn;omega) (h.sg.now abS hW) hbox
 refine hc.mono fun e w' hr=>?_
 subst hv
 unfold setE at h0 ⊢
 cases hd:dblR (opnL l kn).M (opnL l kn).P (cntR l kn) with
 | some p =>
   rw [hd] at hr
   exact hr
 | none =>
   cases ho:narL (opnL l kn).M (cntR l kn) (cntS l kn) (opnL l kn).P with
   | none =>
     rw [hd,ho] at hr
     exact hr
   | some P' =>
     rw [hd,ho] at h0
     exact absurd rfl h0
theorem p_settle0G (l:Led) (kn:Int) (a:Acc) (w W:World) (hl:LedOk l) (h:OpnA w a l kn) (hW:Below w.heap.size w W) (hbox:BoxA W w.heap.size 115 (accC a)) (hv:setE l kn=0) :
 Calls Tryz.prog 73 #[.pointer (some ⟨w.heap.size,0,none⟩)] W fun e w'=>∃ A c,e=.returned (.int .i64 0)∧Below w.heap.size w w'∧(∀ b,b<W.heap.size→b≠w.heap.size→w'.heap[b]?=W.heap[b]?)∧W.heap.size≤w'.heap.size∧BoxA w' w.heap.size 115 (accC { a with PA:=A,Pc:=c }) ∧
  AccR w' { a with PA:=A,Pc:=c } (opnL l kn).M (cntR l kn) (setP l kn)∧(setP l kn).length=l.rt.length∧w'.ownsRow W.heap.size 133 2 (.slice A a.Pn c) a.Pn (folCells (setP l kn)):=by
 have hc:=p_settle (opnL l kn).M (cntR l kn) (opnL l kn).P (cntS l kn) a w.heap.size _ (h.acc.now hW) (cnt_sgs hl kn) (by have:=h.sn;omega) (h.sg.now abS hW) hbox
 refine hc.mono fun e w' hr=>?_
 unfold setE at hv
 cases hd:dblR (opnL l kn).M (opnL l kn).P (cntR l kn) with
 | some p=>rw [hd] at hv;cases hv
 | none =>
   cases ho:narL (opnL l kn).M (cntR l kn) (cntS l kn) (opnL l kn).P with
   | none=>rw [hd,ho] at hv;cases hv
   | some P' =>
     rw [hd,ho] at hr
     obtain ⟨rfl,w1,A,c,hb1,ho1,hl1,rfl⟩:=hr
     have hsp:setP l kn=P':=by rw [setP,ho];rfl
     rw [hsp]
     have hlt:=hbox.lt
     have hB:Below w.heap.size w w1:=hW.trans (hb1.mono (by omega))
     have hB2:=hB.setCell (show w.heap.size≤(⟨w.heap.size,9,none⟩:Addr).block from lr_) (.slice A a.Pn c)
     have ho2:(w1.setCell ⟨w.heap.size,9,none⟩ (.slice A a.Pn c)).ownsRow W.heap.size 133 2 (.slice A a.Pn c) a.Pn (folCells P'):=own_keep ho1 fun b hb9=>Below.heap_setCell _ _ _ _ (fun e=>by
      have:=own_le ho1 hb9
      have e:b=w.heap.size:=e
      omega)
     refine ⟨A,c,rfl,hB2,fun b h1 h2=>(Below.heap_setCell _ _ _ _ (show b≠w.heap.size from h2)).trans (hb1.block b h1),?_,(hbox.ext hb1).set 9 _,h.acc.settled hB2 ho2 hl1,hl1.trans h.pn,ho2⟩
     have:=hb1.size
     simpa using this
theorem rd_flat {α:Type} (f:α→List Value) (s:Nat) (hs:∀ x,(f x).length=s) (h0:0<s) {w:World} {B b o n:Nat} {xs:List α} (hn:xs.length=n) (hb:b<B) (h:∀ (k:Nat) (x:α),xs[k]?=some x→∀ (m:Nat) (u:Value),m<s→(f x)[m]?=some u→w.cell? ⟨b,o+k*s+m,none⟩=some u):Rd w B s (some ⟨b,o,none⟩) n (xs.flatMap f):=by
 refine ⟨by rw [flat_len f s hs,hn],fun _=>⟨b,o,rfl,hb,fun j u hu=>?_⟩⟩
 have hj:j<xs.length*s:=by rw [← flat_len f s hs];exact (List.getElem?_eq_some_iff.1 hu).1
 have hk:j / s<xs.length:=(Nat.div_lt_iff_lt_mul h0).2 hj
 have hx:xs[j / s]?=some xs[j / s]:=List.getElem?_eq_getElem hk
 have hm:=Nat.mod_lt j h0
 have e:j=j / s*s+j % s:=by have:=Nat.div_add_mod j s;rw [Nat.mul_comm] at this;exact this.symm
 rw [e] at hu
 rw [flat_get f s hs xs _ _ _ hx hm] at hu
 have:=h _ _ hx _ _ hm hu
 rw [show o+j=o+j / s*s+j % s from by omega]
 exact this
theorem tvs_of {w:World} {B n:Nat} {A:Option Addr} {R:List Rtn} (h:Rts w B A n R):∃ xs:List Tv,xs.map Tv.r=R∧Rd w B 8 A n (xs.flatMap tvC)∧∀ v∈xs,Is w B v.A v.n v.r.lv∧v.n≤v.c∧v.c≤maxLen:=by
 by_cases h0:0<n
 ·obtain ⟨b,o,e,hb,hc⟩:=h.2 h0
  have hex:∀ k:Fin R.length,∃ v:Tv,v.r=R[k]∧(∀ (m:Nat) (u:Value),m<8→(tvC v)[m]?=some u→w.cell? ⟨b,o+k*8+m,none⟩=some u)∧(Is w B v.A v.n v.r.lv∧v.n≤v.c∧v.c≤maxLen):=fun k=>by
   obtain ⟨A1,n1,c1,⟨a0,a1,a2,a3,a4,a5,a6,a7⟩,hi⟩:=hc k R[k] (List.getElem?_eq_getElem k.2)
   refine ⟨⟨R[k],A1,n1,c1⟩,rfl,fun m u hm hu=>?_,hi⟩
   match m,hm,hu with
   | 0,_,hu=>cases hu;exact a0
   | 1,_,hu=>cases hu;exact a1
   | 2,_,hu=>cases hu;exact a2
   | 3,_,hu=>cases hu;exact a3
   | 4,_,hu=>cases hu;exact a4
   | 5,_,hu=>cases hu;exact a5
   | 6,_,hu=>cases hu;exact a6
   | 7,_,hu=>cases hu;exact a7
  subst e
  refine ⟨List.ofFn fun k=>Classical.choose (hex k),?_,rd_flat tvC 8 (fun _=>rfl) (by omega) (by rw [List.length_ofFn];exact h.1) hb fun k x hx=>?_,fun v hv=>?_⟩
  ·apply List.ext_getElem
   ·simp
   ·intro i h1 h2
    rw [List.getElem_map,List.getElem_ofFn]
    exact (Classical.choose_spec (hex ⟨i,h2⟩)).1
  ·rw [List.getElem?_ofFn] at hx
   split at hx
   ·rename_i hk
    cases hx
    exact (Classical.choose_spec (hex ⟨k,hk⟩)).2.1
   ·cases hx
  ·rw [List.mem_ofFn] at hv
   obtain ⟨k,rfl⟩:=hv
   exact (Classical.choose_spec (hex k)).2.2
 ·have hn:n=0:=by omega
  subst hn
  have hR:R=[]:=List.eq_nil_of_length_eq_zero h.1
  subst hR
  exact ⟨[],rfl,⟨rfl,fun h=>absurd h (by omega)⟩,by simp⟩
theorem p_ret1 (x:Tv) (src:Int) (q:Nat) (w:World) (hq:q<w.heap.size) (hc:w.cell? ⟨q,0,none⟩=some (.int .i64 src)) :
 Calls Tryz.prog 126 #[.agg (tvC x).toArray,.pointer (some ⟨q,0,none⟩)] w fun e w'=>e=.returned (.bool (x.r.src == src))∧Below w.heap.size w w':=by
 go_enter Tryz.func126,Tryz.ntmps126
 go_wp2
 go_ret
 exact ⟨rfl,by exact bel_⟩
def retE (l:Led) (src kn:Int):Int:=if preE l [kn]=0 then (match l.rt.findIdx? (fun t=>t.src == src) with
 | none=>3
 | some i=>if (opnL l kn).T[i]?=some true then setE l kn else 3) else preE l [kn]
def RetRet (l:Led) (src kn:Int) (x:Lsl) (w:World) (e:Ending) (w':World):Prop:=∃ RA Rn Rc SA Sn Sc bm TA Tn Tc PA Pn Pc,∃ i:Nat,e=.returned (.tuple #[accV ⟨x,kn,RA,Rn,Rc,SA,Sn,Sc,bm,TA,Tn,Tc,PA,Pn,Pc⟩,.int .i64 i,.int .i64 0])∧Below w.heap.size w w' ∧
 Sq QF 2 w' w'.heap.size PA Pn (setP l kn)∧Pn=l.rt.length∧l.rt.findIdx? (fun t=>t.src == src)=some i∧(opnL l kn).T[i]?=some true
set_option maxRecDepth 10000 in
theorem p_returnedN (l:Led) (x:Lsl) (src kn v:Int) (w:World) (hf:x.fit) (hd:LedIn w w.heap.size x l) (hv:retE l src kn=v) (hv0:¬ v=0) :
 Calls Tryz.prog 79 #[.agg #[.slice x.pA x.pn x.pc,.slice x.rA x.rn x.rc,.slice x.tA x.tn x.tc,.slice x.sA x.sn x.sc],.int .i64 src,.int .i64 kn] w (fun e w'=>e=.returned (.tuple #[.agg #[.slice none 0 0,.slice none 0 0,.slice none 0 0,.slice none 0 0,.int .i64 0,.slice none 0 0,.slice none 0 0,.map none,.slice none 0 0,.slice none 0 0],.int .i64 0,.int .i64 v])∧Below w.heap.size w w'):=by
 obtain ⟨pA,pn,pc,rA,rn,rc,tA,tn,tc,sA,sn,sc⟩:=x
 have HD:=hd_ hd
 have hml:maxLen≤9223372036854775807:=by decide
 have hpn:pn≤9223372036854775807:=by have:=hf.p;dsimp only at this;omega
 have hrn:rn≤9223372036854775807:=by have:=hf.r;dsimp only at this;omega
 have htn:tn≤9223372036854775807:=by have:=hf.t;dsimp only at this;omega
 have hsn:sn≤9223372036854775807:=by have:=hf.s;dsimp only at this;omega
 clear hd hf hml
 have hvd:(v != 0)=true:=by simpa using hv0
 obtain ⟨vp,hvp⟩:∃ vp,preE l [kn]=vp:=⟨_,rfl⟩
 have HV:Hid (orL [errI (ledB l) 24,errI (daysOk [kn]) 6]=vp):=by show _=_;exact hvp
 by_cases hp0:vp=0
 ·subst hp0
  have HLO:=hd_ (led_ok (pre_zero hvp).1)
  rw [retE,if_pos hvp] at hv
  have htn6:tn≤1000000:=by have h1:=HLO.out.tn;have h2:l.rt.length=tn:=HD.out.t.len;omega
  have hti:l.rt.length=tn:=HD.out.t.len
  obtain ⟨ts,hts,hrd,_⟩:=tvs_of HD.out.t
  have HTL:Hid (ts.length=tn):=by show _=_;rw [← hti,← hts,List.length_map]
  have HTR:Hid (∀ W,Below w.heap.size w W→Rd W W.heap.size 8 tA tn (ts.flatMap tvC)):=by
   show ∀ _,_
   exact fun W hW=>(Rd.ext hrd hW lr_).more hW.size
  have hix:∀ o,l.rt.findIdx? (fun t=>t.src == src)=o→ts.findIdx? (fun x=>x.r.src == src)=o:=fun o h=>by
   rw [← hts,List.findIdx?_map] at h
   exact h
  clear hrd
  cases hfi:l.rt.findIdx? (fun t=>t.src == src) with
  | none =>
    rw [hfi] at hv
    obtain rfl:(3:Int)=v:=hv
    have HIX:=hd_ (hix _ hfi)
    clear hix hfi hvp hts hti
    go_enter Tryz.func79,Tryz.ntmps79
    go_wp2_with (first | (go_at_call 12;refine (p_Check l ⟨pA,pn,pc,rA,rn,rc,tA,tn,tc,sA,sn,sc⟩ _ hpn hrn htn hsn (HD.out.now (by exact bel_))).mono ?_;rintro e w1 ⟨rfl,hb1⟩;have HB1:Below w.heap.size w w1:=bt_ (by exact bel_) hb1;have hs1:=HB1.size;have bL0:=(box3 w 32 3 115 #[.slice pA pn pc,.slice rA rn rc,.slice tA tn tc,.slice sA sn sc] #[.int .i64 src] #[.slice none 0 0,.slice none 0 0,.slice none 0 0,.slice none 0 0,.int .i64 0,.slice none 0 0,.slice none 0 0,.map none,.slice none 0 0,.slice none 0 0]).1;have bS0:=(box3 w 32 3 115 #[.slice pA pn pc,.slice rA rn rc,.slice tA tn tc,.slice sA sn sc] #[.int .i64 src] #[.slice none 0 0,.slice none 0 0,.slice none 0 0,.slice none 0 0,.int .i64 0,.slice none 0 0,.slice none 0 0,.map none,.slice none 0 0,.slice none 0 0]).2.1;have bZ0:=(box3 w 32 3 115 #[.slice pA pn pc,.slice rA rn rc,.slice tA tn tc,.slice sA sn sc] #[.int .i64 src] #[.slice none 0 0,.slice none 0 0,.slice none 0 0,.slice none 0 0,.int .i64 0,.slice none 0 0,.slice none 0 0,.map none,.slice none 0 0,.slice none 0 0]).2.2;have bL1:=bL0.ext hb1;have kL1:=bL1.cell;have zL1:=bL1.lt;have bS1:=bS0.ext hb1;have kS1:=bS1.cell;have zS1:=bS1.lt;have bZ1:=bZ0.ext hb1;have kZ1:=bZ1.cell;have zZ1:=bZ1.lt;clear hb1) | (go_at_call 63;refine (p_checkDays [kn] _ 1 1 _ (by decide) (Rd.new _ #[.int .i64 kn] _ 1 1 _ (by simp) rfl)).mono ?_;rintro e w2 ⟨rfl,hb2⟩;have HB2:Below w.heap.size w w2:=bt_ (by exact bel_) hb2;have hs2:=HB2.size;have bL2:=(bL1.alloc _).ext hb2;have kL2:=bL2.cell;have zL2:=bL2.lt;have bS2:=(bS1.alloc _).ext hb2;have kS2:=bS2.cell;have zS2:=bS2.lt;have bZ2:=(bZ1.alloc _).ext hb2;have kZ2:=bZ2.cell;have zZ2:=bZ2.lt;clear kL1 zL1 kS1 zS1 kZ1 zZ1;clear hb2;have fZ2:=bZ2.frozen) | (go_at_call 62;refine (p_first [errI (ledB l) 24,errI (daysOk [kn]) 6] 0 _ 2 2 _ (by decide) (Rd.new _ #[.int .i64 (errI (ledB l) 24),.int .i64 (errI (daysOk [kn]) 6)] _ 1 2 _ (by simp) rfl) HV.out).mono ?_;rintro e w1 ⟨rfl,rfl⟩) | (go_at_call 64;refine (p_openA l ⟨pA,pn,pc,rA,rn,rc,tA,tn,tc,sA,sn,sc⟩ kn _ HLO.out (HD.out.now (by exact bel_))).mono ?_;rintro e w5 ⟨RA,Rn,Rc,SA,Sn,Sc,bm,TA,Tn,Tc,PA,Pn,Pc,rfl,hb5,hO⟩;have HB5:Below w.heap.size w w5:=bt_ (by exact bel_) hb5;have hs5:=HB5.size;have HO:=hd_ hO;have bL5:=(bL2.alloc _).ext hb5;have kL5:=bL5.cell;have zL5:=bL5.lt;have bS5:=(bS2.alloc _).ext hb5;have kS5:=bS5.cell;have zS5:=bS5.lt;have bZ5:=(bZ2.alloc _).ext hb5;have kZ5:=bZ5.cell;have zZ5:=bZ5.lt;clear kL2 zL2 kS2 zS2 kZ2 zZ2;clear hO hb5) | (go_at_call 125;have hci:=l_ixRtnR ts (fun x=>x.r.src == src) (w.heap.size+1) tA tn tc (w5.alloc (.cells #[.slice pA pn pc,.slice rA rn rc,.slice tA tn tc,.slice sA sn sc,.int .i64 kn,.slice RA Rn Rc,.slice SA Sn Sc,.map (some bm),.slice TA Tn Tc,.slice PA Pn Pc] 115)) htn6 HTL.out (HTR.out _ (HB5.trans ((show Below w5.heap.size w5 _ by exact bel_).mono hs5))) (fun W hW x _=>p_ret1 x src (w.heap.size+1) W ((bS5.alloc _).ext hW).lt (((bS5.alloc _).ext hW).cell 0));rw [HIX.out] at hci;simp only [ixI] at hci;refine hci.mono ?_;clear hci;rintro e w6 ⟨rfl,hb6⟩;have HW6:Below w5.heap.size w5 w6:=bt_ (by exact bel_) hb6;have HB6:Below w.heap.size w w6:=HB5.trans (HW6.mono hs5);have hs6:=HB6.size;have hs56:=HW6.size;have bA6:=(BoxA.new w5 115 #[.slice pA pn pc,.slice rA rn rc,.slice tA tn tc,.slice sA sn sc,.int .i64 kn,.slice RA Rn Rc,.slice SA Sn Sc,.map (some bm),.slice TA Tn Tc,.slice PA Pn Pc]).ext hb6;have k6:=bA6.cell;have z6:=bA6.lt;have fZ6:=(bZ5.ext HW6).frozen;have bL6:=bL5.ext HW6;have kL6:=bL6.cell;have zL6:=bL6.lt;have bS6:=bS5.ext HW6;have kS6:=bS6.cell;have zS6:=bS6.lt;have bZ6:=bZ5.ext HW6;have kZ6:=bZ6.cell;have zZ6:=bZ6.lt;clear kL5 zL5 kS5 zS5 kZ5 zZ5;clear hb6))
    refine bodyPost_w (W2:=w6.setCells (w.heap.size+2) 0 (#[.slice none 0 0,.slice none 0 0,.slice none 0 0,.slice none 0 0,.int .i64 0,.slice none 0 0,.slice none 0 0,.map none,.slice none 0 0,.slice none 0 0]:Array Value).toList) rfl ?_
    refine bodyPost_ret (v:=.tuple #[.agg #[.slice none 0 0,.slice none 0 0,.slice none 0 0,.slice none 0 0,.int .i64 0,.slice none 0 0,.slice none 0 0,.map none,.slice none 0 0,.slice none 0 0],.int .i64 0,.int .i64 3]) ?_ rfl ?_
    ·have hbx:BoxA (w6.setCells (w.heap.size+2) 0 (#[.slice none 0 0,.slice none 0 0,.slice none 0 0,.slice none 0 0,.int .i64 0,.slice none 0 0,.slice none 0 0,.map none,.slice none 0 0,.slice none 0 0]:Array Value).toList) (w.heap.size+2) 115 #[.slice none 0 0,.slice none 0 0,.slice none 0 0,.slice none 0 0,.int .i64 0,.slice none 0 0,.slice none 0 0,.map none,.slice none 0 0,.slice none 0 0]:=bZ6.setAll _ rfl
     obtain ⟨W2,hW2⟩:∃ W2,W2=w6.setCells (w.heap.size+2) 0 (#[.slice none 0 0,.slice none 0 0,.slice none 0 0,.slice none 0 0,.int .i64 0,.slice none 0 0,.slice none 0 0,.map none,.slice none 0 0,.slice none 0 0]:Array Value).toList:=⟨_,rfl⟩
     rw [← hW2] at hbx ⊢
     clear hW2
     have hce:=hbx.cell
     (simp [results,Tryz.f79,go_sem];try go_simp)
    ·exact ⟨rfl,HB6.grown (grown_setCells _ _ _ _) (by have:=HB6.size;omega) (fun r e=>by cases e;omega)⟩
  | some i =>
    rw [hfi] at hv
    simp only at hv
    have hil:i<l.rt.length:=(List.findIdx?_eq_some_iff_getElem.1 hfi).1
    have HIX:=hd_ (hix _ hfi)
    obtain ⟨TB,hTB⟩:∃ b,(opnL l kn).T[i]?=some b:=⟨_,List.getElem?_eq_getElem (by have h1:=(opnK_len kn (cntR l kn) l.rt l.rt.length l.rt.length).1;have h2:(opnL l kn).T.length=l.rt.length:=h1;omega)⟩
    have HTB:=hd_ hTB
    cases TB with
    | false =>
      rw [hTB] at hv
      obtain rfl:(3:Int)=v:=hv
      clear hix hfi hvp hTB hts
      go_enter Tryz.func79,Tryz.ntmps79
      go_wp2_with (first | (go_at_call 12;refine (p_Check l ⟨pA,pn,pc,rA,rn,rc,tA,tn,tc,sA,sn,sc⟩ _ hpn hrn htn hsn (HD.out.now (by exact bel_))).mono ?_;rintro e w1 ⟨rfl,hb1⟩;have HB1:Below w.heap.size w w1:=bt_ (by exact bel_) hb1;have hs1:=HB1.size;have bL0:=(box3 w 32 3 115 #[.slice pA pn pc,.slice rA rn rc,.slice tA tn tc,.slice sA sn sc] #[.int .i64 src] #[.slice none 0 0,.slice none 0 0,.slice none 0 0,.slice none 0 0,.int .i64 0,.slice none 0 0,.slice none 0 0,.map none,.slice none 0 0,.slice none 0 0]).1;have bS0:=(box3 w 32 3 115 #[.slice pA pn pc,.slice rA rn rc,.slice tA tn tc,.slice sA sn sc] #[.int .i64 src] #[.slice none 0 0,.slice none 0 0,.slice none 0 0,.slice none 0 0,.int .i64 0,.slice none 0 0,.slice none 0 0,.map none,.slice none 0 0,.slice none 0 0]).2.1;have bZ0:=(box3 w 32 3 115 #[.slice pA pn pc,.slice rA rn rc,.slice tA tn tc,.slice sA sn sc] #[.int .i64 src] #[.slice none 0 0,.slice none 0 0,.slice none 0 0,.slice none 0 0,.int .i64 0,.slice none 0 0,.slice none 0 0,.map none,.slice none 0 0,.slice none 0 0]).2.2;have bL1:=bL0.ext hb1;have kL1:=bL1.cell;have zL1:=bL1.lt;have bS1:=bS0.ext hb1;have kS1:=bS1.cell;have zS1:=bS1.lt;have bZ1:=bZ0.ext hb1;have kZ1:=bZ1.cell;have zZ1:=bZ1.lt;clear hb1) | (go_at_call 63;refine (p_checkDays [kn] _ 1 1 _ (by decide) (Rd.new _ #[.int .i64 kn] _ 1 1 _ (by simp) rfl)).mono ?_;rintro e w2 ⟨rfl,hb2⟩;have HB2:Below w.heap.size w w2:=bt_ (by exact bel_) hb2;have hs2:=HB2.size;have bL2:=(bL1.alloc _).ext hb2;have kL2:=bL2.cell;have zL2:=bL2.lt;have bS2:=(bS1.alloc _).ext hb2;have kS2:=bS2.cell;have zS2:=bS2.lt;have bZ2:=(bZ1.alloc _).ext hb2;have kZ2:=bZ2.cell;have zZ2:=bZ2.lt;clear kL1 zL1 kS1 zS1 kZ1 zZ1;clear hb2;have fZ2:=bZ2.frozen) | (go_at_call 62;refine (p_first [errI (ledB l) 24,errI (daysOk [kn]) 6] 0 _ 2 2 _ (by decide) (Rd.new _ #[.int .i64 (errI (ledB l) 24),.int .i64 (errI (daysOk [kn]) 6)] _ 1 2 _ (by simp) rfl) HV.out).mono ?_;rintro e w1 ⟨rfl,rfl⟩) | (go_at_call 64;refine (p_openA l ⟨pA,pn,pc,rA,rn,rc,tA,tn,tc,sA,sn,sc⟩ kn _ HLO.out (HD.out.now (by exact bel_))).mono ?_;rintro e w5 ⟨RA,Rn,Rc,SA,Sn,Sc,bm,TA,Tn,Tc,PA,Pn,Pc,rfl,hb5,hO⟩;have HB5:Below w.heap.size w w5:=bt_ (by exact bel_) hb5;have hs5:=HB5.size;have HO:=hd_ hO;have bL5:=(bL2.alloc _).ext hb5;have kL5:=bL5.cell;have zL5:=bL5.lt;have bS5:=(bS2.alloc _).ext hb5;have kS5:=bS5.cell;have zS5:=bS5.lt;have bZ5:=(bZ2.alloc _).ext hb5;have kZ5:=bZ5.cell;have zZ5:=bZ5.lt;clear kL2 zL2 kS2 zS2 kZ2 zZ2;clear hO hb5) | (go_at_call 125;have hci:=l_ixRtnR ts (fun x=>x.r.src == src) (w.heap.size+1) tA tn tc (w5.alloc (.cells #[.slice pA pn pc,.slice rA rn rc,.slice tA tn tc,.slice sA sn sc,.int .i64 kn,.slice RA Rn Rc,.slice SA Sn Sc,.map (some bm),.slice TA Tn Tc,.slice PA Pn Pc] 115)) htn6 HTL.out (HTR.out _ (HB5.trans ((show Below w5.heap.size w5 _ by exact bel_).mono hs5))) (fun W hW x _=>p_ret1 x src (w.heap.size+1) W ((bS5.alloc _).ext hW).lt (((bS5.alloc _).ext hW).cell 0));rw [HIX.out] at hci;simp only [ixI] at hci;refine hci.mono ?_;clear hci;rintro e w6 ⟨rfl,hb6⟩;have HW6:Below w5.heap.size w5 w6:=bt_ (by exact bel_) hb6;have HB6:Below w.heap.size w w6:=HB5.trans (HW6.mono hs5);have hs6:=HB6.size;have hs56:=HW6.size;have bA6:=(BoxA.new w5 115 #[.slice pA pn pc,.slice rA rn rc,.slice tA tn tc,.slice sA sn sc,.int .i64 kn,.slice RA Rn Rc,.slice SA Sn Sc,.map (some bm),.slice TA Tn Tc,.slice PA Pn Pc]).ext hb6;have k6:=bA6.cell;have z6:=bA6.lt;have fZ6:=(bZ5.ext HW6).frozen;have bL6:=bL5.ext HW6;have kL6:=bL6.cell;have zL6:=bL6.lt;have bS6:=bS5.ext HW6;have kS6:=bS6.cell;have zS6:=bS6.lt;have bZ6:=bZ5.ext HW6;have kZ6:=bZ6.cell;have zZ6:=bZ6.lt;clear kL5 zL5 kS5 zS5 kZ5 zZ5;clear hb6;have hiT:i<Tn:=(by have h1:=HO.out.tn;have h2:Tn=l.rt.length:=h1;omega);have hnn:decide ((i:Int)<0)=false:=(by simp);obtain ⟨bt,ot,tb,hTA,hbt,htb,q0⟩:=(HO.out.now HW6).tl.at_ (k:=i) (show i<Tn from hiT);obtain rfl:TA=some ⟨bt,ot,none⟩:=hTA;have q0:w6.cell? ⟨bt,ot+i,none⟩=some (.bool tb):=(by have h:w6.cell? ⟨bt,ot+i*1,none⟩=some (.bool tb):=q0;rwa [Nat.mul_one] at h);obtain rfl:tb=false:=Option.some.inj (htb.symm.trans HTB.out);clear htb))
      refine bodyPost_w (W2:=w6.setCells (w.heap.size+2) 0 (#[.slice none 0 0,.slice none 0 0,.slice none 0 0,.slice none 0 0,.int .i64 0,.slice none 0 0,.slice none 0 0,.map none,.slice none 0 0,.slice none 0 0]:Array Value).toList) rfl ?_
      refine bodyPost_ret (v:=.tuple #[.agg #[.slice none 0 0,.slice none 0 0,.slice none 0 0,.slice none 0 0,.int .i64 0,.slice none 0 0,.slice none 0 0,.map none,.slice none 0 0,.slice none 0 0],.int .i64 0,.int .i64 3]) ?_ rfl ?_
      ·have hbx:BoxA (w6.setCells (w.heap.size+2) 0 (#[.slice none 0 0,.slice none 0 0,.slice none 0 0,.slice none 0 0,.int .i64 0,.slice none 0 0,.slice none 0 0,.map none,.slice none 0 0,.slice none 0 0]:Array Value).toList) (w.heap.size+2) 115 #[.slice none 0 0,.slice none 0 0,.slice none 0 0,.slice none 0 0,.int .i64 0,.slice none 0 0,.slice none 0 0,.map none,.slice none 0 0,.slice none 0 0]:=bZ6.setAll _ rfl
       obtain ⟨W2,hW2⟩:∃ W2,W2=w6.setCells (w.heap.size+2) 0 (#[.slice none 0 0,.slice none 0 0,.slice none 0 0,.slice none 0 0,.int .i64 0,.slice none 0 0,.slice none 0 0,.map none,.slice none 0 0,.slice none 0 0]:Array Value).toList:=⟨_,rfl⟩
       rw [← hW2] at hbx ⊢
       clear hW2
       have hce:=hbx.cell
       (simp [results,Tryz.f79,go_sem];try go_simp)
      ·exact ⟨rfl,HB6.grown (grown_setCells _ _ _ _) (by have:=HB6.size;omega) (fun r e=>by cases e;omega)⟩
    | true =>
      rw [hTB,if_pos rfl] at hv
      have HSE:=hd_ hv
      have HVE:=hd_ hv0
      obtain ⟨ve,hve⟩:∃ ve,v=ve:=⟨_,rfl⟩
      subst hve
      clear hix hfi hvp hTB hv hv0 hts
      go_enter Tryz.func79,Tryz.ntmps79
      go_wp2_with (first | (go_at_call 12;refine (p_Check l ⟨pA,pn,pc,rA,rn,rc,tA,tn,tc,sA,sn,sc⟩ _ hpn hrn htn hsn (HD.out.now (by exact bel_))).mono ?_;rintro e w1 ⟨rfl,hb1⟩;have HB1:Below w.heap.size w w1:=bt_ (by exact bel_) hb1;have hs1:=HB1.size;have bL0:=(box3 w 32 3 115 #[.slice pA pn pc,.slice rA rn rc,.slice tA tn tc,.slice sA sn sc] #[.int .i64 src] #[.slice none 0 0,.slice none 0 0,.slice none 0 0,.slice none 0 0,.int .i64 0,.slice none 0 0,.slice none 0 0,.map none,.slice none 0 0,.slice none 0 0]).1;have bS0:=(box3 w 32 3 115 #[.slice pA pn pc,.slice rA rn rc,.slice tA tn tc,.slice sA sn sc] #[.int .i64 src] #[.slice none 0 0,.slice none 0 0,.slice none 0 0,.slice none 0 0,.int .i64 0,.slice none 0 0,.slice none 0 0,.map none,.slice none 0 0,.slice none 0 0]).2.1;have bZ0:=(box3 w 32 3 115 #[.slice pA pn pc,.slice rA rn rc,.slice tA tn tc,.slice sA sn sc] #[.int .i64 src] #[.slice none 0 0,.slice none 0 0,.slice none 0 0,.slice none 0 0,.int .i64 0,.slice none 0 0,.slice none 0 0,.map none,.slice none 0 0,.slice none 0 0]).2.2;have bL1:=bL0.ext hb1;have kL1:=bL1.cell;have zL1:=bL1.lt;have bS1:=bS0.ext hb1;have kS1:=bS1.cell;have zS1:=bS1.lt;have bZ1:=bZ0.ext hb1;have kZ1:=bZ1.cell;have zZ1:=bZ1.lt;clear hb1) | (go_at_call 63;refine (p_checkDays [kn] _ 1 1 _ (by decide) (Rd.new _ #[.int .i64 kn] _ 1 1 _ (by simp) rfl)).mono ?_;rintro e w2 ⟨rfl,hb2⟩;have HB2:Below w.heap.size w w2:=bt_ (by exact bel_) hb2;have hs2:=HB2.size;have bL2:=(bL1.alloc _).ext hb2;have kL2:=bL2.cell;have zL2:=bL2.lt;have bS2:=(bS1.alloc _).ext hb2;have kS2:=bS2.cell;have zS2:=bS2.lt;have bZ2:=(bZ1.alloc _).ext hb2;have kZ2:=bZ2.cell;have zZ2:=bZ2.lt;clear kL1 zL1 kS1 zS1 kZ1 zZ1;clear hb2;have fZ2:=bZ2.frozen) | (go_at_call 62;refine (p_first [errI (ledB l) 24,errI (daysOk [kn]) 6] 0 _ 2 2 _ (by decide) (Rd.new _ #[.int .i64 (errI (ledB l) 24),.int .i64 (errI (daysOk [kn]) 6)] _ 1 2 _ (by simp) rfl) HV.out).mono ?_;rintro e w1 ⟨rfl,rfl⟩) | (go_at_call 64;refine (p_openA l ⟨pA,pn,pc,rA,rn,rc,tA,tn,tc,sA,sn,sc⟩ kn _ HLO.out (HD.out.now (by exact bel_))).mono ?_;rintro e w5 ⟨RA,Rn,Rc,SA,Sn,Sc,bm,TA,Tn,Tc,PA,Pn,Pc,rfl,hb5,hO⟩;have HB5:Below w.heap.size w w5:=bt_ (by exact bel_) hb5;have hs5:=HB5.size;have HO:=hd_ hO;have bL5:=(bL2.alloc _).ext hb5;have kL5:=bL5.cell;have zL5:=bL5.lt;have bS5:=(bS2.alloc _).ext hb5;have kS5:=bS5.cell;have zS5:=bS5.lt;have bZ5:=(bZ2.alloc _).ext hb5;have kZ5:=bZ5.cell;have zZ5:=bZ5.lt;clear kL2 zL2 kS2 zS2 kZ2 zZ2;clear hO hb5) | (go_at_call 125;have hci:=l_ixRtnR ts (fun x=>x.r.src == src) (w.heap.size+1) tA tn tc (w5.alloc (.cells #[.slice pA pn pc,.slice rA rn rc,.slice tA tn tc,.slice sA sn sc,.int .i64 kn,.slice RA Rn Rc,.slice SA Sn Sc,.map (some bm),.slice TA Tn Tc,.slice PA Pn Pc] 115)) htn6 HTL.out (HTR.out _ (HB5.trans ((show Below w5.heap.size w5 _ by exact bel_).mono hs5))) (fun W hW x _=>p_ret1 x src (w.heap.size+1) W ((bS5.alloc _).ext hW).lt (((bS5.alloc _).ext hW).cell 0));rw [HIX.out] at hci;simp only [ixI] at hci;refine hci.mono ?_;clear hci;rintro e w6 ⟨rfl,hb6⟩;have HW6:Below w5.heap.size w5 w6:=bt_ (by exact bel_) hb6;have HB6:Below w.heap.size w w6:=HB5.trans (HW6.mono hs5);have hs6:=HB6.size;have hs56:=HW6.size;have bA6:=(BoxA.new w5 115 #[.slice pA pn pc,.slice rA rn rc,.slice tA tn tc,.slice sA sn sc,.int .i64 kn,.slice RA Rn Rc,.slice SA Sn Sc,.map (some bm),.slice TA Tn Tc,.slice PA Pn Pc]).ext hb6;have k6:=bA6.cell;have z6:=bA6.lt;have fZ6:=(bZ5.ext HW6).frozen;have bL6:=bL5.ext HW6;have kL6:=bL6.cell;have zL6:=bL6.lt;have bS6:=bS5.ext HW6;have kS6:=bS6.cell;have zS6:=bS6.lt;have bZ6:=bZ5.ext HW6;have kZ6:=bZ6.cell;have zZ6:=bZ6.lt;clear kL5 zL5 kS5 zS5 kZ5 zZ5;clear hb6;have hiT:i<Tn:=(by have h1:=HO.out.tn;have h2:Tn=l.rt.length:=h1;omega);have hnn:decide ((i:Int)<0)=false:=(by simp);obtain ⟨bt,ot,tb,hTA,hbt,htb,q0⟩:=(HO.out.now HW6).tl.at_ (k:=i) (show i<Tn from hiT);obtain rfl:TA=some ⟨bt,ot,none⟩:=hTA;have q0:w6.cell? ⟨bt,ot+i,none⟩=some (.bool tb):=(by have h:w6.cell? ⟨bt,ot+i*1,none⟩=some (.bool tb):=q0;rwa [Nat.mul_one] at h);obtain rfl:tb=true:=Option.some.inj (htb.symm.trans HTB.out);clear htb) | (go_at_call 73;refine (p_settleNG l kn ⟨⟨pA,pn,pc,rA,rn,rc,tA,tn,tc,sA,sn,sc⟩,kn,RA,Rn,Rc,SA,Sn,Sc,bm,some ⟨bt,ot,none⟩,Tn,Tc,PA,Pn,Pc⟩ v w5 w6 HLO.out HO.out HW6 bA6 HSE.out HVE.out).mono ?_;rintro e w7 ⟨rfl,hb7⟩;have HB7:Below w.heap.size w w7:=HB6.trans (hb7.mono hs6);have hs7:=HB7.size;have fZ7:=(bZ6.ext hb7).frozen;have bL7:=bL6.ext hb7;have kL7:=bL7.cell;have zL7:=bL7.lt;have bS7:=bS6.ext hb7;have kS7:=bS7.cell;have zS7:=bS7.lt;have bZ7:=bZ6.ext hb7;have kZ7:=bZ7.cell;have zZ7:=bZ7.lt;clear kL6 zL6 kS6 zS6 kZ6 zZ6;clear k6 z6 hb7))
      refine bodyPost_w (W2:=w7.setCells (w.heap.size+2) 0 (#[.slice none 0 0,.slice none 0 0,.slice none 0 0,.slice none 0 0,.int .i64 0,.slice none 0 0,.slice none 0 0,.map none,.slice none 0 0,.slice none 0 0]:Array Value).toList) rfl ?_
      refine bodyPost_ret (v:=.tuple #[.agg #[.slice none 0 0,.slice none 0 0,.slice none 0 0,.slice none 0 0,.int .i64 0,.slice none 0 0,.slice none 0 0,.map none,.slice none 0 0,.slice none 0 0],.int .i64 0,.int .i64 v]) ?_ rfl ?_
      ·have hbx:BoxA (w7.setCells (w.heap.size+2) 0 (#[.slice none 0 0,.slice none 0 0,.slice none 0 0,.slice none 0 0,.int .i64 0,.slice none 0 0,.slice none 0 0,.map none,.slice none 0 0,.slice none 0 0]:Array Value).toList) (w.heap.size+2) 115 #[.slice none 0 0,.slice none 0 0,.slice none 0 0,.slice none 0 0,.int .i64 0,.slice none 0 0,.slice none 0 0,.map none,.slice none 0 0,.slice none 0 0]:=bZ7.setAll _ rfl
       obtain ⟨W2,hW2⟩:∃ W2,W2=w7.setCells (w.heap.size+2) 0 (#[.slice none 0 0,.slice none 0 0,.slice none 0 0,.slice none 0 0,.int .i64 0,.slice none 0 0,.slice none 0 0,.map none,.slice none 0 0,.slice none 0 0]:Array Value).toList:=⟨_,rfl⟩
       rw [← hW2] at hbx ⊢
       clear hW2
       have hce:=hbx.cell
       (simp [results,Tryz.f79,go_sem];try go_simp)
      ·exact ⟨rfl,HB7.grown (grown_setCells _ _ _ _) (by have:=HB7.size;omega) (fun r e=>by cases e;omega)⟩
 ·have hvv:vp=v:=by rw [retE,if_neg (by rw [hvp];exact hp0),hvp] at hv;exact hv
  subst hvv
  clear hv hvp hp0 hv0
  go_enter Tryz.func79,Tryz.ntmps79
  go_wp2_with (first | (go_at_call 12;refine (p_Check l ⟨pA,pn,pc,rA,rn,rc,tA,tn,tc,sA,sn,sc⟩ _ hpn hrn htn hsn (HD.out.now (by exact bel_))).mono ?_;rintro e w1 ⟨rfl,hb1⟩;have HB1:Below w.heap.size w w1:=bt_ (by exact bel_) hb1;have hs1:=HB1.size;have bL0:=(box3 w 32 3 115 #[.slice pA pn pc,.slice rA rn rc,.slice tA tn tc,.slice sA sn sc] #[.int .i64 src] #[.slice none 0 0,.slice none 0 0,.slice none 0 0,.slice none 0 0,.int .i64 0,.slice none 0 0,.slice none 0 0,.map none,.slice none 0 0,.slice none 0 0]).1;have bS0:=(box3 w 32 3 115 #[.slice pA pn pc,.slice rA rn rc,.slice tA tn tc,.slice sA sn sc] #[.int .i64 src] #[.slice none 0 0,.slice none 0 0,.slice none 0 0,.slice none 0 0,.int .i64 0,.slice none 0 0,.slice none 0 0,.map none,.slice none 0 0,.slice none 0 0]).2.1;have bZ0:=(box3 w 32 3 115 #[.slice pA pn pc,.slice rA rn rc,.slice tA tn tc,.slice sA sn sc] #[.int .i64 src] #[.slice none 0 0,.slice none 0 0,.slice none 0 0,.slice none 0 0,.int .i64 0,.slice none 0 0,.slice none 0 0,.map none,.slice none 0 0,.slice none 0 0]).2.2;have bL1:=bL0.ext hb1;have kL1:=bL1.cell;have zL1:=bL1.lt;have bS1:=bS0.ext hb1;have kS1:=bS1.cell;have zS1:=bS1.lt;have bZ1:=bZ0.ext hb1;have kZ1:=bZ1.cell;have zZ1:=bZ1.lt;clear hb1) | (go_at_call 63;refine (p_checkDays [kn] _ 1 1 _ (by decide) (Rd.new _ #[.int .i64 kn] _ 1 1 _ (by simp) rfl)).mono ?_;rintro e w2 ⟨rfl,hb2⟩;have HB2:Below w.heap.size w w2:=bt_ (by exact bel_) hb2;have hs2:=HB2.size;have bL2:=(bL1.alloc _).ext hb2;have kL2:=bL2.cell;have zL2:=bL2.lt;have bS2:=(bS1.alloc _).ext hb2;have kS2:=bS2.cell;have zS2:=bS2.lt;have bZ2:=(bZ1.alloc _).ext hb2;have kZ2:=bZ2.cell;have zZ2:=bZ2.lt;clear kL1 zL1 kS1 zS1 kZ1 zZ1;clear hb2;have fZ2:=bZ2.frozen) | (go_at_call 62;refine (p_first [errI (ledB l) 24,errI (daysOk [kn]) 6] vp _ 2 2 _ (by decide) (Rd.new _ #[.int .i64 (errI (ledB l) 24),.int .i64 (errI (daysOk [kn]) 6)] _ 1 2 _ (by simp) rfl) HV.out).mono ?_;rintro e w1 ⟨rfl,rfl⟩))
  refine bodyPost_w (W2:=(w2.setCells (w.heap.size+2) 0 (#[.slice none 0 0,.slice none 0 0,.slice none 0 0,.slice none 0 0,.int .i64 0,.slice none 0 0,.slice none 0 0,.map none,.slice none 0 0,.slice none 0 0]:Array Value).toList).alloc (.cells #[.int .i64 (errI (ledB l) 24),.int .i64 (errI (daysOk [kn]) 6)] 39)) rfl ?_
  refine bodyPost_ret (v:=.tuple #[.agg #[.slice none 0 0,.slice none 0 0,.slice none 0 0,.slice none 0 0,.int .i64 0,.slice none 0 0,.slice none 0 0,.map none,.slice none 0 0,.slice none 0 0],.int .i64 0,.int .i64 vp]) ?_ rfl ?_
  ·have hbx:BoxA ((w2.setCells (w.heap.size+2) 0 (#[.slice none 0 0,.slice none 0 0,.slice none 0 0,.slice none 0 0,.int .i64 0,.slice none 0 0,.slice none 0 0,.map none,.slice none 0 0,.slice none 0 0]:Array Value).toList).alloc (.cells #[.int .i64 (errI (ledB l) 24),.int .i64 (errI (daysOk [kn]) 6)] 39)) (w.heap.size+2) 115 #[.slice none 0 0,.slice none 0 0,.slice none 0 0,.slice none 0 0,.int .i64 0,.slice none 0 0,.slice none 0 0,.map none,.slice none 0 0,.slice none 0 0]:=(bZ2.setAll _ rfl).alloc _
   obtain ⟨W2,hW2⟩:∃ W2,W2=(w2.setCells (w.heap.size+2) 0 (#[.slice none 0 0,.slice none 0 0,.slice none 0 0,.slice none 0 0,.int .i64 0,.slice none 0 0,.slice none 0 0,.map none,.slice none 0 0,.slice none 0 0]:Array Value).toList).alloc (.cells #[.int .i64 (errI (ledB l) 24),.int .i64 (errI (daysOk [kn]) 6)] 39):=⟨_,rfl⟩
   rw [← hW2] at hbx ⊢
   clear hW2
   have hce:=hbx.cell
   (simp [results,Tryz.f79,go_sem];try go_simp)
  ·have hgr:=grown_setCells (w.heap.size+2) (#[.slice none 0 0,.slice none 0 0,.slice none 0 0,.slice none 0 0,.int .i64 0,.slice none 0 0,.slice none 0 0,.map none,.slice none 0 0,.slice none 0 0]:Array Value).toList 0 w2
   have hbg:=HB2.grown hgr hs2 (fun r e=>by cases e;omega)
   exact ⟨rfl,hbg.alloc hbg.size _⟩
set_option maxRecDepth 10000 in
theorem p_returned0 (l:Led) (x:Lsl) (src kn:Int) (w:World) (hf:x.fit) (hd:LedIn w w.heap.size x l) (hv:retE l src kn=0) :
 Calls Tryz.prog 79 #[.agg #[.slice x.pA x.pn x.pc,.slice x.rA x.rn x.rc,.slice x.tA x.tn x.tc,.slice x.sA x.sn x.sc],.int .i64 src,.int .i64 kn] w (RetRet l src kn x w):=by
 obtain ⟨pA,pn,pc,rA,rn,rc,tA,tn,tc,sA,sn,sc⟩:=x
 have HD:=hd_ hd
 have hml:maxLen≤9223372036854775807:=by decide
 have hpn:pn≤9223372036854775807:=by have:=hf.p;dsimp only at this;omega
 have hrn:rn≤9223372036854775807:=by have:=hf.r;dsimp only at this;omega
 have htn:tn≤9223372036854775807:=by have:=hf.t;dsimp only at this;omega
 have hsn:sn≤9223372036854775807:=by have:=hf.s;dsimp only at this;omega
 clear hd hf hml
 have hvp:preE l [kn]=0:=by
  unfold retE at hv
  split at hv
  ·assumption
  ·exact hv
 have HV:Hid (orL [errI (ledB l) 24,errI (daysOk [kn]) 6]=0):=by show _=_;exact hvp
 have HLO:=hd_ (led_ok (pre_zero hvp).1)
 rw [retE,if_pos hvp] at hv
 have htn6:tn≤1000000:=by have h1:=HLO.out.tn;have h2:l.rt.length=tn:=HD.out.t.len;omega
 have hti:l.rt.length=tn:=HD.out.t.len
 obtain ⟨ts,hts,hrd,_⟩:=tvs_of HD.out.t
 have HTL:Hid (ts.length=tn):=by show _=_;rw [← hti,← hts,List.length_map]
 have HTR:Hid (∀ W,Below w.heap.size w W→Rd W W.heap.size 8 tA tn (ts.flatMap tvC)):=by
  show ∀ _,_
  exact fun W hW=>(Rd.ext hrd hW lr_).more hW.size
 have hix:∀ o,l.rt.findIdx? (fun t=>t.src == src)=o→ts.findIdx? (fun x=>x.r.src == src)=o:=fun o h=>by
  rw [← hts,List.findIdx?_map] at h
  exact h
 clear hrd
 cases hfi:l.rt.findIdx? (fun t=>t.src == src) with
 | none =>
   rw [hfi] at hv
   cases hv
 | some i =>
   rw [hfi] at hv
   simp only at hv
   have hil:i<l.rt.length:=(List.findIdx?_eq_some_iff_getElem.1 hfi).1
   have HIX:=hd_ (hix _ hfi)
   have HFI:=hd_ hfi
   obtain ⟨TB,hTB⟩:∃ b,(opnL l kn).T[i]?=some b:=⟨_,List.getElem?_eq_getElem (by have h1:=(opnK_len kn (cntR l kn) l.rt l.rt.length l.rt.length).1;have h2:(opnL l kn).T.length=l.rt.length:=h1;omega)⟩
   have HTB:=hd_ hTB
   cases TB with
   | false =>
     rw [hTB] at hv
     cases hv
   | true =>
     rw [hTB,if_pos rfl] at hv
     have HSE:=hd_ hv
     clear hix hfi hvp hTB hv hts
     go_enter Tryz.func79,Tryz.ntmps79
     go_wp2_with (first | (go_at_call 12;refine (p_Check l ⟨pA,pn,pc,rA,rn,rc,tA,tn,tc,sA,sn,sc⟩ _ hpn hrn htn hsn (HD.out.now (by exact bel_))).mono ?_;rintro e w1 ⟨rfl,hb1⟩;have HB1:Below w.heap.size w w1:=bt_ (by exact bel_) hb1;have hs1:=HB1.size;have bL0:=(box3 w 32 3 115 #[.slice pA pn pc,.slice rA rn rc,.slice tA tn tc,.slice sA sn sc] #[.int .i64 src] #[.slice none 0 0,.slice none 0 0,.slice none 0 0,.slice none 0 0,.int .i64 0,.slice none 0 0,.slice none 0 0,.map none,.slice none 0 0,.slice none 0 0]).1;have bS0:=(box3 w 32 3 115 #[.slice pA pn pc,.slice rA rn rc,.slice tA tn tc,.slice sA sn sc] #[.int .i64 src] #[.slice none 0 0,.slice none 0 0,.slice none 0 0,.slice none 0 0,.int .i64 0,.slice none 0 0,.slice none 0 0,.map none,.slice none 0 0,.slice none 0 0]).2.1;have bZ0:=(box3 w 32 3 115 #[.slice pA pn pc,.slice rA rn rc,.slice tA tn tc,.slice sA sn sc] #[.int .i64 src] #[.slice none 0 0,.slice none 0 0,.slice none 0 0,.slice none 0 0,.int .i64 0,.slice none 0 0,.slice none 0 0,.map none,.slice none 0 0,.slice none 0 0]).2.2;have bL1:=bL0.ext hb1;have kL1:=bL1.cell;have zL1:=bL1.lt;have bS1:=bS0.ext hb1;have kS1:=bS1.cell;have zS1:=bS1.lt;have bZ1:=bZ0.ext hb1;have kZ1:=bZ1.cell;have zZ1:=bZ1.lt;clear hb1) | (go_at_call 63;refine (p_checkDays [kn] _ 1 1 _ (by decide) (Rd.new _ #[.int .i64 kn] _ 1 1 _ (by simp) rfl)).mono ?_;rintro e w2 ⟨rfl,hb2⟩;have HB2:Below w.heap.size w w2:=bt_ (by exact bel_) hb2;have hs2:=HB2.size;have bL2:=(bL1.alloc _).ext hb2;have kL2:=bL2.cell;have zL2:=bL2.lt;have bS2:=(bS1.alloc _).ext hb2;have kS2:=bS2.cell;have zS2:=bS2.lt;have bZ2:=(bZ1.alloc _).ext hb2;have kZ2:=bZ2.cell;have zZ2:=bZ2.lt;clear kL1 zL1 kS1 zS1 kZ1 zZ1;clear hb2;have fZ2:=bZ2.frozen) | (go_at_call 62;refine (p_first [errI (ledB l) 24,errI (daysOk [kn]) 6] 0 _ 2 2 _ (by decide) (Rd.new _ #[.int .i64 (errI (ledB l) 24),.int .i64 (errI (daysOk [kn]) 6)] _ 1 2 _ (by simp) rfl) HV.out).mono ?_;rintro e w1 ⟨rfl,rfl⟩) | (go_at_call 64;refine (p_openA l ⟨pA,pn,pc,rA,rn,rc,tA,tn,tc,sA,sn,sc⟩ kn _ HLO.out (HD.out.now (by exact bel_))).mono ?_;rintro e w5 ⟨RA,Rn,Rc,SA,Sn,Sc,bm,TA,Tn,Tc,PA,Pn,Pc,rfl,hb5,hO⟩;have HB5:Below w.heap.size w w5:=bt_ (by exact bel_) hb5;have hs5:=HB5.size;have HO:=hd_ hO;have bL5:=(bL2.alloc _).ext hb5;have kL5:=bL5.cell;have zL5:=bL5.lt;have bS5:=(bS2.alloc _).ext hb5;have kS5:=bS5.cell;have zS5:=bS5.lt;have bZ5:=(bZ2.alloc _).ext hb5;have kZ5:=bZ5.cell;have zZ5:=bZ5.lt;clear kL2 zL2 kS2 zS2 kZ2 zZ2;clear hO hb5) | (go_at_call 125;have hci:=l_ixRtnR ts (fun x=>x.r.src == src) (w.heap.size+1) tA tn tc (w5.alloc (.cells #[.slice pA pn pc,.slice rA rn rc,.slice tA tn tc,.slice sA sn sc,.int .i64 kn,.slice RA Rn Rc,.slice SA Sn Sc,.map (some bm),.slice TA Tn Tc,.slice PA Pn Pc] 115)) htn6 HTL.out (HTR.out _ (HB5.trans ((show Below w5.heap.size w5 _ by exact bel_).mono hs5))) (fun W hW x _=>p_ret1 x src (w.heap.size+1) W ((bS5.alloc _).ext hW).lt (((bS5.alloc _).ext hW).cell 0));rw [HIX.out] at hci;simp only [ixI] at hci;refine hci.mono ?_;clear hci;rintro e w6 ⟨rfl,hb6⟩;have HW6:Below w5.heap.size w5 w6:=bt_ (by exact bel_) hb6;have HB6:Below w.heap.size w w6:=HB5.trans (HW6.mono hs5);have hs6:=HB6.size;have hs56:=HW6.size;have bA6:=(BoxA.new w5 115 #[.slice pA pn pc,.slice rA rn rc,.slice tA tn tc,.slice sA sn sc,.int .i64 kn,.slice RA Rn Rc,.slice SA Sn Sc,.map (some bm),.slice TA Tn Tc,.slice PA Pn Pc]).ext hb6;have k6:=bA6.cell;have z6:=bA6.lt;have fZ6:=(bZ5.ext HW6).frozen;have bL6:=bL5.ext HW6;have kL6:=bL6.cell;have zL6:=bL6.lt;have bS6:=bS5.ext HW6;have kS6:=bS6.cell;have zS6:=bS6.lt;have bZ6:=bZ5.ext HW6;have kZ6:=bZ6.cell;have zZ6:=bZ6.lt;clear kL5 zL5 kS5 zS5 kZ5 zZ5;clear hb6;have hiT:i<Tn:=(by have h1:=HO.out.tn;have h2:Tn=l.rt.length:=h1;omega);have hnn:decide ((i:Int)<0)=false:=(by simp);obtain ⟨bt,ot,tb,hTA,hbt,htb,q0⟩:=(HO.out.now HW6).tl.at_ (k:=i) (show i<Tn from hiT);obtain rfl:TA=some ⟨bt,ot,none⟩:=hTA;have q0:w6.cell? ⟨bt,ot+i,none⟩=some (.bool tb):=(by have h:w6.cell? ⟨bt,ot+i*1,none⟩=some (.bool tb):=q0;rwa [Nat.mul_one] at h);obtain rfl:tb=true:=Option.some.inj (htb.symm.trans HTB.out);clear htb) | (go_at_call 73;refine (p_settle0G l kn ⟨⟨pA,pn,pc,rA,rn,rc,tA,tn,tc,sA,sn,sc⟩,kn,RA,Rn,Rc,SA,Sn,Sc,bm,some ⟨bt,ot,none⟩,Tn,Tc,PA,Pn,Pc⟩ w5 w6 HLO.out HO.out HW6 bA6 HSE.out).mono ?_;rintro e w7 ⟨PA2,Pc2,rfl,hb7,hk7,hz7,hbx7,hac7,hlp7,how7⟩;have HB7:Below w.heap.size w w7:=HB5.trans (hb7.mono hs5);have hs7:=HB7.size;have bZ7:BoxA w7 (w.heap.size+2) 115 #[.slice none 0 0,.slice none 0 0,.slice none 0 0,.slice none 0 0,.int .i64 0,.slice none 0 0,.slice none 0 0,.map none,.slice none 0 0,.slice none 0 0]:=(hk7 _ bZ6.lt (by have:=bZ5.lt;omega)).trans bZ6;have fZ7:=bZ7.frozen;have kZ7:=bZ7.cell;have zZ7:=bZ7.lt;have kA7:=hbx7.cell;have zA7:=hbx7.lt;have HOW:=hd_ how7;have HLP:=hd_ hlp7;have HB7h:=hd_ HB7;clear kL6 zL6 kS6 zS6 kZ6 zZ6;clear k6 z6 hbx7 hac7 hlp7 how7 hk7))
     refine bodyPost_w (W2:=w7.setCells (w.heap.size+2) 0 (#[.slice pA pn pc,.slice rA rn rc,.slice tA tn tc,.slice sA sn sc,.int .i64 kn,.slice RA Rn Rc,.slice SA Sn Sc,.map (some bm),.slice (some ⟨bt,ot,none⟩) Tn Tc,.slice PA2 Pn Pc2]:Array Value).toList) rfl ?_
     refine bodyPost_ret (v:=.tuple #[.agg #[.slice pA pn pc,.slice rA rn rc,.slice tA tn tc,.slice sA sn sc,.int .i64 kn,.slice RA Rn Rc,.slice SA Sn Sc,.map (some bm),.slice (some ⟨bt,ot,none⟩) Tn Tc,.slice PA2 Pn Pc2],.int .i64 (i:Nat),.int .i64 0]) ?_ rfl ?_
     ·have hbx:BoxA (w7.setCells (w.heap.size+2) 0 (#[.slice pA pn pc,.slice rA rn rc,.slice tA tn tc,.slice sA sn sc,.int .i64 kn,.slice RA Rn Rc,.slice SA Sn Sc,.map (some bm),.slice (some ⟨bt,ot,none⟩) Tn Tc,.slice PA2 Pn Pc2]:Array Value).toList) (w.heap.size+2) 115 #[.slice pA pn pc,.slice rA rn rc,.slice tA tn tc,.slice sA sn sc,.int .i64 kn,.slice RA Rn Rc,.slice SA Sn Sc,.map (some bm),.slice (some ⟨bt,ot,none⟩) Tn Tc,.slice PA2 Pn Pc2]:=bZ7.setAll _ rfl
      obtain ⟨W2,hW2⟩:∃ W2,W2=w7.setCells (w.heap.size+2) 0 (#[.slice pA pn pc,.slice rA rn rc,.slice tA tn tc,.slice sA sn sc,.int .i64 kn,.slice RA Rn Rc,.slice SA Sn Sc,.map (some bm),.slice (some ⟨bt,ot,none⟩) Tn Tc,.slice PA2 Pn Pc2]:Array Value).toList:=⟨_,rfl⟩
      rw [← hW2] at hbx ⊢
      clear hW2
      have hce:=hbx.cell
      (simp [results,Tryz.f79,go_sem];try go_simp)
     ·have hgr:=grown_setCells (w.heap.size+2) (#[.slice pA pn pc,.slice rA rn rc,.slice tA tn tc,.slice sA sn sc,.int .i64 kn,.slice RA Rn Rc,.slice SA Sn Sc,.map (some bm),.slice (some ⟨bt,ot,none⟩) Tn Tc,.slice PA2 Pn Pc2]:Array Value).toList 0 w7
      have hbg:=HB7.grown hgr hs7 (fun r e=>by cases e;omega)
      have how:(w7.setCells (w.heap.size+2) 0 (#[.slice pA pn pc,.slice rA rn rc,.slice tA tn tc,.slice sA sn sc,.int .i64 kn,.slice RA Rn Rc,.slice SA Sn Sc,.map (some bm),.slice (some ⟨bt,ot,none⟩) Tn Tc,.slice PA2 Pn Pc2]:Array Value).toList).ownsRow w6.heap.size 133 2 (.slice PA2 Pn Pc2) Pn (folCells (setP l kn)):=own_keep HOW.out fun b hb=>by
       obtain ⟨cur,hh⟩:=own_block HOW.out hb
       have h1:=own_le HOW.out hb
       have h2:=bZ6.lt
       exact hgr.block b (block_lt hh) (fun e=>by injection e with e;omega)
      have hPn:Pn=l.rt.length:=HO.out.pn
      exact ⟨RA,Rn,Rc,SA,Sn,Sc,bm,some ⟨bt,ot,none⟩,Tn,Tc,PA2,Pn,Pc2,i,rfl,hbg,sq_of_own how (HLP.out.trans hPn.symm),hPn,HFI.out,HTB.out⟩
def daysX (l:Led) (src kn:Int):(Int × Int) × Int:=if retE l src kn=0 then ((setP l kn).getD ((l.rt.findIdx? (fun t=>t.src == src)).getD 0) (0,0),0) else ((0,0),retE l src kn)
theorem box2 (w:World) (t0 t1:TypeId) (c0 c1:Array Value):BoxA ((w.alloc (.cells c0 t0)).alloc (.cells c1 t1)) w.heap.size t0 c0∧BoxA ((w.alloc (.cells c0 t0)).alloc (.cells c1 t1)) (w.heap.size+1) t1 c1:=by
 refine ⟨(BoxA.new w t0 c0).alloc _,?_⟩
 have h:=BoxA.new (w.alloc (.cells c0 t0)) t1 c1
 simpa using h
set_option maxRecDepth 10000 in
theorem p_Days2 (l:Led) (x:Lsl) (src kn:Int) (w:World) (hf:x.fit) (hd:LedIn w w.heap.size x l) :
 Calls Tryz.prog 25 #[.agg #[.slice x.pA x.pn x.pc,.slice x.rA x.rn x.rc,.slice x.tA x.tn x.tc,.slice x.sA x.sn x.sc],.int .i64 src,.int .i64 kn] w (fun e w'=>e=.returned (.tuple #[.agg #[.int .i64 (daysX l src kn).1.1,.int .i64 (daysX l src kn).1.2],.int .i64 (daysX l src kn).2])∧Below w.heap.size w w'):=by
 obtain ⟨pA,pn,pc,rA,rn,rc,tA,tn,tc,sA,sn,sc⟩:=x
 have HD:=hd_ hd
 obtain ⟨v,hv⟩:∃ v,retE l src kn=v:=⟨_,rfl⟩
 by_cases hv0:v=0
 ·subst hv0
  have HC:Hid (∀ W:World,Below w.heap.size w W→Calls Tryz.prog 79 #[.agg #[.slice pA pn pc,.slice rA rn rc,.slice tA tn tc,.slice sA sn sc],.int .i64 src,.int .i64 kn] W (RetRet l src kn ⟨pA,pn,pc,rA,rn,rc,tA,tn,tc,sA,sn,sc⟩ W)):=by
   show ∀ _,_
   exact fun W hW=>p_returned0 l ⟨pA,pn,pc,rA,rn,rc,tA,tn,tc,sA,sn,sc⟩ src kn W hf (HD.out.now hW) hv
  have hres:daysX l src kn=((setP l kn).getD ((l.rt.findIdx? (fun t=>t.src == src)).getD 0) (0,0),0):=by rw [daysX,if_pos hv]
  rw [hres]
  clear hres hv hd hf
  go_enter Tryz.func25,Tryz.ntmps25
  go_wp2_with (go_at_call 79;refine (HC.out _ (by exact bel_)).mono ?_;rintro e w5 ⟨RA,Rn,Rc,SA,Sn,Sc,bm,TA,Tn,Tc,PA,Pn,Pc,i,rfl,hb5,hsq,hpn,hfi,htb⟩;have HB5:Below w.heap.size w w5:=bt_ (by exact bel_) hb5;have hs5:=HB5.size;have bZ5:=(box2 w 32 61 #[.slice pA pn pc,.slice rA rn rc,.slice tA tn tc,.slice sA sn sc] #[.int .i64 0,.int .i64 0]).2.ext hb5;have kZ5:=bZ5.cell;have zZ5:=bZ5.lt;have fZ5:=bZ5.frozen;have hiP:i<Pn:=(by rw [hpn];exact (List.findIdx?_eq_some_iff_getElem.1 hfi).1);obtain ⟨b,o,d,rfl,hb,hdi,q0,q1⟩:=hsq.at_ hiP;have HFI:=hd_ hfi;have HDI:=hd_ hdi;clear hsq hpn hfi htb hdi hb5)
  have hval:(setP l kn).getD ((l.rt.findIdx? (fun t=>t.src == src)).getD 0) (0,0)=d:=by rw [HFI.out,Option.getD_some,List.getD_eq_getElem?_getD,HDI.out];rfl
  rw [hval]
  clear hval
  refine bodyPost_ret (v:=.tuple #[.agg #[.int .i64 d.1,.int .i64 d.2],.int .i64 0]) ?_ rfl ?_
  ·(simp [results,Tryz.f25,go_sem];try go_simp)
  ·exact ⟨rfl,by exact bel_⟩
 ·have HC:Hid (∀ W:World,Below w.heap.size w W→Calls Tryz.prog 79 #[.agg #[.slice pA pn pc,.slice rA rn rc,.slice tA tn tc,.slice sA sn sc],.int .i64 src,.int .i64 kn] W fun e w'=>e=.returned (.tuple #[.agg #[.slice none 0 0,.slice none 0 0,.slice none 0 0,.slice none 0 0,.int .i64 0,.slice none 0 0,.slice none 0 0,.map none,.slice none 0 0,.slice none 0 0],.int .i64 0,.int .i64 v])∧Below W.heap.size W w'):=by
   show ∀ _,_
   exact fun W hW=>p_returnedN l ⟨pA,pn,pc,rA,rn,rc,tA,tn,tc,sA,sn,sc⟩ src kn v W hf (HD.out.now hW) hv hv0
  have hres:daysX l src kn=((0,0),v):=by rw [daysX,if_neg (by rw [hv];exact hv0),hv]
  rw [hres]
  have hvd:(v != 0)=true:=by simpa using hv0
  clear hres hv hv0 hd hf
  go_enter Tryz.func25,Tryz.ntmps25
  go_wp2_with (go_at_call 79;refine (HC.out _ (by exact bel_)).mono ?_;rintro e w5 ⟨rfl,hb5⟩;have HB5:Below w.heap.size w w5:=bt_ (by exact bel_) hb5;have hs5:=HB5.size;have bZ5:=(box2 w 32 61 #[.slice pA pn pc,.slice rA rn rc,.slice tA tn tc,.slice sA sn sc] #[.int .i64 0,.int .i64 0]).2.ext hb5;have kZ5:=bZ5.cell;have zZ5:=bZ5.lt;have fZ5:=bZ5.frozen;clear hb5)
  refine bodyPost_ret (v:=.tuple #[.agg #[.int .i64 0,.int .i64 0],.int .i64 v]) ?_ rfl ?_
  ·(simp [results,Tryz.f25,go_sem];try go_simp)
  ·exact ⟨rfl,by exact bel_⟩
end Go.Proofs.YtmcmbicapdcfmaaGreat
