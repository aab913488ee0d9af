/- Layer 2 of the texts that LoanPlaces takes: Pbfq. -/
import Derived.Test.YtoiompoapikkbaaGreatPbeq
set_option linter.unusedVariables false
set_option linter.unusedSimpArgs false
set_option maxHeartbeats 16000000
namespace Go.Proofs.YtoiompoapikkbaaGreat
open Go.RowKit Go.Maps
def lastV (M:List ((Int × Int) × Nat)) (R:List Rcp) (leaf:Int):Option (Nat × Int)→Int × Int × Int
 | none=>(0,-1,-1)
 | some p=>match R[p.1]? with
   | none=>(0,-1,-1)
   | some r=>(r.bor,backI M r.src leaf,p.2)
theorem stay_last (R:List Rcp) (kn pap leaf day:Int) (M:List ((Int × Int) × Nat)) (h0:∀ r∈R,0≤r.day):∀ k,stayL M leaf day (((R.take k).filter fun r=>countsB r.kn r.un kn).filter (isOfB pap leaf))=lastV M R leaf (lastK kn pap leaf day R k)
 | 0=>by simp [stayL,lastK,lastV]
 | k+1=>by
   have ih:=stay_last R kn pap leaf day M h0 k
   rw [lastK_succ,lastStep]
   cases hr:R[k]? with
   | none =>
     have hl:R.length≤k:=by simpa using hr
     have e:R.take (k+1)=R.take k:=by rw [List.take_of_length_le (by omega),List.take_of_length_le hl]
     rw [e]
     exact ih
   | some r =>
     rw [take_snoc_some hr,List.filter_append,List.filter_append]
     dsimp only
     have hd0:=h0 r (List.mem_of_getElem? hr)
     cases hc:countsB r.kn r.un kn with
     | false=>simpa [hc] using ih
     | true =>
       cases ho:isOfB pap leaf r with
       | false=>simpa [hc,ho] using ih
       | true =>
         have e:(([r].filter fun r=>countsB r.kn r.un kn).filter (isOfB pap leaf))=[r]:=by simp [hc,ho]
         rw [e,stayL_snoc,ih]
         cases hL:lastK kn pap leaf day R k with
         | none =>
           by_cases h1:r.day≤day
           ·rw [if_pos (by simp [h1,newer])]
            have h2:¬ (day<r.day∨r.day≤((0:Int),(-1:Int),(-1:Int)).2.2):=by dsimp only;omega
            show stayStep M leaf day (0,-1,-1) r=_
            rw [stayStep,if_neg h2]
            simp [lastV,hr]
           ·rw [if_neg (by simp [h1])]
            have h2:day<r.day∨r.day≤((0:Int),(-1:Int),(-1:Int)).2.2:=by dsimp only;omega
            show stayStep M leaf day (0,-1,-1) r=_
            rw [stayStep,if_pos h2]
            rfl
         | some p =>
           obtain ⟨j,d⟩:=p
           obtain ⟨_,r2,hr2,hd2⟩:=lastK_at hL
           have e2:lastV M R leaf (some (j,d))=(r2.bor,backI M r2.src leaf,d):=by simp [lastV,hr2]
           rw [e2]
           by_cases h1:r.day≤day∧d<r.day
           ·rw [if_pos (by simp [h1.1,h1.2,newer])]
            have h2:¬ (day<r.day∨r.day≤(r2.bor,backI M r2.src leaf,d).2.2):=by dsimp only;omega
            rw [stayStep,if_neg h2]
            simp [lastV,hr]
           ·rw [if_neg (by simp only [newer,Bool.true_and,Bool.and_eq_true,decide_eq_true_eq];exact h1)]
            have h2:day<r.day∨r.day≤(r2.bor,backI M r2.src leaf,d).2.2:=by dsimp only;omega
            rw [stayStep,if_pos h2,e2]
theorem stayF_last (l:Led) (kn pap leaf day:Int) (M:List ((Int × Int) × Nat)) (h0:∀ r∈l.rc,0≤r.day):stayF M (cntR l kn) pap leaf day=lastV M l.rc leaf (lastK kn pap leaf day l.rc l.rc.length):=by
 have h:=stay_last l.rc kn pap leaf day M h0 l.rc.length
 rw [List.take_of_length_le lr_] at h
 exact h
theorem back_rt (l:Led) (kn src leaf:Int):backI (opnL l kn).M src leaf=ixI (rtIx (opnL l kn).T l.rt src leaf):=by
 rw [backI,opn_rt]
 cases rtIx (opnL l kn).T l.rt src leaf <;> rfl
def refW (P:List (Int × Int)) (day bor:Int):Option Nat→List Int
 | none=>[bor]
 | some k=>if day<(P.getD k (0,0)).1 then [bor] else if (P.getD k (0,0)).2≤day then [0] else [0,bor]
theorem wh_none {l:Led} {kn pap leaf day:Int} (h0:∀ r∈l.rc,0≤r.day) (hL:lastK kn pap leaf day l.rc l.rc.length=none):whL l kn day (pap,leaf)=[0]:=by
 rw [whL,stayP,stayF_last l kn _ _ _ _ h0,hL]
 simp [lastV,whereS]
theorem wh_some {l:Led} {kn pap leaf day:Int} {p:Nat × Int} {r:Rcp} (h0:∀ r∈l.rc,0≤r.day) (hL:lastK kn pap leaf day l.rc l.rc.length=some p) (hr:l.rc[p.1]?=some r):whL l kn day (pap,leaf)=refW (setP l kn) day r.bor (rtIx (tellK l kn l.rt.length) l.rt r.src leaf):=by
 rw [whL,stayP,stayF_last l kn _ _ _ _ h0,hL]
 simp only [lastV,hr,back_rt,opn_tell]
 cases rtIx (tellK l kn l.rt.length) l.rt r.src leaf with
 | none=>simp [ixI,whereS,refW]
 | some k =>
   have h1:¬ ((k:Int)<0):=by omega
   simp [ixI,whereS,refW,h1]
set_option maxRecDepth 10000 in
theorem r_folios (l:Led) (x:Lsl) (w:World) (hp:x.pn≤12) (hl30:∀ r∈l.pp,0≤r.lv∧r.lv≤30) (hd:LedIn w w.heap.size x l) :
 Calls Tryz.prog 144 #[.agg #[.slice x.pA x.pn x.pc,.slice x.rA x.rn x.rc,.slice x.tA x.tn x.tc,.slice x.sA x.sn x.sc]] w (RetF (folL l.pp) w):=by
 obtain ⟨pA,pn,pc,rA,rn,rc,tA,tn,tc,sA,sn,sc⟩:=x
 obtain ⟨i0,hi,hz0,hz1,hz2⟩:=info_parts infoFol
 have hpn:pn≤12:=hp
 have hl1:l.pp.length=pn:=hd.p.len
 have HP:Hid (Pps w w.heap.size pA pn l.pp):=by show Sq _ _ _ _ _ _ _;exact hd.p
 have HL1:=hd_ hl1
 have H30:=hd_ hl30
 clear hl1 hd hl30 hp
 show Calls _ _ #[.agg #[.slice pA pn pc,.slice rA rn rc,.slice tA tn tc,.slice sA sn sc]] _ _
 obtain ⟨W0,hW0⟩:∃ W0,w.alloc (.cells (#[.slice pA pn pc,.slice rA rn rc,.slice tA tn tc,.slice sA sn sc]:Array Value) 27)=W0:=⟨_,rfl⟩
 have HBX:Hid (BoxA W0 w.heap.size 27 #[.slice pA pn pc,.slice rA rn rc,.slice tA tn tc,.slice sA sn sc]):=by show BoxA _ _ _ _;rw [← hW0];exact BoxA.new _ _ _
 have HW0:Hid (Below w.heap.size w W0):=by show Below _ _ _;rw [← hW0];exact bel_
 have hsW:W0.heap.size=w.heap.size+1:=by rw [← hW0];simp
 have hsW1:w.heap.size+1≤W0.heap.size:=by omega
 have hsW2:W0.heap.size≤w.heap.size+1:=by omega
 clear hsW
 go_enter Tryz.func144,Tryz.ntmps144
 go_wp2
 (try rw [hW0])
 clear hW0
 go_loopw [3,4] (fun v i wr=>∃ k:Nat,k≤pn∧i=.int .i64 k∧wr.ownsRow (w.heap.size+1) 60 2 v ((l.pp.take k).flatMap ppFol).length (folCells ((l.pp.take k).flatMap ppFol))∧Below (w.heap.size+1) W0 wr) (fun _ i _=>pn - (intOf i).toNat)
 case atStart=>exact ⟨0,by omega,rfl,World.ownsRow_nil _ _ _ _,Below.refl _ _⟩
 case round =>
  obtain ⟨k,hk,rfl,hown,hB⟩:=hrel
  have hs0:w.heap.size+1≤wr.heap.size:=Nat.le_trans hsW1 hB.size
  have bL:BoxA wr w.heap.size 27 (#[.slice pA pn pc,.slice rA rn rc,.slice tA tn tc,.slice sA sn sc]:Array Value):=(hB.block w.heap.size (Nat.lt_succ_self _)).trans HBX.out
  have hBw:Below w.heap.size w wr:=HW0.out.trans (hB.mono (Nat.le_succ _))
  by_cases hlt:k<pn
  ·obtain ⟨b,o,e,rfl,hb,he,a0,a1⟩:=HP.out.at_ hlt
   have hlv:=H30.out e (List.mem_of_getElem? he)
   obtain ⟨n1,hn1⟩:∃ n:Nat,e.lv=(n:Int):=⟨e.lv.toNat,by omega⟩
   have hn30:n1≤30:=by omega
   have hfl:=pfol_len (fun r hr=>(H30.out r hr).2) k
   have HE:Hid ((l.pp.take (k+1)).flatMap ppFol=(l.pp.take k).flatMap ppFol ++ (List.range n1).map fun i:Nat=>(e.id,(i:Int)+1)):=by show _=_;rw [take_pfol he,ppFol,hn1];simp
   obtain ⟨L0,hL0⟩:∃ L0,(l.pp.take k).flatMap ppFol=L0:=⟨_,rfl⟩
   rw [hL0] at hown hfl HE
   rw [hn1] at a1
   obtain ⟨eid,heid⟩:∃ d,e.id=d:=⟨_,rfl⟩
   rw [heid] at a0 HE
   obtain ⟨wo,hwo⟩:∃ wo,wo=wr:=⟨_,rfl⟩
   subst hwo
   have HB:=hd_ hB
   have HBL:=hd_ bL
   have HBW:=hd_ hBw
   have HO:=hd_ hown
   have HA0:=hd_ a0
   have HA1:=hd_ a1
   have kL:=bL.cell
   have zL:=bL.lt
   clear he hB hL0 hown hlv hn1 heid bL hBw a0 a1
   go_wp2
   clear kL zL
   go_loopw [3,5] (fun v i wq=>∃ m:Nat,1≤m∧m≤n1+1∧i=.int .i64 m∧wq.ownsRow (w.heap.size+1) 60 2 v (L0.length+(m - 1)) (folCells (L0 ++ (List.range (m - 1)).map fun i:Nat=>(eid,(i:Int)+1)))∧Below (w.heap.size+1) wo wq) (fun _ i _=>n1+1 - (intOf i).toNat)
   case atStart=>exact ⟨1,by omega,by omega,rfl,by simpa using HO.out,Below.refl _ _⟩
   case round =>
    obtain ⟨m,hm1,hm,rfl,hown,hQ⟩:=hrel
    have hBQ:Below (w.heap.size+1) W0 wr:=HB.out.trans hQ
    have hsr:w.heap.size+1≤wr.heap.size:=Nat.le_trans hs0 hQ.size
    have bL:BoxA wr w.heap.size 27 (#[.slice (some ⟨b,o,none⟩) pn pc,.slice rA rn rc,.slice tA tn tc,.slice sA sn sc]:Array Value):=(hQ.block w.heap.size (Nat.lt_succ_self _)).trans HBL.out
    have kL:=bL.cell
    have zL:=bL.lt
    have hBr:Below w.heap.size w wr:=HBW.out.trans (hQ.mono (Nat.le_succ _))
    have x0:=(hBr.cell (p:=⟨b,o+k*2,none⟩) hb).trans HA0.out
    have x1:=(hBr.cell (p:=⟨b,o+k*2+1,none⟩) hb).trans HA1.out
    have hbr:b<wr.heap.size:=by omega
    have HQ:=hd_ hQ
    clear bL hBr hQ
    by_cases hjn:m≤n1
    ·have HOI:=hd_ hown
     go_wp2_with (at_builtin;refine wpList_append_own _ rfl (.tmp 23) (.tmp 32) 71 rfl (w.heap.size+1) 60 i0 _ 2 16 Tryz.underlying71 hi hz0 hz1 hz2 rfl (by decide) _ _ _ rfl (hown.alloc _) ⟨wr.heap.size,0,none⟩ 1 1 [.int .i64 eid,.int .i64 m] rfl rfl ?c1 ?c2 ?c3 ?c4 ?c5 ?_;rotate_left 5;intro v' w2 hown2 hgrow2 _)
     case c1=>intro j u hj;match j,hj with
      | 0,hj=>simp at hj;subst hj;simp [Addr.add]
      | 1,hj=>simp at hj;subst hj;simp [Addr.add]
     case c2=>simp [Value.oneCell']
     case c3=>unfold maxLen;omega
     case c4=>omega
     case c5=>simp;omega
     go_roundw
     case rel =>
      refine ⟨m+1,by omega,by omega,by go_num,?_,OwnS.below (by have:=HQ.out;exact bel_) HOI.out (by simp;omega) hgrow2⟩
      have hme:((m - 1:Nat):Int)+1=(m:Int):=by omega
      have e1:folCells (L0 ++ (List.range (m+1 - 1)).map fun i:Nat=>(eid,(i:Int)+1))=folCells (L0 ++ (List.range (m - 1)).map fun i:Nat=>(eid,(i:Int)+1)) ++ [.int .i64 eid,.int .i64 m]:=by rw [show m+1 - 1=m - 1+1 from by omega,List.range_succ];simp [folCells,hme]
      rw [e1,show L0.length+(m+1 - 1)=L0.length+(m - 1)+1 from by omega]
      exact hown2
     case measure=>exact ms_
    ·have hjk:Hid (m=n1+1):=by show _=_;omega
     have HOI:=hd_ hown
     have HBQ:=hd_ hBQ
     clear hown hBQ
     go_wp2
     go_roundw
     case rel =>
      refine ⟨k+1,by omega,by go_num,?_,HBQ.out⟩
      rw [HE.out]
      have h:=HOI.out
      rw [hjk.out,Nat.add_sub_cancel] at h
      rw [List.length_append,List.length_map,List.length_range]
      exact h
     case measure=>exact ms_
  ·have hkn:Hid (k=pn):=by show _=_;omega
   have HO:=hd_ hown
   have HBW:=hd_ hBw
   have kL:=bL.cell
   have zL:=bL.lt
   clear hown hB bL hBw
   go_wp2
   go_ret
   refine ⟨_,rfl,HBW.out,?_⟩
   have h:=HO.out
   rw [hkn.out,List.take_of_length_le (by rw [HL1.out];exact lr_)] at h
   exact own_dn h (Nat.le_succ _)
theorem r_In2_v (n lo hi:Int) (q:Bool) (w:World) (h:withinB n lo hi=q):Calls Tryz.prog 73 #[.int .i64 n,.int .i64 lo,.int .i64 hi] w fun e w'=>e=.returned (.bool q)∧w=w':=h ▸ r_In2 n lo hi w
end Go.Proofs.YtoiompoapikkbaaGreat
namespace Go.Proofs.YtoiompoapikkbaaGreat
open Go.ChangeShapes Go.WideShapes Go.ChangeAt Go.RowKit Go.Deep Go.Joins
section
variable {H:Type} {enc:TypeId × Value→H} {w:World} {base:Nat} {spare:Nat→Bool} {held:Bool} {r:Reach} {b0:Nat} {v:Value} {d:DataW H} {p:List MemPlace}
end
end Go.Proofs.YtoiompoapikkbaaGreat
namespace Go.Proofs.YtoiompoapikkbaaGreat
open Go.RowKit Go.Maps
def trueE (l:Led) (kn:Int) (days:List Int):Int:=if days.length=l.rt.length∧setE l kn=0 then errI (trueD days (setP l kn)) 29 else 29
theorem p_checkTrueN (l:Led) (kn:Int) (days:List Int) (D:Option Addr) (m c0:Nat) (a:Acc) (v:Int) (w:World) (hl:LedOk l) (h:OpnA w a l kn) (hm:m≤9223372036854775807) (hdy:Is w w.heap.size D m days) (hv:trueE l kn days=v) (h0:¬ v=0) :
 Calls Tryz.prog 133 #[.pointer (some ⟨w.heap.size,0,none⟩),.slice D m c0] (w.alloc (.cells (accC a) 119)) fun e w'=>e=.returned (.int .i64 v)∧Below w.heap.size w w':=by
 have hb:Below w.heap.size w (w.alloc (.cells (accC a) 119)):=by exact bel_
 have hc:=p_checkTrue (opnL l kn).M (cntR l kn) (opnL l kn).P (cntS l kn) days a w.heap.size D m c0 _ (h.acc.now hb) (cnt_sgs hl kn) (by have:=h.sn;omega) (h.sg.now abS hb) (BoxA.new w 119 (accC a)) hm (Is.ext hdy hb lr_)
 refine hc.mono fun e w' hr=>?_
 subst hv
 unfold trueE at h0 ⊢
 by_cases hlen:days.length=l.rt.length
 ·have h2:=hr.2 (hlen.trans h.pn.symm)
  have hse:setE l kn=match dblR (opnL l kn).M (opnL l kn).P (cntR l kn),narL (opnL l kn).M (cntR l kn) (cntS l kn) (opnL l kn).P with
   | some _,_=>25
   | none,none=>27
   | none,some _=>0:=rfl
  cases hd:dblR (opnL l kn).M (opnL l kn).P (cntR l kn) with
  | some p =>
    rw [hd] at h2 hse
    rw [if_neg (by rw [hse];simp)]
    exact ⟨h2.1,bt_ hb h2.2⟩
  | none =>
    cases ho:narL (opnL l kn).M (cntR l kn) (cntS l kn) (opnL l kn).P with
    | none =>
      rw [hd,ho] at h2 hse
      rw [if_neg (by rw [hse];simp)]
      exact ⟨h2.1,bt_ hb h2.2⟩
    | some P' =>
      rw [hd,ho] at h2 hse
      have hsp:setP l kn=P':=by rw [setP,ho];rfl
      rw [if_pos ⟨hlen,hse⟩,hsp]
      obtain ⟨h3,ws,⟨_,w1,A,c,hb1,_,_,hws⟩,hb2⟩:=h2
      refine ⟨h3,?_⟩
      have hB:=(bt_ hb hb1).setCell (show w.heap.size≤(⟨w.heap.size,9,none⟩:Addr).block from lr_) (.slice A a.Pn c)
      rw [← hws] at hB
      exact bt_ hB hb2
 ·have h1:=hr.1 (fun e=>hlen (e.trans h.pn))
  rw [if_neg (fun h=>hlen h.1)]
  exact ⟨h1.1,bt_ hb h1.2⟩
theorem p_checkTrue0 (l:Led) (kn:Int) (days:List Int) (D:Option Addr) (m c0:Nat) (a:Acc) (w:World) (hl:LedOk l) (h:OpnA w a l kn) (hm:m≤9223372036854775807) (hdy:Is w w.heap.size D m days) (hv:trueE l kn days=0) :
 Calls Tryz.prog 133 #[.pointer (some ⟨w.heap.size,0,none⟩),.slice D m c0] (w.alloc (.cells (accC a) 119)) fun e w'=>∃ A c,e=.returned (.int .i64 0)∧Below w.heap.size w w'∧BoxA w' w.heap.size 119 (accC { a with PA:=A,Pc:=c }) ∧
  AccR w' { a with PA:=A,Pc:=c } (opnL l kn).M (cntR l kn) (setP l kn):=by
 have hb:Below w.heap.size w (w.alloc (.cells (accC a) 119)):=by exact bel_
 have hbox:=BoxA.new w 119 (accC a)
 have hc:=p_checkTrue (opnL l kn).M (cntR l kn) (opnL l kn).P (cntS l kn) days a w.heap.size D m c0 _ (h.acc.now hb) (cnt_sgs hl kn) (by have:=h.sn;omega) (h.sg.now abS hb) hbox hm (Is.ext hdy hb lr_)
 refine hc.mono fun e w' hr=>?_
 unfold trueE at hv
 split at hv
 ·rename_i hq
  have h2:=hr.2 (hq.1.trans h.pn.symm)
  have hse:=hq.2
  unfold setE at hse
  cases hd:dblR (opnL l kn).M (opnL l kn).P (cntR l kn) with
  | some p=>rw [hd] at hse;cases hse
  | none =>
    cases ho:narL (opnL l kn).M (cntR l kn) (cntS l kn) (opnL l kn).P with
    | none=>rw [hd,ho] at hse;cases hse
    | some P' =>
      rw [hd,ho] at h2
      have hsp:setP l kn=P':=by rw [setP,ho];rfl
      rw [hsp] at hv ⊢
      obtain ⟨h3,ws,⟨_,w1,A,c,hb1,ho1,hl1,hws⟩,hb2⟩:=h2
      rw [hv] at h3
      have hB:Below w.heap.size w w1:=bt_ hb hb1
      have hB2:=hB.setCell (show w.heap.size≤(⟨w.heap.size,9,none⟩:Addr).block from lr_) (.slice A a.Pn c)
      have ho2:(w1.setCell ⟨w.heap.size,9,none⟩ (.slice A a.Pn c)).ownsRow (w.alloc (.cells (accC a) 119)).heap.size 143 2 (.slice A a.Pn c) a.Pn (folCells P'):=own_keep ho1 fun b hb9=>Below.heap_setCell _ _ _ _ (fun e=>by
       have:=own_le ho1 hb9
       simp only [World.size_alloc] at this
       have e:b=w.heap.size:=e
       omega)
      have hbx:=(hbox.ext hb1).set 9 (.slice A a.Pn c)
      have hac:=h.acc.settled hB2 ho2 hl1
      rw [← hws] at hB2 hbx hac
      exact ⟨A,c,h3,bt_ hB2 hb2,hbx.ext hb2,hac.now hb2⟩
 ·cases hv
def checkTrueX (l:Led) (kn:Int) (days:List Int):Int:=if preE l [kn]=0 then trueE l kn days else preE l [kn]
set_option maxRecDepth 10000 in
theorem p_CheckTrue (l:Led) (x:Lsl) (kn:Int) (days:List Int) (D:Option Addr) (m c0:Nat) (w:World) (hf:x.fit) (hd:LedIn w w.heap.size x l) (hm:m≤9223372036854775807) (hdy:Is w w.heap.size D m days) :
 Calls Tryz.prog 51 #[.agg #[.slice x.pA x.pn x.pc,.slice x.rA x.rn x.rc,.slice x.tA x.tn x.tc,.slice x.sA x.sn x.sc],.int .i64 kn,.slice D m c0] w (fun e w'=>e=.returned (.int .i64 (checkTrueX l kn days))∧Below w.heap.size w w'):=by
 obtain ⟨pA,pn,pc,rA,rn,rc,tA,tn,tc,sA,sn,sc⟩:=x
 have HD:=hd_ hd
 have hml:maxLen≤9223372036854775807:=by decide
 have hpn:pn≤9223372036854775807:=by have:=hf.p;dsimp only at this;omega
 have hrn:rn≤9223372036854775807:=by have:=hf.r;dsimp only at this;omega
 have htn:tn≤9223372036854775807:=by have:=hf.t;dsimp only at this;omega
 have hsn:sn≤9223372036854775807:=by have:=hf.s;dsimp only at this;omega
 clear hd hf hml
 obtain ⟨v,hv⟩:∃ v,preE l [kn]=v:=⟨_,rfl⟩
 have HV:Hid (orL [errI (ledB l) 24,errI (daysOk [kn]) 6]=v):=by show _=_;exact hv
 have HDY:=hd_ hdy
 clear hdy
 by_cases hv0:v=0
 ·subst hv0
  have HLO:=hd_ (led_ok (pre_zero hv).1)
  have hres:checkTrueX l kn days=trueE l kn days:=by rw [checkTrueX,if_pos hv]
  rw [hres]
  obtain ⟨ve,hve⟩:∃ ve,trueE l kn days=ve:=⟨_,rfl⟩
  have HTE0:=hd_ hve
  rw [hve]
  clear hres hv
  by_cases he:ve=0
  ·subst he
   have HTE:=HTE0
   clear hve
   go_enter Tryz.func51,Tryz.ntmps51
   go_wp2_with (first | (go_at_call 18;refine (p_Check l ⟨pA,pn,pc,rA,rn,rc,tA,tn,tc,sA,sn,sc⟩ _ hpn hrn htn hsn (HD.out.now (by exact bel_))).mono ?_;rintro e w1 ⟨rfl,hb1⟩;have HB1:Below w.heap.size w w1:=bt_ (by exact bel_) hb1;have hs1:=HB1.size;have bL0:=BoxA.new w 27 #[.slice pA pn pc,.slice rA rn rc,.slice tA tn tc,.slice sA sn sc];have bL1:=bL0.ext hb1;have kL1:=bL1.cell;have zL1:=bL1.lt;clear hb1) | (go_at_call 100;refine (p_checkDays [kn] _ 1 1 _ (by decide) (Rd.new _ #[.int .i64 kn] _ 1 1 _ (by simp) rfl)).mono ?_;rintro e w2 ⟨rfl,hb2⟩;have HB2:Below w.heap.size w w2:=bt_ (by exact bel_) hb2;have hs2:=HB2.size;have bL2:=(bL1.alloc _).ext hb2;have kL2:=bL2.cell;have zL2:=bL2.lt;clear kL1 zL1;clear hb2) | (go_at_call 99;refine (p_first [errI (ledB l) 24,errI (daysOk [kn]) 6] 0 _ 2 2 _ (by decide) (Rd.new _ #[.int .i64 (errI (ledB l) 24),.int .i64 (errI (daysOk [kn]) 6)] _ 1 2 _ (by simp) rfl) HV.out).mono ?_;rintro e w1 ⟨rfl,rfl⟩) | (go_at_call 101;refine (p_openA l ⟨pA,pn,pc,rA,rn,rc,tA,tn,tc,sA,sn,sc⟩ kn _ HLO.out (HD.out.now (by exact bel_))).mono ?_;rintro e w5 ⟨RA,Rn,Rc,SA,Sn,Sc,bm,TA,Tn,Tc,PA,Pn,Pc,rfl,hb5,hO⟩;have HB5:Below w.heap.size w w5:=bt_ (by exact bel_) hb5;have hs5:=HB5.size;have HO:=hd_ hO;have bL5:=(bL2.alloc _).ext hb5;have kL5:=bL5.cell;have zL5:=bL5.lt;clear kL2 zL2;clear hO hb5) | (go_at_call 133;refine (p_checkTrue0 l kn days D m c0 ⟨⟨pA,pn,pc,rA,rn,rc,tA,tn,tc,sA,sn,sc⟩,kn,RA,Rn,Rc,SA,Sn,Sc,bm,TA,Tn,Tc,PA,Pn,Pc⟩ w5 HLO.out HO.out hm (HDY.out.now HB5) HTE.out).mono ?_;rintro e w6 ⟨PA2,Pc2,rfl,hb6,hbx6,hac6⟩;have HB6:Below w.heap.size w w6:=bt_ HB5 hb6;have hs6:=HB6.size))
   go_ret
   exact ⟨rfl,HB6⟩
  ·have HTE:=HTE0
   have HVE:=hd_ he
   clear hve he
   go_enter Tryz.func51,Tryz.ntmps51
   go_wp2_with (first | (go_at_call 18;refine (p_Check l ⟨pA,pn,pc,rA,rn,rc,tA,tn,tc,sA,sn,sc⟩ _ hpn hrn htn hsn (HD.out.now (by exact bel_))).mono ?_;rintro e w1 ⟨rfl,hb1⟩;have HB1:Below w.heap.size w w1:=bt_ (by exact bel_) hb1;have hs1:=HB1.size;have bL0:=BoxA.new w 27 #[.slice pA pn pc,.slice rA rn rc,.slice tA tn tc,.slice sA sn sc];have bL1:=bL0.ext hb1;have kL1:=bL1.cell;have zL1:=bL1.lt;clear hb1) | (go_at_call 100;refine (p_checkDays [kn] _ 1 1 _ (by decide) (Rd.new _ #[.int .i64 kn] _ 1 1 _ (by simp) rfl)).mono ?_;rintro e w2 ⟨rfl,hb2⟩;have HB2:Below w.heap.size w w2:=bt_ (by exact bel_) hb2;have hs2:=HB2.size;have bL2:=(bL1.alloc _).ext hb2;have kL2:=bL2.cell;have zL2:=bL2.lt;clear kL1 zL1;clear hb2) | (go_at_call 99;refine (p_first [errI (ledB l) 24,errI (daysOk [kn]) 6] 0 _ 2 2 _ (by decide) (Rd.new _ #[.int .i64 (errI (ledB l) 24),.int .i64 (errI (daysOk [kn]) 6)] _ 1 2 _ (by simp) rfl) HV.out).mono ?_;rintro e w1 ⟨rfl,rfl⟩) | (go_at_call 101;refine (p_openA l ⟨pA,pn,pc,rA,rn,rc,tA,tn,tc,sA,sn,sc⟩ kn _ HLO.out (HD.out.now (by exact bel_))).mono ?_;rintro e w5 ⟨RA,Rn,Rc,SA,Sn,Sc,bm,TA,Tn,Tc,PA,Pn,Pc,rfl,hb5,hO⟩;have HB5:Below w.heap.size w w5:=bt_ (by exact bel_) hb5;have hs5:=HB5.size;have HO:=hd_ hO;have bL5:=(bL2.alloc _).ext hb5;have kL5:=bL5.cell;have zL5:=bL5.lt;clear kL2 zL2;clear hO hb5) | (go_at_call 133;refine (p_checkTrueN l kn days D m c0 ⟨⟨pA,pn,pc,rA,rn,rc,tA,tn,tc,sA,sn,sc⟩,kn,RA,Rn,Rc,SA,Sn,Sc,bm,TA,Tn,Tc,PA,Pn,Pc⟩ ve w5 HLO.out HO.out hm (HDY.out.now HB5) HTE.out HVE.out).mono ?_;rintro e w6 ⟨rfl,hb6⟩;have HB6:Below w.heap.size w w6:=bt_ HB5 hb6;have hs6:=HB6.size))
   go_ret
   exact ⟨rfl,HB6⟩
 ·have hres:checkTrueX l kn days=v:=by rw [checkTrueX,if_neg (by rw [hv];exact hv0),hv]
  rw [hres]
  have hv1:(v != 0)=true:=by simpa using hv0
  clear hres hv hv0
  go_enter Tryz.func51,Tryz.ntmps51
  go_wp2_with (first | (go_at_call 18;refine (p_Check l ⟨pA,pn,pc,rA,rn,rc,tA,tn,tc,sA,sn,sc⟩ _ hpn hrn htn hsn (HD.out.now (by exact bel_))).mono ?_;rintro e w1 ⟨rfl,hb1⟩;have HB1:Below w.heap.size w w1:=bt_ (by exact bel_) hb1;have hs1:=HB1.size;have bL0:=BoxA.new w 27 #[.slice pA pn pc,.slice rA rn rc,.slice tA tn tc,.slice sA sn sc];have bL1:=bL0.ext hb1;have kL1:=bL1.cell;have zL1:=bL1.lt;clear hb1) | (go_at_call 100;refine (p_checkDays [kn] _ 1 1 _ (by decide) (Rd.new _ #[.int .i64 kn] _ 1 1 _ (by simp) rfl)).mono ?_;rintro e w2 ⟨rfl,hb2⟩;have HB2:Below w.heap.size w w2:=bt_ (by exact bel_) hb2;have hs2:=HB2.size;have bL2:=(bL1.alloc _).ext hb2;have kL2:=bL2.cell;have zL2:=bL2.lt;clear kL1 zL1;clear hb2) | (go_at_call 99;refine (p_first [errI (ledB l) 24,errI (daysOk [kn]) 6] v _ 2 2 _ (by decide) (Rd.new _ #[.int .i64 (errI (ledB l) 24),.int .i64 (errI (daysOk [kn]) 6)] _ 1 2 _ (by simp) rfl) HV.out).mono ?_;rintro e w1 ⟨rfl,rfl⟩))
  go_ret
  exact ⟨rfl,by exact bel_⟩
end Go.Proofs.YtoiompoapikkbaaGreat
namespace Go.Proofs.YtoiompoapikkbaaGreat
open Go.RowKit Go.Maps Go.Shelf
end Go.Proofs.YtoiompoapikkbaaGreat
namespace Go.Proofs.YtoiompoapikkbaaGreat
open Go.RowKit Go.Maps
def excL (l:Led) (s:Int):Led:=⟨l.pp,l.rc.filter (fun r=>!(r.src == s)),l.rt.filter (fun r=>!(r.src == s)),l.sg.filter (fun r=>!(r.src == s))⟩
theorem LedOk.exc {l:Led} (h:LedOk l) (s:Int):LedOk (excL l s) :=
 ⟨h.pn,Nat.le_trans (List.length_filter_le _ _) h.rn,Nat.le_trans (List.length_filter_le _ _) h.tn,Nat.le_trans (List.length_filter_le _ _) h.sn,h.pp,fun r hr=>h.rc r (List.mem_filter.1 hr).1,fun r hr=>h.rt r (List.mem_filter.1 hr).1,fun r hr=>h.sg r (List.mem_filter.1 hr).1⟩
def movL (l:Led) (src day kn:Int):List (Int × Int):=(folL l.pp).filter fun f=>!decide (whL l kn day f=whL (excL l src) kn day f)
def movX (l:Led) (src day kn:Int):List (Int × Int) × Int :=
 if preE l [day,kn]=0 then (if src∈srcL l then (if setE l kn=setE (excL l src) kn then (if setE l kn=0 then (movL l src day kn,0) else ([],0)) else (folL l.pp,0)) else ([],3)) else ([],preE l [day,kn])
theorem exc_rv (xs:List Rv) (s:Int):(xs.filter fun v=>!(v.r.src == s)).map Rv.r=(xs.map Rv.r).filter fun r=>!(r.src == s):=by
 rw [List.filter_map]
 rfl
theorem exc_tv (xs:List Tv) (s:Int):(xs.filter fun v=>!(v.r.src == s)).map Tv.r=(xs.map Tv.r).filter fun r=>!(r.src == s):=by
 rw [List.filter_map]
 rfl
end Go.Proofs.YtoiompoapikkbaaGreat
