/- Layer 2 of the texts that LoanWheres takes: Ubaq. -/
import Derived.Test.YtoiompoapikkbaaGreatUaxq
import Derived.Test.YtoiompoapikkbaaGreatUazq
set_option linter.unusedVariables false
set_option linter.unusedSimpArgs false
/- Layer 2: all folios of a ledger. -/
namespace Go.Proofs.YtoiompoapikkbaaGreat
open Go.RowKit Go.Maps
def ppFol (p:Ppr):List (Int × Int):=(List.range p.lv.toNat).map fun i:Nat=>(p.id,(i:Int)+1)
def folL (pp:List Ppr):List (Int × Int):=pp.flatMap ppFol
theorem take_pfol {l:List Ppr} {k:Nat} {r:Ppr} (h:l[k]?=some r):(l.take (k+1)).flatMap ppFol=(l.take k).flatMap ppFol ++ ppFol r:=by rw [take_snoc_some h];simp
theorem pfol_len {l:List Ppr} (h:∀ r∈l,r.lv≤30) (k:Nat):((l.take k).flatMap ppFol).length≤30*k:=by
 induction k generalizing l with
 | zero=>simp
 | succ k ih =>
   cases l with
   | nil=>simp
   | cons r l =>
     have h1:=ih (l:=l) fun r hr=>h r (List.mem_cons_of_mem _ hr)
     have h2:=h r (by simp)
     simp only [List.take_succ_cons,List.flatMap_cons,List.length_append,ppFol,List.length_map,List.length_range] at h1 ⊢
     omega
set_option maxRecDepth 10000 in
set_option maxHeartbeats 8000000 in
theorem p_folios (l:Led) (x:Lsl) (w:World) (hp:x.pn≤12) (hl30:∀ r∈l.pp,0≤r.lv∧r.lv≤30) (hd:LedIn w w.heap.size x l) :
 Calls Tryz.prog 138 #[.agg #[.slice x.pA x.pn x.pc,.slice x.rA x.rn x.rc,.slice x.tA x.tn x.tc,.slice x.sA x.sn x.sc]] w (RetF (folL l.pp) w):=by
 obtain ⟨i0,hi,hz0,hz1,hz2⟩:=info_parts infoFol
 have hl1:=hd.p.len
 have HD:=Lib.hid (hd.now ((Below.refl w.heap.size w).alloc (Nat.le_refl _) (.cells #[.slice x.pA x.pn x.pc,.slice x.rA x.rn x.rc,.slice x.tA x.tn x.tc,.slice x.sA x.sn x.sc] 27)))
 have HL1:=Lib.hid hl1
 have H30:=Lib.hid hl30
 clear hl1 hd hl30
 go_enter Tryz.func138,Tryz.ntmps138
 go_wp2
 go_loopw [3,10] (fun v i wr=>∃ k:Nat,k≤x.pn∧i=.int .i64 k∧wr.ownsRow (w.heap.size+1) 60 2 v ((l.pp.take k).flatMap ppFol).length (folCells ((l.pp.take k).flatMap ppFol))∧Below (w.heap.size+1) (w.alloc (.cells #[.slice x.pA x.pn x.pc,.slice x.rA x.rn x.rc,.slice x.tA x.tn x.tc,.slice x.sA x.sn x.sc] 27)) wr) (fun _ i _=>x.pn - (intOf i).toNat)
 case atStart=>exact ⟨0,by omega,rfl,World.ownsRow_nil _ _ _ _,by exact bel_⟩
 case round =>
  obtain ⟨k,hk,rfl,hown,hB⟩:=hrel
  have hs0:w.heap.size+1≤wr.heap.size:=by have h:=hB.size;simp at h;omega
  by_cases hlt:k<x.pn
  ·obtain ⟨b,o,e,hA,hb,he,a0,a1⟩:=(Sq.ext HD.out.p abP (w':=wr) (by simpa using hB) (Nat.le_refl _)).at_ hlt
   have hbr:b<wr.heap.size:=by simp at hb;omega
   have hlv:=H30.out e (List.mem_of_getElem? he)
   obtain ⟨n1,hn1⟩:∃ n:Nat,e.lv=(n:Int):=⟨e.lv.toNat,by omega⟩
   have hn30:n1≤30:=by omega
   have hfl:=pfol_len (fun r hr=>(H30.out r hr).2) k
   have HE:Hid ((l.pp.take (k+1)).flatMap ppFol=(l.pp.take k).flatMap ppFol ++ (List.range n1).map fun i:Nat=>(e.id,(i:Int)+1)):=by show _=_;rw [take_pfol he,ppFol,hn1];simp
   obtain ⟨L0,hL0⟩:∃ L0,(l.pp.take k).flatMap ppFol=L0:=⟨_,rfl⟩
   rw [hL0] at hown hfl HE
   rw [hn1] at a1
   obtain ⟨eid,heid⟩:∃ d,e.id=d:=⟨_,rfl⟩
   rw [heid] at a0 HE
   obtain ⟨wo,hwo⟩:∃ wo,wo=wr:=⟨_,rfl⟩
   subst hwo
   have HB:=Lib.hid hB
   have HO:=Lib.hid hown
   clear he hB hL0 hown hlv hn1 heid
   go_wp2
   have HAA:=Lib.hid hA
   clear hA
   go_loopw [3,16] (fun v i wq=>∃ j:Nat,j≤n1∧i=.int .i64 j∧wq.ownsRow (w.heap.size+1) 60 2 v (L0.length+j) (folCells (L0 ++ (List.range j).map fun i:Nat=>(eid,(i:Int)+1)))∧Below (w.heap.size+1) wo wq∧wq.heap[wo.heap.size]?=some (.cells #[.int .i64 eid,.int .i64 n1] 29 (0,0))) (fun _ i _=>n1 - (intOf i).toNat)
   case atStart=>exact ⟨0,by omega,rfl,by simpa using HO.out.alloc _,by exact bel_,by simpa using World.alloc_heap_new wo _⟩
   case round =>
    obtain ⟨j,hj,rfl,hown,hQ,hbox⟩:=hrel
    have hBQ:Below (w.heap.size+1) (w.alloc (.cells #[.slice x.pA x.pn x.pc,.slice x.rA x.rn x.rc,.slice x.tA x.tn x.tc,.slice x.sA x.sn x.sc] 27)) wr:=HB.out.trans hQ
    have hbl:wo.heap.size<wr.heap.size:=(Array.getElem?_eq_some_iff.1 hbox).1
    have x2:wr.cell? ⟨wo.heap.size,0,none⟩=some (.int .i64 eid):=by simp [World.cell?,hbox]
    by_cases hjn:j<n1
    ·have HOI:=Lib.hid hown
     have HQ:=Lib.hid hQ
     have HBX:=Lib.hid hbox
     clear hQ hbox
     go_wp2_with (at_builtin;refine wpList_append_own _ rfl (.tmp 19) (.tmp 25) 71 rfl (w.heap.size+1) 60 i0 _ 2 16 Tryz.underlying71 hi hz0 hz1 hz2 rfl (by decide) _ _ _ rfl (hown.alloc _) ⟨wr.heap.size,0,none⟩ 1 1 [.int .i64 eid,.int .i64 ((j:Int)+1)] rfl rfl ?c1 ?c2 ?c3 ?c4 ?c5 ?_;rotate_left 5;intro v' w2 hown2 hgrow2 _)
     case c1=>intro j u hj;match j,hj with
      | 0,hj=>simp at hj;subst hj;simp [Addr.add]
      | 1,hj=>simp at hj;subst hj;simp [Addr.add]
     case c2=>simp [Value.oneCell']
     case c3=>unfold maxLen;omega
     case c4=>omega
     case c5=>simp;omega
     go_roundw
     case rel =>
      refine ⟨j+1,by omega,by go_num,?_,OwnS.below (by have:=HQ.out;exact bel_) HOI.out (by simp;omega) hgrow2,?_⟩
      ·have e1:folCells (L0 ++ (List.range (j+1)).map fun i:Nat=>(eid,(i:Int)+1))=folCells (L0 ++ (List.range j).map fun i:Nat=>(eid,(i:Int)+1)) ++ [.int .i64 eid,.int .i64 ((j:Int)+1)]:=by rw [List.range_succ];simp [folCells]
       rw [e1]
       exact hown2
      ·exact box_kept (W:=wr.alloc (.cells #[.int .i64 eid,.int .i64 ((j:Int)+1)] 60)) ((Below.heap_alloc _ _ _ hbl).trans HBX.out) HOI.out HBX.out (by decide) hgrow2
     case measure=>exact ms_
    ·have hjk:Hid (j=n1):=by show _=_;omega
     have HOI:=Lib.hid hown
     have HBQ:=Lib.hid hBQ
     clear hown hBQ hbox hQ
     go_wp2
     have hA:=HAA.out
     go_roundw
     case rel =>
      refine ⟨k+1,by omega,by go_num,?_,HBQ.out⟩
      rw [HE.out]
      have h:=HOI.out
      rw [hjk.out] at h
      rw [List.length_append,List.length_map,List.length_range]
      exact h
     case measure=>exact ms_
  ·have hkn:Hid (k=x.pn):=by show _=_;omega
   have HO:=Lib.hid hown
   have HB:=Lib.hid hB
   clear hown hB
   go_wp2
   go_ret
   refine ⟨_,rfl,(show Below w.heap.size w (w.alloc (.cells #[.slice x.pA x.pn x.pc,.slice x.rA x.rn x.rc,.slice x.tA x.tn x.tc,.slice x.sA x.sn x.sc] 27)) by exact bel_).trans (HB.out.mono (Nat.le_succ _)),?_⟩
   have h:=HO.out
   rw [hkn.out,List.take_of_length_le (by rw [HL1.out];exact Nat.le_refl _)] at h
   exact own_dn h (Nat.le_succ _)
end Go.Proofs.YtoiompoapikkbaaGreat
/- Layer 2: an account that is open, and one that is settled. -/
namespace Go.Proofs.YtoiompoapikkbaaGreat
open Go.RowKit Go.Maps
def preE (l:Led) (ds:List Int):Int:=orL [errI (ledB l) 24,errI (daysOk ds) 6]
theorem pre_zero {l:Led} {ds:List Int} (h:preE l ds=0):ledB l=true∧daysOk ds=true:=by
 unfold preE at h
 cases h1:ledB l <;> cases h2:daysOk ds <;> simp_all [orL,errI]
structure OpnA (w:World) (a:Acc) (l:Led) (kn:Int):Prop where
 acc:AccR w a (opnL l kn).M (cntR l kn) (opnL l kn).P
 sg:Sgs w w.heap.size a.SA a.Sn (cntS l kn)
 tl:Sq QB 1 w w.heap.size a.TA a.Tn (opnL l kn).T
 pn:a.Pn=l.rt.length
 tn:a.Tn=l.rt.length
 sn:a.Sn≤60
 cs:a.Sn≤a.Sc∧a.Sc≤maxLen
theorem OpnA.now {w w':World} {a:Acc} {l:Led} {kn:Int} (h:OpnA w a l kn) (hb:Below w.heap.size w w'):OpnA w' a l kn:=⟨h.acc.now hb,h.sg.now abS hb,h.tl.now abB hb,h.pn,h.tn,h.sn,h.cs⟩
theorem p_openA (l:Led) (x:Lsl) (kn:Int) (w:World) (hlv:LedOk l) (hd:LedIn w w.heap.size x l) :
 Calls Tryz.prog 101 #[.agg #[.slice x.pA x.pn x.pc,.slice x.rA x.rn x.rc,.slice x.tA x.tn x.tc,.slice x.sA x.sn x.sc],.int .i64 kn] w fun e w'=>∃ RA Rn Rc SA Sn Sc bm TA Tn Tc PA Pn Pc,
  e=.returned (accV ⟨x,kn,RA,Rn,Rc,SA,Sn,Sc,bm,TA,Tn,Tc,PA,Pn,Pc⟩)∧Below w.heap.size w w'∧OpnA w' ⟨x,kn,RA,Rn,Rc,SA,Sn,Sc,bm,TA,Tn,Tc,PA,Pn,Pc⟩ l kn:=by
 refine (p_open l x kn w hlv hd).mono ?_
 rintro e w' ⟨⟨y,kn2,RA,Rn,Rc,SA,Sn,Sc,bm,TA,Tn,Tc,PA,Pn,Pc⟩,rfl,hb,hx,hk,hac,hsg,htl,hpn,htn,hsn,hcs⟩
 obtain rfl:y=x:=hx
 obtain rfl:kn2=kn:=hk
 have ht:l.rt.length=y.tn:=hd.t.len
 exact ⟨RA,Rn,Rc,SA,Sn,Sc,bm,TA,Tn,Tc,PA,Pn,Pc,rfl,hb,hac,hsg,htl,hpn.trans ht.symm,htn.trans ht.symm,hsn,hcs⟩
def setE (l:Led) (kn:Int):Int:=match dblR (opnL l kn).M (opnL l kn).P (cntR l kn),narL (opnL l kn).M (cntR l kn) (cntS l kn) (opnL l kn).P with
 | some _,_=>25
 | none,none=>27
 | none,some _=>0
def setP (l:Led) (kn:Int):List (Int × Int):=(narL (opnL l kn).M (cntR l kn) (cntS l kn) (opnL l kn).P).getD []
theorem cnt_sgs {l:Led} (h:LedOk l) (kn:Int):sgsOk (cntS l kn):=fun s hs=>h.sg s (List.mem_filter.1 hs).1
abbrev accC (a:Acc):Array Value:=#[.slice a.x.pA a.x.pn a.x.pc,.slice a.x.rA a.x.rn a.x.rc,.slice a.x.tA a.x.tn a.x.tc,.slice a.x.sA a.x.sn a.x.sc,.int .i64 a.kn,.slice a.RA a.Rn a.Rc,.slice a.SA a.Sn a.Sc,.map (some a.bm),.slice a.TA a.Tn a.Tc,.slice a.PA a.Pn a.Pc]
theorem AccR.settled {w1 ws:World} {a:Acc} {M:List ((Int × Int) × Nat)} {R:List Rcp} {P P':List (Int × Int)} {A:Option Addr} {c base:Nat} (h:AccR w1 a M R P) (hB:Below w1.heap.size w1 ws) (ho:ws.ownsRow base 143 2 (.slice A a.Pn c) a.Pn (folCells P')) (hl:P'.length=a.Pn):AccR ws { a with PA:=A,Pc:=c } M R P' :=
 ⟨h.m.ext hB,h.r.now abR hB,sq_of_own ho hl,h.nR,h.cR,h.okR,h.nP,(fun e=>by
   have e:A=none:=e
   subst e
   rcases ho.2 with ⟨h1,_⟩ | ⟨g,cap,cur,h1,_⟩
   ·injection h1
   ·cases h1),h.mP⟩
theorem p_settleN (l:Led) (kn:Int) (a:Acc) (v:Int) (w:World) (hl:LedOk l) (h:OpnA w a l kn) (hv:setE l kn=v) (h0:¬ v=0) :
 Calls Tryz.prog 112 #[.pointer (some ⟨w.heap.size,0,none⟩)] (w.alloc (.cells (accC a) 119)) fun e w'=>e=.returned (.int .i64 v)∧Below w.heap.size w w':=by
 have hb:Below w.heap.size w (w.alloc (.cells (accC a) 119)):=by exact bel_
 have hc:=p_settle (opnL l kn).M (cntR l kn) (opnL l kn).P (cntS l kn) a w.heap.size _ (h.acc.now hb) (cnt_sgs hl kn) (by have:=h.sn;omega) (h.sg.now abS hb) (BoxA.new w 119 (accC a))
 refine hc.mono fun e w' hr=>?_
 subst hv
 unfold setE at h0 ⊢
 cases hd:dblR (opnL l kn).M (opnL l kn).P (cntR l kn) with
 | some p =>
   rw [hd] at hr
   exact ⟨hr.1,Below.then_ hb hr.2⟩
 | none =>
   cases ho:narL (opnL l kn).M (cntR l kn) (cntS l kn) (opnL l kn).P with
   | none =>
     rw [hd,ho] at hr
     exact ⟨hr.1,Below.then_ hb hr.2⟩
   | some P' =>
     rw [hd,ho] at h0
     exact absurd rfl h0
theorem p_settle0 (l:Led) (kn:Int) (a:Acc) (w:World) (hl:LedOk l) (h:OpnA w a l kn) (hv:setE l kn=0) :
 Calls Tryz.prog 112 #[.pointer (some ⟨w.heap.size,0,none⟩)] (w.alloc (.cells (accC a) 119)) fun e w'=>∃ A c,e=.returned (.int .i64 0)∧Below w.heap.size w w'∧BoxA w' w.heap.size 119 (accC { a with PA:=A,Pc:=c }) ∧
  AccR w' { a with PA:=A,Pc:=c } (opnL l kn).M (cntR l kn) (setP l kn)∧(setP l kn).length=l.rt.length:=by
 have hb:Below w.heap.size w (w.alloc (.cells (accC a) 119)):=by exact bel_
 have hbox:=BoxA.new w 119 (accC a)
 have hc:=p_settle (opnL l kn).M (cntR l kn) (opnL l kn).P (cntS l kn) a w.heap.size _ (h.acc.now hb) (cnt_sgs hl kn) (by have:=h.sn;omega) (h.sg.now abS hb) hbox
 refine hc.mono fun e w' hr=>?_
 unfold setE at hv
 cases hd:dblR (opnL l kn).M (opnL l kn).P (cntR l kn) with
 | some p=>rw [hd] at hv;cases hv
 | none =>
   cases ho:narL (opnL l kn).M (cntR l kn) (cntS l kn) (opnL l kn).P with
   | none=>rw [hd,ho] at hv;cases hv
   | some P' =>
     rw [hd,ho] at hr
     obtain ⟨rfl,w1,A,c,hb1,ho1,hl1,rfl⟩:=hr
     have hsp:setP l kn=P':=by rw [setP,ho];rfl
     rw [hsp]
     have hB:Below w.heap.size w w1:=Below.then_ hb hb1
     have hB2:=hB.setCell (show w.heap.size≤(⟨w.heap.size,9,none⟩:Addr).block from Nat.le_refl _) (.slice A a.Pn c)
     have ho2:(w1.setCell ⟨w.heap.size,9,none⟩ (.slice A a.Pn c)).ownsRow (w.alloc (.cells (accC a) 119)).heap.size 143 2 (.slice A a.Pn c) a.Pn (folCells P'):=own_keep ho1 fun b hb9=>Below.heap_setCell _ _ _ _ (fun e=>by
      have:=own_le ho1 hb9
      simp only [World.size_alloc] at this
      have e:b=w.heap.size:=e
      omega)
     exact ⟨A,c,rfl,hB2,(hbox.ext hb1).set 9 _,h.acc.settled hB2 ho2 hl1,hl1.trans h.pn⟩
end Go.Proofs.YtoiompoapikkbaaGreat
/- Layer 2: Sound, Double, CheckTrue. -/
namespace Go.Proofs.YtoiompoapikkbaaGreat
open Go.RowKit Go.Maps
def RetLE (r:List Int × Int) (w:World) (e:Ending) (w':World):Prop:=∃ A n c,e=.returned (.tuple #[.slice A n c,.int .i64 r.2])∧Below w.heap.size w w'∧Is w' w'.heap.size A n r.1∧n≤c∧c≤maxLen
def doubleX (l:Led) (kn:Int):List Int × Int:=if preE l [kn]=0 then (match dblR (opnL l kn).M (opnL l kn).P (cntR l kn) with | none=>([],28) | some p=>([p.1.src,p.2.src],0)) else ([],preE l [kn])
theorem RetLE.err {v:Int} {w w':World} (hb:Below w.heap.size w w'):RetLE ([],v) w (.returned (.tuple #[.slice none 0 0,.int .i64 v])) w':=⟨none,0,0,rfl,hb,Rd.nil_,Nat.le_refl _,by decide⟩
set_option maxRecDepth 10000 in
set_option maxHeartbeats 4000000 in
theorem p_Double (l:Led) (x:Lsl) (kn:Int) (w:World) (hf:x.fit) (hd:LedIn w w.heap.size x l) :
 Calls Tryz.prog 23 #[.agg #[.slice x.pA x.pn x.pc,.slice x.rA x.rn x.rc,.slice x.tA x.tn x.tc,.slice x.sA x.sn x.sc],.int .i64 kn] w (RetLE (doubleX l kn) w):=by
 obtain ⟨pA,pn,pc,rA,rn,rc,tA,tn,tc,sA,sn,sc⟩:=x
 have HD:=Lib.hid hd
 have hml:maxLen≤9223372036854775807:=by decide
 have hpn:pn≤9223372036854775807:=by have:=hf.p;dsimp only at this;omega
 have hrn:rn≤9223372036854775807:=by have:=hf.r;dsimp only at this;omega
 have htn:tn≤9223372036854775807:=by have:=hf.t;dsimp only at this;omega
 have hsn:sn≤9223372036854775807:=by have:=hf.s;dsimp only at this;omega
 clear hd hf hml
 obtain ⟨v,hv⟩:∃ v,preE l [kn]=v:=⟨_,rfl⟩
 have HV:Hid (orL [errI (ledB l) 24,errI (daysOk [kn]) 6]=v):=by show _=_;exact hv
 by_cases hv0:v=0
 ·subst hv0
  have HLO:=Lib.hid (led_ok (pre_zero hv).1)
  cases hdr:dblR (opnL l kn).M (opnL l kn).P (cntR l kn) with
  | none =>
    have hres:doubleX l kn=([],28):=by rw [doubleX,if_pos hv,hdr]
    rw [hres]
    have HDR:=Lib.hid hdr
    clear hres hdr hv
    go_enter Tryz.func23,Tryz.ntmps23
    go_wp2_with (first | (go_at_call 18;refine (p_Check l ⟨pA,pn,pc,rA,rn,rc,tA,tn,tc,sA,sn,sc⟩ _ hpn hrn htn hsn (HD.out.now (by exact bel_))).mono ?_;rintro e w1 ⟨rfl,hb1⟩;have HB1:Below w.heap.size w w1:=Below.then_ (by exact bel_) hb1;have hs1:=HB1.size;have bL0:=BoxA.new w 27 #[.slice pA pn pc,.slice rA rn rc,.slice tA tn tc,.slice sA sn sc];have bL1:=bL0.ext hb1;have kL1:=bL1.cell;have zL1:=bL1.lt;clear hb1) | (go_at_call 100;refine (p_checkDays [kn] _ 1 1 _ (by decide) (Rd.new _ #[.int .i64 kn] _ 1 1 _ (by simp) rfl)).mono ?_;rintro e w2 ⟨rfl,hb2⟩;have HB2:Below w.heap.size w w2:=Below.then_ (by exact bel_) hb2;have hs2:=HB2.size;have bL2:=(bL1.alloc _).ext hb2;have kL2:=bL2.cell;have zL2:=bL2.lt;clear kL1 zL1;clear hb2) | (go_at_call 99;refine (p_first [errI (ledB l) 24,errI (daysOk [kn]) 6] 0 _ 2 2 _ (by decide) (Rd.new _ #[.int .i64 (errI (ledB l) 24),.int .i64 (errI (daysOk [kn]) 6)] _ 1 2 _ (by simp) rfl) HV.out).mono ?_;rintro e w1 ⟨rfl,rfl⟩) | (go_at_call 101;refine (p_openA l ⟨pA,pn,pc,rA,rn,rc,tA,tn,tc,sA,sn,sc⟩ kn _ HLO.out (HD.out.now (by exact bel_))).mono ?_;rintro e w5 ⟨RA,Rn,Rc,SA,Sn,Sc,bm,TA,Tn,Tc,PA,Pn,Pc,rfl,hb5,hO⟩;have HB5:Below w.heap.size w w5:=Below.then_ (by exact bel_) hb5;have hs5:=HB5.size;have HO:=Lib.hid hO;have bL5:=(bL2.alloc _).ext hb5;have kL5:=bL5.cell;have zL5:=bL5.lt;clear kL2 zL2;clear hO hb5) | (go_at_call 104;obtain ⟨xs,hxs,hx⟩:=rvs_of HO.out.acc.r;have hdb:=p_double (opnL l kn).M (cntR l kn) (opnL l kn).P xs ⟨⟨pA,pn,pc,rA,rn,rc,tA,tn,tc,sA,sn,sc⟩,kn,RA,Rn,Rc,SA,Sn,Sc,bm,TA,Tn,Tc,PA,Pn,Pc⟩ w5 HO.out.acc hx hxs;have hdm:=dbl2_map (opnL l kn).M (opnL l kn).P xs;rw [hxs,HDR.out] at hdm;have hdn:dbl2 (opnL l kn).M (opnL l kn).P xs=none:=Option.map_eq_none_iff.1 hdm;rw [hdn] at hdb;refine hdb.mono ?_;rintro e w6 ⟨hb6,rfl⟩;have HB6:Below w.heap.size w w6:=Below.then_ HB5 hb6;have hs6:=HB6.size))
    go_ret2
    exact RetLE.err (by exact bel_)
  | some q =>
    have hres:doubleX l kn=([q.1.src,q.2.src],0):=by rw [doubleX,if_pos hv,hdr]
    rw [hres]
    have HDR:=Lib.hid hdr
    clear hres hdr hv
    go_enter Tryz.func23,Tryz.ntmps23
    go_wp2_with (first | (go_at_call 18;refine (p_Check l ⟨pA,pn,pc,rA,rn,rc,tA,tn,tc,sA,sn,sc⟩ _ hpn hrn htn hsn (HD.out.now (by exact bel_))).mono ?_;rintro e w1 ⟨rfl,hb1⟩;have HB1:Below w.heap.size w w1:=Below.then_ (by exact bel_) hb1;have hs1:=HB1.size;have bL0:=BoxA.new w 27 #[.slice pA pn pc,.slice rA rn rc,.slice tA tn tc,.slice sA sn sc];have bL1:=bL0.ext hb1;have kL1:=bL1.cell;have zL1:=bL1.lt;clear hb1) | (go_at_call 100;refine (p_checkDays [kn] _ 1 1 _ (by decide) (Rd.new _ #[.int .i64 kn] _ 1 1 _ (by simp) rfl)).mono ?_;rintro e w2 ⟨rfl,hb2⟩;have HB2:Below w.heap.size w w2:=Below.then_ (by exact bel_) hb2;have hs2:=HB2.size;have bL2:=(bL1.alloc _).ext hb2;have kL2:=bL2.cell;have zL2:=bL2.lt;clear kL1 zL1;clear hb2) | (go_at_call 99;refine (p_first [errI (ledB l) 24,errI (daysOk [kn]) 6] 0 _ 2 2 _ (by decide) (Rd.new _ #[.int .i64 (errI (ledB l) 24),.int .i64 (errI (daysOk [kn]) 6)] _ 1 2 _ (by simp) rfl) HV.out).mono ?_;rintro e w1 ⟨rfl,rfl⟩) | (go_at_call 101;refine (p_openA l ⟨pA,pn,pc,rA,rn,rc,tA,tn,tc,sA,sn,sc⟩ kn _ HLO.out (HD.out.now (by exact bel_))).mono ?_;rintro e w5 ⟨RA,Rn,Rc,SA,Sn,Sc,bm,TA,Tn,Tc,PA,Pn,Pc,rfl,hb5,hO⟩;have HB5:Below w.heap.size w w5:=Below.then_ (by exact bel_) hb5;have hs5:=HB5.size;have HO:=Lib.hid hO;have bL5:=(bL2.alloc _).ext hb5;have kL5:=bL5.cell;have zL5:=bL5.lt;clear kL2 zL2;clear hO hb5) | (go_at_call 104;obtain ⟨xs,hxs,hx⟩:=rvs_of HO.out.acc.r;have hdb:=p_double (opnL l kn).M (cntR l kn) (opnL l kn).P xs ⟨⟨pA,pn,pc,rA,rn,rc,tA,tn,tc,sA,sn,sc⟩,kn,RA,Rn,Rc,SA,Sn,Sc,bm,TA,Tn,Tc,PA,Pn,Pc⟩ w5 HO.out.acc hx hxs;have hdm:=dbl2_map (opnL l kn).M (opnL l kn).P xs;rw [hxs,HDR.out] at hdm;obtain ⟨⟨ya,yb⟩,hdn,hde⟩:=Option.map_eq_some_iff.1 hdm;rw [hdn] at hdb;have hsa:ya.r.src=q.1.src:=congrArg (fun p:Rcp × Rcp=>p.1.src) hde;have hsb:yb.r.src=q.2.src:=congrArg (fun p:Rcp × Rcp=>p.2.src) hde;refine hdb.mono ?_;rintro e w6 ⟨hb6,rfl⟩;have HB6:Below w.heap.size w w6:=Below.then_ HB5 hb6;have hs6:=HB6.size;have HSA:=Lib.hid hsa;have HSB:=Lib.hid hsb;clear hdb hdm hdn hde hxs hx hsa hsb))
    go_ret2
    refine ⟨_,_,_,rfl,by exact bel_,?_,Nat.le_refl _,by decide⟩
    rw [← HSA.out,← HSB.out]
    exact Rd.new _ #[.int .i64 ya.r.src,.int .i64 yb.r.src] 3 1 2 _ (by simp) rfl
 ·have hres:doubleX l kn=([],v):=by rw [doubleX,if_neg (by rw [hv];exact hv0),hv]
  rw [hres]
  have hv1:(v != 0)=true:=by simpa using hv0
  clear hres hv hv0
  go_enter Tryz.func23,Tryz.ntmps23
  go_wp2_with (first | (go_at_call 18;refine (p_Check l ⟨pA,pn,pc,rA,rn,rc,tA,tn,tc,sA,sn,sc⟩ _ hpn hrn htn hsn (HD.out.now (by exact bel_))).mono ?_;rintro e w1 ⟨rfl,hb1⟩;have HB1:Below w.heap.size w w1:=Below.then_ (by exact bel_) hb1;have hs1:=HB1.size;have bL0:=BoxA.new w 27 #[.slice pA pn pc,.slice rA rn rc,.slice tA tn tc,.slice sA sn sc];have bL1:=bL0.ext hb1;have kL1:=bL1.cell;have zL1:=bL1.lt;clear hb1) | (go_at_call 100;refine (p_checkDays [kn] _ 1 1 _ (by decide) (Rd.new _ #[.int .i64 kn] _ 1 1 _ (by simp) rfl)).mono ?_;rintro e w2 ⟨rfl,hb2⟩;have HB2:Below w.heap.size w w2:=Below.then_ (by exact bel_) hb2;have hs2:=HB2.size;have bL2:=(bL1.alloc _).ext hb2;have kL2:=bL2.cell;have zL2:=bL2.lt;clear kL1 zL1;clear hb2) | (go_at_call 99;refine (p_first [errI (ledB l) 24,errI (daysOk [kn]) 6] v _ 2 2 _ (by decide) (Rd.new _ #[.int .i64 (errI (ledB l) 24),.int .i64 (errI (daysOk [kn]) 6)] _ 1 2 _ (by simp) rfl) HV.out).mono ?_;rintro e w1 ⟨rfl,rfl⟩))
  go_ret2
  exact RetLE.err (by exact bel_)
end Go.Proofs.YtoiompoapikkbaaGreat
