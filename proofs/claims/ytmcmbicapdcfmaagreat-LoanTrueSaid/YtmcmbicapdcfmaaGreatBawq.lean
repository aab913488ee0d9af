/- Layer 2 of the texts that LoanBack takes: Bawq. -/
import Derived.Test.YtmcmbicapdcfmaaGreatBatq
import Derived.Test.YtmcmbicapdcfmaaGreatBavq
set_option linter.unusedVariables false
set_option linter.unusedSimpArgs false
set_option maxHeartbeats 16000000
namespace Go.Proofs.YtmcmbicapdcfmaaGreat
open Go.RowKit Go.Maps
def ppFol (p:Ppr):List (Int × Int):=(List.range p.lv.toNat).map fun i:Nat=>(p.id,(i:Int)+1)
def folL (pp:List Ppr):List (Int × Int):=pp.flatMap ppFol
theorem take_pfol {l:List Ppr} {k:Nat} {r:Ppr} (h:l[k]?=some r):(l.take (k+1)).flatMap ppFol=(l.take k).flatMap ppFol ++ ppFol r:=by rw [take_snoc_some h];simp
theorem pfol_len {l:List Ppr} (h:∀ r∈l,r.lv≤30) (k:Nat):((l.take k).flatMap ppFol).length≤30*k:=by
 induction k generalizing l with
 | zero=>simp
 | succ k ih =>
   cases l with
   | nil=>simp
   | cons r l =>
     have h1:=ih (l:=l) fun r hr=>h r (List.mem_cons_of_mem _ hr)
     have h2:=h r (by simp)
     simp only [List.take_succ_cons,List.flatMap_cons,List.length_append,ppFol,List.length_map,List.length_range] at h1 ⊢
     omega
set_option maxRecDepth 10000 in
theorem p_folios (l:Led) (x:Lsl) (w:World) (hp:x.pn≤12) (hl30:∀ r∈l.pp,0≤r.lv∧r.lv≤30) (hd:LedIn w w.heap.size x l) :
 Calls Tryz.prog 96 #[.agg #[.slice x.pA x.pn x.pc,.slice x.rA x.rn x.rc,.slice x.tA x.tn x.tc,.slice x.sA x.sn x.sc]] w (RetF (folL l.pp) w):=by
 obtain ⟨i0,hi,hz0,hz1,hz2⟩:=info_parts infoFol
 have hl1:=hd.p.len
 have HD:=hd_ (hd.now ((Below.refl w.heap.size w).alloc lr_ (.cells #[.slice x.pA x.pn x.pc,.slice x.rA x.rn x.rc,.slice x.tA x.tn x.tc,.slice x.sA x.sn x.sc] 32)))
 have HL1:=hd_ hl1
 have H30:=hd_ hl30
 clear hl1 hd hl30
 go_enter Tryz.func96,Tryz.ntmps96
 go_wp2
 go_loopw [3,10] (fun v i wr=>∃ k:Nat,k≤x.pn∧i=.int .i64 k∧wr.ownsRow (w.heap.size+1) 48 2 v ((l.pp.take k).flatMap ppFol).length (folCells ((l.pp.take k).flatMap ppFol))∧Below (w.heap.size+1) (w.alloc (.cells #[.slice x.pA x.pn x.pc,.slice x.rA x.rn x.rc,.slice x.tA x.tn x.tc,.slice x.sA x.sn x.sc] 32)) wr) (fun _ i _=>x.pn - (intOf i).toNat)
 case atStart=>exact ⟨0,by omega,rfl,World.ownsRow_nil _ _ _ _,by exact bel_⟩
 case round =>
  obtain ⟨k,hk,rfl,hown,hB⟩:=hrel
  have hs0:w.heap.size+1≤wr.heap.size:=by have h:=hB.size;simp at h;omega
  by_cases hlt:k<x.pn
  ·obtain ⟨b,o,e,hA,hb,he,a0,a1⟩:=(Sq.ext HD.out.p abP (w':=wr) (by simpa using hB) lr_).at_ hlt
   have hbr:b<wr.heap.size:=by simp at hb;omega
   have hlv:=H30.out e (List.mem_of_getElem? he)
   obtain ⟨n1,hn1⟩:∃ n:Nat,e.lv=(n:Int):=⟨e.lv.toNat,by omega⟩
   have hn30:n1≤30:=by omega
   have hfl:=pfol_len (fun r hr=>(H30.out r hr).2) k
   have HE:Hid ((l.pp.take (k+1)).flatMap ppFol=(l.pp.take k).flatMap ppFol ++ (List.range n1).map fun i:Nat=>(e.id,(i:Int)+1)):=by show _=_;rw [take_pfol he,ppFol,hn1];simp
   obtain ⟨L0,hL0⟩:∃ L0,(l.pp.take k).flatMap ppFol=L0:=⟨_,rfl⟩
   rw [hL0] at hown hfl HE
   rw [hn1] at a1
   obtain ⟨eid,heid⟩:∃ d,e.id=d:=⟨_,rfl⟩
   rw [heid] at a0 HE
   obtain ⟨wo,hwo⟩:∃ wo,wo=wr:=⟨_,rfl⟩
   subst hwo
   have HB:=hd_ hB
   have HO:=hd_ hown
   clear he hB hL0 hown hlv hn1 heid
   go_wp2
   have HAA:=hd_ hA
   clear hA
   go_loopw [3,16] (fun v i wq=>∃ j:Nat,j≤n1∧i=.int .i64 j∧wq.ownsRow (w.heap.size+1) 48 2 v (L0.length+j) (folCells (L0 ++ (List.range j).map fun i:Nat=>(eid,(i:Int)+1)))∧Below (w.heap.size+1) wo wq∧wq.heap[wo.heap.size]?=some (.cells #[.int .i64 eid,.int .i64 n1] 38 (0,0))) (fun _ i _=>n1 - (intOf i).toNat)
   case atStart=>exact ⟨0,by omega,rfl,by simpa using HO.out.alloc _,by exact bel_,by simpa using World.alloc_heap_new wo _⟩
   case round =>
    obtain ⟨j,hj,rfl,hown,hQ,hbox⟩:=hrel
    have hBQ:Below (w.heap.size+1) (w.alloc (.cells #[.slice x.pA x.pn x.pc,.slice x.rA x.rn x.rc,.slice x.tA x.tn x.tc,.slice x.sA x.sn x.sc] 32)) wr:=HB.out.trans hQ
    have hbl:wo.heap.size<wr.heap.size:=(Array.getElem?_eq_some_iff.1 hbox).1
    have x2:wr.cell? ⟨wo.heap.size,0,none⟩=some (.int .i64 eid):=by simp [World.cell?,hbox]
    by_cases hjn:j<n1
    ·have HOI:=hd_ hown
     have HQ:=hd_ hQ
     have HBX:=hd_ hbox
     clear hQ hbox
     go_wp2_with (at_builtin;refine wpList_append_own _ rfl (.tmp 19) (.tmp 25) 44 rfl (w.heap.size+1) 48 i0 _ 2 16 Tryz.underlying44 hi hz0 hz1 hz2 rfl (by decide) _ _ _ rfl (hown.alloc _) ⟨wr.heap.size,0,none⟩ 1 1 [.int .i64 eid,.int .i64 ((j:Int)+1)] rfl rfl ?c1 ?c2 ?c3 ?c4 ?c5 ?_;rotate_left 5;intro v' w2 hown2 hgrow2 _)
     case c1=>intro j u hj;match j,hj with
      | 0,hj=>simp at hj;subst hj;simp [Addr.add]
      | 1,hj=>simp at hj;subst hj;simp [Addr.add]
     case c2=>simp [Value.oneCell']
     case c3=>unfold maxLen;omega
     case c4=>omega
     case c5=>simp;omega
     go_roundw
     case rel =>
      refine ⟨j+1,by omega,by go_num,?_,OwnS.below (by have:=HQ.out;exact bel_) HOI.out (by simp;omega) hgrow2,?_⟩
      ·have e1:folCells (L0 ++ (List.range (j+1)).map fun i:Nat=>(eid,(i:Int)+1))=folCells (L0 ++ (List.range j).map fun i:Nat=>(eid,(i:Int)+1)) ++ [.int .i64 eid,.int .i64 ((j:Int)+1)]:=by rw [List.range_succ];simp [folCells]
       rw [e1]
       exact hown2
      ·exact box_kept (W:=wr.alloc (.cells #[.int .i64 eid,.int .i64 ((j:Int)+1)] 48)) ((Below.heap_alloc _ _ _ hbl).trans HBX.out) HOI.out HBX.out (by decide) hgrow2
     case measure=>exact ms_
    ·have hjk:Hid (j=n1):=by show _=_;omega
     have HOI:=hd_ hown
     have HBQ:=hd_ hBQ
     clear hown hBQ hbox hQ
     go_wp2
     have hA:=HAA.out
     go_roundw
     case rel =>
      refine ⟨k+1,by omega,by go_num,?_,HBQ.out⟩
      rw [HE.out]
      have h:=HOI.out
      rw [hjk.out] at h
      rw [List.length_append,List.length_map,List.length_range]
      exact h
     case measure=>exact ms_
  ·have hkn:Hid (k=x.pn):=by show _=_;omega
   have HO:=hd_ hown
   have HB:=hd_ hB
   clear hown hB
   go_wp2
   go_ret
   refine ⟨_,rfl,(show Below w.heap.size w (w.alloc (.cells #[.slice x.pA x.pn x.pc,.slice x.rA x.rn x.rc,.slice x.tA x.tn x.tc,.slice x.sA x.sn x.sc] 32)) by exact bel_).trans (HB.out.mono (Nat.le_succ _)),?_⟩
   have h:=HO.out
   rw [hkn.out,List.take_of_length_le (by rw [HL1.out];exact lr_)] at h
   exact own_dn h (Nat.le_succ _)
def preE (l:Led) (ds:List Int):Int:=orL [errI (ledB l) 24,errI (daysOk ds) 6]
theorem pre_zero {l:Led} {ds:List Int} (h:preE l ds=0):ledB l=true∧daysOk ds=true:=by
 unfold preE at h
 cases h1:ledB l <;> cases h2:daysOk ds <;> simp_all [orL,errI]
structure OpnA (w:World) (a:Acc) (l:Led) (kn:Int):Prop where
 acc:AccR w a (opnL l kn).M (cntR l kn) (opnL l kn).P
 sg:Sgs w w.heap.size a.SA a.Sn (cntS l kn)
 tl:Sq QB 1 w w.heap.size a.TA a.Tn (opnL l kn).T
 pn:a.Pn=l.rt.length
 tn:a.Tn=l.rt.length
 sn:a.Sn≤60
 cs:a.Sn≤a.Sc∧a.Sc≤maxLen
theorem OpnA.now {w w':World} {a:Acc} {l:Led} {kn:Int} (h:OpnA w a l kn) (hb:Below w.heap.size w w'):OpnA w' a l kn:=⟨h.acc.now hb,h.sg.now abS hb,h.tl.now abB hb,h.pn,h.tn,h.sn,h.cs⟩
theorem p_openA (l:Led) (x:Lsl) (kn:Int) (w:World) (hlv:LedOk l) (hd:LedIn w w.heap.size x l) :
 Calls Tryz.prog 64 #[.agg #[.slice x.pA x.pn x.pc,.slice x.rA x.rn x.rc,.slice x.tA x.tn x.tc,.slice x.sA x.sn x.sc],.int .i64 kn] w fun e w'=>∃ RA Rn Rc SA Sn Sc bm TA Tn Tc PA Pn Pc,
  e=.returned (accV ⟨x,kn,RA,Rn,Rc,SA,Sn,Sc,bm,TA,Tn,Tc,PA,Pn,Pc⟩)∧Below w.heap.size w w'∧OpnA w' ⟨x,kn,RA,Rn,Rc,SA,Sn,Sc,bm,TA,Tn,Tc,PA,Pn,Pc⟩ l kn:=by
 refine (p_open l x kn w hlv hd).mono ?_
 rintro e w' ⟨⟨y,kn2,RA,Rn,Rc,SA,Sn,Sc,bm,TA,Tn,Tc,PA,Pn,Pc⟩,rfl,hb,hx,hk,hac,hsg,htl,hpn,htn,hsn,hcs⟩
 obtain rfl:y=x:=hx
 obtain rfl:kn2=kn:=hk
 have ht:l.rt.length=y.tn:=hd.t.len
 exact ⟨RA,Rn,Rc,SA,Sn,Sc,bm,TA,Tn,Tc,PA,Pn,Pc,rfl,hb,hac,hsg,htl,hpn.trans ht.symm,htn.trans ht.symm,hsn,hcs⟩
def setE (l:Led) (kn:Int):Int:=match dblR (opnL l kn).M (opnL l kn).P (cntR l kn),narL (opnL l kn).M (cntR l kn) (cntS l kn) (opnL l kn).P with
 | some _,_=>25
 | none,none=>27
 | none,some _=>0
def setP (l:Led) (kn:Int):List (Int × Int):=(narL (opnL l kn).M (cntR l kn) (cntS l kn) (opnL l kn).P).getD []
theorem cnt_sgs {l:Led} (h:LedOk l) (kn:Int):sgsOk (cntS l kn):=fun s hs=>h.sg s (List.mem_filter.1 hs).1
abbrev accC (a:Acc):Array Value:=#[.slice a.x.pA a.x.pn a.x.pc,.slice a.x.rA a.x.rn a.x.rc,.slice a.x.tA a.x.tn a.x.tc,.slice a.x.sA a.x.sn a.x.sc,.int .i64 a.kn,.slice a.RA a.Rn a.Rc,.slice a.SA a.Sn a.Sc,.map (some a.bm),.slice a.TA a.Tn a.Tc,.slice a.PA a.Pn a.Pc]
theorem AccR.settled {w1 ws:World} {a:Acc} {M:List ((Int × Int) × Nat)} {R:List Rcp} {P P':List (Int × Int)} {A:Option Addr} {c base:Nat} (h:AccR w1 a M R P) (hB:Below w1.heap.size w1 ws) (ho:ws.ownsRow base 133 2 (.slice A a.Pn c) a.Pn (folCells P')) (hl:P'.length=a.Pn):AccR ws { a with PA:=A,Pc:=c } M R P' :=
 ⟨h.m.ext hB,h.r.now abR hB,sq_of_own ho hl,h.nR,h.cR,h.okR,h.nP,(fun e=>by
   have e:A=none:=e
   subst e
   rcases ho.2 with ⟨h1,_⟩ | ⟨g,cap,cur,h1,_⟩
   ·injection h1
   ·cases h1),h.mP⟩
theorem p_settleN (l:Led) (kn:Int) (a:Acc) (v:Int) (w:World) (hl:LedOk l) (h:OpnA w a l kn) (hv:setE l kn=v) (h0:¬ v=0) :
 Calls Tryz.prog 73 #[.pointer (some ⟨w.heap.size,0,none⟩)] (w.alloc (.cells (accC a) 115)) fun e w'=>e=.returned (.int .i64 v)∧Below w.heap.size w w':=by
 have hb:Below w.heap.size w (w.alloc (.cells (accC a) 115)):=by exact bel_
 have hc:=p_settle (opnL l kn).M (cntR l kn) (opnL l kn).P (cntS l kn) a w.heap.size _ (h.acc.now hb) (cnt_sgs hl kn) (by have:=h.sn;omega) (h.sg.now abS hb) (BoxA.new w 115 (accC a))
 refine hc.mono fun e w' hr=>?_
 subst hv
 unfold setE at h0 ⊢
 cases hd:dblR (opnL l kn).M (opnL l kn).P (cntR l kn) with
 | some p =>
   rw [hd] at hr
   exact ⟨hr.1,bt_ hb hr.2⟩
 | none =>
   cases ho:narL (opnL l kn).M (cntR l kn) (cntS l kn) (opnL l kn).P with
   | none =>
     rw [hd,ho] at hr
     exact ⟨hr.1,bt_ hb hr.2⟩
   | some P' =>
     rw [hd,ho] at h0
     exact absurd rfl h0
theorem p_settle0 (l:Led) (kn:Int) (a:Acc) (w:World) (hl:LedOk l) (h:OpnA w a l kn) (hv:setE l kn=0) :
 Calls Tryz.prog 73 #[.pointer (some ⟨w.heap.size,0,none⟩)] (w.alloc (.cells (accC a) 115)) fun e w'=>∃ A c,e=.returned (.int .i64 0)∧Below w.heap.size w w'∧BoxA w' w.heap.size 115 (accC { a with PA:=A,Pc:=c }) ∧
  AccR w' { a with PA:=A,Pc:=c } (opnL l kn).M (cntR l kn) (setP l kn)∧(setP l kn).length=l.rt.length:=by
 have hb:Below w.heap.size w (w.alloc (.cells (accC a) 115)):=by exact bel_
 have hbox:=BoxA.new w 115 (accC a)
 have hc:=p_settle (opnL l kn).M (cntR l kn) (opnL l kn).P (cntS l kn) a w.heap.size _ (h.acc.now hb) (cnt_sgs hl kn) (by have:=h.sn;omega) (h.sg.now abS hb) hbox
 refine hc.mono fun e w' hr=>?_
 unfold setE at hv
 cases hd:dblR (opnL l kn).M (opnL l kn).P (cntR l kn) with
 | some p=>rw [hd] at hv;cases hv
 | none =>
   cases ho:narL (opnL l kn).M (cntR l kn) (cntS l kn) (opnL l kn).P with
   | none=>rw [hd,ho] at hv;cases hv
   | some P' =>
     rw [hd,ho] at hr
     obtain ⟨rfl,w1,A,c,hb1,ho1,hl1,rfl⟩:=hr
     have hsp:setP l kn=P':=by rw [setP,ho];rfl
     rw [hsp]
     have hB:Below w.heap.size w w1:=bt_ hb hb1
     have hB2:=hB.setCell (show w.heap.size≤(⟨w.heap.size,9,none⟩:Addr).block from lr_) (.slice A a.Pn c)
     have ho2:(w1.setCell ⟨w.heap.size,9,none⟩ (.slice A a.Pn c)).ownsRow (w.alloc (.cells (accC a) 115)).heap.size 133 2 (.slice A a.Pn c) a.Pn (folCells P'):=own_keep ho1 fun b hb9=>Below.heap_setCell _ _ _ _ (fun e=>by
      have:=own_le ho1 hb9
      simp only [World.size_alloc] at this
      have e:b=w.heap.size:=e
      omega)
     exact ⟨A,c,rfl,hB2,(hbox.ext hb1).set 9 _,h.acc.settled hB2 ho2 hl1,hl1.trans h.pn⟩
end Go.Proofs.YtmcmbicapdcfmaaGreat
