/- Layer 2 of the texts that the statements over histories take: Pazq. -/
import Derived.Test.YtmcmbicapdcfmaaGreatPawq
import Derived.Test.YtmcmbicapdcfmaaGreatPayq
set_option linter.unusedVariables false
set_option linter.unusedSimpArgs false
set_option maxHeartbeats 16000000
namespace Go.Proofs.YtmcmbicapdcfmaaGreat
open Go.RowKit Go.Maps
def preE (l:Led) (ds:List Int):Int:=orL [errI (ledB l) 24,errI (daysOk ds) 6]
theorem pre_zero {l:Led} {ds:List Int} (h:preE l ds=0):ledB l=true∧daysOk ds=true:=by
 unfold preE at h
 cases h1:ledB l <;> cases h2:daysOk ds <;> simp_all [orL,errI]
structure OpnA (w:World) (a:Acc) (l:Led) (kn:Int):Prop where
 acc:AccR w a (opnL l kn).M (cntR l kn) (opnL l kn).P
 sg:Sgs w w.heap.size a.SA a.Sn (cntS l kn)
 tl:Sq QB 1 w w.heap.size a.TA a.Tn (opnL l kn).T
 pn:a.Pn=l.rt.length
 tn:a.Tn=l.rt.length
 sn:a.Sn≤60
 cs:a.Sn≤a.Sc∧a.Sc≤maxLen
theorem OpnA.now {w w':World} {a:Acc} {l:Led} {kn:Int} (h:OpnA w a l kn) (hb:Below w.heap.size w w'):OpnA w' a l kn:=⟨h.acc.now hb,h.sg.now abS hb,h.tl.now abB hb,h.pn,h.tn,h.sn,h.cs⟩
theorem p_openA (l:Led) (x:Lsl) (kn:Int) (w:World) (hlv:LedOk l) (hd:LedIn w w.heap.size x l) :
 Calls Tryz.prog 64 #[.agg #[.slice x.pA x.pn x.pc,.slice x.rA x.rn x.rc,.slice x.tA x.tn x.tc,.slice x.sA x.sn x.sc],.int .i64 kn] w fun e w'=>∃ RA Rn Rc SA Sn Sc bm TA Tn Tc PA Pn Pc,
  e=.returned (accV ⟨x,kn,RA,Rn,Rc,SA,Sn,Sc,bm,TA,Tn,Tc,PA,Pn,Pc⟩)∧Below w.heap.size w w'∧OpnA w' ⟨x,kn,RA,Rn,Rc,SA,Sn,Sc,bm,TA,Tn,Tc,PA,Pn,Pc⟩ l kn:=by
 refine (p_open l x kn w hlv hd).mono ?_
 rintro e w' ⟨⟨y,kn2,RA,Rn,Rc,SA,Sn,Sc,bm,TA,Tn,Tc,PA,Pn,Pc⟩,rfl,hb,hx,hk,hac,hsg,htl,hpn,htn,hsn,hcs⟩
 obtain rfl:y=x:=hx
 obtain rfl:kn2=kn:=hk
 have ht:l.rt.length=y.tn:=hd.t.len
 exact ⟨RA,Rn,Rc,SA,Sn,Sc,bm,TA,Tn,Tc,PA,Pn,Pc,rfl,hb,hac,hsg,htl,hpn.trans ht.symm,htn.trans ht.symm,hsn,hcs⟩
def setE (l:Led) (kn:Int):Int:=match dblR (opnL l kn).M (opnL l kn).P (cntR l kn),narL (opnL l kn).M (cntR l kn) (cntS l kn) (opnL l kn).P with
 | some _,_=>25
 | none,none=>27
 | none,some _=>0
def setP (l:Led) (kn:Int):List (Int × Int):=(narL (opnL l kn).M (cntR l kn) (cntS l kn) (opnL l kn).P).getD []
theorem cnt_sgs {l:Led} (h:LedOk l) (kn:Int):sgsOk (cntS l kn):=fun s hs=>h.sg s (List.mem_filter.1 hs).1
abbrev accC (a:Acc):Array Value:=#[.slice a.x.pA a.x.pn a.x.pc,.slice a.x.rA a.x.rn a.x.rc,.slice a.x.tA a.x.tn a.x.tc,.slice a.x.sA a.x.sn a.x.sc,.int .i64 a.kn,.slice a.RA a.Rn a.Rc,.slice a.SA a.Sn a.Sc,.map (some a.bm),.slice a.TA a.Tn a.Tc,.slice a.PA a.Pn a.Pc]
theorem AccR.settled {w1 ws:World} {a:Acc} {M:List ((Int × Int) × Nat)} {R:List Rcp} {P P':List (Int × Int)} {A:Option Addr} {c base:Nat} (h:AccR w1 a M R P) (hB:Below w1.heap.size w1 ws) (ho:ws.ownsRow base 133 2 (.slice A a.Pn c) a.Pn (folCells P')) (hl:P'.length=a.Pn):AccR ws { a with PA:=A,Pc:=c } M R P' :=
 ⟨h.m.ext hB,h.r.now abR hB,sq_of_own ho hl,h.nR,h.cR,h.okR,h.nP,(fun e=>by
   have e:A=none:=e
   subst e
   rcases ho.2 with ⟨h1,_⟩ | ⟨g,cap,cur,h1,_⟩
   ·injection h1
   ·cases h1),h.mP⟩
theorem p_settleN (l:Led) (kn:Int) (a:Acc) (v:Int) (w:World) (hl:LedOk l) (h:OpnA w a l kn) (hv:setE l kn=v) (h0:¬ v=0) :
 Calls Tryz.prog 73 #[.pointer (some ⟨w.heap.size,0,none⟩)] (w.alloc (.cells (accC a) 115)) fun e w'=>e=.returned (.int .i64 v)∧Below w.heap.size w w':=by
 have hb:Below w.heap.size w (w.alloc (.cells (accC a) 115)):=by exact bel_
 have hc:=p_settle (opnL l kn).M (cntR l kn) (opnL l kn).P (cntS l kn) a w.heap.size _ (h.acc.now hb) (cnt_sgs hl kn) (by have:=h.sn;omega) (h.sg.now abS hb) (BoxA.new w 115 (accC a))
 refine hc.mono fun e w' hr=>?_
 subst hv
 unfold setE at h0 ⊢
 cases hd:dblR (opnL l kn).M (opnL l kn).P (cntR l kn) with
 | some p =>
   rw [hd] at hr
   exact ⟨hr.1,bt_ hb hr.2⟩
 | none =>
   cases ho:narL (opnL l kn).M (cntR l kn) (cntS l kn) (opnL l kn).P with
   | none =>
     rw [hd,ho] at hr
     exact ⟨hr.1,bt_ hb hr.2⟩
   | some P' =>
     rw [hd,ho] at h0
     exact absurd rfl h0
theorem p_settle0 (l:Led) (kn:Int) (a:Acc) (w:World) (hl:LedOk l) (h:OpnA w a l kn) (hv:setE l kn=0) :
 Calls Tryz.prog 73 #[.pointer (some ⟨w.heap.size,0,none⟩)] (w.alloc (.cells (accC a) 115)) fun e w'=>∃ A c,e=.returned (.int .i64 0)∧Below w.heap.size w w'∧BoxA w' w.heap.size 115 (accC { a with PA:=A,Pc:=c }) ∧
  AccR w' { a with PA:=A,Pc:=c } (opnL l kn).M (cntR l kn) (setP l kn)∧(setP l kn).length=l.rt.length:=by
 have hb:Below w.heap.size w (w.alloc (.cells (accC a) 115)):=by exact bel_
 have hbox:=BoxA.new w 115 (accC a)
 have hc:=p_settle (opnL l kn).M (cntR l kn) (opnL l kn).P (cntS l kn) a w.heap.size _ (h.acc.now hb) (cnt_sgs hl kn) (by have:=h.sn;omega) (h.sg.now abS hb) hbox
 refine hc.mono fun e w' hr=>?_
 unfold setE at hv
 cases hd:dblR (opnL l kn).M (opnL l kn).P (cntR l kn) with
 | some p=>rw [hd] at hv;cases hv
 | none =>
   cases ho:narL (opnL l kn).M (cntR l kn) (cntS l kn) (opnL l kn).P with
   | none=>rw [hd,ho] at hv;cases hv
   | some P' =>
     rw [hd,ho] at hr
     obtain ⟨rfl,w1,A,c,hb1,ho1,hl1,rfl⟩:=hr
     have hsp:setP l kn=P':=by rw [setP,ho];rfl
     rw [hsp]
     have hB:Below w.heap.size w w1:=bt_ hb hb1
     have hB2:=hB.setCell (show w.heap.size≤(⟨w.heap.size,9,none⟩:Addr).block from lr_) (.slice A a.Pn c)
     have ho2:(w1.setCell ⟨w.heap.size,9,none⟩ (.slice A a.Pn c)).ownsRow (w.alloc (.cells (accC a) 115)).heap.size 133 2 (.slice A a.Pn c) a.Pn (folCells P'):=own_keep ho1 fun b hb9=>Below.heap_setCell _ _ _ _ (fun e=>by
      have:=own_le ho1 hb9
      simp only [World.size_alloc] at this
      have e:b=w.heap.size:=e
      omega)
     exact ⟨A,c,rfl,hB2,(hbox.ext hb1).set 9 _,h.acc.settled hB2 ho2 hl1,hl1.trans h.pn⟩
end Go.Proofs.YtmcmbicapdcfmaaGreat
