/- Layer 2 of the texts that LoanPlaces takes: Payq. -/
import Derived.Test.YtoiompoapikkbaaGreatPavq
import Derived.Test.YtoiompoapikkbaaGreatPaxq
set_option linter.unusedVariables false
set_option linter.unusedSimpArgs false
set_option maxHeartbeats 16000000
namespace Go.Proofs.YtoiompoapikkbaaGreat
open Go.RowKit Go.Maps
def preE (l:Led) (ds:List Int):Int:=orL [errI (ledB l) 24,errI (daysOk ds) 6]
theorem pre_zero {l:Led} {ds:List Int} (h:preE l ds=0):ledB l=true∧daysOk ds=true:=by
 unfold preE at h
 cases h1:ledB l <;> cases h2:daysOk ds <;> simp_all [orL,errI]
structure OpnA (w:World) (a:Acc) (l:Led) (kn:Int):Prop where
 acc:AccR w a (opnL l kn).M (cntR l kn) (opnL l kn).P
 sg:Sgs w w.heap.size a.SA a.Sn (cntS l kn)
 tl:Sq QB 1 w w.heap.size a.TA a.Tn (opnL l kn).T
 pn:a.Pn=l.rt.length
 tn:a.Tn=l.rt.length
 sn:a.Sn≤60
 cs:a.Sn≤a.Sc∧a.Sc≤maxLen
theorem OpnA.now {w w':World} {a:Acc} {l:Led} {kn:Int} (h:OpnA w a l kn) (hb:Below w.heap.size w w'):OpnA w' a l kn:=⟨h.acc.now hb,h.sg.now abS hb,h.tl.now abB hb,h.pn,h.tn,h.sn,h.cs⟩
theorem p_openA (l:Led) (x:Lsl) (kn:Int) (w:World) (hlv:LedOk l) (hd:LedIn w w.heap.size x l) :
 Calls Tryz.prog 101 #[.agg #[.slice x.pA x.pn x.pc,.slice x.rA x.rn x.rc,.slice x.tA x.tn x.tc,.slice x.sA x.sn x.sc],.int .i64 kn] w fun e w'=>∃ RA Rn Rc SA Sn Sc bm TA Tn Tc PA Pn Pc,
  e=.returned (accV ⟨x,kn,RA,Rn,Rc,SA,Sn,Sc,bm,TA,Tn,Tc,PA,Pn,Pc⟩)∧Below w.heap.size w w'∧OpnA w' ⟨x,kn,RA,Rn,Rc,SA,Sn,Sc,bm,TA,Tn,Tc,PA,Pn,Pc⟩ l kn:=by
 refine (p_open l x kn w hlv hd).mono ?_
 rintro e w' ⟨⟨y,kn2,RA,Rn,Rc,SA,Sn,Sc,bm,TA,Tn,Tc,PA,Pn,Pc⟩,rfl,hb,hx,hk,hac,hsg,htl,hpn,htn,hsn,hcs⟩
 obtain rfl:y=x:=hx
 obtain rfl:kn2=kn:=hk
 have ht:l.rt.length=y.tn:=hd.t.len
 exact ⟨RA,Rn,Rc,SA,Sn,Sc,bm,TA,Tn,Tc,PA,Pn,Pc,rfl,hb,hac,hsg,htl,hpn.trans ht.symm,htn.trans ht.symm,hsn,hcs⟩
def setE (l:Led) (kn:Int):Int:=match dblR (opnL l kn).M (opnL l kn).P (cntR l kn),narL (opnL l kn).M (cntR l kn) (cntS l kn) (opnL l kn).P with
 | some _,_=>25
 | none,none=>27
 | none,some _=>0
def setP (l:Led) (kn:Int):List (Int × Int):=(narL (opnL l kn).M (cntR l kn) (cntS l kn) (opnL l kn).P).getD []
theorem cnt_sgs {l:Led} (h:LedOk l) (kn:Int):sgsOk (cntS l kn):=fun s hs=>h.sg s (List.mem_filter.1 hs).1
abbrev accC (a:Acc):Array Value:=#[.slice a.x.pA a.x.pn a.x.pc,.slice a.x.rA a.x.rn a.x.rc,.slice a.x.tA a.x.tn a.x.tc,.slice a.x.sA a.x.sn a.x.sc,.int .i64 a.kn,.slice a.RA a.Rn a.Rc,.slice a.SA a.Sn a.Sc,.map (some a.bm),.slice a.TA a.Tn a.Tc,.slice a.PA a.Pn a.Pc]
theorem AccR.settled {w1 ws:World} {a:Acc} {M:List ((Int × Int) × Nat)} {R:List Rcp} {P P':List (Int × Int)} {A:Option Addr} {c base:Nat} (h:AccR w1 a M R P) (hB:Below w1.heap.size w1 ws) (ho:ws.ownsRow base 143 2 (.slice A a.Pn c) a.Pn (folCells P')) (hl:P'.length=a.Pn):AccR ws { a with PA:=A,Pc:=c } M R P' :=
 ⟨h.m.ext hB,h.r.now abR hB,sq_of_own ho hl,h.nR,h.cR,h.okR,h.nP,(fun e=>by
   have e:A=none:=e
   subst e
   rcases ho.2 with ⟨h1,_⟩ | ⟨g,cap,cur,h1,_⟩
   ·injection h1
   ·cases h1),h.mP⟩
theorem p_settleN (l:Led) (kn:Int) (a:Acc) (v:Int) (w:World) (hl:LedOk l) (h:OpnA w a l kn) (hv:setE l kn=v) (h0:¬ v=0) :
 Calls Tryz.prog 112 #[.pointer (some ⟨w.heap.size,0,none⟩)] (w.alloc (.cells (accC a) 119)) fun e w'=>e=.returned (.int .i64 v)∧Below w.heap.size w w':=by
 have hb:Below w.heap.size w (w.alloc (.cells (accC a) 119)):=by exact bel_
 have hc:=p_settle (opnL l kn).M (cntR l kn) (opnL l kn).P (cntS l kn) a w.heap.size _ (h.acc.now hb) (cnt_sgs hl kn) (by have:=h.sn;omega) (h.sg.now abS hb) (BoxA.new w 119 (accC a))
 refine hc.mono fun e w' hr=>?_
 subst hv
 unfold setE at h0 ⊢
 cases hd:dblR (opnL l kn).M (opnL l kn).P (cntR l kn) with
 | some p =>
   rw [hd] at hr
   exact ⟨hr.1,bt_ hb hr.2⟩
 | none =>
   cases ho:narL (opnL l kn).M (cntR l kn) (cntS l kn) (opnL l kn).P with
   | none =>
     rw [hd,ho] at hr
     exact ⟨hr.1,bt_ hb hr.2⟩
   | some P' =>
     rw [hd,ho] at h0
     exact absurd rfl h0
theorem p_settle0 (l:Led) (kn:Int) (a:Acc) (w:World) (hl:LedOk l) (h:OpnA w a l kn) (hv:setE l kn=0) :
 Calls Tryz.prog 112 #[.pointer (some ⟨w.heap.size,0,none⟩)] (w.alloc (.cells (accC a) 119)) fun e w'=>∃ A c,e=.returned (.int .i64 0)∧Below w.heap.size w w'∧BoxA w' w.heap.size 119 (accC { a with PA:=A,Pc:=c }) ∧
  AccR w' { a with PA:=A,Pc:=c } (opnL l kn).M (cntR l kn) (setP l kn)∧(setP l kn).length=l.rt.length:=by
 have hb:Below w.heap.size w (w.alloc (.cells (accC a) 119)):=by exact bel_
 have hbox:=BoxA.new w 119 (accC a)
 have hc:=p_settle (opnL l kn).M (cntR l kn) (opnL l kn).P (cntS l kn) a w.heap.size _ (h.acc.now hb) (cnt_sgs hl kn) (by have:=h.sn;omega) (h.sg.now abS hb) hbox
 refine hc.mono fun e w' hr=>?_
 unfold setE at hv
 cases hd:dblR (opnL l kn).M (opnL l kn).P (cntR l kn) with
 | some p=>rw [hd] at hv;cases hv
 | none =>
   cases ho:narL (opnL l kn).M (cntR l kn) (cntS l kn) (opnL l kn).P with
   | none=>rw [hd,ho] at hv;cases hv
   | some P' =>
     rw [hd,ho] at hr
     obtain ⟨rfl,w1,A,c,hb1,ho1,hl1,rfl⟩:=hr
     have hsp:setP l kn=P':=by rw [setP,ho];rfl
     rw [hsp]
     have hB:Below w.heap.size w w1:=bt_ hb hb1
     have hB2:=hB.setCell (show w.heap.size≤(⟨w.heap.size,9,none⟩:Addr).block from lr_) (.slice A a.Pn c)
     have ho2:(w1.setCell ⟨w.heap.size,9,none⟩ (.slice A a.Pn c)).ownsRow (w.alloc (.cells (accC a) 119)).heap.size 143 2 (.slice A a.Pn c) a.Pn (folCells P'):=own_keep ho1 fun b hb9=>Below.heap_setCell _ _ _ _ (fun e=>by
      have:=own_le ho1 hb9
      simp only [World.size_alloc] at this
      have e:b=w.heap.size:=e
      omega)
     exact ⟨A,c,rfl,hB2,(hbox.ext hb1).set 9 _,h.acc.settled hB2 ho2 hl1,hl1.trans h.pn⟩
def sgN (S:List Sgt) (kn:Int) (k:Nat):List Int:=((List.range k).filter fun i=>match S[i]? with | some s=>countsB s.kn s.un kn | none=>false).map fun (i:Nat)=>(i:Int)
theorem sgN_succ {S:List Sgt} {kn:Int} {k:Nat} {s:Sgt} (h:S[k]?=some s):sgN S kn (k+1)=sgN S kn k ++ (if countsB s.kn s.un kn then [(k:Int)] else []):=by
 rw [sgN,List.range_succ,List.filter_append,List.map_append]
 simp only [List.filter_cons,h,List.filter_nil]
 split <;> simp_all [sgN]
theorem sgN_len (S:List Sgt) (kn:Int) (k:Nat):(sgN S kn k).length≤k:=by
 rw [sgN,List.length_map]
 have h:=List.length_filter_le (fun i=>match S[i]? with | some s=>countsB s.kn s.un kn | none=>false) (List.range k)
 simpa using h
set_option maxRecDepth 10000 in
theorem r_sights (l:Led) (v:Vw) (w:World) (hn:v.x.sn≤1000000) (hd:LedIn w w.heap.size v.x l) :
 Calls Tryz.prog 110 #[vwV v] w (RetO (sgN l.sg v.kn l.sg.length) w):=by
 obtain ⟨⟨pA,pn,pc,rA,rn,rc,tA,tn,tc,sA,sn,sc⟩,kn,TA,Tn,Tc,DA,Dn,Dc⟩:=v
 show Calls _ _ #[.agg #[.slice pA pn pc,.slice rA rn rc,.slice tA tn tc,.slice sA sn sc,.int .i64 kn,.slice TA Tn Tc,.slice DA Dn Dc]] _ (RetO (sgN l.sg kn l.sg.length) w)
 obtain ⟨i0,hi,hz0,hz1,hz2⟩:=info_parts infoI2
 have hsn:sn≤1000000:=hn
 have HS:Hid (Sgs w w.heap.size sA sn l.sg):=by show Sq _ _ _ _ _ _ _;exact hd.s
 have hls:l.sg.length=sn:=hd.s.len
 rw [hls]
 clear hd hn hls
 go_enter Tryz.func110,Tryz.ntmps110
 go_wp2
 go_loopw [3,4] (fun u i wr=>∃ k:Nat,k≤sn∧i=.int .i64 k∧wr.ownsRow (w.heap.size+1) 3 1 u (sgN l.sg kn k).length (intL (sgN l.sg kn k))∧Below (w.heap.size+1) (w.alloc (.cells #[.slice pA pn pc,.slice rA rn rc,.slice tA tn tc,.slice sA sn sc,.int .i64 kn,.slice TA Tn Tc,.slice DA Dn Dc] 127)) wr) (fun _ i _=>sn - (intOf i).toNat)
 case atStart=>exact ⟨0,by omega,rfl,World.ownsRow_nil _ _ _ _,by exact bel_⟩
 case round =>
  obtain ⟨k,hk,rfl,hown,hB⟩:=hrel
  have hs0:w.heap.size+1≤wr.heap.size:=by have h:=hB.size;simp at h;omega
  have bV:BoxA wr w.heap.size 127 #[.slice pA pn pc,.slice rA rn rc,.slice tA tn tc,.slice sA sn sc,.int .i64 kn,.slice TA Tn Tc,.slice DA Dn Dc]:=BoxA.ext (BoxA.new w _ _) (by simpa using hB)
  have kV:=bV.cell
  have zV:=bV.lt
  have hBw:Below w.heap.size w wr:=Below.trans (by exact bel_) (hB.mono (Nat.le_succ _))
  by_cases hlt:k<sn
  ·obtain ⟨b,o,e,rfl,hb,he,hq⟩:=(Sq.ext HS.out abS hBw lr_).at_ hlt
   obtain ⟨a0,a1,a2,a3,a4,a5,a6⟩:=hq
   have hbr:b<wr.heap.size:=by omega
   have HX:=hd_ (sgN_succ (kn:=kn) he)
   have hlk:=sgN_len l.sg kn k
   have HO:=hd_ hown
   have HB:=hd_ hB
   clear he hB bV
   cases hc:countsB e.kn e.un kn with
   | false =>
     have HC:=hd_ hc
     have HE:Hid (sgN l.sg kn (k+1)=sgN l.sg kn k):=by show _=_;rw [HX.out,hc];simp
     clear hc hown
     go_wp2_with fail
     (refine rg_ ?_;(repeat (go_big_quiet_step ((first | (go_at_call 164;exact Calls.grow_same (r_counts2_v _ _ _ false _ HC.out))))));refine qn_ fun w1 hb1 hc1 hf1=>?_)
     go_wp2_with fail
     go_roundw
     case rel=>exact ⟨k+1,by omega,by go_num,by rw [HE.out];exact own_ext HO.out (hb1.mono (by omega)),HB.out.trans (hb1.mono (by omega))⟩
     case measure=>exact ms_
   | true =>
     have HC:=hd_ hc
     have HE:Hid (sgN l.sg kn (k+1)=sgN l.sg kn k ++ [(k:Int)]):=by show _=_;rw [HX.out,hc];simp
     clear hc hown
     go_wp2_with fail
     (refine rg_ ?_;(repeat (go_big_quiet_step ((first | (go_at_call 164;exact Calls.grow_same (r_counts2_v _ _ _ true _ HC.out))))));refine qn_ fun w1 hb1 hc1 hf1=>?_)
     have hown:=own_ext HO.out hb1
     have HO1:=hd_ hown
     go_wp2_with (at_builtin;refine wpList_append_own _ rfl (.tmp 30) (.tmp 32) 30 rfl (w.heap.size+1) 3 i0 _ 1 8 Tryz.underlying30 hi hz0 hz1 hz2 rfl (by decide) _ _ _ rfl (hown.alloc _) ⟨w1.heap.size,0,none⟩ 1 1 [.int .i64 k] rfl rfl ?c1 ?c2 ?c3 ?c4 ?c5 ?_;rotate_left 5;intro v' w2 hown2 hgrow2 _)
     case c1=>intro j u hj;match j,hj with | 0,hj=>simp at hj;subst hj;simp [Addr.add]
     case c2=>simp [Value.oneCell']
     case c3=>unfold maxLen;omega
     case c4=>omega
     case c5=>have hz:=hb1.size;simp;omega
     go_roundw
     case rel =>
      have hq:=HB.out.trans (hb1.mono (by omega))
      have hz:=hb1.size
      exact ⟨k+1,by omega,by go_num,by rw [HE.out];simpa [intL] using hown2,OwnB.below (by exact bel_) HO1.out (by simp;omega) hgrow2⟩
     case measure=>exact ms_
  ·obtain rfl:k=sn:=by omega
   go_wp2
   go_ret
   exact ⟨_,rfl,hBw,own_dn hown (Nat.le_succ _)⟩
end Go.Proofs.YtoiompoapikkbaaGreat
