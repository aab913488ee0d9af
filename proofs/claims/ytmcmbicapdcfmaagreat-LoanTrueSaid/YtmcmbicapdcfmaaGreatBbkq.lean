/- Layer 2 of the texts that LoanBack takes: Bbkq. -/
import Derived.Test.YtmcmbicapdcfmaaGreatBbbq
set_option linter.unusedVariables false
set_option linter.unusedSimpArgs false
set_option maxHeartbeats 16000000
namespace Go.Proofs.YtmcmbicapdcfmaaGreat
open Go.RowKit Go.Maps
theorem tellK_len (l:Led) (kn:Int):∀ k,(tellK l kn k).length=l.rt.length
 | 0=>by simp [tellK]
 | k+1=>by
   rw [tellK]
   split
   ·exact tellK_len l kn k
   ·rw [List.length_set];exact tellK_len l kn k
theorem tellK_ge {l:Led} {kn:Int} {k j:Nat} (hk:k≤l.rt.length) (hj:k≤j) (hl:j<l.rt.length):(tellK l kn k)[j]?=some false:=by
 rw [← tell_opn l kn k hk]
 exact (opn_inv kn (cntR l kn) l.rt k hk).2 j hj hl
theorem tellK_set {l:Led} {kn:Int} {k:Nat} {t:Rtn} {b:Bool} (h:l.rt[k]?=some t) (hb:tellB l kn (tellK l kn k) k t=b):tellK l kn (k+1)=(tellK l kn k).set k b:=by
 rw [tellK,h,← hb]
theorem tellK_no {l:Led} {kn:Int} {k:Nat} {t:Rtn} (h:l.rt[k]?=some t) (hb:tellB l kn (tellK l kn k) k t=false):tellK l kn (k+1)=tellK l kn k:=by
 have hlt:k<l.rt.length:=(List.getElem?_eq_some_iff.1 h).1
 have hg:(tellK l kn k)[k]?=some false:=tellK_ge (by omega) lr_ hlt
 rw [tellK_set h hb,eq_comm,← (List.getElem?_eq_some_iff.1 hg).2,List.set_getElem_self]
theorem fineB_succ {T:List Bool} {rt:List Rtn} {i:Nat} {t:Rtn} {r:Rcp} {lv:List Int} {k:Nat} {y:Int} (h:lv[k]?=some y):fineB T rt i t r (lv.take (k+1))=(fineB T rt i t r (lv.take k) && (decide (y∈r.lv) && !((T.zip rt).take i).any (rtAt t.rcp y))):=by
 rw [take_snoc_some h,fineB,List.all_append]
 simp [fineB]
theorem tellB_some {l:Led} {kn:Int} {T:List Bool} {i ix:Nat} {t:Rtn} {r:Rcp} (h1:rcIx l.rc t.rcp kn=some ix) (h2:l.rc[ix]?=some r):tellB l kn T i t=(countsB t.kn t.un kn && (!decide (t.hi<max t.lo (r.day+1)) && fineB T l.rt i t r t.lv)):=by
 rw [tellB,h1]
 dsimp only
 rw [h2]
theorem tellB_none {l:Led} {kn:Int} {T:List Bool} {i:Nat} {t:Rtn} (h1:rcIx l.rc t.rcp kn=none):tellB l kn T i t=false:=by
 rw [tellB,h1]
theorem rcIx_some {l:Led} {src kn:Int} {ix:Nat} (h:rcIx l.rc src kn=some ix):∃ r,l.rc[ix]?=some r∧r.src=src∧countsB r.kn r.un kn=true:=by
 obtain ⟨hl,hp,_⟩:=List.findIdx?_eq_some_iff_getElem.1 h
 simp only [rcAt,Bool.and_eq_true,decide_eq_true_eq] at hp
 exact ⟨_,List.getElem?_eq_getElem hl,hp.1,hp.2⟩
theorem r_receiptOf_v (l:Led) (x:Lsl) (src kn v:Int) (w:World) (hn:x.rn≤1000000) (hd:LedIn w w.heap.size x l) (h:ixI (rcIx l.rc src kn)=v) :
 Calls Tryz.prog 39 #[.agg #[.slice x.pA x.pn x.pc,.slice x.rA x.rn x.rc,.slice x.tA x.tn x.tc,.slice x.sA x.sn x.sc],.int .i64 src,.int .i64 kn] w fun e w'=>e=.returned (.int .i64 v)∧Below w.heap.size w w':=h ▸ r_receiptOf l x src kn w hn hd
theorem r_earliest_v (t:Rtn) (r:Rcp) (m:Int) (A B:Option Addr) (n c n2 c2:Nat) (w:World) (hd:0≤r.day) (hd2:r.day≤1000000) (h:max t.lo (r.day+1)=m) :
 Calls Tryz.prog 102 #[.agg #[.int .i64 t.src,.int .i64 t.rcp,.int .i64 t.per,.slice A n c,.int .i64 t.lo,.int .i64 t.hi,.int .i64 t.kn,.int .i64 t.un],.agg #[.int .i64 r.src,.int .i64 r.bor,.int .i64 r.pap,.slice B n2 c2,.int .i64 r.day,.int .i64 r.kn,.int .i64 r.un]] w fun e w'=>e=.returned (.int .i64 m)∧Below w.heap.size w w':=h ▸ r_earliest t r A B n c n2 c2 w hd hd2
def RetTl (l:Led) (kn:Int) (n:Nat) (w:World) (e:Ending) (w':World):Prop:=∃ B c,e=.returned (.slice (some ⟨B,0,none⟩) n c)∧Below w.heap.size w w'∧BoxA w' B 4 (boolL (tellK l kn l.rt.length)).toArray∧w.heap.size≤B
set_option maxRecDepth 10000 in
theorem r_telling (l:Led) (x:Lsl) (kn:Int) (w:World) (hl:LedOk l) (hd:LedIn w w.heap.size x l) :
 Calls Tryz.prog 40 #[.agg #[.slice x.pA x.pn x.pc,.slice x.rA x.rn x.rc,.slice x.tA x.tn x.tc,.slice x.sA x.sn x.sc],.int .i64 kn] w (RetTl l kn x.tn w):=by
 obtain ⟨pA,pn,pc,rA,rn,rc,tA,tn,tc,sA,sn,sc⟩:=x
 show Calls _ _ #[.agg #[.slice pA pn pc,.slice rA rn rc,.slice tA tn tc,.slice sA sn sc],_] _ (RetTl l kn tn w)
 have HR:Hid (Rcs w w.heap.size rA rn l.rc):=by show Sq _ _ _ _ _ _ _;exact hd.r
 have HT:Hid (Rts w w.heap.size tA tn l.rt):=by show Sq _ _ _ _ _ _ _;exact hd.t
 have hrn6:rn≤1000000:=by have h:=HR.out.len;have h2:=hl.rn;omega
 have htn:tn≤60:=by have h:=HT.out.len;have h2:=hl.tn;omega
 have HTL:Hid (l.rt.length=tn):=by show _=_;exact HT.out.len
 have HRL:Hid (l.rc.length=rn):=by show _=_;exact HR.out.len
 have HD:=hd_ hd
 have HLO:=hd_ hl
 have hmb:=make_bool tn (by omega)
 clear hd hl
 go_enter Tryz.func40,Tryz.ntmps40
 go_wp2
 go_loopw [6] (fun i wr=>∃ k:Nat,k≤tn∧i=.int .i64 k∧Below w.heap.size w wr∧BoxA wr w.heap.size 32 #[.slice pA pn pc,.slice rA rn rc,.slice tA tn tc,.slice sA sn sc]∧BoxA wr (w.heap.size+1) 4 (boolL (tellK l kn k)).toArray) (fun i _=>tn - (intOf i).toNat)
 case atStart =>
  refine ⟨0,by omega,rfl,by exact bel_,(BoxA.new _ _ _).alloc _,?_⟩
  have h:=BoxA.new (w.alloc (.cells #[.slice pA pn pc,.slice rA rn rc,.slice tA tn tc,.slice sA sn sc] 32)) 4 (boolL (List.replicate tn false)).toArray
  rw [World.size_alloc] at h
  rw [tellK,HTL.out]
  exact h
 case round =>
  obtain ⟨k,hk,rfl,hB,bL,bT⟩:=hrel
  obtain ⟨wz,rfl⟩:∃ wz,wz=wr:=⟨_,rfl⟩
  have hs0:=hB.size
  have kL:=bL.cell
  have zL:=bL.lt
  have zT:=bT.lt
  by_cases hlt:k<tn
  ·obtain ⟨bt,ot,t,rfl,hbt,hx,A2,n2,c2,⟨h0,h1,h2,h3,h4,h5,h6,h7⟩,hi1,hc1,hm1⟩:=HT.out.at_ hlt
   have e0:=(hB.cell (p:=⟨bt,ot+k*8,none⟩) hbt).trans h0
   have e1:=(hB.cell (p:=⟨bt,ot+k*8+1,none⟩) hbt).trans h1
   have e2:=(hB.cell (p:=⟨bt,ot+k*8+2,none⟩) hbt).trans h2
   have e3:=(hB.cell (p:=⟨bt,ot+k*8+3,none⟩) hbt).trans h3
   have e4:=(hB.cell (p:=⟨bt,ot+k*8+4,none⟩) hbt).trans h4
   have e5:=(hB.cell (p:=⟨bt,ot+k*8+5,none⟩) hbt).trans h5
   have e6:=(hB.cell (p:=⟨bt,ot+k*8+6,none⟩) hbt).trans h6
   have e7:=(hB.cell (p:=⟨bt,ot+k*8+7,none⟩) hbt).trans h7
   have hbtr:bt<wz.heap.size:=by omega
   have hn2:n2≤9223372036854775807:=by have:maxLen≤9223372036854775807:=(by decide);omega
   have HX:=hd_ hx
   clear hx h0 h1 h2 h3 h4 h5 h6 h7
   cases hq:rcIx l.rc t.rcp kn with
   | none =>
     have HQ:Hid (ixI (rcIx l.rc t.rcp kn)=-1):=by show _=_;rw [hq];rfl
     have HN:Hid (tellK l kn (k+1)=tellK l kn k):=by show _=_;exact tellK_no HX.out (tellB_none hq)
     clear hq
     go_wp2_with (go_at_call 39;refine (r_receiptOf_v l ⟨pA,pn,pc,rA,rn,rc,some ⟨bt,ot,none⟩,tn,tc,sA,sn,sc⟩ t.rcp kn (-1) _ hrn6 (HD.out.now (by exact bel_)) HQ.out).mono ?_;rintro e w5 ⟨rfl,hb5⟩;have HB5:Below w.heap.size w w5:=bt_ (by exact bel_) hb5;have hs5:=HB5.size;have bR5:=(BoxA.new wz 75 #[.int .i64 t.src,.int .i64 t.rcp,.int .i64 t.per,.slice A2 n2 c2,.int .i64 t.lo,.int .i64 t.hi,.int .i64 t.kn,.int .i64 t.un]).ext hb5;have kR5:=bR5.cell;have zR5:=bR5.lt;have bL5:=(bL.alloc _).ext hb5;have kL5:=bL5.cell;have zL5:=bL5.lt;have bT5:=(bT.alloc _).ext hb5;clear kL zL)
     (refine rg_ ?_;(repeat (go_big_quiet_step (fail)));refine qn_ fun w1 hb1 hc1 hf1=>?_)
     go_wp2_with fail
     go_roundw
     case rel=>exact ⟨k+1,by omega,by go_num,HB5.trans (hb1.mono (by omega)),bL5.ext hb1,by rw [HN.out];exact bT5.ext hb1⟩
     case measure=>exact ms_
   | some ix =>
     obtain ⟨r,hr,hrs,hrc⟩:=rcIx_some hq
     have hix:ix<rn:=by rw [← HRL.out];exact (List.getElem?_eq_some_iff.1 hr).1
     obtain ⟨br,or_,r',rfl,hbr,hrx,A1,n1,c1,⟨g0,g1,g2,g3,g4,g5,g6⟩,gi,gc,gm⟩:=HR.out.at_ hix
     obtain rfl:r=r':=Option.some.inj (hr.symm.trans hrx)
     have hn1:n1≤9223372036854775807:=by have:maxLen≤9223372036854775807:=(by decide);omega
     have hday:=(HLO.out.rc r (List.mem_of_getElem? hr)).2.2.2
     have hd1:0≤r.day:=hday.1
     have hd2:r.day≤1000000:=by omega
     have HTB:Hid (∀ T i,tellB l kn T i t=(countsB t.kn t.un kn && (!decide (t.hi<max t.lo (r.day+1)) && fineB T l.rt i t r t.lv))):=by show ∀ _,_;exact fun T i=>tellB_some hq hr
     have HQ:Hid (ixI (rcIx l.rc t.rcp kn)=(ix:Int)):=by show _=_;rw [hq];rfl
     have hixn:decide ((ix:Int)<0)=false:=by simp
     clear hq hr hrx hday hrs hrc
     cases hcn:countsB t.kn t.un kn with
     | false =>
       have HN:Hid (tellK l kn (k+1)=tellK l kn k):=by show _=_;exact tellK_no HX.out (by rw [HTB.out,hcn];rfl)
       have HC:=hd_ hcn
       clear hcn
       go_wp2_with (go_at_call 39;refine (r_receiptOf_v l ⟨pA,pn,pc,some ⟨br,or_,none⟩,rn,rc,some ⟨bt,ot,none⟩,tn,tc,sA,sn,sc⟩ t.rcp kn (ix) _ hrn6 (HD.out.now (by exact bel_)) HQ.out).mono ?_;rintro e w5 ⟨rfl,hb5⟩;have HB5:Below w.heap.size w w5:=bt_ (by exact bel_) hb5;have hs5:=HB5.size;have bR5:=(BoxA.new wz 75 #[.int .i64 t.src,.int .i64 t.rcp,.int .i64 t.per,.slice A2 n2 c2,.int .i64 t.lo,.int .i64 t.hi,.int .i64 t.kn,.int .i64 t.un]).ext hb5;have kR5:=bR5.cell;have zR5:=bR5.lt;have bL5:=(bL.alloc _).ext hb5;have kL5:=bL5.cell;have zL5:=bL5.lt;have bT5:=(bT.alloc _).ext hb5;clear kL zL;have hbr5:br<w5.heap.size:=(by omega);have d0:=(HB5.cell (p:=⟨br,or_+ix*7,none⟩) hbr).trans g0;have d1:=(HB5.cell (p:=⟨br,or_+ix*7+1,none⟩) hbr).trans g1;have d2:=(HB5.cell (p:=⟨br,or_+ix*7+2,none⟩) hbr).trans g2;have d3:=(HB5.cell (p:=⟨br,or_+ix*7+3,none⟩) hbr).trans g3;have d4:=(HB5.cell (p:=⟨br,or_+ix*7+4,none⟩) hbr).trans g4;have d5:=(HB5.cell (p:=⟨br,or_+ix*7+5,none⟩) hbr).trans g5;have d6:=(HB5.cell (p:=⟨br,or_+ix*7+6,none⟩) hbr).trans g6)
       (refine rg_ ?_;(repeat (go_big_quiet_step ((first | (go_at_call 101;exact Calls.grow_same (r_counts2_v _ _ _ false _ HC.out))))));refine qn_ fun w1 hb1 hc1 hf1=>?_)
       go_wp2_with fail
       go_roundw
       case rel=>exact ⟨k+1,by omega,by go_num,HB5.trans (hb1.mono (by omega)),bL5.ext hb1,by rw [HN.out];exact bT5.ext hb1⟩
       case measure=>exact ms_
     | true =>
       obtain ⟨mx,hmx⟩:∃ mx,max t.lo (r.day+1)=mx:=⟨_,rfl⟩
       cases hgt:decide (mx>t.hi) with
       | true =>
         have HN:Hid (tellK l kn (k+1)=tellK l kn k):=by show _=_;exact tellK_no HX.out (by rw [HTB.out,hmx,show decide (t.hi<mx)=true from hgt];simp)
         have HC:=hd_ hcn
         have HMX:=hd_ hmx
         clear hcn hmx
         go_wp2_with (go_at_call 39;refine (r_receiptOf_v l ⟨pA,pn,pc,some ⟨br,or_,none⟩,rn,rc,some ⟨bt,ot,none⟩,tn,tc,sA,sn,sc⟩ t.rcp kn (ix) _ hrn6 (HD.out.now (by exact bel_)) HQ.out).mono ?_;rintro e w5 ⟨rfl,hb5⟩;have HB5:Below w.heap.size w w5:=bt_ (by exact bel_) hb5;have hs5:=HB5.size;have bR5:=(BoxA.new wz 75 #[.int .i64 t.src,.int .i64 t.rcp,.int .i64 t.per,.slice A2 n2 c2,.int .i64 t.lo,.int .i64 t.hi,.int .i64 t.kn,.int .i64 t.un]).ext hb5;have kR5:=bR5.cell;have zR5:=bR5.lt;have bL5:=(bL.alloc _).ext hb5;have kL5:=bL5.cell;have zL5:=bL5.lt;have bT5:=(bT.alloc _).ext hb5;clear kL zL;have hbr5:br<w5.heap.size:=(by omega);have d0:=(HB5.cell (p:=⟨br,or_+ix*7,none⟩) hbr).trans g0;have d1:=(HB5.cell (p:=⟨br,or_+ix*7+1,none⟩) hbr).trans g1;have d2:=(HB5.cell (p:=⟨br,or_+ix*7+2,none⟩) hbr).trans g2;have d3:=(HB5.cell (p:=⟨br,or_+ix*7+3,none⟩) hbr).trans g3;have d4:=(HB5.cell (p:=⟨br,or_+ix*7+4,none⟩) hbr).trans g4;have d5:=(HB5.cell (p:=⟨br,or_+ix*7+5,none⟩) hbr).trans g5;have d6:=(HB5.cell (p:=⟨br,or_+ix*7+6,none⟩) hbr).trans g6)
         (refine rg_ ?_;(repeat (go_big_quiet_step ((first | (go_at_call 101;exact Calls.grow_same (r_counts2_v _ _ _ true _ HC.out)) | (go_at_call 102;exact Calls.grow_of (r_earliest_v t r mx A2 A1 n2 c2 n1 c1 _ hd1 hd2 HMX.out))))));refine qn_ fun w1 hb1 hc1 hf1=>?_)
         go_wp2_with fail
         go_roundw
         case rel=>exact ⟨k+1,by omega,by go_num,HB5.trans (hb1.mono (by omega)),bL5.ext hb1,by rw [HN.out];exact bT5.ext hb1⟩
         case measure=>exact ms_
       | false =>
         have HN:Hid (tellK l kn (k+1)=(tellK l kn k).set k (fineB (tellK l kn k) l.rt k t r t.lv)):=by show _=_;exact tellK_set HX.out (by rw [HTB.out,hcn,hmx,show decide (t.hi<mx)=false from hgt];simp)
         have HC:=hd_ hcn
         have HMX:=hd_ hmx
         clear hcn hmx
         go_wp2_with (go_at_call 39;refine (r_receiptOf_v l ⟨pA,pn,pc,some ⟨br,or_,none⟩,rn,rc,some ⟨bt,ot,none⟩,tn,tc,sA,sn,sc⟩ t.rcp kn (ix) _ hrn6 (HD.out.now (by exact bel_)) HQ.out).mono ?_;rintro e w5 ⟨rfl,hb5⟩;have HB5:Below w.heap.size w w5:=bt_ (by exact bel_) hb5;have hs5:=HB5.size;have bR5:=(BoxA.new wz 75 #[.int .i64 t.src,.int .i64 t.rcp,.int .i64 t.per,.slice A2 n2 c2,.int .i64 t.lo,.int .i64 t.hi,.int .i64 t.kn,.int .i64 t.un]).ext hb5;have kR5:=bR5.cell;have zR5:=bR5.lt;have bL5:=(bL.alloc _).ext hb5;have kL5:=bL5.cell;have zL5:=bL5.lt;have bT5:=(bT.alloc _).ext hb5;clear kL zL;have hbr5:br<w5.heap.size:=(by omega);have d0:=(HB5.cell (p:=⟨br,or_+ix*7,none⟩) hbr).trans g0;have d1:=(HB5.cell (p:=⟨br,or_+ix*7+1,none⟩) hbr).trans g1;have d2:=(HB5.cell (p:=⟨br,or_+ix*7+2,none⟩) hbr).trans g2;have d3:=(HB5.cell (p:=⟨br,or_+ix*7+3,none⟩) hbr).trans g3;have d4:=(HB5.cell (p:=⟨br,or_+ix*7+4,none⟩) hbr).trans g4;have d5:=(HB5.cell (p:=⟨br,or_+ix*7+5,none⟩) hbr).trans g5;have d6:=(HB5.cell (p:=⟨br,or_+ix*7+6,none⟩) hbr).trans g6)
         (refine rg_ ?_;(repeat (go_big_quiet_step ((first | (go_at_call 101;exact Calls.grow_same (r_counts2_v _ _ _ true _ HC.out)) | (go_at_call 102;exact Calls.grow_of (r_earliest_v t r mx A2 A1 n2 c2 n1 c1 _ hd1 hd2 HMX.out))))));refine qn_ fun w1 hb1 hc1 hf1=>?_)
         obtain ⟨wo,rfl⟩:∃ wo,wo=w1:=⟨_,rfl⟩
         have HBo:Hid (Below w.heap.size w wo):=by show Below _ _ _;exact HB5.trans (hb1.mono (by omega))
         have hso:=HBo.out.size
         have bRo:=bR5.ext hb1
         have bLo:=bL5.ext hb1
         have bTo:=bT5.ext hb1
         have zRo:=bRo.lt
         have zTo:=bTo.lt
         clear hb1 hc1 hf1 hb5 bR5 bL5 bT5 kR5 kL5 zR5 zL5 bL bT hgt
         go_wp2_with fail
         go_loopw [9,10] (fun f i wq=>∃ j:Nat,j≤n2∧i=.int .i64 j∧f=.bool (fineB (tellK l kn k) l.rt k t r (t.lv.take j))∧Below wo.heap.size wo wq) (fun _ i _=>n2 - (intOf i).toNat)
         case atStart=>exact ⟨0,by omega,rfl,rfl,Below.refl _ _⟩
         case round =>
          obtain ⟨j,hj,rfl,rfl,hQ⟩:=hrel
          obtain ⟨F,hF⟩:∃ F,fineB (tellK l kn k) l.rt k t r (t.lv.take j)=F:=⟨_,rfl⟩
          rw [hF]
          have hBq:Below w.heap.size w wr:=HBo.out.trans (hQ.mono hso)
          have hsq:=hBq.size
          have bRq:=bRo.ext hQ
          have kRq:=bRq.cell
          have zRq:=bRq.lt
          by_cases hjl:j<n2
          ·obtain ⟨b_y,oy,y,rfl,hby,hy,hcy⟩:=hi1.at_ hjl
           have cy:=(hBq.cell (p:=⟨b_y,oy+j,none⟩) hby).trans hcy
           have hby':b_y<wr.heap.size:=by omega
           have bLq:=bLo.ext hQ
           have kLq:=bLq.cell
           have zLq:=bLq.lt
           have q3:=(hBq.cell (p:=⟨br,or_+ix*7+3,none⟩) hbr).trans g3
           have hbr':br<wr.heap.size:=by omega
           have HFF:=hd_ (fineB_succ (T:=tellK l kn k) (rt:=l.rt) (i:=k) (t:=t) (r:=r) hy)
           have HI1:Hid (Is wr wr.heap.size A1 n1 r.lv):=by show Is _ _ _ _ _;exact gi.now hBq
           have HF:=hd_ hF
           clear hy hF
           cases F with
           | false =>
             have HFS:Hid (fineB (tellK l kn k) l.rt k t r (t.lv.take (j+1))=false):=by show _=_;rw [HFF.out,HF.out];rfl
             go_wp2_with fail
             (refine rg_ ?_;(repeat (go_big_quiet_step (fail)));refine qn_ fun w1 hb1 hc1 hf1=>?_)
             have hQ1:Below wo.heap.size wo w1:=bt_ hQ hb1
             clear hb1 hc1 hf1
             go_wp2_with fail
             go_loopw [9,11] (fun f i wq=>∃ m:Nat,m≤k∧i=.int .i64 m∧f=.bool false∧Below wo.heap.size wo wq) (fun _ i _=>k - (intOf i).toNat)
             case atStart=>exact ⟨0,by omega,rfl,rfl,hQ1⟩
             case round =>
              obtain ⟨m,hm,rfl,rfl,hM⟩:=hrel
              have bLm:=bLo.ext hM
              have kLm:=bLm.cell
              have zLm:=bLm.lt
              have bRm:=bRo.ext hM
              have kRm:=bRm.cell
              have zRm:=bRm.lt
              by_cases hmk:m<k
              ·go_wp2_with fail
               (refine rg_ ?_;(repeat (go_big_quiet_step (fail)));refine qn_ fun w1 hb1 hc1 hf1=>?_)
               go_wp2_with fail
               go_roundw
               case rel=>exact ⟨m+1,by omega,by go_num,rfl,bt_ hM hb1⟩
               case measure=>exact ms_
              ·go_wp2
               go_roundw
               case rel=>exact ⟨j+1,by omega,by go_num,by rw [HFS.out],hM⟩
               case measure=>exact ms_
           | true =>
             cases hmem:decide (y∈r.lv) with
             | false =>
               have HFS:Hid (fineB (tellK l kn k) l.rt k t r (t.lv.take (j+1))=false):=by show _=_;rw [HFF.out,HF.out,hmem];rfl
               have HM:=hd_ hmem
               clear hmem
               go_wp2_with fail
               (refine rg_ ?_;(repeat (go_big_quiet_step ((first | (go_at_call_of 18 (Value.slice A1 n1 c1);exact Calls.grow_all (fun g=>r_Has2_v r.lv y false A1 n1 c1 g.1 hn1 (HI1.out.now g.2) HM.out))))));refine qn_ fun w1 hb1 hc1 hf1=>?_)
               have hQ1:Below wo.heap.size wo w1:=bt_ hQ hb1
               clear hb1 hc1 hf1
               go_wp2_with fail
               go_loopw [9,11] (fun f i wq=>∃ m:Nat,m≤k∧i=.int .i64 m∧f=.bool false∧Below wo.heap.size wo wq) (fun _ i _=>k - (intOf i).toNat)
               case atStart=>exact ⟨0,by omega,rfl,rfl,hQ1⟩
               case round =>
                obtain ⟨m,hm,rfl,rfl,hM⟩:=hrel
                have bLm:=bLo.ext hM
                have kLm:=bLm.cell
                have zLm:=bLm.lt
                have bRm:=bRo.ext hM
                have kRm:=bRm.cell
                have zRm:=bRm.lt
                by_cases hmk:m<k
                ·go_wp2_with fail
                 (refine rg_ ?_;(repeat (go_big_quiet_step (fail)));refine qn_ fun w1 hb1 hc1 hf1=>?_)
                 go_wp2_with fail
                 go_roundw
                 case rel=>exact ⟨m+1,by omega,by go_num,rfl,bt_ hM hb1⟩
                 case measure=>exact ms_
                ·go_wp2
                 go_roundw
                 case rel=>exact ⟨j+1,by omega,by go_num,by rw [HFS.out],hM⟩
                 case measure=>exact ms_
             | true =>
               have HFS:Hid (fineB (tellK l kn k) l.rt k t r (t.lv.take (j+1))=!(((tellK l kn k).zip l.rt).take k).any (rtAt t.rcp y)):=by show _=_;rw [HFF.out,HF.out,hmem];rfl
               have HM:=hd_ hmem
               clear hmem
               go_wp2_with fail
               (refine rg_ ?_;(repeat (go_big_quiet_step ((first | (go_at_call_of 18 (Value.slice A1 n1 c1);exact Calls.grow_all (fun g=>r_Has2_v r.lv y true A1 n1 c1 g.1 hn1 (HI1.out.now g.2) HM.out))))));refine qn_ fun w1 hb1 hc1 hf1=>?_)
               have hQ1:Below wo.heap.size wo w1:=bt_ hQ hb1
               clear hb1 hc1 hf1
               go_wp2_with fail
               go_loopw [9,11] (fun f i wq=>∃ m:Nat,m≤k∧i=.int .i64 m∧f=.bool (!(((tellK l kn k).zip l.rt).take m).any (rtAt t.rcp y))∧Below wo.heap.size wo wq) (fun _ i _=>k - (intOf i).toNat)
               case atStart=>exact ⟨0,by omega,rfl,by simp,hQ1⟩
               case round =>
                obtain ⟨m,hm,rfl,rfl,hM⟩:=hrel
                have bLm:=bLo.ext hM
                have kLm:=bLm.cell
                have zLm:=bLm.lt
                have bRm:=bRo.ext hM
                have kRm:=bRm.cell
                have zRm:=bRm.lt
                have bTm:=bTo.ext hM
                have kTm:=bTm.cell
                have zTm:=bTm.lt
                have hMw:Below w.heap.size w wr:=HBo.out.trans (hM.mono hso)
                have hsm:=hMw.size
                obtain ⟨G,hG⟩:∃ G,(!(((tellK l kn k).zip l.rt).take m).any (rtAt t.rcp y))=G:=⟨_,rfl⟩
                rw [hG]
                by_cases hmk:m<k
                ·obtain ⟨bu,ou,u,eu,hbu,hux,A3,n3,c3,⟨_,f1,_,f3,_,_,_,_⟩,hi3,hc3,hm3⟩:=HT.out.at_ (show m<tn by omega)
                 obtain ⟨rfl,rfl⟩:bt=bu∧ot=ou:=by simpa using eu
                 obtain ⟨tb,htb⟩:∃ tb,(tellK l kn k)[m]?=some tb:=⟨_,List.getElem?_eq_getElem (by rw [tellK_len,HTL.out];omega)⟩
                 have hz:((tellK l kn k).zip l.rt)[m]?=some (tb,u):=by rw [List.getElem?_zip_eq_some];exact ⟨htb,hux⟩
                 have HGS:Hid ((!(((tellK l kn k).zip l.rt).take (m+1)).any (rtAt t.rcp y))=(G && !rtAt t.rcp y (tb,u))):=by show _=_;rw [any_take_succ2 hz,← hG,Bool.not_or]
                 have cT:wr.cell? ⟨w.heap.size+1,m,none⟩=some (.bool tb):=by rw [kTm];simp [boolL,htb]
                 have u1:=(hMw.cell (p:=⟨bt,ot+m*8+1,none⟩) hbt).trans f1
                 have u3:=(hMw.cell (p:=⟨bt,ot+m*8+3,none⟩) hbt).trans f3
                 have cy:=(hMw.cell (p:=⟨b_y,oy+j,none⟩) hby).trans hcy
                 have hbt':bt<wr.heap.size:=by omega
                 have hby':b_y<wr.heap.size:=by omega
                 have hn3:n3≤9223372036854775807:=by have:maxLen≤9223372036854775807:=(by decide);omega
                 have HI3:Hid (Is wr wr.heap.size A3 n3 u.lv):=by show Is _ _ _ _ _;exact hi3.now hMw
                 have hmt:m<tn:=by omega
                 clear hux htb hz eu f1 f3 hi3 hG kTm
                 cases G with
                 | false =>
                   have HGT:Hid ((!(((tellK l kn k).zip l.rt).take (m+1)).any (rtAt t.rcp y))=false):=by show _=_;rw [HGS.out];rfl
                   go_wp2_with fail
                   (refine rg_ ?_;(repeat (go_big_quiet_step (fail)));refine qn_ fun w1 hb1 hc1 hf1=>?_)
                   go_wp2_with fail
                   go_roundw
                   case rel=>exact ⟨m+1,by omega,by go_num,by rw [HGT.out],bt_ hM hb1⟩
                   case measure=>exact ms_
                 | true =>
                   cases tb with
                   | false =>
                     have HGT:Hid ((!(((tellK l kn k).zip l.rt).take (m+1)).any (rtAt t.rcp y))=true):=by show _=_;rw [HGS.out];rfl
                     go_wp2_with fail
                     (refine rg_ ?_;(repeat (go_big_quiet_step (fail)));refine qn_ fun w1 hb1 hc1 hf1=>?_)
                     go_wp2_with fail
                     go_roundw
                     case rel=>exact ⟨m+1,by omega,by go_num,by rw [HGT.out],bt_ hM hb1⟩
                     case measure=>exact ms_
                   | true =>
                     by_cases he:u.rcp=t.rcp
                     ·have hed:(u.rcp == t.rcp)=true:=by simpa using he
                      cases hq:decide (y∈u.lv) with
                      | true =>
                        have HGT:Hid ((!(((tellK l kn k).zip l.rt).take (m+1)).any (rtAt t.rcp y))=false):=by show _=_;rw [HGS.out];simp only [rtAt,hq];simp [he]
                        have HM:=hd_ hq
                        clear hq he
                        go_wp2_with fail
                        (refine rg_ ?_;(repeat (go_big_quiet_step ((first | (go_at_call_of 18 (Value.slice A3 n3 c3);exact Calls.grow_all (fun g=>r_Has2_v u.lv y true A3 n3 c3 g.1 hn3 (HI3.out.now g.2) HM.out))))));refine qn_ fun w1 hb1 hc1 hf1=>?_)
                        go_wp2_with fail
                        go_roundw
                        case rel=>exact ⟨m+1,by omega,by go_num,by rw [HGT.out],bt_ hM hb1⟩
                        case measure=>exact ms_
                      | false =>
                        have HGT:Hid ((!(((tellK l kn k).zip l.rt).take (m+1)).any (rtAt t.rcp y))=true):=by show _=_;rw [HGS.out];simp only [rtAt,hq];simp
                        have HM:=hd_ hq
                        clear hq he
                        go_wp2_with fail
                        (refine rg_ ?_;(repeat (go_big_quiet_step ((first | (go_at_call_of 18 (Value.slice A3 n3 c3);exact Calls.grow_all (fun g=>r_Has2_v u.lv y false A3 n3 c3 g.1 hn3 (HI3.out.now g.2) HM.out))))));refine qn_ fun w1 hb1 hc1 hf1=>?_)
                        go_wp2_with fail
                        go_roundw
                        case rel=>exact ⟨m+1,by omega,by go_num,by rw [HGT.out],bt_ hM hb1⟩
                        case measure=>exact ms_
                     ·have hed:(u.rcp == t.rcp)=false:=by simpa using he
                      have HGT:Hid ((!(((tellK l kn k).zip l.rt).take (m+1)).any (rtAt t.rcp y))=true):=by show _=_;rw [HGS.out];simp [rtAt,he]
                      clear he
                      go_wp2_with fail
                      (refine rg_ ?_;(repeat (go_big_quiet_step (fail)));refine qn_ fun w1 hb1 hc1 hf1=>?_)
                      go_wp2_with fail
                      go_roundw
                      case rel=>exact ⟨m+1,by omega,by go_num,by rw [HGT.out],bt_ hM hb1⟩
                      case measure=>exact ms_
                ·have hkm:Hid (m=k):=by show _=_;omega
                 have HG:=hd_ hG
                 clear hG
                 go_wp2
                 go_roundw
                 case rel=>exact ⟨j+1,by omega,by go_num,by have h:=hkm.out;subst h;rw [HFS.out,HG.out],hM⟩
                 case measure=>exact ms_
          ·have hjn:Hid (fineB (tellK l kn k) l.rt k t r t.lv=F):=by
            show _=_
            rw [← hF,List.take_of_length_le (by rw [hi1.len];omega)]
           have bTq:=bTo.ext hQ
           have kTq:=bTq.cell
           have zTq:=bTq.lt
           have fTq:=bTq.frozen
           have bLq:=bLo.ext hQ
           obtain ⟨ob,hob⟩:∃ ob,(tellK l kn k)[k]?=some ob:=⟨_,List.getElem?_eq_getElem (by rw [tellK_len,HTL.out];omega)⟩
           have cT:wr.cell? ⟨w.heap.size+1,k,none⟩=some (.bool ob):=by rw [kTq];simp [boolL,hob]
           clear hob hF kTq
           have HBT:=hd_ bTq
           have HBL:=hd_ bLq
           clear bTq bLq
           go_wp2_with fail
           go_roundw
           case rel=>exact ⟨k+1,by omega,by go_num,hBq.setCell (show w.heap.size≤w.heap.size+1 by omega) _,HBL.out.other (show w.heap.size≠w.heap.size+1 by omega) _,by rw [HN.out,hjn.out];exact HBT.out.setT k F⟩
           case measure=>exact ms_
  ·have hkn:Hid (k=l.rt.length):=by show _=_;rw [HTL.out];omega
   go_wp2
   go_ret
   exact ⟨_,_,rfl,hB,by rw [← hkn.out];exact bT,Nat.le_succ _⟩
end Go.Proofs.YtmcmbicapdcfmaaGreat
