/- Layer 2 of the texts that LoanPlaces takes: Pbhq. -/
import Derived.Test.YtoiompoapikkbaaGreatPazq
import Derived.Test.YtoiompoapikkbaaGreatPbdq
set_option linter.unusedVariables false
set_option linter.unusedSimpArgs false
set_option maxHeartbeats 16000000
namespace Go.Proofs.YtoiompoapikkbaaGreat
open Go.RowKit Go.Maps
theorem tellK_len (l:Led) (kn:Int):∀ k,(tellK l kn k).length=l.rt.length
 | 0=>by simp [tellK]
 | k+1=>by
   rw [tellK]
   split
   ·exact tellK_len l kn k
   ·rw [List.length_set];exact tellK_len l kn k
theorem tellK_ge {l:Led} {kn:Int} {k j:Nat} (hk:k≤l.rt.length) (hj:k≤j) (hl:j<l.rt.length):(tellK l kn k)[j]?=some false:=by
 rw [← tell_opn l kn k hk]
 exact (opn_inv kn (cntR l kn) l.rt k hk).2 j hj hl
theorem tellK_set {l:Led} {kn:Int} {k:Nat} {t:Rtn} {b:Bool} (h:l.rt[k]?=some t) (hb:tellB l kn (tellK l kn k) k t=b):tellK l kn (k+1)=(tellK l kn k).set k b:=by
 rw [tellK,h,← hb]
theorem tellK_no {l:Led} {kn:Int} {k:Nat} {t:Rtn} (h:l.rt[k]?=some t) (hb:tellB l kn (tellK l kn k) k t=false):tellK l kn (k+1)=tellK l kn k:=by
 have hlt:k<l.rt.length:=(List.getElem?_eq_some_iff.1 h).1
 have hg:(tellK l kn k)[k]?=some false:=tellK_ge (by omega) lr_ hlt
 rw [tellK_set h hb,eq_comm,← (List.getElem?_eq_some_iff.1 hg).2,List.set_getElem_self]
theorem fineB_succ {T:List Bool} {rt:List Rtn} {i:Nat} {t:Rtn} {r:Rcp} {lv:List Int} {k:Nat} {y:Int} (h:lv[k]?=some y):fineB T rt i t r (lv.take (k+1))=(fineB T rt i t r (lv.take k) && (decide (y∈r.lv) && !((T.zip rt).take i).any (rtAt t.rcp y))):=by
 rw [take_snoc_some h,fineB,List.all_append]
 simp [fineB]
theorem tellB_some {l:Led} {kn:Int} {T:List Bool} {i ix:Nat} {t:Rtn} {r:Rcp} (h1:rcIx l.rc t.rcp kn=some ix) (h2:l.rc[ix]?=some r):tellB l kn T i t=(countsB t.kn t.un kn && (!decide (t.hi<max t.lo (r.day+1)) && fineB T l.rt i t r t.lv)):=by
 rw [tellB,h1]
 dsimp only
 rw [h2]
theorem tellB_none {l:Led} {kn:Int} {T:List Bool} {i:Nat} {t:Rtn} (h1:rcIx l.rc t.rcp kn=none):tellB l kn T i t=false:=by
 rw [tellB,h1]
theorem rcIx_some {l:Led} {src kn:Int} {ix:Nat} (h:rcIx l.rc src kn=some ix):∃ r,l.rc[ix]?=some r∧r.src=src∧countsB r.kn r.un kn=true:=by
 obtain ⟨hl,hp,_⟩:=List.findIdx?_eq_some_iff_getElem.1 h
 simp only [rcAt,Bool.and_eq_true,decide_eq_true_eq] at hp
 exact ⟨_,List.getElem?_eq_getElem hl,hp.1,hp.2⟩
theorem r_receiptOf_v (l:Led) (x:Lsl) (src kn v:Int) (w:World) (hn:x.rn≤1000000) (hd:LedIn w w.heap.size x l) (h:ixI (rcIx l.rc src kn)=v) :
 Calls Tryz.prog 116 #[.agg #[.slice x.pA x.pn x.pc,.slice x.rA x.rn x.rc,.slice x.tA x.tn x.tc,.slice x.sA x.sn x.sc],.int .i64 src,.int .i64 kn] w fun e w'=>e=.returned (.int .i64 v)∧Below w.heap.size w w':=h ▸ r_receiptOf l x src kn w hn hd
theorem r_earliest_v (t:Rtn) (r:Rcp) (m:Int) (A B:Option Addr) (n c n2 c2:Nat) (w:World) (hd:0≤r.day) (hd2:r.day≤1000000) (h:max t.lo (r.day+1)=m) :
 Calls Tryz.prog 165 #[.agg #[.int .i64 t.src,.int .i64 t.rcp,.int .i64 t.per,.slice A n c,.int .i64 t.lo,.int .i64 t.hi,.int .i64 t.kn,.int .i64 t.un],.agg #[.int .i64 r.src,.int .i64 r.bor,.int .i64 r.pap,.slice B n2 c2,.int .i64 r.day,.int .i64 r.kn,.int .i64 r.un]] w fun e w'=>e=.returned (.int .i64 m)∧Below w.heap.size w w':=h ▸ r_earliest t r A B n c n2 c2 w hd hd2
def RetTl (l:Led) (kn:Int) (n:Nat) (w:World) (e:Ending) (w':World):Prop:=∃ B c,e=.returned (.slice (some ⟨B,0,none⟩) n c)∧Below w.heap.size w w'∧BoxA w' B 4 (boolL (tellK l kn l.rt.length)).toArray∧w.heap.size≤B
set_option maxRecDepth 10000 in
theorem r_telling (l:Led) (x:Lsl) (kn:Int) (w:World) (hl:LedOk l) (hd:LedIn w w.heap.size x l) :
 Calls Tryz.prog 103 #[.agg #[.slice x.pA x.pn x.pc,.slice x.rA x.rn x.rc,.slice x.tA x.tn x.tc,.slice x.sA x.sn x.sc],.int .i64 kn] w (RetTl l kn x.tn w):=by
 obtain ⟨pA,pn,pc,rA,rn,rc,tA,tn,tc,sA,sn,sc⟩:=x
 show Calls _ _ #[.agg #[.slice pA pn pc,.slice rA rn rc,.slice tA tn tc,.slice sA sn sc],_] _ (RetTl l kn tn w)
 have HR:Hid (Rcs w w.heap.size rA rn l.rc):=by show Sq _ _ _ _ _ _ _;exact hd.r
 have HT:Hid (Rts w w.heap.size tA tn l.rt):=by show Sq _ _ _ _ _ _ _;exact hd.t
 have hrn6:rn≤1000000:=by have h:=HR.out.len;have h2:=hl.rn;omega
 have htn:tn≤60:=by have h:=HT.out.len;have h2:=hl.tn;omega
 have HTL:Hid (l.rt.length=tn):=by show _=_;exact HT.out.len
 have HRL:Hid (l.rc.length=rn):=by show _=_;exact HR.out.len
 have HD:=hd_ hd
 have HLO:=hd_ hl
 have hmb:=make_bool tn (by omega)
 clear hd hl
 go_enter Tryz.func103,Tryz.ntmps103
 go_wp2
 go_loopw [6] (fun i wr=>∃ k:Nat,k≤tn∧i=.int .i64 k∧Below w.heap.size w wr∧BoxA wr w.heap.size 27 #[.slice pA pn pc,.slice rA rn rc,.slice tA tn tc,.slice sA sn sc]∧BoxA wr (w.heap.size+1) 4 (boolL (tellK l kn k)).toArray) (fun i _=>tn - (intOf i).toNat)
 case atStart =>
  refine ⟨0,by omega,rfl,by exact bel_,(BoxA.new _ _ _).alloc _,?_⟩
  have h:=BoxA.new (w.alloc (.cells #[.slice pA pn pc,.slice rA rn rc,.slice tA tn tc,.slice sA sn sc] 27)) 4 (boolL (List.replicate tn false)).toArray
  rw [World.size_alloc] at h
  rw [tellK,HTL.out]
  exact h
 case round =>
  obtain ⟨k,hk,rfl,hB,bL,bT⟩:=hrel
  obtain ⟨wz,rfl⟩:∃ wz,wz=wr:=⟨_,rfl⟩
  have hs0:=hB.size
  have kL:=bL.cell
  have zL:=bL.lt
  have zT:=bT.lt
  by_cases hlt:k<tn
  ·obtain ⟨bt,ot,t,rfl,hbt,hx,A2,n2,c2,⟨h0,h1,h2,h3,h4,h5,h6,h7⟩,hi1,hc1,hm1⟩:=HT.out.at_ hlt
   have e0:=(hB.cell (p:=⟨bt,ot+k*8,none⟩) hbt).trans h0
   have e1:=(hB.cell (p:=⟨bt,ot+k*8+1,none⟩) hbt).trans h1
   have e2:=(hB.cell (p:=⟨bt,ot+k*8+2,none⟩) hbt).trans h2
   have e3:=(hB.cell (p:=⟨bt,ot+k*8+3,none⟩) hbt).trans h3
   have e4:=(hB.cell (p:=⟨bt,ot+k*8+4,none⟩) hbt).trans h4
   have e5:=(hB.cell (p:=⟨bt,ot+k*8+5,none⟩) hbt).trans h5
   have e6:=(hB.cell (p:=⟨bt,ot+k*8+6,none⟩) hbt).trans h6
   have e7:=(hB.cell (p:=⟨bt,ot+k*8+7,none⟩) hbt).trans h7
   have hbtr:bt<wz.heap.size:=by omega
   have hn2:n2≤9223372036854775807:=by have:maxLen≤9223372036854775807:=(by decide);omega
   have HX:=hd_ hx
   clear hx h0 h1 h2 h3 h4 h5 h6 h7
   cases hq:rcIx l.rc t.rcp kn with
   | none =>
     have HQ:Hid (ixI (rcIx l.rc t.rcp kn)=-1):=by show _=_;rw [hq];rfl
     have HN:Hid (tellK l kn (k+1)=tellK l kn k):=by show _=_;exact tellK_no HX.out (tellB_none hq)
     clear hq
     go_wp2_with (go_at_call 116;refine (r_receiptOf_v l ⟨pA,pn,pc,rA,rn,rc,some ⟨bt,ot,none⟩,tn,tc,sA,sn,sc⟩ t.rcp kn (-1) _ hrn6 (HD.out.now (by exact bel_)) HQ.out).mono ?_;rintro e w5 ⟨rfl,hb5⟩;have HB5:Below w.heap.size w w5:=bt_ (by exact bel_) hb5;have hs5:=HB5.size;have bR5:=(BoxA.new wz 36 #[.int .i64 t.src,.int .i64 t.rcp,.int .i64 t.per,.slice A2 n2 c2,.int .i64 t.lo,.int .i64 t.hi,.int .i64 t.kn,.int .i64 t.un]).ext hb5;have kR5:=bR5.cell;have zR5:=bR5.lt;have bL5:=(bL.alloc _).ext hb5;have kL5:=bL5.cell;have zL5:=bL5.lt;have bT5:=(bT.alloc _).ext hb5;clear kL zL)
     (refine rg_ ?_;(repeat (go_big_quiet_step (fail)));refine qn_ fun w1 hb1 hc1 hf1=>?_)
     go_wp2_with fail
     go_roundw
     case rel=>exact ⟨k+1,by omega,by go_num,HB5.trans (hb1.mono (by omega)),bL5.ext hb1,by rw [HN.out];exact bT5.ext hb1⟩
     case measure=>exact ms_
   | some ix =>
     obtain ⟨r,hr,hrs,hrc⟩:=rcIx_some hq
     have hix:ix<rn:=by rw [← HRL.out];exact (List.getElem?_eq_some_iff.1 hr).1
     obtain ⟨br,or_,r',rfl,hbr,hrx,A1,n1,c1,⟨g0,g1,g2,g3,g4,g5,g6⟩,gi,gc,gm⟩:=HR.out.at_ hix
     obtain rfl:r=r':=Option.some.inj (hr.symm.trans hrx)
     have hn1:n1≤9223372036854775807:=by have:maxLen≤9223372036854775807:=(by decide);omega
     have hday:=(HLO.out.rc r (List.mem_of_getElem? hr)).2.2.2
     have hd1:0≤r.day:=hday.1
     have hd2:r.day≤1000000:=by omega
     have HTB:Hid (∀ T i,tellB l kn T i t=(countsB t.kn t.un kn && (!decide (t.hi<max t.lo (r.day+1)) && fineB T l.rt i t r t.lv))):=by show ∀ _,_;exact fun T i=>tellB_some hq hr
     have HQ:Hid (ixI (rcIx l.rc t.rcp kn)=(ix:Int)):=by show _=_;rw [hq];rfl
     have hixn:decide ((ix:Int)<0)=false:=by simp
     clear hq hr hrx hday hrs hrc
     cases hcn:countsB t.kn t.un kn with
     | false =>
       have HN:Hid (tellK l kn (k+1)=tellK l kn k):=by show _=_;exact tellK_no HX.out (by rw [HTB.out,hcn];rfl)
       have HC:=hd_ hcn
       clear hcn
       go_wp2_with (go_at_call 116;refine (r_receiptOf_v l ⟨pA,pn,pc,some ⟨br,or_,none⟩,rn,rc,some ⟨bt,ot,none⟩,tn,tc,sA,sn,sc⟩ t.rcp kn (ix) _ hrn6 (HD.out.now (by exact bel_)) HQ.out).mono ?_;rintro e w5 ⟨rfl,hb5⟩;have HB5:Below w.heap.size w w5:=bt_ (by exact bel_) hb5;have hs5:=HB5.size;have bR5:=(BoxA.new wz 36 #[.int .i64 t.src,.int .i64 t.rcp,.int .i64 t.per,.slice A2 n2 c2,.int .i64 t.lo,.int .i64 t.hi,.int .i64 t.kn,.int .i64 t.un]).ext hb5;have kR5:=bR5.cell;have zR5:=bR5.lt;have bL5:=(bL.alloc _).ext hb5;have kL5:=bL5.cell;have zL5:=bL5.lt;have bT5:=(bT.alloc _).ext hb5;clear kL zL;have hbr5:br<w5.heap.size:=(by omega);have d0:=(HB5.cell (p:=⟨br,or_+ix*7,none⟩) hbr).trans g0;have d1:=(HB5.cell (p:=⟨br,or_+ix*7+1,none⟩) hbr).trans g1;have d2:=(HB5.cell (p:=⟨br,or_+ix*7+2,none⟩) hbr).trans g2;have d3:=(HB5.cell (p:=⟨br,or_+ix*7+3,none⟩) hbr).trans g3;have d4:=(HB5.cell (p:=⟨br,or_+ix*7+4,none⟩) hbr).trans g4;have d5:=(HB5.cell (p:=⟨br,or_+ix*7+5,none⟩) hbr).trans g5;have d6:=(HB5.cell (p:=⟨br,or_+ix*7+6,none⟩) hbr).trans g6)
       (refine rg_ ?_;(repeat (go_big_quiet_step ((first | (go_at_call 164;exact Calls.grow_same (r_counts2_v _ _ _ false _ HC.out))))));refine qn_ fun w1 hb1 hc1 hf1=>?_)
       go_wp2_with fail
       go_roundw
       case rel=>exact ⟨k+1,by omega,by go_num,HB5.trans (hb1.mono (by omega)),bL5.ext hb1,by rw [HN.out];exact bT5.ext hb1⟩
       case measure=>exact ms_
     | true =>
       obtain ⟨mx,hmx⟩:∃ mx,max t.lo (r.day+1)=mx:=⟨_,rfl⟩
       cases hgt:decide (mx>t.hi) with
       | true =>
         have HN:Hid (tellK l kn (k+1)=tellK l kn k):=by show _=_;exact tellK_no HX.out (by rw [HTB.out,hmx,show decide (t.hi<mx)=true from hgt];simp)
         have HC:=hd_ hcn
         have HMX:=hd_ hmx
         clear hcn hmx
         go_wp2_with (go_at_call 116;refine (r_receiptOf_v l ⟨pA,pn,pc,some ⟨br,or_,none⟩,rn,rc,some ⟨bt,ot,none⟩,tn,tc,sA,sn,sc⟩ t.rcp kn (ix) _ hrn6 (HD.out.now (by exact bel_)) HQ.out).mono ?_;rintro e w5 ⟨rfl,hb5⟩;have HB5:Below w.heap.size w w5:=bt_ (by exact bel_) hb5;have hs5:=HB5.size;have bR5:=(BoxA.new wz 36 #[.int .i64 t.src,.int .i64 t.rcp,.int .i64 t.per,.slice A2 n2 c2,.int .i64 t.lo,.int .i64 t.hi,.int .i64 t.kn,.int .i64 t.un]).ext hb5;have kR5:=bR5.cell;have zR5:=bR5.lt;have bL5:=(bL.alloc _).ext hb5;have kL5:=bL5.cell;have zL5:=bL5.lt;have bT5:=(bT.alloc _).ext hb5;clear kL zL;have hbr5:br<w5.heap.size:=(by omega);have d0:=(HB5.cell (p:=⟨br,or_+ix*7,none⟩) hbr).trans g0;have d1:=(HB5.cell (p:=⟨br,or_+ix*7+1,none⟩) hbr).trans g1;have d2:=(HB5.cell (p:=⟨br,or_+ix*7+2,none⟩) hbr).trans g2;have d3:=(HB5.cell (p:=⟨br,or_+ix*7+3,none⟩) hbr).trans g3;have d4:=(HB5.cell (p:=⟨br,or_+ix*7+4,none⟩) hbr).trans g4;have d5:=(HB5.cell (p:=⟨br,or_+ix*7+5,none⟩) hbr).trans g5;have d6:=(HB5.cell (p:=⟨br,or_+ix*7+6,none⟩) hbr).trans g6)
         (refine rg_ ?_;(repeat (go_big_quiet_step ((first | (go_at_call 164;exact Calls.grow_same (r_counts2_v _ _ _ true _ HC.out)) | (go_at_call 165;exact Calls.grow_of (r_earliest_v t r mx A2 A1 n2 c2 n1 c1 _ hd1 hd2 HMX.out))))));refine qn_ fun w1 hb1 hc1 hf1=>?_)
         go_wp2_with fail
         go_roundw
         case rel=>exact ⟨k+1,by omega,by go_num,HB5.trans (hb1.mono (by omega)),bL5.ext hb1,by rw [HN.out];exact bT5.ext hb1⟩
         case measure=>exact ms_
       | false =>
         have HN:Hid (tellK l kn (k+1)=(tellK l kn k).set k (fineB (tellK l kn k) l.rt k t r t.lv)):=by show _=_;exact tellK_set HX.out (by rw [HTB.out,hcn,hmx,show decide (t.hi<mx)=false from hgt];simp)
         have HC:=hd_ hcn
         have HMX:=hd_ hmx
         clear hcn hmx
         go_wp2_with (go_at_call 116;refine (r_receiptOf_v l ⟨pA,pn,pc,some ⟨br,or_,none⟩,rn,rc,some ⟨bt,ot,none⟩,tn,tc,sA,sn,sc⟩ t.rcp kn (ix) _ hrn6 (HD.out.now (by exact bel_)) HQ.out).mono ?_;rintro e w5 ⟨rfl,hb5⟩;have HB5:Below w.heap.size w w5:=bt_ (by exact bel_) hb5;have hs5:=HB5.size;have bR5:=(BoxA.new wz 36 #[.int .i64 t.src,.int .i64 t.rcp,.int .i64 t.per,.slice A2 n2 c2,.int .i64 t.lo,.int .i64 t.hi,.int .i64 t.kn,.int .i64 t.un]).ext hb5;have kR5:=bR5.cell;have zR5:=bR5.lt;have bL5:=(bL.alloc _).ext hb5;have kL5:=bL5.cell;have zL5:=bL5.lt;have bT5:=(bT.alloc _).ext hb5;clear kL zL;have hbr5:br<w5.heap.size:=(by omega);have d0:=(HB5.cell (p:=⟨br,or_+ix*7,none⟩) hbr).trans g0;have d1:=(HB5.cell (p:=⟨br,or_+ix*7+1,none⟩) hbr).trans g1;have d2:=(HB5.cell (p:=⟨br,or_+ix*7+2,none⟩) hbr).trans g2;have d3:=(HB5.cell (p:=⟨br,or_+ix*7+3,none⟩) hbr).trans g3;have d4:=(HB5.cell (p:=⟨br,or_+ix*7+4,none⟩) hbr).trans g4;have d5:=(HB5.cell (p:=⟨br,or_+ix*7+5,none⟩) hbr).trans g5;have d6:=(HB5.cell (p:=⟨br,or_+ix*7+6,none⟩) hbr).trans g6)
         (refine rg_ ?_;(repeat (go_big_quiet_step ((first | (go_at_call 164;exact Calls.grow_same (r_counts2_v _ _ _ true _ HC.out)) | (go_at_call 165;exact Calls.grow_of (r_earliest_v t r mx A2 A1 n2 c2 n1 c1 _ hd1 hd2 HMX.out))))));refine qn_ fun w1 hb1 hc1 hf1=>?_)
         obtain ⟨wo,rfl⟩:∃ wo,wo=w1:=⟨_,rfl⟩
         have HBo:Hid (Below w.heap.size w wo):=by show Below _ _ _;exact HB5.trans (hb1.mono (by omega))
         have hso:=HBo.out.size
         have bRo:=bR5.ext hb1
         have bLo:=bL5.ext hb1
         have bTo:=bT5.ext hb1
         have zRo:=bRo.lt
         have zTo:=bTo.lt
         clear hb1 hc1 hf1 hb5 bR5 bL5 bT5 kR5 kL5 zR5 zL5 bL bT hgt
         go_wp2_with fail
         go_loopw [9,10] (fun f i wq=>∃ j:Nat,j≤n2∧i=.int .i64 j∧f=.bool (fineB (tellK l kn k) l.rt k t r (t.lv.take j))∧Below wo.heap.size wo wq) (fun _ i _=>n2 - (intOf i).toNat)
         case atStart=>exact ⟨0,by omega,rfl,rfl,Below.refl _ _⟩
         case round =>
          obtain ⟨j,hj,rfl,rfl,hQ⟩:=hrel
          obtain ⟨F,hF⟩:∃ F,fineB (tellK l kn k) l.rt k t r (t.lv.take j)=F:=⟨_,rfl⟩
          rw [hF]
          have hBq:Below w.heap.size w wr:=HBo.out.trans (hQ.mono hso)
          have hsq:=hBq.size
          have bRq:=bRo.ext hQ
          have kRq:=bRq.cell
          have zRq:=bRq.lt
          by_cases hjl:j<n2
          ·obtain ⟨b_y,oy,y,rfl,hby,hy,hcy⟩:=hi1.at_ hjl
           have cy:=(hBq.cell (p:=⟨b_y,oy+j,none⟩) hby).trans hcy
           have hby':b_y<wr.heap.size:=by omega
           have bLq:=bLo.ext hQ
           have kLq:=bLq.cell
           have zLq:=bLq.lt
           have q3:=(hBq.cell (p:=⟨br,or_+ix*7+3,none⟩) hbr).trans g3
           have hbr':br<wr.heap.size:=by omega
           have HFF:=hd_ (fineB_succ (T:=tellK l kn k) (rt:=l.rt) (i:=k) (t:=t) (r:=r) hy)
           have HI1:Hid (Is wr wr.heap.size A1 n1 r.lv):=by show Is _ _ _ _ _;exact gi.now hBq
           have HF:=hd_ hF
           clear hy hF
           cases F with
           | false =>
             have HFS:Hid (fineB (tellK l kn k) l.rt k t r (t.lv.take (j+1))=false):=by show _=_;rw [HFF.out,HF.out];rfl
             go_wp2_with fail
             (refine rg_ ?_;(repeat (go_big_quiet_step (fail)));refine qn_ fun w1 hb1 hc1 hf1=>?_)
             have hQ1:Below wo.heap.size wo w1:=bt_ hQ hb1
             clear hb1 hc1 hf1
             go_wp2_with fail
             go_loopw [9,11] (fun f i wq=>∃ m:Nat,m≤k∧i=.int .i64 m∧f=.bool false∧Below wo.heap.size wo wq) (fun _ i _=>k - (intOf i).toNat)
             case atStart=>exact ⟨0,by omega,rfl,rfl,hQ1⟩
             case round =>
              obtain ⟨m,hm,rfl,rfl,hM⟩:=hrel
              have bLm:=bLo.ext hM
              have kLm:=bLm.cell
              have zLm:=bLm.lt
              have bRm:=bRo.ext hM
              have kRm:=bRm.cell
              have zRm:=bRm.lt
              by_cases hmk:m<k
              ·go_wp2_with fail
               (refine rg_ ?_;(repeat (go_big_quiet_step (fail)));refine qn_ fun w1 hb1 hc1 hf1=>?_)
               go_wp2_with fail
               go_roundw
               case rel=>exact ⟨m+1,by omega,by go_num,rfl,bt_ hM hb1⟩
               case measure=>exact ms_
              ·go_wp2
               go_roundw
               case rel=>exact ⟨j+1,by omega,by go_num,by rw [HFS.out],hM⟩
               case measure=>exact ms_
           | true =>
             cases hmem:decide (y∈r.lv) with
             | false =>
               have HFS:Hid (fineB (tellK l kn k) l.rt k t r (t.lv.take (j+1))=false):=by show _=_;rw [HFF.out,HF.out,hmem];rfl
               have HM:=hd_ hmem
               clear hmem
               go_wp2_with fail
               (refine rg_ ?_;(repeat (go_big_quiet_step ((first | (go_at_call_of 65 (Value.slice A1 n1 c1);exact Calls.grow_all (fun g=>r_Has2_v r.lv y false A1 n1 c1 g.1 hn1 (HI1.out.now g.2) HM.out))))));refine qn_ fun w1 hb1 hc1 hf1=>?_)
               have hQ1:Below wo.heap.size wo w1:=bt_ hQ hb1
               clear hb1 hc1 hf1
               go_wp2_with fail
               go_loopw [9,11] (fun f i wq=>∃ m:Nat,m≤k∧i=.int .i64 m∧f=.bool false∧Below wo.heap.size wo wq) (fun _ i _=>k - (intOf i).toNat)
               case atStart=>exact ⟨0,by omega,rfl,rfl,hQ1⟩
               case round =>
                obtain ⟨m,hm,rfl,rfl,hM⟩:=hrel
                have bLm:=bLo.ext hM
                have kLm:=bLm.cell
                have zLm:=bLm.lt
                have bRm:=bRo.ext hM
                have kRm:=bRm.cell
                have zRm:=bRm.lt
                by_cases hmk:m<k
                ·go_wp2_with fail
                 (refine rg_ ?_;(repeat (go_big_quiet_step (fail)));refine qn_ fun w1 hb1 hc1 hf1=>?_)
                 go_wp2_with fail
                 go_roundw
                 case rel=>exact ⟨m+1,by omega,by go_num,rfl,bt_ hM hb1⟩
                 case measure=>exact ms_
                ·go_wp2
                 go_roundw
                 case rel=>exact ⟨j+1,by omega,by go_num,by rw [HFS.out],hM⟩
                 case measure=>exact ms_
             | true =>
               have HFS:Hid (fineB (tellK l kn k) l.rt k t r (t.lv.take (j+1))=!(((tellK l kn k).zip l.rt).take k).any (rtAt t.rcp y)):=by show _=_;rw [HFF.out,HF.out,hmem];rfl
               have HM:=hd_ hmem
               clear hmem
               go_wp2_with fail
               (refine rg_ ?_;(repeat (go_big_quiet_step ((first | (go_at_call_of 65 (Value.slice A1 n1 c1);exact Calls.grow_all (fun g=>r_Has2_v r.lv y true A1 n1 c1 g.1 hn1 (HI1.out.now g.2) HM.out))))));refine qn_ fun w1 hb1 hc1 hf1=>?_)
               have hQ1:Below wo.heap.size wo w1:=bt_ hQ hb1
               clear hb1 hc1 hf1
               go_wp2_with fail
               go_loopw [9,11] (fun f i wq=>∃ m:Nat,m≤k∧i=.int .i64 m∧f=.bool (!(((tellK l kn k).zip l.rt).take m).any (rtAt t.rcp y))∧Below wo.heap.size wo wq) (fun _ i _=>k - (intOf i).toNat)
               case atStart=>exact ⟨0,by omega,rfl,by simp,hQ1⟩
               case round =>
                obtain ⟨m,hm,rfl,rfl,hM⟩:=hrel
                have bLm:=bLo.ext hM
                have kLm:=bLm.cell
                have zLm:=bLm.lt
                have bRm:=bRo.ext hM
                have kRm:=bRm.cell
                have zRm:=bRm.lt
                have bTm:=bTo.ext hM
                have kTm:=bTm.cell
                have zTm:=bTm.lt
                have hMw:Below w.heap.size w wr:=HBo.out.trans (hM.mono hso)
                have hsm:=hMw.size
                obtain ⟨G,hG⟩:∃ G,(!(((tellK l kn k).zip l.rt).take m).any (rtAt t.rcp y))=G:=⟨_,rfl⟩
                rw [hG]
                by_cases hmk:m<k
                ·obtain ⟨bu,ou,u,eu,hbu,hux,A3,n3,c3,⟨_,f1,_,f3,_,_,_,_⟩,hi3,hc3,hm3⟩:=HT.out.at_ (show m<tn by omega)
                 obtain ⟨rfl,rfl⟩:bt=bu∧ot=ou:=by simpa using eu
                 obtain ⟨tb,htb⟩:∃ tb,(tellK l kn k)[m]?=some tb:=⟨_,List.getElem?_eq_getElem (by rw [tellK_len,HTL.out];omega)⟩
                 have hz:((tellK l kn k).zip l.rt)[m]?=some (tb,u):=by rw [List.getElem?_zip_eq_some];exact ⟨htb,hux⟩
                 have HGS:Hid ((!(((tellK l kn k).zip l.rt).take (m+1)).any (rtAt t.rcp y))=(G && !rtAt t.rcp y (tb,u))):=by show _=_;rw [any_take_succ2 hz,← hG,Bool.not_or]
                 have cT:wr.cell? ⟨w.heap.size+1,m,none⟩=some (.bool tb):=by rw [kTm];simp [boolL,htb]
                 have u1:=(hMw.cell (p:=⟨bt,ot+m*8+1,none⟩) hbt).trans f1
                 have u3:=(hMw.cell (p:=⟨bt,ot+m*8+3,none⟩) hbt).trans f3
                 have cy:=(hMw.cell (p:=⟨b_y,oy+j,none⟩) hby).trans hcy
                 have hbt':bt<wr.heap.size:=by omega
                 have hby':b_y<wr.heap.size:=by omega
                 have hn3:n3≤9223372036854775807:=by have:maxLen≤9223372036854775807:=(by decide);omega
                 have HI3:Hid (Is wr wr.heap.size A3 n3 u.lv):=by show Is _ _ _ _ _;exact hi3.now hMw
                 have hmt:m<tn:=by omega
                 clear hux htb hz eu f1 f3 hi3 hG kTm
                 cases G with
                 | false =>
                   have HGT:Hid ((!(((tellK l kn k).zip l.rt).take (m+1)).any (rtAt t.rcp y))=false):=by show _=_;rw [HGS.out];rfl
                   go_wp2_with fail
                   (refine rg_ ?_;(repeat (go_big_quiet_step (fail)));refine qn_ fun w1 hb1 hc1 hf1=>?_)
                   go_wp2_with fail
                   go_roundw
                   case rel=>exact ⟨m+1,by omega,by go_num,by rw [HGT.out],bt_ hM hb1⟩
                   case measure=>exact ms_
                 | true =>
                   cases tb with
                   | false =>
                     have HGT:Hid ((!(((tellK l kn k).zip l.rt).take (m+1)).any (rtAt t.rcp y))=true):=by show _=_;rw [HGS.out];rfl
                     go_wp2_with fail
                     (refine rg_ ?_;(repeat (go_big_quiet_step (fail)));refine qn_ fun w1 hb1 hc1 hf1=>?_)
                     go_wp2_with fail
                     go_roundw
                     case rel=>exact ⟨m+1,by omega,by go_num,by rw [HGT.out],bt_ hM hb1⟩
                     case measure=>exact ms_
                   | true =>
                     by_cases he:u.rcp=t.rcp
                     ·have hed:(u.rcp == t.rcp)=true:=by simpa using he
                      cases hq:decide (y∈u.lv) with
                      | true =>
                        have HGT:Hid ((!(((tellK l kn k).zip l.rt).take (m+1)).any (rtAt t.rcp y))=false):=by show _=_;rw [HGS.out];simp only [rtAt,hq];simp [he]
                        have HM:=hd_ hq
                        clear hq he
                        go_wp2_with fail
                        (refine rg_ ?_;(repeat (go_big_quiet_step ((first | (go_at_call_of 65 (Value.slice A3 n3 c3);exact Calls.grow_all (fun g=>r_Has2_v u.lv y true A3 n3 c3 g.1 hn3 (HI3.out.now g.2) HM.out))))));refine qn_ fun w1 hb1 hc1 hf1=>?_)
                        go_wp2_with fail
                        go_roundw
                        case rel=>exact ⟨m+1,by omega,by go_num,by rw [HGT.out],bt_ hM hb1⟩
                        case measure=>exact ms_
                      | false =>
                        have HGT:Hid ((!(((tellK l kn k).zip l.rt).take (m+1)).any (rtAt t.rcp y))=true):=by show _=_;rw [HGS.out];simp only [rtAt,hq];simp
                        have HM:=hd_ hq
                        clear hq he
                        go_wp2_with fail
                        (refine rg_ ?_;(repeat (go_big_quiet_step ((first | (go_at_call_of 65 (Value.slice A3 n3 c3);exact Calls.grow_all (fun g=>r_Has2_v u.lv y false A3 n3 c3 g.1 hn3 (HI3.out.now g.2) HM.out))))));refine qn_ fun w1 hb1 hc1 hf1=>?_)
                        go_wp2_with fail
                        go_roundw
                        case rel=>exact ⟨m+1,by omega,by go_num,by rw [HGT.out],bt_ hM hb1⟩
                        case measure=>exact ms_
                     ·have hed:(u.rcp == t.rcp)=false:=by simpa using he
                      have HGT:Hid ((!(((tellK l kn k).zip l.rt).take (m+1)).any (rtAt t.rcp y))=true):=by show _=_;rw [HGS.out];simp [rtAt,he]
                      clear he
                      go_wp2_with fail
                      (refine rg_ ?_;(repeat (go_big_quiet_step (fail)));refine qn_ fun w1 hb1 hc1 hf1=>?_)
                      go_wp2_with fail
                      go_roundw
                      case rel=>exact ⟨m+1,by omega,by go_num,by rw [HGT.out],bt_ hM hb1⟩
                      case measure=>exact ms_
                ·have hkm:Hid (m=k):=by show _=_;omega
                 have HG:=hd_ hG
                 clear hG
                 go_wp2
                 go_roundw
                 case rel=>exact ⟨j+1,by omega,by go_num,by have h:=hkm.out;subst h;rw [HFS.out,HG.out],hM⟩
                 case measure=>exact ms_
          ·have hjn:Hid (fineB (tellK l kn k) l.rt k t r t.lv=F):=by
            show _=_
            rw [← hF,List.take_of_length_le (by rw [hi1.len];omega)]
           have bTq:=bTo.ext hQ
           have kTq:=bTq.cell
           have zTq:=bTq.lt
           have fTq:=bTq.frozen
           have bLq:=bLo.ext hQ
           obtain ⟨ob,hob⟩:∃ ob,(tellK l kn k)[k]?=some ob:=⟨_,List.getElem?_eq_getElem (by rw [tellK_len,HTL.out];omega)⟩
           have cT:wr.cell? ⟨w.heap.size+1,k,none⟩=some (.bool ob):=by rw [kTq];simp [boolL,hob]
           clear hob hF kTq
           have HBT:=hd_ bTq
           have HBL:=hd_ bLq
           clear bTq bLq
           go_wp2_with fail
           go_roundw
           case rel=>exact ⟨k+1,by omega,by go_num,hBq.setCell (show w.heap.size≤w.heap.size+1 by omega) _,HBL.out.other (show w.heap.size≠w.heap.size+1 by omega) _,by rw [HN.out,hjn.out];exact HBT.out.setT k F⟩
           case measure=>exact ms_
  ·have hkn:Hid (k=l.rt.length):=by show _=_;rw [HTL.out];omega
   go_wp2
   go_ret
   exact ⟨_,_,rfl,hB,by rw [← hkn.out];exact bT,Nat.le_succ _⟩
theorem Is.box {W W':World} {B q n:Nat} {A:Option Addr} {t t':TypeId} {cs cs':Array Value} {xs:List Int} (h:Is W B A n xs) (hb:BoxA W q t cs) (hb':BoxA W' q t' cs') (hk:∀ b,b<B→b≠q→W'.heap[b]?=W.heap[b]?) (hc:∀ (m:Nat) (v:Int),cs[m]?=some (.int .i64 v)→cs'[m]?=some (.int .i64 v)):Is W' B A n xs:=by
 refine ⟨h.1,fun h0=>?_⟩
 obtain ⟨b,o,e,hbB,hcell⟩:=h.2 h0
 refine ⟨b,o,e,hbB,fun j u hu=>?_⟩
 have h1:=hcell j u hu
 by_cases hq:b=q
 ·subst hq
  rw [hb.cell] at h1
  rw [hb'.cell]
  obtain ⟨v,rfl⟩:∃ v,u=.int .i64 v:=by
   have:=List.mem_of_getElem? hu
   obtain ⟨v,_,rfl⟩:=List.mem_map.1 this
   exact ⟨v,rfl⟩
  exact hc _ _ h1
 ·rw [← h1]
  simp only [World.cell?,hk b hbB hq]
theorem acc_int (a:Acc) (A:Option Addr) (c:Nat) (m:Nat) (v:Int) (h:(accC a)[m]?=some (.int .i64 v)):(accC { a with PA:=A,Pc:=c })[m]?=some (.int .i64 v):=by
 match m,h with
 | 0,h=>simp at h
 | 1,h=>simp at h
 | 2,h=>simp at h
 | 3,h=>simp at h
 | 4,h=>exact h
 | 5,h=>simp at h
 | 6,h=>simp at h
 | 7,h=>simp at h
 | 8,h=>simp at h
 | 9,h=>simp at h
 | m+10,h=>simp at h
def lieO (l:Led) (kn day:Int) (r:Rcp) (leaf:Int):Bool:=match getN (opnL l kn).M (r.src,leaf) with
 | none=>true
 | some i=>decide (day<((setP l kn).getD i (0,0)).2)
def lieB (l:Led) (kn day:Int) (r:Rcp) (leaf:Int):Bool:=match getN (opnL l kn).M (r.src,leaf) with
 | none=>false
 | some i=>decide (((setP l kn).getD i (0,0)).1≤day)
def liesX (l:Led) (src day kn:Int):Int × Int:=if preE l [day,kn]=0 then (match findR (cntR l kn) src with
 | none=>(0,3)
 | some r=>if setE l kn=0 then (if day<r.day then (0,0) else (ansI (r.lv.any (lieO l kn day r)) (r.lv.all (lieB l kn day r)),0)) else (0,setE l kn)) else (0,preE l [day,kn])
set_option maxRecDepth 10000 in
theorem p_Lies (l:Led) (x:Lsl) (src day kn:Int) (w:World) (hf:x.fit) (hd:LedIn w w.heap.size x l) :
 Calls Tryz.prog 40 #[.agg #[.slice x.pA x.pn x.pc,.slice x.rA x.rn x.rc,.slice x.tA x.tn x.tc,.slice x.sA x.sn x.sc],.int .i64 src,.int .i64 day,.int .i64 kn] w (fun e w'=>e=.returned (.tuple #[.int .i64 (liesX l src day kn).1,.int .i64 (liesX l src day kn).2])∧Below w.heap.size w w'):=by
 obtain ⟨pA,pn,pc,rA,rn,rc,tA,tn,tc,sA,sn,sc⟩:=x
 have HD:=hd_ hd
 have hml:maxLen≤9223372036854775807:=by decide
 have hpn:pn≤9223372036854775807:=by have:=hf.p;dsimp only at this;omega
 have hrn:rn≤9223372036854775807:=by have:=hf.r;dsimp only at this;omega
 have htn:tn≤9223372036854775807:=by have:=hf.t;dsimp only at this;omega
 have hsn:sn≤9223372036854775807:=by have:=hf.s;dsimp only at this;omega
 clear hd hf hml
 obtain ⟨v,hv⟩:∃ v,preE l [day,kn]=v:=⟨_,rfl⟩
 have HV:Hid (orL [errI (ledB l) 24,errI (daysOk [day,kn]) 6]=v):=by show _=_;exact hv
 by_cases hv0:v=0
 ·subst hv0
  have HLO:=hd_ (led_ok (pre_zero hv).1)
  cases hfr:findR (cntR l kn) src with
  | none =>
    have hres:liesX l src day kn=(0,3):=by rw [liesX,if_pos hv,hfr]
    rw [hres]
    have HFR:=hd_ hfr
    clear hres hfr hv
    go_enter Tryz.func40,Tryz.ntmps40
    go_wp2_with (first | (go_at_call 18;refine (p_Check l ⟨pA,pn,pc,rA,rn,rc,tA,tn,tc,sA,sn,sc⟩ _ hpn hrn htn hsn (HD.out.now (by exact bel_))).mono ?_;rintro e w1 ⟨rfl,hb1⟩;have HB1:Below w.heap.size w w1:=bt_ (by exact bel_) hb1;have hs1:=HB1.size;have bL0:=BoxA.new w 27 #[.slice pA pn pc,.slice rA rn rc,.slice tA tn tc,.slice sA sn sc];have bL1:=bL0.ext hb1;have kL1:=bL1.cell;have zL1:=bL1.lt;clear hb1) | (go_at_call 100;refine (p_checkDays [day,kn] _ 2 2 _ (by decide) (Rd.new _ #[.int .i64 day,.int .i64 kn] _ 1 2 _ (by simp) rfl)).mono ?_;rintro e w2 ⟨rfl,hb2⟩;have HB2:Below w.heap.size w w2:=bt_ (by exact bel_) hb2;have hs2:=HB2.size;have bL2:=(bL1.alloc _).ext hb2;have kL2:=bL2.cell;have zL2:=bL2.lt;clear kL1 zL1;clear hb2) | (go_at_call 99;refine (p_first [errI (ledB l) 24,errI (daysOk [day,kn]) 6] 0 _ 2 2 _ (by decide) (Rd.new _ #[.int .i64 (errI (ledB l) 24),.int .i64 (errI (daysOk [day,kn]) 6)] _ 1 2 _ (by simp) rfl) HV.out).mono ?_;rintro e w1 ⟨rfl,rfl⟩) | (go_at_call 101;refine (p_openA l ⟨pA,pn,pc,rA,rn,rc,tA,tn,tc,sA,sn,sc⟩ kn _ HLO.out (HD.out.now (by exact bel_))).mono ?_;rintro e w5 ⟨RA,Rn,Rc,SA,Sn,Sc,bm,TA,Tn,Tc,PA,Pn,Pc,rfl,hb5,hO⟩;have HB5:Below w.heap.size w w5:=bt_ (by exact bel_) hb5;have hs5:=HB5.size;have HO:=hd_ hO;have bL5:=(bL2.alloc _).ext hb5;have kL5:=bL5.cell;have zL5:=bL5.lt;clear kL2 zL2;clear hO hb5) | (go_at_call 114;have hrc:=p_receipt (cntR l kn) ⟨⟨pA,pn,pc,rA,rn,rc,tA,tn,tc,sA,sn,sc⟩,kn,RA,Rn,Rc,SA,Sn,Sc,bm,TA,Tn,Tc,PA,Pn,Pc⟩ src (w5.alloc (.cells #[.slice pA pn pc,.slice rA rn rc,.slice tA tn tc,.slice sA sn sc,.int .i64 kn,.slice RA Rn Rc,.slice SA Sn Sc,.map (some bm),.slice TA Tn Tc,.slice PA Pn Pc] 119)) HO.out.acc.nR ((HO.out.now (show Below w5.heap.size w5 (w5.alloc (.cells #[.slice pA pn pc,.slice rA rn rc,.slice tA tn tc,.slice sA sn sc,.int .i64 kn,.slice RA Rn Rc,.slice SA Sn Sc,.map (some bm),.slice TA Tn Tc,.slice PA Pn Pc] 119)) by exact bel_)).acc.r);rw [HFR.out] at hrc;refine hrc.mono ?_;clear hrc;rintro e w6 ⟨hb6,rfl⟩;have HB6:Below w.heap.size w w6:=HB5.trans ((bt_ (show Below w5.heap.size w5 _ by exact bel_) hb6).mono hs5);have hs6:=HB6.size))
    go_ret2
    exact ⟨rfl,by exact bel_⟩
  | some r =>
    have HFR:=hd_ hfr
    have HRL:Hid (r.lv.length≤1000000):=by show _≤_;have h1:=(HLO.out.rc r (List.mem_filter.1 (findR_mem hfr).1).1).1;omega
    have hrs:=(HLO.out.rc r (List.mem_filter.1 (findR_mem hfr).1).1).2.1
    have hrw:=(HLO.out.rc r (List.mem_filter.1 (findR_mem hfr).1).1).2.2.1
    have HRW:=hd_ hrw
    obtain ⟨ve,hve⟩:∃ ve,setE l kn=ve:=⟨_,rfl⟩
    by_cases he:ve=0
    ·subst he
     have HSE:=hd_ hve
     by_cases hdd:day<r.day
     ·have hres:liesX l src day kn=(0,0):=by rw [liesX,if_pos hv,hfr];simp only [if_pos hve,if_pos hdd]
      rw [hres]
      clear hres hfr hv hve hrw
      go_enter Tryz.func40,Tryz.ntmps40
      go_wp2_with (first | (go_at_call 18;refine (p_Check l ⟨pA,pn,pc,rA,rn,rc,tA,tn,tc,sA,sn,sc⟩ _ hpn hrn htn hsn (HD.out.now (by exact bel_))).mono ?_;rintro e w1 ⟨rfl,hb1⟩;have HB1:Below w.heap.size w w1:=bt_ (by exact bel_) hb1;have hs1:=HB1.size;have bL0:=BoxA.new w 27 #[.slice pA pn pc,.slice rA rn rc,.slice tA tn tc,.slice sA sn sc];have bL1:=bL0.ext hb1;have kL1:=bL1.cell;have zL1:=bL1.lt;clear hb1) | (go_at_call 100;refine (p_checkDays [day,kn] _ 2 2 _ (by decide) (Rd.new _ #[.int .i64 day,.int .i64 kn] _ 1 2 _ (by simp) rfl)).mono ?_;rintro e w2 ⟨rfl,hb2⟩;have HB2:Below w.heap.size w w2:=bt_ (by exact bel_) hb2;have hs2:=HB2.size;have bL2:=(bL1.alloc _).ext hb2;have kL2:=bL2.cell;have zL2:=bL2.lt;clear kL1 zL1;clear hb2) | (go_at_call 99;refine (p_first [errI (ledB l) 24,errI (daysOk [day,kn]) 6] 0 _ 2 2 _ (by decide) (Rd.new _ #[.int .i64 (errI (ledB l) 24),.int .i64 (errI (daysOk [day,kn]) 6)] _ 1 2 _ (by simp) rfl) HV.out).mono ?_;rintro e w1 ⟨rfl,rfl⟩) | (go_at_call 101;refine (p_openA l ⟨pA,pn,pc,rA,rn,rc,tA,tn,tc,sA,sn,sc⟩ kn _ HLO.out (HD.out.now (by exact bel_))).mono ?_;rintro e w5 ⟨RA,Rn,Rc,SA,Sn,Sc,bm,TA,Tn,Tc,PA,Pn,Pc,rfl,hb5,hO⟩;have HB5:Below w.heap.size w w5:=bt_ (by exact bel_) hb5;have hs5:=HB5.size;have HO:=hd_ hO;have bL5:=(bL2.alloc _).ext hb5;have kL5:=bL5.cell;have zL5:=bL5.lt;clear kL2 zL2;clear hO hb5) | (go_at_call 114;have hrc:=p_receipt (cntR l kn) ⟨⟨pA,pn,pc,rA,rn,rc,tA,tn,tc,sA,sn,sc⟩,kn,RA,Rn,Rc,SA,Sn,Sc,bm,TA,Tn,Tc,PA,Pn,Pc⟩ src (w5.alloc (.cells #[.slice pA pn pc,.slice rA rn rc,.slice tA tn tc,.slice sA sn sc,.int .i64 kn,.slice RA Rn Rc,.slice SA Sn Sc,.map (some bm),.slice TA Tn Tc,.slice PA Pn Pc] 119)) HO.out.acc.nR ((HO.out.now (show Below w5.heap.size w5 (w5.alloc (.cells #[.slice pA pn pc,.slice rA rn rc,.slice tA tn tc,.slice sA sn sc,.int .i64 kn,.slice RA Rn Rc,.slice SA Sn Sc,.map (some bm),.slice TA Tn Tc,.slice PA Pn Pc] 119)) by exact bel_)).acc.r);rw [HFR.out] at hrc;refine hrc.mono ?_;clear hrc;rintro e w6 ⟨hb6,A1,n1,c1,rfl,hi1,hc1,hm1⟩;have HW6:Below w5.heap.size w5 w6:=bt_ (show Below w5.heap.size w5 _ by exact bel_) hb6;have HB6:Below w.heap.size w w6:=HB5.trans (HW6.mono hs5);have hs6:=HB6.size;have hs56:=HW6.size;have bA6:=(BoxA.new w5 119 #[.slice pA pn pc,.slice rA rn rc,.slice tA tn tc,.slice sA sn sc,.int .i64 kn,.slice RA Rn Rc,.slice SA Sn Sc,.map (some bm),.slice TA Tn Tc,.slice PA Pn Pc]).ext hb6;have k6:=bA6.cell;have z6:=bA6.lt;have HI1:=hd_ (hi1.now hb6);have hn1:n1≤1000000:=(by rw [← hi1.len];exact HRL.out);clear hi1 hb6 kL5 zL5) | (go_at_call 112;refine (p_settle0G l kn ⟨⟨pA,pn,pc,rA,rn,rc,tA,tn,tc,sA,sn,sc⟩,kn,RA,Rn,Rc,SA,Sn,Sc,bm,TA,Tn,Tc,PA,Pn,Pc⟩ w5 (w6.alloc (.cells #[.int .i64 r.src,.int .i64 r.bor,.int .i64 r.pap,.slice A1 n1 c1,.int .i64 r.day,.int .i64 r.kn,.int .i64 r.un] 32)) HLO.out HO.out (HW6.trans ((show Below w6.heap.size w6 (w6.alloc (.cells #[.int .i64 r.src,.int .i64 r.bor,.int .i64 r.pap,.slice A1 n1 c1,.int .i64 r.day,.int .i64 r.kn,.int .i64 r.un] 32)) by exact bel_).mono hs56)) (bA6.alloc _) HSE.out).mono ?_;rintro e w7 ⟨PA2,Pc2,rfl,hb7,hk7,hz7,hbx7,hac7,hlp7,_⟩;have HB7:Below w.heap.size w w7:=HB5.trans (hb7.mono hs5);have hs7:=HB7.size;have bR7:BoxA w7 w6.heap.size 32 #[.int .i64 r.src,.int .i64 r.bor,.int .i64 r.pap,.slice A1 n1 c1,.int .i64 r.day,.int .i64 r.kn,.int .i64 r.un]:=(hk7 _ (by simp) (by have:=bA6.lt;omega)).trans (BoxA.new w6 _ _);have kR7:=bR7.cell;have zR7:=bR7.lt;have HI7:=hd_ ((Is.box (HI1.out.now (show Below w6.heap.size w6 (w6.alloc (.cells #[.int .i64 r.src,.int .i64 r.bor,.int .i64 r.pap,.slice A1 n1 c1,.int .i64 r.day,.int .i64 r.kn,.int .i64 r.un] 32)) by exact bel_)) (bA6.alloc _) hbx7 hk7 (acc_int ⟨⟨pA,pn,pc,rA,rn,rc,tA,tn,tc,sA,sn,sc⟩,kn,RA,Rn,Rc,SA,Sn,Sc,bm,TA,Tn,Tc,PA,Pn,Pc⟩ PA2 Pc2)).more hz7);have HBX:=hd_ hbx7;have HAC:=hd_ hac7;have HLP:=hd_ hlp7;have HBR:=hd_ bR7;have k7:=hbx7.cell;have z7:=hbx7.lt;clear k6 z6 hbx7 hac7 hlp7))
      go_ret2
      exact ⟨rfl,HB7⟩
     ·have hres:liesX l src day kn=(ansI (r.lv.any (lieO l kn day r)) (r.lv.all (lieB l kn day r)),0):=by rw [liesX,if_pos hv,hfr];simp only [if_pos hve,if_neg hdd]
      rw [hres]
      clear hres hfr hv hve hrw
      go_enter Tryz.func40,Tryz.ntmps40
      go_wp2_with (first | (go_at_call 18;refine (p_Check l ⟨pA,pn,pc,rA,rn,rc,tA,tn,tc,sA,sn,sc⟩ _ hpn hrn htn hsn (HD.out.now (by exact bel_))).mono ?_;rintro e w1 ⟨rfl,hb1⟩;have HB1:Below w.heap.size w w1:=bt_ (by exact bel_) hb1;have hs1:=HB1.size;have bL0:=BoxA.new w 27 #[.slice pA pn pc,.slice rA rn rc,.slice tA tn tc,.slice sA sn sc];have bL1:=bL0.ext hb1;have kL1:=bL1.cell;have zL1:=bL1.lt;clear hb1) | (go_at_call 100;refine (p_checkDays [day,kn] _ 2 2 _ (by decide) (Rd.new _ #[.int .i64 day,.int .i64 kn] _ 1 2 _ (by simp) rfl)).mono ?_;rintro e w2 ⟨rfl,hb2⟩;have HB2:Below w.heap.size w w2:=bt_ (by exact bel_) hb2;have hs2:=HB2.size;have bL2:=(bL1.alloc _).ext hb2;have kL2:=bL2.cell;have zL2:=bL2.lt;clear kL1 zL1;clear hb2) | (go_at_call 99;refine (p_first [errI (ledB l) 24,errI (daysOk [day,kn]) 6] 0 _ 2 2 _ (by decide) (Rd.new _ #[.int .i64 (errI (ledB l) 24),.int .i64 (errI (daysOk [day,kn]) 6)] _ 1 2 _ (by simp) rfl) HV.out).mono ?_;rintro e w1 ⟨rfl,rfl⟩) | (go_at_call 101;refine (p_openA l ⟨pA,pn,pc,rA,rn,rc,tA,tn,tc,sA,sn,sc⟩ kn _ HLO.out (HD.out.now (by exact bel_))).mono ?_;rintro e w5 ⟨RA,Rn,Rc,SA,Sn,Sc,bm,TA,Tn,Tc,PA,Pn,Pc,rfl,hb5,hO⟩;have HB5:Below w.heap.size w w5:=bt_ (by exact bel_) hb5;have hs5:=HB5.size;have HO:=hd_ hO;have bL5:=(bL2.alloc _).ext hb5;have kL5:=bL5.cell;have zL5:=bL5.lt;clear kL2 zL2;clear hO hb5) | (go_at_call 114;have hrc:=p_receipt (cntR l kn) ⟨⟨pA,pn,pc,rA,rn,rc,tA,tn,tc,sA,sn,sc⟩,kn,RA,Rn,Rc,SA,Sn,Sc,bm,TA,Tn,Tc,PA,Pn,Pc⟩ src (w5.alloc (.cells #[.slice pA pn pc,.slice rA rn rc,.slice tA tn tc,.slice sA sn sc,.int .i64 kn,.slice RA Rn Rc,.slice SA Sn Sc,.map (some bm),.slice TA Tn Tc,.slice PA Pn Pc] 119)) HO.out.acc.nR ((HO.out.now (show Below w5.heap.size w5 (w5.alloc (.cells #[.slice pA pn pc,.slice rA rn rc,.slice tA tn tc,.slice sA sn sc,.int .i64 kn,.slice RA Rn Rc,.slice SA Sn Sc,.map (some bm),.slice TA Tn Tc,.slice PA Pn Pc] 119)) by exact bel_)).acc.r);rw [HFR.out] at hrc;refine hrc.mono ?_;clear hrc;rintro e w6 ⟨hb6,A1,n1,c1,rfl,hi1,hc1,hm1⟩;have HW6:Below w5.heap.size w5 w6:=bt_ (show Below w5.heap.size w5 _ by exact bel_) hb6;have HB6:Below w.heap.size w w6:=HB5.trans (HW6.mono hs5);have hs6:=HB6.size;have hs56:=HW6.size;have bA6:=(BoxA.new w5 119 #[.slice pA pn pc,.slice rA rn rc,.slice tA tn tc,.slice sA sn sc,.int .i64 kn,.slice RA Rn Rc,.slice SA Sn Sc,.map (some bm),.slice TA Tn Tc,.slice PA Pn Pc]).ext hb6;have k6:=bA6.cell;have z6:=bA6.lt;have HI1:=hd_ (hi1.now hb6);have hn1:n1≤1000000:=(by rw [← hi1.len];exact HRL.out);clear hi1 hb6 kL5 zL5) | (go_at_call 112;refine (p_settle0G l kn ⟨⟨pA,pn,pc,rA,rn,rc,tA,tn,tc,sA,sn,sc⟩,kn,RA,Rn,Rc,SA,Sn,Sc,bm,TA,Tn,Tc,PA,Pn,Pc⟩ w5 (w6.alloc (.cells #[.int .i64 r.src,.int .i64 r.bor,.int .i64 r.pap,.slice A1 n1 c1,.int .i64 r.day,.int .i64 r.kn,.int .i64 r.un] 32)) HLO.out HO.out (HW6.trans ((show Below w6.heap.size w6 (w6.alloc (.cells #[.int .i64 r.src,.int .i64 r.bor,.int .i64 r.pap,.slice A1 n1 c1,.int .i64 r.day,.int .i64 r.kn,.int .i64 r.un] 32)) by exact bel_).mono hs56)) (bA6.alloc _) HSE.out).mono ?_;rintro e w7 ⟨PA2,Pc2,rfl,hb7,hk7,hz7,hbx7,hac7,hlp7,_⟩;have HB7:Below w.heap.size w w7:=HB5.trans (hb7.mono hs5);have hs7:=HB7.size;have bR7:BoxA w7 w6.heap.size 32 #[.int .i64 r.src,.int .i64 r.bor,.int .i64 r.pap,.slice A1 n1 c1,.int .i64 r.day,.int .i64 r.kn,.int .i64 r.un]:=(hk7 _ (by simp) (by have:=bA6.lt;omega)).trans (BoxA.new w6 _ _);have kR7:=bR7.cell;have zR7:=bR7.lt;have HI7:=hd_ ((Is.box (HI1.out.now (show Below w6.heap.size w6 (w6.alloc (.cells #[.int .i64 r.src,.int .i64 r.bor,.int .i64 r.pap,.slice A1 n1 c1,.int .i64 r.day,.int .i64 r.kn,.int .i64 r.un] 32)) by exact bel_)) (bA6.alloc _) hbx7 hk7 (acc_int ⟨⟨pA,pn,pc,rA,rn,rc,tA,tn,tc,sA,sn,sc⟩,kn,RA,Rn,Rc,SA,Sn,Sc,bm,TA,Tn,Tc,PA,Pn,Pc⟩ PA2 Pc2)).more hz7);have HBX:=hd_ hbx7;have HAC:=hd_ hac7;have HLP:=hd_ hlp7;have HBR:=hd_ bR7;have k7:=hbx7.cell;have z7:=hbx7.lt;clear k6 z6 hbx7 hac7 hlp7))
      have hnl:Hid (r.lv.length=n1):=by show _=_;exact HI7.out.len
      go_loopw [15,16,54] (fun ca cb i wr=>∃ k:Nat,k≤n1∧i=.int .i64 k∧ca=.bool ((r.lv.take k).any (lieO l kn day r))∧cb=.bool ((r.lv.take k).all (lieB l kn day r))∧Below w7.heap.size w7 wr) (fun _ _ i _=>n1 - (intOf i).toNat)
      case atStart=>exact ⟨0,by omega,rfl,rfl,rfl,Below.refl _ _⟩
      case round =>
       obtain ⟨k,hk,rfl,rfl,rfl,hB⟩:=hrel
       have hsB:=hB.size
       have bAw:=HBX.out.ext hB
       have kAw:=bAw.cell
       have zAw:=bAw.lt
       have bRw:=HBR.out.ext hB
       have kRw:=bRw.cell
       have zRw:=bRw.lt
       have HACw:=hd_ (HAC.out.now hB)
       obtain ⟨ca,hca⟩:∃ b,(r.lv.take k).any (lieO l kn day r)=b:=⟨_,rfl⟩
       obtain ⟨cb,hcb⟩:∃ b,(r.lv.take k).all (lieB l kn day r)=b:=⟨_,rfl⟩
       rw [hca,hcb]
       have HCA:=hd_ hca
       have HCB:=hd_ hcb
       clear hca hcb
       by_cases hlt:k<n1
       ·obtain ⟨b,o,x,hA1,hb,hx,hcx⟩:=(HI7.out.now hB).at_ hlt
        have hwx:=HRW.out x (List.mem_of_getElem? hx)
        have HAN:=hd_ (any_take_succ2 (p:=lieO l kn day r) hx)
        have HAL:=hd_ (all_take_succ (p:=lieB l kn day r) hx)
        have hA1':A1=some ⟨b,o,none⟩:=hA1
        subst hA1'
        have hlk:=(HACw.out.m).look2 key_slips Tryz.underlying115 (a:=(r.src,x)) ⟨hrs,hwx⟩ (zeroInt2 wr)
        rw [getG_enc] at hlk
        clear hx hA1 hwx
        cases hg:getN (opnL l kn).M (r.src,x) with
        | none =>
          rw [hg] at hlk
          simp only [Option.map_none,Option.getD_none,Option.isSome_none] at hlk
          have HP1:Hid (lieO l kn day r x=true):=by show _=_;rw [lieO,hg]
          have HP2:Hid (lieB l kn day r x=false):=by show _=_;rw [lieB,hg]
          clear hg
          cases ca <;> cases cb
          all_goals
           go_wp2_with fail
           go_roundw
           case rel=>exact ⟨k+1,by omega,by go_num,by rw [HAN.out,HCA.out,HP1.out] <;> rfl,by rw [HAL.out,HCB.out,HP2.out] <;> rfl,hB⟩
           case measure=>exact ms_
        | some i =>
          rw [hg] at hlk
          simp only [Option.map_some,Option.getD_some,Option.isSome_some] at hlk
          have hiP:i<Pn:=HACw.out.mP _ _ hg
          obtain ⟨b2,o2,d,hPA,hb2,hd,q0,q1⟩:=HACw.out.p.at_ hiP
          have hPA':PA2=some ⟨b2,o2,none⟩:=hPA
          subst hPA'
          have hgd:(setP l kn).getD i (0,0)=d:=by rw [List.getD_eq_getElem?_getD,hd];rfl
          have HP1:Hid (lieO l kn day r x=decide (day<d.2)):=by show _=_;rw [lieO,hg];simp only [hgd]
          have HP2:Hid (lieB l kn day r x=decide (d.1≤day)):=by show _=_;rw [lieB,hg];simp only [hgd]
          clear hg hd hgd hPA
          cases ca <;> cases cb
          all_goals
           go_wp2_with fail
           go_roundw
           case rel=>exact ⟨k+1,by omega,by go_num,by rw [HAN.out,HCA.out,HP1.out] <;> rfl,by rw [HAL.out,HCB.out,HP2.out] <;> rfl,hB⟩
           case measure=>exact ms_
       ·have hkn:Hid (k=n1):=by show _=_;omega
        have hfa:r.lv.any (lieO l kn day r)=ca:=by
         have:=HCA.out
         rwa [List.take_of_length_le (by rw [hnl.out,hkn.out];exact lr_)] at this
        have hfb:r.lv.all (lieB l kn day r)=cb:=by
         have:=HCB.out
         rwa [List.take_of_length_le (by rw [hnl.out,hkn.out];exact lr_)] at this
        have HFA:=hd_ hfa
        have HFB:=hd_ hfb
        clear hfa hfb
        go_wp2_with (go_at_call 127;refine (p_answer ca cb _).mono ?_;rintro e w1 ⟨rfl,rfl⟩)
        go_ret2
        exact ⟨by rw [HFA.out,HFB.out];rfl,HB7.trans (hB.mono (by omega))⟩
    ·have hres:liesX l src day kn=(0,ve):=by rw [liesX,if_pos hv,hfr];simp only [hve,if_neg he]
     rw [hres]
     have HSE:=hd_ hve
     have HVE:=hd_ he
     have hed:(ve != 0)=true:=by simpa using he
     clear hres hfr hv hve he hrw
     go_enter Tryz.func40,Tryz.ntmps40
     go_wp2_with (first | (go_at_call 18;refine (p_Check l ⟨pA,pn,pc,rA,rn,rc,tA,tn,tc,sA,sn,sc⟩ _ hpn hrn htn hsn (HD.out.now (by exact bel_))).mono ?_;rintro e w1 ⟨rfl,hb1⟩;have HB1:Below w.heap.size w w1:=bt_ (by exact bel_) hb1;have hs1:=HB1.size;have bL0:=BoxA.new w 27 #[.slice pA pn pc,.slice rA rn rc,.slice tA tn tc,.slice sA sn sc];have bL1:=bL0.ext hb1;have kL1:=bL1.cell;have zL1:=bL1.lt;clear hb1) | (go_at_call 100;refine (p_checkDays [day,kn] _ 2 2 _ (by decide) (Rd.new _ #[.int .i64 day,.int .i64 kn] _ 1 2 _ (by simp) rfl)).mono ?_;rintro e w2 ⟨rfl,hb2⟩;have HB2:Below w.heap.size w w2:=bt_ (by exact bel_) hb2;have hs2:=HB2.size;have bL2:=(bL1.alloc _).ext hb2;have kL2:=bL2.cell;have zL2:=bL2.lt;clear kL1 zL1;clear hb2) | (go_at_call 99;refine (p_first [errI (ledB l) 24,errI (daysOk [day,kn]) 6] 0 _ 2 2 _ (by decide) (Rd.new _ #[.int .i64 (errI (ledB l) 24),.int .i64 (errI (daysOk [day,kn]) 6)] _ 1 2 _ (by simp) rfl) HV.out).mono ?_;rintro e w1 ⟨rfl,rfl⟩) | (go_at_call 101;refine (p_openA l ⟨pA,pn,pc,rA,rn,rc,tA,tn,tc,sA,sn,sc⟩ kn _ HLO.out (HD.out.now (by exact bel_))).mono ?_;rintro e w5 ⟨RA,Rn,Rc,SA,Sn,Sc,bm,TA,Tn,Tc,PA,Pn,Pc,rfl,hb5,hO⟩;have HB5:Below w.heap.size w w5:=bt_ (by exact bel_) hb5;have hs5:=HB5.size;have HO:=hd_ hO;have bL5:=(bL2.alloc _).ext hb5;have kL5:=bL5.cell;have zL5:=bL5.lt;clear kL2 zL2;clear hO hb5) | (go_at_call 114;have hrc:=p_receipt (cntR l kn) ⟨⟨pA,pn,pc,rA,rn,rc,tA,tn,tc,sA,sn,sc⟩,kn,RA,Rn,Rc,SA,Sn,Sc,bm,TA,Tn,Tc,PA,Pn,Pc⟩ src (w5.alloc (.cells #[.slice pA pn pc,.slice rA rn rc,.slice tA tn tc,.slice sA sn sc,.int .i64 kn,.slice RA Rn Rc,.slice SA Sn Sc,.map (some bm),.slice TA Tn Tc,.slice PA Pn Pc] 119)) HO.out.acc.nR ((HO.out.now (show Below w5.heap.size w5 (w5.alloc (.cells #[.slice pA pn pc,.slice rA rn rc,.slice tA tn tc,.slice sA sn sc,.int .i64 kn,.slice RA Rn Rc,.slice SA Sn Sc,.map (some bm),.slice TA Tn Tc,.slice PA Pn Pc] 119)) by exact bel_)).acc.r);rw [HFR.out] at hrc;refine hrc.mono ?_;clear hrc;rintro e w6 ⟨hb6,A1,n1,c1,rfl,hi1,hc1,hm1⟩;have HW6:Below w5.heap.size w5 w6:=bt_ (show Below w5.heap.size w5 _ by exact bel_) hb6;have HB6:Below w.heap.size w w6:=HB5.trans (HW6.mono hs5);have hs6:=HB6.size;have hs56:=HW6.size;have bA6:=(BoxA.new w5 119 #[.slice pA pn pc,.slice rA rn rc,.slice tA tn tc,.slice sA sn sc,.int .i64 kn,.slice RA Rn Rc,.slice SA Sn Sc,.map (some bm),.slice TA Tn Tc,.slice PA Pn Pc]).ext hb6;have k6:=bA6.cell;have z6:=bA6.lt;have HI1:=hd_ (hi1.now hb6);have hn1:n1≤1000000:=(by rw [← hi1.len];exact HRL.out);clear hi1 hb6 kL5 zL5) | (go_at_call 112;refine (p_settleNG l kn ⟨⟨pA,pn,pc,rA,rn,rc,tA,tn,tc,sA,sn,sc⟩,kn,RA,Rn,Rc,SA,Sn,Sc,bm,TA,Tn,Tc,PA,Pn,Pc⟩ ve w5 (w6.alloc (.cells #[.int .i64 r.src,.int .i64 r.bor,.int .i64 r.pap,.slice A1 n1 c1,.int .i64 r.day,.int .i64 r.kn,.int .i64 r.un] 32)) HLO.out HO.out (HW6.trans ((show Below w6.heap.size w6 (w6.alloc (.cells #[.int .i64 r.src,.int .i64 r.bor,.int .i64 r.pap,.slice A1 n1 c1,.int .i64 r.day,.int .i64 r.kn,.int .i64 r.un] 32)) by exact bel_).mono hs56)) (bA6.alloc _) HSE.out HVE.out).mono ?_;rintro e w7 ⟨rfl,hb7⟩;have HB7:Below w.heap.size w w7:=HB6.trans ((bt_ (show Below w6.heap.size w6 (w6.alloc (.cells #[.int .i64 r.src,.int .i64 r.bor,.int .i64 r.pap,.slice A1 n1 c1,.int .i64 r.day,.int .i64 r.kn,.int .i64 r.un] 32)) by exact bel_) hb7).mono hs6);have hs7:=HB7.size))
     go_ret2
     exact ⟨rfl,HB7⟩
 ·have hres:liesX l src day kn=(0,v):=by rw [liesX,if_neg (by rw [hv];exact hv0),hv]
  rw [hres]
  have hv1:(v != 0)=true:=by simpa using hv0
  clear hres hv hv0
  go_enter Tryz.func40,Tryz.ntmps40
  go_wp2_with (first | (go_at_call 18;refine (p_Check l ⟨pA,pn,pc,rA,rn,rc,tA,tn,tc,sA,sn,sc⟩ _ hpn hrn htn hsn (HD.out.now (by exact bel_))).mono ?_;rintro e w1 ⟨rfl,hb1⟩;have HB1:Below w.heap.size w w1:=bt_ (by exact bel_) hb1;have hs1:=HB1.size;have bL0:=BoxA.new w 27 #[.slice pA pn pc,.slice rA rn rc,.slice tA tn tc,.slice sA sn sc];have bL1:=bL0.ext hb1;have kL1:=bL1.cell;have zL1:=bL1.lt;clear hb1) | (go_at_call 100;refine (p_checkDays [day,kn] _ 2 2 _ (by decide) (Rd.new _ #[.int .i64 day,.int .i64 kn] _ 1 2 _ (by simp) rfl)).mono ?_;rintro e w2 ⟨rfl,hb2⟩;have HB2:Below w.heap.size w w2:=bt_ (by exact bel_) hb2;have hs2:=HB2.size;have bL2:=(bL1.alloc _).ext hb2;have kL2:=bL2.cell;have zL2:=bL2.lt;clear kL1 zL1;clear hb2) | (go_at_call 99;refine (p_first [errI (ledB l) 24,errI (daysOk [day,kn]) 6] v _ 2 2 _ (by decide) (Rd.new _ #[.int .i64 (errI (ledB l) 24),.int .i64 (errI (daysOk [day,kn]) 6)] _ 1 2 _ (by simp) rfl) HV.out).mono ?_;rintro e w1 ⟨rfl,rfl⟩))
  go_ret2
  exact ⟨rfl,by exact bel_⟩
end Go.Proofs.YtoiompoapikkbaaGreat
