/- Layer 2 of the texts that LoanPlaces takes: Pbrq. -/
import Derived.Test.YtoiompoapikkbaaGreatPbqq
set_option linter.unusedVariables false
set_option linter.unusedSimpArgs false
set_option maxHeartbeats 16000000
namespace Go.Proofs.YtoiompoapikkbaaGreat
open Go.RowKit Go.Maps
theorem zip_all {days:List Int} {P:List (Int × Int)} {k:Nat} {y:Int} {d:Int × Int} (hy:days[k]?=some y) (hd:P[k]?=some d):((List.zip days P).take (k+1)).all (fun x=>withinB x.1 x.2.1 x.2.2)=(((List.zip days P).take k).all (fun x=>withinB x.1 x.2.1 x.2.2) && withinB y d.1 d.2):=by
 have h:(List.zip days P)[k]?=some (y,d):=by rw [List.getElem?_zip_eq_some];exact ⟨hy,hd⟩
 rw [take_snoc_some h,List.all_append]
 simp
theorem zip_false {days:List Int} {P:List (Int × Int)} {k:Nat} {y:Int} {d:Int × Int} (hy:days[k]?=some y) (hd:P[k]?=some d) (h:withinB y d.1 d.2=false):trueD days P=false:=by
 have hz:(List.zip days P)[k]?=some (y,d):=by rw [List.getElem?_zip_eq_some];exact ⟨hy,hd⟩
 rw [trueD,Bool.eq_false_iff]
 intro hc
 have:=List.all_eq_true.1 hc _ (List.mem_of_getElem? hz)
 rw [h] at this
 cases this
set_option maxRecDepth 10000 in
theorem r_isTrue (l:Led) (x:Lsl) (kn:Int) (days:List Int) (D:Option Addr) (m c0:Nat) (q:Bool) (w:World) (hl:ledB l=true) (hd:LedIn w w.heap.size x l) (hm:m≤9223372036854775807) (hdy:Is w w.heap.size D m days) (hq:decide (trueE l kn days=0)=q) :
 Calls Tryz.prog 135 #[.agg #[.slice x.pA x.pn x.pc,.slice x.rA x.rn x.rc,.slice x.tA x.tn x.tc,.slice x.sA x.sn x.sc],.int .i64 kn,.slice D m c0] w (fun e w'=>e=.returned (.bool q)∧Below w.heap.size w w'):=by
 obtain ⟨pA,pn,pc,rA,rn,rc,tA,tn,tc,sA,sn,sc⟩:=x
 have htl:l.rt.length=tn:=hd.t.len
 have hml:days.length=m:=hdy.len
 have HTL:=hd_ htl
 have HML:=hd_ hml
 have HLB:=hd_ hl
 have HD:=hd_ hd
 have HDY:=hd_ hdy
 have htn6:tn≤60:=by have h1:=(led_ok hl).tn;omega
 obtain ⟨se,hse⟩:∃ se,setE l kn=se:=⟨_,rfl⟩
 have HSE:=hd_ hse
 clear hd hdy hl
 by_cases hs0:se=0
 rotate_left
 ·have hq2:q=false:=by
   rw [← hq,trueE,if_neg (by rintro ⟨-,h⟩;exact hs0 (hse.symm.trans h))]
   rfl
  subst hq2
  have hs1:(se != 0)=true:=by simpa using hs0
  clear hq hse hs0 htl hml
  go_enter Tryz.func135,Tryz.ntmps135
  go_wp2_with (go_at_call 113;refine (r_soundE l ⟨pA,pn,pc,rA,rn,rc,tA,tn,tc,sA,sn,sc⟩ kn se _ HLB.out (HD.out.now (by exact bel_)) HSE.out).mono ?_;rintro e w3 ⟨B,Tc,AD,nD,cD,rfl,hb3⟩;have HB3:Below w.heap.size w w3:=bt_ (by exact bel_) hb3;have hs3:=HB3.size;have bL3:=((BoxA.new w 27 #[.slice pA pn pc,.slice rA rn rc,.slice tA tn tc,.slice sA sn sc]).ext hb3).alloc (.cells #[.slice pA pn pc,.slice rA rn rc,.slice tA tn tc,.slice sA sn sc,.int .i64 kn,.slice (some ⟨B,0,none⟩) tn Tc,.slice AD nD cD] 127);have kL3:=bL3.cell;have zL3:=bL3.lt;clear hb3)
  go_ret
  exact ⟨rfl,by exact bel_⟩
 subst hs0
 by_cases hmt:m=tn
 rotate_left
 ·have hq2:q=false:=by
   rw [← hq,trueE,if_neg (by rintro ⟨h,-⟩;omega)]
   rfl
  subst hq2
  have hmn:((m:Int) != (tn:Int))=true:=by simp;omega
  clear hq hse htl hml
  go_enter Tryz.func135,Tryz.ntmps135
  go_wp2_with (go_at_call 113;refine (r_soundZ l ⟨pA,pn,pc,rA,rn,rc,tA,tn,tc,sA,sn,sc⟩ kn _ HLB.out (HD.out.now (by exact bel_)) HSE.out).mono ?_;rintro e w3 ⟨B,Tc,A5,c5,rfl,hb3,hT3,hD3⟩;have HB3:Below w.heap.size w w3:=bt_ (by exact bel_) hb3;have hs3:=HB3.size;have bL3:=((BoxA.new w 27 #[.slice pA pn pc,.slice rA rn rc,.slice tA tn tc,.slice sA sn sc]).ext hb3).alloc (.cells #[.slice pA pn pc,.slice rA rn rc,.slice tA tn tc,.slice sA sn sc,.int .i64 kn,.slice (some ⟨B,0,none⟩) tn Tc,.slice A5 tn c5] 127);have kL3:=bL3.cell;have zL3:=bL3.lt;have HD3:=hd_ hD3;clear hb3 hT3 hD3)
  go_ret
  exact ⟨rfl,by exact bel_⟩
 obtain rfl:tn=m:=hmt.symm
 have hqt:trueD days (setP l kn)=q:=by
  rw [← hq,trueE,if_pos ⟨by omega,hse⟩]
  cases trueD days (setP l kn) <;> rfl
 have HQT:=hd_ hqt
 have hmm:((tn:Int) != (tn:Int))=false:=by simp
 clear hq hse htl hml hqt
 go_enter Tryz.func135,Tryz.ntmps135
 go_wp2_with (go_at_call 113;refine (r_soundZ l ⟨pA,pn,pc,rA,rn,rc,tA,tn,tc,sA,sn,sc⟩ kn _ HLB.out (HD.out.now (by exact bel_)) HSE.out).mono ?_;rintro e w3 ⟨B,Tc,A5,c5,rfl,hb3,hT3,hD3⟩;have HB3:Below w.heap.size w w3:=bt_ (by exact bel_) hb3;have hs3:=HB3.size;have bL3:=((BoxA.new w 27 #[.slice pA pn pc,.slice rA rn rc,.slice tA tn tc,.slice sA sn sc]).ext hb3).alloc (.cells #[.slice pA pn pc,.slice rA rn rc,.slice tA tn tc,.slice sA sn sc,.int .i64 kn,.slice (some ⟨B,0,none⟩) tn Tc,.slice A5 tn c5] 127);have kL3:=bL3.cell;have zL3:=bL3.lt;have HD3:=hd_ hD3;clear hb3 hT3 hD3)
 have HBV:Hid (BoxA (w3.alloc (.cells #[.slice pA pn pc,.slice rA rn rc,.slice tA tn tc,.slice sA sn sc,.int .i64 kn,.slice (some ⟨B,0,none⟩) tn Tc,.slice A5 tn c5] 127)) w3.heap.size 127 #[.slice pA pn pc,.slice rA rn rc,.slice tA tn tc,.slice sA sn sc,.int .i64 kn,.slice (some ⟨B,0,none⟩) tn Tc,.slice A5 tn c5]):=by show BoxA _ _ _ _;exact BoxA.new _ _ _
 have HW3:Below w3.heap.size w3 (w3.alloc (.cells #[.slice pA pn pc,.slice rA rn rc,.slice tA tn tc,.slice sA sn sc,.int .i64 kn,.slice (some ⟨B,0,none⟩) tn Tc,.slice A5 tn c5] 127)):=by exact bel_
 obtain ⟨wv,hwv⟩:∃ wv,w3.alloc (.cells #[.slice pA pn pc,.slice rA rn rc,.slice tA tn tc,.slice sA sn sc,.int .i64 kn,.slice (some ⟨B,0,none⟩) tn Tc,.slice A5 tn c5] 127)=wv:=⟨_,rfl⟩
 rw [hwv] at HBV HW3
 have hs3v:=HW3.size
 have HWV:Below w.heap.size w wv:=HB3.trans (HW3.mono hs3)
 have hsv:=HWV.size
 (try rw [hwv])
 clear hwv kL3 zL3 bL3
 go_loopw [9] (fun i wr=>∃ k:Nat,k≤tn∧i=.int .i64 k∧((List.zip days (setP l kn)).take k).all (fun x=>withinB x.1 x.2.1 x.2.2)=true∧Below wv.heap.size wv wr) (fun i _=>tn - (intOf i).toNat)
 case atStart=>exact ⟨0,by omega,rfl,rfl,Below.refl _ _⟩
 case round =>
  obtain ⟨k,hk,rfl,hall,hQ⟩:=hrel
  have HALL:=hd_ hall
  have hBw:Below w.heap.size w wr:=HWV.trans (hQ.mono hsv)
  have h3w:Below w3.heap.size w3 wr:=HW3.trans (hQ.mono hs3v)
  have hsr:=hBw.size
  have hs3r:=h3w.size
  have hsq:=hQ.size
  have bV:=HBV.out.ext hQ
  have kV:=bV.cell
  have zV:=bV.lt
  clear hall bV
  by_cases hlt:k<tn
  ·obtain ⟨b1,o1,y,hA1,hb1x,hy,hcy⟩:=HDY.out.at_ hlt
   obtain ⟨bd,od,d,hA5,hbd,hdx,q0,q1⟩:=HD3.out.at_ hlt
   have cy:=(hBw.cell (p:=⟨b1,o1+k,none⟩) hb1x).trans hcy
   have e0:=(h3w.cell (p:=⟨bd,od+k*2,none⟩) hbd).trans q0
   have e1:=(h3w.cell (p:=⟨bd,od+k*2+1,none⟩) hbd).trans q1
   have hb1r:b1<wr.heap.size:=by omega
   have hbdr:bd<wr.heap.size:=by omega
   subst hA1 hA5
   obtain ⟨qi,hqi⟩:∃ qi,withinB y d.1 d.2=qi:=⟨_,rfl⟩
   have HQI:=hd_ hqi
   cases qi with
   | false =>
     have HF:Hid (q=false):=by show _=_;rw [← HQT.out];exact zip_false hy hdx hqi
     clear hqi hy hdx q0 q1 hcy
     go_wp2_with fail
     (refine rg_ ?_;(repeat (go_big_quiet_step ((first | (go_at_call 73;exact Calls.grow_same (r_In2_v _ _ _ false _ HQI.out))))));refine qn_ fun w1 hb1 hc1 hf1=>?_)
     go_wp2_with fail
     go_ret
     rw [HF.out]
     exact ⟨rfl,hBw.trans (hb1.mono hsr)⟩
   | true =>
     have HN:Hid (((List.zip days (setP l kn)).take (k+1)).all (fun x=>withinB x.1 x.2.1 x.2.2)=true):=by show _=_;rw [zip_all hy hdx,HALL.out,hqi];rfl
     clear hqi hy hdx q0 q1 hcy
     go_wp2_with fail
     (refine rg_ ?_;(repeat (go_big_quiet_step ((first | (go_at_call 73;exact Calls.grow_same (r_In2_v _ _ _ true _ HQI.out))))));refine qn_ fun w1 hb1 hc1 hf1=>?_)
     go_wp2_with fail
     go_roundw
     case rel=>exact ⟨k+1,by omega,by go_num,HN.out,hQ.trans (hb1.mono hsq)⟩
     case measure=>exact ms_
  ·obtain rfl:k=tn:=by omega
   have HF:Hid (q=true):=by
    show _=_
    rw [← HQT.out,trueD,← HALL.out,List.take_of_length_le]
    rw [List.length_zip]
    have:=HML.out
    omega
   clear kV zV
   go_wp2_with fail
   go_ret
   rw [HF.out]
   exact ⟨rfl,hBw⟩
set_option maxRecDepth 10000 in
theorem r_CheckTrue (l:Led) (x:Lsl) (kn:Int) (days:List Int) (D:Option Addr) (m c0:Nat) (w:World) (hf:x.fit) (hd:LedIn w w.heap.size x l) (hm:m≤9223372036854775807) (hdy:Is w w.heap.size D m days) :
 Calls Tryz.prog 52 #[.agg #[.slice x.pA x.pn x.pc,.slice x.rA x.rn x.rc,.slice x.tA x.tn x.tc,.slice x.sA x.sn x.sc],.int .i64 kn,.slice D m c0] w (fun e w'=>e=.returned (.int .i64 (checkTrueX l kn days))∧Below w.heap.size w w'):=by
 obtain ⟨pA,pn,pc,rA,rn,rc,tA,tn,tc,sA,sn,sc⟩:=x
 have HD:=hd_ hd
 have HF:=hd_ hf
 have HDY:=hd_ hdy
 clear hd hf hdy
 obtain ⟨v,hv⟩:∃ v,preE l [kn]=v:=⟨_,rfl⟩
 have HV:=hd_ hv
 by_cases hv0:v=0
 rotate_left
 ·have hres:checkTrueX l kn days=v:=by rw [checkTrueX,if_neg (by rw [hv];exact hv0),hv]
  rw [hres]
  have hv1:(v != 0)=true:=by simpa using hv0
  clear hres hv hv0
  go_enter Tryz.func52,Tryz.ntmps52
  go_wp2_with (go_at_call 102;refine (r_asked_v l ⟨pA,pn,pc,rA,rn,rc,tA,tn,tc,sA,sn,sc⟩ [kn] v _ 1 1 _ HF.out (HD.out.now (by exact bel_)) (by decide) (Rd.new _ #[.int .i64 kn] _ 1 1 _ (by simp) rfl) HV.out).mono ?_;rintro e w1 ⟨rfl,hb1⟩;have HB1:Below w.heap.size w w1:=bt_ (by exact bel_) hb1;have hs1:=HB1.size;have bL1:=((BoxA.new w 27 #[.slice pA pn pc,.slice rA rn rc,.slice tA tn tc,.slice sA sn sc]).alloc _).ext hb1;have kL1:=bL1.cell;have zL1:=bL1.lt;clear hb1)
  go_ret
  exact ⟨rfl,by exact bel_⟩
 subst hv0
 have HLB:=hd_ (pre_zero hv).1
 have hct:checkTrueX l kn days=trueE l kn days:=by rw [checkTrueX,if_pos hv]
 rw [hct]
 have ht:trueE l kn days=0∨trueE l kn days=29:=by
  unfold trueE
  split
  ·cases trueD days (setP l kn)
   ·exact .inr rfl
   ·exact .inl rfl
  ·exact .inr rfl
 rcases ht with h0 | h0
 ·have HQ:Hid (decide (trueE l kn days=0)=true):=by show _=_;rw [h0];rfl
  rw [h0]
  clear hct hv h0
  go_enter Tryz.func52,Tryz.ntmps52
  go_wp2_with (first | (go_at_call 102;refine (r_asked_v l ⟨pA,pn,pc,rA,rn,rc,tA,tn,tc,sA,sn,sc⟩ [kn] 0 _ 1 1 _ HF.out (HD.out.now (by exact bel_)) (by decide) (Rd.new _ #[.int .i64 kn] _ 1 1 _ (by simp) rfl) HV.out).mono ?_;rintro e w1 ⟨rfl,hb1⟩;have HB1:Below w.heap.size w w1:=bt_ (by exact bel_) hb1;have hs1:=HB1.size;have bL1:=((BoxA.new w 27 #[.slice pA pn pc,.slice rA rn rc,.slice tA tn tc,.slice sA sn sc]).alloc _).ext hb1;have kL1:=bL1.cell;have zL1:=bL1.lt;clear hb1) | (go_at_call 135;refine (r_isTrue l ⟨pA,pn,pc,rA,rn,rc,tA,tn,tc,sA,sn,sc⟩ kn days D m c0 true _ HLB.out (HD.out.now (by exact bel_)) hm (HDY.out.now (by exact bel_)) HQ.out).mono ?_;rintro e w2 ⟨rfl,hb2⟩;have HB2:Below w.heap.size w w2:=bt_ (by exact bel_) hb2))
  go_ret
  exact ⟨rfl,HB2⟩
 ·have HQ:Hid (decide (trueE l kn days=0)=false):=by show _=_;rw [h0];rfl
  rw [h0]
  clear hct hv h0
  go_enter Tryz.func52,Tryz.ntmps52
  go_wp2_with (first | (go_at_call 102;refine (r_asked_v l ⟨pA,pn,pc,rA,rn,rc,tA,tn,tc,sA,sn,sc⟩ [kn] 0 _ 1 1 _ HF.out (HD.out.now (by exact bel_)) (by decide) (Rd.new _ #[.int .i64 kn] _ 1 1 _ (by simp) rfl) HV.out).mono ?_;rintro e w1 ⟨rfl,hb1⟩;have HB1:Below w.heap.size w w1:=bt_ (by exact bel_) hb1;have hs1:=HB1.size;have bL1:=((BoxA.new w 27 #[.slice pA pn pc,.slice rA rn rc,.slice tA tn tc,.slice sA sn sc]).alloc _).ext hb1;have kL1:=bL1.cell;have zL1:=bL1.lt;clear hb1) | (go_at_call 135;refine (r_isTrue l ⟨pA,pn,pc,rA,rn,rc,tA,tn,tc,sA,sn,sc⟩ kn days D m c0 false _ HLB.out (HD.out.now (by exact bel_)) hm (HDY.out.now (by exact bel_)) HQ.out).mono ?_;rintro e w2 ⟨rfl,hb2⟩;have HB2:Below w.heap.size w w2:=bt_ (by exact bel_) hb2))
  go_ret
  exact ⟨rfl,HB2⟩
end Go.Proofs.YtoiompoapikkbaaGreat
namespace Go.Proofs.YtoiompoapikkbaaGreat
open Go.ChangeShapes Go.WideShapes Go.ChangeAt Go.RowKit Go.Deep Go.Joins Go.Maps
theorem c2_paper:Tryz.prog.cellsOf 29=2:=by kernel_rfl
theorem c7_rcpt:Tryz.prog.cellsOf 32=7:=by kernel_rfl
theorem c8_retn:Tryz.prog.cellsOf 36=8:=by kernel_rfl
theorem c7_sight:Tryz.prog.cellsOf 38=7:=by kernel_rfl
theorem c1_pps:Tryz.prog.cellsOf 22=1:=by kernel_rfl
theorem c1_rcs:Tryz.prog.cellsOf 23=1:=by kernel_rfl
theorem c1_rts:Tryz.prog.cellsOf 24=1:=by kernel_rfl
theorem c1_sgs:Tryz.prog.cellsOf 25=1:=by kernel_rfl
theorem c4_ledger:Tryz.prog.cellsOf 27=4:=by kernel_rfl
theorem lenx4 {α:Type}:∀ {l:List α},l.length=4→∃ a0 a1 a2 a3,l=[a0,a1,a2,a3]
 | [a0,a1,a2,a3],_=>⟨a0,a1,a2,a3,rfl⟩
theorem lenx7 {α:Type}:∀ {l:List α},l.length=7→∃ a0 a1 a2 a3 a4 a5 a6,l=[a0,a1,a2,a3,a4,a5,a6]
 | [a0,a1,a2,a3,a4,a5,a6],_=>⟨a0,a1,a2,a3,a4,a5,a6,rfl⟩
theorem lenx8 {α:Type}:∀ {l:List α},l.length=8→∃ a0 a1 a2 a3 a4 a5 a6 a7,l=[a0,a1,a2,a3,a4,a5,a6,a7]
 | [a0,a1,a2,a3,a4,a5,a6,a7],_=>⟨a0,a1,a2,a3,a4,a5,a6,a7,rfl⟩
section
variable {H:Type} {enc:TypeId × Value→H} {w:World} {base:Nat} {spare:Nat→Bool} {held:Bool} {fuel:Nat} {cs:List Value} {x:DataW H × List MemPlace}
theorem paper_of (h:DataW.trod enc Tryz.prog w base spare held fuel 29 cs=some x):∃ v:Ppr,cs=ppC v:=by
 obtain ⟨xs,n,_,_,hl,hx,hf⟩:=DataW.trod_struct Tryz.underlying29 h
 rw [c2_paper] at hl
 obtain ⟨y0,e0⟩:=some_at hx (i:=0) (by decide)
 obtain ⟨y1,e1⟩:=some_at hx (i:=1) (by decide)
 obtain ⟨c0,c1,rfl⟩:=len2 hl
 obtain ⟨a,ha⟩:=int_of ((hf 0 _ rfl).trans e0)
 obtain ⟨b,hb⟩:=int_of ((hf 1 _ rfl).trans e1)
 simp [c1_int] at ha hb
 exact ⟨⟨a,b⟩,by rw [ha,hb]⟩
theorem sight_of (h:DataW.trod enc Tryz.prog w base spare held fuel 38 cs=some x):∃ v:Sgt,cs=sgC v:=by
 obtain ⟨xs,n,_,_,hl,hx,hf⟩:=DataW.trod_struct Tryz.underlying38 h
 rw [c7_sight] at hl
 obtain ⟨y0,e0⟩:=some_at hx (i:=0) (by decide)
 obtain ⟨y1,e1⟩:=some_at hx (i:=1) (by decide)
 obtain ⟨y2,e2⟩:=some_at hx (i:=2) (by decide)
 obtain ⟨y3,e3⟩:=some_at hx (i:=3) (by decide)
 obtain ⟨y4,e4⟩:=some_at hx (i:=4) (by decide)
 obtain ⟨y5,e5⟩:=some_at hx (i:=5) (by decide)
 obtain ⟨y6,e6⟩:=some_at hx (i:=6) (by decide)
 obtain ⟨c0,c1,c2,c3,c4,c5,c6,rfl⟩:=lenx7 hl
 obtain ⟨a0,h0⟩:=int_of ((hf 0 _ rfl).trans e0)
 obtain ⟨a1,h1⟩:=int_of ((hf 1 _ rfl).trans e1)
 obtain ⟨a2,h2⟩:=int_of ((hf 2 _ rfl).trans e2)
 obtain ⟨a3,h3⟩:=int_of ((hf 3 _ rfl).trans e3)
 obtain ⟨a4,h4⟩:=int_of ((hf 4 _ rfl).trans e4)
 obtain ⟨a5,h5⟩:=int_of ((hf 5 _ rfl).trans e5)
 obtain ⟨a6,h6⟩:=int_of ((hf 6 _ rfl).trans e6)
 simp [c1_int] at h0 h1 h2 h3 h4 h5 h6
 exact ⟨⟨a0,a1,a2,a3,a4,a5,a6⟩,by simp [h0,h1,h2,h3,h4,h5,h6]⟩
theorem rcpt_of (h:DataW.trod enc Tryz.prog w base spare held fuel 32 cs=some x):∃ v:Rv,cs=rvC v∧(Is w w.heap.size v.A v.n v.r.lv∧v.n≤v.c∧v.c≤maxLen):=by
 obtain ⟨xs,n,_,_,hl,hx,hf⟩:=DataW.trod_struct Tryz.underlying32 h
 rw [c7_rcpt] at hl
 obtain ⟨y0,e0⟩:=some_at hx (i:=0) (by decide)
 obtain ⟨y1,e1⟩:=some_at hx (i:=1) (by decide)
 obtain ⟨y2,e2⟩:=some_at hx (i:=2) (by decide)
 obtain ⟨y3,e3⟩:=some_at hx (i:=3) (by decide)
 obtain ⟨y4,e4⟩:=some_at hx (i:=4) (by decide)
 obtain ⟨y5,e5⟩:=some_at hx (i:=5) (by decide)
 obtain ⟨y6,e6⟩:=some_at hx (i:=6) (by decide)
 obtain ⟨c0,c1,c2,c3,c4,c5,c6,rfl⟩:=lenx7 hl
 obtain ⟨a0,h0⟩:=int_of ((hf 0 _ rfl).trans e0)
 obtain ⟨a1,h1⟩:=int_of ((hf 1 _ rfl).trans e1)
 obtain ⟨a2,h2⟩:=int_of ((hf 2 _ rfl).trans e2)
 obtain ⟨a4,h4⟩:=int_of ((hf 4 _ rfl).trans e4)
 obtain ⟨a5,h5⟩:=int_of ((hf 5 _ rfl).trans e5)
 obtain ⟨a6,h6⟩:=int_of ((hf 6 _ rfl).trans e6)
 obtain ⟨A,m,cc,h3,g1,g2,l,g3⟩:=ints_cell ((hf 3 _ rfl).trans e3)
 simp [c1_int,c1_ints] at h0 h1 h2 h3 h4 h5 h6
 exact ⟨⟨⟨a0,a1,a2,l,a4,a5,a6⟩,A,m,cc⟩,by simp [h0,h1,h2,h3,h4,h5,h6],g3,g1,g2⟩
theorem retn_of (h:DataW.trod enc Tryz.prog w base spare held fuel 36 cs=some x):∃ v:Tv,cs=tvC v∧(Is w w.heap.size v.A v.n v.r.lv∧v.n≤v.c∧v.c≤maxLen):=by
 obtain ⟨xs,n,_,_,hl,hx,hf⟩:=DataW.trod_struct Tryz.underlying36 h
 rw [c8_retn] at hl
 obtain ⟨y0,e0⟩:=some_at hx (i:=0) (by decide)
 obtain ⟨y1,e1⟩:=some_at hx (i:=1) (by decide)
 obtain ⟨y2,e2⟩:=some_at hx (i:=2) (by decide)
 obtain ⟨y3,e3⟩:=some_at hx (i:=3) (by decide)
 obtain ⟨y4,e4⟩:=some_at hx (i:=4) (by decide)
 obtain ⟨y5,e5⟩:=some_at hx (i:=5) (by decide)
 obtain ⟨y6,e6⟩:=some_at hx (i:=6) (by decide)
 obtain ⟨c0,c1,c2,c3,c4,c5,c6,c7,rfl⟩:=lenx8 hl
 obtain ⟨a0,h0⟩:=int_of ((hf 0 _ rfl).trans e0)
 obtain ⟨a1,h1⟩:=int_of ((hf 1 _ rfl).trans e1)
 obtain ⟨a2,h2⟩:=int_of ((hf 2 _ rfl).trans e2)
 obtain ⟨a5,h5⟩:=int_of ((hf 5 _ rfl).trans e5)
 obtain ⟨a6,h6⟩:=int_of ((hf 6 _ rfl).trans e6)
 obtain ⟨A,m,cc,h3,g1,g2,l,g3⟩:=ints_cell ((hf 3 _ rfl).trans e3)
 obtain ⟨lo,hi,h4⟩:=range_of ((hf 4 _ rfl).trans e4)
 simp [c1_int,c1_ints,c2_range] at h0 h1 h2 h3 h4 h5 h6
 exact ⟨⟨⟨a0,a1,a2,l,lo,hi,a5,a6⟩,A,m,cc⟩,by simp [h0,h1,h2,h3,h4,h5,h6],g3,g1,g2⟩
theorem slice_cell {t e:TypeId} (ht:Tryz.prog.underlying t=some (.slice e)) (h:DataW.trod enc Tryz.prog w base spare held fuel t cs=some x):∃ A n c,cs=(Value.slice A n c).cells.toList:=by
 rcases open_slice ht h with ⟨rfl,_⟩ | ⟨a,len,cap,m,nn,D,Pl,rfl,_⟩
 ·exact ⟨none,0,0,rfl⟩
 ·exact ⟨some a,len,cap,rfl⟩
theorem pps_of {A:Option Addr} {n c:Nat} (h:DataW.trod enc Tryz.prog w base spare held fuel 22 (Value.slice A n c).cells.toList=some x):n≤c∧c≤maxLen∧∃ l,Pps w w.heap.size A n l:=by
 obtain ⟨h1,h2,l,hl,h3⟩:=row_of ppC (fun _=>rfl) (by decide) Tryz.underlying22 c2_paper (fun _ _ _ h=>paper_of h) h
 exact ⟨h1,h2,l,sq_pp h3 hl⟩
theorem sgs_of {A:Option Addr} {n c:Nat} (h:DataW.trod enc Tryz.prog w base spare held fuel 25 (Value.slice A n c).cells.toList=some x):n≤c∧c≤maxLen∧∃ l,Sgs w w.heap.size A n l:=by
 obtain ⟨h1,h2,l,hl,h3⟩:=row_of sgC (fun _=>rfl) (by decide) Tryz.underlying25 c7_sight (fun _ _ _ h=>sight_of h) h
 exact ⟨h1,h2,l,sq_sg h3 hl⟩
theorem rcs_of2 {A:Option Addr} {n c:Nat} (h:DataW.trod enc Tryz.prog w base spare held fuel 23 (Value.slice A n c).cells.toList=some x):n≤c∧c≤maxLen∧∃ l,Rcs w w.heap.size A n l:=by
 obtain ⟨h1,h2,l,hl,h3⟩:=row_of (α:={ v:Rv // Is w w.heap.size v.A v.n v.r.lv∧v.n≤v.c∧v.c≤maxLen }) (fun v=>rvC v.1) (fun _=>rfl) (by decide) Tryz.underlying23 c7_rcpt (fun _ _ _ h=>by obtain ⟨v,e,hv⟩:=rcpt_of h;exact ⟨⟨v,hv⟩,e⟩) h
 refine ⟨h1,h2,(l.map Subtype.val).map Rv.r,rcs_of (sq_rv ?_ (by rw [List.length_map];exact hl) fun v hv=>?_)⟩
 ·unfold rvCells
  rw [List.flatMap_map]
  exact h3
 ·obtain ⟨u,_,rfl⟩:=List.mem_map.1 hv
  exact u.2
theorem rts_of2 {A:Option Addr} {n c:Nat} (h:DataW.trod enc Tryz.prog w base spare held fuel 24 (Value.slice A n c).cells.toList=some x):n≤c∧c≤maxLen∧∃ l,Rts w w.heap.size A n l:=by
 obtain ⟨h1,h2,l,hl,h3⟩:=row_of (α:={ v:Tv // Is w w.heap.size v.A v.n v.r.lv∧v.n≤v.c∧v.c≤maxLen }) (fun v=>tvC v.1) (fun _=>rfl) (by decide) Tryz.underlying24 c8_retn (fun _ _ _ h=>by obtain ⟨v,e,hv⟩:=retn_of h;exact ⟨⟨v,hv⟩,e⟩) h
 refine ⟨h1,h2,(l.map Subtype.val).map Tv.r,rts_of ?_ (by rw [List.length_map];exact hl) fun v hv=>?_⟩
 ·rw [List.flatMap_map]
  exact h3
 ·obtain ⟨u,_,rfl⟩:=List.mem_map.1 hv
  exact u.2
end
section
variable {H:Type} {enc:TypeId × Value→H} {w:World} {base:Nat} {spare:Nat→Bool} {held:Bool} {r:Reach} {b0:Nat} {v:Value} {d:DataW H} {p:List MemPlace}
set_option maxRecDepth 100000 in
theorem ledger_of (hv:Value.okWide Tryz.prog w r b0 27 v) (h:DataW.Trod enc Tryz.prog w base spare held 27 v d p):∃ (y:Lsl) (l:Led),v=.agg #[.slice y.pA y.pn y.pc,.slice y.rA y.rn y.rc,.slice y.tA y.tn y.tc,.slice y.sA y.sn y.sc]∧y.fit∧LedIn w w.heap.size y l:=by
 obtain ⟨cs,rfl,_⟩:=okWide_struct Tryz.underlying27 hv
 obtain ⟨fuel,hf0⟩:=h
 simp only [Value.cells] at hf0
 obtain ⟨xs,n,_,_,hl,hx,hf⟩:=DataW.trod_struct Tryz.underlying27 hf0
 rw [c4_ledger] at hl
 obtain ⟨y0,e0⟩:=some_at hx (i:=0) (by decide)
 obtain ⟨y1,e1⟩:=some_at hx (i:=1) (by decide)
 obtain ⟨y2,e2⟩:=some_at hx (i:=2) (by decide)
 obtain ⟨y3,e3⟩:=some_at hx (i:=3) (by decide)
 obtain ⟨c0,c1,c2,c3,hcs⟩:=lenx4 hl
 rw [hcs] at hf
 have t0:=(hf 0 _ rfl).trans e0
 have t1:=(hf 1 _ rfl).trans e1
 have t2:=(hf 2 _ rfl).trans e2
 have t3:=(hf 3 _ rfl).trans e3
 obtain ⟨A0,n0,q0,h0⟩:=slice_cell Tryz.underlying22 t0
 obtain ⟨A1,n1,q1,h1⟩:=slice_cell Tryz.underlying23 t1
 obtain ⟨A2,n2,q2,h2⟩:=slice_cell Tryz.underlying24 t2
 obtain ⟨A3,n3,q3,h3⟩:=slice_cell Tryz.underlying25 t3
 rw [h0] at t0
 rw [h1] at t1
 rw [h2] at t2
 rw [h3] at t3
 obtain ⟨f0,g0,l0,k0⟩:=pps_of t0
 obtain ⟨f1,g1,l1,k1⟩:=rcs_of2 t1
 obtain ⟨f2,g2,l2,k2⟩:=rts_of2 t2
 obtain ⟨f3,g3,l3,k3⟩:=sgs_of t3
 simp [c1_pps,c1_rcs,c1_rts,c1_sgs,Value.cells] at h0 h1 h2 h3
 refine ⟨⟨A0,n0,q0,A1,n1,q1,A2,n2,q2,A3,n3,q3⟩,⟨l0,l1,l2,l3⟩,?_,⟨⟨f0,g0⟩,⟨f1,g1⟩,⟨f2,g2⟩,⟨f3,g3⟩⟩,⟨k0,k1,k2,k3⟩⟩
 congr 1
 apply Array.toList_inj.1
 rw [hcs]
 simp [h0,h1,h2,h3]
end
end Go.Proofs.YtoiompoapikkbaaGreat
