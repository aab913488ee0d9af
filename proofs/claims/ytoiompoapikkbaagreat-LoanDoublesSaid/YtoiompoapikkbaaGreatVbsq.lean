/- Layer 2 of the texts that LoanDoubles takes: Vbsq. -/
import Derived.Test.YtoiompoapikkbaaGreatVbrq
set_option linter.unusedVariables false
set_option linter.unusedSimpArgs false
/- Layer 2: Telling. -/
namespace Go.Proofs.YtoiompoapikkbaaGreat
open Go.RowKit Go.Maps
def telK (T:List Bool) (rt:List Rtn) (k:Nat):List Int:=(((List.zip T rt).take k).filter (fun p=>p.1)).map (fun p=>p.2.src)
theorem telK_succ {T:List Bool} {rt:List Rtn} {k:Nat} {b:Bool} {t:Rtn} (h1:T[k]?=some b) (h2:rt[k]?=some t):telK T rt (k+1)=if b=true then telK T rt k ++ [t.src] else telK T rt k:=by
 have hz:(List.zip T rt)[k]?=some (b,t):=by rw [List.getElem?_zip_eq_some];exact ⟨h1,h2⟩
 rw [telK,take_snoc_some hz,List.filter_append,List.map_append]
 cases b <;> simp [telK]
theorem telK_len (T:List Bool) (rt:List Rtn) (k:Nat):(telK T rt k).length≤k:=by
 rw [telK,List.length_map]
 exact Nat.le_trans (List.length_filter_le _ _) (by rw [List.length_take];omega)
def telX (l:Led) (kn:Int):List Int × Int:=if preE l [kn]=0 then (telK (opnL l kn).T l.rt l.rt.length,0) else ([],preE l [kn])
theorem fld_tells (pA rA tA sA RA SA TA PA:Option Addr) (pn pc rn rc tn tc sn sc Rn Rc Sn Sc Tn Tc Pn Pc bm:Nat) (kn:Int) (w:World):(Instr.field 119 (.agg #[.slice pA pn pc,.slice rA rn rc,.slice tA tn tc,.slice sA sn sc,.int .i64 kn,.slice RA Rn Rc,.slice SA Sn Sc,.map (some bm),.slice TA Tn Tc,.slice PA Pn Pc]) 5).run Tryz.prog w=.ok (.slice TA Tn Tc) w:=by kernel_rfl
set_option maxRecDepth 10000 in
set_option maxHeartbeats 4000000 in
theorem p_Telling (l:Led) (x:Lsl) (kn:Int) (w:World) (hf:x.fit) (hd:LedIn w w.heap.size x l) :
 Calls Tryz.prog 21 #[.agg #[.slice x.pA x.pn x.pc,.slice x.rA x.rn x.rc,.slice x.tA x.tn x.tc,.slice x.sA x.sn x.sc],.int .i64 kn] w (RetLE (telX l kn) w):=by
 obtain ⟨pA,pn,pc,rA,rn,rc,tA,tn,tc,sA,sn,sc⟩:=x
 have HD:=Lib.hid hd
 have hml:maxLen≤9223372036854775807:=by decide
 have hpn:pn≤9223372036854775807:=by have:=hf.p;dsimp only at this;omega
 have hrn:rn≤9223372036854775807:=by have:=hf.r;dsimp only at this;omega
 have htn:tn≤9223372036854775807:=by have:=hf.t;dsimp only at this;omega
 have hsn:sn≤9223372036854775807:=by have:=hf.s;dsimp only at this;omega
 clear hd hf hml
 obtain ⟨v,hv⟩:∃ v,preE l [kn]=v:=⟨_,rfl⟩
 have HV:Hid (orL [errI (ledB l) 24,errI (daysOk [kn]) 6]=v):=by show _=_;exact hv
 by_cases hv0:v=0
 ·subst hv0
  have HLO:=Lib.hid (led_ok (pre_zero hv).1)
  have hres:telX l kn=(telK (opnL l kn).T l.rt l.rt.length,0):=by rw [telX,if_pos hv]
  have HRES:=Lib.hid hres
  obtain ⟨i0,hi,hz0,hz1,hz2⟩:=info_parts infoI2
  clear hres hv
  go_enter Tryz.func21,Tryz.ntmps21
  go_wp2_with (first | (go_at_call 18;refine (p_Check l ⟨pA,pn,pc,rA,rn,rc,tA,tn,tc,sA,sn,sc⟩ _ hpn hrn htn hsn (HD.out.now (by exact bel_))).mono ?_;rintro e w1 ⟨rfl,hb1⟩;have HB1:Below w.heap.size w w1:=Below.then_ (by exact bel_) hb1;have hs1:=HB1.size;have bL0:=BoxA.new w 27 #[.slice pA pn pc,.slice rA rn rc,.slice tA tn tc,.slice sA sn sc];have bL1:=bL0.ext hb1;have kL1:=bL1.cell;have zL1:=bL1.lt;clear hb1) | (go_at_call 100;refine (p_checkDays [kn] _ 1 1 _ (by decide) (Rd.new _ #[.int .i64 kn] _ 1 1 _ (by simp) rfl)).mono ?_;rintro e w2 ⟨rfl,hb2⟩;have HB2:Below w.heap.size w w2:=Below.then_ (by exact bel_) hb2;have hs2:=HB2.size;have bL2:=(bL1.alloc _).ext hb2;have kL2:=bL2.cell;have zL2:=bL2.lt;clear kL1 zL1;clear hb2) | (go_at_call 99;refine (p_first [errI (ledB l) 24,errI (daysOk [kn]) 6] 0 _ 2 2 _ (by decide) (Rd.new _ #[.int .i64 (errI (ledB l) 24),.int .i64 (errI (daysOk [kn]) 6)] _ 1 2 _ (by simp) rfl) HV.out).mono ?_;rintro e w1 ⟨rfl,rfl⟩) | (go_at_call 101;refine (p_openA l ⟨pA,pn,pc,rA,rn,rc,tA,tn,tc,sA,sn,sc⟩ kn _ HLO.out (HD.out.now (by exact bel_))).mono ?_;rintro e w5 ⟨RA,Rn,Rc,SA,Sn,Sc,bm,TA,Tn,Tc,PA,Pn,Pc,rfl,hb5,hO⟩;have HB5:Below w.heap.size w w5:=Below.then_ (by exact bel_) hb5;have hs5:=HB5.size;have HO:=Lib.hid hO;have bL5:=(bL2.alloc _).ext hb5;have kL5:=bL5.cell;have zL5:=bL5.lt;clear kL2 zL2;clear hO hb5;have hfl:=fld_tells pA rA tA sA RA SA TA PA pn pc rn rc tn tc sn sc Rn Rc Sn Sc Tn Tc Pn Pc bm kn))
  have hTn:Hid (Tn=l.rt.length):=by show _=_;exact HO.out.tn
  have htl:Hid (l.rt.length=tn):=by show _=_;exact HD.out.t.len
  have htn60:tn≤60:=by have h1:=HLO.out.tn;have h2:=htl.out;omega
  have hTt:Hid (Tn=tn):=by show _=_;rw [hTn.out,htl.out]
  have hTn60:Tn≤60:=by have h1:=hTt.out;omega
  go_loopw [7,25] (fun v i wr=>∃ k:Nat,k≤Tn∧i=.int .i64 k∧wr.ownsRow w5.heap.size 3 1 v (telK (opnL l kn).T l.rt k).length (intL (telK (opnL l kn).T l.rt k))∧Below w5.heap.size w5 wr) (fun _ i _=>Tn - (intOf i).toNat)
  case atStart=>exact ⟨0,by omega,rfl,World.ownsRow_nil _ _ _ _,Below.refl _ _⟩
  case round =>
   obtain ⟨k,hk,rfl,hown,hB⟩:=hrel
   have hsB:=hB.size
   have bLw:=bL5.ext hB
   have kLw:=bLw.cell
   have zLw:=bLw.lt
   obtain ⟨xl,hxl⟩:∃ xl,telK (opnL l kn).T l.rt k=xl:=⟨_,rfl⟩
   have hxn:xl.length≤60:=by have h1:=telK_len (opnL l kn).T l.rt k;rw [hxl] at h1;omega
   rw [hxl] at hown
   have HR:=Lib.hid hown
   have HXL:=Lib.hid hxl
   clear hown hxl
   by_cases hlt:k<Tn
   ·obtain ⟨b,o,tb,hTA,hb,htb,q0⟩:=((HO.out.now hB).tl).at_ (k:=k) (show k<Tn from hlt)
    have hlt2:k<tn:=by have h1:=hTt.out;omega
    obtain ⟨b2,o2,t,htA,hb2,ht,A2,n2,c2,⟨h0,_,_,_,_,_,_,_⟩,_⟩:=((HD.out.now (HB5.trans (hB.mono hs5))).t).at_ (k:=k) (show k<tn from hlt2)
    have hTA':TA=some ⟨b,o,none⟩:=hTA
    have htA':tA=some ⟨b2,o2,none⟩:=htA
    subst hTA'
    subst htA'
    have HS:=Lib.hid (telK_succ htb ht)
    have hbr:b<wr.heap.size:=hb
    have hb2r:b2<wr.heap.size:=hb2
    have q0:wr.cell? ⟨b,o+k,none⟩=some (.bool tb):=by have h:wr.cell? ⟨b,o+k*1,none⟩=some (.bool tb):=q0;rwa [Nat.mul_one] at h
    clear htb ht hTA htA
    cases tb with
    | false =>
      have HN:Hid (telK (opnL l kn).T l.rt (k+1)=xl):=by show _=_;rw [HS.out,HXL.out];rfl
      go_wp2
      go_roundw
      case rel=>exact ⟨k+1,by omega,by go_num,by rw [HN.out];exact HR.out,hB⟩
      case measure=>exact ms_
    | true =>
      have HN:Hid (telK (opnL l kn).T l.rt (k+1)=xl ++ [t.src]):=by show _=_;rw [HS.out,HXL.out];rfl
      go_wp2_with (at_builtin;refine wpList_append_own _ rfl (.tmp 31) (.tmp 38) 30 rfl w5.heap.size 3 i0 _ 1 8 Tryz.underlying30 hi hz0 hz1 hz2 rfl (by decide) _ _ _ rfl (HR.out.alloc (.cells #[.int .i64 t.src] 3)) ⟨wr.heap.size,0,none⟩ 1 1 [.int .i64 t.src] rfl rfl ?c1 ?c2 ?c3 ?c4 ?c5 ?_;rotate_left 5;intro v' w2 hown2 hgrow2 _)
      case c2=>simp [Value.oneCell']
      case c3=>unfold maxLen;omega
      case c4=>omega
      case c5=>first | omega | (simp;omega)
      go_roundw
      case rel =>
       refine ⟨k+1,by omega,by go_num,?_,OwnB.below (hB.alloc hsB _) (HR.out.alloc (.cells #[.int .i64 t.src] 3)) (by simp;omega) hgrow2⟩
       rw [HN.out,List.length_append]
       have e1:intL (xl ++ [t.src])=intL xl ++ [.int .i64 t.src]:=by simp [intL]
       rw [e1]
       exact hown2
      case measure=>exact ms_
   ·have hkn:Hid (k=Tn):=by show _=_;omega
    have hO:=HR.out
    obtain ⟨A9,c9,rfl,hc9⟩:=own_slice hO
    have HO9:=Lib.hid hO
    clear hO
    go_wp2
    go_ret2
    rw [HRES.out,← hTn.out,← hkn.out,HXL.out]
    exact ⟨A9,_,c9,rfl,HB5.trans (hB.mono hs5),Rd.of_own HO9.out,hc9.1,hc9.2⟩
 ·have hres:telX l kn=([],v):=by rw [telX,if_neg (by rw [hv];exact hv0),hv]
  rw [hres]
  have hv1:(v != 0)=true:=by simpa using hv0
  clear hres hv hv0
  go_enter Tryz.func21,Tryz.ntmps21
  go_wp2_with (first | (go_at_call 18;refine (p_Check l ⟨pA,pn,pc,rA,rn,rc,tA,tn,tc,sA,sn,sc⟩ _ hpn hrn htn hsn (HD.out.now (by exact bel_))).mono ?_;rintro e w1 ⟨rfl,hb1⟩;have HB1:Below w.heap.size w w1:=Below.then_ (by exact bel_) hb1;have hs1:=HB1.size;have bL0:=BoxA.new w 27 #[.slice pA pn pc,.slice rA rn rc,.slice tA tn tc,.slice sA sn sc];have bL1:=bL0.ext hb1;have kL1:=bL1.cell;have zL1:=bL1.lt;clear hb1) | (go_at_call 100;refine (p_checkDays [kn] _ 1 1 _ (by decide) (Rd.new _ #[.int .i64 kn] _ 1 1 _ (by simp) rfl)).mono ?_;rintro e w2 ⟨rfl,hb2⟩;have HB2:Below w.heap.size w w2:=Below.then_ (by exact bel_) hb2;have hs2:=HB2.size;have bL2:=(bL1.alloc _).ext hb2;have kL2:=bL2.cell;have zL2:=bL2.lt;clear kL1 zL1;clear hb2) | (go_at_call 99;refine (p_first [errI (ledB l) 24,errI (daysOk [kn]) 6] v _ 2 2 _ (by decide) (Rd.new _ #[.int .i64 (errI (ledB l) 24),.int .i64 (errI (daysOk [kn]) 6)] _ 1 2 _ (by simp) rfl) HV.out).mono ?_;rintro e w1 ⟨rfl,rfl⟩))
  go_ret2
  exact RetLE.err (by exact bel_)
end Go.Proofs.YtoiompoapikkbaaGreat
/- Layer 2, the reference: Sound, Double, Telling. -/
namespace Go.Proofs.YtoiompoapikkbaaGreat
open Go.RowKit Go.Maps
theorem r_soundE (l:Led) (x:Lsl) (kn v:Int) (w:World) (hl:ledB l=true) (hd:LedIn w w.heap.size x l) (hv:setE l kn=v) :
 Calls Tryz.prog 113 #[.agg #[.slice x.pA x.pn x.pc,.slice x.rA x.rn x.rc,.slice x.tA x.tn x.tc,.slice x.sA x.sn x.sc],.int .i64 kn] w (fun e w'=>∃ B Tc AD nD cD,e=.returned (.tuple #[.agg #[.slice x.pA x.pn x.pc,.slice x.rA x.rn x.rc,.slice x.tA x.tn x.tc,.slice x.sA x.sn x.sc,.int .i64 kn,.slice (some ⟨B,0,none⟩) x.tn Tc,.slice AD nD cD],.int .i64 v])∧Below w.heap.size w w'):=by
 subst hv
 rw [set_ref hl]
 cases ho:firstP (refD l (tellK l kn l.rt.length) kn) l.rc with
 | some q =>
   refine (r_soundD l x kn q w (led_ok hl) hd ho).mono ?_
   rintro e w' ⟨B,Tc,rfl,hb⟩
   exact ⟨_,_,_,_,_,rfl,hb⟩
 | none =>
   cases hR:(refL l (tellK l kn l.rt.length) kn (cntS l kn) (byL l kn)).2 with
   | false =>
     refine (r_soundC l x kn w (led_ok hl) hd ho hR).mono ?_
     rintro e w' ⟨B,Tc,rfl,hb⟩
     exact ⟨_,_,_,_,_,rfl,hb⟩
   | true =>
     refine (r_sound0 l x kn w (led_ok hl) hd ho hR).mono ?_
     rintro e w' ⟨B,Tc,A5,c5,rfl,hb,-,-,-⟩
     exact ⟨_,_,_,_,_,rfl,hb⟩
set_option maxRecDepth 10000 in
set_option maxHeartbeats 4000000 in
theorem r_Sound (l:Led) (x:Lsl) (kn:Int) (w:World) (hf:x.fit) (hd:LedIn w w.heap.size x l) :
 Calls Tryz.prog 28 #[.agg #[.slice x.pA x.pn x.pc,.slice x.rA x.rn x.rc,.slice x.tA x.tn x.tc,.slice x.sA x.sn x.sc],.int .i64 kn] w (fun e w'=>e=.returned (.tuple #[.bool (soundX l kn).1,.int .i64 (soundX l kn).2])∧Below w.heap.size w w'):=by
 obtain ⟨pA,pn,pc,rA,rn,rc,tA,tn,tc,sA,sn,sc⟩:=x
 have HD:=Lib.hid hd
 have HF:=Lib.hid hf
 clear hd hf
 obtain ⟨v,hv⟩:∃ v,preE l [kn]=v:=⟨_,rfl⟩
 have HV:=Lib.hid hv
 by_cases hv0:v=0
 ·subst hv0
  have HLB:=Lib.hid (pre_zero hv).1
  have hres:soundX l kn=(decide (setE l kn=0),0):=by rw [soundX,if_pos hv]
  rw [hres]
  obtain ⟨se,hse⟩:∃ se,setE l kn=se:=⟨_,rfl⟩
  rw [hse]
  have HSE:=Lib.hid hse
  clear hres hv hse
  go_enter Tryz.func28,Tryz.ntmps28
  go_wp2_with (first | (go_at_call 102;refine (r_asked_v l ⟨pA,pn,pc,rA,rn,rc,tA,tn,tc,sA,sn,sc⟩ [kn] 0 _ 1 1 _ HF.out (HD.out.now (by exact bel_)) (by decide) (Rd.new _ #[.int .i64 kn] _ 1 1 _ (by simp) rfl) HV.out).mono ?_;rintro e w1 ⟨rfl,hb1⟩;have HB1:Below w.heap.size w w1:=Below.then_ (by exact bel_) hb1;have hs1:=HB1.size;have bL1:=((BoxA.new w 27 #[.slice pA pn pc,.slice rA rn rc,.slice tA tn tc,.slice sA sn sc]).alloc _).ext hb1;have kL1:=bL1.cell;have zL1:=bL1.lt;have HBL1:=Lib.hid bL1;clear hb1 bL1) | (go_at_call 113;refine (r_soundE l ⟨pA,pn,pc,rA,rn,rc,tA,tn,tc,sA,sn,sc⟩ kn se _ HLB.out (HD.out.now (by exact bel_)) HSE.out).mono ?_;rintro e w2 ⟨B,Tc,AD,nD,cD,rfl,hb2⟩;have HB2:Below w.heap.size w w2:=Below.then_ (by exact bel_) hb2;have hs2:=HB2.size))
  go_ret2
  exact ⟨rfl,by exact bel_⟩
 ·have hres:soundX l kn=(false,v):=by rw [soundX,if_neg (by rw [hv];exact hv0),hv]
  rw [hres]
  have hv1:(v != 0)=true:=by simpa using hv0
  clear hres hv hv0
  go_enter Tryz.func28,Tryz.ntmps28
  go_wp2_with (go_at_call 102;refine (r_asked_v l ⟨pA,pn,pc,rA,rn,rc,tA,tn,tc,sA,sn,sc⟩ [kn] v _ 1 1 _ HF.out (HD.out.now (by exact bel_)) (by decide) (Rd.new _ #[.int .i64 kn] _ 1 1 _ (by simp) rfl) HV.out).mono ?_;rintro e w1 ⟨rfl,hb1⟩;have HB1:Below w.heap.size w w1:=Below.then_ (by exact bel_) hb1;have hs1:=HB1.size;have bL1:=((BoxA.new w 27 #[.slice pA pn pc,.slice rA rn rc,.slice tA tn tc,.slice sA sn sc]).alloc _).ext hb1;have kL1:=bL1.cell;have zL1:=bL1.lt;have HBL1:=Lib.hid bL1;clear hb1 bL1)
  go_ret2
  exact ⟨rfl,by exact bel_⟩
set_option maxRecDepth 10000 in
set_option maxHeartbeats 4000000 in
theorem r_Double (l:Led) (x:Lsl) (kn:Int) (w:World) (hf:x.fit) (hd:LedIn w w.heap.size x l) :
 Calls Tryz.prog 24 #[.agg #[.slice x.pA x.pn x.pc,.slice x.rA x.rn x.rc,.slice x.tA x.tn x.tc,.slice x.sA x.sn x.sc],.int .i64 kn] w (RetLE (doubleX l kn) w):=by
 obtain ⟨pA,pn,pc,rA,rn,rc,tA,tn,tc,sA,sn,sc⟩:=x
 have HD:=Lib.hid hd
 have HF:=Lib.hid hf
 clear hd hf
 obtain ⟨v,hv⟩:∃ v,preE l [kn]=v:=⟨_,rfl⟩
 have HV:=Lib.hid hv
 by_cases hv0:v=0
 ·subst hv0
  have hlb:=(pre_zero hv).1
  have HLO:=Lib.hid (led_ok hlb)
  cases ho:firstP (refD l (tellK l kn l.rt.length) kn) l.rc with
  | none =>
    have hres:doubleX l kn=([],28):=by rw [doubleX,if_pos hv,dbl_first hlb,ho]
    rw [hres]
    have HO:=Lib.hid ho
    clear hres ho hv hlb
    go_enter Tryz.func24,Tryz.ntmps24
    go_wp2_with (first | (go_at_call 102;refine (r_asked_v l ⟨pA,pn,pc,rA,rn,rc,tA,tn,tc,sA,sn,sc⟩ [kn] 0 _ 1 1 _ HF.out (HD.out.now (by exact bel_)) (by decide) (Rd.new _ #[.int .i64 kn] _ 1 1 _ (by simp) rfl) HV.out).mono ?_;rintro e w1 ⟨rfl,hb1⟩;have HB1:Below w.heap.size w w1:=Below.then_ (by exact bel_) hb1;have hs1:=HB1.size;have bL1:=((BoxA.new w 27 #[.slice pA pn pc,.slice rA rn rc,.slice tA tn tc,.slice sA sn sc]).alloc _).ext hb1;have kL1:=bL1.cell;have zL1:=bL1.lt;have HBL1:=Lib.hid bL1;clear hb1 bL1) | (go_at_call 105;refine (r_look l ⟨pA,pn,pc,rA,rn,rc,tA,tn,tc,sA,sn,sc⟩ kn _ HLO.out (HD.out.now (by exact bel_))).mono ?_;rintro e w2 ⟨B,Tc,rfl,hb2,hT,hBB⟩;have HB2:Below w.heap.size w w2:=Below.then_ (by exact bel_) hb2;have hs2:=HB2.size;have zT:=hT.lt;have HT:=Lib.hid hT;clear hT hb2 hBB) | (go_at_call 106;refine (r_doubles_v l ⟨⟨pA,pn,pc,rA,rn,rc,tA,tn,tc,sA,sn,sc⟩,kn,some ⟨B,0,none⟩,tn,Tc,none,0,0⟩ (tellK l kn l.rt.length) none _ HLO.out rfl (HD.out.now (by exact bel_)) (HT.out.sqT (by rw [tellK_len];exact HD.out.t.len) zT) HO.out).mono ?_;rintro e w3 ⟨A3,n3,c3,rfl,hb3,hr3,hc3⟩;obtain rfl:n3=0:=hr3.len.symm;have HB3:Below w.heap.size w w3:=Below.then_ (by exact bel_) hb3;have hs3:=HB3.size))
    go_ret2
    exact RetLE.err (by exact bel_)
  | some q =>
    have hres:doubleX l kn=([q.1.src,q.2.src],0):=by rw [doubleX,if_pos hv,dbl_first hlb,ho]
    rw [hres]
    have HO:=Lib.hid ho
    clear hres ho hv hlb
    go_enter Tryz.func24,Tryz.ntmps24
    go_wp2_with (first | (go_at_call 102;refine (r_asked_v l ⟨pA,pn,pc,rA,rn,rc,tA,tn,tc,sA,sn,sc⟩ [kn] 0 _ 1 1 _ HF.out (HD.out.now (by exact bel_)) (by decide) (Rd.new _ #[.int .i64 kn] _ 1 1 _ (by simp) rfl) HV.out).mono ?_;rintro e w1 ⟨rfl,hb1⟩;have HB1:Below w.heap.size w w1:=Below.then_ (by exact bel_) hb1;have hs1:=HB1.size;have bL1:=((BoxA.new w 27 #[.slice pA pn pc,.slice rA rn rc,.slice tA tn tc,.slice sA sn sc]).alloc _).ext hb1;have kL1:=bL1.cell;have zL1:=bL1.lt;have HBL1:=Lib.hid bL1;clear hb1 bL1) | (go_at_call 105;refine (r_look l ⟨pA,pn,pc,rA,rn,rc,tA,tn,tc,sA,sn,sc⟩ kn _ HLO.out (HD.out.now (by exact bel_))).mono ?_;rintro e w2 ⟨B,Tc,rfl,hb2,hT,hBB⟩;have HB2:Below w.heap.size w w2:=Below.then_ (by exact bel_) hb2;have hs2:=HB2.size;have zT:=hT.lt;have HT:=Lib.hid hT;clear hT hb2 hBB) | (go_at_call 106;refine (r_doubles_v l ⟨⟨pA,pn,pc,rA,rn,rc,tA,tn,tc,sA,sn,sc⟩,kn,some ⟨B,0,none⟩,tn,Tc,none,0,0⟩ (tellK l kn l.rt.length) (some q) _ HLO.out rfl (HD.out.now (by exact bel_)) (HT.out.sqT (by rw [tellK_len];exact HD.out.t.len) zT) HO.out).mono ?_;rintro e w3 ⟨A3,n3,c3,rfl,hb3,hr3,hc3⟩;obtain rfl:n3=2:=hr3.len.symm;have HB3:Below w.heap.size w w3:=Below.then_ (by exact bel_) hb3;have hs3:=HB3.size))
    go_ret2
    exact ⟨_,_,_,rfl,HB3,hr3,hc3⟩
 ·have hres:doubleX l kn=([],v):=by rw [doubleX,if_neg (by rw [hv];exact hv0),hv]
  rw [hres]
  have hv1:(v != 0)=true:=by simpa using hv0
  clear hres hv hv0
  go_enter Tryz.func24,Tryz.ntmps24
  go_wp2_with (go_at_call 102;refine (r_asked_v l ⟨pA,pn,pc,rA,rn,rc,tA,tn,tc,sA,sn,sc⟩ [kn] v _ 1 1 _ HF.out (HD.out.now (by exact bel_)) (by decide) (Rd.new _ #[.int .i64 kn] _ 1 1 _ (by simp) rfl) HV.out).mono ?_;rintro e w1 ⟨rfl,hb1⟩;have HB1:Below w.heap.size w w1:=Below.then_ (by exact bel_) hb1;have hs1:=HB1.size;have bL1:=((BoxA.new w 27 #[.slice pA pn pc,.slice rA rn rc,.slice tA tn tc,.slice sA sn sc]).alloc _).ext hb1;have kL1:=bL1.cell;have zL1:=bL1.lt;have HBL1:=Lib.hid bL1;clear hb1 bL1)
  go_ret2
  exact RetLE.err (by exact bel_)
set_option maxRecDepth 10000 in
set_option maxHeartbeats 4000000 in
theorem r_Telling (l:Led) (x:Lsl) (kn:Int) (w:World) (hf:x.fit) (hd:LedIn w w.heap.size x l) :
 Calls Tryz.prog 22 #[.agg #[.slice x.pA x.pn x.pc,.slice x.rA x.rn x.rc,.slice x.tA x.tn x.tc,.slice x.sA x.sn x.sc],.int .i64 kn] w (RetLE (telX l kn) w):=by
 obtain ⟨pA,pn,pc,rA,rn,rc,tA,tn,tc,sA,sn,sc⟩:=x
 have HD:=Lib.hid hd
 have HF:=Lib.hid hf
 clear hd hf
 obtain ⟨v,hv⟩:∃ v,preE l [kn]=v:=⟨_,rfl⟩
 have HV:=Lib.hid hv
 by_cases hv0:v=0
 ·subst hv0
  have HLO:=Lib.hid (led_ok (pre_zero hv).1)
  have hres:telX l kn=(telK (tellK l kn l.rt.length) l.rt l.rt.length,0):=by rw [telX,if_pos hv,opn_tell]
  obtain ⟨TT,hTT⟩:∃ TT,tellK l kn l.rt.length=TT:=⟨_,rfl⟩
  have HTN:Hid (TT.length=tn):=by show _=_;rw [← hTT,tellK_len];exact HD.out.t.len
  rw [hTT] at hres
  have HRES:=Lib.hid hres
  have HTT:=Lib.hid hTT
  obtain ⟨i0,hi,hz0,hz1,hz2⟩:=info_parts infoI2
  clear hres hv hTT
  go_enter Tryz.func22,Tryz.ntmps22
  go_wp2_with (first | (go_at_call 102;refine (r_asked_v l ⟨pA,pn,pc,rA,rn,rc,tA,tn,tc,sA,sn,sc⟩ [kn] 0 _ 1 1 _ HF.out (HD.out.now (by exact bel_)) (by decide) (Rd.new _ #[.int .i64 kn] _ 1 1 _ (by simp) rfl) HV.out).mono ?_;rintro e w1 ⟨rfl,hb1⟩;have HB1:Below w.heap.size w w1:=Below.then_ (by exact bel_) hb1;have hs1:=HB1.size;have bL1:=((BoxA.new w 27 #[.slice pA pn pc,.slice rA rn rc,.slice tA tn tc,.slice sA sn sc]).alloc _).ext hb1;have kL1:=bL1.cell;have zL1:=bL1.lt;have HBL1:=Lib.hid bL1;clear hb1 bL1) | (go_at_call 103;refine (r_telling l ⟨pA,pn,pc,rA,rn,rc,tA,tn,tc,sA,sn,sc⟩ kn _ HLO.out (HD.out.now (by exact bel_))).mono ?_;rintro e w5 ⟨B,Tc,rfl,hb5,hT,hBB⟩;have HB5:Below w.heap.size w w5:=Below.then_ (by exact bel_) hb5;have hs5:=HB5.size;have bL5:=HBL1.out.ext hb5;have kL5:=bL5.cell;have zL5:=bL5.lt;rw [HTT.out] at hT;have HTB:=Lib.hid hT;clear kL1 zL1;clear hT hb5 hBB))
  have htl:Hid (l.rt.length=tn):=by show _=_;exact HD.out.t.len
  have htn60:tn≤60:=by have h1:=HLO.out.tn;have h2:=htl.out;omega
  go_loopw [8,9] (fun v i wr=>∃ k:Nat,k≤tn∧i=.int .i64 k∧wr.ownsRow w5.heap.size 3 1 v (telK TT l.rt k).length (intL (telK TT l.rt k))∧Below w5.heap.size w5 wr) (fun _ i _=>tn - (intOf i).toNat)
  case atStart=>exact ⟨0,by omega,rfl,World.ownsRow_nil _ _ _ _,Below.refl _ _⟩
  case round =>
   obtain ⟨k,hk,rfl,hown,hB⟩:=hrel
   have hsB:=hB.size
   have bLw:=bL5.ext hB
   have kLw:=bLw.cell
   have zLw:=bLw.lt
   have bTw:=HTB.out.ext hB
   have kTw:=bTw.cell
   have zTw:=bTw.lt
   obtain ⟨xl,hxl⟩:∃ xl,telK TT l.rt k=xl:=⟨_,rfl⟩
   have hxn:xl.length≤60:=by have h1:=telK_len TT l.rt k;rw [hxl] at h1;omega
   rw [hxl] at hown
   have HR:=Lib.hid hown
   have HXL:=Lib.hid hxl
   clear hown hxl bLw bTw
   by_cases hlt:k<tn
   ·obtain ⟨tb,htb⟩:∃ tb,TT[k]?=some tb:=⟨_,List.getElem?_eq_getElem (by rw [HTN.out];exact hlt)⟩
    have q0:wr.cell? ⟨B,k,none⟩=some (.bool tb):=by rw [kTw];simp [boolL,htb]
    obtain ⟨b2,o2,t,rfl,hb2,ht,A2,n2,c2,⟨h0,-⟩,-⟩:=((HD.out.now (HB5.trans (hB.mono hs5))).t).at_ (k:=k) (show k<tn from hlt)
    have h0:wr.cell? ⟨b2,o2+k*8,none⟩=some (.int .i64 t.src):=h0
    have HS:=Lib.hid (telK_succ htb ht)
    have hb2r:b2<wr.heap.size:=hb2
    clear htb ht kTw
    cases tb with
    | false =>
      have HN:Hid (telK TT l.rt (k+1)=xl):=by show _=_;rw [HS.out,HXL.out];rfl
      go_wp2
      go_roundw
      case rel=>exact ⟨k+1,by omega,by go_num,by rw [HN.out];exact HR.out,hB⟩
      case measure=>exact ms_
    | true =>
      have HN:Hid (telK TT l.rt (k+1)=xl ++ [t.src]):=by show _=_;rw [HS.out,HXL.out];rfl
      go_wp2_with (at_builtin;refine wpList_append_own _ rfl (.tmp 30) (.tmp 37) 30 rfl w5.heap.size 3 i0 _ 1 8 Tryz.underlying30 hi hz0 hz1 hz2 rfl (by decide) _ _ _ rfl (HR.out.alloc (.cells #[.int .i64 t.src] 3)) ⟨wr.heap.size,0,none⟩ 1 1 [.int .i64 t.src] rfl rfl ?c1 ?c2 ?c3 ?c4 ?c5 ?_;rotate_left 5;intro v' w2 hown2 hgrow2 _)
      case c2=>simp [Value.oneCell']
      case c3=>unfold maxLen;omega
      case c4=>omega
      case c5=>first | omega | (simp;omega)
      go_roundw
      case rel =>
       refine ⟨k+1,by omega,by go_num,?_,OwnB.below (hB.alloc hsB _) (HR.out.alloc (.cells #[.int .i64 t.src] 3)) (by simp;omega) hgrow2⟩
       rw [HN.out,List.length_append]
       have e1:intL (xl ++ [t.src])=intL xl ++ [.int .i64 t.src]:=by simp [intL]
       rw [e1]
       exact hown2
      case measure=>exact ms_
   ·have hkn:Hid (k=l.rt.length):=by show _=_;rw [htl.out];omega
    have hO9:=HR.out
    obtain ⟨A9,c9,rfl,hc9⟩:=own_slice hO9
    have HO9:=Lib.hid hO9
    clear hO9
    go_wp2
    go_ret2
    rw [HRES.out,← hkn.out,HXL.out]
    exact ⟨A9,_,c9,rfl,HB5.trans (hB.mono hs5),Rd.of_own HO9.out,hc9.1,hc9.2⟩
 ·have hres:telX l kn=([],v):=by rw [telX,if_neg (by rw [hv];exact hv0),hv]
  rw [hres]
  have hv1:(v != 0)=true:=by simpa using hv0
  clear hres hv hv0
  go_enter Tryz.func22,Tryz.ntmps22
  go_wp2_with (go_at_call 102;refine (r_asked_v l ⟨pA,pn,pc,rA,rn,rc,tA,tn,tc,sA,sn,sc⟩ [kn] v _ 1 1 _ HF.out (HD.out.now (by exact bel_)) (by decide) (Rd.new _ #[.int .i64 kn] _ 1 1 _ (by simp) rfl) HV.out).mono ?_;rintro e w1 ⟨rfl,hb1⟩;have HB1:Below w.heap.size w w1:=Below.then_ (by exact bel_) hb1;have hs1:=HB1.size;have bL1:=((BoxA.new w 27 #[.slice pA pn pc,.slice rA rn rc,.slice tA tn tc,.slice sA sn sc]).alloc _).ext hb1;have kL1:=bL1.cell;have zL1:=bL1.lt;have HBL1:=Lib.hid bL1;clear hb1 bL1)
  go_ret2
  exact RetLE.err (by exact bel_)
end Go.Proofs.YtoiompoapikkbaaGreat
/- Layer 2: a ledger, and One, that come in by value. -/
namespace Go.Proofs.YtoiompoapikkbaaGreat
open Go.ChangeShapes Go.WideShapes Go.ChangeAt Go.RowKit Go.Deep Go.Joins Go.Maps
theorem c2_paper:Tryz.prog.cellsOf 29=2:=by kernel_rfl
theorem c7_rcpt:Tryz.prog.cellsOf 32=7:=by kernel_rfl
theorem c8_retn:Tryz.prog.cellsOf 36=8:=by kernel_rfl
theorem c7_sight:Tryz.prog.cellsOf 38=7:=by kernel_rfl
theorem c1_pps:Tryz.prog.cellsOf 22=1:=by kernel_rfl
theorem c1_rcs:Tryz.prog.cellsOf 23=1:=by kernel_rfl
theorem c1_rts:Tryz.prog.cellsOf 24=1:=by kernel_rfl
theorem c1_sgs:Tryz.prog.cellsOf 25=1:=by kernel_rfl
theorem c4_ledger:Tryz.prog.cellsOf 27=4:=by kernel_rfl
theorem lenx4 {α:Type}:∀ {l:List α},l.length=4→∃ a0 a1 a2 a3,l=[a0,a1,a2,a3]
 | [a0,a1,a2,a3],_=>⟨a0,a1,a2,a3,rfl⟩
theorem lenx7 {α:Type}:∀ {l:List α},l.length=7→∃ a0 a1 a2 a3 a4 a5 a6,l=[a0,a1,a2,a3,a4,a5,a6]
 | [a0,a1,a2,a3,a4,a5,a6],_=>⟨a0,a1,a2,a3,a4,a5,a6,rfl⟩
theorem lenx8 {α:Type}:∀ {l:List α},l.length=8→∃ a0 a1 a2 a3 a4 a5 a6 a7,l=[a0,a1,a2,a3,a4,a5,a6,a7]
 | [a0,a1,a2,a3,a4,a5,a6,a7],_=>⟨a0,a1,a2,a3,a4,a5,a6,a7,rfl⟩
section
variable {H:Type} {enc:TypeId × Value→H} {w:World} {base:Nat} {spare:Nat→Bool} {held:Bool} {fuel:Nat} {cs:List Value} {x:DataW H × List MemPlace}
theorem paper_of (h:DataW.trod enc Tryz.prog w base spare held fuel 29 cs=some x):∃ v:Ppr,cs=ppC v:=by
 obtain ⟨xs,n,_,_,hl,hx,hf⟩:=DataW.trod_struct Tryz.underlying29 h
 rw [c2_paper] at hl
 obtain ⟨y0,e0⟩:=some_at hx (i:=0) (by decide)
 obtain ⟨y1,e1⟩:=some_at hx (i:=1) (by decide)
 obtain ⟨c0,c1,rfl⟩:=len2 hl
 obtain ⟨a,ha⟩:=int_of ((hf 0 _ rfl).trans e0)
 obtain ⟨b,hb⟩:=int_of ((hf 1 _ rfl).trans e1)
 simp [c1_int] at ha hb
 exact ⟨⟨a,b⟩,by rw [ha,hb]⟩
theorem sight_of (h:DataW.trod enc Tryz.prog w base spare held fuel 38 cs=some x):∃ v:Sgt,cs=sgC v:=by
 obtain ⟨xs,n,_,_,hl,hx,hf⟩:=DataW.trod_struct Tryz.underlying38 h
 rw [c7_sight] at hl
 obtain ⟨y0,e0⟩:=some_at hx (i:=0) (by decide)
 obtain ⟨y1,e1⟩:=some_at hx (i:=1) (by decide)
 obtain ⟨y2,e2⟩:=some_at hx (i:=2) (by decide)
 obtain ⟨y3,e3⟩:=some_at hx (i:=3) (by decide)
 obtain ⟨y4,e4⟩:=some_at hx (i:=4) (by decide)
 obtain ⟨y5,e5⟩:=some_at hx (i:=5) (by decide)
 obtain ⟨y6,e6⟩:=some_at hx (i:=6) (by decide)
 obtain ⟨c0,c1,c2,c3,c4,c5,c6,rfl⟩:=lenx7 hl
 obtain ⟨a0,h0⟩:=int_of ((hf 0 _ rfl).trans e0)
 obtain ⟨a1,h1⟩:=int_of ((hf 1 _ rfl).trans e1)
 obtain ⟨a2,h2⟩:=int_of ((hf 2 _ rfl).trans e2)
 obtain ⟨a3,h3⟩:=int_of ((hf 3 _ rfl).trans e3)
 obtain ⟨a4,h4⟩:=int_of ((hf 4 _ rfl).trans e4)
 obtain ⟨a5,h5⟩:=int_of ((hf 5 _ rfl).trans e5)
 obtain ⟨a6,h6⟩:=int_of ((hf 6 _ rfl).trans e6)
 simp [c1_int] at h0 h1 h2 h3 h4 h5 h6
 exact ⟨⟨a0,a1,a2,a3,a4,a5,a6⟩,by simp [h0,h1,h2,h3,h4,h5,h6]⟩
theorem rcpt_of (h:DataW.trod enc Tryz.prog w base spare held fuel 32 cs=some x):∃ v:Rv,cs=rvC v∧(Is w w.heap.size v.A v.n v.r.lv∧v.n≤v.c∧v.c≤maxLen):=by
 obtain ⟨xs,n,_,_,hl,hx,hf⟩:=DataW.trod_struct Tryz.underlying32 h
 rw [c7_rcpt] at hl
 obtain ⟨y0,e0⟩:=some_at hx (i:=0) (by decide)
 obtain ⟨y1,e1⟩:=some_at hx (i:=1) (by decide)
 obtain ⟨y2,e2⟩:=some_at hx (i:=2) (by decide)
 obtain ⟨y3,e3⟩:=some_at hx (i:=3) (by decide)
 obtain ⟨y4,e4⟩:=some_at hx (i:=4) (by decide)
 obtain ⟨y5,e5⟩:=some_at hx (i:=5) (by decide)
 obtain ⟨y6,e6⟩:=some_at hx (i:=6) (by decide)
 obtain ⟨c0,c1,c2,c3,c4,c5,c6,rfl⟩:=lenx7 hl
 obtain ⟨a0,h0⟩:=int_of ((hf 0 _ rfl).trans e0)
 obtain ⟨a1,h1⟩:=int_of ((hf 1 _ rfl).trans e1)
 obtain ⟨a2,h2⟩:=int_of ((hf 2 _ rfl).trans e2)
 obtain ⟨a4,h4⟩:=int_of ((hf 4 _ rfl).trans e4)
 obtain ⟨a5,h5⟩:=int_of ((hf 5 _ rfl).trans e5)
 obtain ⟨a6,h6⟩:=int_of ((hf 6 _ rfl).trans e6)
 obtain ⟨A,m,cc,h3,g1,g2,l,g3⟩:=ints_cell ((hf 3 _ rfl).trans e3)
 simp [c1_int,c1_ints] at h0 h1 h2 h3 h4 h5 h6
 exact ⟨⟨⟨a0,a1,a2,l,a4,a5,a6⟩,A,m,cc⟩,by simp [h0,h1,h2,h3,h4,h5,h6],g3,g1,g2⟩
theorem retn_of (h:DataW.trod enc Tryz.prog w base spare held fuel 36 cs=some x):∃ v:Tv,cs=tvC v∧(Is w w.heap.size v.A v.n v.r.lv∧v.n≤v.c∧v.c≤maxLen):=by
 obtain ⟨xs,n,_,_,hl,hx,hf⟩:=DataW.trod_struct Tryz.underlying36 h
 rw [c8_retn] at hl
 obtain ⟨y0,e0⟩:=some_at hx (i:=0) (by decide)
 obtain ⟨y1,e1⟩:=some_at hx (i:=1) (by decide)
 obtain ⟨y2,e2⟩:=some_at hx (i:=2) (by decide)
 obtain ⟨y3,e3⟩:=some_at hx (i:=3) (by decide)
 obtain ⟨y4,e4⟩:=some_at hx (i:=4) (by decide)
 obtain ⟨y5,e5⟩:=some_at hx (i:=5) (by decide)
 obtain ⟨y6,e6⟩:=some_at hx (i:=6) (by decide)
 obtain ⟨c0,c1,c2,c3,c4,c5,c6,c7,rfl⟩:=lenx8 hl
 obtain ⟨a0,h0⟩:=int_of ((hf 0 _ rfl).trans e0)
 obtain ⟨a1,h1⟩:=int_of ((hf 1 _ rfl).trans e1)
 obtain ⟨a2,h2⟩:=int_of ((hf 2 _ rfl).trans e2)
 obtain ⟨a5,h5⟩:=int_of ((hf 5 _ rfl).trans e5)
 obtain ⟨a6,h6⟩:=int_of ((hf 6 _ rfl).trans e6)
 obtain ⟨A,m,cc,h3,g1,g2,l,g3⟩:=ints_cell ((hf 3 _ rfl).trans e3)
 obtain ⟨lo,hi,h4⟩:=range_of ((hf 4 _ rfl).trans e4)
 simp [c1_int,c1_ints,c2_range] at h0 h1 h2 h3 h4 h5 h6
 exact ⟨⟨⟨a0,a1,a2,l,lo,hi,a5,a6⟩,A,m,cc⟩,by simp [h0,h1,h2,h3,h4,h5,h6],g3,g1,g2⟩
theorem slice_cell {t e:TypeId} (ht:Tryz.prog.underlying t=some (.slice e)) (h:DataW.trod enc Tryz.prog w base spare held fuel t cs=some x):∃ A n c,cs=(Value.slice A n c).cells.toList:=by
 rcases open_slice ht h with ⟨rfl,_⟩ | ⟨a,len,cap,m,nn,D,Pl,rfl,_⟩
 ·exact ⟨none,0,0,rfl⟩
 ·exact ⟨some a,len,cap,rfl⟩
theorem pps_of {A:Option Addr} {n c:Nat} (h:DataW.trod enc Tryz.prog w base spare held fuel 22 (Value.slice A n c).cells.toList=some x):n≤c∧c≤maxLen∧∃ l,Pps w w.heap.size A n l:=by
 obtain ⟨h1,h2,l,hl,h3⟩:=row_of ppC (fun _=>rfl) (by decide) Tryz.underlying22 c2_paper (fun _ _ _ h=>paper_of h) h
 exact ⟨h1,h2,l,sq_pp h3 hl⟩
theorem sgs_of {A:Option Addr} {n c:Nat} (h:DataW.trod enc Tryz.prog w base spare held fuel 25 (Value.slice A n c).cells.toList=some x):n≤c∧c≤maxLen∧∃ l,Sgs w w.heap.size A n l:=by
 obtain ⟨h1,h2,l,hl,h3⟩:=row_of sgC (fun _=>rfl) (by decide) Tryz.underlying25 c7_sight (fun _ _ _ h=>sight_of h) h
 exact ⟨h1,h2,l,sq_sg h3 hl⟩
theorem rcs_of2 {A:Option Addr} {n c:Nat} (h:DataW.trod enc Tryz.prog w base spare held fuel 23 (Value.slice A n c).cells.toList=some x):n≤c∧c≤maxLen∧∃ l,Rcs w w.heap.size A n l:=by
 obtain ⟨h1,h2,l,hl,h3⟩:=row_of (α:={ v:Rv // Is w w.heap.size v.A v.n v.r.lv∧v.n≤v.c∧v.c≤maxLen }) (fun v=>rvC v.1) (fun _=>rfl) (by decide) Tryz.underlying23 c7_rcpt (fun _ _ _ h=>by obtain ⟨v,e,hv⟩:=rcpt_of h;exact ⟨⟨v,hv⟩,e⟩) h
 refine ⟨h1,h2,(l.map Subtype.val).map Rv.r,rcs_of (sq_rv ?_ (by rw [List.length_map];exact hl) fun v hv=>?_)⟩
 ·unfold rvCells
  rw [List.flatMap_map]
  exact h3
 ·obtain ⟨u,_,rfl⟩:=List.mem_map.1 hv
  exact u.2
theorem rts_of2 {A:Option Addr} {n c:Nat} (h:DataW.trod enc Tryz.prog w base spare held fuel 24 (Value.slice A n c).cells.toList=some x):n≤c∧c≤maxLen∧∃ l,Rts w w.heap.size A n l:=by
 obtain ⟨h1,h2,l,hl,h3⟩:=row_of (α:={ v:Tv // Is w w.heap.size v.A v.n v.r.lv∧v.n≤v.c∧v.c≤maxLen }) (fun v=>tvC v.1) (fun _=>rfl) (by decide) Tryz.underlying24 c8_retn (fun _ _ _ h=>by obtain ⟨v,e,hv⟩:=retn_of h;exact ⟨⟨v,hv⟩,e⟩) h
 refine ⟨h1,h2,(l.map Subtype.val).map Tv.r,rts_of ?_ (by rw [List.length_map];exact hl) fun v hv=>?_⟩
 ·rw [List.flatMap_map]
  exact h3
 ·obtain ⟨u,_,rfl⟩:=List.mem_map.1 hv
  exact u.2
end
section
variable {H:Type} {enc:TypeId × Value→H} {w:World} {base:Nat} {spare:Nat→Bool} {held:Bool} {r:Reach} {b0:Nat} {v:Value} {d:DataW H} {p:List MemPlace}
set_option maxRecDepth 100000 in
theorem ledger_of (hv:Value.okWide Tryz.prog w r b0 27 v) (h:DataW.Trod enc Tryz.prog w base spare held 27 v d p):∃ (y:Lsl) (l:Led),v=.agg #[.slice y.pA y.pn y.pc,.slice y.rA y.rn y.rc,.slice y.tA y.tn y.tc,.slice y.sA y.sn y.sc]∧y.fit∧LedIn w w.heap.size y l:=by
 obtain ⟨cs,rfl,_⟩:=okWide_struct Tryz.underlying27 hv
 obtain ⟨fuel,hf0⟩:=h
 simp only [Value.cells] at hf0
 obtain ⟨xs,n,_,_,hl,hx,hf⟩:=DataW.trod_struct Tryz.underlying27 hf0
 rw [c4_ledger] at hl
 obtain ⟨y0,e0⟩:=some_at hx (i:=0) (by decide)
 obtain ⟨y1,e1⟩:=some_at hx (i:=1) (by decide)
 obtain ⟨y2,e2⟩:=some_at hx (i:=2) (by decide)
 obtain ⟨y3,e3⟩:=some_at hx (i:=3) (by decide)
 obtain ⟨c0,c1,c2,c3,hcs⟩:=lenx4 hl
 rw [hcs] at hf
 have t0:=(hf 0 _ rfl).trans e0
 have t1:=(hf 1 _ rfl).trans e1
 have t2:=(hf 2 _ rfl).trans e2
 have t3:=(hf 3 _ rfl).trans e3
 obtain ⟨A0,n0,q0,h0⟩:=slice_cell Tryz.underlying22 t0
 obtain ⟨A1,n1,q1,h1⟩:=slice_cell Tryz.underlying23 t1
 obtain ⟨A2,n2,q2,h2⟩:=slice_cell Tryz.underlying24 t2
 obtain ⟨A3,n3,q3,h3⟩:=slice_cell Tryz.underlying25 t3
 rw [h0] at t0
 rw [h1] at t1
 rw [h2] at t2
 rw [h3] at t3
 obtain ⟨f0,g0,l0,k0⟩:=pps_of t0
 obtain ⟨f1,g1,l1,k1⟩:=rcs_of2 t1
 obtain ⟨f2,g2,l2,k2⟩:=rts_of2 t2
 obtain ⟨f3,g3,l3,k3⟩:=sgs_of t3
 simp [c1_pps,c1_rcs,c1_rts,c1_sgs,Value.cells] at h0 h1 h2 h3
 refine ⟨⟨A0,n0,q0,A1,n1,q1,A2,n2,q2,A3,n3,q3⟩,⟨l0,l1,l2,l3⟩,?_,⟨⟨f0,g0⟩,⟨f1,g1⟩,⟨f2,g2⟩,⟨f3,g3⟩⟩,⟨k0,k1,k2,k3⟩⟩
 congr 1
 apply Array.toList_inj.1
 rw [hcs]
 simp [h0,h1,h2,h3]
end
end Go.Proofs.YtoiompoapikkbaaGreat
