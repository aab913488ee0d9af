/- Layer 2 of the texts that LoanDoubles takes: Vblq. -/
import Derived.Test.YtoiompoapikkbaaGreatVbjq
set_option linter.unusedVariables false
set_option linter.unusedSimpArgs false
/- Layer 2: Clash. -/
namespace Go.Proofs.YtoiompoapikkbaaGreat
open Go.RowKit Go.Maps
def conB (l:Led) (kn:Int) (S:List Sgt):Bool:=(narL (opnL l kn).M (cntR l kn) S (opnL l kn).P).isNone
def clash2 (l:Led) (kn:Int):List Sgt→Option (Sgt × Sgt)
 | []=>none
 | x :: S=>match S.find? (fun y=>conB l kn [x,y]) with
   | some y=>some (x,y)
   | none=>clash2 l kn S
theorem clash2_some {l:Led} {kn:Int} {xs:List Sgt} {k:Nat} {x y:Sgt} {o:Option (Sgt × Sgt)} (hx:xs[k]?=some x) (hf:(xs.drop (k+1)).find? (fun y=>conB l kn [x,y])=some y) (ho:clash2 l kn (xs.drop k)=o):o=some (x,y):=by
 have hlt:k<xs.length:=(List.getElem?_eq_some_iff.1 hx).1
 rw [List.drop_eq_getElem_cons hlt,(List.getElem?_eq_some_iff.1 hx).2,clash2,hf] at ho
 exact ho.symm
theorem clash2_none {l:Led} {kn:Int} {xs:List Sgt} {k:Nat} {x:Sgt} {o:Option (Sgt × Sgt)} (hx:xs[k]?=some x) (hf:(xs.drop (k+1)).find? (fun y=>conB l kn [x,y])=none) (ho:clash2 l kn (xs.drop k)=o):clash2 l kn (xs.drop (k+1))=o:=by
 have hlt:k<xs.length:=(List.getElem?_eq_some_iff.1 hx).1
 rw [List.drop_eq_getElem_cons hlt,(List.getElem?_eq_some_iff.1 hx).2,clash2,hf] at ho
 exact ho
def clashR:Option (Sgt × Sgt)→List Int × Int
 | some p=>([p.1.src,p.2.src],0)
 | none=>([],28)
def clashX (l:Led) (kn:Int):List Int × Int:=if preE l [kn]=0 then (match dblR (opnL l kn).M (opnL l kn).P (cntR l kn) with
 | some _=>([],25)
 | none=>match (cntS l kn).find? (fun s=>conB l kn [s]) with
   | some s=>([s.src],0)
   | none=>clashR (clash2 l kn (cntS l kn))) else ([],preE l [kn])
theorem p_contradictA (l:Led) (kn:Int) (S:List Sgt) (v:Bool) (a:Acc) (A:Option Addr) (n c:Nat) (w:World) (hl:LedOk l) (h:OpnA w a l kn) (hS:∀ s∈S,s∈cntS l kn) (hn:n≤1000000) (hs:Sgs w w.heap.size A n S) (hv:conB l kn S=v) :
 Calls Tryz.prog 108 #[accV a,.slice A n c] w fun e w'=>e=.returned (.bool v)∧Below w.heap.size w w':=by
 subst hv
 exact p_contradict _ _ _ _ _ _ _ _ _ h.acc (fun s hs=>cnt_sgs hl kn s (hS s hs)) hn hs
theorem sgs_new1 (W:World) (s:Sgt) (b:Nat) (hb:W.heap.size=b):Sgs (W.alloc (.cells (sgC s).toArray 38)) (W.alloc (.cells (sgC s).toArray 38)).heap.size (some ⟨b,0,none⟩) 1 [s] :=
 sq_sg (Rd.new W (sgC s).toArray 38 7 1 b hb rfl) rfl
theorem sgs_new2 (W:World) (s t:Sgt) (b:Nat) (hb:W.heap.size=b):Sgs (W.alloc (.cells (sgC s ++ sgC t).toArray 38)) (W.alloc (.cells (sgC s ++ sgC t).toArray 38)).heap.size (some ⟨b,0,none⟩) 2 [s,t] :=
 sq_sg (Rd.new W (sgC s ++ sgC t).toArray 38 7 2 b hb rfl) rfl
set_option maxRecDepth 10000 in
set_option maxHeartbeats 4000000 in
theorem p_Clash (l:Led) (x:Lsl) (kn:Int) (w:World) (hf:x.fit) (hd:LedIn w w.heap.size x l) :
 Calls Tryz.prog 25 #[.agg #[.slice x.pA x.pn x.pc,.slice x.rA x.rn x.rc,.slice x.tA x.tn x.tc,.slice x.sA x.sn x.sc],.int .i64 kn] w (RetLE (clashX l kn) w):=by
 obtain ⟨pA,pn,pc,rA,rn,rc,tA,tn,tc,sA,sn,sc⟩:=x
 have HD:=Lib.hid hd
 have hml:maxLen≤9223372036854775807:=by decide
 have hpn:pn≤9223372036854775807:=by have:=hf.p;dsimp only at this;omega
 have hrn:rn≤9223372036854775807:=by have:=hf.r;dsimp only at this;omega
 have htn:tn≤9223372036854775807:=by have:=hf.t;dsimp only at this;omega
 have hsn:sn≤9223372036854775807:=by have:=hf.s;dsimp only at this;omega
 clear hd hf hml
 obtain ⟨v,hv⟩:∃ v,preE l [kn]=v:=⟨_,rfl⟩
 have HV:Hid (orL [errI (ledB l) 24,errI (daysOk [kn]) 6]=v):=by show _=_;exact hv
 by_cases hv0:v=0
 ·subst hv0
  have HLO:=Lib.hid (led_ok (pre_zero hv).1)
  cases hdr:dblR (opnL l kn).M (opnL l kn).P (cntR l kn) with
  | some q =>
    have hres:clashX l kn=([],25):=by rw [clashX,if_pos hv,hdr]
    rw [hres]
    have HDR:=Lib.hid hdr
    clear hres hdr hv
    go_enter Tryz.func25,Tryz.ntmps25
    go_wp2_with (first | (go_at_call 18;refine (p_Check l ⟨pA,pn,pc,rA,rn,rc,tA,tn,tc,sA,sn,sc⟩ _ hpn hrn htn hsn (HD.out.now (by exact bel_))).mono ?_;rintro e w1 ⟨rfl,hb1⟩;have HB1:Below w.heap.size w w1:=Below.then_ (by exact bel_) hb1;have hs1:=HB1.size;have bL0:=BoxA.new w 27 #[.slice pA pn pc,.slice rA rn rc,.slice tA tn tc,.slice sA sn sc];have bL1:=bL0.ext hb1;have kL1:=bL1.cell;have zL1:=bL1.lt;clear hb1) | (go_at_call 100;refine (p_checkDays [kn] _ 1 1 _ (by decide) (Rd.new _ #[.int .i64 kn] _ 1 1 _ (by simp) rfl)).mono ?_;rintro e w2 ⟨rfl,hb2⟩;have HB2:Below w.heap.size w w2:=Below.then_ (by exact bel_) hb2;have hs2:=HB2.size;have bL2:=(bL1.alloc _).ext hb2;have kL2:=bL2.cell;have zL2:=bL2.lt;clear kL1 zL1;clear hb2) | (go_at_call 99;refine (p_first [errI (ledB l) 24,errI (daysOk [kn]) 6] 0 _ 2 2 _ (by decide) (Rd.new _ #[.int .i64 (errI (ledB l) 24),.int .i64 (errI (daysOk [kn]) 6)] _ 1 2 _ (by simp) rfl) HV.out).mono ?_;rintro e w1 ⟨rfl,rfl⟩) | (go_at_call 101;refine (p_openA l ⟨pA,pn,pc,rA,rn,rc,tA,tn,tc,sA,sn,sc⟩ kn _ HLO.out (HD.out.now (by exact bel_))).mono ?_;rintro e w5 ⟨RA,Rn,Rc,SA,Sn,Sc,bm,TA,Tn,Tc,PA,Pn,Pc,rfl,hb5,hO⟩;have HB5:Below w.heap.size w w5:=Below.then_ (by exact bel_) hb5;have hs5:=HB5.size;have HO:=Lib.hid hO;have bL5:=(bL2.alloc _).ext hb5;have kL5:=bL5.cell;have zL5:=bL5.lt;clear kL2 zL2;clear hO hb5) | (go_at_call 107;have hag:=p_agree (opnL l kn).M (cntR l kn) (opnL l kn).P ⟨⟨pA,pn,pc,rA,rn,rc,tA,tn,tc,sA,sn,sc⟩,kn,RA,Rn,Rc,SA,Sn,Sc,bm,TA,Tn,Tc,PA,Pn,Pc⟩ (w5.alloc (.cells #[.slice pA pn pc,.slice rA rn rc,.slice tA tn tc,.slice sA sn sc,.int .i64 kn,.slice RA Rn Rc,.slice SA Sn Sc,.map (some bm),.slice TA Tn Tc,.slice PA Pn Pc] 119)) (HO.out.acc.now (by exact bel_));rw [HDR.out] at hag;simp only [Option.isNone_none,Option.isNone_some,errI] at hag;refine hag.mono ?_;rintro e w6 ⟨rfl,hb6⟩;have HB6:Below w.heap.size w w6:=Below.then_ HB5 (Below.then_ (by exact bel_) hb6);have hs6:=HB6.size;have bA6:=(BoxA.new w5 119 #[.slice pA pn pc,.slice rA rn rc,.slice tA tn tc,.slice sA sn sc,.int .i64 kn,.slice RA Rn Rc,.slice SA Sn Sc,.map (some bm),.slice TA Tn Tc,.slice PA Pn Pc]).ext hb6;have k6:=bA6.cell;have z6:=bA6.lt;have HO6:=Lib.hid ((HO.out.now (show Below w5.heap.size w5 (w5.alloc (.cells #[.slice pA pn pc,.slice rA rn rc,.slice tA tn tc,.slice sA sn sc,.int .i64 kn,.slice RA Rn Rc,.slice SA Sn Sc,.map (some bm),.slice TA Tn Tc,.slice PA Pn Pc] 119)) by exact bel_)).now hb6);have HBA:=Lib.hid bA6;clear kL5 zL5 hb6))
    go_ret2
    exact RetLE.err HB6
  | none =>
    obtain ⟨r,hres⟩:∃ r,clashX l kn=r:=⟨_,rfl⟩
    rw [hres]
    have HDR:=Lib.hid hdr
    have HV0:=Lib.hid hv
    have HRES:=Lib.hid hres
    clear hres hdr hv
    go_enter Tryz.func25,Tryz.ntmps25
    go_wp2_with (first | (go_at_call 18;refine (p_Check l ⟨pA,pn,pc,rA,rn,rc,tA,tn,tc,sA,sn,sc⟩ _ hpn hrn htn hsn (HD.out.now (by exact bel_))).mono ?_;rintro e w1 ⟨rfl,hb1⟩;have HB1:Below w.heap.size w w1:=Below.then_ (by exact bel_) hb1;have hs1:=HB1.size;have bL0:=BoxA.new w 27 #[.slice pA pn pc,.slice rA rn rc,.slice tA tn tc,.slice sA sn sc];have bL1:=bL0.ext hb1;have kL1:=bL1.cell;have zL1:=bL1.lt;clear hb1) | (go_at_call 100;refine (p_checkDays [kn] _ 1 1 _ (by decide) (Rd.new _ #[.int .i64 kn] _ 1 1 _ (by simp) rfl)).mono ?_;rintro e w2 ⟨rfl,hb2⟩;have HB2:Below w.heap.size w w2:=Below.then_ (by exact bel_) hb2;have hs2:=HB2.size;have bL2:=(bL1.alloc _).ext hb2;have kL2:=bL2.cell;have zL2:=bL2.lt;clear kL1 zL1;clear hb2) | (go_at_call 99;refine (p_first [errI (ledB l) 24,errI (daysOk [kn]) 6] 0 _ 2 2 _ (by decide) (Rd.new _ #[.int .i64 (errI (ledB l) 24),.int .i64 (errI (daysOk [kn]) 6)] _ 1 2 _ (by simp) rfl) HV.out).mono ?_;rintro e w1 ⟨rfl,rfl⟩) | (go_at_call 101;refine (p_openA l ⟨pA,pn,pc,rA,rn,rc,tA,tn,tc,sA,sn,sc⟩ kn _ HLO.out (HD.out.now (by exact bel_))).mono ?_;rintro e w5 ⟨RA,Rn,Rc,SA,Sn,Sc,bm,TA,Tn,Tc,PA,Pn,Pc,rfl,hb5,hO⟩;have HB5:Below w.heap.size w w5:=Below.then_ (by exact bel_) hb5;have hs5:=HB5.size;have HO:=Lib.hid hO;have bL5:=(bL2.alloc _).ext hb5;have kL5:=bL5.cell;have zL5:=bL5.lt;clear kL2 zL2;clear hO hb5) | (go_at_call 107;have hag:=p_agree (opnL l kn).M (cntR l kn) (opnL l kn).P ⟨⟨pA,pn,pc,rA,rn,rc,tA,tn,tc,sA,sn,sc⟩,kn,RA,Rn,Rc,SA,Sn,Sc,bm,TA,Tn,Tc,PA,Pn,Pc⟩ (w5.alloc (.cells #[.slice pA pn pc,.slice rA rn rc,.slice tA tn tc,.slice sA sn sc,.int .i64 kn,.slice RA Rn Rc,.slice SA Sn Sc,.map (some bm),.slice TA Tn Tc,.slice PA Pn Pc] 119)) (HO.out.acc.now (by exact bel_));rw [HDR.out] at hag;simp only [Option.isNone_none,Option.isNone_some,errI] at hag;refine hag.mono ?_;rintro e w6 ⟨rfl,hb6⟩;have HB6:Below w.heap.size w w6:=Below.then_ HB5 (Below.then_ (by exact bel_) hb6);have hs6:=HB6.size;have bA6:=(BoxA.new w5 119 #[.slice pA pn pc,.slice rA rn rc,.slice tA tn tc,.slice sA sn sc,.int .i64 kn,.slice RA Rn Rc,.slice SA Sn Sc,.map (some bm),.slice TA Tn Tc,.slice PA Pn Pc]).ext hb6;have k6:=bA6.cell;have z6:=bA6.lt;have HO6:=Lib.hid ((HO.out.now (show Below w5.heap.size w5 (w5.alloc (.cells #[.slice pA pn pc,.slice rA rn rc,.slice tA tn tc,.slice sA sn sc,.int .i64 kn,.slice RA Rn Rc,.slice SA Sn Sc,.map (some bm),.slice TA Tn Tc,.slice PA Pn Pc] 119)) by exact bel_)).now hb6);have HBA:=Lib.hid bA6;clear kL5 zL5 hb6))
    have HCON:Hid (∀ (W:World) (A:Option Addr) (n c:Nat) (S:List Sgt) (v:Bool),Below w6.heap.size w6 W→(∀ s∈S,s∈cntS l kn)→n≤1000000→Sgs W W.heap.size A n S→conB l kn S=v→Calls Tryz.prog 108 #[.agg #[.slice pA pn pc,.slice rA rn rc,.slice tA tn tc,.slice sA sn sc,.int .i64 kn,.slice RA Rn Rc,.slice SA Sn Sc,.map (some bm),.slice TA Tn Tc,.slice PA Pn Pc],.slice A n c] W fun e w'=>e=.returned (.bool v)∧Below W.heap.size W w'):=by
     show ∀ _,_
     exact fun W A n c S v hW hS hn hs hv=>p_contradictA l kn S v ⟨⟨pA,pn,pc,rA,rn,rc,tA,tn,tc,sA,sn,sc⟩,kn,RA,Rn,Rc,SA,Sn,Sc,bm,TA,Tn,Tc,PA,Pn,Pc⟩ A n c W HLO.out (HO6.out.now hW) hS hn hs hv
    have HSL:Hid ((cntS l kn).length=Sn):=by show _=_;exact HO6.out.sg.len
    have hSn:Sn≤60:=HO6.out.sn
    have hScc:Sn≤Sc∧Sc≤maxLen:=HO6.out.cs
    go_loopw [36] (fun i wr=>∃ k:Nat,k≤Sn∧i=.int .i64 k∧((cntS l kn).take k).find? (fun s=>conB l kn [s])=none∧Below w6.heap.size w6 wr) (fun i _=>Sn - (intOf i).toNat)
    case atStart=>exact ⟨0,by omega,rfl,rfl,Below.refl _ _⟩
    case round =>
     obtain ⟨k,hk,rfl,hfk,hB⟩:=hrel
     have HFK:=Lib.hid hfk
     clear hfk
     have hsB:=hB.size
     have HOw:=Lib.hid (HO6.out.now hB)
     have bAw:=HBA.out.ext hB
     have kAw:=bAw.cell
     have zAw:=bAw.lt
     have HBAw:=Lib.hid bAw
     by_cases hlt:k<Sn
     ·obtain ⟨b,o,s,hSA,hb,hs,a0,a1,a2,a3,a4,a5,a6⟩:=HOw.out.sg.at_ hlt
      have HMS:=Lib.hid (List.mem_of_getElem? hs)
      have HS:=Lib.hid hs
      obtain ⟨q,hq⟩:∃ q,conB l kn [s]=q:=⟨_,rfl⟩
      have HQ:=Lib.hid hq
      have hSA':SA=some ⟨b,o,none⟩:=hSA
      subst hSA'
      cases q with
      | true =>
        have hres2:r=([s.src],0):=by rw [← HRES.out,clashX,if_pos HV0.out,HDR.out];simp only [find_at2 HS.out hq HFK.out]
        subst hres2
        clear hs hq hSA
        go_wp2_with (go_at_call 108;refine (HCON.out _ _ _ _ [s] true (hB.trans ((show Below wr.heap.size wr _ by exact bel_).mono hsB)) (fun t ht=>by rw [List.mem_singleton.1 ht];exact HMS.out) (by decide) (sgs_new1 _ s _ (by simp)) HQ.out).mono ?_;rintro e w8 ⟨rfl,hb8⟩;have HB8:Below wr.heap.size wr w8:=Below.then_ (by exact bel_) hb8;have hs8:=HB8.size;have bs8:=((BoxA.new wr 38 (sgC s).toArray).alloc _).ext hb8;have ks8:=bs8.cell;have zs8:=bs8.lt)
        go_ret2
        have HBf:Below w.heap.size w w8:=HB6.trans ((hB.trans (HB8.mono (by omega))).mono (by omega))
        exact ⟨_,_,_,rfl,by exact bel_,Rd.new _ #[.int .i64 s.src] 3 1 1 _ (by simp) rfl,Nat.le_refl _,by decide⟩
      | false =>
        have HF:Hid (((cntS l kn).take (k+1)).find? (fun s=>conB l kn [s])=none):=by show _=_;exact find_step2 HS.out hq HFK.out
        clear hs hq hSA
        go_wp2_with (go_at_call 108;refine (HCON.out _ _ _ _ [s] false (hB.trans ((show Below wr.heap.size wr _ by exact bel_).mono hsB)) (fun t ht=>by rw [List.mem_singleton.1 ht];exact HMS.out) (by decide) (sgs_new1 _ s _ (by simp)) HQ.out).mono ?_;rintro e w8 ⟨rfl,hb8⟩;have HB8:Below wr.heap.size wr w8:=Below.then_ (by exact bel_) hb8;have hs8:=HB8.size;have bs8:=((BoxA.new wr 38 (sgC s).toArray).alloc _).ext hb8;have ks8:=bs8.cell;have zs8:=bs8.lt)
        go_roundw
        case rel=>exact ⟨k+1,by omega,by go_num,HF.out,hB.trans (HB8.mono (by omega))⟩
        case measure=>exact ms_
     ·have hkn:Hid (k=Sn):=by show _=_;omega
      have hf1:(cntS l kn).find? (fun s=>conB l kn [s])=none:=by
       have:=HFK.out
       rwa [List.take_of_length_le (by rw [HSL.out,hkn.out];exact Nat.le_refl _)] at this
      obtain ⟨q2,hq2⟩:∃ q,clash2 l kn (cntS l kn)=q:=⟨_,rfl⟩
      have hrr:r=clashR q2:=by
       rw [← HRES.out,clashX,if_pos HV0.out,HDR.out]
       simp only [hf1,hq2]
      have HRR:=Lib.hid hrr
      have HQ2:=Lib.hid hq2
      have HBk:=Lib.hid hB
      clear hrr hq2 hf1
      go_wp2
      go_loopw [51] (fun i wr=>∃ k:Nat,k≤Sn∧i=.int .i64 k∧clash2 l kn ((cntS l kn).drop k)=q2∧Below w6.heap.size w6 wr) (fun i _=>Sn - (intOf i).toNat)
      case atStart=>exact ⟨0,by omega,rfl,HQ2.out,HBk.out⟩
      case round =>
       clear hB HBAw HOw bAw kAw zAw hsB hlt hk
       obtain ⟨k,hk,rfl,hcl,hB⟩:=hrel
       obtain ⟨wo,hwo⟩:∃ wo:World,wo=wr:=⟨_,rfl⟩
       subst hwo
       have HCL:=Lib.hid hcl
       clear hcl
       have hsB:=hB.size
       have bAw:=HBA.out.ext hB
       have kAw:=bAw.cell
       have zAw:=bAw.lt
       by_cases hlt:k<Sn
       ·have hOo:Sgs wo wo.heap.size SA Sn (cntS l kn):=(HO6.out.now hB).sg
        obtain ⟨b,o,s,hSA,hb,hs,a0,a1,a2,a3,a4,a5,a6⟩:=hOo.at_ hlt
        have HMS:=Lib.hid (List.mem_of_getElem? hs)
        have HS:=Lib.hid hs
        have hSA':SA=some ⟨b,o,none⟩:=hSA
        subst hSA'
        obtain ⟨W2,hW2⟩:∃ W2,wo.alloc (.cells (sgC s).toArray 38)=W2:=⟨_,rfl⟩
        have hB2:Below wo.heap.size wo W2:=by rw [← hW2];exact (Below.refl _ _).alloc (Nat.le_refl _) _
        have bX:BoxA W2 wo.heap.size 38 (sgC s).toArray:=by rw [← hW2];exact BoxA.new _ _ _
        have HBX:=Lib.hid bX
        have HW2:=Lib.hid hW2
        have hs2':wo.heap.size<W2.heap.size:=bX.lt
        have HOo:=Lib.hid hOo
        clear hs hSA hW2 bX hOo
        by_cases hcap:Sc=k+1
        ·have hnk:Sn=k+1:=by omega
         have hfn:((cntS l kn).drop (k+1)).find? (fun y=>conB l kn [s,y])=none:=by
          rw [List.drop_eq_nil_of_le (by rw [HSL.out];omega)];rfl
         have HN:=Lib.hid (clash2_none HS.out hfn HCL.out)
         have HNK:=Lib.hid hnk
         clear hfn
         go_wp2
         go_loopw [62] (fun i wr=>i=.int .i64 0∧Below W2.heap.size W2 wr) (fun _ _=>0)
         case atStart=>exact ⟨rfl,by rw [← HW2.out];exact Below.refl _ _⟩
         case round =>
          obtain ⟨rfl,hB3⟩:=hrel
          have hz:Sn - (k+1)=0:=by have:=HNK.out;omega
          go_wp2
          go_roundw
          case rel=>exact ⟨k+1,by omega,by go_num,HN.out,hB.trans ((hB2.trans (hB3.mono (by omega))).mono (by omega))⟩
          case measure=>exact ms_
        ·have hcap2:¬ (k+1=Sc):=fun h=>hcap h.symm
         have HDR2:=Lib.hid (HOo.out.drop_ (k:=k+1) (by omega))
         go_wp2
         go_loopw [62] (fun i wr=>∃ j:Nat,j≤Sn - (k+1)∧i=.int .i64 j∧(((cntS l kn).drop (k+1)).take j).find? (fun y=>conB l kn [s,y])=none∧Below W2.heap.size W2 wr) (fun i _=>(Sn - (k+1)) - (intOf i).toNat)
         case atStart=>exact ⟨0,by omega,rfl,rfl,by rw [← HW2.out];exact Below.refl _ _⟩
         case round =>
          obtain ⟨j,hj,rfl,hfj,hB3⟩:=hrel
          have HFJ:=Lib.hid hfj
          clear hfj
          have hs3:=hB3.size
          have hBo:Below wo.heap.size wo wr:=hB2.trans (hB3.mono (by omega))
          have bAr:=bAw.ext hBo
          have m0:=bAr.cell
          have y0:=bAr.lt
          have bXr:=HBX.out.ext hB3
          have mX:=bXr.cell
          have yX:=bXr.lt
          by_cases hlj:j<Sn - (k+1)
          ·obtain ⟨b',o',y,e',hb',hy,p0,p1,p2,p3,p4,p5,p6⟩:=(HDR2.out.ext abS hBo (Nat.le_refl _)).at_ hlj
           obtain ⟨rfl,rfl⟩:b=b'∧o+(k+1)*7=o':=by simpa using e'
           have HY:=Lib.hid hy
           have HMY:Hid (y∈cntS l kn):=by show _∈_;exact List.mem_of_mem_drop (List.mem_of_getElem? hy)
           have hbr':b<wr.heap.size:=by omega
           obtain ⟨q,hq⟩:∃ q,conB l kn [s,y]=q:=⟨_,rfl⟩
           have HQ:=Lib.hid hq
           cases q with
           | true =>
             have hq2s:=clash2_some HS.out (find_at2 HY.out hq HFJ.out) HCL.out
             have hr2:r=([s.src,y.src],0):=by rw [HRR.out,hq2s];rfl
             subst hr2
             clear hy hq hq2s
             go_wp2_with (go_at_call 108;refine (HCON.out _ _ _ _ [s,y] true (hB.trans ((hBo.trans ((show Below wr.heap.size wr _ by exact bel_).mono (by omega))).mono (by omega))) (fun t ht=>by (rcases List.mem_cons.1 ht with rfl | ht);exact HMS.out;(rw [List.mem_singleton.1 ht];exact HMY.out)) (by decide) (sgs_new2 _ s y _ (by simp)) HQ.out).mono ?_;rintro e w8 ⟨rfl,hb8⟩;have HB8:Below wr.heap.size wr w8:=Below.then_ (by exact bel_) hb8;have hs8:=HB8.size;have bs8:=((bXr.alloc (.cells (sgC y).toArray 38)).alloc _).ext hb8;have ks8:=bs8.cell;have zs8:=bs8.lt;have by8:=((BoxA.new wr 38 (sgC y).toArray).alloc _).ext hb8;have ky8:=by8.cell;have zy8:=by8.lt)
             go_ret2
             have HBf:Below w.heap.size w w8:=HB6.trans ((hB.trans ((hBo.trans (HB8.mono (by omega))).mono (by omega))).mono (by omega))
             exact ⟨_,_,_,rfl,by exact bel_,Rd.new _ #[.int .i64 s.src,.int .i64 y.src] 3 1 2 _ (by simp) rfl,Nat.le_refl _,by decide⟩
           | false =>
             have HF:Hid ((((cntS l kn).drop (k+1)).take (j+1)).find? (fun y=>conB l kn [s,y])=none):=by show _=_;exact find_step2 HY.out hq HFJ.out
             clear hy hq
             go_wp2_with (go_at_call 108;refine (HCON.out _ _ _ _ [s,y] false (hB.trans ((hBo.trans ((show Below wr.heap.size wr _ by exact bel_).mono (by omega))).mono (by omega))) (fun t ht=>by (rcases List.mem_cons.1 ht with rfl | ht);exact HMS.out;(rw [List.mem_singleton.1 ht];exact HMY.out)) (by decide) (sgs_new2 _ s y _ (by simp)) HQ.out).mono ?_;rintro e w8 ⟨rfl,hb8⟩;have HB8:Below wr.heap.size wr w8:=Below.then_ (by exact bel_) hb8;have hs8:=HB8.size;have bs8:=((bXr.alloc (.cells (sgC y).toArray 38)).alloc _).ext hb8;have ks8:=bs8.cell;have zs8:=bs8.lt;have by8:=((BoxA.new wr 38 (sgC y).toArray).alloc _).ext hb8;have ky8:=by8.cell;have zy8:=by8.lt)
             go_roundw
             case rel=>exact ⟨j+1,by omega,by go_num,HF.out,hB3.trans (HB8.mono (by omega))⟩
             case measure=>exact ms_
          ·have hjn:Hid (j=Sn - (k+1)):=by show _=_;omega
           have hfn:((cntS l kn).drop (k+1)).find? (fun y=>conB l kn [s,y])=none:=by
            have:=HFJ.out
            rwa [List.take_of_length_le (by rw [List.length_drop,HSL.out,hjn.out];exact Nat.le_refl _)] at this
           have HN:=Lib.hid (clash2_none HS.out hfn HCL.out)
           clear hfn
           go_wp2
           go_roundw
           case rel=>exact ⟨k+1,by omega,by go_num,HN.out,hB.trans (hBo.mono (by omega))⟩
           case measure=>exact ms_
       ·have hkn2:Hid (k=Sn):=by show _=_;omega
        have hq2n:q2=none:=by
         rw [← HCL.out,List.drop_eq_nil_of_le (by rw [HSL.out,hkn2.out];exact Nat.le_refl _)];rfl
        have hr2:r=([],28):=by rw [HRR.out,hq2n];rfl
        subst hr2
        clear hq2n
        go_wp2
        go_ret2
        exact RetLE.err (HB6.trans (hB.mono (by omega)))
 ·have hres:clashX l kn=([],v):=by rw [clashX,if_neg (by rw [hv];exact hv0),hv]
  rw [hres]
  have hv1:(v != 0)=true:=by simpa using hv0
  clear hres hv hv0
  go_enter Tryz.func25,Tryz.ntmps25
  go_wp2_with (first | (go_at_call 18;refine (p_Check l ⟨pA,pn,pc,rA,rn,rc,tA,tn,tc,sA,sn,sc⟩ _ hpn hrn htn hsn (HD.out.now (by exact bel_))).mono ?_;rintro e w1 ⟨rfl,hb1⟩;have HB1:Below w.heap.size w w1:=Below.then_ (by exact bel_) hb1;have hs1:=HB1.size;have bL0:=BoxA.new w 27 #[.slice pA pn pc,.slice rA rn rc,.slice tA tn tc,.slice sA sn sc];have bL1:=bL0.ext hb1;have kL1:=bL1.cell;have zL1:=bL1.lt;clear hb1) | (go_at_call 100;refine (p_checkDays [kn] _ 1 1 _ (by decide) (Rd.new _ #[.int .i64 kn] _ 1 1 _ (by simp) rfl)).mono ?_;rintro e w2 ⟨rfl,hb2⟩;have HB2:Below w.heap.size w w2:=Below.then_ (by exact bel_) hb2;have hs2:=HB2.size;have bL2:=(bL1.alloc _).ext hb2;have kL2:=bL2.cell;have zL2:=bL2.lt;clear kL1 zL1;clear hb2) | (go_at_call 99;refine (p_first [errI (ledB l) 24,errI (daysOk [kn]) 6] v _ 2 2 _ (by decide) (Rd.new _ #[.int .i64 (errI (ledB l) 24),.int .i64 (errI (daysOk [kn]) 6)] _ 1 2 _ (by simp) rfl) HV.out).mono ?_;rintro e w1 ⟨rfl,rfl⟩))
  go_ret2
  exact RetLE.err (by exact bel_)
end Go.Proofs.YtoiompoapikkbaaGreat
/- Layer 2: Placed. -/
namespace Go.Proofs.YtoiompoapikkbaaGreat
open Go.RowKit Go.Maps
def whoP (l:Led) (kn day pap:Int) (days:List Int) (i:Nat):Int:=if (stayP (opnL l kn).M (cntR l kn) pap ((i:Int)+1) day).2<0∨day<days.getD (stayP (opnL l kn).M (cntR l kn) pap ((i:Int)+1) day).2.toNat 0 then (stayP (opnL l kn).M (cntR l kn) pap ((i:Int)+1) day).1 else 0
def placedX (l:Led) (days:List Int) (pap day kn:Int):List Int × Int:=if preF l day kn pap 1=0 then (if trueE l kn days=0 then ((List.range (lvOf l.pp pap).toNat).map (whoP l kn day pap days),0) else ([],trueE l kn days)) else ([],preF l day kn pap 1)
def whPL (l:Led) (kn day pap:Int) (days:List Int) (n k:Nat):List Int:=(List.range k).map (whoP l kn day pap days) ++ List.replicate (n - k) 0
theorem whPL_zero (l:Led) (kn day pap:Int) (days:List Int) (n:Nat):whPL l kn day pap days n 0=List.replicate n 0:=by simp [whPL]
theorem whPL_len (l:Led) (kn day pap:Int) (days:List Int) {n k:Nat} (h:k≤n):(whPL l kn day pap days n k).length=n:=by simp [whPL];omega
theorem whPL_all (l:Led) (kn day pap:Int) (days:List Int) (n:Nat):whPL l kn day pap days n n=(List.range n).map (whoP l kn day pap days):=by simp [whPL]
theorem whPL_succ (l:Led) (kn day pap:Int) (days:List Int) {n k:Nat} (h:k<n):whPL l kn day pap days n (k+1)=(whPL l kn day pap days n k).set k (whoP l kn day pap days k):=by
 unfold whPL
 obtain ⟨d,hd⟩:∃ d,n - k=d+1:=⟨n - k - 1,by omega⟩
 rw [hd,show n - (k+1)=d from by omega,List.range_succ,List.map_append,List.replicate_succ,List.set_append_right _ _ (by simp)]
 simp
theorem whPL_same (l:Led) (kn day pap:Int) (days:List Int) {n k:Nat} (h:k<n) (h0:whoP l kn day pap days k=0):whPL l kn day pap days n (k+1)=whPL l kn day pap days n k:=by
 rw [whPL_succ l kn day pap days h,h0]
 apply List.ext_getElem?
 intro j
 rw [List.getElem?_set]
 by_cases hj:k=j
 ·subst hj
  rw [if_pos rfl,if_pos (by rw [whPL_len l kn day pap days (Nat.le_of_lt h)];exact h)]
  unfold whPL
  rw [List.getElem?_append_right (by simp)]
  obtain ⟨d,hd⟩:∃ d,n - k=d+1:=⟨n - k - 1,by omega⟩
  rw [hd,List.length_map,List.length_range,Nat.sub_self,List.replicate_succ]
  rfl
 ·rw [if_neg hj]
theorem made_int (n:Nat):madeCells #[.int .i64 0] n=(intL (List.replicate n 0)).toArray:=by
 apply Array.ext'
 rw [toList_madeCells_one]
 simp [intL]
theorem make_int (n:Nat) (hn:n≤1000000) (w:World):(Instr.makeSlice 30 (.int .i64 (n:Int)) (.int .i64 (n:Int))).run Tryz.prog w=.ok (.slice (some ⟨w.heap.size,0,none⟩) n n) (w.alloc (.cells (intL (List.replicate n 0)).toArray 3)):=by
 obtain ⟨i0,hi,hz0,hz1,hz2⟩:=info_parts infoI2
 have h:=run_make (w:=w) 30 3 i0 _ Tryz.underlying30 hi hz0 .i64 .i64 n n (by omega) (Int.le_refl _) (by rw [hz2];omega) (by omega)
 rw [h,hz1]
 simp only [Int.toNat_natCast,Nat.mul_one,Value.cells]
 rw [made_int]
theorem BoxA.setI {W:World} {B:Nat} {t:TypeId} {xs:List Int} (h:BoxA W B t (intL xs).toArray) (i:Nat) (v:Int):BoxA (W.setCell ⟨B,i,none⟩ (.int .i64 v)) B t (intL (xs.set i v)).toArray:=by
 have:=h.set i (.int .i64 v)
 simpa [intL,List.map_set] using this
theorem true_len {l:Led} {kn:Int} {days:List Int} (h:trueE l kn days=0):days.length=l.rt.length:=by
 unfold trueE at h
 split at h
 ·rename_i h1;exact h1.1
 ·cases h
theorem p_stayA (M:List ((Int × Int) × Nat)) (R:List Rcp) (P:List (Int × Int)) (a:Acc) (pap leaf day:Int) (st:Int × Int) (w:World) (h:AccR w a M R P) (hwl:(Lit.int .i64 leaf).wf=true) (hst:stayP M R pap leaf day=st) :
 Calls Tryz.prog 134 #[accV a,.agg #[.int .i64 pap,.int .i64 leaf],.int .i64 day] w fun e w'=>e=.returned (.agg #[.int .i64 st.1,.int .i64 st.2])∧Below w.heap.size w w':=by
 subst hst
 exact p_stay M R a pap leaf day w h.nR (fun r hr=>⟨(h.okR r hr).1,(h.okR r hr).2.1⟩) hwl h.m h.r
set_option maxRecDepth 100000 in
set_option maxHeartbeats 4000000 in
theorem p_PlacedX (l:Led) (x:Lsl) (days:List Int) (D:Option Addr) (m c0:Nat) (pap day kn:Int) (w:World) (hf:x.fit) (hd:LedIn w w.heap.size x l) (hm:m≤9223372036854775807) (hdy:Is w w.heap.size D m days) :
 Calls Tryz.prog 47 #[.agg #[.slice x.pA x.pn x.pc,.slice x.rA x.rn x.rc,.slice x.tA x.tn x.tc,.slice x.sA x.sn x.sc],.slice D m c0,.int .i64 pap,.int .i64 day,.int .i64 kn] w (RetLE (placedX l days pap day kn) w):=by
 obtain ⟨pA,pn,pc,rA,rn,rc,tA,tn,tc,sA,sn,sc⟩:=x
 have HD:=Lib.hid hd
 have hml:maxLen≤9223372036854775807:=by decide
 have hpn:pn≤9223372036854775807:=by have:=hf.p;dsimp only at this;omega
 have hrn:rn≤9223372036854775807:=by have:=hf.r;dsimp only at this;omega
 have htn:tn≤9223372036854775807:=by have:=hf.t;dsimp only at this;omega
 have hsn:sn≤9223372036854775807:=by have:=hf.s;dsimp only at this;omega
 clear hd hf hml
 have HDY:=Lib.hid hdy
 clear hdy
 obtain ⟨vp,hv⟩:∃ vp,preF l day kn pap 1=vp:=⟨_,rfl⟩
 have HV:Hid (orL [errI (ledB l) 24,errI (daysOk [day,kn]) 6,errI (folB l.pp pap 1) 26]=vp):=by show _=_;exact hv
 obtain ⟨W0,hW0⟩:∃ W0,W0=(w.alloc (.cells #[.slice pA pn pc,.slice rA rn rc,.slice tA tn tc,.slice sA sn sc] 27)):=⟨_,rfl⟩
 have HC0:Below w.heap.size w W0:=by rw [hW0];exact bel_
 have bL:BoxA W0 w.heap.size 27 #[.slice pA pn pc,.slice rA rn rc,.slice tA tn tc,.slice sA sn sc]:=by rw [hW0];exact BoxA.new _ _ _
 have HW0:=Lib.hid hW0
 have HVP:=Lib.hid hv
 clear hW0 hv
 go_enter Tryz.func47,Tryz.ntmps47
 go_wp2
 refine wp_named2 fun f1 V1 hf1 hV1=>?_
 obtain rfl:V1=W0:=by rw [← hV1,HW0.out]
 clear hV1
 refine wp_cut2 (fun a' W'=>IsFr2 (fun u=>{ tmps:=#[.agg #[.slice pA pn pc,.slice rA rn rc,.slice tA tn tc,.slice sA sn sc],.slice D m c0,.int .i64 pap,.int .i64 day,.int .i64 kn,.pointer (some ⟨w.heap.size,0,none⟩),u 6,u 7,u 8,u 9,.slice none 0 0,.int .i64 0,.int .i64 vp,u 13,u 14,u 15,u 16,u 17,u 18,u 19,u 20,u 21,u 22,u 23,u 24,u 25,u 26,u 27,u 28,u 29,u 30,u 31,u 32,u 33,u 34,u 35,u 36,u 37,u 38,u 39,u 40,u 41,u 42,u 43,u 44,u 45,u 46,u 47,u 48,u 49,u 50,u 51,u 52,u 53,u 54,u 55,u 56,u 57,u 58,u 59,u 60,u 61,u 62,u 63,u 64,u 65,u 66,u 67,u 68,u 69,u 70,u 71,u 72,u 73,u 74],defers:=[] }) a'∧Below w.heap.size w W'∧(∀ o,W'.cell? ⟨w.heap.size,o,none⟩=(#[.slice pA pn pc,.slice rA rn rc,.slice tA tn tc,.slice sA sn sc]:Array Value)[o]?)∧w.heap.size<W'.heap.size) ?reg ?rest
 case reg =>
  subst hf1
  have HC:Below w.heap.size w V1.drew:=HC0.drew
  have zL:w.heap.size<V1.heap.size:=bL.lt
  (refine wp_region_sink_lit (S:=S1 w.heap.size w.heap.size #[.slice pA pn pc,.slice rA rn rc,.slice tA tn tc,.slice sA sn sc] #[.slice pA pn pc,.slice rA rn rc,.slice tA tn tc,.slice sA sn sc]) 11 (by kernel_rfl) rfl rfl (by kernel_rfl) (by kernel_rfl) ⟨bL.cell,bL.cell,zL,zL⟩ (fun hS=>?_);simp only [List.take_succ_cons,List.take_zero,List.reduceReplicate,Array.replicate_succ,Array.replicate_zero])
  (refine tk_ (i:=0) (v:=?_) rfl ?_ hS ?_ (fun _ _ _ h=>h);rotate_left;focus (intro w2 hw2;(try dsimp only at hw2);(try unfold S1 at hw2);go_split_ands;go_simp;first | done | with_reducible rfl);(try simp only [Act.put,pu1,pu2,pu3]))
  (refine tk_ (i:=2) (v:=?_) rfl ?_ hS ?_ (fun _ _ _ h=>h);rotate_left;focus (intro w2 hw2;(try dsimp only at hw2);(try unfold S1 at hw2);go_split_ands;go_simp;first | done | with_reducible rfl);(try simp only [Act.put,pu1,pu2,pu3]))
  (refine tk_ (i:=3) (v:=?_) rfl ?_ hS ?_ (fun _ _ _ h=>h);rotate_left;focus (intro w2 hw2;(try dsimp only at hw2);(try unfold S1 at hw2);go_split_ands;go_simp;first | done | with_reducible rfl);(try simp only [Act.put,pu1,pu2,pu3]))
  (refine tk_ (i:=6) (v:=?_) rfl ?_ hS ?_ (fun _ _ _ h=>h);rotate_left;focus (intro w2 hw2;(try dsimp only at hw2);(try unfold S1 at hw2);go_split_ands;go_simp;first | done | with_reducible rfl);(try simp only [Act.put,pu1,pu2,pu3]))
  (refine tk_ (i:=7) (v:=?_) rfl ?_ hS ?_ (fun _ _ _ h=>h);rotate_left;focus (intro w2 hw2;(try dsimp only at hw2);(try unfold S1 at hw2);go_split_ands;go_simp;first | done | with_reducible rfl);(try simp only [Act.put,pu1,pu2,pu3]))
  refine rd_ [1,4] ?_
  refine AllReadyH.cons rfl (fun K hK=>?_) (AllReadyH.cons rfl (fun K hK=>?_) AllReadyH.nil)
  ·(go_simp;go_at_call 18;refine (p_Check l ⟨pA,pn,pc,rA,rn,rc,tA,tn,tc,sA,sn,sc⟩ _ hpn hrn htn hsn (HD.out.now HC)).mono ?_;rintro e v1 ⟨rfl,hb⟩;go_simp)
   have HC:=Below.then_ HC hb
   refine hK.out _ _ (S1.ext hb hS) (fun hS=>?_)
   clear hK K hb
   (try simp only [Act.put,pu1,pu2,pu3])
   refine rd_ [4] ?_
   refine ah1 rfl fun K hK=>?_
   go_simp
   have hAr:=BoxA.new (v1) 3 #[.int .i64 day,.int .i64 kn]
   have HC:=HC.alloc HC.size (.cells #[.int .i64 day,.int .i64 kn] 3)
   refine hK.out _ _ (S1.ext ((Below.refl _ _).alloc (Nat.le_refl _) _) hS) (fun hS=>?_)
   clear hK K
   (try simp only [Act.put,pu1,pu2,pu3])
   refine rd_ [5] ?_
   refine ah1 rfl fun K hK=>?_
   (go_simp;go_at_call 100;refine (p_checkDays [day,kn] _ 2 2 _ (by decide) (is_box hAr rfl)).mono ?_;rintro e v3 ⟨rfl,hb⟩;go_simp)
   have HC:=Below.then_ HC hb
   have hAr:=hAr.ext hb
   refine hK.out _ _ (S1.ext hb hS) (fun hS=>?_)
   clear hK K hb
   (try simp only [Act.put,pu1,pu2,pu3])
   refine rd_ [8] ?_
   refine ah1 rfl fun K hK=>?_
   (go_simp;go_at_call 124;refine (p_checkPaper2 l.pp ⟨pA,pn,pc,rA,rn,rc,tA,tn,tc,sA,sn,sc⟩ pap _ hpn (HD.out.now HC).p).mono ?_;rintro e v4 ⟨rfl,hb⟩;go_simp)
   have HC:=Below.then_ HC hb
   have hAr:=hAr.ext hb
   refine hK.out _ _ (S1.ext hb hS) (fun hS=>?_)
   clear hK K hb
   (try simp only [Act.put,pu1,pu2,pu3])
   refine rd_ [9] ?_
   refine ah1 rfl fun K hK=>?_
   go_simp
   have HCX:=HC.alloc HC.size (.cells #[.int .i64 (errI (ledB l) 24),.int .i64 (errI (daysOk [day,kn]) 6),.int .i64 (errI (folB l.pp pap 1) 26)] 41)
   refine hK.out _ _ (S1.ext ((Below.refl _ _).alloc (Nat.le_refl _) _) hS) (fun hS=>?_)
   clear hK K
   (try simp only [Act.put,pu1,pu2,pu3])
   refine rd_ [10] ?_
   refine ah1 rfl fun K hK=>?_
   (go_simp;go_at_call 99;refine (p_first [errI (ledB l) 24,errI (daysOk [day,kn]) 6,errI (folB l.pp pap 1) 26] vp _ 3 3 _ (by decide) (Rd.new _ #[.int .i64 (errI (ledB l) 24),.int .i64 (errI (daysOk [day,kn]) 6),.int .i64 (errI (folB l.pp pap 1) 26)] _ 1 3 _ (by simp) rfl) HV.out).mono ?_;rintro e w9 ⟨rfl,rfl⟩;go_simp)
   refine hK.out _ _ hS (fun hS=>?_)
   clear hK K
   (try simp only [Act.put,pu1,pu2,pu3])
   refine wpAnyH_done (by kernel_rfl) ?_ _
   simp only [sinkQ]
   go_simp
   refine ⟨IsFr2.of rfl,HCX,fun o=>?_,hS.2.2.1⟩
   have h:=hS.1 o
   simpa using h
  ·go_simp
   have hAr:=BoxA.new (V1.drew) 3 #[.int .i64 day,.int .i64 kn]
   have HC:=HC.alloc HC.size (.cells #[.int .i64 day,.int .i64 kn] 3)
   refine hK.out _ _ (S1.ext ((Below.refl _ _).alloc (Nat.le_refl _) _) hS) (fun hS=>?_)
   clear hK K
   (try simp only [Act.put,pu1,pu2,pu3])
   refine rd_ [1] ?_
   refine ah1 rfl fun K hK=>?_
   (go_simp;go_at_call 18;refine (p_Check l ⟨pA,pn,pc,rA,rn,rc,tA,tn,tc,sA,sn,sc⟩ _ hpn hrn htn hsn (HD.out.now HC)).mono ?_;rintro e v6 ⟨rfl,hb⟩;go_simp)
   have HC:=Below.then_ HC hb
   have hAr:=hAr.ext hb
   refine hK.out _ _ (S1.ext hb hS) (fun hS=>?_)
   clear hK K hb
   (try simp only [Act.put,pu1,pu2,pu3])
   refine rd_ [5] ?_
   refine ah1 rfl fun K hK=>?_
   (go_simp;go_at_call 100;refine (p_checkDays [day,kn] _ 2 2 _ (by decide) (is_box hAr rfl)).mono ?_;rintro e v7 ⟨rfl,hb⟩;go_simp)
   have HC:=Below.then_ HC hb
   have hAr:=hAr.ext hb
   refine hK.out _ _ (S1.ext hb hS) (fun hS=>?_)
   clear hK K hb
   (try simp only [Act.put,pu1,pu2,pu3])
   refine rd_ [8] ?_
   refine ah1 rfl fun K hK=>?_
   (go_simp;go_at_call 124;refine (p_checkPaper2 l.pp ⟨pA,pn,pc,rA,rn,rc,tA,tn,tc,sA,sn,sc⟩ pap _ hpn (HD.out.now HC).p).mono ?_;rintro e v8 ⟨rfl,hb⟩;go_simp)
   have HC:=Below.then_ HC hb
   have hAr:=hAr.ext hb
   refine hK.out _ _ (S1.ext hb hS) (fun hS=>?_)
   clear hK K hb
   (try simp only [Act.put,pu1,pu2,pu3])
   refine rd_ [9] ?_
   refine ah1 rfl fun K hK=>?_
   go_simp
   have HCX:=HC.alloc HC.size (.cells #[.int .i64 (errI (ledB l) 24),.int .i64 (errI (daysOk [day,kn]) 6),.int .i64 (errI (folB l.pp pap 1) 26)] 41)
   refine hK.out _ _ (S1.ext ((Below.refl _ _).alloc (Nat.le_refl _) _) hS) (fun hS=>?_)
   clear hK K
   (try simp only [Act.put,pu1,pu2,pu3])
   refine rd_ [10] ?_
   refine ah1 rfl fun K hK=>?_
   (go_simp;go_at_call 99;refine (p_first [errI (ledB l) 24,errI (daysOk [day,kn]) 6,errI (folB l.pp pap 1) 26] vp _ 3 3 _ (by decide) (Rd.new _ #[.int .i64 (errI (ledB l) 24),.int .i64 (errI (daysOk [day,kn]) 6),.int .i64 (errI (folB l.pp pap 1) 26)] _ 1 3 _ (by simp) rfl) HV.out).mono ?_;rintro e w9 ⟨rfl,rfl⟩;go_simp)
   refine hK.out _ _ hS (fun hS=>?_)
   clear hK K
   (try simp only [Act.put,pu1,pu2,pu3])
   refine wpAnyH_done (by kernel_rfl) ?_ _
   simp only [sinkQ]
   go_simp
   refine ⟨IsFr2.of rfl,HCX,fun o=>?_,hS.2.2.1⟩
   have h:=hS.1 o
   simpa using h
 case rest =>
  clear hf1 bL HC0
  rintro a' W' ⟨⟨u,rfl⟩,HB2,kL2,zL2⟩
  have hs2:=HB2.size
  by_cases hv0:vp=0
  ·subst hv0
   have HLO:=Lib.hid (led_ok (preF_zero HVP.out))
   obtain ⟨ve,hve⟩:∃ ve,trueE l kn days=ve:=⟨_,rfl⟩
   by_cases he:ve=0
   ·subst he
    obtain ⟨n,hn,hn30⟩:=lv_range HLO.out pap
    have hres:placedX l days pap day kn=((List.range n).map (whoP l kn day pap days),0):=by rw [placedX,if_pos HVP.out,if_pos hve,hn,Int.toNat_natCast]
    have HRES:=Lib.hid hres
    have HTE:=Lib.hid hve
    have HDL:=Lib.hid (true_len hve)
    have HLN:=Lib.hid hn
    have hmk:=make_int n (by omega)
    clear hres hve
    go_wp2_with (first | (go_at_call 101;refine (p_openA l ⟨pA,pn,pc,rA,rn,rc,tA,tn,tc,sA,sn,sc⟩ kn _ HLO.out (HD.out.now HB2)).mono ?_;rintro e w5 ⟨RA,Rn,Rc,SA,Sn,Sc,bm,TA,Tn,Tc,PA,Pn,Pc,rfl,hb5,hO⟩;have HB5:Below w.heap.size w w5:=Below.then_ HB2 hb5;have hs5:=HB5.size;have HO:=Lib.hid hO;have kL5:∀ o,w5.cell? ⟨w.heap.size,o,none⟩=(#[.slice pA pn pc,.slice rA rn rc,.slice tA tn tc,.slice sA sn sc]:Array Value)[o]?:=(fun o=>(hb5.cell (p:=⟨w.heap.size,o,none⟩) zL2).trans (kL2 o));have zL5:w.heap.size<w5.heap.size:=Nat.lt_of_lt_of_le zL2 hb5.size;clear kL2 hO hb5) | (go_at_call 133;refine (p_checkTrue0 l kn days D m c0 ⟨⟨pA,pn,pc,rA,rn,rc,tA,tn,tc,sA,sn,sc⟩,kn,RA,Rn,Rc,SA,Sn,Sc,bm,TA,Tn,Tc,PA,Pn,Pc⟩ w5 HLO.out HO.out hm (HDY.out.now HB5) HTE.out).mono ?_;rintro e w6 ⟨PA2,Pc2,rfl,hb6,hbx6,hac6⟩;have HB6:Below w.heap.size w w6:=Below.then_ HB5 hb6;have hs6:=HB6.size;have hs56:=hb6.size;have k6:=hbx6.cell;have z6:=hbx6.lt;have HAC:=Lib.hid hac6;have HBX:=Lib.hid hbx6;have kL6:∀ o,w6.cell? ⟨w.heap.size,o,none⟩=(#[.slice pA pn pc,.slice rA rn rc,.slice tA tn tc,.slice sA sn sc]:Array Value)[o]?:=(fun o=>(hb6.cell (p:=⟨w.heap.size,o,none⟩) zL5).trans (kL5 o));have zL6:w.heap.size<w6.heap.size:=Nat.lt_of_lt_of_le zL5 hb6.size;clear kL5 hac6 hb6 hbx6) | (go_at_call 125;refine (p_leaves l.pp ⟨pA,pn,pc,rA,rn,rc,tA,tn,tc,sA,sn,sc⟩ pap _ hpn (HD.out.now HB6).p).mono ?_;rintro e w7 ⟨rfl,hb7⟩;have HB7:Below w.heap.size w w7:=HB6.trans (hb7.mono hs6);have hs67:=hb7.size;have HBX7:=Lib.hid (HBX.out.ext hb7);have HAC7:=Lib.hid (HAC.out.now hb7);clear hb7 kL6 zL6 k6 z6))
    have hnl:lvOf l.pp pap=(n:Int):=HLN.out
    have hac7:=HAC7.out
    have hlm:days.length=m:=HDY.out.len
    have hPn:Pn=l.rt.length:=HO.out.pn
    have HLM:=Lib.hid hlm
    have HPN:=Lib.hid hPn
    clear hlm hPn
    go_loopw [46] (fun i wr=>∃ k:Nat,k≤n∧i=.int .i64 k∧BoxA wr w7.heap.size 3 (intL (whPL l kn day pap days n k)).toArray∧Below w7.heap.size w7 wr) (fun i _=>n - (intOf i).toNat)
    case atStart =>
     exact ⟨0,by omega,rfl,by rw [whPL_zero];exact BoxA.new w7 _ _,by exact bel_⟩
    case round =>
     obtain ⟨k,hk,rfl,bQ,hB⟩:=hrel
     have hsB:=hB.size
     have bAw:=HBX7.out.ext hB
     have kAw:=bAw.cell
     have zAw:=bAw.lt
     have zQ:=bQ.lt
     have HACw:=Lib.hid (hac7.now hB)
     by_cases hlt:k<n
     ·have hwf:(Lit.int .i64 ((k:Int)+1)).wf=true:=wf_small (by omega) (by omega)
      have hwr:IntKind.i64.wrap ((k:Int)+1)=(k:Int)+1:=IntWalk.i64_in _ (by omega)
      obtain ⟨⟨sp,sb⟩,hst⟩:∃ st,stayP (opnL l kn).M (cntR l kn) pap ((k:Int)+1) day=st:=⟨_,rfl⟩
      have hback:=stayP_back (M:=(opnL l kn).M) (R:=cntR l kn) (pap:=pap) (leaf:=(k:Int)+1) (day:=day) HACw.out.mP
      rw [hst] at hback
      have HST:=Lib.hid hst
      have hW:whoP l kn day pap days k=if sb<0∨day<days.getD sb.toNat 0 then sp else 0:=by rw [whoP,hst]
      have hcellk:∃ u,(intL (whPL l kn day pap days n k)).toArray[k]?=some u:=⟨_,Array.getElem?_eq_getElem (by simp [intL];rw [whPL_len l kn day pap days hk];exact hlt)⟩
      obtain ⟨u0,hu0⟩:=hcellk
      clear hst
      rcases hback with hb | ⟨ix,hix,hb⟩
      ·have hb:sb=-1:=hb
       subst hb
       have hw1:whoP l kn day pap days k=sp:=by rw [hW,if_pos (.inl (by decide))]
       have HS:=Lib.hid (whPL_succ l kn day pap days hlt)
       have HW1:=Lib.hid hw1
       clear hW hw1
       go_wp2_with (go_at_call 134;refine (p_stayA _ _ _ ⟨⟨pA,pn,pc,rA,rn,rc,tA,tn,tc,sA,sn,sc⟩,kn,RA,Rn,Rc,SA,Sn,Sc,bm,TA,Tn,Tc,PA2,Pn,Pc2⟩ pap ((k:Int)+1) day _ wr HACw.out hwf HST.out).mono ?_;rintro e w8 ⟨rfl,hb8⟩;have hs8:=hb8.size;have bQ8:=bQ.ext hb8;have kQ8:=bQ8.cell;have zQ8:=bQ8.lt;have fQ8:=bQ8.frozen;have HBQ8:=Lib.hid bQ8;have HB8:=Lib.hid hb8;have cQ:=(kQ8 k).trans hu0;clear bQ8 hb8)
       go_roundw
       case rel=>exact ⟨k+1,by omega,by go_num,by rw [HS.out,HW1.out];exact (HBQ8.out.setI k sp).alloc _,((hB.trans (HB8.out.mono hsB)).setCell (show w7.heap.size≤(⟨w7.heap.size,k,none⟩:Addr).block from Nat.le_refl _) _).alloc (by simp;omega) _⟩
       case measure=>exact ms_
      ·have hb:sb=(ix:Int):=hb
       subst hb
       have hixm:ix<m:=by have h1:=HLM.out;have h2:=HPN.out;have h3:=HDL.out;have h4:ix<Pn:=hix;omega
       obtain ⟨bd,od,x,hD,hbd,hxd,hcd⟩:=(HDY.out.now (HB7.trans (hB.mono (by omega)))).at_ hixm
       have hD':D=some ⟨bd,od,none⟩:=hD
       subst hD'
       have hgx:days.getD ((ix:Int)).toNat 0=x:=by rw [List.getD_eq_getElem?_getD,Int.toNat_natCast,hxd];rfl
       rw [hgx] at hW
       have hnn:¬ ((ix:Int)<0):=by omega
       by_cases hgt:day<x
       ·have hw1:whoP l kn day pap days k=sp:=by rw [hW,if_pos (.inr hgt)]
        have HS:=Lib.hid (whPL_succ l kn day pap days hlt)
        have HW1:=Lib.hid hw1
        clear hW hw1 hgx hxd hD
        go_wp2_with (go_at_call 134;refine (p_stayA _ _ _ ⟨⟨pA,pn,pc,rA,rn,rc,tA,tn,tc,sA,sn,sc⟩,kn,RA,Rn,Rc,SA,Sn,Sc,bm,TA,Tn,Tc,PA2,Pn,Pc2⟩ pap ((k:Int)+1) day _ wr HACw.out hwf HST.out).mono ?_;rintro e w8 ⟨rfl,hb8⟩;have hs8:=hb8.size;have bQ8:=bQ.ext hb8;have kQ8:=bQ8.cell;have zQ8:=bQ8.lt;have fQ8:=bQ8.frozen;have HBQ8:=Lib.hid bQ8;have HB8:=Lib.hid hb8;have cQ:=(kQ8 k).trans hu0;have cD:=(HB8.out.cell (p:=⟨bd,od+ix,none⟩) hbd).trans hcd;have zD:=Nat.lt_of_lt_of_le hbd hs8;clear bQ8 hb8)
        go_roundw
        case rel=>exact ⟨k+1,by omega,by go_num,by rw [HS.out,HW1.out];exact (HBQ8.out.setI k sp).alloc _,((hB.trans (HB8.out.mono hsB)).setCell (show w7.heap.size≤(⟨w7.heap.size,k,none⟩:Addr).block from Nat.le_refl _) _).alloc (by simp;omega) _⟩
        case measure=>exact ms_
       ·have hw1:whoP l kn day pap days k=0:=by rw [hW,if_neg (fun h=>h.elim hnn hgt)]
        have HS:=Lib.hid (whPL_same l kn day pap days hlt hw1)
        have hgf:decide (x>day)=false:=by simp;omega
        have hnn2:decide ((ix:Int)<0)=false:=by simp
        clear hW hw1 hgx hxd hD hu0 hgt hnn
        go_wp2_with (go_at_call 134;refine (p_stayA _ _ _ ⟨⟨pA,pn,pc,rA,rn,rc,tA,tn,tc,sA,sn,sc⟩,kn,RA,Rn,Rc,SA,Sn,Sc,bm,TA,Tn,Tc,PA2,Pn,Pc2⟩ pap ((k:Int)+1) day _ wr HACw.out hwf HST.out).mono ?_;rintro e w8 ⟨rfl,hb8⟩;have hs8:=hb8.size;have bQ8:=bQ.ext hb8;have kQ8:=bQ8.cell;have zQ8:=bQ8.lt;have fQ8:=bQ8.frozen;have HBQ8:=Lib.hid bQ8;have HB8:=Lib.hid hb8;have cD:=(HB8.out.cell (p:=⟨bd,od+ix,none⟩) hbd).trans hcd;have zD:=Nat.lt_of_lt_of_le hbd hs8;clear kQ8 fQ8 zQ8;clear bQ8 hb8)
        go_roundw
        case rel=>exact ⟨k+1,by omega,by go_num,by rw [HS.out];exact HBQ8.out.alloc _,(hB.trans (HB8.out.mono hsB)).alloc (by omega) _⟩
        case measure=>exact ms_
     ·have hkn:Hid (k=n):=by show _=_;omega
      have HBQ:=Lib.hid bQ
      clear bQ
      go_wp2
      go_ret2
      rw [HRES.out]
      have hQ:=HBQ.out
      rw [hkn.out,whPL_all] at hQ
      exact ⟨_,_,_,rfl,HB7.trans (hB.mono (by omega)),is_box hQ (by simp),Nat.le_refl _,by unfold maxLen;omega⟩
   ·have hres:placedX l days pap day kn=([],ve):=by rw [placedX,if_pos HVP.out,if_neg (by rw [hve];exact he),hve]
    have HRES:=Lib.hid hres
    have HTE:=Lib.hid hve
    have HVE:=Lib.hid he
    have hed:(ve != 0)=true:=by simpa using he
    clear hres hve he
    go_wp2_with (first | (go_at_call 101;refine (p_openA l ⟨pA,pn,pc,rA,rn,rc,tA,tn,tc,sA,sn,sc⟩ kn _ HLO.out (HD.out.now HB2)).mono ?_;rintro e w5 ⟨RA,Rn,Rc,SA,Sn,Sc,bm,TA,Tn,Tc,PA,Pn,Pc,rfl,hb5,hO⟩;have HB5:Below w.heap.size w w5:=Below.then_ HB2 hb5;have hs5:=HB5.size;have HO:=Lib.hid hO;have kL5:∀ o,w5.cell? ⟨w.heap.size,o,none⟩=(#[.slice pA pn pc,.slice rA rn rc,.slice tA tn tc,.slice sA sn sc]:Array Value)[o]?:=(fun o=>(hb5.cell (p:=⟨w.heap.size,o,none⟩) zL2).trans (kL2 o));have zL5:w.heap.size<w5.heap.size:=Nat.lt_of_lt_of_le zL2 hb5.size;clear kL2 hO hb5) | (go_at_call 133;refine (p_checkTrueN l kn days D m c0 ⟨⟨pA,pn,pc,rA,rn,rc,tA,tn,tc,sA,sn,sc⟩,kn,RA,Rn,Rc,SA,Sn,Sc,bm,TA,Tn,Tc,PA,Pn,Pc⟩ ve w5 HLO.out HO.out hm (HDY.out.now HB5) HTE.out HVE.out).mono ?_;rintro e w6 ⟨rfl,hb6⟩;have HB6:Below w.heap.size w w6:=Below.then_ HB5 hb6;have hs6:=HB6.size))
    go_ret2
    rw [HRES.out]
    exact RetLE.err HB6
  ·have hres:placedX l days pap day kn=([],vp):=by rw [placedX,if_neg (by rw [HVP.out];exact hv0),HVP.out]
   have HRES:=Lib.hid hres
   have hv1:(vp != 0)=true:=by simpa using hv0
   clear hres hv0
   go_wp2
   go_ret2
   rw [HRES.out]
   exact RetLE.err HB2
end Go.Proofs.YtoiompoapikkbaaGreat
