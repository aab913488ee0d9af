/- Layer 2 of the texts that the statements over histories take: Pbpq. -/
import Derived.Test.YtmcmbicapdcfmaaGreatPboq
set_option linter.unusedVariables false
set_option linter.unusedSimpArgs false
set_option maxHeartbeats 16000000
namespace Go.Proofs.YtmcmbicapdcfmaaGreat
open Go.RowKit Go.Maps
theorem r_returnOf_v (l:Led) (v:Vw) (T:List Bool) (i:Nat) (r:Rcp) (leaf k:Int) (w:World) (hn:v.x.rn≤1000000) (htn:v.x.tn≤1000000) (hTt:v.Tn=v.x.tn) (hd:LedIn w w.heap.size v.x l) (hT:Sq QB 1 w w.heap.size v.TA v.Tn T) (hr:l.rc[i]?=some r) (hk:ixI (rtIx T l.rt r.src leaf)=k) :
 Calls Tryz.prog 103 #[vwV v,.int .i64 i,.int .i64 leaf] w fun e w'=>e=.returned (.int .i64 k)∧Below w.heap.size w w':=hk ▸ r_returnOf l v T i r leaf w hn htn hTt hd hT hr
section
variable {P:Program} {o:Oper} {Q:Exit→Act→World→Prop}
end
theorem Sq.take_ {α:Type} {Q:World→Nat→Nat→Nat→α→Prop} {size:Nat} {w:World} {B n:Nat} {A:Option Addr} {xs:List α} (h:Sq Q size w B A n xs) {k:Nat} (hk:k≤n):Sq Q size w B A k (xs.take k):=by
 refine ⟨by rw [List.length_take,h.1];omega,fun h0=>?_⟩
 obtain ⟨b,o,e,hb,hc⟩:=h.2 (by omega)
 refine ⟨b,o,e,hb,fun j x hx=>hc j x ?_⟩
 have hj:j<k:=by have h1:=(List.getElem?_eq_some_iff.1 hx).1;rw [List.length_take] at h1;omega
 rwa [List.getElem?_take_of_lt hj] at hx
theorem find_mem (bs:List Int) (C:List Sgt):∀ s∈findS bs C,s∈C:=by
 intro s hs
 rw [findS_grd] at hs
 exact (grd_sub C bs).subset hs
set_option maxRecDepth 10000 in
theorem p_CheckClash (l:Led) (x:Lsl) (kn:Int) (bs:List Int) (D:Option Addr) (m c0:Nat) (w:World) (hf:x.fit) (hd:LedIn w w.heap.size x l) (hm:m≤9223372036854775807) (hby:Is w w.heap.size D m bs) :
 Calls Tryz.prog 31 #[.agg #[.slice x.pA x.pn x.pc,.slice x.rA x.rn x.rc,.slice x.tA x.tn x.tc,.slice x.sA x.sn x.sc],.int .i64 kn,.slice D m c0] w fun e w'=>e=.returned (.int .i64 (ccE l kn bs))∧Below w.heap.size w w':=by
 obtain ⟨pA,pn,pc,rA,rn,rc,tA,tn,tc,sA,sn,sc⟩:=x
 have HD:=hd_ hd
 have hml:maxLen≤9223372036854775807:=by decide
 have hpn:pn≤9223372036854775807:=by have:=hf.p;dsimp only at this;omega
 have hrn:rn≤9223372036854775807:=by have:=hf.r;dsimp only at this;omega
 have htn:tn≤9223372036854775807:=by have:=hf.t;dsimp only at this;omega
 have hsn:sn≤9223372036854775807:=by have:=hf.s;dsimp only at this;omega
 clear hd hf hml
 have HBY:=hd_ hby
 clear hby
 obtain ⟨v,hv⟩:∃ v,preE l [kn]=v:=⟨_,rfl⟩
 have HV:Hid (orL [errI (ledB l) 24,errI (daysOk [kn]) 6]=v):=by show _=_;exact hv
 by_cases hv0:v=0
 rotate_left
 ·have hres:ccE l kn bs=v:=by rw [ccE,if_neg (by rw [hv];exact hv0),hv]
  rw [hres]
  have hv1:(v != 0)=true:=by simpa using hv0
  clear hres hv hv0
  go_enter Tryz.func31,Tryz.ntmps31
  go_wp2_with (first | (go_at_call 12;refine (p_Check l ⟨pA,pn,pc,rA,rn,rc,tA,tn,tc,sA,sn,sc⟩ _ hpn hrn htn hsn (HD.out.now (by exact bel_))).mono ?_;rintro e w1 ⟨rfl,hb1⟩;have HB1:Below w.heap.size w w1:=bt_ (by exact bel_) hb1;have hs1:=HB1.size;have bL0:=BoxA.new w 32 #[.slice pA pn pc,.slice rA rn rc,.slice tA tn tc,.slice sA sn sc];have bL1:=bL0.ext hb1;have kL1:=bL1.cell;have zL1:=bL1.lt;clear hb1) | (go_at_call 63;refine (p_checkDays [kn] _ 1 1 _ (by decide) (Rd.new _ #[.int .i64 kn] _ 1 1 _ (by simp) rfl)).mono ?_;rintro e w2 ⟨rfl,hb2⟩;have HB2:Below w.heap.size w w2:=bt_ (by exact bel_) hb2;have hs2:=HB2.size;have bL2:=(bL1.alloc _).ext hb2;have kL2:=bL2.cell;have zL2:=bL2.lt;clear kL1 zL1;clear hb2) | (go_at_call 62;refine (p_first [errI (ledB l) 24,errI (daysOk [kn]) 6] v _ 2 2 _ (by decide) (Rd.new _ #[.int .i64 (errI (ledB l) 24),.int .i64 (errI (daysOk [kn]) 6)] _ 1 2 _ (by simp) rfl) HV.out).mono ?_;rintro e w1 ⟨rfl,rfl⟩))
  go_ret
  exact ⟨rfl,by exact bel_⟩
 subst hv0
 have hlb:=(pre_zero hv).1
 have HLO:=hd_ (led_ok hlb)
 cases ho:dblR (opnL l kn).M (opnL l kn).P (cntR l kn) with
 | some q =>
   have hres:ccE l kn bs=25:=by rw [ccE,if_pos hv,ho]
   rw [hres]
   have HDR:=hd_ ho
   clear hres ho hv hlb
   go_enter Tryz.func31,Tryz.ntmps31
   go_wp2_with (first | (go_at_call 12;refine (p_Check l ⟨pA,pn,pc,rA,rn,rc,tA,tn,tc,sA,sn,sc⟩ _ hpn hrn htn hsn (HD.out.now (by exact bel_))).mono ?_;rintro e w1 ⟨rfl,hb1⟩;have HB1:Below w.heap.size w w1:=bt_ (by exact bel_) hb1;have hs1:=HB1.size;have bL0:=BoxA.new w 32 #[.slice pA pn pc,.slice rA rn rc,.slice tA tn tc,.slice sA sn sc];have bL1:=bL0.ext hb1;have kL1:=bL1.cell;have zL1:=bL1.lt;clear hb1) | (go_at_call 63;refine (p_checkDays [kn] _ 1 1 _ (by decide) (Rd.new _ #[.int .i64 kn] _ 1 1 _ (by simp) rfl)).mono ?_;rintro e w2 ⟨rfl,hb2⟩;have HB2:Below w.heap.size w w2:=bt_ (by exact bel_) hb2;have hs2:=HB2.size;have bL2:=(bL1.alloc _).ext hb2;have kL2:=bL2.cell;have zL2:=bL2.lt;clear kL1 zL1;clear hb2) | (go_at_call 62;refine (p_first [errI (ledB l) 24,errI (daysOk [kn]) 6] 0 _ 2 2 _ (by decide) (Rd.new _ #[.int .i64 (errI (ledB l) 24),.int .i64 (errI (daysOk [kn]) 6)] _ 1 2 _ (by simp) rfl) HV.out).mono ?_;rintro e w1 ⟨rfl,rfl⟩) | (go_at_call 64;refine (p_openA l ⟨pA,pn,pc,rA,rn,rc,tA,tn,tc,sA,sn,sc⟩ kn _ HLO.out (HD.out.now (by exact bel_))).mono ?_;rintro e w5 ⟨RA,Rn,Rc,SA,Sn,Sc,bm,TA,Tn,Tc,PA,Pn,Pc,rfl,hb5,hO⟩;have HB5:Below w.heap.size w w5:=bt_ (by exact bel_) hb5;have hs5:=HB5.size;have HO:=hd_ hO;have bL5:=(bL2.alloc _).ext hb5;have kL5:=bL5.cell;have zL5:=bL5.lt;clear kL2 zL2;clear hO hb5) | (go_at_call 81;have hag:=p_agree (opnL l kn).M (cntR l kn) (opnL l kn).P ⟨⟨pA,pn,pc,rA,rn,rc,tA,tn,tc,sA,sn,sc⟩,kn,RA,Rn,Rc,SA,Sn,Sc,bm,TA,Tn,Tc,PA,Pn,Pc⟩ (w5.alloc (.cells #[.slice pA pn pc,.slice rA rn rc,.slice tA tn tc,.slice sA sn sc,.int .i64 kn,.slice RA Rn Rc,.slice SA Sn Sc,.map (some bm),.slice TA Tn Tc,.slice PA Pn Pc] 115)) (HO.out.acc.now (by exact bel_));rw [HDR.out] at hag;simp only [Option.isNone_none,Option.isNone_some,errI] at hag;refine hag.mono ?_;rintro e w6 ⟨rfl,hb6⟩;have HB6:Below w.heap.size w w6:=bt_ HB5 (bt_ (by exact bel_) hb6);have hs6:=HB6.size;have bA6:=(BoxA.new w5 115 #[.slice pA pn pc,.slice rA rn rc,.slice tA tn tc,.slice sA sn sc,.int .i64 kn,.slice RA Rn Rc,.slice SA Sn Sc,.map (some bm),.slice TA Tn Tc,.slice PA Pn Pc]).ext hb6;have k6:=bA6.cell;have z6:=bA6.lt;have HO6:=hd_ ((HO.out.now (show Below w5.heap.size w5 (w5.alloc (.cells #[.slice pA pn pc,.slice rA rn rc,.slice tA tn tc,.slice sA sn sc,.int .i64 kn,.slice RA Rn Rc,.slice SA Sn Sc,.map (some bm),.slice TA Tn Tc,.slice PA Pn Pc] 115)) by exact bel_)).now hb6);have HBA:=hd_ bA6;clear kL5 zL5 hb6))
   go_ret
   exact ⟨rfl,HB6⟩
 | none =>
 have HDR:=hd_ ho
 obtain ⟨z,hres⟩:∃ z,ccE l kn bs=z:=⟨_,rfl⟩
 rw [hres]
 obtain ⟨fs,hfs⟩:∃ fs,findS bs (cntS l kn)=fs:=⟨_,rfl⟩
 obtain ⟨n,hn⟩:∃ n,fs.length=n:=⟨_,rfl⟩
 have HBL:Hid (bs.length=m):=by show _=_;exact HBY.out.len
 have hz1:z=if n=m then ccL l kn fs else 28:=by rw [← hres,ccE,if_pos hv,ho];dsimp only;rw [hfs,hn,HBL.out]
 have hfm:∀ s∈fs,s∈cntS l kn:=by rw [← hfs];exact find_mem bs _
 have HZ1:=hd_ hz1
 have HFS:=hd_ hfs
 have HFL:=hd_ hn
 have HFM:=hd_ hfm
 clear hres ho hv hlb hz1 hfs hn hfm
 go_enter Tryz.func31,Tryz.ntmps31
 go_wp2_with (first | (go_at_call 12;refine (p_Check l ⟨pA,pn,pc,rA,rn,rc,tA,tn,tc,sA,sn,sc⟩ _ hpn hrn htn hsn (HD.out.now (by exact bel_))).mono ?_;rintro e w1 ⟨rfl,hb1⟩;have HB1:Below w.heap.size w w1:=bt_ (by exact bel_) hb1;have hs1:=HB1.size;have bL0:=BoxA.new w 32 #[.slice pA pn pc,.slice rA rn rc,.slice tA tn tc,.slice sA sn sc];have bL1:=bL0.ext hb1;have kL1:=bL1.cell;have zL1:=bL1.lt;clear hb1) | (go_at_call 63;refine (p_checkDays [kn] _ 1 1 _ (by decide) (Rd.new _ #[.int .i64 kn] _ 1 1 _ (by simp) rfl)).mono ?_;rintro e w2 ⟨rfl,hb2⟩;have HB2:Below w.heap.size w w2:=bt_ (by exact bel_) hb2;have hs2:=HB2.size;have bL2:=(bL1.alloc _).ext hb2;have kL2:=bL2.cell;have zL2:=bL2.lt;clear kL1 zL1;clear hb2) | (go_at_call 62;refine (p_first [errI (ledB l) 24,errI (daysOk [kn]) 6] 0 _ 2 2 _ (by decide) (Rd.new _ #[.int .i64 (errI (ledB l) 24),.int .i64 (errI (daysOk [kn]) 6)] _ 1 2 _ (by simp) rfl) HV.out).mono ?_;rintro e w1 ⟨rfl,rfl⟩) | (go_at_call 64;refine (p_openA l ⟨pA,pn,pc,rA,rn,rc,tA,tn,tc,sA,sn,sc⟩ kn _ HLO.out (HD.out.now (by exact bel_))).mono ?_;rintro e w5 ⟨RA,Rn,Rc,SA,Sn,Sc,bm,TA,Tn,Tc,PA,Pn,Pc,rfl,hb5,hO⟩;have HB5:Below w.heap.size w w5:=bt_ (by exact bel_) hb5;have hs5:=HB5.size;have HO:=hd_ hO;have bL5:=(bL2.alloc _).ext hb5;have kL5:=bL5.cell;have zL5:=bL5.lt;clear kL2 zL2;clear hO hb5) | (go_at_call 81;have hag:=p_agree (opnL l kn).M (cntR l kn) (opnL l kn).P ⟨⟨pA,pn,pc,rA,rn,rc,tA,tn,tc,sA,sn,sc⟩,kn,RA,Rn,Rc,SA,Sn,Sc,bm,TA,Tn,Tc,PA,Pn,Pc⟩ (w5.alloc (.cells #[.slice pA pn pc,.slice rA rn rc,.slice tA tn tc,.slice sA sn sc,.int .i64 kn,.slice RA Rn Rc,.slice SA Sn Sc,.map (some bm),.slice TA Tn Tc,.slice PA Pn Pc] 115)) (HO.out.acc.now (by exact bel_));rw [HDR.out] at hag;simp only [Option.isNone_none,Option.isNone_some,errI] at hag;refine hag.mono ?_;rintro e w6 ⟨rfl,hb6⟩;have HB6:Below w.heap.size w w6:=bt_ HB5 (bt_ (by exact bel_) hb6);have hs6:=HB6.size;have bA6:=(BoxA.new w5 115 #[.slice pA pn pc,.slice rA rn rc,.slice tA tn tc,.slice sA sn sc,.int .i64 kn,.slice RA Rn Rc,.slice SA Sn Sc,.map (some bm),.slice TA Tn Tc,.slice PA Pn Pc]).ext hb6;have k6:=bA6.cell;have z6:=bA6.lt;have HO6:=hd_ ((HO.out.now (show Below w5.heap.size w5 (w5.alloc (.cells #[.slice pA pn pc,.slice rA rn rc,.slice tA tn tc,.slice sA sn sc,.int .i64 kn,.slice RA Rn Rc,.slice SA Sn Sc,.map (some bm),.slice TA Tn Tc,.slice PA Pn Pc] 115)) by exact bel_)).now hb6);have HBA:=hd_ bA6;clear kL5 zL5 hb6))
 have HSL:Hid ((cntS l kn).length=Sn):=by show _=_;exact HO6.out.sg.len
 have hSn:Sn≤60:=HO6.out.sn
 have hn60:n≤60:=by
  have h:=HFL.out
  have h2:=(grd_sub (cntS l kn) bs).length_le
  rw [← findS_grd,HFS.out,HSL.out] at h2
  omega
 refine (p_find (cntS l kn) bs ⟨⟨pA,pn,pc,rA,rn,rc,tA,tn,tc,sA,sn,sc⟩,kn,RA,Rn,Rc,SA,Sn,Sc,bm,TA,Tn,Tc,PA,Pn,Pc⟩ D m c0 _ hSn hm HO6.out.sg (HBY.out.now HB6)).mono ?_
 rw [HFS.out]
 rintro e w8 ⟨A,c,rfl,hb8,ho8⟩
 rw [HFL.out] at ho8 ⊢
 have HB8:Below w.heap.size w w8:=bt_ HB6 hb8
 have hs8:=HB8.size
 have HBA8:=bA6.ext hb8
 have hHO8:=HO6.out.now hb8
 have HO8:=hd_ hHO8
 obtain ⟨A',c',hAc,hcc⟩:=own_slice ho8
 simp only [Value.slice.injEq,true_and] at hAc
 obtain ⟨rfl,rfl⟩:=hAc
 have hSF:Sgs w8 w8.heap.size A n fs:=sq_sg (Rd.of_own ho8) HFL.out
 have HSF:=hd_ hSF
 have HOW8:=hd_ ho8
 have k8:=HBA8.cell
 have z8:=HBA8.lt
 have HBA:=hd_ HBA8
 have HCON:Hid (∀ (W:World) (A:Option Addr) (n c:Nat) (S:List Sgt) (v:Bool),Below w8.heap.size w8 W→(∀ s∈S,s∈cntS l kn)→n≤1000000→Sgs W W.heap.size A n S→conB l kn S=v→Calls Tryz.prog 82 #[.agg #[.slice pA pn pc,.slice rA rn rc,.slice tA tn tc,.slice sA sn sc,.int .i64 kn,.slice RA Rn Rc,.slice SA Sn Sc,.map (some bm),.slice TA Tn Tc,.slice PA Pn Pc],.slice A n c] W fun e w'=>e=.returned (.bool v)∧Below W.heap.size W w'):=by
  show ∀ _,_
  exact fun W A n c S v hW hS hn hs hv=>p_contradictA l kn S v ⟨⟨pA,pn,pc,rA,rn,rc,tA,tn,tc,sA,sn,sc⟩,kn,RA,Rn,Rc,SA,Sn,Sc,bm,TA,Tn,Tc,PA,Pn,Pc⟩ A n c W HLO.out (HO8.out.now hW) hS hn hs hv
 clear k6 z6 hHO8 ho8 hSF HBA8 hb8
 by_cases hnm:n=m
 rotate_left
 ·have hz28:z=28:=by rw [HZ1.out,if_neg hnm]
  subst hz28
  have hnd:((n:Int) == (m:Int))=false:=by simp;omega
  clear hnm
  go_wp2_with fail
  go_ret
  exact ⟨rfl,HB8⟩
 subst hnm
 have hnd:((n:Int) == (n:Int))=true:=by simp
 obtain ⟨qc,hqc⟩:∃ qc,conB l kn fs=qc:=⟨_,rfl⟩
 have HQC:=hd_ hqc
 clear hqc
 go_wp2_with fail
 refine (HCON.out _ A n c fs qc (Below.refl _ _) HFM.out (by omega) HSF.out HQC.out).mono ?_
 rintro e w9 ⟨rfl,hb9⟩
 have HB9:Below w.heap.size w w9:=bt_ HB8 hb9
 cases qc with
 | false =>
   have hz28:z=28:=by
    have h:z=ccL l kn fs:=by simpa using HZ1.out
    rw [h,ccL,HQC.out];rfl
   subst hz28
   go_wp2_with fail
   go_ret
   exact ⟨rfl,HB9⟩
 | true =>
   have HZC:Hid (z=if (List.range fs.length).any (fun i=>conB l kn (fs.eraseIdx i))=true then 28 else 0):=by
    show _=_
    have h:z=ccL l kn fs:=by simpa using HZ1.out
    rw [h,ccL,HQC.out];rfl
   have HB9':=hd_ hb9
   clear k8 z8
   go_wp2_with fail
   go_loopw [47] (fun i wr=>∃ k:Nat,k≤n∧i=.int .i64 k∧(List.range k).any (fun i=>conB l kn (fs.eraseIdx i))=false∧Below w8.heap.size w8 wr) (fun i _=>n - (intOf i).toNat)
   case atStart=>exact ⟨0,by omega,rfl,rfl,hb9⟩
   case round =>
    obtain ⟨k,hk,rfl,hany,hQ⟩:=hrel
    have HAN:=hd_ hany
    clear hany
    have hsq:=hQ.size
    have bAq:=HBA.out.ext hQ
    have kAq:=bAq.cell
    have zAq:=bAq.lt
    clear bAq
    by_cases hlt:k<n
    ·obtain ⟨g,cap,hv,hg0,hg1,hg2,hg3⟩:=own_shape2 HOW8.out (by omega)
     simp only [Value.slice.injEq,true_and] at hv
     obtain ⟨rfl,rfl⟩:=hv
     have hg1w:g<wr.heap.size:=by omega
     have g1:decide ((k:Int)<0)=false:=by simp
     have hkc:k≤c:=by omega
     have hkk:(k:Int)≤(k:Int)+1:=by omega
     have hk0:(0:Int)≤(k:Int):=by omega
     have q2:(0:Int)≤(k:Int)+1:=by omega
     have q4:(k:Int)+1≤(n:Int):=by omega
     have q10:IntKind.i64.wrap ((k:Int)+1)=(k:Int)+1:=IntWalk.i64_in _ (by omega)
     have q11:((k:Int)+1).toNat=k+1:=by omega
     obtain ⟨qe,hqe⟩:∃ qe,conB l kn (fs.eraseIdx k)=qe:=⟨_,rfl⟩
     have HQX:=hd_ hqe
     have HQE:Hid (conB l kn (fs.take k ++ fs.drop (k+1))=qe):=by show _=_;rw [← List.eraseIdx_eq_take_drop_succ];exact hqe
     have HINC:Hid (∀ s∈fs.take k ++ fs.drop (k+1),s∈cntS l kn):=by
      show ∀ _,_
      intro s hs
      rcases List.mem_append.1 hs with hs | hs
      ·exact HFM.out s (List.mem_of_mem_take hs)
      ·exact HFM.out s (List.mem_of_mem_drop hs)
     have HX2:Hid (∀ W:World,Below wr.heap.size wr W→Sgs W W.heap.size (some ⟨g,0,none⟩) k (fs.take k)):=by
      show ∀ _,_
      exact fun W hW=>Sq.take_ (HSF.out.now abS (hQ.trans (hW.mono hsq))) (by omega)
     clear hqe
     by_cases hci:c=k+1
     ·subst hci
      have HY2:Hid (∀ W:World,Below wr.heap.size wr W→Sgs W W.heap.size (some ⟨g,0,none⟩) 0 (fs.drop (k+1))):=by
       show ∀ _,_
       exact fun W hW=>by rw [List.drop_of_length_le (by rw [HFL.out];omega)];exact Sq.nil_
      go_wp2_with fail
      (refine wp_region_bheld 11 (by kernel_rfl) rfl (fun hS=>?_);simp only [List.reduceReplicate,Array.replicate_succ,Array.replicate_zero])
      (refine tk_ (i:=0) (v:=?_) rfl ?_ hS ?_;rotate_left;focus (intro w2 hw2;obtain ⟨hc2,hf2⟩:=bcell hw2;go_simp;first | done | with_reducible rfl);(try simp only [Act.put,pu1,pu2,pu3]))
      (refine tk_ (i:=1) (v:=?_) rfl ?_ hS ?_;rotate_left;focus (intro w2 hw2;obtain ⟨hc2,hf2⟩:=bcell hw2;go_simp;first | done | with_reducible rfl);(try simp only [Act.put,pu1,pu2,pu3]))
      (refine tk_ (i:=2) (v:=?_) rfl ?_ hS ?_;rotate_left;focus (intro w2 hw2;obtain ⟨hc2,hf2⟩:=bcell hw2;go_simp;first | done | with_reducible rfl);(try simp only [Act.put,pu1,pu2,pu3]))
      (refine tk_ (i:=3) (v:=?_) rfl ?_ hS ?_;rotate_left;focus (intro w2 hw2;obtain ⟨hc2,hf2⟩:=bcell hw2;go_simp;first | done | with_reducible rfl);(try simp only [Act.put,pu1,pu2,pu3]))
      (refine tk_ (i:=4) (v:=?_) rfl ?_ hS ?_;rotate_left;focus (intro w2 hw2;obtain ⟨hc2,hf2⟩:=bcell hw2;go_simp;first | done | with_reducible rfl);(try simp only [Act.put,pu1,pu2,pu3]))
      (refine tk_ (i:=5) (v:=?_) rfl ?_ hS ?_;rotate_left;focus (intro w2 hw2;obtain ⟨hc2,hf2⟩:=bcell hw2;go_simp;first | done | with_reducible rfl);(try simp only [Act.put,pu1,pu2,pu3]))
      (refine tk_ (i:=6) (v:=?_) rfl ?_ hS ?_;rotate_left;focus (intro w2 hw2;obtain ⟨hc2,hf2⟩:=bcell hw2;go_simp;first | done | with_reducible rfl);(try simp only [Act.put,pu1,pu2,pu3]))
      (refine tk_ (i:=7) (v:=?_) rfl ?_ hS ?_;rotate_left;focus (intro w2 hw2;obtain ⟨hc2,hf2⟩:=bcell hw2;go_simp;first | done | with_reducible rfl);(try simp only [Act.put,pu1,pu2,pu3]))
      (refine rd_ [8] ?_;refine ah1 rfl fun K hK=>?_;(go_simp);refine hK.out _ _ (hS.alloc hS.size _) (fun hS=>?_);clear hK K;(try simp only [Act.put,pu1,pu2,pu3]))
      refine rd_ [9] ?_
      refine ah1 rfl fun K hK=>?_
      (go_simp;go_at_call 86;refine (p_ConcatS (fs.take k) (fs.drop (k+1)) wr.heap.size g 0 g 0 k 0 (k+1) 0 _ (by omega) (by omega) (HX2.out _ (by exact bel_)) (HY2.out _ (by exact bel_)) (by simp) (by simp) (by simp)).mono ?_;rintro e wc ⟨A3,c3,rfl,hbc,hsc⟩;go_simp)
      have hc:=bt_ hS hbc
      have HSC:=hd_ hsc
      refine hK.out _ _ hc (fun hS=>?_)
      clear hK K hsc
      (try simp only [Act.put,pu1,pu2,pu3])
      refine rd_ [10] ?_
      refine ah1 rfl fun K hK=>?_
      (go_simp;refine (HCON.out _ A3 (k+0) c3 (fs.take k ++ fs.drop (k+1)) qe (bt_ hQ hc) HINC.out (by omega) HSC.out HQE.out).mono ?_;rintro e wd ⟨rfl,hbd2⟩;go_simp)
      have hd:=bt_ hc hbd2
      refine hK.out _ _ hd (fun hS=>?_)
      clear hK K
      (try simp only [Act.put,pu1,pu2,pu3])
      refine wpAnyH_done (by kernel_rfl) ?_ _
      have hQd:=bt_ hQ hd
      have hBd:Below w.heap.size w wd:=HB8.trans (hQd.mono hs8)
      clear hS hbc hbd2 hc
      cases qe with
      | true =>
        have hz28:z=28:=by
         rw [HZC.out,if_pos]
         rw [List.any_eq_true]
         exact ⟨k,List.mem_range.2 (by rw [HFL.out];exact hlt),HQX.out⟩
        subst hz28
        go_wp2_with fail
        go_ret
        exact ⟨rfl,hBd⟩
      | false =>
        have HN:Hid ((List.range (k+1)).any (fun i=>conB l kn (fs.eraseIdx i))=false):=by
         show _=_
         rw [List.range_succ,List.any_append,HAN.out]
         simp [HQX.out]
        go_wp2_with fail
        go_roundw
        case rel=>exact ⟨k+1,by omega,by go_num,HN.out,hQd⟩
        case measure=>exact ms_
     ·have hlt2:k+1<c:=by omega
      have HY2:Hid (∀ W:World,Below wr.heap.size wr W→Sgs W W.heap.size (some ⟨g,(k+1)*7,none⟩) (n - (k+1)) (fs.drop (k+1))):=by
       show ∀ _,_
       intro W hW
       have h:=Sq.drop_ (HSF.out.now abS (hQ.trans (hW.mono hsq))) (show k+1≤n by omega)
       rwa [Nat.zero_add] at h
      go_wp2_with fail
      (refine wp_region_bheld 11 (by kernel_rfl) rfl (fun hS=>?_);simp only [List.reduceReplicate,Array.replicate_succ,Array.replicate_zero])
      (refine tk_ (i:=0) (v:=?_) rfl ?_ hS ?_;rotate_left;focus (intro w2 hw2;obtain ⟨hc2,hf2⟩:=bcell hw2;go_simp;first | done | with_reducible rfl);(try simp only [Act.put,pu1,pu2,pu3]))
      (refine tk_ (i:=1) (v:=?_) rfl ?_ hS ?_;rotate_left;focus (intro w2 hw2;obtain ⟨hc2,hf2⟩:=bcell hw2;go_simp;first | done | with_reducible rfl);(try simp only [Act.put,pu1,pu2,pu3]))
      (refine tk_ (i:=2) (v:=?_) rfl ?_ hS ?_;rotate_left;focus (intro w2 hw2;obtain ⟨hc2,hf2⟩:=bcell hw2;go_simp;first | done | with_reducible rfl);(try simp only [Act.put,pu1,pu2,pu3]))
      (refine tk_ (i:=3) (v:=?_) rfl ?_ hS ?_;rotate_left;focus (intro w2 hw2;obtain ⟨hc2,hf2⟩:=bcell hw2;go_simp;first | done | with_reducible rfl);(try simp only [Act.put,pu1,pu2,pu3]))
      (refine tk_ (i:=4) (v:=?_) rfl ?_ hS ?_;rotate_left;focus (intro w2 hw2;obtain ⟨hc2,hf2⟩:=bcell hw2;go_simp;first | done | with_reducible rfl);(try simp only [Act.put,pu1,pu2,pu3]))
      (refine tk_ (i:=5) (v:=?_) rfl ?_ hS ?_;rotate_left;focus (intro w2 hw2;obtain ⟨hc2,hf2⟩:=bcell hw2;go_simp;first | done | with_reducible rfl);(try simp only [Act.put,pu1,pu2,pu3]))
      (refine tk_ (i:=6) (v:=?_) rfl ?_ hS ?_;rotate_left;focus (intro w2 hw2;obtain ⟨hc2,hf2⟩:=bcell hw2;go_simp;first | done | with_reducible rfl);(try simp only [Act.put,pu1,pu2,pu3]))
      (refine tk_ (i:=7) (v:=?_) rfl ?_ hS ?_;rotate_left;focus (intro w2 hw2;obtain ⟨hc2,hf2⟩:=bcell hw2;go_simp;first | done | with_reducible rfl);(try simp only [Act.put,pu1,pu2,pu3]))
      (refine rd_ [8] ?_;refine ah1 rfl fun K hK=>?_;(go_simp);refine hK.out _ _ (hS.alloc hS.size _) (fun hS=>?_);clear hK K;(try simp only [Act.put,pu1,pu2,pu3]))
      refine rd_ [9] ?_
      refine ah1 rfl fun K hK=>?_
      (go_simp;go_at_call 86;refine (p_ConcatS (fs.take k) (fs.drop (k+1)) wr.heap.size g 0 g ((k+1)*7) k (n - (k+1)) c (c - (k+1)) _ (by omega) (by omega) (HX2.out _ (by exact bel_)) (HY2.out _ (by exact bel_)) (by simp) (by simp) (by simp)).mono ?_;rintro e wc ⟨A3,c3,rfl,hbc,hsc⟩;go_simp)
      have hc:=bt_ hS hbc
      have HSC:=hd_ hsc
      refine hK.out _ _ hc (fun hS=>?_)
      clear hK K hsc
      (try simp only [Act.put,pu1,pu2,pu3])
      refine rd_ [10] ?_
      refine ah1 rfl fun K hK=>?_
      (go_simp;refine (HCON.out _ A3 (k+(n - (k+1))) c3 (fs.take k ++ fs.drop (k+1)) qe (bt_ hQ hc) HINC.out (by omega) HSC.out HQE.out).mono ?_;rintro e wd ⟨rfl,hbd2⟩;go_simp)
      have hd:=bt_ hc hbd2
      refine hK.out _ _ hd (fun hS=>?_)
      clear hK K
      (try simp only [Act.put,pu1,pu2,pu3])
      refine wpAnyH_done (by kernel_rfl) ?_ _
      have hQd:=bt_ hQ hd
      have hBd:Below w.heap.size w wd:=HB8.trans (hQd.mono hs8)
      clear hS hbc hbd2 hc
      cases qe with
      | true =>
        have hz28:z=28:=by
         rw [HZC.out,if_pos]
         rw [List.any_eq_true]
         exact ⟨k,List.mem_range.2 (by rw [HFL.out];exact hlt),HQX.out⟩
        subst hz28
        go_wp2_with fail
        go_ret
        exact ⟨rfl,hBd⟩
      | false =>
        have HN:Hid ((List.range (k+1)).any (fun i=>conB l kn (fs.eraseIdx i))=false):=by
         show _=_
         rw [List.range_succ,List.any_append,HAN.out]
         simp [HQX.out]
        go_wp2_with fail
        go_roundw
        case rel=>exact ⟨k+1,by omega,by go_num,HN.out,hQd⟩
        case measure=>exact ms_
    ·have hz0:z=0:=by
      rw [HZC.out,HFL.out,show n=k by omega,HAN.out]
      rfl
     subst hz0
     have hB8:Below w.heap.size w wr:=HB8.trans (hQ.mono hs8)
     go_wp2_with fail
     go_ret
     exact ⟨rfl,hB8⟩
set_option maxRecDepth 10000 in
theorem p_receiptU (R:List Rcp) (a:Acc) (n:Int) (q:Bool) (w0 w:World) (hn:a.Rn≤1000000) (hd:Rcs w0 w0.heap.size a.RA a.Rn R) (hb0:Below w0.heap.size w0 w) (hq:(findR R n).isSome=q) :
 Calls Tryz.prog 83 #[accV a,.int .i64 n] w fun e w'=>∃ (u:Rcp) (A:Option Addr) (m c:Nat),e=.returned (.tuple #[.agg #[.int .i64 u.src,.int .i64 u.bor,.int .i64 u.pap,.slice A m c,.int .i64 u.day,.int .i64 u.kn,.int .i64 u.un],.bool q])∧Below w.heap.size w w'∧∀ r,findR R n=some r→u=r∧Is w0 w0.heap.size A m r.lv∧m≤c∧c≤maxLen:=by
 subst hq
 obtain ⟨⟨pA,pn,pc,rA,rn,rc,tA,tn,tc,sA,sn,sc⟩,kn,RA,Rn,Rc,SA,Sn,Sc,bm,TA,Tn,Tc,PA,Pn,Pc⟩:=a
 show Calls _ _ #[.agg #[.slice pA pn pc,.slice rA rn rc,.slice tA tn tc,.slice sA sn sc,.int .i64 kn,.slice RA Rn Rc,.slice SA Sn Sc,.map (some bm),.slice TA Tn Tc,.slice PA Pn Pc],.int .i64 n] _ _
 have hn':Rn≤1000000:=hn
 have HD:Hid (Rcs w0 w0.heap.size RA Rn R):=by show Sq _ _ _ _ _ _ _;exact hd
 have HL:Hid (R.length=Rn):=by show _=_;exact hd.len
 have HB0:=hd_ hb0
 have hs00:=hb0.size
 obtain ⟨o,ho⟩:∃ o,findR R n=o:=⟨_,rfl⟩
 rw [ho]
 have HO:=hd_ ho
 clear hd hn ho hb0
 go_enter Tryz.func83,Tryz.ntmps83
 go_wp2
 go_loopw [11] (fun i wr=>∃ k:Nat,k≤Rn∧i=.int .i64 k∧findR (R.drop k) n=o∧Below w.heap.size w wr∧BoxA wr (w.heap.size+1) 79 #[.int .i64 0,.int .i64 0,.int .i64 0,.slice none 0 0,.int .i64 0,.int .i64 0,.int .i64 0]) (fun i _=>Rn - (intOf i).toNat)
 case atStart=>exact ⟨0,by omega,rfl,HO.out,by exact bel_,by rw [boxa_iff,alloc_get,if_pos (by simp)]⟩
 case round =>
  obtain ⟨k,hk,rfl,hv,hB,hbx⟩:=hrel
  have HV:=hd_ hv
  clear hv
  have hs0:w.heap.size≤wr.heap.size:=hB.size
  have hbl:=hbx.lt
  by_cases hlt:k<Rn
  ·obtain ⟨b,o',r,rfl,hb,hp,A1,n1,c1,⟨g0,g1,g2,g3,g4,g5,g6⟩,hi1,hc1,hm1⟩:=HD.out.at_ hlt
   have hBw:Below w0.heap.size w0 wr:=HB0.out.trans (hB.mono hs00)
   have h0:=(hBw.cell (p:=⟨b,o'+k*7,none⟩) hb).trans g0
   have h1:=(hBw.cell (p:=⟨b,o'+k*7+1,none⟩) hb).trans g1
   have h2:=(hBw.cell (p:=⟨b,o'+k*7+2,none⟩) hb).trans g2
   have h3:=(hBw.cell (p:=⟨b,o'+k*7+3,none⟩) hb).trans g3
   have h4:=(hBw.cell (p:=⟨b,o'+k*7+4,none⟩) hb).trans g4
   have h5:=(hBw.cell (p:=⟨b,o'+k*7+5,none⟩) hb).trans g5
   have h6:=(hBw.cell (p:=⟨b,o'+k*7+6,none⟩) hb).trans g6
   have HP:=hd_ (findR_at n hp)
   have hbr:b<wr.heap.size:=by omega
   have HI1:=hd_ hi1
   clear hp g0 g1 g2 g3 g4 g5 g6 hi1
   by_cases he:r.src=n
   ·have HE:=hd_ he
    clear he
    have hsn:(r.src == n)=true:=by simpa using HE.out
    have ho:o=some r:=by rw [← HV.out,HP.out,if_pos HE.out]
    subst ho
    have HBX:=hd_ (hbx.alloc (.cells #[.int .i64 r.src,.int .i64 r.bor,.int .i64 r.pap,.slice A1 n1 c1,.int .i64 r.day,.int .i64 r.kn,.int .i64 r.un] 79))
    have f0:∀ j,wr.frozen? ⟨w.heap.size+1,j,none⟩=false:=fun j=>by simp [World.frozen?,show wr.heap[w.heap.size+1]?=_ from hbx]
    have hce:=hbx.cell
    clear hbx
    go_wp2
    refine bodyPost_ret (v:=.tuple #[.agg #[.int .i64 r.src,.int .i64 r.bor,.int .i64 r.pap,.slice A1 n1 c1,.int .i64 r.day,.int .i64 r.kn,.int .i64 r.un],.bool true]) ?_ rfl ?_
    ·(simp [results,Tryz.f83,go_sem];try go_simp)
    ·exact ⟨r,A1,n1,c1,rfl,by exact bel_,fun r' h=>by cases h;exact ⟨rfl,HI1.out,hc1,hm1⟩⟩
   ·have HE:=hd_ he
    clear he
    have hsn:(r.src == n)=false:=by simpa using HE.out
    have HBX:=hd_ (hbx.alloc (.cells #[.int .i64 r.src,.int .i64 r.bor,.int .i64 r.pap,.slice A1 n1 c1,.int .i64 r.day,.int .i64 r.kn,.int .i64 r.un] 79))
    clear hbx
    go_wp2
    go_roundw
    case rel=>exact ⟨k+1,by omega,by go_num,by rw [← HV.out,HP.out,if_neg HE.out],by exact bel_,HBX.out⟩
    case measure=>exact ms_
  ·have hkn:Hid (k=Rn):=by show _=_;omega
   have f0:∀ j,wr.frozen? ⟨w.heap.size+1,j,none⟩=false:=fun j=>by simp [World.frozen?,show wr.heap[w.heap.size+1]?=_ from hbx]
   have ho:o=none:=by rw [← HV.out,hkn.out,List.drop_eq_nil_of_le (by rw [HL.out];exact lr_)];rfl
   subst ho
   have hce:=hbx.cell
   go_wp2
   refine bodyPost_ret (v:=.tuple #[.agg #[.int .i64 0,.int .i64 0,.int .i64 0,.slice none 0 0,.int .i64 0,.int .i64 0,.int .i64 0],.bool false]) ?_ rfl ?_
   ·(simp [results,Tryz.f83,go_sem];try go_simp)
   ·exact ⟨⟨0,0,0,[],0,0,0⟩,none,0,0,rfl,by exact bel_,fun r' h=>by cases h⟩
theorem cd_prog {l:Led} {kn a b:Int} (hv:preE l [kn]=0) (h:a<b):cdE l kn [a,b]=(match findR (cntR l kn) a,findR (cntR l kn) b with
 | some x,some y=>if dblB (opnL l kn).M (opnL l kn).P x y=true then 0 else 28
 | _,_=>28):=by
 unfold cdE
 rw [if_pos hv]
 dsimp only
 rw [if_pos h]
 cases findR (cntR l kn) a <;> cases findR (cntR l kn) b <;> rfl
set_option maxRecDepth 10000 in
theorem p_CheckDouble (l:Led) (x:Lsl) (kn:Int) (bs:List Int) (D:Option Addr) (m c0:Nat) (w:World) (hf:x.fit) (hd:LedIn w w.heap.size x l) (hm:m≤9223372036854775807) (hby:Is w w.heap.size D m bs) :
 Calls Tryz.prog 30 #[.agg #[.slice x.pA x.pn x.pc,.slice x.rA x.rn x.rc,.slice x.tA x.tn x.tc,.slice x.sA x.sn x.sc],.int .i64 kn,.slice D m c0] w fun e w'=>e=.returned (.int .i64 (cdE l kn bs))∧Below w.heap.size w w':=by
 obtain ⟨pA,pn,pc,rA,rn,rc,tA,tn,tc,sA,sn,sc⟩:=x
 have HD:=hd_ hd
 have hml:maxLen≤9223372036854775807:=by decide
 have hpn:pn≤9223372036854775807:=by have:=hf.p;dsimp only at this;omega
 have hrn:rn≤9223372036854775807:=by have:=hf.r;dsimp only at this;omega
 have htn:tn≤9223372036854775807:=by have:=hf.t;dsimp only at this;omega
 have hsn:sn≤9223372036854775807:=by have:=hf.s;dsimp only at this;omega
 clear hd hf hml
 have HBY:=hd_ hby
 clear hby
 obtain ⟨v,hv⟩:∃ v,preE l [kn]=v:=⟨_,rfl⟩
 have HV:Hid (orL [errI (ledB l) 24,errI (daysOk [kn]) 6]=v):=by show _=_;exact hv
 by_cases hv0:v=0
 rotate_left
 ·have hres:cdE l kn bs=v:=by unfold cdE;rw [if_neg (by rw [hv];exact hv0),hv]
  rw [hres]
  have hv1:(v != 0)=true:=by simpa using hv0
  clear hres hv hv0
  go_enter Tryz.func30,Tryz.ntmps30
  go_wp2_with (first | (go_at_call 12;refine (p_Check l ⟨pA,pn,pc,rA,rn,rc,tA,tn,tc,sA,sn,sc⟩ _ hpn hrn htn hsn (HD.out.now (by exact bel_))).mono ?_;rintro e w1 ⟨rfl,hb1⟩;have HB1:Below w.heap.size w w1:=bt_ (by exact bel_) hb1;have hs1:=HB1.size;have bL0:=BoxA.new w 32 #[.slice pA pn pc,.slice rA rn rc,.slice tA tn tc,.slice sA sn sc];have bL1:=bL0.ext hb1;have kL1:=bL1.cell;have zL1:=bL1.lt;clear hb1) | (go_at_call 63;refine (p_checkDays [kn] _ 1 1 _ (by decide) (Rd.new _ #[.int .i64 kn] _ 1 1 _ (by simp) rfl)).mono ?_;rintro e w2 ⟨rfl,hb2⟩;have HB2:Below w.heap.size w w2:=bt_ (by exact bel_) hb2;have hs2:=HB2.size;have bL2:=(bL1.alloc _).ext hb2;have kL2:=bL2.cell;have zL2:=bL2.lt;clear kL1 zL1;clear hb2) | (go_at_call 62;refine (p_first [errI (ledB l) 24,errI (daysOk [kn]) 6] v _ 2 2 _ (by decide) (Rd.new _ #[.int .i64 (errI (ledB l) 24),.int .i64 (errI (daysOk [kn]) 6)] _ 1 2 _ (by simp) rfl) HV.out).mono ?_;rintro e w1 ⟨rfl,rfl⟩))
  go_ret
  exact ⟨rfl,by exact bel_⟩
 subst hv0
 have hlb:=(pre_zero hv).1
 have HLO:=hd_ (led_ok hlb)
 have HBL:Hid (bs.length=m):=by show _=_;exact HBY.out.len
 by_cases hm2:m=2
 rotate_left
 ·have hres:cdE l kn bs=28:=cd_no hv (fun a b h _=>by have h2:=HBL.out;rw [h] at h2;exact hm2 h2.symm)
  rw [hres]
  have hmd:((m:Int) != 2)=true:=by simp;omega
  clear hres hv hlb hm2
  go_enter Tryz.func30,Tryz.ntmps30
  go_wp2_with (first | (go_at_call 12;refine (p_Check l ⟨pA,pn,pc,rA,rn,rc,tA,tn,tc,sA,sn,sc⟩ _ hpn hrn htn hsn (HD.out.now (by exact bel_))).mono ?_;rintro e w1 ⟨rfl,hb1⟩;have HB1:Below w.heap.size w w1:=bt_ (by exact bel_) hb1;have hs1:=HB1.size;have bL0:=BoxA.new w 32 #[.slice pA pn pc,.slice rA rn rc,.slice tA tn tc,.slice sA sn sc];have bL1:=bL0.ext hb1;have kL1:=bL1.cell;have zL1:=bL1.lt;clear hb1) | (go_at_call 63;refine (p_checkDays [kn] _ 1 1 _ (by decide) (Rd.new _ #[.int .i64 kn] _ 1 1 _ (by simp) rfl)).mono ?_;rintro e w2 ⟨rfl,hb2⟩;have HB2:Below w.heap.size w w2:=bt_ (by exact bel_) hb2;have hs2:=HB2.size;have bL2:=(bL1.alloc _).ext hb2;have kL2:=bL2.cell;have zL2:=bL2.lt;clear kL1 zL1;clear hb2) | (go_at_call 62;refine (p_first [errI (ledB l) 24,errI (daysOk [kn]) 6] 0 _ 2 2 _ (by decide) (Rd.new _ #[.int .i64 (errI (ledB l) 24),.int .i64 (errI (daysOk [kn]) 6)] _ 1 2 _ (by simp) rfl) HV.out).mono ?_;rintro e w1 ⟨rfl,rfl⟩))
  (refine rg_ ?_;(repeat (go_big_quiet_step (fail)));refine qn_ fun w1 hb1 hc1 hf1=>?_)
  go_wp2_with fail
  go_ret
  exact ⟨rfl,bt_ (by exact bel_) hb1⟩
 subst hm2
 obtain ⟨a,b,rfl⟩:∃ a b,bs=[a,b]:=by
  have h:=HBL.out
  match bs,h with
  | [a,b],_=>exact ⟨a,b,rfl⟩
 obtain ⟨bd,od,a',rfl,hbd,ha',hca⟩:=HBY.out.at_ (k:=0) (by omega)
 obtain ⟨bd2,od2,b',eb,-,hb',hcb⟩:=HBY.out.at_ (k:=1) (by omega)
 obtain ⟨rfl,rfl⟩:bd=bd2∧od=od2:=by simpa using eb
 obtain rfl:a=a':=by simpa using ha'
 obtain rfl:b=b':=by simpa using hb'
 simp only [Nat.add_zero] at hca
 clear eb ha' hb'
 cases hlt:decide (a≥b) with
 | true =>
   have hres:cdE l kn [a,b]=28:=cd_no hv (fun a' b' h h2=>by
    simp only [List.cons.injEq,and_true] at h
    obtain ⟨rfl,rfl⟩:=h
    have:=of_decide_eq_true hlt
    omega)
   rw [hres]
   clear hres hv hlb
   go_enter Tryz.func30,Tryz.ntmps30
   go_wp2_with (first | (go_at_call 12;refine (p_Check l ⟨pA,pn,pc,rA,rn,rc,tA,tn,tc,sA,sn,sc⟩ _ hpn hrn htn hsn (HD.out.now (by exact bel_))).mono ?_;rintro e w1 ⟨rfl,hb1⟩;have HB1:Below w.heap.size w w1:=bt_ (by exact bel_) hb1;have hs1:=HB1.size;have bL0:=BoxA.new w 32 #[.slice pA pn pc,.slice rA rn rc,.slice tA tn tc,.slice sA sn sc];have bL1:=bL0.ext hb1;have kL1:=bL1.cell;have zL1:=bL1.lt;clear hb1) | (go_at_call 63;refine (p_checkDays [kn] _ 1 1 _ (by decide) (Rd.new _ #[.int .i64 kn] _ 1 1 _ (by simp) rfl)).mono ?_;rintro e w2 ⟨rfl,hb2⟩;have HB2:Below w.heap.size w w2:=bt_ (by exact bel_) hb2;have hs2:=HB2.size;have bL2:=(bL1.alloc _).ext hb2;have kL2:=bL2.cell;have zL2:=bL2.lt;clear kL1 zL1;clear hb2;have c0:=(HB2.cell (p:=⟨bd,od,none⟩) hbd).trans hca;have c1:=(HB2.cell (p:=⟨bd,od+1,none⟩) hbd).trans hcb;have hbd2:bd<w2.heap.size:=(by omega)) | (go_at_call 62;refine (p_first [errI (ledB l) 24,errI (daysOk [kn]) 6] 0 _ 2 2 _ (by decide) (Rd.new _ #[.int .i64 (errI (ledB l) 24),.int .i64 (errI (daysOk [kn]) 6)] _ 1 2 _ (by simp) rfl) HV.out).mono ?_;rintro e w1 ⟨rfl,rfl⟩))
   (refine rg_ ?_;(repeat (go_big_quiet_step (fail)));refine qn_ fun w1 hb1 hc1 hf1=>?_)
   go_wp2_with fail
   go_ret
   exact ⟨rfl,bt_ (by exact bel_) hb1⟩
 | false =>
 have hlt2:a<b:=by have:=of_decide_eq_false hlt;omega
 have hcd:=cd_prog hv hlt2
 obtain ⟨z,hz⟩:∃ z,cdE l kn [a,b]=z:=⟨_,rfl⟩
 rw [hz]
 rw [hz] at hcd
 have HCD:=hd_ hcd
 obtain ⟨qa,hqa⟩:∃ q,(findR (cntR l kn) a).isSome=q:=⟨_,rfl⟩
 obtain ⟨qb,hqb⟩:∃ q,(findR (cntR l kn) b).isSome=q:=⟨_,rfl⟩
 have HQA:=hd_ hqa
 have HQB:=hd_ hqb
 clear hcd hz hv hlb hlt2 hqa hqb
 go_enter Tryz.func30,Tryz.ntmps30
 go_wp2_with (first | (go_at_call 12;refine (p_Check l ⟨pA,pn,pc,rA,rn,rc,tA,tn,tc,sA,sn,sc⟩ _ hpn hrn htn hsn (HD.out.now (by exact bel_))).mono ?_;rintro e w1 ⟨rfl,hb1⟩;have HB1:Below w.heap.size w w1:=bt_ (by exact bel_) hb1;have hs1:=HB1.size;have bL0:=BoxA.new w 32 #[.slice pA pn pc,.slice rA rn rc,.slice tA tn tc,.slice sA sn sc];have bL1:=bL0.ext hb1;have kL1:=bL1.cell;have zL1:=bL1.lt;clear hb1) | (go_at_call 63;refine (p_checkDays [kn] _ 1 1 _ (by decide) (Rd.new _ #[.int .i64 kn] _ 1 1 _ (by simp) rfl)).mono ?_;rintro e w2 ⟨rfl,hb2⟩;have HB2:Below w.heap.size w w2:=bt_ (by exact bel_) hb2;have hs2:=HB2.size;have bL2:=(bL1.alloc _).ext hb2;have kL2:=bL2.cell;have zL2:=bL2.lt;clear kL1 zL1;clear hb2;have c0:=(HB2.cell (p:=⟨bd,od,none⟩) hbd).trans hca;have c1:=(HB2.cell (p:=⟨bd,od+1,none⟩) hbd).trans hcb;have hbd2:bd<w2.heap.size:=(by omega)) | (go_at_call 62;refine (p_first [errI (ledB l) 24,errI (daysOk [kn]) 6] 0 _ 2 2 _ (by decide) (Rd.new _ #[.int .i64 (errI (ledB l) 24),.int .i64 (errI (daysOk [kn]) 6)] _ 1 2 _ (by simp) rfl) HV.out).mono ?_;rintro e w1 ⟨rfl,rfl⟩))
 (refine rg_ ?_;(repeat (go_big_quiet_step (fail)));refine qn_ fun w1 hb1 hc1 hf1=>?_)
 obtain ⟨w4,rfl⟩:∃ w4,w4=w1:=⟨_,rfl⟩
 have HB4:Below w.heap.size w w4:=bt_ (by exact bel_) hb1
 have hs4:=HB4.size
 have bL4:=(bL2.alloc _).ext hb1
 have kL4:=bL4.cell
 have zL4:=bL4.lt
 clear c0 c1 kL2 zL2 hb1 hc1 hf1
 go_wp2_with (go_at_call 64;refine (p_openA l ⟨pA,pn,pc,rA,rn,rc,tA,tn,tc,sA,sn,sc⟩ kn _ HLO.out (HD.out.now (by exact bel_))).mono ?_;rintro e w5 ⟨RA,Rn,Rc,SA,Sn,Sc,bm,TA,Tn,Tc,PA,Pn,Pc,rfl,hb5,hO⟩;have HB5:Below w.heap.size w w5:=bt_ (by exact bel_) hb5;have hs5:=HB5.size;have HO:=hd_ hO;clear hO hb5)
 have HRN:Hid (Rn≤1000000):=by show _≤_;exact HO.out.acc.nR
 have HOK:Hid (∀ r∈cntR l kn,r.lv.length≤1000000∧(Lit.int .i64 r.src).wf=true∧∀ x∈r.lv,(Lit.int .i64 x).wf=true):=by show ∀ _,_;exact HO.out.acc.okR
 refine wp_named2 fun f0 W6 hf0 hW6=>?_
 have bA6:BoxA W6 w5.heap.size 115 #[.slice pA pn pc,.slice rA rn rc,.slice tA tn tc,.slice sA sn sc,.int .i64 kn,.slice RA Rn Rc,.slice SA Sn Sc,.map (some bm),.slice TA Tn Tc,.slice PA Pn Pc]:=by rw [← hW6];exact BoxA.new _ _ _
 have HB6:Below w.heap.size w W6:=by rw [← hW6];exact bel_
 have HO6:Hid (OpnA W6 ⟨⟨pA,pn,pc,rA,rn,rc,tA,tn,tc,sA,sn,sc⟩,kn,RA,Rn,Rc,SA,Sn,Sc,bm,TA,Tn,Tc,PA,Pn,Pc⟩ l kn):=by show OpnA _ _ _ _;rw [← hW6];exact HO.out.now (by exact bel_)
 have hs6:=HB6.size
 clear hW6
 subst hf0
 have k6:=bA6.cell
 have z6:=bA6.lt
 have d0:=(HB6.cell (p:=⟨bd,od,none⟩) hbd).trans hca
 have hbd6:bd<W6.heap.size:=by omega
 have HRR_7:Hid (Rcs W6 W6.heap.size RA Rn (cntR l kn)):=by show Sq _ _ _ _ _ _ _;exact HO6.out.acc.r
 have HBA6:=hd_ bA6
 clear kL4 zL4 bA6
 refine wp_named2 fun f1 V1 hf1 hV1=>?_
 subst hV1
 refine wp_cut2 (fun a' W'=>∃ (u7:Rcp) (A7:Option Addr) (n7 c7 B9:Nat),a'={ tmps:=((((((((((f1.tmps.setIfInBounds 39 (.agg #[.slice pA pn pc,.slice rA rn rc,.slice tA tn tc,.slice sA sn sc,.int .i64 kn,.slice RA Rn Rc,.slice SA Sn Sc,.map (some bm),.slice TA Tn Tc,.slice PA Pn Pc])).setIfInBounds 40 (.slice (some ⟨bd,od,none⟩) 2 c0)).setIfInBounds 41 (.pointer (some ⟨bd,od,none⟩))).setIfInBounds 42 (.int .i64 a)).setIfInBounds 43 (.tuple #[.agg #[.int .i64 u7.src,.int .i64 u7.bor,.int .i64 u7.pap,.slice A7 n7 c7,.int .i64 u7.day,.int .i64 u7.kn,.int .i64 u7.un],.bool qa])).setIfInBounds 38 (.tuple #[.agg #[.int .i64 u7.src,.int .i64 u7.bor,.int .i64 u7.pap,.slice A7 n7 c7,.int .i64 u7.day,.int .i64 u7.kn,.int .i64 u7.un],.bool qa])).setIfInBounds 44 (.agg #[.int .i64 u7.src,.int .i64 u7.bor,.int .i64 u7.pap,.slice A7 n7 c7,.int .i64 u7.day,.int .i64 u7.kn,.int .i64 u7.un])).setIfInBounds 45 (.bool qa)).setIfInBounds 9 (.pointer (some ⟨B9,0,none⟩))).setIfInBounds 10 (.bool qa)),defers:=[] }∧(∀ r,findR (cntR l kn) a=some r→u7=r∧Is W6 W6.heap.size A7 n7 r.lv∧n7≤c7∧c7≤maxLen)∧BoxA W' B9 79 #[.int .i64 u7.src,.int .i64 u7.bor,.int .i64 u7.pap,.slice A7 n7 c7,.int .i64 u7.day,.int .i64 u7.kn,.int .i64 u7.un]∧Below W6.heap.size W6 W'∧W6.heap.size≤B9) ?reg ?rest
 case reg =>
  subst hf1
  (refine wp_region_bheld 11 (by kernel_rfl) rfl (fun hS=>?_);simp only [List.reduceReplicate,Array.replicate_succ,Array.replicate_zero])
  (refine tk_ (i:=0) (v:=?_) rfl ?_ hS ?_;rotate_left;focus (intro w2 hw2;obtain ⟨hc2,hf2⟩:=bcell hw2;go_simp;first | done | with_reducible rfl);(try simp only [Act.put,pu1,pu2,pu3]))
  (refine tk_ (i:=1) (v:=?_) rfl ?_ hS ?_;rotate_left;focus (intro w2 hw2;obtain ⟨hc2,hf2⟩:=bcell hw2;go_simp;first | done | with_reducible rfl);(try simp only [Act.put,pu1,pu2,pu3]))
  (refine tk_ (i:=2) (v:=?_) rfl ?_ hS ?_;rotate_left;focus (intro w2 hw2;obtain ⟨hc2,hf2⟩:=bcell hw2;go_simp;first | done | with_reducible rfl);(try simp only [Act.put,pu1,pu2,pu3]))
  (refine tk_ (i:=3) (v:=?_) rfl ?_ hS ?_;rotate_left;focus (intro w2 hw2;obtain ⟨hc2,hf2⟩:=bcell hw2;go_simp;first | done | with_reducible rfl);(try simp only [Act.put,pu1,pu2,pu3]))
  refine rd_ [4,8] ?_
  refine AllReadyH.cons rfl (fun K hK=>?_) (AllReadyH.cons rfl (fun K hK=>?_) AllReadyH.nil)
  ·(go_simp;go_at_call 83;refine (p_receiptU (cntR l kn) ⟨⟨pA,pn,pc,rA,rn,rc,tA,tn,tc,sA,sn,sc⟩,kn,RA,Rn,Rc,SA,Sn,Sc,bm,TA,Tn,Tc,PA,Pn,Pc⟩ a qa W6 _ HRN.out HRR_7.out hS HQA.out).mono ?_;rintro e w7 ⟨u7,A7,n7,c7,rfl,hb7,hu⟩;go_simp)
   have h7:Below W6.heap.size W6 w7:=bt_ hS hb7
   refine hK.out _ _ h7 (fun hS=>?_)
   clear hK K
   (try simp only [Act.put,pu1,pu2,pu3])
   (refine tk_ (i:=5) (v:=?_) rfl ?_ hS ?_;rotate_left;focus (intro w2 hw2;obtain ⟨hc2,hf2⟩:=bcell hw2;go_simp;first | done | with_reducible rfl);(try simp only [Act.put,pu1,pu2,pu3]))
   (refine tk_ (i:=6) (v:=?_) rfl ?_ hS ?_;rotate_left;focus (intro w2 hw2;obtain ⟨hc2,hf2⟩:=bcell hw2;go_simp;first | done | with_reducible rfl);(try simp only [Act.put,pu1,pu2,pu3]))
   (refine tk_ (i:=7) (v:=?_) rfl ?_ hS ?_;rotate_left;focus (intro w2 hw2;obtain ⟨hc2,hf2⟩:=bcell hw2;go_simp;first | done | with_reducible rfl);(try simp only [Act.put,pu1,pu2,pu3]))
   refine rd_ [8] ?_
   refine ah1 rfl fun K hK=>?_
   go_simp
   have h8:Below W6.heap.size W6 (w7.alloc (.cells #[.int .i64 0,.int .i64 0,.int .i64 0,.slice none 0 0,.int .i64 0,.int .i64 0,.int .i64 0] 79)):=h7.alloc h7.size _
   refine hK.out _ _ h8 (fun hS=>?_)
   clear hK K
   (try simp only [Act.put,pu1,pu2,pu3])
   have b9:=BoxA.new w7 79 #[.int .i64 0,.int .i64 0,.int .i64 0,.slice none 0 0,.int .i64 0,.int .i64 0,.int .i64 0]
   have c9:=b9.cell
   have z9:=b9.lt
   have f9:=b9.frozen
   have hlw:W6.heap.size≤w7.heap.size:=h7.size
   refine rd_ [9] ?_
   refine ah1 rfl fun K hK=>?_
   go_simp
   have h9:Below W6.heap.size W6 (w7.alloc (.cells #[.int .i64 u7.src,.int .i64 u7.bor,.int .i64 u7.pap,.slice A7 n7 c7,.int .i64 u7.day,.int .i64 u7.kn,.int .i64 u7.un] 79)):=h7.alloc h7.size _
   refine hK.out _ _ h9 (fun hS=>?_)
   clear hK K
   (try simp only [Act.put,pu1,pu2,pu3])
   (refine tk_ (i:=10) (v:=?_) rfl ?_ hS ?_;rotate_left;focus (intro w2 hw2;obtain ⟨hc2,hf2⟩:=bcell hw2;go_simp;first | done | with_reducible rfl);(try simp only [Act.put,pu1,pu2,pu3]))
   refine wpAnyH_done (by kernel_rfl) ?_ _
   exact ⟨u7,A7,n7,c7,_,rfl,hu,BoxA.new w7 _ _,h9,hlw⟩
  ·go_simp
   have h5:Below W6.heap.size W6 (W6.drew.alloc (.cells #[.int .i64 0,.int .i64 0,.int .i64 0,.slice none 0 0,.int .i64 0,.int .i64 0,.int .i64 0] 79)):=hS.alloc hS.size _
   refine hK.out _ _ h5 (fun hS=>?_)
   clear hK K
   (try simp only [Act.put,pu1,pu2,pu3])
   have b7:BoxA (W6.drew.alloc (.cells #[.int .i64 0,.int .i64 0,.int .i64 0,.slice none 0 0,.int .i64 0,.int .i64 0,.int .i64 0] 79)) W6.heap.size 79 #[.int .i64 0,.int .i64 0,.int .i64 0,.slice none 0 0,.int .i64 0,.int .i64 0,.int .i64 0]:=BoxA.new W6.drew _ _
   refine rd_ [4] ?_
   refine ah1 rfl fun K hK=>?_
   (go_simp;go_at_call 83;refine (p_receiptU (cntR l kn) ⟨⟨pA,pn,pc,rA,rn,rc,tA,tn,tc,sA,sn,sc⟩,kn,RA,Rn,Rc,SA,Sn,Sc,bm,TA,Tn,Tc,PA,Pn,Pc⟩ a qa W6 _ HRN.out HRR_7.out h5 HQA.out).mono ?_;rintro e w7 ⟨u7,A7,n7,c7,rfl,hb7,hu⟩;go_simp)
   have h7:Below W6.heap.size W6 w7:=bt_ h5 hb7
   refine hK.out _ _ h7 (fun hS=>?_)
   clear hK K
   (try simp only [Act.put,pu1,pu2,pu3])
   (refine tk_ (i:=5) (v:=?_) rfl ?_ hS ?_;rotate_left;focus (intro w2 hw2;obtain ⟨hc2,hf2⟩:=bcell hw2;go_simp;first | done | with_reducible rfl);(try simp only [Act.put,pu1,pu2,pu3]))
   (refine tk_ (i:=6) (v:=?_) rfl ?_ hS ?_;rotate_left;focus (intro w2 hw2;obtain ⟨hc2,hf2⟩:=bcell hw2;go_simp;first | done | with_reducible rfl);(try simp only [Act.put,pu1,pu2,pu3]))
   (refine tk_ (i:=7) (v:=?_) rfl ?_ hS ?_;rotate_left;focus (intro w2 hw2;obtain ⟨hc2,hf2⟩:=bcell hw2;go_simp;first | done | with_reducible rfl);(try simp only [Act.put,pu1,pu2,pu3]))
   have b9:=b7.ext hb7
   have c9:=b9.cell
   have z9:=b9.lt
   have f9:=b9.frozen
   refine rd_ [9] ?_
   refine ah1 rfl fun K hK=>?_
   go_simp
   have h9:=below_set7 h7 (Nat.le_refl W6.heap.size) (.int .i64 u7.src) (.int .i64 u7.bor) (.int .i64 u7.pap) (.slice A7 n7 c7) (.int .i64 u7.day) (.int .i64 u7.kn) (.int .i64 u7.un)
   refine hK.out _ _ h9 (fun hS=>?_)
   clear hK K
   (try simp only [Act.put,pu1,pu2,pu3])
   (refine tk_ (i:=10) (v:=?_) rfl ?_ hS ?_;rotate_left;focus (intro w2 hw2;obtain ⟨hc2,hf2⟩:=bcell hw2;go_simp;first | done | with_reducible rfl);(try simp only [Act.put,pu1,pu2,pu3]))
   refine wpAnyH_done (by kernel_rfl) ?_ _
   exact ⟨u7,A7,n7,c7,_,rfl,hu,b9.set7 _ _ _ _ _ _ _,h9,lr_⟩
 case rest =>
  subst hf1
  rintro a' W7 ⟨u7,A7,n7,c7,B7,rfl,hu7,bX7,h7,l7⟩
  simp only [List.setIfInBounds_toArray,List.set_cons_zero,List.set_cons_succ]
  have HB7:=HB6.trans (h7.mono hs6)
  have hs7:=HB7.size
  have bA7:=HBA6.out.ext h7
  have HO7:=hd_ (HO6.out.now h7)
  have HU7:=hd_ hu7
  have HBX7:=hd_ bX7
  have HBA7:=hd_ bA7
  clear k6 z6 d0 hu7 bX7
  have k7:=bA7.cell
  have z7:=bA7.lt
  have d1:=(HB7.cell (p:=⟨bd,od+1,none⟩) hbd).trans hcb
  have hbd7:bd<W7.heap.size:=by omega
  have HRR_8:Hid (Rcs W7 W7.heap.size RA Rn (cntR l kn)):=by show Sq _ _ _ _ _ _ _;exact HO7.out.acc.r
  clear bA7
  go_wp2_with fail
  refine wp_named2 fun f1 V1 hf1 hV1=>?_
  subst hV1
  refine wp_cut2 (fun a' W'=>∃ (u8:Rcp) (A8:Option Addr) (n8 c8 B9:Nat),a'={ tmps:=((((((((((f1.tmps.setIfInBounds 47 (.agg #[.slice pA pn pc,.slice rA rn rc,.slice tA tn tc,.slice sA sn sc,.int .i64 kn,.slice RA Rn Rc,.slice SA Sn Sc,.map (some bm),.slice TA Tn Tc,.slice PA Pn Pc])).setIfInBounds 48 (.slice (some ⟨bd,od,none⟩) 2 c0)).setIfInBounds 49 (.pointer (some ⟨bd,od+1,none⟩))).setIfInBounds 50 (.int .i64 b)).setIfInBounds 51 (.tuple #[.agg #[.int .i64 u8.src,.int .i64 u8.bor,.int .i64 u8.pap,.slice A8 n8 c8,.int .i64 u8.day,.int .i64 u8.kn,.int .i64 u8.un],.bool qb])).setIfInBounds 46 (.tuple #[.agg #[.int .i64 u8.src,.int .i64 u8.bor,.int .i64 u8.pap,.slice A8 n8 c8,.int .i64 u8.day,.int .i64 u8.kn,.int .i64 u8.un],.bool qb])).setIfInBounds 52 (.agg #[.int .i64 u8.src,.int .i64 u8.bor,.int .i64 u8.pap,.slice A8 n8 c8,.int .i64 u8.day,.int .i64 u8.kn,.int .i64 u8.un])).setIfInBounds 53 (.bool qb)).setIfInBounds 11 (.pointer (some ⟨B9,0,none⟩))).setIfInBounds 12 (.bool qb)),defers:=[] }∧(∀ r,findR (cntR l kn) b=some r→u8=r∧Is W7 W7.heap.size A8 n8 r.lv∧n8≤c8∧c8≤maxLen)∧BoxA W' B9 79 #[.int .i64 u8.src,.int .i64 u8.bor,.int .i64 u8.pap,.slice A8 n8 c8,.int .i64 u8.day,.int .i64 u8.kn,.int .i64 u8.un]∧Below W7.heap.size W7 W'∧W7.heap.size≤B9) ?reg ?rest
  case reg =>
   subst hf1
   (refine wp_region_bheld 11 (by kernel_rfl) rfl (fun hS=>?_);simp only [List.reduceReplicate,Array.replicate_succ,Array.replicate_zero])
   (refine tk_ (i:=0) (v:=?_) rfl ?_ hS ?_;rotate_left;focus (intro w2 hw2;obtain ⟨hc2,hf2⟩:=bcell hw2;go_simp;first | done | with_reducible rfl);(try simp only [Act.put,pu1,pu2,pu3]))
   (refine tk_ (i:=1) (v:=?_) rfl ?_ hS ?_;rotate_left;focus (intro w2 hw2;obtain ⟨hc2,hf2⟩:=bcell hw2;go_simp;first | done | with_reducible rfl);(try simp only [Act.put,pu1,pu2,pu3]))
   (refine tk_ (i:=2) (v:=?_) rfl ?_ hS ?_;rotate_left;focus (intro w2 hw2;obtain ⟨hc2,hf2⟩:=bcell hw2;go_simp;first | done | with_reducible rfl);(try simp only [Act.put,pu1,pu2,pu3]))
   (refine tk_ (i:=3) (v:=?_) rfl ?_ hS ?_;rotate_left;focus (intro w2 hw2;obtain ⟨hc2,hf2⟩:=bcell hw2;go_simp;first | done | with_reducible rfl);(try simp only [Act.put,pu1,pu2,pu3]))
   refine rd_ [4,8] ?_
   refine AllReadyH.cons rfl (fun K hK=>?_) (AllReadyH.cons rfl (fun K hK=>?_) AllReadyH.nil)
   ·(go_simp;go_at_call 83;refine (p_receiptU (cntR l kn) ⟨⟨pA,pn,pc,rA,rn,rc,tA,tn,tc,sA,sn,sc⟩,kn,RA,Rn,Rc,SA,Sn,Sc,bm,TA,Tn,Tc,PA,Pn,Pc⟩ b qb W7 _ HRN.out HRR_8.out hS HQB.out).mono ?_;rintro e w7 ⟨u8,A8,n8,c8,rfl,hb7,hu⟩;go_simp)
    have h7:Below W7.heap.size W7 w7:=bt_ hS hb7
    refine hK.out _ _ h7 (fun hS=>?_)
    clear hK K
    (try simp only [Act.put,pu1,pu2,pu3])
    (refine tk_ (i:=5) (v:=?_) rfl ?_ hS ?_;rotate_left;focus (intro w2 hw2;obtain ⟨hc2,hf2⟩:=bcell hw2;go_simp;first | done | with_reducible rfl);(try simp only [Act.put,pu1,pu2,pu3]))
    (refine tk_ (i:=6) (v:=?_) rfl ?_ hS ?_;rotate_left;focus (intro w2 hw2;obtain ⟨hc2,hf2⟩:=bcell hw2;go_simp;first | done | with_reducible rfl);(try simp only [Act.put,pu1,pu2,pu3]))
    (refine tk_ (i:=7) (v:=?_) rfl ?_ hS ?_;rotate_left;focus (intro w2 hw2;obtain ⟨hc2,hf2⟩:=bcell hw2;go_simp;first | done | with_reducible rfl);(try simp only [Act.put,pu1,pu2,pu3]))
    refine rd_ [8] ?_
    refine ah1 rfl fun K hK=>?_
    go_simp
    have h8:Below W7.heap.size W7 (w7.alloc (.cells #[.int .i64 0,.int .i64 0,.int .i64 0,.slice none 0 0,.int .i64 0,.int .i64 0,.int .i64 0] 79)):=h7.alloc h7.size _
    refine hK.out _ _ h8 (fun hS=>?_)
    clear hK K
    (try simp only [Act.put,pu1,pu2,pu3])
    have b9:=BoxA.new w7 79 #[.int .i64 0,.int .i64 0,.int .i64 0,.slice none 0 0,.int .i64 0,.int .i64 0,.int .i64 0]
    have c9:=b9.cell
    have z9:=b9.lt
    have f9:=b9.frozen
    have hlw:W7.heap.size≤w7.heap.size:=h7.size
    refine rd_ [9] ?_
    refine ah1 rfl fun K hK=>?_
    go_simp
    have h9:Below W7.heap.size W7 (w7.alloc (.cells #[.int .i64 u8.src,.int .i64 u8.bor,.int .i64 u8.pap,.slice A8 n8 c8,.int .i64 u8.day,.int .i64 u8.kn,.int .i64 u8.un] 79)):=h7.alloc h7.size _
    refine hK.out _ _ h9 (fun hS=>?_)
    clear hK K
    (try simp only [Act.put,pu1,pu2,pu3])
    (refine tk_ (i:=10) (v:=?_) rfl ?_ hS ?_;rotate_left;focus (intro w2 hw2;obtain ⟨hc2,hf2⟩:=bcell hw2;go_simp;first | done | with_reducible rfl);(try simp only [Act.put,pu1,pu2,pu3]))
    refine wpAnyH_done (by kernel_rfl) ?_ _
    exact ⟨u8,A8,n8,c8,_,rfl,hu,BoxA.new w7 _ _,h9,hlw⟩
   ·go_simp
    have h5:Below W7.heap.size W7 (W7.drew.alloc (.cells #[.int .i64 0,.int .i64 0,.int .i64 0,.slice none 0 0,.int .i64 0,.int .i64 0,.int .i64 0] 79)):=hS.alloc hS.size _
    refine hK.out _ _ h5 (fun hS=>?_)
    clear hK K
    (try simp only [Act.put,pu1,pu2,pu3])
    have b7:BoxA (W7.drew.alloc (.cells #[.int .i64 0,.int .i64 0,.int .i64 0,.slice none 0 0,.int .i64 0,.int .i64 0,.int .i64 0] 79)) W7.heap.size 79 #[.int .i64 0,.int .i64 0,.int .i64 0,.slice none 0 0,.int .i64 0,.int .i64 0,.int .i64 0]:=BoxA.new W7.drew _ _
    refine rd_ [4] ?_
    refine ah1 rfl fun K hK=>?_
    (go_simp;go_at_call 83;refine (p_receiptU (cntR l kn) ⟨⟨pA,pn,pc,rA,rn,rc,tA,tn,tc,sA,sn,sc⟩,kn,RA,Rn,Rc,SA,Sn,Sc,bm,TA,Tn,Tc,PA,Pn,Pc⟩ b qb W7 _ HRN.out HRR_8.out h5 HQB.out).mono ?_;rintro e w7 ⟨u8,A8,n8,c8,rfl,hb7,hu⟩;go_simp)
    have h7:Below W7.heap.size W7 w7:=bt_ h5 hb7
    refine hK.out _ _ h7 (fun hS=>?_)
    clear hK K
    (try simp only [Act.put,pu1,pu2,pu3])
    (refine tk_ (i:=5) (v:=?_) rfl ?_ hS ?_;rotate_left;focus (intro w2 hw2;obtain ⟨hc2,hf2⟩:=bcell hw2;go_simp;first | done | with_reducible rfl);(try simp only [Act.put,pu1,pu2,pu3]))
    (refine tk_ (i:=6) (v:=?_) rfl ?_ hS ?_;rotate_left;focus (intro w2 hw2;obtain ⟨hc2,hf2⟩:=bcell hw2;go_simp;first | done | with_reducible rfl);(try simp only [Act.put,pu1,pu2,pu3]))
    (refine tk_ (i:=7) (v:=?_) rfl ?_ hS ?_;rotate_left;focus (intro w2 hw2;obtain ⟨hc2,hf2⟩:=bcell hw2;go_simp;first | done | with_reducible rfl);(try simp only [Act.put,pu1,pu2,pu3]))
    have b9:=b7.ext hb7
    have c9:=b9.cell
    have z9:=b9.lt
    have f9:=b9.frozen
    refine rd_ [9] ?_
    refine ah1 rfl fun K hK=>?_
    go_simp
    have h9:=below_set7 h7 (Nat.le_refl W7.heap.size) (.int .i64 u8.src) (.int .i64 u8.bor) (.int .i64 u8.pap) (.slice A8 n8 c8) (.int .i64 u8.day) (.int .i64 u8.kn) (.int .i64 u8.un)
    refine hK.out _ _ h9 (fun hS=>?_)
    clear hK K
    (try simp only [Act.put,pu1,pu2,pu3])
    (refine tk_ (i:=10) (v:=?_) rfl ?_ hS ?_;rotate_left;focus (intro w2 hw2;obtain ⟨hc2,hf2⟩:=bcell hw2;go_simp;first | done | with_reducible rfl);(try simp only [Act.put,pu1,pu2,pu3]))
    refine wpAnyH_done (by kernel_rfl) ?_ _
    exact ⟨u8,A8,n8,c8,_,rfl,hu,b9.set7 _ _ _ _ _ _ _,h9,lr_⟩
  case rest =>
   subst hf1
   rintro a' W8 ⟨u8,A8,n8,c8,B8,rfl,hu8,bX8,h8,l8⟩
   simp only [List.setIfInBounds_toArray,List.set_cons_zero,List.set_cons_succ]
   have HB8:=HB7.trans (h8.mono hs7)
   have hs8:=HB8.size
   have bA8:=HBA7.out.ext h8
   have bY8:=HBX7.out.ext h8
   have HO8:=hd_ (HO7.out.now h8)
   have HU8:=hd_ hu8
   have HBX8:=hd_ bX8
   clear k7 z7 d1 hu8
   have k8:=bA8.cell
   have z8:=bA8.lt
   have kx8:=bX8.cell
   have zx8:=bX8.lt
   have ky8:=bY8.cell
   have zy8:=bY8.lt
   clear bX8 bA8 bY8
   cases ha:findR (cntR l kn) a with
   | none =>
     have hqf:qa=false:=by rw [← HQA.out,ha];rfl
     subst hqf
     have hz28:z=28:=by rw [HCD.out,ha]
     subst hz28
     go_wp2_with ((go_at_call 61;refine (p_verdict false 28 _).mono ?_;rintro e w1 ⟨rfl,rfl⟩))
     go_ret
     exact ⟨rfl,HB8⟩
   | some ra =>
     have hqt:qa=true:=by rw [← HQA.out,ha];rfl
     subst hqt
     cases hb:findR (cntR l kn) b with
     | none =>
       have hqf:qb=false:=by rw [← HQB.out,hb];rfl
       subst hqf
       have hz28:z=28:=by rw [HCD.out,ha,hb]
       subst hz28
       go_wp2_with ((go_at_call 61;refine (p_verdict false 28 _).mono ?_;rintro e w1 ⟨rfl,rfl⟩))
       go_ret
       exact ⟨rfl,HB8⟩
     | some rb =>
       have hqt:qb=true:=by rw [← HQB.out,hb];rfl
       subst hqt
       obtain ⟨rfl,ia,ca,ma⟩:=HU7.out ra ha
       obtain ⟨rfl,ib,cb,mb⟩:=HU8.out rb hb
       have hma:=HOK.out _ (findR_mem ha).1
       have hmb:=HOK.out _ (findR_mem hb).1
       have la:n7≤1000000:=by rw [← ia.len];exact hma.1
       have lb:n8≤1000000:=by rw [← ib.len];exact hmb.1
       have HIA:Hid (RvIn W8 ⟨u7,A7,n7,c7⟩):=by show RvIn _ _;exact ⟨ia.now (h7.trans (h8.mono h7.size)),la,hma.2.1,hma.2.2⟩
       have HIB:Hid (RvIn W8 ⟨u8,A8,n8,c8⟩):=by show RvIn _ _;exact ⟨ib.now h8,lb,hmb.2.1,hmb.2.2⟩
       have hz1:z=if dblB (opnL l kn).M (opnL l kn).P u7 u8=true then 0 else 28:=by rw [HCD.out,ha,hb]
       obtain ⟨qd,hqd⟩:∃ q,dblB (opnL l kn).M (opnL l kn).P u7 u8=q:=⟨_,rfl⟩
       rw [hqd] at hz1
       have HQD:=hd_ hqd
       have HZ1:=hd_ hz1
       clear ia ib hma hmb hz1 hqd ha hb
       go_wp2_with (first | (go_at_call 84;have hcl:=p_areDouble (opnL l kn).M (cntR l kn) (opnL l kn).P ⟨⟨pA,pn,pc,rA,rn,rc,tA,tn,tc,sA,sn,sc⟩,kn,RA,Rn,Rc,SA,Sn,Sc,bm,TA,Tn,Tc,PA,Pn,Pc⟩ ⟨u7,A7,n7,c7⟩ ⟨u8,A8,n8,c8⟩ W8 HO8.out.acc HIA.out HIB.out;dsimp only at hcl;rw [HQD.out] at hcl;refine hcl.mono ?_;rintro e w9 ⟨rfl,hb9⟩;have HB9:=bt_ HB8 hb9) | (go_at_call 61;refine (p_verdict qd 28 _).mono ?_;rintro e w1 ⟨rfl,rfl⟩))
       go_ret
       exact ⟨by rw [HZ1.out];cases qd <;> rfl,HB9⟩
theorem p_Telling_v (l:Led) (x:Lsl) (kn:Int) (p:List Int) (v:Int) (w:World) (hf:x.fit) (hd:LedIn w w.heap.size x l) (h:telX l kn=(p,v)) :
 Calls Tryz.prog 24 #[.agg #[.slice x.pA x.pn x.pc,.slice x.rA x.rn x.rc,.slice x.tA x.tn x.tc,.slice x.sA x.sn x.sc],.int .i64 kn] w (RetLE (p,v) w):=h ▸ p_Telling l x kn w hf hd
theorem p_Double_v (l:Led) (x:Lsl) (kn:Int) (p:List Int) (v:Int) (w:World) (hf:x.fit) (hd:LedIn w w.heap.size x l) (h:doubleX l kn=(p,v)) :
 Calls Tryz.prog 28 #[.agg #[.slice x.pA x.pn x.pc,.slice x.rA x.rn x.rc,.slice x.tA x.tn x.tc,.slice x.sA x.sn x.sc],.int .i64 kn] w (RetLE (p,v) w):=h ▸ p_Double l x kn w hf hd
theorem p_Clash_v (l:Led) (x:Lsl) (kn:Int) (p:List Int) (v:Int) (w:World) (hf:x.fit) (hd:LedIn w w.heap.size x l) (h:clashX l kn=(p,v)) :
 Calls Tryz.prog 29 #[.agg #[.slice x.pA x.pn x.pc,.slice x.rA x.rn x.rc,.slice x.tA x.tn x.tc,.slice x.sA x.sn x.sc],.int .i64 kn] w (RetLE (p,v) w):=h ▸ p_Clash l x kn w hf hd
theorem p_Sound_v (l:Led) (x:Lsl) (kn:Int) (p:Bool) (v:Int) (w:World) (hf:x.fit) (hd:LedIn w w.heap.size x l) (h:soundX l kn=(p,v)) :
 Calls Tryz.prog 23 #[.agg #[.slice x.pA x.pn x.pc,.slice x.rA x.rn x.rc,.slice x.tA x.tn x.tc,.slice x.sA x.sn x.sc],.int .i64 kn] w (fun e w'=>e=.returned (.tuple #[.bool p,.int .i64 v])∧Below w.heap.size w w'):=by
 have hc:=p_Sound l x kn w hf hd
 rw [h] at hc
 exact hc
theorem p_CheckDouble_v (l:Led) (x:Lsl) (kn:Int) (bs:List Int) (D:Option Addr) (m c:Nat) (z:Int) (w:World) (hf:x.fit) (hd:LedIn w w.heap.size x l) (hm:m≤9223372036854775807) (hby:Is w w.heap.size D m bs) (h:cdE l kn bs=z) :
 Calls Tryz.prog 30 #[.agg #[.slice x.pA x.pn x.pc,.slice x.rA x.rn x.rc,.slice x.tA x.tn x.tc,.slice x.sA x.sn x.sc],.int .i64 kn,.slice D m c] w fun e w'=>e=.returned (.int .i64 z)∧Below w.heap.size w w':=h ▸ p_CheckDouble l x kn bs D m c w hf hd hm hby
theorem p_CheckClash_v (l:Led) (x:Lsl) (kn:Int) (bs:List Int) (D:Option Addr) (m c:Nat) (z:Int) (w:World) (hf:x.fit) (hd:LedIn w w.heap.size x l) (hm:m≤9223372036854775807) (hby:Is w w.heap.size D m bs) (h:ccE l kn bs=z) :
 Calls Tryz.prog 31 #[.agg #[.slice x.pA x.pn x.pc,.slice x.rA x.rn x.rc,.slice x.tA x.tn x.tc,.slice x.sA x.sn x.sc],.int .i64 kn,.slice D m c] w fun e w'=>e=.returned (.int .i64 z)∧Below w.heap.size w w':=h ▸ p_CheckClash l x kn bs D m c w hf hd hm hby
theorem telX_len {l:Led} {kn v:Int} {p:List Int} (h:telX l kn=(p,v)):p.length≤1000000:=by
 unfold telX at h
 split at h
 ·rename_i hv
  cases h
  have h1:=telK_len (opnL l kn).T l.rt l.rt.length
  have h2:=(led_ok (pre_zero hv).1).tn
  omega
 ·cases h;simp
theorem doubleX_len {l:Led} {kn v:Int} {p:List Int} (h:doubleX l kn=(p,v)):p.length≤1000000:=by
 unfold doubleX at h
 split at h
 ·split at h <;> cases h <;> simp
 ·cases h;simp
theorem clashX_len {l:Led} {kn v:Int} {p:List Int} (h:clashX l kn=(p,v)):p.length≤1000000:=by
 unfold clashX at h
 split at h
 ·split at h
  ·cases h;simp
  ·split at h
   ·cases h;simp
   ·unfold clashR at h
    split at h <;> cases h <;> simp
 ·cases h;simp
def exL2:Led:=⟨[⟨1,3⟩,⟨2,1⟩],[⟨10,5,1,[1,2,3],10,10,0⟩,⟨11,6,1,[2],40,40,0⟩],[⟨20,10,7,[1,2],20,50,60,0⟩,⟨21,10,5,[3],5,30,60,0⟩],[⟨30,5,1,1,25,70,0⟩,⟨31,0,1,2,22,80,0⟩]⟩
theorem ex2_double:doubleX exL2 50=([10,11],0):=by kernel_rfl
theorem ex2_days:daysX exL2 20 70=((26,40),0):=by kernel_rfl
theorem ex2_clash:clashX exL2 80=([30,31],0):=by kernel_rfl
theorem ex2_where:whereX exL2 1 1 24 60=([0,5],0):=by kernel_rfl
theorem ex2_whole:wholeX exL2 1 30 60=(2,0):=by kernel_rfl
theorem ex2_lies:liesX exL2 10 40 60=(0,0):=by kernel_rfl
theorem ex2_has:leavesX (fun f=>decide (whL exL2 60 19 f=[5])) exL2 5 19 60=([(1,1),(1,2)],0):=by kernel_rfl
theorem ex2_placed:placedX exL2 [25,30] 1 27 60=([0,0,5],0):=by kernel_rfl
theorem ex2_moved:movX exL2 20 30 60=([(1,1),(1,2),(1,3),(2,1)],0):=by kernel_rfl
theorem ex2_true:checkTrueX exL2 60 [41,11]=29:=by kernel_rfl
end Go.Proofs.YtmcmbicapdcfmaaGreat
