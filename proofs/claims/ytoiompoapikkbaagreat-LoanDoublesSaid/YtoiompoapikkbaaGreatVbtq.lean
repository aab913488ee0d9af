/- Layer 2 of the texts that LoanDoubles takes: Vbtq. -/
import Derived.Test.YtoiompoapikkbaaGreatVbrq
set_option linter.unusedVariables false
set_option linter.unusedSimpArgs false
/- Layer 2, the reference: Clash. -/
namespace Go.Proofs.YtoiompoapikkbaaGreat
open Go.RowKit Go.Maps
theorem idx_at {l:Led} {I:List Int} {S:List Sgt} (h0:∀ i∈I,0≤i) (hIS:I.map (fun i=>l.sg[i.toNat]?)=S.map some):∀ k,k<I.length→∃ (j:Nat) (s:Sgt),I[k]?=some (j:Int)∧l.sg[j]?=some s∧S[k]?=some s:=by
 intro k hk
 have hl:I.length=S.length:=by have h:=congrArg List.length hIS;simpa using h
 have hi:I[k]?=some I[k]:=List.getElem?_eq_getElem (by omega)
 have hs:S[k]?=some S[k]:=List.getElem?_eq_getElem (by omega)
 have h1:=congrArg (fun L=>L[k]?) hIS
 simp only [List.getElem?_map,hi,hs,Option.map_some] at h1
 have h2:=h0 I[k] (List.getElem_mem _)
 exact ⟨I[k].toNat,S[k],by rw [hi];congr 1;omega,Option.some.inj h1,hs⟩
theorem find_take {α:Type} {C:List α} {p:α→Bool} {k:Nat} {s:α} (hk:C[k]?=some s) (h0:(C.take k).find? p=none) (hs:p s=true):C.find? p=some s:=by
 conv=>lhs;rw [← List.take_append_drop (k+1) C,List.find?_append]
 rw [take_snoc_some hk,List.find?_append,h0]
 simp [hs]
theorem find_take0 {α:Type} {C:List α} {p:α→Bool} {k:Nat} {s:α} (hk:C[k]?=some s) (h0:(C.take k).find? p=none) (hs:p s=false):(C.take (k+1)).find? p=none:=by
 rw [take_snoc_some hk,List.find?_append,h0]
 simp [hs]
set_option maxRecDepth 10000 in
set_option maxHeartbeats 8000000 in
theorem r_Clash (l:Led) (x:Lsl) (kn:Int) (w:World) (hf:x.fit) (hd:LedIn w w.heap.size x l) :
 Calls Tryz.prog 26 #[.agg #[.slice x.pA x.pn x.pc,.slice x.rA x.rn x.rc,.slice x.tA x.tn x.tc,.slice x.sA x.sn x.sc],.int .i64 kn] w (RetLE (clashX l kn) w):=by
 obtain ⟨pA,pn,pc,rA,rn,rc,tA,tn,tc,sA,sn,sc⟩:=x
 have HD:=Lib.hid hd
 have HF:=Lib.hid hf
 clear hd hf
 obtain ⟨v,hv⟩:∃ v,preE l [kn]=v:=⟨_,rfl⟩
 have HV:=Lib.hid hv
 by_cases hv0:v=0
 rotate_left
 ·have hres:clashX l kn=([],v):=by rw [clashX,if_neg (by rw [hv];exact hv0),hv]
  rw [hres]
  have hv1:(v != 0)=true:=by simpa using hv0
  have HV0:Hid (¬ v=0):=by show ¬ _;exact hv0
  clear hres hv hv0
  go_enter Tryz.func26,Tryz.ntmps26
  go_wp2_with (go_at_call 109;refine (r_agreeingP l ⟨pA,pn,pc,rA,rn,rc,tA,tn,tc,sA,sn,sc⟩ kn v _ HF.out (HD.out.now (by exact bel_)) HV.out HV0.out).mono ?_;rintro e w2 ⟨rfl,hb2⟩;have HB2:Below w.heap.size w w2:=Below.then_ (by exact bel_) hb2;have hs2:=HB2.size)
  go_ret2
  exact RetLE.err (by exact bel_)
 subst hv0
 have hlb:=(pre_zero hv).1
 cases ho:firstP (refD l (tellK l kn l.rt.length) kn) l.rc with
 | some q =>
   have hres:clashX l kn=([],25):=by rw [clashX,if_pos hv,dbl_first hlb,ho]
   rw [hres]
   have HO:=Lib.hid ho
   clear hres ho hv hlb
   go_enter Tryz.func26,Tryz.ntmps26
   go_wp2_with (go_at_call 109;refine (r_agreeingD l ⟨pA,pn,pc,rA,rn,rc,tA,tn,tc,sA,sn,sc⟩ kn q _ HF.out (HD.out.now (by exact bel_)) HV.out HO.out).mono ?_;rintro e w2 ⟨rfl,hb2⟩;have HB2:Below w.heap.size w w2:=Below.then_ (by exact bel_) hb2;have hs2:=HB2.size)
   go_ret2
   exact RetLE.err (by exact bel_)
 | none =>
 obtain ⟨r,hres⟩:∃ r,clashX l kn=r:=⟨_,rfl⟩
 rw [hres]
 have hcx:r=(match (cntS l kn).find? (fun s=>conB l kn [s]) with
  | some s=>([s.src],0)
  | none=>clashR (clash2 l kn (cntS l kn))):=by rw [← hres,clashX,if_pos hv,dbl_first hlb,ho];cases (cntS l kn).find? (fun s=>conB l kn [s]) <;> rfl
 have HR1:Hid (∀ s,(cntS l kn).find? (fun s=>conB l kn [s])=some s→r=([s.src],0)):=by show ∀ _,_;intro s h;rw [hcx,h]
 have HR2:Hid ((cntS l kn).find? (fun s=>conB l kn [s])=none→r=clashR (clash2 l kn (cntS l kn))):=by show _→_;intro h;rw [hcx,h]
 have HO:=Lib.hid ho
 have HLB:=Lib.hid hlb
 have hsn6:sn≤1000000:=by have h:=HD.out.s.len;have h2:=(led_ok hlb).sn;dsimp only at h;omega
 have HSG:Hid (Sgs w w.heap.size sA sn l.sg):=by show Sq _ _ _ _ _ _ _;exact HD.out.s
 obtain ⟨n8,h8⟩:∃ n8,(sgN l.sg kn l.sg.length).length=n8:=⟨_,rfl⟩
 have H8:=Lib.hid h8
 have hn8:n8≤60:=by have h1:=sgN_len l.sg kn l.sg.length;have h2:=(led_ok hlb).sn;omega
 have HC8:Hid ((cntS l kn).length=n8):=by show _=_;have h:=congrArg List.length (sgN_cnt l kn);simp only [List.length_map] at h;rw [← h8,h]
 clear hres hcx ho hv hlb
 go_enter Tryz.func26,Tryz.ntmps26
 go_wp2_with (first | (go_at_call 109;refine (r_agreeing0 l ⟨pA,pn,pc,rA,rn,rc,tA,tn,tc,sA,sn,sc⟩ kn _ HF.out (HD.out.now (by exact bel_)) HV.out HO.out).mono ?_;rintro e w2 ⟨B,Tc,rfl,hb2,hT,hBB⟩;have HB2:Below w.heap.size w w2:=Below.then_ (by exact bel_) hb2;have hs2:=HB2.size;have bL2:=(BoxA.new w 27 #[.slice pA pn pc,.slice rA rn rc,.slice tA tn tc,.slice sA sn sc]).ext hb2;have HBL2:=Lib.hid bL2;have zT:=hT.lt;have HT:=Lib.hid hT;clear hT hb2 bL2 hBB) | (go_at_call 110;refine (r_sights l ⟨⟨pA,pn,pc,rA,rn,rc,tA,tn,tc,sA,sn,sc⟩,kn,some ⟨B,0,none⟩,tn,Tc,none,0,0⟩ _ hsn6 (HD.out.now (by exact bel_))).mono ?_;rintro e w3 ⟨v3,rfl,hb3,ho3⟩;obtain ⟨A8,c8,rfl,hcc8⟩:=own_slice ho3;have HB3:Below w.heap.size w w3:=Below.then_ (by exact bel_) hb3;have hs3:=HB3.size;have bV3:=(BoxA.new w2 127 #[.slice pA pn pc,.slice rA rn rc,.slice tA tn tc,.slice sA sn sc,.int .i64 kn,.slice (some ⟨B,0,none⟩) tn Tc,.slice none 0 0]).ext hb3;have bL3:=(HBL2.out.alloc _).ext hb3;have HBV3:=Lib.hid bV3;have HBL3:=Lib.hid bL3;have HT3:=Lib.hid ((HT.out.alloc (.cells #[.slice pA pn pc,.slice rA rn rc,.slice tA tn tc,.slice sA sn sc,.int .i64 kn,.slice (some ⟨B,0,none⟩) tn Tc,.slice none 0 0] 127)).ext hb3);have hi3:Is w3 w3.heap.size A8 (sgN l.sg kn l.sg.length).length (sgN l.sg kn l.sg.length):=Rd.of_own ho3;have HI3:=Lib.hid hi3;clear hb3 ho3 bV3 bL3 hi3))
 have HCON:Hid (∀ (W:World) (I:List Int) (S:List Sgt) (q:Bool) (A:Option Addr) (m c:Nat),Below w3.heap.size w3 W→m≤1000000→Is W W.heap.size A m I→(∀ i∈I,0≤i)→I.map (fun i=>l.sg[i.toNat]?)=S.map some→conB l kn S=q→Calls Tryz.prog 111 #[.agg #[.slice pA pn pc,.slice rA rn rc,.slice tA tn tc,.slice sA sn sc,.int .i64 kn,.slice (some ⟨B,0,none⟩) tn Tc,.slice none 0 0],.slice A m c] W fun e w'=>e=.returned (.bool q)∧Below W.heap.size W w'):=by
  show ∀ _,_
  intro W I S q A m c hW hm hI h0 hIS hq
  exact r_contradict l ⟨⟨pA,pn,pc,rA,rn,rc,tA,tn,tc,sA,sn,sc⟩,kn,some ⟨B,0,none⟩,tn,Tc,none,0,0⟩ I S q A m c W HLB.out rfl (HD.out.now (HB3.trans (hW.mono hs3))) ((HT3.out.ext hW).sqT (by rw [tellK_len];exact HD.out.t.len) (HT3.out.ext hW).lt) hm hI h0 hIS hq
 have HIX:Hid (∀ k,k<n8→∃ (j:Nat) (s:Sgt),(sgN l.sg kn l.sg.length)[k]?=some (j:Int)∧l.sg[j]?=some s∧(cntS l kn)[k]?=some s):=by
  show ∀ _,_
  intro k hk
  exact idx_at (sgN_pos _ _ _) (sgN_cnt l kn) k (by rw [h8];exact hk)
 have hi3:=HI3.out
 rw [h8] at hi3
 have HI3:=Lib.hid hi3
 clear hi3
 (try simp only [h8])
 clear h8
 go_wp2_with fail
 go_loopw [9] (fun i wr=>∃ k:Nat,k≤n8∧i=.int .i64 k∧((cntS l kn).take k).find? (fun s=>conB l kn [s])=none∧Below w3.heap.size w3 wr) (fun i _=>n8 - (intOf i).toNat)
 case atStart=>exact ⟨0,by omega,rfl,rfl,Below.refl _ _⟩
 case round =>
  obtain ⟨k,hk,rfl,hfn,hQ⟩:=hrel
  have HFN:=Lib.hid hfn
  clear hfn
  have bVq:=HBV3.out.ext hQ
  have kVq:=bVq.cell
  have zVq:=bVq.lt
  have hsq:=hQ.size
  clear bVq
  by_cases hlt:k<n8
  ·obtain ⟨j,s,gik,gsg,gck⟩:=HIX.out k hlt
   obtain ⟨bi,oi,gy,rfl,hbi,ghy,gc⟩:=HI3.out.at_ (k:=k) hlt
   obtain rfl:(j:Int)=gy:=Option.some.inj (gik.symm.trans ghy)
   have glt:j<sn:=by rw [← HSG.out.len];exact (List.getElem?_eq_some_iff.1 gsg).1
   obtain ⟨bs,os,gs,rfl,hbs,ghs,ga0,-⟩:=HSG.out.at_ glt
   obtain rfl:s=gs:=Option.some.inj (gsg.symm.trans ghs)
   have cy:=(hQ.cell (p:=⟨bi,oi+k,none⟩) hbi).trans gc
   have hbir:bi<wr.heap.size:=by omega
   have HCK:=Lib.hid gck
   have hgg:=gsg
   clear gik ghy ghs gck
   cases hq:conB l kn [s] with
   | false =>
     clear hgg
     go_wp2_with fail
     (refine wp_region_bheld 7 (by kernel_rfl) rfl (fun hS=>?_);simp only [List.reduceReplicate,Array.replicate_succ,Array.replicate_zero])
     (refine tk_ (i:=0) (v:=?_) rfl ?_ hS ?_ (fun _ _ _ h=>h);rotate_left;focus (intro w2 hw2;(try dsimp only at hw2);obtain ⟨hc2,hf2⟩:=bcell hw2;go_simp;first | done | with_reducible rfl);(try simp only [Act.put,pu1,pu2,pu3]))
     (refine tk_ (i:=1) (v:=?_) rfl ?_ hS ?_ (fun _ _ _ h=>h);rotate_left;focus (intro w2 hw2;(try dsimp only at hw2);obtain ⟨hc2,hf2⟩:=bcell hw2;go_simp;first | done | with_reducible rfl);(try simp only [Act.put,pu1,pu2,pu3]))
     (refine tk_ (i:=2) (v:=?_) rfl ?_ hS ?_ (fun _ _ _ h=>h);rotate_left;focus (intro w2 hw2;(try dsimp only at hw2);obtain ⟨hc2,hf2⟩:=bcell hw2;go_simp;first | done | with_reducible rfl);(try simp only [Act.put,pu1,pu2,pu3]))
     (refine tk_ (i:=3) (v:=?_) rfl ?_ hS ?_ (fun _ _ _ h=>h);rotate_left;focus (intro w2 hw2;(try dsimp only at hw2);obtain ⟨hc2,hf2⟩:=bcell hw2;go_simp;first | done | with_reducible rfl);(try simp only [Act.put,pu1,pu2,pu3]))
     (refine tk_ (i:=4) (v:=?_) rfl ?_ hS ?_ (fun _ _ _ h=>h);rotate_left;focus (intro w2 hw2;(try dsimp only at hw2);obtain ⟨hc2,hf2⟩:=bcell hw2;go_simp;first | done | with_reducible rfl);(try simp only [Act.put,pu1,pu2,pu3]))
     (refine rd_ [5] ?_;refine ah1 rfl fun K hK=>?_;(go_simp);refine hK.out _ _ (hS.alloc hS.size _) (fun hS=>?_);clear hK K;(try simp only [Act.put,pu1,pu2,pu3]))
     refine rd_ [6] ?_
     refine ah1 rfl fun K hK=>?_
     (go_simp;refine (HCON.out _ [(j:Int)] [s] false _ 1 _ (Below.then_ hQ hS) (by omega) (Rd.new _ #[.int .i64 j] 3 1 1 _ (by simp) rfl) (by intro i hi;simp at hi;omega) (by simp [gsg]) hq).mono ?_;rintro e w6 ⟨rfl,hb6⟩;go_simp)
     have h6:Below wr.heap.size wr w6:=Below.then_ hS hb6
     refine hK.out _ _ h6 (fun hS=>?_)
     clear hK K
     (try simp only [Act.put,pu1,pu2,pu3])
     refine wpAnyH_done (by kernel_rfl) ?_ _
     have HN:Hid (((cntS l kn).take (k+1)).find? (fun s=>conB l kn [s])=none):=by show _=_;exact find_take0 HCK.out HFN.out hq
     clear hq hS hb6
     go_wp2_with fail
     go_roundw
     case rel=>exact ⟨k+1,by omega,by go_num,HN.out,Below.then_ hQ h6⟩
     case measure=>exact ms_
   | true =>
     go_wp2_with fail
     (refine wp_region_bheld 7 (by kernel_rfl) rfl (fun hS=>?_);simp only [List.reduceReplicate,Array.replicate_succ,Array.replicate_zero])
     (refine tk_ (i:=0) (v:=?_) rfl ?_ hS ?_ (fun _ _ _ h=>h);rotate_left;focus (intro w2 hw2;(try dsimp only at hw2);obtain ⟨hc2,hf2⟩:=bcell hw2;go_simp;first | done | with_reducible rfl);(try simp only [Act.put,pu1,pu2,pu3]))
     (refine tk_ (i:=1) (v:=?_) rfl ?_ hS ?_ (fun _ _ _ h=>h);rotate_left;focus (intro w2 hw2;(try dsimp only at hw2);obtain ⟨hc2,hf2⟩:=bcell hw2;go_simp;first | done | with_reducible rfl);(try simp only [Act.put,pu1,pu2,pu3]))
     (refine tk_ (i:=2) (v:=?_) rfl ?_ hS ?_ (fun _ _ _ h=>h);rotate_left;focus (intro w2 hw2;(try dsimp only at hw2);obtain ⟨hc2,hf2⟩:=bcell hw2;go_simp;first | done | with_reducible rfl);(try simp only [Act.put,pu1,pu2,pu3]))
     (refine tk_ (i:=3) (v:=?_) rfl ?_ hS ?_ (fun _ _ _ h=>h);rotate_left;focus (intro w2 hw2;(try dsimp only at hw2);obtain ⟨hc2,hf2⟩:=bcell hw2;go_simp;first | done | with_reducible rfl);(try simp only [Act.put,pu1,pu2,pu3]))
     (refine tk_ (i:=4) (v:=?_) rfl ?_ hS ?_ (fun _ _ _ h=>h);rotate_left;focus (intro w2 hw2;(try dsimp only at hw2);obtain ⟨hc2,hf2⟩:=bcell hw2;go_simp;first | done | with_reducible rfl);(try simp only [Act.put,pu1,pu2,pu3]))
     (refine rd_ [5] ?_;refine ah1 rfl fun K hK=>?_;(go_simp);refine hK.out _ _ (hS.alloc hS.size _) (fun hS=>?_);clear hK K;(try simp only [Act.put,pu1,pu2,pu3]))
     refine rd_ [6] ?_
     refine ah1 rfl fun K hK=>?_
     (go_simp;refine (HCON.out _ [(j:Int)] [s] true _ 1 _ (Below.then_ hQ hS) (by omega) (Rd.new _ #[.int .i64 j] 3 1 1 _ (by simp) rfl) (by intro i hi;simp at hi;omega) (by simp [gsg]) hq).mono ?_;rintro e w6 ⟨rfl,hb6⟩;go_simp)
     have h6:Below wr.heap.size wr w6:=Below.then_ hS hb6
     refine hK.out _ _ h6 (fun hS=>?_)
     clear hK K
     (try simp only [Act.put,pu1,pu2,pu3])
     refine wpAnyH_done (by kernel_rfl) ?_ _
     have hf:=find_take HCK.out HFN.out hq
     clear hq gsg hgg
     clear hS
     have Q6:=Below.then_ hQ h6
     have HB6:Below w.heap.size w w6:=HB3.trans (Q6.mono hs3)
     have hs6:=HB6.size
     have bL6:=HBL3.out.ext Q6
     have kL6:=bL6.cell
     have zL6:=bL6.lt
     have d0:=(Q6.cell (p:=⟨bi,oi+k,none⟩) hbi).trans gc
     have d1:=(HB6.cell (p:=⟨bs,os+j*7,none⟩) hbs).trans ga0
     have hbi6:bi<w6.heap.size:=by have h:=Q6.size;omega
     have hbs6:bs<w6.heap.size:=by omega
     clear kVq zVq hb6 h6
     go_wp2_with fail
     (refine wp_region_bheld 12 (by kernel_rfl) rfl (fun hS=>?_);simp only [List.reduceReplicate,Array.replicate_succ,Array.replicate_zero])
     (refine tk_ (i:=0) (v:=?_) rfl ?_ hS ?_ (fun _ _ _ h=>h);rotate_left;focus (intro w2 hw2;(try dsimp only at hw2);obtain ⟨hc2,hf2⟩:=bcell hw2;go_simp;first | done | with_reducible rfl);(try simp only [Act.put,pu1,pu2,pu3]))
     (refine tk_ (i:=1) (v:=?_) rfl ?_ hS ?_ (fun _ _ _ h=>h);rotate_left;focus (intro w2 hw2;(try dsimp only at hw2);obtain ⟨hc2,hf2⟩:=bcell hw2;go_simp;first | done | with_reducible rfl);(try simp only [Act.put,pu1,pu2,pu3]))
     (refine tk_ (i:=2) (v:=?_) rfl ?_ hS ?_ (fun _ _ _ h=>h);rotate_left;focus (intro w2 hw2;(try dsimp only at hw2);obtain ⟨hc2,hf2⟩:=bcell hw2;go_simp;first | done | with_reducible rfl);(try simp only [Act.put,pu1,pu2,pu3]))
     (refine tk_ (i:=3) (v:=?_) rfl ?_ hS ?_ (fun _ _ _ h=>h);rotate_left;focus (intro w2 hw2;(try dsimp only at hw2);obtain ⟨hc2,hf2⟩:=bcell hw2;go_simp;first | done | with_reducible rfl);(try simp only [Act.put,pu1,pu2,pu3]))
     (refine tk_ (i:=4) (v:=?_) rfl ?_ hS ?_ (fun _ _ _ h=>h);rotate_left;focus (intro w2 hw2;(try dsimp only at hw2);obtain ⟨hc2,hf2⟩:=bcell hw2;go_simp;first | done | with_reducible rfl);(try simp only [Act.put,pu1,pu2,pu3]))
     (refine tk_ (i:=5) (v:=?_) rfl ?_ hS ?_ (fun _ _ _ h=>h);rotate_left;focus (intro w2 hw2;(try dsimp only at hw2);obtain ⟨hc2,hf2⟩:=bcell hw2;go_simp;first | done | with_reducible rfl);(try simp only [Act.put,pu1,pu2,pu3]))
     (refine tk_ (i:=6) (v:=?_) rfl ?_ hS ?_ (fun _ _ _ h=>h);rotate_left;focus (intro w2 hw2;(try dsimp only at hw2);obtain ⟨hc2,hf2⟩:=bcell hw2;go_simp;first | done | with_reducible rfl);(try simp only [Act.put,pu1,pu2,pu3]))
     (refine tk_ (i:=7) (v:=?_) rfl ?_ hS ?_ (fun _ _ _ h=>h);rotate_left;focus (intro w2 hw2;(try dsimp only at hw2);obtain ⟨hc2,hf2⟩:=bcell hw2;go_simp;first | done | with_reducible rfl);(try simp only [Act.put,pu1,pu2,pu3]))
     (refine tk_ (i:=8) (v:=?_) rfl ?_ hS ?_ (fun _ _ _ h=>h);rotate_left;focus (intro w2 hw2;(try dsimp only at hw2);obtain ⟨hc2,hf2⟩:=bcell hw2;go_simp;first | done | with_reducible rfl);(try simp only [Act.put,pu1,pu2,pu3]))
     (refine rd_ [9] ?_;refine ah1 rfl fun K hK=>?_;(go_simp);refine hK.out _ _ (hS.alloc hS.size _) (fun hS=>?_);clear hK K;(try simp only [Act.put,pu1,pu2,pu3]))
     (refine tk_ (i:=10) (v:=?_) rfl ?_ hS ?_ (fun _ _ _ h=>h);rotate_left;focus (intro w2 hw2;(try dsimp only at hw2);obtain ⟨hc2,hf2⟩:=bcell hw2;go_simp;first | done | with_reducible rfl);(try simp only [Act.put,pu1,pu2,pu3]))
     (refine tk_ (i:=11) (v:=?_) rfl ?_ hS ?_ (fun _ _ _ h=>h);rotate_left;focus (intro w2 hw2;(try dsimp only at hw2);obtain ⟨hc2,hf2⟩:=bcell hw2;go_simp;first | done | with_reducible rfl);(try simp only [Act.put,pu1,pu2,pu3]))
     refine wpAnyH_done (by kernel_rfl) ?_ _
     go_wp2_with fail
     go_ret2
     rw [HR1.out s hf]
     exact ⟨_,_,_,rfl,(HB6.drew).alloc hs6 _,Rd.new _ #[.int .i64 s.src] 3 1 1 _ (by simp) rfl,Nat.le_refl _,by decide⟩
  ·have HN:Hid (r=clashR (clash2 l kn (cntS l kn))):=by
    show _=_
    refine HR2.out ?_
    have h:=HFN.out
    rwa [List.take_of_length_le (by rw [HC8.out];omega)] at h
   obtain ⟨o,ho⟩:∃ o,clash2 l kn (cntS l kn)=o:=⟨_,rfl⟩
   have HR3:Hid (r=clashR o):=by show _=_;rw [HN.out,ho]
   have HO3:=Lib.hid ho
   clear ho kVq zVq
   obtain ⟨wz,rfl⟩:∃ wz,wz=wr:=⟨_,rfl⟩
   have HQZ:=Lib.hid hQ
   clear hQ
   go_wp2_with fail
   go_loopw [10] (fun i wr=>∃ k:Nat,k≤n8∧i=.int .i64 k∧clash2 l kn ((cntS l kn).drop k)=o∧Below w3.heap.size w3 wr) (fun i _=>n8 - (intOf i).toNat)
   case atStart=>exact ⟨0,by omega,rfl,HO3.out,HQZ.out⟩
   case round =>
    obtain ⟨k,hk,rfl,hdr,hQk⟩:=hrel
    have HDR:=Lib.hid hdr
    have HQK:=Lib.hid hQk
    clear hdr
    obtain ⟨wy,rfl⟩:∃ wy,wy=wr:=⟨_,rfl⟩
    by_cases hlt:k<n8
    ·obtain ⟨j,x,gik,gsg,gck⟩:=HIX.out k hlt
     obtain ⟨bi,oi,gy,rfl,hbi,ghy,gc⟩:=HI3.out.at_ (k:=k) hlt
     obtain rfl:(j:Int)=gy:=Option.some.inj (gik.symm.trans ghy)
     have glt:j<sn:=by rw [← HSG.out.len];exact (List.getElem?_eq_some_iff.1 gsg).1
     obtain ⟨bs,os,gs,rfl,hbs,ghs,ga0,-⟩:=HSG.out.at_ glt
     obtain rfl:x=gs:=Option.some.inj (gsg.symm.trans ghs)
     have HCK:=Lib.hid gck
     have HGG:=Lib.hid gsg
     clear gik ghy ghs gck hQk gsg
     go_wp2_with fail
     go_loopw [11] (fun i wr=>∃ m:Nat,k+1≤m∧m≤n8∧i=.int .i64 m∧(((cntS l kn).drop (k+1)).take (m - (k+1))).find? (fun y=>conB l kn [x,y])=none∧Below w3.heap.size w3 wr) (fun i _=>n8 - (intOf i).toNat)
     case atStart=>exact ⟨k+1,Nat.le_refl _,by omega,by go_num,by rw [Nat.sub_self];rfl,HQK.out⟩
     case round =>
      obtain ⟨m,hkm,hm,rfl,hfn,hQ⟩:=hrel
      obtain ⟨u,hu⟩:∃ u,m - (k+1)=u:=⟨_,rfl⟩
      have hmu:m+1 - (k+1)=u+1:=by omega
      rw [hu] at hfn
      have HMU:=Lib.hid hmu
      have HU:=Lib.hid hu
      have HFN2:=Lib.hid hfn
      clear hmu hu hfn
      have bVq:=HBV3.out.ext hQ
      have kVq:=bVq.cell
      have zVq:=bVq.lt
      have hsq:=hQ.size
      clear bVq
      by_cases hml:m<n8
      ·obtain ⟨i,y,zik,zsg,zck⟩:=HIX.out m hml
       obtain ⟨zbi,zoi,zy,ze,-,zhy,zc⟩:=HI3.out.at_ (k:=m) hml
       obtain ⟨rfl,rfl⟩:bi=zbi∧oi=zoi:=by simpa using ze
       obtain rfl:(i:Int)=zy:=Option.some.inj (zik.symm.trans zhy)
       have zlt:i<sn:=by rw [← HSG.out.len];exact (List.getElem?_eq_some_iff.1 zsg).1
       obtain ⟨zbs,zos,zs,zf,-,zhs,za0,-⟩:=HSG.out.at_ zlt
       obtain ⟨rfl,rfl⟩:bs=zbs∧os=zos:=by simpa using zf
       obtain rfl:y=zs:=Option.some.inj (zsg.symm.trans zhs)
       have cy:=(hQ.cell (p:=⟨bi,oi+k,none⟩) hbi).trans gc
       have cz:=(hQ.cell (p:=⟨bi,oi+m,none⟩) hbi).trans zc
       have hbir:bi<wr.heap.size:=by omega
       have HDY:Hid (((cntS l kn).drop (k+1))[u]?=some y):=by show _=_;rw [List.getElem?_drop,show k+1+u=m from (by have h:=HU.out;omega)];exact zck
       have HRG:=Lib.hid zsg
       clear zik zhy zhs zck ze zf zsg
       cases hq:conB l kn [x,y] with
       | false =>
         go_wp2_with fail
         (refine wp_region_bheld 11 (by kernel_rfl) rfl (fun hS=>?_);simp only [List.reduceReplicate,Array.replicate_succ,Array.replicate_zero])
         (refine tk_ (i:=0) (v:=?_) rfl ?_ hS ?_ (fun _ _ _ h=>h);rotate_left;focus (intro w2 hw2;(try dsimp only at hw2);obtain ⟨hc2,hf2⟩:=bcell hw2;go_simp;first | done | with_reducible rfl);(try simp only [Act.put,pu1,pu2,pu3]))
         (refine tk_ (i:=1) (v:=?_) rfl ?_ hS ?_ (fun _ _ _ h=>h);rotate_left;focus (intro w2 hw2;(try dsimp only at hw2);obtain ⟨hc2,hf2⟩:=bcell hw2;go_simp;first | done | with_reducible rfl);(try simp only [Act.put,pu1,pu2,pu3]))
         (refine tk_ (i:=2) (v:=?_) rfl ?_ hS ?_ (fun _ _ _ h=>h);rotate_left;focus (intro w2 hw2;(try dsimp only at hw2);obtain ⟨hc2,hf2⟩:=bcell hw2;go_simp;first | done | with_reducible rfl);(try simp only [Act.put,pu1,pu2,pu3]))
         (refine tk_ (i:=3) (v:=?_) rfl ?_ hS ?_ (fun _ _ _ h=>h);rotate_left;focus (intro w2 hw2;(try dsimp only at hw2);obtain ⟨hc2,hf2⟩:=bcell hw2;go_simp;first | done | with_reducible rfl);(try simp only [Act.put,pu1,pu2,pu3]))
         (refine tk_ (i:=4) (v:=?_) rfl ?_ hS ?_ (fun _ _ _ h=>h);rotate_left;focus (intro w2 hw2;(try dsimp only at hw2);obtain ⟨hc2,hf2⟩:=bcell hw2;go_simp;first | done | with_reducible rfl);(try simp only [Act.put,pu1,pu2,pu3]))
         (refine tk_ (i:=5) (v:=?_) rfl ?_ hS ?_ (fun _ _ _ h=>h);rotate_left;focus (intro w2 hw2;(try dsimp only at hw2);obtain ⟨hc2,hf2⟩:=bcell hw2;go_simp;first | done | with_reducible rfl);(try simp only [Act.put,pu1,pu2,pu3]))
         (refine tk_ (i:=6) (v:=?_) rfl ?_ hS ?_ (fun _ _ _ h=>h);rotate_left;focus (intro w2 hw2;(try dsimp only at hw2);obtain ⟨hc2,hf2⟩:=bcell hw2;go_simp;first | done | with_reducible rfl);(try simp only [Act.put,pu1,pu2,pu3]))
         (refine tk_ (i:=7) (v:=?_) rfl ?_ hS ?_ (fun _ _ _ h=>h);rotate_left;focus (intro w2 hw2;(try dsimp only at hw2);obtain ⟨hc2,hf2⟩:=bcell hw2;go_simp;first | done | with_reducible rfl);(try simp only [Act.put,pu1,pu2,pu3]))
         (refine tk_ (i:=8) (v:=?_) rfl ?_ hS ?_ (fun _ _ _ h=>h);rotate_left;focus (intro w2 hw2;(try dsimp only at hw2);obtain ⟨hc2,hf2⟩:=bcell hw2;go_simp;first | done | with_reducible rfl);(try simp only [Act.put,pu1,pu2,pu3]))
         (refine rd_ [9] ?_;refine ah1 rfl fun K hK=>?_;(go_simp);refine hK.out _ _ (hS.alloc hS.size _) (fun hS=>?_);clear hK K;(try simp only [Act.put,pu1,pu2,pu3]))
         refine rd_ [10] ?_
         refine ah1 rfl fun K hK=>?_
         (go_simp;refine (HCON.out _ [(j:Int),(i:Int)] [x,y] false _ 2 _ (Below.then_ hQ hS) (by omega) (Rd.new _ #[.int .i64 j,.int .i64 i] 3 1 2 _ (by simp) rfl) (by intro i hi;simp at hi;omega) (by simp [HGG.out,HRG.out]) hq).mono ?_;rintro e w6 ⟨rfl,hb6⟩;go_simp)
         have h6:Below wr.heap.size wr w6:=Below.then_ hS hb6
         refine hK.out _ _ h6 (fun hS=>?_)
         clear hK K
         (try simp only [Act.put,pu1,pu2,pu3])
         refine wpAnyH_done (by kernel_rfl) ?_ _
         have HN2:Hid ((((cntS l kn).drop (k+1)).take (u+1)).find? (fun y=>conB l kn [x,y])=none):=by show _=_;exact find_take0 HDY.out HFN2.out hq
         clear hq hS hb6
         go_wp2_with fail
         go_roundw
         case rel=>exact ⟨m+1,by omega,by omega,by go_num,by rw [HMU.out];exact HN2.out,Below.then_ hQ h6⟩
         case measure=>exact ms_
       | true =>
         go_wp2_with fail
         (refine wp_region_bheld 11 (by kernel_rfl) rfl (fun hS=>?_);simp only [List.reduceReplicate,Array.replicate_succ,Array.replicate_zero])
         (refine tk_ (i:=0) (v:=?_) rfl ?_ hS ?_ (fun _ _ _ h=>h);rotate_left;focus (intro w2 hw2;(try dsimp only at hw2);obtain ⟨hc2,hf2⟩:=bcell hw2;go_simp;first | done | with_reducible rfl);(try simp only [Act.put,pu1,pu2,pu3]))
         (refine tk_ (i:=1) (v:=?_) rfl ?_ hS ?_ (fun _ _ _ h=>h);rotate_left;focus (intro w2 hw2;(try dsimp only at hw2);obtain ⟨hc2,hf2⟩:=bcell hw2;go_simp;first | done | with_reducible rfl);(try simp only [Act.put,pu1,pu2,pu3]))
         (refine tk_ (i:=2) (v:=?_) rfl ?_ hS ?_ (fun _ _ _ h=>h);rotate_left;focus (intro w2 hw2;(try dsimp only at hw2);obtain ⟨hc2,hf2⟩:=bcell hw2;go_simp;first | done | with_reducible rfl);(try simp only [Act.put,pu1,pu2,pu3]))
         (refine tk_ (i:=3) (v:=?_) rfl ?_ hS ?_ (fun _ _ _ h=>h);rotate_left;focus (intro w2 hw2;(try dsimp only at hw2);obtain ⟨hc2,hf2⟩:=bcell hw2;go_simp;first | done | with_reducible rfl);(try simp only [Act.put,pu1,pu2,pu3]))
         (refine tk_ (i:=4) (v:=?_) rfl ?_ hS ?_ (fun _ _ _ h=>h);rotate_left;focus (intro w2 hw2;(try dsimp only at hw2);obtain ⟨hc2,hf2⟩:=bcell hw2;go_simp;first | done | with_reducible rfl);(try simp only [Act.put,pu1,pu2,pu3]))
         (refine tk_ (i:=5) (v:=?_) rfl ?_ hS ?_ (fun _ _ _ h=>h);rotate_left;focus (intro w2 hw2;(try dsimp only at hw2);obtain ⟨hc2,hf2⟩:=bcell hw2;go_simp;first | done | with_reducible rfl);(try simp only [Act.put,pu1,pu2,pu3]))
         (refine tk_ (i:=6) (v:=?_) rfl ?_ hS ?_ (fun _ _ _ h=>h);rotate_left;focus (intro w2 hw2;(try dsimp only at hw2);obtain ⟨hc2,hf2⟩:=bcell hw2;go_simp;first | done | with_reducible rfl);(try simp only [Act.put,pu1,pu2,pu3]))
         (refine tk_ (i:=7) (v:=?_) rfl ?_ hS ?_ (fun _ _ _ h=>h);rotate_left;focus (intro w2 hw2;(try dsimp only at hw2);obtain ⟨hc2,hf2⟩:=bcell hw2;go_simp;first | done | with_reducible rfl);(try simp only [Act.put,pu1,pu2,pu3]))
         (refine tk_ (i:=8) (v:=?_) rfl ?_ hS ?_ (fun _ _ _ h=>h);rotate_left;focus (intro w2 hw2;(try dsimp only at hw2);obtain ⟨hc2,hf2⟩:=bcell hw2;go_simp;first | done | with_reducible rfl);(try simp only [Act.put,pu1,pu2,pu3]))
         (refine rd_ [9] ?_;refine ah1 rfl fun K hK=>?_;(go_simp);refine hK.out _ _ (hS.alloc hS.size _) (fun hS=>?_);clear hK K;(try simp only [Act.put,pu1,pu2,pu3]))
         refine rd_ [10] ?_
         refine ah1 rfl fun K hK=>?_
         (go_simp;refine (HCON.out _ [(j:Int),(i:Int)] [x,y] true _ 2 _ (Below.then_ hQ hS) (by omega) (Rd.new _ #[.int .i64 j,.int .i64 i] 3 1 2 _ (by simp) rfl) (by intro i hi;simp at hi;omega) (by simp [HGG.out,HRG.out]) hq).mono ?_;rintro e w6 ⟨rfl,hb6⟩;go_simp)
         have h6:Below wr.heap.size wr w6:=Below.then_ hS hb6
         refine hK.out _ _ h6 (fun hS=>?_)
         clear hK K
         (try simp only [Act.put,pu1,pu2,pu3])
         refine wpAnyH_done (by kernel_rfl) ?_ _
         have hf:=find_take HDY.out HFN2.out hq
         have hoo:=clash2_some HCK.out hf HDR.out
         subst hoo
         clear hq hf
         clear hS
         have Q6:=Below.then_ hQ h6
         have HB6:Below w.heap.size w w6:=HB3.trans (Q6.mono hs3)
         have hs6:=HB6.size
         have bL6:=HBL3.out.ext Q6
         have kL6:=bL6.cell
         have zL6:=bL6.lt
         have d0:=(Q6.cell (p:=⟨bi,oi+k,none⟩) hbi).trans gc
         have d1:=(HB6.cell (p:=⟨bs,os+j*7,none⟩) hbs).trans ga0
         have d2:=(Q6.cell (p:=⟨bi,oi+m,none⟩) hbi).trans zc
         have d3:=(HB6.cell (p:=⟨bs,os+i*7,none⟩) hbs).trans za0
         have hbi6:bi<w6.heap.size:=by have h:=Q6.size;omega
         have hbs6:bs<w6.heap.size:=by omega
         clear kVq zVq hb6 h6
         go_wp2_with fail
         (refine wp_region_bheld 21 (by kernel_rfl) rfl (fun hS=>?_);simp only [List.reduceReplicate,Array.replicate_succ,Array.replicate_zero])
         (refine tk_ (i:=0) (v:=?_) rfl ?_ hS ?_ (fun _ _ _ h=>h);rotate_left;focus (intro w2 hw2;(try dsimp only at hw2);obtain ⟨hc2,hf2⟩:=bcell hw2;go_simp;first | done | with_reducible rfl);(try simp only [Act.put,pu1,pu2,pu3]))
         (refine tk_ (i:=1) (v:=?_) rfl ?_ hS ?_ (fun _ _ _ h=>h);rotate_left;focus (intro w2 hw2;(try dsimp only at hw2);obtain ⟨hc2,hf2⟩:=bcell hw2;go_simp;first | done | with_reducible rfl);(try simp only [Act.put,pu1,pu2,pu3]))
         (refine tk_ (i:=2) (v:=?_) rfl ?_ hS ?_ (fun _ _ _ h=>h);rotate_left;focus (intro w2 hw2;(try dsimp only at hw2);obtain ⟨hc2,hf2⟩:=bcell hw2;go_simp;first | done | with_reducible rfl);(try simp only [Act.put,pu1,pu2,pu3]))
         (refine tk_ (i:=3) (v:=?_) rfl ?_ hS ?_ (fun _ _ _ h=>h);rotate_left;focus (intro w2 hw2;(try dsimp only at hw2);obtain ⟨hc2,hf2⟩:=bcell hw2;go_simp;first | done | with_reducible rfl);(try simp only [Act.put,pu1,pu2,pu3]))
         (refine tk_ (i:=4) (v:=?_) rfl ?_ hS ?_ (fun _ _ _ h=>h);rotate_left;focus (intro w2 hw2;(try dsimp only at hw2);obtain ⟨hc2,hf2⟩:=bcell hw2;go_simp;first | done | with_reducible rfl);(try simp only [Act.put,pu1,pu2,pu3]))
         (refine tk_ (i:=5) (v:=?_) rfl ?_ hS ?_ (fun _ _ _ h=>h);rotate_left;focus (intro w2 hw2;(try dsimp only at hw2);obtain ⟨hc2,hf2⟩:=bcell hw2;go_simp;first | done | with_reducible rfl);(try simp only [Act.put,pu1,pu2,pu3]))
         (refine tk_ (i:=6) (v:=?_) rfl ?_ hS ?_ (fun _ _ _ h=>h);rotate_left;focus (intro w2 hw2;(try dsimp only at hw2);obtain ⟨hc2,hf2⟩:=bcell hw2;go_simp;first | done | with_reducible rfl);(try simp only [Act.put,pu1,pu2,pu3]))
         (refine tk_ (i:=7) (v:=?_) rfl ?_ hS ?_ (fun _ _ _ h=>h);rotate_left;focus (intro w2 hw2;(try dsimp only at hw2);obtain ⟨hc2,hf2⟩:=bcell hw2;go_simp;first | done | with_reducible rfl);(try simp only [Act.put,pu1,pu2,pu3]))
         (refine tk_ (i:=8) (v:=?_) rfl ?_ hS ?_ (fun _ _ _ h=>h);rotate_left;focus (intro w2 hw2;(try dsimp only at hw2);obtain ⟨hc2,hf2⟩:=bcell hw2;go_simp;first | done | with_reducible rfl);(try simp only [Act.put,pu1,pu2,pu3]))
         (refine tk_ (i:=9) (v:=?_) rfl ?_ hS ?_ (fun _ _ _ h=>h);rotate_left;focus (intro w2 hw2;(try dsimp only at hw2);obtain ⟨hc2,hf2⟩:=bcell hw2;go_simp;first | done | with_reducible rfl);(try simp only [Act.put,pu1,pu2,pu3]))
         (refine tk_ (i:=10) (v:=?_) rfl ?_ hS ?_ (fun _ _ _ h=>h);rotate_left;focus (intro w2 hw2;(try dsimp only at hw2);obtain ⟨hc2,hf2⟩:=bcell hw2;go_simp;first | done | with_reducible rfl);(try simp only [Act.put,pu1,pu2,pu3]))
         (refine tk_ (i:=11) (v:=?_) rfl ?_ hS ?_ (fun _ _ _ h=>h);rotate_left;focus (intro w2 hw2;(try dsimp only at hw2);obtain ⟨hc2,hf2⟩:=bcell hw2;go_simp;first | done | with_reducible rfl);(try simp only [Act.put,pu1,pu2,pu3]))
         (refine tk_ (i:=12) (v:=?_) rfl ?_ hS ?_ (fun _ _ _ h=>h);rotate_left;focus (intro w2 hw2;(try dsimp only at hw2);obtain ⟨hc2,hf2⟩:=bcell hw2;go_simp;first | done | with_reducible rfl);(try simp only [Act.put,pu1,pu2,pu3]))
         (refine tk_ (i:=13) (v:=?_) rfl ?_ hS ?_ (fun _ _ _ h=>h);rotate_left;focus (intro w2 hw2;(try dsimp only at hw2);obtain ⟨hc2,hf2⟩:=bcell hw2;go_simp;first | done | with_reducible rfl);(try simp only [Act.put,pu1,pu2,pu3]))
         (refine tk_ (i:=14) (v:=?_) rfl ?_ hS ?_ (fun _ _ _ h=>h);rotate_left;focus (intro w2 hw2;(try dsimp only at hw2);obtain ⟨hc2,hf2⟩:=bcell hw2;go_simp;first | done | with_reducible rfl);(try simp only [Act.put,pu1,pu2,pu3]))
         (refine tk_ (i:=15) (v:=?_) rfl ?_ hS ?_ (fun _ _ _ h=>h);rotate_left;focus (intro w2 hw2;(try dsimp only at hw2);obtain ⟨hc2,hf2⟩:=bcell hw2;go_simp;first | done | with_reducible rfl);(try simp only [Act.put,pu1,pu2,pu3]))
         (refine tk_ (i:=16) (v:=?_) rfl ?_ hS ?_ (fun _ _ _ h=>h);rotate_left;focus (intro w2 hw2;(try dsimp only at hw2);obtain ⟨hc2,hf2⟩:=bcell hw2;go_simp;first | done | with_reducible rfl);(try simp only [Act.put,pu1,pu2,pu3]))
         (refine tk_ (i:=17) (v:=?_) rfl ?_ hS ?_ (fun _ _ _ h=>h);rotate_left;focus (intro w2 hw2;(try dsimp only at hw2);obtain ⟨hc2,hf2⟩:=bcell hw2;go_simp;first | done | with_reducible rfl);(try simp only [Act.put,pu1,pu2,pu3]))
         (refine rd_ [18] ?_;refine ah1 rfl fun K hK=>?_;(go_simp);refine hK.out _ _ (hS.alloc hS.size _) (fun hS=>?_);clear hK K;(try simp only [Act.put,pu1,pu2,pu3]))
         (refine tk_ (i:=19) (v:=?_) rfl ?_ hS ?_ (fun _ _ _ h=>h);rotate_left;focus (intro w2 hw2;(try dsimp only at hw2);obtain ⟨hc2,hf2⟩:=bcell hw2;go_simp;first | done | with_reducible rfl);(try simp only [Act.put,pu1,pu2,pu3]))
         (refine tk_ (i:=20) (v:=?_) rfl ?_ hS ?_ (fun _ _ _ h=>h);rotate_left;focus (intro w2 hw2;(try dsimp only at hw2);obtain ⟨hc2,hf2⟩:=bcell hw2;go_simp;first | done | with_reducible rfl);(try simp only [Act.put,pu1,pu2,pu3]))
         refine wpAnyH_done (by kernel_rfl) ?_ _
         go_wp2_with fail
         go_ret2
         rw [HR3.out]
         exact ⟨_,_,_,rfl,(HB6.drew).alloc hs6 _,Rd.new _ #[.int .i64 x.src,.int .i64 y.src] 3 1 2 _ (by simp) rfl,Nat.le_refl _,by decide⟩
      ·have hf:((cntS l kn).drop (k+1)).find? (fun y=>conB l kn [x,y])=none:=by
        have h:=HFN2.out
        rwa [List.take_of_length_le (by rw [List.length_drop,HC8.out];have h:=HU.out;omega)] at h
       have HN2:=Lib.hid (clash2_none HCK.out hf HDR.out)
       clear hf kVq zVq
       go_wp2_with fail
       go_roundw
       case rel=>exact ⟨k+1,by omega,by go_num,HN2.out,hQ⟩
       case measure=>exact ms_
    ·have hoo:o=none:=by
      have h:=HDR.out
      rw [List.drop_eq_nil_of_le (by rw [HC8.out];omega)] at h
      exact h.symm
     subst hoo
     have HB4:=HB3.trans (hQk.mono hs3)
     go_wp2_with fail
     go_ret2
     rw [HR3.out]
     exact RetLE.err HB4
end Go.Proofs.YtoiompoapikkbaaGreat
/- Layer 2, the reference: CheckClash. -/
namespace Go.Proofs.YtoiompoapikkbaaGreat
open Go.RowKit Go.Maps
theorem rise_snoc {bs:List Int} {k:Nat} {p b:Int} (hp:(bs.take (k+1)).Pairwise (·<·)) (hk:bs[k]?=some p) (hlt:p<b):∀ x∈bs.take (k+1),x<b:=by
 rw [take_snoc_some hk] at hp ⊢
 rw [List.pairwise_append] at hp
 intro x hx
 rcases List.mem_append.1 hx with hx | hx
 ·have h:=hp.2.2 x hx p (List.mem_singleton.2 rfl)
  omega
 ·rw [List.mem_singleton.1 hx]
  exact hlt
theorem rise_add {bs:List Int} {k:Nat} {b:Int} (hp:(bs.take k).Pairwise (·<·)) (hk:bs[k]?=some b) (h:∀ x∈bs.take k,x<b):(bs.take (k+1)).Pairwise (·<·):=by
 rw [take_snoc_some hk,List.pairwise_append]
 exact ⟨hp,List.pairwise_singleton _ _,fun x hx y hy=>by rw [List.mem_singleton.1 hy];exact h x hx⟩
theorem erase_map {α β:Type} (f:α→β):∀ (l:List α) (k:Nat),(l.eraseIdx k).map f=(l.map f).eraseIdx k
 | [],k=>by simp
 | x :: l,0=>by simp
 | x :: l,k+1=>by simp [erase_map f l k]
theorem erase_step {α:Type} {l:List α} {q k:Nat} {x:α} (h:l[q]?=some x):(l.take (q+1)).eraseIdx k=if q=k then (l.take q).eraseIdx k else (l.take q).eraseIdx k ++ [x]:=by
 have hl:q<l.length:=(List.getElem?_eq_some_iff.1 h).1
 have hq:(l.take q).length=q:=by rw [List.length_take];omega
 rw [take_snoc_some h]
 by_cases hk:k<q
 ·rw [if_neg (by omega),List.eraseIdx_append_of_lt_length (by rw [hq];exact hk)]
 ·by_cases he:q=k
  ·subst he
   rw [if_pos rfl,List.eraseIdx_append_of_length_le (by rw [hq];exact Nat.le_refl _),hq,Nat.sub_self,List.eraseIdx_of_length_le (l:=l.take q) (by rw [hq];exact Nat.le_refl _)]
   simp
  ·rw [if_neg he,List.eraseIdx_append_of_length_le (by rw [hq];omega),hq,List.eraseIdx_of_length_le (l:=[x]) (by simp;omega),List.eraseIdx_of_length_le (l:=l.take q) (by rw [hq];omega)]
theorem erase_len {α:Type} (l:List α) (k:Nat):(l.eraseIdx k).length≤l.length:=by
 rw [List.length_eraseIdx]
 split <;> omega
theorem cc_no {l:Led} {kn:Int} {bs:List Int} (hl:ledB l=true) (hv:preE l [kn]=0) (ho:dblR (opnL l kn).M (opnL l kn).P (cntR l kn)=none) (h:bs.Pairwise (·<·)→(∀ b∈bs,b∈(cntS l kn).map Sgt.src)→False):ccE l kn bs=28:=by
 rw [ccE,if_pos hv,ho]
 dsimp only
 rw [if_neg (fun hlen=>by
  obtain ⟨h1,h2⟩:=(find_iff (cnt_rise hl kn) bs).1 hlen
  exact h h1 h2)]
theorem cc_yes {l:Led} {kn:Int} {bs:List Int} {fs:List Sgt} (hl:ledB l=true) (hv:preE l [kn]=0) (ho:dblR (opnL l kn).M (opnL l kn).P (cntR l kn)=none) (hm:fs.map Sgt.src=bs) (hf:∀ s∈fs,s∈cntS l kn) (hb:bs.Pairwise (·<·)):ccE l kn bs=ccL l kn fs:=by
 have he:=find_eq (cnt_rise hl kn) hm hf hb
 rw [ccE,if_pos hv,ho]
 dsimp only
 rw [if_pos (by rw [he,← hm,List.length_map]),he]
set_option maxRecDepth 10000 in
set_option maxHeartbeats 8000000 in
theorem r_CheckClash (l:Led) (x:Lsl) (kn:Int) (bs:List Int) (D:Option Addr) (m c:Nat) (w:World) (hf:x.fit) (hd:LedIn w w.heap.size x l) (hm:m≤9223372036854775807) (hby:Is w w.heap.size D m bs) :
 Calls Tryz.prog 33 #[.agg #[.slice x.pA x.pn x.pc,.slice x.rA x.rn x.rc,.slice x.tA x.tn x.tc,.slice x.sA x.sn x.sc],.int .i64 kn,.slice D m c] w fun e w'=>e=.returned (.int .i64 (ccE l kn bs))∧Below w.heap.size w w':=by
 obtain ⟨pA,pn,pc,rA,rn,rc,tA,tn,tc,sA,sn,sc⟩:=x
 have HD:=Lib.hid hd
 have HF:=Lib.hid hf
 have HBY:=Lib.hid hby
 clear hd hf hby
 obtain ⟨v,hv⟩:∃ v,preE l [kn]=v:=⟨_,rfl⟩
 have HV:=Lib.hid hv
 by_cases hv0:v=0
 rotate_left
 ·have hres:ccE l kn bs=v:=by rw [ccE,if_neg (by rw [hv];exact hv0),hv]
  rw [hres]
  have hv1:(v != 0)=true:=by simpa using hv0
  have HV0:Hid (¬ v=0):=by show ¬ _;exact hv0
  clear hres hv hv0
  go_enter Tryz.func33,Tryz.ntmps33
  go_wp2_with (go_at_call 109;refine (r_agreeingP l ⟨pA,pn,pc,rA,rn,rc,tA,tn,tc,sA,sn,sc⟩ kn v _ HF.out (HD.out.now (by exact bel_)) HV.out HV0.out).mono ?_;rintro e w2 ⟨rfl,hb2⟩;have HB2:Below w.heap.size w w2:=Below.then_ (by exact bel_) hb2;have hs2:=HB2.size)
  go_ret
  exact ⟨rfl,by exact bel_⟩
 subst hv0
 have hlb:=(pre_zero hv).1
 cases ho:firstP (refD l (tellK l kn l.rt.length) kn) l.rc with
 | some q =>
   have hres:ccE l kn bs=25:=by rw [ccE,if_pos hv,dbl_first hlb,ho]
   rw [hres]
   have HO:=Lib.hid ho
   clear hres ho hv hlb
   go_enter Tryz.func33,Tryz.ntmps33
   go_wp2_with (go_at_call 109;refine (r_agreeingD l ⟨pA,pn,pc,rA,rn,rc,tA,tn,tc,sA,sn,sc⟩ kn q _ HF.out (HD.out.now (by exact bel_)) HV.out HO.out).mono ?_;rintro e w2 ⟨rfl,hb2⟩;have HB2:Below w.heap.size w w2:=Below.then_ (by exact bel_) hb2;have hs2:=HB2.size)
   go_ret
   exact ⟨rfl,by exact bel_⟩
 | none =>
 obtain ⟨z,hres⟩:∃ z,ccE l kn bs=z:=⟨_,rfl⟩
 rw [hres]
 have HNO:Hid ((bs.Pairwise (·<·)→(∀ b∈bs,b∈(cntS l kn).map Sgt.src)→False)→z=28):=by show _→_;intro h;rw [← hres];exact cc_no hlb hv (by rw [dbl_first hlb];exact ho) h
 have HYES:Hid (∀ fs:List Sgt,fs.map Sgt.src=bs→(∀ s∈fs,s∈cntS l kn)→bs.Pairwise (·<·)→z=ccL l kn fs):=by show ∀ _,_;intro fs h1 h2 h3;rw [← hres];exact cc_yes hlb hv (by rw [dbl_first hlb];exact ho) h1 h2 h3
 have HO:=Lib.hid ho
 have HLB:=Lib.hid hlb
 have hsn6:sn≤1000000:=by have h:=HD.out.s.len;have h2:=(led_ok hlb).sn;dsimp only at h;omega
 have HSG:Hid (Sgs w w.heap.size sA sn l.sg):=by show Sq _ _ _ _ _ _ _;exact HD.out.s
 have HBL:Hid (bs.length=m):=by show _=_;exact HBY.out.len
 obtain ⟨n8,h8⟩:∃ n8,(sgN l.sg kn l.sg.length).length=n8:=⟨_,rfl⟩
 have H8:=Lib.hid h8
 have hn8:n8≤60:=by have h1:=sgN_len l.sg kn l.sg.length;have h2:=(led_ok hlb).sn;omega
 have HC8:Hid ((cntS l kn).length=n8):=by show _=_;have h:=congrArg List.length (sgN_cnt l kn);simp only [List.length_map] at h;rw [← h8,h]
 obtain ⟨i0,hi,hz0,hz1,hz2⟩:=info_parts infoI2
 clear hres ho hv hlb
 go_enter Tryz.func33,Tryz.ntmps33
 go_wp2_with (first | (go_at_call 109;refine (r_agreeing0 l ⟨pA,pn,pc,rA,rn,rc,tA,tn,tc,sA,sn,sc⟩ kn _ HF.out (HD.out.now (by exact bel_)) HV.out HO.out).mono ?_;rintro e w2 ⟨B,Tc,rfl,hb2,hT,hBB⟩;have HB2:Below w.heap.size w w2:=Below.then_ (by exact bel_) hb2;have hs2:=HB2.size;have bL2:=(BoxA.new w 27 #[.slice pA pn pc,.slice rA rn rc,.slice tA tn tc,.slice sA sn sc]).ext hb2;have HBL2:=Lib.hid bL2;have zT:=hT.lt;have HT:=Lib.hid hT;clear hT hb2 bL2 hBB) | (go_at_call 110;refine (r_sights l ⟨⟨pA,pn,pc,rA,rn,rc,tA,tn,tc,sA,sn,sc⟩,kn,some ⟨B,0,none⟩,tn,Tc,none,0,0⟩ _ hsn6 (HD.out.now (by exact bel_))).mono ?_;rintro e w3 ⟨v3,rfl,hb3,ho3⟩;obtain ⟨A8,c8,rfl,hcc8⟩:=own_slice ho3;have HB3:Below w.heap.size w w3:=Below.then_ (by exact bel_) hb3;have hs3:=HB3.size;have bV3:=(BoxA.new w2 127 #[.slice pA pn pc,.slice rA rn rc,.slice tA tn tc,.slice sA sn sc,.int .i64 kn,.slice (some ⟨B,0,none⟩) tn Tc,.slice none 0 0]).ext hb3;have bL3:=(HBL2.out.alloc _).ext hb3;have HBV3:=Lib.hid bV3;have HBL3:=Lib.hid bL3;have HT3:=Lib.hid ((HT.out.alloc (.cells #[.slice pA pn pc,.slice rA rn rc,.slice tA tn tc,.slice sA sn sc,.int .i64 kn,.slice (some ⟨B,0,none⟩) tn Tc,.slice none 0 0] 127)).ext hb3);have hi3:Is w3 w3.heap.size A8 (sgN l.sg kn l.sg.length).length (sgN l.sg kn l.sg.length):=Rd.of_own ho3;have HI3:=Lib.hid hi3;clear hb3 ho3 bV3 bL3 hi3))
 have HCON:Hid (∀ (W:World) (I:List Int) (S:List Sgt) (q:Bool) (A:Option Addr) (m c:Nat),Below w3.heap.size w3 W→m≤1000000→Is W W.heap.size A m I→(∀ i∈I,0≤i)→I.map (fun i=>l.sg[i.toNat]?)=S.map some→conB l kn S=q→Calls Tryz.prog 111 #[.agg #[.slice pA pn pc,.slice rA rn rc,.slice tA tn tc,.slice sA sn sc,.int .i64 kn,.slice (some ⟨B,0,none⟩) tn Tc,.slice none 0 0],.slice A m c] W fun e w'=>e=.returned (.bool q)∧Below W.heap.size W w'):=by
  show ∀ _,_
  intro W I S q A m c hW hm hI h0 hIS hq
  exact r_contradict l ⟨⟨pA,pn,pc,rA,rn,rc,tA,tn,tc,sA,sn,sc⟩,kn,some ⟨B,0,none⟩,tn,Tc,none,0,0⟩ I S q A m c W HLB.out rfl (HD.out.now (HB3.trans (hW.mono hs3))) ((HT3.out.ext hW).sqT (by rw [tellK_len];exact HD.out.t.len) (HT3.out.ext hW).lt) hm hI h0 hIS hq
 have HIX:Hid (∀ k,k<n8→∃ (j:Nat) (s:Sgt),(sgN l.sg kn l.sg.length)[k]?=some (j:Int)∧l.sg[j]?=some s∧(cntS l kn)[k]?=some s):=by
  show ∀ _,_
  intro k hk
  exact idx_at (sgN_pos _ _ _) (sgN_cnt l kn) k (by rw [h8];exact hk)
 have hi3:=HI3.out
 rw [h8] at hi3
 have HI3:=Lib.hid hi3
 clear hi3
 (try simp only [h8])
 clear h8
 have HBY3:Hid (Is w3 w3.heap.size D m bs):=by show Is _ _ _ _ _;exact HBY.out.now HB3
 have HSG3:Hid (Sgs w3 w3.heap.size sA sn l.sg):=by show Sq _ _ _ _ _ _ _;exact HSG.out.now abS HB3
 go_wp2_with fail
 go_loopw [10,11] (fun u i wr=>∃ (k:Nat) (J:List Int) (fs:List Sgt),k≤m∧i=.int .i64 k∧J.length=k∧(∀ i∈J,0≤i)∧J.map (fun i=>l.sg[i.toNat]?)=fs.map some∧(∀ s∈fs,s∈cntS l kn)∧fs.map Sgt.src=bs.take k∧(bs.take k).Pairwise (·<·)∧wr.ownsRow w3.heap.size 3 1 u k (intL J)∧Below w3.heap.size w3 wr) (fun _ i _=>m - (intOf i).toNat)
 case atStart=>exact ⟨0,[],[],by omega,rfl,rfl,by simp,rfl,by simp,rfl,List.Pairwise.nil,World.ownsRow_nil _ _ _ _,Below.refl _ _⟩
 case round =>
  obtain ⟨k,J,fs,hk,rfl,hJl,hJ0,hJS,hfC,hfb,hri,hown,hQ⟩:=hrel
  have HJL:=Lib.hid hJl
  have HJ0:=Lib.hid hJ0
  have HJS:=Lib.hid hJS
  have HFC:=Lib.hid hfC
  have HFB:=Lib.hid hfb
  have HRI:=Lib.hid hri
  have HOW:=Lib.hid hown
  have hsq:=hQ.size
  have hk60:k≤60:=by
   have h1:=grd_all (cntS l kn) (bs.take k) (cnt_rise HLB.out kn) hri (fun y hy=>by rw [← hfb] at hy;obtain ⟨s,hs,rfl⟩:=List.mem_map.1 hy;exact List.mem_map.2 ⟨s,hfC s hs,rfl⟩)
   have h2:=(grd_sub (cntS l kn) (bs.take k)).length_le
   rw [h1,List.length_take,HBL.out,HC8.out] at h2
   omega
  clear hJl hJ0 hJS hfC hfb hri
  obtain ⟨wz,rfl⟩:∃ wz,wz=wr:=⟨_,rfl⟩
  by_cases hlt:k<m
  ·obtain ⟨bd,od,b,rfl,hbd,hb,hcb⟩:=HBY3.out.at_ hlt
   have HB:=Lib.hid hb
   have HQZ:=Lib.hid hQ
   clear hb hown
   go_wp2_with fail
   go_loopw [12,13] (fun f i wr=>∃ (q:Nat) (n:Int),q≤n8∧i=.int .i64 q∧f=.int .i64 n∧((n=-1∧∀ s∈(cntS l kn).take q,s.src≠b)∨∃ (j:Nat) (s:Sgt),n=(j:Int)∧l.sg[j]?=some s∧s∈cntS l kn∧s.src=b)∧Below wz.heap.size wz wr) (fun _ i _=>n8 - (intOf i).toNat)
   case atStart=>exact ⟨0,-1,by omega,rfl,rfl,.inl ⟨rfl,by simp⟩,Below.refl _ _⟩
   case round =>
    obtain ⟨q,n,hq,rfl,rfl,hor,hZ⟩:=hrel
    have HOR:=Lib.hid hor
    clear hor
    have hQw:Below w3.heap.size w3 wr:=HQZ.out.trans (hZ.mono hsq)
    have hsw:=hQw.size
    have bLw:=HBL3.out.ext hQw
    have kLw:=bLw.cell
    have zLw:=bLw.lt
    clear bLw
    by_cases hqn:q<n8
    ·obtain ⟨j,s,gik,gsg,gck⟩:=HIX.out q hqn
     obtain ⟨bi,oi,gy,rfl,hbi,ghy,gc⟩:=HI3.out.at_ (k:=q) hqn
     obtain rfl:(j:Int)=gy:=Option.some.inj (gik.symm.trans ghy)
     have glt:j<sn:=by rw [← HSG3.out.len];exact (List.getElem?_eq_some_iff.1 gsg).1
     obtain ⟨bs2,os2,gs,rfl,hbs2,ghs,ga0,-⟩:=HSG3.out.at_ glt
     obtain rfl:s=gs:=Option.some.inj (gsg.symm.trans ghs)
     have c0:=(hQw.cell (p:=⟨bi,oi+q,none⟩) hbi).trans gc
     have c1:=(hQw.cell (p:=⟨bs2,os2+j*7,none⟩) hbs2).trans ga0
     have c2:=(hQw.cell (p:=⟨bd,od+k,none⟩) hbd).trans hcb
     have hbir:bi<wr.heap.size:=by omega
     have hbsr:bs2<wr.heap.size:=by omega
     have hbdr:bd<wr.heap.size:=by omega
     have HGS:=Lib.hid gsg
     have HGC:=Lib.hid gck
     clear gik gsg gck ghy gc ghs ga0
     by_cases he:s.src=b
     ·have hed:(s.src == b)=true:=by simpa using he
      have HE:=Lib.hid he
      clear he
      go_wp2_with fail
      (refine rg_ ?_;(repeat (go_big_quiet_step (fail)));refine qn_ fun w1 hb1 hc1 hf1=>?_)
      have hs1:=hb1.size
      have hbi1:bi<w1.heap.size:=by omega
      clear c1 c2 kLw zLw
      go_wp2_with fail
      go_roundw
      case rel=>exact ⟨q+1,(j:Int),by omega,by go_num,rfl,.inr ⟨j,s,rfl,HGS.out,List.mem_of_getElem? HGC.out,HE.out⟩,Below.then_ hZ hb1⟩
      case measure=>exact ms_
     ·have hed:(s.src == b)=false:=by simpa using he
      have HN:Hid ((n=-1∧∀ s∈(cntS l kn).take (q+1),s.src≠b)∨∃ (j:Nat) (s:Sgt),n=(j:Int)∧l.sg[j]?=some s∧s∈cntS l kn∧s.src=b):=by
       show _∨_
       rcases HOR.out with ⟨h1,h2⟩ | h
       ·refine .inl ⟨h1,fun t ht=>?_⟩
        rw [take_snoc_some HGC.out] at ht
        rcases List.mem_append.1 ht with ht | ht
        ·exact h2 t ht
        ·rw [List.mem_singleton.1 ht];exact he
       ·exact .inr h
      clear he
      go_wp2_with fail
      (refine rg_ ?_;(repeat (go_big_quiet_step (fail)));refine qn_ fun w1 hb1 hc1 hf1=>?_)
      go_wp2_with fail
      go_roundw
      case rel=>exact ⟨q+1,n,by omega,by go_num,rfl,HN.out,Below.then_ hZ hb1⟩
      case measure=>exact ms_
    ·have hqe:q=n8:=by omega
     have hB4:Below w.heap.size w wr:=HB3.trans (hQw.mono hs3)
     have c2:=(hQw.cell (p:=⟨bd,od+k,none⟩) hbd).trans hcb
     have hbdr:bd<wr.heap.size:=by omega
     rcases HOR.out with ⟨hn,hno⟩ | ⟨j,s,hn,hsj,hsC,hsb⟩
     ·subst hn
      have hz28:=HNO.out (fun _ h2=>by
       obtain ⟨t,ht,hts⟩:=List.mem_map.1 (h2 b (List.mem_of_getElem? HB.out))
       refine hno t ?_ hts
       rw [hqe,List.take_of_length_le (by rw [HC8.out];exact Nat.le_refl _)]
       exact ht)
      subst hz28
      have hneg:decide ((-1:Int)<0)=true:=by decide
      clear hno
      go_wp2_with fail
      (refine rg_ ?_;(repeat (go_big_quiet_step (fail)));refine qn_ fun w1 hb1 hc1 hf1=>?_)
      go_wp2_with fail
      go_ret
      exact ⟨rfl,Below.then_ hB4 hb1⟩
     ·subst hn
      have hpj:decide ((j:Int)<0)=false:=by simp
      have HSJ:=Lib.hid hsj
      have HSC:=Lib.hid hsC
      have HSB:=Lib.hid hsb
      clear hsj hsC hsb hqe
      by_cases hk0:k=0
      ·subst hk0
       have hrise:(bs.take (0+1)).Pairwise (·<·):=rise_add HRI.out HB.out (by simp)
       have HRI2:=Lib.hid hrise
       clear hrise
       have hk0d:decide ((0:Int)>0)=false:=by decide
       have hk0e:decide (((0:Nat):Int)>0)=false:=by decide
       go_wp2_with fail
       (refine rg_ ?_;(repeat (go_big_quiet_step (fail)));refine qn_ fun w1 hb1 hc1 hf1=>?_)
       obtain ⟨wx,rfl⟩:∃ wx,wx=w1:=⟨_,rfl⟩
       have hZ1:=Below.then_ hZ hb1
       have hO1:=own_ext HOW.out hZ1
       have HO1:=Lib.hid hO1
       have hsx:=hZ1.size
       have hQ1:Below w3.heap.size w3 wx:=HQZ.out.trans (hZ1.mono hsq)
       have hsx3:=hQ1.size
       clear hb1 hc1 hf1 hO1
       go_wp2_with (at_builtin;refine wpList_append_own _ rfl (.tmp 76) (.tmp 78) 30 rfl w3.heap.size 3 i0 _ 1 8 Tryz.underlying30 hi hz0 hz1 hz2 rfl (by decide) _ _ _ rfl (HO1.out.alloc (.cells #[.int .i64 j] 3)) ⟨wx.heap.size,0,none⟩ 1 1 [.int .i64 j] rfl rfl ?c1 ?c2 ?c3 ?c4 ?c5 ?_;rotate_left 5;intro v' w2 hown2 hgrow2 _)
       case c1=>intro j2 u2 hj2;match j2,hj2 with
        | 0,hj2=>simp at hj2;subst hj2;simp [Addr.add]
        | j2+1,hj2=>simp at hj2
       case c2=>simp [Value.oneCell']
       case c3=>unfold maxLen;omega
       case c4=>omega
       case c5=>first | omega | (simp;omega)
       go_roundw
       case rel =>
        refine ⟨0+1,J ++ [(j:Int)],fs ++ [s],by omega,by go_num,by rw [List.length_append,HJL.out];rfl,?_,?_,?_,?_,HRI2.out,?_,OwnB.below (hQ1.alloc hsx3 _) (HO1.out.alloc (.cells #[.int .i64 j] 3)) (by simp;omega) hgrow2⟩
        ·intro i hi
         rcases List.mem_append.1 hi with hi | hi
         ·exact HJ0.out i hi
         ·rw [List.mem_singleton.1 hi];omega
        ·rw [List.map_append,List.map_append,HJS.out]
         simp [HSJ.out]
        ·intro t ht
         rcases List.mem_append.1 ht with ht | ht
         ·exact HFC.out t ht
         ·rw [List.mem_singleton.1 ht];exact HSC.out
        ·rw [List.map_append,HFB.out,take_snoc_some HB.out]
         simp [HSB.out]
        ·have e1:intL (J ++ [(j:Int)])=intL J ++ [.int .i64 (j:Int)]:=by simp [intL]
         rw [e1]
         exact hown2
       case measure=>exact ms_
      ·have hkd:decide ((k:Int)>0)=true:=by simp;omega
       obtain ⟨k',hk'⟩:∃ k',k=k'+1:=⟨k - 1,by omega⟩
       have hwm:IntKind.i64.wrap ((k:Int) - 1)=(k':Int):=(IntWalk.i64_in _ (by omega)).trans (by omega)
       have hkm:k'<m:=by omega
       have hkp:0<k:=by omega
       have hkd2:decide (0<k)=true:=by simpa using hkp
       obtain ⟨bd2,od2,p,ep,-,hp,hcp⟩:=HBY3.out.at_ hkm
       obtain ⟨rfl,rfl⟩:bd=bd2∧od=od2:=by simpa using ep
       have c3:=(hQw.cell (p:=⟨bd,od+k',none⟩) hbd).trans hcp
       cases hpb:decide (p≥b) with
       | true =>
         have hz28:=HNO.out (fun h1 _=>by
          have h3:=List.pairwise_iff_getElem.1 h1
          have h4:k<bs.length:=(List.getElem?_eq_some_iff.1 HB.out).1
          have h5:=h3 k' k (by omega) h4 (by omega)
          have e1:bs[k']=p:=(List.getElem?_eq_some_iff.1 hp).2
          have e2:bs[k]=b:=(List.getElem?_eq_some_iff.1 HB.out).2
          have h6:=of_decide_eq_true hpb
          omega)
         subst hz28
         clear hp hcp ep hk'
         go_wp2_with fail
         (refine rg_ ?_;(repeat (go_big_quiet_step (fail)));refine qn_ fun w1 hb1 hc1 hf1=>?_)
         go_wp2_with fail
         go_ret
         exact ⟨rfl,Below.then_ hB4 hb1⟩
       | false =>
         have hrise:(bs.take (k+1)).Pairwise (·<·):=by
          have h1:=HRI.out
          rw [hk'] at h1
          refine rise_add HRI.out HB.out ?_
          rw [hk']
          exact rise_snoc h1 hp (by have:=of_decide_eq_false hpb;omega)
         have HRI2:=Lib.hid hrise
         clear hrise hp hcp ep hk'
         go_wp2_with fail
         (refine rg_ ?_;(repeat (go_big_quiet_step (fail)));refine qn_ fun w1 hb1 hc1 hf1=>?_)
         obtain ⟨wx,rfl⟩:∃ wx,wx=w1:=⟨_,rfl⟩
         have hZ1:=Below.then_ hZ hb1
         have hO1:=own_ext HOW.out hZ1
         have HO1:=Lib.hid hO1
         have hsx:=hZ1.size
         have hQ1:Below w3.heap.size w3 wx:=HQZ.out.trans (hZ1.mono hsq)
         have hsx3:=hQ1.size
         clear hb1 hc1 hf1 hO1
         go_wp2_with (at_builtin;refine wpList_append_own _ rfl (.tmp 76) (.tmp 78) 30 rfl w3.heap.size 3 i0 _ 1 8 Tryz.underlying30 hi hz0 hz1 hz2 rfl (by decide) _ _ _ rfl (HO1.out.alloc (.cells #[.int .i64 j] 3)) ⟨wx.heap.size,0,none⟩ 1 1 [.int .i64 j] rfl rfl ?c1 ?c2 ?c3 ?c4 ?c5 ?_;rotate_left 5;intro v' w2 hown2 hgrow2 _)
         case c1=>intro j2 u2 hj2;match j2,hj2 with
          | 0,hj2=>simp at hj2;subst hj2;simp [Addr.add]
          | j2+1,hj2=>simp at hj2
         case c2=>simp [Value.oneCell']
         case c3=>unfold maxLen;omega
         case c4=>omega
         case c5=>first | omega | (simp;omega)
         go_roundw
         case rel =>
          refine ⟨k+1,J ++ [(j:Int)],fs ++ [s],by omega,by go_num,by rw [List.length_append,HJL.out];rfl,?_,?_,?_,?_,HRI2.out,?_,OwnB.below (hQ1.alloc hsx3 _) (HO1.out.alloc (.cells #[.int .i64 j] 3)) (by simp;omega) hgrow2⟩
          ·intro i hi
           rcases List.mem_append.1 hi with hi | hi
           ·exact HJ0.out i hi
           ·rw [List.mem_singleton.1 hi];omega
          ·rw [List.map_append,List.map_append,HJS.out]
           simp [HSJ.out]
          ·intro t ht
           rcases List.mem_append.1 ht with ht | ht
           ·exact HFC.out t ht
           ·rw [List.mem_singleton.1 ht];exact HSC.out
          ·rw [List.map_append,HFB.out,take_snoc_some HB.out]
           simp [HSB.out]
          ·have e1:intL (J ++ [(j:Int)])=intL J ++ [.int .i64 (j:Int)]:=by simp [intL]
           rw [e1]
           exact hown2
         case measure=>exact ms_
  ·have hkm:k=m:=by omega
   have hzz:=HYES.out fs (by rw [HFB.out,List.take_of_length_le (by rw [HBL.out];omega)]) HFC.out (by have h:=HRI.out;rwa [List.take_of_length_le (by rw [HBL.out];omega)] at h)
   obtain ⟨A4,c4,rfl,hcc4⟩:=own_slice hown
   have hIJ:Is wz wz.heap.size A4 k J:=Rd.of_own hown
   have hBz:Below w.heap.size w wz:=HB3.trans (hQ.mono hs3)
   have bVz:=HBV3.out.ext hQ
   have kVz:=bVz.cell
   have zVz:=bVz.lt
   have HIJ:=Lib.hid hIJ
   have HQZ:=Lib.hid hQ
   have HBVZ:=Lib.hid bVz
   clear hIJ hown bVz hkm
   obtain ⟨qc,hqc⟩:∃ qc,conB l kn fs=qc:=⟨_,rfl⟩
   have HQC:=Lib.hid hqc
   go_wp2_with fail
   refine (HCON.out _ J fs qc A4 k c4 hQ (by omega) HIJ.out HJ0.out HJS.out HQC.out).mono ?_
   rintro e w5 ⟨rfl,hb5⟩
   have hQ5:=Below.then_ hQ hb5
   have hB5:Below w.heap.size w w5:=HB3.trans (hQ5.mono hs3)
   cases qc with
   | false =>
     have hz28:z=28:=by rw [hzz,ccL,hqc];rfl
     subst hz28
     clear hzz hqc
     go_wp2_with fail
     go_ret
     exact ⟨rfl,hB5⟩
   | true =>
     have hzc:z=if (List.range fs.length).any (fun i=>conB l kn (fs.eraseIdx i))=true then 28 else 0:=by rw [hzz,ccL,hqc];rfl
     have HZC:=Lib.hid hzc
     have HFL:Hid (fs.length=k):=by show _=_;have h1:=congrArg List.length HJS.out;simp only [List.length_map] at h1;rw [← h1];exact HJL.out
     have HQ5:=Lib.hid hQ5
     have hs5:=hQ5.size
     have HIJ5:Hid (Is w5 w5.heap.size A4 k J):=by show Is _ _ _ _ _;exact HIJ.out.now hb5
     clear hzz hqc hzc hQ kVz zVz hb5
     go_wp2_with fail
     go_loopw [14] (fun i wr=>∃ a:Nat,a≤k∧i=.int .i64 a∧(List.range a).any (fun i=>conB l kn (fs.eraseIdx i))=false∧Below w5.heap.size w5 wr) (fun i _=>k - (intOf i).toNat)
     case atStart=>exact ⟨0,by omega,rfl,rfl,Below.refl _ _⟩
     case round =>
      obtain ⟨a,ha,rfl,hany,hG⟩:=hrel
      have HAN:=Lib.hid hany
      clear hany
      have hsg:=hG.size
      obtain ⟨wy,rfl⟩:∃ wy,wy=wr:=⟨_,rfl⟩
      by_cases hak:a<k
      ·have HG:=Lib.hid hG
       clear hG
       go_wp2_with fail
       go_loopw [15,16] (fun u i wr=>∃ q:Nat,q≤k∧i=.int .i64 q∧wr.ownsRow wy.heap.size 3 1 u ((J.take q).eraseIdx a).length (intL ((J.take q).eraseIdx a))∧Below wy.heap.size wy wr) (fun _ i _=>k - (intOf i).toNat)
       case atStart=>exact ⟨0,by omega,rfl,World.ownsRow_nil _ _ _ _,Below.refl _ _⟩
       case round =>
        obtain ⟨q,hq,rfl,hown,hH⟩:=hrel
        have hGw:Below w5.heap.size w5 wr:=HG.out.trans (hH.mono hsg)
        have hsw:=hGw.size
        have hxn:((J.take q).eraseIdx a).length≤60:=by have h1:=erase_len (J.take q) a;rw [List.length_take] at h1;omega
        obtain ⟨xl,hxl⟩:∃ xl,(J.take q).eraseIdx a=xl:=⟨_,rfl⟩
        rw [hxl] at hown hxn
        by_cases hqk:q<k
        ·obtain ⟨bj,oj,y,rfl,hbj,hy,hcy⟩:=HIJ5.out.at_ hqk
         have cy:=(hGw.cell (p:=⟨bj,oj+q,none⟩) hbj).trans hcy
         have hbjr:bj<wr.heap.size:=by omega
         have HES:=Lib.hid (erase_step (k:=a) hy)
         have HXL:=Lib.hid hxl
         have HR:=Lib.hid hown
         clear hy hcy hown hxl
         by_cases hqa:q=a
         ·subst hqa
          have hqd:((q:Int) != (q:Int))=false:=by simp
          have HN:Hid ((J.take (q+1)).eraseIdx q=xl):=by show _=_;rw [HES.out,if_pos rfl,HXL.out]
          go_wp2_with fail
          go_roundw
          case rel=>exact ⟨q+1,by omega,by go_num,by rw [HN.out];exact HR.out,hH⟩
          case measure=>exact ms_
         ·have hqd:((q:Int) != (a:Int))=true:=by simp;omega
          have HN:Hid ((J.take (q+1)).eraseIdx a=xl ++ [y]):=by show _=_;rw [HES.out,if_neg hqa,HXL.out]
          clear hqa
          have hsH:=hH.size
          go_wp2_with (at_builtin;refine wpList_append_own _ rfl (.tmp 99) (.tmp 104) 30 rfl wy.heap.size 3 i0 _ 1 8 Tryz.underlying30 hi hz0 hz1 hz2 rfl (by decide) _ _ _ rfl (HR.out.alloc (.cells #[.int .i64 y] 3)) ⟨wr.heap.size,0,none⟩ 1 1 [.int .i64 y] rfl rfl ?c1 ?c2 ?c3 ?c4 ?c5 ?_;rotate_left 5;intro v' w2 hown2 hgrow2 _)
          case c1=>intro j2 u2 hj2;match j2,hj2 with
           | 0,hj2=>simp at hj2;subst hj2;simp [Addr.add]
           | j2+1,hj2=>simp at hj2
          case c2=>simp [Value.oneCell']
          case c3=>unfold maxLen;omega
          case c4=>omega
          case c5=>first | omega | (simp;omega)
          go_roundw
          case rel =>
           refine ⟨q+1,by omega,by go_num,?_,OwnB.below (hH.alloc hsH _) (HR.out.alloc (.cells #[.int .i64 y] 3)) (by simp;omega) hgrow2⟩
           rw [HN.out,List.length_append]
           have e1:intL (xl ++ [y])=intL xl ++ [.int .i64 y]:=by simp [intL]
           rw [e1]
           exact hown2
          case measure=>exact ms_
        ·have hxe:Hid (J.eraseIdx a=xl):=by show _=_;rw [← hxl,List.take_of_length_le (by rw [HJL.out];omega)]
         obtain ⟨A9,c9,rfl,hcc9⟩:=own_slice hown
         have hI9:Is wr wr.heap.size A9 xl.length xl:=Rd.of_own hown
         have HI9:=Lib.hid hI9
         have hQw:Below w3.heap.size w3 wr:=HQ5.out.trans (hGw.mono hs5)
         have bVw:=HBV3.out.ext hQw
         have kVw:=bVw.cell
         have zVw:=bVw.lt
         obtain ⟨qe,hqe⟩:∃ qe,conB l kn (fs.eraseIdx a)=qe:=⟨_,rfl⟩
         have HQE:=Lib.hid hqe
         have h0x:∀ i∈xl,0≤i:=by rw [← hxe.out];exact fun i hi=>HJ0.out i (List.mem_of_mem_eraseIdx hi)
         have hmx:xl.map (fun i=>l.sg[i.toNat]?)=(fs.eraseIdx a).map some:=by rw [← hxe.out,erase_map,erase_map,HJS.out]
         have H0X:=Lib.hid h0x
         have HMX:=Lib.hid hmx
         clear hxl hown hI9 h0x hmx bVw hqe
         go_wp2_with fail
         refine (HCON.out _ xl (fs.eraseIdx a) qe A9 xl.length c9 hQw (by omega) HI9.out H0X.out HMX.out HQE.out).mono ?_
         rintro e w7 ⟨rfl,hb7⟩
         have hG7:=Below.then_ hGw hb7
         have hB7:Below w.heap.size w w7:=HB3.trans ((HQ5.out.trans (hG7.mono hs5)).mono hs3)
         cases qe with
         | true =>
           have hz28:z=28:=by
            rw [HZC.out,if_pos]
            rw [List.any_eq_true]
            exact ⟨a,List.mem_range.2 (by rw [HFL.out];exact hak),HQE.out⟩
           subst hz28
           go_wp2_with fail
           go_ret
           exact ⟨rfl,hB7⟩
         | false =>
           have HN:Hid ((List.range (a+1)).any (fun i=>conB l kn (fs.eraseIdx i))=false):=by
            show _=_
            rw [List.range_succ,List.any_append,HAN.out]
            simp [HQE.out]
           go_wp2_with fail
           go_roundw
           case rel=>exact ⟨a+1,by omega,by go_num,HN.out,hG7⟩
           case measure=>exact ms_
      ·have hz0:z=0:=by
        rw [HZC.out,HFL.out,show k=a by omega,HAN.out]
        rfl
       subst hz0
       have hB8:Below w.heap.size w wy:=HB3.trans ((HQ5.out.trans (hG.mono hs5)).mono hs3)
       go_wp2_with fail
       go_ret
       exact ⟨rfl,hB8⟩
end Go.Proofs.YtoiompoapikkbaaGreat
