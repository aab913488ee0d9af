/- Layer 2 of the texts that LoanMoves takes: Mauq. -/
import Derived.Test.YtmcmbicapdcfmaaGreatMatq
set_option linter.unusedVariables false
set_option linter.unusedSimpArgs false
set_option maxHeartbeats 16000000
namespace Go.Proofs.YtmcmbicapdcfmaaGreat
open Go.RowKit Go.Maps
end Go.Proofs.YtmcmbicapdcfmaaGreat
namespace Go.Proofs.YtmcmbicapdcfmaaGreat
open Go.RowKit
attribute [local go_sem] Oper.semAt_some
theorem take_eq_succ {xs ys:List Int} {k:Nat} {x y:Int} (hx:xs[k]?=some x) (hy:ys[k]?=some y) (h:xs.take k=ys.take k):xs.take (k+1)=ys.take (k+1)↔x=y:=by
 rw [take_snoc_some hx,take_snoc_some hy,h]
 simp
theorem l_equal (xs ys:List Int) (v:Bool) (A B:Option Addr) (n c m d:Nat) (w:World) (hn:n≤1000000) (hm:m≤1000000) (hx:Is w w.heap.size A n xs) (hy:Is w w.heap.size B m ys) (hv:decide (xs=ys)=v) :
 Calls Tryz.prog 99 #[.slice A n c,.slice B m d] w fun e w'=>e=.returned (.bool v)∧Below w.heap.size w w':=by
 have HX:=hd_ hx
 have HY:=hd_ hy
 have HLX:=hd_ hx.len
 have HLY:=hd_ hy.len
 have HV:=hd_ hv
 clear hx hy hv
 by_cases hnm:n=m
 ·subst hnm
  go_enter Tryz.func99,Tryz.ntmps99
  go_wp2
  go_loopw [13] (fun i wr=>∃ k:Nat,k≤n∧i=.int .i64 k∧xs.take k=ys.take k∧Below w.heap.size w wr) (fun i _=>n - (intOf i).toNat)
  case atStart=>exact ⟨0,by omega,rfl,by simp,Below.refl _ _⟩
  case round =>
   obtain ⟨k,hk,rfl,hpre,hB⟩:=hrel
   have HP:=hd_ hpre
   clear hpre
   have hs0:w.heap.size≤wr.heap.size:=hB.size
   by_cases hlt:k<n
   ·obtain ⟨b,o,x,rfl,hb,hxk,hcx⟩:=(HX.out.ext hB lr_).at_ hlt
    obtain ⟨b',o',y,rfl,hb',hyk,hcy⟩:=(HY.out.ext hB lr_).at_ hlt
    have HXK:=hd_ hxk
    have HYK:=hd_ hyk
    clear hxk hyk
    have hbr:b<wr.heap.size:=by omega
    have hbr':b'<wr.heap.size:=by omega
    have HS:=hd_ (take_eq_succ HXK.out HYK.out HP.out)
    by_cases hxy:x=y
    ·have hb1:(x != y)=false:=by simp [hxy]
     have HXY:=hd_ hxy
     clear hxy
     go_wp2_with fail
     (refine rg_ ?_;(repeat (go_big_quiet_step (fail)));refine qn_ fun w1 hb1 hc1 hf1=>?_)
     go_wp2_with fail
     go_roundw
     case rel=>exact ⟨k+1,by omega,by go_num,HS.out.2 HXY.out,bt_ hB hb1⟩
     case measure=>exact ms_
    ·have hb1:(x != y)=true:=by simp [hxy]
     have HXY:=hd_ hxy
     clear hxy
     go_wp2_with fail
     (refine rg_ ?_;(repeat (go_big_quiet_step (fail)));refine qn_ fun w1 hb1 hc1 hf1=>?_)
     go_wp2_with fail
     go_ret
     refine ⟨ret_bool ?_,bt_ hB hb1⟩
     rw [← HV.out]
     symm
     apply decide_eq_false
     intro e
     exact HXY.out (HS.out.1 (by rw [e]))
   ·have hkn:k=n:=by omega
    have HKn:=hd_ hkn
    clear hkn
    go_wp2
    go_ret
    refine ⟨ret_bool ?_,hB⟩
    rw [← HV.out]
    symm
    apply decide_eq_true
    have h1:=HP.out
    rwa [List.take_of_length_le (by rw [HLX.out,HKn.out];exact lr_),List.take_of_length_le (by rw [HLY.out,HKn.out];exact lr_)] at h1
 ·have h1:((n:Int) != (m:Int))=true:=by simp;omega
  go_enter Tryz.func99,Tryz.ntmps99
  go_wp2
  go_ret
  refine ⟨ret_bool ?_,Below.refl _ _⟩
  rw [← HV.out]
  symm
  apply decide_eq_false
  intro e
  exact hnm (by rw [← HLX.out,← HLY.out,e])
end Go.Proofs.YtmcmbicapdcfmaaGreat
namespace Go.Proofs.YtmcmbicapdcfmaaGreat
open Go.RowKit Go.Maps
def dbl2 (M:List ((Int × Int) × Nat)) (P:List (Int × Int)):List Rv→Option (Rv × Rv)
 | []=>none
 | x :: l=>match l.find? (fun y=>dblB M P x.r y.r) with
   | some y=>some (x,y)
   | none=>dbl2 M P l
theorem dbl2_some {M:List ((Int × Int) × Nat)} {P:List (Int × Int)} {xs:List Rv} {k:Nat} {x y:Rv} {o:Option (Rv × Rv)} (hx:xs[k]?=some x) (hf:(xs.drop (k+1)).find? (fun y=>dblB M P x.r y.r)=some y) (ho:dbl2 M P (xs.drop k)=o):o=some (x,y):=by
 have hlt:k<xs.length:=(List.getElem?_eq_some_iff.1 hx).1
 rw [List.drop_eq_getElem_cons hlt,(List.getElem?_eq_some_iff.1 hx).2,dbl2,hf] at ho
 exact ho.symm
theorem dbl2_none {M:List ((Int × Int) × Nat)} {P:List (Int × Int)} {xs:List Rv} {k:Nat} {x:Rv} {o:Option (Rv × Rv)} (hx:xs[k]?=some x) (hf:(xs.drop (k+1)).find? (fun y=>dblB M P x.r y.r)=none) (ho:dbl2 M P (xs.drop k)=o):dbl2 M P (xs.drop (k+1))=o:=by
 have hlt:k<xs.length:=(List.getElem?_eq_some_iff.1 hx).1
 rw [List.drop_eq_getElem_cons hlt,(List.getElem?_eq_some_iff.1 hx).2,dbl2,hf] at ho
 exact ho
theorem find_at2 {α:Type} {l:List α} {p:α→Bool} {j:Nat} {y:α} (hy:l[j]?=some y) (hp:p y=true) (hn:(l.take j).find? p=none):l.find? p=some y:=by
 have hlt:j<l.length:=(List.getElem?_eq_some_iff.1 hy).1
 have e:l=l.take j ++ y :: l.drop (j+1):=by
  have h:=List.take_append_drop j l
  rw [List.drop_eq_getElem_cons hlt,(List.getElem?_eq_some_iff.1 hy).2] at h
  exact h.symm
 rw [e,List.find?_append,hn,List.find?_cons,hp]
 rfl
theorem find_step2 {α:Type} {l:List α} {p:α→Bool} {j:Nat} {y:α} (hy:l[j]?=some y) (hp:p y=false) (hn:(l.take j).find? p=none):(l.take (j+1)).find? p=none:=by
 rw [take_snoc_some hy,List.find?_append,hn,List.find?_cons,hp]
 rfl
theorem Sq.drop_ {α:Type} {Q:World→Nat→Nat→Nat→α→Prop} {size:Nat} {w:World} {B n b o k:Nat} {xs:List α} (h:Sq Q size w B (some ⟨b,o,none⟩) n xs) (hk:k≤n):Sq Q size w B (some ⟨b,o+k*size,none⟩) (n - k) (xs.drop k):=by
 refine ⟨by rw [List.length_drop,h.1],fun h0=>?_⟩
 obtain ⟨b',o',e,hb,hc⟩:=h.2 (by omega)
 cases e
 refine ⟨b,o+k*size,rfl,hb,fun j x hx=>?_⟩
 rw [List.getElem?_drop] at hx
 have:=hc _ _ hx
 rwa [show o+(k+j)*size=o+k*size+j*size from by rw [Nat.add_mul];omega] at this
theorem BoxA.drewB {W:World} {B:Nat} {t:TypeId} {cs:Array Value} (h:BoxA W B t cs):BoxA W.drew B t cs:=h
theorem BoxA.set7 {W:World} {B:Nat} {t:TypeId} {a0 a1 a2 a3 a4 a5 a6:Value} (h:BoxA W B t #[a0,a1,a2,a3,a4,a5,a6]) (b0 b1 b2 b3 b4 b5 b6:Value):BoxA (((((((W.setCell ⟨B,0,none⟩ b0).setCell ⟨B,1,none⟩ b1).setCell ⟨B,2,none⟩ b2).setCell ⟨B,3,none⟩ b3).setCell ⟨B,4,none⟩ b4).setCell ⟨B,5,none⟩ b5).setCell ⟨B,6,none⟩ b6) B t #[b0,b1,b2,b3,b4,b5,b6]:=by
 have h2:=(((((((h.set 0 b0).set 1 b1).set 2 b2).set 3 b3).set 4 b4).set 5 b5).set 6 b6)
 simpa only [List.setIfInBounds_toArray,List.set_cons_zero,List.set_cons_succ] using h2
theorem BoxA.other7 {W:World} {B C:Nat} {t:TypeId} {cs:Array Value} (h:BoxA W B t cs) (hne:B≠C) (b0 b1 b2 b3 b4 b5 b6:Value):BoxA (((((((W.setCell ⟨C,0,none⟩ b0).setCell ⟨C,1,none⟩ b1).setCell ⟨C,2,none⟩ b2).setCell ⟨C,3,none⟩ b3).setCell ⟨C,4,none⟩ b4).setCell ⟨C,5,none⟩ b5).setCell ⟨C,6,none⟩ b6) B t cs:=(((((((h.other hne b0).other hne b1).other hne b2).other hne b3).other hne b4).other hne b5).other hne b6)
theorem below_set7 {u W:World} {D C:Nat} (h:Below D u W) (hl:D≤C) (b0 b1 b2 b3 b4 b5 b6:Value):Below D u (((((((W.setCell ⟨C,0,none⟩ b0).setCell ⟨C,1,none⟩ b1).setCell ⟨C,2,none⟩ b2).setCell ⟨C,3,none⟩ b3).setCell ⟨C,4,none⟩ b4).setCell ⟨C,5,none⟩ b5).setCell ⟨C,6,none⟩ b6):=(((((((h.setCell hl b0).setCell hl b1).setCell hl b2).setCell hl b3).setCell hl b4).setCell hl b5).setCell hl b6)
def RetDbl (o:Option (Rv × Rv)) (w:World) (e:Ending) (w':World):Prop:=Below w.heap.size w w'∧match o with
 | none=>e=.returned (.tuple #[.agg #[.int .i64 0,.int .i64 0,.int .i64 0,.slice none 0 0,.int .i64 0,.int .i64 0,.int .i64 0],.agg #[.int .i64 0,.int .i64 0,.int .i64 0,.slice none 0 0,.int .i64 0,.int .i64 0,.int .i64 0],.bool false])
 | some p=>e=.returned (.tuple #[rvV p.1,rvV p.2,.bool true])
set_option maxRecDepth 100000 in
theorem p_double (M:List ((Int × Int) × Nat)) (R:List Rcp) (P:List (Int × Int)) (xs:List Rv) (a:Acc) (w:World) (h:AccR w a M R P) (hx:Sq QV 7 w w.heap.size a.RA a.Rn xs) (hR:xs.map Rv.r=R) :
 Calls Tryz.prog 80 #[accV a] w (RetDbl (dbl2 M P xs) w):=by
 obtain ⟨⟨pA,pn,pc,rA,rn,rc,tA,tn,tc,sA,sn,sc⟩,kn,RA,Rn,Rc,SA,Sn,Sc,bm,TA,Tn,Tc,PA,Pn,Pc⟩:=a
 have hin:∀ x∈xs,RvIn w x:=fun v hv=>by
  obtain ⟨k,hk⟩:=List.getElem?_of_mem hv
  obtain ⟨b,o,y,_,_,hy,hq⟩:=hx.at_ (k:=k) (by rw [← hx.len];exact (List.getElem?_eq_some_iff.1 hk).1)
  obtain rfl:v=y:=Option.some.inj (hk.symm.trans hy)
  have ho:=h.okR v.r (by rw [← hR];exact List.mem_map.2 ⟨v,hv,rfl⟩)
  exact ⟨hq.2.1,by rw [← hq.2.1.len];exact ho.1,ho.2.1,ho.2.2⟩
 have HAD:Hid (∀ (x y:Rv) (q:Bool) (W:World),Below w.heap.size w W→x∈xs→y∈xs→dblB M P x.r y.r=q→Calls Tryz.prog 84 #[.agg #[.slice pA pn pc,.slice rA rn rc,.slice tA tn tc,.slice sA sn sc,.int .i64 kn,.slice RA Rn Rc,.slice SA Sn Sc,.map (some bm),.slice TA Tn Tc,.slice PA Pn Pc],.agg #[.int .i64 x.r.src,.int .i64 x.r.bor,.int .i64 x.r.pap,.slice x.A x.n x.c,.int .i64 x.r.day,.int .i64 x.r.kn,.int .i64 x.r.un],.agg #[.int .i64 y.r.src,.int .i64 y.r.bor,.int .i64 y.r.pap,.slice y.A y.n y.c,.int .i64 y.r.day,.int .i64 y.r.kn,.int .i64 y.r.un]] W fun e w'=>e=.returned (.bool q)∧Below W.heap.size W w'):=by
  show ∀ _,_
  intro x y q W hW h1 h2 h3
  rw [← h3]
  exact p_areDouble M R P ⟨⟨pA,pn,pc,rA,rn,rc,tA,tn,tc,sA,sn,sc⟩,kn,RA,Rn,Rc,SA,Sn,Sc,bm,TA,Tn,Tc,PA,Pn,Pc⟩ x y W (h.now hW) ((hin x h1).now hW) ((hin y h2).now hW)
 have HX:Hid (Sq QV 7 w w.heap.size RA Rn xs):=by show Sq _ _ _ _ _ _ _;exact hx
 have HL:Hid (xs.length=Rn):=by show _=_;exact hx.len
 have hN:Rn≤1000000:=h.nR
 have hNc:Rn≤Rc:=h.cR.1
 show Calls _ _ #[.agg #[.slice pA pn pc,.slice rA rn rc,.slice tA tn tc,.slice sA sn sc,.int .i64 kn,.slice RA Rn Rc,.slice SA Sn Sc,.map (some bm),.slice TA Tn Tc,.slice PA Pn Pc]] _ _
 obtain ⟨q,hq⟩:∃ q,dbl2 M P xs=q:=⟨_,rfl⟩
 rw [hq]
 have HQ:=hd_ hq
 clear h hx hR hin hq
 obtain ⟨W1,hW1⟩:∃ W1,(((w.alloc (.cells #[.slice pA pn pc,.slice rA rn rc,.slice tA tn tc,.slice sA sn sc,.int .i64 kn,.slice RA Rn Rc,.slice SA Sn Sc,.map (some bm),.slice TA Tn Tc,.slice PA Pn Pc] 115)).alloc (.cells #[.int .i64 0,.int .i64 0,.int .i64 0,.slice none 0 0,.int .i64 0,.int .i64 0,.int .i64 0] 79)).alloc (.cells #[.int .i64 0,.int .i64 0,.int .i64 0,.slice none 0 0,.int .i64 0,.int .i64 0,.int .i64 0] 79))=W1:=⟨_,rfl⟩
 have hB0:Below w.heap.size w W1:=by rw [← hW1];exact bel_
 have hz1:w.heap.size+3≤W1.heap.size:=by rw [← hW1];simp
 have b0:BoxA W1 w.heap.size 115 #[.slice pA pn pc,.slice rA rn rc,.slice tA tn tc,.slice sA sn sc,.int .i64 kn,.slice RA Rn Rc,.slice SA Sn Sc,.map (some bm),.slice TA Tn Tc,.slice PA Pn Pc]:=by rw [← hW1];exact ((BoxA.new _ _ _).alloc _).alloc _
 have b1:BoxA W1 (w.heap.size+1) 79 #[.int .i64 0,.int .i64 0,.int .i64 0,.slice none 0 0,.int .i64 0,.int .i64 0,.int .i64 0]:=by rw [← hW1];have h:=(BoxA.new (w.alloc (.cells #[.slice pA pn pc,.slice rA rn rc,.slice tA tn tc,.slice sA sn sc,.int .i64 kn,.slice RA Rn Rc,.slice SA Sn Sc,.map (some bm),.slice TA Tn Tc,.slice PA Pn Pc] 115)) 79 #[.int .i64 0,.int .i64 0,.int .i64 0,.slice none 0 0,.int .i64 0,.int .i64 0,.int .i64 0]).alloc (.cells #[.int .i64 0,.int .i64 0,.int .i64 0,.slice none 0 0,.int .i64 0,.int .i64 0,.int .i64 0] 79);simpa using h
 have b2:BoxA W1 (w.heap.size+1+1) 79 #[.int .i64 0,.int .i64 0,.int .i64 0,.slice none 0 0,.int .i64 0,.int .i64 0,.int .i64 0]:=by rw [← hW1];have h:=BoxA.new ((w.alloc (.cells #[.slice pA pn pc,.slice rA rn rc,.slice tA tn tc,.slice sA sn sc,.int .i64 kn,.slice RA Rn Rc,.slice SA Sn Sc,.map (some bm),.slice TA Tn Tc,.slice PA Pn Pc] 115)).alloc (.cells #[.int .i64 0,.int .i64 0,.int .i64 0,.slice none 0 0,.int .i64 0,.int .i64 0,.int .i64 0] 79)) 79 #[.int .i64 0,.int .i64 0,.int .i64 0,.slice none 0 0,.int .i64 0,.int .i64 0,.int .i64 0];simpa using h
 have HW1:=hd_ hW1
 have HB0:=hd_ b0
 have HB1:=hd_ b1
 have HB2:=hd_ b2
 clear hW1 b0 b1 b2
 go_enter Tryz.func80,Tryz.ntmps80
 go_wp2
 go_loopw [12] (fun i wr=>∃ k:Nat,k≤Rn∧i=.int .i64 k∧dbl2 M P (xs.drop k)=q∧Below W1.heap.size W1 wr) (fun i _=>Rn - (intOf i).toNat)
 case atStart=>exact ⟨0,by omega,rfl,HQ.out,by rw [HW1.out];exact Below.refl _ _⟩
 case round =>
  obtain ⟨k,hk,rfl,hcl,hB⟩:=hrel
  obtain ⟨wo,hwo⟩:∃ wo:World,wo=wr:=⟨_,rfl⟩
  subst hwo
  have HCL:=hd_ hcl
  clear hcl
  have hso:=hB.size
  have hBw:Below w.heap.size w wo:=hB0.trans (hB.mono (by omega))
  have k0:=(HB0.out.ext hB).cell
  have z0:w.heap.size<wo.heap.size:=by omega
  by_cases hlt:k<Rn
  ·obtain ⟨b,o,x,rfl,hb,hx,⟨h0,h1,h2,h3,h4,h5,h6⟩,hi,hc,hm⟩:=(Sq.ext HX.out abV hBw lr_).at_ hlt
   have hbr:b<wo.heap.size:=by omega
   have HXk:=hd_ hx
   have hmx:=List.mem_of_getElem? hx
   clear hx hi hc hm
   obtain ⟨W2,hW2⟩:∃ W2,wo.alloc (.cells #[.int .i64 x.r.src,.int .i64 x.r.bor,.int .i64 x.r.pap,.slice x.A x.n x.c,.int .i64 x.r.day,.int .i64 x.r.kn,.int .i64 x.r.un] 79)=W2:=⟨_,rfl⟩
   have hB2:Below wo.heap.size wo W2:=by rw [← hW2];exact (Below.refl _ _).alloc lr_ _
   have bX:BoxA W2 wo.heap.size 79 #[.int .i64 x.r.src,.int .i64 x.r.bor,.int .i64 x.r.pap,.slice x.A x.n x.c,.int .i64 x.r.day,.int .i64 x.r.kn,.int .i64 x.r.un]:=by rw [← hW2];exact BoxA.new _ _ _
   have HBX:=hd_ bX
   have HW2:=hd_ hW2
   have hs2:wo.heap.size<W2.heap.size:=bX.lt
   clear hW2 bX
   by_cases hcap:Rc=k+1
   ·have hnk:Rn=k+1:=by omega
    have hfn:(xs.drop (k+1)).find? (fun y=>dblB M P x.r y.r)=none:=by
     rw [List.drop_eq_nil_of_le (by rw [HL.out];omega)];rfl
    have HN:=hd_ (dbl2_none HXk.out hfn HCL.out)
    have HNK:=hd_ hnk
    clear hfn
    go_wp2
    go_loopw [23] (fun i wr=>i=.int .i64 0∧Below W2.heap.size W2 wr) (fun _ _=>0)
    case atStart=>exact ⟨rfl,by rw [HW2.out];exact Below.refl _ _⟩
    case round =>
     obtain ⟨rfl,hB3⟩:=hrel
     have hz:Rn - (k+1)=0:=by have:=HNK.out;omega
     go_wp2
     go_roundw
     case rel=>exact ⟨k+1,by omega,by go_num,HN.out,hB.trans ((hB2.trans (hB3.mono (by omega))).mono (by omega))⟩
     case measure=>exact ms_
   ·have hcap2:¬ (k+1=Rc):=fun h=>hcap h.symm
    have HDR:=hd_ (HX.out.drop_ (k:=k+1) (by omega))
    go_wp2
    go_loopw [23] (fun i wr=>∃ j:Nat,j≤Rn - (k+1)∧i=.int .i64 j∧((xs.drop (k+1)).take j).find? (fun y=>dblB M P x.r y.r)=none∧Below W2.heap.size W2 wr) (fun i _=>(Rn - (k+1)) - (intOf i).toNat)
    case atStart=>exact ⟨0,by omega,rfl,rfl,by rw [HW2.out];exact Below.refl _ _⟩
    case round =>
     obtain ⟨j,hj,rfl,hfj,hB3⟩:=hrel
     have HFJ:=hd_ hfj
     clear hfj
     have hs3:=hB3.size
     have hBo:Below wo.heap.size wo wr:=hB2.trans (hB3.mono (by omega))
     have hBW:Below w.heap.size w wr:=hBw.trans (hBo.mono (by omega))
     have hB1r:Below W1.heap.size W1 wr:=hB.trans (hBo.mono (by omega))
     have m0:=(HB0.out.ext hB1r).cell
     have y0:w.heap.size<wr.heap.size:=by omega
     have bXr:=HBX.out.ext hB3
     have mX:=bXr.cell
     have yX:=bXr.lt
     by_cases hlj:j<Rn - (k+1)
     ·obtain ⟨b',o',y,e',hb',hy,⟨p0,p1,p2,p3,p4,p5,p6⟩,_,_⟩:=(HDR.out.ext abV hBW lr_).at_ hlj
      obtain ⟨rfl,rfl⟩:b=b'∧o+(k+1)*7=o':=by simpa using e'
      have HJ:=hd_ hy
      have hmy:y∈xs:=List.mem_of_mem_drop (List.mem_of_getElem? hy)
      clear hy e'
      have hbr2:b<wr.heap.size:=by omega
      obtain ⟨W4,hW4⟩:∃ W4,wr.alloc (.cells #[.int .i64 y.r.src,.int .i64 y.r.bor,.int .i64 y.r.pap,.slice y.A y.n y.c,.int .i64 y.r.day,.int .i64 y.r.kn,.int .i64 y.r.un] 79)=W4:=⟨_,rfl⟩
      have hB4:Below wr.heap.size wr W4:=by rw [← hW4];exact (Below.refl _ _).alloc lr_ _
      have bY:BoxA W4 wr.heap.size 79 #[.int .i64 y.r.src,.int .i64 y.r.bor,.int .i64 y.r.pap,.slice y.A y.n y.c,.int .i64 y.r.day,.int .i64 y.r.kn,.int .i64 y.r.un]:=by rw [← hW4];exact BoxA.new _ _ _
      have hBW4:Below w.heap.size w W4:=hBW.trans (hB4.mono (by omega))
      cases hct:dblB M P x.r y.r with
      | true =>
        have hcall:=HAD.out x y true W4 hBW4 hmx hmy hct
        have ho:=dbl2_some HXk.out (find_at2 (p:=fun y=>dblB M P x.r y.r) HJ.out hct HFJ.out) HCL.out
        subst ho
        rw [← hW4] at hcall
        clear hct
        have HW4:=hd_ hW4
        clear hW4
        go_wp2_with (go_at_call 84;refine hcall.mono ?_;rintro e w5 ⟨rfl,hb5'⟩;have hb5:Below W4.heap.size W4 w5:=(by rw [← HW4.out];exact hb5');have bX5:=(bXr.ext hB4).ext hb5;have bY5:=bY.ext hb5;have bR1:=((HB1.out.ext hB1r).ext hB4).ext hb5;have bR2:=((HB2.out.ext hB1r).ext hB4).ext hb5;have cX5:=bX5.cell;have cY5:=bY5.cell;have c1:=bR1.cell;have c2:=bR2.cell;have zX5:=bX5.lt;have zY5:=bY5.lt;have z15:=bR1.lt;have z25:=bR2.lt;have hs5:=hb5.size)
        have hBf:Below w.heap.size w w5:=hBW4.trans (hb5.mono hBW4.size)
        have f1:∀ j,w5.frozen? ⟨w.heap.size+1,j,none⟩=false:=fun j=>by simp [World.frozen?,show w5.heap[w.heap.size+1]?=_ from bR1]
        have f2:∀ j,w5.frozen? ⟨w.heap.size+1+1,j,none⟩=false:=fun j=>by simp [World.frozen?,show w5.heap[w.heap.size+1+1]?=_ from bR2]
        have n1:wo.heap.size≠w.heap.size+1:=by omega
        have n2:wo.heap.size≠w.heap.size+1+1:=by omega
        have n3:wr.heap.size≠w.heap.size+1:=by omega
        have n4:wr.heap.size≠w.heap.size+1+1:=by omega
        have n12:w.heap.size+1≠w.heap.size+1+1:=by omega
        have n21:w.heap.size+1+1≠w.heap.size+1:=by omega
        have l1:w.heap.size≤w.heap.size+1:=by omega
        have l2:w.heap.size≤w.heap.size+1+1:=by omega
        have GA:BoxA (((((((((((((((w5.setCell ⟨w.heap.size+1,0,none⟩ (.int .i64 x.r.src)).setCell ⟨w.heap.size+1,1,none⟩ (.int .i64 x.r.bor)).setCell ⟨w.heap.size+1,2,none⟩ (.int .i64 x.r.pap)).setCell ⟨w.heap.size+1,3,none⟩ (.slice x.A x.n x.c)).setCell ⟨w.heap.size+1,4,none⟩ (.int .i64 x.r.day)).setCell ⟨w.heap.size+1,5,none⟩ (.int .i64 x.r.kn)).setCell ⟨w.heap.size+1,6,none⟩ (.int .i64 x.r.un)).setCell ⟨w.heap.size+1+1,0,none⟩ (.int .i64 y.r.src)).setCell ⟨w.heap.size+1+1,1,none⟩ (.int .i64 y.r.bor)).setCell ⟨w.heap.size+1+1,2,none⟩ (.int .i64 y.r.pap)).setCell ⟨w.heap.size+1+1,3,none⟩ (.slice y.A y.n y.c)).setCell ⟨w.heap.size+1+1,4,none⟩ (.int .i64 y.r.day)).setCell ⟨w.heap.size+1+1,5,none⟩ (.int .i64 y.r.kn)).setCell ⟨w.heap.size+1+1,6,none⟩ (.int .i64 y.r.un)).drew) (w.heap.size+1) 79 #[.int .i64 x.r.src,.int .i64 x.r.bor,.int .i64 x.r.pap,.slice x.A x.n x.c,.int .i64 x.r.day,.int .i64 x.r.kn,.int .i64 x.r.un]∧BoxA (((((((((((((((w5.setCell ⟨w.heap.size+1,0,none⟩ (.int .i64 x.r.src)).setCell ⟨w.heap.size+1,1,none⟩ (.int .i64 x.r.bor)).setCell ⟨w.heap.size+1,2,none⟩ (.int .i64 x.r.pap)).setCell ⟨w.heap.size+1,3,none⟩ (.slice x.A x.n x.c)).setCell ⟨w.heap.size+1,4,none⟩ (.int .i64 x.r.day)).setCell ⟨w.heap.size+1,5,none⟩ (.int .i64 x.r.kn)).setCell ⟨w.heap.size+1,6,none⟩ (.int .i64 x.r.un)).setCell ⟨w.heap.size+1+1,0,none⟩ (.int .i64 y.r.src)).setCell ⟨w.heap.size+1+1,1,none⟩ (.int .i64 y.r.bor)).setCell ⟨w.heap.size+1+1,2,none⟩ (.int .i64 y.r.pap)).setCell ⟨w.heap.size+1+1,3,none⟩ (.slice y.A y.n y.c)).setCell ⟨w.heap.size+1+1,4,none⟩ (.int .i64 y.r.day)).setCell ⟨w.heap.size+1+1,5,none⟩ (.int .i64 y.r.kn)).setCell ⟨w.heap.size+1+1,6,none⟩ (.int .i64 y.r.un)).drew) (w.heap.size+1+1) 79 #[.int .i64 y.r.src,.int .i64 y.r.bor,.int .i64 y.r.pap,.slice y.A y.n y.c,.int .i64 y.r.day,.int .i64 y.r.kn,.int .i64 y.r.un]∧Below w.heap.size w (((((((((((((((w5.setCell ⟨w.heap.size+1,0,none⟩ (.int .i64 x.r.src)).setCell ⟨w.heap.size+1,1,none⟩ (.int .i64 x.r.bor)).setCell ⟨w.heap.size+1,2,none⟩ (.int .i64 x.r.pap)).setCell ⟨w.heap.size+1,3,none⟩ (.slice x.A x.n x.c)).setCell ⟨w.heap.size+1,4,none⟩ (.int .i64 x.r.day)).setCell ⟨w.heap.size+1,5,none⟩ (.int .i64 x.r.kn)).setCell ⟨w.heap.size+1,6,none⟩ (.int .i64 x.r.un)).setCell ⟨w.heap.size+1+1,0,none⟩ (.int .i64 y.r.src)).setCell ⟨w.heap.size+1+1,1,none⟩ (.int .i64 y.r.bor)).setCell ⟨w.heap.size+1+1,2,none⟩ (.int .i64 y.r.pap)).setCell ⟨w.heap.size+1+1,3,none⟩ (.slice y.A y.n y.c)).setCell ⟨w.heap.size+1+1,4,none⟩ (.int .i64 y.r.day)).setCell ⟨w.heap.size+1+1,5,none⟩ (.int .i64 y.r.kn)).setCell ⟨w.heap.size+1+1,6,none⟩ (.int .i64 y.r.un)).drew):=⟨BoxA.drewB ((bR1.set7 (.int .i64 x.r.src) (.int .i64 x.r.bor) (.int .i64 x.r.pap) (.slice x.A x.n x.c) (.int .i64 x.r.day) (.int .i64 x.r.kn) (.int .i64 x.r.un)).other7 n12 (.int .i64 y.r.src) (.int .i64 y.r.bor) (.int .i64 y.r.pap) (.slice y.A y.n y.c) (.int .i64 y.r.day) (.int .i64 y.r.kn) (.int .i64 y.r.un)),BoxA.drewB ((bR2.other7 n21 (.int .i64 x.r.src) (.int .i64 x.r.bor) (.int .i64 x.r.pap) (.slice x.A x.n x.c) (.int .i64 x.r.day) (.int .i64 x.r.kn) (.int .i64 x.r.un)).set7 (.int .i64 y.r.src) (.int .i64 y.r.bor) (.int .i64 y.r.pap) (.slice y.A y.n y.c) (.int .i64 y.r.day) (.int .i64 y.r.kn) (.int .i64 y.r.un)),(below_set7 (below_set7 hBf l1 (.int .i64 x.r.src) (.int .i64 x.r.bor) (.int .i64 x.r.pap) (.slice x.A x.n x.c) (.int .i64 x.r.day) (.int .i64 x.r.kn) (.int .i64 x.r.un)) l2 (.int .i64 y.r.src) (.int .i64 y.r.bor) (.int .i64 y.r.pap) (.slice y.A y.n y.c) (.int .i64 y.r.day) (.int .i64 y.r.kn) (.int .i64 y.r.un)).drew⟩
        have GB:BoxA (((((((((((((((w5.setCell ⟨w.heap.size+1+1,0,none⟩ (.int .i64 y.r.src)).setCell ⟨w.heap.size+1+1,1,none⟩ (.int .i64 y.r.bor)).setCell ⟨w.heap.size+1+1,2,none⟩ (.int .i64 y.r.pap)).setCell ⟨w.heap.size+1+1,3,none⟩ (.slice y.A y.n y.c)).setCell ⟨w.heap.size+1+1,4,none⟩ (.int .i64 y.r.day)).setCell ⟨w.heap.size+1+1,5,none⟩ (.int .i64 y.r.kn)).setCell ⟨w.heap.size+1+1,6,none⟩ (.int .i64 y.r.un)).setCell ⟨w.heap.size+1,0,none⟩ (.int .i64 x.r.src)).setCell ⟨w.heap.size+1,1,none⟩ (.int .i64 x.r.bor)).setCell ⟨w.heap.size+1,2,none⟩ (.int .i64 x.r.pap)).setCell ⟨w.heap.size+1,3,none⟩ (.slice x.A x.n x.c)).setCell ⟨w.heap.size+1,4,none⟩ (.int .i64 x.r.day)).setCell ⟨w.heap.size+1,5,none⟩ (.int .i64 x.r.kn)).setCell ⟨w.heap.size+1,6,none⟩ (.int .i64 x.r.un)).drew) (w.heap.size+1) 79 #[.int .i64 x.r.src,.int .i64 x.r.bor,.int .i64 x.r.pap,.slice x.A x.n x.c,.int .i64 x.r.day,.int .i64 x.r.kn,.int .i64 x.r.un]∧BoxA (((((((((((((((w5.setCell ⟨w.heap.size+1+1,0,none⟩ (.int .i64 y.r.src)).setCell ⟨w.heap.size+1+1,1,none⟩ (.int .i64 y.r.bor)).setCell ⟨w.heap.size+1+1,2,none⟩ (.int .i64 y.r.pap)).setCell ⟨w.heap.size+1+1,3,none⟩ (.slice y.A y.n y.c)).setCell ⟨w.heap.size+1+1,4,none⟩ (.int .i64 y.r.day)).setCell ⟨w.heap.size+1+1,5,none⟩ (.int .i64 y.r.kn)).setCell ⟨w.heap.size+1+1,6,none⟩ (.int .i64 y.r.un)).setCell ⟨w.heap.size+1,0,none⟩ (.int .i64 x.r.src)).setCell ⟨w.heap.size+1,1,none⟩ (.int .i64 x.r.bor)).setCell ⟨w.heap.size+1,2,none⟩ (.int .i64 x.r.pap)).setCell ⟨w.heap.size+1,3,none⟩ (.slice x.A x.n x.c)).setCell ⟨w.heap.size+1,4,none⟩ (.int .i64 x.r.day)).setCell ⟨w.heap.size+1,5,none⟩ (.int .i64 x.r.kn)).setCell ⟨w.heap.size+1,6,none⟩ (.int .i64 x.r.un)).drew) (w.heap.size+1+1) 79 #[.int .i64 y.r.src,.int .i64 y.r.bor,.int .i64 y.r.pap,.slice y.A y.n y.c,.int .i64 y.r.day,.int .i64 y.r.kn,.int .i64 y.r.un]∧Below w.heap.size w (((((((((((((((w5.setCell ⟨w.heap.size+1+1,0,none⟩ (.int .i64 y.r.src)).setCell ⟨w.heap.size+1+1,1,none⟩ (.int .i64 y.r.bor)).setCell ⟨w.heap.size+1+1,2,none⟩ (.int .i64 y.r.pap)).setCell ⟨w.heap.size+1+1,3,none⟩ (.slice y.A y.n y.c)).setCell ⟨w.heap.size+1+1,4,none⟩ (.int .i64 y.r.day)).setCell ⟨w.heap.size+1+1,5,none⟩ (.int .i64 y.r.kn)).setCell ⟨w.heap.size+1+1,6,none⟩ (.int .i64 y.r.un)).setCell ⟨w.heap.size+1,0,none⟩ (.int .i64 x.r.src)).setCell ⟨w.heap.size+1,1,none⟩ (.int .i64 x.r.bor)).setCell ⟨w.heap.size+1,2,none⟩ (.int .i64 x.r.pap)).setCell ⟨w.heap.size+1,3,none⟩ (.slice x.A x.n x.c)).setCell ⟨w.heap.size+1,4,none⟩ (.int .i64 x.r.day)).setCell ⟨w.heap.size+1,5,none⟩ (.int .i64 x.r.kn)).setCell ⟨w.heap.size+1,6,none⟩ (.int .i64 x.r.un)).drew):=⟨BoxA.drewB ((bR1.other7 n12 (.int .i64 y.r.src) (.int .i64 y.r.bor) (.int .i64 y.r.pap) (.slice y.A y.n y.c) (.int .i64 y.r.day) (.int .i64 y.r.kn) (.int .i64 y.r.un)).set7 (.int .i64 x.r.src) (.int .i64 x.r.bor) (.int .i64 x.r.pap) (.slice x.A x.n x.c) (.int .i64 x.r.day) (.int .i64 x.r.kn) (.int .i64 x.r.un)),BoxA.drewB ((bR2.set7 (.int .i64 y.r.src) (.int .i64 y.r.bor) (.int .i64 y.r.pap) (.slice y.A y.n y.c) (.int .i64 y.r.day) (.int .i64 y.r.kn) (.int .i64 y.r.un)).other7 n21 (.int .i64 x.r.src) (.int .i64 x.r.bor) (.int .i64 x.r.pap) (.slice x.A x.n x.c) (.int .i64 x.r.day) (.int .i64 x.r.kn) (.int .i64 x.r.un)),(below_set7 (below_set7 hBf l2 (.int .i64 y.r.src) (.int .i64 y.r.bor) (.int .i64 y.r.pap) (.slice y.A y.n y.c) (.int .i64 y.r.day) (.int .i64 y.r.kn) (.int .i64 y.r.un)) l1 (.int .i64 x.r.src) (.int .i64 x.r.bor) (.int .i64 x.r.pap) (.slice x.A x.n x.c) (.int .i64 x.r.day) (.int .i64 x.r.kn) (.int .i64 x.r.un)).drew⟩
        have HGA:=hd_ GA
        have HGB:=hd_ GB
        clear GA GB
        refine wp_named2 fun f1' V1 hf1' hV1=>?_
        subst hV1
        refine wp_cut2 (fun a' W'=>a'={ tmps:=((f1'.tmps.setIfInBounds 31 (rvV x)).setIfInBounds 32 (rvV y)).setIfInBounds 4 (.bool true),defers:=[] }∧BoxA W' (w.heap.size+1) 79 #[.int .i64 x.r.src,.int .i64 x.r.bor,.int .i64 x.r.pap,.slice x.A x.n x.c,.int .i64 x.r.day,.int .i64 x.r.kn,.int .i64 x.r.un]∧BoxA W' (w.heap.size+1+1) 79 #[.int .i64 y.r.src,.int .i64 y.r.bor,.int .i64 y.r.pap,.slice y.A y.n y.c,.int .i64 y.r.day,.int .i64 y.r.kn,.int .i64 y.r.un]∧Below w.heap.size w W') ?reg ?rest
        case reg =>
         subst hf1'
         clear HCL HFJ HXk HJ HX HL HAD HB0 HB1 HB2 HBX HW1 HW2 HDR HW4 k0 m0 mX hcap2
         go_region
         all_goals
          refine ⟨rfl,?_⟩
          first
           | with_reducible exact HGA.out
           | with_reducible exact HGB.out
        case rest =>
         clear cX5 cY5 c1 c2 f1 f2
         subst hf1'
         rintro a' W' ⟨rfl,g1,g2,gB⟩
         simp only [List.setIfInBounds_toArray,List.set_cons_zero,List.set_cons_succ]
         have d1:=g1.cell
         have d2:=g2.cell
         have q1:=g1.lt
         have q2:=g2.lt
         go_wp2
         refine bodyPost_ret (v:=.tuple #[.agg #[.int .i64 x.r.src,.int .i64 x.r.bor,.int .i64 x.r.pap,.slice x.A x.n x.c,.int .i64 x.r.day,.int .i64 x.r.kn,.int .i64 x.r.un],.agg #[.int .i64 y.r.src,.int .i64 y.r.bor,.int .i64 y.r.pap,.slice y.A y.n y.c,.int .i64 y.r.day,.int .i64 y.r.kn,.int .i64 y.r.un],.bool true]) ?_ rfl ?_
         ·(simp [results,Tryz.f80,go_sem];try go_simp)
         ·exact ⟨gB,rfl⟩
      | false =>
        have hcall:=HAD.out x y false W4 hBW4 hmx hmy hct
        have HF:=hd_ (find_step2 (p:=fun y=>dblB M P x.r y.r) HJ.out hct HFJ.out)
        rw [← hW4] at hcall
        clear hct
        have HW4:=hd_ hW4
        clear hW4
        go_wp2_with (go_at_call 84;refine hcall.mono ?_;rintro e w5 ⟨rfl,hb5'⟩;have hb5:Below W4.heap.size W4 w5:=(by rw [← HW4.out];exact hb5');have hs5:=hb5.size)
        have hs4:=hB4.size
        go_roundw
        case rel=>exact ⟨j+1,by omega,by go_num,HF.out,hB3.trans ((hB4.trans (hb5.mono hs4)).mono (by omega))⟩
        case measure=>exact ms_
     ·have hfn:(xs.drop (k+1)).find? (fun y=>dblB M P x.r y.r)=none:=by
       have h1:=HFJ.out
       rwa [List.take_of_length_le (by rw [List.length_drop,HL.out];omega)] at h1
      have HN:=hd_ (dbl2_none HXk.out hfn HCL.out)
      clear hfn
      go_wp2
      go_roundw
      case rel=>exact ⟨k+1,by omega,by go_num,HN.out,hB1r⟩
      case measure=>exact ms_
  ·have hkn:Hid (k=Rn):=by show _=_;omega
   have ho:q=none:=by
    rw [← HCL.out,List.drop_eq_nil_of_le (by rw [HL.out,hkn.out];exact lr_)];rfl
   subst ho
   have bR1:=HB1.out.ext hB
   have bR2:=HB2.out.ext hB
   have c1:=bR1.cell
   have c2:=bR2.cell
   have z15:=bR1.lt
   have z25:=bR2.lt
   have f1:∀ j,wo.frozen? ⟨w.heap.size+1,j,none⟩=false:=fun j=>by simp [World.frozen?,show wo.heap[w.heap.size+1]?=_ from bR1]
   have f2:∀ j,wo.frozen? ⟨w.heap.size+1+1,j,none⟩=false:=fun j=>by simp [World.frozen?,show wo.heap[w.heap.size+1+1]?=_ from bR2]
   go_wp2
   refine bodyPost_ret (v:=.tuple #[.agg #[.int .i64 0,.int .i64 0,.int .i64 0,.slice none 0 0,.int .i64 0,.int .i64 0,.int .i64 0],.agg #[.int .i64 0,.int .i64 0,.int .i64 0,.slice none 0 0,.int .i64 0,.int .i64 0,.int .i64 0],.bool false]) ?_ rfl ?_
   ·(simp [results,Tryz.f80,go_sem];try go_simp)
   ·exact ⟨by exact bel_,rfl⟩
end Go.Proofs.YtmcmbicapdcfmaaGreat
