/- Layer 2 of the texts that LoanBack takes: Batq. -/
import Derived.Test.YtmcmbicapdcfmaaGreatBasq
set_option linter.unusedVariables false
set_option linter.unusedSimpArgs false
set_option maxHeartbeats 16000000
namespace Go.Proofs.YtmcmbicapdcfmaaGreat
open Go.RowKit Go.Maps
end Go.Proofs.YtmcmbicapdcfmaaGreat
namespace Go.Proofs.YtmcmbicapdcfmaaGreat
open Go.RowKit
attribute [local go_sem] Oper.semAt_some
theorem take_eq_succ {xs ys:List Int} {k:Nat} {x y:Int} (hx:xs[k]?=some x) (hy:ys[k]?=some y) (h:xs.take k=ys.take k):xs.take (k+1)=ys.take (k+1)↔x=y:=by
 rw [take_snoc_some hx,take_snoc_some hy,h]
 simp
theorem l_equal (xs ys:List Int) (v:Bool) (A B:Option Addr) (n c m d:Nat) (w:World) (hn:n≤1000000) (hm:m≤1000000) (hx:Is w w.heap.size A n xs) (hy:Is w w.heap.size B m ys) (hv:decide (xs=ys)=v) :
 Calls Tryz.prog 99 #[.slice A n c,.slice B m d] w fun e w'=>e=.returned (.bool v)∧Below w.heap.size w w':=by
 have HX:=hd_ hx
 have HY:=hd_ hy
 have HLX:=hd_ hx.len
 have HLY:=hd_ hy.len
 have HV:=hd_ hv
 clear hx hy hv
 by_cases hnm:n=m
 ·subst hnm
  go_enter Tryz.func99,Tryz.ntmps99
  go_wp2
  go_loopw [13] (fun i wr=>∃ k:Nat,k≤n∧i=.int .i64 k∧xs.take k=ys.take k∧Below w.heap.size w wr) (fun i _=>n - (intOf i).toNat)
  case atStart=>exact ⟨0,by omega,rfl,by simp,Below.refl _ _⟩
  case round =>
   obtain ⟨k,hk,rfl,hpre,hB⟩:=hrel
   have HP:=hd_ hpre
   clear hpre
   have hs0:w.heap.size≤wr.heap.size:=hB.size
   by_cases hlt:k<n
   ·obtain ⟨b,o,x,rfl,hb,hxk,hcx⟩:=(HX.out.ext hB lr_).at_ hlt
    obtain ⟨b',o',y,rfl,hb',hyk,hcy⟩:=(HY.out.ext hB lr_).at_ hlt
    have HXK:=hd_ hxk
    have HYK:=hd_ hyk
    clear hxk hyk
    have hbr:b<wr.heap.size:=by omega
    have hbr':b'<wr.heap.size:=by omega
    have HS:=hd_ (take_eq_succ HXK.out HYK.out HP.out)
    by_cases hxy:x=y
    ·have hb1:(x != y)=false:=by simp [hxy]
     have HXY:=hd_ hxy
     clear hxy
     go_wp2_with fail
     (refine rg_ ?_;(repeat (go_big_quiet_step (fail)));refine qn_ fun w1 hb1 hc1 hf1=>?_)
     go_wp2_with fail
     go_roundw
     case rel=>exact ⟨k+1,by omega,by go_num,HS.out.2 HXY.out,bt_ hB hb1⟩
     case measure=>exact ms_
    ·have hb1:(x != y)=true:=by simp [hxy]
     have HXY:=hd_ hxy
     clear hxy
     go_wp2_with fail
     (refine rg_ ?_;(repeat (go_big_quiet_step (fail)));refine qn_ fun w1 hb1 hc1 hf1=>?_)
     go_wp2_with fail
     go_ret
     refine ⟨ret_bool ?_,bt_ hB hb1⟩
     rw [← HV.out]
     symm
     apply decide_eq_false
     intro e
     exact HXY.out (HS.out.1 (by rw [e]))
   ·have hkn:k=n:=by omega
    have HKn:=hd_ hkn
    clear hkn
    go_wp2
    go_ret
    refine ⟨ret_bool ?_,hB⟩
    rw [← HV.out]
    symm
    apply decide_eq_true
    have h1:=HP.out
    rwa [List.take_of_length_le (by rw [HLX.out,HKn.out];exact lr_),List.take_of_length_le (by rw [HLY.out,HKn.out];exact lr_)] at h1
 ·have h1:((n:Int) != (m:Int))=true:=by simp;omega
  go_enter Tryz.func99,Tryz.ntmps99
  go_wp2
  go_ret
  refine ⟨ret_bool ?_,Below.refl _ _⟩
  rw [← HV.out]
  symm
  apply decide_eq_false
  intro e
  exact hnm (by rw [← HLX.out,← HLY.out,e])
end Go.Proofs.YtmcmbicapdcfmaaGreat
namespace Go.Proofs.YtmcmbicapdcfmaaGreat
open Go.RowKit Go.Maps
def dbl2 (M:List ((Int × Int) × Nat)) (P:List (Int × Int)):List Rv→Option (Rv × Rv)
 | []=>none
 | x :: l=>match l.find? (fun y=>dblB M P x.r y.r) with
   | some y=>some (x,y)
   | none=>dbl2 M P l
theorem dbl2_some {M:List ((Int × Int) × Nat)} {P:List (Int × Int)} {xs:List Rv} {k:Nat} {x y:Rv} {o:Option (Rv × Rv)} (hx:xs[k]?=some x) (hf:(xs.drop (k+1)).find? (fun y=>dblB M P x.r y.r)=some y) (ho:dbl2 M P (xs.drop k)=o):o=some (x,y):=by
 have hlt:k<xs.length:=(List.getElem?_eq_some_iff.1 hx).1
 rw [List.drop_eq_getElem_cons hlt,(List.getElem?_eq_some_iff.1 hx).2,dbl2,hf] at ho
 exact ho.symm
theorem dbl2_none {M:List ((Int × Int) × Nat)} {P:List (Int × Int)} {xs:List Rv} {k:Nat} {x:Rv} {o:Option (Rv × Rv)} (hx:xs[k]?=some x) (hf:(xs.drop (k+1)).find? (fun y=>dblB M P x.r y.r)=none) (ho:dbl2 M P (xs.drop k)=o):dbl2 M P (xs.drop (k+1))=o:=by
 have hlt:k<xs.length:=(List.getElem?_eq_some_iff.1 hx).1
 rw [List.drop_eq_getElem_cons hlt,(List.getElem?_eq_some_iff.1 hx).2,dbl2,hf] at ho
 exact ho
theorem find_at2 {α:Type} {l:List α} {p:α→Bool} {j:Nat} {y:α} (hy:l[j]?=some y) (hp:p y=true) (hn:(l.take j).find? p=none):l.find? p=some y:=by
 have hlt:j<l.length:=(List.getElem?_eq_some_iff.1 hy).1
 have e:l=l.take j ++ y :: l.drop (j+1):=by
  have h:=List.take_append_drop j l
  rw [List.drop_eq_getElem_cons hlt,(List.getElem?_eq_some_iff.1 hy).2] at h
  exact h.symm
 rw [e,List.find?_append,hn,List.find?_cons,hp]
 rfl
theorem find_step2 {α:Type} {l:List α} {p:α→Bool} {j:Nat} {y:α} (hy:l[j]?=some y) (hp:p y=false) (hn:(l.take j).find? p=none):(l.take (j+1)).find? p=none:=by
 rw [take_snoc_some hy,List.find?_append,hn,List.find?_cons,hp]
 rfl
theorem Sq.drop_ {α:Type} {Q:World→Nat→Nat→Nat→α→Prop} {size:Nat} {w:World} {B n b o k:Nat} {xs:List α} (h:Sq Q size w B (some ⟨b,o,none⟩) n xs) (hk:k≤n):Sq Q size w B (some ⟨b,o+k*size,none⟩) (n - k) (xs.drop k):=by
 refine ⟨by rw [List.length_drop,h.1],fun h0=>?_⟩
 obtain ⟨b',o',e,hb,hc⟩:=h.2 (by omega)
 cases e
 refine ⟨b,o+k*size,rfl,hb,fun j x hx=>?_⟩
 rw [List.getElem?_drop] at hx
 have:=hc _ _ hx
 rwa [show o+(k+j)*size=o+k*size+j*size from by rw [Nat.add_mul];omega] at this
theorem BoxA.drewB {W:World} {B:Nat} {t:TypeId} {cs:Array Value} (h:BoxA W B t cs):BoxA W.drew B t cs:=h
theorem BoxA.set7 {W:World} {B:Nat} {t:TypeId} {a0 a1 a2 a3 a4 a5 a6:Value} (h:BoxA W B t #[a0,a1,a2,a3,a4,a5,a6]) (b0 b1 b2 b3 b4 b5 b6:Value):BoxA (((((((W.setCell ⟨B,0,none⟩ b0).setCell ⟨B,1,none⟩ b1).setCell ⟨B,2,none⟩ b2).setCell ⟨B,3,none⟩ b3).setCell ⟨B,4,none⟩ b4).setCell ⟨B,5,none⟩ b5).setCell ⟨B,6,none⟩ b6) B t #[b0,b1,b2,b3,b4,b5,b6]:=by
 have h2:=(((((((h.set 0 b0).set 1 b1).set 2 b2).set 3 b3).set 4 b4).set 5 b5).set 6 b6)
 simpa only [List.setIfInBounds_toArray,List.set_cons_zero,List.set_cons_succ] using h2
theorem BoxA.other7 {W:World} {B C:Nat} {t:TypeId} {cs:Array Value} (h:BoxA W B t cs) (hne:B≠C) (b0 b1 b2 b3 b4 b5 b6:Value):BoxA (((((((W.setCell ⟨C,0,none⟩ b0).setCell ⟨C,1,none⟩ b1).setCell ⟨C,2,none⟩ b2).setCell ⟨C,3,none⟩ b3).setCell ⟨C,4,none⟩ b4).setCell ⟨C,5,none⟩ b5).setCell ⟨C,6,none⟩ b6) B t cs:=(((((((h.other hne b0).other hne b1).other hne b2).other hne b3).other hne b4).other hne b5).other hne b6)
theorem below_set7 {u W:World} {D C:Nat} (h:Below D u W) (hl:D≤C) (b0 b1 b2 b3 b4 b5 b6:Value):Below D u (((((((W.setCell ⟨C,0,none⟩ b0).setCell ⟨C,1,none⟩ b1).setCell ⟨C,2,none⟩ b2).setCell ⟨C,3,none⟩ b3).setCell ⟨C,4,none⟩ b4).setCell ⟨C,5,none⟩ b5).setCell ⟨C,6,none⟩ b6):=(((((((h.setCell hl b0).setCell hl b1).setCell hl b2).setCell hl b3).setCell hl b4).setCell hl b5).setCell hl b6)
def RetDbl (o:Option (Rv × Rv)) (w:World) (e:Ending) (w':World):Prop:=Below w.heap.size w w'∧match o with
 | none=>e=.returned (.tuple #[.agg #[.int .i64 0,.int .i64 0,.int .i64 0,.slice none 0 0,.int .i64 0,.int .i64 0,.int .i64 0],.agg #[.int .i64 0,.int .i64 0,.int .i64 0,.slice none 0 0,.int .i64 0,.int .i64 0,.int .i64 0],.bool false])
 | some p=>e=.returned (.tuple #[rvV p.1,rvV p.2,.bool true])
set_option maxRecDepth 100000 in
theorem p_double (M:List ((Int × Int) × Nat)) (R:List Rcp) (P:List (Int × Int)) (xs:List Rv) (a:Acc) (w:World) (h:AccR w a M R P) (hx:Sq QV 7 w w.heap.size a.RA a.Rn xs) (hR:xs.map Rv.r=R) :
 Calls Tryz.prog 80 #[accV a] w (RetDbl (dbl2 M P xs) w):=by
 obtain ⟨⟨pA,pn,pc,rA,rn,rc,tA,tn,tc,sA,sn,sc⟩,kn,RA,Rn,Rc,SA,Sn,Sc,bm,TA,Tn,Tc,PA,Pn,Pc⟩:=a
 have hin:∀ x∈xs,RvIn w x:=fun v hv=>by
  obtain ⟨k,hk⟩:=List.getElem?_of_mem hv
  obtain ⟨b,o,y,_,_,hy,hq⟩:=hx.at_ (k:=k) (by rw [← hx.len];exact (List.getElem?_eq_some_iff.1 hk).1)
  obtain rfl:v=y:=Option.some.inj (hk.symm.trans hy)
  have ho:=h.okR v.r (by rw [← hR];exact List.mem_map.2 ⟨v,hv,rfl⟩)
  exact ⟨hq.2.1,by rw [← hq.2.1.len];exact ho.1,ho.2.1,ho.2.2⟩
 have HAD:Hid (∀ (x y:Rv) (q:Bool) (W:World),Below w.heap.size w W→x∈xs→y∈xs→dblB M P x.r y.r=q→Calls Tryz.prog 84 #[.agg #[.slice pA pn pc,.slice rA rn rc,.slice tA tn tc,.slice sA sn sc,.int .i64 kn,.slice RA Rn Rc,.slice SA Sn Sc,.map (some bm),.slice TA Tn Tc,.slice PA Pn Pc],.agg #[.int .i64 x.r.src,.int .i64 x.r.bor,.int .i64 x.r.pap,.slice x.A x.n x.c,.int .i64 x.r.day,.int .i64 x.r.kn,.int .i64 x.r.un],.agg #[.int .i64 y.r.src,.int .i64 y.r.bor,.int .i64 y.r.pap,.slice y.A y.n y.c,.int .i64 y.r.day,.int .i64 y.r.kn,.int .i64 y.r.un]] W fun e w'=>e=.returned (.bool q)∧Below W.heap.size W w'):=by
  show ∀ _,_
  intro x y q W hW h1 h2 h3
  rw [← h3]
  exact p_areDouble M R P ⟨⟨pA,pn,pc,rA,rn,rc,tA,tn,tc,sA,sn,sc⟩,kn,RA,Rn,Rc,SA,Sn,Sc,bm,TA,Tn,Tc,PA,Pn,Pc⟩ x y W (h.now hW) ((hin x h1).now hW) ((hin y h2).now hW)
 have HX:Hid (Sq QV 7 w w.heap.size RA Rn xs):=by show Sq _ _ _ _ _ _ _;exact hx
 have HL:Hid (xs.length=Rn):=by show _=_;exact hx.len
 have hN:Rn≤1000000:=h.nR
 have hNc:Rn≤Rc:=h.cR.1
 show Calls _ _ #[.agg #[.slice pA pn pc,.slice rA rn rc,.slice tA tn tc,.slice sA sn sc,.int .i64 kn,.slice RA Rn Rc,.slice SA Sn Sc,.map (some bm),.slice TA Tn Tc,.slice PA Pn Pc]] _ _
 obtain ⟨q,hq⟩:∃ q,dbl2 M P xs=q:=⟨_,rfl⟩
 rw [hq]
 have HQ:=hd_ hq
 clear h hx hR hin hq
 obtain ⟨W1,hW1⟩:∃ W1,(((w.alloc (.cells #[.slice pA pn pc,.slice rA rn rc,.slice tA tn tc,.slice sA sn sc,.int .i64 kn,.slice RA Rn Rc,.slice SA Sn Sc,.map (some bm),.slice TA Tn Tc,.slice PA Pn Pc] 115)).alloc (.cells #[.int .i64 0,.int .i64 0,.int .i64 0,.slice none 0 0,.int .i64 0,.int .i64 0,.int .i64 0] 79)).alloc (.cells #[.int .i64 0,.int .i64 0,.int .i64 0,.slice none 0 0,.int .i64 0,.int .i64 0,.int .i64 0] 79))=W1:=⟨_,rfl⟩
 have hB0:Below w.heap.size w W1:=by rw [← hW1];exact bel_
 have hz1:w.heap.size+3≤W1.heap.size:=by rw [← hW1];simp
 have b0:BoxA W1 w.heap.size 115 #[.slice pA pn pc,.slice rA rn rc,.slice tA tn tc,.slice sA sn sc,.int .i64 kn,.slice RA Rn Rc,.slice SA Sn Sc,.map (some bm),.slice TA Tn Tc,.slice PA Pn Pc]:=by rw [← hW1];exact ((BoxA.new _ _ _).alloc _).alloc _
 have b1:BoxA W1 (w.heap.size+1) 79 #[.int .i64 0,.int .i64 0,.int .i64 0,.slice none 0 0,.int .i64 0,.int .i64 0,.int .i64 0]:=by rw [← hW1];have h:=(BoxA.new (w.alloc (.cells #[.slice pA pn pc,.slice rA rn rc,.slice tA tn tc,.slice sA sn sc,.int .i64 kn,.slice RA Rn Rc,.slice SA Sn Sc,.map (some bm),.slice TA Tn Tc,.slice PA Pn Pc] 115)) 79 #[.int .i64 0,.int .i64 0,.int .i64 0,.slice none 0 0,.int .i64 0,.int .i64 0,.int .i64 0]).alloc (.cells #[.int .i64 0,.int .i64 0,.int .i64 0,.slice none 0 0,.int .i64 0,.int .i64 0,.int .i64 0] 79);simpa using h
 have b2:BoxA W1 (w.heap.size+1+1) 79 #[.int .i64 0,.int .i64 0,.int .i64 0,.slice none 0 0,.int .i64 0,.int .i64 0,.int .i64 0]:=by rw [← hW1];have h:=BoxA.new ((w.alloc (.cells #[.slice pA pn pc,.slice rA rn rc,.slice tA tn tc,.slice sA sn sc,.int .i64 kn,.slice RA Rn Rc,.slice SA Sn Sc,.map (some bm),.slice TA Tn Tc,.slice PA Pn Pc] 115)).alloc (.cells #[.int .i64 0,.int .i64 0,.int .i64 0,.slice none 0 0,.int .i64 0,.int .i64 0,.int .i64 0] 79)) 79 #[.int .i64 0,.int .i64 0,.int .i64 0,.slice none 0 0,.int .i64 0,.int .i64 0,.int .i64 0];simpa using h
 have HW1:=hd_ hW1
 have HB0:=hd_ b0
 have HB1:=hd_ b1
 have HB2:=hd_ b2
 clear hW1 b0 b1 b2
 go_enter Tryz.func80,Tryz.ntmps80
 go_wp2
 go_loopw [12] (fun i wr=>∃ k:Nat,k≤Rn∧i=.int .i64 k∧dbl2 M P (xs.drop k)=q∧Below W1.heap.size W1 wr) (fun i _=>Rn - (intOf i).toNat)
 case atStart=>exact ⟨0,by omega,rfl,HQ.out,by rw [HW1.out];exact Below.refl _ _⟩
 case round =>
  obtain ⟨k,hk,rfl,hcl,hB⟩:=hrel
  obtain ⟨wo,hwo⟩:∃ wo:World,wo=wr:=⟨_,rfl⟩
  subst hwo
  have HCL:=hd_ hcl
  clear hcl
  have hso:=hB.size
  have hBw:Below w.heap.size w wo:=hB0.trans (hB.mono (by omega))
  have k0:=(HB0.out.ext hB).cell
  have z0:w.heap.size<wo.heap.size:=by omega
  by_cases hlt:k<Rn
  ·obtain ⟨b,o,x,rfl,hb,hx,⟨h0,h1,h2,h3,h4,h5,h6⟩,hi,hc,hm⟩:=(Sq.ext HX.out abV hBw lr_).at_ hlt
   have hbr:b<wo.heap.size:=by omega
   have HXk:=hd_ hx
   have hmx:=List.mem_of_getElem? hx
   clear hx hi hc hm
   obtain ⟨W2,hW2⟩:∃ W2,wo.alloc (.cells #[.int .i64 x.r.src,.int .i64 x.r.bor,.int .i64 x.r.pap,.slice x.A x.n x.c,.int .i64 x.r.day,.int .i64 x.r.kn,.int .i64 x.r.un] 79)=W2:=⟨_,rfl⟩
   have hB2:Below wo.heap.size wo W2:=by rw [← hW2];exact (Below.refl _ _).alloc lr_ _
   have bX:BoxA W2 wo.heap.size 79 #[.int .i64 x.r.src,.int .i64 x.r.bor,.int .i64 x.r.pap,.slice x.A x.n x.c,.int .i64 x.r.day,.int .i64 x.r.kn,.int .i64 x.r.un]:=by rw [← hW2];exact BoxA.new _ _ _
   have HBX:=hd_ bX
   have HW2:=hd_ hW2
   have hs2:wo.heap.size<W2.heap.size:=bX.lt
   clear hW2 bX
   by_cases hcap:Rc=k+1
   ·have hnk:Rn=k+1:=by omega
    have hfn:(xs.drop (k+1)).find? (fun y=>dblB M P x.r y.r)=none:=by
     rw [List.drop_eq_nil_of_le (by rw [HL.out];omega)];rfl
    have HN:=hd_ (dbl2_none HXk.out hfn HCL.out)
    have HNK:=hd_ hnk
    clear hfn
    go_wp2
    go_loopw [23] (fun i wr=>i=.int .i64 0∧Below W2.heap.size W2 wr) (fun _ _=>0)
    case atStart=>exact ⟨rfl,by rw [HW2.out];exact Below.refl _ _⟩
    case round =>
     obtain ⟨rfl,hB3⟩:=hrel
     have hz:Rn - (k+1)=0:=by have:=HNK.out;omega
     go_wp2
     go_roundw
     case rel=>exact ⟨k+1,by omega,by go_num,HN.out,hB.trans ((hB2.trans (hB3.mono (by omega))).mono (by omega))⟩
     case measure=>exact ms_
   ·have hcap2:¬ (k+1=Rc):=fun h=>hcap h.symm
    have HDR:=hd_ (HX.out.drop_ (k:=k+1) (by omega))
    go_wp2
    go_loopw [23] (fun i wr=>∃ j:Nat,j≤Rn - (k+1)∧i=.int .i64 j∧((xs.drop (k+1)).take j).find? (fun y=>dblB M P x.r y.r)=none∧Below W2.heap.size W2 wr) (fun i _=>(Rn - (k+1)) - (intOf i).toNat)
    case atStart=>exact ⟨0,by omega,rfl,rfl,by rw [HW2.out];exact Below.refl _ _⟩
    case round =>
     obtain ⟨j,hj,rfl,hfj,hB3⟩:=hrel
     have HFJ:=hd_ hfj
     clear hfj
     have hs3:=hB3.size
     have hBo:Below wo.heap.size wo wr:=hB2.trans (hB3.mono (by omega))
     have hBW:Below w.heap.size w wr:=hBw.trans (hBo.mono (by omega))
     have hB1r:Below W1.heap.size W1 wr:=hB.trans (hBo.mono (by omega))
     have m0:=(HB0.out.ext hB1r).cell
     have y0:w.heap.size<wr.heap.size:=by omega
     have bXr:=HBX.out.ext hB3
     have mX:=bXr.cell
     have yX:=bXr.lt
     by_cases hlj:j<Rn - (k+1)
     ·obtain ⟨b',o',y,e',hb',hy,⟨p0,p1,p2,p3,p4,p5,p6⟩,_,_⟩:=(HDR.out.ext abV hBW lr_).at_ hlj
      obtain ⟨rfl,rfl⟩:b=b'∧o+(k+1)*7=o':=by simpa using e'
      have HJ:=hd_ hy
      have hmy:y∈xs:=List.mem_of_mem_drop (List.mem_of_getElem? hy)
      clear hy e'
      have hbr2:b<wr.heap.size:=by omega
      obtain ⟨W4,hW4⟩:∃ W4,wr.alloc (.cells #[.int .i64 y.r.src,.int .i64 y.r.bor,.int .i64 y.r.pap,.slice y.A y.n y.c,.int .i64 y.r.day,.int .i64 y.r.kn,.int .i64 y.r.un] 79)=W4:=⟨_,rfl⟩
      have hB4:Below wr.heap.size wr W4:=by rw [← hW4];exact (Below.refl _ _).alloc lr_ _
      have bY:BoxA W4 wr.heap.size 79 #[.int .i64 y.r.src,.int .i64 y.r.bor,.int .i64 y.r.pap,.slice y.A y.n y.c,.int .i64 y.r.day,.int .i64 y.r.kn,.int .i64 y.r.un]:=by rw [← hW4];exact BoxA.new _ _ _
      have hBW4:Below w.heap.size w W4:=hBW.trans (hB4.mono (by omega))
      cases hct:dblB M P x.r y.r with
      | true =>
        have hcall:=HAD.out x y true W4 hBW4 hmx hmy hct
        have ho:=dbl2_some HXk.out (find_at2 (p:=fun y=>dblB M P x.r y.r) HJ.out hct HFJ.out) HCL.out
        subst ho
        rw [← hW4] at hcall
        clear hct
        have HW4:=hd_ hW4
        clear hW4
        go_wp2_with (go_at_call 84;refine hcall.mono ?_;rintro e w5 ⟨rfl,hb5'⟩;have hb5:Below W4.heap.size W4 w5:=(by rw [← HW4.out];exact hb5');have bX5:=(bXr.ext hB4).ext hb5;have bY5:=bY.ext hb5;have bR1:=((HB1.out.ext hB1r).ext hB4).ext hb5;have bR2:=((HB2.out.ext hB1r).ext hB4).ext hb5;have cX5:=bX5.cell;have cY5:=bY5.cell;have c1:=bR1.cell;have c2:=bR2.cell;have zX5:=bX5.lt;have zY5:=bY5.lt;have z15:=bR1.lt;have z25:=bR2.lt;have hs5:=hb5.size)
        have hBf:Below w.heap.size w w5:=hBW4.trans (hb5.mono hBW4.size)
        have f1:∀ j,w5.frozen? ⟨w.heap.size+1,j,none⟩=false:=fun j=>by simp [World.frozen?,show w5.heap[w.heap.size+1]?=_ from bR1]
        have f2:∀ j,w5.frozen? ⟨w.heap.size+1+1,j,none⟩=false:=fun j=>by simp [World.frozen?,show w5.heap[w.heap.size+1+1]?=_ from bR2]
        have n1:wo.heap.size≠w.heap.size+1:=by omega
        have n2:wo.heap.size≠w.heap.size+1+1:=by omega
        have n3:wr.heap.size≠w.heap.size+1:=by omega
        have n4:wr.heap.size≠w.heap.size+1+1:=by omega
        have n12:w.heap.size+1≠w.heap.size+1+1:=by omega
        have n21:w.heap.size+1+1≠w.heap.size+1:=by omega
        have l1:w.heap.size≤w.heap.size+1:=by omega
        have l2:w.heap.size≤w.heap.size+1+1:=by omega
        have GA:BoxA (((((((((((((((w5.setCell ⟨w.heap.size+1,0,none⟩ (.int .i64 x.r.src)).setCell ⟨w.heap.size+1,1,none⟩ (.int .i64 x.r.bor)).setCell ⟨w.heap.size+1,2,none⟩ (.int .i64 x.r.pap)).setCell ⟨w.heap.size+1,3,none⟩ (.slice x.A x.n x.c)).setCell ⟨w.heap.size+1,4,none⟩ (.int .i64 x.r.day)).setCell ⟨w.heap.size+1,5,none⟩ (.int .i64 x.r.kn)).setCell ⟨w.heap.size+1,6,none⟩ (.int .i64 x.r.un)).setCell ⟨w.heap.size+1+1,0,none⟩ (.int .i64 y.r.src)).setCell ⟨w.heap.size+1+1,1,none⟩ (.int .i64 y.r.bor)).setCell ⟨w.heap.size+1+1,2,none⟩ (.int .i64 y.r.pap)).setCell ⟨w.heap.size+1+1,3,none⟩ (.slice y.A y.n y.c)).setCell ⟨w.heap.size+1+1,4,none⟩ (.int .i64 y.r.day)).setCell ⟨w.heap.size+1+1,5,none⟩ (.int .i64 y.r.kn)).setCell ⟨w.heap.size+1+1,6,none⟩ (.int .i64 y.r.un)).drew) (w.heap.size+1) 79 #[.int .i64 x.r.src,.int .i64 x.r.bor,.int .i64 x.r.pap,.slice x.A x.n x.c,.int .i64 x.r.day,.int .i64 x.r.kn,.int .i64 x.r.un]∧BoxA (((((((((((((((w5.setCell ⟨w.heap.size+1,0,none⟩ (.int .i64 x.r.src)).setCell ⟨w.heap.size+1,1,none⟩ (.int .i64 x.r.bor)).setCell ⟨w.heap.size+1,2,none⟩ (.int .i64 x.r.pap)).setCell ⟨w.heap.size+1,3,none⟩ (.slice x.A x.n x.c)).setCell ⟨w.heap.size+1,4,none⟩ (.int .i64 x.r.day)).setCell ⟨w.heap.size+1,5,none⟩ (.int .i64 x.r.kn)).setCell ⟨w.heap.size+1,6,none⟩ (.int .i64 x.r.un)).setCell ⟨w.heap.size+1+1,0,none⟩ (.int .i64 y.r.src)).setCell ⟨w.heap.size+1+1,1,none⟩ (.int .i64 y.r.bor)).setCell ⟨w.heap.size+1+1,2,none⟩ (.int .i64 y.r.pap)).setCell ⟨w.heap.size+1+1,3,none⟩ (.slice y.A y.n y.c)).setCell ⟨w.heap.size+1+1,4,none⟩ (.int .i64 y.r.day)).setCell ⟨w.heap.size+1+1,5,none⟩ (.int .i64 y.r.kn)).setCell ⟨w.heap.size+1+1,6,none⟩ (.int .i64 y.r.un)).drew) (w.heap.size+1+1) 79 #[.int .i64 y.r.src,.int .i64 y.r.bor,.int .i64 y.r.pap,.slice y.A y.n y.c,.int .i64 y.r.day,.int .i64 y.r.kn,.int .i64 y.r.un]∧Below w.heap.size w (((((((((((((((w5.setCell ⟨w.heap.size+1,0,none⟩ (.int .i64 x.r.src)).setCell ⟨w.heap.size+1,1,none⟩ (.int .i64 x.r.bor)).setCell ⟨w.heap.size+1,2,none⟩ (.int .i64 x.r.pap)).setCell ⟨w.heap.size+1,3,none⟩ (.slice x.A x.n x.c)).setCell ⟨w.heap.size+1,4,none⟩ (.int .i64 x.r.day)).setCell ⟨w.heap.size+1,5,none⟩ (.int .i64 x.r.kn)).setCell ⟨w.heap.size+1,6,none⟩ (.int .i64 x.r.un)).setCell ⟨w.heap.size+1+1,0,none⟩ (.int .i64 y.r.src)).setCell ⟨w.heap.size+1+1,1,none⟩ (.int .i64 y.r.bor)).setCell ⟨w.heap.size+1+1,2,none⟩ (.int .i64 y.r.pap)).setCell ⟨w.heap.size+1+1,3,none⟩ (.slice y.A y.n y.c)).setCell ⟨w.heap.size+1+1,4,none⟩ (.int .i64 y.r.day)).setCell ⟨w.heap.size+1+1,5,none⟩ (.int .i64 y.r.kn)).setCell ⟨w.heap.size+1+1,6,none⟩ (.int .i64 y.r.un)).drew):=⟨BoxA.drewB ((bR1.set7 (.int .i64 x.r.src) (.int .i64 x.r.bor) (.int .i64 x.r.pap) (.slice x.A x.n x.c) (.int .i64 x.r.day) (.int .i64 x.r.kn) (.int .i64 x.r.un)).other7 n12 (.int .i64 y.r.src) (.int .i64 y.r.bor) (.int .i64 y.r.pap) (.slice y.A y.n y.c) (.int .i64 y.r.day) (.int .i64 y.r.kn) (.int .i64 y.r.un)),BoxA.drewB ((bR2.other7 n21 (.int .i64 x.r.src) (.int .i64 x.r.bor) (.int .i64 x.r.pap) (.slice x.A x.n x.c) (.int .i64 x.r.day) (.int .i64 x.r.kn) (.int .i64 x.r.un)).set7 (.int .i64 y.r.src) (.int .i64 y.r.bor) (.int .i64 y.r.pap) (.slice y.A y.n y.c) (.int .i64 y.r.day) (.int .i64 y.r.kn) (.int .i64 y.r.un)),(below_set7 (below_set7 hBf l1 (.int .i64 x.r.src) (.int .i64 x.r.bor) (.int .i64 x.r.pap) (.slice x.A x.n x.c) (.int .i64 x.r.day) (.int .i64 x.r.kn) (.int .i64 x.r.un)) l2 (.int .i64 y.r.src) (.int .i64 y.r.bor) (.int .i64 y.r.pap) (.slice y.A y.n y.c) (.int .i64 y.r.day) (.int .i64 y.r.kn) (.int .i64 y.r.un)).drew⟩
        have GB:BoxA (((((((((((((((w5.setCell ⟨w.heap.size+1+1,0,none⟩ (.int .i64 y.r.src)).setCell ⟨w.heap.size+1+1,1,none⟩ (.int .i64 y.r.bor)).setCell ⟨w.heap.size+1+1,2,none⟩ (.int .i64 y.r.pap)).setCell ⟨w.heap.size+1+1,3,none⟩ (.slice y.A y.n y.c)).setCell ⟨w.heap.size+1+1,4,none⟩ (.int .i64 y.r.day)).setCell ⟨w.heap.size+1+1,5,none⟩ (.int .i64 y.r.kn)).setCell ⟨w.heap.size+1+1,6,none⟩ (.int .i64 y.r.un)).setCell ⟨w.heap.size+1,0,none⟩ (.int .i64 x.r.src)).setCell ⟨w.heap.size+1,1,none⟩ (.int .i64 x.r.bor)).setCell ⟨w.heap.size+1,2,none⟩ (.int .i64 x.r.pap)).setCell ⟨w.heap.size+1,3,none⟩ (.slice x.A x.n x.c)).setCell ⟨w.heap.size+1,4,none⟩ (.int .i64 x.r.day)).setCell ⟨w.heap.size+1,5,none⟩ (.int .i64 x.r.kn)).setCell ⟨w.heap.size+1,6,none⟩ (.int .i64 x.r.un)).drew) (w.heap.size+1) 79 #[.int .i64 x.r.src,.int .i64 x.r.bor,.int .i64 x.r.pap,.slice x.A x.n x.c,.int .i64 x.r.day,.int .i64 x.r.kn,.int .i64 x.r.un]∧BoxA (((((((((((((((w5.setCell ⟨w.heap.size+1+1,0,none⟩ (.int .i64 y.r.src)).setCell ⟨w.heap.size+1+1,1,none⟩ (.int .i64 y.r.bor)).setCell ⟨w.heap.size+1+1,2,none⟩ (.int .i64 y.r.pap)).setCell ⟨w.heap.size+1+1,3,none⟩ (.slice y.A y.n y.c)).setCell ⟨w.heap.size+1+1,4,none⟩ (.int .i64 y.r.day)).setCell ⟨w.heap.size+1+1,5,none⟩ (.int .i64 y.r.kn)).setCell ⟨w.heap.size+1+1,6,none⟩ (.int .i64 y.r.un)).setCell ⟨w.heap.size+1,0,none⟩ (.int .i64 x.r.src)).setCell ⟨w.heap.size+1,1,none⟩ (.int .i64 x.r.bor)).setCell ⟨w.heap.size+1,2,none⟩ (.int .i64 x.r.pap)).setCell ⟨w.heap.size+1,3,none⟩ (.slice x.A x.n x.c)).setCell ⟨w.heap.size+1,4,none⟩ (.int .i64 x.r.day)).setCell ⟨w.heap.size+1,5,none⟩ (.int .i64 x.r.kn)).setCell ⟨w.heap.size+1,6,none⟩ (.int .i64 x.r.un)).drew) (w.heap.size+1+1) 79 #[.int .i64 y.r.src,.int .i64 y.r.bor,.int .i64 y.r.pap,.slice y.A y.n y.c,.int .i64 y.r.day,.int .i64 y.r.kn,.int .i64 y.r.un]∧Below w.heap.size w (((((((((((((((w5.setCell ⟨w.heap.size+1+1,0,none⟩ (.int .i64 y.r.src)).setCell ⟨w.heap.size+1+1,1,none⟩ (.int .i64 y.r.bor)).setCell ⟨w.heap.size+1+1,2,none⟩ (.int .i64 y.r.pap)).setCell ⟨w.heap.size+1+1,3,none⟩ (.slice y.A y.n y.c)).setCell ⟨w.heap.size+1+1,4,none⟩ (.int .i64 y.r.day)).setCell ⟨w.heap.size+1+1,5,none⟩ (.int .i64 y.r.kn)).setCell ⟨w.heap.size+1+1,6,none⟩ (.int .i64 y.r.un)).setCell ⟨w.heap.size+1,0,none⟩ (.int .i64 x.r.src)).setCell ⟨w.heap.size+1,1,none⟩ (.int .i64 x.r.bor)).setCell ⟨w.heap.size+1,2,none⟩ (.int .i64 x.r.pap)).setCell ⟨w.heap.size+1,3,none⟩ (.slice x.A x.n x.c)).setCell ⟨w.heap.size+1,4,none⟩ (.int .i64 x.r.day)).setCell ⟨w.heap.size+1,5,none⟩ (.int .i64 x.r.kn)).setCell ⟨w.heap.size+1,6,none⟩ (.int .i64 x.r.un)).drew):=⟨BoxA.drewB ((bR1.other7 n12 (.int .i64 y.r.src) (.int .i64 y.r.bor) (.int .i64 y.r.pap) (.slice y.A y.n y.c) (.int .i64 y.r.day) (.int .i64 y.r.kn) (.int .i64 y.r.un)).set7 (.int .i64 x.r.src) (.int .i64 x.r.bor) (.int .i64 x.r.pap) (.slice x.A x.n x.c) (.int .i64 x.r.day) (.int .i64 x.r.kn) (.int .i64 x.r.un)),BoxA.drewB ((bR2.set7 (.int .i64 y.r.src) (.int .i64 y.r.bor) (.int .i64 y.r.pap) (.slice y.A y.n y.c) (.int .i64 y.r.day) (.int .i64 y.r.kn) (.int .i64 y.r.un)).other7 n21 (.int .i64 x.r.src) (.int .i64 x.r.bor) (.int .i64 x.r.pap) (.slice x.A x.n x.c) (.int .i64 x.r.day) (.int .i64 x.r.kn) (.int .i64 x.r.un)),(below_set7 (below_set7 hBf l2 (.int .i64 y.r.src) (.int .i64 y.r.bor) (.int .i64 y.r.pap) (.slice y.A y.n y.c) (.int .i64 y.r.day) (.int .i64 y.r.kn) (.int .i64 y.r.un)) l1 (.int .i64 x.r.src) (.int .i64 x.r.bor) (.int .i64 x.r.pap) (.slice x.A x.n x.c) (.int .i64 x.r.day) (.int .i64 x.r.kn) (.int .i64 x.r.un)).drew⟩
        have HGA:=hd_ GA
        have HGB:=hd_ GB
        clear GA GB
        refine wp_named2 fun f1' V1 hf1' hV1=>?_
        subst hV1
        refine wp_cut2 (fun a' W'=>a'={ tmps:=((f1'.tmps.setIfInBounds 31 (rvV x)).setIfInBounds 32 (rvV y)).setIfInBounds 4 (.bool true),defers:=[] }∧BoxA W' (w.heap.size+1) 79 #[.int .i64 x.r.src,.int .i64 x.r.bor,.int .i64 x.r.pap,.slice x.A x.n x.c,.int .i64 x.r.day,.int .i64 x.r.kn,.int .i64 x.r.un]∧BoxA W' (w.heap.size+1+1) 79 #[.int .i64 y.r.src,.int .i64 y.r.bor,.int .i64 y.r.pap,.slice y.A y.n y.c,.int .i64 y.r.day,.int .i64 y.r.kn,.int .i64 y.r.un]∧Below w.heap.size w W') ?reg ?rest
        case reg =>
         subst hf1'
         clear HCL HFJ HXk HJ HX HL HAD HB0 HB1 HB2 HBX HW1 HW2 HDR HW4 k0 m0 mX hcap2
         go_region
         all_goals
          refine ⟨rfl,?_⟩
          first
           | with_reducible exact HGA.out
           | with_reducible exact HGB.out
        case rest =>
         clear cX5 cY5 c1 c2 f1 f2
         subst hf1'
         rintro a' W' ⟨rfl,g1,g2,gB⟩
         simp only [List.setIfInBounds_toArray,List.set_cons_zero,List.set_cons_succ]
         have d1:=g1.cell
         have d2:=g2.cell
         have q1:=g1.lt
         have q2:=g2.lt
         go_wp2
         refine bodyPost_ret (v:=.tuple #[.agg #[.int .i64 x.r.src,.int .i64 x.r.bor,.int .i64 x.r.pap,.slice x.A x.n x.c,.int .i64 x.r.day,.int .i64 x.r.kn,.int .i64 x.r.un],.agg #[.int .i64 y.r.src,.int .i64 y.r.bor,.int .i64 y.r.pap,.slice y.A y.n y.c,.int .i64 y.r.day,.int .i64 y.r.kn,.int .i64 y.r.un],.bool true]) ?_ rfl ?_
         ·(simp [results,Tryz.f80,go_sem];try go_simp)
         ·exact ⟨gB,rfl⟩
      | false =>
        have hcall:=HAD.out x y false W4 hBW4 hmx hmy hct
        have HF:=hd_ (find_step2 (p:=fun y=>dblB M P x.r y.r) HJ.out hct HFJ.out)
        rw [← hW4] at hcall
        clear hct
        have HW4:=hd_ hW4
        clear hW4
        go_wp2_with (go_at_call 84;refine hcall.mono ?_;rintro e w5 ⟨rfl,hb5'⟩;have hb5:Below W4.heap.size W4 w5:=(by rw [← HW4.out];exact hb5');have hs5:=hb5.size)
        have hs4:=hB4.size
        go_roundw
        case rel=>exact ⟨j+1,by omega,by go_num,HF.out,hB3.trans ((hB4.trans (hb5.mono hs4)).mono (by omega))⟩
        case measure=>exact ms_
     ·have hfn:(xs.drop (k+1)).find? (fun y=>dblB M P x.r y.r)=none:=by
       have h1:=HFJ.out
       rwa [List.take_of_length_le (by rw [List.length_drop,HL.out];omega)] at h1
      have HN:=hd_ (dbl2_none HXk.out hfn HCL.out)
      clear hfn
      go_wp2
      go_roundw
      case rel=>exact ⟨k+1,by omega,by go_num,HN.out,hB1r⟩
      case measure=>exact ms_
  ·have hkn:Hid (k=Rn):=by show _=_;omega
   have ho:q=none:=by
    rw [← HCL.out,List.drop_eq_nil_of_le (by rw [HL.out,hkn.out];exact lr_)];rfl
   subst ho
   have bR1:=HB1.out.ext hB
   have bR2:=HB2.out.ext hB
   have c1:=bR1.cell
   have c2:=bR2.cell
   have z15:=bR1.lt
   have z25:=bR2.lt
   have f1:∀ j,wo.frozen? ⟨w.heap.size+1,j,none⟩=false:=fun j=>by simp [World.frozen?,show wo.heap[w.heap.size+1]?=_ from bR1]
   have f2:∀ j,wo.frozen? ⟨w.heap.size+1+1,j,none⟩=false:=fun j=>by simp [World.frozen?,show wo.heap[w.heap.size+1+1]?=_ from bR2]
   go_wp2
   refine bodyPost_ret (v:=.tuple #[.agg #[.int .i64 0,.int .i64 0,.int .i64 0,.slice none 0 0,.int .i64 0,.int .i64 0,.int .i64 0],.agg #[.int .i64 0,.int .i64 0,.int .i64 0,.slice none 0 0,.int .i64 0,.int .i64 0,.int .i64 0],.bool false]) ?_ rfl ?_
   ·(simp [results,Tryz.f80,go_sem];try go_simp)
   ·exact ⟨by exact bel_,rfl⟩
def dblR (M:List ((Int × Int) × Nat)) (P:List (Int × Int)):List Rcp→Option (Rcp × Rcp)
 | []=>none
 | x :: l=>match l.find? (dblB M P x) with
   | some y=>some (x,y)
   | none=>dblR M P l
theorem dbl2_map (M:List ((Int × Int) × Nat)) (P:List (Int × Int)):∀ xs:List Rv,(dbl2 M P xs).map (fun p=>(p.1.r,p.2.r))=dblR M P (xs.map Rv.r)
 | []=>rfl
 | x :: l=>by
   have h:(l.map Rv.r).find? (dblB M P x.r)=(l.find? fun y=>dblB M P x.r y.r).map Rv.r:=by rw [List.find?_map];rfl
   rw [List.map_cons,dblR,h,dbl2]
   cases l.find? fun y=>dblB M P x.r y.r with
   | none=>exact dbl2_map M P l
   | some y=>rfl
theorem dbl2_isNone (M:List ((Int × Int) × Nat)) (P:List (Int × Int)) (xs:List Rv):(dblR M P (xs.map Rv.r)).isNone=(dbl2 M P xs).isNone:=by
 rw [← dbl2_map];cases dbl2 M P xs <;> rfl
set_option maxRecDepth 10000 in
theorem p_agree (M:List ((Int × Int) × Nat)) (R:List Rcp) (P:List (Int × Int)) (a:Acc) (w:World) (h:AccR w a M R P) :
 Calls Tryz.prog 81 #[accV a] w fun e w'=>e=.returned (.int .i64 (errI (dblR M P R).isNone 25))∧Below w.heap.size w w':=by
 obtain ⟨xs,hxs,hx⟩:=rvs_of h.r
 have hfound:(dblR M P R).isNone=(dbl2 M P xs).isNone:=by rw [← hxs];exact dbl2_isNone M P xs
 rw [hfound]
 obtain ⟨⟨pA,pn,pc,rA,rn,rc,tA,tn,tc,sA,sn,sc⟩,kn,RA,Rn,Rc,SA,Sn,Sc,bm,TA,Tn,Tc,PA,Pn,Pc⟩:=a
 show Calls _ _ #[.agg #[.slice pA pn pc,.slice rA rn rc,.slice tA tn tc,.slice sA sn sc,.int .i64 kn,.slice RA Rn Rc,.slice SA Sn Sc,.map (some bm),.slice TA Tn Tc,.slice PA Pn Pc]] _ _
 obtain ⟨o,ho⟩:∃ o,dbl2 M P xs=o:=⟨_,rfl⟩
 have HN:Hid (∀ W:World,Below w.heap.size w W→Calls Tryz.prog 80 #[.agg #[.slice pA pn pc,.slice rA rn rc,.slice tA tn tc,.slice sA sn sc,.int .i64 kn,.slice RA Rn Rc,.slice SA Sn Sc,.map (some bm),.slice TA Tn Tc,.slice PA Pn Pc]] W (RetDbl o W)):=by
  show ∀ _,_
  intro W hW
  rw [← ho]
  exact p_double M R P xs ⟨⟨pA,pn,pc,rA,rn,rc,tA,tn,tc,sA,sn,sc⟩,kn,RA,Rn,Rc,SA,Sn,Sc,bm,TA,Tn,Tc,PA,Pn,Pc⟩ W (h.now hW) (hx.now abV hW) hxs
 rw [ho]
 clear ho h hx hxs hfound
 have hB0:Below w.heap.size w (w.alloc (.cells #[.slice pA pn pc,.slice rA rn rc,.slice tA tn tc,.slice sA sn sc,.int .i64 kn,.slice RA Rn Rc,.slice SA Sn Sc,.map (some bm),.slice TA Tn Tc,.slice PA Pn Pc] 115)):=by exact bel_
 cases o with
 | none =>
   go_enter Tryz.func81,Tryz.ntmps81
   go_wp2_with (first | (go_at_call 80;refine (HN.out _ hB0).mono ?_;rintro e w1 ⟨hb1,rfl⟩;have HB1:=bt_ hB0 hb1;have hs1:=HB1.size) | (go_at_call 61;refine (p_verdict _ _ _).mono ?_;rintro e w1 ⟨rfl,rfl⟩))
   go_ret
   exact ⟨rfl,by exact bel_⟩
 | some p =>
   obtain ⟨⟨x,A1,n1,c1⟩,⟨y,A2,n2,c2⟩⟩:=p
   go_enter Tryz.func81,Tryz.ntmps81
   go_wp2_with (first | (go_at_call 80;refine (HN.out _ hB0).mono ?_;rintro e w1 ⟨hb1,rfl⟩;have HB1:=bt_ hB0 hb1;have hs1:=HB1.size) | (go_at_call 61;refine (p_verdict _ _ _).mono ?_;rintro e w1 ⟨rfl,rfl⟩))
   go_ret
   exact ⟨rfl,by exact bel_⟩
def RetSet (d:Option (Rcp × Rcp)) (o:Option (List (Int × Int))) (ba n:Nat) (w:World) (e:Ending) (w':World):Prop:=match d,o with
 | some _,_=>e=.returned (.int .i64 25)∧Below w.heap.size w w'
 | none,none=>e=.returned (.int .i64 27)∧Below w.heap.size w w'
 | none,some P=>e=.returned (.int .i64 0)∧∃ w1 A c,Below w.heap.size w w1∧w1.ownsRow w.heap.size 133 2 (.slice A n c) n (folCells P)∧P.length=n∧w'=w1.setCell ⟨ba,9,none⟩ (.slice A n c)
set_option maxRecDepth 10000 in
theorem p_settle (M:List ((Int × Int) × Nat)) (R:List Rcp) (P:List (Int × Int)) (S:List Sgt) (a:Acc) (ba:Nat) (w:World) (h:AccR w a M R P) (hS:sgsOk S) (hn:a.Sn≤1000000) (hs:Sgs w w.heap.size a.SA a.Sn S)
 (hb:BoxA w ba 115 #[.slice a.x.pA a.x.pn a.x.pc,.slice a.x.rA a.x.rn a.x.rc,.slice a.x.tA a.x.tn a.x.tc,.slice a.x.sA a.x.sn a.x.sc,.int .i64 a.kn,.slice a.RA a.Rn a.Rc,.slice a.SA a.Sn a.Sc,.map (some a.bm),.slice a.TA a.Tn a.Tc,.slice a.PA a.Pn a.Pc]) :
 Calls Tryz.prog 73 #[.pointer (some ⟨ba,0,none⟩)] w (RetSet (dblR M P R) (narL M R S P) ba a.Pn w):=by
 obtain ⟨⟨pA,pn,pc,rA,rn,rc,tA,tn,tc,sA,sn,sc⟩,kn,RA,Rn,Rc,SA,Sn,Sc,bm,TA,Tn,Tc,PA,Pn,Pc⟩:=a
 obtain ⟨d,hd⟩:∃ d,dblR M P R=d:=⟨_,rfl⟩
 obtain ⟨o,ho⟩:∃ o,narL M R S P=o:=⟨_,rfl⟩
 have HG:Hid (∀ W:World,Below w.heap.size w W→Calls Tryz.prog 81 #[.agg #[.slice pA pn pc,.slice rA rn rc,.slice tA tn tc,.slice sA sn sc,.int .i64 kn,.slice RA Rn Rc,.slice SA Sn Sc,.map (some bm),.slice TA Tn Tc,.slice PA Pn Pc]] W fun e w'=>e=.returned (.int .i64 (errI d.isNone 25))∧Below W.heap.size W w'):=by
  show ∀ _,_
  intro W hW
  rw [← hd]
  exact p_agree M R P ⟨⟨pA,pn,pc,rA,rn,rc,tA,tn,tc,sA,sn,sc⟩,kn,RA,Rn,Rc,SA,Sn,Sc,bm,TA,Tn,Tc,PA,Pn,Pc⟩ W (h.now hW)
 have HN:Hid (∀ W:World,Below w.heap.size w W→Calls Tryz.prog 124 #[.agg #[.slice pA pn pc,.slice rA rn rc,.slice tA tn tc,.slice sA sn sc,.int .i64 kn,.slice RA Rn Rc,.slice SA Sn Sc,.map (some bm),.slice TA Tn Tc,.slice PA Pn Pc],.slice SA Sn Sc] W (RetNar o Pn W)):=by
  show ∀ _,_
  intro W hW
  have hk:=h.now hW
  rw [← ho]
  exact p_narrowed M R P S ⟨⟨pA,pn,pc,rA,rn,rc,tA,tn,tc,sA,sn,sc⟩,kn,RA,Rn,Rc,SA,Sn,Sc,bm,TA,Tn,Tc,PA,Pn,Pc⟩ SA Sn Sc W hk.nR (fun r hr=>⟨(hk.okR r hr).1,(hk.okR r hr).2.1⟩) hS hn hk.nP hk.aP hk.mP hk.m hk.r hk.p (hs.now abS hW)
 rw [hd,ho]
 have hb2:BoxA w ba 115 #[.slice pA pn pc,.slice rA rn rc,.slice tA tn tc,.slice sA sn sc,.int .i64 kn,.slice RA Rn Rc,.slice SA Sn Sc,.map (some bm),.slice TA Tn Tc,.slice PA Pn Pc]:=hb
 have hce:=hb2.cell
 have hlt:=hb2.lt
 clear h hS hn hs hd ho hb
 show Calls _ _ _ _ (RetSet d o ba Pn w)
 cases d with
 | some p =>
   have hg:=HG.out w (Below.refl _ _)
   simp only [Option.isNone_some,errI] at hg
   go_enter Tryz.func73,Tryz.ntmps73
   go_wp2_with (go_at_call 81;refine hg.mono ?_;rintro e w1 ⟨rfl,hb1⟩)
   go_ret
   exact ⟨rfl,hb1⟩
 | none =>
   have hg:=HG.out w (Below.refl _ _)
   simp only [Option.isNone_none,errI] at hg
   cases o with
   | none =>
     go_enter Tryz.func73,Tryz.ntmps73
     go_wp2_with (go_at_call 81;refine hg.mono ?_;rintro e w1 ⟨rfl,hb1⟩;have b1:=hb2.ext hb1;have k1:=b1.cell;have z1:=b1.lt)
     have z1d:ba<w1.drew.heap.size:=z1
     clear hce
     go_region_with (go_at_call 124;refine (HN.out w1.drew hb1.drew).mono ?_;rintro e w2 ⟨hb2',rfl⟩)
     all_goals
      go_wp2
      go_ret
      exact ⟨rfl,bt_ (W:=w1.drew) hb1.drew hb2'⟩
   | some P' =>
     go_enter Tryz.func73,Tryz.ntmps73
     go_wp2_with (go_at_call 81;refine hg.mono ?_;rintro e w1 ⟨rfl,hb1⟩;have b1:=hb2.ext hb1;have k1:=b1.cell;have z1:=b1.lt)
     have z1d:ba<w1.drew.heap.size:=z1
     clear hce
     go_region_with (go_at_call 124;refine (HN.out w1.drew hb1.drew).mono ?_;rintro e w2 ⟨hb2',v,rfl,ho2,hl2⟩;obtain ⟨A2,c2,rfl,_⟩:=own_slice ho2;have b2:BoxA w2 ba 115 #[.slice pA pn pc,.slice rA rn rc,.slice tA tn tc,.slice sA sn sc,.int .i64 kn,.slice RA Rn Rc,.slice SA Sn Sc,.map (some bm),.slice TA Tn Tc,.slice PA Pn Pc]:=BoxA.ext (W:=w1.drew) b1 hb2';have k2:=b2.cell;have z2:=b2.lt;have f2:∀ j,w2.frozen? ⟨ba,j,none⟩=false:=(fun j=>by simp [World.frozen?,show w2.heap[ba]?=_ from b2]))
     all_goals
      have HO2:=hd_ ho2
      clear ho2
      go_wp2
      go_ret
      exact ⟨rfl,w2,A2,c2,bt_ (W:=w1.drew) hb1.drew hb2',own_dn HO2.out (show w.heap.size≤w1.drew.heap.size from hb1.size),hl2,rfl⟩
theorem p_isOnly (l:List Int) (v:Int) (A:Option Addr) (n c:Nat) (w:World) (hn:n≤1000000) (h:Is w w.heap.size A n l) :
 Calls Tryz.prog 70 #[.slice A n c,.int .i64 v] w fun e w'=>e=.returned (.bool (decide (l=[v])))∧w=w':=by
 have hl:=h.len
 by_cases h1:n=1
 ·subst h1
  obtain ⟨b,o,x,rfl,hb,hx,hc⟩:=h.at_ (k:=0) (by omega)
  obtain rfl:l=[x]:=by
   match l,hl with
   | [y],_=>simpa using hx
  have e1:decide ([x]=[v])=(x == v):=by rw [Bool.eq_iff_iff];simp
  rw [e1]
  clear h hl hx e1
  rw [Nat.add_zero] at hc
  go_enter Tryz.func70,Tryz.ntmps70
  go_wp2
  go_ret
  exact ⟨rfl,rfl⟩
 ·have e1:decide (l=[v])=false:=by simp;intro e;rw [e] at hl;simp at hl;omega
  rw [e1]
  clear h hl e1
  go_enter Tryz.func70,Tryz.ntmps70
  go_wp2
  go_ret
  exact ⟨rfl,rfl⟩
theorem p_checkPerson2 (p:Int) (w:World):Calls Tryz.prog 122 #[.int .i64 p] w fun e w'=>e=.returned (.int .i64 (errI (withinB p 0 99) 1))∧w=w':=by
 go_enter Tryz.func122,Tryz.ntmps122
 go_wp2_with (first | (go_at_call 106;refine (p_within _ _ _ _).mono ?_;rintro e w1 ⟨rfl,rfl⟩) | (go_at_call 61;refine (p_verdict _ _ _).mono ?_;rintro e w1 ⟨rfl,rfl⟩))
 go_ret
 exact ⟨rfl,rfl⟩
theorem p_checkFolio (pp:List Ppr) (x:Lsl) (a b:Int) (w:World) (hn:x.pn≤9223372036854775807) (hd:Pps w w.heap.size x.pA x.pn pp) :
 Calls Tryz.prog 72 #[.agg #[.slice x.pA x.pn x.pc,.slice x.rA x.rn x.rc,.slice x.tA x.tn x.tc,.slice x.sA x.sn x.sc],.agg #[.int .i64 a,.int .i64 b]] w fun e w'=>e=.returned (.int .i64 (errI (folB pp a b) 26))∧Below w.heap.size w w':=by
 have HD:Hid (∀ W:World,Below w.heap.size w W→Calls Tryz.prog 60 #[.agg #[.slice x.pA x.pn x.pc,.slice x.rA x.rn x.rc,.slice x.tA x.tn x.tc,.slice x.sA x.sn x.sc],.agg #[.int .i64 a,.int .i64 b]] W fun e w'=>e=.returned (.bool (folB pp a b))∧Below W.heap.size W w'):=by
  show ∀ _,_
  exact fun W hW=>p_has pp x a b W hn (hd.now abP hW)
 clear hd
 go_enter Tryz.func72,Tryz.ntmps72
 go_wp2_with (first | (go_at_call 60;refine (HD.out _ (by exact bel_)).mono ?_;rintro e w1 ⟨rfl,hb1⟩;have HB1:Below w.heap.size w w1:=bt_ (by exact bel_) hb1) | (go_at_call 61;refine (p_verdict _ _ _).mono ?_;rintro e w1 ⟨rfl,rfl⟩))
 go_ret
 exact ⟨rfl,HB1⟩
theorem p_checkPaper2 (pp:List Ppr) (x:Lsl) (a:Int) (w:World) (hn:x.pn≤9223372036854775807) (hd:Pps w w.heap.size x.pA x.pn pp) :
 Calls Tryz.prog 66 #[.agg #[.slice x.pA x.pn x.pc,.slice x.rA x.rn x.rc,.slice x.tA x.tn x.tc,.slice x.sA x.sn x.sc],.int .i64 a] w fun e w'=>e=.returned (.int .i64 (errI (folB pp a 1) 26))∧Below w.heap.size w w':=by
 have HD:Hid (∀ W:World,Below w.heap.size w W→Calls Tryz.prog 72 #[.agg #[.slice x.pA x.pn x.pc,.slice x.rA x.rn x.rc,.slice x.tA x.tn x.tc,.slice x.sA x.sn x.sc],.agg #[.int .i64 a,.int .i64 1]] W fun e w'=>e=.returned (.int .i64 (errI (folB pp a 1) 26))∧Below W.heap.size W w'):=by
  show ∀ _,_
  exact fun W hW=>p_checkFolio pp x a 1 W hn (hd.now abP hW)
 clear hd
 go_enter Tryz.func66,Tryz.ntmps66
 go_wp2_with (go_at_call 72;refine (HD.out _ (by exact bel_)).mono ?_;rintro e w1 ⟨rfl,hb1⟩;have HB1:Below w.heap.size w w1:=bt_ (by exact bel_) hb1)
 go_ret
 exact ⟨rfl,HB1⟩
def trueD (days:List Int) (P:List (Int × Int)):Bool:=(List.zip days P).all fun x=>withinB x.1 x.2.1 x.2.2
theorem sq_of_own {w:World} {base n c:Nat} {t:TypeId} {A:Option Addr} {fs:List (Int × Int)} (h:w.ownsRow base t 2 (.slice A n c) n (folCells fs)) (hn:fs.length=n):Sq QF 2 w w.heap.size A n fs:=by
 have hr:=Rd.of_own h
 refine ⟨hn,fun h0=>?_⟩
 obtain ⟨b,o,e,hb,hc⟩:=hr.2 h0
 refine ⟨b,o,e,hb,fun k f hf=>?_⟩
 obtain ⟨h1,h2⟩:=folCells_get fs k f hf
 exact ⟨hc _ _ h1,by have:=hc _ _ h2;rwa [← Nat.add_assoc] at this⟩
def RetTrue (d:Option (Rcp × Rcp)) (o:Option (List (Int × Int))) (days:List Int) (ba n:Nat) (w:World) (e:Ending) (w':World):Prop :=
 (days.length≠n→e=.returned (.int .i64 29)∧Below w.heap.size w w') ∧
 (days.length=n→match d,o with
   | some _,_=>e=.returned (.int .i64 29)∧Below w.heap.size w w'
   | none,none=>e=.returned (.int .i64 29)∧Below w.heap.size w w'
   | none,some P=>e=.returned (.int .i64 (errI (trueD days P) 29))∧∃ ws,RetSet none (some P) ba n w (.returned (.int .i64 0)) ws∧Below ws.heap.size ws w')
set_option maxRecDepth 10000 in
theorem p_checkTrue (M:List ((Int × Int) × Nat)) (R:List Rcp) (P:List (Int × Int)) (S:List Sgt) (days:List Int) (a:Acc) (ba:Nat) (D:Option Addr) (m c:Nat) (w:World) (h:AccR w a M R P) (hS:sgsOk S) (hn:a.Sn≤1000000) (hs:Sgs w w.heap.size a.SA a.Sn S)
 (hb:BoxA w ba 115 #[.slice a.x.pA a.x.pn a.x.pc,.slice a.x.rA a.x.rn a.x.rc,.slice a.x.tA a.x.tn a.x.tc,.slice a.x.sA a.x.sn a.x.sc,.int .i64 a.kn,.slice a.RA a.Rn a.Rc,.slice a.SA a.Sn a.Sc,.map (some a.bm),.slice a.TA a.Tn a.Tc,.slice a.PA a.Pn a.Pc])
 (hm:m≤9223372036854775807) (hdy:Is w ba D m days) :
 Calls Tryz.prog 65 #[.pointer (some ⟨ba,0,none⟩),.slice D m c] w (RetTrue (dblR M P R) (narL M R S P) days ba a.Pn w):=by
 have hset:=p_settle M R P S a ba w h hS hn hs hb
 have hPn0:=h.nP
 obtain ⟨⟨pA,pn,pc,rA,rn,rc,tA,tn,tc,sA,sn,sc⟩,kn,RA,Rn,Rc,SA,Sn,Sc,bm,TA,Tn,Tc,PA,Pn,Pc⟩:=a
 have hPn:Pn≤100000:=hPn0
 obtain ⟨d,hd⟩:∃ d,dblR M P R=d:=⟨_,rfl⟩
 obtain ⟨o,ho⟩:∃ o,narL M R S P=o:=⟨_,rfl⟩
 rw [hd,ho] at hset ⊢
 have HSET:Hid (Calls Tryz.prog 73 #[.pointer (some ⟨ba,0,none⟩)] w (RetSet d o ba Pn w)):=by show Calls _ _ _ _ _;exact hset
 have hb2:BoxA w ba 115 #[.slice pA pn pc,.slice rA rn rc,.slice tA tn tc,.slice sA sn sc,.int .i64 kn,.slice RA Rn Rc,.slice SA Sn Sc,.map (some bm),.slice TA Tn Tc,.slice PA Pn Pc]:=hb
 have hce:=hb2.cell
 have hlt:=hb2.lt
 have hml:days.length=m:=hdy.len
 have HDY:=hd_ hdy
 have HML:=hd_ hml
 clear h hS hn hs hb hd ho hset hdy hPn0
 show Calls _ _ _ _ (RetTrue d o days ba Pn w)
 by_cases hmn:m=Pn
 ·subst hmn
  clear hml
  have fin:∀ (w':World),Below w.heap.size w w'→(∀ P,¬ (d=none∧o=some P))→RetTrue d o days ba m w (.returned (.int .i64 29)) w':=fun w' hb h=>⟨fun hne=>absurd HML.out hne,fun _=>by
   cases d with
   | some p=>exact ⟨rfl,hb⟩
   | none=>cases o with
     | none=>exact ⟨rfl,hb⟩
     | some P=>exact absurd ⟨rfl,rfl⟩ (h P)⟩
  have HFIN:=hd_ fin
  clear fin
  cases d with
  | some p =>
    go_enter Tryz.func65,Tryz.ntmps65
    go_wp2_with (go_at_call 73;refine HSET.out.mono ?_;rintro e w1 ⟨rfl,hb1⟩)
    go_ret
    exact HFIN.out _ hb1 (fun P h=>by cases h.1)
  | none =>
    cases o with
    | none =>
      go_enter Tryz.func65,Tryz.ntmps65
      go_wp2_with (go_at_call 73;refine HSET.out.mono ?_;rintro e w1 ⟨rfl,hb1⟩)
      go_ret
      exact HFIN.out _ hb1 (fun P h=>by cases h.2)
    | some P' =>
      go_enter Tryz.func65,Tryz.ntmps65
      go_wp2_with (go_at_call 73;refine HSET.out.mono ?_;rintro e ws ⟨rfl,w1,A,c1,hb1,ho1,hl1,hws⟩;have bs:BoxA ws ba 115 #[.slice pA pn pc,.slice rA rn rc,.slice tA tn tc,.slice sA sn sc,.int .i64 kn,.slice RA Rn Rc,.slice SA Sn Sc,.map (some bm),.slice TA Tn Tc,.slice A m c1]:=(by rw [hws];exact (hb2.ext hb1).set 9 _);have HWS:=hd_ hws;clear hws hce;have ks:=bs.cell;have zs:=bs.lt)
      have hws:=HWS.out
      have hne:∀ k,(Value.slice A m c1).ownBlock=some k→k≠ba:=fun k hk e=>by
       obtain ⟨cur,hh⟩:=own_block ho1 hk
       rw [e,show w1.heap[ba]?=_ from hb2.ext hb1] at hh
       injection hh with hh
       injection hh with _ ht
       exact absurd ht (by decide)
      have hos:ws.ownsRow w.heap.size 133 2 (.slice A m c1) m (folCells P'):=by rw [hws];exact own_keep ho1 fun k hk=>Below.heap_setCell _ _ _ _ (hne k hk)
      have hBs:Below ba w ws:=by rw [hws];exact (hb1.mono (Nat.le_of_lt hlt)).setCell lr_ _
      have HSQ:=hd_ (sq_of_own hos hl1)
      have HDS:=hd_ (Rd.below HDY.out hBs)
      have HRS:Hid (RetSet none (some P') ba m w (.returned (.int .i64 0)) ws):=by show RetSet _ _ _ _ _ _ _;exact ⟨rfl,w1,A,c1,hb1,ho1,hl1,hws⟩
      have HLP:=hd_ hl1
      have hab:ba<ws.heap.size:=zs
      clear hos hne ho1 hb1 hws hb2 hBs hl1 HWS
      obtain ⟨q,hq⟩:∃ q,trueD days P'=q:=⟨_,rfl⟩
      have HQ:=hd_ hq
      clear hq
      have hfin:∀ w',Below ws.heap.size ws w'→RetTrue none (some P') days ba m w (.returned (.int .i64 (errI q 29))) w':=fun w' hb=>⟨fun hne=>absurd HML.out hne,fun _=>⟨by rw [HQ.out],ws,HRS.out,hb⟩⟩
      have HFI:=hd_ hfin
      clear hfin HFIN
      go_loopw [25] (fun i wr=>∃ k:Nat,k≤m∧i=.int .i64 k∧((List.zip days P').take k).all (fun x=>withinB x.1 x.2.1 x.2.2)=true∧Below ws.heap.size ws wr) (fun i _=>m - (intOf i).toNat)
      case atStart=>exact ⟨0,by omega,rfl,rfl,Below.refl _ _⟩
      case round =>
       obtain ⟨k,hk,rfl,hall,hB⟩:=hrel
       have HA:=hd_ hall
       clear hall
       have hsB:=hB.size
       by_cases hlt2:k<m
       ·obtain ⟨b,o,f,hAe,hbb,hf,q0,q1⟩:=(Sq.ext HSQ.out abF hB lr_).at_ hlt2
        obtain ⟨b3,o3,x,rfl,hb3,hx,hc3⟩:=(show Is wr ba D m days from Is.ext HDS.out hB (Nat.le_of_lt hab)).at_ hlt2
        have hz:(List.zip days P')[k]?=some (x,f):=by rw [List.getElem?_zip_eq_some];exact ⟨hx,hf⟩
        have HZ:=hd_ hz
        clear hz hf hx
        have hbr:b<wr.heap.size:=by omega
        have hbr3:b3<wr.heap.size:=by omega
        have hbr1:b<wr.heap.size+1:=by omega
        have hbr31:b3<wr.heap.size+1:=by omega
        cases hw:withinB x f.1 f.2 with
        | true =>
          have HF:Hid (((List.zip days P').take (k+1)).all (fun x=>withinB x.1 x.2.1 x.2.2)=true):=by
           show _=_
           rw [take_snoc_some HZ.out,List.all_append,HA.out]
           simp [hw]
          have HW:=hd_ hw
          clear hw
          go_wp2_with fail
          (refine rg_ ?_;(repeat (go_big_quiet_step ((first | (go_at_call 106;exact Calls.grow_same (p_within_v _ _ _ true _ HW.out))))));refine qn_ fun w1 hb1 hc1 hf1=>?_)
          go_wp2_with fail
          go_roundw
          case rel=>exact ⟨k+1,by omega,by go_num,HF.out,bt_ (W:=wr.alloc (.cells #[.int .i64 f.1,.int .i64 f.2] 133)) (hB.alloc hsB _) hb1⟩
          case measure=>exact ms_
        | false =>
          have hqf:q=false:=by
           rw [← HQ.out,trueD,List.all_eq_false]
           exact ⟨_,List.mem_of_getElem? HZ.out,by simp [hw]⟩
          subst hqf
          have HW:=hd_ hw
          clear hw
          go_wp2_with fail
          (refine rg_ ?_;(repeat (go_big_quiet_step ((first | (go_at_call 106;exact Calls.grow_same (p_within_v _ _ _ false _ HW.out))))));refine qn_ fun w1 hb1 hc1 hf1=>?_)
          go_wp2_with fail
          go_ret
          exact HFI.out _ (bt_ (W:=wr.alloc (.cells #[.int .i64 f.1,.int .i64 f.2] 133)) (hB.alloc hsB _) hb1)
       ·have hkn:Hid (k=m):=by show _=_;omega
        have hqt:q=true:=by
         have:=HA.out
         rw [List.take_of_length_le (by rw [List.length_zip,HLP.out,HML.out,hkn.out];simp)] at this
         rw [← HQ.out,trueD,this]
        subst hqt
        go_wp2
        go_ret
        exact HFI.out _ hB
 ·have hmd:(m == Pn)=false:=by simpa using hmn
  clear hml
  go_enter Tryz.func65,Tryz.ntmps65
  go_wp2
  go_ret
  exact ⟨fun _=>⟨rfl,Below.refl _ _⟩,fun he=>absurd (HML.out.symm.trans he) hmn⟩
def rtAt (src leaf:Int) (p:Bool × Rtn):Bool:=p.1 && (decide (p.2.rcp=src) && decide (leaf∈p.2.lv))
def rtIx (T:List Bool) (rt:List Rtn) (src leaf:Int):Option Nat:=(List.zip T rt).findIdx? (rtAt src leaf)
set_option maxRecDepth 10000 in
theorem r_returnOf (l:Led) (v:Vw) (T:List Bool) (i:Nat) (r:Rcp) (leaf:Int) (w:World) (hn:v.x.rn≤1000000) (htn:v.x.tn≤1000000) (hTt:v.Tn=v.x.tn) (hd:LedIn w w.heap.size v.x l) (hT:Sq QB 1 w w.heap.size v.TA v.Tn T) (hr:l.rc[i]?=some r) :
 Calls Tryz.prog 103 #[vwV v,.int .i64 i,.int .i64 leaf] w fun e w'=>e=.returned (.int .i64 (ixI (rtIx T l.rt r.src leaf)))∧Below w.heap.size w w':=by
 obtain ⟨⟨pA,pn,pc,rA,rn,rc,tA,tn,tc,sA,sn,sc⟩,kn,TA,Tn,Tc,DA,Dn,Dc⟩:=v
 obtain rfl:Tn=tn:=hTt
 show Calls _ _ #[.agg #[.slice pA pn pc,.slice rA rn rc,.slice tA Tn tc,.slice sA sn sc,.int .i64 kn,.slice TA Tn Tc,.slice DA Dn Dc],_,_] _ _
 have HR:Hid (Rcs w w.heap.size rA rn l.rc):=by show Sq _ _ _ _ _ _ _;exact hd.r
 have HT:Hid (Rts w w.heap.size tA Tn l.rt):=by show Sq _ _ _ _ _ _ _;exact hd.t
 have HB:Hid (Sq QB 1 w w.heap.size TA Tn T):=by show Sq _ _ _ _ _ _ _;exact hT
 have hrn:rn≤1000000:=hn
 have hTn:Tn≤1000000:=htn
 have hi:i<rn:=by rw [← HR.out.len];exact (List.getElem?_eq_some_iff.1 hr).1
 obtain ⟨br,or_,r',rfl,hbr,hx,A1,n1,c1,⟨hr0,_,_,_,_,_,_⟩,_,_,_⟩:=HR.out.at_ hi
 obtain rfl:r=r':=Option.some.inj (hr.symm.trans hx)
 clear hd hn hr hx hT htn
 obtain ⟨q,hq⟩:∃ q,rtIx T l.rt r.src leaf=q:=⟨_,rfl⟩
 rw [hq]
 have HQ:=hd_ hq
 clear hq
 go_enter Tryz.func103,Tryz.ntmps103
 go_wp2
 go_loopw [7] (fun i wr=>∃ k:Nat,k≤Tn∧i=.int .i64 k∧((List.zip T l.rt).take k).any (rtAt r.src leaf)=false∧Below w.heap.size w wr∧BoxA wr w.heap.size 89 #[.slice pA pn pc,.slice (some ⟨br,or_,none⟩) rn rc,.slice tA Tn tc,.slice sA sn sc,.int .i64 kn,.slice TA Tn Tc,.slice DA Dn Dc]) (fun i _=>Tn - (intOf i).toNat)
 case atStart=>exact ⟨0,by omega,rfl,rfl,by exact bel_,BoxA.new _ _ _⟩
 case round =>
  obtain ⟨k,hk,rfl,hany,hB,hbx⟩:=hrel
  have HA:=hd_ hany
  clear hany
  have hs0:=hB.size
  have kx:=hbx.cell
  have zx:=hbx.lt
  have hrw:wr.cell? ⟨br,or_+i*7,none⟩=some (.int .i64 r.src):=(hB.cell (p:=⟨br,_,none⟩) hbr).trans hr0
  have hbrw:br<wr.heap.size:=by omega
  by_cases hlt:k<Tn
  ·obtain ⟨bt,ot,tl,rfl,hbt,htl,q0⟩:=(Sq.ext HB.out abB hB lr_).at_ hlt
   obtain ⟨b,o,t,rfl,hb,hx,A2,n2,c2,⟨h0,h1,h2,h3,h4,h5,h6,h7⟩,hi1,hc1,hm1⟩:=(Sq.ext HT.out abT hB lr_).at_ hlt
   have q0:wr.cell? ⟨bt,ot+k,none⟩=some (.bool tl):=by have h:wr.cell? ⟨bt,ot+k*1,none⟩=some (.bool tl):=q0;rwa [Nat.mul_one] at h
   have hz:(List.zip T l.rt)[k]?=some (tl,t):=by rw [List.getElem?_zip_eq_some];exact ⟨htl,hx⟩
   have HZ:=hd_ hz
   have hn2:n2≤9223372036854775807:=by have:maxLen≤9223372036854775807:=(by decide);omega
   have HI:Hid (Is wr wr.heap.size A2 n2 t.lv):=by show Is _ _ _ _ _;exact Is.more hi1 (by omega)
   have hbtw:bt<wr.heap.size:=by omega
   have hbw:b<wr.heap.size:=by omega
   clear hz htl hx hi1
   cases tl with
   | false =>
     have HF:Hid (((List.zip T l.rt).take (k+1)).any (rtAt r.src leaf)=false):=by show _=_;rw [any_take_succ2 HZ.out,HA.out];rfl
     go_wp2_with fail
     (refine rg_ ?_;(repeat (go_big_quiet_step (fail)));refine qn_ fun w1 hb1 hc1 hf1=>?_)
     go_wp2_with fail
     go_roundw
     case rel=>exact ⟨k+1,by omega,by go_num,HF.out,bt_ hB hb1,hbx.ext hb1⟩
     case measure=>exact ms_
   | true =>
     by_cases he:t.rcp=r.src
     ·have hed:(t.rcp == r.src)=true:=by simpa using he
      have HE:=hd_ he
      clear he
      cases hm:decide (leaf∈t.lv) with
      | true =>
        have ho:q=some k:=by rw [← HQ.out];exact ix_found HZ.out (by simp [rtAt,HE.out];simpa using hm) HA.out
        subst ho
        have HM:=hd_ hm
        clear hm
        go_wp2_with fail
        (refine rg_ ?_;(repeat (go_big_quiet_step ((first | (go_at_call_of 18 (Value.slice A2 n2 c2);exact Calls.grow_all (fun g=>r_Has2_v t.lv leaf true A2 n2 c2 g.1 hn2 (HI.out.now g.2) HM.out))))));refine qn_ fun w1 hb1 hc1 hf1=>?_)
        go_wp2_with fail
        go_ret
        exact ⟨rfl,bt_ hB hb1⟩
      | false =>
        have HF:Hid (((List.zip T l.rt).take (k+1)).any (rtAt r.src leaf)=false):=by show _=_;rw [any_take_succ2 HZ.out,HA.out];simp only [rtAt,hm];simp
        have HM:=hd_ hm
        clear hm
        go_wp2_with fail
        (refine rg_ ?_;(repeat (go_big_quiet_step ((first | (go_at_call_of 18 (Value.slice A2 n2 c2);exact Calls.grow_all (fun g=>r_Has2_v t.lv leaf false A2 n2 c2 g.1 hn2 (HI.out.now g.2) HM.out))))));refine qn_ fun w1 hb1 hc1 hf1=>?_)
        go_wp2_with fail
        go_roundw
        case rel=>exact ⟨k+1,by omega,by go_num,HF.out,bt_ hB hb1,hbx.ext hb1⟩
        case measure=>exact ms_
     ·have hed:(t.rcp == r.src)=false:=by simpa using he
      have HF:Hid (((List.zip T l.rt).take (k+1)).any (rtAt r.src leaf)=false):=by show _=_;rw [any_take_succ2 HZ.out,HA.out];simp [rtAt,he]
      clear he
      go_wp2_with fail
      (refine rg_ ?_;(repeat (go_big_quiet_step (fail)));refine qn_ fun w1 hb1 hc1 hf1=>?_)
      go_wp2_with fail
      go_roundw
      case rel=>exact ⟨k+1,by omega,by go_num,HF.out,bt_ hB hb1,hbx.ext hb1⟩
      case measure=>exact ms_
  ·have hkn:Hid (k=Tn):=by show _=_;omega
   have ho:q=none:=by
    have:=HA.out
    rw [List.take_of_length_le (by rw [List.length_zip,HB.out.len,HT.out.len,hkn.out];simp)] at this
    rw [← HQ.out]
    exact ix_none this
   subst ho
   go_wp2
   go_ret
   exact ⟨rfl,hB⟩
end Go.Proofs.YtmcmbicapdcfmaaGreat
