/- Layer 2 of the texts that LoanDoubles takes: Vaxq. -/
import Derived.Test.YtoiompoapikkbaaGreatVawq
set_option linter.unusedVariables false
set_option linter.unusedSimpArgs false
/- Layer 2: double and agree of an account. -/
namespace Go.Proofs.YtoiompoapikkbaaGreat
open Go.RowKit Go.Maps
def dbl2 (M:List ((Int × Int) × Nat)) (P:List (Int × Int)):List Rv→Option (Rv × Rv)
 | []=>none
 | x :: l=>match l.find? (fun y=>dblB M P x.r y.r) with
   | some y=>some (x,y)
   | none=>dbl2 M P l
theorem dbl2_some {M:List ((Int × Int) × Nat)} {P:List (Int × Int)} {xs:List Rv} {k:Nat} {x y:Rv} {o:Option (Rv × Rv)} (hx:xs[k]?=some x) (hf:(xs.drop (k+1)).find? (fun y=>dblB M P x.r y.r)=some y) (ho:dbl2 M P (xs.drop k)=o):o=some (x,y):=by
 have hlt:k<xs.length:=(List.getElem?_eq_some_iff.1 hx).1
 rw [List.drop_eq_getElem_cons hlt,(List.getElem?_eq_some_iff.1 hx).2,dbl2,hf] at ho
 exact ho.symm
theorem dbl2_none {M:List ((Int × Int) × Nat)} {P:List (Int × Int)} {xs:List Rv} {k:Nat} {x:Rv} {o:Option (Rv × Rv)} (hx:xs[k]?=some x) (hf:(xs.drop (k+1)).find? (fun y=>dblB M P x.r y.r)=none) (ho:dbl2 M P (xs.drop k)=o):dbl2 M P (xs.drop (k+1))=o:=by
 have hlt:k<xs.length:=(List.getElem?_eq_some_iff.1 hx).1
 rw [List.drop_eq_getElem_cons hlt,(List.getElem?_eq_some_iff.1 hx).2,dbl2,hf] at ho
 exact ho
theorem find_at2 {α:Type} {l:List α} {p:α→Bool} {j:Nat} {y:α} (hy:l[j]?=some y) (hp:p y=true) (hn:(l.take j).find? p=none):l.find? p=some y:=by
 have hlt:j<l.length:=(List.getElem?_eq_some_iff.1 hy).1
 have e:l=l.take j ++ y :: l.drop (j+1):=by
  have h:=List.take_append_drop j l
  rw [List.drop_eq_getElem_cons hlt,(List.getElem?_eq_some_iff.1 hy).2] at h
  exact h.symm
 rw [e,List.find?_append,hn,List.find?_cons,hp]
 rfl
theorem find_step2 {α:Type} {l:List α} {p:α→Bool} {j:Nat} {y:α} (hy:l[j]?=some y) (hp:p y=false) (hn:(l.take j).find? p=none):(l.take (j+1)).find? p=none:=by
 rw [take_snoc_some hy,List.find?_append,hn,List.find?_cons,hp]
 rfl
theorem Sq.drop_ {α:Type} {Q:World→Nat→Nat→Nat→α→Prop} {size:Nat} {w:World} {B n b o k:Nat} {xs:List α} (h:Sq Q size w B (some ⟨b,o,none⟩) n xs) (hk:k≤n):Sq Q size w B (some ⟨b,o+k*size,none⟩) (n - k) (xs.drop k):=by
 refine ⟨by rw [List.length_drop,h.1],fun h0=>?_⟩
 obtain ⟨b',o',e,hb,hc⟩:=h.2 (by omega)
 cases e
 refine ⟨b,o+k*size,rfl,hb,fun j x hx=>?_⟩
 rw [List.getElem?_drop] at hx
 have:=hc _ _ hx
 rwa [show o+(k+j)*size=o+k*size+j*size from by rw [Nat.add_mul];omega] at this
theorem BoxA.drewB {W:World} {B:Nat} {t:TypeId} {cs:Array Value} (h:BoxA W B t cs):BoxA W.drew B t cs:=h
theorem BoxA.set7 {W:World} {B:Nat} {t:TypeId} {a0 a1 a2 a3 a4 a5 a6:Value} (h:BoxA W B t #[a0,a1,a2,a3,a4,a5,a6]) (b0 b1 b2 b3 b4 b5 b6:Value):BoxA (((((((W.setCell ⟨B,0,none⟩ b0).setCell ⟨B,1,none⟩ b1).setCell ⟨B,2,none⟩ b2).setCell ⟨B,3,none⟩ b3).setCell ⟨B,4,none⟩ b4).setCell ⟨B,5,none⟩ b5).setCell ⟨B,6,none⟩ b6) B t #[b0,b1,b2,b3,b4,b5,b6]:=by
 have h2:=(((((((h.set 0 b0).set 1 b1).set 2 b2).set 3 b3).set 4 b4).set 5 b5).set 6 b6)
 simpa only [List.setIfInBounds_toArray,List.set_cons_zero,List.set_cons_succ] using h2
theorem BoxA.other7 {W:World} {B C:Nat} {t:TypeId} {cs:Array Value} (h:BoxA W B t cs) (hne:B≠C) (b0 b1 b2 b3 b4 b5 b6:Value):BoxA (((((((W.setCell ⟨C,0,none⟩ b0).setCell ⟨C,1,none⟩ b1).setCell ⟨C,2,none⟩ b2).setCell ⟨C,3,none⟩ b3).setCell ⟨C,4,none⟩ b4).setCell ⟨C,5,none⟩ b5).setCell ⟨C,6,none⟩ b6) B t cs:=(((((((h.other hne b0).other hne b1).other hne b2).other hne b3).other hne b4).other hne b5).other hne b6)
theorem below_set7 {u W:World} {D C:Nat} (h:Below D u W) (hl:D≤C) (b0 b1 b2 b3 b4 b5 b6:Value):Below D u (((((((W.setCell ⟨C,0,none⟩ b0).setCell ⟨C,1,none⟩ b1).setCell ⟨C,2,none⟩ b2).setCell ⟨C,3,none⟩ b3).setCell ⟨C,4,none⟩ b4).setCell ⟨C,5,none⟩ b5).setCell ⟨C,6,none⟩ b6):=(((((((h.setCell hl b0).setCell hl b1).setCell hl b2).setCell hl b3).setCell hl b4).setCell hl b5).setCell hl b6)
def RetDbl (o:Option (Rv × Rv)) (w:World) (e:Ending) (w':World):Prop:=Below w.heap.size w w'∧match o with
 | none=>e=.returned (.tuple #[.agg #[.int .i64 0,.int .i64 0,.int .i64 0,.slice none 0 0,.int .i64 0,.int .i64 0,.int .i64 0],.agg #[.int .i64 0,.int .i64 0,.int .i64 0,.slice none 0 0,.int .i64 0,.int .i64 0,.int .i64 0],.bool false])
 | some p=>e=.returned (.tuple #[rvV p.1,rvV p.2,.bool true])
set_option maxRecDepth 100000 in
set_option maxHeartbeats 4000000 in
theorem p_double (M:List ((Int × Int) × Nat)) (R:List Rcp) (P:List (Int × Int)) (xs:List Rv) (a:Acc) (w:World) (h:AccR w a M R P) (hx:Sq QV 7 w w.heap.size a.RA a.Rn xs) (hR:xs.map Rv.r=R) :
 Calls Tryz.prog 104 #[accV a] w (RetDbl (dbl2 M P xs) w):=by
 obtain ⟨⟨pA,pn,pc,rA,rn,rc,tA,tn,tc,sA,sn,sc⟩,kn,RA,Rn,Rc,SA,Sn,Sc,bm,TA,Tn,Tc,PA,Pn,Pc⟩:=a
 have hin:∀ x∈xs,RvIn w x:=fun v hv=>by
  obtain ⟨k,hk⟩:=List.getElem?_of_mem hv
  obtain ⟨b,o,y,_,_,hy,hq⟩:=hx.at_ (k:=k) (by rw [← hx.len];exact (List.getElem?_eq_some_iff.1 hk).1)
  obtain rfl:v=y:=Option.some.inj (hk.symm.trans hy)
  have ho:=h.okR v.r (by rw [← hR];exact List.mem_map.2 ⟨v,hv,rfl⟩)
  exact ⟨hq.2.1,by rw [← hq.2.1.len];exact ho.1,ho.2.1,ho.2.2⟩
 have HAD:Hid (∀ (x y:Rv) (q:Bool) (W:World),Below w.heap.size w W→x∈xs→y∈xs→dblB M P x.r y.r=q→Calls Tryz.prog 115 #[.agg #[.slice pA pn pc,.slice rA rn rc,.slice tA tn tc,.slice sA sn sc,.int .i64 kn,.slice RA Rn Rc,.slice SA Sn Sc,.map (some bm),.slice TA Tn Tc,.slice PA Pn Pc],.agg #[.int .i64 x.r.src,.int .i64 x.r.bor,.int .i64 x.r.pap,.slice x.A x.n x.c,.int .i64 x.r.day,.int .i64 x.r.kn,.int .i64 x.r.un],.agg #[.int .i64 y.r.src,.int .i64 y.r.bor,.int .i64 y.r.pap,.slice y.A y.n y.c,.int .i64 y.r.day,.int .i64 y.r.kn,.int .i64 y.r.un]] W fun e w'=>e=.returned (.bool q)∧Below W.heap.size W w'):=by
  show ∀ _,_
  intro x y q W hW h1 h2 h3
  rw [← h3]
  exact p_areDouble M R P ⟨⟨pA,pn,pc,rA,rn,rc,tA,tn,tc,sA,sn,sc⟩,kn,RA,Rn,Rc,SA,Sn,Sc,bm,TA,Tn,Tc,PA,Pn,Pc⟩ x y W (h.now hW) ((hin x h1).now hW) ((hin y h2).now hW)
 have HX:Hid (Sq QV 7 w w.heap.size RA Rn xs):=by show Sq _ _ _ _ _ _ _;exact hx
 have HL:Hid (xs.length=Rn):=by show _=_;exact hx.len
 have hN:Rn≤1000000:=h.nR
 have hNc:Rn≤Rc:=h.cR.1
 show Calls _ _ #[.agg #[.slice pA pn pc,.slice rA rn rc,.slice tA tn tc,.slice sA sn sc,.int .i64 kn,.slice RA Rn Rc,.slice SA Sn Sc,.map (some bm),.slice TA Tn Tc,.slice PA Pn Pc]] _ _
 obtain ⟨q,hq⟩:∃ q,dbl2 M P xs=q:=⟨_,rfl⟩
 rw [hq]
 have HQ:=Lib.hid hq
 clear h hx hR hin hq
 obtain ⟨W1,hW1⟩:∃ W1,(((w.alloc (.cells #[.slice pA pn pc,.slice rA rn rc,.slice tA tn tc,.slice sA sn sc,.int .i64 kn,.slice RA Rn Rc,.slice SA Sn Sc,.map (some bm),.slice TA Tn Tc,.slice PA Pn Pc] 119)).alloc (.cells #[.int .i64 0,.int .i64 0,.int .i64 0,.slice none 0 0,.int .i64 0,.int .i64 0,.int .i64 0] 32)).alloc (.cells #[.int .i64 0,.int .i64 0,.int .i64 0,.slice none 0 0,.int .i64 0,.int .i64 0,.int .i64 0] 32))=W1:=⟨_,rfl⟩
 have hB0:Below w.heap.size w W1:=by rw [← hW1];exact bel_
 have hz1:w.heap.size+3≤W1.heap.size:=by rw [← hW1];simp
 have b0:BoxA W1 w.heap.size 119 #[.slice pA pn pc,.slice rA rn rc,.slice tA tn tc,.slice sA sn sc,.int .i64 kn,.slice RA Rn Rc,.slice SA Sn Sc,.map (some bm),.slice TA Tn Tc,.slice PA Pn Pc]:=by rw [← hW1];exact ((BoxA.new _ _ _).alloc _).alloc _
 have b1:BoxA W1 (w.heap.size+1) 32 #[.int .i64 0,.int .i64 0,.int .i64 0,.slice none 0 0,.int .i64 0,.int .i64 0,.int .i64 0]:=by rw [← hW1];have h:=(BoxA.new (w.alloc (.cells #[.slice pA pn pc,.slice rA rn rc,.slice tA tn tc,.slice sA sn sc,.int .i64 kn,.slice RA Rn Rc,.slice SA Sn Sc,.map (some bm),.slice TA Tn Tc,.slice PA Pn Pc] 119)) 32 #[.int .i64 0,.int .i64 0,.int .i64 0,.slice none 0 0,.int .i64 0,.int .i64 0,.int .i64 0]).alloc (.cells #[.int .i64 0,.int .i64 0,.int .i64 0,.slice none 0 0,.int .i64 0,.int .i64 0,.int .i64 0] 32);simpa using h
 have b2:BoxA W1 (w.heap.size+1+1) 32 #[.int .i64 0,.int .i64 0,.int .i64 0,.slice none 0 0,.int .i64 0,.int .i64 0,.int .i64 0]:=by rw [← hW1];have h:=BoxA.new ((w.alloc (.cells #[.slice pA pn pc,.slice rA rn rc,.slice tA tn tc,.slice sA sn sc,.int .i64 kn,.slice RA Rn Rc,.slice SA Sn Sc,.map (some bm),.slice TA Tn Tc,.slice PA Pn Pc] 119)).alloc (.cells #[.int .i64 0,.int .i64 0,.int .i64 0,.slice none 0 0,.int .i64 0,.int .i64 0,.int .i64 0] 32)) 32 #[.int .i64 0,.int .i64 0,.int .i64 0,.slice none 0 0,.int .i64 0,.int .i64 0,.int .i64 0];simpa using h
 have HW1:=Lib.hid hW1
 have HB0:=Lib.hid b0
 have HB1:=Lib.hid b1
 have HB2:=Lib.hid b2
 clear hW1 b0 b1 b2
 go_enter Tryz.func104,Tryz.ntmps104
 go_wp2
 go_loopw [12] (fun i wr=>∃ k:Nat,k≤Rn∧i=.int .i64 k∧dbl2 M P (xs.drop k)=q∧Below W1.heap.size W1 wr) (fun i _=>Rn - (intOf i).toNat)
 case atStart=>exact ⟨0,by omega,rfl,HQ.out,by rw [HW1.out];exact Below.refl _ _⟩
 case round =>
  obtain ⟨k,hk,rfl,hcl,hB⟩:=hrel
  obtain ⟨wo,hwo⟩:∃ wo:World,wo=wr:=⟨_,rfl⟩
  subst hwo
  have HCL:=Lib.hid hcl
  clear hcl
  have hso:=hB.size
  have hBw:Below w.heap.size w wo:=hB0.trans (hB.mono (by omega))
  have k0:=(HB0.out.ext hB).cell
  have z0:w.heap.size<wo.heap.size:=by omega
  by_cases hlt:k<Rn
  ·obtain ⟨b,o,x,rfl,hb,hx,⟨h0,h1,h2,h3,h4,h5,h6⟩,hi,hc,hm⟩:=(Sq.ext HX.out abV hBw (Nat.le_refl _)).at_ hlt
   have hbr:b<wo.heap.size:=by omega
   have HXk:=Lib.hid hx
   have hmx:=List.mem_of_getElem? hx
   clear hx hi hc hm
   obtain ⟨W2,hW2⟩:∃ W2,wo.alloc (.cells #[.int .i64 x.r.src,.int .i64 x.r.bor,.int .i64 x.r.pap,.slice x.A x.n x.c,.int .i64 x.r.day,.int .i64 x.r.kn,.int .i64 x.r.un] 32)=W2:=⟨_,rfl⟩
   have hB2:Below wo.heap.size wo W2:=by rw [← hW2];exact (Below.refl _ _).alloc (Nat.le_refl _) _
   have bX:BoxA W2 wo.heap.size 32 #[.int .i64 x.r.src,.int .i64 x.r.bor,.int .i64 x.r.pap,.slice x.A x.n x.c,.int .i64 x.r.day,.int .i64 x.r.kn,.int .i64 x.r.un]:=by rw [← hW2];exact BoxA.new _ _ _
   have HBX:=Lib.hid bX
   have HW2:=Lib.hid hW2
   have hs2:wo.heap.size<W2.heap.size:=bX.lt
   clear hW2 bX
   by_cases hcap:Rc=k+1
   ·have hnk:Rn=k+1:=by omega
    have hfn:(xs.drop (k+1)).find? (fun y=>dblB M P x.r y.r)=none:=by
     rw [List.drop_eq_nil_of_le (by rw [HL.out];omega)];rfl
    have HN:=Lib.hid (dbl2_none HXk.out hfn HCL.out)
    have HNK:=Lib.hid hnk
    clear hfn
    go_wp2
    go_loopw [23] (fun i wr=>i=.int .i64 0∧Below W2.heap.size W2 wr) (fun _ _=>0)
    case atStart=>exact ⟨rfl,by rw [HW2.out];exact Below.refl _ _⟩
    case round =>
     obtain ⟨rfl,hB3⟩:=hrel
     have hz:Rn - (k+1)=0:=by have:=HNK.out;omega
     go_wp2
     go_roundw
     case rel=>exact ⟨k+1,by omega,by go_num,HN.out,hB.trans ((hB2.trans (hB3.mono (by omega))).mono (by omega))⟩
     case measure=>exact ms_
   ·have hcap2:¬ (k+1=Rc):=fun h=>hcap h.symm
    have HDR:=Lib.hid (HX.out.drop_ (k:=k+1) (by omega))
    go_wp2
    go_loopw [23] (fun i wr=>∃ j:Nat,j≤Rn - (k+1)∧i=.int .i64 j∧((xs.drop (k+1)).take j).find? (fun y=>dblB M P x.r y.r)=none∧Below W2.heap.size W2 wr) (fun i _=>(Rn - (k+1)) - (intOf i).toNat)
    case atStart=>exact ⟨0,by omega,rfl,rfl,by rw [HW2.out];exact Below.refl _ _⟩
    case round =>
     obtain ⟨j,hj,rfl,hfj,hB3⟩:=hrel
     have HFJ:=Lib.hid hfj
     clear hfj
     have hs3:=hB3.size
     have hBo:Below wo.heap.size wo wr:=hB2.trans (hB3.mono (by omega))
     have hBW:Below w.heap.size w wr:=hBw.trans (hBo.mono (by omega))
     have hB1r:Below W1.heap.size W1 wr:=hB.trans (hBo.mono (by omega))
     have m0:=(HB0.out.ext hB1r).cell
     have y0:w.heap.size<wr.heap.size:=by omega
     have bXr:=HBX.out.ext hB3
     have mX:=bXr.cell
     have yX:=bXr.lt
     by_cases hlj:j<Rn - (k+1)
     ·obtain ⟨b',o',y,e',hb',hy,⟨p0,p1,p2,p3,p4,p5,p6⟩,_,_⟩:=(HDR.out.ext abV hBW (Nat.le_refl _)).at_ hlj
      obtain ⟨rfl,rfl⟩:b=b'∧o+(k+1)*7=o':=by simpa using e'
      have HJ:=Lib.hid hy
      have hmy:y∈xs:=List.mem_of_mem_drop (List.mem_of_getElem? hy)
      clear hy e'
      have hbr2:b<wr.heap.size:=by omega
      obtain ⟨W4,hW4⟩:∃ W4,wr.alloc (.cells #[.int .i64 y.r.src,.int .i64 y.r.bor,.int .i64 y.r.pap,.slice y.A y.n y.c,.int .i64 y.r.day,.int .i64 y.r.kn,.int .i64 y.r.un] 32)=W4:=⟨_,rfl⟩
      have hB4:Below wr.heap.size wr W4:=by rw [← hW4];exact (Below.refl _ _).alloc (Nat.le_refl _) _
      have bY:BoxA W4 wr.heap.size 32 #[.int .i64 y.r.src,.int .i64 y.r.bor,.int .i64 y.r.pap,.slice y.A y.n y.c,.int .i64 y.r.day,.int .i64 y.r.kn,.int .i64 y.r.un]:=by rw [← hW4];exact BoxA.new _ _ _
      have hBW4:Below w.heap.size w W4:=hBW.trans (hB4.mono (by omega))
      cases hct:dblB M P x.r y.r with
      | true =>
        have hcall:=HAD.out x y true W4 hBW4 hmx hmy hct
        have ho:=dbl2_some HXk.out (find_at2 (p:=fun y=>dblB M P x.r y.r) HJ.out hct HFJ.out) HCL.out
        subst ho
        rw [← hW4] at hcall
        clear hct
        have HW4:=Lib.hid hW4
        clear hW4
        go_wp2_with (go_at_call 115;refine hcall.mono ?_;rintro e w5 ⟨rfl,hb5'⟩;have hb5:Below W4.heap.size W4 w5:=(by rw [← HW4.out];exact hb5');have bX5:=(bXr.ext hB4).ext hb5;have bY5:=bY.ext hb5;have bR1:=((HB1.out.ext hB1r).ext hB4).ext hb5;have bR2:=((HB2.out.ext hB1r).ext hB4).ext hb5;have cX5:=bX5.cell;have cY5:=bY5.cell;have c1:=bR1.cell;have c2:=bR2.cell;have zX5:=bX5.lt;have zY5:=bY5.lt;have z15:=bR1.lt;have z25:=bR2.lt;have hs5:=hb5.size)
        have hBf:Below w.heap.size w w5:=hBW4.trans (hb5.mono hBW4.size)
        have f1:∀ j,w5.frozen? ⟨w.heap.size+1,j,none⟩=false:=fun j=>by simp [World.frozen?,show w5.heap[w.heap.size+1]?=_ from bR1]
        have f2:∀ j,w5.frozen? ⟨w.heap.size+1+1,j,none⟩=false:=fun j=>by simp [World.frozen?,show w5.heap[w.heap.size+1+1]?=_ from bR2]
        have n1:wo.heap.size≠w.heap.size+1:=by omega
        have n2:wo.heap.size≠w.heap.size+1+1:=by omega
        have n3:wr.heap.size≠w.heap.size+1:=by omega
        have n4:wr.heap.size≠w.heap.size+1+1:=by omega
        have n12:w.heap.size+1≠w.heap.size+1+1:=by omega
        have n21:w.heap.size+1+1≠w.heap.size+1:=by omega
        have l1:w.heap.size≤w.heap.size+1:=by omega
        have l2:w.heap.size≤w.heap.size+1+1:=by omega
        have GA:BoxA (((((((((((((((w5.setCell ⟨w.heap.size+1,0,none⟩ (.int .i64 x.r.src)).setCell ⟨w.heap.size+1,1,none⟩ (.int .i64 x.r.bor)).setCell ⟨w.heap.size+1,2,none⟩ (.int .i64 x.r.pap)).setCell ⟨w.heap.size+1,3,none⟩ (.slice x.A x.n x.c)).setCell ⟨w.heap.size+1,4,none⟩ (.int .i64 x.r.day)).setCell ⟨w.heap.size+1,5,none⟩ (.int .i64 x.r.kn)).setCell ⟨w.heap.size+1,6,none⟩ (.int .i64 x.r.un)).setCell ⟨w.heap.size+1+1,0,none⟩ (.int .i64 y.r.src)).setCell ⟨w.heap.size+1+1,1,none⟩ (.int .i64 y.r.bor)).setCell ⟨w.heap.size+1+1,2,none⟩ (.int .i64 y.r.pap)).setCell ⟨w.heap.size+1+1,3,none⟩ (.slice y.A y.n y.c)).setCell ⟨w.heap.size+1+1,4,none⟩ (.int .i64 y.r.day)).setCell ⟨w.heap.size+1+1,5,none⟩ (.int .i64 y.r.kn)).setCell ⟨w.heap.size+1+1,6,none⟩ (.int .i64 y.r.un)).drew) (w.heap.size+1) 32 #[.int .i64 x.r.src,.int .i64 x.r.bor,.int .i64 x.r.pap,.slice x.A x.n x.c,.int .i64 x.r.day,.int .i64 x.r.kn,.int .i64 x.r.un]∧BoxA (((((((((((((((w5.setCell ⟨w.heap.size+1,0,none⟩ (.int .i64 x.r.src)).setCell ⟨w.heap.size+1,1,none⟩ (.int .i64 x.r.bor)).setCell ⟨w.heap.size+1,2,none⟩ (.int .i64 x.r.pap)).setCell ⟨w.heap.size+1,3,none⟩ (.slice x.A x.n x.c)).setCell ⟨w.heap.size+1,4,none⟩ (.int .i64 x.r.day)).setCell ⟨w.heap.size+1,5,none⟩ (.int .i64 x.r.kn)).setCell ⟨w.heap.size+1,6,none⟩ (.int .i64 x.r.un)).setCell ⟨w.heap.size+1+1,0,none⟩ (.int .i64 y.r.src)).setCell ⟨w.heap.size+1+1,1,none⟩ (.int .i64 y.r.bor)).setCell ⟨w.heap.size+1+1,2,none⟩ (.int .i64 y.r.pap)).setCell ⟨w.heap.size+1+1,3,none⟩ (.slice y.A y.n y.c)).setCell ⟨w.heap.size+1+1,4,none⟩ (.int .i64 y.r.day)).setCell ⟨w.heap.size+1+1,5,none⟩ (.int .i64 y.r.kn)).setCell ⟨w.heap.size+1+1,6,none⟩ (.int .i64 y.r.un)).drew) (w.heap.size+1+1) 32 #[.int .i64 y.r.src,.int .i64 y.r.bor,.int .i64 y.r.pap,.slice y.A y.n y.c,.int .i64 y.r.day,.int .i64 y.r.kn,.int .i64 y.r.un]∧Below w.heap.size w (((((((((((((((w5.setCell ⟨w.heap.size+1,0,none⟩ (.int .i64 x.r.src)).setCell ⟨w.heap.size+1,1,none⟩ (.int .i64 x.r.bor)).setCell ⟨w.heap.size+1,2,none⟩ (.int .i64 x.r.pap)).setCell ⟨w.heap.size+1,3,none⟩ (.slice x.A x.n x.c)).setCell ⟨w.heap.size+1,4,none⟩ (.int .i64 x.r.day)).setCell ⟨w.heap.size+1,5,none⟩ (.int .i64 x.r.kn)).setCell ⟨w.heap.size+1,6,none⟩ (.int .i64 x.r.un)).setCell ⟨w.heap.size+1+1,0,none⟩ (.int .i64 y.r.src)).setCell ⟨w.heap.size+1+1,1,none⟩ (.int .i64 y.r.bor)).setCell ⟨w.heap.size+1+1,2,none⟩ (.int .i64 y.r.pap)).setCell ⟨w.heap.size+1+1,3,none⟩ (.slice y.A y.n y.c)).setCell ⟨w.heap.size+1+1,4,none⟩ (.int .i64 y.r.day)).setCell ⟨w.heap.size+1+1,5,none⟩ (.int .i64 y.r.kn)).setCell ⟨w.heap.size+1+1,6,none⟩ (.int .i64 y.r.un)).drew):=⟨BoxA.drewB ((bR1.set7 (.int .i64 x.r.src) (.int .i64 x.r.bor) (.int .i64 x.r.pap) (.slice x.A x.n x.c) (.int .i64 x.r.day) (.int .i64 x.r.kn) (.int .i64 x.r.un)).other7 n12 (.int .i64 y.r.src) (.int .i64 y.r.bor) (.int .i64 y.r.pap) (.slice y.A y.n y.c) (.int .i64 y.r.day) (.int .i64 y.r.kn) (.int .i64 y.r.un)),BoxA.drewB ((bR2.other7 n21 (.int .i64 x.r.src) (.int .i64 x.r.bor) (.int .i64 x.r.pap) (.slice x.A x.n x.c) (.int .i64 x.r.day) (.int .i64 x.r.kn) (.int .i64 x.r.un)).set7 (.int .i64 y.r.src) (.int .i64 y.r.bor) (.int .i64 y.r.pap) (.slice y.A y.n y.c) (.int .i64 y.r.day) (.int .i64 y.r.kn) (.int .i64 y.r.un)),(below_set7 (below_set7 hBf l1 (.int .i64 x.r.src) (.int .i64 x.r.bor) (.int .i64 x.r.pap) (.slice x.A x.n x.c) (.int .i64 x.r.day) (.int .i64 x.r.kn) (.int .i64 x.r.un)) l2 (.int .i64 y.r.src) (.int .i64 y.r.bor) (.int .i64 y.r.pap) (.slice y.A y.n y.c) (.int .i64 y.r.day) (.int .i64 y.r.kn) (.int .i64 y.r.un)).drew⟩
        have GB:BoxA (((((((((((((((w5.setCell ⟨w.heap.size+1+1,0,none⟩ (.int .i64 y.r.src)).setCell ⟨w.heap.size+1+1,1,none⟩ (.int .i64 y.r.bor)).setCell ⟨w.heap.size+1+1,2,none⟩ (.int .i64 y.r.pap)).setCell ⟨w.heap.size+1+1,3,none⟩ (.slice y.A y.n y.c)).setCell ⟨w.heap.size+1+1,4,none⟩ (.int .i64 y.r.day)).setCell ⟨w.heap.size+1+1,5,none⟩ (.int .i64 y.r.kn)).setCell ⟨w.heap.size+1+1,6,none⟩ (.int .i64 y.r.un)).setCell ⟨w.heap.size+1,0,none⟩ (.int .i64 x.r.src)).setCell ⟨w.heap.size+1,1,none⟩ (.int .i64 x.r.bor)).setCell ⟨w.heap.size+1,2,none⟩ (.int .i64 x.r.pap)).setCell ⟨w.heap.size+1,3,none⟩ (.slice x.A x.n x.c)).setCell ⟨w.heap.size+1,4,none⟩ (.int .i64 x.r.day)).setCell ⟨w.heap.size+1,5,none⟩ (.int .i64 x.r.kn)).setCell ⟨w.heap.size+1,6,none⟩ (.int .i64 x.r.un)).drew) (w.heap.size+1) 32 #[.int .i64 x.r.src,.int .i64 x.r.bor,.int .i64 x.r.pap,.slice x.A x.n x.c,.int .i64 x.r.day,.int .i64 x.r.kn,.int .i64 x.r.un]∧BoxA (((((((((((((((w5.setCell ⟨w.heap.size+1+1,0,none⟩ (.int .i64 y.r.src)).setCell ⟨w.heap.size+1+1,1,none⟩ (.int .i64 y.r.bor)).setCell ⟨w.heap.size+1+1,2,none⟩ (.int .i64 y.r.pap)).setCell ⟨w.heap.size+1+1,3,none⟩ (.slice y.A y.n y.c)).setCell ⟨w.heap.size+1+1,4,none⟩ (.int .i64 y.r.day)).setCell ⟨w.heap.size+1+1,5,none⟩ (.int .i64 y.r.kn)).setCell ⟨w.heap.size+1+1,6,none⟩ (.int .i64 y.r.un)).setCell ⟨w.heap.size+1,0,none⟩ (.int .i64 x.r.src)).setCell ⟨w.heap.size+1,1,none⟩ (.int .i64 x.r.bor)).setCell ⟨w.heap.size+1,2,none⟩ (.int .i64 x.r.pap)).setCell ⟨w.heap.size+1,3,none⟩ (.slice x.A x.n x.c)).setCell ⟨w.heap.size+1,4,none⟩ (.int .i64 x.r.day)).setCell ⟨w.heap.size+1,5,none⟩ (.int .i64 x.r.kn)).setCell ⟨w.heap.size+1,6,none⟩ (.int .i64 x.r.un)).drew) (w.heap.size+1+1) 32 #[.int .i64 y.r.src,.int .i64 y.r.bor,.int .i64 y.r.pap,.slice y.A y.n y.c,.int .i64 y.r.day,.int .i64 y.r.kn,.int .i64 y.r.un]∧Below w.heap.size w (((((((((((((((w5.setCell ⟨w.heap.size+1+1,0,none⟩ (.int .i64 y.r.src)).setCell ⟨w.heap.size+1+1,1,none⟩ (.int .i64 y.r.bor)).setCell ⟨w.heap.size+1+1,2,none⟩ (.int .i64 y.r.pap)).setCell ⟨w.heap.size+1+1,3,none⟩ (.slice y.A y.n y.c)).setCell ⟨w.heap.size+1+1,4,none⟩ (.int .i64 y.r.day)).setCell ⟨w.heap.size+1+1,5,none⟩ (.int .i64 y.r.kn)).setCell ⟨w.heap.size+1+1,6,none⟩ (.int .i64 y.r.un)).setCell ⟨w.heap.size+1,0,none⟩ (.int .i64 x.r.src)).setCell ⟨w.heap.size+1,1,none⟩ (.int .i64 x.r.bor)).setCell ⟨w.heap.size+1,2,none⟩ (.int .i64 x.r.pap)).setCell ⟨w.heap.size+1,3,none⟩ (.slice x.A x.n x.c)).setCell ⟨w.heap.size+1,4,none⟩ (.int .i64 x.r.day)).setCell ⟨w.heap.size+1,5,none⟩ (.int .i64 x.r.kn)).setCell ⟨w.heap.size+1,6,none⟩ (.int .i64 x.r.un)).drew):=⟨BoxA.drewB ((bR1.other7 n12 (.int .i64 y.r.src) (.int .i64 y.r.bor) (.int .i64 y.r.pap) (.slice y.A y.n y.c) (.int .i64 y.r.day) (.int .i64 y.r.kn) (.int .i64 y.r.un)).set7 (.int .i64 x.r.src) (.int .i64 x.r.bor) (.int .i64 x.r.pap) (.slice x.A x.n x.c) (.int .i64 x.r.day) (.int .i64 x.r.kn) (.int .i64 x.r.un)),BoxA.drewB ((bR2.set7 (.int .i64 y.r.src) (.int .i64 y.r.bor) (.int .i64 y.r.pap) (.slice y.A y.n y.c) (.int .i64 y.r.day) (.int .i64 y.r.kn) (.int .i64 y.r.un)).other7 n21 (.int .i64 x.r.src) (.int .i64 x.r.bor) (.int .i64 x.r.pap) (.slice x.A x.n x.c) (.int .i64 x.r.day) (.int .i64 x.r.kn) (.int .i64 x.r.un)),(below_set7 (below_set7 hBf l2 (.int .i64 y.r.src) (.int .i64 y.r.bor) (.int .i64 y.r.pap) (.slice y.A y.n y.c) (.int .i64 y.r.day) (.int .i64 y.r.kn) (.int .i64 y.r.un)) l1 (.int .i64 x.r.src) (.int .i64 x.r.bor) (.int .i64 x.r.pap) (.slice x.A x.n x.c) (.int .i64 x.r.day) (.int .i64 x.r.kn) (.int .i64 x.r.un)).drew⟩
        have HGA:=Lib.hid GA
        have HGB:=Lib.hid GB
        clear GA GB
        refine wp_named2 fun f1' V1 hf1' hV1=>?_
        subst hV1
        refine wp_cut2 (fun a' W'=>a'={ tmps:=((f1'.tmps.setIfInBounds 31 (rvV x)).setIfInBounds 32 (rvV y)).setIfInBounds 4 (.bool true),defers:=[] }∧BoxA W' (w.heap.size+1) 32 #[.int .i64 x.r.src,.int .i64 x.r.bor,.int .i64 x.r.pap,.slice x.A x.n x.c,.int .i64 x.r.day,.int .i64 x.r.kn,.int .i64 x.r.un]∧BoxA W' (w.heap.size+1+1) 32 #[.int .i64 y.r.src,.int .i64 y.r.bor,.int .i64 y.r.pap,.slice y.A y.n y.c,.int .i64 y.r.day,.int .i64 y.r.kn,.int .i64 y.r.un]∧Below w.heap.size w W') ?reg ?rest
        case reg =>
         subst hf1'
         clear HCL HFJ HXk HJ HX HL HAD HB0 HB1 HB2 HBX HW1 HW2 HDR HW4 k0 m0 mX hcap2
         go_region
         all_goals
          refine ⟨rfl,?_⟩
          first
           | with_reducible exact HGA.out
           | with_reducible exact HGB.out
        case rest =>
         clear cX5 cY5 c1 c2 f1 f2
         subst hf1'
         rintro a' W' ⟨rfl,g1,g2,gB⟩
         simp only [List.setIfInBounds_toArray,List.set_cons_zero,List.set_cons_succ]
         have d1:=g1.cell
         have d2:=g2.cell
         have q1:=g1.lt
         have q2:=g2.lt
         go_wp2
         refine bodyPost_ret (v:=.tuple #[.agg #[.int .i64 x.r.src,.int .i64 x.r.bor,.int .i64 x.r.pap,.slice x.A x.n x.c,.int .i64 x.r.day,.int .i64 x.r.kn,.int .i64 x.r.un],.agg #[.int .i64 y.r.src,.int .i64 y.r.bor,.int .i64 y.r.pap,.slice y.A y.n y.c,.int .i64 y.r.day,.int .i64 y.r.kn,.int .i64 y.r.un],.bool true]) ?_ rfl ?_
         ·(simp [results,Tryz.f104,go_sem];try go_simp)
         ·exact ⟨gB,rfl⟩
      | false =>
        have hcall:=HAD.out x y false W4 hBW4 hmx hmy hct
        have HF:=Lib.hid (find_step2 (p:=fun y=>dblB M P x.r y.r) HJ.out hct HFJ.out)
        rw [← hW4] at hcall
        clear hct
        have HW4:=Lib.hid hW4
        clear hW4
        go_wp2_with (go_at_call 115;refine hcall.mono ?_;rintro e w5 ⟨rfl,hb5'⟩;have hb5:Below W4.heap.size W4 w5:=(by rw [← HW4.out];exact hb5');have hs5:=hb5.size)
        have hs4:=hB4.size
        go_roundw
        case rel=>exact ⟨j+1,by omega,by go_num,HF.out,hB3.trans ((hB4.trans (hb5.mono hs4)).mono (by omega))⟩
        case measure=>exact ms_
     ·have hfn:(xs.drop (k+1)).find? (fun y=>dblB M P x.r y.r)=none:=by
       have h1:=HFJ.out
       rwa [List.take_of_length_le (by rw [List.length_drop,HL.out];omega)] at h1
      have HN:=Lib.hid (dbl2_none HXk.out hfn HCL.out)
      clear hfn
      go_wp2
      go_roundw
      case rel=>exact ⟨k+1,by omega,by go_num,HN.out,hB1r⟩
      case measure=>exact ms_
  ·have hkn:Hid (k=Rn):=by show _=_;omega
   have ho:q=none:=by
    rw [← HCL.out,List.drop_eq_nil_of_le (by rw [HL.out,hkn.out];exact Nat.le_refl _)];rfl
   subst ho
   have bR1:=HB1.out.ext hB
   have bR2:=HB2.out.ext hB
   have c1:=bR1.cell
   have c2:=bR2.cell
   have z15:=bR1.lt
   have z25:=bR2.lt
   have f1:∀ j,wo.frozen? ⟨w.heap.size+1,j,none⟩=false:=fun j=>by simp [World.frozen?,show wo.heap[w.heap.size+1]?=_ from bR1]
   have f2:∀ j,wo.frozen? ⟨w.heap.size+1+1,j,none⟩=false:=fun j=>by simp [World.frozen?,show wo.heap[w.heap.size+1+1]?=_ from bR2]
   go_wp2
   refine bodyPost_ret (v:=.tuple #[.agg #[.int .i64 0,.int .i64 0,.int .i64 0,.slice none 0 0,.int .i64 0,.int .i64 0,.int .i64 0],.agg #[.int .i64 0,.int .i64 0,.int .i64 0,.slice none 0 0,.int .i64 0,.int .i64 0,.int .i64 0],.bool false]) ?_ rfl ?_
   ·(simp [results,Tryz.f104,go_sem];try go_simp)
   ·exact ⟨by exact bel_,rfl⟩
end Go.Proofs.YtoiompoapikkbaaGreat
/- Layer 2: all folios of a ledger. -/
namespace Go.Proofs.YtoiompoapikkbaaGreat
open Go.RowKit Go.Maps
def ppFol (p:Ppr):List (Int × Int):=(List.range p.lv.toNat).map fun i:Nat=>(p.id,(i:Int)+1)
def folL (pp:List Ppr):List (Int × Int):=pp.flatMap ppFol
theorem take_pfol {l:List Ppr} {k:Nat} {r:Ppr} (h:l[k]?=some r):(l.take (k+1)).flatMap ppFol=(l.take k).flatMap ppFol ++ ppFol r:=by rw [take_snoc_some h];simp
theorem pfol_len {l:List Ppr} (h:∀ r∈l,r.lv≤30) (k:Nat):((l.take k).flatMap ppFol).length≤30*k:=by
 induction k generalizing l with
 | zero=>simp
 | succ k ih =>
   cases l with
   | nil=>simp
   | cons r l =>
     have h1:=ih (l:=l) fun r hr=>h r (List.mem_cons_of_mem _ hr)
     have h2:=h r (by simp)
     simp only [List.take_succ_cons,List.flatMap_cons,List.length_append,ppFol,List.length_map,List.length_range] at h1 ⊢
     omega
set_option maxRecDepth 10000 in
set_option maxHeartbeats 8000000 in
theorem p_folios (l:Led) (x:Lsl) (w:World) (hp:x.pn≤12) (hl30:∀ r∈l.pp,0≤r.lv∧r.lv≤30) (hd:LedIn w w.heap.size x l) :
 Calls Tryz.prog 138 #[.agg #[.slice x.pA x.pn x.pc,.slice x.rA x.rn x.rc,.slice x.tA x.tn x.tc,.slice x.sA x.sn x.sc]] w (RetF (folL l.pp) w):=by
 obtain ⟨i0,hi,hz0,hz1,hz2⟩:=info_parts infoFol
 have hl1:=hd.p.len
 have HD:=Lib.hid (hd.now ((Below.refl w.heap.size w).alloc (Nat.le_refl _) (.cells #[.slice x.pA x.pn x.pc,.slice x.rA x.rn x.rc,.slice x.tA x.tn x.tc,.slice x.sA x.sn x.sc] 27)))
 have HL1:=Lib.hid hl1
 have H30:=Lib.hid hl30
 clear hl1 hd hl30
 go_enter Tryz.func138,Tryz.ntmps138
 go_wp2
 go_loopw [3,10] (fun v i wr=>∃ k:Nat,k≤x.pn∧i=.int .i64 k∧wr.ownsRow (w.heap.size+1) 60 2 v ((l.pp.take k).flatMap ppFol).length (folCells ((l.pp.take k).flatMap ppFol))∧Below (w.heap.size+1) (w.alloc (.cells #[.slice x.pA x.pn x.pc,.slice x.rA x.rn x.rc,.slice x.tA x.tn x.tc,.slice x.sA x.sn x.sc] 27)) wr) (fun _ i _=>x.pn - (intOf i).toNat)
 case atStart=>exact ⟨0,by omega,rfl,World.ownsRow_nil _ _ _ _,by exact bel_⟩
 case round =>
  obtain ⟨k,hk,rfl,hown,hB⟩:=hrel
  have hs0:w.heap.size+1≤wr.heap.size:=by have h:=hB.size;simp at h;omega
  by_cases hlt:k<x.pn
  ·obtain ⟨b,o,e,hA,hb,he,a0,a1⟩:=(Sq.ext HD.out.p abP (w':=wr) (by simpa using hB) (Nat.le_refl _)).at_ hlt
   have hbr:b<wr.heap.size:=by simp at hb;omega
   have hlv:=H30.out e (List.mem_of_getElem? he)
   obtain ⟨n1,hn1⟩:∃ n:Nat,e.lv=(n:Int):=⟨e.lv.toNat,by omega⟩
   have hn30:n1≤30:=by omega
   have hfl:=pfol_len (fun r hr=>(H30.out r hr).2) k
   have HE:Hid ((l.pp.take (k+1)).flatMap ppFol=(l.pp.take k).flatMap ppFol ++ (List.range n1).map fun i:Nat=>(e.id,(i:Int)+1)):=by show _=_;rw [take_pfol he,ppFol,hn1];simp
   obtain ⟨L0,hL0⟩:∃ L0,(l.pp.take k).flatMap ppFol=L0:=⟨_,rfl⟩
   rw [hL0] at hown hfl HE
   rw [hn1] at a1
   obtain ⟨eid,heid⟩:∃ d,e.id=d:=⟨_,rfl⟩
   rw [heid] at a0 HE
   obtain ⟨wo,hwo⟩:∃ wo,wo=wr:=⟨_,rfl⟩
   subst hwo
   have HB:=Lib.hid hB
   have HO:=Lib.hid hown
   clear he hB hL0 hown hlv hn1 heid
   go_wp2
   have HAA:=Lib.hid hA
   clear hA
   go_loopw [3,16] (fun v i wq=>∃ j:Nat,j≤n1∧i=.int .i64 j∧wq.ownsRow (w.heap.size+1) 60 2 v (L0.length+j) (folCells (L0 ++ (List.range j).map fun i:Nat=>(eid,(i:Int)+1)))∧Below (w.heap.size+1) wo wq∧wq.heap[wo.heap.size]?=some (.cells #[.int .i64 eid,.int .i64 n1] 29 (0,0))) (fun _ i _=>n1 - (intOf i).toNat)
   case atStart=>exact ⟨0,by omega,rfl,by simpa using HO.out.alloc _,by exact bel_,by simpa using World.alloc_heap_new wo _⟩
   case round =>
    obtain ⟨j,hj,rfl,hown,hQ,hbox⟩:=hrel
    have hBQ:Below (w.heap.size+1) (w.alloc (.cells #[.slice x.pA x.pn x.pc,.slice x.rA x.rn x.rc,.slice x.tA x.tn x.tc,.slice x.sA x.sn x.sc] 27)) wr:=HB.out.trans hQ
    have hbl:wo.heap.size<wr.heap.size:=(Array.getElem?_eq_some_iff.1 hbox).1
    have x2:wr.cell? ⟨wo.heap.size,0,none⟩=some (.int .i64 eid):=by simp [World.cell?,hbox]
    by_cases hjn:j<n1
    ·have HOI:=Lib.hid hown
     have HQ:=Lib.hid hQ
     have HBX:=Lib.hid hbox
     clear hQ hbox
     go_wp2_with (at_builtin;refine wpList_append_own _ rfl (.tmp 19) (.tmp 25) 71 rfl (w.heap.size+1) 60 i0 _ 2 16 Tryz.underlying71 hi hz0 hz1 hz2 rfl (by decide) _ _ _ rfl (hown.alloc _) ⟨wr.heap.size,0,none⟩ 1 1 [.int .i64 eid,.int .i64 ((j:Int)+1)] rfl rfl ?c1 ?c2 ?c3 ?c4 ?c5 ?_;rotate_left 5;intro v' w2 hown2 hgrow2 _)
     case c1=>intro j u hj;match j,hj with
      | 0,hj=>simp at hj;subst hj;simp [Addr.add]
      | 1,hj=>simp at hj;subst hj;simp [Addr.add]
     case c2=>simp [Value.oneCell']
     case c3=>unfold maxLen;omega
     case c4=>omega
     case c5=>simp;omega
     go_roundw
     case rel =>
      refine ⟨j+1,by omega,by go_num,?_,OwnS.below (by have:=HQ.out;exact bel_) HOI.out (by simp;omega) hgrow2,?_⟩
      ·have e1:folCells (L0 ++ (List.range (j+1)).map fun i:Nat=>(eid,(i:Int)+1))=folCells (L0 ++ (List.range j).map fun i:Nat=>(eid,(i:Int)+1)) ++ [.int .i64 eid,.int .i64 ((j:Int)+1)]:=by rw [List.range_succ];simp [folCells]
       rw [e1]
       exact hown2
      ·exact box_kept (W:=wr.alloc (.cells #[.int .i64 eid,.int .i64 ((j:Int)+1)] 60)) ((Below.heap_alloc _ _ _ hbl).trans HBX.out) HOI.out HBX.out (by decide) hgrow2
     case measure=>exact ms_
    ·have hjk:Hid (j=n1):=by show _=_;omega
     have HOI:=Lib.hid hown
     have HBQ:=Lib.hid hBQ
     clear hown hBQ hbox hQ
     go_wp2
     have hA:=HAA.out
     go_roundw
     case rel =>
      refine ⟨k+1,by omega,by go_num,?_,HBQ.out⟩
      rw [HE.out]
      have h:=HOI.out
      rw [hjk.out] at h
      rw [List.length_append,List.length_map,List.length_range]
      exact h
     case measure=>exact ms_
  ·have hkn:Hid (k=x.pn):=by show _=_;omega
   have HO:=Lib.hid hown
   have HB:=Lib.hid hB
   clear hown hB
   go_wp2
   go_ret
   refine ⟨_,rfl,(show Below w.heap.size w (w.alloc (.cells #[.slice x.pA x.pn x.pc,.slice x.rA x.rn x.rc,.slice x.tA x.tn x.tc,.slice x.sA x.sn x.sc] 27)) by exact bel_).trans (HB.out.mono (Nat.le_succ _)),?_⟩
   have h:=HO.out
   rw [hkn.out,List.take_of_length_le (by rw [HL1.out];exact Nat.le_refl _)] at h
   exact own_dn h (Nat.le_succ _)
end Go.Proofs.YtoiompoapikkbaaGreat
/- Layer 2, the reference: returnOf. -/
namespace Go.Proofs.YtoiompoapikkbaaGreat
open Go.RowKit Go.Maps
def rtAt (src leaf:Int) (p:Bool × Rtn):Bool:=p.1 && (decide (p.2.rcp=src) && decide (leaf∈p.2.lv))
def rtIx (T:List Bool) (rt:List Rtn) (src leaf:Int):Option Nat:=(List.zip T rt).findIdx? (rtAt src leaf)
set_option maxRecDepth 10000 in
set_option maxHeartbeats 8000000 in
theorem r_returnOf (l:Led) (v:Vw) (T:List Bool) (i:Nat) (r:Rcp) (leaf:Int) (w:World) (hn:v.x.rn≤1000000) (htn:v.x.tn≤1000000) (hTt:v.Tn=v.x.tn) (hd:LedIn w w.heap.size v.x l) (hT:Sq QB 1 w w.heap.size v.TA v.Tn T) (hr:l.rc[i]?=some r) :
 Calls Tryz.prog 130 #[vwV v,.int .i64 i,.int .i64 leaf] w fun e w'=>e=.returned (.int .i64 (ixI (rtIx T l.rt r.src leaf)))∧Below w.heap.size w w':=by
 obtain ⟨⟨pA,pn,pc,rA,rn,rc,tA,tn,tc,sA,sn,sc⟩,kn,TA,Tn,Tc,DA,Dn,Dc⟩:=v
 obtain rfl:Tn=tn:=hTt
 show Calls _ _ #[.agg #[.slice pA pn pc,.slice rA rn rc,.slice tA Tn tc,.slice sA sn sc,.int .i64 kn,.slice TA Tn Tc,.slice DA Dn Dc],_,_] _ _
 have HR:Hid (Rcs w w.heap.size rA rn l.rc):=by show Sq _ _ _ _ _ _ _;exact hd.r
 have HT:Hid (Rts w w.heap.size tA Tn l.rt):=by show Sq _ _ _ _ _ _ _;exact hd.t
 have HB:Hid (Sq QB 1 w w.heap.size TA Tn T):=by show Sq _ _ _ _ _ _ _;exact hT
 have hrn:rn≤1000000:=hn
 have hTn:Tn≤1000000:=htn
 have hi:i<rn:=by rw [← HR.out.len];exact (List.getElem?_eq_some_iff.1 hr).1
 obtain ⟨br,or_,r',rfl,hbr,hx,A1,n1,c1,⟨hr0,_,_,_,_,_,_⟩,_,_,_⟩:=HR.out.at_ hi
 obtain rfl:r=r':=Option.some.inj (hr.symm.trans hx)
 clear hd hn hr hx hT htn
 obtain ⟨q,hq⟩:∃ q,rtIx T l.rt r.src leaf=q:=⟨_,rfl⟩
 rw [hq]
 have HQ:=Lib.hid hq
 clear hq
 go_enter Tryz.func130,Tryz.ntmps130
 go_wp2
 go_loopw [7] (fun i wr=>∃ k:Nat,k≤Tn∧i=.int .i64 k∧((List.zip T l.rt).take k).any (rtAt r.src leaf)=false∧Below w.heap.size w wr∧BoxA wr w.heap.size 127 #[.slice pA pn pc,.slice (some ⟨br,or_,none⟩) rn rc,.slice tA Tn tc,.slice sA sn sc,.int .i64 kn,.slice TA Tn Tc,.slice DA Dn Dc]) (fun i _=>Tn - (intOf i).toNat)
 case atStart=>exact ⟨0,by omega,rfl,rfl,by exact bel_,BoxA.new _ _ _⟩
 case round =>
  obtain ⟨k,hk,rfl,hany,hB,hbx⟩:=hrel
  have HA:=Lib.hid hany
  clear hany
  have hs0:=hB.size
  have kx:=hbx.cell
  have zx:=hbx.lt
  have hrw:wr.cell? ⟨br,or_+i*7,none⟩=some (.int .i64 r.src):=(hB.cell (p:=⟨br,_,none⟩) hbr).trans hr0
  have hbrw:br<wr.heap.size:=by omega
  by_cases hlt:k<Tn
  ·obtain ⟨bt,ot,tl,rfl,hbt,htl,q0⟩:=(Sq.ext HB.out abB hB (Nat.le_refl _)).at_ hlt
   obtain ⟨b,o,t,rfl,hb,hx,A2,n2,c2,⟨h0,h1,h2,h3,h4,h5,h6,h7⟩,hi1,hc1,hm1⟩:=(Sq.ext HT.out abT hB (Nat.le_refl _)).at_ hlt
   have q0:wr.cell? ⟨bt,ot+k,none⟩=some (.bool tl):=by have h:wr.cell? ⟨bt,ot+k*1,none⟩=some (.bool tl):=q0;rwa [Nat.mul_one] at h
   have hz:(List.zip T l.rt)[k]?=some (tl,t):=by rw [List.getElem?_zip_eq_some];exact ⟨htl,hx⟩
   have HZ:=Lib.hid hz
   have hn2:n2≤9223372036854775807:=by have:maxLen≤9223372036854775807:=(by decide);omega
   have HI:Hid (Is wr wr.heap.size A2 n2 t.lv):=by show Is _ _ _ _ _;exact Is.more hi1 (by omega)
   have hbtw:bt<wr.heap.size:=by omega
   have hbw:b<wr.heap.size:=by omega
   clear hz htl hx hi1
   cases tl with
   | false =>
     have HF:Hid (((List.zip T l.rt).take (k+1)).any (rtAt r.src leaf)=false):=by show _=_;rw [any_take_succ2 HZ.out,HA.out];rfl
     go_wp2_with fail
     (refine rg_ ?_;(repeat (go_big_quiet_step (fail)));refine qn_ fun w1 hb1 hc1 hf1=>?_)
     go_wp2_with fail
     go_roundw
     case rel=>exact ⟨k+1,by omega,by go_num,HF.out,Below.then_ hB hb1,hbx.ext hb1⟩
     case measure=>exact ms_
   | true =>
     by_cases he:t.rcp=r.src
     ·have hed:(t.rcp == r.src)=true:=by simpa using he
      have HE:=Lib.hid he
      clear he
      cases hm:decide (leaf∈t.lv) with
      | true =>
        have ho:q=some k:=by rw [← HQ.out];exact ix_found HZ.out (by simp [rtAt,HE.out];simpa using hm) HA.out
        subst ho
        have HM:=Lib.hid hm
        clear hm
        go_wp2_with fail
        (refine rg_ ?_;(repeat (go_big_quiet_step ((first | (go_at_call_of 65 (Value.slice A2 n2 c2);exact Calls.grow_all (fun g=>r_Has2_v t.lv leaf true A2 n2 c2 g.1 hn2 (HI.out.now g.2) HM.out))))));refine qn_ fun w1 hb1 hc1 hf1=>?_)
        go_wp2_with fail
        go_ret
        exact ⟨rfl,Below.then_ hB hb1⟩
      | false =>
        have HF:Hid (((List.zip T l.rt).take (k+1)).any (rtAt r.src leaf)=false):=by show _=_;rw [any_take_succ2 HZ.out,HA.out];simp only [rtAt,hm];simp
        have HM:=Lib.hid hm
        clear hm
        go_wp2_with fail
        (refine rg_ ?_;(repeat (go_big_quiet_step ((first | (go_at_call_of 65 (Value.slice A2 n2 c2);exact Calls.grow_all (fun g=>r_Has2_v t.lv leaf false A2 n2 c2 g.1 hn2 (HI.out.now g.2) HM.out))))));refine qn_ fun w1 hb1 hc1 hf1=>?_)
        go_wp2_with fail
        go_roundw
        case rel=>exact ⟨k+1,by omega,by go_num,HF.out,Below.then_ hB hb1,hbx.ext hb1⟩
        case measure=>exact ms_
     ·have hed:(t.rcp == r.src)=false:=by simpa using he
      have HF:Hid (((List.zip T l.rt).take (k+1)).any (rtAt r.src leaf)=false):=by show _=_;rw [any_take_succ2 HZ.out,HA.out];simp [rtAt,he]
      clear he
      go_wp2_with fail
      (refine rg_ ?_;(repeat (go_big_quiet_step (fail)));refine qn_ fun w1 hb1 hc1 hf1=>?_)
      go_wp2_with fail
      go_roundw
      case rel=>exact ⟨k+1,by omega,by go_num,HF.out,Below.then_ hB hb1,hbx.ext hb1⟩
      case measure=>exact ms_
  ·have hkn:Hid (k=Tn):=by show _=_;omega
   have ho:q=none:=by
    have:=HA.out
    rw [List.take_of_length_le (by rw [List.length_zip,HB.out.len,HT.out.len,hkn.out];simp)] at this
    rw [← HQ.out]
    exact ix_none this
   subst ho
   go_wp2
   go_ret
   exact ⟨rfl,hB⟩
end Go.Proofs.YtoiompoapikkbaaGreat
