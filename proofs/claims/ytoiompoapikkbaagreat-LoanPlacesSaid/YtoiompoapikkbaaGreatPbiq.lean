/- Layer 2 of the texts that LoanPlaces takes: Pbiq. -/
import Derived.Test.YtoiompoapikkbaaGreatPbhq
import Derived.Test.YtoiompoapikkbaaGreatPbeq
set_option linter.unusedVariables false
set_option linter.unusedSimpArgs false
set_option maxHeartbeats 16000000
namespace Go.Proofs.YtoiompoapikkbaaGreat
open Go.RowKit Go.Maps
theorem r_returnOf_v (l:Led) (v:Vw) (T:List Bool) (i:Nat) (r:Rcp) (leaf k:Int) (w:World) (hn:v.x.rn≤1000000) (htn:v.x.tn≤1000000) (hTt:v.Tn=v.x.tn) (hd:LedIn w w.heap.size v.x l) (hT:Sq QB 1 w w.heap.size v.TA v.Tn T) (hr:l.rc[i]?=some r) (hk:ixI (rtIx T l.rt r.src leaf)=k) :
 Calls Tryz.prog 130 #[vwV v,.int .i64 i,.int .i64 leaf] w fun e w'=>e=.returned (.int .i64 k)∧Below w.heap.size w w':=hk ▸ r_returnOf l v T i r leaf w hn htn hTt hd hT hr
theorem any_of_some {α:Type} {l:List α} {k:Nat} {x:α} {p:α→Bool} (h:l[k]?=some x) (hp:p x=true):l.any p=true:=List.any_eq_true.2 ⟨x,List.mem_of_getElem? h,hp⟩
def refM (l:Led) (x y:Rcp):Option Nat→Bool
 | none=>true
 | some k=>match l.rt[k]? with
   | none=>true
   | some t=>decide (y.day<max t.lo (x.day+1))
theorem refOut_eq (l:Led) (T:List Bool) (kn:Int) (x y:Rcp) (f:Int):refOut l T kn x y f=((countsB x.kn x.un kn && isOfB x.pap f x) && ((countsB y.kn y.un kn && isOfB x.pap f y) && (decide (x.day=y.day) || refM l x y (rtIx T l.rt x.src f)))):=by
 rw [refOut]
 cases rtIx T l.rt x.src f with
 | none=>rfl
 | some k=>cases h:l.rt[k]? <;> simp [refM,h]
section
variable {P:Program} {o:Oper} {Q:Exit→Act→World→Prop}
theorem wp_region_bsink {id:Nat} {a:Act} {w:World} {l:List Oper} (n:Nat) (hm:P.follows .mixedOrders=true) (hd:l.drop n=[o]) (hn:(l.take n).length=n) (h:sinkOk (l.take n).toArray o=true) (hB:o.after.all (fun e=>decide (e.on<n))=true)
 (hh:Below w.heap.size w w.drew→wpAnyH P .any (l.take n).toArray (sinkQ P o Q) (fun V=>Below w.heap.size w V) n (Array.replicate n false) a w.drew):(Code.region id l.toArray true).wp P Q a w :=
 wp_region_sink_lit (S:=fun V=>Below w.heap.size w V) n hm hd hn h hB ((Below.refl _ _).drew) hh
end
set_option maxRecDepth 10000 in
theorem r_double0 (l:Led) (v:Vw) (T:List Bool) (a b:Nat) (x y:Rcp) (w:World) (hl:LedOk l) (hTt:v.Tn=v.x.tn) (hd:LedIn w w.heap.size v.x l) (hT:Sq QB 1 w w.heap.size v.TA v.Tn T) (ha:l.rc[a]?=some x) (hb:l.rc[b]?=some y) (hxy:¬ y.day<x.day) :
 Calls Tryz.prog 117 #[vwV v,.int .i64 a,.int .i64 b] w fun e w'=>e=.returned (.bool (x.lv.any (refOut l T v.kn x y)))∧Below w.heap.size w w':=by
 obtain ⟨⟨pA,pn,pc,rA,rn,rc,tA,tn,tc,sA,sn,sc⟩,kn,TA,Tn,Tc,DA,Dn,Dc⟩:=v
 obtain rfl:Tn=tn:=hTt
 show Calls _ _ #[.agg #[.slice pA pn pc,.slice rA rn rc,.slice tA Tn tc,.slice sA sn sc,.int .i64 kn,.slice TA Tn Tc,.slice DA Dn Dc],_,_] _ (fun e w'=>e=.returned (.bool (x.lv.any (refOut l T kn x y)))∧Below w.heap.size w w')
 have HR:Hid (Rcs w w.heap.size rA rn l.rc):=by show Sq _ _ _ _ _ _ _;exact hd.r
 have HT:Hid (Rts w w.heap.size tA Tn l.rt):=by show Sq _ _ _ _ _ _ _;exact hd.t
 have hrn6:rn≤1000000:=by have h:=HR.out.len;have h2:=hl.rn;omega
 have htn6:Tn≤1000000:=by have h:=HT.out.len;have h2:=hl.tn;omega
 have hia:a<rn:=by rw [← HR.out.len];exact (List.getElem?_eq_some_iff.1 ha).1
 have hib:b<rn:=by rw [← HR.out.len];exact (List.getElem?_eq_some_iff.1 hb).1
 obtain ⟨bx,ox,x',rfl,hbx,hxx,A1,n1,c1,⟨g0,g1,g2,g3,g4,g5,g6⟩,gi,gc,gm⟩:=HR.out.at_ hia
 obtain rfl:x=x':=Option.some.inj (ha.symm.trans hxx)
 obtain ⟨by_,oy,y',ey,hby,hyy,A2,n2,c2,⟨k0,k1,k2,k3,k4,k5,k6⟩,ki,kc,km⟩:=HR.out.at_ hib
 obtain rfl:y=y':=Option.some.inj (hb.symm.trans hyy)
 obtain ⟨rfl,rfl⟩:bx=by_∧ox=oy:=by simpa using ey
 have hday:=(hl.rc x (List.mem_of_getElem? ha)).2.2.2
 have hd1:0≤x.day:=hday.1
 have hd2:x.day≤1000000:=by omega
 have hgt:decide (x.day>y.day)=false:=by simpa using hxy
 have hn1:n1≤9223372036854775807:=by have:maxLen≤9223372036854775807:=(by decide);omega
 have HIS:Hid (∀ (W:World) (i:Nat) (r:Rcp) (f:Int) (q:Bool),Below w.heap.size w W→l.rc[i]?=some r→(countsB r.kn r.un kn && isOfB x.pap f r)=q→Calls Tryz.prog 169 #[.agg #[.slice pA pn pc,.slice (some ⟨bx,ox,none⟩) rn rc,.slice tA Tn tc,.slice sA sn sc,.int .i64 kn,.slice TA Tn Tc,.slice DA Dn Dc],.int .i64 i,.agg #[.int .i64 x.pap,.int .i64 f]] W fun e w'=>e=.returned (.bool q)∧Below W.heap.size W w'):=by
  show ∀ _,_
  exact fun W i r f q hW h1 h2=>r_isOf_v l ⟨⟨pA,pn,pc,some ⟨bx,ox,none⟩,rn,rc,tA,Tn,tc,sA,sn,sc⟩,kn,TA,Tn,Tc,DA,Dn,Dc⟩ i r x.pap f q W hrn6 (hd.now hW) h1 h2
 have HRO:Hid (∀ (W:World) (f k:Int),Below w.heap.size w W→ixI (rtIx T l.rt x.src f)=k→Calls Tryz.prog 130 #[.agg #[.slice pA pn pc,.slice (some ⟨bx,ox,none⟩) rn rc,.slice tA Tn tc,.slice sA sn sc,.int .i64 kn,.slice TA Tn Tc,.slice DA Dn Dc],.int .i64 a,.int .i64 f] W fun e w'=>e=.returned (.int .i64 k)∧Below W.heap.size W w'):=by
  show ∀ _,_
  exact fun W f k hW h2=>r_returnOf_v l ⟨⟨pA,pn,pc,some ⟨bx,ox,none⟩,rn,rc,tA,Tn,tc,sA,sn,sc⟩,kn,TA,Tn,Tc,DA,Dn,Dc⟩ T a x f k W hrn6 htn6 rfl (hd.now hW) (hT.now abB hW) ha h2
 have HA:=hd_ ha
 have HB:=hd_ hb
 have HGI:=hd_ gi
 have hxm:Hid (∀ f,f∈x.lv→isOfB x.pap f x=true):=by show ∀ _,_;intro f hf;simp [isOfB,hf]
 clear hd hl hT ha hb hxx hyy ey gi ki hxy hday
 obtain ⟨out,hout⟩:∃ o,x.lv.any (refOut l T kn x y)=o:=⟨_,rfl⟩
 rw [hout]
 have HO:=hd_ hout
 clear hout
 go_enter Tryz.func117,Tryz.ntmps117
 go_wp2_with fail
 go_loopw [9] (fun i wr=>∃ j:Nat,j≤n1∧i=.int .i64 j∧(x.lv.take j).any (refOut l T kn x y)=false∧Below w.heap.size w wr∧BoxA wr w.heap.size 127 #[.slice pA pn pc,.slice (some ⟨bx,ox,none⟩) rn rc,.slice tA Tn tc,.slice sA sn sc,.int .i64 kn,.slice TA Tn Tc,.slice DA Dn Dc]∧BoxA wr (w.heap.size+1) 32 #[.int .i64 x.src,.int .i64 x.bor,.int .i64 x.pap,.slice A1 n1 c1,.int .i64 x.day,.int .i64 x.kn,.int .i64 x.un]∧BoxA wr (w.heap.size+1+1) 32 #[.int .i64 y.src,.int .i64 y.bor,.int .i64 y.pap,.slice A2 n2 c2,.int .i64 y.day,.int .i64 y.kn,.int .i64 y.un]) (fun i _=>n1 - (intOf i).toNat)
 case atStart =>
  refine ⟨0,by omega,rfl,rfl,by exact bel_,((BoxA.new _ _ _).alloc _).alloc _,?_,?_⟩
  ·have h:=(BoxA.new (w.alloc (.cells #[.slice pA pn pc,.slice (some ⟨bx,ox,none⟩) rn rc,.slice tA Tn tc,.slice sA sn sc,.int .i64 kn,.slice TA Tn Tc,.slice DA Dn Dc] 127)) 32 #[.int .i64 x.src,.int .i64 x.bor,.int .i64 x.pap,.slice A1 n1 c1,.int .i64 x.day,.int .i64 x.kn,.int .i64 x.un]).alloc (.cells #[.int .i64 y.src,.int .i64 y.bor,.int .i64 y.pap,.slice A2 n2 c2,.int .i64 y.day,.int .i64 y.kn,.int .i64 y.un] 32)
   simpa using h
  ·have h:=BoxA.new ((w.alloc (.cells #[.slice pA pn pc,.slice (some ⟨bx,ox,none⟩) rn rc,.slice tA Tn tc,.slice sA sn sc,.int .i64 kn,.slice TA Tn Tc,.slice DA Dn Dc] 127)).alloc (.cells #[.int .i64 x.src,.int .i64 x.bor,.int .i64 x.pap,.slice A1 n1 c1,.int .i64 x.day,.int .i64 x.kn,.int .i64 x.un] 32)) 32 #[.int .i64 y.src,.int .i64 y.bor,.int .i64 y.pap,.slice A2 n2 c2,.int .i64 y.day,.int .i64 y.kn,.int .i64 y.un]
   simpa using h
 case round =>
  obtain ⟨j,hj,rfl,hany,hB,bV,bX,bY⟩:=hrel
  have HN:=hd_ hany
  clear hany
  have hs0:=hB.size
  have kV:=bV.cell
  have zV:=bV.lt
  have kX:=bX.cell
  have zX:=bX.lt
  have kY:=bY.cell
  have zY:=bY.lt
  by_cases hlt:j<n1
  ·obtain ⟨bl,ol,f,rfl,hbl,hf,hcf⟩:=HGI.out.at_ hlt
   have cf:=(hB.cell (p:=⟨bl,ol+j,none⟩) hbl).trans hcf
   have hblr:bl<wr.heap.size:=by omega
   have HFS:=hd_ (any_take_succ2 (p:=refOut l T kn x y) hf)
   have HF:=hd_ hf
   have cX2:wr.cell? ⟨w.heap.size+1,2,none⟩=some (.int .i64 x.pap):=by rw [kX];rfl
   have cX3:wr.cell? ⟨w.heap.size+1,3,none⟩=some (.slice (some ⟨bl,ol,none⟩) n1 c1):=by rw [kX];rfl
   have HBV:=hd_ bV
   have HBX:=hd_ bX
   have HBY:=hd_ bY
   have hzX:w.heap.size+1<wr.heap.size:=zX
   clear hf hcf bV bX bY
   go_wp2_with fail
   (refine wp_region_bsink 9 (by kernel_rfl) rfl rfl (by kernel_rfl) (by kernel_rfl) (fun hS=>?_);simp only [List.take_succ_cons,List.take_zero,List.reduceReplicate,Array.replicate_succ,Array.replicate_zero])
   (refine tk_ (i:=0) (v:=?_) rfl ?_ hS ?_;rotate_left;focus (intro w2 hw2;obtain ⟨hc2,hf2⟩:=bcell hw2;go_simp;first | done | with_reducible rfl);(try simp only [Act.put,pu1,pu2,pu3]))
   (refine tk_ (i:=1) (v:=?_) rfl ?_ hS ?_;rotate_left;focus (intro w2 hw2;obtain ⟨hc2,hf2⟩:=bcell hw2;go_simp;first | done | with_reducible rfl);(try simp only [Act.put,pu1,pu2,pu3]))
   (refine tk_ (i:=2) (v:=?_) rfl ?_ hS ?_;rotate_left;focus (intro w2 hw2;obtain ⟨hc2,hf2⟩:=bcell hw2;go_simp;first | done | with_reducible rfl);(try simp only [Act.put,pu1,pu2,pu3]))
   (refine tk_ (i:=3) (v:=?_) rfl ?_ hS ?_;rotate_left;focus (intro w2 hw2;obtain ⟨hc2,hf2⟩:=bcell hw2;go_simp;first | done | with_reducible rfl);(try simp only [Act.put,pu1,pu2,pu3]))
   (refine tk_ (i:=4) (v:=?_) rfl ?_ hS ?_;rotate_left;focus (intro w2 hw2;obtain ⟨hc2,hf2⟩:=bcell hw2;go_simp;first | done | with_reducible rfl);(try simp only [Act.put,pu1,pu2,pu3]))
   (refine tk_ (i:=5) (v:=?_) rfl ?_ hS ?_;rotate_left;focus (intro w2 hw2;obtain ⟨hc2,hf2⟩:=bcell hw2;go_simp;first | done | with_reducible rfl);(try simp only [Act.put,pu1,pu2,pu3]))
   (refine tk_ (i:=6) (v:=?_) rfl ?_ hS ?_;rotate_left;focus (intro w2 hw2;obtain ⟨hc2,hf2⟩:=bcell hw2;go_simp;first | done | with_reducible rfl);(try simp only [Act.put,pu1,pu2,pu3]))
   (refine tk_ (i:=7) (v:=?_) rfl ?_ hS ?_;rotate_left;focus (intro w2 hw2;obtain ⟨hc2,hf2⟩:=bcell hw2;go_simp;first | done | with_reducible rfl);(try simp only [Act.put,pu1,pu2,pu3]))
   (refine rd_ [8] ?_;refine ah1 rfl fun K hK=>?_;(go_simp);refine hK.out _ _ (hS.alloc hS.size _) (fun hS=>?_);clear hK K;(try simp only [Act.put,pu1,pu2,pu3]))
   refine wpAnyH_done (by kernel_rfl) ?_ _
   simp only [sinkQ]
   have b9:=BoxA.new wr.drew 60 #[.int .i64 0,.int .i64 0]
   have c9:=b9.cell
   have z9:=b9.lt
   have f9:=b9.frozen
   have bF:BoxA (wr.alloc (.cells #[.int .i64 x.pap,.int .i64 f] 60)).drew wr.heap.size 60 #[.int .i64 x.pap,.int .i64 f]:=BoxA.new wr _ _
   have HBF:=hd_ bF
   clear b9 bF hS
   go_simp
   clear c9 z9 f9
   have hrefo:=hd_ (refOut_eq l T kn x y f)
   have HFSx:Hid (refOut l T kn x y f=false→(x.lv.take (j+1)).any (refOut l T kn x y)=false):=by show _→_;intro h;rw [HFS.out,HN.out,h];rfl
   have HTx:Hid (refOut l T kn x y f=true→out=true):=by show _→_;intro h;rw [← HO.out];exact any_of_some HF.out h
   have fin:∀ W6:World,Below wr.heap.size wr W6→refOut l T kn x y f=false→∃ j':Nat,j'≤n1∧(Value.int .i64 ((j:Int)+1))=.int .i64 j'∧(x.lv.take j').any (refOut l T kn x y)=false∧Below w.heap.size w W6∧BoxA W6 w.heap.size 127 #[.slice pA pn pc,.slice (some ⟨bx,ox,none⟩) rn rc,.slice tA Tn tc,.slice sA sn sc,.int .i64 kn,.slice TA Tn Tc,.slice DA Dn Dc]∧BoxA W6 (w.heap.size+1) 32 #[.int .i64 x.src,.int .i64 x.bor,.int .i64 x.pap,.slice (some ⟨bl,ol,none⟩) n1 c1,.int .i64 x.day,.int .i64 x.kn,.int .i64 x.un]∧BoxA W6 (w.heap.size+1+1) 32 #[.int .i64 y.src,.int .i64 y.bor,.int .i64 y.pap,.slice A2 n2 c2,.int .i64 y.day,.int .i64 y.kn,.int .i64 y.un]:=fun W6 h6 h=>⟨j+1,by omega,by simp,HFSx.out h,hB.trans (h6.mono hs0),HBV.out.ext h6,HBX.out.ext h6,HBY.out.ext h6⟩
   have FIN:=hd_ fin
   clear fin HFSx
   go_wp2_with fail
   cases hq1:(countsB x.kn x.un kn && isOfB x.pap f x) with
   | false =>
     have HQ1:=hd_ hq1
     have HV:Hid (refOut l T kn x y f=false):=by show _=_;rw [hrefo.out,hq1];rfl
     clear hq1
     refine (HIS.out _ a x f false (by exact bel_) HA.out HQ1.out).mono ?_
     rintro e w6 ⟨rfl,hb6⟩
     have h26:Below wr.heap.size wr w6:=bt_ (by exact bel_) hb6
     go_wp2_with fail
     go_roundw
     case rel=>exact FIN.out _ h26 HV.out
     case measure=>exact ms_
   | true =>
     have HQ1:=hd_ hq1
     refine (HIS.out _ a x f true (by exact bel_) HA.out HQ1.out).mono ?_
     rintro e w6 ⟨rfl,hb6⟩
     have h26:Below wr.heap.size wr w6:=bt_ (by exact bel_) hb6
     have hs6:=h26.size
     have HB6:Below w.heap.size w w6:=hB.trans (h26.mono hs0)
     have bF6:=HBF.out.ext hb6
     have bV6:=HBV.out.ext h26
     have kF6:=bF6.cell
     have zF6:=bF6.lt
     have kV6:=bV6.cell
     have zV6:=bV6.lt
     clear hb6
     go_wp2_with fail
     cases hq2:(countsB y.kn y.un kn && isOfB x.pap f y) with
     | false =>
       have HQ2:=hd_ hq2
       have HV:Hid (refOut l T kn x y f=false):=by show _=_;rw [hrefo.out,hq1,hq2];rfl
       clear hq1 hq2
       refine (HIS.out _ b y f false (by exact bel_) HB.out HQ2.out).mono ?_
       rintro e w7 ⟨rfl,hb7⟩
       go_wp2_with fail
       go_roundw
       case rel=>exact FIN.out _ (bt_ h26 hb7) HV.out
       case measure=>exact ms_
     | true =>
       have HQ2:=hd_ hq2
       refine (HIS.out _ b y f true (by exact bel_) HB.out HQ2.out).mono ?_
       rintro e w7 ⟨rfl,hb7⟩
       have h27:=bt_ h26 hb7
       have hs7:=h27.size
       have HB7:Below w.heap.size w w7:=hB.trans (h27.mono hs0)
       have bF7:=bF6.ext hb7
       have bV7:=HBV.out.ext h27
       have kF7:=bF7.cell
       have zF7:=bF7.lt
       have kV7:=bV7.cell
       have zV7:=bV7.lt
       clear kF6 zF6 kV6 zV6 hb7
       go_wp2_with fail
       obtain ⟨q,hq⟩:∃ q,rtIx T l.rt x.src f=q:=⟨_,rfl⟩
       have hv:refOut l T kn x y f=(decide (x.day=y.day) || refM l x y q):=by rw [hrefo.out,hq1,hq2,hq];rfl
       have HKI:Hid (ixI (rtIx T l.rt x.src f)=ixI q):=by show _=_;rw [hq]
       refine (HRO.out _ f (ixI q) (by exact bel_) HKI.out).mono ?_
       rintro e w8 ⟨rfl,hb8⟩
       have h28:=bt_ h27 hb8
       have hs8:=h28.size
       have HB8:Below w.heap.size w w8:=hB.trans (h28.mono hs0)
       have bV8:=HBV.out.ext h28
       have bX8:=HBX.out.ext h28
       have bY8:=HBY.out.ext h28
       have kV8:=bV8.cell
       have zV8:=bV8.lt
       have kX8:=bX8.cell
       have zX8:=bX8.lt
       have kY8:=bY8.cell
       have zY8:=bY8.lt
       have FIN8:=hd_ (fun (W:World) (h:Below w8.heap.size w8 W)=>FIN.out W (bt_ h28 h))
       clear kF7 zF7 kV7 zV7 hb8 bF7 bF6 bV6 bV7 bV8 bX8 bY8 kV kX kY zV zX zY hq1 hq2
       by_cases hde:x.day=y.day
       ·have hded:(x.day == y.day)=true:=by simpa using hde
        have HV:Hid (out=true):=by show _=_;exact HTx.out (by rw [hv];simp [hde])
        clear hv hde hq
        go_wp2_with fail
        (refine rg_ ?_;(repeat (go_big_quiet_step (fail)));refine qn_ fun w1 hb1 hc1 hf1=>?_)
        go_wp2_with fail
        go_ret
        exact ⟨by have h:=HV.out;subst h;rfl,bt_ HB8 hb1⟩
       ·have hded:(x.day == y.day)=false:=by simpa using hde
        cases q with
        | none =>
          have HV:Hid (out=true):=by show _=_;exact HTx.out (by rw [hv];simp [refM])
          have hneg:decide ((-1:Int)<0)=true:=by decide
          clear hv hde hq
          simp only [ixI]
          go_wp2_with fail
          (refine rg_ ?_;(repeat (go_big_quiet_step (fail)));refine qn_ fun w1 hb1 hc1 hf1=>?_)
          go_wp2_with fail
          go_ret
          exact ⟨by have h:=HV.out;subst h;rfl,bt_ HB8 hb1⟩
        | some k =>
          obtain ⟨-,t,ht,-,-⟩:=rt_some hq
          have hk:k<Tn:=by rw [← HT.out.len];exact (List.getElem?_eq_some_iff.1 ht).1
          obtain ⟨bt,ot,t',rfl,hbt,hxt,A3,n3,c3,⟨m0,m1,m2,m3,m4,m5,m6,m7⟩,_,_,_⟩:=HT.out.at_ hk
          obtain rfl:t=t':=Option.some.inj (ht.symm.trans hxt)
          have hbt8:bt<w8.heap.size:=by omega
          have hpos:decide ((k:Int)<0)=false:=by simp
          have e0:=(HB8.cell (p:=⟨bt,ot+k*8,none⟩) hbt).trans m0
          have e1:=(HB8.cell (p:=⟨bt,ot+k*8+1,none⟩) hbt).trans m1
          have e2:=(HB8.cell (p:=⟨bt,ot+k*8+2,none⟩) hbt).trans m2
          have e3:=(HB8.cell (p:=⟨bt,ot+k*8+3,none⟩) hbt).trans m3
          have e4:=(HB8.cell (p:=⟨bt,ot+k*8+4,none⟩) hbt).trans m4
          have e5:=(HB8.cell (p:=⟨bt,ot+k*8+5,none⟩) hbt).trans m5
          have e6:=(HB8.cell (p:=⟨bt,ot+k*8+6,none⟩) hbt).trans m6
          have e7:=(HB8.cell (p:=⟨bt,ot+k*8+7,none⟩) hbt).trans m7
          obtain ⟨mx,hmx⟩:∃ mx,max t.lo (x.day+1)=mx:=⟨_,rfl⟩
          have HMX:=hd_ hmx
          have hv2:refOut l T kn x y f=decide (y.day<mx):=by rw [hv];simp [hde,refM,ht,hmx]
          simp only [ixI]
          clear hv hde hq ht hxt m0 m1 m2 m3 m4 m5 m6 m7 hmx
          cases hg:decide (mx>y.day) with
          | true =>
            have HV:Hid (out=true):=by show _=_;exact HTx.out (by rw [hv2];exact hg)
            clear hv2
            go_wp2_with fail
            (refine rg_ ?_;(repeat (go_big_quiet_step ((first | (go_at_call 165;exact Calls.grow_of (r_earliest_v t x mx A3 (some ⟨bl,ol,none⟩) n3 c3 n1 c1 _ hd1 hd2 HMX.out))))));refine qn_ fun w1 hb1 hc1 hf1=>?_)
            go_wp2_with fail
            go_ret
            exact ⟨by have h:=HV.out;subst h;rfl,bt_ HB8 hb1⟩
          | false =>
            have HV:Hid (refOut l T kn x y f=false):=by show _=_;rw [hv2];exact hg
            clear hv2
            go_wp2_with fail
            (refine rg_ ?_;(repeat (go_big_quiet_step ((first | (go_at_call 165;exact Calls.grow_of (r_earliest_v t x mx A3 (some ⟨bl,ol,none⟩) n3 c3 n1 c1 _ hd1 hd2 HMX.out))))));refine qn_ fun w1 hb1 hc1 hf1=>?_)
            go_wp2_with fail
            go_roundw
            case rel=>exact FIN8.out _ hb1 HV.out
            case measure=>exact ms_
  ·have HV:Hid (out=false):=by
    show _=_
    have h:=HN.out
    rw [List.take_of_length_le (by rw [HGI.out.len];omega)] at h
    rw [← HO.out,h]
   go_wp2_with fail
   go_ret
   exact ⟨by have h:=HV.out;subst h;rfl,hB⟩
theorem lv_range {l:Led} (h:LedOk l) (pap:Int):∃ n:Nat,lvOf l.pp pap=n∧n≤30:=by
 have g:∀ pp:List Ppr,(∀ p∈pp,0≤p.lv∧p.lv≤30)→0≤lvOf pp pap∧lvOf pp pap≤30:=by
  intro pp
  induction pp with
  | nil=>intro _;simp [lvOf]
  | cons p pp ih =>
    intro hp
    rw [lvOf]
    split
    ·exact hp p (by simp)
    ·exact ih fun q hq=>hp q (by simp [hq])
 obtain ⟨h1,h2⟩:=g l.pp h.pp
 exact ⟨(lvOf l.pp pap).toNat,by omega,by omega⟩
def canW (l:Led) (kn day pap:Int) (i:Nat):Bool:=decide ((0:Int)∈whL l kn day (pap,(i:Int)+1))
def notW (l:Led) (kn day pap:Int) (i:Nat):Bool:=!decide (whL l kn day (pap,(i:Int)+1)=[0])
def wholeX (l:Led) (pap day kn:Int):Int × Int:=if preF l day kn pap 1=0 then (if setE l kn=0 then (ansI ((List.range (lvOf l.pp pap).toNat).all (canW l kn day pap)) ((List.range (lvOf l.pp pap).toNat).any (notW l kn day pap)),0) else (0,setE l kn)) else (0,preF l day kn pap 1)
theorem rng_all {p:Nat→Bool} {k:Nat}:(List.range (k+1)).all p=((List.range k).all p && p k):=by rw [List.range_succ,List.all_append];simp
theorem rng_any {p:Nat→Bool} {k:Nat}:(List.range (k+1)).any p=((List.range k).any p || p k):=by rw [List.range_succ,List.any_append];simp
set_option maxRecDepth 10000 in
theorem p_WholeX (l:Led) (x:Lsl) (pap day kn:Int) (w:World) (hf:x.fit) (hd:LedIn w w.heap.size x l) :
 Calls Tryz.prog 38 #[.agg #[.slice x.pA x.pn x.pc,.slice x.rA x.rn x.rc,.slice x.tA x.tn x.tc,.slice x.sA x.sn x.sc],.int .i64 pap,.int .i64 day,.int .i64 kn] w (fun e w'=>e=.returned (.tuple #[.int .i64 (wholeX l pap day kn).1,.int .i64 (wholeX l pap day kn).2])∧Below w.heap.size w w'):=by
 obtain ⟨pA,pn,pc,rA,rn,rc,tA,tn,tc,sA,sn,sc⟩:=x
 have HD:=hd_ hd
 have hml:maxLen≤9223372036854775807:=by decide
 have hpn:pn≤9223372036854775807:=by have:=hf.p;dsimp only at this;omega
 have hrn:rn≤9223372036854775807:=by have:=hf.r;dsimp only at this;omega
 have htn:tn≤9223372036854775807:=by have:=hf.t;dsimp only at this;omega
 have hsn:sn≤9223372036854775807:=by have:=hf.s;dsimp only at this;omega
 clear hd hf hml
 obtain ⟨vp,hv⟩:∃ vp,preF l day kn pap 1=vp:=⟨_,rfl⟩
 have HV:Hid (orL [errI (ledB l) 24,errI (daysOk [day,kn]) 6,errI (folB l.pp pap 1) 26]=vp):=by show _=_;exact hv
 obtain ⟨W0,hW0⟩:∃ W0,W0=(w.alloc (.cells #[.slice pA pn pc,.slice rA rn rc,.slice tA tn tc,.slice sA sn sc] 27)):=⟨_,rfl⟩
 have HC0:Below w.heap.size w W0:=by rw [hW0];exact bel_
 have bL:BoxA W0 w.heap.size 27 #[.slice pA pn pc,.slice rA rn rc,.slice tA tn tc,.slice sA sn sc]:=by rw [hW0];exact BoxA.new _ _ _
 have HW0:=hd_ hW0
 have HVP:=hd_ hv
 clear hW0 hv
 go_enter Tryz.func38,Tryz.ntmps38
 go_wp2
 refine wp_named2 fun f1 V1 hf1 hV1=>?_
 obtain rfl:V1=W0:=by rw [← hV1,HW0.out]
 clear hV1
 refine wp_cut2 (fun a' W'=>IsFr2 (fun u=>{ tmps:=#[.agg #[.slice pA pn pc,.slice rA rn rc,.slice tA tn tc,.slice sA sn sc],.int .i64 pap,.int .i64 day,.int .i64 kn,.pointer (some ⟨w.heap.size,0,none⟩),u 5,u 6,u 7,.int .i64 0,.int .i64 0,.int .i64 vp,u 11,u 12,u 13,u 14,u 15,u 16,u 17,u 18,u 19,u 20,u 21,u 22,u 23,u 24,u 25,u 26,u 27,u 28,u 29,u 30,u 31,u 32,u 33,u 34,u 35,u 36,u 37,u 38,u 39,u 40,u 41,u 42,u 43,u 44,u 45,u 46,u 47,u 48,u 49,u 50,u 51,u 52,u 53,u 54,u 55,u 56,u 57,u 58,u 59,u 60,u 61,u 62,u 63,u 64,u 65],defers:=[] }) a'∧Below w.heap.size w W'∧(∀ o,W'.cell? ⟨w.heap.size,o,none⟩=(#[.slice pA pn pc,.slice rA rn rc,.slice tA tn tc,.slice sA sn sc]:Array Value)[o]?)∧w.heap.size<W'.heap.size) ?reg ?rest
 case reg =>
  subst hf1
  have HC:Below w.heap.size w V1.drew:=HC0.drew
  have zL:w.heap.size<V1.heap.size:=bL.lt
  (refine wp_region_sink_lit (S:=S1 w.heap.size w.heap.size #[.slice pA pn pc,.slice rA rn rc,.slice tA tn tc,.slice sA sn sc] #[.slice pA pn pc,.slice rA rn rc,.slice tA tn tc,.slice sA sn sc]) 11 (by kernel_rfl) rfl rfl (by kernel_rfl) (by kernel_rfl) ⟨bL.cell,bL.cell,zL,zL⟩ (fun hS=>?_);simp only [List.take_succ_cons,List.take_zero,List.reduceReplicate,Array.replicate_succ,Array.replicate_zero])
  (refine tk_ (i:=0) (v:=?_) rfl ?_ hS ?_;rotate_left;focus (intro w2 hw2;(try unfold S1 at hw2);go_split_ands;go_simp;first | done | with_reducible rfl);(try simp only [Act.put,pu1,pu2,pu3]))
  (refine tk_ (i:=2) (v:=?_) rfl ?_ hS ?_;rotate_left;focus (intro w2 hw2;(try unfold S1 at hw2);go_split_ands;go_simp;first | done | with_reducible rfl);(try simp only [Act.put,pu1,pu2,pu3]))
  (refine tk_ (i:=3) (v:=?_) rfl ?_ hS ?_;rotate_left;focus (intro w2 hw2;(try unfold S1 at hw2);go_split_ands;go_simp;first | done | with_reducible rfl);(try simp only [Act.put,pu1,pu2,pu3]))
  (refine tk_ (i:=6) (v:=?_) rfl ?_ hS ?_;rotate_left;focus (intro w2 hw2;(try unfold S1 at hw2);go_split_ands;go_simp;first | done | with_reducible rfl);(try simp only [Act.put,pu1,pu2,pu3]))
  (refine tk_ (i:=7) (v:=?_) rfl ?_ hS ?_;rotate_left;focus (intro w2 hw2;(try unfold S1 at hw2);go_split_ands;go_simp;first | done | with_reducible rfl);(try simp only [Act.put,pu1,pu2,pu3]))
  refine rd_ [1,4] ?_
  refine AllReadyH.cons rfl (fun K hK=>?_) (AllReadyH.cons rfl (fun K hK=>?_) AllReadyH.nil)
  ·(go_simp;go_at_call 18;refine (p_Check l ⟨pA,pn,pc,rA,rn,rc,tA,tn,tc,sA,sn,sc⟩ _ hpn hrn htn hsn (HD.out.now HC)).mono ?_;rintro e v1 ⟨rfl,hb⟩;go_simp)
   have HC:=bt_ HC hb
   refine hK.out _ _ (S1.ext hb hS) (fun hS=>?_)
   clear hK K hb
   (try simp only [Act.put,pu1,pu2,pu3])
   refine rd_ [4] ?_
   refine ah1 rfl fun K hK=>?_
   go_simp
   have hAr:=BoxA.new (v1) 3 #[.int .i64 day,.int .i64 kn]
   have HC:=HC.alloc HC.size (.cells #[.int .i64 day,.int .i64 kn] 3)
   refine hK.out _ _ (S1.ext ((Below.refl _ _).alloc lr_ _) hS) (fun hS=>?_)
   clear hK K
   (try simp only [Act.put,pu1,pu2,pu3])
   refine rd_ [5] ?_
   refine ah1 rfl fun K hK=>?_
   (go_simp;go_at_call 100;refine (p_checkDays [day,kn] _ 2 2 _ (by decide) (is_box hAr rfl)).mono ?_;rintro e v3 ⟨rfl,hb⟩;go_simp)
   have HC:=bt_ HC hb
   have hAr:=hAr.ext hb
   refine hK.out _ _ (S1.ext hb hS) (fun hS=>?_)
   clear hK K hb
   (try simp only [Act.put,pu1,pu2,pu3])
   refine rd_ [8] ?_
   refine ah1 rfl fun K hK=>?_
   (go_simp;go_at_call 124;refine (p_checkPaper2 l.pp ⟨pA,pn,pc,rA,rn,rc,tA,tn,tc,sA,sn,sc⟩ pap _ hpn (HD.out.now HC).p).mono ?_;rintro e v4 ⟨rfl,hb⟩;go_simp)
   have HC:=bt_ HC hb
   have hAr:=hAr.ext hb
   refine hK.out _ _ (S1.ext hb hS) (fun hS=>?_)
   clear hK K hb
   (try simp only [Act.put,pu1,pu2,pu3])
   refine rd_ [9] ?_
   refine ah1 rfl fun K hK=>?_
   go_simp
   have HCX:=HC.alloc HC.size (.cells #[.int .i64 (errI (ledB l) 24),.int .i64 (errI (daysOk [day,kn]) 6),.int .i64 (errI (folB l.pp pap 1) 26)] 41)
   refine hK.out _ _ (S1.ext ((Below.refl _ _).alloc lr_ _) hS) (fun hS=>?_)
   clear hK K
   (try simp only [Act.put,pu1,pu2,pu3])
   refine rd_ [10] ?_
   refine ah1 rfl fun K hK=>?_
   (go_simp;go_at_call 99;refine (p_first [errI (ledB l) 24,errI (daysOk [day,kn]) 6,errI (folB l.pp pap 1) 26] vp _ 3 3 _ (by decide) (Rd.new _ #[.int .i64 (errI (ledB l) 24),.int .i64 (errI (daysOk [day,kn]) 6),.int .i64 (errI (folB l.pp pap 1) 26)] _ 1 3 _ (by simp) rfl) HV.out).mono ?_;rintro e w9 ⟨rfl,rfl⟩;go_simp)
   refine hK.out _ _ hS (fun hS=>?_)
   clear hK K
   (try simp only [Act.put,pu1,pu2,pu3])
   refine wpAnyH_done (by kernel_rfl) ?_ _
   simp only [sinkQ]
   go_simp
   refine ⟨IsFr2.of rfl,HCX,fun o=>?_,hS.2.2.1⟩
   have h:=hS.1 o
   simpa using h
  ·go_simp
   have hAr:=BoxA.new (V1.drew) 3 #[.int .i64 day,.int .i64 kn]
   have HC:=HC.alloc HC.size (.cells #[.int .i64 day,.int .i64 kn] 3)
   refine hK.out _ _ (S1.ext ((Below.refl _ _).alloc lr_ _) hS) (fun hS=>?_)
   clear hK K
   (try simp only [Act.put,pu1,pu2,pu3])
   refine rd_ [1] ?_
   refine ah1 rfl fun K hK=>?_
   (go_simp;go_at_call 18;refine (p_Check l ⟨pA,pn,pc,rA,rn,rc,tA,tn,tc,sA,sn,sc⟩ _ hpn hrn htn hsn (HD.out.now HC)).mono ?_;rintro e v6 ⟨rfl,hb⟩;go_simp)
   have HC:=bt_ HC hb
   have hAr:=hAr.ext hb
   refine hK.out _ _ (S1.ext hb hS) (fun hS=>?_)
   clear hK K hb
   (try simp only [Act.put,pu1,pu2,pu3])
   refine rd_ [5] ?_
   refine ah1 rfl fun K hK=>?_
   (go_simp;go_at_call 100;refine (p_checkDays [day,kn] _ 2 2 _ (by decide) (is_box hAr rfl)).mono ?_;rintro e v7 ⟨rfl,hb⟩;go_simp)
   have HC:=bt_ HC hb
   have hAr:=hAr.ext hb
   refine hK.out _ _ (S1.ext hb hS) (fun hS=>?_)
   clear hK K hb
   (try simp only [Act.put,pu1,pu2,pu3])
   refine rd_ [8] ?_
   refine ah1 rfl fun K hK=>?_
   (go_simp;go_at_call 124;refine (p_checkPaper2 l.pp ⟨pA,pn,pc,rA,rn,rc,tA,tn,tc,sA,sn,sc⟩ pap _ hpn (HD.out.now HC).p).mono ?_;rintro e v8 ⟨rfl,hb⟩;go_simp)
   have HC:=bt_ HC hb
   have hAr:=hAr.ext hb
   refine hK.out _ _ (S1.ext hb hS) (fun hS=>?_)
   clear hK K hb
   (try simp only [Act.put,pu1,pu2,pu3])
   refine rd_ [9] ?_
   refine ah1 rfl fun K hK=>?_
   go_simp
   have HCX:=HC.alloc HC.size (.cells #[.int .i64 (errI (ledB l) 24),.int .i64 (errI (daysOk [day,kn]) 6),.int .i64 (errI (folB l.pp pap 1) 26)] 41)
   refine hK.out _ _ (S1.ext ((Below.refl _ _).alloc lr_ _) hS) (fun hS=>?_)
   clear hK K
   (try simp only [Act.put,pu1,pu2,pu3])
   refine rd_ [10] ?_
   refine ah1 rfl fun K hK=>?_
   (go_simp;go_at_call 99;refine (p_first [errI (ledB l) 24,errI (daysOk [day,kn]) 6,errI (folB l.pp pap 1) 26] vp _ 3 3 _ (by decide) (Rd.new _ #[.int .i64 (errI (ledB l) 24),.int .i64 (errI (daysOk [day,kn]) 6),.int .i64 (errI (folB l.pp pap 1) 26)] _ 1 3 _ (by simp) rfl) HV.out).mono ?_;rintro e w9 ⟨rfl,rfl⟩;go_simp)
   refine hK.out _ _ hS (fun hS=>?_)
   clear hK K
   (try simp only [Act.put,pu1,pu2,pu3])
   refine wpAnyH_done (by kernel_rfl) ?_ _
   simp only [sinkQ]
   go_simp
   refine ⟨IsFr2.of rfl,HCX,fun o=>?_,hS.2.2.1⟩
   have h:=hS.1 o
   simpa using h
 case rest =>
  clear hf1 bL HC0
  rintro a' W' ⟨⟨u,rfl⟩,HB2,kL2,zL2⟩
  have hs2:=HB2.size
  by_cases hv0:vp=0
  ·subst hv0
   have HLO:=hd_ (led_ok (preF_zero HVP.out))
   obtain ⟨ve,hve⟩:∃ ve,setE l kn=ve:=⟨_,rfl⟩
   by_cases he:ve=0
   ·subst he
    obtain ⟨n,hn,hn30⟩:=lv_range HLO.out pap
    have hres:wholeX l pap day kn=(ansI ((List.range n).all (canW l kn day pap)) ((List.range n).any (notW l kn day pap)),0):=by rw [wholeX,if_pos HVP.out,if_pos hve,hn,Int.toNat_natCast]
    have HRES:=hd_ hres
    have HSE:=hd_ hve
    have HLN:=hd_ hn
    clear hres hve
    go_wp2_with (first | (go_at_call 101;refine (p_openA l ⟨pA,pn,pc,rA,rn,rc,tA,tn,tc,sA,sn,sc⟩ kn _ HLO.out (HD.out.now HB2)).mono ?_;rintro e w5 ⟨RA,Rn,Rc,SA,Sn,Sc,bm,TA,Tn,Tc,PA,Pn,Pc,rfl,hb5,hO⟩;have HB5:Below w.heap.size w w5:=bt_ HB2 hb5;have hs5:=HB5.size;have HO:=hd_ hO;have kL5:∀ o,w5.cell? ⟨w.heap.size,o,none⟩=(#[.slice pA pn pc,.slice rA rn rc,.slice tA tn tc,.slice sA sn sc]:Array Value)[o]?:=(fun o=>(hb5.cell (p:=⟨w.heap.size,o,none⟩) zL2).trans (kL2 o));have zL5:w.heap.size<w5.heap.size:=Nat.lt_of_lt_of_le zL2 hb5.size;clear kL2 hO hb5) | (go_at_call 112;refine (p_settle0 l kn ⟨⟨pA,pn,pc,rA,rn,rc,tA,tn,tc,sA,sn,sc⟩,kn,RA,Rn,Rc,SA,Sn,Sc,bm,TA,Tn,Tc,PA,Pn,Pc⟩ w5 HLO.out HO.out HSE.out).mono ?_;rintro e w6 ⟨PA2,Pc2,rfl,hb6,hbx6,hac6,hlp6⟩;have HB6:Below w.heap.size w w6:=bt_ HB5 hb6;have hs6:=HB6.size;have hs56:=hb6.size;have k6:=hbx6.cell;have z6:=hbx6.lt;have HAC:=hd_ hac6;have HBX:=hd_ hbx6;have kL6:∀ o,w6.cell? ⟨w.heap.size,o,none⟩=(#[.slice pA pn pc,.slice rA rn rc,.slice tA tn tc,.slice sA sn sc]:Array Value)[o]?:=(fun o=>(hb6.cell (p:=⟨w.heap.size,o,none⟩) zL5).trans (kL5 o));have zL6:w.heap.size<w6.heap.size:=Nat.lt_of_lt_of_le zL5 hb6.size;clear kL5 hac6 hlp6 hb6 hbx6) | (go_at_call 125;refine (p_leaves l.pp ⟨pA,pn,pc,rA,rn,rc,tA,tn,tc,sA,sn,sc⟩ pap _ hpn (HD.out.now HB6).p).mono ?_;rintro e w7 ⟨rfl,hb7⟩;have HB7:Below w.heap.size w w7:=HB6.trans (hb7.mono hs6);have hs67:=hb7.size;have HBX7:=hd_ (HBX.out.ext hb7);have HAC7:=hd_ (HAC.out.now hb7);clear hb7 kL6 zL6 k6 z6))
    have HWH:Hid (∀ (W:World) (a b:Int),Below w7.heap.size w7 W→(Lit.int .i64 b).wf=true→Calls Tryz.prog 122 #[.agg #[.slice pA pn pc,.slice rA rn rc,.slice tA tn tc,.slice sA sn sc,.int .i64 kn,.slice RA Rn Rc,.slice SA Sn Sc,.map (some bm),.slice TA Tn Tc,.slice PA2 Pn Pc2],.agg #[.int .i64 a,.int .i64 b],.int .i64 day] W (RetO (whL l kn day (a,b)) W)):=by
     show ∀ _,_
     exact fun W a b hW hwf=>p_where _ _ _ ⟨⟨pA,pn,pc,rA,rn,rc,tA,tn,tc,sA,sn,sc⟩,kn,RA,Rn,Rc,SA,Sn,Sc,bm,TA,Tn,Tc,PA2,Pn,Pc2⟩ a b day W (HAC7.out.now hW) hwf
    go_loopw [13,14,41] (fun ca cb i wr=>∃ k:Nat,k≤n∧i=.int .i64 k∧ca=.bool ((List.range k).all (canW l kn day pap))∧cb=.bool ((List.range k).any (notW l kn day pap))∧Below w7.heap.size w7 wr) (fun _ _ i _=>n - (intOf i).toNat)
    case atStart=>exact ⟨0,by omega,rfl,rfl,rfl,Below.refl _ _⟩
    case round =>
     obtain ⟨k,hk,rfl,rfl,rfl,hB⟩:=hrel
     have hsB:=hB.size
     have bAw:=HBX7.out.ext hB
     have kAw:=bAw.cell
     have zAw:=bAw.lt
     obtain ⟨ca,hca⟩:∃ b,(List.range k).all (canW l kn day pap)=b:=⟨_,rfl⟩
     obtain ⟨cb,hcb⟩:∃ b,(List.range k).any (notW l kn day pap)=b:=⟨_,rfl⟩
     rw [hca,hcb]
     have HCA:=hd_ hca
     have HCB:=hd_ hcb
     clear hca hcb
     by_cases hlt:k<n
     ·have hwf:(Lit.int .i64 ((k:Int)+1)).wf=true:=wf_small (by omega) (by omega)
      have hwr:IntKind.i64.wrap ((k:Int)+1)=(k:Int)+1:=IntWalk.i64_in _ (by omega)
      obtain ⟨q1,hq1⟩:∃ q,decide ((0:Int)∈whL l kn day (pap,(k:Int)+1))=q:=⟨_,rfl⟩
      obtain ⟨q2,hq2⟩:∃ q,decide (whL l kn day (pap,(k:Int)+1)=[0])=q:=⟨_,rfl⟩
      have HQ1:=hd_ hq1
      have HQ2:=hd_ hq2
      have HA:Hid (canW l kn day pap k=q1):=by show _=_;exact hq1
      have HN:Hid (notW l kn day pap k=!q2):=by show _=_;rw [notW,hq2]
      clear hq1 hq2
      cases ca <;> cases cb
      all_goals
       go_wp2_with (first | (go_at_call 122;refine (HWH.out _ pap ((k:Int)+1) hB hwf).mono ?_;rintro e w8 ⟨v8,rfl,hb8,ho8⟩;obtain ⟨A8,c8,rfl,hc8⟩:=own_slice ho8;have HB8:Below wr.heap.size wr w8:=hb8;have hs8:=HB8.size;have HI8:=hd_ (Rd.of_own ho8);have hl8:=whL_len l kn day (pap,(k:Int)+1);clear ho8 hb8) | (go_at_call 57;refine (l_contains (whL l kn day (pap,(k:Int)+1)) 0 _ _ _ _ _ (by omega) HI8.out HQ1.out).mono ?_;rintro e w9 ⟨rfl,rfl⟩) | (go_at_call 126;refine (p_isOnly_v (whL l kn day (pap,(k:Int)+1)) 0 _ _ _ _ _ (by omega) HI8.out HQ2.out).mono ?_;rintro e w9 ⟨rfl,rfl⟩))
       go_roundw
       case rel=>exact ⟨k+1,by omega,by go_num,by rw [rng_all,HCA.out,HA.out] <;> rfl,by rw [rng_any,HCB.out,HN.out] <;> rfl,hB.trans (HB8.mono (by omega))⟩
       case measure=>exact ms_
     ·have hkn:Hid (k=n):=by show _=_;omega
      go_wp2_with (go_at_call 127;refine (p_answer ca cb _).mono ?_;rintro e w1 ⟨rfl,rfl⟩)
      go_ret2
      exact ⟨by rw [HRES.out,← HCA.out,← HCB.out,hkn.out];rfl,HB7.trans (hB.mono (by omega))⟩
   ·have hres:wholeX l pap day kn=(0,ve):=by rw [wholeX,if_pos HVP.out,if_neg (by rw [hve];exact he),hve]
    have HRES:=hd_ hres
    have HSE:=hd_ hve
    have HVE:=hd_ he
    have hed:(ve != 0)=true:=by simpa using he
    clear hres hve he
    go_wp2_with (first | (go_at_call 101;refine (p_openA l ⟨pA,pn,pc,rA,rn,rc,tA,tn,tc,sA,sn,sc⟩ kn _ HLO.out (HD.out.now HB2)).mono ?_;rintro e w5 ⟨RA,Rn,Rc,SA,Sn,Sc,bm,TA,Tn,Tc,PA,Pn,Pc,rfl,hb5,hO⟩;have HB5:Below w.heap.size w w5:=bt_ HB2 hb5;have hs5:=HB5.size;have HO:=hd_ hO;have kL5:∀ o,w5.cell? ⟨w.heap.size,o,none⟩=(#[.slice pA pn pc,.slice rA rn rc,.slice tA tn tc,.slice sA sn sc]:Array Value)[o]?:=(fun o=>(hb5.cell (p:=⟨w.heap.size,o,none⟩) zL2).trans (kL2 o));have zL5:w.heap.size<w5.heap.size:=Nat.lt_of_lt_of_le zL2 hb5.size;clear kL2 hO hb5) | (go_at_call 112;refine (p_settleN l kn ⟨⟨pA,pn,pc,rA,rn,rc,tA,tn,tc,sA,sn,sc⟩,kn,RA,Rn,Rc,SA,Sn,Sc,bm,TA,Tn,Tc,PA,Pn,Pc⟩ ve w5 HLO.out HO.out HSE.out HVE.out).mono ?_;rintro e w6 ⟨rfl,hb6⟩;have HB6:Below w.heap.size w w6:=bt_ HB5 hb6;have hs6:=HB6.size))
    go_ret2
    rw [HRES.out]
    exact ⟨rfl,HB6⟩
  ·have hres:wholeX l pap day kn=(0,vp):=by rw [wholeX,if_neg (by rw [HVP.out];exact hv0),HVP.out]
   have HRES:=hd_ hres
   have hv1:(vp != 0)=true:=by simpa using hv0
   clear hres hv0
   go_wp2
   go_ret2
   rw [HRES.out]
   exact ⟨rfl,HB2⟩
end Go.Proofs.YtoiompoapikkbaaGreat
