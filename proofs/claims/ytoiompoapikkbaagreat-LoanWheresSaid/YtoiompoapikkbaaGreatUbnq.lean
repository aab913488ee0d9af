/- Layer 2 of the texts that LoanWheres takes: Ubnq. -/
import Derived.Test.YtoiompoapikkbaaGreatUbmq
set_option linter.unusedVariables false
set_option linter.unusedSimpArgs false
/- Layer 2, the reference: double. -/
namespace Go.Proofs.YtoiompoapikkbaaGreat
open Go.RowKit Go.Maps
theorem r_returnOf_v (l:Led) (v:Vw) (T:List Bool) (i:Nat) (r:Rcp) (leaf k:Int) (w:World) (hn:v.x.rn≤1000000) (htn:v.x.tn≤1000000) (hTt:v.Tn=v.x.tn) (hd:LedIn w w.heap.size v.x l) (hT:Sq QB 1 w w.heap.size v.TA v.Tn T) (hr:l.rc[i]?=some r) (hk:ixI (rtIx T l.rt r.src leaf)=k) :
 Calls Tryz.prog 130 #[vwV v,.int .i64 i,.int .i64 leaf] w fun e w'=>e=.returned (.int .i64 k)∧Below w.heap.size w w':=hk ▸ r_returnOf l v T i r leaf w hn htn hTt hd hT hr
theorem any_of_some {α:Type} {l:List α} {k:Nat} {x:α} {p:α→Bool} (h:l[k]?=some x) (hp:p x=true):l.any p=true:=List.any_eq_true.2 ⟨x,List.mem_of_getElem? h,hp⟩
def refM (l:Led) (x y:Rcp):Option Nat→Bool
 | none=>true
 | some k=>match l.rt[k]? with
   | none=>true
   | some t=>decide (y.day<max t.lo (x.day+1))
theorem refOut_eq (l:Led) (T:List Bool) (kn:Int) (x y:Rcp) (f:Int):refOut l T kn x y f=((countsB x.kn x.un kn && isOfB x.pap f x) && ((countsB y.kn y.un kn && isOfB x.pap f y) && (decide (x.day=y.day) || refM l x y (rtIx T l.rt x.src f)))):=by
 rw [refOut]
 cases rtIx T l.rt x.src f with
 | none=>rfl
 | some k=>cases h:l.rt[k]? <;> simp [refM,h]
section
variable {P:Program} {o:Oper} {Q:Exit→Act→World→Prop}
theorem wp_region_bsink {id:Nat} {a:Act} {w:World} {l:List Oper} (n:Nat) (hm:P.follows .mixedOrders=true) (hd:l.drop n=[o]) (hn:(l.take n).length=n) (h:sinkOk (l.take n).toArray o=true) (hB:o.after.all (fun e=>decide (e.on<n))=true)
 (hh:Below w.heap.size w w.drew→wpAnyH P .any (l.take n).toArray (sinkQ P o Q) (fun V=>Below w.heap.size w V) n (Array.replicate n false) a w.drew):(Code.region id l.toArray true).wp P Q a w :=
 wp_region_sink_lit (S:=fun V=>Below w.heap.size w V) n hm hd hn h hB ((Below.refl _ _).drew) hh
end
set_option maxRecDepth 10000 in
set_option maxHeartbeats 8000000 in
theorem r_double0 (l:Led) (v:Vw) (T:List Bool) (a b:Nat) (x y:Rcp) (w:World) (hl:LedOk l) (hTt:v.Tn=v.x.tn) (hd:LedIn w w.heap.size v.x l) (hT:Sq QB 1 w w.heap.size v.TA v.Tn T) (ha:l.rc[a]?=some x) (hb:l.rc[b]?=some y) (hxy:¬ y.day<x.day) :
 Calls Tryz.prog 117 #[vwV v,.int .i64 a,.int .i64 b] w fun e w'=>e=.returned (.bool (x.lv.any (refOut l T v.kn x y)))∧Below w.heap.size w w':=by
 obtain ⟨⟨pA,pn,pc,rA,rn,rc,tA,tn,tc,sA,sn,sc⟩,kn,TA,Tn,Tc,DA,Dn,Dc⟩:=v
 obtain rfl:Tn=tn:=hTt
 show Calls _ _ #[.agg #[.slice pA pn pc,.slice rA rn rc,.slice tA Tn tc,.slice sA sn sc,.int .i64 kn,.slice TA Tn Tc,.slice DA Dn Dc],_,_] _ (fun e w'=>e=.returned (.bool (x.lv.any (refOut l T kn x y)))∧Below w.heap.size w w')
 have HR:Hid (Rcs w w.heap.size rA rn l.rc):=by show Sq _ _ _ _ _ _ _;exact hd.r
 have HT:Hid (Rts w w.heap.size tA Tn l.rt):=by show Sq _ _ _ _ _ _ _;exact hd.t
 have hrn6:rn≤1000000:=by have h:=HR.out.len;have h2:=hl.rn;omega
 have htn6:Tn≤1000000:=by have h:=HT.out.len;have h2:=hl.tn;omega
 have hia:a<rn:=by rw [← HR.out.len];exact (List.getElem?_eq_some_iff.1 ha).1
 have hib:b<rn:=by rw [← HR.out.len];exact (List.getElem?_eq_some_iff.1 hb).1
 obtain ⟨bx,ox,x',rfl,hbx,hxx,A1,n1,c1,⟨g0,g1,g2,g3,g4,g5,g6⟩,gi,gc,gm⟩:=HR.out.at_ hia
 obtain rfl:x=x':=Option.some.inj (ha.symm.trans hxx)
 obtain ⟨by_,oy,y',ey,hby,hyy,A2,n2,c2,⟨k0,k1,k2,k3,k4,k5,k6⟩,ki,kc,km⟩:=HR.out.at_ hib
 obtain rfl:y=y':=Option.some.inj (hb.symm.trans hyy)
 obtain ⟨rfl,rfl⟩:bx=by_∧ox=oy:=by simpa using ey
 have hday:=(hl.rc x (List.mem_of_getElem? ha)).2.2.2
 have hd1:0≤x.day:=hday.1
 have hd2:x.day≤1000000:=by omega
 have hgt:decide (x.day>y.day)=false:=by simpa using hxy
 have hn1:n1≤9223372036854775807:=by have:maxLen≤9223372036854775807:=(by decide);omega
 have HIS:Hid (∀ (W:World) (i:Nat) (r:Rcp) (f:Int) (q:Bool),Below w.heap.size w W→l.rc[i]?=some r→(countsB r.kn r.un kn && isOfB x.pap f r)=q→Calls Tryz.prog 169 #[.agg #[.slice pA pn pc,.slice (some ⟨bx,ox,none⟩) rn rc,.slice tA Tn tc,.slice sA sn sc,.int .i64 kn,.slice TA Tn Tc,.slice DA Dn Dc],.int .i64 i,.agg #[.int .i64 x.pap,.int .i64 f]] W fun e w'=>e=.returned (.bool q)∧Below W.heap.size W w'):=by
  show ∀ _,_
  exact fun W i r f q hW h1 h2=>r_isOf_v l ⟨⟨pA,pn,pc,some ⟨bx,ox,none⟩,rn,rc,tA,Tn,tc,sA,sn,sc⟩,kn,TA,Tn,Tc,DA,Dn,Dc⟩ i r x.pap f q W hrn6 (hd.now hW) h1 h2
 have HRO:Hid (∀ (W:World) (f k:Int),Below w.heap.size w W→ixI (rtIx T l.rt x.src f)=k→Calls Tryz.prog 130 #[.agg #[.slice pA pn pc,.slice (some ⟨bx,ox,none⟩) rn rc,.slice tA Tn tc,.slice sA sn sc,.int .i64 kn,.slice TA Tn Tc,.slice DA Dn Dc],.int .i64 a,.int .i64 f] W fun e w'=>e=.returned (.int .i64 k)∧Below W.heap.size W w'):=by
  show ∀ _,_
  exact fun W f k hW h2=>r_returnOf_v l ⟨⟨pA,pn,pc,some ⟨bx,ox,none⟩,rn,rc,tA,Tn,tc,sA,sn,sc⟩,kn,TA,Tn,Tc,DA,Dn,Dc⟩ T a x f k W hrn6 htn6 rfl (hd.now hW) (hT.now abB hW) ha h2
 have HA:=Lib.hid ha
 have HB:=Lib.hid hb
 have HGI:=Lib.hid gi
 have hxm:Hid (∀ f,f∈x.lv→isOfB x.pap f x=true):=by show ∀ _,_;intro f hf;simp [isOfB,hf]
 clear hd hl hT ha hb hxx hyy ey gi ki hxy hday
 obtain ⟨out,hout⟩:∃ o,x.lv.any (refOut l T kn x y)=o:=⟨_,rfl⟩
 rw [hout]
 have HO:=Lib.hid hout
 clear hout
 go_enter Tryz.func117,Tryz.ntmps117
 go_wp2_with fail
 go_loopw [9] (fun i wr=>∃ j:Nat,j≤n1∧i=.int .i64 j∧(x.lv.take j).any (refOut l T kn x y)=false∧Below w.heap.size w wr∧BoxA wr w.heap.size 127 #[.slice pA pn pc,.slice (some ⟨bx,ox,none⟩) rn rc,.slice tA Tn tc,.slice sA sn sc,.int .i64 kn,.slice TA Tn Tc,.slice DA Dn Dc]∧BoxA wr (w.heap.size+1) 32 #[.int .i64 x.src,.int .i64 x.bor,.int .i64 x.pap,.slice A1 n1 c1,.int .i64 x.day,.int .i64 x.kn,.int .i64 x.un]∧BoxA wr (w.heap.size+1+1) 32 #[.int .i64 y.src,.int .i64 y.bor,.int .i64 y.pap,.slice A2 n2 c2,.int .i64 y.day,.int .i64 y.kn,.int .i64 y.un]) (fun i _=>n1 - (intOf i).toNat)
 case atStart =>
  refine ⟨0,by omega,rfl,rfl,by exact bel_,((BoxA.new _ _ _).alloc _).alloc _,?_,?_⟩
  ·have h:=(BoxA.new (w.alloc (.cells #[.slice pA pn pc,.slice (some ⟨bx,ox,none⟩) rn rc,.slice tA Tn tc,.slice sA sn sc,.int .i64 kn,.slice TA Tn Tc,.slice DA Dn Dc] 127)) 32 #[.int .i64 x.src,.int .i64 x.bor,.int .i64 x.pap,.slice A1 n1 c1,.int .i64 x.day,.int .i64 x.kn,.int .i64 x.un]).alloc (.cells #[.int .i64 y.src,.int .i64 y.bor,.int .i64 y.pap,.slice A2 n2 c2,.int .i64 y.day,.int .i64 y.kn,.int .i64 y.un] 32)
   simpa using h
  ·have h:=BoxA.new ((w.alloc (.cells #[.slice pA pn pc,.slice (some ⟨bx,ox,none⟩) rn rc,.slice tA Tn tc,.slice sA sn sc,.int .i64 kn,.slice TA Tn Tc,.slice DA Dn Dc] 127)).alloc (.cells #[.int .i64 x.src,.int .i64 x.bor,.int .i64 x.pap,.slice A1 n1 c1,.int .i64 x.day,.int .i64 x.kn,.int .i64 x.un] 32)) 32 #[.int .i64 y.src,.int .i64 y.bor,.int .i64 y.pap,.slice A2 n2 c2,.int .i64 y.day,.int .i64 y.kn,.int .i64 y.un]
   simpa using h
 case round =>
  obtain ⟨j,hj,rfl,hany,hB,bV,bX,bY⟩:=hrel
  have HN:=Lib.hid hany
  clear hany
  have hs0:=hB.size
  have kV:=bV.cell
  have zV:=bV.lt
  have kX:=bX.cell
  have zX:=bX.lt
  have kY:=bY.cell
  have zY:=bY.lt
  by_cases hlt:j<n1
  ·obtain ⟨bl,ol,f,rfl,hbl,hf,hcf⟩:=HGI.out.at_ hlt
   have cf:=(hB.cell (p:=⟨bl,ol+j,none⟩) hbl).trans hcf
   have hblr:bl<wr.heap.size:=by omega
   have HFS:=Lib.hid (any_take_succ2 (p:=refOut l T kn x y) hf)
   have HF:=Lib.hid hf
   have cX2:wr.cell? ⟨w.heap.size+1,2,none⟩=some (.int .i64 x.pap):=by rw [kX];rfl
   have cX3:wr.cell? ⟨w.heap.size+1,3,none⟩=some (.slice (some ⟨bl,ol,none⟩) n1 c1):=by rw [kX];rfl
   have HBV:=Lib.hid bV
   have HBX:=Lib.hid bX
   have HBY:=Lib.hid bY
   have hzX:w.heap.size+1<wr.heap.size:=zX
   clear hf hcf bV bX bY
   go_wp2_with fail
   (refine wp_region_bsink 9 (by kernel_rfl) rfl rfl (by kernel_rfl) (by kernel_rfl) (fun hS=>?_);simp only [List.take_succ_cons,List.take_zero,List.reduceReplicate,Array.replicate_succ,Array.replicate_zero])
   (refine tk_ (i:=0) (v:=?_) rfl ?_ hS ?_ (fun _ _ _ h=>h);rotate_left;focus (intro w2 hw2;(try dsimp only at hw2);obtain ⟨hc2,hf2⟩:=bcell hw2;go_simp;first | done | with_reducible rfl);(try simp only [Act.put,pu1,pu2,pu3]))
   (refine tk_ (i:=1) (v:=?_) rfl ?_ hS ?_ (fun _ _ _ h=>h);rotate_left;focus (intro w2 hw2;(try dsimp only at hw2);obtain ⟨hc2,hf2⟩:=bcell hw2;go_simp;first | done | with_reducible rfl);(try simp only [Act.put,pu1,pu2,pu3]))
   (refine tk_ (i:=2) (v:=?_) rfl ?_ hS ?_ (fun _ _ _ h=>h);rotate_left;focus (intro w2 hw2;(try dsimp only at hw2);obtain ⟨hc2,hf2⟩:=bcell hw2;go_simp;first | done | with_reducible rfl);(try simp only [Act.put,pu1,pu2,pu3]))
   (refine tk_ (i:=3) (v:=?_) rfl ?_ hS ?_ (fun _ _ _ h=>h);rotate_left;focus (intro w2 hw2;(try dsimp only at hw2);obtain ⟨hc2,hf2⟩:=bcell hw2;go_simp;first | done | with_reducible rfl);(try simp only [Act.put,pu1,pu2,pu3]))
   (refine tk_ (i:=4) (v:=?_) rfl ?_ hS ?_ (fun _ _ _ h=>h);rotate_left;focus (intro w2 hw2;(try dsimp only at hw2);obtain ⟨hc2,hf2⟩:=bcell hw2;go_simp;first | done | with_reducible rfl);(try simp only [Act.put,pu1,pu2,pu3]))
   (refine tk_ (i:=5) (v:=?_) rfl ?_ hS ?_ (fun _ _ _ h=>h);rotate_left;focus (intro w2 hw2;(try dsimp only at hw2);obtain ⟨hc2,hf2⟩:=bcell hw2;go_simp;first | done | with_reducible rfl);(try simp only [Act.put,pu1,pu2,pu3]))
   (refine tk_ (i:=6) (v:=?_) rfl ?_ hS ?_ (fun _ _ _ h=>h);rotate_left;focus (intro w2 hw2;(try dsimp only at hw2);obtain ⟨hc2,hf2⟩:=bcell hw2;go_simp;first | done | with_reducible rfl);(try simp only [Act.put,pu1,pu2,pu3]))
   (refine tk_ (i:=7) (v:=?_) rfl ?_ hS ?_ (fun _ _ _ h=>h);rotate_left;focus (intro w2 hw2;(try dsimp only at hw2);obtain ⟨hc2,hf2⟩:=bcell hw2;go_simp;first | done | with_reducible rfl);(try simp only [Act.put,pu1,pu2,pu3]))
   (refine rd_ [8] ?_;refine ah1 rfl fun K hK=>?_;(go_simp);refine hK.out _ _ (hS.alloc hS.size _) (fun hS=>?_);clear hK K;(try simp only [Act.put,pu1,pu2,pu3]))
   refine wpAnyH_done (by kernel_rfl) ?_ _
   simp only [sinkQ]
   have b9:=BoxA.new wr.drew 60 #[.int .i64 0,.int .i64 0]
   have c9:=b9.cell
   have z9:=b9.lt
   have f9:=b9.frozen
   have bF:BoxA (wr.alloc (.cells #[.int .i64 x.pap,.int .i64 f] 60)).drew wr.heap.size 60 #[.int .i64 x.pap,.int .i64 f]:=BoxA.new wr _ _
   have HBF:=Lib.hid bF
   clear b9 bF hS
   go_simp
   clear c9 z9 f9
   have hrefo:=Lib.hid (refOut_eq l T kn x y f)
   have HFSx:Hid (refOut l T kn x y f=false→(x.lv.take (j+1)).any (refOut l T kn x y)=false):=by show _→_;intro h;rw [HFS.out,HN.out,h];rfl
   have HTx:Hid (refOut l T kn x y f=true→out=true):=by show _→_;intro h;rw [← HO.out];exact any_of_some HF.out h
   have fin:∀ W6:World,Below wr.heap.size wr W6→refOut l T kn x y f=false→∃ j':Nat,j'≤n1∧(Value.int .i64 ((j:Int)+1))=.int .i64 j'∧(x.lv.take j').any (refOut l T kn x y)=false∧Below w.heap.size w W6∧BoxA W6 w.heap.size 127 #[.slice pA pn pc,.slice (some ⟨bx,ox,none⟩) rn rc,.slice tA Tn tc,.slice sA sn sc,.int .i64 kn,.slice TA Tn Tc,.slice DA Dn Dc]∧BoxA W6 (w.heap.size+1) 32 #[.int .i64 x.src,.int .i64 x.bor,.int .i64 x.pap,.slice (some ⟨bl,ol,none⟩) n1 c1,.int .i64 x.day,.int .i64 x.kn,.int .i64 x.un]∧BoxA W6 (w.heap.size+1+1) 32 #[.int .i64 y.src,.int .i64 y.bor,.int .i64 y.pap,.slice A2 n2 c2,.int .i64 y.day,.int .i64 y.kn,.int .i64 y.un]:=fun W6 h6 h=>⟨j+1,by omega,by simp,HFSx.out h,hB.trans (h6.mono hs0),HBV.out.ext h6,HBX.out.ext h6,HBY.out.ext h6⟩
   have FIN:=Lib.hid fin
   clear fin HFSx
   go_wp2_with fail
   cases hq1:(countsB x.kn x.un kn && isOfB x.pap f x) with
   | false =>
     have HQ1:=Lib.hid hq1
     have HV:Hid (refOut l T kn x y f=false):=by show _=_;rw [hrefo.out,hq1];rfl
     clear hq1
     refine (HIS.out _ a x f false (by exact bel_) HA.out HQ1.out).mono ?_
     rintro e w6 ⟨rfl,hb6⟩
     have h26:Below wr.heap.size wr w6:=Below.then_ (by exact bel_) hb6
     go_wp2_with fail
     go_roundw
     case rel=>exact FIN.out _ h26 HV.out
     case measure=>exact ms_
   | true =>
     have HQ1:=Lib.hid hq1
     refine (HIS.out _ a x f true (by exact bel_) HA.out HQ1.out).mono ?_
     rintro e w6 ⟨rfl,hb6⟩
     have h26:Below wr.heap.size wr w6:=Below.then_ (by exact bel_) hb6
     have hs6:=h26.size
     have HB6:Below w.heap.size w w6:=hB.trans (h26.mono hs0)
     have bF6:=HBF.out.ext hb6
     have bV6:=HBV.out.ext h26
     have kF6:=bF6.cell
     have zF6:=bF6.lt
     have kV6:=bV6.cell
     have zV6:=bV6.lt
     clear hb6
     go_wp2_with fail
     cases hq2:(countsB y.kn y.un kn && isOfB x.pap f y) with
     | false =>
       have HQ2:=Lib.hid hq2
       have HV:Hid (refOut l T kn x y f=false):=by show _=_;rw [hrefo.out,hq1,hq2];rfl
       clear hq1 hq2
       refine (HIS.out _ b y f false (by exact bel_) HB.out HQ2.out).mono ?_
       rintro e w7 ⟨rfl,hb7⟩
       go_wp2_with fail
       go_roundw
       case rel=>exact FIN.out _ (Below.then_ h26 hb7) HV.out
       case measure=>exact ms_
     | true =>
       have HQ2:=Lib.hid hq2
       refine (HIS.out _ b y f true (by exact bel_) HB.out HQ2.out).mono ?_
       rintro e w7 ⟨rfl,hb7⟩
       have h27:=Below.then_ h26 hb7
       have hs7:=h27.size
       have HB7:Below w.heap.size w w7:=hB.trans (h27.mono hs0)
       have bF7:=bF6.ext hb7
       have bV7:=HBV.out.ext h27
       have kF7:=bF7.cell
       have zF7:=bF7.lt
       have kV7:=bV7.cell
       have zV7:=bV7.lt
       clear kF6 zF6 kV6 zV6 hb7
       go_wp2_with fail
       obtain ⟨q,hq⟩:∃ q,rtIx T l.rt x.src f=q:=⟨_,rfl⟩
       have hv:refOut l T kn x y f=(decide (x.day=y.day) || refM l x y q):=by rw [hrefo.out,hq1,hq2,hq];rfl
       have HKI:Hid (ixI (rtIx T l.rt x.src f)=ixI q):=by show _=_;rw [hq]
       refine (HRO.out _ f (ixI q) (by exact bel_) HKI.out).mono ?_
       rintro e w8 ⟨rfl,hb8⟩
       have h28:=Below.then_ h27 hb8
       have hs8:=h28.size
       have HB8:Below w.heap.size w w8:=hB.trans (h28.mono hs0)
       have bV8:=HBV.out.ext h28
       have bX8:=HBX.out.ext h28
       have bY8:=HBY.out.ext h28
       have kV8:=bV8.cell
       have zV8:=bV8.lt
       have kX8:=bX8.cell
       have zX8:=bX8.lt
       have kY8:=bY8.cell
       have zY8:=bY8.lt
       have FIN8:=Lib.hid (fun (W:World) (h:Below w8.heap.size w8 W)=>FIN.out W (Below.then_ h28 h))
       clear kF7 zF7 kV7 zV7 hb8 bF7 bF6 bV6 bV7 bV8 bX8 bY8 kV kX kY zV zX zY hq1 hq2
       by_cases hde:x.day=y.day
       ·have hded:(x.day == y.day)=true:=by simpa using hde
        have HV:Hid (out=true):=by show _=_;exact HTx.out (by rw [hv];simp [hde])
        clear hv hde hq
        go_wp2_with fail
        (refine rg_ ?_;(repeat (go_big_quiet_step (fail)));refine qn_ fun w1 hb1 hc1 hf1=>?_)
        go_wp2_with fail
        go_ret
        exact ⟨by have h:=HV.out;subst h;rfl,Below.then_ HB8 hb1⟩
       ·have hded:(x.day == y.day)=false:=by simpa using hde
        cases q with
        | none =>
          have HV:Hid (out=true):=by show _=_;exact HTx.out (by rw [hv];simp [refM])
          have hneg:decide ((-1:Int)<0)=true:=by decide
          clear hv hde hq
          simp only [ixI]
          go_wp2_with fail
          (refine rg_ ?_;(repeat (go_big_quiet_step (fail)));refine qn_ fun w1 hb1 hc1 hf1=>?_)
          go_wp2_with fail
          go_ret
          exact ⟨by have h:=HV.out;subst h;rfl,Below.then_ HB8 hb1⟩
        | some k =>
          obtain ⟨-,t,ht,-,-⟩:=rt_some hq
          have hk:k<Tn:=by rw [← HT.out.len];exact (List.getElem?_eq_some_iff.1 ht).1
          obtain ⟨bt,ot,t',rfl,hbt,hxt,A3,n3,c3,⟨m0,m1,m2,m3,m4,m5,m6,m7⟩,_,_,_⟩:=HT.out.at_ hk
          obtain rfl:t=t':=Option.some.inj (ht.symm.trans hxt)
          have hbt8:bt<w8.heap.size:=by omega
          have hpos:decide ((k:Int)<0)=false:=by simp
          have e0:=(HB8.cell (p:=⟨bt,ot+k*8,none⟩) hbt).trans m0
          have e1:=(HB8.cell (p:=⟨bt,ot+k*8+1,none⟩) hbt).trans m1
          have e2:=(HB8.cell (p:=⟨bt,ot+k*8+2,none⟩) hbt).trans m2
          have e3:=(HB8.cell (p:=⟨bt,ot+k*8+3,none⟩) hbt).trans m3
          have e4:=(HB8.cell (p:=⟨bt,ot+k*8+4,none⟩) hbt).trans m4
          have e5:=(HB8.cell (p:=⟨bt,ot+k*8+5,none⟩) hbt).trans m5
          have e6:=(HB8.cell (p:=⟨bt,ot+k*8+6,none⟩) hbt).trans m6
          have e7:=(HB8.cell (p:=⟨bt,ot+k*8+7,none⟩) hbt).trans m7
          obtain ⟨mx,hmx⟩:∃ mx,max t.lo (x.day+1)=mx:=⟨_,rfl⟩
          have HMX:=Lib.hid hmx
          have hv2:refOut l T kn x y f=decide (y.day<mx):=by rw [hv];simp [hde,refM,ht,hmx]
          simp only [ixI]
          clear hv hde hq ht hxt m0 m1 m2 m3 m4 m5 m6 m7 hmx
          cases hg:decide (mx>y.day) with
          | true =>
            have HV:Hid (out=true):=by show _=_;exact HTx.out (by rw [hv2];exact hg)
            clear hv2
            go_wp2_with fail
            (refine rg_ ?_;(repeat (go_big_quiet_step ((first | (go_at_call 165;exact Calls.grow_of (r_earliest_v t x mx A3 (some ⟨bl,ol,none⟩) n3 c3 n1 c1 _ hd1 hd2 HMX.out))))));refine qn_ fun w1 hb1 hc1 hf1=>?_)
            go_wp2_with fail
            go_ret
            exact ⟨by have h:=HV.out;subst h;rfl,Below.then_ HB8 hb1⟩
          | false =>
            have HV:Hid (refOut l T kn x y f=false):=by show _=_;rw [hv2];exact hg
            clear hv2
            go_wp2_with fail
            (refine rg_ ?_;(repeat (go_big_quiet_step ((first | (go_at_call 165;exact Calls.grow_of (r_earliest_v t x mx A3 (some ⟨bl,ol,none⟩) n3 c3 n1 c1 _ hd1 hd2 HMX.out))))));refine qn_ fun w1 hb1 hc1 hf1=>?_)
            go_wp2_with fail
            go_roundw
            case rel=>exact FIN8.out _ hb1 HV.out
            case measure=>exact ms_
  ·have HV:Hid (out=false):=by
    show _=_
    have h:=HN.out
    rw [List.take_of_length_le (by rw [HGI.out.len];omega)] at h
    rw [← HO.out,h]
   go_wp2_with fail
   go_ret
   exact ⟨by have h:=HV.out;subst h;rfl,hB⟩
end Go.Proofs.YtoiompoapikkbaaGreat
/- Layer 2, the reference: double, whole; doubles. -/
namespace Go.Proofs.YtoiompoapikkbaaGreat
open Go.RowKit Go.Maps
set_option maxRecDepth 10000 in
set_option maxHeartbeats 4000000 in
theorem r_double (l:Led) (v:Vw) (T:List Bool) (a b:Nat) (x y:Rcp) (q:Bool) (w:World) (hl:LedOk l) (hTt:v.Tn=v.x.tn) (hd:LedIn w w.heap.size v.x l) (hT:Sq QB 1 w w.heap.size v.TA v.Tn T) (ha:l.rc[a]?=some x) (hb:l.rc[b]?=some y) (hq:refD l T v.kn x y=q) :
 Calls Tryz.prog 117 #[vwV v,.int .i64 a,.int .i64 b] w fun e w'=>e=.returned (.bool q)∧Below w.heap.size w w':=by
 subst hq
 by_cases hlt:y.day<x.day
 ·rw [refD,if_pos hlt]
  have HC:Hid (∀ W:World,Below w.heap.size w W→Calls Tryz.prog 117 #[vwV v,.int .i64 b,.int .i64 a] W fun e w'=>e=.returned (.bool (y.lv.any (refOut l T v.kn y x)))∧Below W.heap.size W w'):=by
   show ∀ _,_
   exact fun W hW=>r_double0 l v T b a y x W hl hTt (hd.now hW) (hT.now abB hW) hb ha (by omega)
  obtain ⟨⟨pA,pn,pc,rA,rn,rc,tA,tn,tc,sA,sn,sc⟩,kn,TA,Tn,Tc,DA,Dn,Dc⟩:=v
  obtain rfl:Tn=tn:=hTt
  obtain ⟨out,hout⟩:∃ o,y.lv.any (refOut l T kn y x)=o:=⟨_,rfl⟩
  have HC:Hid (∀ W:World,Below w.heap.size w W→Calls Tryz.prog 117 #[.agg #[.slice pA pn pc,.slice rA rn rc,.slice tA Tn tc,.slice sA sn sc,.int .i64 kn,.slice TA Tn Tc,.slice DA Dn Dc],.int .i64 b,.int .i64 a] W fun e w'=>e=.returned (.bool out)∧Below W.heap.size W w'):=by
   show ∀ _,_
   intro W hW
   have h:=HC.out W hW
   rw [← hout]
   exact h
  show Calls _ _ #[.agg #[.slice pA pn pc,.slice rA rn rc,.slice tA Tn tc,.slice sA sn sc,.int .i64 kn,.slice TA Tn Tc,.slice DA Dn Dc],_,_] _ (fun e w'=>e=.returned (.bool (y.lv.any (refOut l T kn y x)))∧Below w.heap.size w w')
  rw [hout]
  have HR:Hid (Rcs w w.heap.size rA rn l.rc):=by show Sq _ _ _ _ _ _ _;exact hd.r
  have hia:a<rn:=by rw [← HR.out.len];exact (List.getElem?_eq_some_iff.1 ha).1
  have hib:b<rn:=by rw [← HR.out.len];exact (List.getElem?_eq_some_iff.1 hb).1
  obtain ⟨bx,ox,x',rfl,hbx,hxx,A1,n1,c1,⟨g0,g1,g2,g3,g4,g5,g6⟩,-,-,-⟩:=HR.out.at_ hia
  obtain rfl:x=x':=Option.some.inj (ha.symm.trans hxx)
  obtain ⟨by_,oy,y',ey,hby,hyy,A2,n2,c2,⟨k0,k1,k2,k3,k4,k5,k6⟩,-,-,-⟩:=HR.out.at_ hib
  obtain rfl:y=y':=Option.some.inj (hb.symm.trans hyy)
  obtain ⟨rfl,rfl⟩:bx=by_∧ox=oy:=by simpa using ey
  have hgt:decide (x.day>y.day)=true:=by simpa using hlt
  clear hd hl hT ha hb hxx hyy ey hlt hout
  go_enter Tryz.func117,Tryz.ntmps117
  go_wp2_with fail
  refine (HC.out _ (by exact bel_)).mono ?_
  rintro e w6 ⟨rfl,hb6⟩
  have HB6:Below w.heap.size w w6:=Below.then_ (by exact bel_) hb6
  go_wp2_with fail
  go_ret
  exact ⟨rfl,HB6⟩
 ·rw [refD,if_neg hlt]
  exact r_double0 l v T a b x y w hl hTt hd hT ha hb hlt
theorem firstP_some {p:Rcp→Rcp→Bool} {xs:List Rcp} {k:Nat} {x y:Rcp} {o:Option (Rcp × Rcp)} (hx:xs[k]?=some x) (hf:(xs.drop (k+1)).find? (p x)=some y) (ho:firstP p (xs.drop k)=o):o=some (x,y):=by
 have hlt:k<xs.length:=(List.getElem?_eq_some_iff.1 hx).1
 rw [List.drop_eq_getElem_cons hlt,(List.getElem?_eq_some_iff.1 hx).2,firstP,hf] at ho
 exact ho.symm
theorem firstP_none {p:Rcp→Rcp→Bool} {xs:List Rcp} {k:Nat} {x:Rcp} {o:Option (Rcp × Rcp)} (hx:xs[k]?=some x) (hf:(xs.drop (k+1)).find? (p x)=none) (ho:firstP p (xs.drop k)=o):firstP p (xs.drop (k+1))=o:=by
 have hlt:k<xs.length:=(List.getElem?_eq_some_iff.1 hx).1
 rw [List.drop_eq_getElem_cons hlt,(List.getElem?_eq_some_iff.1 hx).2,firstP,hf] at ho
 exact ho
def dblS:Option (Rcp × Rcp)→List Int
 | none=>[]
 | some p=>[p.1.src,p.2.src]
def RetLI (r:List Int) (w:World) (e:Ending) (w':World):Prop:=∃ A n c,e=.returned (.slice A n c)∧Below w.heap.size w w'∧Is w' w'.heap.size A n r∧n≤c∧c≤maxLen
set_option maxRecDepth 10000 in
set_option maxHeartbeats 4000000 in
theorem r_doubles (l:Led) (v:Vw) (T:List Bool) (w:World) (hl:LedOk l) (hTt:v.Tn=v.x.tn) (hd:LedIn w w.heap.size v.x l) (hT:Sq QB 1 w w.heap.size v.TA v.Tn T) :
 Calls Tryz.prog 106 #[vwV v] w (RetLI (dblS (firstP (refD l T v.kn) l.rc)) w):=by
 obtain ⟨⟨pA,pn,pc,rA,rn,rc,tA,tn,tc,sA,sn,sc⟩,kn,TA,Tn,Tc,DA,Dn,Dc⟩:=v
 obtain rfl:Tn=tn:=hTt
 show Calls _ _ #[.agg #[.slice pA pn pc,.slice rA rn rc,.slice tA Tn tc,.slice sA sn sc,.int .i64 kn,.slice TA Tn Tc,.slice DA Dn Dc]] _ (RetLI (dblS (firstP (refD l T kn) l.rc)) w)
 have HR:Hid (Rcs w w.heap.size rA rn l.rc):=by show Sq _ _ _ _ _ _ _;exact hd.r
 have HRL:Hid (l.rc.length=rn):=by show _=_;exact HR.out.len
 have hrn6:rn≤1000000:=by have h:=HR.out.len;have h2:=hl.rn;omega
 have HC:Hid (∀ (W:World) (a b:Nat) (x y:Rcp) (q:Bool),Below w.heap.size w W→l.rc[a]?=some x→l.rc[b]?=some y→refD l T kn x y=q→Calls Tryz.prog 117 #[.agg #[.slice pA pn pc,.slice rA rn rc,.slice tA Tn tc,.slice sA sn sc,.int .i64 kn,.slice TA Tn Tc,.slice DA Dn Dc],.int .i64 a,.int .i64 b] W fun e w'=>e=.returned (.bool q)∧Below W.heap.size W w'):=by
  show ∀ _,_
  exact fun W a b x y q hW ha hb hq=>r_double l ⟨⟨pA,pn,pc,rA,rn,rc,tA,Tn,tc,sA,sn,sc⟩,kn,TA,Tn,Tc,DA,Dn,Dc⟩ T a b x y q W hl rfl (hd.now hW) (hT.now abB hW) ha hb hq
 obtain ⟨o,ho⟩:∃ o,firstP (refD l T kn) l.rc=o:=⟨_,rfl⟩
 rw [ho]
 have HO:=Lib.hid ho
 clear hd hl hT ho
 go_enter Tryz.func106,Tryz.ntmps106
 go_wp2_with fail
 go_loopw [3] (fun i wr=>∃ k:Nat,k≤rn∧i=.int .i64 k∧firstP (refD l T kn) (l.rc.drop k)=o∧Below w.heap.size w wr∧BoxA wr w.heap.size 127 #[.slice pA pn pc,.slice rA rn rc,.slice tA Tn tc,.slice sA sn sc,.int .i64 kn,.slice TA Tn Tc,.slice DA Dn Dc]) (fun i _=>rn - (intOf i).toNat)
 case atStart=>exact ⟨0,by omega,rfl,HO.out,by exact bel_,BoxA.new _ _ _⟩
 case round =>
  obtain ⟨k,hk,rfl,hdr,hB,bV⟩:=hrel
  obtain ⟨wo,rfl⟩:∃ wo,wo=wr:=⟨_,rfl⟩
  have HDR:=Lib.hid hdr
  clear hdr
  have hs0:=hB.size
  have kV:=bV.cell
  have zV:=bV.lt
  by_cases hlt:k<rn
  ·obtain ⟨bx,ox,x,rfl,hbx,hx,A1,n1,c1,⟨g0,-⟩,-,-,-⟩:=HR.out.at_ hlt
   have HX:=Lib.hid hx
   clear hx
   go_wp2_with fail
   go_loopw [4] (fun i wr=>∃ m:Nat,k+1≤m∧m≤rn∧i=.int .i64 m∧((l.rc.drop (k+1)).take (m - (k+1))).find? (refD l T kn x)=none∧Below wo.heap.size wo wr) (fun i _=>rn - (intOf i).toNat)
   case atStart=>exact ⟨k+1,Nat.le_refl _,by omega,by go_num,by rw [Nat.sub_self];rfl,Below.refl _ _⟩
   case round =>
    obtain ⟨m,hkm,hm,rfl,hfn,hQ⟩:=hrel
    obtain ⟨j,hj⟩:∃ j,m - (k+1)=j:=⟨_,rfl⟩
    have hmj:m+1 - (k+1)=j+1:=by omega
    rw [hj] at hfn
    have HMJ:=Lib.hid hmj
    have HJ:=Lib.hid hj
    clear hmj hj
    have HFN:=Lib.hid hfn
    clear hfn
    have hBq:Below w.heap.size w wr:=hB.trans (hQ.mono hs0)
    have hsq:=hBq.size
    have bVq:=bV.ext hQ
    have kVq:=bVq.cell
    have zVq:=bVq.lt
    clear kV zV
    by_cases hjl:m<rn
    ·obtain ⟨by_,oy,y,ey,hby,hy,A2,n2,c2,⟨k0,-⟩,-,-,-⟩:=HR.out.at_ hjl
     obtain ⟨rfl,rfl⟩:bx=by_∧ox=oy:=by simpa using ey
     have hdy:(l.rc.drop (k+1))[j]?=some y:=by rw [List.getElem?_drop,show k+1+j=m from (by have h:=HJ.out;omega)];exact hy
     have HDY:=Lib.hid hdy
     have HY:=Lib.hid hy
     clear hdy hy ey
     go_wp2_with fail
     cases hq:refD l T kn x y with
     | false =>
       refine (HC.out _ k m x y false hBq HX.out HY.out hq).mono ?_
       rintro e w6 ⟨rfl,hb6⟩
       have hN:Hid (((l.rc.drop (k+1)).take (j+1)).find? (refD l T kn x)=none):=by show _=_;rw [take_snoc_some HDY.out,List.find?_append,HFN.out];simp [hq]
       clear hq
       go_wp2_with fail
       go_roundw
       case rel=>exact ⟨m+1,by omega,by omega,by go_num,by rw [HMJ.out];exact hN.out,Below.then_ hQ hb6⟩
       case measure=>exact ms_
     | true =>
       refine (HC.out _ k m x y true hBq HX.out HY.out hq).mono ?_
       rintro e w6 ⟨rfl,hb6⟩
       have HB6:Below w.heap.size w w6:=Below.then_ hBq hb6
       have hs6:=HB6.size
       have bV6:=bVq.ext hb6
       have kV6:=bV6.cell
       have zV6:=bV6.lt
       have hf:(l.rc.drop (k+1)).find? (refD l T kn x)=some y:=by
        conv=>lhs;rw [← List.take_append_drop (j+1) (l.rc.drop (k+1)),List.find?_append]
        rw [take_snoc_some HDY.out,List.find?_append,HFN.out]
        simp [hq]
       have HOO:=Lib.hid (firstP_some HX.out hf HDR.out)
       have e0:=(HB6.cell (p:=⟨bx,ox+k*7,none⟩) hbx).trans g0
       have e1:=(HB6.cell (p:=⟨bx,ox+m*7,none⟩) hbx).trans k0
       have hbx6:bx<w6.heap.size:=by omega
       clear hq hf kVq zVq hb6 g0 k0
       go_wp2_with fail
       (refine wp_region_bsink 15 (by kernel_rfl) rfl rfl (by kernel_rfl) (by kernel_rfl) (fun hS=>?_);simp only [List.take_succ_cons,List.take_zero,List.reduceReplicate,Array.replicate_succ,Array.replicate_zero])
       (refine tk_ (i:=0) (v:=?_) rfl ?_ hS ?_ (fun _ _ _ h=>h);rotate_left;focus (intro w2 hw2;(try dsimp only at hw2);obtain ⟨hc2,hf2⟩:=bcell hw2;go_simp;first | done | with_reducible rfl);(try simp only [Act.put,pu1,pu2,pu3]))
       (refine tk_ (i:=1) (v:=?_) rfl ?_ hS ?_ (fun _ _ _ h=>h);rotate_left;focus (intro w2 hw2;(try dsimp only at hw2);obtain ⟨hc2,hf2⟩:=bcell hw2;go_simp;first | done | with_reducible rfl);(try simp only [Act.put,pu1,pu2,pu3]))
       (refine tk_ (i:=2) (v:=?_) rfl ?_ hS ?_ (fun _ _ _ h=>h);rotate_left;focus (intro w2 hw2;(try dsimp only at hw2);obtain ⟨hc2,hf2⟩:=bcell hw2;go_simp;first | done | with_reducible rfl);(try simp only [Act.put,pu1,pu2,pu3]))
       (refine tk_ (i:=3) (v:=?_) rfl ?_ hS ?_ (fun _ _ _ h=>h);rotate_left;focus (intro w2 hw2;(try dsimp only at hw2);obtain ⟨hc2,hf2⟩:=bcell hw2;go_simp;first | done | with_reducible rfl);(try simp only [Act.put,pu1,pu2,pu3]))
       (refine tk_ (i:=4) (v:=?_) rfl ?_ hS ?_ (fun _ _ _ h=>h);rotate_left;focus (intro w2 hw2;(try dsimp only at hw2);obtain ⟨hc2,hf2⟩:=bcell hw2;go_simp;first | done | with_reducible rfl);(try simp only [Act.put,pu1,pu2,pu3]))
       (refine tk_ (i:=5) (v:=?_) rfl ?_ hS ?_ (fun _ _ _ h=>h);rotate_left;focus (intro w2 hw2;(try dsimp only at hw2);obtain ⟨hc2,hf2⟩:=bcell hw2;go_simp;first | done | with_reducible rfl);(try simp only [Act.put,pu1,pu2,pu3]))
       (refine tk_ (i:=6) (v:=?_) rfl ?_ hS ?_ (fun _ _ _ h=>h);rotate_left;focus (intro w2 hw2;(try dsimp only at hw2);obtain ⟨hc2,hf2⟩:=bcell hw2;go_simp;first | done | with_reducible rfl);(try simp only [Act.put,pu1,pu2,pu3]))
       (refine tk_ (i:=7) (v:=?_) rfl ?_ hS ?_ (fun _ _ _ h=>h);rotate_left;focus (intro w2 hw2;(try dsimp only at hw2);obtain ⟨hc2,hf2⟩:=bcell hw2;go_simp;first | done | with_reducible rfl);(try simp only [Act.put,pu1,pu2,pu3]))
       (refine tk_ (i:=8) (v:=?_) rfl ?_ hS ?_ (fun _ _ _ h=>h);rotate_left;focus (intro w2 hw2;(try dsimp only at hw2);obtain ⟨hc2,hf2⟩:=bcell hw2;go_simp;first | done | with_reducible rfl);(try simp only [Act.put,pu1,pu2,pu3]))
       (refine tk_ (i:=9) (v:=?_) rfl ?_ hS ?_ (fun _ _ _ h=>h);rotate_left;focus (intro w2 hw2;(try dsimp only at hw2);obtain ⟨hc2,hf2⟩:=bcell hw2;go_simp;first | done | with_reducible rfl);(try simp only [Act.put,pu1,pu2,pu3]))
       (refine tk_ (i:=10) (v:=?_) rfl ?_ hS ?_ (fun _ _ _ h=>h);rotate_left;focus (intro w2 hw2;(try dsimp only at hw2);obtain ⟨hc2,hf2⟩:=bcell hw2;go_simp;first | done | with_reducible rfl);(try simp only [Act.put,pu1,pu2,pu3]))
       (refine tk_ (i:=11) (v:=?_) rfl ?_ hS ?_ (fun _ _ _ h=>h);rotate_left;focus (intro w2 hw2;(try dsimp only at hw2);obtain ⟨hc2,hf2⟩:=bcell hw2;go_simp;first | done | with_reducible rfl);(try simp only [Act.put,pu1,pu2,pu3]))
       (refine tk_ (i:=12) (v:=?_) rfl ?_ hS ?_ (fun _ _ _ h=>h);rotate_left;focus (intro w2 hw2;(try dsimp only at hw2);obtain ⟨hc2,hf2⟩:=bcell hw2;go_simp;first | done | with_reducible rfl);(try simp only [Act.put,pu1,pu2,pu3]))
       (refine tk_ (i:=13) (v:=?_) rfl ?_ hS ?_ (fun _ _ _ h=>h);rotate_left;focus (intro w2 hw2;(try dsimp only at hw2);obtain ⟨hc2,hf2⟩:=bcell hw2;go_simp;first | done | with_reducible rfl);(try simp only [Act.put,pu1,pu2,pu3]))
       (refine rd_ [14] ?_;refine ah1 rfl fun K hK=>?_;(go_simp);refine hK.out _ _ (hS.alloc hS.size _) (fun hS=>?_);clear hK K;(try simp only [Act.put,pu1,pu2,pu3]))
       refine wpAnyH_done (by kernel_rfl) ?_ _
       simp only [sinkQ]
       go_simp
       go_wp2_with fail
       go_ret
       rw [HOO.out]
       refine ⟨_,_,_,rfl,by exact bel_,?_,Nat.le_refl _,by decide⟩
       exact Rd.new _ #[.int .i64 x.src,.int .i64 y.src] 3 1 2 _ (by simp) rfl
    ·have hf:(l.rc.drop (k+1)).find? (refD l T kn x)=none:=by
      have h:=HFN.out
      rwa [List.take_of_length_le (by rw [List.length_drop,HRL.out];have h:=HJ.out;omega)] at h
     have HN:=Lib.hid (firstP_none HX.out hf HDR.out)
     clear hf
     go_wp2_with fail
     go_roundw
     case rel=>exact ⟨k+1,by omega,by go_num,HN.out,hBq,bVq⟩
     case measure=>exact ms_
  ·have HOO:Hid (o=none):=by
    show _=_
    have h:=HDR.out
    rw [List.drop_eq_nil_of_le (by rw [HRL.out];omega)] at h
    exact h.symm
   go_wp2_with fail
   go_ret
   rw [HOO.out]
   exact ⟨none,0,0,rfl,hB,Rd.nil_,Nat.le_refl _,by decide⟩
end Go.Proofs.YtoiompoapikkbaaGreat
