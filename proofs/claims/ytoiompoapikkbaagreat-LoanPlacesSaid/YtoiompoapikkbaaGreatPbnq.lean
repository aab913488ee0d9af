/- Layer 2 of the texts that LoanPlaces takes: Pbnq. -/
import Derived.Test.YtoiompoapikkbaaGreatPbjq
set_option linter.unusedVariables false
set_option linter.unusedSimpArgs false
set_option maxHeartbeats 16000000
namespace Go.Proofs.YtoiompoapikkbaaGreat
open Go.RowKit Go.Maps
set_option maxRecDepth 10000 in
theorem r_double (l:Led) (v:Vw) (T:List Bool) (a b:Nat) (x y:Rcp) (q:Bool) (w:World) (hl:LedOk l) (hTt:v.Tn=v.x.tn) (hd:LedIn w w.heap.size v.x l) (hT:Sq QB 1 w w.heap.size v.TA v.Tn T) (ha:l.rc[a]?=some x) (hb:l.rc[b]?=some y) (hq:refD l T v.kn x y=q) :
 Calls Tryz.prog 117 #[vwV v,.int .i64 a,.int .i64 b] w fun e w'=>e=.returned (.bool q)∧Below w.heap.size w w':=by
 subst hq
 by_cases hlt:y.day<x.day
 ·rw [refD,if_pos hlt]
  have HC:Hid (∀ W:World,Below w.heap.size w W→Calls Tryz.prog 117 #[vwV v,.int .i64 b,.int .i64 a] W fun e w'=>e=.returned (.bool (y.lv.any (refOut l T v.kn y x)))∧Below W.heap.size W w'):=by
   show ∀ _,_
   exact fun W hW=>r_double0 l v T b a y x W hl hTt (hd.now hW) (hT.now abB hW) hb ha (by omega)
  obtain ⟨⟨pA,pn,pc,rA,rn,rc,tA,tn,tc,sA,sn,sc⟩,kn,TA,Tn,Tc,DA,Dn,Dc⟩:=v
  obtain rfl:Tn=tn:=hTt
  obtain ⟨out,hout⟩:∃ o,y.lv.any (refOut l T kn y x)=o:=⟨_,rfl⟩
  have HC:Hid (∀ W:World,Below w.heap.size w W→Calls Tryz.prog 117 #[.agg #[.slice pA pn pc,.slice rA rn rc,.slice tA Tn tc,.slice sA sn sc,.int .i64 kn,.slice TA Tn Tc,.slice DA Dn Dc],.int .i64 b,.int .i64 a] W fun e w'=>e=.returned (.bool out)∧Below W.heap.size W w'):=by
   show ∀ _,_
   intro W hW
   have h:=HC.out W hW
   rw [← hout]
   exact h
  show Calls _ _ #[.agg #[.slice pA pn pc,.slice rA rn rc,.slice tA Tn tc,.slice sA sn sc,.int .i64 kn,.slice TA Tn Tc,.slice DA Dn Dc],_,_] _ (fun e w'=>e=.returned (.bool (y.lv.any (refOut l T kn y x)))∧Below w.heap.size w w')
  rw [hout]
  have HR:Hid (Rcs w w.heap.size rA rn l.rc):=by show Sq _ _ _ _ _ _ _;exact hd.r
  have hia:a<rn:=by rw [← HR.out.len];exact (List.getElem?_eq_some_iff.1 ha).1
  have hib:b<rn:=by rw [← HR.out.len];exact (List.getElem?_eq_some_iff.1 hb).1
  obtain ⟨bx,ox,x',rfl,hbx,hxx,A1,n1,c1,⟨g0,g1,g2,g3,g4,g5,g6⟩,-,-,-⟩:=HR.out.at_ hia
  obtain rfl:x=x':=Option.some.inj (ha.symm.trans hxx)
  obtain ⟨by_,oy,y',ey,hby,hyy,A2,n2,c2,⟨k0,k1,k2,k3,k4,k5,k6⟩,-,-,-⟩:=HR.out.at_ hib
  obtain rfl:y=y':=Option.some.inj (hb.symm.trans hyy)
  obtain ⟨rfl,rfl⟩:bx=by_∧ox=oy:=by simpa using ey
  have hgt:decide (x.day>y.day)=true:=by simpa using hlt
  clear hd hl hT ha hb hxx hyy ey hlt hout
  go_enter Tryz.func117,Tryz.ntmps117
  go_wp2_with fail
  refine (HC.out _ (by exact bel_)).mono ?_
  rintro e w6 ⟨rfl,hb6⟩
  have HB6:Below w.heap.size w w6:=bt_ (by exact bel_) hb6
  go_wp2_with fail
  go_ret
  exact ⟨rfl,HB6⟩
 ·rw [refD,if_neg hlt]
  exact r_double0 l v T a b x y w hl hTt hd hT ha hb hlt
theorem firstP_some {p:Rcp→Rcp→Bool} {xs:List Rcp} {k:Nat} {x y:Rcp} {o:Option (Rcp × Rcp)} (hx:xs[k]?=some x) (hf:(xs.drop (k+1)).find? (p x)=some y) (ho:firstP p (xs.drop k)=o):o=some (x,y):=by
 have hlt:k<xs.length:=(List.getElem?_eq_some_iff.1 hx).1
 rw [List.drop_eq_getElem_cons hlt,(List.getElem?_eq_some_iff.1 hx).2,firstP,hf] at ho
 exact ho.symm
theorem firstP_none {p:Rcp→Rcp→Bool} {xs:List Rcp} {k:Nat} {x:Rcp} {o:Option (Rcp × Rcp)} (hx:xs[k]?=some x) (hf:(xs.drop (k+1)).find? (p x)=none) (ho:firstP p (xs.drop k)=o):firstP p (xs.drop (k+1))=o:=by
 have hlt:k<xs.length:=(List.getElem?_eq_some_iff.1 hx).1
 rw [List.drop_eq_getElem_cons hlt,(List.getElem?_eq_some_iff.1 hx).2,firstP,hf] at ho
 exact ho
def dblS:Option (Rcp × Rcp)→List Int
 | none=>[]
 | some p=>[p.1.src,p.2.src]
def RetLI (r:List Int) (w:World) (e:Ending) (w':World):Prop:=∃ A n c,e=.returned (.slice A n c)∧Below w.heap.size w w'∧Is w' w'.heap.size A n r∧n≤c∧c≤maxLen
set_option maxRecDepth 10000 in
theorem r_doubles (l:Led) (v:Vw) (T:List Bool) (w:World) (hl:LedOk l) (hTt:v.Tn=v.x.tn) (hd:LedIn w w.heap.size v.x l) (hT:Sq QB 1 w w.heap.size v.TA v.Tn T) :
 Calls Tryz.prog 106 #[vwV v] w (RetLI (dblS (firstP (refD l T v.kn) l.rc)) w):=by
 obtain ⟨⟨pA,pn,pc,rA,rn,rc,tA,tn,tc,sA,sn,sc⟩,kn,TA,Tn,Tc,DA,Dn,Dc⟩:=v
 obtain rfl:Tn=tn:=hTt
 show Calls _ _ #[.agg #[.slice pA pn pc,.slice rA rn rc,.slice tA Tn tc,.slice sA sn sc,.int .i64 kn,.slice TA Tn Tc,.slice DA Dn Dc]] _ (RetLI (dblS (firstP (refD l T kn) l.rc)) w)
 have HR:Hid (Rcs w w.heap.size rA rn l.rc):=by show Sq _ _ _ _ _ _ _;exact hd.r
 have HRL:Hid (l.rc.length=rn):=by show _=_;exact HR.out.len
 have hrn6:rn≤1000000:=by have h:=HR.out.len;have h2:=hl.rn;omega
 have HC:Hid (∀ (W:World) (a b:Nat) (x y:Rcp) (q:Bool),Below w.heap.size w W→l.rc[a]?=some x→l.rc[b]?=some y→refD l T kn x y=q→Calls Tryz.prog 117 #[.agg #[.slice pA pn pc,.slice rA rn rc,.slice tA Tn tc,.slice sA sn sc,.int .i64 kn,.slice TA Tn Tc,.slice DA Dn Dc],.int .i64 a,.int .i64 b] W fun e w'=>e=.returned (.bool q)∧Below W.heap.size W w'):=by
  show ∀ _,_
  exact fun W a b x y q hW ha hb hq=>r_double l ⟨⟨pA,pn,pc,rA,rn,rc,tA,Tn,tc,sA,sn,sc⟩,kn,TA,Tn,Tc,DA,Dn,Dc⟩ T a b x y q W hl rfl (hd.now hW) (hT.now abB hW) ha hb hq
 obtain ⟨o,ho⟩:∃ o,firstP (refD l T kn) l.rc=o:=⟨_,rfl⟩
 rw [ho]
 have HO:=hd_ ho
 clear hd hl hT ho
 go_enter Tryz.func106,Tryz.ntmps106
 go_wp2_with fail
 go_loopw [3] (fun i wr=>∃ k:Nat,k≤rn∧i=.int .i64 k∧firstP (refD l T kn) (l.rc.drop k)=o∧Below w.heap.size w wr∧BoxA wr w.heap.size 127 #[.slice pA pn pc,.slice rA rn rc,.slice tA Tn tc,.slice sA sn sc,.int .i64 kn,.slice TA Tn Tc,.slice DA Dn Dc]) (fun i _=>rn - (intOf i).toNat)
 case atStart=>exact ⟨0,by omega,rfl,HO.out,by exact bel_,BoxA.new _ _ _⟩
 case round =>
  obtain ⟨k,hk,rfl,hdr,hB,bV⟩:=hrel
  obtain ⟨wo,rfl⟩:∃ wo,wo=wr:=⟨_,rfl⟩
  have HDR:=hd_ hdr
  clear hdr
  have hs0:=hB.size
  have kV:=bV.cell
  have zV:=bV.lt
  by_cases hlt:k<rn
  ·obtain ⟨bx,ox,x,rfl,hbx,hx,A1,n1,c1,⟨g0,-⟩,-,-,-⟩:=HR.out.at_ hlt
   have HX:=hd_ hx
   clear hx
   go_wp2_with fail
   go_loopw [4] (fun i wr=>∃ m:Nat,k+1≤m∧m≤rn∧i=.int .i64 m∧((l.rc.drop (k+1)).take (m - (k+1))).find? (refD l T kn x)=none∧Below wo.heap.size wo wr) (fun i _=>rn - (intOf i).toNat)
   case atStart=>exact ⟨k+1,lr_,by omega,by go_num,by rw [Nat.sub_self];rfl,Below.refl _ _⟩
   case round =>
    obtain ⟨m,hkm,hm,rfl,hfn,hQ⟩:=hrel
    obtain ⟨j,hj⟩:∃ j,m - (k+1)=j:=⟨_,rfl⟩
    have hmj:m+1 - (k+1)=j+1:=by omega
    rw [hj] at hfn
    have HMJ:=hd_ hmj
    have HJ:=hd_ hj
    clear hmj hj
    have HFN:=hd_ hfn
    clear hfn
    have hBq:Below w.heap.size w wr:=hB.trans (hQ.mono hs0)
    have hsq:=hBq.size
    have bVq:=bV.ext hQ
    have kVq:=bVq.cell
    have zVq:=bVq.lt
    clear kV zV
    by_cases hjl:m<rn
    ·obtain ⟨by_,oy,y,ey,hby,hy,A2,n2,c2,⟨k0,-⟩,-,-,-⟩:=HR.out.at_ hjl
     obtain ⟨rfl,rfl⟩:bx=by_∧ox=oy:=by simpa using ey
     have hdy:(l.rc.drop (k+1))[j]?=some y:=by rw [List.getElem?_drop,show k+1+j=m from (by have h:=HJ.out;omega)];exact hy
     have HDY:=hd_ hdy
     have HY:=hd_ hy
     clear hdy hy ey
     go_wp2_with fail
     cases hq:refD l T kn x y with
     | false =>
       refine (HC.out _ k m x y false hBq HX.out HY.out hq).mono ?_
       rintro e w6 ⟨rfl,hb6⟩
       have hN:Hid (((l.rc.drop (k+1)).take (j+1)).find? (refD l T kn x)=none):=by show _=_;rw [take_snoc_some HDY.out,List.find?_append,HFN.out];simp [hq]
       clear hq
       go_wp2_with fail
       go_roundw
       case rel=>exact ⟨m+1,by omega,by omega,by go_num,by rw [HMJ.out];exact hN.out,bt_ hQ hb6⟩
       case measure=>exact ms_
     | true =>
       refine (HC.out _ k m x y true hBq HX.out HY.out hq).mono ?_
       rintro e w6 ⟨rfl,hb6⟩
       have HB6:Below w.heap.size w w6:=bt_ hBq hb6
       have hs6:=HB6.size
       have bV6:=bVq.ext hb6
       have kV6:=bV6.cell
       have zV6:=bV6.lt
       have hf:(l.rc.drop (k+1)).find? (refD l T kn x)=some y:=by
        conv=>lhs;rw [← List.take_append_drop (j+1) (l.rc.drop (k+1)),List.find?_append]
        rw [take_snoc_some HDY.out,List.find?_append,HFN.out]
        simp [hq]
       have HOO:=hd_ (firstP_some HX.out hf HDR.out)
       have e0:=(HB6.cell (p:=⟨bx,ox+k*7,none⟩) hbx).trans g0
       have e1:=(HB6.cell (p:=⟨bx,ox+m*7,none⟩) hbx).trans k0
       have hbx6:bx<w6.heap.size:=by omega
       clear hq hf kVq zVq hb6 g0 k0
       go_wp2_with fail
       (refine wp_region_bsink 15 (by kernel_rfl) rfl rfl (by kernel_rfl) (by kernel_rfl) (fun hS=>?_);simp only [List.take_succ_cons,List.take_zero,List.reduceReplicate,Array.replicate_succ,Array.replicate_zero])
       (refine tk_ (i:=0) (v:=?_) rfl ?_ hS ?_;rotate_left;focus (intro w2 hw2;obtain ⟨hc2,hf2⟩:=bcell hw2;go_simp;first | done | with_reducible rfl);(try simp only [Act.put,pu1,pu2,pu3]))
       (refine tk_ (i:=1) (v:=?_) rfl ?_ hS ?_;rotate_left;focus (intro w2 hw2;obtain ⟨hc2,hf2⟩:=bcell hw2;go_simp;first | done | with_reducible rfl);(try simp only [Act.put,pu1,pu2,pu3]))
       (refine tk_ (i:=2) (v:=?_) rfl ?_ hS ?_;rotate_left;focus (intro w2 hw2;obtain ⟨hc2,hf2⟩:=bcell hw2;go_simp;first | done | with_reducible rfl);(try simp only [Act.put,pu1,pu2,pu3]))
       (refine tk_ (i:=3) (v:=?_) rfl ?_ hS ?_;rotate_left;focus (intro w2 hw2;obtain ⟨hc2,hf2⟩:=bcell hw2;go_simp;first | done | with_reducible rfl);(try simp only [Act.put,pu1,pu2,pu3]))
       (refine tk_ (i:=4) (v:=?_) rfl ?_ hS ?_;rotate_left;focus (intro w2 hw2;obtain ⟨hc2,hf2⟩:=bcell hw2;go_simp;first | done | with_reducible rfl);(try simp only [Act.put,pu1,pu2,pu3]))
       (refine tk_ (i:=5) (v:=?_) rfl ?_ hS ?_;rotate_left;focus (intro w2 hw2;obtain ⟨hc2,hf2⟩:=bcell hw2;go_simp;first | done | with_reducible rfl);(try simp only [Act.put,pu1,pu2,pu3]))
       (refine tk_ (i:=6) (v:=?_) rfl ?_ hS ?_;rotate_left;focus (intro w2 hw2;obtain ⟨hc2,hf2⟩:=bcell hw2;go_simp;first | done | with_reducible rfl);(try simp only [Act.put,pu1,pu2,pu3]))
       (refine tk_ (i:=7) (v:=?_) rfl ?_ hS ?_;rotate_left;focus (intro w2 hw2;obtain ⟨hc2,hf2⟩:=bcell hw2;go_simp;first | done | with_reducible rfl);(try simp only [Act.put,pu1,pu2,pu3]))
       (refine tk_ (i:=8) (v:=?_) rfl ?_ hS ?_;rotate_left;focus (intro w2 hw2;obtain ⟨hc2,hf2⟩:=bcell hw2;go_simp;first | done | with_reducible rfl);(try simp only [Act.put,pu1,pu2,pu3]))
       (refine tk_ (i:=9) (v:=?_) rfl ?_ hS ?_;rotate_left;focus (intro w2 hw2;obtain ⟨hc2,hf2⟩:=bcell hw2;go_simp;first | done | with_reducible rfl);(try simp only [Act.put,pu1,pu2,pu3]))
       (refine tk_ (i:=10) (v:=?_) rfl ?_ hS ?_;rotate_left;focus (intro w2 hw2;obtain ⟨hc2,hf2⟩:=bcell hw2;go_simp;first | done | with_reducible rfl);(try simp only [Act.put,pu1,pu2,pu3]))
       (refine tk_ (i:=11) (v:=?_) rfl ?_ hS ?_;rotate_left;focus (intro w2 hw2;obtain ⟨hc2,hf2⟩:=bcell hw2;go_simp;first | done | with_reducible rfl);(try simp only [Act.put,pu1,pu2,pu3]))
       (refine tk_ (i:=12) (v:=?_) rfl ?_ hS ?_;rotate_left;focus (intro w2 hw2;obtain ⟨hc2,hf2⟩:=bcell hw2;go_simp;first | done | with_reducible rfl);(try simp only [Act.put,pu1,pu2,pu3]))
       (refine tk_ (i:=13) (v:=?_) rfl ?_ hS ?_;rotate_left;focus (intro w2 hw2;obtain ⟨hc2,hf2⟩:=bcell hw2;go_simp;first | done | with_reducible rfl);(try simp only [Act.put,pu1,pu2,pu3]))
       (refine rd_ [14] ?_;refine ah1 rfl fun K hK=>?_;(go_simp);refine hK.out _ _ (hS.alloc hS.size _) (fun hS=>?_);clear hK K;(try simp only [Act.put,pu1,pu2,pu3]))
       refine wpAnyH_done (by kernel_rfl) ?_ _
       simp only [sinkQ]
       go_simp
       go_wp2_with fail
       go_ret
       rw [HOO.out]
       refine ⟨_,_,_,rfl,by exact bel_,?_,lr_,by decide⟩
       exact Rd.new _ #[.int .i64 x.src,.int .i64 y.src] 3 1 2 _ (by simp) rfl
    ·have hf:(l.rc.drop (k+1)).find? (refD l T kn x)=none:=by
      have h:=HFN.out
      rwa [List.take_of_length_le (by rw [List.length_drop,HRL.out];have h:=HJ.out;omega)] at h
     have HN:=hd_ (firstP_none HX.out hf HDR.out)
     clear hf
     go_wp2_with fail
     go_roundw
     case rel=>exact ⟨k+1,by omega,by go_num,HN.out,hBq,bVq⟩
     case measure=>exact ms_
  ·have HOO:Hid (o=none):=by
    show _=_
    have h:=HDR.out
    rw [List.drop_eq_nil_of_le (by rw [HRL.out];omega)] at h
    exact h.symm
   go_wp2_with fail
   go_ret
   rw [HOO.out]
   exact ⟨none,0,0,rfl,hB,Rd.nil_,lr_,by decide⟩
def attX (l:Led) (src kn:Int) (last:Bool):List Int × Int:=if retE l src kn=0 then (match l.rt.findIdx? (fun t=>t.src == src) with
 | none=>((setP l kn).map Prod.fst,0)
 | some i=>(if last=true then ((setP l kn).map Prod.fst).set i ((setP l kn).getD i (0,0)).2 else (setP l kn).map Prod.fst,0)) else ([],retE l src kn)
def attK (P:List (Int × Int)) (n k:Nat):List Int:=(P.take k).map Prod.fst ++ List.replicate (n - k) 0
theorem attK_len {P:List (Int × Int)} {n k:Nat} (hP:P.length=n) (hk:k≤n):(attK P n k).length=n:=by simp [attK];omega
theorem attK_all {P:List (Int × Int)} {n:Nat} (hP:P.length=n):attK P n n=P.map Prod.fst:=by rw [attK,Nat.sub_self,← hP,List.take_length];simp
theorem attK_succ {P:List (Int × Int)} {n k:Nat} {d:Int × Int} (hd:P[k]?=some d) (hP:P.length=n):attK P n (k+1)=(attK P n k).set k d.1:=by
 have hk:k<n:=by rw [← hP];exact (List.getElem?_eq_some_iff.1 hd).1
 unfold attK
 obtain ⟨e,he⟩:∃ e,n - k=e+1:=⟨n - k - 1,by omega⟩
 rw [he,show n - (k+1)=e from by omega,take_snoc_some hd,List.map_append,List.replicate_succ,List.set_append_right _ _ (by simp;omega)]
 have h0:k - ((P.take k).map Prod.fst).length=0:=by simp;omega
 rw [h0]
 simp
theorem BoxA.ext5 {W W':World} {B B':Nat} {t:TypeId} {cs:Array Value} (h:BoxA W B t cs) (hb:Below B' W W') (hB:B<B'):BoxA W' B t cs:=(hb.block B hB).trans h
set_option maxRecDepth 10000 in
theorem p_Attain (l:Led) (x:Lsl) (src kn:Int) (last:Bool) (w:World) (hf:x.fit) (hd:LedIn w w.heap.size x l) :
 Calls Tryz.prog 53 #[.agg #[.slice x.pA x.pn x.pc,.slice x.rA x.rn x.rc,.slice x.tA x.tn x.tc,.slice x.sA x.sn x.sc],.int .i64 src,.int .i64 kn,.bool last] w (RetLE (attX l src kn last) w):=by
 obtain ⟨pA,pn,pc,rA,rn,rc,tA,tn,tc,sA,sn,sc⟩:=x
 have HD:=hd_ hd
 obtain ⟨v,hv⟩:∃ v,retE l src kn=v:=⟨_,rfl⟩
 by_cases hv0:v=0
 ·subst hv0
  have hlb:ledB l=true:=by
   unfold retE at hv
   split at hv
   ·rename_i h;exact (pre_zero h).1
   ·rename_i h;exact absurd hv h
  have ht60:=(led_ok hlb).tn
  have HC:Hid (∀ W:World,Below w.heap.size w W→Calls Tryz.prog 120 #[.agg #[.slice pA pn pc,.slice rA rn rc,.slice tA tn tc,.slice sA sn sc],.int .i64 src,.int .i64 kn] W (RetRet l src kn ⟨pA,pn,pc,rA,rn,rc,tA,tn,tc,sA,sn,sc⟩ W)):=by
   show ∀ _,_
   exact fun W hW=>p_returned0 l ⟨pA,pn,pc,rA,rn,rc,tA,tn,tc,sA,sn,sc⟩ src kn W hf (HD.out.now hW) hv
  cases last with
  | false =>
    have hres2:∀ i,l.rt.findIdx? (fun t=>t.src == src)=some i→(attX l src kn false).1=(setP l kn).map Prod.fst:=fun i h=>by simp only [attX,if_pos hv,h];rfl
    have hres:(attX l src kn false).2=0:=by
     rw [attX,if_pos hv]
     split <;> rfl
    show Calls _ _ _ _ (RetLE ((attX l src kn false).1,(attX l src kn false).2) w)
    rw [hres]
    clear hres hv hd hf
    go_enter Tryz.func53,Tryz.ntmps53
    go_wp2_with (go_at_call 120;refine (HC.out _ (by exact bel_)).mono ?_;rintro e w5 ⟨RA,Rn,Rc,SA,Sn,Sc,bm,TA,Tn,Tc,PA,Pn,Pc,i,rfl,hb5,hsq,hpn,hfi,htb⟩;have HB5:Below w.heap.size w w5:=bt_ (by exact bel_) hb5;have hs5:=HB5.size;have HSQ:=hd_ hsq;have HPN:=hd_ hpn;have HFI:=hd_ hfi;have hp6:Pn≤1000000:=(by rw [hpn];omega);have hmi:=make_int Pn hp6;clear hsq hpn hfi htb hb5)
    have HBA:Hid (BoxA (w5.alloc (.cells #[.slice pA pn pc,.slice rA rn rc,.slice tA tn tc,.slice sA sn sc,.int .i64 kn,.slice RA Rn Rc,.slice SA Sn Sc,.map (some bm),.slice TA Tn Tc,.slice PA Pn Pc] 119)) w5.heap.size 119 #[.slice pA pn pc,.slice rA rn rc,.slice tA tn tc,.slice sA sn sc,.int .i64 kn,.slice RA Rn Rc,.slice SA Sn Sc,.map (some bm),.slice TA Tn Tc,.slice PA Pn Pc]):=by show BoxA _ _ _ _;exact BoxA.new _ _ _
    have HWA:Below w5.heap.size w5 (w5.alloc (.cells #[.slice pA pn pc,.slice rA rn rc,.slice tA tn tc,.slice sA sn sc,.int .i64 kn,.slice RA Rn Rc,.slice SA Sn Sc,.map (some bm),.slice TA Tn Tc,.slice PA Pn Pc] 119)):=by exact bel_
    obtain ⟨wa,hwa⟩:∃ wa,w5.alloc (.cells #[.slice pA pn pc,.slice rA rn rc,.slice tA tn tc,.slice sA sn sc,.int .i64 kn,.slice RA Rn Rc,.slice SA Sn Sc,.map (some bm),.slice TA Tn Tc,.slice PA Pn Pc] 119)=wa:=⟨_,rfl⟩
    have hwe:wa.heap.size=w5.heap.size+1:=by rw [← hwa];simp
    have HWE:=hd_ hwe
    have hwl1:wa.heap.size≤w5.heap.size+1:=Nat.le_of_eq hwe
    clear hwe
    rw [hwa] at HBA HWA
    have hs5a:=HWA.size
    have HW5:Below w.heap.size w wa:=HB5.trans (HWA.mono hs5)
    have hsa:=HW5.size
    (try rw [hwa])
    clear hwa hmi
    have HPL:Hid ((setP l kn).length=Pn):=by show _=_;exact HSQ.out.len
    go_loopw [34] (fun i wr=>∃ k:Nat,k≤Pn∧i=.int .i64 k∧Below wa.heap.size wa wr∧BoxA wr (w5.heap.size+1) 3 (intL (attK (setP l kn) Pn k)).toArray) (fun i _=>Pn - (intOf i).toNat)
    case atStart=>exact ⟨0,by omega,rfl,by exact bel_,by have h:=BoxA.new wa 3 (intL (attK (setP l kn) Pn 0)).toArray;rw [HWE.out] at h;exact h⟩
    case round =>
     obtain ⟨k,hk,rfl,hQ,hI⟩:=hrel
     have hQ5:Below w5.heap.size w5 wr:=HWA.trans (hQ.mono hs5a)
     have hsq:=hQ.size
     have hs5r:=hQ5.size
     have bA:=HBA.out.ext5 hQ (show w5.heap.size<wa.heap.size from HBA.out.lt)
     have kA:=bA.cell
     have zA:=bA.lt
     have kI:=hI.cell
     have zI:=hI.lt
     have fI:=hI.frozen
     have HI:=hd_ hI
     clear hI bA
     by_cases hlt:k<Pn
     ·obtain ⟨b,o,d,rfl,hb,hdk,q0,q1⟩:=HSQ.out.at_ hlt
      have e0:=(hQ5.cell (p:=⟨b,o+k*2,none⟩) hb).trans q0
      have e1:=(hQ5.cell (p:=⟨b,o+k*2+1,none⟩) hb).trans q1
      have hbr:b<wr.heap.size:=by omega
      have HS:Hid ((attK (setP l kn) Pn k).set k d.1=attK (setP l kn) Pn (k+1)):=by show _=_;exact (attK_succ hdk HPL.out).symm
      have hkl:k<(intL (attK (setP l kn) Pn k)).toArray.size:=by simp [intL,attK_len HPL.out hk];exact hlt
      obtain ⟨u,hku⟩:∃ u,(intL (attK (setP l kn) Pn k))[k]?=some u:=⟨_,List.getElem?_eq_getElem (by simpa using hkl)⟩
      clear q0 q1 hdk kA zA
      go_wp2_with fail
      go_roundw
      case rel=>exact ⟨k+1,by omega,by go_num,by exact bel_,by rw [← HS.out];exact (HI.out.setI k d.1).alloc _⟩
      case measure=>exact ms_
     ·obtain rfl:k=Pn:=by omega
      have HAL:Hid (attK (setP l kn) k k=(setP l kn).map Prod.fst):=by show _=_;exact attK_all HPL.out
      have hBw:Below w.heap.size w wr:=HW5.trans (hQ.mono hsa)
      clear kA zA kI zI fI
      go_wp2_with fail
      go_ret2
      have h:=HI.out
      rw [HAL.out] at h
      exact ⟨_,_,_,rfl,hBw,by rw [hres2 i HFI.out];exact is_box h (by simp [HPL.out]),lr_,by unfold maxLen;omega⟩
  | true =>
    have hres2:∀ i,l.rt.findIdx? (fun t=>t.src == src)=some i→(attX l src kn true).1=((setP l kn).map Prod.fst).set i ((setP l kn).getD i (0,0)).2:=fun i h=>by simp only [attX,if_pos hv,h];rfl
    have hres:(attX l src kn true).2=0:=by
     rw [attX,if_pos hv]
     split <;> rfl
    show Calls _ _ _ _ (RetLE ((attX l src kn true).1,(attX l src kn true).2) w)
    rw [hres]
    clear hres hv hd hf
    go_enter Tryz.func53,Tryz.ntmps53
    go_wp2_with (go_at_call 120;refine (HC.out _ (by exact bel_)).mono ?_;rintro e w5 ⟨RA,Rn,Rc,SA,Sn,Sc,bm,TA,Tn,Tc,PA,Pn,Pc,i,rfl,hb5,hsq,hpn,hfi,htb⟩;have HB5:Below w.heap.size w w5:=bt_ (by exact bel_) hb5;have hs5:=HB5.size;have HSQ:=hd_ hsq;have HPN:=hd_ hpn;have HFI:=hd_ hfi;have hp6:Pn≤1000000:=(by rw [hpn];omega);have hmi:=make_int Pn hp6;clear hsq hpn hfi htb hb5)
    have HBA:Hid (BoxA (w5.alloc (.cells #[.slice pA pn pc,.slice rA rn rc,.slice tA tn tc,.slice sA sn sc,.int .i64 kn,.slice RA Rn Rc,.slice SA Sn Sc,.map (some bm),.slice TA Tn Tc,.slice PA Pn Pc] 119)) w5.heap.size 119 #[.slice pA pn pc,.slice rA rn rc,.slice tA tn tc,.slice sA sn sc,.int .i64 kn,.slice RA Rn Rc,.slice SA Sn Sc,.map (some bm),.slice TA Tn Tc,.slice PA Pn Pc]):=by show BoxA _ _ _ _;exact BoxA.new _ _ _
    have HWA:Below w5.heap.size w5 (w5.alloc (.cells #[.slice pA pn pc,.slice rA rn rc,.slice tA tn tc,.slice sA sn sc,.int .i64 kn,.slice RA Rn Rc,.slice SA Sn Sc,.map (some bm),.slice TA Tn Tc,.slice PA Pn Pc] 119)):=by exact bel_
    obtain ⟨wa,hwa⟩:∃ wa,w5.alloc (.cells #[.slice pA pn pc,.slice rA rn rc,.slice tA tn tc,.slice sA sn sc,.int .i64 kn,.slice RA Rn Rc,.slice SA Sn Sc,.map (some bm),.slice TA Tn Tc,.slice PA Pn Pc] 119)=wa:=⟨_,rfl⟩
    have hwe:wa.heap.size=w5.heap.size+1:=by rw [← hwa];simp
    have HWE:=hd_ hwe
    have hwl1:wa.heap.size≤w5.heap.size+1:=Nat.le_of_eq hwe
    clear hwe
    rw [hwa] at HBA HWA
    have hs5a:=HWA.size
    have HW5:Below w.heap.size w wa:=HB5.trans (HWA.mono hs5)
    have hsa:=HW5.size
    (try rw [hwa])
    clear hwa hmi
    have HPL:Hid ((setP l kn).length=Pn):=by show _=_;exact HSQ.out.len
    go_loopw [34] (fun i wr=>∃ k:Nat,k≤Pn∧i=.int .i64 k∧Below wa.heap.size wa wr∧BoxA wr (w5.heap.size+1) 3 (intL (attK (setP l kn) Pn k)).toArray) (fun i _=>Pn - (intOf i).toNat)
    case atStart=>exact ⟨0,by omega,rfl,by exact bel_,by have h:=BoxA.new wa 3 (intL (attK (setP l kn) Pn 0)).toArray;rw [HWE.out] at h;exact h⟩
    case round =>
     obtain ⟨k,hk,rfl,hQ,hI⟩:=hrel
     have hQ5:Below w5.heap.size w5 wr:=HWA.trans (hQ.mono hs5a)
     have hsq:=hQ.size
     have hs5r:=hQ5.size
     have bA:=HBA.out.ext5 hQ (show w5.heap.size<wa.heap.size from HBA.out.lt)
     have kA:=bA.cell
     have zA:=bA.lt
     have kI:=hI.cell
     have zI:=hI.lt
     have fI:=hI.frozen
     have HI:=hd_ hI
     clear hI bA
     by_cases hlt:k<Pn
     ·obtain ⟨b,o,d,rfl,hb,hdk,q0,q1⟩:=HSQ.out.at_ hlt
      have e0:=(hQ5.cell (p:=⟨b,o+k*2,none⟩) hb).trans q0
      have e1:=(hQ5.cell (p:=⟨b,o+k*2+1,none⟩) hb).trans q1
      have hbr:b<wr.heap.size:=by omega
      have HS:Hid ((attK (setP l kn) Pn k).set k d.1=attK (setP l kn) Pn (k+1)):=by show _=_;exact (attK_succ hdk HPL.out).symm
      have hkl:k<(intL (attK (setP l kn) Pn k)).toArray.size:=by simp [intL,attK_len HPL.out hk];exact hlt
      obtain ⟨u,hku⟩:∃ u,(intL (attK (setP l kn) Pn k))[k]?=some u:=⟨_,List.getElem?_eq_getElem (by simpa using hkl)⟩
      clear q0 q1 hdk kA zA
      go_wp2_with fail
      go_roundw
      case rel=>exact ⟨k+1,by omega,by go_num,by exact bel_,by rw [← HS.out];exact (HI.out.setI k d.1).alloc _⟩
      case measure=>exact ms_
     ·obtain rfl:k=Pn:=by omega
      have HAL:Hid (attK (setP l kn) k k=(setP l kn).map Prod.fst):=by show _=_;exact attK_all HPL.out
      have hBw:Below w.heap.size w wr:=HW5.trans (hQ.mono hsa)
      have hil:i<k:=by rw [HPN.out];exact (List.findIdx?_eq_some_iff_getElem.1 HFI.out).1
      obtain ⟨b,o,d,rfl,hb,hdi,q0,q1⟩:=HSQ.out.at_ hil
      have e0:=(hQ5.cell (p:=⟨b,o+i*2,none⟩) hb).trans q0
      have e1:=(hQ5.cell (p:=⟨b,o+i*2+1,none⟩) hb).trans q1
      have hbr:b<wr.heap.size:=by omega
      have hval:(setP l kn).getD i (0,0)=d:=by rw [List.getD_eq_getElem?_getD,hdi];rfl
      have HVAL:=hd_ hval
      obtain ⟨u,hku⟩:∃ u,(intL (attK (setP l kn) k k))[i]?=some u:=⟨_,List.getElem?_eq_getElem (by simp [intL,attK_len HPL.out lr_];exact hil)⟩
      clear q0 q1 hdi hval
      go_wp2_with fail
      go_ret2
      have h:=HI.out.setI i d.2
      rw [HAL.out] at h
      exact ⟨_,_,_,rfl,by have:=hBw;exact bel_,by rw [hres2 i HFI.out,HVAL.out];exact is_box h (by simp [HPL.out]),lr_,by unfold maxLen;omega⟩
 ·have HC:Hid (∀ W:World,Below w.heap.size w W→Calls Tryz.prog 120 #[.agg #[.slice pA pn pc,.slice rA rn rc,.slice tA tn tc,.slice sA sn sc],.int .i64 src,.int .i64 kn] W fun e w'=>e=.returned (.tuple #[.agg #[.slice none 0 0,.slice none 0 0,.slice none 0 0,.slice none 0 0,.int .i64 0,.slice none 0 0,.slice none 0 0,.map none,.slice none 0 0,.slice none 0 0],.int .i64 0,.int .i64 v])∧Below W.heap.size W w'):=by
   show ∀ _,_
   exact fun W hW=>p_returnedN l ⟨pA,pn,pc,rA,rn,rc,tA,tn,tc,sA,sn,sc⟩ src kn v W hf (HD.out.now hW) hv hv0
  have hres:attX l src kn last=([],v):=by rw [attX,if_neg (by rw [hv];exact hv0),hv]
  rw [hres]
  have hvd:(v != 0)=true:=by simpa using hv0
  clear hres hv hv0 hd hf
  go_enter Tryz.func53,Tryz.ntmps53
  go_wp2_with (go_at_call 120;refine (HC.out _ (by exact bel_)).mono ?_;rintro e w5 ⟨rfl,hb5⟩;have HB5:Below w.heap.size w w5:=bt_ (by exact bel_) hb5;have hs5:=HB5.size)
  go_ret2
  exact RetLE.err (by exact bel_)
end Go.Proofs.YtoiompoapikkbaaGreat
