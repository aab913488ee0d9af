/- Layer 2 of the texts that LoanDoubles takes: Vbnq. -/
import Derived.Test.YtoiompoapikkbaaGreatVbkq
import Derived.Test.YtoiompoapikkbaaGreatVbmq
import Derived.Test.YtoiompoapikkbaaGreatVblq
set_option linter.unusedVariables false
set_option linter.unusedSimpArgs false
/- Layer 2, the reference: asked. -/
namespace Go.Proofs.YtoiompoapikkbaaGreat
open Go.RowKit Go.Maps
theorem r_Check_g (l:Led) (x:Lsl) (v:Int) (w:World) (hp:x.pn≤9223372036854775807) (hr:x.rn≤9223372036854775807) (ht:x.tn≤9223372036854775807) (hs:x.sn≤9223372036854775807) (hd:LedIn w w.heap.size x l) (h:errI (ledB l) 24=v) :
 Calls Tryz.prog 19 #[.agg #[.slice x.pA x.pn x.pc,.slice x.rA x.rn x.rc,.slice x.tA x.tn x.tc,.slice x.sA x.sn x.sc]] w fun e w'=>e=.returned (.int .i64 v)∧Below w.heap.size w w':=h ▸ r_Check l x w hp hr ht hs hd
theorem all_take_snoc {α:Type} {l:List α} {k:Nat} {x:α} {p:α→Bool} (h:l[k]?=some x):(l.take (k+1)).all p=((l.take k).all p && p x):=by rw [take_snoc_some h,List.all_append];simp
theorem all_of_not {α:Type} {l:List α} {k:Nat} {x:α} {p:α→Bool} (h:l[k]?=some x) (hp:p x=false):l.all p=false:=by
 rw [← Bool.not_eq_true,List.all_eq_true]
 intro ha
 rw [ha x (List.mem_of_getElem? h)] at hp
 cases hp
theorem r_isDay2_v (n:Int) (v:Bool) (w:World) (h:withinB n 0 100000=v):Calls Tryz.prog 81 #[.int .i64 n] w fun e w'=>e=.returned (.bool v)∧w=w':=h ▸ r_isDay2 n w
set_option maxRecDepth 10000 in
set_option maxHeartbeats 4000000 in
theorem r_asked (l:Led) (x:Lsl) (ds:List Int) (D:Option Addr) (m c0:Nat) (w:World) (hf:x.fit) (hd:LedIn w w.heap.size x l) (hm:m≤9223372036854775807) (hdy:Is w w.heap.size D m ds) :
 Calls Tryz.prog 102 #[.agg #[.slice x.pA x.pn x.pc,.slice x.rA x.rn x.rc,.slice x.tA x.tn x.tc,.slice x.sA x.sn x.sc],.slice D m c0] w fun e w'=>e=.returned (.int .i64 (preE l ds))∧Below w.heap.size w w':=by
 obtain ⟨pA,pn,pc,rA,rn,rc,tA,tn,tc,sA,sn,sc⟩:=x
 have HD:=Lib.hid hd
 have hml:maxLen≤9223372036854775807:=by decide
 have hpn:pn≤9223372036854775807:=by have:=hf.p;dsimp only at this;omega
 have hrn:rn≤9223372036854775807:=by have:=hf.r;dsimp only at this;omega
 have htn:tn≤9223372036854775807:=by have:=hf.t;dsimp only at this;omega
 have hsn:sn≤9223372036854775807:=by have:=hf.s;dsimp only at this;omega
 have HL:=Lib.hid hdy.len
 have HDY:=Lib.hid hdy
 clear hd hf hml hdy
 cases hk:ledB l with
 | false =>
   have HR:Hid (preE l ds=24):=by show _=_;rw [preE,hk];rfl
   have HK:Hid (errI (ledB l) 24=24):=by show _=_;rw [hk];rfl
   clear hk
   rw [HR.out]
   go_enter Tryz.func102,Tryz.ntmps102
   go_wp2_with (go_at_call 19;refine (r_Check_g l ⟨pA,pn,pc,rA,rn,rc,tA,tn,tc,sA,sn,sc⟩ 24 _ hpn hrn htn hsn (HD.out.now (by exact bel_)) HK.out).mono ?_;rintro e w1 ⟨rfl,hb1⟩)
   go_ret
   exact ⟨rfl,Below.then_ (by exact bel_) hb1⟩
 | true =>
   have HK:Hid (errI (ledB l) 24=0):=by show _=_;rw [hk];rfl
   have HR:Hid (preE l ds=errI (ds.all fun d=>withinB d 0 100000) 6):=by show _=_;rw [preE,hk];simp [orL,errI,daysOk]
   clear hk
   go_enter Tryz.func102,Tryz.ntmps102
   go_wp2_with fail
   refine (r_Check_g l ⟨pA,pn,pc,rA,rn,rc,tA,tn,tc,sA,sn,sc⟩ 0 _ hpn hrn htn hsn (HD.out.now (by exact bel_)) HK.out).mono ?_
   rintro e w1 ⟨rfl,hb1⟩
   have HB1:Below w.heap.size w w1:=Below.then_ (by exact bel_) hb1
   clear hb1
   go_wp2
   go_loopw [5] (fun i wr=>∃ k:Nat,k≤m∧i=.int .i64 k∧(ds.take k).all (fun d=>withinB d 0 100000)=true∧Below w.heap.size w wr) (fun i _=>m - (intOf i).toNat)
   case atStart=>exact ⟨0,by omega,rfl,rfl,HB1⟩
   case round =>
    obtain ⟨k,hk,rfl,hall,hB⟩:=hrel
    have HA:=Lib.hid hall
    clear hall
    by_cases hlt:k<m
    ·obtain ⟨b,o,y,rfl,hb,hx,hc0⟩:=(Is.ext HDY.out hB (Nat.le_refl _)).at_ hlt
     have HX:=Lib.hid hx
     clear hx
     have hs0:w.heap.size≤wr.heap.size:=hB.size
     have hbr:b<wr.heap.size:=by omega
     cases hin:withinB y 0 100000 with
     | false =>
       have HF:Hid (preE l ds=6):=by show _=_;rw [HR.out,all_of_not HX.out hin];rfl
       have HI:=Lib.hid hin
       clear hin
       go_wp2_with (go_at_call 81;refine (r_isDay2_v y false _ HI.out).mono ?_;rintro e w2 ⟨rfl,rfl⟩)
       go_ret
       exact ⟨ret_int (by rw [HF.out]),hB⟩
     | true =>
       have HI:=Lib.hid hin
       clear hin
       go_wp2_with (go_at_call 81;refine (r_isDay2_v y true _ HI.out).mono ?_;rintro e w2 ⟨rfl,rfl⟩)
       go_roundw
       case rel=>exact ⟨k+1,by omega,by go_num,by rw [all_take_snoc HX.out,HA.out,HI.out];rfl,hB⟩
       case measure=>exact ms_
    ·obtain rfl:k=m:=by omega
     have HF:Hid (preE l ds=0):=by
      show _=_
      have h:=HA.out
      rw [List.take_of_length_le (by rw [HL.out];exact Nat.le_refl _)] at h
      rw [HR.out,h];rfl
     go_wp2
     go_ret
     exact ⟨ret_int (by rw [HF.out]),hB⟩
end Go.Proofs.YtoiompoapikkbaaGreat
/- Layer 2: the days of the returns by the receipts: the program's and the reference's, plain. -/
namespace Go.Proofs.YtoiompoapikkbaaGreat
open Go.RowKit Go.Maps
theorem foldl_le {α:Type} {f:Int→α→Int} {q:Int→α→Prop} (h:∀ v a x,v≤f a x↔v≤a∧q v x) (v:Int):∀ (l:List α) (a:Int),v≤l.foldl f a↔v≤a∧∀ x∈l,q v x
 | [],a=>by simp
 | x :: l,a=>by
   rw [List.foldl_cons,foldl_le h v l,h,and_assoc]
   simp
theorem hiStep_le (d v h:Int) (x:Rcp):v≤hiStep d h x↔v≤h∧(d<x.day→v≤x.day):=by
 unfold hiStep
 split <;> rename_i hd <;> simp [hd] <;> omega
theorem hiK_le (R:List Rcp) (r:Rcp) (h v:Int) (l:List Int):v≤hiK R r h l↔v≤h∧∀ x∈l,∀ u∈R.filter (isOfB r.pap x),r.day<u.day→v≤u.day:=by
 rw [hiK]
 exact foldl_le (q:=fun v x=>∀ u∈R.filter (isOfB r.pap x),r.day<u.day→v≤u.day) (fun v a x=>by rw [hiL];exact foldl_le (fun v a u=>hiStep_le r.day v a u) v _ a) v l h
def refHi (kn:Int) (r:Rcp) (lv:List Int) (h:Int) (u:Rcp):Int:=lv.foldl (fun h x=>if r.day<u.day∧(countsB u.kn u.un kn && isOfB r.pap x u)=true then min h u.day else h) h
theorem refHi_le (kn v:Int) (r:Rcp) (lv:List Int) (h:Int) (u:Rcp):v≤refHi kn r lv h u↔v≤h∧∀ x∈lv,r.day<u.day∧(countsB u.kn u.un kn && isOfB r.pap x u)=true→v≤u.day:=by
 rw [refHi]
 refine foldl_le (q:=fun v x=>r.day<u.day∧(countsB u.kn u.un kn && isOfB r.pap x u)=true→v≤u.day) (fun v a x=>?_) v lv h
 split
 ·rename_i hc
  constructor
  ·intro hv;exact ⟨by omega,fun _=>by omega⟩
  ·rintro ⟨h1,h2⟩;have:=h2 hc;omega
 ·rename_i hc
  exact ⟨fun hv=>⟨hv,fun h2=>absurd h2 hc⟩,fun hv=>hv.1⟩
theorem hi_ref (l:Led) (kn:Int) (r:Rcp) (h:Int) (lv:List Int):hiK (cntR l kn) r h lv=l.rc.foldl (refHi kn r lv) h:=by
 have e:∀ v,v≤hiK (cntR l kn) r h lv↔v≤l.rc.foldl (refHi kn r lv) h:=fun v=>by
  rw [hiK_le,foldl_le (fun v a u=>refHi_le kn v r lv a u)]
  refine and_congr_right fun _=>⟨fun H u hu x hx hc=>?_,fun H x hx u hu hd=>?_⟩
  ·simp only [Bool.and_eq_true] at hc
   exact H x hx u (List.mem_filter.2 ⟨List.mem_filter.2 ⟨hu,by simpa using hc.2.1⟩,hc.2.2⟩) hc.1
  ·obtain ⟨h1,h2⟩:=List.mem_filter.1 hu
   obtain ⟨h3,h4⟩:=List.mem_filter.1 h1
   exact H u h3 x hx ⟨hd,by simp only [Bool.and_eq_true];exact ⟨by simpa using h4,h2⟩⟩
 have h1:=(e (hiK (cntR l kn) r h lv)).1 (Int.le_refl _)
 have h2:=(e (l.rc.foldl (refHi kn r lv) h)).2 (Int.le_refl _)
 omega
def byR (l:Led) (T:List Bool) (kn:Int) (i:Nat):Int × Int:=match T[i]?,l.rt[i]? with
 | some true,some t=>(match findR (cntR l kn) t.rcp with
   | some r=>(max t.lo (r.day+1),l.rc.foldl (refHi kn r t.lv) t.hi)
   | none=>(0,100000))
 | _,_=>(0,100000)
theorem opn_by (l:Led) (kn:Int):∀ k,k≤l.rt.length→∀ j,j<k→(opnK kn (cntR l kn) l.rt l.rt.length k).P[j]?=some (byR l (opnK kn (cntR l kn) l.rt l.rt.length k).T kn j)
 | 0,_,j,hj=>by omega
 | k+1,hk,j,hj=>by
   have ih:=opn_by l kn k (by omega)
   obtain ⟨_,i2⟩:=opn_inv kn (cntR l kn) l.rt k (by omega)
   have hP:=(opnK_len kn (cntR l kn) l.rt l.rt.length k).2
   have hTl:=(opnK_len kn (cntR l kn) l.rt l.rt.length k).1
   obtain ⟨u,hu⟩:∃ u,l.rt[k]?=some u:=⟨l.rt[k],List.getElem?_eq_getElem (by omega)⟩
   rw [opnK_succ hu]
   generalize opnK kn (cntR l kn) l.rt l.rt.length k=S at ih i2 hP hTl ⊢
   have hk2:=i2 k (Nat.le_refl _) (by omega)
   unfold readS
   cases hr:readR kn (cntR l kn) S.M u with
   | none =>
     show (S.P.set k (0,100000))[j]?=some (byR l S.T kn j)
     by_cases hkj:k=j
     ·subst hkj
      rw [List.getElem?_set_self (by omega),byR,hk2]
     ·rw [List.getElem?_set_ne hkj]
      exact ih j (by omega)
   | some r =>
     show ((S.P.set k (0,100000)).set k (max u.lo (r.day+1),hiK (cntR l kn) r u.hi u.lv))[j]?=some (byR l (S.T.set k true) kn j)
     by_cases hkj:k=j
     ·subst hkj
      have hf:findR (cntR l kn) u.rcp=some r:=by
       unfold readR at hr
       split at hr
       ·cases hr
       ·rename_i r' hf
        split at hr
        ·rw [hf,hr]
        ·cases hr
      rw [List.getElem?_set_self (by simp;omega),byR,List.getElem?_set_self (by omega),hu]
      simp only [hf,hi_ref]
     ·rw [List.getElem?_set_ne hkj,List.getElem?_set_ne hkj,ih j (by omega),byR,byR,List.getElem?_set_ne hkj]
theorem opn_days (l:Led) (kn:Int):(opnL l kn).P=(List.range l.rt.length).map (byR l (tellK l kn l.rt.length) kn):=by
 apply List.ext_getElem?
 intro j
 by_cases hj:j<l.rt.length
 ·have h:=opn_by l kn l.rt.length (Nat.le_refl _) j hj
  rw [show (opnL l kn).P[j]?=some (byR l (opnL l kn).T kn j) from h,opn_tell,List.getElem?_map,List.getElem?_range hj]
  rfl
 ·have hP:=(opnK_len kn (cntR l kn) l.rt l.rt.length l.rt.length).2
  rw [List.getElem?_eq_none (by show (opnL l kn).P.length≤j;have:(opnL l kn).P.length=l.rt.length:=hP;omega),List.getElem?_eq_none (by simp;omega)]
end Go.Proofs.YtoiompoapikkbaaGreat
/- Layer 2, the reference: double, whole; doubles. -/
namespace Go.Proofs.YtoiompoapikkbaaGreat
open Go.RowKit Go.Maps
set_option maxRecDepth 10000 in
set_option maxHeartbeats 4000000 in
theorem r_double (l:Led) (v:Vw) (T:List Bool) (a b:Nat) (x y:Rcp) (q:Bool) (w:World) (hl:LedOk l) (hTt:v.Tn=v.x.tn) (hd:LedIn w w.heap.size v.x l) (hT:Sq QB 1 w w.heap.size v.TA v.Tn T) (ha:l.rc[a]?=some x) (hb:l.rc[b]?=some y) (hq:refD l T v.kn x y=q) :
 Calls Tryz.prog 117 #[vwV v,.int .i64 a,.int .i64 b] w fun e w'=>e=.returned (.bool q)∧Below w.heap.size w w':=by
 subst hq
 by_cases hlt:y.day<x.day
 ·rw [refD,if_pos hlt]
  have HC:Hid (∀ W:World,Below w.heap.size w W→Calls Tryz.prog 117 #[vwV v,.int .i64 b,.int .i64 a] W fun e w'=>e=.returned (.bool (y.lv.any (refOut l T v.kn y x)))∧Below W.heap.size W w'):=by
   show ∀ _,_
   exact fun W hW=>r_double0 l v T b a y x W hl hTt (hd.now hW) (hT.now abB hW) hb ha (by omega)
  obtain ⟨⟨pA,pn,pc,rA,rn,rc,tA,tn,tc,sA,sn,sc⟩,kn,TA,Tn,Tc,DA,Dn,Dc⟩:=v
  obtain rfl:Tn=tn:=hTt
  obtain ⟨out,hout⟩:∃ o,y.lv.any (refOut l T kn y x)=o:=⟨_,rfl⟩
  have HC:Hid (∀ W:World,Below w.heap.size w W→Calls Tryz.prog 117 #[.agg #[.slice pA pn pc,.slice rA rn rc,.slice tA Tn tc,.slice sA sn sc,.int .i64 kn,.slice TA Tn Tc,.slice DA Dn Dc],.int .i64 b,.int .i64 a] W fun e w'=>e=.returned (.bool out)∧Below W.heap.size W w'):=by
   show ∀ _,_
   intro W hW
   have h:=HC.out W hW
   rw [← hout]
   exact h
  show Calls _ _ #[.agg #[.slice pA pn pc,.slice rA rn rc,.slice tA Tn tc,.slice sA sn sc,.int .i64 kn,.slice TA Tn Tc,.slice DA Dn Dc],_,_] _ (fun e w'=>e=.returned (.bool (y.lv.any (refOut l T kn y x)))∧Below w.heap.size w w')
  rw [hout]
  have HR:Hid (Rcs w w.heap.size rA rn l.rc):=by show Sq _ _ _ _ _ _ _;exact hd.r
  have hia:a<rn:=by rw [← HR.out.len];exact (List.getElem?_eq_some_iff.1 ha).1
  have hib:b<rn:=by rw [← HR.out.len];exact (List.getElem?_eq_some_iff.1 hb).1
  obtain ⟨bx,ox,x',rfl,hbx,hxx,A1,n1,c1,⟨g0,g1,g2,g3,g4,g5,g6⟩,-,-,-⟩:=HR.out.at_ hia
  obtain rfl:x=x':=Option.some.inj (ha.symm.trans hxx)
  obtain ⟨by_,oy,y',ey,hby,hyy,A2,n2,c2,⟨k0,k1,k2,k3,k4,k5,k6⟩,-,-,-⟩:=HR.out.at_ hib
  obtain rfl:y=y':=Option.some.inj (hb.symm.trans hyy)
  obtain ⟨rfl,rfl⟩:bx=by_∧ox=oy:=by simpa using ey
  have hgt:decide (x.day>y.day)=true:=by simpa using hlt
  clear hd hl hT ha hb hxx hyy ey hlt hout
  go_enter Tryz.func117,Tryz.ntmps117
  go_wp2_with fail
  refine (HC.out _ (by exact bel_)).mono ?_
  rintro e w6 ⟨rfl,hb6⟩
  have HB6:Below w.heap.size w w6:=Below.then_ (by exact bel_) hb6
  go_wp2_with fail
  go_ret
  exact ⟨rfl,HB6⟩
 ·rw [refD,if_neg hlt]
  exact r_double0 l v T a b x y w hl hTt hd hT ha hb hlt
theorem firstP_some {p:Rcp→Rcp→Bool} {xs:List Rcp} {k:Nat} {x y:Rcp} {o:Option (Rcp × Rcp)} (hx:xs[k]?=some x) (hf:(xs.drop (k+1)).find? (p x)=some y) (ho:firstP p (xs.drop k)=o):o=some (x,y):=by
 have hlt:k<xs.length:=(List.getElem?_eq_some_iff.1 hx).1
 rw [List.drop_eq_getElem_cons hlt,(List.getElem?_eq_some_iff.1 hx).2,firstP,hf] at ho
 exact ho.symm
theorem firstP_none {p:Rcp→Rcp→Bool} {xs:List Rcp} {k:Nat} {x:Rcp} {o:Option (Rcp × Rcp)} (hx:xs[k]?=some x) (hf:(xs.drop (k+1)).find? (p x)=none) (ho:firstP p (xs.drop k)=o):firstP p (xs.drop (k+1))=o:=by
 have hlt:k<xs.length:=(List.getElem?_eq_some_iff.1 hx).1
 rw [List.drop_eq_getElem_cons hlt,(List.getElem?_eq_some_iff.1 hx).2,firstP,hf] at ho
 exact ho
def dblS:Option (Rcp × Rcp)→List Int
 | none=>[]
 | some p=>[p.1.src,p.2.src]
def RetLI (r:List Int) (w:World) (e:Ending) (w':World):Prop:=∃ A n c,e=.returned (.slice A n c)∧Below w.heap.size w w'∧Is w' w'.heap.size A n r∧n≤c∧c≤maxLen
set_option maxRecDepth 10000 in
set_option maxHeartbeats 4000000 in
theorem r_doubles (l:Led) (v:Vw) (T:List Bool) (w:World) (hl:LedOk l) (hTt:v.Tn=v.x.tn) (hd:LedIn w w.heap.size v.x l) (hT:Sq QB 1 w w.heap.size v.TA v.Tn T) :
 Calls Tryz.prog 106 #[vwV v] w (RetLI (dblS (firstP (refD l T v.kn) l.rc)) w):=by
 obtain ⟨⟨pA,pn,pc,rA,rn,rc,tA,tn,tc,sA,sn,sc⟩,kn,TA,Tn,Tc,DA,Dn,Dc⟩:=v
 obtain rfl:Tn=tn:=hTt
 show Calls _ _ #[.agg #[.slice pA pn pc,.slice rA rn rc,.slice tA Tn tc,.slice sA sn sc,.int .i64 kn,.slice TA Tn Tc,.slice DA Dn Dc]] _ (RetLI (dblS (firstP (refD l T kn) l.rc)) w)
 have HR:Hid (Rcs w w.heap.size rA rn l.rc):=by show Sq _ _ _ _ _ _ _;exact hd.r
 have HRL:Hid (l.rc.length=rn):=by show _=_;exact HR.out.len
 have hrn6:rn≤1000000:=by have h:=HR.out.len;have h2:=hl.rn;omega
 have HC:Hid (∀ (W:World) (a b:Nat) (x y:Rcp) (q:Bool),Below w.heap.size w W→l.rc[a]?=some x→l.rc[b]?=some y→refD l T kn x y=q→Calls Tryz.prog 117 #[.agg #[.slice pA pn pc,.slice rA rn rc,.slice tA Tn tc,.slice sA sn sc,.int .i64 kn,.slice TA Tn Tc,.slice DA Dn Dc],.int .i64 a,.int .i64 b] W fun e w'=>e=.returned (.bool q)∧Below W.heap.size W w'):=by
  show ∀ _,_
  exact fun W a b x y q hW ha hb hq=>r_double l ⟨⟨pA,pn,pc,rA,rn,rc,tA,Tn,tc,sA,sn,sc⟩,kn,TA,Tn,Tc,DA,Dn,Dc⟩ T a b x y q W hl rfl (hd.now hW) (hT.now abB hW) ha hb hq
 obtain ⟨o,ho⟩:∃ o,firstP (refD l T kn) l.rc=o:=⟨_,rfl⟩
 rw [ho]
 have HO:=Lib.hid ho
 clear hd hl hT ho
 go_enter Tryz.func106,Tryz.ntmps106
 go_wp2_with fail
 go_loopw [3] (fun i wr=>∃ k:Nat,k≤rn∧i=.int .i64 k∧firstP (refD l T kn) (l.rc.drop k)=o∧Below w.heap.size w wr∧BoxA wr w.heap.size 127 #[.slice pA pn pc,.slice rA rn rc,.slice tA Tn tc,.slice sA sn sc,.int .i64 kn,.slice TA Tn Tc,.slice DA Dn Dc]) (fun i _=>rn - (intOf i).toNat)
 case atStart=>exact ⟨0,by omega,rfl,HO.out,by exact bel_,BoxA.new _ _ _⟩
 case round =>
  obtain ⟨k,hk,rfl,hdr,hB,bV⟩:=hrel
  obtain ⟨wo,rfl⟩:∃ wo,wo=wr:=⟨_,rfl⟩
  have HDR:=Lib.hid hdr
  clear hdr
  have hs0:=hB.size
  have kV:=bV.cell
  have zV:=bV.lt
  by_cases hlt:k<rn
  ·obtain ⟨bx,ox,x,rfl,hbx,hx,A1,n1,c1,⟨g0,-⟩,-,-,-⟩:=HR.out.at_ hlt
   have HX:=Lib.hid hx
   clear hx
   go_wp2_with fail
   go_loopw [4] (fun i wr=>∃ m:Nat,k+1≤m∧m≤rn∧i=.int .i64 m∧((l.rc.drop (k+1)).take (m - (k+1))).find? (refD l T kn x)=none∧Below wo.heap.size wo wr) (fun i _=>rn - (intOf i).toNat)
   case atStart=>exact ⟨k+1,Nat.le_refl _,by omega,by go_num,by rw [Nat.sub_self];rfl,Below.refl _ _⟩
   case round =>
    obtain ⟨m,hkm,hm,rfl,hfn,hQ⟩:=hrel
    obtain ⟨j,hj⟩:∃ j,m - (k+1)=j:=⟨_,rfl⟩
    have hmj:m+1 - (k+1)=j+1:=by omega
    rw [hj] at hfn
    have HMJ:=Lib.hid hmj
    have HJ:=Lib.hid hj
    clear hmj hj
    have HFN:=Lib.hid hfn
    clear hfn
    have hBq:Below w.heap.size w wr:=hB.trans (hQ.mono hs0)
    have hsq:=hBq.size
    have bVq:=bV.ext hQ
    have kVq:=bVq.cell
    have zVq:=bVq.lt
    clear kV zV
    by_cases hjl:m<rn
    ·obtain ⟨by_,oy,y,ey,hby,hy,A2,n2,c2,⟨k0,-⟩,-,-,-⟩:=HR.out.at_ hjl
     obtain ⟨rfl,rfl⟩:bx=by_∧ox=oy:=by simpa using ey
     have hdy:(l.rc.drop (k+1))[j]?=some y:=by rw [List.getElem?_drop,show k+1+j=m from (by have h:=HJ.out;omega)];exact hy
     have HDY:=Lib.hid hdy
     have HY:=Lib.hid hy
     clear hdy hy ey
     go_wp2_with fail
     cases hq:refD l T kn x y with
     | false =>
       refine (HC.out _ k m x y false hBq HX.out HY.out hq).mono ?_
       rintro e w6 ⟨rfl,hb6⟩
       have hN:Hid (((l.rc.drop (k+1)).take (j+1)).find? (refD l T kn x)=none):=by show _=_;rw [take_snoc_some HDY.out,List.find?_append,HFN.out];simp [hq]
       clear hq
       go_wp2_with fail
       go_roundw
       case rel=>exact ⟨m+1,by omega,by omega,by go_num,by rw [HMJ.out];exact hN.out,Below.then_ hQ hb6⟩
       case measure=>exact ms_
     | true =>
       refine (HC.out _ k m x y true hBq HX.out HY.out hq).mono ?_
       rintro e w6 ⟨rfl,hb6⟩
       have HB6:Below w.heap.size w w6:=Below.then_ hBq hb6
       have hs6:=HB6.size
       have bV6:=bVq.ext hb6
       have kV6:=bV6.cell
       have zV6:=bV6.lt
       have hf:(l.rc.drop (k+1)).find? (refD l T kn x)=some y:=by
        conv=>lhs;rw [← List.take_append_drop (j+1) (l.rc.drop (k+1)),List.find?_append]
        rw [take_snoc_some HDY.out,List.find?_append,HFN.out]
        simp [hq]
       have HOO:=Lib.hid (firstP_some HX.out hf HDR.out)
       have e0:=(HB6.cell (p:=⟨bx,ox+k*7,none⟩) hbx).trans g0
       have e1:=(HB6.cell (p:=⟨bx,ox+m*7,none⟩) hbx).trans k0
       have hbx6:bx<w6.heap.size:=by omega
       clear hq hf kVq zVq hb6 g0 k0
       go_wp2_with fail
       (refine wp_region_bsink 15 (by kernel_rfl) rfl rfl (by kernel_rfl) (by kernel_rfl) (fun hS=>?_);simp only [List.take_succ_cons,List.take_zero,List.reduceReplicate,Array.replicate_succ,Array.replicate_zero])
       (refine tk_ (i:=0) (v:=?_) rfl ?_ hS ?_ (fun _ _ _ h=>h);rotate_left;focus (intro w2 hw2;(try dsimp only at hw2);obtain ⟨hc2,hf2⟩:=bcell hw2;go_simp;first | done | with_reducible rfl);(try simp only [Act.put,pu1,pu2,pu3]))
       (refine tk_ (i:=1) (v:=?_) rfl ?_ hS ?_ (fun _ _ _ h=>h);rotate_left;focus (intro w2 hw2;(try dsimp only at hw2);obtain ⟨hc2,hf2⟩:=bcell hw2;go_simp;first | done | with_reducible rfl);(try simp only [Act.put,pu1,pu2,pu3]))
       (refine tk_ (i:=2) (v:=?_) rfl ?_ hS ?_ (fun _ _ _ h=>h);rotate_left;focus (intro w2 hw2;(try dsimp only at hw2);obtain ⟨hc2,hf2⟩:=bcell hw2;go_simp;first | done | with_reducible rfl);(try simp only [Act.put,pu1,pu2,pu3]))
       (refine tk_ (i:=3) (v:=?_) rfl ?_ hS ?_ (fun _ _ _ h=>h);rotate_left;focus (intro w2 hw2;(try dsimp only at hw2);obtain ⟨hc2,hf2⟩:=bcell hw2;go_simp;first | done | with_reducible rfl);(try simp only [Act.put,pu1,pu2,pu3]))
       (refine tk_ (i:=4) (v:=?_) rfl ?_ hS ?_ (fun _ _ _ h=>h);rotate_left;focus (intro w2 hw2;(try dsimp only at hw2);obtain ⟨hc2,hf2⟩:=bcell hw2;go_simp;first | done | with_reducible rfl);(try simp only [Act.put,pu1,pu2,pu3]))
       (refine tk_ (i:=5) (v:=?_) rfl ?_ hS ?_ (fun _ _ _ h=>h);rotate_left;focus (intro w2 hw2;(try dsimp only at hw2);obtain ⟨hc2,hf2⟩:=bcell hw2;go_simp;first | done | with_reducible rfl);(try simp only [Act.put,pu1,pu2,pu3]))
       (refine tk_ (i:=6) (v:=?_) rfl ?_ hS ?_ (fun _ _ _ h=>h);rotate_left;focus (intro w2 hw2;(try dsimp only at hw2);obtain ⟨hc2,hf2⟩:=bcell hw2;go_simp;first | done | with_reducible rfl);(try simp only [Act.put,pu1,pu2,pu3]))
       (refine tk_ (i:=7) (v:=?_) rfl ?_ hS ?_ (fun _ _ _ h=>h);rotate_left;focus (intro w2 hw2;(try dsimp only at hw2);obtain ⟨hc2,hf2⟩:=bcell hw2;go_simp;first | done | with_reducible rfl);(try simp only [Act.put,pu1,pu2,pu3]))
       (refine tk_ (i:=8) (v:=?_) rfl ?_ hS ?_ (fun _ _ _ h=>h);rotate_left;focus (intro w2 hw2;(try dsimp only at hw2);obtain ⟨hc2,hf2⟩:=bcell hw2;go_simp;first | done | with_reducible rfl);(try simp only [Act.put,pu1,pu2,pu3]))
       (refine tk_ (i:=9) (v:=?_) rfl ?_ hS ?_ (fun _ _ _ h=>h);rotate_left;focus (intro w2 hw2;(try dsimp only at hw2);obtain ⟨hc2,hf2⟩:=bcell hw2;go_simp;first | done | with_reducible rfl);(try simp only [Act.put,pu1,pu2,pu3]))
       (refine tk_ (i:=10) (v:=?_) rfl ?_ hS ?_ (fun _ _ _ h=>h);rotate_left;focus (intro w2 hw2;(try dsimp only at hw2);obtain ⟨hc2,hf2⟩:=bcell hw2;go_simp;first | done | with_reducible rfl);(try simp only [Act.put,pu1,pu2,pu3]))
       (refine tk_ (i:=11) (v:=?_) rfl ?_ hS ?_ (fun _ _ _ h=>h);rotate_left;focus (intro w2 hw2;(try dsimp only at hw2);obtain ⟨hc2,hf2⟩:=bcell hw2;go_simp;first | done | with_reducible rfl);(try simp only [Act.put,pu1,pu2,pu3]))
       (refine tk_ (i:=12) (v:=?_) rfl ?_ hS ?_ (fun _ _ _ h=>h);rotate_left;focus (intro w2 hw2;(try dsimp only at hw2);obtain ⟨hc2,hf2⟩:=bcell hw2;go_simp;first | done | with_reducible rfl);(try simp only [Act.put,pu1,pu2,pu3]))
       (refine tk_ (i:=13) (v:=?_) rfl ?_ hS ?_ (fun _ _ _ h=>h);rotate_left;focus (intro w2 hw2;(try dsimp only at hw2);obtain ⟨hc2,hf2⟩:=bcell hw2;go_simp;first | done | with_reducible rfl);(try simp only [Act.put,pu1,pu2,pu3]))
       (refine rd_ [14] ?_;refine ah1 rfl fun K hK=>?_;(go_simp);refine hK.out _ _ (hS.alloc hS.size _) (fun hS=>?_);clear hK K;(try simp only [Act.put,pu1,pu2,pu3]))
       refine wpAnyH_done (by kernel_rfl) ?_ _
       simp only [sinkQ]
       go_simp
       go_wp2_with fail
       go_ret
       rw [HOO.out]
       refine ⟨_,_,_,rfl,by exact bel_,?_,Nat.le_refl _,by decide⟩
       exact Rd.new _ #[.int .i64 x.src,.int .i64 y.src] 3 1 2 _ (by simp) rfl
    ·have hf:(l.rc.drop (k+1)).find? (refD l T kn x)=none:=by
      have h:=HFN.out
      rwa [List.take_of_length_le (by rw [List.length_drop,HRL.out];have h:=HJ.out;omega)] at h
     have HN:=Lib.hid (firstP_none HX.out hf HDR.out)
     clear hf
     go_wp2_with fail
     go_roundw
     case rel=>exact ⟨k+1,by omega,by go_num,HN.out,hBq,bVq⟩
     case measure=>exact ms_
  ·have HOO:Hid (o=none):=by
    show _=_
    have h:=HDR.out
    rw [List.drop_eq_nil_of_le (by rw [HRL.out];omega)] at h
    exact h.symm
   go_wp2_with fail
   go_ret
   rw [HOO.out]
   exact ⟨none,0,0,rfl,hB,Rd.nil_,Nat.le_refl _,by decide⟩
end Go.Proofs.YtoiompoapikkbaaGreat
/- Layer 2, the reference: look, agreeing. -/
namespace Go.Proofs.YtoiompoapikkbaaGreat
open Go.RowKit Go.Maps
set_option maxRecDepth 10000 in
set_option maxHeartbeats 4000000 in
theorem r_look (l:Led) (x:Lsl) (kn:Int) (w:World) (hl:LedOk l) (hd:LedIn w w.heap.size x l) :
 Calls Tryz.prog 105 #[.agg #[.slice x.pA x.pn x.pc,.slice x.rA x.rn x.rc,.slice x.tA x.tn x.tc,.slice x.sA x.sn x.sc],.int .i64 kn] w fun e w'=>∃ B c,e=.returned (.agg #[.slice x.pA x.pn x.pc,.slice x.rA x.rn x.rc,.slice x.tA x.tn x.tc,.slice x.sA x.sn x.sc,.int .i64 kn,.slice (some ⟨B,0,none⟩) x.tn c,.slice none 0 0])∧Below w.heap.size w w'∧BoxA w' B 4 (boolL (tellK l kn l.rt.length)).toArray∧w.heap.size≤B:=by
 obtain ⟨pA,pn,pc,rA,rn,rc,tA,tn,tc,sA,sn,sc⟩:=x
 show Calls _ _ #[.agg #[.slice pA pn pc,.slice rA rn rc,.slice tA tn tc,.slice sA sn sc],_] _ _
 have HTE:Hid (∀ W:World,Below w.heap.size w W→Calls Tryz.prog 103 #[.agg #[.slice pA pn pc,.slice rA rn rc,.slice tA tn tc,.slice sA sn sc],.int .i64 kn] W (RetTl l kn tn W)):=by
  show ∀ _,_
  exact fun W hW=>r_telling l ⟨pA,pn,pc,rA,rn,rc,tA,tn,tc,sA,sn,sc⟩ kn W hl (hd.now hW)
 clear hd hl
 go_enter Tryz.func105,Tryz.ntmps105
 go_wp2_with fail
 refine wp_named2 fun f1 W4 hf1 hW4=>?_
 have bL:BoxA W4 w.heap.size 27 #[.slice pA pn pc,.slice rA rn rc,.slice tA tn tc,.slice sA sn sc]:=by (rw [← hW4];simp only [boxed_iff,boxa_iff,alloc_get,drew_heap,World.size_alloc];(repeat (first | rw [if_pos trivial] | rw [if_pos (by omega)] | rw [if_neg (by omega)])))
 have bZ:BoxA W4 (w.heap.size+1) 127 #[.slice none 0 0,.slice none 0 0,.slice none 0 0,.slice none 0 0,.int .i64 0,.slice none 0 0,.slice none 0 0]:=by (rw [← hW4];simp only [boxed_iff,boxa_iff,alloc_get,drew_heap,World.size_alloc];(repeat (first | rw [if_pos trivial] | rw [if_pos (by omega)] | rw [if_neg (by omega)])))
 have HB4:Below w.heap.size w W4:=by rw [← hW4];exact bel_
 have hs4:=HB4.size
 clear hW4
 subst hf1
 have kL:=bL.cell
 have zL:=bL.lt
 have zZ:=bZ.lt
 (refine wp_region_held_lit (S:=(fun V=>V.cell? ⟨w.heap.size,0,none⟩=some (.slice pA pn pc)∧V.cell? ⟨w.heap.size,1,none⟩=some (.slice rA rn rc)∧V.cell? ⟨w.heap.size,2,none⟩=some (.slice tA tn tc)∧V.cell? ⟨w.heap.size,3,none⟩=some (.slice sA sn sc))) 7 (by kernel_rfl) rfl ⟨(kL 0).trans rfl,(kL 1).trans rfl,(kL 2).trans rfl,(kL 3).trans rfl⟩ (fun hS=>?_);simp only [List.reduceReplicate,Array.replicate_succ,Array.replicate_zero])
 (refine tk_ (i:=0) (v:=?_) rfl ?_ hS ?_ (fun _ _ _ h=>h);rotate_left;focus (intro w2 hw2;(try dsimp only at hw2);go_split_ands;go_simp;first | done | with_reducible rfl);(try simp only [Act.put,pu1,pu2,pu3]))
 (refine tk_ (i:=1) (v:=?_) rfl ?_ hS ?_ (fun _ _ _ h=>h);rotate_left;focus (intro w2 hw2;(try dsimp only at hw2);go_split_ands;go_simp;first | done | with_reducible rfl);(try simp only [Act.put,pu1,pu2,pu3]))
 (refine tk_ (i:=2) (v:=?_) rfl ?_ hS ?_ (fun _ _ _ h=>h);rotate_left;focus (intro w2 hw2;(try dsimp only at hw2);go_split_ands;go_simp;first | done | with_reducible rfl);(try simp only [Act.put,pu1,pu2,pu3]))
 (refine tk_ (i:=3) (v:=?_) rfl ?_ hS ?_ (fun _ _ _ h=>h);rotate_left;focus (intro w2 hw2;(try dsimp only at hw2);go_split_ands;go_simp;first | done | with_reducible rfl);(try simp only [Act.put,pu1,pu2,pu3]))
 refine rd_ [4] ?_
 refine ah1 rfl fun K hK=>?_
 (go_simp;go_at_call 103;refine (HTE.out _ (by exact bel_)).mono ?_;rintro e w6 ⟨B,Tc,rfl,hb6,hT,hBB⟩;go_simp)
 have h6:Below W4.heap.size W4 w6:=Below.then_ (by exact bel_) hb6
 have bL6:=bL.ext h6
 have bZ6:=bZ.ext h6
 have kL6:=bL6.cell
 refine hK.out _ _ ⟨(kL6 0).trans rfl,(kL6 1).trans rfl,(kL6 2).trans rfl,(kL6 3).trans rfl⟩ (fun hS=>?_)
 clear hK K
 (try simp only [Act.put,pu1,pu2,pu3])
 (refine tk_ (i:=5) (v:=?_) rfl ?_ hS ?_ (fun _ _ _ h=>h);rotate_left;focus (intro w2 hw2;(try dsimp only at hw2);go_split_ands;go_simp;first | done | with_reducible rfl);(try simp only [Act.put,pu1,pu2,pu3]))
 have kZ:=bZ6.cell
 have zZ6:=bZ6.lt
 have fZ:=bZ6.frozen
 have HT:=Lib.hid hT
 have HBL6:=Lib.hid bL6
 have HBZ6:=Lib.hid bZ6
 have hBB2:W4.heap.size≤B:=hBB
 clear kL zL bL bZ bL6 bZ6 kL6 hT
 refine rd_ [6] ?_
 refine ah1 rfl fun K hK=>?_
 go_simp
 have n01:w.heap.size≠w.heap.size+1:=by omega
 have q:=(HBL6.out.other7 n01 (.slice pA pn pc) (.slice rA rn rc) (.slice tA tn tc) (.slice sA sn sc) (.int .i64 kn) (.slice (some ⟨B,0,none⟩) tn Tc) (.slice none 0 0)).cell
 refine hK.out _ _ ⟨(q 0).trans rfl,(q 1).trans rfl,(q 2).trans rfl,(q 3).trans rfl⟩ (fun hS=>?_)
 clear hK K q
 (try simp only [Act.put,pu1,pu2,pu3])
 refine wpAnyH_done (by kernel_rfl) ?_ _
 have bZ7:=HBZ6.out.set7 (.slice pA pn pc) (.slice rA rn rc) (.slice tA tn tc) (.slice sA sn sc) (.int .i64 kn) (.slice (some ⟨B,0,none⟩) tn Tc) (.slice none 0 0)
 have hz4:w.heap.size+1<W4.heap.size:=zZ
 have HT7:=Lib.hid (HT.out.other7 (show B≠w.heap.size+1 by omega) (.slice pA pn pc) (.slice rA rn rc) (.slice tA tn tc) (.slice sA sn sc) (.int .i64 kn) (.slice (some ⟨B,0,none⟩) tn Tc) (.slice none 0 0))
 have HB7:Below w.heap.size w (((((((w6.setCell ⟨w.heap.size+1,0,none⟩ (.slice pA pn pc)).setCell ⟨w.heap.size+1,1,none⟩ (.slice rA rn rc)).setCell ⟨w.heap.size+1,2,none⟩ (.slice tA tn tc)).setCell ⟨w.heap.size+1,3,none⟩ (.slice sA sn sc)).setCell ⟨w.heap.size+1,4,none⟩ (.int .i64 kn)).setCell ⟨w.heap.size+1,5,none⟩ (.slice (some ⟨B,0,none⟩) tn Tc)).setCell ⟨w.heap.size+1,6,none⟩ (.slice none 0 0)):=below_set7 (HB4.trans (h6.mono hs4)) (Nat.le_succ _) _ _ _ _ _ _ _
 have HZ7:=Lib.hid bZ7
 obtain ⟨W7,hW7⟩:∃ W7,(((((((w6.setCell ⟨w.heap.size+1,0,none⟩ (.slice pA pn pc)).setCell ⟨w.heap.size+1,1,none⟩ (.slice rA rn rc)).setCell ⟨w.heap.size+1,2,none⟩ (.slice tA tn tc)).setCell ⟨w.heap.size+1,3,none⟩ (.slice sA sn sc)).setCell ⟨w.heap.size+1,4,none⟩ (.int .i64 kn)).setCell ⟨w.heap.size+1,5,none⟩ (.slice (some ⟨B,0,none⟩) tn Tc)).setCell ⟨w.heap.size+1,6,none⟩ (.slice none 0 0))=W7:=⟨_,rfl⟩
 rw [hW7] at HT7 HZ7 HB7 ⊢
 clear hW7 bZ7 kZ zZ6 fZ hS hb6
 have kZ:=HZ7.out.cell
 have zZ:=HZ7.out.lt
 go_wp2
 refine bodyPost_ret (v:=.agg #[.slice pA pn pc,.slice rA rn rc,.slice tA tn tc,.slice sA sn sc,.int .i64 kn,.slice (some ⟨B,0,none⟩) tn Tc,.slice none 0 0]) ?_ rfl ?_
 ·(simp [results,Tryz.f105,go_sem];try go_simp)
 ·exact ⟨_,_,rfl,HB7,HT7.out,by omega⟩
theorem r_asked_v (l:Led) (x:Lsl) (ds:List Int) (v:Int) (D:Option Addr) (m c0:Nat) (w:World) (hf:x.fit) (hd:LedIn w w.heap.size x l) (hm:m≤9223372036854775807) (hdy:Is w w.heap.size D m ds) (h:preE l ds=v) :
 Calls Tryz.prog 102 #[.agg #[.slice x.pA x.pn x.pc,.slice x.rA x.rn x.rc,.slice x.tA x.tn x.tc,.slice x.sA x.sn x.sc],.slice D m c0] w fun e w'=>e=.returned (.int .i64 v)∧Below w.heap.size w w':=h ▸ r_asked l x ds D m c0 w hf hd hm hdy
theorem r_doubles_v (l:Led) (v:Vw) (T:List Bool) (o:Option (Rcp × Rcp)) (w:World) (hl:LedOk l) (hTt:v.Tn=v.x.tn) (hd:LedIn w w.heap.size v.x l) (hT:Sq QB 1 w w.heap.size v.TA v.Tn T) (h:firstP (refD l T v.kn) l.rc=o) :
 Calls Tryz.prog 106 #[vwV v] w (RetLI (dblS o) w):=h ▸ r_doubles l v T w hl hTt hd hT
set_option maxRecDepth 10000 in
set_option maxHeartbeats 4000000 in
theorem r_agreeingP (l:Led) (x:Lsl) (kn:Int) (v:Int) (w:World) (hf:x.fit) (hd:LedIn w w.heap.size x l) (hv:preE l [kn]=v) (h0:¬ v=0) :
 Calls Tryz.prog 109 #[.agg #[.slice x.pA x.pn x.pc,.slice x.rA x.rn x.rc,.slice x.tA x.tn x.tc,.slice x.sA x.sn x.sc],.int .i64 kn] w (fun e w'=>e=.returned (.tuple #[.agg #[.slice none 0 0,.slice none 0 0,.slice none 0 0,.slice none 0 0,.int .i64 0,.slice none 0 0,.slice none 0 0],.int .i64 v])∧Below w.heap.size w w'):=by
 obtain ⟨pA,pn,pc,rA,rn,rc,tA,tn,tc,sA,sn,sc⟩:=x
 have HD:=Lib.hid hd
 have HF:=Lib.hid hf
 have HV:=Lib.hid hv
 have hvn:(v != 0)=true:=by simpa using h0
 clear hv h0
 clear hd hf
 go_enter Tryz.func109,Tryz.ntmps109
 have BL0:=Lib.hid ((BoxA.new w 27 #[.slice pA pn pc,.slice rA rn rc,.slice tA tn tc,.slice sA sn sc]).alloc (.cells #[.slice none 0 0,.slice none 0 0,.slice none 0 0,.slice none 0 0,.int .i64 0,.slice none 0 0,.slice none 0 0] 127))
 have BZ0:Hid (BoxA ((w.alloc (.cells #[.slice pA pn pc,.slice rA rn rc,.slice tA tn tc,.slice sA sn sc] 27)).alloc (.cells #[.slice none 0 0,.slice none 0 0,.slice none 0 0,.slice none 0 0,.int .i64 0,.slice none 0 0,.slice none 0 0] 127)) (w.heap.size+1) 127 #[.slice none 0 0,.slice none 0 0,.slice none 0 0,.slice none 0 0,.int .i64 0,.slice none 0 0,.slice none 0 0]):=by
  show BoxA _ _ _ _
  have h:=BoxA.new (w.alloc (.cells #[.slice pA pn pc,.slice rA rn rc,.slice tA tn tc,.slice sA sn sc] 27)) 127 #[.slice none 0 0,.slice none 0 0,.slice none 0 0,.slice none 0 0,.int .i64 0,.slice none 0 0,.slice none 0 0]
  simpa using h
 go_wp2_with (go_at_call 102;refine (r_asked_v l ⟨pA,pn,pc,rA,rn,rc,tA,tn,tc,sA,sn,sc⟩ [kn] v _ 1 1 _ HF.out (HD.out.now (by exact bel_)) (by decide) (Rd.new _ #[.int .i64 kn] _ 1 1 _ (by simp) rfl) HV.out).mono ?_;rintro e w1 ⟨rfl,hb1⟩;have HB1:Below w.heap.size w w1:=Below.then_ (by exact bel_) hb1;have hs1:=HB1.size;have bL1:=(BL0.out.alloc _).ext hb1;have kL1:=bL1.cell;have zL1:=bL1.lt;have bZ1:=(BZ0.out.alloc _).ext hb1;have kZ1:=bZ1.cell;have zZ1:=bZ1.lt;have fZ1:=bZ1.frozen;clear hb1)
 refine bodyPost_ret (v:=.tuple #[.agg #[.slice none 0 0,.slice none 0 0,.slice none 0 0,.slice none 0 0,.int .i64 0,.slice none 0 0,.slice none 0 0],.int .i64 v]) ?_ rfl ?_
 ·(simp [results,Tryz.f109,go_sem];try go_simp)
 ·exact ⟨rfl,by exact bel_⟩
set_option maxRecDepth 10000 in
set_option maxHeartbeats 4000000 in
theorem r_agreeingD (l:Led) (x:Lsl) (kn:Int) (q:Rcp × Rcp) (w:World) (hf:x.fit) (hd:LedIn w w.heap.size x l) (hv:preE l [kn]=0) (ho:firstP (refD l (tellK l kn l.rt.length) kn) l.rc=some q) :
 Calls Tryz.prog 109 #[.agg #[.slice x.pA x.pn x.pc,.slice x.rA x.rn x.rc,.slice x.tA x.tn x.tc,.slice x.sA x.sn x.sc],.int .i64 kn] w (fun e w'=>e=.returned (.tuple #[.agg #[.slice none 0 0,.slice none 0 0,.slice none 0 0,.slice none 0 0,.int .i64 0,.slice none 0 0,.slice none 0 0],.int .i64 25])∧Below w.heap.size w w'):=by
 obtain ⟨pA,pn,pc,rA,rn,rc,tA,tn,tc,sA,sn,sc⟩:=x
 have HD:=Lib.hid hd
 have HF:=Lib.hid hf
 have HV:=Lib.hid hv
 have HLO:=Lib.hid (led_ok (pre_zero hv).1)
 have HO:=Lib.hid ho
 clear hv ho
 clear hd hf
 go_enter Tryz.func109,Tryz.ntmps109
 have BL0:=Lib.hid ((BoxA.new w 27 #[.slice pA pn pc,.slice rA rn rc,.slice tA tn tc,.slice sA sn sc]).alloc (.cells #[.slice none 0 0,.slice none 0 0,.slice none 0 0,.slice none 0 0,.int .i64 0,.slice none 0 0,.slice none 0 0] 127))
 have BZ0:Hid (BoxA ((w.alloc (.cells #[.slice pA pn pc,.slice rA rn rc,.slice tA tn tc,.slice sA sn sc] 27)).alloc (.cells #[.slice none 0 0,.slice none 0 0,.slice none 0 0,.slice none 0 0,.int .i64 0,.slice none 0 0,.slice none 0 0] 127)) (w.heap.size+1) 127 #[.slice none 0 0,.slice none 0 0,.slice none 0 0,.slice none 0 0,.int .i64 0,.slice none 0 0,.slice none 0 0]):=by
  show BoxA _ _ _ _
  have h:=BoxA.new (w.alloc (.cells #[.slice pA pn pc,.slice rA rn rc,.slice tA tn tc,.slice sA sn sc] 27)) 127 #[.slice none 0 0,.slice none 0 0,.slice none 0 0,.slice none 0 0,.int .i64 0,.slice none 0 0,.slice none 0 0]
  simpa using h
 go_wp2_with (first | (go_at_call 102;refine (r_asked_v l ⟨pA,pn,pc,rA,rn,rc,tA,tn,tc,sA,sn,sc⟩ [kn] 0 _ 1 1 _ HF.out (HD.out.now (by exact bel_)) (by decide) (Rd.new _ #[.int .i64 kn] _ 1 1 _ (by simp) rfl) HV.out).mono ?_;rintro e w1 ⟨rfl,hb1⟩;have HB1:Below w.heap.size w w1:=Below.then_ (by exact bel_) hb1;have hs1:=HB1.size;have bL1:=(BL0.out.alloc _).ext hb1;have kL1:=bL1.cell;have zL1:=bL1.lt;have bZ1:=(BZ0.out.alloc _).ext hb1;have kZ1:=bZ1.cell;have zZ1:=bZ1.lt;have fZ1:=bZ1.frozen;clear hb1) | (go_at_call 105;refine (r_look l ⟨pA,pn,pc,rA,rn,rc,tA,tn,tc,sA,sn,sc⟩ kn _ HLO.out (HD.out.now (by exact bel_))).mono ?_;rintro e w2 ⟨B,Tc,rfl,hb2,hT,hBB⟩;have HB2:Below w.heap.size w w2:=Below.then_ (by exact bel_) hb2;have hs2:=HB2.size;have bZ2:=bZ1.ext hb2;have kZ2:=bZ2.cell;have zZ2:=bZ2.lt;have fZ2:=bZ2.frozen;have hBB1:w1.heap.size≤B:=hBB;have hz1:w.heap.size+1<w1.heap.size:=zZ1;have zT:=hT.lt;have HT:=Lib.hid hT;clear hT hb2 kL1 zL1 kZ1 zZ1 fZ1) | (go_at_call 106;refine (r_doubles_v l ⟨⟨pA,pn,pc,rA,rn,rc,tA,tn,tc,sA,sn,sc⟩,kn,some ⟨B,0,none⟩,tn,Tc,none,0,0⟩ (tellK l kn l.rt.length) (some q) _ HLO.out rfl (HD.out.now (by exact bel_)) ((HT.out.alloc _).sqT (by rw [tellK_len];exact HD.out.t.len) (by simp;omega)) HO.out).mono ?_;rintro e w3 ⟨A3,n3,c3,rfl,hb3,hr3,hc3⟩;obtain rfl:n3=2:=hr3.len.symm;have HB3:Below w.heap.size w w3:=Below.then_ (by exact bel_) hb3;have hs3:=HB3.size;have bV3:=(BoxA.new w2 127 #[.slice pA pn pc,.slice rA rn rc,.slice tA tn tc,.slice sA sn sc,.int .i64 kn,.slice (some ⟨B,0,none⟩) tn Tc,.slice none 0 0]).ext hb3;have kV3:=bV3.cell;have zV3:=bV3.lt;have bZ3:=(bZ2.alloc _).ext hb3;have kZ3:=bZ3.cell;have zZ3:=bZ3.lt;have fZ3:=bZ3.frozen;have HT3:=Lib.hid ((HT.out.alloc (.cells #[.slice pA pn pc,.slice rA rn rc,.slice tA tn tc,.slice sA sn sc,.int .i64 kn,.slice (some ⟨B,0,none⟩) tn Tc,.slice none 0 0] 127)).ext hb3);have HBZ3:=Lib.hid bZ3;clear bZ3 bV3 hb3 hr3 hc3 kZ2 zZ2 fZ2))
 refine bodyPost_ret (v:=.tuple #[.agg #[.slice none 0 0,.slice none 0 0,.slice none 0 0,.slice none 0 0,.int .i64 0,.slice none 0 0,.slice none 0 0],.int .i64 25]) ?_ rfl ?_
 ·(simp [results,Tryz.f109,go_sem];try go_simp)
 ·exact ⟨rfl,by exact bel_⟩
set_option maxRecDepth 10000 in
set_option maxHeartbeats 4000000 in
theorem r_agreeing0 (l:Led) (x:Lsl) (kn:Int) (w:World) (hf:x.fit) (hd:LedIn w w.heap.size x l) (hv:preE l [kn]=0) (ho:firstP (refD l (tellK l kn l.rt.length) kn) l.rc=none) :
 Calls Tryz.prog 109 #[.agg #[.slice x.pA x.pn x.pc,.slice x.rA x.rn x.rc,.slice x.tA x.tn x.tc,.slice x.sA x.sn x.sc],.int .i64 kn] w (fun e w'=>∃ B c,e=.returned (.tuple #[.agg #[.slice x.pA x.pn x.pc,.slice x.rA x.rn x.rc,.slice x.tA x.tn x.tc,.slice x.sA x.sn x.sc,.int .i64 kn,.slice (some ⟨B,0,none⟩) x.tn c,.slice none 0 0],.int .i64 0])∧Below w.heap.size w w'∧BoxA w' B 4 (boolL (tellK l kn l.rt.length)).toArray∧w.heap.size≤B):=by
 obtain ⟨pA,pn,pc,rA,rn,rc,tA,tn,tc,sA,sn,sc⟩:=x
 have HD:=Lib.hid hd
 have HF:=Lib.hid hf
 have HV:=Lib.hid hv
 have HLO:=Lib.hid (led_ok (pre_zero hv).1)
 have HO:=Lib.hid ho
 clear hv ho
 clear hd hf
 go_enter Tryz.func109,Tryz.ntmps109
 have BL0:=Lib.hid ((BoxA.new w 27 #[.slice pA pn pc,.slice rA rn rc,.slice tA tn tc,.slice sA sn sc]).alloc (.cells #[.slice none 0 0,.slice none 0 0,.slice none 0 0,.slice none 0 0,.int .i64 0,.slice none 0 0,.slice none 0 0] 127))
 have BZ0:Hid (BoxA ((w.alloc (.cells #[.slice pA pn pc,.slice rA rn rc,.slice tA tn tc,.slice sA sn sc] 27)).alloc (.cells #[.slice none 0 0,.slice none 0 0,.slice none 0 0,.slice none 0 0,.int .i64 0,.slice none 0 0,.slice none 0 0] 127)) (w.heap.size+1) 127 #[.slice none 0 0,.slice none 0 0,.slice none 0 0,.slice none 0 0,.int .i64 0,.slice none 0 0,.slice none 0 0]):=by
  show BoxA _ _ _ _
  have h:=BoxA.new (w.alloc (.cells #[.slice pA pn pc,.slice rA rn rc,.slice tA tn tc,.slice sA sn sc] 27)) 127 #[.slice none 0 0,.slice none 0 0,.slice none 0 0,.slice none 0 0,.int .i64 0,.slice none 0 0,.slice none 0 0]
  simpa using h
 go_wp2_with (first | (go_at_call 102;refine (r_asked_v l ⟨pA,pn,pc,rA,rn,rc,tA,tn,tc,sA,sn,sc⟩ [kn] 0 _ 1 1 _ HF.out (HD.out.now (by exact bel_)) (by decide) (Rd.new _ #[.int .i64 kn] _ 1 1 _ (by simp) rfl) HV.out).mono ?_;rintro e w1 ⟨rfl,hb1⟩;have HB1:Below w.heap.size w w1:=Below.then_ (by exact bel_) hb1;have hs1:=HB1.size;have bL1:=(BL0.out.alloc _).ext hb1;have kL1:=bL1.cell;have zL1:=bL1.lt;have bZ1:=(BZ0.out.alloc _).ext hb1;have kZ1:=bZ1.cell;have zZ1:=bZ1.lt;have fZ1:=bZ1.frozen;clear hb1) | (go_at_call 105;refine (r_look l ⟨pA,pn,pc,rA,rn,rc,tA,tn,tc,sA,sn,sc⟩ kn _ HLO.out (HD.out.now (by exact bel_))).mono ?_;rintro e w2 ⟨B,Tc,rfl,hb2,hT,hBB⟩;have HB2:Below w.heap.size w w2:=Below.then_ (by exact bel_) hb2;have hs2:=HB2.size;have bZ2:=bZ1.ext hb2;have kZ2:=bZ2.cell;have zZ2:=bZ2.lt;have fZ2:=bZ2.frozen;have hBB1:w1.heap.size≤B:=hBB;have hz1:w.heap.size+1<w1.heap.size:=zZ1;have zT:=hT.lt;have HT:=Lib.hid hT;clear hT hb2 kL1 zL1 kZ1 zZ1 fZ1) | (go_at_call 106;refine (r_doubles_v l ⟨⟨pA,pn,pc,rA,rn,rc,tA,tn,tc,sA,sn,sc⟩,kn,some ⟨B,0,none⟩,tn,Tc,none,0,0⟩ (tellK l kn l.rt.length) none _ HLO.out rfl (HD.out.now (by exact bel_)) ((HT.out.alloc _).sqT (by rw [tellK_len];exact HD.out.t.len) (by simp;omega)) HO.out).mono ?_;rintro e w3 ⟨A3,n3,c3,rfl,hb3,hr3,hc3⟩;obtain rfl:n3=0:=hr3.len.symm;have HB3:Below w.heap.size w w3:=Below.then_ (by exact bel_) hb3;have hs3:=HB3.size;have bV3:=(BoxA.new w2 127 #[.slice pA pn pc,.slice rA rn rc,.slice tA tn tc,.slice sA sn sc,.int .i64 kn,.slice (some ⟨B,0,none⟩) tn Tc,.slice none 0 0]).ext hb3;have kV3:=bV3.cell;have zV3:=bV3.lt;have bZ3:=(bZ2.alloc _).ext hb3;have kZ3:=bZ3.cell;have zZ3:=bZ3.lt;have fZ3:=bZ3.frozen;have HT3:=Lib.hid ((HT.out.alloc (.cells #[.slice pA pn pc,.slice rA rn rc,.slice tA tn tc,.slice sA sn sc,.int .i64 kn,.slice (some ⟨B,0,none⟩) tn Tc,.slice none 0 0] 127)).ext hb3);have HBZ3:=Lib.hid bZ3;clear bZ3 bV3 hb3 hr3 hc3 kZ2 zZ2 fZ2))
 have HZ7:=Lib.hid (HBZ3.out.set7 (.slice pA pn pc) (.slice rA rn rc) (.slice tA tn tc) (.slice sA sn sc) (.int .i64 kn) (.slice (some ⟨B,0,none⟩) tn Tc) (.slice none 0 0))
 have HT7:=Lib.hid (HT3.out.other7 (show B≠w.heap.size+1 by omega) (.slice pA pn pc) (.slice rA rn rc) (.slice tA tn tc) (.slice sA sn sc) (.int .i64 kn) (.slice (some ⟨B,0,none⟩) tn Tc) (.slice none 0 0))
 have HB7:Below w.heap.size w (((((((w3.setCell ⟨w.heap.size+1,0,none⟩ (.slice pA pn pc)).setCell ⟨w.heap.size+1,1,none⟩ (.slice rA rn rc)).setCell ⟨w.heap.size+1,2,none⟩ (.slice tA tn tc)).setCell ⟨w.heap.size+1,3,none⟩ (.slice sA sn sc)).setCell ⟨w.heap.size+1,4,none⟩ (.int .i64 kn)).setCell ⟨w.heap.size+1,5,none⟩ (.slice (some ⟨B,0,none⟩) tn Tc)).setCell ⟨w.heap.size+1,6,none⟩ (.slice none 0 0)):=below_set7 HB3 (Nat.le_succ _) _ _ _ _ _ _ _
 obtain ⟨W7,hW7⟩:∃ W7,(((((((w3.setCell ⟨w.heap.size+1,0,none⟩ (.slice pA pn pc)).setCell ⟨w.heap.size+1,1,none⟩ (.slice rA rn rc)).setCell ⟨w.heap.size+1,2,none⟩ (.slice tA tn tc)).setCell ⟨w.heap.size+1,3,none⟩ (.slice sA sn sc)).setCell ⟨w.heap.size+1,4,none⟩ (.int .i64 kn)).setCell ⟨w.heap.size+1,5,none⟩ (.slice (some ⟨B,0,none⟩) tn Tc)).setCell ⟨w.heap.size+1,6,none⟩ (.slice none 0 0))=W7:=⟨_,rfl⟩
 rw [hW7] at HT7 HZ7 HB7 ⊢
 clear hW7 kZ3 zZ3 fZ3
 have kZ:=HZ7.out.cell
 have zZ:=HZ7.out.lt
 refine bodyPost_ret (v:=.tuple #[.agg #[.slice pA pn pc,.slice rA rn rc,.slice tA tn tc,.slice sA sn sc,.int .i64 kn,.slice (some ⟨B,0,none⟩) tn Tc,.slice none 0 0],.int .i64 0]) ?_ rfl ?_
 ·(simp [results,Tryz.f109,go_sem];try go_simp)
 ·exact ⟨_,_,rfl,HB7,HT7.out,by omega⟩
end Go.Proofs.YtoiompoapikkbaaGreat
/- Layer 2: what the reference's view says, by the program's account, plain. -/
namespace Go.Proofs.YtoiompoapikkbaaGreat
open Go.RowKit Go.Maps
theorem rise_pair {α:Type} {num:α→Int} {ok:α→Bool} {most:Nat} {l:List α} (h:valB num ok most l=true):(l.map num).Pairwise (·<·):=by
 rw [valB,Bool.and_eq_true] at h
 have hr:∀ (j:Nat) (h1:j+1<(l.map num).length),(l.map num)[j]<(l.map num)[j+1]:=fun j h1=>by
  rw [List.length_map] at h1
  have h2:=List.all_eq_true.1 h.2 (j+1) (List.mem_range.2 h1)
  have e1:l[j+1]?=some l[j+1]:=List.getElem?_eq_getElem h1
  have e2:l[j]?=some (l[j]'(by omega)):=List.getElem?_eq_getElem (by omega)
  simp only [valAt,e1,e2,Bool.and_eq_true,decide_eq_true_eq] at h2
  simp only [List.getElem_map]
  exact h2.2
 rw [List.pairwise_iff_getElem]
 intro i j hi hj hij
 have h1:=rise_le hr (j - i - 1) (i+1) (by omega)
 have h2:=hr i (by omega)
 have e:i+1+(j - i - 1)=j:=by omega
 simp only [e] at h1
 omega
theorem cnt_rise {l:Led} (h:ledB l=true) (kn:Int):((cntS l kn).map Sgt.src).Pairwise (·<·):=by
 simp only [ledB,Bool.and_eq_true] at h
 exact (rise_pair h.2.2.2.1).sublist ((List.filter_sublist ..).map _)
theorem led_bor {l:Led} (h:ledB l=true):(∀ r∈l.rc,0≤r.day)∧∀ r∈l.rc,r.bor≠0:=by
 refine ⟨fun r hr=>((led_ok h).rc r hr).2.2.2.1,fun r hr=>?_⟩
 simp only [ledB,Bool.and_eq_true] at h
 have h5:=val_all h.2.1 r hr
 simp only [Rcp.okB,withinB,Bool.and_eq_true,decide_eq_true_eq] at h5
 omega
def byL (l:Led) (kn:Int):List (Int × Int):=(List.range l.rt.length).map (byR l (tellK l kn l.rt.length) kn)
theorem byL_len (l:Led) (kn:Int):(byL l kn).length=l.rt.length:=by simp [byL]
theorem nar_led {l:Led} (h:ledB l=true) (kn:Int) (S:List Sgt):narL (opnL l kn).M (cntR l kn) S (opnL l kn).P=if (refL l (tellK l kn l.rt.length) kn S (byL l kn)).2=true then some (refL l (tellK l kn l.rt.length) kn S (byL l kn)).1 else none:=by
 rw [nar_all l kn (led_bor h).1 (led_bor h).2,opn_tell,opn_days]
 rfl
theorem con_ref {l:Led} (h:ledB l=true) (kn:Int) (S:List Sgt):conB l kn S=!(refL l (tellK l kn l.rt.length) kn S (byL l kn)).2:=by
 rw [conB,nar_led h]
 split
 ·rename_i e;rw [e];rfl
 ·rename_i e;simp at e;rw [e];rfl
theorem set_ref {l:Led} (h:ledB l=true) (kn:Int):setE l kn=if (firstP (refD l (tellK l kn l.rt.length) kn) l.rc).isSome=true then 25 else if (refL l (tellK l kn l.rt.length) kn (cntS l kn) (byL l kn)).2=true then 0 else 27:=by
 rw [setE,dbl_first h,nar_led h]
 cases firstP (refD l (tellK l kn l.rt.length) kn) l.rc with
 | some p=>rfl
 | none =>
   cases hb:(refL l (tellK l kn l.rt.length) kn (cntS l kn) (byL l kn)).2 <;> simp
def cdE (l:Led) (kn:Int) (bs:List Int):Int:=if preE l [kn]=0 then (match bs with
 | [a,b]=>if a<b then (match findR (cntR l kn) a,findR (cntR l kn) b with
   | some x,some y=>if dblB (opnL l kn).M (opnL l kn).P x y=true then 0 else 28
   | _,_=>28) else 28
 | _=>28) else preE l [kn]
def ccL (l:Led) (kn:Int) (fs:List Sgt):Int:=if conB l kn fs=true then (if (List.range fs.length).any (fun i=>conB l kn (fs.eraseIdx i))=true then 28 else 0) else 28
def ccE (l:Led) (kn:Int) (bs:List Int):Int:=if preE l [kn]=0 then (match dblR (opnL l kn).M (opnL l kn).P (cntR l kn) with
 | some _=>25
 | none=>if (findS bs (cntS l kn)).length=bs.length then ccL l kn (findS bs (cntS l kn)) else 28) else preE l [kn]
end Go.Proofs.YtoiompoapikkbaaGreat
/- Layer 2, the reference: CheckDouble. -/
namespace Go.Proofs.YtoiompoapikkbaaGreat
open Go.RowKit Go.Maps
theorem cd_no {l:Led} {kn:Int} {bs:List Int} (hv:preE l [kn]=0) (h:∀ a b,bs=[a,b]→a<b→False):cdE l kn bs=28:=by
 unfold cdE
 rw [if_pos hv]
 split
 ·rename_i a b
  rw [if_neg (fun hlt=>h a b rfl hlt)]
 ·rfl
theorem cd_two {l:Led} {kn a b:Int} (hl:ledB l=true) (hv:preE l [kn]=0) (h:a<b):cdE l kn [a,b]=(match rcIx l.rc a kn,rcIx l.rc b kn with
 | some i,some j=>(match l.rc[i]?,l.rc[j]? with
   | some x,some y=>if refD l (tellK l kn l.rt.length) kn x y=true then 0 else 28
   | _,_=>28)
 | _,_=>28):=by
 unfold cdE
 rw [if_pos hv]
 dsimp only
 rw [if_pos h,findR_cnt,findR_cnt]
 cases ha:rcIx l.rc a kn with
 | none=>simp
 | some i =>
   obtain ⟨x,hx,hxs,hxc⟩:=rcIx_some ha
   cases hb:rcIx l.rc b kn with
   | none=>simp [hx]
   | some j =>
     obtain ⟨y,hy,hys,hyc⟩:=rcIx_some hb
     have hmx:x∈cntR l kn:=List.mem_filter.2 ⟨List.mem_of_getElem? hx,by simpa using hxc⟩
     have hmy:y∈cntR l kn:=List.mem_filter.2 ⟨List.mem_of_getElem? hy,by simpa using hyc⟩
     simp only [Option.bind_some,hx,hy]
     rw [dbl_ref l kn x y hxc hyc (cnt_self hl hmx) (cnt_self hl hmy),opn_tell]
set_option maxRecDepth 10000 in
set_option maxHeartbeats 8000000 in
theorem r_CheckDouble (l:Led) (x:Lsl) (kn:Int) (bs:List Int) (D:Option Addr) (m c:Nat) (w:World) (hf:x.fit) (hd:LedIn w w.heap.size x l) (hm:m≤9223372036854775807) (hby:Is w w.heap.size D m bs) :
 Calls Tryz.prog 31 #[.agg #[.slice x.pA x.pn x.pc,.slice x.rA x.rn x.rc,.slice x.tA x.tn x.tc,.slice x.sA x.sn x.sc],.int .i64 kn,.slice D m c] w fun e w'=>e=.returned (.int .i64 (cdE l kn bs))∧Below w.heap.size w w':=by
 obtain ⟨pA,pn,pc,rA,rn,rc,tA,tn,tc,sA,sn,sc⟩:=x
 have HD:=Lib.hid hd
 have HF:=Lib.hid hf
 have HBY:=Lib.hid hby
 clear hd hf hby
 obtain ⟨v,hv⟩:∃ v,preE l [kn]=v:=⟨_,rfl⟩
 have HV:=Lib.hid hv
 by_cases hv0:v=0
 rotate_left
 ·have hres:cdE l kn bs=v:=by unfold cdE;rw [if_neg (by rw [hv];exact hv0),hv]
  rw [hres]
  have hv1:(v != 0)=true:=by simpa using hv0
  clear hres hv hv0
  go_enter Tryz.func31,Tryz.ntmps31
  go_wp2_with (go_at_call 102;refine (r_asked_v l ⟨pA,pn,pc,rA,rn,rc,tA,tn,tc,sA,sn,sc⟩ [kn] v _ 1 1 _ HF.out (HD.out.now (by exact bel_)) (by decide) (Rd.new _ #[.int .i64 kn] _ 1 1 _ (by simp) rfl) HV.out).mono ?_;rintro e w1 ⟨rfl,hb1⟩;have HB1:Below w.heap.size w w1:=Below.then_ (by exact bel_) hb1;have hs1:=HB1.size;have bL1:=((BoxA.new w 27 #[.slice pA pn pc,.slice rA rn rc,.slice tA tn tc,.slice sA sn sc]).alloc _).ext hb1;have kL1:=bL1.cell;have zL1:=bL1.lt;have HBL1:=Lib.hid bL1;clear hb1 bL1)
  go_ret
  exact ⟨rfl,by exact bel_⟩
 subst hv0
 have hlb:=(pre_zero hv).1
 have HLB:=Lib.hid hlb
 have HLO:=Lib.hid (led_ok hlb)
 have hrn6:rn≤1000000:=by have h:=HD.out.r.len;have h2:=HLO.out.rn;dsimp only at h;omega
 have HBL:Hid (bs.length=m):=by show _=_;exact HBY.out.len
 by_cases hm2:m=2
 rotate_left
 ·have hres:cdE l kn bs=28:=cd_no hv (fun a b h _=>by have h2:=HBL.out;rw [h] at h2;exact hm2 h2.symm)
  rw [hres]
  have hmd:((m:Int) != 2)=true:=by simp;omega
  clear hres hv hlb hm2
  go_enter Tryz.func31,Tryz.ntmps31
  go_wp2_with (go_at_call 102;refine (r_asked_v l ⟨pA,pn,pc,rA,rn,rc,tA,tn,tc,sA,sn,sc⟩ [kn] 0 _ 1 1 _ HF.out (HD.out.now (by exact bel_)) (by decide) (Rd.new _ #[.int .i64 kn] _ 1 1 _ (by simp) rfl) HV.out).mono ?_;rintro e w1 ⟨rfl,hb1⟩;have HB1:Below w.heap.size w w1:=Below.then_ (by exact bel_) hb1;have hs1:=HB1.size;have bL1:=((BoxA.new w 27 #[.slice pA pn pc,.slice rA rn rc,.slice tA tn tc,.slice sA sn sc]).alloc _).ext hb1;have kL1:=bL1.cell;have zL1:=bL1.lt;have HBL1:=Lib.hid bL1;clear hb1 bL1)
  (refine rg_ ?_;(repeat (go_big_quiet_step (fail)));refine qn_ fun w1 hb1 hc1 hf1=>?_)
  go_wp2_with fail
  go_ret
  exact ⟨rfl,Below.then_ HB1 hb1⟩
 subst hm2
 obtain ⟨a,b,rfl⟩:∃ a b,bs=[a,b]:=by
  have h:=HBL.out
  match bs,h with
  | [a,b],_=>exact ⟨a,b,rfl⟩
 obtain ⟨bd,od,a',rfl,hbd,ha',hca⟩:=HBY.out.at_ (k:=0) (by omega)
 obtain ⟨bd2,od2,b',eb,-,hb',hcb⟩:=HBY.out.at_ (k:=1) (by omega)
 obtain ⟨rfl,rfl⟩:bd=bd2∧od=od2:=by simpa using eb
 obtain rfl:a=a':=by simpa using ha'
 obtain rfl:b=b':=by simpa using hb'
 simp only [Nat.add_zero] at hca
 clear eb ha' hb'
 cases hlt:decide (a≥b) with
 | true =>
   have hres:cdE l kn [a,b]=28:=cd_no hv (fun a' b' h h2=>by
    simp only [List.cons.injEq,and_true] at h
    obtain ⟨rfl,rfl⟩:=h
    have:=of_decide_eq_true hlt
    omega)
   rw [hres]
   clear hres hv hlb
   go_enter Tryz.func31,Tryz.ntmps31
   go_wp2_with ((go_at_call 102;refine (r_asked_v l ⟨pA,pn,pc,rA,rn,rc,tA,tn,tc,sA,sn,sc⟩ [kn] 0 _ 1 1 _ HF.out (HD.out.now (by exact bel_)) (by decide) (Rd.new _ #[.int .i64 kn] _ 1 1 _ (by simp) rfl) HV.out).mono ?_;rintro e w1 ⟨rfl,hb1⟩;have HB1:Below w.heap.size w w1:=Below.then_ (by exact bel_) hb1;have hs1:=HB1.size;have bL1:=((BoxA.new w 27 #[.slice pA pn pc,.slice rA rn rc,.slice tA tn tc,.slice sA sn sc]).alloc _).ext hb1;have kL1:=bL1.cell;have zL1:=bL1.lt;have HBL1:=Lib.hid bL1;clear hb1 bL1);have c0:=(HB1.cell (p:=⟨bd,od,none⟩) hbd).trans hca;have c1:=(HB1.cell (p:=⟨bd,od+1,none⟩) hbd).trans hcb;have hbd1:bd<w1.heap.size:=(by omega))
   (refine rg_ ?_;(repeat (go_big_quiet_step (fail)));refine qn_ fun w1 hb1 hc1 hf1=>?_)
   go_wp2_with fail
   go_ret
   exact ⟨rfl,Below.then_ HB1 hb1⟩
 | false =>
   have hlt2:a<b:=by have:=of_decide_eq_false hlt;omega
   have hcd:=cd_two hlb hv hlt2
   obtain ⟨z,hz⟩:∃ z,cdE l kn [a,b]=z:=⟨_,rfl⟩
   rw [hz]
   rw [hz] at hcd
   obtain ⟨qa,hqa⟩:∃ qa,rcIx l.rc a kn=qa:=⟨_,rfl⟩
   obtain ⟨qb,hqb⟩:∃ qb,rcIx l.rc b kn=qb:=⟨_,rfl⟩
   have HQA:Hid (ixI (rcIx l.rc a kn)=ixI qa):=by show _=_;rw [hqa]
   have HQB:Hid (ixI (rcIx l.rc b kn)=ixI qb):=by show _=_;rw [hqb]
   rw [hqa,hqb] at hcd
   have HCD:=Lib.hid hcd
   have HXA:=Lib.hid hqa
   have HXB:=Lib.hid hqb
   obtain ⟨va,hva⟩:∃ va,ixI qa=va:=⟨_,rfl⟩
   obtain ⟨vb,hvb⟩:∃ vb,ixI qb=vb:=⟨_,rfl⟩
   rw [hva] at HQA
   rw [hvb] at HQB
   clear hcd hqa hqb hz hv hlb hlt2
   go_enter Tryz.func31,Tryz.ntmps31
   go_wp2_with ((go_at_call 102;refine (r_asked_v l ⟨pA,pn,pc,rA,rn,rc,tA,tn,tc,sA,sn,sc⟩ [kn] 0 _ 1 1 _ HF.out (HD.out.now (by exact bel_)) (by decide) (Rd.new _ #[.int .i64 kn] _ 1 1 _ (by simp) rfl) HV.out).mono ?_;rintro e w1 ⟨rfl,hb1⟩;have HB1:Below w.heap.size w w1:=Below.then_ (by exact bel_) hb1;have hs1:=HB1.size;have bL1:=((BoxA.new w 27 #[.slice pA pn pc,.slice rA rn rc,.slice tA tn tc,.slice sA sn sc]).alloc _).ext hb1;have kL1:=bL1.cell;have zL1:=bL1.lt;have HBL1:=Lib.hid bL1;clear hb1 bL1);have c0:=(HB1.cell (p:=⟨bd,od,none⟩) hbd).trans hca;have c1:=(HB1.cell (p:=⟨bd,od+1,none⟩) hbd).trans hcb;have hbd1:bd<w1.heap.size:=(by omega))
   have HBW:=HB1
   have HW1:Hid (w1=w1):=by show _=_;rfl
   obtain ⟨wo,rfl⟩:∃ wo,wo=w1:=⟨_,rfl⟩
   (refine rg_ ?_;(repeat (go_big_quiet_step (fail)));refine qn_ fun w1 hb1 hc1 hf1=>?_)
   obtain ⟨wp,rfl⟩:∃ wp,wp=w1:=⟨_,rfl⟩
   have HBP:Below w.heap.size w wp:=Below.then_ HBW hb1
   have hsp:=HBP.size
   have p0:=(HBP.cell (p:=⟨bd,od,none⟩) hbd).trans hca
   have bLp:=HBL1.out.ext hb1
   have kLp:=bLp.cell
   have zLp:=bLp.lt
   have hbdp:bd<wp.heap.size:=by omega
   clear c0 c1 kL1 zL1 hb1 hc1 hf1
   go_wp2_with fail
   (refine rg_ ?_;(repeat (go_big_quiet_step ((first | (go_at_call_of 116 (Value.agg #[.slice pA pn pc,.slice rA rn rc,.slice tA tn tc,.slice sA sn sc]);exact Calls.grow_all (fun g=>r_receiptOf_v l ⟨pA,pn,pc,rA,rn,rc,tA,tn,tc,sA,sn,sc⟩ a kn va g.1 hrn6 (HD.out.now (Below.then_ HBP g.2)) HQA.out))))));refine qn_ fun w1 hb1 hc1 hf1=>?_)
   obtain ⟨wq,rfl⟩:∃ wq,wq=w1:=⟨_,rfl⟩
   have HBQ:Below w.heap.size w wq:=Below.then_ HBP hb1
   have hsq:=HBQ.size
   have q1:=(HBQ.cell (p:=⟨bd,od+1,none⟩) hbd).trans hcb
   have bLq:=bLp.ext hb1
   have kLq:=bLq.cell
   have zLq:=bLq.lt
   have hbdq:bd<wq.heap.size:=by omega
   clear p0 kLp zLp hb1 hc1 hf1
   go_wp2_with fail
   (refine rg_ ?_;(repeat (go_big_quiet_step ((first | (go_at_call_of 116 (Value.agg #[.slice pA pn pc,.slice rA rn rc,.slice tA tn tc,.slice sA sn sc]);exact Calls.grow_all (fun g=>r_receiptOf_v l ⟨pA,pn,pc,rA,rn,rc,tA,tn,tc,sA,sn,sc⟩ b kn vb g.1 hrn6 (HD.out.now (Below.then_ HBQ g.2)) HQB.out))))));refine qn_ fun w1 hb1 hc1 hf1=>?_)
   obtain ⟨wr,rfl⟩:∃ wr,wr=w1:=⟨_,rfl⟩
   have HBR:Below w.heap.size w wr:=Below.then_ HBQ hb1
   have hsr:=HBR.size
   have bLr:=bLq.ext hb1
   have kLr:=bLr.cell
   have zLr:=bLr.lt
   clear q1 kLq zLq hb1 hc1 hf1
   cases qa with
   | none =>
     have hzz:=HCD.out
     subst hzz
     have hva:va=-1:=hva.symm
     subst hva
     have hneg:decide ((-1:Int)<0)=true:=by decide
     go_wp2_with fail
     go_ret
     exact ⟨rfl,HBR⟩
   | some i =>
     have hva:va=(i:Int):=hva.symm
     subst hva
     have hpi:decide ((i:Int)<0)=false:=by simp
     obtain ⟨x,hx,-,-⟩:=rcIx_some HXA.out
     cases qb with
     | none =>
       have hzz:=HCD.out
       subst hzz
       have hvb:vb=-1:=hvb.symm
       subst hvb
       have hneg:decide ((-1:Int)<0)=true:=by decide
       clear hx
       go_wp2_with fail
       go_ret
       exact ⟨rfl,HBR⟩
     | some j =>
       have hvb:vb=(j:Int):=hvb.symm
       subst hvb
       have hpj:decide ((j:Int)<0)=false:=by simp
       obtain ⟨y,hy,-,-⟩:=rcIx_some HXB.out
       have hz:=HCD.out
       dsimp only at hz
       rw [hx,hy] at hz
       dsimp only at hz
       have HXI:=Lib.hid hx
       have HYJ:=Lib.hid hy
       cases hq:refD l (tellK l kn l.rt.length) kn x y with
       | true =>
         rw [hq] at hz
         have hzz:z=0:=hz
         subst hzz
         have HQ:=Lib.hid hq
         clear hq hx hy hz
         go_wp2_with (first | (go_at_call 105;refine (r_look l ⟨pA,pn,pc,rA,rn,rc,tA,tn,tc,sA,sn,sc⟩ kn _ HLO.out (HD.out.now (by exact bel_))).mono ?_;rintro e w2 ⟨B,Tc,rfl,hb2,hT,hBB⟩;have HB2:Below w.heap.size w w2:=Below.then_ (by exact bel_) hb2;have hs2:=HB2.size;have zT:=hT.lt;have HT:=Lib.hid hT;clear hT hb2 hBB) | (go_at_call 117;refine (r_double l ⟨⟨pA,pn,pc,rA,rn,rc,tA,tn,tc,sA,sn,sc⟩,kn,some ⟨B,0,none⟩,tn,Tc,none,0,0⟩ (tellK l kn l.rt.length) i j x y true _ HLO.out rfl (HD.out.now (by exact bel_)) (HT.out.sqT (by rw [tellK_len];exact HD.out.t.len) zT) HXI.out HYJ.out HQ.out).mono ?_;rintro e w3 ⟨rfl,hb3⟩;have HB3:Below w.heap.size w w3:=Below.then_ (by exact bel_) hb3;have hs3:=HB3.size))
         go_ret
         exact ⟨rfl,by exact bel_⟩
       | false =>
         rw [hq] at hz
         have hzz:z=28:=hz
         subst hzz
         have HQ:=Lib.hid hq
         clear hq hx hy hz
         go_wp2_with (first | (go_at_call 105;refine (r_look l ⟨pA,pn,pc,rA,rn,rc,tA,tn,tc,sA,sn,sc⟩ kn _ HLO.out (HD.out.now (by exact bel_))).mono ?_;rintro e w2 ⟨B,Tc,rfl,hb2,hT,hBB⟩;have HB2:Below w.heap.size w w2:=Below.then_ (by exact bel_) hb2;have hs2:=HB2.size;have zT:=hT.lt;have HT:=Lib.hid hT;clear hT hb2 hBB) | (go_at_call 117;refine (r_double l ⟨⟨pA,pn,pc,rA,rn,rc,tA,tn,tc,sA,sn,sc⟩,kn,some ⟨B,0,none⟩,tn,Tc,none,0,0⟩ (tellK l kn l.rt.length) i j x y false _ HLO.out rfl (HD.out.now (by exact bel_)) (HT.out.sqT (by rw [tellK_len];exact HD.out.t.len) zT) HXI.out HYJ.out HQ.out).mono ?_;rintro e w3 ⟨rfl,hb3⟩;have HB3:Below w.heap.size w w3:=Below.then_ (by exact bel_) hb3;have hs3:=HB3.size))
         go_ret
         exact ⟨rfl,by exact bel_⟩
end Go.Proofs.YtoiompoapikkbaaGreat
/- view.differing. -/
namespace Go.Proofs.YtoiompoapikkbaaGreat
open Go.RowKit
attribute [local go_sem] Oper.semAt_some
theorem own_ext {W W':World} {base size n:Nat} {e:TypeId} {v:Value} {xs:List Value} (h:W.ownsRow base e size v n xs) (hb:Below W.heap.size W W'):W'.ownsRow base e size v n xs :=
 own_keep h fun b hb'=>hb.block b (by obtain ⟨cur,hh⟩:=own_block h hb';exact block_lt hh)
end Go.Proofs.YtoiompoapikkbaaGreat
/- Layer 2: One that comes in by value. -/
namespace Go.Proofs.YtoiompoapikkbaaGreat
open Go.ChangeShapes Go.WideShapes Go.ChangeAt Go.RowKit Go.Deep Go.Joins Go.Maps
section
variable {H:Type} {enc:TypeId × Value→H} {w:World} {base:Nat} {spare:Nat→Bool} {held:Bool} {r:Reach} {b0:Nat} {v:Value} {d:DataW H} {p:List MemPlace}
end
end Go.Proofs.YtoiompoapikkbaaGreat
