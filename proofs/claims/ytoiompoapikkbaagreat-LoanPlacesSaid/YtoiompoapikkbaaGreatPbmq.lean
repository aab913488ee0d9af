/- Layer 2 of the texts that LoanPlaces takes: Pbmq. -/
import Derived.Test.YtoiompoapikkbaaGreatPblq
import Derived.Test.YtoiompoapikkbaaGreatPbkq
import Derived.Test.YtoiompoapikkbaaGreatPbjq
set_option linter.unusedVariables false
set_option linter.unusedSimpArgs false
set_option maxHeartbeats 16000000
namespace Go.Proofs.YtoiompoapikkbaaGreat
open Go.RowKit Go.Maps
theorem S1.grownR {b1 b2:Nat} {row:Option Nat} {c1 c2:Array Value} {V V':World} (hg:V.grownBy V' row) (h:S1 b1 b2 c1 c2 V) (n1:some b1≠row) (n2:some b2≠row):S1 b1 b2 c1 c2 V':=by
 obtain ⟨h1,h2,z1,z2⟩:=h
 have e1:=hg.block b1 z1 n1
 have e2:=hg.block b2 z2 n2
 have hs:=hg.size
 refine ⟨fun o=>?_,fun o=>?_,by omega,by omega⟩
 ·rw [← h1 o];simp [World.cell?,e1]
 ·rw [← h2 o];simp [World.cell?,e2]
def SZ7 (b1 b2:Nat) (c1 c2:Array Value) (b o:Nat) (z:Sgt) (V:World):Prop:=S1 b1 b2 c1 c2 V∧b<V.heap.size∧V.cell? ⟨b,o,none⟩=some (.int .i64 z.src)∧V.cell? ⟨b,o+1,none⟩=some (.int .i64 z.per)∧V.cell? ⟨b,o+2,none⟩=some (.int .i64 z.pap)∧V.cell? ⟨b,o+3,none⟩=some (.int .i64 z.leaf)∧V.cell? ⟨b,o+4,none⟩=some (.int .i64 z.day)∧V.cell? ⟨b,o+5,none⟩=some (.int .i64 z.kn)∧V.cell? ⟨b,o+6,none⟩=some (.int .i64 z.un)
theorem r_Check_g (l:Led) (x:Lsl) (v:Int) (w:World) (hp:x.pn≤9223372036854775807) (hr:x.rn≤9223372036854775807) (ht:x.tn≤9223372036854775807) (hs:x.sn≤9223372036854775807) (hd:LedIn w w.heap.size x l) (h:errI (ledB l) 24=v) :
 Calls Tryz.prog 19 #[.agg #[.slice x.pA x.pn x.pc,.slice x.rA x.rn x.rc,.slice x.tA x.tn x.tc,.slice x.sA x.sn x.sc]] w fun e w'=>e=.returned (.int .i64 v)∧Below w.heap.size w w':=h ▸ r_Check l x w hp hr ht hs hd
theorem all_take_snoc {α:Type} {l:List α} {k:Nat} {x:α} {p:α→Bool} (h:l[k]?=some x):(l.take (k+1)).all p=((l.take k).all p && p x):=by rw [take_snoc_some h,List.all_append];simp
theorem all_of_not {α:Type} {l:List α} {k:Nat} {x:α} {p:α→Bool} (h:l[k]?=some x) (hp:p x=false):l.all p=false:=by
 rw [← Bool.not_eq_true,List.all_eq_true]
 intro ha
 rw [ha x (List.mem_of_getElem? h)] at hp
 cases hp
theorem r_isDay2_v (n:Int) (v:Bool) (w:World) (h:withinB n 0 100000=v):Calls Tryz.prog 81 #[.int .i64 n] w fun e w'=>e=.returned (.bool v)∧w=w':=h ▸ r_isDay2 n w
set_option maxRecDepth 10000 in
theorem r_asked (l:Led) (x:Lsl) (ds:List Int) (D:Option Addr) (m c0:Nat) (w:World) (hf:x.fit) (hd:LedIn w w.heap.size x l) (hm:m≤9223372036854775807) (hdy:Is w w.heap.size D m ds) :
 Calls Tryz.prog 102 #[.agg #[.slice x.pA x.pn x.pc,.slice x.rA x.rn x.rc,.slice x.tA x.tn x.tc,.slice x.sA x.sn x.sc],.slice D m c0] w fun e w'=>e=.returned (.int .i64 (preE l ds))∧Below w.heap.size w w':=by
 obtain ⟨pA,pn,pc,rA,rn,rc,tA,tn,tc,sA,sn,sc⟩:=x
 have HD:=hd_ hd
 have hml:maxLen≤9223372036854775807:=by decide
 have hpn:pn≤9223372036854775807:=by have:=hf.p;dsimp only at this;omega
 have hrn:rn≤9223372036854775807:=by have:=hf.r;dsimp only at this;omega
 have htn:tn≤9223372036854775807:=by have:=hf.t;dsimp only at this;omega
 have hsn:sn≤9223372036854775807:=by have:=hf.s;dsimp only at this;omega
 have HL:=hd_ hdy.len
 have HDY:=hd_ hdy
 clear hd hf hml hdy
 cases hk:ledB l with
 | false =>
   have HR:Hid (preE l ds=24):=by show _=_;rw [preE,hk];rfl
   have HK:Hid (errI (ledB l) 24=24):=by show _=_;rw [hk];rfl
   clear hk
   rw [HR.out]
   go_enter Tryz.func102,Tryz.ntmps102
   go_wp2_with (go_at_call 19;refine (r_Check_g l ⟨pA,pn,pc,rA,rn,rc,tA,tn,tc,sA,sn,sc⟩ 24 _ hpn hrn htn hsn (HD.out.now (by exact bel_)) HK.out).mono ?_;rintro e w1 ⟨rfl,hb1⟩)
   go_ret
   exact ⟨rfl,bt_ (by exact bel_) hb1⟩
 | true =>
   have HK:Hid (errI (ledB l) 24=0):=by show _=_;rw [hk];rfl
   have HR:Hid (preE l ds=errI (ds.all fun d=>withinB d 0 100000) 6):=by show _=_;rw [preE,hk];simp [orL,errI,daysOk]
   clear hk
   go_enter Tryz.func102,Tryz.ntmps102
   go_wp2_with fail
   refine (r_Check_g l ⟨pA,pn,pc,rA,rn,rc,tA,tn,tc,sA,sn,sc⟩ 0 _ hpn hrn htn hsn (HD.out.now (by exact bel_)) HK.out).mono ?_
   rintro e w1 ⟨rfl,hb1⟩
   have HB1:Below w.heap.size w w1:=bt_ (by exact bel_) hb1
   clear hb1
   go_wp2
   go_loopw [5] (fun i wr=>∃ k:Nat,k≤m∧i=.int .i64 k∧(ds.take k).all (fun d=>withinB d 0 100000)=true∧Below w.heap.size w wr) (fun i _=>m - (intOf i).toNat)
   case atStart=>exact ⟨0,by omega,rfl,rfl,HB1⟩
   case round =>
    obtain ⟨k,hk,rfl,hall,hB⟩:=hrel
    have HA:=hd_ hall
    clear hall
    by_cases hlt:k<m
    ·obtain ⟨b,o,y,rfl,hb,hx,hc0⟩:=(Is.ext HDY.out hB lr_).at_ hlt
     have HX:=hd_ hx
     clear hx
     have hs0:w.heap.size≤wr.heap.size:=hB.size
     have hbr:b<wr.heap.size:=by omega
     cases hin:withinB y 0 100000 with
     | false =>
       have HF:Hid (preE l ds=6):=by show _=_;rw [HR.out,all_of_not HX.out hin];rfl
       have HI:=hd_ hin
       clear hin
       go_wp2_with (go_at_call 81;refine (r_isDay2_v y false _ HI.out).mono ?_;rintro e w2 ⟨rfl,rfl⟩)
       go_ret
       exact ⟨ret_int (by rw [HF.out]),hB⟩
     | true =>
       have HI:=hd_ hin
       clear hin
       go_wp2_with (go_at_call 81;refine (r_isDay2_v y true _ HI.out).mono ?_;rintro e w2 ⟨rfl,rfl⟩)
       go_roundw
       case rel=>exact ⟨k+1,by omega,by go_num,by rw [all_take_snoc HX.out,HA.out,HI.out];rfl,hB⟩
       case measure=>exact ms_
    ·obtain rfl:k=m:=by omega
     have HF:Hid (preE l ds=0):=by
      show _=_
      have h:=HA.out
      rw [List.take_of_length_le (by rw [HL.out];exact lr_)] at h
      rw [HR.out,h];rfl
     go_wp2
     go_ret
     exact ⟨ret_int (by rw [HF.out]),hB⟩
theorem foldl_le {α:Type} {f:Int→α→Int} {q:Int→α→Prop} (h:∀ v a x,v≤f a x↔v≤a∧q v x) (v:Int):∀ (l:List α) (a:Int),v≤l.foldl f a↔v≤a∧∀ x∈l,q v x
 | [],a=>by simp
 | x :: l,a=>by
   rw [List.foldl_cons,foldl_le h v l,h,and_assoc]
   simp
theorem hiStep_le (d v h:Int) (x:Rcp):v≤hiStep d h x↔v≤h∧(d<x.day→v≤x.day):=by
 unfold hiStep
 split <;> rename_i hd <;> simp [hd] <;> omega
theorem hiK_le (R:List Rcp) (r:Rcp) (h v:Int) (l:List Int):v≤hiK R r h l↔v≤h∧∀ x∈l,∀ u∈R.filter (isOfB r.pap x),r.day<u.day→v≤u.day:=by
 rw [hiK]
 exact foldl_le (q:=fun v x=>∀ u∈R.filter (isOfB r.pap x),r.day<u.day→v≤u.day) (fun v a x=>by rw [hiL];exact foldl_le (fun v a u=>hiStep_le r.day v a u) v _ a) v l h
def refHi (kn:Int) (r:Rcp) (lv:List Int) (h:Int) (u:Rcp):Int:=lv.foldl (fun h x=>if r.day<u.day∧(countsB u.kn u.un kn && isOfB r.pap x u)=true then min h u.day else h) h
theorem refHi_le (kn v:Int) (r:Rcp) (lv:List Int) (h:Int) (u:Rcp):v≤refHi kn r lv h u↔v≤h∧∀ x∈lv,r.day<u.day∧(countsB u.kn u.un kn && isOfB r.pap x u)=true→v≤u.day:=by
 rw [refHi]
 refine foldl_le (q:=fun v x=>r.day<u.day∧(countsB u.kn u.un kn && isOfB r.pap x u)=true→v≤u.day) (fun v a x=>?_) v lv h
 split
 ·rename_i hc
  constructor
  ·intro hv;exact ⟨by omega,fun _=>by omega⟩
  ·rintro ⟨h1,h2⟩;have:=h2 hc;omega
 ·rename_i hc
  exact ⟨fun hv=>⟨hv,fun h2=>absurd h2 hc⟩,fun hv=>hv.1⟩
theorem hi_ref (l:Led) (kn:Int) (r:Rcp) (h:Int) (lv:List Int):hiK (cntR l kn) r h lv=l.rc.foldl (refHi kn r lv) h:=by
 have e:∀ v,v≤hiK (cntR l kn) r h lv↔v≤l.rc.foldl (refHi kn r lv) h:=fun v=>by
  rw [hiK_le,foldl_le (fun v a u=>refHi_le kn v r lv a u)]
  refine and_congr_right fun _=>⟨fun H u hu x hx hc=>?_,fun H x hx u hu hd=>?_⟩
  ·simp only [Bool.and_eq_true] at hc
   exact H x hx u (List.mem_filter.2 ⟨List.mem_filter.2 ⟨hu,by simpa using hc.2.1⟩,hc.2.2⟩) hc.1
  ·obtain ⟨h1,h2⟩:=List.mem_filter.1 hu
   obtain ⟨h3,h4⟩:=List.mem_filter.1 h1
   exact H u h3 x hx ⟨hd,by simp only [Bool.and_eq_true];exact ⟨by simpa using h4,h2⟩⟩
 have h1:=(e (hiK (cntR l kn) r h lv)).1 (Int.le_refl _)
 have h2:=(e (l.rc.foldl (refHi kn r lv) h)).2 (Int.le_refl _)
 omega
def byR (l:Led) (T:List Bool) (kn:Int) (i:Nat):Int × Int:=match T[i]?,l.rt[i]? with
 | some true,some t=>(match findR (cntR l kn) t.rcp with
   | some r=>(max t.lo (r.day+1),l.rc.foldl (refHi kn r t.lv) t.hi)
   | none=>(0,100000))
 | _,_=>(0,100000)
theorem opn_by (l:Led) (kn:Int):∀ k,k≤l.rt.length→∀ j,j<k→(opnK kn (cntR l kn) l.rt l.rt.length k).P[j]?=some (byR l (opnK kn (cntR l kn) l.rt l.rt.length k).T kn j)
 | 0,_,j,hj=>by omega
 | k+1,hk,j,hj=>by
   have ih:=opn_by l kn k (by omega)
   obtain ⟨_,i2⟩:=opn_inv kn (cntR l kn) l.rt k (by omega)
   have hP:=(opnK_len kn (cntR l kn) l.rt l.rt.length k).2
   have hTl:=(opnK_len kn (cntR l kn) l.rt l.rt.length k).1
   obtain ⟨u,hu⟩:∃ u,l.rt[k]?=some u:=⟨l.rt[k],List.getElem?_eq_getElem (by omega)⟩
   rw [opnK_succ hu]
   generalize opnK kn (cntR l kn) l.rt l.rt.length k=S at ih i2 hP hTl ⊢
   have hk2:=i2 k lr_ (by omega)
   unfold readS
   cases hr:readR kn (cntR l kn) S.M u with
   | none =>
     show (S.P.set k (0,100000))[j]?=some (byR l S.T kn j)
     by_cases hkj:k=j
     ·subst hkj
      rw [List.getElem?_set_self (by omega),byR,hk2]
     ·rw [List.getElem?_set_ne hkj]
      exact ih j (by omega)
   | some r =>
     show ((S.P.set k (0,100000)).set k (max u.lo (r.day+1),hiK (cntR l kn) r u.hi u.lv))[j]?=some (byR l (S.T.set k true) kn j)
     by_cases hkj:k=j
     ·subst hkj
      have hf:findR (cntR l kn) u.rcp=some r:=by
       unfold readR at hr
       split at hr
       ·cases hr
       ·rename_i r' hf
        split at hr
        ·rw [hf,hr]
        ·cases hr
      rw [List.getElem?_set_self (by simp;omega),byR,List.getElem?_set_self (by omega),hu]
      simp only [hf,hi_ref]
     ·rw [List.getElem?_set_ne hkj,List.getElem?_set_ne hkj,ih j (by omega),byR,byR,List.getElem?_set_ne hkj]
theorem opn_days (l:Led) (kn:Int):(opnL l kn).P=(List.range l.rt.length).map (byR l (tellK l kn l.rt.length) kn):=by
 apply List.ext_getElem?
 intro j
 by_cases hj:j<l.rt.length
 ·have h:=opn_by l kn l.rt.length lr_ j hj
  rw [show (opnL l kn).P[j]?=some (byR l (opnL l kn).T kn j) from h,opn_tell,List.getElem?_map,List.getElem?_range hj]
  rfl
 ·have hP:=(opnK_len kn (cntR l kn) l.rt l.rt.length l.rt.length).2
  rw [List.getElem?_eq_none (by show (opnL l kn).P.length≤j;have:(opnL l kn).P.length=l.rt.length:=hP;omega),List.getElem?_eq_none (by simp;omega)]
theorem take_eq_succ2 {α:Type} {xs ys:List α} {k:Nat} {x y:α} (hx:xs[k]?=some x) (hy:ys[k]?=some y) (h:xs.take k=ys.take k):xs.take (k+1)=ys.take (k+1)↔x=y:=by
 rw [take_snoc_some hx,take_snoc_some hy,h]
 simp
theorem r_Same2 (xs ys:List (Int)) (v:Bool) (A B:Option Addr) (n c m d:Nat) (w:World) (hn:n≤1000000) (hm:m≤1000000) (hx:Is w w.heap.size A n xs) (hy:Is w w.heap.size B m ys) (hv:decide (xs=ys)=v) :
 Calls Tryz.prog 29 #[.slice A n c,.slice B m d] w fun e w'=>e=.returned (.bool v)∧Below w.heap.size w w':=by
 have HX:=hd_ hx
 have HY:=hd_ hy
 have HLX:=hd_ hx.len
 have HLY:=hd_ hy.len
 have HV:=hd_ hv
 clear hx hy hv
 by_cases hnm:n=m
 ·subst hnm
  go_enter Tryz.func29,Tryz.ntmps29
  go_wp2
  go_loopw [5] (fun i wr=>∃ k:Nat,k≤n∧i=.int .i64 k∧xs.take k=ys.take k∧Below w.heap.size w wr) (fun i _=>n - (intOf i).toNat)
  case atStart=>exact ⟨0,by omega,rfl,by simp,Below.refl _ _⟩
  case round =>
   obtain ⟨k,hk,rfl,hpre,hB⟩:=hrel
   have HP:=hd_ hpre
   clear hpre
   have hs0:w.heap.size≤wr.heap.size:=hB.size
   by_cases hlt:k<n
   ·obtain ⟨b,o,x,rfl,hb,hxk,hcx⟩:=(HX.out.ext hB lr_).at_ hlt
    obtain ⟨b',o',y,rfl,hb',hyk,hcy⟩:=(HY.out.ext hB lr_).at_ hlt
    have HXK:=hd_ hxk
    have HYK:=hd_ hyk
    clear hxk hyk
    have hbr:b<wr.heap.size:=by omega
    have hbr':b'<wr.heap.size:=by omega
    have HS:=hd_ (take_eq_succ2 HXK.out HYK.out HP.out)
    by_cases hxy:x=y
    ·have hb1:(x != y)=false:=by simp [hxy]
     have HXY:=hd_ hxy
     clear hxy
     go_wp2_with fail
     (refine rg_ ?_;(repeat (go_big_quiet_step (fail)));refine qn_ fun w1 hb1 hc1 hf1=>?_)
     go_wp2_with fail
     go_roundw
     case rel=>exact ⟨k+1,by omega,by go_num,HS.out.2 HXY.out,bt_ hB hb1⟩
     case measure=>exact ms_
    ·have hb1:(x != y)=true:=by simp [hxy]
     have HXY:=hd_ hxy
     clear hxy
     go_wp2_with fail
     (refine rg_ ?_;(repeat (go_big_quiet_step (fail)));refine qn_ fun w1 hb1 hc1 hf1=>?_)
     go_wp2_with fail
     go_ret
     refine ⟨ret_bool ?_,bt_ hB hb1⟩
     rw [← HV.out]
     symm
     apply decide_eq_false
     intro e
     exact HXY.out (HS.out.1 (by rw [e]))
   ·have hkn:k=n:=by omega
    have HKn:=hd_ hkn
    clear hkn
    go_wp2
    go_ret
    refine ⟨ret_bool ?_,hB⟩
    rw [← HV.out]
    symm
    apply decide_eq_true
    have h1:=HP.out
    rwa [List.take_of_length_le (by rw [HLX.out,HKn.out];exact lr_),List.take_of_length_le (by rw [HLY.out,HKn.out];exact lr_)] at h1
 ·have h1:((n:Int) != (m:Int))=true:=by simp;omega
  go_enter Tryz.func29,Tryz.ntmps29
  go_wp2
  go_ret
  refine ⟨ret_bool ?_,Below.refl _ _⟩
  rw [← HV.out]
  symm
  apply decide_eq_false
  intro e
  exact hnm (by rw [← HLX.out,← HLY.out,e])
theorem r_SameFols (xs ys:List (Int × Int)) (v:Bool) (A B:Option Addr) (n c m d:Nat) (w:World) (hn:n≤1000000) (hm:m≤1000000) (hx:Sq QF 2 w w.heap.size A n xs) (hy:Sq QF 2 w w.heap.size B m ys) (hv:decide (xs=ys)=v) :
 Calls Tryz.prog 46 #[.slice A n c,.slice B m d] w fun e w'=>e=.returned (.bool v)∧Below w.heap.size w w':=by
 have HX:=hd_ hx
 have HY:=hd_ hy
 have HLX:=hd_ hx.len
 have HLY:=hd_ hy.len
 have HV:=hd_ hv
 clear hx hy hv
 by_cases hnm:n=m
 ·subst hnm
  go_enter Tryz.func46,Tryz.ntmps46
  go_wp2
  go_loopw [5] (fun i wr=>∃ k:Nat,k≤n∧i=.int .i64 k∧xs.take k=ys.take k∧Below w.heap.size w wr) (fun i _=>n - (intOf i).toNat)
  case atStart=>exact ⟨0,by omega,rfl,by simp,Below.refl _ _⟩
  case round =>
   obtain ⟨k,hk,rfl,hpre,hB⟩:=hrel
   have HP:=hd_ hpre
   clear hpre
   have hs0:w.heap.size≤wr.heap.size:=hB.size
   by_cases hlt:k<n
   ·obtain ⟨b,o,⟨x,x2⟩,rfl,hb,hxk,hcx,hcx2⟩:=(Sq.ext HX.out abF hB lr_).at_ hlt
    obtain ⟨b',o',⟨y,y2⟩,rfl,hb',hyk,hcy,hcy2⟩:=(Sq.ext HY.out abF hB lr_).at_ hlt
    have HXK:=hd_ hxk
    have HYK:=hd_ hyk
    clear hxk hyk
    have hbr:b<wr.heap.size:=by omega
    have hbr':b'<wr.heap.size:=by omega
    have HS:=hd_ (take_eq_succ2 HXK.out HYK.out HP.out)
    by_cases hxy:x=y
    ·by_cases hxy2:x2=y2
     ·have HXY:Hid ((x,x2)=(y,y2)):=by show _=_;rw [hxy,hxy2]
      subst hxy hxy2
      go_wp2_with fail
      (refine rg_ ?_;(repeat (go_big_quiet_step (fail)));refine qn_ fun w1 hb1 hc1 hf1=>?_)
      go_wp2_with fail
      go_roundw
      case rel=>exact ⟨k+1,by omega,by go_num,HS.out.2 HXY.out,bt_ hB hb1⟩
      case measure=>exact ms_
     ·have HXY:Hid (¬ (x,x2)=(y,y2)):=by show ¬ _;intro e;injection e with e1 e2;exact hxy2 e2
      go_wp2_with fail
      (refine rg_ ?_;(repeat (go_big_quiet_step (fail)));refine qn_ fun w1 hb1 hc1 hf1=>?_)
      go_wp2_with fail
      go_ret
      refine ⟨ret_bool ?_,bt_ hB hb1⟩
      rw [← HV.out]
      symm
      apply decide_eq_false
      intro e
      exact HXY.out (HS.out.1 (by rw [e]))
    ·have HXY:Hid (¬ (x,x2)=(y,y2)):=by show ¬ _;intro e;injection e with e1 e2;exact hxy e1
     go_wp2_with fail
     (refine rg_ ?_;(repeat (go_big_quiet_step (fail)));refine qn_ fun w1 hb1 hc1 hf1=>?_)
     go_wp2_with fail
     go_ret
     refine ⟨ret_bool ?_,bt_ hB hb1⟩
     rw [← HV.out]
     symm
     apply decide_eq_false
     intro e
     exact HXY.out (HS.out.1 (by rw [e]))
   ·have hkn:k=n:=by omega
    have HKn:=hd_ hkn
    clear hkn
    go_wp2
    go_ret
    refine ⟨ret_bool ?_,hB⟩
    rw [← HV.out]
    symm
    apply decide_eq_true
    have h1:=HP.out
    rwa [List.take_of_length_le (by rw [HLX.out,HKn.out];exact lr_),List.take_of_length_le (by rw [HLY.out,HKn.out];exact lr_)] at h1
 ·have h1:((n:Int) != (m:Int))=true:=by simp;omega
  go_enter Tryz.func46,Tryz.ntmps46
  go_wp2
  go_ret
  refine ⟨ret_bool ?_,Below.refl _ _⟩
  rw [← HV.out]
  symm
  apply decide_eq_false
  intro e
  exact hnm (by rw [← HLX.out,← HLY.out,e])
def exL2:Led:=⟨[⟨1,3⟩,⟨2,1⟩],[⟨10,5,1,[1,2,3],10,10,0⟩,⟨11,6,1,[2],40,40,0⟩],[⟨20,10,7,[1,2],20,50,60,0⟩,⟨21,10,5,[3],5,30,60,0⟩],[⟨30,5,1,1,25,70,0⟩,⟨31,0,1,2,22,80,0⟩]⟩
theorem ex2_double:doubleX exL2 50=([10,11],0):=by kernel_rfl
theorem ex2_days:daysX exL2 20 70=((26,40),0):=by kernel_rfl
theorem ex2_clash:clashX exL2 80=([30,31],0):=by kernel_rfl
theorem ex2_where:whereX exL2 1 1 24 60=([0,5],0):=by kernel_rfl
theorem ex2_whole:wholeX exL2 1 30 60=(2,0):=by kernel_rfl
theorem ex2_lies:liesX exL2 10 40 60=(0,0):=by kernel_rfl
theorem ex2_has:leavesX (fun f=>decide (whL exL2 60 19 f=[5])) exL2 5 19 60=([(1,1),(1,2)],0):=by kernel_rfl
theorem ex2_placed:placedX exL2 [25,30] 1 27 60=([0,0,5],0):=by kernel_rfl
theorem ex2_moved:movX exL2 20 30 60=([(1,1),(1,2),(1,3),(2,1)],0):=by kernel_rfl
theorem ex2_true:checkTrueX exL2 60 [41,11]=29:=by kernel_rfl
end Go.Proofs.YtoiompoapikkbaaGreat
