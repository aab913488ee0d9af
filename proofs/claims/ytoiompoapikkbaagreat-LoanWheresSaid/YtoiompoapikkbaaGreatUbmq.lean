/- Layer 2 of the texts that LoanWheres takes: Ubmq. -/
import Derived.Test.YtoiompoapikkbaaGreatUblq
import Derived.Test.YtoiompoapikkbaaGreatUbkq
set_option linter.unusedVariables false
set_option linter.unusedSimpArgs false
/- Layer 2, the reference: asked. -/
namespace Go.Proofs.YtoiompoapikkbaaGreat
open Go.RowKit Go.Maps
theorem r_Check_g (l:Led) (x:Lsl) (v:Int) (w:World) (hp:x.pn≤9223372036854775807) (hr:x.rn≤9223372036854775807) (ht:x.tn≤9223372036854775807) (hs:x.sn≤9223372036854775807) (hd:LedIn w w.heap.size x l) (h:errI (ledB l) 24=v) :
 Calls Tryz.prog 19 #[.agg #[.slice x.pA x.pn x.pc,.slice x.rA x.rn x.rc,.slice x.tA x.tn x.tc,.slice x.sA x.sn x.sc]] w fun e w'=>e=.returned (.int .i64 v)∧Below w.heap.size w w':=h ▸ r_Check l x w hp hr ht hs hd
theorem all_take_snoc {α:Type} {l:List α} {k:Nat} {x:α} {p:α→Bool} (h:l[k]?=some x):(l.take (k+1)).all p=((l.take k).all p && p x):=by rw [take_snoc_some h,List.all_append];simp
theorem all_of_not {α:Type} {l:List α} {k:Nat} {x:α} {p:α→Bool} (h:l[k]?=some x) (hp:p x=false):l.all p=false:=by
 rw [← Bool.not_eq_true,List.all_eq_true]
 intro ha
 rw [ha x (List.mem_of_getElem? h)] at hp
 cases hp
theorem r_isDay2_v (n:Int) (v:Bool) (w:World) (h:withinB n 0 100000=v):Calls Tryz.prog 81 #[.int .i64 n] w fun e w'=>e=.returned (.bool v)∧w=w':=h ▸ r_isDay2 n w
set_option maxRecDepth 10000 in
set_option maxHeartbeats 4000000 in
theorem r_asked (l:Led) (x:Lsl) (ds:List Int) (D:Option Addr) (m c0:Nat) (w:World) (hf:x.fit) (hd:LedIn w w.heap.size x l) (hm:m≤9223372036854775807) (hdy:Is w w.heap.size D m ds) :
 Calls Tryz.prog 102 #[.agg #[.slice x.pA x.pn x.pc,.slice x.rA x.rn x.rc,.slice x.tA x.tn x.tc,.slice x.sA x.sn x.sc],.slice D m c0] w fun e w'=>e=.returned (.int .i64 (preE l ds))∧Below w.heap.size w w':=by
 obtain ⟨pA,pn,pc,rA,rn,rc,tA,tn,tc,sA,sn,sc⟩:=x
 have HD:=Lib.hid hd
 have hml:maxLen≤9223372036854775807:=by decide
 have hpn:pn≤9223372036854775807:=by have:=hf.p;dsimp only at this;omega
 have hrn:rn≤9223372036854775807:=by have:=hf.r;dsimp only at this;omega
 have htn:tn≤9223372036854775807:=by have:=hf.t;dsimp only at this;omega
 have hsn:sn≤9223372036854775807:=by have:=hf.s;dsimp only at this;omega
 have HL:=Lib.hid hdy.len
 have HDY:=Lib.hid hdy
 clear hd hf hml hdy
 cases hk:ledB l with
 | false =>
   have HR:Hid (preE l ds=24):=by show _=_;rw [preE,hk];rfl
   have HK:Hid (errI (ledB l) 24=24):=by show _=_;rw [hk];rfl
   clear hk
   rw [HR.out]
   go_enter Tryz.func102,Tryz.ntmps102
   go_wp2_with (go_at_call 19;refine (r_Check_g l ⟨pA,pn,pc,rA,rn,rc,tA,tn,tc,sA,sn,sc⟩ 24 _ hpn hrn htn hsn (HD.out.now (by exact bel_)) HK.out).mono ?_;rintro e w1 ⟨rfl,hb1⟩)
   go_ret
   exact ⟨rfl,Below.then_ (by exact bel_) hb1⟩
 | true =>
   have HK:Hid (errI (ledB l) 24=0):=by show _=_;rw [hk];rfl
   have HR:Hid (preE l ds=errI (ds.all fun d=>withinB d 0 100000) 6):=by show _=_;rw [preE,hk];simp [orL,errI,daysOk]
   clear hk
   go_enter Tryz.func102,Tryz.ntmps102
   go_wp2_with fail
   refine (r_Check_g l ⟨pA,pn,pc,rA,rn,rc,tA,tn,tc,sA,sn,sc⟩ 0 _ hpn hrn htn hsn (HD.out.now (by exact bel_)) HK.out).mono ?_
   rintro e w1 ⟨rfl,hb1⟩
   have HB1:Below w.heap.size w w1:=Below.then_ (by exact bel_) hb1
   clear hb1
   go_wp2
   go_loopw [5] (fun i wr=>∃ k:Nat,k≤m∧i=.int .i64 k∧(ds.take k).all (fun d=>withinB d 0 100000)=true∧Below w.heap.size w wr) (fun i _=>m - (intOf i).toNat)
   case atStart=>exact ⟨0,by omega,rfl,rfl,HB1⟩
   case round =>
    obtain ⟨k,hk,rfl,hall,hB⟩:=hrel
    have HA:=Lib.hid hall
    clear hall
    by_cases hlt:k<m
    ·obtain ⟨b,o,y,rfl,hb,hx,hc0⟩:=(Is.ext HDY.out hB (Nat.le_refl _)).at_ hlt
     have HX:=Lib.hid hx
     clear hx
     have hs0:w.heap.size≤wr.heap.size:=hB.size
     have hbr:b<wr.heap.size:=by omega
     cases hin:withinB y 0 100000 with
     | false =>
       have HF:Hid (preE l ds=6):=by show _=_;rw [HR.out,all_of_not HX.out hin];rfl
       have HI:=Lib.hid hin
       clear hin
       go_wp2_with (go_at_call 81;refine (r_isDay2_v y false _ HI.out).mono ?_;rintro e w2 ⟨rfl,rfl⟩)
       go_ret
       exact ⟨ret_int (by rw [HF.out]),hB⟩
     | true =>
       have HI:=Lib.hid hin
       clear hin
       go_wp2_with (go_at_call 81;refine (r_isDay2_v y true _ HI.out).mono ?_;rintro e w2 ⟨rfl,rfl⟩)
       go_roundw
       case rel=>exact ⟨k+1,by omega,by go_num,by rw [all_take_snoc HX.out,HA.out,HI.out];rfl,hB⟩
       case measure=>exact ms_
    ·obtain rfl:k=m:=by omega
     have HF:Hid (preE l ds=0):=by
      show _=_
      have h:=HA.out
      rw [List.take_of_length_le (by rw [HL.out];exact Nat.le_refl _)] at h
      rw [HR.out,h];rfl
     go_wp2
     go_ret
     exact ⟨ret_int (by rw [HF.out]),hB⟩
end Go.Proofs.YtoiompoapikkbaaGreat
/- Layer 2: which returns tell: the program's and the reference's, plain. -/
namespace Go.Proofs.YtoiompoapikkbaaGreat
open Go.RowKit Go.Maps
def fineB (T:List Bool) (rt:List Rtn) (i:Nat) (t:Rtn) (r:Rcp) (lv:List Int):Bool:=lv.all fun x=>decide (x∈r.lv) && !((T.zip rt).take i).any (rtAt t.rcp x)
def tellB (l:Led) (kn:Int) (T:List Bool) (i:Nat) (t:Rtn):Bool:=match rcIx l.rc t.rcp kn with
 | none=>false
 | some k=>match l.rc[k]? with
   | none=>false
   | some r=>countsB t.kn t.un kn && (!decide (t.hi<max t.lo (r.day+1)) && fineB T l.rt i t r t.lv)
def tellK (l:Led) (kn:Int):Nat→List Bool
 | 0=>List.replicate l.rt.length false
 | k+1=>match l.rt[k]? with
   | none=>tellK l kn k
   | some t=>(tellK l kn k).set k (tellB l kn (tellK l kn k) k t)
theorem find_ix {α:Type} (p:α→Bool):∀ l:List α,l.find? p=(l.findIdx? p).bind fun k=>l[k]?
 | []=>rfl
 | x :: l=>by
   rw [List.find?_cons,List.findIdx?_cons]
   cases h:p x with
   | true=>simp
   | false =>
     simp only [find_ix p l]
     cases List.findIdx? p l <;> simp
theorem findR_cnt (l:Led) (kn src:Int):findR (cntR l kn) src=(rcIx l.rc src kn).bind fun k=>l.rc[k]?:=by
 rw [rcIx,← find_ix,findR,cntR,List.find?_filter]
 congr 1
 funext r
 rw [rcAt,Bool.and_comm]
 cases countsB r.kn r.un kn <;> by_cases h:r.src=src <;> simp [h]
theorem any_take {T:List Bool} {rt:List Rtn} {i:Nat} (s x:Int) (h:∀ j,i≤j→j<rt.length→T[j]?=some false):((T.zip rt).take i).any (rtAt s x)=(T.zip rt).any (rtAt s x):=by
 conv=>rhs;rw [← List.take_append_drop i (T.zip rt),List.any_append]
 have hd:((T.zip rt).drop i).any (rtAt s x)=false:=by
  rw [List.any_eq_false]
  intro p hp
  obtain ⟨j,hj,he⟩:=List.mem_iff_getElem.1 hp
  rw [List.getElem_drop,List.getElem_zip] at he
  simp at hj
  have h2:=h (i+j) (by omega) (by omega)
  rw [List.getElem?_eq_getElem (by omega)] at h2
  rw [← he]
  simp [rtAt,Option.some.inj h2]
 rw [hd,Bool.or_false]
theorem rt_any {T:List Bool} {rt:List Rtn} {s x:Int}:(rtIx T rt s x).isNone=!(T.zip rt).any (rtAt s x):=by
 rw [rtIx]
 cases h:(T.zip rt).any (rtAt s x) with
 | false=>rw [ix_none h];rfl
 | true =>
   cases h2:(T.zip rt).findIdx? (rtAt s x) with
   | some k=>rfl
   | none =>
     obtain ⟨p,hp,hq⟩:=List.any_eq_true.1 h
     have:=List.findIdx?_eq_none_iff.1 h2 p hp
     rw [hq] at this
     cases this
theorem tell_opn (l:Led) (kn:Int):∀ k,k≤l.rt.length→(opnK kn (cntR l kn) l.rt l.rt.length k).T=tellK l kn k
 | 0,_=>rfl
 | k+1,hk=>by
   have ih:=tell_opn l kn k (by omega)
   obtain ⟨i1,i2⟩:=opn_inv kn (cntR l kn) l.rt k (by omega)
   obtain ⟨t,ht⟩:∃ t,l.rt[k]?=some t:=⟨l.rt[k],List.getElem?_eq_getElem (by omega)⟩
   rw [opnK_succ ht,tellK,ht]
   dsimp only
   generalize opnK kn (cntR l kn) l.rt l.rt.length k=S at ih i1 i2
   rw [← ih]
   have hTk:=i2 k (Nat.le_refl _) (by omega)
   have hset:S.T.set k false=S.T:=by
    have hlt:k<S.T.length:=(List.getElem?_eq_some_iff.1 hTk).1
    rw [eq_comm,← (List.getElem?_eq_some_iff.1 hTk).2,List.set_getElem_self]
   have hfine:∀ r:Rcp,r.src=t.rcp→takesB (encM S.M) r t.lv=fineB S.T l.rt k t r t.lv:=fun r hr=>by
    rw [takesB,fineB]
    congr 1
    funext x
    rw [getG_enc,hr,i1,any_take _ _ i2,← rt_any,Bool.and_comm]
    cases rtIx S.T l.rt t.rcp x <;> rfl
   have key:(readR kn (cntR l kn) S.M t).isSome=tellB l kn S.T k t:=by
    unfold readR tellB
    rw [findR_cnt]
    cases h1:rcIx l.rc t.rcp kn with
    | none=>rfl
    | some i =>
      show (match l.rc[i]? with | none=>none | some r=>_).isSome=match l.rc[i]? with | none=>false | some r=>_
      cases h2:l.rc[i]? with
      | none=>rfl
      | some r =>
        have hr:r.src=t.rcp:=by
         have h3:=(List.findIdx?_eq_some_iff_getElem.1 h1)
         obtain ⟨hl,hp,_⟩:=h3
         have h4:l.rc[i]=r:=(List.getElem?_eq_some_iff.1 h2).2
         rw [h4] at hp
         simp [rcAt] at hp
         exact hp.1
        dsimp only
        rw [hfine r hr,Bool.and_comm (fineB _ _ _ _ _ _)]
        split
        ·rename_i h;rw [h];rfl
        ·rename_i h;simp at h ⊢;simpa using h
   unfold readS
   cases hr:readR kn (cntR l kn) S.M t with
   | none=>rw [← key,hr];exact hset.symm
   | some r=>rw [← key,hr];rfl
theorem opn_tell (l:Led) (kn:Int):(opnL l kn).T=tellK l kn l.rt.length:=tell_opn l kn _ (Nat.le_refl _)
end Go.Proofs.YtoiompoapikkbaaGreat
/- Layer 2: the first two receipts that are double, plain. -/
namespace Go.Proofs.YtoiompoapikkbaaGreat
open Go.RowKit Go.Maps
def firstP (p:Rcp→Rcp→Bool):List Rcp→Option (Rcp × Rcp)
 | []=>none
 | x :: l=>match l.find? (p x) with
   | some y=>some (x,y)
   | none=>firstP p l
theorem dblR_first (M:List ((Int × Int) × Nat)) (P:List (Int × Int)):∀ l,dblR M P l=firstP (dblB M P) l
 | []=>rfl
 | x :: l=>by
   rw [dblR,firstP,dblR_first M P l]
   cases l.find? (dblB M P x) <;> rfl
theorem find_congr {α:Type} {p q:α→Bool}:∀ {l:List α},(∀ x∈l,p x=q x)→l.find? p=l.find? q
 | [],_=>rfl
 | x :: l,h=>by
   rw [List.find?_cons,List.find?_cons,h x (List.mem_cons_self ..),find_congr fun y hy=>h y (List.mem_cons_of_mem _ hy)]
theorem firstP_congr {p q:Rcp→Rcp→Bool}:∀ {l:List Rcp},(∀ x∈l,∀ y∈l,p x y=q x y)→firstP p l=firstP q l
 | [],_=>rfl
 | x :: l,h=>by
   rw [firstP,firstP,find_congr fun y hy=>h x (List.mem_cons_self ..) y (List.mem_cons_of_mem _ hy),firstP_congr fun a ha b hb=>h a (List.mem_cons_of_mem _ ha) b (List.mem_cons_of_mem _ hb)]
theorem firstP_filter {p:Rcp→Rcp→Bool} {q:Rcp→Bool} (h:∀ x y,p x y=true→q x=true∧q y=true):∀ l,firstP p (l.filter q)=firstP p l
 | []=>rfl
 | x :: l=>by
   have ih:=firstP_filter h l
   have hf:(l.filter q).find? (p x)=l.find? (p x):=by
    rw [List.find?_filter]
    congr 1
    funext y
    cases hp:p x y with
    | false=>simp
    | true=>simp [(h x y hp).2]
   cases hq:q x with
   | true=>rw [List.filter_cons_of_pos (by simpa using hq),firstP,firstP,hf,ih]
   | false =>
     have hn:l.find? (p x)=none:=by
      rw [List.find?_eq_none]
      intro y _ hp
      have:=(h x y hp).1
      rw [hq] at this
      cases this
     rw [List.filter_cons_of_neg (by simp [hq]),ih,firstP,hn]
theorem refD_cnt {l:Led} {T:List Bool} {kn:Int} {x y:Rcp} (h:refD l T kn x y=true):countsB x.kn x.un kn=true∧countsB y.kn y.un kn=true:=by
 have hr:∀ (a b:Rcp),a.lv.any (refOut l T kn a b)=true→countsB a.kn a.un kn=true∧countsB b.kn b.un kn=true:=fun a b h=>by
  obtain ⟨f,_,hf⟩:=List.any_eq_true.1 h
  simp only [refOut,Bool.and_eq_true] at hf
  exact ⟨hf.1.1,hf.2.1.1⟩
 rw [refD] at h
 split at h
 ·exact (hr y x h).symm
 ·exact hr x y h
theorem find_self {l:List Rcp} (hn:(l.map Rcp.src).Nodup) {u:Rcp} (hu:u∈l):findR l u.src=some u:=by
 rw [findR]
 induction l with
 | nil=>cases hu
 | cons x l ih =>
   rw [List.map_cons,List.nodup_cons] at hn
   rw [List.find?_cons]
   rcases List.mem_cons.1 hu with rfl | hu
   ·simp
   ·have hne:(x.src == u.src)=false:=by
     rw [beq_eq_false_iff_ne]
     intro he
     exact hn.1 (he ▸ List.mem_map.2 ⟨u,hu,rfl⟩)
    rw [hne]
    exact ih hn.2 hu
theorem cnt_self {l:Led} {kn:Int} (h:ledB l=true) {u:Rcp} (hu:u∈cntR l kn):findR (cntR l kn) u.src=some u:=by
 refine find_self ?_ hu
 simp only [ledB,Bool.and_eq_true,decide_eq_true_eq] at h
 have hn:(l.rc.map Rcp.src).Nodup:=by
  have h5:=h.2.2.2.2.1
  rw [srcL] at h5
  simp only [List.nodup_append] at h5
  first | exact h5.1 | exact h5.1.1
 exact hn.sublist ((List.filter_sublist ..).map _)
theorem dbl_first {l:Led} {kn:Int} (h:ledB l=true):dblR (opnL l kn).M (opnL l kn).P (cntR l kn)=firstP (refD l (tellK l kn l.rt.length) kn) l.rc:=by
 rw [dblR_first,← opn_tell,← firstP_filter (q:=fun r=>countsB r.kn r.un kn) (fun x y h=>refD_cnt h) l.rc]
 refine firstP_congr fun x hx y hy=>?_
 exact dbl_ref l kn x y (by simpa using (List.mem_filter.1 hx).2) (by simpa using (List.mem_filter.1 hy).2) (cnt_self h hx) (cnt_self h hy)
end Go.Proofs.YtoiompoapikkbaaGreat
/- Layer 2: the days of the returns by the receipts: the program's and the reference's, plain. -/
namespace Go.Proofs.YtoiompoapikkbaaGreat
open Go.RowKit Go.Maps
theorem foldl_le {α:Type} {f:Int→α→Int} {q:Int→α→Prop} (h:∀ v a x,v≤f a x↔v≤a∧q v x) (v:Int):∀ (l:List α) (a:Int),v≤l.foldl f a↔v≤a∧∀ x∈l,q v x
 | [],a=>by simp
 | x :: l,a=>by
   rw [List.foldl_cons,foldl_le h v l,h,and_assoc]
   simp
theorem hiStep_le (d v h:Int) (x:Rcp):v≤hiStep d h x↔v≤h∧(d<x.day→v≤x.day):=by
 unfold hiStep
 split <;> rename_i hd <;> simp [hd] <;> omega
theorem hiK_le (R:List Rcp) (r:Rcp) (h v:Int) (l:List Int):v≤hiK R r h l↔v≤h∧∀ x∈l,∀ u∈R.filter (isOfB r.pap x),r.day<u.day→v≤u.day:=by
 rw [hiK]
 exact foldl_le (q:=fun v x=>∀ u∈R.filter (isOfB r.pap x),r.day<u.day→v≤u.day) (fun v a x=>by rw [hiL];exact foldl_le (fun v a u=>hiStep_le r.day v a u) v _ a) v l h
def refHi (kn:Int) (r:Rcp) (lv:List Int) (h:Int) (u:Rcp):Int:=lv.foldl (fun h x=>if r.day<u.day∧(countsB u.kn u.un kn && isOfB r.pap x u)=true then min h u.day else h) h
theorem refHi_le (kn v:Int) (r:Rcp) (lv:List Int) (h:Int) (u:Rcp):v≤refHi kn r lv h u↔v≤h∧∀ x∈lv,r.day<u.day∧(countsB u.kn u.un kn && isOfB r.pap x u)=true→v≤u.day:=by
 rw [refHi]
 refine foldl_le (q:=fun v x=>r.day<u.day∧(countsB u.kn u.un kn && isOfB r.pap x u)=true→v≤u.day) (fun v a x=>?_) v lv h
 split
 ·rename_i hc
  constructor
  ·intro hv;exact ⟨by omega,fun _=>by omega⟩
  ·rintro ⟨h1,h2⟩;have:=h2 hc;omega
 ·rename_i hc
  exact ⟨fun hv=>⟨hv,fun h2=>absurd h2 hc⟩,fun hv=>hv.1⟩
theorem hi_ref (l:Led) (kn:Int) (r:Rcp) (h:Int) (lv:List Int):hiK (cntR l kn) r h lv=l.rc.foldl (refHi kn r lv) h:=by
 have e:∀ v,v≤hiK (cntR l kn) r h lv↔v≤l.rc.foldl (refHi kn r lv) h:=fun v=>by
  rw [hiK_le,foldl_le (fun v a u=>refHi_le kn v r lv a u)]
  refine and_congr_right fun _=>⟨fun H u hu x hx hc=>?_,fun H x hx u hu hd=>?_⟩
  ·simp only [Bool.and_eq_true] at hc
   exact H x hx u (List.mem_filter.2 ⟨List.mem_filter.2 ⟨hu,by simpa using hc.2.1⟩,hc.2.2⟩) hc.1
  ·obtain ⟨h1,h2⟩:=List.mem_filter.1 hu
   obtain ⟨h3,h4⟩:=List.mem_filter.1 h1
   exact H u h3 x hx ⟨hd,by simp only [Bool.and_eq_true];exact ⟨by simpa using h4,h2⟩⟩
 have h1:=(e (hiK (cntR l kn) r h lv)).1 (Int.le_refl _)
 have h2:=(e (l.rc.foldl (refHi kn r lv) h)).2 (Int.le_refl _)
 omega
def byR (l:Led) (T:List Bool) (kn:Int) (i:Nat):Int × Int:=match T[i]?,l.rt[i]? with
 | some true,some t=>(match findR (cntR l kn) t.rcp with
   | some r=>(max t.lo (r.day+1),l.rc.foldl (refHi kn r t.lv) t.hi)
   | none=>(0,100000))
 | _,_=>(0,100000)
theorem opn_by (l:Led) (kn:Int):∀ k,k≤l.rt.length→∀ j,j<k→(opnK kn (cntR l kn) l.rt l.rt.length k).P[j]?=some (byR l (opnK kn (cntR l kn) l.rt l.rt.length k).T kn j)
 | 0,_,j,hj=>by omega
 | k+1,hk,j,hj=>by
   have ih:=opn_by l kn k (by omega)
   obtain ⟨_,i2⟩:=opn_inv kn (cntR l kn) l.rt k (by omega)
   have hP:=(opnK_len kn (cntR l kn) l.rt l.rt.length k).2
   have hTl:=(opnK_len kn (cntR l kn) l.rt l.rt.length k).1
   obtain ⟨u,hu⟩:∃ u,l.rt[k]?=some u:=⟨l.rt[k],List.getElem?_eq_getElem (by omega)⟩
   rw [opnK_succ hu]
   generalize opnK kn (cntR l kn) l.rt l.rt.length k=S at ih i2 hP hTl ⊢
   have hk2:=i2 k (Nat.le_refl _) (by omega)
   unfold readS
   cases hr:readR kn (cntR l kn) S.M u with
   | none =>
     show (S.P.set k (0,100000))[j]?=some (byR l S.T kn j)
     by_cases hkj:k=j
     ·subst hkj
      rw [List.getElem?_set_self (by omega),byR,hk2]
     ·rw [List.getElem?_set_ne hkj]
      exact ih j (by omega)
   | some r =>
     show ((S.P.set k (0,100000)).set k (max u.lo (r.day+1),hiK (cntR l kn) r u.hi u.lv))[j]?=some (byR l (S.T.set k true) kn j)
     by_cases hkj:k=j
     ·subst hkj
      have hf:findR (cntR l kn) u.rcp=some r:=by
       unfold readR at hr
       split at hr
       ·cases hr
       ·rename_i r' hf
        split at hr
        ·rw [hf,hr]
        ·cases hr
      rw [List.getElem?_set_self (by simp;omega),byR,List.getElem?_set_self (by omega),hu]
      simp only [hf,hi_ref]
     ·rw [List.getElem?_set_ne hkj,List.getElem?_set_ne hkj,ih j (by omega),byR,byR,List.getElem?_set_ne hkj]
theorem opn_days (l:Led) (kn:Int):(opnL l kn).P=(List.range l.rt.length).map (byR l (tellK l kn l.rt.length) kn):=by
 apply List.ext_getElem?
 intro j
 by_cases hj:j<l.rt.length
 ·have h:=opn_by l kn l.rt.length (Nat.le_refl _) j hj
  rw [show (opnL l kn).P[j]?=some (byR l (opnL l kn).T kn j) from h,opn_tell,List.getElem?_map,List.getElem?_range hj]
  rfl
 ·have hP:=(opnK_len kn (cntR l kn) l.rt l.rt.length l.rt.length).2
  rw [List.getElem?_eq_none (by show (opnL l kn).P.length≤j;have:(opnL l kn).P.length=l.rt.length:=hP;omega),List.getElem?_eq_none (by simp;omega)]
end Go.Proofs.YtoiompoapikkbaaGreat
/- Layer 2, the reference: telling. -/
namespace Go.Proofs.YtoiompoapikkbaaGreat
open Go.RowKit Go.Maps
theorem tellK_len (l:Led) (kn:Int):∀ k,(tellK l kn k).length=l.rt.length
 | 0=>by simp [tellK]
 | k+1=>by
   rw [tellK]
   split
   ·exact tellK_len l kn k
   ·rw [List.length_set];exact tellK_len l kn k
theorem tellK_ge {l:Led} {kn:Int} {k j:Nat} (hk:k≤l.rt.length) (hj:k≤j) (hl:j<l.rt.length):(tellK l kn k)[j]?=some false:=by
 rw [← tell_opn l kn k hk]
 exact (opn_inv kn (cntR l kn) l.rt k hk).2 j hj hl
theorem tellK_set {l:Led} {kn:Int} {k:Nat} {t:Rtn} {b:Bool} (h:l.rt[k]?=some t) (hb:tellB l kn (tellK l kn k) k t=b):tellK l kn (k+1)=(tellK l kn k).set k b:=by
 rw [tellK,h,← hb]
theorem tellK_no {l:Led} {kn:Int} {k:Nat} {t:Rtn} (h:l.rt[k]?=some t) (hb:tellB l kn (tellK l kn k) k t=false):tellK l kn (k+1)=tellK l kn k:=by
 have hlt:k<l.rt.length:=(List.getElem?_eq_some_iff.1 h).1
 have hg:(tellK l kn k)[k]?=some false:=tellK_ge (by omega) (Nat.le_refl _) hlt
 rw [tellK_set h hb,eq_comm,← (List.getElem?_eq_some_iff.1 hg).2,List.set_getElem_self]
theorem fineB_succ {T:List Bool} {rt:List Rtn} {i:Nat} {t:Rtn} {r:Rcp} {lv:List Int} {k:Nat} {y:Int} (h:lv[k]?=some y):fineB T rt i t r (lv.take (k+1))=(fineB T rt i t r (lv.take k) && (decide (y∈r.lv) && !((T.zip rt).take i).any (rtAt t.rcp y))):=by
 rw [take_snoc_some h,fineB,List.all_append]
 simp [fineB]
theorem tellB_some {l:Led} {kn:Int} {T:List Bool} {i ix:Nat} {t:Rtn} {r:Rcp} (h1:rcIx l.rc t.rcp kn=some ix) (h2:l.rc[ix]?=some r):tellB l kn T i t=(countsB t.kn t.un kn && (!decide (t.hi<max t.lo (r.day+1)) && fineB T l.rt i t r t.lv)):=by
 rw [tellB,h1]
 dsimp only
 rw [h2]
theorem tellB_none {l:Led} {kn:Int} {T:List Bool} {i:Nat} {t:Rtn} (h1:rcIx l.rc t.rcp kn=none):tellB l kn T i t=false:=by
 rw [tellB,h1]
theorem rcIx_some {l:Led} {src kn:Int} {ix:Nat} (h:rcIx l.rc src kn=some ix):∃ r,l.rc[ix]?=some r∧r.src=src∧countsB r.kn r.un kn=true:=by
 obtain ⟨hl,hp,_⟩:=List.findIdx?_eq_some_iff_getElem.1 h
 simp only [rcAt,Bool.and_eq_true,decide_eq_true_eq] at hp
 exact ⟨_,List.getElem?_eq_getElem hl,hp.1,hp.2⟩
theorem r_receiptOf_v (l:Led) (x:Lsl) (src kn v:Int) (w:World) (hn:x.rn≤1000000) (hd:LedIn w w.heap.size x l) (h:ixI (rcIx l.rc src kn)=v) :
 Calls Tryz.prog 116 #[.agg #[.slice x.pA x.pn x.pc,.slice x.rA x.rn x.rc,.slice x.tA x.tn x.tc,.slice x.sA x.sn x.sc],.int .i64 src,.int .i64 kn] w fun e w'=>e=.returned (.int .i64 v)∧Below w.heap.size w w':=h ▸ r_receiptOf l x src kn w hn hd
theorem r_earliest_v (t:Rtn) (r:Rcp) (m:Int) (A B:Option Addr) (n c n2 c2:Nat) (w:World) (hd:0≤r.day) (hd2:r.day≤1000000) (h:max t.lo (r.day+1)=m) :
 Calls Tryz.prog 165 #[.agg #[.int .i64 t.src,.int .i64 t.rcp,.int .i64 t.per,.slice A n c,.int .i64 t.lo,.int .i64 t.hi,.int .i64 t.kn,.int .i64 t.un],.agg #[.int .i64 r.src,.int .i64 r.bor,.int .i64 r.pap,.slice B n2 c2,.int .i64 r.day,.int .i64 r.kn,.int .i64 r.un]] w fun e w'=>e=.returned (.int .i64 m)∧Below w.heap.size w w':=h ▸ r_earliest t r A B n c n2 c2 w hd hd2
def RetTl (l:Led) (kn:Int) (n:Nat) (w:World) (e:Ending) (w':World):Prop:=∃ B c,e=.returned (.slice (some ⟨B,0,none⟩) n c)∧Below w.heap.size w w'∧BoxA w' B 4 (boolL (tellK l kn l.rt.length)).toArray∧w.heap.size≤B
set_option maxRecDepth 10000 in
set_option maxHeartbeats 8000000 in
theorem r_telling (l:Led) (x:Lsl) (kn:Int) (w:World) (hl:LedOk l) (hd:LedIn w w.heap.size x l) :
 Calls Tryz.prog 103 #[.agg #[.slice x.pA x.pn x.pc,.slice x.rA x.rn x.rc,.slice x.tA x.tn x.tc,.slice x.sA x.sn x.sc],.int .i64 kn] w (RetTl l kn x.tn w):=by
 obtain ⟨pA,pn,pc,rA,rn,rc,tA,tn,tc,sA,sn,sc⟩:=x
 show Calls _ _ #[.agg #[.slice pA pn pc,.slice rA rn rc,.slice tA tn tc,.slice sA sn sc],_] _ (RetTl l kn tn w)
 have HR:Hid (Rcs w w.heap.size rA rn l.rc):=by show Sq _ _ _ _ _ _ _;exact hd.r
 have HT:Hid (Rts w w.heap.size tA tn l.rt):=by show Sq _ _ _ _ _ _ _;exact hd.t
 have hrn6:rn≤1000000:=by have h:=HR.out.len;have h2:=hl.rn;omega
 have htn:tn≤60:=by have h:=HT.out.len;have h2:=hl.tn;omega
 have HTL:Hid (l.rt.length=tn):=by show _=_;exact HT.out.len
 have HRL:Hid (l.rc.length=rn):=by show _=_;exact HR.out.len
 have HD:=Lib.hid hd
 have HLO:=Lib.hid hl
 have hmb:=make_bool tn (by omega)
 clear hd hl
 go_enter Tryz.func103,Tryz.ntmps103
 go_wp2
 go_loopw [6] (fun i wr=>∃ k:Nat,k≤tn∧i=.int .i64 k∧Below w.heap.size w wr∧BoxA wr w.heap.size 27 #[.slice pA pn pc,.slice rA rn rc,.slice tA tn tc,.slice sA sn sc]∧BoxA wr (w.heap.size+1) 4 (boolL (tellK l kn k)).toArray) (fun i _=>tn - (intOf i).toNat)
 case atStart =>
  refine ⟨0,by omega,rfl,by exact bel_,(BoxA.new _ _ _).alloc _,?_⟩
  have h:=BoxA.new (w.alloc (.cells #[.slice pA pn pc,.slice rA rn rc,.slice tA tn tc,.slice sA sn sc] 27)) 4 (boolL (List.replicate tn false)).toArray
  rw [World.size_alloc] at h
  rw [tellK,HTL.out]
  exact h
 case round =>
  obtain ⟨k,hk,rfl,hB,bL,bT⟩:=hrel
  obtain ⟨wz,rfl⟩:∃ wz,wz=wr:=⟨_,rfl⟩
  have hs0:=hB.size
  have kL:=bL.cell
  have zL:=bL.lt
  have zT:=bT.lt
  by_cases hlt:k<tn
  ·obtain ⟨bt,ot,t,rfl,hbt,hx,A2,n2,c2,⟨h0,h1,h2,h3,h4,h5,h6,h7⟩,hi1,hc1,hm1⟩:=HT.out.at_ hlt
   have e0:=(hB.cell (p:=⟨bt,ot+k*8,none⟩) hbt).trans h0
   have e1:=(hB.cell (p:=⟨bt,ot+k*8+1,none⟩) hbt).trans h1
   have e2:=(hB.cell (p:=⟨bt,ot+k*8+2,none⟩) hbt).trans h2
   have e3:=(hB.cell (p:=⟨bt,ot+k*8+3,none⟩) hbt).trans h3
   have e4:=(hB.cell (p:=⟨bt,ot+k*8+4,none⟩) hbt).trans h4
   have e5:=(hB.cell (p:=⟨bt,ot+k*8+5,none⟩) hbt).trans h5
   have e6:=(hB.cell (p:=⟨bt,ot+k*8+6,none⟩) hbt).trans h6
   have e7:=(hB.cell (p:=⟨bt,ot+k*8+7,none⟩) hbt).trans h7
   have hbtr:bt<wz.heap.size:=by omega
   have hn2:n2≤9223372036854775807:=by have:maxLen≤9223372036854775807:=(by decide);omega
   have HX:=Lib.hid hx
   clear hx h0 h1 h2 h3 h4 h5 h6 h7
   cases hq:rcIx l.rc t.rcp kn with
   | none =>
     have HQ:Hid (ixI (rcIx l.rc t.rcp kn)=-1):=by show _=_;rw [hq];rfl
     have HN:Hid (tellK l kn (k+1)=tellK l kn k):=by show _=_;exact tellK_no HX.out (tellB_none hq)
     clear hq
     go_wp2_with (go_at_call 116;refine (r_receiptOf_v l ⟨pA,pn,pc,rA,rn,rc,some ⟨bt,ot,none⟩,tn,tc,sA,sn,sc⟩ t.rcp kn (-1) _ hrn6 (HD.out.now (by exact bel_)) HQ.out).mono ?_;rintro e w5 ⟨rfl,hb5⟩;have HB5:Below w.heap.size w w5:=Below.then_ (by exact bel_) hb5;have hs5:=HB5.size;have bR5:=(BoxA.new wz 36 #[.int .i64 t.src,.int .i64 t.rcp,.int .i64 t.per,.slice A2 n2 c2,.int .i64 t.lo,.int .i64 t.hi,.int .i64 t.kn,.int .i64 t.un]).ext hb5;have kR5:=bR5.cell;have zR5:=bR5.lt;have bL5:=(bL.alloc _).ext hb5;have kL5:=bL5.cell;have zL5:=bL5.lt;have bT5:=(bT.alloc _).ext hb5;clear kL zL)
     (refine rg_ ?_;(repeat (go_big_quiet_step (fail)));refine qn_ fun w1 hb1 hc1 hf1=>?_)
     go_wp2_with fail
     go_roundw
     case rel=>exact ⟨k+1,by omega,by go_num,HB5.trans (hb1.mono (by omega)),bL5.ext hb1,by rw [HN.out];exact bT5.ext hb1⟩
     case measure=>exact ms_
   | some ix =>
     obtain ⟨r,hr,hrs,hrc⟩:=rcIx_some hq
     have hix:ix<rn:=by rw [← HRL.out];exact (List.getElem?_eq_some_iff.1 hr).1
     obtain ⟨br,or_,r',rfl,hbr,hrx,A1,n1,c1,⟨g0,g1,g2,g3,g4,g5,g6⟩,gi,gc,gm⟩:=HR.out.at_ hix
     obtain rfl:r=r':=Option.some.inj (hr.symm.trans hrx)
     have hn1:n1≤9223372036854775807:=by have:maxLen≤9223372036854775807:=(by decide);omega
     have hday:=(HLO.out.rc r (List.mem_of_getElem? hr)).2.2.2
     have hd1:0≤r.day:=hday.1
     have hd2:r.day≤1000000:=by omega
     have HTB:Hid (∀ T i,tellB l kn T i t=(countsB t.kn t.un kn && (!decide (t.hi<max t.lo (r.day+1)) && fineB T l.rt i t r t.lv))):=by show ∀ _,_;exact fun T i=>tellB_some hq hr
     have HQ:Hid (ixI (rcIx l.rc t.rcp kn)=(ix:Int)):=by show _=_;rw [hq];rfl
     have hixn:decide ((ix:Int)<0)=false:=by simp
     clear hq hr hrx hday hrs hrc
     cases hcn:countsB t.kn t.un kn with
     | false =>
       have HN:Hid (tellK l kn (k+1)=tellK l kn k):=by show _=_;exact tellK_no HX.out (by rw [HTB.out,hcn];rfl)
       have HC:=Lib.hid hcn
       clear hcn
       go_wp2_with (go_at_call 116;refine (r_receiptOf_v l ⟨pA,pn,pc,some ⟨br,or_,none⟩,rn,rc,some ⟨bt,ot,none⟩,tn,tc,sA,sn,sc⟩ t.rcp kn (ix) _ hrn6 (HD.out.now (by exact bel_)) HQ.out).mono ?_;rintro e w5 ⟨rfl,hb5⟩;have HB5:Below w.heap.size w w5:=Below.then_ (by exact bel_) hb5;have hs5:=HB5.size;have bR5:=(BoxA.new wz 36 #[.int .i64 t.src,.int .i64 t.rcp,.int .i64 t.per,.slice A2 n2 c2,.int .i64 t.lo,.int .i64 t.hi,.int .i64 t.kn,.int .i64 t.un]).ext hb5;have kR5:=bR5.cell;have zR5:=bR5.lt;have bL5:=(bL.alloc _).ext hb5;have kL5:=bL5.cell;have zL5:=bL5.lt;have bT5:=(bT.alloc _).ext hb5;clear kL zL;have hbr5:br<w5.heap.size:=(by omega);have d0:=(HB5.cell (p:=⟨br,or_+ix*7,none⟩) hbr).trans g0;have d1:=(HB5.cell (p:=⟨br,or_+ix*7+1,none⟩) hbr).trans g1;have d2:=(HB5.cell (p:=⟨br,or_+ix*7+2,none⟩) hbr).trans g2;have d3:=(HB5.cell (p:=⟨br,or_+ix*7+3,none⟩) hbr).trans g3;have d4:=(HB5.cell (p:=⟨br,or_+ix*7+4,none⟩) hbr).trans g4;have d5:=(HB5.cell (p:=⟨br,or_+ix*7+5,none⟩) hbr).trans g5;have d6:=(HB5.cell (p:=⟨br,or_+ix*7+6,none⟩) hbr).trans g6)
       (refine rg_ ?_;(repeat (go_big_quiet_step ((first | (go_at_call 164;exact Calls.grow_same (r_counts2_v _ _ _ false _ HC.out))))));refine qn_ fun w1 hb1 hc1 hf1=>?_)
       go_wp2_with fail
       go_roundw
       case rel=>exact ⟨k+1,by omega,by go_num,HB5.trans (hb1.mono (by omega)),bL5.ext hb1,by rw [HN.out];exact bT5.ext hb1⟩
       case measure=>exact ms_
     | true =>
       obtain ⟨mx,hmx⟩:∃ mx,max t.lo (r.day+1)=mx:=⟨_,rfl⟩
       cases hgt:decide (mx>t.hi) with
       | true =>
         have HN:Hid (tellK l kn (k+1)=tellK l kn k):=by show _=_;exact tellK_no HX.out (by rw [HTB.out,hmx,show decide (t.hi<mx)=true from hgt];simp)
         have HC:=Lib.hid hcn
         have HMX:=Lib.hid hmx
         clear hcn hmx
         go_wp2_with (go_at_call 116;refine (r_receiptOf_v l ⟨pA,pn,pc,some ⟨br,or_,none⟩,rn,rc,some ⟨bt,ot,none⟩,tn,tc,sA,sn,sc⟩ t.rcp kn (ix) _ hrn6 (HD.out.now (by exact bel_)) HQ.out).mono ?_;rintro e w5 ⟨rfl,hb5⟩;have HB5:Below w.heap.size w w5:=Below.then_ (by exact bel_) hb5;have hs5:=HB5.size;have bR5:=(BoxA.new wz 36 #[.int .i64 t.src,.int .i64 t.rcp,.int .i64 t.per,.slice A2 n2 c2,.int .i64 t.lo,.int .i64 t.hi,.int .i64 t.kn,.int .i64 t.un]).ext hb5;have kR5:=bR5.cell;have zR5:=bR5.lt;have bL5:=(bL.alloc _).ext hb5;have kL5:=bL5.cell;have zL5:=bL5.lt;have bT5:=(bT.alloc _).ext hb5;clear kL zL;have hbr5:br<w5.heap.size:=(by omega);have d0:=(HB5.cell (p:=⟨br,or_+ix*7,none⟩) hbr).trans g0;have d1:=(HB5.cell (p:=⟨br,or_+ix*7+1,none⟩) hbr).trans g1;have d2:=(HB5.cell (p:=⟨br,or_+ix*7+2,none⟩) hbr).trans g2;have d3:=(HB5.cell (p:=⟨br,or_+ix*7+3,none⟩) hbr).trans g3;have d4:=(HB5.cell (p:=⟨br,or_+ix*7+4,none⟩) hbr).trans g4;have d5:=(HB5.cell (p:=⟨br,or_+ix*7+5,none⟩) hbr).trans g5;have d6:=(HB5.cell (p:=⟨br,or_+ix*7+6,none⟩) hbr).trans g6)
         (refine rg_ ?_;(repeat (go_big_quiet_step ((first | (go_at_call 164;exact Calls.grow_same (r_counts2_v _ _ _ true _ HC.out)) | (go_at_call 165;exact Calls.grow_of (r_earliest_v t r mx A2 A1 n2 c2 n1 c1 _ hd1 hd2 HMX.out))))));refine qn_ fun w1 hb1 hc1 hf1=>?_)
         go_wp2_with fail
         go_roundw
         case rel=>exact ⟨k+1,by omega,by go_num,HB5.trans (hb1.mono (by omega)),bL5.ext hb1,by rw [HN.out];exact bT5.ext hb1⟩
         case measure=>exact ms_
       | false =>
         have HN:Hid (tellK l kn (k+1)=(tellK l kn k).set k (fineB (tellK l kn k) l.rt k t r t.lv)):=by show _=_;exact tellK_set HX.out (by rw [HTB.out,hcn,hmx,show decide (t.hi<mx)=false from hgt];simp)
         have HC:=Lib.hid hcn
         have HMX:=Lib.hid hmx
         clear hcn hmx
         go_wp2_with (go_at_call 116;refine (r_receiptOf_v l ⟨pA,pn,pc,some ⟨br,or_,none⟩,rn,rc,some ⟨bt,ot,none⟩,tn,tc,sA,sn,sc⟩ t.rcp kn (ix) _ hrn6 (HD.out.now (by exact bel_)) HQ.out).mono ?_;rintro e w5 ⟨rfl,hb5⟩;have HB5:Below w.heap.size w w5:=Below.then_ (by exact bel_) hb5;have hs5:=HB5.size;have bR5:=(BoxA.new wz 36 #[.int .i64 t.src,.int .i64 t.rcp,.int .i64 t.per,.slice A2 n2 c2,.int .i64 t.lo,.int .i64 t.hi,.int .i64 t.kn,.int .i64 t.un]).ext hb5;have kR5:=bR5.cell;have zR5:=bR5.lt;have bL5:=(bL.alloc _).ext hb5;have kL5:=bL5.cell;have zL5:=bL5.lt;have bT5:=(bT.alloc _).ext hb5;clear kL zL;have hbr5:br<w5.heap.size:=(by omega);have d0:=(HB5.cell (p:=⟨br,or_+ix*7,none⟩) hbr).trans g0;have d1:=(HB5.cell (p:=⟨br,or_+ix*7+1,none⟩) hbr).trans g1;have d2:=(HB5.cell (p:=⟨br,or_+ix*7+2,none⟩) hbr).trans g2;have d3:=(HB5.cell (p:=⟨br,or_+ix*7+3,none⟩) hbr).trans g3;have d4:=(HB5.cell (p:=⟨br,or_+ix*7+4,none⟩) hbr).trans g4;have d5:=(HB5.cell (p:=⟨br,or_+ix*7+5,none⟩) hbr).trans g5;have d6:=(HB5.cell (p:=⟨br,or_+ix*7+6,none⟩) hbr).trans g6)
         (refine rg_ ?_;(repeat (go_big_quiet_step ((first | (go_at_call 164;exact Calls.grow_same (r_counts2_v _ _ _ true _ HC.out)) | (go_at_call 165;exact Calls.grow_of (r_earliest_v t r mx A2 A1 n2 c2 n1 c1 _ hd1 hd2 HMX.out))))));refine qn_ fun w1 hb1 hc1 hf1=>?_)
         obtain ⟨wo,rfl⟩:∃ wo,wo=w1:=⟨_,rfl⟩
         have HBo:Hid (Below w.heap.size w wo):=by show Below _ _ _;exact HB5.trans (hb1.mono (by omega))
         have hso:=HBo.out.size
         have bRo:=bR5.ext hb1
         have bLo:=bL5.ext hb1
         have bTo:=bT5.ext hb1
         have zRo:=bRo.lt
         have zTo:=bTo.lt
         clear hb1 hc1 hf1 hb5 bR5 bL5 bT5 kR5 kL5 zR5 zL5 bL bT hgt
         go_wp2_with fail
         go_loopw [9,10] (fun f i wq=>∃ j:Nat,j≤n2∧i=.int .i64 j∧f=.bool (fineB (tellK l kn k) l.rt k t r (t.lv.take j))∧Below wo.heap.size wo wq) (fun _ i _=>n2 - (intOf i).toNat)
         case atStart=>exact ⟨0,by omega,rfl,rfl,Below.refl _ _⟩
         case round =>
          obtain ⟨j,hj,rfl,rfl,hQ⟩:=hrel
          obtain ⟨F,hF⟩:∃ F,fineB (tellK l kn k) l.rt k t r (t.lv.take j)=F:=⟨_,rfl⟩
          rw [hF]
          have hBq:Below w.heap.size w wr:=HBo.out.trans (hQ.mono hso)
          have hsq:=hBq.size
          have bRq:=bRo.ext hQ
          have kRq:=bRq.cell
          have zRq:=bRq.lt
          by_cases hjl:j<n2
          ·obtain ⟨b_y,oy,y,rfl,hby,hy,hcy⟩:=hi1.at_ hjl
           have cy:=(hBq.cell (p:=⟨b_y,oy+j,none⟩) hby).trans hcy
           have hby':b_y<wr.heap.size:=by omega
           have bLq:=bLo.ext hQ
           have kLq:=bLq.cell
           have zLq:=bLq.lt
           have q3:=(hBq.cell (p:=⟨br,or_+ix*7+3,none⟩) hbr).trans g3
           have hbr':br<wr.heap.size:=by omega
           have HFF:=Lib.hid (fineB_succ (T:=tellK l kn k) (rt:=l.rt) (i:=k) (t:=t) (r:=r) hy)
           have HI1:Hid (Is wr wr.heap.size A1 n1 r.lv):=by show Is _ _ _ _ _;exact gi.now hBq
           have HF:=Lib.hid hF
           clear hy hF
           cases F with
           | false =>
             have HFS:Hid (fineB (tellK l kn k) l.rt k t r (t.lv.take (j+1))=false):=by show _=_;rw [HFF.out,HF.out];rfl
             go_wp2_with fail
             (refine rg_ ?_;(repeat (go_big_quiet_step (fail)));refine qn_ fun w1 hb1 hc1 hf1=>?_)
             have hQ1:Below wo.heap.size wo w1:=Below.then_ hQ hb1
             clear hb1 hc1 hf1
             go_wp2_with fail
             go_loopw [9,11] (fun f i wq=>∃ m:Nat,m≤k∧i=.int .i64 m∧f=.bool false∧Below wo.heap.size wo wq) (fun _ i _=>k - (intOf i).toNat)
             case atStart=>exact ⟨0,by omega,rfl,rfl,hQ1⟩
             case round =>
              obtain ⟨m,hm,rfl,rfl,hM⟩:=hrel
              have bLm:=bLo.ext hM
              have kLm:=bLm.cell
              have zLm:=bLm.lt
              have bRm:=bRo.ext hM
              have kRm:=bRm.cell
              have zRm:=bRm.lt
              by_cases hmk:m<k
              ·go_wp2_with fail
               (refine rg_ ?_;(repeat (go_big_quiet_step (fail)));refine qn_ fun w1 hb1 hc1 hf1=>?_)
               go_wp2_with fail
               go_roundw
               case rel=>exact ⟨m+1,by omega,by go_num,rfl,Below.then_ hM hb1⟩
               case measure=>exact ms_
              ·go_wp2
               go_roundw
               case rel=>exact ⟨j+1,by omega,by go_num,by rw [HFS.out],hM⟩
               case measure=>exact ms_
           | true =>
             cases hmem:decide (y∈r.lv) with
             | false =>
               have HFS:Hid (fineB (tellK l kn k) l.rt k t r (t.lv.take (j+1))=false):=by show _=_;rw [HFF.out,HF.out,hmem];rfl
               have HM:=Lib.hid hmem
               clear hmem
               go_wp2_with fail
               (refine rg_ ?_;(repeat (go_big_quiet_step ((first | (go_at_call_of 65 (Value.slice A1 n1 c1);exact Calls.grow_all (fun g=>r_Has2_v r.lv y false A1 n1 c1 g.1 hn1 (HI1.out.now g.2) HM.out))))));refine qn_ fun w1 hb1 hc1 hf1=>?_)
               have hQ1:Below wo.heap.size wo w1:=Below.then_ hQ hb1
               clear hb1 hc1 hf1
               go_wp2_with fail
               go_loopw [9,11] (fun f i wq=>∃ m:Nat,m≤k∧i=.int .i64 m∧f=.bool false∧Below wo.heap.size wo wq) (fun _ i _=>k - (intOf i).toNat)
               case atStart=>exact ⟨0,by omega,rfl,rfl,hQ1⟩
               case round =>
                obtain ⟨m,hm,rfl,rfl,hM⟩:=hrel
                have bLm:=bLo.ext hM
                have kLm:=bLm.cell
                have zLm:=bLm.lt
                have bRm:=bRo.ext hM
                have kRm:=bRm.cell
                have zRm:=bRm.lt
                by_cases hmk:m<k
                ·go_wp2_with fail
                 (refine rg_ ?_;(repeat (go_big_quiet_step (fail)));refine qn_ fun w1 hb1 hc1 hf1=>?_)
                 go_wp2_with fail
                 go_roundw
                 case rel=>exact ⟨m+1,by omega,by go_num,rfl,Below.then_ hM hb1⟩
                 case measure=>exact ms_
                ·go_wp2
                 go_roundw
                 case rel=>exact ⟨j+1,by omega,by go_num,by rw [HFS.out],hM⟩
                 case measure=>exact ms_
             | true =>
               have HFS:Hid (fineB (tellK l kn k) l.rt k t r (t.lv.take (j+1))=!(((tellK l kn k).zip l.rt).take k).any (rtAt t.rcp y)):=by show _=_;rw [HFF.out,HF.out,hmem];rfl
               have HM:=Lib.hid hmem
               clear hmem
               go_wp2_with fail
               (refine rg_ ?_;(repeat (go_big_quiet_step ((first | (go_at_call_of 65 (Value.slice A1 n1 c1);exact Calls.grow_all (fun g=>r_Has2_v r.lv y true A1 n1 c1 g.1 hn1 (HI1.out.now g.2) HM.out))))));refine qn_ fun w1 hb1 hc1 hf1=>?_)
               have hQ1:Below wo.heap.size wo w1:=Below.then_ hQ hb1
               clear hb1 hc1 hf1
               go_wp2_with fail
               go_loopw [9,11] (fun f i wq=>∃ m:Nat,m≤k∧i=.int .i64 m∧f=.bool (!(((tellK l kn k).zip l.rt).take m).any (rtAt t.rcp y))∧Below wo.heap.size wo wq) (fun _ i _=>k - (intOf i).toNat)
               case atStart=>exact ⟨0,by omega,rfl,by simp,hQ1⟩
               case round =>
                obtain ⟨m,hm,rfl,rfl,hM⟩:=hrel
                have bLm:=bLo.ext hM
                have kLm:=bLm.cell
                have zLm:=bLm.lt
                have bRm:=bRo.ext hM
                have kRm:=bRm.cell
                have zRm:=bRm.lt
                have bTm:=bTo.ext hM
                have kTm:=bTm.cell
                have zTm:=bTm.lt
                have hMw:Below w.heap.size w wr:=HBo.out.trans (hM.mono hso)
                have hsm:=hMw.size
                obtain ⟨G,hG⟩:∃ G,(!(((tellK l kn k).zip l.rt).take m).any (rtAt t.rcp y))=G:=⟨_,rfl⟩
                rw [hG]
                by_cases hmk:m<k
                ·obtain ⟨bu,ou,u,eu,hbu,hux,A3,n3,c3,⟨_,f1,_,f3,_,_,_,_⟩,hi3,hc3,hm3⟩:=HT.out.at_ (show m<tn by omega)
                 obtain ⟨rfl,rfl⟩:bt=bu∧ot=ou:=by simpa using eu
                 obtain ⟨tb,htb⟩:∃ tb,(tellK l kn k)[m]?=some tb:=⟨_,List.getElem?_eq_getElem (by rw [tellK_len,HTL.out];omega)⟩
                 have hz:((tellK l kn k).zip l.rt)[m]?=some (tb,u):=by rw [List.getElem?_zip_eq_some];exact ⟨htb,hux⟩
                 have HGS:Hid ((!(((tellK l kn k).zip l.rt).take (m+1)).any (rtAt t.rcp y))=(G && !rtAt t.rcp y (tb,u))):=by show _=_;rw [any_take_succ2 hz,← hG,Bool.not_or]
                 have cT:wr.cell? ⟨w.heap.size+1,m,none⟩=some (.bool tb):=by rw [kTm];simp [boolL,htb]
                 have u1:=(hMw.cell (p:=⟨bt,ot+m*8+1,none⟩) hbt).trans f1
                 have u3:=(hMw.cell (p:=⟨bt,ot+m*8+3,none⟩) hbt).trans f3
                 have cy:=(hMw.cell (p:=⟨b_y,oy+j,none⟩) hby).trans hcy
                 have hbt':bt<wr.heap.size:=by omega
                 have hby':b_y<wr.heap.size:=by omega
                 have hn3:n3≤9223372036854775807:=by have:maxLen≤9223372036854775807:=(by decide);omega
                 have HI3:Hid (Is wr wr.heap.size A3 n3 u.lv):=by show Is _ _ _ _ _;exact hi3.now hMw
                 have hmt:m<tn:=by omega
                 clear hux htb hz eu f1 f3 hi3 hG kTm
                 cases G with
                 | false =>
                   have HGT:Hid ((!(((tellK l kn k).zip l.rt).take (m+1)).any (rtAt t.rcp y))=false):=by show _=_;rw [HGS.out];rfl
                   go_wp2_with fail
                   (refine rg_ ?_;(repeat (go_big_quiet_step (fail)));refine qn_ fun w1 hb1 hc1 hf1=>?_)
                   go_wp2_with fail
                   go_roundw
                   case rel=>exact ⟨m+1,by omega,by go_num,by rw [HGT.out],Below.then_ hM hb1⟩
                   case measure=>exact ms_
                 | true =>
                   cases tb with
                   | false =>
                     have HGT:Hid ((!(((tellK l kn k).zip l.rt).take (m+1)).any (rtAt t.rcp y))=true):=by show _=_;rw [HGS.out];rfl
                     go_wp2_with fail
                     (refine rg_ ?_;(repeat (go_big_quiet_step (fail)));refine qn_ fun w1 hb1 hc1 hf1=>?_)
                     go_wp2_with fail
                     go_roundw
                     case rel=>exact ⟨m+1,by omega,by go_num,by rw [HGT.out],Below.then_ hM hb1⟩
                     case measure=>exact ms_
                   | true =>
                     by_cases he:u.rcp=t.rcp
                     ·have hed:(u.rcp == t.rcp)=true:=by simpa using he
                      cases hq:decide (y∈u.lv) with
                      | true =>
                        have HGT:Hid ((!(((tellK l kn k).zip l.rt).take (m+1)).any (rtAt t.rcp y))=false):=by show _=_;rw [HGS.out];simp only [rtAt,hq];simp [he]
                        have HM:=Lib.hid hq
                        clear hq he
                        go_wp2_with fail
                        (refine rg_ ?_;(repeat (go_big_quiet_step ((first | (go_at_call_of 65 (Value.slice A3 n3 c3);exact Calls.grow_all (fun g=>r_Has2_v u.lv y true A3 n3 c3 g.1 hn3 (HI3.out.now g.2) HM.out))))));refine qn_ fun w1 hb1 hc1 hf1=>?_)
                        go_wp2_with fail
                        go_roundw
                        case rel=>exact ⟨m+1,by omega,by go_num,by rw [HGT.out],Below.then_ hM hb1⟩
                        case measure=>exact ms_
                      | false =>
                        have HGT:Hid ((!(((tellK l kn k).zip l.rt).take (m+1)).any (rtAt t.rcp y))=true):=by show _=_;rw [HGS.out];simp only [rtAt,hq];simp
                        have HM:=Lib.hid hq
                        clear hq he
                        go_wp2_with fail
                        (refine rg_ ?_;(repeat (go_big_quiet_step ((first | (go_at_call_of 65 (Value.slice A3 n3 c3);exact Calls.grow_all (fun g=>r_Has2_v u.lv y false A3 n3 c3 g.1 hn3 (HI3.out.now g.2) HM.out))))));refine qn_ fun w1 hb1 hc1 hf1=>?_)
                        go_wp2_with fail
                        go_roundw
                        case rel=>exact ⟨m+1,by omega,by go_num,by rw [HGT.out],Below.then_ hM hb1⟩
                        case measure=>exact ms_
                     ·have hed:(u.rcp == t.rcp)=false:=by simpa using he
                      have HGT:Hid ((!(((tellK l kn k).zip l.rt).take (m+1)).any (rtAt t.rcp y))=true):=by show _=_;rw [HGS.out];simp [rtAt,he]
                      clear he
                      go_wp2_with fail
                      (refine rg_ ?_;(repeat (go_big_quiet_step (fail)));refine qn_ fun w1 hb1 hc1 hf1=>?_)
                      go_wp2_with fail
                      go_roundw
                      case rel=>exact ⟨m+1,by omega,by go_num,by rw [HGT.out],Below.then_ hM hb1⟩
                      case measure=>exact ms_
                ·have hkm:Hid (m=k):=by show _=_;omega
                 have HG:=Lib.hid hG
                 clear hG
                 go_wp2
                 go_roundw
                 case rel=>exact ⟨j+1,by omega,by go_num,by have h:=hkm.out;subst h;rw [HFS.out,HG.out],hM⟩
                 case measure=>exact ms_
          ·have hjn:Hid (fineB (tellK l kn k) l.rt k t r t.lv=F):=by
            show _=_
            rw [← hF,List.take_of_length_le (by rw [hi1.len];omega)]
           have bTq:=bTo.ext hQ
           have kTq:=bTq.cell
           have zTq:=bTq.lt
           have fTq:=bTq.frozen
           have bLq:=bLo.ext hQ
           obtain ⟨ob,hob⟩:∃ ob,(tellK l kn k)[k]?=some ob:=⟨_,List.getElem?_eq_getElem (by rw [tellK_len,HTL.out];omega)⟩
           have cT:wr.cell? ⟨w.heap.size+1,k,none⟩=some (.bool ob):=by rw [kTq];simp [boolL,hob]
           clear hob hF kTq
           have HBT:=Lib.hid bTq
           have HBL:=Lib.hid bLq
           clear bTq bLq
           go_wp2_with fail
           go_roundw
           case rel=>exact ⟨k+1,by omega,by go_num,hBq.setCell (show w.heap.size≤w.heap.size+1 by omega) _,HBL.out.other (show w.heap.size≠w.heap.size+1 by omega) _,by rw [HN.out,hjn.out];exact HBT.out.setT k F⟩
           case measure=>exact ms_
  ·have hkn:Hid (k=l.rt.length):=by show _=_;rw [HTL.out];omega
   go_wp2
   go_ret
   exact ⟨_,_,rfl,hB,by rw [← hkn.out];exact bT,Nat.le_succ _⟩
end Go.Proofs.YtoiompoapikkbaaGreat
