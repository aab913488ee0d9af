/- Layer 2 of the texts that LoanBack takes: Bbmq. -/
import Derived.Test.YtmcmbicapdcfmaaGreatBbjq
import Derived.Test.YtmcmbicapdcfmaaGreatBbhq
import Derived.Test.YtmcmbicapdcfmaaGreatBbkq
import Derived.Test.YtmcmbicapdcfmaaGreatBblq
set_option linter.unusedVariables false
set_option linter.unusedSimpArgs false
set_option maxHeartbeats 16000000
namespace Go.Proofs.YtmcmbicapdcfmaaGreat
open Go.RowKit Go.Maps
theorem getD_setP (P:List (Int × Int)) (k j:Nat) (d:Int × Int):(P.set k d).getD j (0,0)=if k=j∧k<P.length then d else P.getD j (0,0):=by
 rw [List.getD_eq_getElem?_getD,List.getElem?_set,List.getD_eq_getElem?_getD]
 by_cases h1:k=j
 ·subst h1
  by_cases h2:k<P.length
  ·simp [h2]
  ·have h3:P[k]?=none:=List.getElem?_eq_none (by omega)
   simp [h2]
 ·simp [h1]
def Wd (Q P:List (Int × Int)):Prop:=Q.length=P.length∧∀ k,(Q.getD k (0,0)).1≤(P.getD k (0,0)).1∧(P.getD k (0,0)).2≤(Q.getD k (0,0)).2
theorem Wd.refl (P:List (Int × Int)):Wd P P:=⟨rfl,fun _=>⟨Int.le_refl _,Int.le_refl _⟩⟩
theorem Wd.trans {A B C:List (Int × Int)} (h:Wd A B) (g:Wd B C):Wd A C:=⟨h.1.trans g.1,fun k=>⟨Int.le_trans (h.2 k).1 (g.2 k).1,Int.le_trans (g.2 k).2 (h.2 k).2⟩⟩
theorem firstP_of {p:Rcp→Rcp→Bool}:∀ {l:List Rcp} {x y:Rcp},firstP p l=some (x,y)→[x,y].Sublist l∧p x y=true
 | [],_,_,h=>by cases h
 | z :: l,x,y,h=>by
   rw [firstP] at h
   split at h
   ·rename_i u hu
    cases h
    have h1:=List.find?_some hu
    exact ⟨(List.singleton_sublist.2 (List.mem_of_find?_eq_some hu)).cons_cons _,h1⟩
   ·obtain ⟨h1,h2⟩:=firstP_of h
    exact ⟨h1.cons _,h2⟩
def SW (b1 b2:Nat) (c1 c2:Array Value) (b o:Nat) (ec:List Value) (V:World):Prop:=S1 b1 b2 c1 c2 V∧b<V.heap.size∧∀ m u,ec[m]?=some u→V.cell? ⟨b,o+m,none⟩=some u
theorem SW.ext {b1 b2 b o:Nat} {c1 c2:Array Value} {ec:List Value} {V V':World} (hb:Below V.heap.size V V') (h:SW b1 b2 c1 c2 b o ec V):SW b1 b2 c1 c2 b o ec V':=by
 obtain ⟨h0,h1,h2⟩:=h
 have hs:=hb.size
 exact ⟨S1.ext hb h0,by omega,fun m u hu=>(hb.cell (p:=⟨b,o+m,none⟩) h1).trans (h2 m u hu)⟩
theorem SW.grownR {b1 b2 b o:Nat} {row:Option Nat} {c1 c2:Array Value} {ec:List Value} {V V':World} (hg:V.grownBy V' row) (h:SW b1 b2 c1 c2 b o ec V) (n1:some b1≠row) (n2:some b2≠row) (n3:some b≠row):SW b1 b2 c1 c2 b o ec V':=by
 obtain ⟨h0,h1,h2⟩:=h
 have hs:=hg.size
 have e3:=hg.block b h1 n3
 exact ⟨S1.grownR hg h0 n1 n2,by omega,fun m u hu=>by rw [← h2 m u hu];simp [World.cell?,e3]⟩
structure WoI (w wv W:World) (q:Nat) (OC:Array Value) (a b c:Nat × Value × List Value):Prop where
 bel:Below w.heap.size w W
 keep:∀ k,k<wv.heap.size→k≠q→W.heap[k]?=wv.heap[k]?
 sz:wv.heap.size≤W.heap.size
 bO:BoxA W q 32 OC
 r:W.ownsRow wv.heap.size 79 7 a.2.1 a.1 a.2.2
 t:W.ownsRow wv.heap.size 75 8 b.2.1 b.1 b.2.2
 s:W.ownsRow wv.heap.size 70 7 c.2.1 c.1 c.2.2
theorem WoI.appR {w wv wr w5 w6:World} {q:Nat} {OC:Array Value} {a b c:Nat × Value × List Value} {n2:Nat} {v2:Value} {x2:List Value} (h:WoI w wv wr q OC a b c) (hq:w.heap.size≤q∧q<wv.heap.size) (hwv:w.heap.size≤wv.heap.size) (h5:Below wr.heap.size wr w5) (ho6:w6.ownsRow wv.heap.size 79 7 v2 n2 x2) (hg6:w5.grownBy w6 a.2.1.ownBlock) (u:Value):WoI w wv (w6.setCell ⟨q,1,none⟩ u) q (OC.setIfInBounds 1 u) (n2,v2,x2) b c:=by
 have h5o:=own_ex h.r h5
 have hbO:BoxA w6 q 32 OC:=(h.bO.ext h5).kept hg6 (own_ne h5o (h.bO.ext h5) (by decide))
 have hs:=grown_setCell w6 q 1 u
 have hsz:=h.sz
 have hsz5:=h5.size
 have hsz6:=hg6.size
 refine ⟨?_,fun k hk hne=>?_,by simp;omega,hbO.set 1 u,(ho6.kept hs (.inr fun e=>own_ne ho6 (hbO) (by decide) e.symm)),((own_other (own_ex h.t h5) (own_ex h.r h5) (by decide) hg6).kept hs (.inr fun e=>own_ne (own_other (own_ex h.t h5) (own_ex h.r h5) (by decide) hg6) hbO (by decide) e.symm)),((own_other (own_ex h.s h5) (own_ex h.r h5) (by decide) hg6).kept hs (.inr fun e=>own_ne (own_other (own_ex h.s h5) (own_ex h.r h5) (by decide) hg6) hbO (by decide) e.symm))⟩
 ·have h1:Below w.heap.size w w5:=h.bel.trans (h5.mono h.bel.size)
  have h2:Below w.heap.size w w6:=h1.grown hg6 h1.size fun k ek=>Nat.le_trans hwv (own_le h5o ek)
  exact h2.setCell hq.1 _
 ·have e1:(w6.setCell ⟨q,1,none⟩ u).heap[k]?=w6.heap[k]?:=hs.block k (by omega) (fun e=>hne (by injection e))
  have e2:w6.heap[k]?=w5.heap[k]?:=hg6.block k (by omega) (fun e=>by have:=own_le h5o e.symm;omega)
  have e3:w5.heap[k]?=wr.heap[k]?:=h5.block k (by omega)
  rw [e1,e2,e3]
  exact h.keep k hk hne
theorem WoI.appT {w wv wr w5 w6:World} {q:Nat} {OC:Array Value} {a b c:Nat × Value × List Value} {n2:Nat} {v2:Value} {x2:List Value} (h:WoI w wv wr q OC a b c) (hq:w.heap.size≤q∧q<wv.heap.size) (hwv:w.heap.size≤wv.heap.size) (h5:Below wr.heap.size wr w5) (ho6:w6.ownsRow wv.heap.size 75 8 v2 n2 x2) (hg6:w5.grownBy w6 b.2.1.ownBlock) (u:Value):WoI w wv (w6.setCell ⟨q,2,none⟩ u) q (OC.setIfInBounds 2 u) a (n2,v2,x2) c:=by
 have h5o:=own_ex h.t h5
 have hbO:BoxA w6 q 32 OC:=(h.bO.ext h5).kept hg6 (own_ne h5o (h.bO.ext h5) (by decide))
 have hs:=grown_setCell w6 q 2 u
 have hsz:=h.sz
 have hsz5:=h5.size
 have hsz6:=hg6.size
 refine ⟨?_,fun k hk hne=>?_,by simp;omega,hbO.set 2 u,((own_other (own_ex h.r h5) (own_ex h.t h5) (by decide) hg6).kept hs (.inr fun e=>own_ne (own_other (own_ex h.r h5) (own_ex h.t h5) (by decide) hg6) hbO (by decide) e.symm)),(ho6.kept hs (.inr fun e=>own_ne ho6 (hbO) (by decide) e.symm)),((own_other (own_ex h.s h5) (own_ex h.t h5) (by decide) hg6).kept hs (.inr fun e=>own_ne (own_other (own_ex h.s h5) (own_ex h.t h5) (by decide) hg6) hbO (by decide) e.symm))⟩
 ·have h1:Below w.heap.size w w5:=h.bel.trans (h5.mono h.bel.size)
  have h2:Below w.heap.size w w6:=h1.grown hg6 h1.size fun k ek=>Nat.le_trans hwv (own_le h5o ek)
  exact h2.setCell hq.1 _
 ·have e1:(w6.setCell ⟨q,2,none⟩ u).heap[k]?=w6.heap[k]?:=hs.block k (by omega) (fun e=>hne (by injection e))
  have e2:w6.heap[k]?=w5.heap[k]?:=hg6.block k (by omega) (fun e=>by have:=own_le h5o e.symm;omega)
  have e3:w5.heap[k]?=wr.heap[k]?:=h5.block k (by omega)
  rw [e1,e2,e3]
  exact h.keep k hk hne
theorem WoI.appS {w wv wr w5 w6:World} {q:Nat} {OC:Array Value} {a b c:Nat × Value × List Value} {n2:Nat} {v2:Value} {x2:List Value} (h:WoI w wv wr q OC a b c) (hq:w.heap.size≤q∧q<wv.heap.size) (hwv:w.heap.size≤wv.heap.size) (h5:Below wr.heap.size wr w5) (ho6:w6.ownsRow wv.heap.size 70 7 v2 n2 x2) (hg6:w5.grownBy w6 c.2.1.ownBlock) (u:Value):WoI w wv (w6.setCell ⟨q,3,none⟩ u) q (OC.setIfInBounds 3 u) a b (n2,v2,x2):=by
 have h5o:=own_ex h.s h5
 have hbO:BoxA w6 q 32 OC:=(h.bO.ext h5).kept hg6 (own_ne h5o (h.bO.ext h5) (by decide))
 have hs:=grown_setCell w6 q 3 u
 have hsz:=h.sz
 have hsz5:=h5.size
 have hsz6:=hg6.size
 refine ⟨?_,fun k hk hne=>?_,by simp;omega,hbO.set 3 u,((own_other (own_ex h.r h5) (own_ex h.s h5) (by decide) hg6).kept hs (.inr fun e=>own_ne (own_other (own_ex h.r h5) (own_ex h.s h5) (by decide) hg6) hbO (by decide) e.symm)),((own_other (own_ex h.t h5) (own_ex h.s h5) (by decide) hg6).kept hs (.inr fun e=>own_ne (own_other (own_ex h.t h5) (own_ex h.s h5) (by decide) hg6) hbO (by decide) e.symm)),(ho6.kept hs (.inr fun e=>own_ne ho6 (hbO) (by decide) e.symm))⟩
 ·have h1:Below w.heap.size w w5:=h.bel.trans (h5.mono h.bel.size)
  have h2:Below w.heap.size w w6:=h1.grown hg6 h1.size fun k ek=>Nat.le_trans hwv (own_le h5o ek)
  exact h2.setCell hq.1 _
 ·have e1:(w6.setCell ⟨q,3,none⟩ u).heap[k]?=w6.heap[k]?:=hs.block k (by omega) (fun e=>hne (by injection e))
  have e2:w6.heap[k]?=w5.heap[k]?:=hg6.block k (by omega) (fun e=>by have:=own_le h5o e.symm;omega)
  have e3:w5.heap[k]?=wr.heap[k]?:=h5.block k (by omega)
  rw [e1,e2,e3]
  exact h.keep k hk hne
theorem pair_lt {α:Type} {r:α→α→Prop} {l:List α} {x y:α} (h:l.Pairwise r) (hs:[x,y].Sublist l):r x y:=by
 have:=h.sublist hs
 simpa using this
theorem sub2_of {α:Type} {num:α→Int}:∀ {l:List α} {x y:α},l.Pairwise (fun a b=>num a<num b)→x∈l→y∈l→num x<num y→[x,y].Sublist l
 | z :: l,x,y,h,hx,hy,hl=>by
   rw [List.pairwise_cons] at h
   by_cases ex:x=z
   ·by_cases ey:y=z
    ·rw [ex,ey] at hl;omega
    ·rw [ex]
     exact (List.singleton_sublist.2 ((List.mem_cons.1 hy).resolve_left ey)).cons_cons _
   ·by_cases ey:y=z
    ·have:=h.1 x ((List.mem_cons.1 hx).resolve_left ex)
     rw [ey] at hl
     omega
    ·exact (sub2_of h.2 ((List.mem_cons.1 hx).resolve_left ex) ((List.mem_cons.1 hy).resolve_left ey) hl).cons _
theorem foldl_le {α:Type} {f:Int→α→Int} {q:Int→α→Prop} (h:∀ v a x,v≤f a x↔v≤a∧q v x) (v:Int):∀ (l:List α) (a:Int),v≤l.foldl f a↔v≤a∧∀ x∈l,q v x
 | [],a=>by simp
 | x :: l,a=>by
   rw [List.foldl_cons,foldl_le h v l,h,and_assoc]
   simp
theorem hiStep_le (d v h:Int) (x:Rcp):v≤hiStep d h x↔v≤h∧(d<x.day→v≤x.day):=by
 unfold hiStep
 split <;> rename_i hd <;> simp [hd] <;> omega
theorem hiK_le (R:List Rcp) (r:Rcp) (h v:Int) (l:List Int):v≤hiK R r h l↔v≤h∧∀ x∈l,∀ u∈R.filter (isOfB r.pap x),r.day<u.day→v≤u.day:=by
 rw [hiK]
 exact foldl_le (q:=fun v x=>∀ u∈R.filter (isOfB r.pap x),r.day<u.day→v≤u.day) (fun v a x=>by rw [hiL];exact foldl_le (fun v a u=>hiStep_le r.day v a u) v _ a) v l h
def refHi (kn:Int) (r:Rcp) (lv:List Int) (h:Int) (u:Rcp):Int:=lv.foldl (fun h x=>if r.day<u.day∧(countsB u.kn u.un kn && isOfB r.pap x u)=true then min h u.day else h) h
theorem refHi_le (kn v:Int) (r:Rcp) (lv:List Int) (h:Int) (u:Rcp):v≤refHi kn r lv h u↔v≤h∧∀ x∈lv,r.day<u.day∧(countsB u.kn u.un kn && isOfB r.pap x u)=true→v≤u.day:=by
 rw [refHi]
 refine foldl_le (q:=fun v x=>r.day<u.day∧(countsB u.kn u.un kn && isOfB r.pap x u)=true→v≤u.day) (fun v a x=>?_) v lv h
 split
 ·rename_i hc
  constructor
  ·intro hv;exact ⟨by omega,fun _=>by omega⟩
  ·rintro ⟨h1,h2⟩;have:=h2 hc;omega
 ·rename_i hc
  exact ⟨fun hv=>⟨hv,fun h2=>absurd h2 hc⟩,fun hv=>hv.1⟩
theorem hi_ref (l:Led) (kn:Int) (r:Rcp) (h:Int) (lv:List Int):hiK (cntR l kn) r h lv=l.rc.foldl (refHi kn r lv) h:=by
 have e:∀ v,v≤hiK (cntR l kn) r h lv↔v≤l.rc.foldl (refHi kn r lv) h:=fun v=>by
  rw [hiK_le,foldl_le (fun v a u=>refHi_le kn v r lv a u)]
  refine and_congr_right fun _=>⟨fun H u hu x hx hc=>?_,fun H x hx u hu hd=>?_⟩
  ·simp only [Bool.and_eq_true] at hc
   exact H x hx u (List.mem_filter.2 ⟨List.mem_filter.2 ⟨hu,by simpa using hc.2.1⟩,hc.2.2⟩) hc.1
  ·obtain ⟨h1,h2⟩:=List.mem_filter.1 hu
   obtain ⟨h3,h4⟩:=List.mem_filter.1 h1
   exact H u h3 x hx ⟨hd,by simp only [Bool.and_eq_true];exact ⟨by simpa using h4,h2⟩⟩
 have h1:=(e (hiK (cntR l kn) r h lv)).1 (Int.le_refl _)
 have h2:=(e (l.rc.foldl (refHi kn r lv) h)).2 (Int.le_refl _)
 omega
def byR (l:Led) (T:List Bool) (kn:Int) (i:Nat):Int × Int:=match T[i]?,l.rt[i]? with
 | some true,some t=>(match findR (cntR l kn) t.rcp with
   | some r=>(max t.lo (r.day+1),l.rc.foldl (refHi kn r t.lv) t.hi)
   | none=>(0,100000))
 | _,_=>(0,100000)
theorem opn_by (l:Led) (kn:Int):∀ k,k≤l.rt.length→∀ j,j<k→(opnK kn (cntR l kn) l.rt l.rt.length k).P[j]?=some (byR l (opnK kn (cntR l kn) l.rt l.rt.length k).T kn j)
 | 0,_,j,hj=>by omega
 | k+1,hk,j,hj=>by
   have ih:=opn_by l kn k (by omega)
   obtain ⟨_,i2⟩:=opn_inv kn (cntR l kn) l.rt k (by omega)
   have hP:=(opnK_len kn (cntR l kn) l.rt l.rt.length k).2
   have hTl:=(opnK_len kn (cntR l kn) l.rt l.rt.length k).1
   obtain ⟨u,hu⟩:∃ u,l.rt[k]?=some u:=⟨l.rt[k],List.getElem?_eq_getElem (by omega)⟩
   rw [opnK_succ hu]
   generalize opnK kn (cntR l kn) l.rt l.rt.length k=S at ih i2 hP hTl ⊢
   have hk2:=i2 k lr_ (by omega)
   unfold readS
   cases hr:readR kn (cntR l kn) S.M u with
   | none =>
     show (S.P.set k (0,100000))[j]?=some (byR l S.T kn j)
     by_cases hkj:k=j
     ·subst hkj
      rw [List.getElem?_set_self (by omega),byR,hk2]
     ·rw [List.getElem?_set_ne hkj]
      exact ih j (by omega)
   | some r =>
     show ((S.P.set k (0,100000)).set k (max u.lo (r.day+1),hiK (cntR l kn) r u.hi u.lv))[j]?=some (byR l (S.T.set k true) kn j)
     by_cases hkj:k=j
     ·subst hkj
      have hf:findR (cntR l kn) u.rcp=some r:=by
       unfold readR at hr
       split at hr
       ·cases hr
       ·rename_i r' hf
        split at hr
        ·rw [hf,hr]
        ·cases hr
      rw [List.getElem?_set_self (by simp;omega),byR,List.getElem?_set_self (by omega),hu]
      simp only [hf,hi_ref]
     ·rw [List.getElem?_set_ne hkj,List.getElem?_set_ne hkj,ih j (by omega),byR,byR,List.getElem?_set_ne hkj]
theorem opn_days (l:Led) (kn:Int):(opnL l kn).P=(List.range l.rt.length).map (byR l (tellK l kn l.rt.length) kn):=by
 apply List.ext_getElem?
 intro j
 by_cases hj:j<l.rt.length
 ·have h:=opn_by l kn l.rt.length lr_ j hj
  rw [show (opnL l kn).P[j]?=some (byR l (opnL l kn).T kn j) from h,opn_tell,List.getElem?_map,List.getElem?_range hj]
  rfl
 ·have hP:=(opnK_len kn (cntR l kn) l.rt l.rt.length l.rt.length).2
  rw [List.getElem?_eq_none (by show (opnL l kn).P.length≤j;have:(opnL l kn).P.length=l.rt.length:=hP;omega),List.getElem?_eq_none (by simp;omega)]
section
variable {P:Program} {o:Oper} {Q:Exit→Act→World→Prop}
end
theorem byR_false {l:Led} {T:List Bool} {kn:Int} {i:Nat} (h:T[i]?=some false):byR l T kn i=(0,100000):=by
 rw [byR,h]
theorem byR_true {l:Led} {kn:Int} {i:Nat} {t:Rtn} (hT:(tellK l kn l.rt.length)[i]?=some true) (ht:l.rt[i]?=some t):∃ ix r,rcIx l.rc t.rcp kn=some ix∧l.rc[ix]?=some r∧byR l (tellK l kn l.rt.length) kn i=(max t.lo (r.day+1),l.rc.foldl (refHi kn r t.lv) t.hi):=by
 have h1:(opnK kn (cntR l kn) l.rt l.rt.length l.rt.length).T[i]?=some true:=by rw [tell_opn l kn _ lr_];exact hT
 obtain ⟨r,hr,-⟩:=opn_P kn (cntR l kn) l.rt l.rt.length lr_ i t h1 ht
 have hr2:=hr
 rw [findR_cnt] at hr2
 obtain ⟨ix,hix,hrc⟩:=Option.bind_eq_some_iff.1 hr2
 exact ⟨ix,r,hix,hrc,by rw [byR,hT,ht];simp only [hr]⟩
theorem refN_len (l:Led) (T:List Bool) (kn:Int) (D:List (Int × Int)) (s:Sgt):(refN l T kn D s).1.length=D.length:=by
 unfold refN
 split
 ·rfl
 ·split
  ·rfl
  ·split
   ·rfl
   ·split
    ·rw [List.length_set]
    ·split
     ·rw [List.length_set]
     ·rfl
theorem refL_len (l:Led) (T:List Bool) (kn:Int):∀ (S:List Sgt) (D:List (Int × Int)),(refL l T kn S D).1.length=D.length
 | [],D=>rfl
 | s :: S,D=>by rw [refL];exact (refL_len l T kn S _).trans (refN_len l T kn D s)
theorem led_bor {l:Led} (h:ledB l=true):(∀ r∈l.rc,0≤r.day)∧∀ r∈l.rc,r.bor≠0:=by
 refine ⟨fun r hr=>((led_ok h).rc r hr).2.2.2.1,fun r hr=>?_⟩
 simp only [ledB,Bool.and_eq_true] at h
 have h5:=val_all h.2.1 r hr
 simp only [Rcp.okB,withinB,Bool.and_eq_true,decide_eq_true_eq] at h5
 omega
def byL (l:Led) (kn:Int):List (Int × Int):=(List.range l.rt.length).map (byR l (tellK l kn l.rt.length) kn)
theorem byL_len (l:Led) (kn:Int):(byL l kn).length=l.rt.length:=by simp [byL]
theorem nar_led {l:Led} (h:ledB l=true) (kn:Int) (S:List Sgt):narL (opnL l kn).M (cntR l kn) S (opnL l kn).P=if (refL l (tellK l kn l.rt.length) kn S (byL l kn)).2=true then some (refL l (tellK l kn l.rt.length) kn S (byL l kn)).1 else none:=by
 rw [nar_all l kn (led_bor h).1 (led_bor h).2,opn_tell,opn_days]
 rfl
theorem set_ref {l:Led} (h:ledB l=true) (kn:Int):setE l kn=if (firstP (refD l (tellK l kn l.rt.length) kn) l.rc).isSome=true then 25 else if (refL l (tellK l kn l.rt.length) kn (cntS l kn) (byL l kn)).2=true then 0 else 27:=by
 rw [setE,dbl_first h,nar_led h]
 cases firstP (refD l (tellK l kn l.rt.length) kn) l.rc with
 | some p=>rfl
 | none =>
   cases hb:(refL l (tellK l kn l.rt.length) kn (cntS l kn) (byL l kn)).2 <;> simp
theorem setP_ref {l:Led} (h:ledB l=true) (kn:Int) (h2:(refL l (tellK l kn l.rt.length) kn (cntS l kn) (byL l kn)).2=true):setP l kn=(refL l (tellK l kn l.rt.length) kn (cntS l kn) (byL l kn)).1:=by
 rw [setP,nar_led h,if_pos h2]
 rfl
def whoF (l:Led) (kn day:Int) (days:List Int) (pap leaf:Int):Int:=if (stayP (opnL l kn).M (cntR l kn) pap leaf day).2<0∨day<days.getD (stayP (opnL l kn).M (cntR l kn) pap leaf day).2.toNat 0 then (stayP (opnL l kn).M (cntR l kn) pap leaf day).1 else 0
def withR (days:List Int) (day bor:Int):Option Nat→Int
 | none=>bor
 | some k=>if day<days.getD k 0 then bor else 0
theorem wt_none {l:Led} {kn pap leaf day:Int} {days:List Int} (h0:∀ r∈l.rc,0≤r.day) (hL:lastK kn pap leaf day l.rc l.rc.length=none):whoF l kn day days pap leaf=0:=by
 rw [whoF,stayP,stayF_last l kn _ _ _ _ h0,hL]
 simp [lastV]
theorem wt_some {l:Led} {kn pap leaf day:Int} {days:List Int} {p:Nat × Int} {r:Rcp} (h0:∀ r∈l.rc,0≤r.day) (hL:lastK kn pap leaf day l.rc l.rc.length=some p) (hr:l.rc[p.1]?=some r):whoF l kn day days pap leaf=withR days day r.bor (rtIx (tellK l kn l.rt.length) l.rt r.src leaf):=by
 rw [whoF,stayP,stayF_last l kn _ _ _ _ h0,hL]
 simp only [lastV,hr,back_rt,opn_tell]
 cases rtIx (tellK l kn l.rt.length) l.rt r.src leaf with
 | none=>simp [ixI,withR]
 | some k =>
   have h1:¬ ((k:Int)<0):=by omega
   simp [ixI,withR,h1]
set_option maxRecDepth 10000 in
theorem r_With (l:Led) (v:Vw) (pap leaf day:Int) (days:List Int) (D:Option Addr) (c0:Nat) (w:World) (hl:LedOk l) (hTt:v.Tn=v.x.tn) (hd:LedIn w w.heap.size v.x l) (hT:Sq QB 1 w w.heap.size v.TA v.Tn (tellK l v.kn l.rt.length)) (hdy:Is w w.heap.size D v.Tn days) :
 Calls Tryz.prog 43 #[vwV v,.agg #[.int .i64 pap,.int .i64 leaf],.slice D v.Tn c0,.int .i64 day] w fun e w'=>e=.returned (.int .i64 (whoF l v.kn day days pap leaf))∧Below w.heap.size w w':=by
 obtain ⟨⟨pA,pn,pc,rA,rn,rc,tA,tn,tc,sA,sn,sc⟩,kn,TA,Tn,Tc,DA,Dn,Dc⟩:=v
 obtain rfl:Tn=tn:=hTt
 show Calls _ _ #[.agg #[.slice pA pn pc,.slice rA rn rc,.slice tA Tn tc,.slice sA sn sc,.int .i64 kn,.slice TA Tn Tc,.slice DA Dn Dc],_,.slice D Tn c0,_] _ fun e w'=>e=.returned (.int .i64 (whoF l kn day days pap leaf))∧Below w.heap.size w w'
 have HR:Hid (Rcs w w.heap.size rA rn l.rc):=by show Sq _ _ _ _ _ _ _;exact hd.r
 have HTL:Hid (l.rt.length=Tn):=by show _=_;exact hd.t.len
 have hrn6:rn≤1000000:=by have h:=HR.out.len;have h2:=hl.rn;omega
 have htn6:Tn≤1000000:=by have h:=HTL.out;have h2:=hl.tn;omega
 have h0:∀ r∈l.rc,0≤r.day:=fun r hr=>(hl.rc r hr).2.2.2.1
 have HDY:Hid (Is w w.heap.size D Tn days):=by show Is _ _ _ _ _;exact hdy
 have HLA:Hid (∀ (W:World) (k:Int),Below w.heap.size w W→lastI (lastK kn pap leaf day l.rc l.rc.length)=k→Calls Tryz.prog 104 #[.agg #[.slice pA pn pc,.slice rA rn rc,.slice tA Tn tc,.slice sA sn sc,.int .i64 kn,.slice TA Tn Tc,.slice DA Dn Dc],.agg #[.int .i64 pap,.int .i64 leaf],.int .i64 day] W fun e w'=>e=.returned (.int .i64 k)∧Below W.heap.size W w'):=by
  show ∀ _,_
  exact fun W k hW h=>r_last_v l ⟨⟨pA,pn,pc,rA,rn,rc,tA,Tn,tc,sA,sn,sc⟩,kn,TA,Tn,Tc,DA,Dn,Dc⟩ pap leaf day k W hrn6 (hd.now hW) h
 have HRO:Hid (∀ (W:World) (a:Nat) (x:Rcp) (k:Int),Below w.heap.size w W→l.rc[a]?=some x→ixI (rtIx (tellK l kn l.rt.length) l.rt x.src leaf)=k→Calls Tryz.prog 103 #[.agg #[.slice pA pn pc,.slice rA rn rc,.slice tA Tn tc,.slice sA sn sc,.int .i64 kn,.slice TA Tn Tc,.slice DA Dn Dc],.int .i64 a,.int .i64 leaf] W fun e w'=>e=.returned (.int .i64 k)∧Below W.heap.size W w'):=by
  show ∀ _,_
  exact fun W a x k hW ha h2=>r_returnOf_v l ⟨⟨pA,pn,pc,rA,rn,rc,tA,Tn,tc,sA,sn,sc⟩,kn,TA,Tn,Tc,DA,Dn,Dc⟩ _ a x leaf k W hrn6 htn6 rfl (hd.now hW) (hT.now abB hW) ha h2
 clear hd hT hdy hl
 cases hL:lastK kn pap leaf day l.rc l.rc.length with
 | none =>
   rw [wt_none h0 hL]
   have HLV:Hid (lastI (lastK kn pap leaf day l.rc l.rc.length)=-1):=by show _=_;rw [hL];rfl
   clear hL
   go_enter Tryz.func43,Tryz.ntmps43
   go_wp2_with fail
   refine (HLA.out _ (-1) (by exact bel_) HLV.out).mono ?_
   rintro e w3 ⟨rfl,hb3⟩
   have HB3:Below w.heap.size w w3:=bt_ (by exact bel_) hb3
   have hs3:=HB3.size
   go_wp2_with fail
   go_ret
   exact ⟨rfl,by exact bel_⟩
 | some p =>
   obtain ⟨a,dd⟩:=p
   obtain ⟨-,x,hx,-⟩:=lastK_at hL
   rw [wt_some h0 hL hx]
   have HLV:Hid (lastI (lastK kn pap leaf day l.rc l.rc.length)=(a:Int)):=by show _=_;rw [hL];rfl
   have hia:a<rn:=by rw [← HR.out.len];exact (List.getElem?_eq_some_iff.1 hx).1
   obtain ⟨bx,ox,x',rfl,hbx,hxx,A1,n1,c1,⟨-,g1,-,-,-,-,-⟩,-,-,-⟩:=HR.out.at_ hia
   obtain rfl:x=x':=Option.some.inj (hx.symm.trans hxx)
   have hxn:decide ((a:Int)<0)=false:=by simp
   obtain ⟨q,hq⟩:∃ q,rtIx (tellK l kn l.rt.length) l.rt x.src leaf=q:=⟨_,rfl⟩
   have HKI:Hid (ixI (rtIx (tellK l kn l.rt.length) l.rt x.src leaf)=ixI q):=by show _=_;rw [hq]
   have HQ:=hd_ hq
   rw [hq]
   have HX:=hd_ hx
   obtain ⟨bor,hbor⟩:∃ b,x.bor=b:=⟨_,rfl⟩
   rw [hbor] at g1 ⊢
   clear hL hx hxx hq hbor
   go_enter Tryz.func43,Tryz.ntmps43
   have bV0:=(BoxA.new w 89 #[.slice pA pn pc,.slice (some ⟨bx,ox,none⟩) rn rc,.slice tA Tn tc,.slice sA sn sc,.int .i64 kn,.slice TA Tn Tc,.slice DA Dn Dc]).alloc (.cells #[.int .i64 pap,.int .i64 leaf] 48)
   have bF0:BoxA ((w.alloc (.cells #[.slice pA pn pc,.slice (some ⟨bx,ox,none⟩) rn rc,.slice tA Tn tc,.slice sA sn sc,.int .i64 kn,.slice TA Tn Tc,.slice DA Dn Dc] 89)).alloc (.cells #[.int .i64 pap,.int .i64 leaf] 48)) (w.heap.size+1) 48 #[.int .i64 pap,.int .i64 leaf]:=by
    have h:=BoxA.new (w.alloc (.cells #[.slice pA pn pc,.slice (some ⟨bx,ox,none⟩) rn rc,.slice tA Tn tc,.slice sA sn sc,.int .i64 kn,.slice TA Tn Tc,.slice DA Dn Dc] 89)) 48 #[.int .i64 pap,.int .i64 leaf]
    simpa using h
   have HBV0:=hd_ bV0
   have HBF0:=hd_ bF0
   clear bV0 bF0
   go_wp2_with fail
   refine (HLA.out _ a (by exact bel_) HLV.out).mono ?_
   rintro e w3 ⟨rfl,hb3⟩
   have HB3:Below w.heap.size w w3:=bt_ (by exact bel_) hb3
   have hs3:=HB3.size
   have bV3:=HBV0.out.ext hb3
   have bF3:=HBF0.out.ext hb3
   have kV:=bV3.cell
   have zV:=bV3.lt
   have kF:=bF3.cell
   have zF:=bF3.lt
   have HBV3:=hd_ bV3
   clear hb3 bV3 bF3
   go_wp2_with fail
   refine (HRO.out _ a x (ixI q) HB3 HX.out HKI.out).mono ?_
   rintro e w4 ⟨rfl,hb4⟩
   have HB4:=bt_ HB3 hb4
   have hs4:=HB4.size
   have bV4:=HBV3.out.ext hb4
   clear kV zV kF zF
   have kV:=bV4.cell
   have zV:=bV4.lt
   have d1:=(HB4.cell (p:=⟨bx,ox+a*7+1,none⟩) hbx).trans g1
   have hbx4:bx<w4.heap.size:=by omega
   clear bV4 hb4
   cases q with
   | none =>
     have hneg:decide ((-1:Int)≥0)=false:=by decide
     simp only [ixI]
     go_wp2_with fail
     go_ret
     exact ⟨rfl,by exact bel_⟩
   | some i =>
     obtain ⟨-,t,ht,-,-⟩:=rt_some HQ.out
     have hit:i<Tn:=by rw [← HTL.out];exact (List.getElem?_eq_some_iff.1 ht).1
     have hin:decide ((i:Int)≥0)=true:=by simp
     have hmx:max (i:Int) 0=(i:Int):=by omega
     obtain ⟨bd,od,y,rfl,hbd,hy,hcy⟩:=HDY.out.at_ hit
     have hgd:days.getD i 0=y:=by rw [List.getD_eq_getElem?_getD,hy];rfl
     have e0:=(HB4.cell (p:=⟨bd,od+i,none⟩) hbd).trans hcy
     have hbd4:bd<w4.heap.size:=by omega
     have HRW:Hid (withR days day bor (some i)=if day<y then bor else 0):=by show _=_;simp only [withR,hgd]
     simp only [ixI]
     clear hgd hy ht hcy
     cases h1:decide (y≤day) with
     | true =>
       go_wp2_with fail
       go_ret
       rw [HRW.out,if_neg (by have:=of_decide_eq_true h1;omega)]
       exact ⟨rfl,by exact bel_⟩
     | false =>
       go_wp2_with fail
       go_ret
       rw [HRW.out,if_pos (by have:=of_decide_eq_false h1;omega)]
       exact ⟨rfl,by exact bel_⟩
theorem tellK_get {l:Led} {kn:Int} {t:Rtn} {k:Nat} (ht:l.rt[k]?=some t):∀ n,k<n→n≤l.rt.length→(tellK l kn n)[k]?=some (tellB l kn (tellK l kn k) k t)
 | 0,h,_=>absurd h (Nat.not_lt_zero _)
 | n+1,h,hn=>by
   obtain ⟨u,hu⟩:∃ u,l.rt[n]?=some u:=⟨_,List.getElem?_eq_getElem (by omega)⟩
   rw [tellK,hu]
   by_cases hk:k=n
   ·subst hk
    obtain rfl:t=u:=Option.some.inj (ht.symm.trans hu)
    show ((tellK l kn k).set k _)[k]?=_
    rw [List.getElem?_set_self (by rw [tellK_len];omega)]
   ·show ((tellK l kn n).set n _)[k]?=_
    rw [List.getElem?_set_ne (by omega)]
    exact tellK_get ht n (by omega) (by omega)
theorem tellK_low {l:Led} {kn:Int} {j k:Nat} (hj:j<k) (hk:k≤l.rt.length):(tellK l kn k)[j]?=(tellK l kn l.rt.length)[j]?:=by
 obtain ⟨u,hu⟩:∃ u,l.rt[j]?=some u:=⟨_,List.getElem?_eq_getElem (by omega)⟩
 rw [tellK_get hu k hj hk,tellK_get hu l.rt.length (by omega) lr_]
theorem tell_is {l:Led} {kn:Int} {k ix:Nat} {t:Rtn} {r:Rcp} (hT:(tellK l kn l.rt.length)[k]?=some true) (ht:l.rt[k]?=some t) (hix:rcIx l.rc t.rcp kn=some ix) (hr:l.rc[ix]?=some r):max t.lo (r.day+1)≤t.hi∧fineB (tellK l kn k) l.rt k t r t.lv=true:=by
 have hk:k<l.rt.length:=(List.getElem?_eq_some_iff.1 ht).1
 rw [tellK_get ht _ hk lr_] at hT
 have h1:tellB l kn (tellK l kn k) k t=true:=Option.some.inj hT
 rw [tellB,hix] at h1
 simp only [hr,Bool.and_eq_true] at h1
 refine ⟨?_,h1.2.2⟩
 have h2:=h1.2.1
 simp at h2
 omega
theorem tell_rt {l:Led} {kn:Int} {k ix:Nat} {t:Rtn} {r:Rcp} {x:Int} (hT:(tellK l kn l.rt.length)[k]?=some true) (ht:l.rt[k]?=some t) (hix:rcIx l.rc t.rcp kn=some ix) (hr:l.rc[ix]?=some r) (hx:x∈t.lv):x∈r.lv∧rtIx (tellK l kn l.rt.length) l.rt t.rcp x=some k:=by
 have hk:k<l.rt.length:=(List.getElem?_eq_some_iff.1 ht).1
 have hf:=(tell_is hT ht hix hr).2
 rw [fineB,List.all_eq_true] at hf
 have h1:=hf x hx
 simp only [Bool.and_eq_true,decide_eq_true_eq,Bool.not_eq_true'] at h1
 refine ⟨h1.1,?_⟩
 have hz:(List.zip (tellK l kn l.rt.length) l.rt)[k]?=some (true,t):=by rw [List.getElem?_zip_eq_some];exact ⟨hT,ht⟩
 refine ix_found hz (by simp [rtAt,hx]) ?_
 rw [← h1.2]
 have he:(List.zip (tellK l kn l.rt.length) l.rt).take k=(List.zip (tellK l kn k) l.rt).take k:=by
  apply List.ext_getElem?
  intro j
  rw [List.getElem?_take,List.getElem?_take]
  split
  ·rename_i hj
   simp only [List.zip,List.getElem?_zipWith]
   rw [tellK_low hj (by omega)]
  ·rfl
 rw [he]
theorem first_none {p:Rcp→Rcp→Bool}:∀ {xs:List Rcp},firstP p xs=none→∀ (i j:Nat) (a b:Rcp),i<j→xs[i]?=some a→xs[j]?=some b→p a b=false
 | [],_,i,j,a,b,_,ha,_=>by simp at ha
 | x :: xs,h,i,j,a,b,hij,ha,hb=>by
   rw [firstP] at h
   split at h
   ·cases h
   ·rename_i hf
    cases j with
    | zero=>omega
    | succ j =>
      rw [List.getElem?_cons_succ] at hb
      cases i with
      | zero =>
        rw [List.getElem?_cons_zero] at ha
        cases ha
        have:=List.find?_eq_none.1 hf b (List.mem_of_getElem? hb)
        simpa using this
      | succ i =>
        rw [List.getElem?_cons_succ] at ha
        exact first_none h i j a b (by omega) ha hb
theorem byR_pos {l:Led} {kn:Int} (hn:firstP (refD l (tellK l kn l.rt.length) kn) l.rc=none) (k:Nat):(byR l (tellK l kn l.rt.length) kn k).1≤(byR l (tellK l kn l.rt.length) kn k).2:=by
 cases hT:(tellK l kn l.rt.length)[k]? with
 | none=>rw [byR,hT];show (0:Int)≤100000;omega
 | some b =>
   cases b with
   | false=>rw [byR_false hT];show (0:Int)≤100000;omega
   | true =>
     cases ht:l.rt[k]? with
     | none=>rw [byR,hT,ht];show (0:Int)≤100000;omega
     | some t =>
       obtain ⟨ix,r,hix,hr,he⟩:=byR_true hT ht
       obtain ⟨r',hr',hrs,hrc⟩:=rcIx_some hix
       obtain rfl:r=r':=Option.some.inj (hr.symm.trans hr')
       rw [he]
       obtain ⟨h1,-⟩:=tell_is hT ht hix hr
       have hfold:=foldl_le (q:=fun v (u:Rcp)=>∀ x∈t.lv,r.day<u.day∧(countsB u.kn u.un kn && isOfB r.pap x u)=true→v≤u.day) (fun v a u=>refHi_le kn v r t.lv a u) (max t.lo (r.day+1)) l.rc t.hi
       refine hfold.2 ⟨h1,fun u hu x hx hc=>?_⟩
       obtain ⟨hlv,hrt⟩:=tell_rt hT ht hix hr hx
       obtain ⟨iu,hiu⟩:=List.getElem?_of_mem hu
       have hne:iu≠ix:=fun e=>by
        subst e
        have:u=r:=Option.some.inj (hiu.symm.trans hr)
        subst this
        omega
       have hd:∀ b:Bool,r.lv.any (refOut l (tellK l kn l.rt.length) kn r u)=b→b=false→max t.lo (r.day+1)≤u.day:=by
        intro b hb hbf
        subst hbf
        have h2:=List.any_eq_false.1 hb x hlv
        have hdd:¬ r.day=u.day:=by omega
        have hcu:=hc.2
        rw [Bool.and_eq_true] at hcu
        have hir:isOfB r.pap x r=true:=by simp [isOfB,hlv]
        simp only [refOut,hrc,hir,hcu.1,hcu.2,hrs,hrt,ht,hdd,decide_false,Bool.true_and,Bool.false_or,decide_eq_true_eq] at h2
        omega
       rcases Nat.lt_or_gt_of_ne hne with h | h
       ·have h2:=first_none hn iu ix u r h hiu hr
        rw [refD,if_pos hc.1] at h2
        exact hd _ rfl h2
       ·have h2:=first_none hn ix iu r u h hr hiu
        rw [refD,if_neg (by omega)] at h2
        exact hd _ rfl h2
theorem set_pos_of {D:List (Int × Int)} {k:Nat} {a b:Int} (h:∀ (j:Nat) (d:Int × Int),D[j]?=some d→d.1≤d.2) (hab:a≤b):∀ (j:Nat) (d:Int × Int),(D.set k (a,b))[j]?=some d→d.1≤d.2:=by
 intro j d hd
 rw [List.getElem?_set] at hd
 split at hd
 ·split at hd
  ·cases hd;exact hab
  ·cases hd
 ·exact h j d hd
theorem refN_pos {l:Led} {T:List Bool} {kn:Int} {D:List (Int × Int)} {s:Sgt} (h:∀ (j:Nat) (d:Int × Int),D[j]?=some d→d.1≤d.2) (ho:(refN l T kn D s).2=true):∀ (j:Nat) (d:Int × Int),(refN l T kn D s).1[j]?=some d→d.1≤d.2:=by
 unfold refN at ho ⊢
 cases hL:lastK kn s.pap s.leaf s.day l.rc l.rc.length with
 | none=>exact h
 | some p =>
   simp only [hL] at ho ⊢
   cases hx:l.rc[p.1]? with
   | none=>exact h
   | some x =>
     simp only [hx] at ho ⊢
     cases hr:rtIx T l.rt x.src s.leaf with
     | none=>exact h
     | some k =>
       simp only [hr] at ho ⊢
       by_cases hp:s.per=x.bor
       ·rw [if_pos hp] at ho ⊢
        exact set_pos_of h (of_decide_eq_true ho)
       ·rw [if_neg hp] at ho ⊢
        by_cases hq:s.per=0
        ·rw [if_pos hq] at ho ⊢
         exact set_pos_of h (of_decide_eq_true ho)
        ·rw [if_neg hq] at ho
         cases ho
theorem refL_pos {l:Led} {T:List Bool} {kn:Int}:∀ {S:List Sgt} {D:List (Int × Int)},(∀ (j:Nat) (d:Int × Int),D[j]?=some d→d.1≤d.2)→(refL l T kn S D).2=true→∀ (j:Nat) (d:Int × Int),(refL l T kn S D).1[j]?=some d→d.1≤d.2
 | [],_,h,_=>h
 | s :: S,D,h,ho=>by
   rw [refL] at ho ⊢
   simp only [Bool.and_eq_true] at ho
   exact refL_pos (refN_pos h ho.1) ho.2
theorem setP_pos {l:Led} (h:ledB l=true) {kn:Int} (hs:setE l kn=0):∀ (j:Nat) (d:Int × Int),(setP l kn)[j]?=some d→d.1≤d.2:=by
 rw [set_ref h] at hs
 cases ho:firstP (refD l (tellK l kn l.rt.length) kn) l.rc with
 | some q=>rw [ho] at hs;simp at hs
 | none =>
   cases hR:(refL l (tellK l kn l.rt.length) kn (cntS l kn) (byL l kn)).2 with
   | false=>rw [ho,hR] at hs;simp at hs
   | true =>
     rw [setP_ref h kn hR]
     refine refL_pos (fun j d hd=>?_) hR
     rw [byL,List.getElem?_map] at hd
     obtain ⟨i,hi,rfl⟩:=Option.map_eq_some_iff.1 hd
     exact byR_pos ho i
end Go.Proofs.YtmcmbicapdcfmaaGreat
namespace Go.Proofs.YtmcmbicapdcfmaaGreat
open Go.RowKit
end Go.Proofs.YtmcmbicapdcfmaaGreat
namespace Go.Proofs.YtmcmbicapdcfmaaGreat
open Go.RowKit Go.Maps
def exL2:Led:=⟨[⟨1,3⟩,⟨2,1⟩],[⟨10,5,1,[1,2,3],10,10,0⟩,⟨11,6,1,[2],40,40,0⟩],[⟨20,10,7,[1,2],20,50,60,0⟩,⟨21,10,5,[3],5,30,60,0⟩],[⟨30,5,1,1,25,70,0⟩,⟨31,0,1,2,22,80,0⟩]⟩
theorem ex2_double:doubleX exL2 50=([10,11],0):=by kernel_rfl
theorem ex2_days:daysX exL2 20 70=((26,40),0):=by kernel_rfl
theorem ex2_clash:clashX exL2 80=([30,31],0):=by kernel_rfl
theorem ex2_where:whereX exL2 1 1 24 60=([0,5],0):=by kernel_rfl
theorem ex2_whole:wholeX exL2 1 30 60=(2,0):=by kernel_rfl
theorem ex2_lies:liesX exL2 10 40 60=(0,0):=by kernel_rfl
theorem ex2_has:leavesX (fun f=>decide (whL exL2 60 19 f=[5])) exL2 5 19 60=([(1,1),(1,2)],0):=by kernel_rfl
theorem ex2_placed:placedX exL2 [25,30] 1 27 60=([0,0,5],0):=by kernel_rfl
theorem ex2_moved:movX exL2 20 30 60=([(1,1),(1,2),(1,3),(2,1)],0):=by kernel_rfl
theorem ex2_true:checkTrueX exL2 60 [41,11]=29:=by kernel_rfl
end Go.Proofs.YtmcmbicapdcfmaaGreat
