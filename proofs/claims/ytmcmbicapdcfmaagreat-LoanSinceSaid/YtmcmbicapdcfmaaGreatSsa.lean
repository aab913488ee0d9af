/- LoanSince: for every history that numbers describe, every day on which it is known, folio and day by numbers, whatever memory they lie in, the Go function LoanSince (layer 2, promise P2.6) returns true and leaves its arguments as they read. Conditions: none. -/
import Derived.Test.YtmcmbicapdcfmaaGreatSje
import Derived.Deep.DeepCutAuto
import Derived.Deep.CutRange
set_option linter.unusedVariables false
set_option linter.unusedSimpArgs false
namespace Go.Proofs.YtmcmbicapdcfmaaGreat
open Go.RowKit Go.Maps
theorem pre_okM {l:Led} {ds:List Int} (h1:ledB l=true) (h2:daysOk ds=true):preE l ds=0:=by simp [preE,h1,h2,orL,errI]
theorem RawIn.now {w w':World} {x:Rsl} {r:RawL} (h:RawIn w x r) (hb:Below w.heap.size w w'):RawIn w' x r :=
 ⟨(Rd.ext h.a hb lr_).more hb.size,(Rd.ext h.b hb lr_).more hb.size,(Rd.ext h.c hb lr_).more hb.size⟩
theorem findI_src {rt:List Rtn} (h:rt.Pairwise fun x y=>x.src<y.src) {k:Nat} {t:Rtn} (ht:rt[k]?=some t):rt.findIdx? (fun u=>u.src == t.src)=some k:=by
 rw [List.findIdx?_eq_some_iff_getElem]
 obtain ⟨hk,he⟩:=List.getElem?_eq_some_iff.1 ht
 refine ⟨hk,by simp [he],fun j hj=>?_⟩
 have:=List.pairwise_iff_getElem.1 h j k (by omega) hk hj
 rw [he] at this
 simp
 omega
theorem tel_at {T:List Bool} {rt:List Rtn} {s:Int} (h:s∈telK T rt rt.length):∃ (k:Nat) (t:Rtn),rt[k]?=some t∧T[k]?=some true∧t.src=s:=by
 rw [telK,List.mem_map] at h
 obtain ⟨p,hp,rfl⟩:=h
 obtain ⟨hp,h1⟩:=List.mem_filter.1 hp
 obtain ⟨k,hk,he⟩:=List.mem_iff_getElem.1 (List.mem_of_mem_take hp)
 have hz:(List.zip T rt)[k]?=some p:=by rw [List.getElem?_eq_getElem hk,he]
 obtain ⟨b,t⟩:=p
 rw [List.getElem?_zip_eq_some] at hz
 obtain rfl:b=true:=h1
 exact ⟨k,t,hz.2,hz.1,rfl⟩
theorem at_tel {T:List Bool} {rt:List Rtn} {k:Nat} {t:Rtn} (ht:rt[k]?=some t) (hT:T[k]?=some true):t.src∈telK T rt rt.length:=by
 have hz:(List.zip T rt)[k]?=some (true,t):=by rw [List.getElem?_zip_eq_some];exact ⟨hT,ht⟩
 rw [telK,List.mem_map]
 refine ⟨(true,t),List.mem_filter.2 ⟨?_,rfl⟩,rfl⟩
 rw [List.take_of_length_le (by rw [List.length_zip];omega)]
 exact List.mem_of_getElem? hz
theorem rt_rise {l:Led} (h:ledB l=true):l.rt.Pairwise fun x y=>x.src<y.src:=by
 simp only [ledB,Bool.and_eq_true] at h
 exact val_pair h.2.2.1
theorem getD_setP (P:List (Int × Int)) (k j:Nat) (d:Int × Int):(P.set k d).getD j (0,0)=if k=j∧k<P.length then d else P.getD j (0,0):=by
 rw [List.getD_eq_getElem?_getD,List.getElem?_set,List.getD_eq_getElem?_getD]
 by_cases h1:k=j
 ·subst h1
  by_cases h2:k<P.length
  ·simp [h2]
  ·have h3:P[k]?=none:=List.getElem?_eq_none (by omega)
   simp [h2]
 ·simp [h1]
def Wd (Q P:List (Int × Int)):Prop:=Q.length=P.length∧∀ k,(Q.getD k (0,0)).1≤(P.getD k (0,0)).1∧(P.getD k (0,0)).2≤(Q.getD k (0,0)).2
theorem Wd.refl (P:List (Int × Int)):Wd P P:=⟨rfl,fun _=>⟨Int.le_refl _,Int.le_refl _⟩⟩
theorem Wd.trans {A B C:List (Int × Int)} (h:Wd A B) (g:Wd B C):Wd A C:=⟨h.1.trans g.1,fun k=>⟨Int.le_trans (h.2 k).1 (g.2 k).1,Int.le_trans (g.2 k).2 (h.2 k).2⟩⟩
structure Tw (C:Nat→Nat→Prop) (M M':List ((Int × Int) × Nat)) (P P':List (Int × Int)):Prop where
 fn:∀ a b b',C a b→C a b'→b=b'
 inj:∀ a a' b,C a b→C a' b→a=a'
 key:∀ k,(getN M k=none∧getN M' k=none)∨∃ a b,getN M k=some a∧getN M' k=some b∧C a b
 val:∀ a b,C a b→a<P.length∧b<P'.length∧P.getD a (0,0)=P'.getD b (0,0)
section
variable {C:Nat→Nat→Prop} {M M':List ((Int × Int) × Nat)} {P P':List (Int × Int)}
theorem Tw.none_iff (h:Tw C M M' P P') (k:Int × Int):(getN M k).isNone=(getN M' k).isNone:=by
 rcases h.key k with ⟨h1,h2⟩ | ⟨a,b,h1,h2,-⟩ <;> rw [h1,h2] <;> rfl
theorem Tw.takes (h:Tw C M M' P P') (r:Rcp) (lv:List Int):takesB (encM M) r lv=takesB (encM M') r lv:=by
 unfold takesB
 congr 1
 funext x
 rw [getG_enc,getG_enc]
 have:=h.none_iff (r.src,x)
 cases h1:getN M (r.src,x) <;> cases h2:getN M' (r.src,x) <;> simp_all
theorem Tw.readR (h:Tw C M M' P P') (kn:Int) (R:List Rcp) (t:Rtn):readR kn R M t=readR kn R M' t:=by
 unfold Go.Proofs.YtmcmbicapdcfmaaGreat.readR
 cases findR R t.rcp with
 | none=>rfl
 | some r=>simp only [h.takes]
theorem Tw.setL (h:Tw C M M' P P') {i:Nat} (d:Int × Int) (hi:∀ b,¬ C i b):Tw C M M' (P.set i d) P' :=
 ⟨h.fn,h.inj,h.key,fun a b hab=>by
   obtain ⟨h1,h2,h3⟩:=h.val a b hab
   refine ⟨by simpa using h1,h2,?_⟩
   rw [getD_setP,if_neg (fun e=>hi b (by rw [e.1];exact hab)),h3]⟩
theorem Tw.setR (h:Tw C M M' P P') {i:Nat} (d:Int × Int) (hi:∀ a,¬ C a i):Tw C M M' P (P'.set i d) :=
 ⟨h.fn,h.inj,h.key,fun a b hab=>by
   obtain ⟨h1,h2,h3⟩:=h.val a b hab
   refine ⟨h1,by simpa using h2,?_⟩
   rw [getD_setP,if_neg (fun e=>hi a (by rw [e.1];exact hab)),h3]⟩
theorem Tw.set2 (h:Tw C M M' P P') {i j:Nat} (d:Int × Int) (hc:C i j):Tw C M M' (P.set i d) (P'.set j d) :=
 ⟨h.fn,h.inj,h.key,fun a b hab=>by
   obtain ⟨h1,h2,h3⟩:=h.val a b hab
   refine ⟨by simpa using h1,by simpa using h2,?_⟩
   rw [getD_setP,getD_setP]
   by_cases ha:i=a
   ·subst ha
    obtain rfl:=h.fn _ _ _ hc hab
    rw [if_pos ⟨rfl,h1⟩,if_pos ⟨rfl,h2⟩]
   ·have hb:¬ j=b:=fun e=>ha (by subst e;exact h.inj _ _ _ hc hab)
    rw [if_neg (fun e=>ha e.1),if_neg (fun e=>hb e.1),h3]⟩
theorem getN_puts (M:List ((Int × Int) × Nat)) (src:Int) (i:Nat) (l:List Int) (k:Int × Int):getN (putK M src i l) k=if k.1=src∧k.2∈l then some i else getN M k:=getN_putK_eq M src i l k
theorem Tw.put (h:Tw C M M' P P') {i j:Nat} (src:Int) (lv:List Int) (hc:C i j):Tw C (putK M src i lv) (putK M' src j lv) P P' :=
 ⟨h.fn,h.inj,fun k=>by
   rw [getN_puts,getN_puts]
   split
   ·exact .inr ⟨i,j,rfl,rfl,hc⟩
   ·exact h.key k,h.val⟩
theorem Tw.back (h:Tw C M M' P P') (src leaf day:Int):backB M P src leaf day=backB M' P' src leaf day:=by
 unfold backB
 rcases h.key (src,leaf) with ⟨h1,h2⟩ | ⟨a,b,h1,h2,h3⟩
 ·rw [h1,h2]
 ·rw [h1,h2]
  dsimp only
  rw [(h.val a b h3).2.2]
theorem Tw.out (h:Tw C M M' P P') (u v:Rcp):outB M P u v=outB M' P' u v:=by
 funext x
 rw [outB,outB,h.back]
theorem Tw.dbl (h:Tw C M M' P P') (x y:Rcp):dblB M P x y=dblB M' P' x y:=by
 rw [dblB,dblB,h.out,h.out]
theorem Tw.dblR (h:Tw C M M' P P'):∀ R:List Rcp,Go.Proofs.YtmcmbicapdcfmaaGreat.dblR M P R=Go.Proofs.YtmcmbicapdcfmaaGreat.dblR M' P' R
 | []=>rfl
 | x :: R=>by
   rw [Go.Proofs.YtmcmbicapdcfmaaGreat.dblR,Go.Proofs.YtmcmbicapdcfmaaGreat.dblR,Tw.dblR h R]
   have e:dblB M P x=dblB M' P' x:=by funext y;exact h.dbl x y
   rw [e]
def TwS (C:Nat→Nat→Prop) (s s':Int × Int × Int):Prop:=s.1=s'.1∧s.2.2=s'.2.2∧((s.2.1=-1∧s'.2.1=-1)∨∃ a b:Nat,s.2.1=a∧s'.2.1=b∧C a b)
theorem Tw.backI (h:Tw C M M' P P') (src leaf:Int):(backI M src leaf=-1∧backI M' src leaf=-1)∨∃ a b:Nat,backI M src leaf=a∧backI M' src leaf=b∧C a b:=by
 unfold Go.Proofs.YtmcmbicapdcfmaaGreat.backI
 rcases h.key (src,leaf) with ⟨h1,h2⟩ | ⟨a,b,h1,h2,h3⟩
 ·rw [h1,h2];exact .inl ⟨rfl,rfl⟩
 ·rw [h1,h2];exact .inr ⟨a,b,rfl,rfl,h3⟩
theorem Tw.stayL (h:Tw C M M' P P') (leaf day:Int):∀ (rs:List Rcp) (s s':Int × Int × Int),TwS C s s'→TwS C (rs.foldl (stayStep M leaf day) s) (rs.foldl (stayStep M' leaf day) s')
 | [],s,s',hs=>hs
 | r :: rs,s,s',hs=>by
   refine Tw.stayL h leaf day rs _ _ ?_
   unfold stayStep
   rw [hs.2.1]
   split
   ·exact hs
   ·exact ⟨rfl,rfl,h.backI r.src leaf⟩
theorem Tw.stayF (h:Tw C M M' P P') (R:List Rcp) (pap leaf day:Int):TwS C (stayF M R pap leaf day) (Go.Proofs.YtmcmbicapdcfmaaGreat.stayF M' R pap leaf day) :=
 h.stayL leaf day _ _ _ ⟨rfl,rfl,.inl ⟨rfl,rfl⟩⟩
theorem Tw.where_ (h:Tw C M M' P P') (R:List Rcp) (pap leaf day:Int):whereS (stayP M R pap leaf day) P day=whereS (stayP M' R pap leaf day) P' day:=by
 obtain ⟨h1,-,h3⟩:=h.stayF R pap leaf day
 unfold whereS stayP
 dsimp only
 rw [h1]
 rcases h3 with ⟨h3,h4⟩ | ⟨a,b,h3,h4,h5⟩
 ·rw [h3,h4];rfl
 ·rw [h3,h4,Int.toNat_natCast,Int.toNat_natCast,(h.val a b h5).2.2]
  have e1:¬ (a:Int)<0:=by omega
  have e2:¬ (b:Int)<0:=by omega
  simp only [e1,e2,false_or]
theorem Tw.narS (h:Tw C M M' P P') (R:List Rcp) (s:Sgt):(narS (staySg M R s) P s.per s.day=none∧narS (staySg M' R s) P' s.per s.day=none)∨∃ D D',narS (staySg M R s) P s.per s.day=some D∧narS (staySg M' R s) P' s.per s.day=some D'∧Tw C M M' D D':=by
 obtain ⟨h1,-,h3⟩:=h.stayF R s.pap s.leaf s.day
 unfold Go.Proofs.YtmcmbicapdcfmaaGreat.narS staySg
 dsimp only
 rw [h1]
 rcases h3 with ⟨h3,h4⟩ | ⟨a,b,h3,h4,h5⟩
 ·rw [h3,h4]
  split
  ·exact .inl ⟨rfl,rfl⟩
  ·exact .inr ⟨P,P',by rw [if_pos (by decide)],by rw [if_pos (by decide)],h⟩
 ·rw [h3,h4,Int.toNat_natCast,Int.toNat_natCast,(h.val a b h5).2.2]
  have e1:¬ (a:Int)<0:=by omega
  have e2:¬ (b:Int)<0:=by omega
  simp only [e1,e2,if_false,or_false]
  split
  ·exact .inl ⟨rfl,rfl⟩
  ·split
   ·exact .inl ⟨rfl,rfl⟩
   ·exact .inr ⟨_,_,rfl,rfl,h.set2 _ h5⟩
theorem Tw.narL (R:List Rcp):∀ (S:List Sgt) {P P':List (Int × Int)},Tw C M M' P P'→(narL M R S P=none∧narL M' R S P'=none)∨∃ D D',narL M R S P=some D∧narL M' R S P'=some D'∧Tw C M M' D D'
 | [],P,P',h=>.inr ⟨P,P',rfl,rfl,h⟩
 | s :: S,P,P',h=>by
   rw [Go.Proofs.YtmcmbicapdcfmaaGreat.narL,Go.Proofs.YtmcmbicapdcfmaaGreat.narL]
   rcases h.narS R s with ⟨h1,h2⟩ | ⟨D,D',h1,h2,h3⟩
   ·rw [h1,h2];exact .inl ⟨rfl,rfl⟩
   ·rw [h1,h2];exact Tw.narL R S h3
end
def opnGo (kn:Int) (R:List Rcp):Opn→Nat→List Rtn→Opn
 | s,_,[]=>s
 | s,i,t :: ts=>opnGo kn R (readS kn R s i t) (i+1) ts
theorem opnGo_snoc (kn:Int) (R:List Rcp) (t:Rtn):∀ (ts:List Rtn) (s:Opn) (i:Nat),opnGo kn R s i (ts ++ [t])=readS kn R (opnGo kn R s i ts) (i+ts.length) t
 | [],s,i=>rfl
 | u :: ts,s,i=>by
   rw [List.cons_append,opnGo,opnGo_snoc kn R t ts,opnGo,List.length_cons,show i+1+ts.length=i+(ts.length+1) by omega]
theorem opn_go (kn:Int) (R:List Rcp) (rt:List Rtn) (n:Nat):∀ k,k≤rt.length→opnK kn R rt n k=opnGo kn R ⟨[],List.replicate n false,List.replicate n (0,0)⟩ 0 (rt.take k)
 | 0,_=>by simp [opnK_zero,opnGo]
 | k+1,hk=>by
   have ht:rt[k]?=some rt[k]:=List.getElem?_eq_getElem (by omega)
   rw [opnK_succ ht,take_snoc_some ht,opnGo_snoc,opn_go kn R rt n k (by omega),List.length_take,Nat.min_eq_left (by omega),Nat.zero_add]
structure TwO (C:Nat→Nat→Prop) (s s':Opn) (i j n':Nat):Prop where
 tw:Tw C s.M s'.M s.P s'.P
 lt:∀ a b,C a b→a<i∧b<j
 pl:s'.P.length=n'
 tl:s'.T.length=n'
theorem tw_none {kn:Int} {R:List Rcp} {C:Nat→Nat→Prop} {s s':Opn} {i j n':Nat} (h:TwO C s s' i j n') (t:Rtn) (h0:readR kn R s.M t=none):TwO C (readS kn R s i t) s' (i+1) j n'∧TwO C (readS kn R s i t) (readS kn R s' j t) (i+1) (j+1) n':=by
 have ni:∀ b,¬ C i b:=fun b hb=>Nat.lt_irrefl _ (h.lt _ _ hb).1
 have nj:∀ a,¬ C a j:=fun a hb=>Nat.lt_irrefl _ (h.lt _ _ hb).2
 have h1:=h0
 rw [h.tw.readR kn R t] at h1
 unfold readS
 rw [h0,h1]
 refine ⟨⟨h.tw.setL _ ni,fun a b hab=>?_,h.pl,h.tl⟩,⟨(h.tw.setL _ ni).setR _ nj,fun a b hab=>?_,by simpa using h.pl,h.tl⟩⟩
 ·have:=h.lt a b hab;omega
 ·have:=h.lt a b hab;omega
theorem tw_some {kn:Int} {R:List Rcp} {C:Nat→Nat→Prop} {s s':Opn} {i j n':Nat} (h:TwO C s s' i j n') (t:Rtn) {r:Rcp} (h0:readR kn R s.M t=some r) (hi:i<s.P.length) (hj:j<n') :
 TwO (fun a b=>C a b∨(a=i∧b=j)) (readS kn R s i t) (readS kn R s' j t) (i+1) (j+1) n'∧(readS kn R s' j t).T=s'.T.set j true:=by
 have h1:=h0
 rw [h.tw.readR kn R t] at h1
 have hT:Tw (fun a b=>C a b∨(a=i∧b=j)) s.M s'.M (s.P.set i (0,0)) (s'.P.set j (0,0)):=by
  refine ⟨fun a b b' g g'=>?_,fun a a' b g g'=>?_,fun k=>?_,fun a b g=>?_⟩
  ·rcases g with g | g <;> rcases g' with g' | g'
   ·exact h.tw.fn _ _ _ g g'
   ·have:=h.lt _ _ g;omega
   ·have:=h.lt _ _ g';omega
   ·omega
  ·rcases g with g | g <;> rcases g' with g' | g'
   ·exact h.tw.inj _ _ _ g g'
   ·have:=h.lt _ _ g;omega
   ·have:=h.lt _ _ g';omega
   ·omega
  ·rcases h.tw.key k with h | ⟨a,b,h1,h2,h3⟩
   ·exact .inl h
   ·exact .inr ⟨a,b,h1,h2,.inl h3⟩
  ·rcases g with g | ⟨rfl,rfl⟩
   ·obtain ⟨q1,q2,q3⟩:=h.tw.val a b g
    have:=h.lt _ _ g
    refine ⟨by simpa using q1,by simpa using q2,?_⟩
    rw [getD_setP,getD_setP,if_neg (by omega),if_neg (by omega),q3]
   ·refine ⟨by simpa using hi,by rw [List.length_set,h.pl];exact hj,?_⟩
    rw [getD_setP,getD_setP,if_pos ⟨rfl,hi⟩,if_pos ⟨rfl,by rw [h.pl];exact hj⟩]
 unfold readS
 rw [h0,h1]
 dsimp only
 have hc:(fun a b=>C a b∨(a=i∧b=j)) i j:=.inr ⟨rfl,rfl⟩
 have h5:=((hT.set2 (0,100000) hc).set2 (max t.lo (r.day+1),hiK R r t.hi t.lv) hc).put r.src t.lv hc
 simp only [List.set_set] at h5 ⊢
 refine ⟨⟨h5,fun a b g=>?_,by simpa using h.pl,by simpa using h.tl⟩,by first | rfl | trivial⟩
 rcases g with g | ⟨rfl,rfl⟩
 ·have:=h.lt a b g;omega
 ·omega
theorem filt_snoc {α:Type} {p:α→Bool} {l:List α} {k:Nat} {x:α} (h:l[k]?=some x):(l.take (k+1)).filter p=(l.take k).filter p ++ (if p x=true then [x] else []):=by
 rw [take_snoc_some h,List.filter_append]
 congr 1
 cases hp:p x <;> simp [hp]
theorem tw_all {kn:Int} {R:List Rcp} {rt:List Rtn} {n n':Nat} {p:Rtn→Bool} (hn:rt.length≤n) (hn':(rt.filter p).length≤n') (hd:∀ k t,rt[k]?=some t→p t=false→readR kn R (opnK kn R rt n k).M t=none):∀ k,k≤rt.length →
 ∃ C,TwO C (opnK kn R rt n k) (opnGo kn R ⟨[],List.replicate n' false,List.replicate n' (0,0)⟩ 0 ((rt.take k).filter p)) k ((rt.take k).filter p).length n' ∧
   ((∀ i t,rt[i]?=some t→p t=true→¬ readR kn R (opnK kn R rt n i).M t=none)→∀ b,b<((rt.take k).filter p).length→(opnGo kn R ⟨[],List.replicate n' false,List.replicate n' (0,0)⟩ 0 ((rt.take k).filter p)).T[b]?=some true)
 | 0,_=>⟨fun _ _=>False,⟨⟨fun _ _ _ h=>h.elim,fun _ _ _ h=>h.elim,fun k=>.inl ⟨by rw [opnK_zero];rfl,by rw [List.take_zero];rfl⟩,fun _ _ h=>h.elim⟩,fun _ _ h=>h.elim,by simp [opnGo],by simp [opnGo]⟩,fun _ b hb=>by simp at hb⟩
 | k+1,hk=>by
   obtain ⟨C,hC,hT⟩:=tw_all hn hn' hd k (by omega)
   have ht:rt[k]?=some rt[k]:=List.getElem?_eq_getElem (by omega)
   generalize rt[k]=t at ht
   rw [opnK_succ ht,filt_snoc ht]
   cases hp:p t with
   | false =>
     rw [if_neg (by simp),List.append_nil]
     exact ⟨C,(tw_none hC t (hd k t ht hp)).1,hT⟩
   | true =>
     rw [if_pos rfl,opnGo_snoc,Nat.zero_add,List.length_append,List.length_singleton]
     have hl:((rt.take k).filter p).length<n':=by
      have h1:((rt.take (k+1)).filter p).length≤(rt.filter p).length:=((List.take_sublist _ _).filter p).length_le
      rw [filt_snoc ht,hp,if_pos rfl,List.length_append,List.length_singleton] at h1
      omega
     cases hr:readR kn R (opnK kn R rt n k).M t with
     | none=>exact ⟨C,(tw_none hC t hr).2,fun ha=>absurd hr (ha k t ht hp)⟩
     | some r =>
       obtain ⟨g1,g2⟩:=tw_some hC t hr (by rw [(opnK_len kn R rt n k).2];omega) hl
       refine ⟨_,g1,fun ha b hb=>?_⟩
       rw [g2]
       by_cases hb2:b=((rt.take k).filter p).length
       ·subst hb2
        rw [List.getElem?_set_self (by rw [hC.tl];exact hl)]
       ·rw [List.getElem?_set_ne (by omega)]
        exact hT ha b (by omega)
theorem tw_led {l l':Led} {kn:Int} {p:Rtn→Bool} (hR:cntR l' kn=cntR l kn) (ht:l'.rt=l.rt.filter p) (hd:∀ k t,l.rt[k]?=some t→p t=false→readR kn (cntR l kn) (opnK kn (cntR l kn) l.rt l.rt.length k).M t=none) :
 (∃ C,Tw C (opnL l kn).M (opnL l' kn).M (opnL l kn).P (opnL l' kn).P)∧((∀ i t,l.rt[i]?=some t→p t=true→¬ readR kn (cntR l kn) (opnK kn (cntR l kn) l.rt l.rt.length i).M t=none)→∀ b,b<l'.rt.length→(opnL l' kn).T[b]?=some true):=by
 obtain ⟨C,h1,h2⟩:=tw_all (kn:=kn) (R:=cntR l kn) (n:=l.rt.length) (n':=l'.rt.length) (p:=p) lr_ (by rw [ht];exact lr_) hd l.rt.length lr_
 have e:opnL l' kn=opnGo kn (cntR l kn) ⟨[],List.replicate l'.rt.length false,List.replicate l'.rt.length (0,0)⟩ 0 ((l.rt.take l.rt.length).filter p):=by
  rw [opnL,hR,opn_go _ _ _ _ _ lr_,List.take_length,List.take_length,← ht]
 rw [← e] at h1 h2
 refine ⟨⟨C,h1.tw⟩,fun ha b hb=>h2 ha b ?_⟩
 rw [List.take_length,← ht]
 exact hb
theorem tw_same {l l':Led} {kn:Int} {C:Nat→Nat→Prop} (hR:cntR l' kn=cntR l kn) (hS:cntS l' kn=cntS l kn) (h:Tw C (opnL l kn).M (opnL l' kn).M (opnL l kn).P (opnL l' kn).P) :
 dblR (opnL l' kn).M (opnL l' kn).P (cntR l' kn)=dblR (opnL l kn).M (opnL l kn).P (cntR l kn)∧(∀ S,conB l' kn S=conB l kn S)∧setE l' kn=setE l kn∧∀ day f,setE l kn=0→whL l' kn day f=whL l kn day f:=by
 have hd:dblR (opnL l' kn).M (opnL l' kn).P (cntR l' kn)=dblR (opnL l kn).M (opnL l kn).P (cntR l kn):=by rw [hR,h.dblR]
 have hn:∀ S,(narL (opnL l kn).M (cntR l kn) S (opnL l kn).P=none∧narL (opnL l' kn).M (cntR l' kn) S (opnL l' kn).P=none)∨∃ D D',narL (opnL l kn).M (cntR l kn) S (opnL l kn).P=some D∧narL (opnL l' kn).M (cntR l' kn) S (opnL l' kn).P=some D'∧Tw C (opnL l kn).M (opnL l' kn).M D D':=fun S=>by
  rw [hR];exact Tw.narL (cntR l kn) S h
 refine ⟨hd,fun S=>?_,?_,fun day f h0=>?_⟩
 ·rw [conB,conB]
  rcases hn S with ⟨h1,h2⟩ | ⟨D,D',h1,h2,-⟩ <;> rw [h1,h2] <;> rfl
 ·rw [setE,setE,hd,hS]
  rcases hn (cntS l kn) with ⟨h1,h2⟩ | ⟨D,D',h1,h2,-⟩ <;> rw [h1,h2] <;> cases dblR (opnL l kn).M (opnL l kn).P (cntR l kn) <;> rfl
 ·rw [whL,whL,setP,setP,hS]
  rcases hn (cntS l kn) with ⟨h1,h2⟩ | ⟨D,D',h1,h2,h3⟩
  ·exfalso
   rw [setE,h1] at h0
   cases hdd:dblR (opnL l kn).M (opnL l kn).P (cntR l kn) <;> rw [hdd] at h0 <;> cases h0
  ·rw [h1,h2,Option.getD_some,Option.getD_some,hR]
   exact (h3.where_ _ _ _ _).symm
theorem filt_same {α:Type} {p q:α→Bool} {l:List α} (h:∀ x∈l,p x=false→q x=false):(l.filter p).filter q=l.filter q:=by
 rw [List.filter_filter]
 refine List.filter_congr fun x hx=>?_
 cases hp:p x with
 | true=>simp
 | false=>simp [h x hx hp]
def fewL (l:Led) (kn:Int):Led:=⟨l.pp,cntR l kn,l.rt.filter fun t=>decide (t.src∈(telX l kn).1),cntS l kn⟩
theorem val_filt {α:Type} {num:α→Int} {ok:α→Bool} {most:Nat} {l:List α} (h:valB num ok most l=true) (p:α→Bool):valB num ok most (l.filter p)=true:=by
 have hl:l.length≤most:=by
  rw [valB,Bool.and_eq_true] at h
  simpa using h.1
 exact val_mk (Nat.le_trans (List.length_filter_le _ _) hl) (fun x hx=>val_all h x (List.mem_filter.1 hx).1) ((val_pair h).filter p)
theorem ledB_sub {l:Led} (h:ledB l=true) (p:Rcp→Bool) (q:Rtn→Bool) (s:Sgt→Bool):ledB ⟨l.pp,l.rc.filter p,l.rt.filter q,l.sg.filter s⟩=true:=by
 simp only [ledB,Bool.and_eq_true,decide_eq_true_eq] at h ⊢
 obtain ⟨h1,h2,h3,h4,h5,h6⟩:=h
 refine ⟨h1,val_filt h2 _,val_filt h3 _,val_filt h4 _,?_,?_⟩
 ·exact h5.sublist ((List.filter_sublist.map _).append ((List.filter_sublist.map _).append (List.filter_sublist.map _)))
 ·rw [folsB,List.all_eq_true] at h6 ⊢
  intro f hf
  refine h6 f ?_
  simp only [namL,List.mem_append,List.mem_flatMap,List.mem_map] at hf ⊢
  rcases hf with ⟨r,hr,hf⟩ | ⟨r,hr,hf⟩
  ·exact .inl ⟨r,(List.mem_filter.1 hr).1,hf⟩
  ·exact .inr ⟨r,(List.mem_filter.1 hr).1,hf⟩
theorem few_led {l:Led} {kn:Int} (h:ledB l=true):ledB (fewL l kn)=true:=ledB_sub h _ _ _
theorem tells_at {l:Led} {kn:Int} (hl:ledB l=true) (hp:preE l [kn]=0) {k:Nat} {t:Rtn} (ht:l.rt[k]?=some t):decide (t.src∈(telX l kn).1)=true↔(opnL l kn).T[k]?=some true:=by
 rw [decide_eq_true_eq,telX,if_pos hp]
 constructor
 ·intro h
  obtain ⟨j,u,hu,hT,he⟩:=tel_at h
  have hjk:j=k:=by
   have h1:=findI_src (rt_rise hl) hu
   have h2:=findI_src (rt_rise hl) ht
   rw [he] at h1
   exact Option.some.inj (h1.symm.trans h2)
  rw [← hjk];exact hT
 ·intro h
  exact at_tel ht h
theorem opn_inv2 (kn:Int) (R:List Rcp) (rt:List Rtn) (n:Nat) (hn:rt.length≤n):∀ k,k≤rt.length→∀ j,k≤j→j<n→(opnK kn R rt n k).T[j]?=some false
 | 0,_,j,_,hj=>by rw [opnK_zero];simp [hj]
 | k+1,hk,j,hj,hjn=>by
   obtain ⟨u,hu⟩:∃ u,rt[k]?=some u:=⟨_,List.getElem?_eq_getElem (by omega)⟩
   rw [opnK_succ hu]
   have ih:=opn_inv2 kn R rt n hn k (by omega) j (by omega) hjn
   unfold readS
   split
   ·exact ih
   ·rw [List.getElem?_set_ne (by omega)];exact ih
theorem opnK_T {kn:Int} {R:List Rcp} {rt:List Rtn} {n:Nat} (hn:rt.length≤n) {k:Nat} {t:Rtn} (ht:rt[k]?=some t):∀ m,k<m→m≤rt.length→((opnK kn R rt n m).T[k]?=some true↔¬ readR kn R (opnK kn R rt n k).M t=none)
 | 0,h,_=>absurd h (Nat.not_lt_zero _)
 | m+1,h,hm=>by
   obtain ⟨u,hu⟩:∃ u,rt[m]?=some u:=⟨_,List.getElem?_eq_getElem (by omega)⟩
   rw [opnK_succ hu]
   by_cases hk:k=m
   ·subst hk
    obtain rfl:t=u:=Option.some.inj (ht.symm.trans hu)
    have hfalse:(opnK kn R rt n k).T[k]?=some false:=by
     have:=(opn_inv2 kn R rt n hn k (by omega)) k lr_ (by omega)
     exact this
    unfold readS
    cases hr:readR kn R (opnK kn R rt n k).M t with
    | none=>simp [hfalse]
    | some r =>
      have hlt:k<(opnK kn R rt n k).T.length:=(List.getElem?_eq_some_iff.1 hfalse).1
      simp [hlt]
   ·have hT:(readS kn R (opnK kn R rt n m) m u).T[k]?=(opnK kn R rt n m).T[k]?:=by
     unfold readS
     split
     ·rfl
     ·rw [List.getElem?_set_ne (by omega)]
    rw [hT]
    exact opnK_T hn ht m (by omega) (by omega)
theorem few_same {l:Led} {kn:Int} (hl:ledB l=true) (hp:preE l [kn]=0) :
 dblR (opnL (fewL l kn) kn).M (opnL (fewL l kn) kn).P (cntR (fewL l kn) kn)=dblR (opnL l kn).M (opnL l kn).P (cntR l kn)∧(∀ S,conB (fewL l kn) kn S=conB l kn S)∧setE (fewL l kn) kn=setE l kn∧(∀ day f,setE l kn=0→whL (fewL l kn) kn day f=whL l kn day f)∧cntS (fewL l kn) kn=cntS l kn∧∀ b,b<(fewL l kn).rt.length→(opnL (fewL l kn) kn).T[b]?=some true:=by
 have e1:cntR (fewL l kn) kn=cntR l kn:=filt_same fun r _ h=>h
 have e2:cntS (fewL l kn) kn=cntS l kn:=filt_same fun r _ h=>h
 obtain ⟨⟨C,hC⟩,hall⟩:=tw_led (l:=l) (l':=fewL l kn) (kn:=kn) (p:=fun t=>decide (t.src∈(telX l kn).1)) e1 rfl (fun k t ht hp0=>by
  have h1:=opnK_T (kn:=kn) (R:=cntR l kn) (Nat.le_refl l.rt.length) ht l.rt.length (List.getElem?_eq_some_iff.1 ht).1 lr_
  have h2:=tells_at hl hp ht
  cases hr:readR kn (cntR l kn) (opnK kn (cntR l kn) l.rt l.rt.length k).M t with
  | none=>rfl
  | some r =>
    have h3:=h2.2 (h1.2 (by rw [hr];simp))
    rw [h3] at hp0
    cases hp0)
 obtain ⟨h1,h2,h3,h4⟩:=tw_same e1 e2 hC
 refine ⟨h1,h2,h3,h4,e2,fun b hb=>hall (fun i t ht hpt=>?_) b hb⟩
 have g1:=opnK_T (kn:=kn) (R:=cntR l kn) (Nat.le_refl l.rt.length) ht l.rt.length (List.getElem?_eq_some_iff.1 ht).1 lr_
 exact g1.1 ((tells_at hl hp ht).1 hpt)
theorem few_tel {l:Led} {kn:Int} (hl:ledB l=true) (hp:preE l [kn]=0) (hp2:preE (fewL l kn) [kn]=0):telX (fewL l kn) kn=telX l kn:=by
 obtain ⟨-,-,-,-,-,hT⟩:=few_same hl hp
 have h1:(opnL (fewL l kn) kn).T=List.replicate (fewL l kn).rt.length true:=by
  apply List.ext_getElem?
  intro b
  by_cases hb:b<(fewL l kn).rt.length
  ·rw [hT b hb,List.getElem?_replicate,if_pos hb]
  ·rw [List.getElem?_eq_none (by rw [show (opnL (fewL l kn) kn).T.length=(fewL l kn).rt.length from (opnK_len _ _ _ _ _).1];omega),List.getElem?_eq_none (by simp;omega)]
 have hz:∀ rt:List Rtn,((List.zip (List.replicate rt.length true) rt).filter fun p=>p.1).map (fun p=>p.2.src)=rt.map Rtn.src:=by
  intro rt
  induction rt with
  | nil=>rfl
  | cons t rt ih=>rw [List.length_cons,List.replicate_succ,List.zip_cons_cons,List.filter_cons,if_pos rfl,List.map_cons,ih,List.map_cons]
 have hk:∀ (T:List Bool) (rt:List Rtn),(∀ (k:Nat) (t:Rtn),rt[k]?=some t→(decide (t.src∈telK T rt rt.length)=true↔T[k]?=some true))→T.length=rt.length→(rt.filter fun t=>decide (t.src∈telK T rt rt.length)).map Rtn.src=telK T rt rt.length:=by
  intro T rt h0 hlen
  have g:∀ (L:List Int) (T:List Bool) (rt:List Rtn),T.length=rt.length→(∀ (k:Nat) (t:Rtn),rt[k]?=some t→(decide (t.src∈L)=true↔T[k]?=some true))→(rt.filter fun t=>decide (t.src∈L)).map Rtn.src=((List.zip T rt).filter fun p=>p.1).map fun p=>p.2.src:=by
   intro L T
   induction T with
   | nil=>intro rt h _;have:rt=[]:=List.eq_nil_of_length_eq_zero h.symm;subst this;rfl
   | cons b T ih =>
     intro rt h hk
     cases rt with
     | nil=>cases h
     | cons t rt =>
       have h1:=hk 0 t rfl
       have h2:=ih rt (by simpa using h) fun k u hu=>hk (k+1) u hu
       rw [List.filter_cons,List.zip_cons_cons,List.filter_cons]
       cases b with
       | true =>
         rw [if_pos (h1.2 rfl),if_pos rfl,List.map_cons,List.map_cons,h2]
       | false =>
         rw [if_neg (fun e=>by have:=h1.1 e;cases this),if_neg (by simp),h2]
  rw [g _ T rt hlen h0,telK,List.take_of_length_le (by rw [List.length_zip];omega)]
 rw [telX,if_pos hp2,telX,if_pos hp]
 congr 1
 rw [h1,telK,List.take_of_length_le (by rw [List.length_zip,List.length_replicate];omega),hz]
 have h9:=hk (opnL l kn).T l.rt (fun k t ht=>by
  have:=tells_at hl hp ht
  rw [telX,if_pos hp] at this
  exact this) (opnK_len _ _ _ _ _).1
 show (l.rt.filter fun t=>decide (t.src∈(telX l kn).1)).map Rtn.src=_
 rw [telX,if_pos hp]
 exact h9
theorem pre_few {l:Led} {kn:Int} (hl:ledB l=true) (ds:List Int):preE (fewL l kn) ds=preE l ds:=by rw [preE,preE,few_led hl,hl]
theorem clash2_same {l l':Led} {kn:Int} (h:∀ S,conB l' kn S=conB l kn S):∀ S,clash2 l' kn S=clash2 l kn S
 | []=>rfl
 | x :: S=>by
   rw [clash2,clash2,clash2_same h S]
   have e:(fun y=>conB l' kn [x,y])=fun y=>conB l kn [x,y]:=by funext y;exact h _
   rw [e]
theorem few_double {l:Led} {kn:Int} (hl:ledB l=true):doubleX (fewL l kn) kn=doubleX l kn:=by
 rw [doubleX,doubleX,pre_few hl]
 by_cases hp:preE l [kn]=0
 ·rw [if_pos hp,if_pos hp,(few_same hl hp).1]
 ·rw [if_neg hp,if_neg hp]
theorem few_clash {l:Led} {kn:Int} (hl:ledB l=true):clashX (fewL l kn) kn=clashX l kn:=by
 rw [clashX,clashX,pre_few hl]
 by_cases hp:preE l [kn]=0
 ·obtain ⟨h1,h2,-,-,h5,-⟩:=few_same hl hp
  rw [if_pos hp,if_pos hp,h1,h5,clash2_same h2]
  have e:(fun s=>conB (fewL l kn) kn [s])=fun s=>conB l kn [s]:=by funext s;exact h2 _
  rw [e]
 ·rw [if_neg hp,if_neg hp]
theorem few_where {l:Led} {kn:Int} (hl:ledB l=true) (pap leaf day:Int) (hp:preE l [kn]=0):whereX (fewL l kn) pap leaf day kn=whereX l pap leaf day kn:=by
 obtain ⟨-,-,h3,h4,-⟩:=few_same hl hp
 have e:preF (fewL l kn) day kn pap leaf=preF l day kn pap leaf:=by rw [preF,preF,few_led hl,hl];rfl
 rw [whereX,whereX,e,h3]
 split
 ·split
  ·rename_i h0;rw [h4 _ _ h0]
  ·rfl
 ·rfl
theorem rvs_rd {w:World} {B n:Nat} {A:Option Addr} {R:List Rcp} (h:Rcs w B A n R):∃ xs:List Rv,xs.map Rv.r=R∧Rd w B 7 A n (xs.flatMap rvC)∧∀ v∈xs,Is w B v.A v.n v.r.lv∧v.n≤v.c∧v.c≤maxLen:=by
 obtain ⟨xs,e,hl,hx⟩:=rvs_of h
 by_cases h0:0<n
 ·obtain ⟨b,o,rfl,hb,hc⟩:=hx h0
  refine ⟨xs,e,rd_flat rvC 7 (fun _=>rfl) (by decide) hl hb fun k x hk m u hm hu=>?_,fun v hv=>?_⟩
  ·obtain ⟨⟨c0,c1,c2,c3,c4,c5,c6⟩,-⟩:=hc k x hk
   match m,hm,hu with
   | 0,_,hu=>simp at hu;subst hu;simpa using c0
   | 1,_,hu=>simp at hu;subst hu;exact c1
   | 2,_,hu=>simp at hu;subst hu;exact c2
   | 3,_,hu=>simp at hu;subst hu;exact c3
   | 4,_,hu=>simp at hu;subst hu;exact c4
   | 5,_,hu=>simp at hu;subst hu;exact c5
   | 6,_,hu=>simp at hu;subst hu;exact c6
   | m+7,hm,_=>omega
  ·obtain ⟨k,hk⟩:=List.getElem?_of_mem hv
   exact (hc k v hk).2
 ·obtain rfl:n=0:=by omega
  obtain rfl:xs=[]:=List.length_eq_zero_iff.1 hl
  exact ⟨[],e,⟨rfl,fun h=>absurd h (by omega)⟩,fun v hv=>by cases hv⟩
theorem sgs_rd {w:World} {B n:Nat} {A:Option Addr} {S:List Sgt} (h:Sgs w B A n S):Rd w B 7 A n (S.flatMap sgC):=by
 obtain ⟨hl,hx⟩:=h
 by_cases h0:0<n
 ·obtain ⟨b,o,rfl,hb,hc⟩:=hx h0
  refine rd_flat sgC 7 (fun _=>rfl) (by decide) hl hb fun k x hk m u hm hu=>?_
  obtain ⟨c0,c1,c2,c3,c4,c5,c6⟩:=hc k x hk
  match m,hm,hu with
  | 0,_,hu=>simp at hu;subst hu;simpa using c0
  | 1,_,hu=>simp at hu;subst hu;exact c1
  | 2,_,hu=>simp at hu;subst hu;exact c2
  | 3,_,hu=>simp at hu;subst hu;exact c3
  | 4,_,hu=>simp at hu;subst hu;exact c4
  | 5,_,hu=>simp at hu;subst hu;exact c5
  | 6,_,hu=>simp at hu;subst hu;exact c6
  | m+7,hm,_=>omega
 ·obtain rfl:n=0:=by omega
  obtain rfl:S=[]:=List.length_eq_zero_iff.1 hl
  exact ⟨rfl,fun h=>absurd h (by omega)⟩
theorem few_in {W3 wv wr:World} {q:Nat} {OC:Array Value} {pA AR AT AS:Option Addr} {pn pc mR cR mT cT mS cS:Nat} {pp:List Ppr} {XR:List Rv} {XT:List Tv} {XS:List Sgt} {pR:Rv→Bool} {pT:Tv→Bool} {pS:Sgt→Bool}
 (h:WoI W3 wv wr q OC (mR,.slice AR mR cR,(XR.filter pR).flatMap rvC) (mT,.slice AT mT cT,(XT.filter pT).flatMap tvC) (mS,.slice AS mS cS,(XS.filter pS).flatMap sgC))
 (hp:Pps W3 W3.heap.size pA pn pp) (hR:∀ v∈XR,Is W3 W3.heap.size v.A v.n v.r.lv∧v.n≤v.c∧v.c≤maxLen) (hT:∀ v∈XT,Is W3 W3.heap.size v.A v.n v.r.lv∧v.n≤v.c∧v.c≤maxLen) :
 LedIn wr wr.heap.size ⟨pA,pn,pc,AR,mR,cR,AT,mT,cT,AS,mS,cS⟩ ⟨pp,(XR.filter pR).map Rv.r,(XT.filter pT).map Tv.r,XS.filter pS⟩:=by
 refine ⟨hp.now abP h.bel,rcs_of (sq_rv ?_ (own_len h.r (fun _=>rfl) (by decide)) fun v hv=>?_),rts_of ?_ (own_len h.t (fun _=>rfl) (by decide)) (fun v hv=>?_),sq_sg ?_ (own_len h.s (fun _=>rfl) (by decide))⟩
 ·exact Rd.of_own h.r
 ·obtain ⟨h1,h2⟩:=hR v (List.mem_filter.1 hv).1
  exact ⟨h1.now h.bel,h2⟩
 ·exact Rd.of_own h.t
 ·obtain ⟨h1,h2⟩:=hT v (List.mem_filter.1 hv).1
  exact ⟨h1.now h.bel,h2⟩
 ·exact Rd.of_own h.s
theorem cnt_un {a k:Int}:countsB a 0 k=decide (a≤k):=by simp [countsB]
theorem few_made {d:Int} {l:Led} {days:List Int} (h:MkOk d l days) (kn:Int) {ss:List Int} (hss:(telX l kn).1=ss) {XR:List Rv} {XT:List Tv} (hR:XR.map Rv.r=l.rc) (hT:XT.map Tv.r=l.rt) :
 (⟨l.pp,(XR.filter fun z=>decide (z.r.kn≤kn)).map Rv.r,(XT.filter fun z=>decide (z.r.src∈ss)).map Tv.r,l.sg.filter fun z=>decide (z.kn≤kn)⟩:Led)=fewL l kn:=by
 have u1:∀ r∈l.rc,r.un=0:=idx_all fun k r hr=>(h.rc k r hr).un
 have u3:∀ s∈l.sg,s.un=0:=idx_all fun k s hs=>(h.sg k s hs).un
 have e1:(XR.filter fun z=>decide (z.r.kn≤kn)).map Rv.r=cntR l kn:=by
  have e:(XR.filter fun z=>decide (z.r.kn≤kn)).map Rv.r=(XR.map Rv.r).filter fun r=>decide (r.kn≤kn):=by rw [List.filter_map];rfl
  rw [e,hR,cntR]
  exact List.filter_congr fun r hr=>by rw [u1 r hr,cnt_un]
 have e2:(XT.filter fun z=>decide (z.r.src∈ss)).map Tv.r=l.rt.filter fun t=>decide (t.src∈(telX l kn).1):=by
  have e:(XT.filter fun z=>decide (z.r.src∈ss)).map Tv.r=(XT.map Tv.r).filter fun r=>decide (r.src∈ss):=by rw [List.filter_map];rfl
  rw [e,hT,hss]
 have e3:(l.sg.filter fun z=>decide (z.kn≤kn))=cntS l kn:=by
  rw [cntS]
  exact List.filter_congr fun r hr=>by rw [u3 r hr,cnt_un]
 rw [fewL,e1,e2,e3]
theorem p_WhereS (l:Led) (x:Lsl) (pap leaf day kn:Int) (p:List Int) (v:Int) (w:World) (hf:x.fit) (hd:LedIn w w.heap.size x l) (hwl:(Lit.int .i64 leaf).wf=true) (h:whereX l pap leaf day kn=(p,v)) :
 Calls Tryz.prog 17 #[.agg #[.slice x.pA x.pn x.pc,.slice x.rA x.rn x.rc,.slice x.tA x.tn x.tc,.slice x.sA x.sn x.sc],.agg #[.int .i64 pap,.int .i64 leaf],.int .i64 day,.int .i64 kn] w (RetLE (p,v) w):=h ▸ p_WhereX l x pap leaf day kn w hf hd hwl
theorem whereS_len {l:Led} {pap leaf day kn:Int} {p:List Int} {v:Int} (h:whereX l pap leaf day kn=(p,v)):p.length≤1000000:=by
 rw [whereX] at h
 split at h
 ·split at h
  ·cases h;have:=whL_len l kn day (pap,leaf);omega
  ·cases h;simp
 ·cases h;simp
set_option maxRecDepth 100000 in
set_option maxHeartbeats 32000000 in
theorem w_LoanSince (x:Rsl) (r:RawL) (n0 n1 n2 n3:Int) (w:World) (hf:x.fit) (hd:RawIn w x r) :
 Calls Tryz.prog 7 #[.agg #[.slice x.aA x.an x.ac,.slice x.bA x.bn x.bc,.slice x.cA x.cn x.cc],.agg #[.int .i64 n0,.int .i64 n1,.int .i64 n2,.int .i64 n3]] w fun e w'=>e=.returned (.bool true)∧Below w.heap.size w w':=by
 obtain ⟨aA,an,ac,bA,bn,bc,cA,cn,cc⟩:=x
 have HF:=hd_ hf
 have HD:=hd_ hd
 clear hf hd
 obtain ⟨iR,hiR,hz0R,hz1R,hz2R⟩:=info_parts infoClRcpt
 obtain ⟨iT,hiT,hz0T,hz1T,hz2T⟩:=info_parts infoClRetn
 obtain ⟨iS,hiS,hz0S,hz1S,hz2S⟩:=info_parts infoClSight
 obtain ⟨kn,hkn,hkb⟩:=mod_nat n0 (m:=200) (by decide)
 obtain ⟨day,hday,hdb⟩:=mod_nat n3 (m:=220) (by decide)
 have HKN:=hd_ hkn
 have HDY:=hd_ hday
 clear hkn hday
 have HBN0:=hd_ (box2 w 25 56 #[.slice aA an ac,.slice bA bn bc,.slice cA cn cc] #[.int .i64 n0,.int .i64 n1,.int .i64 n2,.int .i64 n3]).2
 go_enter Tryz.func7,Tryz.ntmps7
 go_wp2_with fail
 refine (r_Made ⟨aA,an,ac,bA,bn,bc,cA,cn,cc⟩ r _ HF.out (HD.out.now (by exact bel_))).mono ?_
 rintro e w1 ⟨y,l,days,DD,dc,d,rfl,hb1,hfy,hl,hM,-,-,-⟩
 obtain ⟨pA,pn,pc,rA,rn,rc,tA,tn,tc,sA,sn,sc⟩:=y
 have HB1:Below w.heap.size w w1:=Below.then_ (by exact bel_) hb1
 have bN1:=HBN0.out.ext hb1
 have HBN1:=hd_ bN1
 have kN:=bN1.cell
 have zN:=bN1.lt
 have HLD:=hd_ hl
 have HFY:=hd_ hfy
 have HM:=hd_ hM
 have hled:ledB l=true:=hM.led
 have hpre:preE l [(kn:Int)]=0:=pre_okM hled (by simp [daysOk,withinB];omega)
 have HPRE:=hd_ hpre
 have HLE:=hd_ hled
 clear hl hfy hb1 hM bN1 hled hpre
 go_upto_region 3 with ((go_at_call 11;refine (r_Mod_v n0 200 kn _ (by decide) (by decide) HKN.out).mono ?_;rintro e w6 ⟨rfl,rfl⟩))
 clear kN zN
 refine wp_named2 fun f2 W2 hf2 hW2=>?_
 have bL2:BoxA W2 w1.heap.size 32 #[.slice pA pn pc,.slice rA rn rc,.slice tA tn tc,.slice sA sn sc]:=by rw [← hW2];exact BoxA.new _ _ _
 have h12:Below w1.heap.size w1 W2:=by rw [← hW2];exact bel_
 have HB2:Below w.heap.size w W2:=Below.then_ HB1 h12
 have HL2:=hd_ (HLD.out.now h12)
 have HBN2:=hd_ (HBN1.out.ext h12)
 have kL2:=bL2.cell
 have zL2:=bL2.lt
 have hs2:=HB2.size
 clear hW2 HLD h12 HBN1
 subst hf2
 have hTX:telX l kn=((telX l kn).1,0):=by rw [telX,if_pos HPRE.out]
 obtain ⟨ss,hss⟩:∃ y,(telX l kn).1=y:=⟨_,rfl⟩
 rw [hss] at hTX
 have HTX:=hd_ hTX
 have HSS:=hd_ hss
 clear hTX hss
 go_wp2_with fail
 refine (p_Telling_v l ⟨pA,pn,pc,rA,rn,rc,tA,tn,tc,sA,sn,sc⟩ kn ss 0 _ HFY.out (HL2.out.now (by exact bel_)) HTX.out).mono ?_
 rintro e W3 ⟨At,nt,ct,rfl,hb3,hit,hct⟩
 have HB3:Below w.heap.size w W3:=Below.then_ HB2 hb3
 have hs3:=HB3.size
 have HL3:=hd_ (HL2.out.now hb3)
 have HBL3:=hd_ (bL2.ext hb3)
 have HBN3:=hd_ (HBN2.out.ext hb3)
 have hnt:=hit.len
 have HIT3:Hid (Is W3 W3.heap.size At nt ss):=by show Is _ _ _ _ _;exact hit
 have hntm:nt≤9223372036854775807:=by have:=hct.1;have:=hct.2;unfold maxLen at *;omega
 have hb13:w1.heap.size<W3.heap.size:=HBL3.out.lt
 clear hb3 hit kL2 zL2 bL2 HL2 HBN2
 have kL:=HBL3.out.cell
 have zL:=HBL3.out.lt
 have hrx:=rvs_rd HL3.out.r
 have htx:=tvs_of HL3.out.t
 have hsx:=sgs_rd HL3.out.s
 dsimp only at hrx htx hsx
 obtain ⟨XR,hXR,hRR,hRL⟩:=hrx
 obtain ⟨XT,hXT,hRT,hTL⟩:=htx
 obtain ⟨XS,hXS⟩:∃ X,l.sg=X:=⟨_,rfl⟩
 rw [hXS] at hsx
 have HRR:Hid (Rd W3 W3.heap.size 7 rA rn (XR.flatMap rvC)):=by show Rd _ _ _ _ _ _;exact hRR
 have HRT:Hid (Rd W3 W3.heap.size 8 tA tn (XT.flatMap tvC)):=by show Rd _ _ _ _ _ _;exact hRT
 have HRS:Hid (Rd W3 W3.heap.size 7 sA sn (XS.flatMap sgC)):=by show Rd _ _ _ _ _ _;exact hsx
 have HLR:Hid (XR.length=rn):=by show _=_;have h:=HL3.out.r.len;dsimp only at h;rw [← h,← hXR,List.length_map]
 have HLT:Hid (XT.length=tn):=by show _=_;have h:=HL3.out.t.len;dsimp only at h;rw [← h,← hXT,List.length_map]
 have HLS:Hid (XS.length=sn):=by show _=_;have h:=HL3.out.s.len;dsimp only at h;rw [← h,← hXS]
 have hrn60:rn≤60:=by have h1:=HL3.out.r.len;have h2:=HM.out.rl;dsimp only at h1;omega
 have htn60:tn≤60:=by have h1:=HL3.out.t.len;have h2:=HM.out.tl;dsimp only at h1;omega
 have hsn60:sn≤60:=by have h1:=HL3.out.s.len;have h2:=HM.out.sl;dsimp only at h1;omega
 have HXR:=hd_ hXR
 have HXT:=hd_ hXT
 have HXS:=hd_ hXS
 have HRL:=hd_ hRL
 have HTL:=hd_ hTL
 clear hXR hXT hXS hRR hRT hsx hRL hTL
 go_upto_region 5 with fail
 refine wp_named2 fun f4 wv hf4 hwv=>?_
 have bF4:BoxA wv W3.heap.size 32 #[.slice pA pn pc,.slice none 0 0,.slice none 0 0,.slice none 0 0]:=by rw [← hwv];exact BoxA.new _ _ _
 have h34:Below W3.heap.size W3 wv:=by rw [← hwv];exact bel_
 have HBF:=hd_ bF4
 have H34:=hd_ h34
 have hwv1:=h34.size
 have hqq:W3.heap.size≤W3.heap.size∧W3.heap.size<wv.heap.size:=⟨lr_,bF4.lt⟩
 clear hwv kL zL bF4 h34
 subst hf4
 go_wp2_with fail
 go_loopw [11] (fun i wr=>∃ k:Nat,k≤rn∧i=.int .i64 k∧∃ AR mR cR,WoI W3 wv wr W3.heap.size #[.slice pA pn pc,.slice AR mR cR,.slice none 0 0,.slice none 0 0] (mR,.slice AR mR cR,((XR.take k).filter (fun z=>decide (z.r.kn≤(kn:Int)))).flatMap rvC) (0,.slice none 0 0,[]) (0,.slice none 0 0,[])) (fun i _=>rn - (intOf i).toNat)
 case atStart=>exact ⟨0,by omega,rfl,none,0,0,⟨H34.out,fun _ _ _=>rfl,lr_,HBF.out,World.ownsRow_nil _ _ _ _,World.ownsRow_nil _ _ _ _,World.ownsRow_nil _ _ _ _⟩⟩
 case round =>
  obtain ⟨k,hk,rfl,AR,mR,cR,hI⟩:=hrel
  have hsz:=hI.sz
  have bX:BoxA wr w1.heap.size 32 #[.slice pA pn pc,.slice rA rn rc,.slice tA tn tc,.slice sA sn sc]:=HBL3.out.ext hI.bel
  have bO:=hI.bO
  have kX:=bX.cell
  have zX:=bX.lt
  have kO:=bO.cell
  have zO:=bO.lt
  have HI:=hd_ hI
  have HX:=hd_ bX
  have HOB:=hd_ bO
  by_cases hlt:k<rn
  ·obtain ⟨z,hz⟩:∃ z,XR[k]?=some z:=⟨_,List.getElem?_eq_getElem (by rw [HLR.out];exact hlt)⟩
   obtain ⟨b,o,hA,hb,hec⟩:=elemB HRR.out (flat_get rvC 7 (fun _=>rfl)) (fun _=>rfl) hz hlt
   have hb1:b<wv.heap.size:=by omega
   have hbr:b<wr.heap.size:=by omega
   have hec2:∀ m u,(rvC z)[m]?=some u→wr.cell? ⟨b,o+k*7+m,none⟩=some u:=fun m u hu=>(hI.bel.cell (p:=⟨b,o+k*7+m,none⟩) hb).trans (hec m u hu)
   clear hI bX bO
   subst hA
   have g5:=hec2 5 _ rfl
   (try simp only [Nat.add_zero] at g5)
   have HEC:=hd_ hec2
   by_cases hs:z.r.kn≤(kn:Int)
   ·have HN_:Hid ((XR.take (k+1)).filter (fun z=>decide (z.r.kn≤(kn:Int)))=((XR.take k).filter (fun z=>decide (z.r.kn≤(kn:Int)))) ++ [z]):=by show _=_;rw [take_snoc_some hz,List.filter_append];simp [hs]
    have hs2:decide (z.r.kn≤(kn:Int))=true:=decide_eq_true hs
    have HS2:=hd_ hs2
    clear hec hec2 hz
    go_wp2_with fail
    clear g5
    (refine wp_region_sink_lit (S:=SW w1.heap.size W3.heap.size #[.slice pA pn pc,.slice (some ⟨b,o,none⟩) rn rc,.slice tA tn tc,.slice sA sn sc] #[.slice pA pn pc,.slice AR mR cR,.slice none 0 0,.slice none 0 0] b (o+k*7) (rvC z)) 10 (by kernel_rfl) rfl rfl (by kernel_rfl) (by kernel_rfl) ⟨⟨HX.out.cell,HOB.out.cell,HX.out.lt,HOB.out.lt⟩,hbr,HEC.out⟩ (fun hS=>?_);simp only [List.take_succ_cons,List.take_zero,List.reduceReplicate,Array.replicate_succ,Array.replicate_zero])
    refine ab9 (fun _ _ _ _ _ h=>h) fun L Q HL HQ HP HN=>?_
    (refine tk9 (i:=0) (v:=?_) HL HP HN rfl ?_ hS ?_;rotate_left;focus (intro w2 hw2;obtain ⟨⟨x1,x2,z1,z2⟩,z3,hec⟩:=hw2;have g0:=hec 0 _ rfl;have g1:=hec 1 _ rfl;have g2:=hec 2 _ rfl;have g3:=hec 3 _ rfl;have g4:=hec 4 _ rfl;have g5:=hec 5 _ rfl;have g6:=hec 6 _ rfl;simp only [Nat.add_zero] at g0;clear hec;go_simp;first | done | with_reducible rfl);(try simp only [Act.put,pu1,pu2,pu3]))
    (refine tk9 (i:=1) (v:=?_) HL HP HN rfl ?_ hS ?_;rotate_left;focus (intro w2 hw2;obtain ⟨⟨x1,x2,z1,z2⟩,z3,hec⟩:=hw2;have g0:=hec 0 _ rfl;have g1:=hec 1 _ rfl;have g2:=hec 2 _ rfl;have g3:=hec 3 _ rfl;have g4:=hec 4 _ rfl;have g5:=hec 5 _ rfl;have g6:=hec 6 _ rfl;simp only [Nat.add_zero] at g0;clear hec;go_simp;first | done | with_reducible rfl);(try simp only [Act.put,pu1,pu2,pu3]))
    (refine tk9 (i:=2) (v:=?_) HL HP HN rfl ?_ hS ?_;rotate_left;focus (intro w2 hw2;obtain ⟨⟨x1,x2,z1,z2⟩,z3,hec⟩:=hw2;have g0:=hec 0 _ rfl;have g1:=hec 1 _ rfl;have g2:=hec 2 _ rfl;have g3:=hec 3 _ rfl;have g4:=hec 4 _ rfl;have g5:=hec 5 _ rfl;have g6:=hec 6 _ rfl;simp only [Nat.add_zero] at g0;clear hec;go_simp;first | done | with_reducible rfl);(try simp only [Act.put,pu1,pu2,pu3]))
    (refine tk9 (i:=3) (v:=?_) HL HP HN rfl ?_ hS ?_;rotate_left;focus (intro w2 hw2;obtain ⟨⟨x1,x2,z1,z2⟩,z3,hec⟩:=hw2;have g0:=hec 0 _ rfl;have g1:=hec 1 _ rfl;have g2:=hec 2 _ rfl;have g3:=hec 3 _ rfl;have g4:=hec 4 _ rfl;have g5:=hec 5 _ rfl;have g6:=hec 6 _ rfl;simp only [Nat.add_zero] at g0;clear hec;go_simp;first | done | with_reducible rfl);(try simp only [Act.put,pu1,pu2,pu3]))
    (refine tk9 (i:=4) (v:=?_) HL HP HN rfl ?_ hS ?_;rotate_left;focus (intro w2 hw2;obtain ⟨⟨x1,x2,z1,z2⟩,z3,hec⟩:=hw2;have g0:=hec 0 _ rfl;have g1:=hec 1 _ rfl;have g2:=hec 2 _ rfl;have g3:=hec 3 _ rfl;have g4:=hec 4 _ rfl;have g5:=hec 5 _ rfl;have g6:=hec 6 _ rfl;simp only [Nat.add_zero] at g0;clear hec;go_simp;first | done | with_reducible rfl);(try simp only [Act.put,pu1,pu2,pu3]))
    (refine tk9 (i:=5) (v:=?_) HL HP HN rfl ?_ hS ?_;rotate_left;focus (intro w2 hw2;obtain ⟨⟨x1,x2,z1,z2⟩,z3,hec⟩:=hw2;have g0:=hec 0 _ rfl;have g1:=hec 1 _ rfl;have g2:=hec 2 _ rfl;have g3:=hec 3 _ rfl;have g4:=hec 4 _ rfl;have g5:=hec 5 _ rfl;have g6:=hec 6 _ rfl;simp only [Nat.add_zero] at g0;clear hec;go_simp;first | done | with_reducible rfl);(try simp only [Act.put,pu1,pu2,pu3]))
    (refine tk9 (i:=6) (v:=?_) HL HP HN rfl ?_ hS ?_;rotate_left;focus (intro w2 hw2;obtain ⟨⟨x1,x2,z1,z2⟩,z3,hec⟩:=hw2;have g0:=hec 0 _ rfl;have g1:=hec 1 _ rfl;have g2:=hec 2 _ rfl;have g3:=hec 3 _ rfl;have g4:=hec 4 _ rfl;have g5:=hec 5 _ rfl;have g6:=hec 6 _ rfl;simp only [Nat.add_zero] at g0;clear hec;go_simp;first | done | with_reducible rfl);(try simp only [Act.put,pu1,pu2,pu3]))
    refine rd9 [7] HL ?_
    refine ah9 HL rfl fun K hK=>?_
    go_simp
    have hS5:=SW.ext ((Below.refl _ _).alloc lr_ (.cells (rvC z).toArray 79)) hS
    refine hK.out _ _ hS5 (fun hS=>?_)
    clear hK K
    (try simp only [Act.put,pu1,pu2,pu3])
    have h5:Below wr.heap.size wr (wr.drew.alloc (.cells (rvC z).toArray 79)):=by exact bel_
    refine rd9 [8] HL ?_
    refine ah9 HL rfl fun K hK=>?_
    have hmle:mR≤60:=by have h:=own_len HI.out.r (fun _=>rfl) (by omega);have h2:=List.length_filter_le (fun z=>decide (z.r.kn≤(kn:Int)):Rv→Bool) (XR.take k);rw [List.length_take] at h2;omega
    refine step_appN (by rfl) (.tmp 64) (.tmp 70) 28 (by rfl) (base:=wv.heap.size) (B:=_) (e:=79) (i:=iR) (size:=7) (bytes:=72) Tryz.underlying28 hiR hz0R hz1R hz2R rfl (by decide) (v:=.slice AR mR cR) (n:=mR) (m:=1) (A:=some ⟨wr.heap.size,0,none⟩) (c:=1) (xs:=((XR.take k).filter (fun z=>decide (z.r.kn≤(kn:Int)))).flatMap rvC) (news:=rvC z) (by rfl) (by rfl) (own_ex HI.out.r h5) (Rd.new wr.drew (rvC z).toArray 79 7 1 _ rfl rfl) (by intro u hu;simp at hu;rcases hu with rfl | rfl | rfl | rfl | rfl | rfl | rfl <;> rfl) (by unfold maxLen;omega) (by omega) (by simp;omega) ?_
    intro v6 w6 hown6 hgrow6
    obtain ⟨A6,c6,rfl,hcc6⟩:=own_slice hown6
    have h5o:=own_ex HI.out.r h5
    refine hK.out _ _ (SW.grownR hgrow6 hS5 (own_ne h5o (HX.out.ext h5) (by decide)) (own_ne h5o (HOB.out.ext h5) (by decide)) (fun e=>by have:=own_le h5o e.symm;omega)) (fun hS=>?_)
    clear hK K
    (try simp only [Act.put,pu1,pu2,pu3])
    (refine tk9 (i:=9) (v:=?_) HL HP HN rfl ?_ hS ?_;rotate_left;focus (intro w2 hw2;obtain ⟨⟨x1,x2,z1,z2⟩,z3,hec⟩:=hw2;have g0:=hec 0 _ rfl;have g1:=hec 1 _ rfl;have g2:=hec 2 _ rfl;have g3:=hec 3 _ rfl;have g4:=hec 4 _ rfl;have g5:=hec 5 _ rfl;have g6:=hec 6 _ rfl;simp only [Nat.add_zero] at g0;clear hec;go_simp;first | done | with_reducible rfl);(try simp only [Act.put,pu1,pu2,pu3]))
    have bO6:=(HOB.out.ext h5).kept hgrow6 (own_ne h5o (HOB.out.ext h5) (by decide))
    have kO6:=bO6.cell
    have zO6:=bO6.lt
    have fO6:=bO6.frozen
    have HT6:=hd_ (HI.out.appR hqq hwv1 h5 hown6 hgrow6 (.slice A6 (mR+1) c6))
    clear hown6 hgrow6 hS hS5 h5o bO6 kX zX kO zO
    refine dn9 HL HQ ?_ _
    simp only [sinkQ]
    go_simp
    go_wp2
    go_roundw
    case rel =>
     refine ⟨k+1,by omega,by go_num,A6,mR+1,c6,?_⟩
     rw [HN_.out,List.flatMap_append,List.flatMap_cons,List.flatMap_nil,List.append_nil]
     exact HT6.out
    case measure=>exact ms_
   ·have HN_:Hid ((XR.take (k+1)).filter (fun z=>decide (z.r.kn≤(kn:Int)))=((XR.take k).filter (fun z=>decide (z.r.kn≤(kn:Int))))):=by show _=_;rw [take_snoc_some hz,List.filter_append];simp [hs]
    have hs2:decide (z.r.kn≤(kn:Int))=false:=decide_eq_false hs
    have HS2:=hd_ hs2
    clear hec hec2 hz
    go_wp2_with fail
    go_roundw
    case rel=>exact ⟨k+1,by omega,by go_num,AR,mR,cR,by rw [HN_.out];exact HI.out⟩
    case measure=>exact ms_
  ·obtain rfl:rn=k:=by omega
   have hfl:XR.take rn=XR:=List.take_of_length_le (by rw [HLR.out];exact lr_)
   have hI2:WoI W3 wv wr W3.heap.size #[.slice pA pn pc,.slice AR mR cR,.slice none 0 0,.slice none 0 0] (mR,.slice AR mR cR,(XR.filter (fun z=>decide (z.r.kn≤(kn:Int)))).flatMap rvC) (0,.slice none 0 0,[]) (0,.slice none 0 0,[]):=by have h:=hI;rw [hfl] at h;exact h
   have HIR:=hd_ hI2
   clear hI2 hfl HI hI bX bO
   go_wp2_with fail
   clear kX zX kO zO
   go_loopw [12] (fun i wr=>∃ k:Nat,k≤tn∧i=.int .i64 k∧∃ AT mT cT,WoI W3 wv wr W3.heap.size #[.slice pA pn pc,.slice AR mR cR,.slice AT mT cT,.slice none 0 0] (mR,.slice AR mR cR,(XR.filter (fun z=>decide (z.r.kn≤(kn:Int)))).flatMap rvC) (mT,.slice AT mT cT,((XT.take k).filter (fun z=>decide (z.r.src∈ss))).flatMap tvC) (0,.slice none 0 0,[])) (fun i _=>tn - (intOf i).toNat)
   case atStart=>exact ⟨0,by omega,rfl,none,0,0,HIR.out⟩
   case round =>
    obtain ⟨k,hk,rfl,AT,mT,cT,hI⟩:=hrel
    have hsz:=hI.sz
    have bX:BoxA wr w1.heap.size 32 #[.slice pA pn pc,.slice rA rn rc,.slice tA tn tc,.slice sA sn sc]:=HBL3.out.ext hI.bel
    have bO:=hI.bO
    have kX:=bX.cell
    have zX:=bX.lt
    have kO:=bO.cell
    have zO:=bO.lt
    have HI:=hd_ hI
    have HX:=hd_ bX
    have HOB:=hd_ bO
    by_cases hlt:k<tn
    ·obtain ⟨z,hz⟩:∃ z,XT[k]?=some z:=⟨_,List.getElem?_eq_getElem (by rw [HLT.out];exact hlt)⟩
     obtain ⟨b,o,hA,hb,hec⟩:=elemB HRT.out (flat_get tvC 8 (fun _=>rfl)) (fun _=>rfl) hz hlt
     have hb1:b<wv.heap.size:=by omega
     have hbr:b<wr.heap.size:=by omega
     have hec2:∀ m u,(tvC z)[m]?=some u→wr.cell? ⟨b,o+k*8+m,none⟩=some u:=fun m u hu=>(hI.bel.cell (p:=⟨b,o+k*8+m,none⟩) hb).trans (hec m u hu)
     clear hI bX bO
     subst hA
     have g0:=hec2 0 _ rfl
     (try simp only [Nat.add_zero] at g0)
     have HEC:=hd_ hec2
     by_cases hs:z.r.src∈ss
     ·have HN_:Hid ((XT.take (k+1)).filter (fun z=>decide (z.r.src∈ss))=((XT.take k).filter (fun z=>decide (z.r.src∈ss))) ++ [z]):=by show _=_;rw [take_snoc_some hz,List.filter_append];simp [hs]
      have hs2:decide (z.r.src∈ss)=true:=decide_eq_true hs
      have HS2:=hd_ hs2
      clear hec hec2 hz
      go_upto_region 14 with ((go_at_call 18;refine (r_Has2_v ss z.r.src true At nt ct _ hntm (HIT3.out.now (Below.then_ HI.out.bel (by exact bel_))) HS2.out).mono ?_;rintro e w8 ⟨rfl,hb8⟩;have h8:Below wr.heap.size wr w8:=Below.then_ (by exact bel_) hb8;have HI8:=hd_ (HI.out.ext h8);have HX8:=hd_ (HX.out.ext h8);have HOB8:=hd_ (HOB.out.ext h8);have HEC8:=hd_ (fun m u hu=>(h8.cell (p:=⟨b,o+k*8+m,none⟩) hbr).trans (HEC.out m u hu):∀ m u,(tvC z)[m]?=some u→w8.cell? ⟨b,o+k*8+m,none⟩=some u);have kX8:=HX8.out.cell;have zX8:=HX8.out.lt;have kO8:=HOB8.out.cell;have zO8:=HOB8.out.lt;have hbr8:b<w8.heap.size:=(by have:=h8.size;omega);have hsz8:=HI8.out.sz;clear hb8))
      refine wp_named2 fun f9 W9 hf9 hW9=>?_
      subst hf9
      obtain rfl:w8=W9:=hW9
      clear kX zX kO zO HI HX HOB HEC hbr hsz
      clear g0
      (refine wp_region_sink_lit (S:=SW w1.heap.size W3.heap.size #[.slice pA pn pc,.slice rA rn rc,.slice (some ⟨b,o,none⟩) tn tc,.slice sA sn sc] #[.slice pA pn pc,.slice AR mR cR,.slice AT mT cT,.slice none 0 0] b (o+k*8) (tvC z)) 10 (by kernel_rfl) rfl rfl (by kernel_rfl) (by kernel_rfl) ⟨⟨HX8.out.cell,HOB8.out.cell,HX8.out.lt,HOB8.out.lt⟩,hbr8,HEC8.out⟩ (fun hS=>?_);simp only [List.take_succ_cons,List.take_zero,List.reduceReplicate,Array.replicate_succ,Array.replicate_zero])
      refine ab9 (fun _ _ _ _ _ h=>h) fun L Q HL HQ HP HN=>?_
      (refine tk9 (i:=0) (v:=?_) HL HP HN rfl ?_ hS ?_;rotate_left;focus (intro w2 hw2;obtain ⟨⟨x1,x2,z1,z2⟩,z3,hec⟩:=hw2;have g0:=hec 0 _ rfl;have g1:=hec 1 _ rfl;have g2:=hec 2 _ rfl;have g3:=hec 3 _ rfl;have g4:=hec 4 _ rfl;have g5:=hec 5 _ rfl;have g6:=hec 6 _ rfl;have g7:=hec 7 _ rfl;simp only [Nat.add_zero] at g0;clear hec;go_simp;first | done | with_reducible rfl);(try simp only [Act.put,pu1,pu2,pu3]))
      (refine tk9 (i:=1) (v:=?_) HL HP HN rfl ?_ hS ?_;rotate_left;focus (intro w2 hw2;obtain ⟨⟨x1,x2,z1,z2⟩,z3,hec⟩:=hw2;have g0:=hec 0 _ rfl;have g1:=hec 1 _ rfl;have g2:=hec 2 _ rfl;have g3:=hec 3 _ rfl;have g4:=hec 4 _ rfl;have g5:=hec 5 _ rfl;have g6:=hec 6 _ rfl;have g7:=hec 7 _ rfl;simp only [Nat.add_zero] at g0;clear hec;go_simp;first | done | with_reducible rfl);(try simp only [Act.put,pu1,pu2,pu3]))
      (refine tk9 (i:=2) (v:=?_) HL HP HN rfl ?_ hS ?_;rotate_left;focus (intro w2 hw2;obtain ⟨⟨x1,x2,z1,z2⟩,z3,hec⟩:=hw2;have g0:=hec 0 _ rfl;have g1:=hec 1 _ rfl;have g2:=hec 2 _ rfl;have g3:=hec 3 _ rfl;have g4:=hec 4 _ rfl;have g5:=hec 5 _ rfl;have g6:=hec 6 _ rfl;have g7:=hec 7 _ rfl;simp only [Nat.add_zero] at g0;clear hec;go_simp;first | done | with_reducible rfl);(try simp only [Act.put,pu1,pu2,pu3]))
      (refine tk9 (i:=3) (v:=?_) HL HP HN rfl ?_ hS ?_;rotate_left;focus (intro w2 hw2;obtain ⟨⟨x1,x2,z1,z2⟩,z3,hec⟩:=hw2;have g0:=hec 0 _ rfl;have g1:=hec 1 _ rfl;have g2:=hec 2 _ rfl;have g3:=hec 3 _ rfl;have g4:=hec 4 _ rfl;have g5:=hec 5 _ rfl;have g6:=hec 6 _ rfl;have g7:=hec 7 _ rfl;simp only [Nat.add_zero] at g0;clear hec;go_simp;first | done | with_reducible rfl);(try simp only [Act.put,pu1,pu2,pu3]))
      (refine tk9 (i:=4) (v:=?_) HL HP HN rfl ?_ hS ?_;rotate_left;focus (intro w2 hw2;obtain ⟨⟨x1,x2,z1,z2⟩,z3,hec⟩:=hw2;have g0:=hec 0 _ rfl;have g1:=hec 1 _ rfl;have g2:=hec 2 _ rfl;have g3:=hec 3 _ rfl;have g4:=hec 4 _ rfl;have g5:=hec 5 _ rfl;have g6:=hec 6 _ rfl;have g7:=hec 7 _ rfl;simp only [Nat.add_zero] at g0;clear hec;go_simp;first | done | with_reducible rfl);(try simp only [Act.put,pu1,pu2,pu3]))
      (refine tk9 (i:=5) (v:=?_) HL HP HN rfl ?_ hS ?_;rotate_left;focus (intro w2 hw2;obtain ⟨⟨x1,x2,z1,z2⟩,z3,hec⟩:=hw2;have g0:=hec 0 _ rfl;have g1:=hec 1 _ rfl;have g2:=hec 2 _ rfl;have g3:=hec 3 _ rfl;have g4:=hec 4 _ rfl;have g5:=hec 5 _ rfl;have g6:=hec 6 _ rfl;have g7:=hec 7 _ rfl;simp only [Nat.add_zero] at g0;clear hec;go_simp;first | done | with_reducible rfl);(try simp only [Act.put,pu1,pu2,pu3]))
      (refine tk9 (i:=6) (v:=?_) HL HP HN rfl ?_ hS ?_;rotate_left;focus (intro w2 hw2;obtain ⟨⟨x1,x2,z1,z2⟩,z3,hec⟩:=hw2;have g0:=hec 0 _ rfl;have g1:=hec 1 _ rfl;have g2:=hec 2 _ rfl;have g3:=hec 3 _ rfl;have g4:=hec 4 _ rfl;have g5:=hec 5 _ rfl;have g6:=hec 6 _ rfl;have g7:=hec 7 _ rfl;simp only [Nat.add_zero] at g0;clear hec;go_simp;first | done | with_reducible rfl);(try simp only [Act.put,pu1,pu2,pu3]))
      refine rd9 [7] HL ?_
      refine ah9 HL rfl fun K hK=>?_
      go_simp
      have hS5:=SW.ext ((Below.refl _ _).alloc lr_ (.cells (tvC z).toArray 75)) hS
      refine hK.out _ _ hS5 (fun hS=>?_)
      clear hK K
      (try simp only [Act.put,pu1,pu2,pu3])
      have h5:Below w8.heap.size w8 (w8.drew.alloc (.cells (tvC z).toArray 75)):=by exact bel_
      refine rd9 [8] HL ?_
      refine ah9 HL rfl fun K hK=>?_
      have hmle:mT≤60:=by have h:=own_len HI8.out.t (fun _=>rfl) (by omega);have h2:=List.length_filter_le (fun z=>decide (z.r.src∈ss):Tv→Bool) (XT.take k);rw [List.length_take] at h2;omega
      refine step_appN (by rfl) (.tmp 89) (.tmp 95) 29 (by rfl) (base:=wv.heap.size) (B:=_) (e:=75) (i:=iT) (size:=8) (bytes:=80) Tryz.underlying29 hiT hz0T hz1T hz2T rfl (by decide) (v:=.slice AT mT cT) (n:=mT) (m:=1) (A:=some ⟨w8.heap.size,0,none⟩) (c:=1) (xs:=((XT.take k).filter (fun z=>decide (z.r.src∈ss))).flatMap tvC) (news:=tvC z) (by rfl) (by rfl) (own_ex HI8.out.t h5) (Rd.new w8.drew (tvC z).toArray 75 8 1 _ rfl rfl) (by intro u hu;simp at hu;rcases hu with rfl | rfl | rfl | rfl | rfl | rfl | rfl | rfl <;> rfl) (by unfold maxLen;omega) (by omega) (by simp;omega) ?_
      intro v6 w6 hown6 hgrow6
      obtain ⟨A6,c6,rfl,hcc6⟩:=own_slice hown6
      have h5o:=own_ex HI8.out.t h5
      refine hK.out _ _ (SW.grownR hgrow6 hS5 (own_ne h5o (HX8.out.ext h5) (by decide)) (own_ne h5o (HOB8.out.ext h5) (by decide)) (fun e=>by have:=own_le h5o e.symm;omega)) (fun hS=>?_)
      clear hK K
      (try simp only [Act.put,pu1,pu2,pu3])
      (refine tk9 (i:=9) (v:=?_) HL HP HN rfl ?_ hS ?_;rotate_left;focus (intro w2 hw2;obtain ⟨⟨x1,x2,z1,z2⟩,z3,hec⟩:=hw2;have g0:=hec 0 _ rfl;have g1:=hec 1 _ rfl;have g2:=hec 2 _ rfl;have g3:=hec 3 _ rfl;have g4:=hec 4 _ rfl;have g5:=hec 5 _ rfl;have g6:=hec 6 _ rfl;have g7:=hec 7 _ rfl;simp only [Nat.add_zero] at g0;clear hec;go_simp;first | done | with_reducible rfl);(try simp only [Act.put,pu1,pu2,pu3]))
      have bO6:=(HOB8.out.ext h5).kept hgrow6 (own_ne h5o (HOB8.out.ext h5) (by decide))
      have kO6:=bO6.cell
      have zO6:=bO6.lt
      have fO6:=bO6.frozen
      have HT6:=hd_ (HI8.out.appT hqq hwv1 h5 hown6 hgrow6 (.slice A6 (mT+1) c6))
      clear hown6 hgrow6 hS hS5 h5o bO6 kX8 zX8 kO8 zO8
      refine dn9 HL HQ ?_ _
      simp only [sinkQ]
      go_simp
      go_wp2
      go_roundw
      case rel =>
       refine ⟨k+1,by omega,by go_num,A6,mT+1,c6,?_⟩
       rw [HN_.out,List.flatMap_append,List.flatMap_cons,List.flatMap_nil,List.append_nil]
       exact HT6.out
      case measure=>exact ms_
     ·have HN_:Hid ((XT.take (k+1)).filter (fun z=>decide (z.r.src∈ss))=((XT.take k).filter (fun z=>decide (z.r.src∈ss)))):=by show _=_;rw [take_snoc_some hz,List.filter_append];simp [hs]
      have hs2:decide (z.r.src∈ss)=false:=decide_eq_false hs
      have HS2:=hd_ hs2
      clear hec hec2 hz
      go_wp2_with ((go_at_call 18;refine (r_Has2_v ss z.r.src false At nt ct _ hntm (HIT3.out.now (Below.then_ HI.out.bel (by exact bel_))) HS2.out).mono ?_;rintro e w8 ⟨rfl,hb8⟩;have h8:Below wr.heap.size wr w8:=Below.then_ (by exact bel_) hb8))
      go_roundw
      case rel=>exact ⟨k+1,by omega,by go_num,AT,mT,cT,by rw [HN_.out];exact HI.out.ext h8⟩
      case measure=>exact ms_
    ·obtain rfl:tn=k:=by omega
     have hfl:XT.take tn=XT:=List.take_of_length_le (by rw [HLT.out];exact lr_)
     have hI2:WoI W3 wv wr W3.heap.size #[.slice pA pn pc,.slice AR mR cR,.slice AT mT cT,.slice none 0 0] (mR,.slice AR mR cR,(XR.filter (fun z=>decide (z.r.kn≤(kn:Int)))).flatMap rvC) (mT,.slice AT mT cT,(XT.filter (fun z=>decide (z.r.src∈ss))).flatMap tvC) (0,.slice none 0 0,[]):=by have h:=hI;rw [hfl] at h;exact h
     have HIT:=hd_ hI2
     clear hI2 hfl HI hI bX bO
     go_wp2_with fail
     clear kX zX kO zO
     go_loopw [13] (fun i wr=>∃ k:Nat,k≤sn∧i=.int .i64 k∧∃ AS mS cS,WoI W3 wv wr W3.heap.size #[.slice pA pn pc,.slice AR mR cR,.slice AT mT cT,.slice AS mS cS] (mR,.slice AR mR cR,(XR.filter (fun z=>decide (z.r.kn≤(kn:Int)))).flatMap rvC) (mT,.slice AT mT cT,(XT.filter (fun z=>decide (z.r.src∈ss))).flatMap tvC) (mS,.slice AS mS cS,((XS.take k).filter (fun z=>decide (z.kn≤(kn:Int)))).flatMap sgC)) (fun i _=>sn - (intOf i).toNat)
     case atStart=>exact ⟨0,by omega,rfl,none,0,0,HIT.out⟩
     case round =>
      obtain ⟨k,hk,rfl,AS,mS,cS,hI⟩:=hrel
      have hsz:=hI.sz
      have bX:BoxA wr w1.heap.size 32 #[.slice pA pn pc,.slice rA rn rc,.slice tA tn tc,.slice sA sn sc]:=HBL3.out.ext hI.bel
      have bO:=hI.bO
      have kX:=bX.cell
      have zX:=bX.lt
      have kO:=bO.cell
      have zO:=bO.lt
      have HI:=hd_ hI
      have HX:=hd_ bX
      have HOB:=hd_ bO
      by_cases hlt:k<sn
      ·obtain ⟨z,hz⟩:∃ z,XS[k]?=some z:=⟨_,List.getElem?_eq_getElem (by rw [HLS.out];exact hlt)⟩
       obtain ⟨b,o,hA,hb,hec⟩:=elemB HRS.out (flat_get sgC 7 (fun _=>rfl)) (fun _=>rfl) hz hlt
       have hb1:b<wv.heap.size:=by omega
       have hbr:b<wr.heap.size:=by omega
       have hec2:∀ m u,(sgC z)[m]?=some u→wr.cell? ⟨b,o+k*7+m,none⟩=some u:=fun m u hu=>(hI.bel.cell (p:=⟨b,o+k*7+m,none⟩) hb).trans (hec m u hu)
       clear hI bX bO
       subst hA
       have g5:=hec2 5 _ rfl
       (try simp only [Nat.add_zero] at g5)
       have HEC:=hd_ hec2
       by_cases hs:z.kn≤(kn:Int)
       ·have HN_:Hid ((XS.take (k+1)).filter (fun z=>decide (z.kn≤(kn:Int)))=((XS.take k).filter (fun z=>decide (z.kn≤(kn:Int)))) ++ [z]):=by show _=_;rw [take_snoc_some hz,List.filter_append];simp [hs]
        have hs2:decide (z.kn≤(kn:Int))=true:=decide_eq_true hs
        have HS2:=hd_ hs2
        clear hec hec2 hz
        go_wp2_with fail
        clear g5
        (refine wp_region_sink_lit (S:=SW w1.heap.size W3.heap.size #[.slice pA pn pc,.slice rA rn rc,.slice tA tn tc,.slice (some ⟨b,o,none⟩) sn sc] #[.slice pA pn pc,.slice AR mR cR,.slice AT mT cT,.slice AS mS cS] b (o+k*7) (sgC z)) 10 (by kernel_rfl) rfl rfl (by kernel_rfl) (by kernel_rfl) ⟨⟨HX.out.cell,HOB.out.cell,HX.out.lt,HOB.out.lt⟩,hbr,HEC.out⟩ (fun hS=>?_);simp only [List.take_succ_cons,List.take_zero,List.reduceReplicate,Array.replicate_succ,Array.replicate_zero])
        refine ab9 (fun _ _ _ _ _ h=>h) fun L Q HL HQ HP HN=>?_
        (refine tk9 (i:=0) (v:=?_) HL HP HN rfl ?_ hS ?_;rotate_left;focus (intro w2 hw2;obtain ⟨⟨x1,x2,z1,z2⟩,z3,hec⟩:=hw2;have g0:=hec 0 _ rfl;have g1:=hec 1 _ rfl;have g2:=hec 2 _ rfl;have g3:=hec 3 _ rfl;have g4:=hec 4 _ rfl;have g5:=hec 5 _ rfl;have g6:=hec 6 _ rfl;simp only [Nat.add_zero] at g0;clear hec;go_simp;first | done | with_reducible rfl);(try simp only [Act.put,pu1,pu2,pu3]))
        (refine tk9 (i:=1) (v:=?_) HL HP HN rfl ?_ hS ?_;rotate_left;focus (intro w2 hw2;obtain ⟨⟨x1,x2,z1,z2⟩,z3,hec⟩:=hw2;have g0:=hec 0 _ rfl;have g1:=hec 1 _ rfl;have g2:=hec 2 _ rfl;have g3:=hec 3 _ rfl;have g4:=hec 4 _ rfl;have g5:=hec 5 _ rfl;have g6:=hec 6 _ rfl;simp only [Nat.add_zero] at g0;clear hec;go_simp;first | done | with_reducible rfl);(try simp only [Act.put,pu1,pu2,pu3]))
        (refine tk9 (i:=2) (v:=?_) HL HP HN rfl ?_ hS ?_;rotate_left;focus (intro w2 hw2;obtain ⟨⟨x1,x2,z1,z2⟩,z3,hec⟩:=hw2;have g0:=hec 0 _ rfl;have g1:=hec 1 _ rfl;have g2:=hec 2 _ rfl;have g3:=hec 3 _ rfl;have g4:=hec 4 _ rfl;have g5:=hec 5 _ rfl;have g6:=hec 6 _ rfl;simp only [Nat.add_zero] at g0;clear hec;go_simp;first | done | with_reducible rfl);(try simp only [Act.put,pu1,pu2,pu3]))
        (refine tk9 (i:=3) (v:=?_) HL HP HN rfl ?_ hS ?_;rotate_left;focus (intro w2 hw2;obtain ⟨⟨x1,x2,z1,z2⟩,z3,hec⟩:=hw2;have g0:=hec 0 _ rfl;have g1:=hec 1 _ rfl;have g2:=hec 2 _ rfl;have g3:=hec 3 _ rfl;have g4:=hec 4 _ rfl;have g5:=hec 5 _ rfl;have g6:=hec 6 _ rfl;simp only [Nat.add_zero] at g0;clear hec;go_simp;first | done | with_reducible rfl);(try simp only [Act.put,pu1,pu2,pu3]))
        (refine tk9 (i:=4) (v:=?_) HL HP HN rfl ?_ hS ?_;rotate_left;focus (intro w2 hw2;obtain ⟨⟨x1,x2,z1,z2⟩,z3,hec⟩:=hw2;have g0:=hec 0 _ rfl;have g1:=hec 1 _ rfl;have g2:=hec 2 _ rfl;have g3:=hec 3 _ rfl;have g4:=hec 4 _ rfl;have g5:=hec 5 _ rfl;have g6:=hec 6 _ rfl;simp only [Nat.add_zero] at g0;clear hec;go_simp;first | done | with_reducible rfl);(try simp only [Act.put,pu1,pu2,pu3]))
        (refine tk9 (i:=5) (v:=?_) HL HP HN rfl ?_ hS ?_;rotate_left;focus (intro w2 hw2;obtain ⟨⟨x1,x2,z1,z2⟩,z3,hec⟩:=hw2;have g0:=hec 0 _ rfl;have g1:=hec 1 _ rfl;have g2:=hec 2 _ rfl;have g3:=hec 3 _ rfl;have g4:=hec 4 _ rfl;have g5:=hec 5 _ rfl;have g6:=hec 6 _ rfl;simp only [Nat.add_zero] at g0;clear hec;go_simp;first | done | with_reducible rfl);(try simp only [Act.put,pu1,pu2,pu3]))
        (refine tk9 (i:=6) (v:=?_) HL HP HN rfl ?_ hS ?_;rotate_left;focus (intro w2 hw2;obtain ⟨⟨x1,x2,z1,z2⟩,z3,hec⟩:=hw2;have g0:=hec 0 _ rfl;have g1:=hec 1 _ rfl;have g2:=hec 2 _ rfl;have g3:=hec 3 _ rfl;have g4:=hec 4 _ rfl;have g5:=hec 5 _ rfl;have g6:=hec 6 _ rfl;simp only [Nat.add_zero] at g0;clear hec;go_simp;first | done | with_reducible rfl);(try simp only [Act.put,pu1,pu2,pu3]))
        refine rd9 [7] HL ?_
        refine ah9 HL rfl fun K hK=>?_
        go_simp
        have hS5:=SW.ext ((Below.refl _ _).alloc lr_ (.cells (sgC z).toArray 70)) hS
        refine hK.out _ _ hS5 (fun hS=>?_)
        clear hK K
        (try simp only [Act.put,pu1,pu2,pu3])
        have h5:Below wr.heap.size wr (wr.drew.alloc (.cells (sgC z).toArray 70)):=by exact bel_
        refine rd9 [8] HL ?_
        refine ah9 HL rfl fun K hK=>?_
        have hmle:mS≤60:=by have h:=own_len HI.out.s (fun _=>rfl) (by omega);have h2:=List.length_filter_le (fun z=>decide (z.kn≤(kn:Int)):Sgt→Bool) (XS.take k);rw [List.length_take] at h2;omega
        refine step_appN (by rfl) (.tmp 114) (.tmp 120) 30 (by rfl) (base:=wv.heap.size) (B:=_) (e:=70) (i:=iS) (size:=7) (bytes:=56) Tryz.underlying30 hiS hz0S hz1S hz2S rfl (by decide) (v:=.slice AS mS cS) (n:=mS) (m:=1) (A:=some ⟨wr.heap.size,0,none⟩) (c:=1) (xs:=((XS.take k).filter (fun z=>decide (z.kn≤(kn:Int)))).flatMap sgC) (news:=sgC z) (by rfl) (by rfl) (own_ex HI.out.s h5) (Rd.new wr.drew (sgC z).toArray 70 7 1 _ rfl rfl) (by intro u hu;simp at hu;rcases hu with rfl | rfl | rfl | rfl | rfl | rfl | rfl <;> rfl) (by unfold maxLen;omega) (by omega) (by simp;omega) ?_
        intro v6 w6 hown6 hgrow6
        obtain ⟨A6,c6,rfl,hcc6⟩:=own_slice hown6
        have h5o:=own_ex HI.out.s h5
        refine hK.out _ _ (SW.grownR hgrow6 hS5 (own_ne h5o (HX.out.ext h5) (by decide)) (own_ne h5o (HOB.out.ext h5) (by decide)) (fun e=>by have:=own_le h5o e.symm;omega)) (fun hS=>?_)
        clear hK K
        (try simp only [Act.put,pu1,pu2,pu3])
        (refine tk9 (i:=9) (v:=?_) HL HP HN rfl ?_ hS ?_;rotate_left;focus (intro w2 hw2;obtain ⟨⟨x1,x2,z1,z2⟩,z3,hec⟩:=hw2;have g0:=hec 0 _ rfl;have g1:=hec 1 _ rfl;have g2:=hec 2 _ rfl;have g3:=hec 3 _ rfl;have g4:=hec 4 _ rfl;have g5:=hec 5 _ rfl;have g6:=hec 6 _ rfl;simp only [Nat.add_zero] at g0;clear hec;go_simp;first | done | with_reducible rfl);(try simp only [Act.put,pu1,pu2,pu3]))
        have bO6:=(HOB.out.ext h5).kept hgrow6 (own_ne h5o (HOB.out.ext h5) (by decide))
        have kO6:=bO6.cell
        have zO6:=bO6.lt
        have fO6:=bO6.frozen
        have HT6:=hd_ (HI.out.appS hqq hwv1 h5 hown6 hgrow6 (.slice A6 (mS+1) c6))
        clear hown6 hgrow6 hS hS5 h5o bO6 kX zX kO zO
        refine dn9 HL HQ ?_ _
        simp only [sinkQ]
        go_simp
        go_wp2
        go_roundw
        case rel =>
         refine ⟨k+1,by omega,by go_num,A6,mS+1,c6,?_⟩
         rw [HN_.out,List.flatMap_append,List.flatMap_cons,List.flatMap_nil,List.append_nil]
         exact HT6.out
        case measure=>exact ms_
       ·have HN_:Hid ((XS.take (k+1)).filter (fun z=>decide (z.kn≤(kn:Int)))=((XS.take k).filter (fun z=>decide (z.kn≤(kn:Int))))):=by show _=_;rw [take_snoc_some hz,List.filter_append];simp [hs]
        have hs2:decide (z.kn≤(kn:Int))=false:=decide_eq_false hs
        have HS2:=hd_ hs2
        clear hec hec2 hz
        go_wp2_with fail
        go_roundw
        case rel=>exact ⟨k+1,by omega,by go_num,AS,mS,cS,by rw [HN_.out];exact HI.out⟩
        case measure=>exact ms_
      ·obtain rfl:sn=k:=by omega
       have hfl:XS.take sn=XS:=List.take_of_length_le (by rw [HLS.out];exact lr_)
       have hI2:WoI W3 wv wr W3.heap.size #[.slice pA pn pc,.slice AR mR cR,.slice AT mT cT,.slice AS mS cS] (mR,.slice AR mR cR,(XR.filter (fun z=>decide (z.r.kn≤(kn:Int)))).flatMap rvC) (mT,.slice AT mT cT,(XT.filter (fun z=>decide (z.r.src∈ss))).flatMap tvC) (mS,.slice AS mS cS,(XS.filter (fun z=>decide (z.kn≤(kn:Int)))).flatMap sgC):=by have h:=hI;rw [hfl] at h;exact h
       have HIS:=hd_ hI2
       clear hI2 hfl HI hI bX bO
       go_wp2_with fail
       clear kX zX kO zO
       have hI:=HIS.out
       have H3w:Below W3.heap.size W3 wr:=hI.bel
       have hzin:=few_in (pA:=pA) (pn:=pn) (pc:=pc) (pp:=l.pp) hI HL3.out.p HRL.out HTL.out
       rw [← HXS.out,few_made HM.out (kn:Int) HSS.out HXR.out HXT.out] at hzin
       have hzfit:Lsl.fit ⟨pA,pn,pc,AR,mR,cR,AT,mT,cT,AS,mS,cS⟩:=⟨HFY.out.p,own_cap hI.r,own_cap hI.t,own_cap hI.s⟩
       have HZF:=hd_ hzfit
       have HZ10:Hid (LedIn wr wr.heap.size ⟨pA,pn,pc,AR,mR,cR,AT,mT,cT,AS,mS,cS⟩ (fewL l (kn:Int))):=by show LedIn _ _ _ _;exact hzin
       have HL10:=hd_ (HL3.out.now H3w)
       have HBL10:=hd_ (HBL3.out.ext H3w)
       have HBZ10:Hid (BoxA wr W3.heap.size 32 #[.slice pA pn pc,.slice AR mR cR,.slice AT mT cT,.slice AS mS cS]):=by show BoxA _ _ _ _;exact hI.bO
       have HBN10:=hd_ (HBN3.out.ext H3w)
       obtain ⟨W10,rfl⟩:∃ W10:World,W10=wr:=⟨_,rfl⟩
       have hs10:=H3w.size
       clear hI hzin hzfit HIR HIT HIS
       have kN:=HBN10.out.cell
       have zN:=HBN10.out.lt
       have kL:=HBL10.out.cell
       have zL:=HBL10.out.lt
       obtain ⟨m,hm,hm3⟩:=mod_nat n1 (m:=3) (by decide)
       obtain ⟨p,hp,hpm,hpl1,hpl4,hpi1,hpi5⟩:=pp_at hm3
       have hPP:Pps W10 W10.heap.size pA pn mPp:=by have h:=HL10.out.p;rwa [HM.out.pp] at h
       have hpn3:pn=3:=hPP.len.symm
       subst hpn3
       obtain ⟨gb,go,p',hA,hgb,hp',hc0,hc1⟩:=hPP.at_ (k:=m) (by omega)
       obtain rfl:p=p':=Option.some.inj (hp.symm.trans hp')
       obtain ⟨pid,plv⟩:=p
       dsimp only at hpl1 hpl4 hpi1 hpi5 hc0 hc1
       obtain ⟨pl,rfl⟩:∃ n:Nat,plv=(n:Int):=⟨plv.toNat,by omega⟩
       subst hA
       have HEC:Hid (∀ j u,(ppC ⟨pid,(pl:Int)⟩)[j]?=some u→W10.cell? ⟨gb,go+m*2+j,none⟩=some u):=by
        show ∀ _,_
        intro j u hu
        match j,hu with
        | 0,hu=>simp at hu;subst hu;simpa using hc0
        | 1,hu=>simp at hu;subst hu;exact hc1
       have HMM:=hd_ hm
       have HPM:=hd_ hpm
       clear hm hp hp' hpm hPP hc0 hc1
       clear kN zN kL zL
       go_upto_region 20 with fail
       go_cut [14] (fun c wx=>∃ B,c=.pointer (some ⟨B,0,none⟩)∧W10.heap.size≤B∧Below W10.heap.size W10 wx∧BoxA wx B 38 #[.int .i64 pid,.int .i64 (pl:Int)])
       case first =>
        (refine wp_region_sink_lit (S:=KE (w.heap.size+1) w1.heap.size #[.int .i64 n0,.int .i64 n1,.int .i64 n2,.int .i64 n3] #[.slice (some ⟨gb,go,none⟩) 3 pc,.slice rA rn rc,.slice tA tn tc,.slice sA sn sc] gb (go+m*2) (ppC ⟨pid,(pl:Int)⟩)) 8 (by kernel_rfl) rfl rfl (by kernel_rfl) (by kernel_rfl) ⟨⟨HBN10.out.cell,HBL10.out.cell,HBN10.out.lt,HBL10.out.lt⟩,hgb,HEC.out⟩ (fun hS=>?_);simp only [List.take_succ_cons,List.take_zero,List.reduceReplicate,Array.replicate_succ,Array.replicate_zero])
        refine ab9 (fun _ _ _ _ _ h=>h) fun L Q HL HQ HP HN=>?_
        (refine tk9 (i:=0) (v:=?_) HL HP HN rfl ?_ hS ?_;rotate_left;focus (intro w2 hw2;obtain ⟨⟨x1,x2,z1,z2⟩,z3,hec⟩:=hw2;have g0:=hec 0 _ rfl;have g1:=hec 1 _ rfl;simp only [Nat.add_zero] at g0;clear hec;go_simp;first | done | with_reducible rfl);(try simp only [Act.put,pu1,pu2,pu3]))
        (refine tk9 (i:=1) (v:=?_) HL HP HN rfl ?_ hS ?_;rotate_left;focus (intro w2 hw2;obtain ⟨⟨x1,x2,z1,z2⟩,z3,hec⟩:=hw2;have g0:=hec 0 _ rfl;have g1:=hec 1 _ rfl;simp only [Nat.add_zero] at g0;clear hec;go_simp;first | done | with_reducible rfl);(try simp only [Act.put,pu1,pu2,pu3]))
        (refine tk9 (i:=2) (v:=?_) HL HP HN rfl ?_ hS ?_;rotate_left;focus (intro w2 hw2;obtain ⟨⟨x1,x2,z1,z2⟩,z3,hec⟩:=hw2;have g0:=hec 0 _ rfl;have g1:=hec 1 _ rfl;simp only [Nat.add_zero] at g0;clear hec;go_simp;first | done | with_reducible rfl);(try simp only [Act.put,pu1,pu2,pu3]))
        (refine tk9 (i:=3) (v:=?_) HL HP HN rfl ?_ hS ?_;rotate_left;focus (intro w2 hw2;obtain ⟨⟨x1,x2,z1,z2⟩,z3,hec⟩:=hw2;have g0:=hec 0 _ rfl;have g1:=hec 1 _ rfl;simp only [Nat.add_zero] at g0;clear hec;go_simp;first | done | with_reducible rfl);(try simp only [Act.put,pu1,pu2,pu3]))
        refine rd9 [4,7] HL ?_
        refine AllReadyH.consL HL rfl rfl (fun K hK=>?_) (AllReadyH.consL HL rfl rfl (fun K hK=>?_) AllReadyH.nil)
        ·skip
         (go_simp;go_at_call 11;refine (r_Mod_v n1 3 m _ (by decide) (by decide) HMM.out).mono ?_;rintro e w6 ⟨rfl,rfl⟩;go_simp)
         refine hK.out _ _ hS (fun hS=>?_)
         clear hK K
         (try simp only [Act.put,pu1,pu2,pu3])
         (refine tk9 (i:=5) (v:=?_) HL HP HN rfl ?_ hS ?_;rotate_left;focus (intro w2 hw2;obtain ⟨⟨x1,x2,z1,z2⟩,z3,hec⟩:=hw2;have g0:=hec 0 _ rfl;have g1:=hec 1 _ rfl;simp only [Nat.add_zero] at g0;clear hec;go_simp;first | done | with_reducible rfl);(try simp only [Act.put,pu1,pu2,pu3]))
         (refine tk9 (i:=6) (v:=?_) HL HP HN rfl ?_ hS ?_;rotate_left;focus (intro w2 hw2;obtain ⟨⟨x1,x2,z1,z2⟩,z3,hec⟩:=hw2;have g0:=hec 0 _ rfl;have g1:=hec 1 _ rfl;simp only [Nat.add_zero] at g0;clear hec;go_simp;first | done | with_reducible rfl);(try simp only [Act.put,pu1,pu2,pu3]))
         refine rd9 [7] HL ?_
         refine ah9 HL rfl fun K hK=>?_
         go_simp
         refine hK.out _ _ (KE.ext ((Below.refl _ _).alloc lr_ _) hS) (fun hS=>?_)
         clear hK K
         (try simp only [Act.put,pu1,pu2,pu3])
         refine dn9 HL HQ ?_ _
         simp only [sinkQ]
         go_simp
         go_wp2
         go_meet
         exact ⟨_,rfl,lr_,by exact bel_,BoxA.new _ _ _⟩
        ·skip
         go_simp
         refine hK.out _ _ (KE.ext ((Below.refl _ _).alloc lr_ _) hS) (fun hS=>?_)
         clear hK K
         (try simp only [Act.put,pu1,pu2,pu3])
         refine rd9 [4] HL ?_
         refine ah9 HL rfl fun K hK=>?_
         (go_simp;go_at_call 11;refine (r_Mod_v n1 3 m _ (by decide) (by decide) HMM.out).mono ?_;rintro e w6 ⟨rfl,rfl⟩;go_simp)
         refine hK.out _ _ hS (fun hS=>?_)
         clear hK K
         (try simp only [Act.put,pu1,pu2,pu3])
         (refine tk9 (i:=5) (v:=?_) HL HP HN rfl ?_ hS ?_;rotate_left;focus (intro w2 hw2;obtain ⟨⟨x1,x2,z1,z2⟩,z3,hec⟩:=hw2;have g0:=hec 0 _ rfl;have g1:=hec 1 _ rfl;simp only [Nat.add_zero] at g0;clear hec;go_simp;first | done | with_reducible rfl);(try simp only [Act.put,pu1,pu2,pu3]))
         (refine tk9 (i:=6) (v:=?_) HL HP HN rfl ?_ hS ?_;rotate_left;focus (intro w2 hw2;obtain ⟨⟨x1,x2,z1,z2⟩,z3,hec⟩:=hw2;have g0:=hec 0 _ rfl;have g1:=hec 1 _ rfl;simp only [Nat.add_zero] at g0;clear hec;go_simp;first | done | with_reducible rfl);(try simp only [Act.put,pu1,pu2,pu3]))
         refine dn9 HL HQ ?_ _
         simp only [sinkQ]
         go_simp
         go_wp2
         go_meet
         exact ⟨_,rfl,lr_,by exact bel_,BoxA.new _ _ _⟩
       case rest =>
       obtain ⟨B4,rfl,hB4,h4,bQ⟩:=hcut
       obtain ⟨W11,rfl⟩:∃ W11:World,W11=wc:=⟨_,rfl⟩
       have hs11:=h4.size
       have H311:Below W3.heap.size W3 W11:=Below.then_ H3w h4
       have HBN11:=hd_ (HBN10.out.ext h4)
       have HQ11:=hd_ bQ
       have HL11:=hd_ (HL10.out.now h4)
       have HZ11:=hd_ (HZ10.out.now h4)
       have HBL11:=hd_ (HBL10.out.ext h4)
       have HBZ11:=hd_ (HBZ10.out.ext h4)
       obtain ⟨v3,hv3,hv3b⟩:=mod_nat n2 (m:=(pl:Int)) (by omega)
       have HV3:=hd_ hv3
       have w8:IntKind.i64.wrap (1+(v3:Int))=1+(v3:Int):=wrap_in (by omega) (by omega)
       clear bQ hv3 HBN10 HL10 HZ10 HBL10 HBZ10 h4
       go_upto_region 21 with fail
       go_cut [15] (fun c wx=>∃ B,c=.pointer (some ⟨B,0,none⟩)∧W11.heap.size≤B∧Below W11.heap.size W11 wx∧BoxA wx B 48 #[.int .i64 pid,.int .i64 (1+(v3:Int))])
       case first =>
        (refine wp_region_sink_lit (S:=K2 (w.heap.size+1) B4 #[.int .i64 n0,.int .i64 n1,.int .i64 n2,.int .i64 n3] #[.int .i64 pid,.int .i64 (pl:Int)]) 10 (by kernel_rfl) rfl rfl (by kernel_rfl) (by kernel_rfl) ⟨HBN11.out.cell,HQ11.out.cell,HBN11.out.lt,HQ11.out.lt⟩ (fun hS=>?_);simp only [List.take_succ_cons,List.take_zero,List.reduceReplicate,Array.replicate_succ,Array.replicate_zero])
        refine ab9 (fun _ _ _ _ _ h=>h) fun L Q HL HQ HP HN=>?_
        (refine tk9 (i:=0) (v:=?_) HL HP HN rfl ?_ hS ?_;rotate_left;focus (intro w2 hw2;obtain ⟨x1,x2,z1,z2⟩:=hw2;go_simp;first | done | with_reducible rfl);(try simp only [Act.put,pu1,pu2,pu3]))
        (refine tk9 (i:=1) (v:=?_) HL HP HN rfl ?_ hS ?_;rotate_left;focus (intro w2 hw2;obtain ⟨x1,x2,z1,z2⟩:=hw2;go_simp;first | done | with_reducible rfl);(try simp only [Act.put,pu1,pu2,pu3]))
        (refine tk9 (i:=2) (v:=?_) HL HP HN rfl ?_ hS ?_;rotate_left;focus (intro w2 hw2;obtain ⟨x1,x2,z1,z2⟩:=hw2;go_simp;first | done | with_reducible rfl);(try simp only [Act.put,pu1,pu2,pu3]))
        (refine tk9 (i:=3) (v:=?_) HL HP HN rfl ?_ hS ?_;rotate_left;focus (intro w2 hw2;obtain ⟨x1,x2,z1,z2⟩:=hw2;go_simp;first | done | with_reducible rfl);(try simp only [Act.put,pu1,pu2,pu3]))
        (refine tk9 (i:=4) (v:=?_) HL HP HN rfl ?_ hS ?_;rotate_left;focus (intro w2 hw2;obtain ⟨x1,x2,z1,z2⟩:=hw2;go_simp;first | done | with_reducible rfl);(try simp only [Act.put,pu1,pu2,pu3]))
        (refine tk9 (i:=5) (v:=?_) HL HP HN rfl ?_ hS ?_;rotate_left;focus (intro w2 hw2;obtain ⟨x1,x2,z1,z2⟩:=hw2;go_simp;first | done | with_reducible rfl);(try simp only [Act.put,pu1,pu2,pu3]))
        refine rd9 [6,9] HL ?_
        refine AllReadyH.consL HL rfl rfl (fun K hK=>?_) (AllReadyH.consL HL rfl rfl (fun K hK=>?_) AllReadyH.nil)
        ·skip
         (go_simp;go_at_call 11;refine (r_Mod_v n2 (pl:Int) v3 _ (by omega) (by omega) HV3.out).mono ?_;rintro e w6 ⟨rfl,rfl⟩;go_simp)
         refine hK.out _ _ hS (fun hS=>?_)
         clear hK K
         (try simp only [Act.put,pu1,pu2,pu3])
         (refine tk9 (i:=7) (v:=?_) HL HP HN rfl ?_ hS ?_;rotate_left;focus (intro w2 hw2;obtain ⟨x1,x2,z1,z2⟩:=hw2;go_simp;first | done | with_reducible rfl);(try simp only [Act.put,pu1,pu2,pu3]))
         (refine tk9 (i:=8) (v:=?_) HL HP HN rfl ?_ hS ?_;rotate_left;focus (intro w2 hw2;obtain ⟨x1,x2,z1,z2⟩:=hw2;go_simp;first | done | with_reducible rfl);(try simp only [Act.put,pu1,pu2,pu3]))
         refine rd9 [9] HL ?_
         refine ah9 HL rfl fun K hK=>?_
         go_simp
         refine hK.out _ _ (K2.ext ((Below.refl _ _).alloc lr_ _) hS) (fun hS=>?_)
         clear hK K
         (try simp only [Act.put,pu1,pu2,pu3])
         refine dn9 HL HQ ?_ _
         simp only [sinkQ]
         go_simp
         go_wp2
         go_meet
         exact ⟨_,rfl,lr_,by exact bel_,BoxA.new _ _ _⟩
        ·skip
         go_simp
         refine hK.out _ _ (K2.ext ((Below.refl _ _).alloc lr_ _) hS) (fun hS=>?_)
         clear hK K
         (try simp only [Act.put,pu1,pu2,pu3])
         refine rd9 [6] HL ?_
         refine ah9 HL rfl fun K hK=>?_
         (go_simp;go_at_call 11;refine (r_Mod_v n2 (pl:Int) v3 _ (by omega) (by omega) HV3.out).mono ?_;rintro e w6 ⟨rfl,rfl⟩;go_simp)
         refine hK.out _ _ hS (fun hS=>?_)
         clear hK K
         (try simp only [Act.put,pu1,pu2,pu3])
         (refine tk9 (i:=7) (v:=?_) HL HP HN rfl ?_ hS ?_;rotate_left;focus (intro w2 hw2;obtain ⟨x1,x2,z1,z2⟩:=hw2;go_simp;first | done | with_reducible rfl);(try simp only [Act.put,pu1,pu2,pu3]))
         (refine tk9 (i:=8) (v:=?_) HL HP HN rfl ?_ hS ?_;rotate_left;focus (intro w2 hw2;obtain ⟨x1,x2,z1,z2⟩:=hw2;go_simp;first | done | with_reducible rfl);(try simp only [Act.put,pu1,pu2,pu3]))
         refine dn9 HL HQ ?_ _
         simp only [sinkQ]
         go_simp
         go_wp2
         go_meet
         exact ⟨_,rfl,lr_,by exact bel_,BoxA.new _ _ _⟩
       case rest =>
       obtain ⟨B5,rfl,hB5,h5,bF⟩:=hcut
       obtain ⟨W12,rfl⟩:∃ W12:World,W12=wc:=⟨_,rfl⟩
       have hs12:=h5.size
       have H312:Below W3.heap.size W3 W12:=Below.then_ H311 h5
       have bN12:=HBN11.out.ext h5
       have HL12:=hd_ (HL11.out.now h5)
       have HZ12:=hd_ (HZ11.out.now h5)
       have HBL12:=hd_ (HBL11.out.ext h5)
       have HBZ12:=hd_ (HBZ11.out.ext h5)
       have HBF12:=hd_ bF
       have hwf:(Lit.int .i64 (1+(v3:Int))).wf=true:=wf_small (by omega) (by omega)
       have hwx:=few_where (day:=(day:Int)) (pap:=pid) (leaf:=1+(v3:Int)) HLE.out HPRE.out
       have hdx:=few_double (kn:=(kn:Int)) HLE.out
       have hcx:=few_clash (kn:=(kn:Int)) HLE.out
       have htx:=few_tel HLE.out HPRE.out (by rw [pre_few HLE.out];exact HPRE.out)
       rw [HTX.out] at htx
       obtain ⟨wl,we,hwl⟩:∃ a b,whereX l pid (1+(v3:Int)) day kn=(a,b):=⟨_,_,rfl⟩
       obtain ⟨dl,de,hdl⟩:∃ a b,doubleX l kn=(a,b):=⟨_,_,rfl⟩
       obtain ⟨cl,ce,hcl⟩:∃ a b,clashX l kn=(a,b):=⟨_,_,rfl⟩
       rw [hwl] at hwx
       rw [hdl] at hdx
       rw [hcl] at hcx
       have HW1:=hd_ hwl
       have HW2:=hd_ hwx
       have HD1:=hd_ hdl
       have HD2:=hd_ hdx
       have HC1:=hd_ hcl
       have HC2:=hd_ hcx
       have HT2:=hd_ htx
       clear bF HBN11 HL11 HZ11 HBL11 HBZ11 HQ11 hwl hwx hdl hdx hcl hcx htx h5
       have kN:=bN12.cell
       have zN:=bN12.lt
       clear bN12
       go_upto_region 23 with ((go_at_call 11;refine (r_Mod_v n3 220 day _ (by decide) (by decide) HDY.out).mono ?_;rintro e w6 ⟨rfl,rfl⟩))
       clear kN zN
       have kL:=HBL12.out.cell
       have zL:=HBL12.out.lt
       have kZ:=HBZ12.out.cell
       have zZ:=HBZ12.out.lt
       have kF:=HBF12.out.cell
       have zF:=HBF12.out.lt
       go_wp2_with fail
       refine (p_WhereS l ⟨some ⟨gb,go,none⟩,3,pc,rA,rn,rc,tA,tn,tc,sA,sn,sc⟩ pid (1+(v3:Int)) day kn wl we _ HFY.out (HL12.out.now (by exact bel_)) hwf HW1.out).mono ?_
       rintro e W13 ⟨A1,n1,c1,rfl,hb13,hi1,hc1⟩
       have hs13:=hb13.size
       have HL13:=hd_ (HL12.out.now hb13)
       have HZ13:=hd_ (HZ12.out.now hb13)
       have HBL13:=hd_ (HBL12.out.ext hb13)
       have HBZ13:=hd_ (HBZ12.out.ext hb13)
       have HBF13:=hd_ (HBF12.out.ext hb13)
       have H313:Below W3.heap.size W3 W13:=Below.then_ H312 hb13
       clear kL zL kZ zZ kF zF HL12 HZ12 HBL12 HBZ12 HBF12
       have kL:=HBL13.out.cell
       have zL:=HBL13.out.lt
       have kZ:=HBZ13.out.cell
       have zZ:=HBZ13.out.lt
       have kF:=HBF13.out.cell
       have zF:=HBF13.out.lt
       have HI1:Hid (Is W13 W13.heap.size A1 n1 wl):=by show Is _ _ _ _ _;exact hi1
       have hn1:n1≤1000000:=by rw [← hi1.len];exact whereS_len HW1.out
       clear hi1
       clear hb13
       go_wp2_with fail
       refine (p_WhereS (fewL l (kn:Int)) ⟨some ⟨gb,go,none⟩,3,pc,AR,mR,cR,AT,mT,cT,AS,mS,cS⟩ pid (1+(v3:Int)) day kn wl we _ HZF.out (HZ13.out.now (by exact bel_)) hwf HW2.out).mono ?_
       rintro e W14 ⟨A2,n2,c2,rfl,hb14,hi2,hc2⟩
       have hs14:=hb14.size
       have HL14:=hd_ (HL13.out.now hb14)
       have HZ14:=hd_ (HZ13.out.now hb14)
       have HBL14:=hd_ (HBL13.out.ext hb14)
       have HBZ14:=hd_ (HBZ13.out.ext hb14)
       have HBF14:=hd_ (HBF13.out.ext hb14)
       have H314:Below W3.heap.size W3 W14:=Below.then_ H313 hb14
       clear kL zL kZ zZ kF zF HL13 HZ13 HBL13 HBZ13 HBF13
       have kL:=HBL14.out.cell
       have zL:=HBL14.out.lt
       have kZ:=HBZ14.out.cell
       have zZ:=HBZ14.out.lt
       have kF:=HBF14.out.cell
       have zF:=HBF14.out.lt
       have HI2:Hid (Is W14 W14.heap.size A2 n2 wl):=by show Is _ _ _ _ _;exact hi2
       have hn2:n2≤1000000:=by rw [← hi2.len];exact whereS_len HW1.out
       clear hi2
       have HC_14:=hd_ hb14
       clear hb14
       go_wp2_with fail
       refine (p_Double_v l ⟨some ⟨gb,go,none⟩,3,pc,rA,rn,rc,tA,tn,tc,sA,sn,sc⟩ kn dl de _ HFY.out (HL14.out.now (by exact bel_)) HD1.out).mono ?_
       rintro e W15 ⟨A3,n3,c3,rfl,hb15,hi3,hc3⟩
       have hs15:=hb15.size
       have HL15:=hd_ (HL14.out.now hb15)
       have HZ15:=hd_ (HZ14.out.now hb15)
       have HBL15:=hd_ (HBL14.out.ext hb15)
       have HBZ15:=hd_ (HBZ14.out.ext hb15)
       have HBF15:=hd_ (HBF14.out.ext hb15)
       have H315:Below W3.heap.size W3 W15:=Below.then_ H314 hb15
       clear kL zL kZ zZ kF zF HL14 HZ14 HBL14 HBZ14 HBF14
       have kL:=HBL15.out.cell
       have zL:=HBL15.out.lt
       have kZ:=HBZ15.out.cell
       have zZ:=HBZ15.out.lt
       have kF:=HBF15.out.cell
       have zF:=HBF15.out.lt
       have HI3:Hid (Is W15 W15.heap.size A3 n3 dl):=by show Is _ _ _ _ _;exact hi3
       have hn3:n3≤1000000:=by rw [← hi3.len];exact doubleX_len HD1.out
       clear hi3
       have HC_15:=hd_ hb15
       clear hb15
       go_wp2_with fail
       refine (p_Double_v (fewL l (kn:Int)) ⟨some ⟨gb,go,none⟩,3,pc,AR,mR,cR,AT,mT,cT,AS,mS,cS⟩ kn dl de _ HZF.out (HZ15.out.now (by exact bel_)) HD2.out).mono ?_
       rintro e W16 ⟨A4,n4,c4,rfl,hb16,hi4,hc4⟩
       have hs16:=hb16.size
       have HL16:=hd_ (HL15.out.now hb16)
       have HZ16:=hd_ (HZ15.out.now hb16)
       have HBL16:=hd_ (HBL15.out.ext hb16)
       have HBZ16:=hd_ (HBZ15.out.ext hb16)
       have HBF16:=hd_ (HBF15.out.ext hb16)
       have H316:Below W3.heap.size W3 W16:=Below.then_ H315 hb16
       clear kL zL kZ zZ kF zF HL15 HZ15 HBL15 HBZ15 HBF15
       have kL:=HBL16.out.cell
       have zL:=HBL16.out.lt
       have kZ:=HBZ16.out.cell
       have zZ:=HBZ16.out.lt
       have kF:=HBF16.out.cell
       have zF:=HBF16.out.lt
       have HI4:Hid (Is W16 W16.heap.size A4 n4 dl):=by show Is _ _ _ _ _;exact hi4
       have hn4:n4≤1000000:=by rw [← hi4.len];exact doubleX_len HD1.out
       clear hi4
       have HC_16:=hd_ hb16
       clear hb16
       go_wp2_with fail
       refine (p_Clash_v l ⟨some ⟨gb,go,none⟩,3,pc,rA,rn,rc,tA,tn,tc,sA,sn,sc⟩ kn cl ce _ HFY.out (HL16.out.now (by exact bel_)) HC1.out).mono ?_
       rintro e W17 ⟨A5,n5,c5,rfl,hb17,hi5,hc5⟩
       have hs17:=hb17.size
       have HL17:=hd_ (HL16.out.now hb17)
       have HZ17:=hd_ (HZ16.out.now hb17)
       have HBL17:=hd_ (HBL16.out.ext hb17)
       have HBZ17:=hd_ (HBZ16.out.ext hb17)
       have HBF17:=hd_ (HBF16.out.ext hb17)
       have H317:Below W3.heap.size W3 W17:=Below.then_ H316 hb17
       clear kL zL kZ zZ kF zF HL16 HZ16 HBL16 HBZ16 HBF16
       have kL:=HBL17.out.cell
       have zL:=HBL17.out.lt
       have kZ:=HBZ17.out.cell
       have zZ:=HBZ17.out.lt
       have kF:=HBF17.out.cell
       have zF:=HBF17.out.lt
       have HI5:Hid (Is W17 W17.heap.size A5 n5 cl):=by show Is _ _ _ _ _;exact hi5
       have hn5:n5≤1000000:=by rw [← hi5.len];exact clashX_len HC1.out
       clear hi5
       have HC_17:=hd_ hb17
       clear hb17
       go_wp2_with fail
       refine (p_Clash_v (fewL l (kn:Int)) ⟨some ⟨gb,go,none⟩,3,pc,AR,mR,cR,AT,mT,cT,AS,mS,cS⟩ kn cl ce _ HZF.out (HZ17.out.now (by exact bel_)) HC2.out).mono ?_
       rintro e W18 ⟨A6,n6,c6,rfl,hb18,hi6,hc6⟩
       have hs18:=hb18.size
       have HL18:=hd_ (HL17.out.now hb18)
       have HZ18:=hd_ (HZ17.out.now hb18)
       have HBL18:=hd_ (HBL17.out.ext hb18)
       have HBZ18:=hd_ (HBZ17.out.ext hb18)
       have HBF18:=hd_ (HBF17.out.ext hb18)
       have H318:Below W3.heap.size W3 W18:=Below.then_ H317 hb18
       clear kL zL kZ zZ kF zF HL17 HZ17 HBL17 HBZ17 HBF17
       have kL:=HBL18.out.cell
       have zL:=HBL18.out.lt
       have kZ:=HBZ18.out.cell
       have zZ:=HBZ18.out.lt
       have HI6:Hid (Is W18 W18.heap.size A6 n6 cl):=by show Is _ _ _ _ _;exact hi6
       have hn6:n6≤1000000:=by rw [← hi6.len];exact clashX_len HC1.out
       clear hi6
       have HC_18:=hd_ hb18
       clear hb18
       go_wp2_with fail
       refine (p_Telling_v (fewL l (kn:Int)) ⟨some ⟨gb,go,none⟩,3,pc,AR,mR,cR,AT,mT,cT,AS,mS,cS⟩ kn ss 0 _ HZF.out (HZ18.out.now (by exact bel_)) HT2.out).mono ?_
       rintro e W19 ⟨A7,n7,c7,rfl,hb19,hi7,hc7⟩
       have hs19:=hb19.size
       have HL19:=hd_ (HL18.out.now hb19)
       have HZ19:=hd_ (HZ18.out.now hb19)
       have HBL19:=hd_ (HBL18.out.ext hb19)
       have HBZ19:=hd_ (HBZ18.out.ext hb19)
       have HBF19:=hd_ (HBF18.out.ext hb19)
       have H319:Below W3.heap.size W3 W19:=Below.then_ H318 hb19
       clear kL zL kZ zZ HL18 HZ18 HBL18 HBZ18 HBF18
       have kL:=HBL19.out.cell
       have zL:=HBL19.out.lt
       have kZ:=HBZ19.out.cell
       have zZ:=HBZ19.out.lt
       have HI7:Hid (Is W19 W19.heap.size A7 n7 ss):=by show Is _ _ _ _ _;exact hi7
       have hn7:n7≤1000000:=by rw [← hi7.len];exact telX_len HTX.out
       clear hi7
       have HC_19:=hd_ hb19
       clear hb19
       clear kL zL kZ zZ
       have hnt2:nt≤1000000:=by rw [← HIT3.out.len];exact telX_len HTX.out
       have HJ1:=hd_ (HI1.out.now (Below.then_ (Below.then_ (Below.then_ (Below.then_ (Below.then_ HC_14.out HC_15.out) HC_16.out) HC_17.out) HC_18.out) HC_19.out))
       have HJ2:=hd_ (HI2.out.now (Below.then_ (Below.then_ (Below.then_ (Below.then_ HC_15.out HC_16.out) HC_17.out) HC_18.out) HC_19.out))
       have HJ3:=hd_ (HI3.out.now (Below.then_ (Below.then_ (Below.then_ HC_16.out HC_17.out) HC_18.out) HC_19.out))
       have HJ4:=hd_ (HI4.out.now (Below.then_ (Below.then_ HC_17.out HC_18.out) HC_19.out))
       have HJ5:=hd_ (HI5.out.now (Below.then_ HC_18.out HC_19.out))
       have HJ6:=hd_ (HI6.out.now HC_19.out)
       have HJ7:=HI7
       have HJ8:=hd_ (HIT3.out.now H319)
       go_wp2_with fail
       refine (r_Same2 wl wl true A1 A2 n1 c1 n2 c2 _ hn1 hn2 (HJ1.out.now (by exact bel_)) (HJ2.out.now (by exact bel_)) (decide_eq_true rfl)).mono ?_
       rintro e W20 ⟨rfl,hb20⟩
       have hs20:=hb20.size
       have h320:=Below.then_ H319 hb20
       have HJ1:=hd_ (HJ1.out.now hb20)
       have HJ2:=hd_ (HJ2.out.now hb20)
       have HJ3:=hd_ (HJ3.out.now hb20)
       have HJ4:=hd_ (HJ4.out.now hb20)
       have HJ5:=hd_ (HJ5.out.now hb20)
       have HJ6:=hd_ (HJ6.out.now hb20)
       have HJ7:=hd_ (HJ7.out.now hb20)
       have HJ8:=hd_ (HJ8.out.now hb20)
       go_wp2_with fail
       refine (r_Same2 dl dl true A3 A4 n3 c3 n4 c4 _ hn3 hn4 (HJ3.out.now (by exact bel_)) (HJ4.out.now (by exact bel_)) (decide_eq_true rfl)).mono ?_
       rintro e W21 ⟨rfl,hb21⟩
       have hs21:=hb21.size
       have h321:=Below.then_ h320 hb21
       have HJ1:=hd_ (HJ1.out.now hb21)
       have HJ2:=hd_ (HJ2.out.now hb21)
       have HJ3:=hd_ (HJ3.out.now hb21)
       have HJ4:=hd_ (HJ4.out.now hb21)
       have HJ5:=hd_ (HJ5.out.now hb21)
       have HJ6:=hd_ (HJ6.out.now hb21)
       have HJ7:=hd_ (HJ7.out.now hb21)
       have HJ8:=hd_ (HJ8.out.now hb21)
       go_wp2_with fail
       refine (r_Same2 cl cl true A5 A6 n5 c5 n6 c6 _ hn5 hn6 (HJ5.out.now (by exact bel_)) (HJ6.out.now (by exact bel_)) (decide_eq_true rfl)).mono ?_
       rintro e W22 ⟨rfl,hb22⟩
       have hs22:=hb22.size
       have h322:=Below.then_ h321 hb22
       have HJ1:=hd_ (HJ1.out.now hb22)
       have HJ2:=hd_ (HJ2.out.now hb22)
       have HJ3:=hd_ (HJ3.out.now hb22)
       have HJ4:=hd_ (HJ4.out.now hb22)
       have HJ5:=hd_ (HJ5.out.now hb22)
       have HJ6:=hd_ (HJ6.out.now hb22)
       have HJ7:=hd_ (HJ7.out.now hb22)
       have HJ8:=hd_ (HJ8.out.now hb22)
       go_wp2_with fail
       refine (r_Same2 ss ss true A7 At n7 c7 nt ct _ hn7 hnt2 (HJ7.out.now (by exact bel_)) (HJ8.out.now (by exact bel_)) (decide_eq_true rfl)).mono ?_
       rintro e W23 ⟨rfl,hb23⟩
       have hs23:=hb23.size
       have h323:=Below.then_ h322 hb23
       have HJ1:=hd_ (HJ1.out.now hb23)
       have HJ2:=hd_ (HJ2.out.now hb23)
       have HJ3:=hd_ (HJ3.out.now hb23)
       have HJ4:=hd_ (HJ4.out.now hb23)
       have HJ5:=hd_ (HJ5.out.now hb23)
       have HJ6:=hd_ (HJ6.out.now hb23)
       have HJ7:=hd_ (HJ7.out.now hb23)
       have HJ8:=hd_ (HJ8.out.now hb23)
       go_wp2_with fail
       refine (r_sane2 _).mono ?_
       rintro e w9 ⟨rfl,hb9⟩
       go_wp2_with fail
       go_ret
       exact ⟨rfl,Below.then_ (Below.then_ HB3 h323) (Below.then_ (by exact bel_) hb9)⟩
end Go.Proofs.YtmcmbicapdcfmaaGreat
namespace Go.Proofs.YtmcmbicapdcfmaaGreat
open Go.ChangeShapes Go.WideShapes Go.ChangeAt Go.RowKit Go.Deep Go.Joins Go.Maps

theorem c5_arr : Tryz.prog.cellsOf 68 = 5 := by kernel_rfl
theorem c7_arr : Tryz.prog.cellsOf 129 = 7 := by kernel_rfl
theorem c1_r5 : Tryz.prog.cellsOf 22 = 1 := by kernel_rfl
theorem c1_r7 : Tryz.prog.cellsOf 23 = 1 := by kernel_rfl
theorem c3_raw : Tryz.prog.cellsOf 25 = 3 := by kernel_rfl
theorem lenx3 {α : Type} : ∀ {l : List α}, l.length = 3 → ∃ a b c, l = [a, b, c]
  | [a, b, c], _ => ⟨a, b, c, rfl⟩
theorem okWide_arr2 {P : Program} {w : World} {r : Reach} {b0 : Nat} {v : Value} {t e : TypeId} {n : Nat} (ht : P.underlying t = some (.array n e)) (h : Value.okWide P w r b0 t v) : ∃ cs, v = .agg cs := by
  simp only [Value.okWide, ht] at h
  obtain ⟨cs, h1, _⟩ := h
  exact ⟨cs, h1⟩
theorem lenx5 {α : Type} : ∀ {l : List α}, l.length = 5 → ∃ a0 a1 a2 a3 a4, l = [a0, a1, a2, a3, a4]
  | [a0, a1, a2, a3, a4], _ => ⟨a0, a1, a2, a3, a4, rfl⟩
section
variable {H : Type} {enc : TypeId × Value → H} {w : World} {base : Nat} {spare : Nat → Bool} {held : Bool} {r : Reach} {b0 : Nat} {v : Value} {d : DataW H} {p : List MemPlace} {fuel : Nat} {cs : List Value} {x : DataW H × List MemPlace}
theorem arr5_of (h : DataW.trod enc Tryz.prog w base spare held fuel 68 cs = some x) : ∃ l : List Int, l.length = 5 ∧ cs = intL l := by
  obtain ⟨xs, n, _, _, hl, hx, hf⟩ := DataW.trod_array Tryz.underlying68 h
  rw [c5_arr] at hl
  obtain ⟨y0, e0⟩ := some_at hx (i := 0) (by decide)
  obtain ⟨y1, e1⟩ := some_at hx (i := 1) (by decide)
  obtain ⟨y2, e2⟩ := some_at hx (i := 2) (by decide)
  obtain ⟨y3, e3⟩ := some_at hx (i := 3) (by decide)
  obtain ⟨y4, e4⟩ := some_at hx (i := 4) (by decide)
  obtain ⟨c0, c1, c2, c3, c4, rfl⟩ := lenx5 hl
  obtain ⟨a0, h0⟩ := int_of ((hf 0 (by decide)).trans e0)
  obtain ⟨a1, h1⟩ := int_of ((hf 1 (by decide)).trans e1)
  obtain ⟨a2, h2⟩ := int_of ((hf 2 (by decide)).trans e2)
  obtain ⟨a3, h3⟩ := int_of ((hf 3 (by decide)).trans e3)
  obtain ⟨a4, h4⟩ := int_of ((hf 4 (by decide)).trans e4)
  simp [c1_int] at h0 h1 h2 h3 h4
  exact ⟨[a0, a1, a2, a3, a4], rfl, by simp [intL, h0, h1, h2, h3, h4]⟩
theorem arr7_of (h : DataW.trod enc Tryz.prog w base spare held fuel 129 cs = some x) : ∃ l : List Int, l.length = 7 ∧ cs = intL l := by
  obtain ⟨xs, n, _, _, hl, hx, hf⟩ := DataW.trod_array Tryz.underlying129 h
  rw [c7_arr] at hl
  obtain ⟨y0, e0⟩ := some_at hx (i := 0) (by decide)
  obtain ⟨y1, e1⟩ := some_at hx (i := 1) (by decide)
  obtain ⟨y2, e2⟩ := some_at hx (i := 2) (by decide)
  obtain ⟨y3, e3⟩ := some_at hx (i := 3) (by decide)
  obtain ⟨y4, e4⟩ := some_at hx (i := 4) (by decide)
  obtain ⟨y5, e5⟩ := some_at hx (i := 5) (by decide)
  obtain ⟨y6, e6⟩ := some_at hx (i := 6) (by decide)
  obtain ⟨c0, c1, c2, c3, c4, c5, c6, rfl⟩ := lenx7 hl
  obtain ⟨a0, h0⟩ := int_of ((hf 0 (by decide)).trans e0)
  obtain ⟨a1, h1⟩ := int_of ((hf 1 (by decide)).trans e1)
  obtain ⟨a2, h2⟩ := int_of ((hf 2 (by decide)).trans e2)
  obtain ⟨a3, h3⟩ := int_of ((hf 3 (by decide)).trans e3)
  obtain ⟨a4, h4⟩ := int_of ((hf 4 (by decide)).trans e4)
  obtain ⟨a5, h5⟩ := int_of ((hf 5 (by decide)).trans e5)
  obtain ⟨a6, h6⟩ := int_of ((hf 6 (by decide)).trans e6)
  simp [c1_int] at h0 h1 h2 h3 h4 h5 h6
  exact ⟨[a0, a1, a2, a3, a4, a5, a6], rfl, by simp [intL, h0, h1, h2, h3, h4, h5, h6]⟩
theorem flat_int {s : Nat} (l : List { l : List Int // l.length = s }) : l.flatMap (fun v => intL v.1) = intL (l.flatMap Subtype.val) := by
  induction l with
  | nil => rfl
  | cons a l ih => rw [List.flatMap_cons, ih, List.flatMap_cons]; simp [intL]
theorem r5_of {A : Option Addr} {n c : Nat} (h : DataW.trod enc Tryz.prog w base spare held fuel 22 (Value.slice A n c).cells.toList = some x) : n ≤ c ∧ c ≤ maxLen ∧ ∃ l : List Int, Rd w w.heap.size 5 A n (intL l) := by
  obtain ⟨h1, h2, l, _, h3⟩ := row_of (α := { l : List Int // l.length = 5 }) (fun v => intL v.1) (fun v => by simp [intL, v.2]) (by decide) Tryz.underlying22 c5_arr (fun _ _ _ h => by obtain ⟨v, e, hv⟩ := arr5_of h; exact ⟨⟨v, e⟩, hv⟩) h
  rw [flat_int] at h3
  exact ⟨h1, h2, _, h3⟩
theorem r7_of {A : Option Addr} {n c : Nat} (h : DataW.trod enc Tryz.prog w base spare held fuel 23 (Value.slice A n c).cells.toList = some x) : n ≤ c ∧ c ≤ maxLen ∧ ∃ l : List Int, Rd w w.heap.size 7 A n (intL l) := by
  obtain ⟨h1, h2, l, _, h3⟩ := row_of (α := { l : List Int // l.length = 7 }) (fun v => intL v.1) (fun v => by simp [intL, v.2]) (by decide) Tryz.underlying23 c7_arr (fun _ _ _ h => by obtain ⟨v, e, hv⟩ := arr7_of h; exact ⟨⟨v, e⟩, hv⟩) h
  rw [flat_int] at h3
  exact ⟨h1, h2, _, h3⟩
set_option maxRecDepth 100000 in
theorem raw_of (hv : Value.okWide Tryz.prog w r b0 25 v) (h : DataW.Trod enc Tryz.prog w base spare held 25 v d p) : ∃ (y : Rsl) (l : RawL), v = .agg #[.slice y.aA y.an y.ac, .slice y.bA y.bn y.bc, .slice y.cA y.cn y.cc] ∧ y.fit ∧ RawIn w y l := by
  obtain ⟨cs, rfl, _⟩ := okWide_struct Tryz.underlying25 hv
  obtain ⟨fuel, hf0⟩ := h
  simp only [Value.cells] at hf0
  obtain ⟨xs, n, _, _, hl, hx, hf⟩ := DataW.trod_struct Tryz.underlying25 hf0
  rw [c3_raw] at hl
  obtain ⟨y0, e0⟩ := some_at hx (i := 0) (by decide)
  obtain ⟨y1, e1⟩ := some_at hx (i := 1) (by decide)
  obtain ⟨y2, e2⟩ := some_at hx (i := 2) (by decide)
  obtain ⟨c0, c1, c2, hcs⟩ := lenx3 hl
  rw [hcs] at hf
  have t0 := (hf 0 _ rfl).trans e0
  have t1 := (hf 1 _ rfl).trans e1
  have t2 := (hf 2 _ rfl).trans e2
  obtain ⟨A0, n0, q0, h0⟩ := slice_cell Tryz.underlying22 t0
  obtain ⟨A1, n1, q1, h1⟩ := slice_cell Tryz.underlying23 t1
  obtain ⟨A2, n2, q2, h2⟩ := slice_cell Tryz.underlying22 t2
  rw [h0] at t0
  rw [h1] at t1
  rw [h2] at t2
  obtain ⟨f0, g0, l0, k0⟩ := r5_of t0
  obtain ⟨f1, g1, l1, k1⟩ := r7_of t1
  obtain ⟨f2, g2, l2, k2⟩ := r5_of t2
  simp [c1_r5, c1_r7, Value.cells] at h0 h1 h2
  refine ⟨⟨A0, n0, q0, A1, n1, q1, A2, n2, q2⟩, ⟨l0, l1, l2⟩, ?_, ⟨⟨f0, g0⟩, ⟨f1, g1⟩, ⟨f2, g2⟩⟩, ⟨k0, k1, k2⟩⟩
  congr 1
  apply Array.toList_inj.1
  rw [hcs]
  simp [h0, h1, h2]
theorem c4_four : Tryz.prog.cellsOf 56 = 4 := by kernel_rfl
set_option maxRecDepth 100000 in
theorem four_of (hv : Value.okWide Tryz.prog w r b0 56 v) (h : DataW.Trod enc Tryz.prog w base spare held 56 v d p) : ∃ a b c e : Int, v = .agg #[.int .i64 a, .int .i64 b, .int .i64 c, .int .i64 e] := by
  obtain ⟨cs, rfl⟩ := okWide_arr2 Tryz.underlying56 hv
  obtain ⟨fuel, hf0⟩ := h
  simp only [Value.cells] at hf0
  obtain ⟨xs, n, _, _, hl, hx, hf⟩ := DataW.trod_array Tryz.underlying56 hf0
  rw [c4_four] at hl
  obtain ⟨y0, e0⟩ := some_at hx (i := 0) (by decide)
  obtain ⟨y1, e1⟩ := some_at hx (i := 1) (by decide)
  obtain ⟨y2, e2⟩ := some_at hx (i := 2) (by decide)
  obtain ⟨y3, e3⟩ := some_at hx (i := 3) (by decide)
  obtain ⟨c0, c1, c2, c3, hcs⟩ := lenx4 hl
  rw [hcs] at hf
  obtain ⟨a0, h0⟩ := int_of ((hf 0 (by decide)).trans e0)
  obtain ⟨a1, h1⟩ := int_of ((hf 1 (by decide)).trans e1)
  obtain ⟨a2, h2⟩ := int_of ((hf 2 (by decide)).trans e2)
  obtain ⟨a3, h3⟩ := int_of ((hf 3 (by decide)).trans e3)
  simp [c1_int] at h0 h1 h2 h3
  refine ⟨a0, a1, a2, a3, ?_⟩
  congr 1
  apply Array.toList_inj.1
  rw [hcs]
  simp [h0, h1, h2, h3]
end

end Go.Proofs.YtmcmbicapdcfmaaGreat
namespace Go.Proofs.YtmcmbicapdcfmaaGreat.RowLoanSince
open Go.ChangeShapes Go.WideShapes Go.ChangeAt Go.RowKit
open Go.Proofs.YtmcmbicapdcfmaaGreat

set_option maxRecDepth 100000 in
theorem lifted (os : Os) (started : os.Started) (H : Type) (enc : TypeId × Value → H) :
    ReturnsInHanded {} Tryz.checked os 7 .any (Rows.loanSinceSpec.pre6 enc Tryz.prog Tryz.f7 Rows.loanSinceRow.domain false) (Rows.loanSinceSpec.post enc Tryz.prog Tryz.f7 false true false false) := by
  refine returnsInHanded_of_change (C := Tryz.checked) own started (by kernel_rfl) Tryz.func7
    (ChangeSpec.witness6 (enc := enc) (C := Tryz.checked) false ⟨#[], #[.agg #[.slice none 0 0, .slice none 0 0, .slice none 0 0], .agg #[.int .i64 0, .int .i64 0, .int .i64 0, .int .i64 0]], []⟩ 8 (by kernel_rfl) (by kernel_rfl) (by kernel_rfl) (by kernel_rfl)) ?_
  intro W base args ds gs before hval0 hW hcnd _
  have hval : ∀ (j : Nat) t v, Tryz.f7.params[j]? = some t → args[j]? = some v → Value.okWide Tryz.prog W .any base t v := hval0
  have hW' := hW
  obtain ⟨p, q, hA0, hV, rfl, hfz, hnd⟩ := hW
  have hA : DataW.TrodAll enc Tryz.prog W 0 (fun _ => true) true Tryz.f7.params.toList args.toList ds p := hA0
  rw [Tryz.params7] at hA hval
  obtain ⟨v0, vs0, d0, ds0, p0, q0, hargs, rfl, rfl, h0, r0⟩ := trodAll_cons hA
  obtain ⟨v1, vs1, d1, ds1, p1, q1, rfl, rfl, rfl, h1, r1⟩ := trodAll_cons r0
  obtain ⟨rfl, rfl, rfl⟩ := trodAll_nil r1
  obtain rfl : args = #[v0, v1] := by cases args; simp_all
  obtain ⟨rfl, rfl⟩ := trodVars_none hV
  have k0 := h0
  have lt0 : ∀ x ∈ p0, x.block < W.heap.size := by obtain ⟨m, hm⟩ := k0; exact DataW.trod_lt m _ _ _ hm
  obtain ⟨y0, l0, rfl, f0, w0⟩ := raw_of (hval 0 25 v0 rfl rfl) h0
  have k1 := h1
  have lt1 : ∀ x ∈ p1, x.block < W.heap.size := by obtain ⟨m, hm⟩ := k1; exact DataW.trod_lt m _ _ _ hm
  obtain ⟨x10, x11, x12, x13, rfl⟩ := four_of (hval 1 56 v1 rfl rfl) h1
  clear hA0 hval0
  refine (w_LoanSince y0 l0 x10 x11 x12 x13 W f0 w0).mono fun e W' ⟨he, bel⟩ => ?_
  subst he
  exact ⟨_, rfl, _, _, _, [], _, [], hW', trodAll_mk1 (shut_bool Tryz.underlying4 _), (trodAll_cons_mk (Below.trod laidOut (by kernel_rfl) (of_decide_eq_true (by kernel_rfl)) k0 bel lt0) (trodAll_cons_mk (Below.trod laidOut (by kernel_rfl) (of_decide_eq_true (by kernel_rfl)) k1 bel lt1) trodAll_mk0)), rfl, bel.frame _, fun h => by cases h⟩

theorem over : Rows.loanSinceRow.holds Tryz.pinned (OpenSpec.ofChange Rows.loanSinceSpec) :=
  OpenClaim.holds_of_wide 7 Tryz.f7 rfl rfl rfl rfl rfl rfl rfl ⟨rfl, rfl, rfl, rfl, rfl⟩ rfl rfl rfl rfl rfl (by kernel_rfl) Tryz.func7 (by kernel_rfl)
    (of_decide_eq_true (by kernel_rfl)) (by unfold Func.isWrapper; first | (rw [if_pos (by decide +kernel)]; kernel_rfl) | (rw [if_neg (by decide +kernel)]; exact ⟨rfl, rfl⟩))
    (fun os started H enc _ => lifted os started H enc)

theorem proved : Rows.LoanSinceSaid := over
end Go.Proofs.YtmcmbicapdcfmaaGreat.RowLoanSince

namespace Go.Proofs.YtmcmbicapdcfmaaGreat
theorem loanSince_holds : Rows.LoanSinceSaid := RowLoanSince.proved
end Go.Proofs.YtmcmbicapdcfmaaGreat
