/- Layer 2 of the texts that LoanMoves takes: Mbsq. -/
import Derived.Test.YtmcmbicapdcfmaaGreatMbpq
set_option linter.unusedVariables false
set_option linter.unusedSimpArgs false
set_option maxHeartbeats 16000000
namespace Go.Proofs.YtmcmbicapdcfmaaGreat
open Go.RowKit Go.Maps
structure Tw (C:Nat→Nat→Prop) (M M':List ((Int × Int) × Nat)) (P P':List (Int × Int)):Prop where
 fn:∀ a b b',C a b→C a b'→b=b'
 inj:∀ a a' b,C a b→C a' b→a=a'
 key:∀ k,(getN M k=none∧getN M' k=none)∨∃ a b,getN M k=some a∧getN M' k=some b∧C a b
 val:∀ a b,C a b→a<P.length∧b<P'.length∧P.getD a (0,0)=P'.getD b (0,0)
section
variable {C:Nat→Nat→Prop} {M M':List ((Int × Int) × Nat)} {P P':List (Int × Int)}
theorem Tw.none_iff (h:Tw C M M' P P') (k:Int × Int):(getN M k).isNone=(getN M' k).isNone:=by
 rcases h.key k with ⟨h1,h2⟩ | ⟨a,b,h1,h2,-⟩ <;> rw [h1,h2] <;> rfl
theorem Tw.takes (h:Tw C M M' P P') (r:Rcp) (lv:List Int):takesB (encM M) r lv=takesB (encM M') r lv:=by
 unfold takesB
 congr 1
 funext x
 rw [getG_enc,getG_enc]
 have:=h.none_iff (r.src,x)
 cases h1:getN M (r.src,x) <;> cases h2:getN M' (r.src,x) <;> simp_all
theorem Tw.readR (h:Tw C M M' P P') (kn:Int) (R:List Rcp) (t:Rtn):readR kn R M t=readR kn R M' t:=by
 unfold Go.Proofs.YtmcmbicapdcfmaaGreat.readR
 cases findR R t.rcp with
 | none=>rfl
 | some r=>simp only [h.takes]
theorem Tw.setL (h:Tw C M M' P P') {i:Nat} (d:Int × Int) (hi:∀ b,¬ C i b):Tw C M M' (P.set i d) P' :=
 ⟨h.fn,h.inj,h.key,fun a b hab=>by
   obtain ⟨h1,h2,h3⟩:=h.val a b hab
   refine ⟨by simpa using h1,h2,?_⟩
   rw [getD_setP,if_neg (fun e=>hi b (by rw [e.1];exact hab)),h3]⟩
theorem Tw.setR (h:Tw C M M' P P') {i:Nat} (d:Int × Int) (hi:∀ a,¬ C a i):Tw C M M' P (P'.set i d) :=
 ⟨h.fn,h.inj,h.key,fun a b hab=>by
   obtain ⟨h1,h2,h3⟩:=h.val a b hab
   refine ⟨h1,by simpa using h2,?_⟩
   rw [getD_setP,if_neg (fun e=>hi a (by rw [e.1];exact hab)),h3]⟩
theorem Tw.set2 (h:Tw C M M' P P') {i j:Nat} (d:Int × Int) (hc:C i j):Tw C M M' (P.set i d) (P'.set j d) :=
 ⟨h.fn,h.inj,h.key,fun a b hab=>by
   obtain ⟨h1,h2,h3⟩:=h.val a b hab
   refine ⟨by simpa using h1,by simpa using h2,?_⟩
   rw [getD_setP,getD_setP]
   by_cases ha:i=a
   ·subst ha
    obtain rfl:=h.fn _ _ _ hc hab
    rw [if_pos ⟨rfl,h1⟩,if_pos ⟨rfl,h2⟩]
   ·have hb:¬ j=b:=fun e=>ha (by subst e;exact h.inj _ _ _ hc hab)
    rw [if_neg (fun e=>ha e.1),if_neg (fun e=>hb e.1),h3]⟩
theorem getN_puts (M:List ((Int × Int) × Nat)) (src:Int) (i:Nat) (l:List Int) (k:Int × Int):getN (putK M src i l) k=if k.1=src∧k.2∈l then some i else getN M k:=getN_putK_eq M src i l k
theorem Tw.put (h:Tw C M M' P P') {i j:Nat} (src:Int) (lv:List Int) (hc:C i j):Tw C (putK M src i lv) (putK M' src j lv) P P' :=
 ⟨h.fn,h.inj,fun k=>by
   rw [getN_puts,getN_puts]
   split
   ·exact .inr ⟨i,j,rfl,rfl,hc⟩
   ·exact h.key k,h.val⟩
theorem Tw.back (h:Tw C M M' P P') (src leaf day:Int):backB M P src leaf day=backB M' P' src leaf day:=by
 unfold backB
 rcases h.key (src,leaf) with ⟨h1,h2⟩ | ⟨a,b,h1,h2,h3⟩
 ·rw [h1,h2]
 ·rw [h1,h2]
  dsimp only
  rw [(h.val a b h3).2.2]
theorem Tw.out (h:Tw C M M' P P') (u v:Rcp):outB M P u v=outB M' P' u v:=by
 funext x
 rw [outB,outB,h.back]
theorem Tw.dbl (h:Tw C M M' P P') (x y:Rcp):dblB M P x y=dblB M' P' x y:=by
 rw [dblB,dblB,h.out,h.out]
theorem Tw.dblR (h:Tw C M M' P P'):∀ R:List Rcp,Go.Proofs.YtmcmbicapdcfmaaGreat.dblR M P R=Go.Proofs.YtmcmbicapdcfmaaGreat.dblR M' P' R
 | []=>rfl
 | x :: R=>by
   rw [Go.Proofs.YtmcmbicapdcfmaaGreat.dblR,Go.Proofs.YtmcmbicapdcfmaaGreat.dblR,Tw.dblR h R]
   have e:dblB M P x=dblB M' P' x:=by funext y;exact h.dbl x y
   rw [e]
def TwS (C:Nat→Nat→Prop) (s s':Int × Int × Int):Prop:=s.1=s'.1∧s.2.2=s'.2.2∧((s.2.1=-1∧s'.2.1=-1)∨∃ a b:Nat,s.2.1=a∧s'.2.1=b∧C a b)
theorem Tw.backI (h:Tw C M M' P P') (src leaf:Int):(backI M src leaf=-1∧backI M' src leaf=-1)∨∃ a b:Nat,backI M src leaf=a∧backI M' src leaf=b∧C a b:=by
 unfold Go.Proofs.YtmcmbicapdcfmaaGreat.backI
 rcases h.key (src,leaf) with ⟨h1,h2⟩ | ⟨a,b,h1,h2,h3⟩
 ·rw [h1,h2];exact .inl ⟨rfl,rfl⟩
 ·rw [h1,h2];exact .inr ⟨a,b,rfl,rfl,h3⟩
theorem Tw.stayL (h:Tw C M M' P P') (leaf day:Int):∀ (rs:List Rcp) (s s':Int × Int × Int),TwS C s s'→TwS C (rs.foldl (stayStep M leaf day) s) (rs.foldl (stayStep M' leaf day) s')
 | [],s,s',hs=>hs
 | r :: rs,s,s',hs=>by
   refine Tw.stayL h leaf day rs _ _ ?_
   unfold stayStep
   rw [hs.2.1]
   split
   ·exact hs
   ·exact ⟨rfl,rfl,h.backI r.src leaf⟩
theorem Tw.stayF (h:Tw C M M' P P') (R:List Rcp) (pap leaf day:Int):TwS C (stayF M R pap leaf day) (Go.Proofs.YtmcmbicapdcfmaaGreat.stayF M' R pap leaf day) :=
 h.stayL leaf day _ _ _ ⟨rfl,rfl,.inl ⟨rfl,rfl⟩⟩
theorem Tw.where_ (h:Tw C M M' P P') (R:List Rcp) (pap leaf day:Int):whereS (stayP M R pap leaf day) P day=whereS (stayP M' R pap leaf day) P' day:=by
 obtain ⟨h1,-,h3⟩:=h.stayF R pap leaf day
 unfold whereS stayP
 dsimp only
 rw [h1]
 rcases h3 with ⟨h3,h4⟩ | ⟨a,b,h3,h4,h5⟩
 ·rw [h3,h4];rfl
 ·rw [h3,h4,Int.toNat_natCast,Int.toNat_natCast,(h.val a b h5).2.2]
  have e1:¬ (a:Int)<0:=by omega
  have e2:¬ (b:Int)<0:=by omega
  simp only [e1,e2,false_or]
theorem Tw.narS (h:Tw C M M' P P') (R:List Rcp) (s:Sgt):(narS (staySg M R s) P s.per s.day=none∧narS (staySg M' R s) P' s.per s.day=none)∨∃ D D',narS (staySg M R s) P s.per s.day=some D∧narS (staySg M' R s) P' s.per s.day=some D'∧Tw C M M' D D':=by
 obtain ⟨h1,-,h3⟩:=h.stayF R s.pap s.leaf s.day
 unfold Go.Proofs.YtmcmbicapdcfmaaGreat.narS staySg
 dsimp only
 rw [h1]
 rcases h3 with ⟨h3,h4⟩ | ⟨a,b,h3,h4,h5⟩
 ·rw [h3,h4]
  split
  ·exact .inl ⟨rfl,rfl⟩
  ·exact .inr ⟨P,P',by rw [if_pos (by decide)],by rw [if_pos (by decide)],h⟩
 ·rw [h3,h4,Int.toNat_natCast,Int.toNat_natCast,(h.val a b h5).2.2]
  have e1:¬ (a:Int)<0:=by omega
  have e2:¬ (b:Int)<0:=by omega
  simp only [e1,e2,if_false,or_false]
  split
  ·exact .inl ⟨rfl,rfl⟩
  ·split
   ·exact .inl ⟨rfl,rfl⟩
   ·exact .inr ⟨_,_,rfl,rfl,h.set2 _ h5⟩
theorem Tw.narL (R:List Rcp):∀ (S:List Sgt) {P P':List (Int × Int)},Tw C M M' P P'→(narL M R S P=none∧narL M' R S P'=none)∨∃ D D',narL M R S P=some D∧narL M' R S P'=some D'∧Tw C M M' D D'
 | [],P,P',h=>.inr ⟨P,P',rfl,rfl,h⟩
 | s :: S,P,P',h=>by
   rw [Go.Proofs.YtmcmbicapdcfmaaGreat.narL,Go.Proofs.YtmcmbicapdcfmaaGreat.narL]
   rcases h.narS R s with ⟨h1,h2⟩ | ⟨D,D',h1,h2,h3⟩
   ·rw [h1,h2];exact .inl ⟨rfl,rfl⟩
   ·rw [h1,h2];exact Tw.narL R S h3
end
def opnGo (kn:Int) (R:List Rcp):Opn→Nat→List Rtn→Opn
 | s,_,[]=>s
 | s,i,t :: ts=>opnGo kn R (readS kn R s i t) (i+1) ts
theorem opnGo_snoc (kn:Int) (R:List Rcp) (t:Rtn):∀ (ts:List Rtn) (s:Opn) (i:Nat),opnGo kn R s i (ts ++ [t])=readS kn R (opnGo kn R s i ts) (i+ts.length) t
 | [],s,i=>rfl
 | u :: ts,s,i=>by
   rw [List.cons_append,opnGo,opnGo_snoc kn R t ts,opnGo,List.length_cons,show i+1+ts.length=i+(ts.length+1) by omega]
theorem opn_go (kn:Int) (R:List Rcp) (rt:List Rtn) (n:Nat):∀ k,k≤rt.length→opnK kn R rt n k=opnGo kn R ⟨[],List.replicate n false,List.replicate n (0,0)⟩ 0 (rt.take k)
 | 0,_=>by simp [opnK_zero,opnGo]
 | k+1,hk=>by
   have ht:rt[k]?=some rt[k]:=List.getElem?_eq_getElem (by omega)
   rw [opnK_succ ht,take_snoc_some ht,opnGo_snoc,opn_go kn R rt n k (by omega),List.length_take,Nat.min_eq_left (by omega),Nat.zero_add]
structure TwO (C:Nat→Nat→Prop) (s s':Opn) (i j n':Nat):Prop where
 tw:Tw C s.M s'.M s.P s'.P
 lt:∀ a b,C a b→a<i∧b<j
 pl:s'.P.length=n'
 tl:s'.T.length=n'
theorem tw_none {kn:Int} {R:List Rcp} {C:Nat→Nat→Prop} {s s':Opn} {i j n':Nat} (h:TwO C s s' i j n') (t:Rtn) (h0:readR kn R s.M t=none):TwO C (readS kn R s i t) s' (i+1) j n'∧TwO C (readS kn R s i t) (readS kn R s' j t) (i+1) (j+1) n':=by
 have ni:∀ b,¬ C i b:=fun b hb=>Nat.lt_irrefl _ (h.lt _ _ hb).1
 have nj:∀ a,¬ C a j:=fun a hb=>Nat.lt_irrefl _ (h.lt _ _ hb).2
 have h1:=h0
 rw [h.tw.readR kn R t] at h1
 unfold readS
 rw [h0,h1]
 refine ⟨⟨h.tw.setL _ ni,fun a b hab=>?_,h.pl,h.tl⟩,⟨(h.tw.setL _ ni).setR _ nj,fun a b hab=>?_,by simpa using h.pl,h.tl⟩⟩
 ·have:=h.lt a b hab;omega
 ·have:=h.lt a b hab;omega
theorem tw_some {kn:Int} {R:List Rcp} {C:Nat→Nat→Prop} {s s':Opn} {i j n':Nat} (h:TwO C s s' i j n') (t:Rtn) {r:Rcp} (h0:readR kn R s.M t=some r) (hi:i<s.P.length) (hj:j<n') :
 TwO (fun a b=>C a b∨(a=i∧b=j)) (readS kn R s i t) (readS kn R s' j t) (i+1) (j+1) n'∧(readS kn R s' j t).T=s'.T.set j true:=by
 have h1:=h0
 rw [h.tw.readR kn R t] at h1
 have hT:Tw (fun a b=>C a b∨(a=i∧b=j)) s.M s'.M (s.P.set i (0,0)) (s'.P.set j (0,0)):=by
  refine ⟨fun a b b' g g'=>?_,fun a a' b g g'=>?_,fun k=>?_,fun a b g=>?_⟩
  ·rcases g with g | g <;> rcases g' with g' | g'
   ·exact h.tw.fn _ _ _ g g'
   ·have:=h.lt _ _ g;omega
   ·have:=h.lt _ _ g';omega
   ·omega
  ·rcases g with g | g <;> rcases g' with g' | g'
   ·exact h.tw.inj _ _ _ g g'
   ·have:=h.lt _ _ g;omega
   ·have:=h.lt _ _ g';omega
   ·omega
  ·rcases h.tw.key k with h | ⟨a,b,h1,h2,h3⟩
   ·exact .inl h
   ·exact .inr ⟨a,b,h1,h2,.inl h3⟩
  ·rcases g with g | ⟨rfl,rfl⟩
   ·obtain ⟨q1,q2,q3⟩:=h.tw.val a b g
    have:=h.lt _ _ g
    refine ⟨by simpa using q1,by simpa using q2,?_⟩
    rw [getD_setP,getD_setP,if_neg (by omega),if_neg (by omega),q3]
   ·refine ⟨by simpa using hi,by rw [List.length_set,h.pl];exact hj,?_⟩
    rw [getD_setP,getD_setP,if_pos ⟨rfl,hi⟩,if_pos ⟨rfl,by rw [h.pl];exact hj⟩]
 unfold readS
 rw [h0,h1]
 dsimp only
 have hc:(fun a b=>C a b∨(a=i∧b=j)) i j:=.inr ⟨rfl,rfl⟩
 have h5:=((hT.set2 (0,100000) hc).set2 (max t.lo (r.day+1),hiK R r t.hi t.lv) hc).put r.src t.lv hc
 simp only [List.set_set] at h5 ⊢
 refine ⟨⟨h5,fun a b g=>?_,by simpa using h.pl,by simpa using h.tl⟩,by first | rfl | trivial⟩
 rcases g with g | ⟨rfl,rfl⟩
 ·have:=h.lt a b g;omega
 ·omega
theorem filt_snoc {α:Type} {p:α→Bool} {l:List α} {k:Nat} {x:α} (h:l[k]?=some x):(l.take (k+1)).filter p=(l.take k).filter p ++ (if p x=true then [x] else []):=by
 rw [take_snoc_some h,List.filter_append]
 congr 1
 cases hp:p x <;> simp [hp]
theorem tw_all {kn:Int} {R:List Rcp} {rt:List Rtn} {n n':Nat} {p:Rtn→Bool} (hn:rt.length≤n) (hn':(rt.filter p).length≤n') (hd:∀ k t,rt[k]?=some t→p t=false→readR kn R (opnK kn R rt n k).M t=none):∀ k,k≤rt.length →
 ∃ C,TwO C (opnK kn R rt n k) (opnGo kn R ⟨[],List.replicate n' false,List.replicate n' (0,0)⟩ 0 ((rt.take k).filter p)) k ((rt.take k).filter p).length n' ∧
   ((∀ i t,rt[i]?=some t→p t=true→¬ readR kn R (opnK kn R rt n i).M t=none)→∀ b,b<((rt.take k).filter p).length→(opnGo kn R ⟨[],List.replicate n' false,List.replicate n' (0,0)⟩ 0 ((rt.take k).filter p)).T[b]?=some true)
 | 0,_=>⟨fun _ _=>False,⟨⟨fun _ _ _ h=>h.elim,fun _ _ _ h=>h.elim,fun k=>.inl ⟨by rw [opnK_zero];rfl,by rw [List.take_zero];rfl⟩,fun _ _ h=>h.elim⟩,fun _ _ h=>h.elim,by simp [opnGo],by simp [opnGo]⟩,fun _ b hb=>by simp at hb⟩
 | k+1,hk=>by
   obtain ⟨C,hC,hT⟩:=tw_all hn hn' hd k (by omega)
   have ht:rt[k]?=some rt[k]:=List.getElem?_eq_getElem (by omega)
   generalize rt[k]=t at ht
   rw [opnK_succ ht,filt_snoc ht]
   cases hp:p t with
   | false =>
     rw [if_neg (by simp),List.append_nil]
     exact ⟨C,(tw_none hC t (hd k t ht hp)).1,hT⟩
   | true =>
     rw [if_pos rfl,opnGo_snoc,Nat.zero_add,List.length_append,List.length_singleton]
     have hl:((rt.take k).filter p).length<n':=by
      have h1:((rt.take (k+1)).filter p).length≤(rt.filter p).length:=((List.take_sublist _ _).filter p).length_le
      rw [filt_snoc ht,hp,if_pos rfl,List.length_append,List.length_singleton] at h1
      omega
     cases hr:readR kn R (opnK kn R rt n k).M t with
     | none=>exact ⟨C,(tw_none hC t hr).2,fun ha=>absurd hr (ha k t ht hp)⟩
     | some r =>
       obtain ⟨g1,g2⟩:=tw_some hC t hr (by rw [(opnK_len kn R rt n k).2];omega) hl
       refine ⟨_,g1,fun ha b hb=>?_⟩
       rw [g2]
       by_cases hb2:b=((rt.take k).filter p).length
       ·subst hb2
        rw [List.getElem?_set_self (by rw [hC.tl];exact hl)]
       ·rw [List.getElem?_set_ne (by omega)]
        exact hT ha b (by omega)
theorem tw_led {l l':Led} {kn:Int} {p:Rtn→Bool} (hR:cntR l' kn=cntR l kn) (ht:l'.rt=l.rt.filter p) (hd:∀ k t,l.rt[k]?=some t→p t=false→readR kn (cntR l kn) (opnK kn (cntR l kn) l.rt l.rt.length k).M t=none) :
 (∃ C,Tw C (opnL l kn).M (opnL l' kn).M (opnL l kn).P (opnL l' kn).P)∧((∀ i t,l.rt[i]?=some t→p t=true→¬ readR kn (cntR l kn) (opnK kn (cntR l kn) l.rt l.rt.length i).M t=none)→∀ b,b<l'.rt.length→(opnL l' kn).T[b]?=some true):=by
 obtain ⟨C,h1,h2⟩:=tw_all (kn:=kn) (R:=cntR l kn) (n:=l.rt.length) (n':=l'.rt.length) (p:=p) lr_ (by rw [ht];exact lr_) hd l.rt.length lr_
 have e:opnL l' kn=opnGo kn (cntR l kn) ⟨[],List.replicate l'.rt.length false,List.replicate l'.rt.length (0,0)⟩ 0 ((l.rt.take l.rt.length).filter p):=by
  rw [opnL,hR,opn_go _ _ _ _ _ lr_,List.take_length,List.take_length,← ht]
 rw [← e] at h1 h2
 refine ⟨⟨C,h1.tw⟩,fun ha b hb=>h2 ha b ?_⟩
 rw [List.take_length,← ht]
 exact hb
theorem tw_same {l l':Led} {kn:Int} {C:Nat→Nat→Prop} (hR:cntR l' kn=cntR l kn) (hS:cntS l' kn=cntS l kn) (h:Tw C (opnL l kn).M (opnL l' kn).M (opnL l kn).P (opnL l' kn).P) :
 dblR (opnL l' kn).M (opnL l' kn).P (cntR l' kn)=dblR (opnL l kn).M (opnL l kn).P (cntR l kn)∧(∀ S,conB l' kn S=conB l kn S)∧setE l' kn=setE l kn∧∀ day f,setE l kn=0→whL l' kn day f=whL l kn day f:=by
 have hd:dblR (opnL l' kn).M (opnL l' kn).P (cntR l' kn)=dblR (opnL l kn).M (opnL l kn).P (cntR l kn):=by rw [hR,h.dblR]
 have hn:∀ S,(narL (opnL l kn).M (cntR l kn) S (opnL l kn).P=none∧narL (opnL l' kn).M (cntR l' kn) S (opnL l' kn).P=none)∨∃ D D',narL (opnL l kn).M (cntR l kn) S (opnL l kn).P=some D∧narL (opnL l' kn).M (cntR l' kn) S (opnL l' kn).P=some D'∧Tw C (opnL l kn).M (opnL l' kn).M D D':=fun S=>by
  rw [hR];exact Tw.narL (cntR l kn) S h
 refine ⟨hd,fun S=>?_,?_,fun day f h0=>?_⟩
 ·rw [conB,conB]
  rcases hn S with ⟨h1,h2⟩ | ⟨D,D',h1,h2,-⟩ <;> rw [h1,h2] <;> rfl
 ·rw [setE,setE,hd,hS]
  rcases hn (cntS l kn) with ⟨h1,h2⟩ | ⟨D,D',h1,h2,-⟩ <;> rw [h1,h2] <;> cases dblR (opnL l kn).M (opnL l kn).P (cntR l kn) <;> rfl
 ·rw [whL,whL,setP,setP,hS]
  rcases hn (cntS l kn) with ⟨h1,h2⟩ | ⟨D,D',h1,h2,h3⟩
  ·exfalso
   rw [setE,h1] at h0
   cases hdd:dblR (opnL l kn).M (opnL l kn).P (cntR l kn) <;> rw [hdd] at h0 <;> cases h0
  ·rw [h1,h2,Option.getD_some,Option.getD_some,hR]
   exact (h3.where_ _ _ _ _).symm
end Go.Proofs.YtmcmbicapdcfmaaGreat
namespace Go.Proofs.YtmcmbicapdcfmaaGreat
open Go.RowKit
attribute [local go_sem] Oper.semAt_some
end Go.Proofs.YtmcmbicapdcfmaaGreat
