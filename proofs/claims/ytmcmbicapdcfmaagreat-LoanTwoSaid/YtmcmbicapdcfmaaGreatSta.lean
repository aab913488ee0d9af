/- LoanTwo: for every history that numbers describe, every day and every list of sources, whatever memory they lie in, the Go function LoanTwo (layer 2, promise P2.4) returns true and leaves its arguments as they read. Conditions: none. -/
import Derived.Test.YtmcmbicapdcfmaaGreatSje
set_option linter.unusedVariables false
set_option linter.unusedSimpArgs false
namespace Go.Proofs.YtmcmbicapdcfmaaGreat
open Go.RowKit Go.Maps
theorem getD_setP (P:List (Int × Int)) (k j:Nat) (d:Int × Int):(P.set k d).getD j (0,0)=if k=j∧k<P.length then d else P.getD j (0,0):=by
 rw [List.getD_eq_getElem?_getD,List.getElem?_set,List.getD_eq_getElem?_getD]
 by_cases h1:k=j
 ·subst h1
  by_cases h2:k<P.length
  ·simp [h2]
  ·have h3:P[k]?=none:=List.getElem?_eq_none (by omega)
   simp [h2]
 ·simp [h1]
def Wd (Q P:List (Int × Int)):Prop:=Q.length=P.length∧∀ k,(Q.getD k (0,0)).1≤(P.getD k (0,0)).1∧(P.getD k (0,0)).2≤(Q.getD k (0,0)).2
theorem Wd.refl (P:List (Int × Int)):Wd P P:=⟨rfl,fun _=>⟨Int.le_refl _,Int.le_refl _⟩⟩
theorem Wd.trans {A B C:List (Int × Int)} (h:Wd A B) (g:Wd B C):Wd A C:=⟨h.1.trans g.1,fun k=>⟨Int.le_trans (h.2 k).1 (g.2 k).1,Int.le_trans (g.2 k).2 (h.2 k).2⟩⟩
theorem narS_some {st:Int × Int} {P P':List (Int × Int)} {per day:Int} (h:narS st P per day=some P'):¬ (per≠st.1∧(per≠0∨st.2<0))∧((st.2<0∧P'=P)∨(¬ st.2<0∧¬ (narD per day (P.getD st.2.toNat (0,0))).2<(narD per day (P.getD st.2.toNat (0,0))).1∧P'=P.set st.2.toNat (narD per day (P.getD st.2.toNat (0,0))))):=by
 unfold narS at h
 split at h
 ·cases h
 ·rename_i h1
  refine ⟨h1,?_⟩
  split at h
  ·rename_i h2;exact .inl ⟨h2,(Option.some.inj h).symm⟩
  ·rename_i h2
   split at h
   ·cases h
   ·rename_i h3;exact .inr ⟨h2,h3,(Option.some.inj h).symm⟩
theorem narD_in (per day:Int) (d:Int × Int):d.1≤(narD per day d).1∧(narD per day d).2≤d.2:=by
 unfold narD
 split <;> constructor <;> dsimp only <;> omega
theorem narD_mono (per day:Int) {d e:Int × Int} (h1:d.1≤e.1) (h2:e.2≤d.2):(narD per day d).1≤(narD per day e).1∧(narD per day e).2≤(narD per day d).2:=by
 unfold narD
 split <;> constructor <;> dsimp only <;> omega
theorem narS_in {st:Int × Int} {P P':List (Int × Int)} {per day:Int} (h:narS st P per day=some P'):Wd P P':=by
 obtain ⟨-,⟨-,rfl⟩ | ⟨-,-,rfl⟩⟩:=narS_some h
 ·exact Wd.refl _
 ·refine ⟨by simp,fun k=>?_⟩
  rw [getD_setP]
  split
  ·rename_i e;rw [← e.1];exact narD_in _ _ _
  ·exact ⟨Int.le_refl _,Int.le_refl _⟩
theorem narS_wide {st:Int × Int} {P P' Q:List (Int × Int)} {per day:Int} (h:narS st P per day=some P') (hw:Wd Q P):∃ Q',narS st Q per day=some Q'∧Wd Q' P':=by
 obtain ⟨h1,⟨h2,rfl⟩ | ⟨h2,h3,rfl⟩⟩:=narS_some h
 ·exact ⟨Q,by rw [narS,if_neg h1,if_pos h2],hw⟩
 ·have hm:=narD_mono per day (hw.2 st.2.toNat).1 (hw.2 st.2.toNat).2
  refine ⟨_,by rw [narS,if_neg h1,if_neg h2,if_neg (by omega)],by simp [hw.1],fun k=>?_⟩
  rw [getD_setP,getD_setP,hw.1]
  split
  ·exact hm
  ·exact hw.2 k
theorem narL_sub {M:List ((Int × Int) × Nat)} {R:List Rcp} {S' S:List Sgt} (hs:S'.Sublist S):∀ {P P' Q:List (Int × Int)},narL M R S P=some P'→Wd Q P→∃ Q',narL M R S' Q=some Q'∧Wd Q' P':=by
 induction hs with
 | slnil=>intro P P' Q h hw;cases h;exact ⟨Q,rfl,hw⟩
 | cons s _ ih =>
   intro P P' Q h hw
   rw [narL] at h
   split at h
   ·cases h
   ·rename_i P1 h1
    exact ih h (hw.trans (narS_in h1))
 | cons_cons s _ ih =>
   intro P P' Q h hw
   rw [narL] at h
   split at h
   ·cases h
   ·rename_i P1 h1
    obtain ⟨Q1,g1,hw1⟩:=narS_wide h1 hw
    obtain ⟨Q',g2,hw2⟩:=ih h hw1
    exact ⟨Q',by rw [narL,g1];exact g2,hw2⟩
theorem min_low {a b c:Int} (h:a≤b) (h2:min b c<a):c<a:=by omega
theorem max_high {a b c:Int} (h:a≤b) (h2:b<max a c):b<c:=by omega
def Ends (M:List ((Int × Int) × Nat)) (R:List Rcp) (P D:List (Int × Int)) (S:List Sgt):Prop :=
 D.length=P.length∧∀ k,((D.getD k (0,0)).1≤(D.getD k (0,0)).2) ∧
  ((D.getD k (0,0)).1=(P.getD k (0,0)).1∨∃ x∈S,¬ x.per=0∧(staySg M R x).2=(k:Int)∧(D.getD k (0,0)).1=x.day+1) ∧
  ((D.getD k (0,0)).2=(P.getD k (0,0)).2∨∃ x∈S,x.per=0∧(staySg M R x).2=(k:Int)∧(D.getD k (0,0)).2=x.day)
theorem nar_one {M:List ((Int × Int) × Nat)} {R:List Rcp} {s:Sgt} {P:List (Int × Int)}:narL M R [s] P=narS (staySg M R s) P s.per s.day:=by
 rw [narL]
 cases narS (staySg M R s) P s.per s.day <;> rfl
theorem nar_two {M:List ((Int × Int) × Nat)} {R:List Rcp} {s t:Sgt} {P:List (Int × Int)}:narL M R [s,t] P=(narS (staySg M R s) P s.per s.day).bind fun Q=>narS (staySg M R t) Q t.per t.day:=by
 rw [narL]
 cases narS (staySg M R s) P s.per s.day
 ·rfl
 ·exact nar_one
theorem two_step {M:List ((Int × Int) × Nat)} {R:List Rcp} {P:List (Int × Int)} (hst:∀ s:Sgt,(staySg M R s).2=-1∨∃ i:Nat,i<P.length∧(staySg M R s).2=(i:Int)) (hP:∀ k,(P.getD k (0,0)).1≤(P.getD k (0,0)).2) :
 ∀ (S pre:List Sgt) (D:List (Int × Int)),Ends M R P D pre→narL M R S D=none→(∃ s∈pre ++ S,narL M R [s] P=none)∨∃ x y,[x,y].Sublist (pre ++ S)∧narL M R [x,y] P=none
 | [],pre,D,_,h=>by cases h
 | s :: S,pre,D,hE,h=>by
   rw [narL] at h
   cases hn:narS (staySg M R s) D s.per s.day with
   | some D1 =>
     rw [hn] at h
     have hE1:Ends M R P D1 (pre ++ [s]):=by
      obtain ⟨h1,⟨h2,rfl⟩ | ⟨h2,h3,rfl⟩⟩:=narS_some hn
      ·refine ⟨hE.1,fun k=>?_⟩
       obtain ⟨e1,e2,e3⟩:=hE.2 k
       exact ⟨e1,e2.imp id fun ⟨x,hx,g⟩=>⟨x,List.mem_append_left _ hx,g⟩,e3.imp id fun ⟨x,hx,g⟩=>⟨x,List.mem_append_left _ hx,g⟩⟩
      ·refine ⟨by simp [hE.1],fun k=>?_⟩
       obtain ⟨e1,e2,e3⟩:=hE.2 k
       rw [getD_setP]
       split
       ·rename_i hk
        obtain ⟨hk,-⟩:=hk
        have hsk:(staySg M R s).2=(k:Int):=by omega
        rw [hk] at h3 ⊢
        refine ⟨by omega,?_,?_⟩
        ·unfold narD
         split
         ·exact e2.imp id fun ⟨x,hx,g⟩=>⟨x,List.mem_append_left _ hx,g⟩
         ·rename_i hp
          dsimp only
          by_cases hc:s.day+1≤(D.getD k (0,0)).1
          ·rw [show max (D.getD k (0,0)).1 (s.day+1)=(D.getD k (0,0)).1 by omega]
           exact e2.imp id fun ⟨x,hx,g⟩=>⟨x,List.mem_append_left _ hx,g⟩
          ·exact .inr ⟨s,by simp,hp,hsk,by omega⟩
        ·unfold narD
         split
         ·rename_i hp
          dsimp only
          by_cases hc:(D.getD k (0,0)).2≤s.day
          ·rw [show min (D.getD k (0,0)).2 s.day=(D.getD k (0,0)).2 by omega]
           exact e3.imp id fun ⟨x,hx,g⟩=>⟨x,List.mem_append_left _ hx,g⟩
          ·exact .inr ⟨s,by simp,hp,hsk,by omega⟩
         ·exact e3.imp id fun ⟨x,hx,g⟩=>⟨x,List.mem_append_left _ hx,g⟩
       ·exact ⟨e1,e2.imp id fun ⟨x,hx,g⟩=>⟨x,List.mem_append_left _ hx,g⟩,e3.imp id fun ⟨x,hx,g⟩=>⟨x,List.mem_append_left _ hx,g⟩⟩
     have:=two_step hst hP S (pre ++ [s]) D1 hE1 h
     rw [List.append_assoc] at this
     exact this
   | none =>
     have hsm:s∈pre ++ s :: S:=by simp
     by_cases h1:s.per≠(staySg M R s).1∧(s.per≠0∨(staySg M R s).2<0)
     ·exact .inl ⟨s,hsm,by rw [nar_one,narS,if_pos h1]⟩
     ·rw [narS,if_neg h1] at hn
      by_cases h2:(staySg M R s).2<0
      ·rw [if_pos h2] at hn;cases hn
      ·rw [if_neg h2] at hn
       rcases hst s with h3 | ⟨k,hk,h3⟩
       ·omega
       ·rw [h3,Int.toNat_natCast] at hn
        split at hn
        ·rename_i hf
         obtain ⟨e1,e2,e3⟩:=hE.2 k
         clear hst hP hE
         have hone:(narD s.per s.day (P.getD k (0,0))).2<(narD s.per s.day (P.getD k (0,0))).1→narL M R [s] P=none:=fun g=>by
          rw [nar_one,narS,if_neg h1,if_neg h2,h3,Int.toNat_natCast,if_pos g]
         have hpair:∀ x∈pre,(staySg M R x).2=(k:Int)→(∀ e,e=narD x.per x.day (P.getD k (0,0))→(narD s.per s.day e).2<(narD s.per s.day e).1)→(∃ t∈pre ++ s :: S,narL M R [t] P=none)∨∃ x y,[x,y].Sublist (pre ++ s :: S)∧narL M R [x,y] P=none:=fun x hx hxk g=>by
          cases hx1:narS (staySg M R x) P x.per x.day with
          | none=>exact .inl ⟨x,List.mem_append_left _ hx,by rw [nar_one,hx1]⟩
          | some Q =>
            refine .inr ⟨x,s,?_,?_⟩
            ·have a1:[x].Sublist pre:=List.singleton_sublist.2 hx
             have a2:[s].Sublist (s :: S):=List.singleton_sublist.2 (by simp)
             exact a1.append a2
            ·rw [nar_two,hx1]
             show narS _ Q _ _=none
             obtain ⟨-,⟨g2,-⟩ | ⟨-,-,rfl⟩⟩:=narS_some hx1
             ·omega
             ·have e9:=getD_setP P k k (narD x.per x.day (P.getD k (0,0)))
              rw [if_pos ⟨rfl,hk⟩] at e9
              rw [hxk,Int.toNat_natCast,narS,if_neg h1,if_neg h2,h3,Int.toNat_natCast,e9,if_pos (g _ rfl)]
         by_cases hp:s.per=0
         ·have hf2:s.day<(D.getD k (0,0)).1:=by
           rw [narD,if_pos hp] at hf
           exact min_low e1 hf
          rcases e2 with e2 | ⟨x,hx,hxp,hxk,hxd⟩
          ·exact .inl ⟨s,hsm,hone (by rw [narD,if_pos hp];dsimp only;omega)⟩
          ·exact hpair x hx hxk fun e he=>by
            subst he
            rw [narD,if_pos hp,narD,if_neg hxp]
            dsimp only
            omega
         ·have hf2:(D.getD k (0,0)).2<s.day+1:=by
           rw [narD,if_neg hp] at hf
           exact max_high e1 hf
          rcases e3 with e3 | ⟨x,hx,hxp,hxk,hxd⟩
          ·exact .inl ⟨s,hsm,hone (by rw [narD,if_neg hp];dsimp only;omega)⟩
          ·exact hpair x hx hxk fun e he=>by
            subst he
            rw [narD,if_neg hp,narD,if_pos hxp]
            dsimp only
            omega
        ·cases hn
theorem firstP_of {p:Rcp→Rcp→Bool}:∀ {l:List Rcp} {x y:Rcp},firstP p l=some (x,y)→[x,y].Sublist l∧p x y=true
 | [],_,_,h=>by cases h
 | z :: l,x,y,h=>by
   rw [firstP] at h
   split at h
   ·rename_i u hu
    cases h
    have h1:=List.find?_some hu
    exact ⟨(List.singleton_sublist.2 (List.mem_of_find?_eq_some hu)).cons_cons _,h1⟩
   ·obtain ⟨h1,h2⟩:=firstP_of h
    exact ⟨h1.cons _,h2⟩
theorem clash2_of {l:Led} {kn:Int}:∀ {S:List Sgt} {x y:Sgt},clash2 l kn S=some (x,y)→[x,y].Sublist S∧conB l kn [x,y]=true
 | [],_,_,h=>by cases h
 | z :: S,x,y,h=>by
   rw [clash2] at h
   split at h
   ·rename_i u hu
    cases h
    have h1:=List.find?_some hu
    exact ⟨(List.singleton_sublist.2 (List.mem_of_find?_eq_some hu)).cons_cons _,h1⟩
   ·obtain ⟨h1,h2⟩:=clash2_of h
    exact ⟨h1.cons _,h2⟩
theorem clash2_no {l:Led} {kn:Int}:∀ {S:List Sgt},clash2 l kn S=none→∀ x y,[x,y].Sublist S→conB l kn [x,y]=false
 | [],_,x,y,h=>by cases h
 | z :: S,h,x,y,hs=>by
   rw [clash2] at h
   split at h
   ·cases h
   ·rename_i hf
    cases hs with
    | cons _ hs=>exact clash2_no h x y hs
    | cons_cons _ hs =>
      have:=List.find?_eq_none.1 hf y (List.singleton_sublist.1 hs)
      simpa using this
theorem cntR_rise {l:Led} (h:ledB l=true) (kn:Int):(cntR l kn).Pairwise fun x y=>x.src<y.src:=by
 simp only [ledB,Bool.and_eq_true] at h
 exact (val_pair h.2.1).sublist (List.filter_sublist ..)
theorem pair_lt {α:Type} {r:α→α→Prop} {l:List α} {x y:α} (h:l.Pairwise r) (hs:[x,y].Sublist l):r x y:=by
 have:=h.sublist hs
 simpa using this
theorem cntS_rise {l:Led} (h:ledB l=true) (kn:Int):(cntS l kn).Pairwise fun x y=>x.src<y.src:=by
 have:=cnt_rise h kn
 rwa [List.pairwise_map] at this
theorem sub2_of {α:Type} {num:α→Int}:∀ {l:List α} {x y:α},l.Pairwise (fun a b=>num a<num b)→x∈l→y∈l→num x<num y→[x,y].Sublist l
 | z :: l,x,y,h,hx,hy,hl=>by
   rw [List.pairwise_cons] at h
   by_cases ex:x=z
   ·by_cases ey:y=z
    ·rw [ex,ey] at hl;omega
    ·rw [ex]
     exact (List.singleton_sublist.2 ((List.mem_cons.1 hy).resolve_left ey)).cons_cons _
   ·by_cases ey:y=z
    ·have:=h.1 x ((List.mem_cons.1 hx).resolve_left ex)
     rw [ey] at hl
     omega
    ·exact (sub2_of h.2 ((List.mem_cons.1 hx).resolve_left ex) ((List.mem_cons.1 hy).resolve_left ey) hl).cons _
theorem firstP_no {p:Rcp→Rcp→Bool}:∀ {l:List Rcp},firstP p l=none→∀ x y,[x,y].Sublist l→p x y=false
 | [],_,x,y,h=>by cases h
 | z :: S,h,x,y,hs=>by
   rw [firstP] at h
   split at h
   ·cases h
   ·rename_i hf
    cases hs with
    | cons _ hs=>exact firstP_no h x y hs
    | cons_cons _ hs =>
      have:=List.find?_eq_none.1 hf y (List.singleton_sublist.1 hs)
      simpa using this
theorem findR_of {R:List Rcp} {a:Int} {x:Rcp} (h:findR R a=some x):x∈R∧x.src=a:=⟨List.mem_of_find?_eq_some h,by have:=List.find?_some h;simpa using this⟩
theorem sg_range {l:Led} (h:ledB l=true) (kn:Int) (s:Sgt):(staySg (opnL l kn).M (cntR l kn) s).2=-1∨∃ i:Nat,i<(opnL l kn).P.length∧(staySg (opnL l kn).M (cntR l kn) s).2=(i:Int):=by
 have:=stayP_back (M:=(opnL l kn).M) (R:=cntR l kn) (pap:=s.pap) (leaf:=s.leaf) (day:=s.day) (n:=(opnL l kn).P.length) (fun k i hi=>by rw [show (opnL l kn).P.length=l.rt.length from (opnK_len _ _ _ _ _).2];exact opnK_M _ _ _ _ _ _ _ hi)
 exact this
theorem opn_pos {l:Led} (h:ledB l=true) {kn:Int} (hd:dblR (opnL l kn).M (opnL l kn).P (cntR l kn)=none) (k:Nat):((opnL l kn).P.getD k (0,0)).1≤((opnL l kn).P.getD k (0,0)).2:=by
 rw [dbl_first h] at hd
 rw [opn_days,List.getD_eq_getElem?_getD]
 by_cases hk:k<l.rt.length
 ·rw [List.getElem?_map,List.getElem?_range hk]
  exact byR_pos hd k
 ·rw [List.getElem?_eq_none (by simp;omega)]
  exact Int.le_refl _
theorem two_sound {l:Led} {kn:Int} (hp:preE l [kn]=0) (h:setE l kn=0):doubleX l kn=([],28)∧clashX l kn=([],28)∧∀ bs,cdE l kn bs=28∧ccE l kn bs=28:=by
 have hl:=(pre_zero hp).1
 have hd:dblR (opnL l kn).M (opnL l kn).P (cntR l kn)=none:=by
  cases hd:dblR (opnL l kn).M (opnL l kn).P (cntR l kn) with
  | none=>rfl
  | some p=>rw [setE,hd] at h;cases h
 obtain ⟨P',hn⟩:∃ P',narL (opnL l kn).M (cntR l kn) (cntS l kn) (opnL l kn).P=some P':=by
  cases hn:narL (opnL l kn).M (cntR l kn) (cntS l kn) (opnL l kn).P with
  | some P'=>exact ⟨P',rfl⟩
  | none=>rw [setE,hd,hn] at h;cases h
 have hc:∀ S:List Sgt,S.Sublist (cntS l kn)→conB l kn S=false:=fun S hS=>by
  obtain ⟨Q,hq,-⟩:=narL_sub hS hn (Wd.refl _)
  rw [conB,hq];rfl
 refine ⟨by rw [doubleX,if_pos hp,hd],?_,fun bs=>⟨?_,?_⟩⟩
 ·rw [clashX,if_pos hp,hd]
  have h1:(cntS l kn).find? (fun s=>conB l kn [s])=none:=List.find?_eq_none.2 fun s hs=>by rw [hc [s] (List.singleton_sublist.2 hs)];simp
  rw [h1]
  cases h2:clash2 l kn (cntS l kn) with
  | none=>rfl
  | some p =>
    obtain ⟨x,y⟩:=p
    obtain ⟨a1,a2⟩:=clash2_of h2
    rw [hc _ a1] at a2
    cases a2
 ·unfold cdE
  rw [if_pos hp]
  rw [dblR_first] at hd
  match bs with
  | []=>rfl
  | [_]=>rfl
  | _ :: _ :: _ :: _=>rfl
  | [a,b] =>
    dsimp only
    by_cases hab:a<b
    ·rw [if_pos hab]
     cases hx:findR (cntR l kn) a with
     | none=>rfl
     | some x =>
       cases hy:findR (cntR l kn) b with
       | none=>rfl
       | some y =>
         obtain ⟨x1,rfl⟩:=findR_of hx
         obtain ⟨y1,rfl⟩:=findR_of hy
         dsimp only
         rw [firstP_no hd x y (sub2_of (cntR_rise hl kn) x1 y1 hab)]
         rfl
    ·rw [if_neg hab]
 ·rw [ccE,if_pos hp,hd]
  dsimp only
  split
  ·rw [ccL,hc _ (by rw [findS_grd];exact grd_sub _ _)]
   rfl
  ·rfl
theorem two_double {l:Led} {kn:Int} (hp:preE l [kn]=0) {p:Rcp × Rcp} (hd:dblR (opnL l kn).M (opnL l kn).P (cntR l kn)=some p):setE l kn=25∧doubleX l kn=([p.1.src,p.2.src],0)∧clashX l kn=([],25)∧cdE l kn [p.1.src,p.2.src]=0:=by
 have hl:=(pre_zero hp).1
 obtain ⟨x,y⟩:=p
 refine ⟨by rw [setE,hd],by rw [doubleX,if_pos hp,hd],by rw [clashX,if_pos hp,hd],?_⟩
 rw [dblR_first] at hd
 obtain ⟨h1,h2⟩:=firstP_of hd
 have hx:x∈cntR l kn:=h1.subset (by simp)
 have hy:y∈cntR l kn:=h1.subset (by simp)
 rw [cdE,if_pos hp]
 dsimp only
 rw [if_pos (pair_lt (cntR_rise hl kn) h1),cnt_self hl hx,cnt_self hl hy]
 dsimp only
 rw [if_pos h2]
theorem conB_nil (l:Led) (kn:Int):conB l kn []=false:=by rw [conB,narL];rfl
theorem two_clash {l:Led} {kn:Int} (hp:preE l [kn]=0) (hd:dblR (opnL l kn).M (opnL l kn).P (cntR l kn)=none) (h:¬ setE l kn=0):doubleX l kn=([],28)∧∃ b,clashX l kn=(b,0)∧(b.length=1∨b.length=2)∧ccE l kn b=0:=by
 have hl:=(pre_zero hp).1
 have hn:narL (opnL l kn).M (cntR l kn) (cntS l kn) (opnL l kn).P=none:=by
  cases hn:narL (opnL l kn).M (cntR l kn) (cntS l kn) (opnL l kn).P with
  | none=>rfl
  | some P'=>rw [setE,hd,hn] at h;exact absurd rfl h
 refine ⟨by rw [doubleX,if_pos hp,hd],?_⟩
 have hC:=cnt_rise hl kn
 rw [clashX,if_pos hp,hd]
 dsimp only
 cases h1:(cntS l kn).find? (fun s=>conB l kn [s]) with
 | some s =>
   have hs:=List.mem_of_find?_eq_some h1
   have hcs:conB l kn [s]=true:=by have:=List.find?_some h1;simpa using this
   refine ⟨[s.src],rfl,.inl rfl,?_⟩
   have hf:findS [s.src] (cntS l kn)=[s]:=find_eq hC rfl (fun t ht=>by rw [List.mem_singleton.1 ht];exact hs) (by simp)
   rw [ccE,if_pos hp,hd]
   dsimp only
   rw [hf,if_pos (by rfl),ccL,if_pos hcs]
   have:(List.range [s].length).any (fun i=>conB l kn ([s].eraseIdx i))=false:=by
    simp [List.range_succ,conB_nil]
   rw [this]
   rfl
 | none =>
   have hno:∀ s∈cntS l kn,conB l kn [s]=false:=fun s hs=>by have:=List.find?_eq_none.1 h1 s hs;simpa using this
   have hE:Ends (opnL l kn).M (cntR l kn) (opnL l kn).P (opnL l kn).P []:=⟨rfl,fun k=>⟨opn_pos hl hd k,.inl rfl,.inl rfl⟩⟩
   rcases two_step (sg_range hl kn) (opn_pos hl hd) (cntS l kn) [] _ hE hn with ⟨s,hs,hs2⟩ | ⟨x,y,hs,hs2⟩
   ·have:=hno s hs
    rw [conB,hs2] at this
    cases this
   ·have hc2:conB l kn [x,y]=true:=by rw [conB,hs2];rfl
    cases h2:clash2 l kn (cntS l kn) with
    | none =>
      rw [clash2_no h2 x y hs] at hc2
      cases hc2
    | some p =>
      obtain ⟨x,y⟩:=p
      obtain ⟨a1,a2⟩:=clash2_of h2
      have hx:x∈cntS l kn:=a1.subset (by simp)
      have hy:y∈cntS l kn:=a1.subset (by simp)
      refine ⟨[x.src,y.src],rfl,.inr rfl,?_⟩
      have hf:findS [x.src,y.src] (cntS l kn)=[x,y]:=find_eq hC rfl (fun t ht=>by
       rcases List.mem_cons.1 ht with rfl | ht
       ·exact hx
       ·rw [List.mem_singleton.1 ht];exact hy) (by have:=pair_lt (cntS_rise hl kn) a1;simpa using this)
      rw [ccE,if_pos hp,hd]
      dsimp only
      rw [hf,if_pos (by rfl),ccL,if_pos a2]
      have:(List.range [x,y].length).any (fun i=>conB l kn ([x,y].eraseIdx i))=false:=by
       simp [List.range_succ,hno x hx,hno y hy]
      rw [this]
      rfl
theorem pre_okM {l:Led} {ds:List Int} (h1:ledB l=true) (h2:daysOk ds=true):preE l ds=0:=by simp [preE,h1,h2,orL,errI]
theorem RawIn.now {w w':World} {x:Rsl} {r:RawL} (h:RawIn w x r) (hb:Below w.heap.size w w'):RawIn w' x r :=
 ⟨(Rd.ext h.a hb lr_).more hb.size,(Rd.ext h.b hb lr_).more hb.size,(Rd.ext h.c hb lr_).more hb.size⟩
set_option maxRecDepth 100000 in
set_option maxHeartbeats 8000000 in
theorem w_LoanTwo (x:Rsl) (r:RawL) (k0:Int) (bs:List Int) (D:Option Addr) (m c:Nat) (w:World) (hf:x.fit) (hd:RawIn w x r) (hm:m≤9223372036854775807) (hby:Is w w.heap.size D m bs) :
 Calls Tryz.prog 5 #[.agg #[.slice x.aA x.an x.ac,.slice x.bA x.bn x.bc,.slice x.cA x.cn x.cc],.int .i64 k0,.slice D m c] w fun e w'=>e=.returned (.bool true)∧Below w.heap.size w w':=by
 obtain ⟨aA,an,ac,bA,bn,bc,cA,cn,cc⟩:=x
 have HF:=hd_ hf
 have HD:=hd_ hd
 have HBY:=hd_ hby
 clear hf hd hby
 obtain ⟨kn,hkn,hkb⟩:=mod_nat k0 (m:=300) (by decide)
 have HKN:=hd_ hkn
 clear hkn
 go_enter Tryz.func5,Tryz.ntmps5
 go_wp2_with fail
 refine (r_Made ⟨aA,an,ac,bA,bn,bc,cA,cn,cc⟩ r _ HF.out (HD.out.now (by exact bel_))).mono ?_
 rintro e w1 ⟨y,l,days,DD,dc,d,rfl,hb1,hfy,hl,hM,-,-,-⟩
 obtain ⟨pA,pn,pc,rA,rn,rc,tA,tn,tc,sA,sn,sc⟩:=y
 have HB1:Below w.heap.size w w1:=Below.then_ (by exact bel_) hb1
 have HLD:=hd_ hl
 have HFY:=hd_ hfy
 have hp:preE l [(kn:Int)]=0:=pre_okM hM.led (by simp [daysOk,withinB];omega)
 have HP:=hd_ hp
 clear hl hfy hb1 hM hp
 go_upto_region 3 with ((go_at_call 11;refine (r_Mod_v k0 300 kn _ (by decide) (by decide) HKN.out).mono ?_;rintro e w6 ⟨rfl,rfl⟩))
 refine wp_named2 fun f2 W2 hf2 hW2=>?_
 have bL2:BoxA W2 w1.heap.size 32 #[.slice pA pn pc,.slice rA rn rc,.slice tA tn tc,.slice sA sn sc]:=by rw [← hW2];exact BoxA.new _ _ _
 have h12:Below w1.heap.size w1 W2:=by rw [← hW2];exact bel_
 have HB2:Below w.heap.size w W2:=Below.then_ HB1 h12
 have HL2:=hd_ (HLD.out.now h12)
 have kL2:=bL2.cell
 have zL2:=bL2.lt
 have hs2:=HB2.size
 clear hW2 HLD h12
 subst hf2
 by_cases hse:setE l kn=0
 ·obtain ⟨t1,t2,t3⟩:=two_sound HP.out hse
  have HSX:Hid (soundX l kn=(true,0)):=by show _=_;rw [soundX,if_pos HP.out,hse];rfl
  have HDX:=hd_ t1
  have HCX:=hd_ t2
  have HT3:=hd_ t3
  clear t1 t2 t3 hse
  go_wp2_with fail
  refine (p_Sound_v l ⟨pA,pn,pc,rA,rn,rc,tA,tn,tc,sA,sn,sc⟩ kn true 0 _ HFY.out (HL2.out.now (by exact bel_)) HSX.out).mono ?_
  rintro e W3 ⟨rfl,hb3⟩
  have HB3:Below w.heap.size w W3:=Below.then_ HB2 hb3
  have hs3:=HB3.size
  have HL3:=hd_ (HL2.out.now hb3)
  have bL3:=bL2.ext hb3
  clear kL2 zL2 bL2 HL2
  have kL3:=bL3.cell
  have zL3:=bL3.lt
  clear hb3
  go_wp2_with fail
  refine (p_Double_v l ⟨pA,pn,pc,rA,rn,rc,tA,tn,tc,sA,sn,sc⟩ kn ([]) 28 _ HFY.out (HL3.out.now (by exact bel_)) HDX.out).mono ?_
  rintro e W4 ⟨A4,n4,c4,rfl,hb4,hi4,-⟩
  have HB4:Below w.heap.size w W4:=Below.then_ HB3 hb4
  have hs4:=HB4.size
  have HL4:=hd_ (HL3.out.now hb4)
  have bL4:=bL3.ext hb4
  clear kL3 zL3 bL3 HL3
  have kL4:=bL4.cell
  have zL4:=bL4.lt
  clear hi4
  clear hb4
  go_wp2_with fail
  refine (p_Clash_v l ⟨pA,pn,pc,rA,rn,rc,tA,tn,tc,sA,sn,sc⟩ kn ([]) 28 _ HFY.out (HL4.out.now (by exact bel_)) HCX.out).mono ?_
  rintro e W5 ⟨A5,n5,c5,rfl,hb5,hi5,-⟩
  have HB5:Below w.heap.size w W5:=Below.then_ HB4 hb5
  have hs5:=HB5.size
  have HL5:=hd_ (HL4.out.now hb5)
  have bL5:=bL4.ext hb5
  clear kL4 zL4 bL4 HL4
  have kL5:=bL5.cell
  have zL5:=bL5.lt
  clear hi5
  clear hb5
  go_wp2_with fail
  refine (p_CheckDouble_v l ⟨pA,pn,pc,rA,rn,rc,tA,tn,tc,sA,sn,sc⟩ kn bs D m c 28 _ HFY.out (HL5.out.now (by exact bel_)) hm (HBY.out.now (by exact bel_)) (HT3.out bs).1).mono ?_
  rintro e W6 ⟨rfl,hb6⟩
  have HB6:Below w.heap.size w W6:=Below.then_ HB5 hb6
  have hs6:=HB6.size
  have HL6:=hd_ (HL5.out.now hb6)
  have bL6:=bL5.ext hb6
  clear kL5 zL5 bL5 HL5
  have kL6:=bL6.cell
  have zL6:=bL6.lt
  clear hb6
  go_wp2_with fail
  refine (p_CheckClash_v l ⟨pA,pn,pc,rA,rn,rc,tA,tn,tc,sA,sn,sc⟩ kn bs D m c 28 _ HFY.out (HL6.out.now (by exact bel_)) hm (HBY.out.now (by exact bel_)) (HT3.out bs).2).mono ?_
  rintro e W7 ⟨rfl,hb7⟩
  have HB7:Below w.heap.size w W7:=Below.then_ HB6 hb7
  have hs7:=HB7.size
  have HL7:=hd_ (HL6.out.now hb7)
  have bL7:=bL6.ext hb7
  clear kL6 zL6 bL6 HL6
  have kL7:=bL7.cell
  have zL7:=bL7.lt
  clear hb7
  go_wp2_with fail
  refine (r_sane2 _).mono ?_
  rintro e w9 ⟨rfl,hb9⟩
  have HB9:=Below.then_ HB7 hb9
  go_wp2_with fail
  go_ret
  exact ⟨rfl,HB9⟩
 ·cases hdb:dblR (opnL l kn).M (opnL l kn).P (cntR l kn) with
  | some p =>
    obtain ⟨t0,t1,t2,t3⟩:=two_double HP.out hdb
    have HSX:Hid (soundX l kn=(false,0)):=by show _=_;rw [soundX,if_pos HP.out,t0];rfl
    have HDX:=hd_ t1
    have HCX:=hd_ t2
    have HT3:=hd_ t3
    clear t0 t1 t2 t3 hse hdb
    go_wp2_with fail
    refine (p_Sound_v l ⟨pA,pn,pc,rA,rn,rc,tA,tn,tc,sA,sn,sc⟩ kn false 0 _ HFY.out (HL2.out.now (by exact bel_)) HSX.out).mono ?_
    rintro e W3 ⟨rfl,hb3⟩
    have HB3:Below w.heap.size w W3:=Below.then_ HB2 hb3
    have hs3:=HB3.size
    have HL3:=hd_ (HL2.out.now hb3)
    have bL3:=bL2.ext hb3
    clear kL2 zL2 bL2 HL2
    have kL3:=bL3.cell
    have zL3:=bL3.lt
    clear hb3
    go_wp2_with fail
    refine (p_Double_v l ⟨pA,pn,pc,rA,rn,rc,tA,tn,tc,sA,sn,sc⟩ kn ([p.1.src,p.2.src]) 0 _ HFY.out (HL3.out.now (by exact bel_)) HDX.out).mono ?_
    rintro e W4 ⟨A4,n4,c4,rfl,hb4,hi4,-⟩
    have HB4:Below w.heap.size w W4:=Below.then_ HB3 hb4
    have hs4:=HB4.size
    have HL4:=hd_ (HL3.out.now hb4)
    have bL4:=bL3.ext hb4
    clear kL3 zL3 bL3 HL3
    have kL4:=bL4.cell
    have zL4:=bL4.lt
    have HI4:Hid (Is W4 W4.heap.size A4 n4 ([p.1.src,p.2.src])):=by show Is _ _ _ _ _;exact hi4
    have hn4:=hi4.len
    clear hi4
    clear hb4
    go_wp2_with fail
    refine (p_Clash_v l ⟨pA,pn,pc,rA,rn,rc,tA,tn,tc,sA,sn,sc⟩ kn ([]) 25 _ HFY.out (HL4.out.now (by exact bel_)) HCX.out).mono ?_
    rintro e W5 ⟨A5,n5,c5,rfl,hb5,hi5,-⟩
    have HB5:Below w.heap.size w W5:=Below.then_ HB4 hb5
    have hs5:=HB5.size
    have HL5:=hd_ (HL4.out.now hb5)
    have bL5:=bL4.ext hb5
    clear kL4 zL4 bL4 HL4
    have kL5:=bL5.cell
    have zL5:=bL5.lt
    have HI4:=hd_ (HI4.out.now hb5)
    clear hi5
    clear hb5
    obtain rfl:2=n4:=by simpa using hn4
    go_wp2_with fail
    refine (p_CheckDouble_v l ⟨pA,pn,pc,rA,rn,rc,tA,tn,tc,sA,sn,sc⟩ kn [p.1.src,p.2.src] A4 2 c4 0 _ HFY.out (HL5.out.now (by exact bel_)) (by decide) (HI4.out.now (by exact bel_)) HT3.out).mono ?_
    rintro e W6 ⟨rfl,hb6⟩
    have HB6:Below w.heap.size w W6:=Below.then_ HB5 hb6
    have hs6:=HB6.size
    have HL6:=hd_ (HL5.out.now hb6)
    have bL6:=bL5.ext hb6
    clear kL5 zL5 bL5 HL5
    have kL6:=bL6.cell
    have zL6:=bL6.lt
    clear hb6
    go_wp2_with fail
    refine (r_sane2 _).mono ?_
    rintro e w9 ⟨rfl,hb9⟩
    have HB9:=Below.then_ HB6 hb9
    go_wp2_with fail
    go_ret
    exact ⟨rfl,HB9⟩
  | none =>
    obtain ⟨t1,b,t2,t3,t4⟩:=two_clash HP.out hdb hse
    have HSX:Hid (soundX l kn=(false,0)):=by show _=_;rw [soundX,if_pos HP.out];simp [hse]
    have HDX:=hd_ t1
    have HCX:=hd_ t2
    have HT4:=hd_ t4
    clear t1 t2 t4 hse hdb
    go_wp2_with fail
    refine (p_Sound_v l ⟨pA,pn,pc,rA,rn,rc,tA,tn,tc,sA,sn,sc⟩ kn false 0 _ HFY.out (HL2.out.now (by exact bel_)) HSX.out).mono ?_
    rintro e W3 ⟨rfl,hb3⟩
    have HB3:Below w.heap.size w W3:=Below.then_ HB2 hb3
    have hs3:=HB3.size
    have HL3:=hd_ (HL2.out.now hb3)
    have bL3:=bL2.ext hb3
    clear kL2 zL2 bL2 HL2
    have kL3:=bL3.cell
    have zL3:=bL3.lt
    clear hb3
    go_wp2_with fail
    refine (p_Double_v l ⟨pA,pn,pc,rA,rn,rc,tA,tn,tc,sA,sn,sc⟩ kn ([]) 28 _ HFY.out (HL3.out.now (by exact bel_)) HDX.out).mono ?_
    rintro e W4 ⟨A4,n4,c4,rfl,hb4,hi4,-⟩
    have HB4:Below w.heap.size w W4:=Below.then_ HB3 hb4
    have hs4:=HB4.size
    have HL4:=hd_ (HL3.out.now hb4)
    have bL4:=bL3.ext hb4
    clear kL3 zL3 bL3 HL3
    have kL4:=bL4.cell
    have zL4:=bL4.lt
    clear hi4
    clear hb4
    go_wp2_with fail
    refine (p_Clash_v l ⟨pA,pn,pc,rA,rn,rc,tA,tn,tc,sA,sn,sc⟩ kn (b) 0 _ HFY.out (HL4.out.now (by exact bel_)) HCX.out).mono ?_
    rintro e W5 ⟨A5,n5,c5,rfl,hb5,hi5,-⟩
    have HB5:Below w.heap.size w W5:=Below.then_ HB4 hb5
    have hs5:=HB5.size
    have HL5:=hd_ (HL4.out.now hb5)
    have bL5:=bL4.ext hb5
    clear kL4 zL4 bL4 HL4
    have kL5:=bL5.cell
    have zL5:=bL5.lt
    have HI5:Hid (Is W5 W5.heap.size A5 n5 (b)):=by show Is _ _ _ _ _;exact hi5
    have hn5:=hi5.len
    clear hi5
    clear hb5
    obtain rfl:b.length=n5:=hn5
    rcases t3 with t3 | t3
    ·rw [t3] at HI5 ⊢
     go_wp2_with fail
     refine (p_CheckClash_v l ⟨pA,pn,pc,rA,rn,rc,tA,tn,tc,sA,sn,sc⟩ kn b A5 1 c5 0 _ HFY.out (HL5.out.now (by exact bel_)) (by decide) (HI5.out.now (by exact bel_)) HT4.out).mono ?_
     rintro e W6 ⟨rfl,hb6⟩
     have HB6:Below w.heap.size w W6:=Below.then_ HB5 hb6
     have hs6:=HB6.size
     have HL6:=hd_ (HL5.out.now hb6)
     have bL6:=bL5.ext hb6
     clear kL5 zL5 bL5 HL5
     have kL6:=bL6.cell
     have zL6:=bL6.lt
     clear hb6
     go_wp2_with fail
     refine (r_sane2 _).mono ?_
     rintro e w9 ⟨rfl,hb9⟩
     have HB9:=Below.then_ HB6 hb9
     go_wp2_with fail
     go_ret
     exact ⟨rfl,HB9⟩
    ·rw [t3] at HI5 ⊢
     go_wp2_with fail
     refine (p_CheckClash_v l ⟨pA,pn,pc,rA,rn,rc,tA,tn,tc,sA,sn,sc⟩ kn b A5 2 c5 0 _ HFY.out (HL5.out.now (by exact bel_)) (by decide) (HI5.out.now (by exact bel_)) HT4.out).mono ?_
     rintro e W6 ⟨rfl,hb6⟩
     have HB6:Below w.heap.size w W6:=Below.then_ HB5 hb6
     have hs6:=HB6.size
     have HL6:=hd_ (HL5.out.now hb6)
     have bL6:=bL5.ext hb6
     clear kL5 zL5 bL5 HL5
     have kL6:=bL6.cell
     have zL6:=bL6.lt
     clear hb6
     go_wp2_with fail
     refine (r_sane2 _).mono ?_
     rintro e w9 ⟨rfl,hb9⟩
     have HB9:=Below.then_ HB6 hb9
     go_wp2_with fail
     go_ret
     exact ⟨rfl,HB9⟩
end Go.Proofs.YtmcmbicapdcfmaaGreat
namespace Go.Proofs.YtmcmbicapdcfmaaGreat
open Go.ChangeShapes Go.WideShapes Go.ChangeAt Go.RowKit Go.Deep Go.Joins Go.Maps

theorem c5_arr : Tryz.prog.cellsOf 68 = 5 := by kernel_rfl
theorem c7_arr : Tryz.prog.cellsOf 129 = 7 := by kernel_rfl
theorem c1_r5 : Tryz.prog.cellsOf 22 = 1 := by kernel_rfl
theorem c1_r7 : Tryz.prog.cellsOf 23 = 1 := by kernel_rfl
theorem c3_raw : Tryz.prog.cellsOf 25 = 3 := by kernel_rfl
theorem lenx3 {α : Type} : ∀ {l : List α}, l.length = 3 → ∃ a b c, l = [a, b, c]
  | [a, b, c], _ => ⟨a, b, c, rfl⟩
theorem okWide_arr2 {P : Program} {w : World} {r : Reach} {b0 : Nat} {v : Value} {t e : TypeId} {n : Nat} (ht : P.underlying t = some (.array n e)) (h : Value.okWide P w r b0 t v) : ∃ cs, v = .agg cs := by
  simp only [Value.okWide, ht] at h
  obtain ⟨cs, h1, _⟩ := h
  exact ⟨cs, h1⟩
theorem lenx5 {α : Type} : ∀ {l : List α}, l.length = 5 → ∃ a0 a1 a2 a3 a4, l = [a0, a1, a2, a3, a4]
  | [a0, a1, a2, a3, a4], _ => ⟨a0, a1, a2, a3, a4, rfl⟩
section
variable {H : Type} {enc : TypeId × Value → H} {w : World} {base : Nat} {spare : Nat → Bool} {held : Bool} {r : Reach} {b0 : Nat} {v : Value} {d : DataW H} {p : List MemPlace} {fuel : Nat} {cs : List Value} {x : DataW H × List MemPlace}
theorem arr5_of (h : DataW.trod enc Tryz.prog w base spare held fuel 68 cs = some x) : ∃ l : List Int, l.length = 5 ∧ cs = intL l := by
  obtain ⟨xs, n, _, _, hl, hx, hf⟩ := DataW.trod_array Tryz.underlying68 h
  rw [c5_arr] at hl
  obtain ⟨y0, e0⟩ := some_at hx (i := 0) (by decide)
  obtain ⟨y1, e1⟩ := some_at hx (i := 1) (by decide)
  obtain ⟨y2, e2⟩ := some_at hx (i := 2) (by decide)
  obtain ⟨y3, e3⟩ := some_at hx (i := 3) (by decide)
  obtain ⟨y4, e4⟩ := some_at hx (i := 4) (by decide)
  obtain ⟨c0, c1, c2, c3, c4, rfl⟩ := lenx5 hl
  obtain ⟨a0, h0⟩ := int_of ((hf 0 (by decide)).trans e0)
  obtain ⟨a1, h1⟩ := int_of ((hf 1 (by decide)).trans e1)
  obtain ⟨a2, h2⟩ := int_of ((hf 2 (by decide)).trans e2)
  obtain ⟨a3, h3⟩ := int_of ((hf 3 (by decide)).trans e3)
  obtain ⟨a4, h4⟩ := int_of ((hf 4 (by decide)).trans e4)
  simp [c1_int] at h0 h1 h2 h3 h4
  exact ⟨[a0, a1, a2, a3, a4], rfl, by simp [intL, h0, h1, h2, h3, h4]⟩
theorem arr7_of (h : DataW.trod enc Tryz.prog w base spare held fuel 129 cs = some x) : ∃ l : List Int, l.length = 7 ∧ cs = intL l := by
  obtain ⟨xs, n, _, _, hl, hx, hf⟩ := DataW.trod_array Tryz.underlying129 h
  rw [c7_arr] at hl
  obtain ⟨y0, e0⟩ := some_at hx (i := 0) (by decide)
  obtain ⟨y1, e1⟩ := some_at hx (i := 1) (by decide)
  obtain ⟨y2, e2⟩ := some_at hx (i := 2) (by decide)
  obtain ⟨y3, e3⟩ := some_at hx (i := 3) (by decide)
  obtain ⟨y4, e4⟩ := some_at hx (i := 4) (by decide)
  obtain ⟨y5, e5⟩ := some_at hx (i := 5) (by decide)
  obtain ⟨y6, e6⟩ := some_at hx (i := 6) (by decide)
  obtain ⟨c0, c1, c2, c3, c4, c5, c6, rfl⟩ := lenx7 hl
  obtain ⟨a0, h0⟩ := int_of ((hf 0 (by decide)).trans e0)
  obtain ⟨a1, h1⟩ := int_of ((hf 1 (by decide)).trans e1)
  obtain ⟨a2, h2⟩ := int_of ((hf 2 (by decide)).trans e2)
  obtain ⟨a3, h3⟩ := int_of ((hf 3 (by decide)).trans e3)
  obtain ⟨a4, h4⟩ := int_of ((hf 4 (by decide)).trans e4)
  obtain ⟨a5, h5⟩ := int_of ((hf 5 (by decide)).trans e5)
  obtain ⟨a6, h6⟩ := int_of ((hf 6 (by decide)).trans e6)
  simp [c1_int] at h0 h1 h2 h3 h4 h5 h6
  exact ⟨[a0, a1, a2, a3, a4, a5, a6], rfl, by simp [intL, h0, h1, h2, h3, h4, h5, h6]⟩
theorem flat_int {s : Nat} (l : List { l : List Int // l.length = s }) : l.flatMap (fun v => intL v.1) = intL (l.flatMap Subtype.val) := by
  induction l with
  | nil => rfl
  | cons a l ih => rw [List.flatMap_cons, ih, List.flatMap_cons]; simp [intL]
theorem r5_of {A : Option Addr} {n c : Nat} (h : DataW.trod enc Tryz.prog w base spare held fuel 22 (Value.slice A n c).cells.toList = some x) : n ≤ c ∧ c ≤ maxLen ∧ ∃ l : List Int, Rd w w.heap.size 5 A n (intL l) := by
  obtain ⟨h1, h2, l, _, h3⟩ := row_of (α := { l : List Int // l.length = 5 }) (fun v => intL v.1) (fun v => by simp [intL, v.2]) (by decide) Tryz.underlying22 c5_arr (fun _ _ _ h => by obtain ⟨v, e, hv⟩ := arr5_of h; exact ⟨⟨v, e⟩, hv⟩) h
  rw [flat_int] at h3
  exact ⟨h1, h2, _, h3⟩
theorem r7_of {A : Option Addr} {n c : Nat} (h : DataW.trod enc Tryz.prog w base spare held fuel 23 (Value.slice A n c).cells.toList = some x) : n ≤ c ∧ c ≤ maxLen ∧ ∃ l : List Int, Rd w w.heap.size 7 A n (intL l) := by
  obtain ⟨h1, h2, l, _, h3⟩ := row_of (α := { l : List Int // l.length = 7 }) (fun v => intL v.1) (fun v => by simp [intL, v.2]) (by decide) Tryz.underlying23 c7_arr (fun _ _ _ h => by obtain ⟨v, e, hv⟩ := arr7_of h; exact ⟨⟨v, e⟩, hv⟩) h
  rw [flat_int] at h3
  exact ⟨h1, h2, _, h3⟩
set_option maxRecDepth 100000 in
theorem raw_of (hv : Value.okWide Tryz.prog w r b0 25 v) (h : DataW.Trod enc Tryz.prog w base spare held 25 v d p) : ∃ (y : Rsl) (l : RawL), v = .agg #[.slice y.aA y.an y.ac, .slice y.bA y.bn y.bc, .slice y.cA y.cn y.cc] ∧ y.fit ∧ RawIn w y l := by
  obtain ⟨cs, rfl, _⟩ := okWide_struct Tryz.underlying25 hv
  obtain ⟨fuel, hf0⟩ := h
  simp only [Value.cells] at hf0
  obtain ⟨xs, n, _, _, hl, hx, hf⟩ := DataW.trod_struct Tryz.underlying25 hf0
  rw [c3_raw] at hl
  obtain ⟨y0, e0⟩ := some_at hx (i := 0) (by decide)
  obtain ⟨y1, e1⟩ := some_at hx (i := 1) (by decide)
  obtain ⟨y2, e2⟩ := some_at hx (i := 2) (by decide)
  obtain ⟨c0, c1, c2, hcs⟩ := lenx3 hl
  rw [hcs] at hf
  have t0 := (hf 0 _ rfl).trans e0
  have t1 := (hf 1 _ rfl).trans e1
  have t2 := (hf 2 _ rfl).trans e2
  obtain ⟨A0, n0, q0, h0⟩ := slice_cell Tryz.underlying22 t0
  obtain ⟨A1, n1, q1, h1⟩ := slice_cell Tryz.underlying23 t1
  obtain ⟨A2, n2, q2, h2⟩ := slice_cell Tryz.underlying22 t2
  rw [h0] at t0
  rw [h1] at t1
  rw [h2] at t2
  obtain ⟨f0, g0, l0, k0⟩ := r5_of t0
  obtain ⟨f1, g1, l1, k1⟩ := r7_of t1
  obtain ⟨f2, g2, l2, k2⟩ := r5_of t2
  simp [c1_r5, c1_r7, Value.cells] at h0 h1 h2
  refine ⟨⟨A0, n0, q0, A1, n1, q1, A2, n2, q2⟩, ⟨l0, l1, l2⟩, ?_, ⟨⟨f0, g0⟩, ⟨f1, g1⟩, ⟨f2, g2⟩⟩, ⟨k0, k1, k2⟩⟩
  congr 1
  apply Array.toList_inj.1
  rw [hcs]
  simp [h0, h1, h2]
theorem c4_four : Tryz.prog.cellsOf 56 = 4 := by kernel_rfl
set_option maxRecDepth 100000 in
theorem four_of (hv : Value.okWide Tryz.prog w r b0 56 v) (h : DataW.Trod enc Tryz.prog w base spare held 56 v d p) : ∃ a b c e : Int, v = .agg #[.int .i64 a, .int .i64 b, .int .i64 c, .int .i64 e] := by
  obtain ⟨cs, rfl⟩ := okWide_arr2 Tryz.underlying56 hv
  obtain ⟨fuel, hf0⟩ := h
  simp only [Value.cells] at hf0
  obtain ⟨xs, n, _, _, hl, hx, hf⟩ := DataW.trod_array Tryz.underlying56 hf0
  rw [c4_four] at hl
  obtain ⟨y0, e0⟩ := some_at hx (i := 0) (by decide)
  obtain ⟨y1, e1⟩ := some_at hx (i := 1) (by decide)
  obtain ⟨y2, e2⟩ := some_at hx (i := 2) (by decide)
  obtain ⟨y3, e3⟩ := some_at hx (i := 3) (by decide)
  obtain ⟨c0, c1, c2, c3, hcs⟩ := lenx4 hl
  rw [hcs] at hf
  obtain ⟨a0, h0⟩ := int_of ((hf 0 (by decide)).trans e0)
  obtain ⟨a1, h1⟩ := int_of ((hf 1 (by decide)).trans e1)
  obtain ⟨a2, h2⟩ := int_of ((hf 2 (by decide)).trans e2)
  obtain ⟨a3, h3⟩ := int_of ((hf 3 (by decide)).trans e3)
  simp [c1_int] at h0 h1 h2 h3
  refine ⟨a0, a1, a2, a3, ?_⟩
  congr 1
  apply Array.toList_inj.1
  rw [hcs]
  simp [h0, h1, h2, h3]
end

end Go.Proofs.YtmcmbicapdcfmaaGreat
namespace Go.Proofs.YtmcmbicapdcfmaaGreat.RowLoanTwo
open Go.ChangeShapes Go.WideShapes Go.ChangeAt Go.RowKit
open Go.Proofs.YtmcmbicapdcfmaaGreat

set_option maxRecDepth 100000 in
theorem lifted (os : Os) (started : os.Started) (H : Type) (enc : TypeId × Value → H) :
    ReturnsInHanded {} Tryz.checked os 5 .any (Rows.loanTwoSpec.pre6 enc Tryz.prog Tryz.f5 Rows.loanTwoRow.domain false) (Rows.loanTwoSpec.post enc Tryz.prog Tryz.f5 false true false false) := by
  refine returnsInHanded_of_change (C := Tryz.checked) own started (by kernel_rfl) Tryz.func5
    (ChangeSpec.witness6 (enc := enc) (C := Tryz.checked) false ⟨#[], #[.agg #[.slice none 0 0, .slice none 0 0, .slice none 0 0], .int .i64 0, .slice none 0 0], []⟩ 8 (by kernel_rfl) (by kernel_rfl) (by kernel_rfl) (by kernel_rfl)) ?_
  intro W base args ds gs before hval0 hW hcnd _
  have hval : ∀ (j : Nat) t v, Tryz.f5.params[j]? = some t → args[j]? = some v → Value.okWide Tryz.prog W .any base t v := hval0
  have hW' := hW
  obtain ⟨p, q, hA0, hV, rfl, hfz, hnd⟩ := hW
  have hA : DataW.TrodAll enc Tryz.prog W 0 (fun _ => true) true Tryz.f5.params.toList args.toList ds p := hA0
  rw [Tryz.params5] at hA hval
  obtain ⟨v0, vs0, d0, ds0, p0, q0, hargs, rfl, rfl, h0, r0⟩ := trodAll_cons hA
  obtain ⟨v1, vs1, d1, ds1, p1, q1, rfl, rfl, rfl, h1, r1⟩ := trodAll_cons r0
  obtain ⟨v2, vs2, d2, ds2, p2, q2, rfl, rfl, rfl, h2, r2⟩ := trodAll_cons r1
  obtain ⟨rfl, rfl, rfl⟩ := trodAll_nil r2
  obtain rfl : args = #[v0, v1, v2] := by cases args; simp_all
  obtain ⟨rfl, rfl⟩ := trodVars_none hV
  have k0 := h0
  have lt0 : ∀ x ∈ p0, x.block < W.heap.size := by obtain ⟨m, hm⟩ := k0; exact DataW.trod_lt m _ _ _ hm
  obtain ⟨y0, l0, rfl, f0, w0⟩ := raw_of (hval 0 25 v0 rfl rfl) h0
  have k1 := h1
  have lt1 : ∀ x ∈ p1, x.block < W.heap.size := by obtain ⟨m, hm⟩ := k1; exact DataW.trod_lt m _ _ _ hm
  obtain ⟨a1, rfl⟩ : ∃ a, v1 = .int .i64 a := by obtain ⟨x, e, _⟩ := open_int Tryz.underlying3 (hval 1 3 v1 rfl rfl) h1; exact ⟨x, e⟩
  obtain ⟨a2, len2, cap2, rfl⟩ := okWide_slice Tryz.underlying33 (hval 2 33 v2 rfl rfl)
  have k2 := h2
  have lt2 : ∀ x ∈ p2, x.block < W.heap.size := by obtain ⟨m, hm⟩ := k2; exact DataW.trod_lt m _ _ _ hm
  obtain ⟨g2, m2, z2, w2⟩ : len2 ≤ cap2 ∧ cap2 ≤ maxLen ∧ ∃ l, Is W W.heap.size a2 len2 l := by obtain ⟨fuel, hf⟩ := h2; exact ints_of hf
  clear hA0 hval0
  unfold maxLen at m2
  refine (w_LoanTwo y0 l0 a1 z2 a2 len2 cap2 W f0 w0 (by omega) w2).mono fun e W' ⟨he, bel⟩ => ?_
  subst he
  exact ⟨_, rfl, _, _, _, [], _, [], hW', trodAll_mk1 (shut_bool Tryz.underlying4 _), (trodAll_cons_mk (Below.trod laidOut (by kernel_rfl) (of_decide_eq_true (by kernel_rfl)) k0 bel lt0) (trodAll_cons_mk (Below.trod laidOut (by kernel_rfl) (of_decide_eq_true (by kernel_rfl)) k1 bel lt1) (trodAll_cons_mk (Below.trod laidOut (by kernel_rfl) (of_decide_eq_true (by kernel_rfl)) k2 bel lt2) trodAll_mk0))), rfl, bel.frame _, fun h => by cases h⟩

theorem over : Rows.loanTwoRow.holds Tryz.pinned (OpenSpec.ofChange Rows.loanTwoSpec) :=
  OpenClaim.holds_of_wide 5 Tryz.f5 rfl rfl rfl rfl rfl rfl rfl ⟨rfl, rfl, rfl, rfl, rfl⟩ rfl rfl rfl rfl rfl (by kernel_rfl) Tryz.func5 (by kernel_rfl)
    (of_decide_eq_true (by kernel_rfl)) (by unfold Func.isWrapper; first | (rw [if_pos (by decide +kernel)]; kernel_rfl) | (rw [if_neg (by decide +kernel)]; exact ⟨rfl, rfl⟩))
    (fun os started H enc _ => lifted os started H enc)

theorem proved : Rows.LoanTwoSaid := over
end Go.Proofs.YtmcmbicapdcfmaaGreat.RowLoanTwo

namespace Go.Proofs.YtmcmbicapdcfmaaGreat
theorem loanTwo_holds : Rows.LoanTwoSaid := RowLoanTwo.proved
end Go.Proofs.YtmcmbicapdcfmaaGreat
