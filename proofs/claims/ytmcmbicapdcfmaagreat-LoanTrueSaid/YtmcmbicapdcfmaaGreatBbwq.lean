/- Layer 2 of the texts that LoanBack takes: Bbwq. -/
import Derived.Test.YtmcmbicapdcfmaaGreatBbuq
set_option linter.unusedVariables false
set_option linter.unusedSimpArgs false
set_option maxHeartbeats 16000000
namespace Go.Proofs.YtmcmbicapdcfmaaGreat
open Go.RowKit Go.Maps
def Gt1 (l:Led) (t:Rtn) (y:Int):Prop:=∃ (j:Nat) (r:Rcp),j<8∧RtMk l.rc j t y∧r∈l.rc∧t.rcp=r.src∧r.day<y
def Gt2 (l:Led) (t:Rtn) (y:Int):Prop:=∃ (j:Nat) (r:Rcp),j<8∧RtMk l.rc j t y∧r∈l.rc∧t.rcp=r.src∧r.day<y∧∀ x∈t.lv,x∈r.lv
def Pd (G:Rtn→Int→Prop) (TV:List Tv) (DL:List Int):Prop:=DL.length=TV.length∧∀ (j:Nat) z,TV[j]?=some z→∃ y,DL[j]?=some y∧G z.r y
theorem Pd.nil (G:Rtn→Int→Prop):Pd G [] []:=⟨rfl,fun j z h=>by simp at h⟩
theorem Pd.snoc {G:Rtn→Int→Prop} {TV:List Tv} {DL:List Int} (h:Pd G TV DL) {z:Tv} {y:Int} (hz:G z.r y):Pd G (TV ++ [z]) (DL ++ [y]):=by
 refine ⟨by simp [h.1],fun j x hx=>?_⟩
 rcases snoc_at hx with hx | ⟨rfl,rfl⟩
 ·obtain ⟨u,hu,hg⟩:=h.2 j x hx
  exact ⟨u,by rw [List.getElem?_append_left (List.getElem?_eq_some_iff.1 hu).1];exact hu,hg⟩
 ·exact ⟨y,by rw [← h.1];simp,hz⟩
theorem sub_snoc {α:Type} {s l:List α} {k:Nat} {x:α} (h:s.Sublist (l.take k)) (hx:l[k]?=some x):(s ++ [x]).Sublist (l.take (k+1)):=by
 rw [take_snoc_some hx]
 exact h.append (List.Sublist.refl _)
theorem sub_skip {α:Type} {s l:List α} {k:Nat} {x:α} (h:s.Sublist (l.take k)) (hx:l[k]?=some x):s.Sublist (l.take (k+1)):=by
 rw [take_snoc_some hx]
 exact h.trans (List.sublist_append_left ..)
def late (l:Led) (t:Rtn) (y:Int):Bool:=match rcIx l.rc t.rcp 900 with
 | none=>false
 | some i=>match l.rc[i]? with
   | none=>false
   | some r=>decide (r.day<y)
theorem late_ok {d:Int} {l:Led} {days:List Int} (h:MkOk d l days) {k:Nat} {t:Rtn} {y:Int} (ht:l.rt[k]?=some t) (hy:days[k]?=some y) (hl:late l t y=true):Gt1 l t y:=by
 obtain ⟨y',hy',hm⟩:=h.rt k t ht
 obtain rfl:=Option.some.inj (hy.symm.trans hy')
 unfold late at hl
 cases hi:rcIx l.rc t.rcp 900 with
 | none=>rw [hi] at hl;cases hl
 | some i =>
   obtain ⟨r,hr,hs,-⟩:=rcIx_some hi
   rw [hi] at hl
   simp only [hr,decide_eq_true_eq] at hl
   have hk:k<l.rt.length:=(List.getElem?_eq_some_iff.1 ht).1
   exact ⟨k,r,by have:=h.tl;omega,hm,List.mem_of_getElem? hr,hs.symm,hl⟩
structure Iv1 (l:Led) (XT:List Tv) (k:Nat) (TV:List Tv) (DL:List Int):Prop where
 sub:TV.Sublist (XT.take k)
 pd:Pd (Gt1 l) TV DL
theorem Iv1.nil (l:Led) (XT:List Tv):Iv1 l XT 0 [] []:=⟨by simp,Pd.nil _⟩
theorem Iv1.skip {l:Led} {XT:List Tv} {k:Nat} {TV:List Tv} {DL:List Int} {z:Tv} (h:Iv1 l XT k TV DL) (hz:XT[k]?=some z):Iv1 l XT (k+1) TV DL:=⟨sub_skip h.sub hz,h.pd⟩
theorem Iv1.add {d:Int} {l:Led} {days:List Int} (hM:MkOk d l days) {XT:List Tv} (hX:XT.map Tv.r=l.rt) {k:Nat} {TV:List Tv} {DL:List Int} {z:Tv} {y:Int} (h:Iv1 l XT k TV DL) (hz:XT[k]?=some z) (hy:days[k]?=some y) (hl:late l z.r y=true):Iv1 l XT (k+1) (TV ++ [z]) (DL ++ [y]) :=
 ⟨sub_snoc h.sub hz,h.pd.snoc (late_ok hM (by rw [← hX,List.getElem?_map,hz];rfl) hy hl)⟩
theorem Iv1.len {l:Led} {XT:List Tv} {k:Nat} {TV:List Tv} {DL:List Int} (h:Iv1 l XT k TV DL):TV.length≤XT.length:=by
 have:=h.sub.length_le
 rw [List.length_take] at this
 omega
def allL (l:Led) (TV:List Tv):Led:=⟨l.pp,l.rc,TV.map Tv.r,[]⟩
theorem mk_rise {d:Int} {l:Led} {days:List Int} (h:MkOk d l days):(l.rc.Pairwise fun x y=>x.src<y.src)∧l.rt.Pairwise fun x y=>x.src<y.src :=
 ⟨idx_up (a:=3) (b:=1) (by decide) fun k r hr=>(h.rc k r hr).src,idx_up (a:=3) (b:=2) (by decide) fun k t ht=>by obtain ⟨y,-,hy⟩:=h.rt k t ht;exact hy.src⟩
theorem mk_rc {d:Int} {l:Led} {days:List Int} (h:MkOk d l days) {r:Rcp} (hr:r∈l.rc):∃ j:Nat,j<8∧RcMk 160 j r:=by
 obtain ⟨j,hj⟩:=List.getElem?_of_mem hr
 exact ⟨j,by have:=(List.getElem?_eq_some_iff.1 hj).1;have:=h.rl;omega,(h.rc j r hj).mono h.dd⟩
theorem mk_cnt {d:Int} {l:Led} {days:List Int} (h:MkOk d l days) {r:Rcp} (hr:r∈l.rc):countsB r.kn r.un 900=true:=by
 obtain ⟨j,-,hj⟩:=mk_rc h hr
 exact hj.cnt (by decide)
theorem same_src {R:List Rcp} (hu:R.Pairwise fun x y=>x.src<y.src) {x y:Rcp} (hx:x∈R) (hy:y∈R) (h:x.src=y.src):x=y:=by
 obtain ⟨i,hi,rfl⟩:=List.mem_iff_getElem.1 hx
 obtain ⟨j,hj,rfl⟩:=List.mem_iff_getElem.1 hy
 rcases Nat.lt_trichotomy i j with h1 | h1 | h1
 ·have:=List.pairwise_iff_getElem.1 hu i j hi hj h1;omega
 ·subst h1;rfl
 ·have:=List.pairwise_iff_getElem.1 hu j i hj hi h1;omega
structure Iv2 (l:Led) (TV:List Tv) (k:Nat) (UV:List Tv) (DL:List Int):Prop where
 sub:UV.Sublist (TV.take k)
 pd:Pd (Gt2 l) UV DL
 tl:∀ z∈UV,∃ j,j<k∧TV[j]?=some z∧(tellK (allL l TV) 900 TV.length)[j]?=some true
 dj:UV.Pairwise fun a b=>a.r.rcp=b.r.rcp→∀ x∈a.r.lv,x ∉ b.r.lv
theorem Iv2.nil (l:Led) (TV:List Tv):Iv2 l TV 0 [] []:=⟨by simp,Pd.nil _,fun z hz=>(by cases hz),List.Pairwise.nil⟩
theorem Iv2.skip {l:Led} {TV:List Tv} {k:Nat} {UV:List Tv} {DL:List Int} {z:Tv} (h:Iv2 l TV k UV DL) (hz:TV[k]?=some z):Iv2 l TV (k+1) UV DL :=
 ⟨sub_skip h.sub hz,h.pd,fun x hx=>by obtain ⟨j,h1,h2⟩:=h.tl x hx;exact ⟨j,by omega,h2⟩,h.dj⟩
theorem Iv2.add {d:Int} {l:Led} {days:List Int} (hM:MkOk d l days) {TV:List Tv} {EL:List Int} (hP:Pd (Gt1 l) TV EL) {k:Nat} {UV:List Tv} {DL:List Int} {z:Tv} {y:Int} (h:Iv2 l TV k UV DL) (hz:TV[k]?=some z) (hy:EL[k]?=some y) (hT:(tellK (allL l TV) 900 TV.length)[k]?=some true):Iv2 l TV (k+1) (UV ++ [z]) (DL ++ [y]):=by
 have hrl:(allL l TV).rt.length=TV.length:=by simp [allL]
 rw [← hrl] at hT
 have hrt:∀ (j:Nat) u,TV[j]?=some u→(allL l TV).rt[j]?=some u.r:=fun j u hu=>by simp [allL,hu]
 obtain ⟨y',hy',j,r,hj,hm,hr,hs,hd⟩:=hP.2 k z hz
 obtain rfl:=Option.some.inj (hy.symm.trans hy')
 have ix:∀ (i:Nat) u,TV[i]?=some u→(tellK (allL l TV) 900 (allL l TV).rt.length)[i]?=some true→∀ x∈u.r.lv,rtIx (tellK (allL l TV) 900 (allL l TV).rt.length) (allL l TV).rt u.r.rcp x=some i∧∀ r∈l.rc,u.r.rcp=r.src→x∈r.lv:=fun i u hu hTu x hx=>by
  obtain ⟨-,-,-,r,-,-,hr,hs,-⟩:=hP.2 i u hu
  obtain ⟨i2,hi,hir⟩:=rc_ix (mk_rise hM).1 hr (mk_cnt hM hr)
  rw [← hs] at hi
  obtain ⟨h1,h2⟩:=tell_rt (l:=allL l TV) hTu (hrt i u hu) hi hir hx
  refine ⟨h2,fun r2 hr2 hs2=>?_⟩
  rw [same_src (mk_rise hM).1 hr2 hr (hs2.symm.trans hs)]
  exact h1
 refine ⟨sub_snoc h.sub hz,h.pd.snoc ⟨j,r,hj,hm,hr,hs,hd,fun x hx=>(ix k z hz hT x hx).2 r hr hs⟩,fun x hx=>?_,?_⟩
 ·rcases List.mem_append.1 hx with hx | hx
  ·obtain ⟨j,h1,h2⟩:=h.tl x hx;exact ⟨j,by omega,h2⟩
  ·rw [List.mem_singleton.1 hx];rw [hrl] at hT;exact ⟨k,by omega,hz,hT⟩
 ·rw [List.pairwise_append]
  refine ⟨h.dj,List.pairwise_singleton ..,fun a ha b hb e x hx hx2=>?_⟩
  rw [List.mem_singleton.1 hb] at e hx2
  obtain ⟨i,hik,hia,hTi⟩:=h.tl a ha
  rw [← hrl] at hTi
  have h1:=(ix i a hia hTi x hx).1
  have h2:=(ix k z hz hT x hx2).1
  rw [e,h2] at h1
  have:=Option.some.inj h1
  omega
theorem Iv2.len {l:Led} {XT:List Tv} {k:Nat} {TV:List Tv} {DL:List Int} (h:Iv2 l XT k TV DL):TV.length≤XT.length:=by
 have:=h.sub.length_le
 rw [List.length_take] at this
 omega
def clrO (l:Led) (days:List Int) (x y:Rcp) (f:Int):Bool:=!decide (f∈y.lv) || (match rtIx (tellK l 900 l.rt.length) l.rt x.src f with
 | none=>false
 | some k=>!decide (x.day=y.day) && !decide (y.day<days.getD k 0))
def clrB (l:Led) (days:List Int) (x y:Rcp):Bool:=!decide (x.pap=y.pap) || x.lv.all (clrO l days x y)
theorem clr_ok {l:Led} {days:List Int} (hl:days.length=l.rt.length) {x y:Rcp} (h:clrB l days x y=true) (hp:x.pap=y.pap) {f:Int} (hx:f∈x.lv) (hy:f∈y.lv):x.day≠y.day∧∃ (k:Nat) (t:Rtn) (d:Int),l.rt[k]?=some t∧days[k]?=some d∧t.rcp=x.src∧f∈t.lv∧d≤y.day:=by
 rw [clrB,hp] at h
 simp only [decide_true,Bool.not_true,Bool.false_or] at h
 have h1:=List.all_eq_true.1 h f hx
 rw [clrO] at h1
 simp only [hy,decide_true,Bool.not_true,Bool.false_or] at h1
 cases hi:rtIx (tellK l 900 l.rt.length) l.rt x.src f with
 | none=>rw [hi] at h1;cases h1
 | some k =>
   rw [hi] at h1
   simp only [Bool.and_eq_true,Bool.not_eq_true',decide_eq_false_iff_not] at h1
   obtain ⟨-,t,ht,hs,hf⟩:=rt_some hi
   have hk:k<l.rt.length:=(List.getElem?_eq_some_iff.1 ht).1
   obtain ⟨d,hd⟩:∃ d,days[k]?=some d:=⟨_,List.getElem?_eq_getElem (by omega)⟩
   rw [List.getD_eq_getElem?_getD,hd] at h1
   exact ⟨h1.1,k,t,d,ht,hd,hs,hf,by have:=h1.2;simp only [Option.getD_some] at this;omega⟩
def okK (told:Led) (days:List Int) (RV:List Rv) (y:Rcp) (x:Rv):Bool:=(rcIx (RV.map Rv.r) x.r.src 900).isNone || clrB told days x.r y
def fineK (told:Led) (days:List Int) (XR:List Rv) (RV:List Rv) (y:Rcp) (k:Nat):Bool:=(XR.take k).all (okK told days RV y)
theorem fineK_succ {told:Led} {days:List Int} {XR RV:List Rv} {y:Rcp} {k:Nat} {x:Rv} (hx:XR[k]?=some x):fineK told days XR RV y (k+1)=(fineK told days XR RV y k && okK told days RV y x):=by
 rw [fineK,take_snoc_some hx,List.all_append];simp [fineK]
structure Iv3 (told:Led) (days:List Int) (XR:List Rv) (k:Nat) (RV:List Rv):Prop where
 sub:RV.Sublist (XR.take k)
 cl:RV.Pairwise fun a b=>clrB told days a.r b.r=true
theorem Iv3.nil (told:Led) (days:List Int) (XR:List Rv):Iv3 told days XR 0 []:=⟨by simp,List.Pairwise.nil⟩
theorem Iv3.skip {told:Led} {days:List Int} {XR:List Rv} {k:Nat} {RV:List Rv} {z:Rv} (h:Iv3 told days XR k RV) (hz:XR[k]?=some z):Iv3 told days XR (k+1) RV:=⟨sub_skip h.sub hz,h.cl⟩
theorem Iv3.len {told:Led} {days:List Int} {XR:List Rv} {k:Nat} {RV:List Rv} (h:Iv3 told days XR k RV):RV.length≤XR.length:=by
 have:=h.sub.length_le
 rw [List.length_take] at this
 omega
theorem Iv3.add {told:Led} {days:List Int} {XR:List Rv} (hu:(XR.map Rv.r).Pairwise fun x y=>x.src<y.src) (hc:∀ z∈XR,countsB z.r.kn z.r.un 900=true) {k:Nat} {RV:List Rv} {z:Rv} (h:Iv3 told days XR k RV) (hz:XR[k]?=some z) (hf:fineK told days XR RV z.r k=true):Iv3 told days XR (k+1) (RV ++ [z]):=by
 refine ⟨sub_snoc h.sub hz,?_⟩
 rw [List.pairwise_append]
 refine ⟨h.cl,List.pairwise_singleton ..,fun a ha b hb=>?_⟩
 rw [List.mem_singleton.1 hb]
 have h1:=List.all_eq_true.1 hf a (h.sub.subset ha)
 rw [okK] at h1
 have hsub:RV.Sublist XR:=h.sub.trans (List.take_sublist ..)
 obtain ⟨i,hi,-⟩:=rc_ix (kn:=900) (R:=RV.map Rv.r) (hu.sublist (hsub.map Rv.r)) (List.mem_map.2 ⟨a,ha,rfl⟩) (hc a (hsub.subset ha))
 rw [hi] at h1
 simpa using h1
structure Iv5 (RV:List Rv) (G:Rtn→Int→Prop) (UV:List Tv) (EL:List Int) (k:Nat) (TV:List Tv) (DL:List Int):Prop where
 sub:TV.Sublist (UV.take k)
 pd:Pd (fun t y=>G t y∧∃ r∈RV.map Rv.r,r.src=t.rcp) TV DL
 all:∀ (j:Nat) (z:Tv) (d:Int),j<k→UV[j]?=some z→EL[j]?=some d→(∃ r∈RV.map Rv.r,r.src=z.r.rcp)→∃ m:Nat,TV[m]?=some z∧DL[m]?=some d
theorem Iv5.nil (RV:List Rv) (G:Rtn→Int→Prop) (UV:List Tv) (EL:List Int):Iv5 RV G UV EL 0 [] []:=⟨by simp,Pd.nil _,fun j z d hj=>absurd hj (Nat.not_lt_zero _)⟩
theorem Iv5.skip {RV:List Rv} {G:Rtn→Int→Prop} {UV:List Tv} {EL:List Int} (hc:∀ z∈RV,countsB z.r.kn z.r.un 900=true) {k:Nat} {TV:List Tv} {DL:List Int} {z:Tv} (h:Iv5 RV G UV EL k TV DL) (hz:UV[k]?=some z) (hn:rcIx (RV.map Rv.r) z.r.rcp 900=none):Iv5 RV G UV EL (k+1) TV DL:=by
 refine ⟨sub_skip h.sub hz,h.pd,fun j x d hj hx hd he=>?_⟩
 by_cases hjk:j=k
 ·subst hjk
  obtain rfl:=Option.some.inj (hz.symm.trans hx)
  obtain ⟨r,hr,hs⟩:=he
  obtain ⟨v,hv,rfl⟩:=List.mem_map.1 hr
  have h1:=List.findIdx?_eq_none_iff.1 hn v.r hr
  simp [rcAt,hs,hc v hv] at h1
 ·exact h.all j x d (by omega) hx hd he
theorem Iv5.add {RV:List Rv} {G:Rtn→Int→Prop} {UV:List Tv} {EL:List Int} (hP:Pd G UV EL) {k i:Nat} {TV:List Tv} {DL:List Int} {z:Tv} {y:Int} (h:Iv5 RV G UV EL k TV DL) (hz:UV[k]?=some z) (hy:EL[k]?=some y) (hn:rcIx (RV.map Rv.r) z.r.rcp 900=some i):Iv5 RV G UV EL (k+1) (TV ++ [z]) (DL ++ [y]):=by
 obtain ⟨y',hy',hg⟩:=hP.2 k z hz
 obtain rfl:=Option.some.inj (hy.symm.trans hy')
 obtain ⟨hl,hp,-⟩:=List.findIdx?_eq_some_iff_getElem.1 hn
 simp only [rcAt,Bool.and_eq_true,decide_eq_true_eq] at hp
 refine ⟨sub_snoc h.sub hz,h.pd.snoc ⟨hg,_,List.getElem_mem hl,hp.1⟩,fun j x d hj hx hd he=>?_⟩
 by_cases hjk:j=k
 ·subst hjk
  obtain rfl:=Option.some.inj (hz.symm.trans hx)
  obtain rfl:=Option.some.inj (hy.symm.trans hd)
  exact ⟨TV.length,by simp,by rw [← h.pd.1];simp⟩
 ·obtain ⟨m,h1,h2⟩:=h.all j x d (by omega) hx hd he
  exact ⟨m,by rw [List.getElem?_append_left (List.getElem?_eq_some_iff.1 h1).1];exact h1,by rw [List.getElem?_append_left (List.getElem?_eq_some_iff.1 h2).1];exact h2⟩
theorem Iv5.len {RV:List Rv} {G:Rtn→Int→Prop} {UV:List Tv} {EL:List Int} {k:Nat} {TV:List Tv} {DL:List Int} (h:Iv5 RV G UV EL k TV DL):TV.length≤UV.length:=by
 have:=h.sub.length_le
 rw [List.length_take] at this
 omega
theorem hon_ok {d:Int} {l:Led} {days:List Int} (hM:MkOk d l days) {XR:List Rv} {XT:List Tv} (hXR:XR.map Rv.r=l.rc) (hXT:XT.map Tv.r=l.rt) {k1 k2 k3 k5:Nat} {TV UV WV:List Tv} {RV:List Rv} {D1 D2 D5:List Int} {SV:List Sgt}
 (h1:Iv1 l XT k1 TV D1) (h2:Iv2 l TV k2 UV D2) (h3:Iv3 (allL l UV) D2 XR k3 RV) (hk5:UV.length≤k5) (h5:Iv5 RV (Gt2 l) UV D2 k5 WV D5) (hsl:SV.length≤6) (hsg:∀ (k:Nat) s,SV[k]?=some s→HgMk k s)
 (hsw:∀ s∈SV,s.per=whoF ⟨mPp,RV.map Rv.r,WV.map Tv.r,[]⟩ 900 s.day D5 s.pap s.leaf):HnOk ⟨mPp,RV.map Rv.r,WV.map Tv.r,SV⟩ D5:=by
 have hsR:(RV.map Rv.r).Sublist l.rc:=by rw [← hXR];exact (h3.sub.trans (List.take_sublist ..)).map Rv.r
 have hsT:(WV.map Tv.r).Sublist l.rt:=by
  rw [← hXT]
  exact (((h5.sub.trans (List.take_sublist ..)).trans (h2.sub.trans (List.take_sublist ..))).trans (h1.sub.trans (List.take_sublist ..))).map Tv.r
 have hdj:WV.Pairwise fun a b=>a.r.rcp=b.r.rcp→∀ x∈a.r.lv,x ∉ b.r.lv:=h2.dj.sublist (h5.sub.trans (List.take_sublist ..))
 refine ⟨rfl,Nat.le_trans hsR.length_le hM.rl,Nat.le_trans hsT.length_le hM.tl,hsl,fun r hr=>mk_rc hM (hsR.subset hr),(mk_rise hM).1.sublist hsR,fun k t ht=>?_,(mk_rise hM).2.sublist hsT,fun i j t u hij ht hu e x hx=>?_,fun x y hs hp f hx hy=>?_,by simp [h5.pd.1],hsg,hsw⟩
 ·rw [List.getElem?_map] at ht
  obtain ⟨z,hz,rfl⟩:=Option.map_eq_some_iff.1 ht
  obtain ⟨y,hy,⟨j,r,hj,hm,hr,hs,hd,hlv⟩,r2,hr2,hs2⟩:=h5.pd.2 k z hz
  obtain rfl:=same_src (mk_rise hM).1 (hsR.subset hr2) hr (hs2.trans hs)
  obtain ⟨r3,hr3,hs3,hd3⟩:=hm.rcp
  obtain rfl:=same_src (mk_rise hM).1 hr3 hr (hs3.symm.trans hs)
  exact ⟨y,j,r3,hy,hj,⟨hm.src,⟨r3,hr2,hs3,hd3⟩,hm.per,hm.lv,hm.day,hm.kn,hm.un⟩,hr2,hs,hd,hlv⟩
 ·rw [List.getElem?_map] at ht hu
  obtain ⟨z,hz,rfl⟩:=Option.map_eq_some_iff.1 ht
  obtain ⟨v,hv,rfl⟩:=Option.map_eq_some_iff.1 hu
  obtain ⟨hi,rfl⟩:=List.getElem?_eq_some_iff.1 hz
  obtain ⟨hj,rfl⟩:=List.getElem?_eq_some_iff.1 hv
  exact List.pairwise_iff_getElem.1 hdj i j hi hj hij e x hx
 ·have hcl:(RV.map Rv.r).Pairwise fun a b=>clrB (allL l UV) D2 a b=true:=by rw [List.pairwise_map];exact h3.cl
  have hc:=pair_lt hcl hs
  obtain ⟨hne,k,t,dd,ht,hd,hs2,hf,hle⟩:=clr_ok (l:=allL l UV) (by simp [allL,h2.pd.1]) hc hp hx hy
  refine ⟨hne,?_⟩
  have ht2:(UV.map Tv.r)[k]?=some t:=ht
  rw [List.getElem?_map] at ht2
  obtain ⟨z,hz,rfl⟩:=Option.map_eq_some_iff.1 ht2
  have hxm:x∈RV.map Rv.r:=hs.subset (by simp)
  obtain ⟨m,hm1,hm2⟩:=h5.all k z dd (by have:=(List.getElem?_eq_some_iff.1 hz).1;omega) hz hd ⟨x,hxm,hs2.symm⟩
  exact ⟨m,z.r,dd,by rw [List.getElem?_map,hm1];rfl,hm2,hs2,hf,hle⟩
end Go.Proofs.YtmcmbicapdcfmaaGreat
