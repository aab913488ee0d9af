/- Layer 2 of the texts that LoanMoves takes: Mbtq. -/
import Derived.Test.YtmcmbicapdcfmaaGreatMbsq
set_option linter.unusedVariables false
set_option linter.unusedSimpArgs false
set_option maxHeartbeats 16000000
namespace Go.Proofs.YtmcmbicapdcfmaaGreat
open Go.RowKit Go.Maps
theorem filt_same {α:Type} {p q:α→Bool} {l:List α} (h:∀ x∈l,p x=false→q x=false):(l.filter p).filter q=l.filter q:=by
 rw [List.filter_filter]
 refine List.filter_congr fun x hx=>?_
 cases hp:p x with
 | true=>simp
 | false=>simp [h x hx hp]
theorem exc_same {l:Led} {src kn:Int} (hR:∀ r∈l.rc,r.src=src→countsB r.kn r.un kn=false) (hT:∀ t∈l.rt,t.src=src→countsB t.kn t.un kn=false) (hS:∀ s∈l.sg,s.src=src→countsB s.kn s.un kn=false) :
 setE (excL l src) kn=setE l kn∧∀ day f,setE l kn=0→whL (excL l src) kn day f=whL l kn day f:=by
 have e1:cntR (excL l src) kn=cntR l kn:=filt_same fun r hr h=>hR r hr (by simpa using h)
 have e2:cntS (excL l src) kn=cntS l kn:=filt_same fun s hs h=>hS s hs (by simpa using h)
 obtain ⟨⟨C,hC⟩,-⟩:=tw_led (l:=l) (l':=excL l src) (kn:=kn) (p:=fun t=>!(t.src == src)) e1 rfl (fun k t ht hp=>by
  have hc:=hT t (List.mem_of_getElem? ht) (by simpa using hp)
  unfold readR
  split
  ·rfl
  ·rw [hc];simp)
 obtain ⟨-,-,h3,h4⟩:=tw_same e1 e2 hC
 exact ⟨h3,h4⟩
theorem mov_none {l:Led} {src day kn:Int} (hp:preE l [day,kn]=0) (hs:src∈srcL l) (hR:∀ r∈l.rc,r.src=src→countsB r.kn r.un kn=false) (hT:∀ t∈l.rt,t.src=src→countsB t.kn t.un kn=false) (hS:∀ s∈l.sg,s.src=src→countsB s.kn s.un kn=false):movX l src day kn=([],0):=by
 obtain ⟨h1,h2⟩:=exc_same hR hT hS
 rw [movX,if_pos hp,if_pos hs,if_pos h1.symm]
 split
 ·rename_i h0
  rw [movL]
  congr 1
  rw [List.filter_eq_nil_iff]
  intro f _
  simp [h2 day f h0]
 ·rfl
theorem val_filt {α:Type} {num:α→Int} {ok:α→Bool} {most:Nat} {l:List α} (h:valB num ok most l=true) (p:α→Bool):valB num ok most (l.filter p)=true:=by
 have hl:l.length≤most:=by
  rw [valB,Bool.and_eq_true] at h
  simpa using h.1
 exact val_mk (Nat.le_trans (List.length_filter_le _ _) hl) (fun x hx=>val_all h x (List.mem_filter.1 hx).1) ((val_pair h).filter p)
theorem ledB_sub {l:Led} (h:ledB l=true) (p:Rcp→Bool) (q:Rtn→Bool) (s:Sgt→Bool):ledB ⟨l.pp,l.rc.filter p,l.rt.filter q,l.sg.filter s⟩=true:=by
 simp only [ledB,Bool.and_eq_true,decide_eq_true_eq] at h ⊢
 obtain ⟨h1,h2,h3,h4,h5,h6⟩:=h
 refine ⟨h1,val_filt h2 _,val_filt h3 _,val_filt h4 _,?_,?_⟩
 ·exact h5.sublist ((List.filter_sublist.map _).append ((List.filter_sublist.map _).append (List.filter_sublist.map _)))
 ·rw [folsB,List.all_eq_true] at h6 ⊢
  intro f hf
  refine h6 f ?_
  simp only [namL,List.mem_append,List.mem_flatMap,List.mem_map] at hf ⊢
  rcases hf with ⟨r,hr,hf⟩ | ⟨r,hr,hf⟩
  ·exact .inl ⟨r,(List.mem_filter.1 hr).1,hf⟩
  ·exact .inr ⟨r,(List.mem_filter.1 hr).1,hf⟩
theorem fol_ok {l:Led} (hl:ledB l=true) {f:Int × Int} (hf:f∈folL l.pp):folB l.pp f.1 f.2=true:=by
 simp only [folL,List.mem_flatMap,ppFol,List.mem_map,List.mem_range] at hf
 obtain ⟨p,hp,i,hi,rfl⟩:=hf
 have hup:l.pp.Pairwise fun x y=>x.id<y.id:=by
  simp only [ledB,Bool.and_eq_true] at hl
  exact val_pair hl.1
 have g:∀ pp:List Ppr,(pp.Pairwise fun x y=>x.id<y.id)→p∈pp→lvOf pp p.id=p.lv:=by
  intro pp
  induction pp with
  | nil=>intro _ h;cases h
  | cons q pp ih =>
    intro h hq
    rw [List.pairwise_cons] at h
    rw [lvOf]
    by_cases e:q.id=p.id
    ·rw [if_pos e]
     rcases List.mem_cons.1 hq with rfl | hq
     ·rfl
     ·have:=h.1 p hq;omega
    ·rw [if_neg e]
     rcases List.mem_cons.1 hq with rfl | hq
     ·exact absurd rfl e
     ·exact ih h.2 hq
 rw [folB,g _ hup hp]
 simp [withinB]
 omega
theorem preF_zeroM {l:Led} {day kn pap leaf:Int} (hl:ledB l=true) (hd:daysOk [day,kn]=true) (hf:folB l.pp pap leaf=true):preF l day kn pap leaf=0:=by simp [preF,hl,hd,hf,orL,errI]
theorem mov_iff {l:Led} {src day kn:Int} (hl:ledB l=true) (hd:daysOk [day,kn]=true) (hs:src∈srcL l) {f:Int × Int} (hf:f∈folL l.pp) :
 (movX l src day kn).2=0∧(whereX (excL l src) f.1 f.2 day kn=whereX l f.1 f.2 day kn↔f ∉ (movX l src day kn).1):=by
 have hp:preE l [day,kn]=0:=by simp [preE,hl,hd,orL,errI]
 have hle:ledB (excL l src)=true:=ledB_sub hl _ _ _
 have e1:=preF_zeroM (day:=day) (kn:=kn) hl hd (fol_ok hl hf)
 have e2:preF (excL l src) day kn f.1 f.2=0:=preF_zeroM hle hd (fol_ok hl hf)
 rw [movX,if_pos hp,if_pos hs,whereX,whereX,if_pos e1,if_pos e2]
 by_cases he:setE l kn=setE (excL l src) kn
 ·rw [if_pos he,← he]
  by_cases h0:setE l kn=0
  ·rw [if_pos h0,if_pos h0,if_pos h0]
   refine ⟨rfl,?_⟩
   rw [movL,List.mem_filter]
   constructor
   ·intro h hm
    have h1:whL (excL l src) kn day (f.1,f.2)=whL l kn day (f.1,f.2):=congrArg Prod.fst h
    have h2:=hm.2
    rw [show f=(f.1,f.2) from rfl,h1] at h2
    simp at h2
   ·intro h
    have h1:whL l kn day f=whL (excL l src) kn day f:=by
     by_cases hq:whL l kn day f=whL (excL l src) kn day f
     ·exact hq
     ·exact absurd ⟨hf,by simp [hq]⟩ h
    show (whL (excL l src) kn day f,(0:Int))=(whL l kn day f,0)
    rw [h1]
  ·rw [if_neg h0,if_neg h0,if_neg h0]
   exact ⟨rfl,by simp⟩
 ·rw [if_neg he]
  refine ⟨rfl,fun h=>?_,fun h=>absurd hf h⟩
  exfalso
  have h2:=congrArg Prod.snd h
  by_cases h0:setE l kn=0
  ·rw [if_pos h0] at h2
   by_cases h0':setE (excL l src) kn=0
   ·exact he (by rw [h0,h0'])
   ·rw [if_neg h0'] at h2;exact h0' h2
  ·rw [if_neg h0] at h2
   by_cases h0':setE (excL l src) kn=0
   ·rw [if_pos h0'] at h2;exact h0 h2.symm
   ·rw [if_neg h0'] at h2;exact he h2.symm
section
variable {P:Program} {o:Oper} {Q:Exit→Act→World→Prop}
end
end Go.Proofs.YtmcmbicapdcfmaaGreat
namespace Go.Proofs.YtmcmbicapdcfmaaGreat
open Go.RowKit Go.Maps Go.Shelf
end Go.Proofs.YtmcmbicapdcfmaaGreat
