/- Layer 2 of the texts that LoanWheres takes: Uasq. -/
import Derived.Test.YtoiompoapikkbaaGreatUalq
import Derived.Test.YtoiompoapikkbaaGreatUaqq
set_option linter.unusedVariables false
set_option linter.unusedSimpArgs false
/- A loop over an iterator that holds loops of its own: what its caller owes. -/
namespace Go.Proofs.YtoiompoapikkbaaGreat
open Go.RowKit Go.Shelf Go.Maps
attribute [local go_sem] Oper.semAt_some
theorem KeepQ.putObj {b:Nat} {P:Nat→Prop} (W:World) (l:Nat) (o:Obj) (hP:¬ P l) (hb:l<b):KeepQ b P W (W.putObj l o) :=
 ⟨by simp,fun k hk=>World.putObj_heap_other (fun e=>hP (e ▸ hk)),fun k h1 _=>World.putObj_heap_other (by omega)⟩
end Go.Proofs.YtoiompoapikkbaaGreat
/- Layer 2: a valid receipt's leaves are folios just where its last one is. -/
namespace Go.Proofs.YtoiompoapikkbaaGreat
open Go.RowKit
theorem val_rise {l:List Int} {ok:Int→Bool} {most:Nat} (h:valB id ok most l=true):∀ (j:Nat) (h1:j+1<l.length),l[j]<l[j+1]:=fun j h1=>by
 rw [valB,Bool.and_eq_true] at h
 have h2:=List.all_eq_true.1 h.2 (j+1) (List.mem_range.2 h1)
 have e1:l[j+1]?=some l[j+1]:=List.getElem?_eq_getElem h1
 have e2:l[j]?=some (l[j]'(by omega)):=List.getElem?_eq_getElem (by omega)
 simp only [valAt,e1,e2,id,Bool.and_eq_true,decide_eq_true_eq] at h2
 exact h2.2
theorem rise_le {l:List Int} (h:∀ (j:Nat) (h1:j+1<l.length),l[j]<l[j+1]):∀ (d i:Nat) (hi:i+d<l.length),l[i]'(by omega)≤l[i+d]
 | 0,i,hi=>by simp
 | d+1,i,hi=>by
   have h1:=rise_le h d i (by omega)
   have h2:=h (i+d) (by omega)
   have e:i+(d+1)=i+d+1:=by omega
   simp only [e]
   omega
def Rcp.last (r:Rcp):Int:=r.lv.getD (r.lv.length - 1) 0
theorem fol_last {r:Rcp} (pp:List Ppr) (h:r.okB=true):(rcFol r).all (fun f=>folB pp f.1 f.2)=folB pp r.pap r.last:=by
 have h1:=h
 simp only [Rcp.okB,Bool.and_eq_true] at h1
 have hl:=h1.2.2.2.1
 rw [leavesB,Bool.and_eq_true,decide_eq_true_eq] at hl
 obtain ⟨h0,hv⟩:=hl
 have hr:=val_rise hv
 have ho:=val_all hv
 have hlast:r.last=r.lv[r.lv.length - 1]'(by omega):=by
  rw [Rcp.last,List.getD_eq_getElem?_getD,List.getElem?_eq_getElem (by omega)];rfl
 rw [rcFol,List.all_map,Bool.eq_iff_iff,List.all_eq_true]
 constructor
 ·intro ha
  have:=ha r.last (by rw [hlast];exact List.getElem_mem _)
  simpa using this
 ·intro hf y hy
  obtain ⟨i,hi,rfl⟩:=List.getElem_of_mem hy
  have h2:=rise_le hr (r.lv.length - 1 - i) i (by omega)
  have e:i+(r.lv.length - 1 - i)=r.lv.length - 1:=by omega
  simp only [e] at h2
  have h3:=ho _ (List.getElem_mem hi)
  simp only [folB,withinB,leafB,Function.comp,Bool.and_eq_true,decide_eq_true_eq] at hf h3 ⊢
  rw [hlast] at hf
  omega
def rcOk (pp:List Ppr) (r:Rcp):Bool:=r.okB && folB pp r.pap r.last
def sgOk (pp:List Ppr) (s:Sgt):Bool:=s.okB && folB pp s.pap s.leaf
theorem val_ext {α:Type} {num:α→Int} {ok ok':α→Bool} {l:List α} (h:∀ x∈l,ok x=ok' x) (most:Nat):valB num ok most l=valB num ok' most l:=by
 have h1:∀ k,valAt num ok l k=valAt num ok' l k:=fun k=>by
  cases k with
  | zero =>
    cases h0:l[0]? with
    | none=>simp [valAt,h0]
    | some x=>simp [valAt,h0,h x (List.mem_of_getElem? h0)]
  | succ j =>
    cases h0:l[j+1]? with
    | none=>simp [valAt,h0]
    | some x =>
      cases h2:l[j]? with
      | none=>simp [valAt,h0,h2]
      | some y=>simp [valAt,h0,h2,h x (List.mem_of_getElem? h0)]
 rw [valB,valB,funext h1]
theorem val_and {α:Type} {num:α→Int} {ok q:α→Bool} {l:List α} (most:Nat):valB num (fun x=>ok x && q x) most l=(valB num ok most l && l.all q):=by
 by_cases hq:l.all q=true
 ·rw [hq,Bool.and_true]
  exact val_ext (fun x hx=>by simp [List.all_eq_true.1 hq x hx]) most
 ·have hf:l.all q=false:=by simpa using hq
  rw [hf,Bool.and_false,Bool.eq_false_iff]
  intro h
  refine hq (List.all_eq_true.2 fun x hx=>?_)
  have:=val_all h x hx
  simp only [Bool.and_eq_true] at this
  exact this.2
theorem ledB_ref (l:Led):ledB l=(valB Ppr.id Ppr.okB 12 l.pp && (valB Rcp.src (rcOk l.pp) 60 l.rc && (valB Rtn.src Rtn.okB 60 l.rt && (valB Sgt.src (sgOk l.pp) 60 l.sg && decide (srcL l).Nodup)))):=by
 have e1:valB Rcp.src (rcOk l.pp) 60 l.rc=(valB Rcp.src Rcp.okB 60 l.rc && l.rc.all fun r=>folB l.pp r.pap r.last):=val_and 60
 have e2:valB Sgt.src (sgOk l.pp) 60 l.sg=(valB Sgt.src Sgt.okB 60 l.sg && l.sg.all fun s=>folB l.pp s.pap s.leaf):=val_and 60
 have e3:folsB l.pp (namL l)=((l.rc.all fun r=>(rcFol r).all fun f=>folB l.pp f.1 f.2) && l.sg.all fun s=>folB l.pp s.pap s.leaf):=by
  rw [folsB,namL,List.all_append,List.all_flatMap,List.all_map]
  rfl
 rw [ledB,e1,e2,e3]
 by_cases hr:valB Rcp.src Rcp.okB 60 l.rc=true
 ·have h4:(l.rc.all fun r=>(rcFol r).all fun f=>folB l.pp f.1 f.2)=l.rc.all fun r=>folB l.pp r.pap r.last:=by
   rw [Bool.eq_iff_iff,List.all_eq_true,List.all_eq_true]
   exact ⟨fun h r hr'=>by rw [← fol_last l.pp (val_all hr r hr')];exact h r hr',fun h r hr'=>by rw [fol_last l.pp (val_all hr r hr')];exact h r hr'⟩
  rw [h4]
  cases valB Ppr.id Ppr.okB 12 l.pp <;> cases valB Rcp.src Rcp.okB 60 l.rc <;> cases valB Rtn.src Rtn.okB 60 l.rt <;> cases valB Sgt.src Sgt.okB 60 l.sg <;> cases decide (srcL l).Nodup <;> simp
 ·have hf:valB Rcp.src Rcp.okB 60 l.rc=false:=by simpa using hr
  rw [hf]
  simp
end Go.Proofs.YtoiompoapikkbaaGreat
/- Layer 2: find: the sights of some sources. -/
namespace Go.Proofs.YtoiompoapikkbaaGreat
open Go.RowKit Go.Maps
def sgCells (S:List Sgt):List Value:=S.flatMap fun s=>[.int .i64 s.src,.int .i64 s.per,.int .i64 s.pap,.int .i64 s.leaf,.int .i64 s.day,.int .i64 s.kn,.int .i64 s.un]
end Go.Proofs.YtoiompoapikkbaaGreat
