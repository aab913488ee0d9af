/- Layer 2 of the texts that LoanBack takes: Baqq. -/
import Derived.Test.YtmcmbicapdcfmaaGreatBaoq
set_option linter.unusedVariables false
set_option linter.unusedSimpArgs false
set_option maxHeartbeats 16000000
namespace Go.Proofs.YtmcmbicapdcfmaaGreat
open Go.RowKit Go.Maps
theorem own_le {w:World} {base size n:Nat} {e:TypeId} {v:Value} {xs:List Value} (h:w.ownsRow base e size v n xs) {b:Nat} (hb:v.ownBlock=some b):base≤b:=by
 rcases h.2 with ⟨rfl,_⟩ | ⟨g,cap,cur,rfl,hg,_⟩
 ·simp [Value.ownBlock] at hb
 ·simp [Value.ownBlock] at hb
  omega
section
variable {w V V':World} {bm be b6 b7:Nat} {d:Deed} {L:List (Nm × Value)} {gd gi gs:Nm→Value} {Sd Si St:Nm→TL} {cs:Array Value}
end
end Go.Proofs.YtmcmbicapdcfmaaGreat
namespace Go.Proofs.YtmcmbicapdcfmaaGreat
open Go.RowKit
attribute [local go_sem] Oper.semAt_some
theorem run_app {P:Program} (w:World) {base B:Nat} {t ty e:TypeId} {i:TypeInfo} {z:Value} {size bytes:Nat} (ht:P.underlying t=some (.slice e)) (hi:P.info? e=some i) (hz:i.zero=some z)
 (hsize:i.size=size) (hby:i.bytes=bytes) (hzs:z.cells.size=size) (hsz:0<size) {v:Value} {n m c:Nat} {xs news:List Value} {A:Option Addr} (ho:w.ownsRow base e size v n xs)
 (hr:Rd w B size A m news) (h1:∀ u∈news,u.oneCell'=true) (h63:n+m≤maxLen) (hb:(n+m)*bytes≤140737488355328) (hbase:base≤w.heap.size) :
 ∃ v' w',(Builtin.append_ #[t,t] ty #[v,.slice A m c]).run P w=.ok v' w'∧w'.ownsRow base e size v' (n+m) (xs ++ news)∧w.grownBy w' v.ownBlock:=by
 cases A with
 | none =>
   have hm:m=0:=by
    rcases Nat.eq_zero_or_pos m with h | h
    ·exact h
    ·obtain ⟨_,_,e,_⟩:=hr.2 h;cases e
   subst hm
   obtain rfl:news=[]:=List.eq_nil_of_length_eq_zero (by have:=hr.1;omega)
   refine ⟨v,w,?_,by simpa using ho,grown_of_below (Below.refl _ _) |> fun h=>⟨h.os,h.tape,h.output,h.size,fun _ _ _=>rfl⟩⟩
   rcases ho.2 with ⟨rfl,rfl⟩ | ⟨g,cap,cur,rfl,_,_,hnc,_⟩
   ·simp [Builtin.append_,run_underlying ht,sizeOf,typeInfo,hi,Builtin.lenOf,Builtin.firstCells]
   ·simp [Builtin.append_,run_underlying ht,sizeOf,typeInfo,hi,Builtin.lenOf,Builtin.firstCells,hnc,storeCells]
 | some ad =>
   have hnews:∀ j u,news[j]?=some u→w.cell? (ad.add j)=some u:=fun j u hj=>by
    rcases Nat.eq_zero_or_pos m with h | h
    ·subst h
     rw [List.eq_nil_of_length_eq_zero (l:=news) (by have:=hr.1;omega)] at hj
     simp at hj
    ·obtain ⟨b,o,e,_,h2⟩:=hr.2 h
     cases e
     rw [Addr.add_lit]
     exact h2 j u hj
   obtain ⟨v',w',g1,g2,g3,_,_⟩:=run_append_own_at (P:=P) w base t ty e i z size bytes ht hi hz hsize hby hzs hsz v n xs ho ad m c news hr.1 hnews h1 h63 hb hbase
   exact ⟨v',w',g1,g2,g3⟩
theorem step_app {P:Program} {w:World} {ops:Array Oper} {o:Oper} {a:Act} {K:Act→World→Prop} {Q:Exit→Act→World→Prop} {E:Prop} (hgd:o.guard=none) (s x:Operand) (t:TypeId)
 (hop:o.op=.call { callee:=.builtin .append,args:=#[s,x],argTypes:=#[t,t] })
 {base B:Nat} {e:TypeId} {i:TypeInfo} {z:Value} {size bytes:Nat} (ht:P.underlying t=some (.slice e)) (hi:P.info? e=some i) (hz:i.zero=some z)
 (hsize:i.size=size) (hby:i.bytes=bytes) (hzs:z.cells.size=size) (hsz:0<size) {v:Value} {n m c:Nat} {xs news:List Value} {A:Option Addr} (hs:a.eval s=v) (hx:a.eval x=.slice A m c) (ho:w.ownsRow base e size v n xs)
 (hr:Rd w B size A m news) (h1:∀ u∈news,u.oneCell'=true) (h63:n+m≤maxLen) (hb:(n+m)*bytes≤140737488355328) (hbase:base≤w.heap.size)
 (h:∀ v' w',w'.ownsRow base e size v' (n+m) (xs ++ news)→w.grownBy w' v.ownBlock→K (a.put o.dst v') w') :
 if Region.wanted o (yielded ops a.tmps)=true then Oper.wp P o a w K Q else E:=by
 have hw:Region.wanted o (yielded ops a.tmps)=true:=by simp [Region.wanted,hgd]
 rw [if_pos hw]
 obtain ⟨v',w',g1,g2,g3⟩:=run_app (P:=P) w (ty:=o.type) ht hi hz hsize hby hzs hsz ho hr h1 h63 hb hbase (c:=c)
 unfold Oper.wp execOp
 simp only [hop,resolve,invoke,builtin,Sem.run_bind,Sem.run_pure,Result.andThen_ok,List.map_toArray,List.map_cons,List.map_nil,hs,hx,g1]
 exact h v' w' g2 g3
theorem own_empty (w:World) (t:TypeId) (size:Nat):(w.alloc (.cells #[] t)).ownsRow w.heap.size t size (.slice (some ⟨w.heap.size,0,none⟩) 0 0) 0 [] :=
 ⟨by simp,.inr ⟨w.heap.size,0,#[],rfl,lr_,World.alloc_heap_new w _,lr_,Nat.zero_le _,by simp,by simp⟩⟩
theorem val_rise {l:List Int} {ok:Int→Bool} {most:Nat} (h:valB id ok most l=true):∀ (j:Nat) (h1:j+1<l.length),l[j]<l[j+1]:=fun j h1=>by
 rw [valB,Bool.and_eq_true] at h
 have h2:=List.all_eq_true.1 h.2 (j+1) (List.mem_range.2 h1)
 have e1:l[j+1]?=some l[j+1]:=List.getElem?_eq_getElem h1
 have e2:l[j]?=some (l[j]'(by omega)):=List.getElem?_eq_getElem (by omega)
 simp only [valAt,e1,e2,id,Bool.and_eq_true,decide_eq_true_eq] at h2
 exact h2.2
theorem rise_le {l:List Int} (h:∀ (j:Nat) (h1:j+1<l.length),l[j]<l[j+1]):∀ (d i:Nat) (hi:i+d<l.length),l[i]'(by omega)≤l[i+d]
 | 0,i,hi=>by simp
 | d+1,i,hi=>by
   have h1:=rise_le h d i (by omega)
   have h2:=h (i+d) (by omega)
   have e:i+(d+1)=i+d+1:=by omega
   simp only [e]
   omega
def Rcp.last (r:Rcp):Int:=r.lv.getD (r.lv.length - 1) 0
theorem fol_last {r:Rcp} (pp:List Ppr) (h:r.okB=true):(rcFol r).all (fun f=>folB pp f.1 f.2)=folB pp r.pap r.last:=by
 have h1:=h
 simp only [Rcp.okB,Bool.and_eq_true] at h1
 have hl:=h1.2.2.2.1
 rw [leavesB,Bool.and_eq_true,decide_eq_true_eq] at hl
 obtain ⟨h0,hv⟩:=hl
 have hr:=val_rise hv
 have ho:=val_all hv
 have hlast:r.last=r.lv[r.lv.length - 1]'(by omega):=by
  rw [Rcp.last,List.getD_eq_getElem?_getD,List.getElem?_eq_getElem (by omega)];rfl
 rw [rcFol,List.all_map,Bool.eq_iff_iff,List.all_eq_true]
 constructor
 ·intro ha
  have:=ha r.last (by rw [hlast];exact List.getElem_mem _)
  simpa using this
 ·intro hf y hy
  obtain ⟨i,hi,rfl⟩:=List.getElem_of_mem hy
  have h2:=rise_le hr (r.lv.length - 1 - i) i (by omega)
  have e:i+(r.lv.length - 1 - i)=r.lv.length - 1:=by omega
  simp only [e] at h2
  have h3:=ho _ (List.getElem_mem hi)
  simp only [folB,withinB,leafB,Function.comp,Bool.and_eq_true,decide_eq_true_eq] at hf h3 ⊢
  rw [hlast] at hf
  omega
def rcOk (pp:List Ppr) (r:Rcp):Bool:=r.okB && folB pp r.pap r.last
def sgOk (pp:List Ppr) (s:Sgt):Bool:=s.okB && folB pp s.pap s.leaf
theorem val_ext {α:Type} {num:α→Int} {ok ok':α→Bool} {l:List α} (h:∀ x∈l,ok x=ok' x) (most:Nat):valB num ok most l=valB num ok' most l:=by
 have h1:∀ k,valAt num ok l k=valAt num ok' l k:=fun k=>by
  cases k with
  | zero =>
    cases h0:l[0]? with
    | none=>simp [valAt,h0]
    | some x=>simp [valAt,h0,h x (List.mem_of_getElem? h0)]
  | succ j =>
    cases h0:l[j+1]? with
    | none=>simp [valAt,h0]
    | some x =>
      cases h2:l[j]? with
      | none=>simp [valAt,h0,h2]
      | some y=>simp [valAt,h0,h2,h x (List.mem_of_getElem? h0)]
 rw [valB,valB,funext h1]
theorem val_and {α:Type} {num:α→Int} {ok q:α→Bool} {l:List α} (most:Nat):valB num (fun x=>ok x && q x) most l=(valB num ok most l && l.all q):=by
 by_cases hq:l.all q=true
 ·rw [hq,Bool.and_true]
  exact val_ext (fun x hx=>by simp [List.all_eq_true.1 hq x hx]) most
 ·have hf:l.all q=false:=by simpa using hq
  rw [hf,Bool.and_false,Bool.eq_false_iff]
  intro h
  refine hq (List.all_eq_true.2 fun x hx=>?_)
  have:=val_all h x hx
  simp only [Bool.and_eq_true] at this
  exact this.2
theorem ledB_ref (l:Led):ledB l=(valB Ppr.id Ppr.okB 12 l.pp && (valB Rcp.src (rcOk l.pp) 60 l.rc && (valB Rtn.src Rtn.okB 60 l.rt && (valB Sgt.src (sgOk l.pp) 60 l.sg && decide (srcL l).Nodup)))):=by
 have e1:valB Rcp.src (rcOk l.pp) 60 l.rc=(valB Rcp.src Rcp.okB 60 l.rc && l.rc.all fun r=>folB l.pp r.pap r.last):=val_and 60
 have e2:valB Sgt.src (sgOk l.pp) 60 l.sg=(valB Sgt.src Sgt.okB 60 l.sg && l.sg.all fun s=>folB l.pp s.pap s.leaf):=val_and 60
 have e3:folsB l.pp (namL l)=((l.rc.all fun r=>(rcFol r).all fun f=>folB l.pp f.1 f.2) && l.sg.all fun s=>folB l.pp s.pap s.leaf):=by
  rw [folsB,namL,List.all_append,List.all_flatMap,List.all_map]
  rfl
 rw [ledB,e1,e2,e3]
 by_cases hr:valB Rcp.src Rcp.okB 60 l.rc=true
 ·have h4:(l.rc.all fun r=>(rcFol r).all fun f=>folB l.pp f.1 f.2)=l.rc.all fun r=>folB l.pp r.pap r.last:=by
   rw [Bool.eq_iff_iff,List.all_eq_true,List.all_eq_true]
   exact ⟨fun h r hr'=>by rw [← fol_last l.pp (val_all hr r hr')];exact h r hr',fun h r hr'=>by rw [fol_last l.pp (val_all hr r hr')];exact h r hr'⟩
  rw [h4]
  cases valB Ppr.id Ppr.okB 12 l.pp <;> cases valB Rcp.src Rcp.okB 60 l.rc <;> cases valB Rtn.src Rtn.okB 60 l.rt <;> cases valB Sgt.src Sgt.okB 60 l.sg <;> cases decide (srcL l).Nodup <;> simp
 ·have hf:valB Rcp.src Rcp.okB 60 l.rc=false:=by simpa using hr
  rw [hf]
  simp
end Go.Proofs.YtmcmbicapdcfmaaGreat
namespace Go.Proofs.YtmcmbicapdcfmaaGreat
open Go.RowKit Go.Maps
theorem wpList_app2 {P:Program} {w:World} {ops:Array Oper} {rest:List Oper} {o:Oper} {a:Act} {Q:Exit→Act→World→Prop} (hgd:o.guard=none) (s x:Operand) (t:TypeId)
 (hop:o.op=.call { callee:=.builtin .append,args:=#[s,x],argTypes:=#[t,t] })
 {base B:Nat} {e:TypeId} {i:TypeInfo} {z:Value} {size bytes:Nat} (ht:P.underlying t=some (.slice e)) (hi:P.info? e=some i) (hz:i.zero=some z)
 (hsize:i.size=size) (hby:i.bytes=bytes) (hzs:z.cells.size=size) (hsz:0<size) {v:Value} {n m c:Nat} {xs news:List Value} {A:Option Addr} (hs:a.eval s=v) (hx:a.eval x=.slice A m c) (ho:w.ownsRow base e size v n xs)
 (hr:Rd w B size A m news) (h1:∀ u∈news,u.oneCell'=true) (h63:n+m≤maxLen) (hb:(n+m)*bytes≤140737488355328) (hbase:base≤w.heap.size)
 (h:∀ v' w',w'.ownsRow base e size v' (n+m) (xs ++ news)→w.grownBy w' v.ownBlock→Below base w w'→wpList P ops Q rest (a.put o.dst v') w'):wpList P ops Q (o :: rest) a w:=by
 refine wpList_plain hgd fun K hK=>?_
 obtain ⟨v',w',g1,g2,g3⟩:=run_app (P:=P) w (ty:=o.type) ht hi hz hsize hby hzs hsz ho hr h1 h63 hb hbase (c:=c)
 unfold Oper.wp execOp
 simp only [hop,resolve,invoke,builtin,Sem.run_bind,Sem.run_pure,Result.andThen_ok,List.map_toArray,List.map_cons,List.map_nil,hs,hx,g1]
 exact hK _ _ (h v' w' g2 g3 ((Below.refl base w).grown g3 hbase fun k e=>own_le ho e))
theorem own_emptyB2 (w:World) (t:TypeId) (size base:Nat) (h:base≤w.heap.size):(w.alloc (.cells #[] t)).ownsRow base t size (.slice (some ⟨w.heap.size,0,none⟩) 0 0) 0 []:=own_dn (own_empty w t size) h
def RetRow (t:TypeId) (size n:Nat) (xs:List Value) (w:World) (e:Ending) (w':World):Prop:=∃ v,e=.returned v∧Below w.heap.size w w'∧w'.ownsRow w.heap.size t size v n xs
theorem infoSpan:(Tryz.prog.info? 133).map (fun i=>(i.zero,i.size,i.bytes))=some (some (.agg #[.int .i64 0,.int .i64 0]),2,16):=by kernel_rfl
set_option maxRecDepth 100000 in
theorem p_CloneSpan (news:List Value) (A:Option Addr) (n c:Nat) (w:World) (hn:n≤100000) (hA:A=none→c=0) (hr:Rd w w.heap.size 2 A n news) (h1:∀ u∈news,u.oneCell'=true) :
 Calls Tryz.prog 156 #[.slice A n c] w (RetRow 133 2 n news w):=by
 obtain ⟨i0,hi,hz0,hz1,hz2⟩:=info_parts infoSpan
 have qT:∀ (w:World) (a:Option Addr) (n c n' c':Nat),(binOp .eql 113 (.slice a n c) (.slice none n' c')).run Tryz.prog w=.ok (.bool a.isNone) w:=fun w a n c n' c'=>Lib.run_eql_slice_nil w _ _ a n c n' c' Tryz.underlying113
 cases A with
 | none =>
   obtain rfl:=hA rfl
   have hn0:n=0:=by
    rcases Nat.eq_zero_or_pos n with h | h
    ·exact h
    ·obtain ⟨_,_,e,_⟩:=hr.2 h;cases e
   subst hn0
   obtain rfl:news=[]:=List.eq_nil_of_length_eq_zero (by have:=hr.1;omega)
   go_enter Tryz.func156,Tryz.ntmps156
   go_wp2
   go_ret
   exact ⟨_,rfl,Below.refl _ _,World.ownsRow_nil _ _ _ _⟩
 | some p =>
   have HR:=hd_ hr
   have H1:=hd_ h1
   clear hr h1
   go_enter Tryz.func156,Tryz.ntmps156
   go_wp2_with (at_builtin;refine wpList_app2 rfl (.tmp 5) (.tmp 6) 113 rfl (base:=w.heap.size) (B:=w.heap.size) (e:=133) (i:=i0) (size:=2) (bytes:=16) Tryz.underlying113 hi hz0 hz1 hz2 rfl (by decide) rfl rfl (n:=0) (xs:=[]) (own_emptyB2 w 133 2 w.heap.size lr_) (m:=n) (news:=news) (HR.out.alloc lr_ _) H1.out (by unfold maxLen;omega) (by omega) (by simp) ?_;intro v2 w2 hown2 hgrow2 hb2)
   go_ret
   refine ⟨v2,rfl,(show Below w.heap.size w (w.alloc (.cells #[] 133)) by exact bel_).trans hb2,?_⟩
   have h:=hown2
   simp only [Nat.zero_add,List.nil_append] at h
   exact h
theorem infoSight:(Tryz.prog.info? 70).map (fun i=>(i.zero,i.size,i.bytes))=some (some (.agg #[.int .i64 0,.int .i64 0,.int .i64 0,.int .i64 0,.int .i64 0,.int .i64 0,.int .i64 0]),7,56):=by kernel_rfl
def sgCells (S:List Sgt):List Value:=S.flatMap fun s=>[.int .i64 s.src,.int .i64 s.per,.int .i64 s.pap,.int .i64 s.leaf,.int .i64 s.day,.int .i64 s.kn,.int .i64 s.un]
end Go.Proofs.YtmcmbicapdcfmaaGreat
