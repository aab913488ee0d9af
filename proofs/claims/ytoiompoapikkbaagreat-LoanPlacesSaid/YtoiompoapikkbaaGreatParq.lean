/- Layer 2 of the texts that LoanPlaces takes: Parq. -/
import Derived.Test.YtoiompoapikkbaaGreatPapq
set_option linter.unusedVariables false
set_option linter.unusedSimpArgs false
set_option maxHeartbeats 16000000
namespace Go.Proofs.YtoiompoapikkbaaGreat
open Go.RowKit Go.Maps
theorem own_le {w:World} {base size n:Nat} {e:TypeId} {v:Value} {xs:List Value} (h:w.ownsRow base e size v n xs) {b:Nat} (hb:v.ownBlock=some b):base≤b:=by
 rcases h.2 with ⟨rfl,_⟩ | ⟨g,cap,cur,rfl,hg,_⟩
 ·simp [Value.ownBlock] at hb
 ·simp [Value.ownBlock] at hb
  omega
section
variable {w V V':World} {bm be b6 b7:Nat} {d:Deed} {L:List (Nm × Value)} {gd gi gs:Nm→Value} {Sd Si St:Nm→TL} {cs:Array Value}
end
section
variable {w w':World} {lo B B' size n:Nat} {A:Option Addr} {xs:List Value}
end
section
variable {w w':World} {lo B B':Nat} {T:TL} {Ad Ai As:Option Addr} {cd ci cs:Nat}
end
end Go.Proofs.YtoiompoapikkbaaGreat
namespace Go.Proofs.YtoiompoapikkbaaGreat
open Go.RowKit
attribute [local go_sem] Oper.semAt_some
theorem run_app {P:Program} (w:World) {base B:Nat} {t ty e:TypeId} {i:TypeInfo} {z:Value} {size bytes:Nat} (ht:P.underlying t=some (.slice e)) (hi:P.info? e=some i) (hz:i.zero=some z)
 (hsize:i.size=size) (hby:i.bytes=bytes) (hzs:z.cells.size=size) (hsz:0<size) {v:Value} {n m c:Nat} {xs news:List Value} {A:Option Addr} (ho:w.ownsRow base e size v n xs)
 (hr:Rd w B size A m news) (h1:∀ u∈news,u.oneCell'=true) (h63:n+m≤maxLen) (hb:(n+m)*bytes≤140737488355328) (hbase:base≤w.heap.size) :
 ∃ v' w',(Builtin.append_ #[t,t] ty #[v,.slice A m c]).run P w=.ok v' w'∧w'.ownsRow base e size v' (n+m) (xs ++ news)∧w.grownBy w' v.ownBlock:=by
 cases A with
 | none =>
   have hm:m=0:=by
    rcases Nat.eq_zero_or_pos m with h | h
    ·exact h
    ·obtain ⟨_,_,e,_⟩:=hr.2 h;cases e
   subst hm
   obtain rfl:news=[]:=List.eq_nil_of_length_eq_zero (by have:=hr.1;omega)
   refine ⟨v,w,?_,by simpa using ho,grown_of_below (Below.refl _ _) |> fun h=>⟨h.os,h.tape,h.output,h.size,fun _ _ _=>rfl⟩⟩
   rcases ho.2 with ⟨rfl,rfl⟩ | ⟨g,cap,cur,rfl,_,_,hnc,_⟩
   ·simp [Builtin.append_,run_underlying ht,sizeOf,typeInfo,hi,Builtin.lenOf,Builtin.firstCells]
   ·simp [Builtin.append_,run_underlying ht,sizeOf,typeInfo,hi,Builtin.lenOf,Builtin.firstCells,hnc,storeCells]
 | some ad =>
   have hnews:∀ j u,news[j]?=some u→w.cell? (ad.add j)=some u:=fun j u hj=>by
    rcases Nat.eq_zero_or_pos m with h | h
    ·subst h
     rw [List.eq_nil_of_length_eq_zero (l:=news) (by have:=hr.1;omega)] at hj
     simp at hj
    ·obtain ⟨b,o,e,_,h2⟩:=hr.2 h
     cases e
     rw [Addr.add_lit]
     exact h2 j u hj
   obtain ⟨v',w',g1,g2,g3,_,_⟩:=run_append_own_at (P:=P) w base t ty e i z size bytes ht hi hz hsize hby hzs hsz v n xs ho ad m c news hr.1 hnews h1 h63 hb hbase
   exact ⟨v',w',g1,g2,g3⟩
theorem step_app {P:Program} {w:World} {ops:Array Oper} {o:Oper} {a:Act} {K:Act→World→Prop} {Q:Exit→Act→World→Prop} {E:Prop} (hgd:o.guard=none) (s x:Operand) (t:TypeId)
 (hop:o.op=.call { callee:=.builtin .append,args:=#[s,x],argTypes:=#[t,t] })
 {base B:Nat} {e:TypeId} {i:TypeInfo} {z:Value} {size bytes:Nat} (ht:P.underlying t=some (.slice e)) (hi:P.info? e=some i) (hz:i.zero=some z)
 (hsize:i.size=size) (hby:i.bytes=bytes) (hzs:z.cells.size=size) (hsz:0<size) {v:Value} {n m c:Nat} {xs news:List Value} {A:Option Addr} (hs:a.eval s=v) (hx:a.eval x=.slice A m c) (ho:w.ownsRow base e size v n xs)
 (hr:Rd w B size A m news) (h1:∀ u∈news,u.oneCell'=true) (h63:n+m≤maxLen) (hb:(n+m)*bytes≤140737488355328) (hbase:base≤w.heap.size)
 (h:∀ v' w',w'.ownsRow base e size v' (n+m) (xs ++ news)→w.grownBy w' v.ownBlock→K (a.put o.dst v') w') :
 if Region.wanted o (yielded ops a.tmps)=true then Oper.wp P o a w K Q else E:=by
 have hw:Region.wanted o (yielded ops a.tmps)=true:=by simp [Region.wanted,hgd]
 rw [if_pos hw]
 obtain ⟨v',w',g1,g2,g3⟩:=run_app (P:=P) w (ty:=o.type) ht hi hz hsize hby hzs hsz ho hr h1 h63 hb hbase (c:=c)
 unfold Oper.wp execOp
 simp only [hop,resolve,invoke,builtin,Sem.run_bind,Sem.run_pure,Result.andThen_ok,List.map_toArray,List.map_cons,List.map_nil,hs,hx,g1]
 exact h v' w' g2 g3
theorem own_empty (w:World) (t:TypeId) (size:Nat):(w.alloc (.cells #[] t)).ownsRow w.heap.size t size (.slice (some ⟨w.heap.size,0,none⟩) 0 0) 0 [] :=
 ⟨by simp,.inr ⟨w.heap.size,0,#[],rfl,lr_,World.alloc_heap_new w _,lr_,Nat.zero_le _,by simp,by simp⟩⟩
end Go.Proofs.YtoiompoapikkbaaGreat
namespace Go.Proofs.YtoiompoapikkbaaGreat
open Go.ChangeShapes Go.WideShapes Go.ChangeAt Go.RowKit Go.Deep Go.Joins
theorem c1_ints:Tryz.prog.cellsOf 30=1:=by kernel_rfl
section
variable {H:Type} {enc:TypeId × Value→H} {w:World} {base:Nat} {spare:Nat→Bool} {held:Bool} {r:Reach} {b0:Nat} {v:Value} {d:DataW H} {p:List MemPlace}
theorem ints_cell {fuel:Nat} {cs:List Value} {x:DataW H × List MemPlace} (h:DataW.trod enc Tryz.prog w base spare held fuel 30 cs=some x):∃ A n c,cs=[.slice A n c]∧n≤c∧c≤maxLen∧∃ l:List Int,Is w w.heap.size A n l:=by
 have h0:=h
 rcases open_slice Tryz.underlying30 h with ⟨rfl,_⟩ | ⟨a,len,cap,m,nn,D,Pl,rfl,_⟩
 ·exact ⟨none,0,0,rfl,lr_,Nat.zero_le _,[],Rd.nil_⟩
 ·obtain ⟨h1,h2,h3⟩:=ints_of (A:=some a) (n:=len) (c:=cap) (by simpa [Value.cells] using h0)
  exact ⟨some a,len,cap,rfl,h1,h2,h3⟩
end
end Go.Proofs.YtoiompoapikkbaaGreat
namespace Go.Proofs.YtoiompoapikkbaaGreat
open Go.RowKit Go.Maps
theorem wpList_app2 {P:Program} {w:World} {ops:Array Oper} {rest:List Oper} {o:Oper} {a:Act} {Q:Exit→Act→World→Prop} (hgd:o.guard=none) (s x:Operand) (t:TypeId)
 (hop:o.op=.call { callee:=.builtin .append,args:=#[s,x],argTypes:=#[t,t] })
 {base B:Nat} {e:TypeId} {i:TypeInfo} {z:Value} {size bytes:Nat} (ht:P.underlying t=some (.slice e)) (hi:P.info? e=some i) (hz:i.zero=some z)
 (hsize:i.size=size) (hby:i.bytes=bytes) (hzs:z.cells.size=size) (hsz:0<size) {v:Value} {n m c:Nat} {xs news:List Value} {A:Option Addr} (hs:a.eval s=v) (hx:a.eval x=.slice A m c) (ho:w.ownsRow base e size v n xs)
 (hr:Rd w B size A m news) (h1:∀ u∈news,u.oneCell'=true) (h63:n+m≤maxLen) (hb:(n+m)*bytes≤140737488355328) (hbase:base≤w.heap.size)
 (h:∀ v' w',w'.ownsRow base e size v' (n+m) (xs ++ news)→w.grownBy w' v.ownBlock→Below base w w'→wpList P ops Q rest (a.put o.dst v') w'):wpList P ops Q (o :: rest) a w:=by
 refine wpList_plain hgd fun K hK=>?_
 obtain ⟨v',w',g1,g2,g3⟩:=run_app (P:=P) w (ty:=o.type) ht hi hz hsize hby hzs hsz ho hr h1 h63 hb hbase (c:=c)
 unfold Oper.wp execOp
 simp only [hop,resolve,invoke,builtin,Sem.run_bind,Sem.run_pure,Result.andThen_ok,List.map_toArray,List.map_cons,List.map_nil,hs,hx,g1]
 exact hK _ _ (h v' w' g2 g3 ((Below.refl base w).grown g3 hbase fun k e=>own_le ho e))
theorem own_emptyB2 (w:World) (t:TypeId) (size base:Nat) (h:base≤w.heap.size):(w.alloc (.cells #[] t)).ownsRow base t size (.slice (some ⟨w.heap.size,0,none⟩) 0 0) 0 []:=own_dn (own_empty w t size) h
def RetRow (t:TypeId) (size n:Nat) (xs:List Value) (w:World) (e:Ending) (w':World):Prop:=∃ v,e=.returned v∧Below w.heap.size w w'∧w'.ownsRow w.heap.size t size v n xs
theorem infoSpan:(Tryz.prog.info? 143).map (fun i=>(i.zero,i.size,i.bytes))=some (some (.agg #[.int .i64 0,.int .i64 0]),2,16):=by kernel_rfl
set_option maxRecDepth 100000 in
theorem p_CloneSpan (news:List Value) (A:Option Addr) (n c:Nat) (w:World) (hn:n≤100000) (hA:A=none→c=0) (hr:Rd w w.heap.size 2 A n news) (h1:∀ u∈news,u.oneCell'=true) :
 Calls Tryz.prog 191 #[.slice A n c] w (RetRow 143 2 n news w):=by
 obtain ⟨i0,hi,hz0,hz1,hz2⟩:=info_parts infoSpan
 have qT:∀ (w:World) (a:Option Addr) (n c n' c':Nat),(binOp .eql 117 (.slice a n c) (.slice none n' c')).run Tryz.prog w=.ok (.bool a.isNone) w:=fun w a n c n' c'=>Lib.run_eql_slice_nil w _ _ a n c n' c' Tryz.underlying117
 cases A with
 | none =>
   obtain rfl:=hA rfl
   have hn0:n=0:=by
    rcases Nat.eq_zero_or_pos n with h | h
    ·exact h
    ·obtain ⟨_,_,e,_⟩:=hr.2 h;cases e
   subst hn0
   obtain rfl:news=[]:=List.eq_nil_of_length_eq_zero (by have:=hr.1;omega)
   go_enter Tryz.func191,Tryz.ntmps191
   go_wp2
   go_ret
   exact ⟨_,rfl,Below.refl _ _,World.ownsRow_nil _ _ _ _⟩
 | some p =>
   have HR:=hd_ hr
   have H1:=hd_ h1
   clear hr h1
   go_enter Tryz.func191,Tryz.ntmps191
   go_wp2_with (at_builtin;refine wpList_app2 rfl (.tmp 5) (.tmp 6) 117 rfl (base:=w.heap.size) (B:=w.heap.size) (e:=143) (i:=i0) (size:=2) (bytes:=16) Tryz.underlying117 hi hz0 hz1 hz2 rfl (by decide) rfl rfl (n:=0) (xs:=[]) (own_emptyB2 w 143 2 w.heap.size lr_) (m:=n) (news:=news) (HR.out.alloc lr_ _) H1.out (by unfold maxLen;omega) (by omega) (by simp) ?_;intro v2 w2 hown2 hgrow2 hb2)
   go_ret
   refine ⟨v2,rfl,(show Below w.heap.size w (w.alloc (.cells #[] 143)) by exact bel_).trans hb2,?_⟩
   have h:=hown2
   simp only [Nat.zero_add,List.nil_append] at h
   exact h
theorem infoSight:(Tryz.prog.info? 38).map (fun i=>(i.zero,i.size,i.bytes))=some (some (.agg #[.int .i64 0,.int .i64 0,.int .i64 0,.int .i64 0,.int .i64 0,.int .i64 0,.int .i64 0]),7,56):=by kernel_rfl
def sgCells (S:List Sgt):List Value:=S.flatMap fun s=>[.int .i64 s.src,.int .i64 s.per,.int .i64 s.pap,.int .i64 s.leaf,.int .i64 s.day,.int .i64 s.kn,.int .i64 s.un]
end Go.Proofs.YtoiompoapikkbaaGreat
