/- Layer 2 of the texts that the statements over histories take: Papq. -/
import Derived.Test.YtmcmbicapdcfmaaGreatPafq
set_option linter.unusedVariables false
set_option linter.unusedSimpArgs false
set_option maxHeartbeats 16000000
namespace Go.Proofs.YtmcmbicapdcfmaaGreat
open Go.RowKit Go.Maps
end Go.Proofs.YtmcmbicapdcfmaaGreat
namespace Go.Proofs.YtmcmbicapdcfmaaGreat
open Go.RowKit
attribute [local go_sem] Oper.semAt_some
theorem run_app {P:Program} (w:World) {base B:Nat} {t ty e:TypeId} {i:TypeInfo} {z:Value} {size bytes:Nat} (ht:P.underlying t=some (.slice e)) (hi:P.info? e=some i) (hz:i.zero=some z)
 (hsize:i.size=size) (hby:i.bytes=bytes) (hzs:z.cells.size=size) (hsz:0<size) {v:Value} {n m c:Nat} {xs news:List Value} {A:Option Addr} (ho:w.ownsRow base e size v n xs)
 (hr:Rd w B size A m news) (h1:∀ u∈news,u.oneCell'=true) (h63:n+m≤maxLen) (hb:(n+m)*bytes≤140737488355328) (hbase:base≤w.heap.size) :
 ∃ v' w',(Builtin.append_ #[t,t] ty #[v,.slice A m c]).run P w=.ok v' w'∧w'.ownsRow base e size v' (n+m) (xs ++ news)∧w.grownBy w' v.ownBlock:=by
 cases A with
 | none =>
   have hm:m=0:=by
    rcases Nat.eq_zero_or_pos m with h | h
    ·exact h
    ·obtain ⟨_,_,e,_⟩:=hr.2 h;cases e
   subst hm
   obtain rfl:news=[]:=List.eq_nil_of_length_eq_zero (by have:=hr.1;omega)
   refine ⟨v,w,?_,by simpa using ho,grown_of_below (Below.refl _ _) |> fun h=>⟨h.os,h.tape,h.output,h.size,fun _ _ _=>rfl⟩⟩
   rcases ho.2 with ⟨rfl,rfl⟩ | ⟨g,cap,cur,rfl,_,_,hnc,_⟩
   ·simp [Builtin.append_,run_underlying ht,sizeOf,typeInfo,hi,Builtin.lenOf,Builtin.firstCells]
   ·simp [Builtin.append_,run_underlying ht,sizeOf,typeInfo,hi,Builtin.lenOf,Builtin.firstCells,hnc,storeCells]
 | some ad =>
   have hnews:∀ j u,news[j]?=some u→w.cell? (ad.add j)=some u:=fun j u hj=>by
    rcases Nat.eq_zero_or_pos m with h | h
    ·subst h
     rw [List.eq_nil_of_length_eq_zero (l:=news) (by have:=hr.1;omega)] at hj
     simp at hj
    ·obtain ⟨b,o,e,_,h2⟩:=hr.2 h
     cases e
     rw [Addr.add_lit]
     exact h2 j u hj
   obtain ⟨v',w',g1,g2,g3,_,_⟩:=run_append_own_at (P:=P) w base t ty e i z size bytes ht hi hz hsize hby hzs hsz v n xs ho ad m c news hr.1 hnews h1 h63 hb hbase
   exact ⟨v',w',g1,g2,g3⟩
theorem own_empty (w:World) (t:TypeId) (size:Nat):(w.alloc (.cells #[] t)).ownsRow w.heap.size t size (.slice (some ⟨w.heap.size,0,none⟩) 0 0) 0 [] :=
 ⟨by simp,.inr ⟨w.heap.size,0,#[],rfl,lr_,World.alloc_heap_new w _,lr_,Nat.zero_le _,by simp,by simp⟩⟩
end Go.Proofs.YtmcmbicapdcfmaaGreat
