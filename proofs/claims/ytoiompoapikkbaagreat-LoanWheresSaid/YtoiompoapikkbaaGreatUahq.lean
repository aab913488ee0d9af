/- Layer 2 of the texts that LoanWheres takes: Uahq. -/
import Derived.Test.YtoiompoapikkbaaGreatUagq
set_option linter.unusedVariables false
set_option linter.unusedSimpArgs false
/- The program's deeds that count. -/
namespace Go.Proofs.YtoiompoapikkbaaGreat
open Go.RowKit
end Go.Proofs.YtoiompoapikkbaaGreat
/- answer, truly. -/
namespace Go.Proofs.YtoiompoapikkbaaGreat
open Go.RowKit
def ansI (can cannot:Bool):Int:=if can then (if cannot then 2 else 1) else 0
theorem p_answer (can cannot:Bool) (w:World) :
 Calls Tryz.prog 127 #[.bool can,.bool cannot] w fun e w'=>e=.returned (.int .i64 (ansI can cannot))∧w=w':=by
 cases can <;> cases cannot <;>
 ·go_enter Tryz.func127,Tryz.ntmps127
  go_wp2
  go_ret
  exact ⟨rfl,rfl⟩
end Go.Proofs.YtoiompoapikkbaaGreat
/- slices.BinarySearch at numbers. -/
namespace Go.Proofs.YtoiompoapikkbaaGreat
open Go.RowKit
end Go.Proofs.YtoiompoapikkbaaGreat
/- slices.Equal at numbers; who may be, as a list; view.same. -/
namespace Go.Proofs.YtoiompoapikkbaaGreat
open Go.RowKit
attribute [local go_sem] Oper.semAt_some
theorem take_eq_succ {xs ys:List Int} {k:Nat} {x y:Int} (hx:xs[k]?=some x) (hy:ys[k]?=some y) (h:xs.take k=ys.take k):xs.take (k+1)=ys.take (k+1)↔x=y:=by
 rw [take_snoc_some hx,take_snoc_some hy,h]
 simp
set_option maxHeartbeats 1000000 in
theorem l_equal (xs ys:List Int) (v:Bool) (A B:Option Addr) (n c m d:Nat) (w:World) (hn:n≤1000000) (hm:m≤1000000) (hx:Is w w.heap.size A n xs) (hy:Is w w.heap.size B m ys) (hv:decide (xs=ys)=v) :
 Calls Tryz.prog 141 #[.slice A n c,.slice B m d] w fun e w'=>e=.returned (.bool v)∧Below w.heap.size w w':=by
 have HX:=Lib.hid hx
 have HY:=Lib.hid hy
 have HLX:=Lib.hid hx.len
 have HLY:=Lib.hid hy.len
 have HV:=Lib.hid hv
 clear hx hy hv
 by_cases hnm:n=m
 ·subst hnm
  go_enter Tryz.func141,Tryz.ntmps141
  go_wp2
  go_loopw [13] (fun i wr=>∃ k:Nat,k≤n∧i=.int .i64 k∧xs.take k=ys.take k∧Below w.heap.size w wr) (fun i _=>n - (intOf i).toNat)
  case atStart=>exact ⟨0,by omega,rfl,by simp,Below.refl _ _⟩
  case round =>
   obtain ⟨k,hk,rfl,hpre,hB⟩:=hrel
   have HP:=Lib.hid hpre
   clear hpre
   have hs0:w.heap.size≤wr.heap.size:=hB.size
   by_cases hlt:k<n
   ·obtain ⟨b,o,x,rfl,hb,hxk,hcx⟩:=(HX.out.ext hB (Nat.le_refl _)).at_ hlt
    obtain ⟨b',o',y,rfl,hb',hyk,hcy⟩:=(HY.out.ext hB (Nat.le_refl _)).at_ hlt
    have HXK:=Lib.hid hxk
    have HYK:=Lib.hid hyk
    clear hxk hyk
    have hbr:b<wr.heap.size:=by omega
    have hbr':b'<wr.heap.size:=by omega
    have HS:=Lib.hid (take_eq_succ HXK.out HYK.out HP.out)
    by_cases hxy:x=y
    ·have hb1:(x != y)=false:=by simp [hxy]
     have HXY:=Lib.hid hxy
     clear hxy
     go_wp2_with fail
     (refine rg_ ?_;(repeat (go_big_quiet_step (fail)));refine qn_ fun w1 hb1 hc1 hf1=>?_)
     go_wp2_with fail
     go_roundw
     case rel=>exact ⟨k+1,by omega,by go_num,HS.out.2 HXY.out,Below.then_ hB hb1⟩
     case measure=>exact ms_
    ·have hb1:(x != y)=true:=by simp [hxy]
     have HXY:=Lib.hid hxy
     clear hxy
     go_wp2_with fail
     (refine rg_ ?_;(repeat (go_big_quiet_step (fail)));refine qn_ fun w1 hb1 hc1 hf1=>?_)
     go_wp2_with fail
     go_ret
     refine ⟨ret_bool ?_,Below.then_ hB hb1⟩
     rw [← HV.out]
     symm
     apply decide_eq_false
     intro e
     exact HXY.out (HS.out.1 (by rw [e]))
   ·have hkn:k=n:=by omega
    have HKn:=Lib.hid hkn
    clear hkn
    go_wp2
    go_ret
    refine ⟨ret_bool ?_,hB⟩
    rw [← HV.out]
    symm
    apply decide_eq_true
    have h1:=HP.out
    rwa [List.take_of_length_le (by rw [HLX.out,HKn.out];exact Nat.le_refl _),List.take_of_length_le (by rw [HLY.out,HKn.out];exact Nat.le_refl _)] at h1
 ·have h1:((n:Int) != (m:Int))=true:=by simp;omega
  go_enter Tryz.func141,Tryz.ntmps141
  go_wp2
  go_ret
  refine ⟨ret_bool ?_,Below.refl _ _⟩
  rw [← HV.out]
  symm
  apply decide_eq_false
  intro e
  exact hnm (by rw [← HLX.out,← HLY.out,e])
end Go.Proofs.YtoiompoapikkbaaGreat
/- view.differing. -/
namespace Go.Proofs.YtoiompoapikkbaaGreat
open Go.RowKit
attribute [local go_sem] Oper.semAt_some
theorem own_ext {W W':World} {base size n:Nat} {e:TypeId} {v:Value} {xs:List Value} (h:W.ownsRow base e size v n xs) (hb:Below W.heap.size W W'):W'.ownsRow base e size v n xs :=
 own_keep h fun b hb'=>hb.block b (by obtain ⟨cur,hh⟩:=own_block h hb';exact block_lt hh)
end Go.Proofs.YtoiompoapikkbaaGreat
/- The reference's Put: a number put into a rising list. -/
namespace Go.Proofs.YtoiompoapikkbaaGreat
open Go.RowKit
attribute [local go_sem] Oper.semAt_some
theorem run_app {P:Program} (w:World) {base B:Nat} {t ty e:TypeId} {i:TypeInfo} {z:Value} {size bytes:Nat} (ht:P.underlying t=some (.slice e)) (hi:P.info? e=some i) (hz:i.zero=some z)
 (hsize:i.size=size) (hby:i.bytes=bytes) (hzs:z.cells.size=size) (hsz:0<size) {v:Value} {n m c:Nat} {xs news:List Value} {A:Option Addr} (ho:w.ownsRow base e size v n xs)
 (hr:Rd w B size A m news) (h1:∀ u∈news,u.oneCell'=true) (h63:n+m≤maxLen) (hb:(n+m)*bytes≤140737488355328) (hbase:base≤w.heap.size) :
 ∃ v' w',(Builtin.append_ #[t,t] ty #[v,.slice A m c]).run P w=.ok v' w'∧w'.ownsRow base e size v' (n+m) (xs ++ news)∧w.grownBy w' v.ownBlock:=by
 cases A with
 | none =>
   have hm:m=0:=by
    rcases Nat.eq_zero_or_pos m with h | h
    ·exact h
    ·obtain ⟨_,_,e,_⟩:=hr.2 h;cases e
   subst hm
   obtain rfl:news=[]:=List.eq_nil_of_length_eq_zero (by have:=hr.1;omega)
   refine ⟨v,w,?_,by simpa using ho,grown_of_below (Below.refl _ _) |> fun h=>⟨h.os,h.tape,h.output,h.size,fun _ _ _=>rfl⟩⟩
   rcases ho.2 with ⟨rfl,rfl⟩ | ⟨g,cap,cur,rfl,_,_,hnc,_⟩
   ·simp [Builtin.append_,run_underlying ht,sizeOf,typeInfo,hi,Builtin.lenOf,Builtin.firstCells]
   ·simp [Builtin.append_,run_underlying ht,sizeOf,typeInfo,hi,Builtin.lenOf,Builtin.firstCells,hnc,storeCells]
 | some ad =>
   have hnews:∀ j u,news[j]?=some u→w.cell? (ad.add j)=some u:=fun j u hj=>by
    rcases Nat.eq_zero_or_pos m with h | h
    ·subst h
     rw [List.eq_nil_of_length_eq_zero (l:=news) (by have:=hr.1;omega)] at hj
     simp at hj
    ·obtain ⟨b,o,e,_,h2⟩:=hr.2 h
     cases e
     rw [Addr.add_lit]
     exact h2 j u hj
   obtain ⟨v',w',g1,g2,g3,_,_⟩:=run_append_own_at (P:=P) w base t ty e i z size bytes ht hi hz hsize hby hzs hsz v n xs ho ad m c news hr.1 hnews h1 h63 hb hbase
   exact ⟨v',w',g1,g2,g3⟩
theorem own_empty (w:World) (t:TypeId) (size:Nat):(w.alloc (.cells #[] t)).ownsRow w.heap.size t size (.slice (some ⟨w.heap.size,0,none⟩) 0 0) 0 [] :=
 ⟨by simp,.inr ⟨w.heap.size,0,#[],rfl,Nat.le_refl _,World.alloc_heap_new w _,Nat.le_refl _,Nat.zero_le _,by simp,by simp⟩⟩
end Go.Proofs.YtoiompoapikkbaaGreat
