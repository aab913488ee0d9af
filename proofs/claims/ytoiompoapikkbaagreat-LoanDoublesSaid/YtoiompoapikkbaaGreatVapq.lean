/- Layer 2 of the texts that LoanDoubles takes: Vapq. -/
import Derived.Test.YtoiompoapikkbaaGreatVanq
import Derived.Test.YtoiompoapikkbaaGreatVaoq
set_option linter.unusedVariables false
set_option linter.unusedSimpArgs false
/- A round of threads: what is there in the midst of it, behind each of its operations. -/
namespace Go.Proofs.YtoiompoapikkbaaGreat
open Go.RowKit Go.Maps
theorem own_le {w:World} {base size n:Nat} {e:TypeId} {v:Value} {xs:List Value} (h:w.ownsRow base e size v n xs) {b:Nat} (hb:v.ownBlock=some b):base≤b:=by
 rcases h.2 with ⟨rfl,_⟩ | ⟨g,cap,cur,rfl,hg,_⟩
 ·simp [Value.ownBlock] at hb
 ·simp [Value.ownBlock] at hb
  omega
section
variable {w V V':World} {bm be b6 b7:Nat} {d:Deed} {L:List (Nm × Value)} {gd gi gs:Nm→Value} {Sd Si St:Nm→TL} {cs:Array Value}
end
end Go.Proofs.YtoiompoapikkbaaGreat
/- A loop over an iterator that holds loops of its own: what its caller owes. -/
namespace Go.Proofs.YtoiompoapikkbaaGreat
open Go.RowKit Go.Shelf Go.Maps
attribute [local go_sem] Oper.semAt_some
theorem KeepQ.putObj {b:Nat} {P:Nat→Prop} (W:World) (l:Nat) (o:Obj) (hP:¬ P l) (hb:l<b):KeepQ b P W (W.putObj l o) :=
 ⟨by simp,fun k hk=>World.putObj_heap_other (fun e=>hP (e ▸ hk)),fun k h1 _=>World.putObj_heap_other (by omega)⟩
end Go.Proofs.YtoiompoapikkbaaGreat
/- Structs with slices that come in by value: Asked, Opening. -/
namespace Go.Proofs.YtoiompoapikkbaaGreat
open Go.ChangeShapes Go.WideShapes Go.ChangeAt Go.RowKit Go.Deep Go.Joins
theorem c1_ints:Tryz.prog.cellsOf 30=1:=by kernel_rfl
section
variable {H:Type} {enc:TypeId × Value→H} {w:World} {base:Nat} {spare:Nat→Bool} {held:Bool} {r:Reach} {b0:Nat} {v:Value} {d:DataW H} {p:List MemPlace}
theorem ints_cell {fuel:Nat} {cs:List Value} {x:DataW H × List MemPlace} (h:DataW.trod enc Tryz.prog w base spare held fuel 30 cs=some x):∃ A n c,cs=[.slice A n c]∧n≤c∧c≤maxLen∧∃ l:List Int,Is w w.heap.size A n l:=by
 have h0:=h
 rcases open_slice Tryz.underlying30 h with ⟨rfl,_⟩ | ⟨a,len,cap,m,nn,D,Pl,rfl,_⟩
 ·exact ⟨none,0,0,rfl,Nat.le_refl _,Nat.zero_le _,[],Rd.nil_⟩
 ·obtain ⟨h1,h2,h3⟩:=ints_of (A:=some a) (n:=len) (c:=cap) (by simpa [Value.cells] using h0)
  exact ⟨some a,len,cap,rfl,h1,h2,h3⟩
end
end Go.Proofs.YtoiompoapikkbaaGreat
/- A range over a function, within a round or not: what its caller owes, where maps are kept. -/
namespace Go.Proofs.YtoiompoapikkbaaGreat
open Go.RowKit Go.Shelf Go.Maps
attribute [local go_sem] Oper.semAt_some
def OwnW {β:Type} (B:Nat) (I:β→World→Prop):Prop :=
 ∀ s X Y row,I s X→X.grownBy Y row→(∀ r,row=some r→B≤r∧∃ o:Obj,X.heap[r]?=some o∧o.isCells=false∧o.isWalk=false)→I s Y
theorem OwnW.of {β:Type} {B:Nat} {I:β→World→Prop} (h:OwnFrom B I):OwnW B I:=fun s X Y row hs hg hr=>h s X Y row hs hg fun r e=>⟨(hr r e).1,by
 obtain ⟨o,h1,h2,_⟩:=(hr r e).2
 exact ⟨o,h1,h2⟩⟩
theorem OwnW.and {β:Type} {B:Nat} {I J:β→World→Prop} (h:OwnW B I) (g:OwnW B J):OwnW B (fun s W=>I s W∧J s W):=fun s X Y row hs hg hr=>⟨h s X Y row hs.1 hg hr,g s X Y row hs.2 hg hr⟩
end Go.Proofs.YtoiompoapikkbaaGreat
