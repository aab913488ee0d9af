/- Layer 2 of the texts that LoanPlaces takes: Padq. -/
import Derived.Test.YtoiompoapikkbaaGreatPacq
set_option linter.unusedVariables false
set_option linter.unusedSimpArgs false
set_option maxHeartbeats 16000000
namespace Go.Proofs.YtoiompoapikkbaaGreat
open Go.RowKit
structure St where
 holder:Int
 hand:Int
 office:Bool
deriving DecidableEq
def St.zero:St:=⟨0,0,false⟩
end Go.Proofs.YtoiompoapikkbaaGreat
namespace Go.Proofs.YtoiompoapikkbaaGreat
open Go.RowKit Go.Maps
abbrev zT:Value:=.agg #[.slice none 0 0,.slice none 0 0,.slice none 0 0]
theorem wf_small {x:Int} (h0:0≤x) (h1:x≤1000000):(Lit.int .i64 x).wf=true:=WalkArith.wf_i64 (by omega)
def S6 (b7 b6 be:Nat) (v0 v1 v2 k p:Value) (o:Obj) (V:World):Prop :=
 V.cell? ⟨b7,0,none⟩=some v0∧V.cell? ⟨b7,1,none⟩=some v1∧V.cell? ⟨b7,2,none⟩=some v2∧V.cell? ⟨b6,2,none⟩=some k∧V.cell? ⟨b6,4,none⟩=some p∧V.heap[be]?=some o
def S9 (b7 b6:Nat) (v0 v1 v2:Value) (d:Deed) (V:World):Prop :=
 V.cell? ⟨b7,0,none⟩=some v0∧V.cell? ⟨b7,1,none⟩=some v1∧V.cell? ⟨b7,2,none⟩=some v2∧World.cell? V ⟨b6,0,none⟩=some (.int .i64 d.par)∧World.cell? V ⟨b6,1,none⟩=some (.int .i64 d.no)∧World.cell? V ⟨b6,2,none⟩=some (.int .i64 d.kind)∧World.cell? V ⟨b6,3,none⟩=some (.int .i64 d.lock)∧World.cell? V ⟨b6,4,none⟩=some (.int .i64 d.person)∧World.cell? V ⟨b6,5,none⟩=some (.int .i64 d.lo)∧World.cell? V ⟨b6,6,none⟩=some (.int .i64 d.hi)∧World.cell? V ⟨b6,7,none⟩=some (.int .i64 d.known)∧World.cell? V ⟨b6,8,none⟩=some (.int .i64 d.til)
end Go.Proofs.YtoiompoapikkbaaGreat
namespace Go.Proofs.YtoiompoapikkbaaGreat
open Go.RowKit Go.Shelf Go.Maps
attribute [local go_sem] Oper.semAt_some
theorem wpIn_named2 {F:Fence} {n:Nat} {P:Program} {c:Code} {Q:Exit→Act→World→Prop} {a:Act} {w:World} (h:∀ a0 W,a=a0→w=W→c.wpIn F n P Q a0 W):c.wpIn F n P Q a w:=h a w rfl rfl
attribute [local go_sem] Oper.semAt_some
def cutQ (R:Act→World→Prop):Exit→Act→World→Prop
 | .normal,a,w=>R a w
 | _,_,_=>False
theorem wpIn_cut {F:Fence} {n:Nat} {P:Program} {c:Code} {Q:Exit→Act→World→Prop} {a:Act} {w:World} (R:Act→World→Prop) (h:c.wpIn F n P (cutQ R) a w) (h2:∀ a' w',R a' w'→Q .normal a' w'):c.wpIn F n P Q a w :=
 wpIn_mono h fun e a' w' hr=>by cases e <;> first | exact h2 _ _ hr | exact hr.elim
section
variable {b:Nat} {P:Nat→Prop} {W W':World}
end
abbrev Sc:=(Nat × St) × (Nat × St) × (Nat × St)
theorem ownFrom_keepP {β:Type} {B:Nat} {P:Nat→Prop} (V0:World) (hP:∀ k,P k→k<B) (hV:∀ k,P k→k<V0.heap.size):OwnFrom B (fun (_:β) W=>KeepP P V0 W):=fun _ X Y row hs hg hr =>
 ⟨Nat.le_trans hs.size hg.size,fun k hk=>(hg.block k (Nat.lt_of_lt_of_le (hV k hk) hs.size) fun e=>by have:=(hr k e.symm).1;have:=hP k hk;omega).trans (hs.blk k hk)⟩
end Go.Proofs.YtoiompoapikkbaaGreat
