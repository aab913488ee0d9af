/- Layer 2 of the texts that LoanChecks takes: Vacq. -/
import Derived.Test.YtklikciiaogpbaaGreatVaaq
set_option linter.unusedVariables false
set_option linter.unusedSimpArgs false
/- CheckDeed of the reference and of the program, layer 1. -/
namespace Go.Proofs.YtklikciiaogpbaaGreat
open Go.RowKit
end Go.Proofs.YtklikciiaogpbaaGreat
/- A region that draws its order, whose operations read what is there and whose calls make memory of their own alone: one walk, in the order of the text. -/
namespace Go.Proofs.YtklikciiaogpbaaGreat
open Go.RowKit
def Grow (W : World) := { w : World // Below W.heap.size W w }
instance (W : World) : Nonempty (Grow W) := ⟨⟨W, Below.refl _ _⟩⟩
@[go_sem] theorem Grow.cell {W : World} (g : Grow W) (b o : Nat) (h : b < W.heap.size) : g.1.cell? ⟨b, o, none⟩ = W.cell? ⟨b, o, none⟩ := g.2.cell (p := ⟨b, o, none⟩) h
theorem wp_region_grow {P : Program} {id : Nat} {Q : Exit → Act → World → Prop} {a : Act} {w : World} {l : List Oper} (hm : P.follows .mixedOrders = true) (hB : Region.lexB .any l.toArray = true)
 (h : wpQuiet P l.toArray (fun w' => ∃ g : Grow w, w' = g.1) (fun a' => ∀ w', (∃ g : Grow w, w' = g.1) → Q .normal a' w') l a) : (Code.region id l.toArray true).wp P Q a w :=
 wp_region_quiet (C := fun w' => ∃ g : Grow w, w' = g.1) hm hB ⟨⟨w.drew, (Below.refl _ _).drew⟩, rfl⟩ (by simpa using h)
theorem Calls.grow_of {P : Program} {f : FuncId} {args : Array Value} {W : World} {g : Grow W} {v : Value}
 (h : Calls P f args g.1 fun e w' => e = .returned v ∧ Below g.1.heap.size g.1 w') : Calls P f args g.1 fun e w'' => e = .returned v ∧ ∃ g' : Grow W, w'' = g'.1 :=
 h.mono fun _ w'' ⟨he, hb⟩ => ⟨he, ⟨w'', g.2.trans (hb.mono g.2.size)⟩, rfl⟩
theorem Calls.grow_same {P : Program} {f : FuncId} {args : Array Value} {W : World} {g : Grow W} {v : Value}
 (h : Calls P f args g.1 fun e w' => e = .returned v ∧ g.1 = w') : Calls P f args g.1 fun e w'' => e = .returned v ∧ ∃ g' : Grow W, w'' = g'.1 :=
 h.mono fun _ _ ⟨he, hb⟩ => ⟨he, g, hb.symm⟩
theorem Calls.grow_all {P : Program} {f : FuncId} {args : Array Value} {W : World} {g : Grow W} {v : Value}
 (h : ∀ g : Grow W, Calls P f args g.1 fun e w' => e = .returned v ∧ Below g.1.heap.size g.1 w') : Calls P f args g.1 fun e w'' => e = .returned v ∧ ∃ g' : Grow W, w'' = g'.1 := Calls.grow_of (h g)
end Go.Proofs.YtklikciiaogpbaaGreat
