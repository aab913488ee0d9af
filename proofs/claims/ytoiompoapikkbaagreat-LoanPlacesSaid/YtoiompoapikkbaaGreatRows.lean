/-
  No cell of these rows narrows 'for every input' (looked for: loops, veiled, ifaces, maps, wideKeys, modest, calm, conditions, laid).
  DERIVED. THE GIVEN ROWS OF THIS SEAT. 4 by the template 'for every input the law returns true; each argument reads behind the call as it read before'; 0 by the template 'total and deterministic' (their statements: YtoiompoapikkbaaGreatTotals.lean).
  GIVEN WITH THE SEED: the statements are not yours to turn. If you find one false, say at which input.
  Laid BY PROGRAM, IN A SANDBOX (cutbox-rows.mjs): the forced cells as the released guide's own fill.sh prints them over the translation a9cdfd6213c73e93… (all of the seat's roots in one cut). By AI agents, Wed Nov 11 2026. No macro, syntax, notation, axiom, sorry.
-/
import Derived.Test.YtoiompoapikkbaaGreatChecked
import GoSem.Claim
import GoSem.ClaimJoined
import GoSem.ClaimMapViews
import Derived.JoinedTies
import Derived.KernelRfl
namespace Go.Proofs.YtoiompoapikkbaaGreat
/- THE CELL 'sum', in the pinned program and in every row, IS THE sha256 OF THE DUMP (.gsa) THAT YtoiompoapikkbaaGreatProg.lean LOADS. Nothing in Lean hashes anything: it is a label: what it is worth is what the hold of that sum in a sandbox is worth. -/
noncomputable def Tryz.pinned : Pinned := { name := "ytoiompoapikkbaagreat", sum := "a9cdfd6213c73e93ff57e6330a8dd228e0b0bf50ac740d78b06eacef6c9a380e", checked := Tryz.checked }
namespace Rows
def none {H : Type} : Left H := { results := [], args := [] }

/-- 'parviselaw02.LoanChecks': WHATEVER THE INPUT: true; the input reads as it did. -/
def loanChecksSpec : ChangeSpec := { name := "loanChecks", fn := fun _ => fun
  | [d1, d2] => { results := [.lit (.bool true)], args := [d1, d2] }
  | _ => none }
def loanChecksRow : OpenClaim := { program := "ytoiompoapikkbaagreat", sum := "a9cdfd6213c73e93ff57e6330a8dd228e0b0bf50ac740d78b06eacef6c9a380e", func := "parvise/parviselaw02.LoanChecks", spec := "loanChecks", inPlace := ["slices.overlaps[parvise/api.Sight]"], unfollowed := true, recurses := true, plainKeys := false, apart := false }
def LoanChecksSaid : Prop := loanChecksRow.holds Tryz.pinned (OpenSpec.ofChange loanChecksSpec)

/-- ITS FALSE NEIGHBOUR: 'it returns false'. Refute it at one input. -/
def loanChecksWrong : ChangeSpec := { name := "loanChecks", fn := fun _ => fun
  | [d1, d2] => { results := [.lit (.bool false)], args := [d1, d2] }
  | _ => none }
def LoanChecksWrongFalsely : Prop := loanChecksRow.holds Tryz.pinned (OpenSpec.ofChange loanChecksWrong)

/-- 'parviselaw02.LoanDoubles': WHATEVER THE INPUT: true; the input reads as it did. -/
def loanDoublesSpec : ChangeSpec := { name := "loanDoubles", fn := fun _ => fun
  | [d1, d2, d3] => { results := [.lit (.bool true)], args := [d1, d2, d3] }
  | _ => none }
def loanDoublesRow : OpenClaim := { program := "ytoiompoapikkbaagreat", sum := "a9cdfd6213c73e93ff57e6330a8dd228e0b0bf50ac740d78b06eacef6c9a380e", func := "parvise/parviselaw02.LoanDoubles", spec := "loanDoubles", unfollowed := true, recurses := true, plainKeys := false, apart := false }
def LoanDoublesSaid : Prop := loanDoublesRow.holds Tryz.pinned (OpenSpec.ofChange loanDoublesSpec)

/-- ITS FALSE NEIGHBOUR: 'it returns false'. Refute it at one input. -/
def loanDoublesWrong : ChangeSpec := { name := "loanDoubles", fn := fun _ => fun
  | [d1, d2, d3] => { results := [.lit (.bool false)], args := [d1, d2, d3] }
  | _ => none }
def LoanDoublesWrongFalsely : Prop := loanDoublesRow.holds Tryz.pinned (OpenSpec.ofChange loanDoublesWrong)

/-- 'parviselaw02.LoanWheres': WHATEVER THE INPUT: true; the input reads as it did. -/
def loanWheresSpec : ChangeSpec := { name := "loanWheres", fn := fun _ => fun
  | [d1, d2] => { results := [.lit (.bool true)], args := [d1, d2] }
  | _ => none }
def loanWheresRow : OpenClaim := { program := "ytoiompoapikkbaagreat", sum := "a9cdfd6213c73e93ff57e6330a8dd228e0b0bf50ac740d78b06eacef6c9a380e", func := "parvise/parviselaw02.LoanWheres", spec := "loanWheres", unfollowed := true, recurses := true, plainKeys := false, apart := false }
def LoanWheresSaid : Prop := loanWheresRow.holds Tryz.pinned (OpenSpec.ofChange loanWheresSpec)

/-- ITS FALSE NEIGHBOUR: 'it returns false'. Refute it at one input. -/
def loanWheresWrong : ChangeSpec := { name := "loanWheres", fn := fun _ => fun
  | [d1, d2] => { results := [.lit (.bool false)], args := [d1, d2] }
  | _ => none }
def LoanWheresWrongFalsely : Prop := loanWheresRow.holds Tryz.pinned (OpenSpec.ofChange loanWheresWrong)

/-- 'parviselaw02.LoanPlaces': WHATEVER THE INPUT: true; the input reads as it did. -/
def loanPlacesSpec : ChangeSpec := { name := "loanPlaces", fn := fun _ => fun
  | [d1, d2, d3] => { results := [.lit (.bool true)], args := [d1, d2, d3] }
  | _ => none }
def loanPlacesRow : OpenClaim := { program := "ytoiompoapikkbaagreat", sum := "a9cdfd6213c73e93ff57e6330a8dd228e0b0bf50ac740d78b06eacef6c9a380e", func := "parvise/parviselaw02.LoanPlaces", spec := "loanPlaces", unfollowed := true, recurses := true, plainKeys := false, apart := false }
def LoanPlacesSaid : Prop := loanPlacesRow.holds Tryz.pinned (OpenSpec.ofChange loanPlacesSpec)

/-- ITS FALSE NEIGHBOUR: 'it returns false'. Refute it at one input. -/
def loanPlacesWrong : ChangeSpec := { name := "loanPlaces", fn := fun _ => fun
  | [d1, d2, d3] => { results := [.lit (.bool false)], args := [d1, d2, d3] }
  | _ => none }
def LoanPlacesWrongFalsely : Prop := loanPlacesRow.holds Tryz.pinned (OpenSpec.ofChange loanPlacesWrong)

/- THE SECOND FORM. 'bulk': how many values and letters a reading holds, each counted each time it is reached (what is shared counts as often as it is met; a slice's spare places count too). A statement '..UptoSaid' is the law's where the arguments, and the package variables that the reading takes, are together of bulk at most 1048576: NARROWER than '..Said'. Prove '..Said' where nothing that the law and all that it calls make is longer than what came in: it says more and counts as full. Else prove '..UptoSaid'. A law counts once. -/
mutual
def uptoBulk {H : Type} : DataW H → Nat
  | .lit (.string bytes) => bytes.length + 1
  | .lit _ => 1
  | .nil => 1
  | .ptr d => uptoBulk d + 1
  | .slice elems spare => uptoBulkAll elems + uptoBulkAll spare + 1
  | .agg parts => uptoBulkAll parts + 1
  | .iface _ d => uptoBulk d + 1
  | .map entries => uptoBulkEntries entries + 1
  | .held _ => 1
def uptoBulkAll {H : Type} : List (DataW H) → Nat
  | [] => 0
  | d :: r => uptoBulk d + uptoBulkAll r
def uptoBulkEntries {H : Type} : List (Lit × DataW H) → Nat
  | [] => 0
  | x :: r => uptoBulkEntry x + uptoBulkEntries r
def uptoBulkEntry {H : Type} : Lit × DataW H → Nat
  | (.string bytes, d) => bytes.length + uptoBulk d + 1
  | (_, d) => uptoBulk d + 1
 end
def uptoSmall : (H : Type) → List (DataW H) → Bool := fun _ ds => decide (uptoBulkAll ds ≤ 1048576)
def OpenSpec.upto (s : _root_.Go.ChangeSpec) : _root_.Go.OpenSpec := { _root_.Go.OpenSpec.ofChange s with cond := some uptoSmall }

/-- 'parviselaw02.LoanChecks', WHERE WHAT IT READS IS OF BULK AT MOST 1048576: true; the input reads as it did. -/
def loanChecksUptoRow : OpenClaim := { program := "ytoiompoapikkbaagreat", sum := "a9cdfd6213c73e93ff57e6330a8dd228e0b0bf50ac740d78b06eacef6c9a380e", func := "parvise/parviselaw02.LoanChecks", spec := "loanChecks", inPlace := ["slices.overlaps[parvise/api.Sight]"], unfollowed := true, recurses := true, plainKeys := false, apart := false, narrowed := true }
def LoanChecksUptoSaid : Prop := loanChecksUptoRow.holds Tryz.pinned (OpenSpec.upto loanChecksSpec)

/-- 'parviselaw02.LoanDoubles', WHERE WHAT IT READS IS OF BULK AT MOST 1048576: true; the input reads as it did. -/
def loanDoublesUptoRow : OpenClaim := { program := "ytoiompoapikkbaagreat", sum := "a9cdfd6213c73e93ff57e6330a8dd228e0b0bf50ac740d78b06eacef6c9a380e", func := "parvise/parviselaw02.LoanDoubles", spec := "loanDoubles", unfollowed := true, recurses := true, plainKeys := false, apart := false, narrowed := true }
def LoanDoublesUptoSaid : Prop := loanDoublesUptoRow.holds Tryz.pinned (OpenSpec.upto loanDoublesSpec)

/-- 'parviselaw02.LoanWheres', WHERE WHAT IT READS IS OF BULK AT MOST 1048576: true; the input reads as it did. -/
def loanWheresUptoRow : OpenClaim := { program := "ytoiompoapikkbaagreat", sum := "a9cdfd6213c73e93ff57e6330a8dd228e0b0bf50ac740d78b06eacef6c9a380e", func := "parvise/parviselaw02.LoanWheres", spec := "loanWheres", unfollowed := true, recurses := true, plainKeys := false, apart := false, narrowed := true }
def LoanWheresUptoSaid : Prop := loanWheresUptoRow.holds Tryz.pinned (OpenSpec.upto loanWheresSpec)

/-- 'parviselaw02.LoanPlaces', WHERE WHAT IT READS IS OF BULK AT MOST 1048576: true; the input reads as it did. -/
def loanPlacesUptoRow : OpenClaim := { program := "ytoiompoapikkbaagreat", sum := "a9cdfd6213c73e93ff57e6330a8dd228e0b0bf50ac740d78b06eacef6c9a380e", func := "parvise/parviselaw02.LoanPlaces", spec := "loanPlaces", unfollowed := true, recurses := true, plainKeys := false, apart := false, narrowed := true }
def LoanPlacesUptoSaid : Prop := loanPlacesUptoRow.holds Tryz.pinned (OpenSpec.upto loanPlacesSpec)

end Rows
end Go.Proofs.YtoiompoapikkbaaGreat
