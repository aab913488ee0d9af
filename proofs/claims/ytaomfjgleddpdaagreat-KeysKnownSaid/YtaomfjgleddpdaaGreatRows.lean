/-
  No cell of these rows narrows 'for every input' (looked for: loops, veiled, ifaces, maps, wideKeys, modest, calm, conditions, laid).
  DERIVED. THE GIVEN ROWS OF THIS SEAT. 10 by the template 'for every input the law returns true; each argument reads behind the call as it read before'; 0 by the template 'total and deterministic' (their statements: YtaomfjgleddpdaaGreatTotals.lean).
  GIVEN WITH THE SEED: the statements are not yours to turn. If you find one false, say at which input.
  Laid BY PROGRAM, IN A SANDBOX (cutbox-rows.mjs): the forced cells as the released guide's own fill.sh prints them over the translation 1f9f0d0927d07ae0… (all of the seat's roots in one cut). By AI agents, Wed Nov 11 2026. No macro, syntax, notation, axiom, sorry.
-/
import Derived.Test.YtaomfjgleddpdaaGreatChecked
import GoSem.Claim
import GoSem.ClaimJoined
import GoSem.ClaimMapViews
import Derived.JoinedTies
import Derived.KernelRfl
namespace Go.Proofs.YtaomfjgleddpdaaGreat
/- THE CELL 'sum', in the pinned program and in every row, IS THE sha256 OF THE DUMP (.gsa) THAT YtaomfjgleddpdaaGreatProg.lean LOADS. Nothing in Lean hashes anything: it is a label: what it is worth is what the hold of that sum in a sandbox is worth. -/
noncomputable def Tryz.pinned : Pinned := { name := "ytaomfjgleddpdaagreat", sum := "1f9f0d0927d07ae06bb7b59f7c1a2101f53dbe423ea3e5e66ae3465c28d26f1b", checked := Tryz.checked }
namespace Rows
def none {H : Type} : Left H := { results := [], args := [] }

/-- 'parviselaw01.KeysChecks': WHATEVER THE INPUT: true; the input reads as it did. -/
def keysChecksSpec : ChangeSpec := { name := "keysChecks", fn := fun _ => fun
  | [d1, d2] => { results := [.lit (.bool true)], args := [d1, d2] }
  | _ => none }
def keysChecksRow : OpenClaim := { program := "ytaomfjgleddpdaagreat", sum := "1f9f0d0927d07ae06bb7b59f7c1a2101f53dbe423ea3e5e66ae3465c28d26f1b", func := "parvise/parviselaw01.KeysChecks", spec := "keysChecks", inPlace := ["slices.overlaps[int]"], unfollowed := true, recurses := true, plainKeys := false, apart := false }
def KeysChecksSaid : Prop := keysChecksRow.holds Tryz.pinned (OpenSpec.ofChange keysChecksSpec)

/-- ITS FALSE NEIGHBOUR: 'it returns false'. Refute it at one input. -/
def keysChecksWrong : ChangeSpec := { name := "keysChecks", fn := fun _ => fun
  | [d1, d2] => { results := [.lit (.bool false)], args := [d1, d2] }
  | _ => none }
def KeysChecksWrongFalsely : Prop := keysChecksRow.holds Tryz.pinned (OpenSpec.ofChange keysChecksWrong)

/-- 'parviselaw01.KeysJoins': WHATEVER THE INPUT: true; the input reads as it did. -/
def keysJoinsSpec : ChangeSpec := { name := "keysJoins", fn := fun _ => fun
  | [d1, d2, d3] => { results := [.lit (.bool true)], args := [d1, d2, d3] }
  | _ => none }
def keysJoinsRow : OpenClaim := { program := "ytaomfjgleddpdaagreat", sum := "1f9f0d0927d07ae06bb7b59f7c1a2101f53dbe423ea3e5e66ae3465c28d26f1b", func := "parvise/parviselaw01.KeysJoins", spec := "keysJoins", inPlace := ["slices.overlaps[int]"], unfollowed := true, recurses := true, plainKeys := false, apart := false }
def KeysJoinsSaid : Prop := keysJoinsRow.holds Tryz.pinned (OpenSpec.ofChange keysJoinsSpec)

/-- ITS FALSE NEIGHBOUR: 'it returns false'. Refute it at one input. -/
def keysJoinsWrong : ChangeSpec := { name := "keysJoins", fn := fun _ => fun
  | [d1, d2, d3] => { results := [.lit (.bool false)], args := [d1, d2, d3] }
  | _ => none }
def KeysJoinsWrongFalsely : Prop := keysJoinsRow.holds Tryz.pinned (OpenSpec.ofChange keysJoinsWrong)

/-- 'parviselaw01.KeysConflicts': WHATEVER THE INPUT: true; the input reads as it did. -/
def keysConflictsSpec : ChangeSpec := { name := "keysConflicts", fn := fun _ => fun
  | [d1, d2, d3] => { results := [.lit (.bool true)], args := [d1, d2, d3] }
  | _ => none }
def keysConflictsRow : OpenClaim := { program := "ytaomfjgleddpdaagreat", sum := "1f9f0d0927d07ae06bb7b59f7c1a2101f53dbe423ea3e5e66ae3465c28d26f1b", func := "parvise/parviselaw01.KeysConflicts", spec := "keysConflicts", inPlace := ["slices.overlaps[int]"], unfollowed := true, recurses := true, plainKeys := false, apart := false }
def KeysConflictsSaid : Prop := keysConflictsRow.holds Tryz.pinned (OpenSpec.ofChange keysConflictsSpec)

/-- ITS FALSE NEIGHBOUR: 'it returns false'. Refute it at one input. -/
def keysConflictsWrong : ChangeSpec := { name := "keysConflicts", fn := fun _ => fun
  | [d1, d2, d3] => { results := [.lit (.bool false)], args := [d1, d2, d3] }
  | _ => none }
def KeysConflictsWrongFalsely : Prop := keysConflictsRow.holds Tryz.pinned (OpenSpec.ofChange keysConflictsWrong)

/-- 'parviselaw01.KeysHolds': WHATEVER THE INPUT: true; the input reads as it did. -/
def keysHoldsSpec : ChangeSpec := { name := "keysHolds", fn := fun _ => fun
  | [d1, d2] => { results := [.lit (.bool true)], args := [d1, d2] }
  | _ => none }
def keysHoldsRow : OpenClaim := { program := "ytaomfjgleddpdaagreat", sum := "1f9f0d0927d07ae06bb7b59f7c1a2101f53dbe423ea3e5e66ae3465c28d26f1b", func := "parvise/parviselaw01.KeysHolds", spec := "keysHolds", inPlace := ["slices.overlaps[int]"], unfollowed := true, recurses := true, plainKeys := false, apart := false }
def KeysHoldsSaid : Prop := keysHoldsRow.holds Tryz.pinned (OpenSpec.ofChange keysHoldsSpec)

/-- ITS FALSE NEIGHBOUR: 'it returns false'. Refute it at one input. -/
def keysHoldsWrong : ChangeSpec := { name := "keysHolds", fn := fun _ => fun
  | [d1, d2] => { results := [.lit (.bool false)], args := [d1, d2] }
  | _ => none }
def KeysHoldsWrongFalsely : Prop := keysHoldsRow.holds Tryz.pinned (OpenSpec.ofChange keysHoldsWrong)

/-- 'parviselaw01.KeysMoves': WHATEVER THE INPUT: true; the input reads as it did. -/
def keysMovesSpec : ChangeSpec := { name := "keysMoves", fn := fun _ => fun
  | [d1, d2] => { results := [.lit (.bool true)], args := [d1, d2] }
  | _ => none }
def keysMovesRow : OpenClaim := { program := "ytaomfjgleddpdaagreat", sum := "1f9f0d0927d07ae06bb7b59f7c1a2101f53dbe423ea3e5e66ae3465c28d26f1b", func := "parvise/parviselaw01.KeysMoves", spec := "keysMoves", inPlace := ["slices.overlaps[int]"], unfollowed := true, recurses := true, plainKeys := false, apart := false }
def KeysMovesSaid : Prop := keysMovesRow.holds Tryz.pinned (OpenSpec.ofChange keysMovesSpec)

/-- ITS FALSE NEIGHBOUR: 'it returns false'. Refute it at one input. -/
def keysMovesWrong : ChangeSpec := { name := "keysMoves", fn := fun _ => fun
  | [d1, d2] => { results := [.lit (.bool false)], args := [d1, d2] }
  | _ => none }
def KeysMovesWrongFalsely : Prop := keysMovesRow.holds Tryz.pinned (OpenSpec.ofChange keysMovesWrong)

/-- 'parviselaw01.KeysTrue': WHATEVER THE INPUT: true; the input reads as it did. -/
def keysTrueSpec : ChangeSpec := { name := "keysTrue", fn := fun _ => fun
  | [d1, d2, d3] => { results := [.lit (.bool true)], args := [d1, d2, d3] }
  | _ => none }
def keysTrueRow : OpenClaim := { program := "ytaomfjgleddpdaagreat", sum := "1f9f0d0927d07ae06bb7b59f7c1a2101f53dbe423ea3e5e66ae3465c28d26f1b", func := "parvise/parviselaw01.KeysTrue", spec := "keysTrue", inPlace := ["slices.overlaps[int]"], unfollowed := true, recurses := true, plainKeys := false, apart := false }
def KeysTrueSaid : Prop := keysTrueRow.holds Tryz.pinned (OpenSpec.ofChange keysTrueSpec)

/-- ITS FALSE NEIGHBOUR: 'it returns false'. Refute it at one input. -/
def keysTrueWrong : ChangeSpec := { name := "keysTrue", fn := fun _ => fun
  | [d1, d2, d3] => { results := [.lit (.bool false)], args := [d1, d2, d3] }
  | _ => none }
def KeysTrueWrongFalsely : Prop := keysTrueRow.holds Tryz.pinned (OpenSpec.ofChange keysTrueWrong)

/-- 'parviselaw01.KeysOpeners': WHATEVER THE INPUT: true; the input reads as it did. -/
def keysOpenersSpec : ChangeSpec := { name := "keysOpeners", fn := fun _ => fun
  | [d1, d2] => { results := [.lit (.bool true)], args := [d1, d2] }
  | _ => none }
def keysOpenersRow : OpenClaim := { program := "ytaomfjgleddpdaagreat", sum := "1f9f0d0927d07ae06bb7b59f7c1a2101f53dbe423ea3e5e66ae3465c28d26f1b", func := "parvise/parviselaw01.KeysOpeners", spec := "keysOpeners", inPlace := ["slices.overlaps[int]"], unfollowed := true, recurses := true, plainKeys := false, apart := false }
def KeysOpenersSaid : Prop := keysOpenersRow.holds Tryz.pinned (OpenSpec.ofChange keysOpenersSpec)

/-- ITS FALSE NEIGHBOUR: 'it returns false'. Refute it at one input. -/
def keysOpenersWrong : ChangeSpec := { name := "keysOpeners", fn := fun _ => fun
  | [d1, d2] => { results := [.lit (.bool false)], args := [d1, d2] }
  | _ => none }
def KeysOpenersWrongFalsely : Prop := keysOpenersRow.holds Tryz.pinned (OpenSpec.ofChange keysOpenersWrong)

/-- 'parviselaw01.KeysEither': WHATEVER THE INPUT: true; the input reads as it did. -/
def keysEitherSpec : ChangeSpec := { name := "keysEither", fn := fun _ => fun
  | [d1, d2, d3] => { results := [.lit (.bool true)], args := [d1, d2, d3] }
  | _ => none }
def keysEitherRow : OpenClaim := { program := "ytaomfjgleddpdaagreat", sum := "1f9f0d0927d07ae06bb7b59f7c1a2101f53dbe423ea3e5e66ae3465c28d26f1b", func := "parvise/parviselaw01.KeysEither", spec := "keysEither", inPlace := ["slices.overlaps[int]"], unfollowed := true, recurses := true, plainKeys := false, apart := false }
def KeysEitherSaid : Prop := keysEitherRow.holds Tryz.pinned (OpenSpec.ofChange keysEitherSpec)

/-- ITS FALSE NEIGHBOUR: 'it returns false'. Refute it at one input. -/
def keysEitherWrong : ChangeSpec := { name := "keysEither", fn := fun _ => fun
  | [d1, d2, d3] => { results := [.lit (.bool false)], args := [d1, d2, d3] }
  | _ => none }
def KeysEitherWrongFalsely : Prop := keysEitherRow.holds Tryz.pinned (OpenSpec.ofChange keysEitherWrong)

/-- 'parviselaw01.KeysKnown': WHATEVER THE INPUT: true; the input reads as it did. -/
def keysKnownSpec : ChangeSpec := { name := "keysKnown", fn := fun _ => fun
  | [d1, d2, d3] => { results := [.lit (.bool true)], args := [d1, d2, d3] }
  | _ => none }
def keysKnownRow : OpenClaim := { program := "ytaomfjgleddpdaagreat", sum := "1f9f0d0927d07ae06bb7b59f7c1a2101f53dbe423ea3e5e66ae3465c28d26f1b", func := "parvise/parviselaw01.KeysKnown", spec := "keysKnown", inPlace := ["slices.overlaps[int]"], unfollowed := true, recurses := true, plainKeys := false, apart := false }
def KeysKnownSaid : Prop := keysKnownRow.holds Tryz.pinned (OpenSpec.ofChange keysKnownSpec)

/-- ITS FALSE NEIGHBOUR: 'it returns false'. Refute it at one input. -/
def keysKnownWrong : ChangeSpec := { name := "keysKnown", fn := fun _ => fun
  | [d1, d2, d3] => { results := [.lit (.bool false)], args := [d1, d2, d3] }
  | _ => none }
def KeysKnownWrongFalsely : Prop := keysKnownRow.holds Tryz.pinned (OpenSpec.ofChange keysKnownWrong)

/-- 'parviselaw01.KeysNarrow': WHATEVER THE INPUT: true; the input reads as it did. -/
def keysNarrowSpec : ChangeSpec := { name := "keysNarrow", fn := fun _ => fun
  | [d1, d2, d3] => { results := [.lit (.bool true)], args := [d1, d2, d3] }
  | _ => none }
def keysNarrowRow : OpenClaim := { program := "ytaomfjgleddpdaagreat", sum := "1f9f0d0927d07ae06bb7b59f7c1a2101f53dbe423ea3e5e66ae3465c28d26f1b", func := "parvise/parviselaw01.KeysNarrow", spec := "keysNarrow", inPlace := ["slices.overlaps[int]"], unfollowed := true, recurses := true, plainKeys := false, apart := false }
def KeysNarrowSaid : Prop := keysNarrowRow.holds Tryz.pinned (OpenSpec.ofChange keysNarrowSpec)

/-- ITS FALSE NEIGHBOUR: 'it returns false'. Refute it at one input. -/
def keysNarrowWrong : ChangeSpec := { name := "keysNarrow", fn := fun _ => fun
  | [d1, d2, d3] => { results := [.lit (.bool false)], args := [d1, d2, d3] }
  | _ => none }
def KeysNarrowWrongFalsely : Prop := keysNarrowRow.holds Tryz.pinned (OpenSpec.ofChange keysNarrowWrong)

/- THE SECOND FORM. 'bulk': how many values and letters a reading holds, each counted each time it is reached (what is shared counts as often as it is met; a slice's spare places count too). A statement '..UptoSaid' is the law's where the arguments, and the package variables that the reading takes, are together of bulk at most 1048576: NARROWER than '..Said'. Prove '..Said' where nothing that the law and all that it calls make is longer than what came in: it says more and counts as full. Else prove '..UptoSaid'. A law counts once. -/
mutual
def uptoBulk {H : Type} : DataW H → Nat
  | .lit (.string bytes) => bytes.length + 1
  | .lit _ => 1
  | .nil => 1
  | .ptr d => uptoBulk d + 1
  | .slice elems spare => uptoBulkAll elems + uptoBulkAll spare + 1
  | .agg parts => uptoBulkAll parts + 1
  | .iface _ d => uptoBulk d + 1
  | .map entries => uptoBulkEntries entries + 1
  | .held _ => 1
def uptoBulkAll {H : Type} : List (DataW H) → Nat
  | [] => 0
  | d :: r => uptoBulk d + uptoBulkAll r
def uptoBulkEntries {H : Type} : List (Lit × DataW H) → Nat
  | [] => 0
  | x :: r => uptoBulkEntry x + uptoBulkEntries r
def uptoBulkEntry {H : Type} : Lit × DataW H → Nat
  | (.string bytes, d) => bytes.length + uptoBulk d + 1
  | (_, d) => uptoBulk d + 1
 end
def uptoSmall : (H : Type) → List (DataW H) → Bool := fun _ ds => decide (uptoBulkAll ds ≤ 1048576)
def OpenSpec.upto (s : _root_.Go.ChangeSpec) : _root_.Go.OpenSpec := { _root_.Go.OpenSpec.ofChange s with cond := some uptoSmall }

/-- 'parviselaw01.KeysChecks', WHERE WHAT IT READS IS OF BULK AT MOST 1048576: true; the input reads as it did. -/
def keysChecksUptoRow : OpenClaim := { program := "ytaomfjgleddpdaagreat", sum := "1f9f0d0927d07ae06bb7b59f7c1a2101f53dbe423ea3e5e66ae3465c28d26f1b", func := "parvise/parviselaw01.KeysChecks", spec := "keysChecks", inPlace := ["slices.overlaps[int]"], unfollowed := true, recurses := true, plainKeys := false, apart := false, narrowed := true }
def KeysChecksUptoSaid : Prop := keysChecksUptoRow.holds Tryz.pinned (OpenSpec.upto keysChecksSpec)

/-- 'parviselaw01.KeysJoins', WHERE WHAT IT READS IS OF BULK AT MOST 1048576: true; the input reads as it did. -/
def keysJoinsUptoRow : OpenClaim := { program := "ytaomfjgleddpdaagreat", sum := "1f9f0d0927d07ae06bb7b59f7c1a2101f53dbe423ea3e5e66ae3465c28d26f1b", func := "parvise/parviselaw01.KeysJoins", spec := "keysJoins", inPlace := ["slices.overlaps[int]"], unfollowed := true, recurses := true, plainKeys := false, apart := false, narrowed := true }
def KeysJoinsUptoSaid : Prop := keysJoinsUptoRow.holds Tryz.pinned (OpenSpec.upto keysJoinsSpec)

/-- 'parviselaw01.KeysConflicts', WHERE WHAT IT READS IS OF BULK AT MOST 1048576: true; the input reads as it did. -/
def keysConflictsUptoRow : OpenClaim := { program := "ytaomfjgleddpdaagreat", sum := "1f9f0d0927d07ae06bb7b59f7c1a2101f53dbe423ea3e5e66ae3465c28d26f1b", func := "parvise/parviselaw01.KeysConflicts", spec := "keysConflicts", inPlace := ["slices.overlaps[int]"], unfollowed := true, recurses := true, plainKeys := false, apart := false, narrowed := true }
def KeysConflictsUptoSaid : Prop := keysConflictsUptoRow.holds Tryz.pinned (OpenSpec.upto keysConflictsSpec)

/-- 'parviselaw01.KeysHolds', WHERE WHAT IT READS IS OF BULK AT MOST 1048576: true; the input reads as it did. -/
def keysHoldsUptoRow : OpenClaim := { program := "ytaomfjgleddpdaagreat", sum := "1f9f0d0927d07ae06bb7b59f7c1a2101f53dbe423ea3e5e66ae3465c28d26f1b", func := "parvise/parviselaw01.KeysHolds", spec := "keysHolds", inPlace := ["slices.overlaps[int]"], unfollowed := true, recurses := true, plainKeys := false, apart := false, narrowed := true }
def KeysHoldsUptoSaid : Prop := keysHoldsUptoRow.holds Tryz.pinned (OpenSpec.upto keysHoldsSpec)

/-- 'parviselaw01.KeysMoves', WHERE WHAT IT READS IS OF BULK AT MOST 1048576: true; the input reads as it did. -/
def keysMovesUptoRow : OpenClaim := { program := "ytaomfjgleddpdaagreat", sum := "1f9f0d0927d07ae06bb7b59f7c1a2101f53dbe423ea3e5e66ae3465c28d26f1b", func := "parvise/parviselaw01.KeysMoves", spec := "keysMoves", inPlace := ["slices.overlaps[int]"], unfollowed := true, recurses := true, plainKeys := false, apart := false, narrowed := true }
def KeysMovesUptoSaid : Prop := keysMovesUptoRow.holds Tryz.pinned (OpenSpec.upto keysMovesSpec)

/-- 'parviselaw01.KeysTrue', WHERE WHAT IT READS IS OF BULK AT MOST 1048576: true; the input reads as it did. -/
def keysTrueUptoRow : OpenClaim := { program := "ytaomfjgleddpdaagreat", sum := "1f9f0d0927d07ae06bb7b59f7c1a2101f53dbe423ea3e5e66ae3465c28d26f1b", func := "parvise/parviselaw01.KeysTrue", spec := "keysTrue", inPlace := ["slices.overlaps[int]"], unfollowed := true, recurses := true, plainKeys := false, apart := false, narrowed := true }
def KeysTrueUptoSaid : Prop := keysTrueUptoRow.holds Tryz.pinned (OpenSpec.upto keysTrueSpec)

/-- 'parviselaw01.KeysOpeners', WHERE WHAT IT READS IS OF BULK AT MOST 1048576: true; the input reads as it did. -/
def keysOpenersUptoRow : OpenClaim := { program := "ytaomfjgleddpdaagreat", sum := "1f9f0d0927d07ae06bb7b59f7c1a2101f53dbe423ea3e5e66ae3465c28d26f1b", func := "parvise/parviselaw01.KeysOpeners", spec := "keysOpeners", inPlace := ["slices.overlaps[int]"], unfollowed := true, recurses := true, plainKeys := false, apart := false, narrowed := true }
def KeysOpenersUptoSaid : Prop := keysOpenersUptoRow.holds Tryz.pinned (OpenSpec.upto keysOpenersSpec)

/-- 'parviselaw01.KeysEither', WHERE WHAT IT READS IS OF BULK AT MOST 1048576: true; the input reads as it did. -/
def keysEitherUptoRow : OpenClaim := { program := "ytaomfjgleddpdaagreat", sum := "1f9f0d0927d07ae06bb7b59f7c1a2101f53dbe423ea3e5e66ae3465c28d26f1b", func := "parvise/parviselaw01.KeysEither", spec := "keysEither", inPlace := ["slices.overlaps[int]"], unfollowed := true, recurses := true, plainKeys := false, apart := false, narrowed := true }
def KeysEitherUptoSaid : Prop := keysEitherUptoRow.holds Tryz.pinned (OpenSpec.upto keysEitherSpec)

/-- 'parviselaw01.KeysKnown', WHERE WHAT IT READS IS OF BULK AT MOST 1048576: true; the input reads as it did. -/
def keysKnownUptoRow : OpenClaim := { program := "ytaomfjgleddpdaagreat", sum := "1f9f0d0927d07ae06bb7b59f7c1a2101f53dbe423ea3e5e66ae3465c28d26f1b", func := "parvise/parviselaw01.KeysKnown", spec := "keysKnown", inPlace := ["slices.overlaps[int]"], unfollowed := true, recurses := true, plainKeys := false, apart := false, narrowed := true }
def KeysKnownUptoSaid : Prop := keysKnownUptoRow.holds Tryz.pinned (OpenSpec.upto keysKnownSpec)

/-- 'parviselaw01.KeysNarrow', WHERE WHAT IT READS IS OF BULK AT MOST 1048576: true; the input reads as it did. -/
def keysNarrowUptoRow : OpenClaim := { program := "ytaomfjgleddpdaagreat", sum := "1f9f0d0927d07ae06bb7b59f7c1a2101f53dbe423ea3e5e66ae3465c28d26f1b", func := "parvise/parviselaw01.KeysNarrow", spec := "keysNarrow", inPlace := ["slices.overlaps[int]"], unfollowed := true, recurses := true, plainKeys := false, apart := false, narrowed := true }
def KeysNarrowUptoSaid : Prop := keysNarrowUptoRow.holds Tryz.pinned (OpenSpec.upto keysNarrowSpec)

end Rows
end Go.Proofs.YtaomfjgleddpdaaGreat
