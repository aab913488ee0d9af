/-
  No cell of these rows narrows 'for every input' (looked for: loops, veiled, ifaces, maps, wideKeys, modest, calm, conditions, laid).
  DERIVED. THE GIVEN ROWS OF THIS SEAT. 7 by the template 'for every input the law returns true; each argument reads behind the call as it read before'; 0 by the template 'total and deterministic' (their statements: YtmcmbicapdcfmaaGreatTotals.lean).
  GIVEN WITH THE SEED: the statements are not yours to turn. If you find one false, say at which input.
  Laid BY PROGRAM, IN A SANDBOX (cutbox-rows.mjs): the forced cells as the released guide's own fill.sh prints them over the translation 74f49b1a5154d939… (all of the seat's roots in one cut). By AI agents, Wed Nov 11 2026. No macro, syntax, notation, axiom, sorry.
-/
import Derived.Test.YtmcmbicapdcfmaaGreatChecked
import GoSem.Claim
import GoSem.ClaimJoined
import GoSem.ClaimMapViews
import Derived.JoinedTies
import Derived.KernelRfl
namespace Go.Proofs.YtmcmbicapdcfmaaGreat
/- THE CELL 'sum', in the pinned program and in every row, IS THE sha256 OF THE DUMP (.gsa) THAT YtmcmbicapdcfmaaGreatProg.lean LOADS. Nothing in Lean hashes anything: it is a label: what it is worth is what the hold of that sum in a sandbox is worth. -/
noncomputable def Tryz.pinned : Pinned := { name := "ytmcmbicapdcfmaagreat", sum := "74f49b1a5154d939b4b3c3b257098bb5073240fc866fa471085660cd69ded8d1", checked := Tryz.checked }
namespace Rows
def none {H : Type} : Left H := { results := [], args := [] }

/-- 'parviselaw02.LoanTrue': WHATEVER THE INPUT: true; the input reads as it did. -/
def loanTrueSpec : ChangeSpec := { name := "loanTrue", fn := fun _ => fun
  | [d1, d2] => { results := [.lit (.bool true)], args := [d1, d2] }
  | _ => none }
def loanTrueRow : OpenClaim := { program := "ytmcmbicapdcfmaagreat", sum := "74f49b1a5154d939b4b3c3b257098bb5073240fc866fa471085660cd69ded8d1", func := "parvise/parviselaw02.LoanTrue", spec := "loanTrue", unfollowed := true, recurses := true, plainKeys := false, apart := false }
def LoanTrueSaid : Prop := loanTrueRow.holds Tryz.pinned (OpenSpec.ofChange loanTrueSpec)

/-- ITS FALSE NEIGHBOUR: 'it returns false'. Refute it at one input. -/
def loanTrueWrong : ChangeSpec := { name := "loanTrue", fn := fun _ => fun
  | [d1, d2] => { results := [.lit (.bool false)], args := [d1, d2] }
  | _ => none }
def LoanTrueWrongFalsely : Prop := loanTrueRow.holds Tryz.pinned (OpenSpec.ofChange loanTrueWrong)

/-- 'parviselaw02.LoanAttained': WHATEVER THE INPUT: true; the input reads as it did. -/
def loanAttainedSpec : ChangeSpec := { name := "loanAttained", fn := fun _ => fun
  | [d1, d2] => { results := [.lit (.bool true)], args := [d1, d2] }
  | _ => none }
def loanAttainedRow : OpenClaim := { program := "ytmcmbicapdcfmaagreat", sum := "74f49b1a5154d939b4b3c3b257098bb5073240fc866fa471085660cd69ded8d1", func := "parvise/parviselaw02.LoanAttained", spec := "loanAttained", unfollowed := true, recurses := true, plainKeys := false, apart := false }
def LoanAttainedSaid : Prop := loanAttainedRow.holds Tryz.pinned (OpenSpec.ofChange loanAttainedSpec)

/-- ITS FALSE NEIGHBOUR: 'it returns false'. Refute it at one input. -/
def loanAttainedWrong : ChangeSpec := { name := "loanAttained", fn := fun _ => fun
  | [d1, d2] => { results := [.lit (.bool false)], args := [d1, d2] }
  | _ => none }
def LoanAttainedWrongFalsely : Prop := loanAttainedRow.holds Tryz.pinned (OpenSpec.ofChange loanAttainedWrong)

/-- 'parviselaw02.LoanTwo': WHATEVER THE INPUT: true; the input reads as it did. -/
def loanTwoSpec : ChangeSpec := { name := "loanTwo", fn := fun _ => fun
  | [d1, d2, d3] => { results := [.lit (.bool true)], args := [d1, d2, d3] }
  | _ => none }
def loanTwoRow : OpenClaim := { program := "ytmcmbicapdcfmaagreat", sum := "74f49b1a5154d939b4b3c3b257098bb5073240fc866fa471085660cd69ded8d1", func := "parvise/parviselaw02.LoanTwo", spec := "loanTwo", unfollowed := true, recurses := true, plainKeys := false, apart := false }
def LoanTwoSaid : Prop := loanTwoRow.holds Tryz.pinned (OpenSpec.ofChange loanTwoSpec)

/-- ITS FALSE NEIGHBOUR: 'it returns false'. Refute it at one input. -/
def loanTwoWrong : ChangeSpec := { name := "loanTwo", fn := fun _ => fun
  | [d1, d2, d3] => { results := [.lit (.bool false)], args := [d1, d2, d3] }
  | _ => none }
def LoanTwoWrongFalsely : Prop := loanTwoRow.holds Tryz.pinned (OpenSpec.ofChange loanTwoWrong)

/-- 'parviselaw02.LoanNarrows': WHATEVER THE INPUT: true; the input reads as it did. -/
def loanNarrowsSpec : ChangeSpec := { name := "loanNarrows", fn := fun _ => fun
  | [d1, d2] => { results := [.lit (.bool true)], args := [d1, d2] }
  | _ => none }
def loanNarrowsRow : OpenClaim := { program := "ytmcmbicapdcfmaagreat", sum := "74f49b1a5154d939b4b3c3b257098bb5073240fc866fa471085660cd69ded8d1", func := "parvise/parviselaw02.LoanNarrows", spec := "loanNarrows", inPlace := ["slices.overlaps[parvise/api.Sight]"], unfollowed := true, recurses := true, plainKeys := false, apart := false }
def LoanNarrowsSaid : Prop := loanNarrowsRow.holds Tryz.pinned (OpenSpec.ofChange loanNarrowsSpec)

/-- ITS FALSE NEIGHBOUR: 'it returns false'. Refute it at one input. -/
def loanNarrowsWrong : ChangeSpec := { name := "loanNarrows", fn := fun _ => fun
  | [d1, d2] => { results := [.lit (.bool false)], args := [d1, d2] }
  | _ => none }
def LoanNarrowsWrongFalsely : Prop := loanNarrowsRow.holds Tryz.pinned (OpenSpec.ofChange loanNarrowsWrong)

/-- 'parviselaw02.LoanSince': WHATEVER THE INPUT: true; the input reads as it did. -/
def loanSinceSpec : ChangeSpec := { name := "loanSince", fn := fun _ => fun
  | [d1, d2] => { results := [.lit (.bool true)], args := [d1, d2] }
  | _ => none }
def loanSinceRow : OpenClaim := { program := "ytmcmbicapdcfmaagreat", sum := "74f49b1a5154d939b4b3c3b257098bb5073240fc866fa471085660cd69ded8d1", func := "parvise/parviselaw02.LoanSince", spec := "loanSince", unfollowed := true, recurses := true, plainKeys := false, apart := false }
def LoanSinceSaid : Prop := loanSinceRow.holds Tryz.pinned (OpenSpec.ofChange loanSinceSpec)

/-- ITS FALSE NEIGHBOUR: 'it returns false'. Refute it at one input. -/
def loanSinceWrong : ChangeSpec := { name := "loanSince", fn := fun _ => fun
  | [d1, d2] => { results := [.lit (.bool false)], args := [d1, d2] }
  | _ => none }
def LoanSinceWrongFalsely : Prop := loanSinceRow.holds Tryz.pinned (OpenSpec.ofChange loanSinceWrong)

/-- 'parviselaw02.LoanBack': WHATEVER THE INPUT: true; the input reads as it did. -/
def loanBackSpec : ChangeSpec := { name := "loanBack", fn := fun _ => fun
  | [d] => { results := [.lit (.bool true)], args := [d] }
  | _ => none }
def loanBackRow : OpenClaim := { program := "ytmcmbicapdcfmaagreat", sum := "74f49b1a5154d939b4b3c3b257098bb5073240fc866fa471085660cd69ded8d1", func := "parvise/parviselaw02.LoanBack", spec := "loanBack", unfollowed := true, recurses := true, plainKeys := false, apart := false }
def LoanBackSaid : Prop := loanBackRow.holds Tryz.pinned (OpenSpec.ofChange loanBackSpec)

/-- ITS FALSE NEIGHBOUR: 'it returns false'. Refute it at one input. -/
def loanBackWrong : ChangeSpec := { name := "loanBack", fn := fun _ => fun
  | [d] => { results := [.lit (.bool false)], args := [d] }
  | _ => none }
def LoanBackWrongFalsely : Prop := loanBackRow.holds Tryz.pinned (OpenSpec.ofChange loanBackWrong)

/-- 'parviselaw02.LoanMoves': WHATEVER THE INPUT: true; the input reads as it did. -/
def loanMovesSpec : ChangeSpec := { name := "loanMoves", fn := fun _ => fun
  | [d1, d2] => { results := [.lit (.bool true)], args := [d1, d2] }
  | _ => none }
def loanMovesRow : OpenClaim := { program := "ytmcmbicapdcfmaagreat", sum := "74f49b1a5154d939b4b3c3b257098bb5073240fc866fa471085660cd69ded8d1", func := "parvise/parviselaw02.LoanMoves", spec := "loanMoves", unfollowed := true, recurses := true, plainKeys := false, apart := false }
def LoanMovesSaid : Prop := loanMovesRow.holds Tryz.pinned (OpenSpec.ofChange loanMovesSpec)

/-- ITS FALSE NEIGHBOUR: 'it returns false'. Refute it at one input. -/
def loanMovesWrong : ChangeSpec := { name := "loanMoves", fn := fun _ => fun
  | [d1, d2] => { results := [.lit (.bool false)], args := [d1, d2] }
  | _ => none }
def LoanMovesWrongFalsely : Prop := loanMovesRow.holds Tryz.pinned (OpenSpec.ofChange loanMovesWrong)

/- THE SECOND FORM. 'bulk': how many values and letters a reading holds, each counted each time it is reached (what is shared counts as often as it is met; a slice's spare places count too). A statement '..UptoSaid' is the law's where the arguments, and the package variables that the reading takes, are together of bulk at most 1048576: NARROWER than '..Said'. Prove '..Said' where nothing that the law and all that it calls make is longer than what came in: it says more and counts as full. Else prove '..UptoSaid'. A law counts once. -/
mutual
def uptoBulk {H : Type} : DataW H → Nat
  | .lit (.string bytes) => bytes.length + 1
  | .lit _ => 1
  | .nil => 1
  | .ptr d => uptoBulk d + 1
  | .slice elems spare => uptoBulkAll elems + uptoBulkAll spare + 1
  | .agg parts => uptoBulkAll parts + 1
  | .iface _ d => uptoBulk d + 1
  | .map entries => uptoBulkEntries entries + 1
  | .held _ => 1
def uptoBulkAll {H : Type} : List (DataW H) → Nat
  | [] => 0
  | d :: r => uptoBulk d + uptoBulkAll r
def uptoBulkEntries {H : Type} : List (Lit × DataW H) → Nat
  | [] => 0
  | x :: r => uptoBulkEntry x + uptoBulkEntries r
def uptoBulkEntry {H : Type} : Lit × DataW H → Nat
  | (.string bytes, d) => bytes.length + uptoBulk d + 1
  | (_, d) => uptoBulk d + 1
 end
def uptoSmall : (H : Type) → List (DataW H) → Bool := fun _ ds => decide (uptoBulkAll ds ≤ 1048576)
def OpenSpec.upto (s : _root_.Go.ChangeSpec) : _root_.Go.OpenSpec := { _root_.Go.OpenSpec.ofChange s with cond := some uptoSmall }

/-- 'parviselaw02.LoanTrue', WHERE WHAT IT READS IS OF BULK AT MOST 1048576: true; the input reads as it did. -/
def loanTrueUptoRow : OpenClaim := { program := "ytmcmbicapdcfmaagreat", sum := "74f49b1a5154d939b4b3c3b257098bb5073240fc866fa471085660cd69ded8d1", func := "parvise/parviselaw02.LoanTrue", spec := "loanTrue", unfollowed := true, recurses := true, plainKeys := false, apart := false, narrowed := true }
def LoanTrueUptoSaid : Prop := loanTrueUptoRow.holds Tryz.pinned (OpenSpec.upto loanTrueSpec)

/-- 'parviselaw02.LoanAttained', WHERE WHAT IT READS IS OF BULK AT MOST 1048576: true; the input reads as it did. -/
def loanAttainedUptoRow : OpenClaim := { program := "ytmcmbicapdcfmaagreat", sum := "74f49b1a5154d939b4b3c3b257098bb5073240fc866fa471085660cd69ded8d1", func := "parvise/parviselaw02.LoanAttained", spec := "loanAttained", unfollowed := true, recurses := true, plainKeys := false, apart := false, narrowed := true }
def LoanAttainedUptoSaid : Prop := loanAttainedUptoRow.holds Tryz.pinned (OpenSpec.upto loanAttainedSpec)

/-- 'parviselaw02.LoanTwo', WHERE WHAT IT READS IS OF BULK AT MOST 1048576: true; the input reads as it did. -/
def loanTwoUptoRow : OpenClaim := { program := "ytmcmbicapdcfmaagreat", sum := "74f49b1a5154d939b4b3c3b257098bb5073240fc866fa471085660cd69ded8d1", func := "parvise/parviselaw02.LoanTwo", spec := "loanTwo", unfollowed := true, recurses := true, plainKeys := false, apart := false, narrowed := true }
def LoanTwoUptoSaid : Prop := loanTwoUptoRow.holds Tryz.pinned (OpenSpec.upto loanTwoSpec)

/-- 'parviselaw02.LoanNarrows', WHERE WHAT IT READS IS OF BULK AT MOST 1048576: true; the input reads as it did. -/
def loanNarrowsUptoRow : OpenClaim := { program := "ytmcmbicapdcfmaagreat", sum := "74f49b1a5154d939b4b3c3b257098bb5073240fc866fa471085660cd69ded8d1", func := "parvise/parviselaw02.LoanNarrows", spec := "loanNarrows", inPlace := ["slices.overlaps[parvise/api.Sight]"], unfollowed := true, recurses := true, plainKeys := false, apart := false, narrowed := true }
def LoanNarrowsUptoSaid : Prop := loanNarrowsUptoRow.holds Tryz.pinned (OpenSpec.upto loanNarrowsSpec)

/-- 'parviselaw02.LoanSince', WHERE WHAT IT READS IS OF BULK AT MOST 1048576: true; the input reads as it did. -/
def loanSinceUptoRow : OpenClaim := { program := "ytmcmbicapdcfmaagreat", sum := "74f49b1a5154d939b4b3c3b257098bb5073240fc866fa471085660cd69ded8d1", func := "parvise/parviselaw02.LoanSince", spec := "loanSince", unfollowed := true, recurses := true, plainKeys := false, apart := false, narrowed := true }
def LoanSinceUptoSaid : Prop := loanSinceUptoRow.holds Tryz.pinned (OpenSpec.upto loanSinceSpec)

/-- 'parviselaw02.LoanBack', WHERE WHAT IT READS IS OF BULK AT MOST 1048576: true; the input reads as it did. -/
def loanBackUptoRow : OpenClaim := { program := "ytmcmbicapdcfmaagreat", sum := "74f49b1a5154d939b4b3c3b257098bb5073240fc866fa471085660cd69ded8d1", func := "parvise/parviselaw02.LoanBack", spec := "loanBack", unfollowed := true, recurses := true, plainKeys := false, apart := false, narrowed := true }
def LoanBackUptoSaid : Prop := loanBackUptoRow.holds Tryz.pinned (OpenSpec.upto loanBackSpec)

/-- 'parviselaw02.LoanMoves', WHERE WHAT IT READS IS OF BULK AT MOST 1048576: true; the input reads as it did. -/
def loanMovesUptoRow : OpenClaim := { program := "ytmcmbicapdcfmaagreat", sum := "74f49b1a5154d939b4b3c3b257098bb5073240fc866fa471085660cd69ded8d1", func := "parvise/parviselaw02.LoanMoves", spec := "loanMoves", unfollowed := true, recurses := true, plainKeys := false, apart := false, narrowed := true }
def LoanMovesUptoSaid : Prop := loanMovesUptoRow.holds Tryz.pinned (OpenSpec.upto loanMovesSpec)

end Rows
end Go.Proofs.YtmcmbicapdcfmaaGreat
