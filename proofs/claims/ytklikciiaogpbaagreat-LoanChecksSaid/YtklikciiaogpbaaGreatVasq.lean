/- Layer 2 of the texts that LoanChecks takes: Vasq. -/
import Derived.Test.YtklikciiaogpbaaGreatVaqq
set_option linter.unusedVariables false
set_option linter.unusedSimpArgs false
/- Layer 2: find: the sights of some sources. -/
namespace Go.Proofs.YtklikciiaogpbaaGreat
open Go.RowKit Go.Maps
def sgCells (S : List Sgt) : List Value := S.flatMap fun s => [.int .i64 s.src, .int .i64 s.per, .int .i64 s.pap, .int .i64 s.leaf, .int .i64 s.day, .int .i64 s.kn, .int .i64 s.un]
end Go.Proofs.YtklikciiaogpbaaGreat
