/- Layer 2 of the texts that LoanWheres takes: Uafq. -/
import Derived.Test.YtoiompoapikkbaaGreatUadq
set_option linter.unusedVariables false
set_option linter.unusedSimpArgs false
/- Layer 2, the reference: Clash. -/
namespace Go.Proofs.YtoiompoapikkbaaGreat
open Go.RowKit Go.Maps
end Go.Proofs.YtoiompoapikkbaaGreat
/- The program's small functions on deeds: Check, nameOf, contradict, counting, find, first, checkDays. -/
namespace Go.Proofs.YtoiompoapikkbaaGreat
open Go.RowKit
end Go.Proofs.YtoiompoapikkbaaGreat
/- effects: the map of what deeds do, by their kinds. -/
namespace Go.Proofs.YtoiompoapikkbaaGreat
open Go.RowKit Go.Maps
end Go.Proofs.YtoiompoapikkbaaGreat
/- keys.insert. -/
namespace Go.Proofs.YtoiompoapikkbaaGreat
open Go.RowKit
def SS (xs:List Int):Prop:=xs.Pairwise (·<·)
end Go.Proofs.YtoiompoapikkbaaGreat
