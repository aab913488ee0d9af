/- Layer 2 of the texts that LoanDoubles takes: Vakq. -/
import Derived.Test.YtoiompoapikkbaaGreatVadq
import Derived.Test.YtoiompoapikkbaaGreatLqp
set_option linter.unusedVariables false
set_option linter.unusedSimpArgs false
/- The program's small functions on deeds: Check, nameOf, contradict, counting, find, first, checkDays. -/
namespace Go.Proofs.YtoiompoapikkbaaGreat
open Go.RowKit
end Go.Proofs.YtoiompoapikkbaaGreat
/- Whether just the first n deeds may have happened; what a deed of each kind makes of a state; small checks. -/
namespace Go.Proofs.YtoiompoapikkbaaGreat
open Go.RowKit
end Go.Proofs.YtoiompoapikkbaaGreat
/- effects: the map of what deeds do, by their kinds. -/
namespace Go.Proofs.YtoiompoapikkbaaGreat
open Go.RowKit Go.Maps
end Go.Proofs.YtoiompoapikkbaaGreat
/- Layer 2: the library's Sort and Compact at numbers, laid. -/
namespace Go.Proofs
open Go.Shelf
end Go.Proofs
