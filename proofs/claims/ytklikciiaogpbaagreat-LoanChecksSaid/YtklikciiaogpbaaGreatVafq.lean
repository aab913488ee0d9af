/- Layer 2 of the texts that LoanChecks takes: Vafq. -/
import Derived.Test.YtklikciiaogpbaaGreatVabq
import Derived.Test.YtklikciiaogpbaaGreatVacq
set_option linter.unusedVariables false
set_option linter.unusedSimpArgs false
/- The program's small functions on deeds: Check, nameOf, contradict, counting, find, first, checkDays. -/
namespace Go.Proofs.YtklikciiaogpbaaGreat
open Go.RowKit
def nmLock (d : Deed) : Int := d.lock
def nmPerson (d : Deed) : Int := if d.lock = 0 then d.person else 0
end Go.Proofs.YtklikciiaogpbaaGreat
/- contradict, find, first, checkDays. -/
namespace Go.Proofs.YtklikciiaogpbaaGreat
open Go.RowKit
def sameB (a b : Deed) : Bool := decide (nmLock a = nmLock b) && decide (nmPerson a = nmPerson b)
def contraB (a b : Deed) : Bool := sameB a b && decide (b.hi < a.lo)
end Go.Proofs.YtklikciiaogpbaaGreat
