/- Layer 2 of the texts that LoanBack takes: Babq. -/
import Derived.Test.YtmcmbicapdcfmaaGreatBaaq
set_option linter.unusedVariables false
set_option linter.unusedSimpArgs false
set_option maxHeartbeats 16000000
namespace Go.Proofs.YtmcmbicapdcfmaaGreat
open Go.RowKit
def orL:List Int→Int
 | []=>0
 | x :: l=>if x=0 then orL l else x
def nmLock (d:Deed):Int:=d.lock
def nmPerson (d:Deed):Int:=if d.lock=0 then d.person else 0
end Go.Proofs.YtmcmbicapdcfmaaGreat
namespace Go.Proofs.YtmcmbicapdcfmaaGreat
open Go.RowKit Go.Maps Go.Shelf
end Go.Proofs.YtmcmbicapdcfmaaGreat
