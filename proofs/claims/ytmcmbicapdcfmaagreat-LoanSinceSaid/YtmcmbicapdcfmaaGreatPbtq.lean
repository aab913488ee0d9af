/- Layer 2 of the texts that the statements over histories take: Pbtq. -/
import Derived.Test.YtmcmbicapdcfmaaGreatPaaq
set_option linter.unusedVariables false
set_option linter.unusedSimpArgs false
set_option maxHeartbeats 16000000
namespace Go.Proofs.YtmcmbicapdcfmaaGreat
open Go.RowKit
end Go.Proofs.YtmcmbicapdcfmaaGreat
