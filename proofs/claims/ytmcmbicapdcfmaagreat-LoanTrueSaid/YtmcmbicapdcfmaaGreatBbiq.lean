/- Layer 2 of the texts that LoanBack takes: Bbiq. -/
import Derived.Test.YtmcmbicapdcfmaaGreatBbfq
set_option linter.unusedVariables false
set_option linter.unusedSimpArgs false
set_option maxHeartbeats 16000000
namespace Go.Proofs.YtmcmbicapdcfmaaGreat
open Go.RowKit Go.Maps
structure CcS (w W:World) (LC OC:Array Value) (qo:Nat):Prop where
 hB:Below w.heap.size w W
 bL:BoxA W w.heap.size 32 LC
 bZ:BoxA W (w.heap.size+1) 32 #[.slice none 0 0,.slice none 0 0,.slice none 0 0,.slice none 0 0]
 bO:BoxA W qo 32 OC
 zq:w.heap.size+2≤qo
theorem CcS.ext {w W W':World} {LC OC:Array Value} {qo:Nat} (h:CcS w W LC OC qo) (hb:Below W.heap.size W W'):CcS w W' LC OC qo:=⟨bt_ h.hB hb,h.bL.ext hb,h.bZ.ext hb,h.bO.ext hb,h.zq⟩
theorem CcS.grow {w W W':World} {LC OC:Array Value} {qo:Nat} (h:CcS w W LC OC qo) {base s n:Nat} {t:TypeId} {v:Value} {xs:List Value} (ho:W.ownsRow base t s v n xs) (ht:32≠t) (hbase:w.heap.size≤base) (hg:W.grownBy W' v.ownBlock):CcS w W' LC OC qo :=
 ⟨h.hB.grown hg h.hB.size fun b hb=>Nat.le_trans hbase (own_le ho hb),h.bL.kept hg (own_ne ho h.bL ht),h.bZ.kept hg (own_ne ho h.bZ ht),h.bO.kept hg (own_ne ho h.bO ht),h.zq⟩
theorem CcS.set {w W:World} {LC OC:Array Value} {qo:Nat} (h:CcS w W LC OC qo) (o:Nat) (u:Value):CcS w (W.setCell ⟨qo,o,none⟩ u) LC (OC.setIfInBounds o u) qo:=by
 have hz:=h.zq
 exact ⟨h.hB.setCell (show w.heap.size≤qo by omega) _,h.bL.other (show w.heap.size≠qo by omega) _,h.bZ.other (show w.heap.size+1≠qo by omega) _,h.bO.set o u,hz⟩
theorem CcS.far {w W:World} {LC OC:Array Value} {qo:Nat} (h:CcS w W LC OC qo) (g o:Nat) (u:Value) (hg:w.heap.size+2≤g) (hq:qo≠g):CcS w (W.setCell ⟨g,o,none⟩ u) LC OC qo :=
 ⟨h.hB.setCell (show w.heap.size≤g by omega) _,h.bL.other (show w.heap.size≠g by omega) _,h.bZ.other (show w.heap.size+1≠g by omega) _,h.bO.other hq _,h.zq⟩
end Go.Proofs.YtmcmbicapdcfmaaGreat
