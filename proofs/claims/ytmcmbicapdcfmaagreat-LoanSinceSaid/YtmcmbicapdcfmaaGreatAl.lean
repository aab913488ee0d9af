/- Short forms of the steps of a drawn region that is walked out of sight. -/
import Derived.Test.YtmcmbicapdcfmaaGreatAk
set_option linter.unusedVariables false
set_option linter.unusedSimpArgs false
namespace Go.Proofs.YtmcmbicapdcfmaaGreat
open Go.RowKit Go.Maps

section
variable {P : Program} {md : Region.Mode} {S : World → Prop} {L L0 : Array Oper} {Q Q0 : Exit → Act → World → Prop}
theorem tk9 {i : Nat} {oi : Oper} {v : Value} {fuel : Nat} {listed : Array Bool} {a : Act} {w : World} (hL : Hid (L = L0)) (hQ : Hid (PanicOk Q)) (hs : Hid (Region.noSelect L = true)) (hi : L0[i]? = some oi)
    (hy : ∀ w, S w → (execOp a.eval oi).run P w = .ok (.value v) w) (hS : S w)
    (h : wpAnyH P md L Q S fuel (listed.setIfInBounds i true) (a.put oi.dst v) w)
    (hf : Region.free md L0 listed i = true := by kernel_rfl) (hr : (Region.ready md L0 listed).contains i = true := by kernel_rfl) (hg : oi.guard = none := by rfl) : wpAnyH P md L Q S (fuel + 1) listed a w :=
  wpAnyH_takeL hL hQ hs hi hf hr hg hy hS h
theorem rd9 (rs : List Nat) {fuel : Nat} {listed : Array Bool} {a : Act} {w : World} (hL : Hid (L = L0)) (h : AllReadyH P md L Q S fuel listed a w rs) (hr : Region.ready md L0 listed = rs := by kernel_rfl) (hne : rs ≠ [] := by simp) : wpAnyH P md L Q S (fuel + 1) listed a w := wpAnyH_readyL hL hr hne h
theorem ah9 {fuel : Nat} {listed : Array Bool} {a : Act} {w : World} {i : Nat} {o : Oper} (hL : Hid (L = L0)) (ho : L0[i]? = some o)
    (h : ∀ K' : Act → World → Prop, Shut (∀ a w, S w → (S w → wpAnyH P md L Q S fuel (listed.setIfInBounds i true) a w) → K' a w) → Oper.wp P o a w K' Q) (hg : o.guard = none := by rfl) : AllReadyH P md L Q S fuel listed a w [i] := AllReadyH.consL hL ho hg h AllReadyH.nil
theorem dn9 {listed : Array Bool} {a : Act} {w : World} (hL : Hid (L = L0)) (hQ : Hid (Q = Q0)) (h : Q0 .normal a w) (fuel : Nat) (hr : Region.ready md L0 listed = [] := by kernel_rfl) : wpAnyH P md L Q S fuel listed a w := wpAnyH_doneL hL hQ hr h fuel
theorem ab9 {fuel : Nat} {listed : Array Bool} {a : Act} {w : World} (hp : PanicOk Q0)
    (h : ∀ (L : Array Oper) (Q : Exit → Act → World → Prop), Hid (L = L0) → Hid (Q = Q0) → Hid (PanicOk Q) → Hid (Region.noSelect L = true) → wpAnyH P md L Q S fuel listed a w) (hs : Region.noSelect L0 = true := by kernel_rfl) : wpAnyH P md L0 Q0 S fuel listed a w := wpAnyH_abs hp hs h
end
end Go.Proofs.YtmcmbicapdcfmaaGreat
