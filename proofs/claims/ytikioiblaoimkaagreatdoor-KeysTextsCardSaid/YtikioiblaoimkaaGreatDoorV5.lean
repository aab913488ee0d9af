/- KeysTexts: for every list of deeds and every text, whatever memory they lie in, the Go function KeysTexts (layer 1, promises P1.1 and P1.8) returns true and leaves its arguments as they read. Conditions: the listed tables of Go's library read as the card ties them. -/
import Derived.Test.YtikioiblaoimkaaGreatDoorV4
import Derived.Test.YtikioiblaoimkaaGreatDoorTie
import Derived.Test.YtikioiblaoimkaaGreatDoorCards
import Derived.SevenTiedAt
set_option linter.unusedVariables false
set_option linter.unusedSimpArgs false

/- KeysTexts: for every list of deeds and every text, whatever memory they lie in, the Go function KeysTexts (layer 1, promises P1.1 and P1.8) returns true and leaves its arguments as they read; the listed tables are tied to the program's text. -/
namespace Go.Proofs.YtikioiblaoimkaaGreatDoor
open Go

theorem keysTexts_card : Rows.KeysTextsCardSaid :=
  Claim7.holds_tied_plain_at .later [] [.data, .data, .data, .data, .pinned] true (true, "7d87ec078d62cc13603c3cf9b751a326ab65be7cfe5ea0e31b3b3b12563ca375") true
    keysTexts_holds (fun _ h => by cases h) (by kernel_rfl) (fun _ h => by cases h) keysTexts_row_tie rfl ⟨rfl, rfl⟩ (by kernel_rfl) rfl
    (fun f fn hf hfn => by
      obtain rfl : f = 3 := Option.some.inj ((show Tryz.prog.funcNamed "parvise/parviselaw01.KeysTexts" = some 3 by kernel_rfl).symm.trans hf) |>.symm
      obtain rfl : fn = Tryz.f3 := (Option.some.inj (Tryz.func3.symm.trans hfn)).symm
      exact ⟨by kernel_rfl, fun j t ht => by
        rw [Tryz.params3] at ht
        have hm : t ∈ [22, 9] := by simpa using Array.mem_of_getElem? ht
        have hall : ([22, 9].all fun u => !Tryz.prog.wantsStandIn u) = true := by kernel_rfl
        exact (show Tryz.prog.wantsStandIn t = false by simpa using List.all_eq_true.1 hall t hm)⟩)
    (by kernel_rfl)
end Go.Proofs.YtikioiblaoimkaaGreatDoor
