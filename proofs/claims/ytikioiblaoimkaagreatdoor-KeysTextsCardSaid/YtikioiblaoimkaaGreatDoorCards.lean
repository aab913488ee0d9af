/-
  DERIVED. GIVEN WITH THE SEED: THE CARDS: each row of YtikioiblaoimkaaGreatDoorRows.lean that lists a variable, with what it lists TIED to the program's text (the seventh form; the later family's looks); each row that meets fmt, with fmt's text TOLD by the authors' own Lean function (tested against real Go, not proved from fmt's source: count such statements apart). THE CARD IS WHAT COUNTS. Prove the row's statement (the work); the ties are given (YtikioiblaoimkaaGreatDoorTie.lean); close each card by the builder's one call (the guide's Derived/Test/ToyasCard.lean, 'card_holds'). Laid BY PROGRAM, IN A SANDBOX (cutbox-door.mjs). By AI agents, Wed Nov 11 2026. No macro, syntax, notation, axiom, sorry.
-/
import Derived.Test.YtikioiblaoimkaaGreatDoorRows
import GoSem.ClaimSeven
namespace Go.Proofs.YtikioiblaoimkaaGreatDoor
namespace Rows

/-- THE TIED CARD OF 'parviselaw01.KeysTexts'. -/
def keysTextsCard : Claim7 := { stood := { row := keysTextsRow, standIns := [], harness := (true, "7d87ec078d62cc13603c3cf9b751a326ab65be7cfe5ea0e31b3b3b12563ca375"), looks := true }, kinds := [], alts := [], laidByText := true, laidKinds := [.data, .data, .data, .data, .pinned], laidTests := true, laidLooks := .later }
def KeysTextsCardSaid : Prop := Claim7.holds Tryz.pinned (.plain (OpenSpec.ofChange keysTextsSpec)) keysTextsCard

/-- THE SECOND FORM's CARD OF 'parviselaw01.KeysTexts'. -/
def keysTextsUptoCard : Claim7 := { stood := { row := keysTextsUptoRow, standIns := [], harness := (true, "7d87ec078d62cc13603c3cf9b751a326ab65be7cfe5ea0e31b3b3b12563ca375"), looks := true }, kinds := [], alts := [], laidByText := true, laidKinds := [.data, .data, .data, .data, .pinned], laidTests := true, laidLooks := .later }
def KeysTextsUptoCardSaid : Prop := Claim7.holds Tryz.pinned (.plain (OpenSpec.upto keysTextsSpec)) keysTextsUptoCard
end Rows
end Go.Proofs.YtikioiblaoimkaaGreatDoor
