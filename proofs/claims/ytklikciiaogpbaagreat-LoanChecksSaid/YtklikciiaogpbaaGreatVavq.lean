/- Layer 2 of the texts that LoanChecks takes: Vavq. -/
import Derived.Test.YtklikciiaogpbaaGreatVatq
set_option linter.unusedVariables false
set_option linter.unusedSimpArgs false
/- Layer 2, the reference: counts, earliest, receiptOf. -/
namespace Go.Proofs.YtklikciiaogpbaaGreat
open Go.RowKit Go.Maps
def ixI : Option Nat → Int
 | some i => i
 | none => -1
theorem any_get {α : Type} {l : List α} {p : α → Bool} {k j : Nat} (h : (l.take k).any p = false) (hj : j < k) (hl : j < l.length) : p l[j] = false := by
 have h2 := List.any_eq_false.1 h l[j] (by rw [List.mem_take_iff_getElem]; exact ⟨j, by omega, rfl⟩)
 simpa using h2
theorem ix_found {α : Type} {l : List α} {p : α → Bool} {k : Nat} {x : α} (hx : l[k]? = some x) (hp : p x = true) (h : (l.take k).any p = false) : l.findIdx? p = some k := by
 have hlt : k < l.length := (List.getElem?_eq_some_iff.1 hx).1
 rw [List.findIdx?_eq_some_iff_getElem]
 refine ⟨hlt, by rw [(List.getElem?_eq_some_iff.1 hx).2]; exact hp, fun j hj => ?_⟩
 rw [any_get h hj (by omega)]
 simp
theorem ix_none {α : Type} {l : List α} {p : α → Bool} (h : l.any p = false) : l.findIdx? p = none := by
 rw [List.findIdx?_eq_none_iff]
 intro x hx
 have := List.any_eq_false.1 h x hx
 simpa using this
theorem any_take_succ2 {α : Type} {l : List α} {k : Nat} {x : α} {p : α → Bool} (h : l[k]? = some x) : (l.take (k + 1)).any p = ((l.take k).any p || p x) := by rw [take_snoc_some h, List.any_append]; simp
end Go.Proofs.YtklikciiaogpbaaGreat
