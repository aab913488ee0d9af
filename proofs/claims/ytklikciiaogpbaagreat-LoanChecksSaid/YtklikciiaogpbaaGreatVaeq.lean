/- Layer 2 of the texts that LoanChecks takes: Vaeq. -/
import Derived.Test.YtklikciiaogpbaaGreatVabq
set_option linter.unusedVariables false
set_option linter.unusedSimpArgs false
/- cmp.Compare, cmp.Or and what calls them. -/
namespace Go.Proofs.YtklikciiaogpbaaGreat
open Go.RowKit
def cmpI (a b : Int) : Int := if a < b then -1 else if b < a then 1 else 0
set_option maxHeartbeats 1000000 in
theorem l_compare (a b : Int) (w : World) :
 Calls Tryz.prog 77 #[.int .i64 a, .int .i64 b] w fun e w' => e = .returned (.int .i64 (cmpI a b)) ∧ w = w' := by
 have hn : ∀ (x : Int) (w : World), Calls Tryz.prog 166 #[.int .i64 x] w fun e w' => e = .returned (.bool false) ∧ w = w' := by
  intro x w
  go_enter Tryz.func166, Tryz.ntmps166
  go_wp2
  go_ret
  exact ⟨ret_bool (by simp), rfl⟩
 have H := Lib.hid hn
 clear hn
 go_enter Tryz.func77, Tryz.ntmps77
 go_wp2_with (go_at_call 166; refine (H.out _ _).mono ?_; rintro e w1 ⟨rfl, rfl⟩)
 all_goals
  go_ret
  exact ⟨ret_int (by simp [cmpI, *]; try omega), rfl⟩
def orL : List Int → Int
 | [] => 0
 | x :: l => if x = 0 then orL l else x
end Go.Proofs.YtklikciiaogpbaaGreat
