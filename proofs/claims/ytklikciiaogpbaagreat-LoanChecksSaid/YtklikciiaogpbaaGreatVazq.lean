/- Layer 2 of the texts that LoanChecks takes: Vazq. -/
import Derived.Test.YtklikciiaogpbaaGreatVatq
set_option linter.unusedVariables false
set_option linter.unusedSimpArgs false
/- Layer 2: isOnly, checkPerson, checkFolio, checkPaper; checkTrue of an account. -/
namespace Go.Proofs.YtklikciiaogpbaaGreat
open Go.RowKit Go.Maps
theorem p_isOnly (l : List Int) (v : Int) (A : Option Addr) (n c : Nat) (w : World) (hn : n ≤ 1000000) (h : Is w w.heap.size A n l) :
 Calls Tryz.prog 140 #[.slice A n c, .int .i64 v] w fun e w' => e = .returned (.bool (decide (l = [v]))) ∧ w = w' := by
 have hl := h.len
 by_cases h1 : n = 1
 ·subst h1
  obtain ⟨b, o, x, rfl, hb, hx, hc⟩ := h.at_ (k := 0) (by omega)
  obtain rfl : l = [x] := by
   match l, hl with
   | [y], _ => simpa using hx
  have e1 : decide ([x] = [v]) = (x == v) := by rw [Bool.eq_iff_iff]; simp
  rw [e1]
  clear h hl hx e1
  rw [Nat.add_zero] at hc
  go_enter Tryz.func140, Tryz.ntmps140
  go_wp2
  go_ret
  exact ⟨rfl, rfl⟩
 ·have e1 : decide (l = [v]) = false := by simp; intro e; rw [e] at hl; simp at hl; omega
  rw [e1]
  clear h hl e1
  go_enter Tryz.func140, Tryz.ntmps140
  go_wp2
  go_ret
  exact ⟨rfl, rfl⟩
theorem p_checkPerson2 (p : Int) (w : World) : Calls Tryz.prog 189 #[.int .i64 p] w fun e w' => e = .returned (.int .i64 (errI (withinB p 0 99) 1)) ∧ w = w' := by
 go_enter Tryz.func189, Tryz.ntmps189
 go_wp2_with (first | (go_at_call 86; refine (p_within _ _ _ _).mono ?_; rintro e w1 ⟨rfl, rfl⟩) | (go_at_call 84; refine (p_verdict _ _ _).mono ?_; rintro e w1 ⟨rfl, rfl⟩))
 go_ret
 exact ⟨rfl, rfl⟩
set_option maxHeartbeats 1000000 in
theorem p_checkFolio (pp : List Ppr) (x : Lsl) (a b : Int) (w : World) (hn : x.pn ≤ 9223372036854775807) (hd : Pps w w.heap.size x.pA x.pn pp) :
 Calls Tryz.prog 135 #[.agg #[.slice x.pA x.pn x.pc, .slice x.rA x.rn x.rc, .slice x.tA x.tn x.tc, .slice x.sA x.sn x.sc], .agg #[.int .i64 a, .int .i64 b]] w fun e w' => e = .returned (.int .i64 (errI (folB pp a b) 26)) ∧ Below w.heap.size w w' := by
 have HD : Hid (∀ W : World, Below w.heap.size w W → Calls Tryz.prog 70 #[.agg #[.slice x.pA x.pn x.pc, .slice x.rA x.rn x.rc, .slice x.tA x.tn x.tc, .slice x.sA x.sn x.sc], .agg #[.int .i64 a, .int .i64 b]] W fun e w' => e = .returned (.bool (folB pp a b)) ∧ Below W.heap.size W w') := by
  show ∀ _, _
  exact fun W hW => p_has pp x a b W hn (hd.now abP hW)
 clear hd
 go_enter Tryz.func135, Tryz.ntmps135
 go_wp2_with (first | (go_at_call 70; refine (HD.out _ (by exact bel_)).mono ?_; rintro e w1 ⟨rfl, hb1⟩; have HB1 : Below w.heap.size w w1 := Below.then_ (by exact bel_) hb1) | (go_at_call 84; refine (p_verdict _ _ _).mono ?_; rintro e w1 ⟨rfl, rfl⟩))
 go_ret
 exact ⟨rfl, HB1⟩
set_option maxHeartbeats 1000000 in
theorem p_checkPaper2 (pp : List Ppr) (x : Lsl) (a : Int) (w : World) (hn : x.pn ≤ 9223372036854775807) (hd : Pps w w.heap.size x.pA x.pn pp) :
 Calls Tryz.prog 138 #[.agg #[.slice x.pA x.pn x.pc, .slice x.rA x.rn x.rc, .slice x.tA x.tn x.tc, .slice x.sA x.sn x.sc], .int .i64 a] w fun e w' => e = .returned (.int .i64 (errI (folB pp a 1) 26)) ∧ Below w.heap.size w w' := by
 have HD : Hid (∀ W : World, Below w.heap.size w W → Calls Tryz.prog 135 #[.agg #[.slice x.pA x.pn x.pc, .slice x.rA x.rn x.rc, .slice x.tA x.tn x.tc, .slice x.sA x.sn x.sc], .agg #[.int .i64 a, .int .i64 1]] W fun e w' => e = .returned (.int .i64 (errI (folB pp a 1) 26)) ∧ Below W.heap.size W w') := by
  show ∀ _, _
  exact fun W hW => p_checkFolio pp x a 1 W hn (hd.now abP hW)
 clear hd
 go_enter Tryz.func138, Tryz.ntmps138
 go_wp2_with (go_at_call 135; refine (HD.out _ (by exact bel_)).mono ?_; rintro e w1 ⟨rfl, hb1⟩; have HB1 : Below w.heap.size w w1 := Below.then_ (by exact bel_) hb1)
 go_ret
 exact ⟨rfl, HB1⟩
end Go.Proofs.YtklikciiaogpbaaGreat
