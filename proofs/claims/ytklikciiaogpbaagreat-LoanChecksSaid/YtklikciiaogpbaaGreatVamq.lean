/- Layer 2 of the texts that LoanChecks takes: Vamq. -/
import Derived.Test.YtklikciiaogpbaaGreatVakq
import Derived.Test.YtklikciiaogpbaaGreatValq
set_option linter.unusedVariables false
set_option linter.unusedSimpArgs false
/- Layer 2: the checks of a receipt and of a return, by the program and by the reference. -/
namespace Go.Proofs.YtklikciiaogpbaaGreat
open Go.RowKit
set_option maxHeartbeats 4000000 in
theorem p_CheckReceipt (r : Rcp) (A : Option Addr) (n c : Nat) (w : World) (hn : n ≤ 9223372036854775807) (hd : Is w w.heap.size A n r.lv) :
 Calls Tryz.prog 19 #[.agg #[.int .i64 r.src, .int .i64 r.bor, .int .i64 r.pap, .slice A n c, .int .i64 r.day, .int .i64 r.kn, .int .i64 r.un]] w fun e w' => e = .returned (.int .i64 (errI r.okB 21)) ∧ Below w.heap.size w w' := by
 have HD := Lib.hid hd
 clear hd
 go_enter Tryz.func19, Tryz.ntmps19
 go_wp2_with (first | (go_at_call 88; refine (p_isSource _ _).mono ?_; rintro e w1 ⟨rfl, rfl⟩) | (go_at_call 89; refine (p_isPerson _ _).mono ?_; rintro e w1 ⟨rfl, rfl⟩) | (go_at_call 85; refine (p_isPaper _ _).mono ?_; rintro e w1 ⟨rfl, rfl⟩) | (go_at_call 90; refine (p_areLeaves r.lv A n c _ hn (HD.out.now (by exact bel_))).mono ?_; rintro e w1 ⟨rfl, hb1⟩; obtain ⟨hc1, hf1⟩ := bcell hb1; have HB1 : Below w.heap.size w w1 := Below.then_ (by exact bel_) hb1; have hs1 := HB1.size) | (go_at_call 91; refine (p_isDay _ _).mono ?_; rintro e w1 ⟨rfl, rfl⟩) | (go_at_call 92; refine (p_areTimes _ _ _).mono ?_; rintro e w1 ⟨rfl, rfl⟩) | (go_at_call 86; refine (p_within _ _ _ _).mono ?_; rintro e w1 ⟨rfl, rfl⟩) | (go_at_call 84; refine (p_verdict _ _ _).mono ?_; rintro e w1 ⟨rfl, rfl⟩))
 all_goals
  go_ret
  exact ⟨by simp_all [Rcp.okB], by first | assumption | exact bel_⟩
set_option maxHeartbeats 4000000 in
theorem r_CheckReceipt (r : Rcp) (A : Option Addr) (n c : Nat) (w : World) (hn : n ≤ 9223372036854775807) (hd : Is w w.heap.size A n r.lv) :
 Calls Tryz.prog 20 #[.agg #[.int .i64 r.src, .int .i64 r.bor, .int .i64 r.pap, .slice A n c, .int .i64 r.day, .int .i64 r.kn, .int .i64 r.un]] w fun e w' => e = .returned (.int .i64 (errI r.okB 21)) ∧ Below w.heap.size w w' := by
 have HD := Lib.hid hd
 clear hd
 go_enter Tryz.func20, Tryz.ntmps20
 go_wp2_with (first | (go_at_call 93; refine (r_isSource2 _ _).mono ?_; rintro e w1 ⟨rfl, rfl⟩) | (go_at_call 94; refine (r_areLeaves2 r.lv A n c _ hn (HD.out.now (by exact bel_))).mono ?_; rintro e w1 ⟨rfl, hb1⟩; obtain ⟨hc1, hf1⟩ := bcell hb1; have HB1 : Below w.heap.size w w1 := Below.then_ (by exact bel_) hb1; have hs1 := HB1.size) | (go_at_call 95; refine (r_isDay2 _ _).mono ?_; rintro e w1 ⟨rfl, rfl⟩) | (go_at_call 96; refine (r_areTimes2 _ _ _).mono ?_; rintro e w1 ⟨rfl, rfl⟩) | (go_at_call 87; refine (r_In2 _ _ _ _).mono ?_; rintro e w1 ⟨rfl, rfl⟩))
 all_goals
  go_ret
  exact ⟨by simp_all [Rcp.okB, errI], by first | assumption | exact bel_⟩
set_option maxHeartbeats 4000000 in
theorem p_CheckReturn (r : Rtn) (A : Option Addr) (n c : Nat) (w : World) (hn : n ≤ 9223372036854775807) (hd : Is w w.heap.size A n r.lv) :
 Calls Tryz.prog 21 #[.agg #[.int .i64 r.src, .int .i64 r.rcp, .int .i64 r.per, .slice A n c, .int .i64 r.lo, .int .i64 r.hi, .int .i64 r.kn, .int .i64 r.un]] w fun e w' => e = .returned (.int .i64 (errI r.okB 22)) ∧ Below w.heap.size w w' := by
 have HD := Lib.hid hd
 clear hd
 go_enter Tryz.func21, Tryz.ntmps21
 go_wp2_with (first | (go_at_call 88; refine (p_isSource _ _).mono ?_; rintro e w1 ⟨rfl, rfl⟩) | (go_at_call 89; refine (p_isPerson _ _).mono ?_; rintro e w1 ⟨rfl, rfl⟩) | (go_at_call 90; refine (p_areLeaves r.lv A n c _ hn (HD.out.now (by exact bel_))).mono ?_; rintro e w1 ⟨rfl, hb1⟩; obtain ⟨hc1, hf1⟩ := bcell hb1; have hz1 : w.heap.size < w1.heap.size := (by have h := hb1.size; (try simp only [World.size_alloc, World.size_setCell] at h); omega); have HB1 : Below w.heap.size w w1 := Below.then_ (by exact bel_) hb1) | (go_at_call 97; refine (p_areDays _ _ _).mono ?_; rintro e w1c ⟨rfl, hb1c⟩; obtain ⟨hc1c, hf1c⟩ := bcell hb1c; have HB1c : Below w.heap.size w w1c := Below.then_ (by exact bel_) hb1c; have hs1c := HB1c.size) | (go_at_call 92; refine (p_areTimes _ _ _).mono ?_; rintro e w1 ⟨rfl, rfl⟩) | (go_at_call 86; refine (p_within _ _ _ _).mono ?_; rintro e w1 ⟨rfl, rfl⟩) | (go_at_call 84; refine (p_verdict _ _ _).mono ?_; rintro e w1 ⟨rfl, rfl⟩))
 all_goals
  go_ret
  exact ⟨by simp_all [Rtn.okB], by first | assumption | exact bel_⟩
set_option maxHeartbeats 4000000 in
theorem r_CheckReturn (r : Rtn) (A : Option Addr) (n c : Nat) (w : World) (hn : n ≤ 9223372036854775807) (hd : Is w w.heap.size A n r.lv) :
 Calls Tryz.prog 22 #[.agg #[.int .i64 r.src, .int .i64 r.rcp, .int .i64 r.per, .slice A n c, .int .i64 r.lo, .int .i64 r.hi, .int .i64 r.kn, .int .i64 r.un]] w fun e w' => e = .returned (.int .i64 (errI r.okB 22)) ∧ Below w.heap.size w w' := by
 have HD := Lib.hid hd
 clear hd
 go_enter Tryz.func22, Tryz.ntmps22
 go_wp2_with (first | (go_at_call 93; refine (r_isSource2 _ _).mono ?_; rintro e w1 ⟨rfl, rfl⟩) | (go_at_call 94; refine (r_areLeaves2 r.lv A n c _ hn (HD.out.now (by exact bel_))).mono ?_; rintro e w1 ⟨rfl, hb1⟩; obtain ⟨hc1, hf1⟩ := bcell hb1; have hz1 : w.heap.size < w1.heap.size := (by have h := hb1.size; (try simp only [World.size_alloc, World.size_setCell] at h); omega); have HB1 : Below w.heap.size w w1 := Below.then_ (by exact bel_) hb1) | (go_at_call 96; refine (r_areTimes2 _ _ _).mono ?_; rintro e w1 ⟨rfl, rfl⟩) | (go_at_call 87; refine (r_In2 _ _ _ _).mono ?_; rintro e w1 ⟨rfl, rfl⟩))
 all_goals
  go_ret
  refine ⟨?_, by first | assumption | exact bel_⟩
  simp_all [Rtn.okB, errI, rangeB]
  try omega
end Go.Proofs.YtklikciiaogpbaaGreat
