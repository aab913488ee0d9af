/- Layer 2 of the texts that LoanChecks takes: Vabq. -/
import Derived.Test.YtklikciiaogpbaaGreatVaaq
set_option linter.unusedVariables false
set_option linter.unusedSimpArgs false
/- Small functions of the reference and of the program, layer 1: what each call does. -/
namespace Go.Proofs.YtklikciiaogpbaaGreat
open Go.RowKit
def withinB (n lo hi : Int) : Bool := decide (lo ≤ n) && decide (n ≤ hi)
structure Deed where
 par : Int
 no : Int
 kind : Int
 lock : Int
 person : Int
 lo : Int
 hi : Int
 known : Int
 til : Int
deriving DecidableEq
def errI (b : Bool) (e : Int) : Int := if b then 0 else e
def itemB (p n : Int) : Bool := withinB p 0 5 && withinB n 0 9999
def rangeB (a b lo hi : Int) : Bool := decide (lo ≤ a) && (decide (a ≤ b) && decide (b ≤ hi))
def lastsB (k u : Int) : Bool := withinB k 0 100000 && (decide (u = 0) || (decide (k < u) && withinB u 0 100000))
def subjB (d : Deed) : Bool :=
 if d.kind == 1 then decide (d.lock = 0) && withinB d.person 1 99
 else if d.kind == 2 then decide (d.lock = 0) && withinB d.person 1 99
 else if d.kind == 3 then withinB d.lock 1 3 && withinB d.person 1 99
 else if d.kind == 4 then withinB d.lock 1 3 && withinB d.person 1 99
 else if d.kind == 5 then withinB d.lock 1 3 && decide (d.person = 0)
 else if d.kind == 6 then withinB d.lock 1 3 && decide (d.person = 0)
 else false
def Deed.okB (d : Deed) : Bool := subjB d && (itemB d.par d.no && (rangeB d.lo d.hi 0 100000 && lastsB d.known d.til))
def beforeB (p n q m : Int) : Bool := decide (p < q) || (decide (p = q) && decide (n < m))
def countsB (a b k : Int) : Bool := decide (a ≤ k) && (decide (b = 0) || decide (k < b))
theorem ret_bool {a b : Bool} (h : a = b) : Ending.returned (.bool a) = .returned (.bool b) := by rw [h]
theorem ret_int {k : IntKind} {a b : Int} (h : a = b) : Ending.returned (.int k a) = .returned (.int k b) := by rw [h]
theorem bcell {W w1 : World} (hb : Below W.heap.size W w1) : (∀ b o, b < W.heap.size → w1.cell? ⟨b, o, none⟩ = W.cell? ⟨b, o, none⟩) ∧ (∀ b o, b < W.heap.size → w1.frozen? ⟨b, o, none⟩ = W.frozen? ⟨b, o, none⟩) :=
 ⟨fun b o h => hb.cell (p := ⟨b, o, none⟩) h, fun b o h => hb.frozen (p := ⟨b, o, none⟩) h⟩
theorem Below.then_ {w W w1 : World} (h : Below w.heap.size w W) (hb : Below W.heap.size W w1) : Below w.heap.size w w1 := h.trans (hb.mono h.size)
set_option maxHeartbeats 400000 in
theorem p_within (n lo hi : Int) (w : World) :
 Calls Tryz.prog 86 #[.int .i64 n, .int .i64 lo, .int .i64 hi] w fun e w' => e = .returned (.bool (withinB n lo hi)) ∧ w = w' := by
 go_enter Tryz.func86, Tryz.ntmps86
 go_wp2
 all_goals
  go_ret
  exact ⟨ret_bool (by simp [withinB]; try omega), rfl⟩
set_option maxHeartbeats 400000 in
theorem p_isDay (n : Int) (w : World) :
 Calls Tryz.prog 91 #[.int .i64 n] w fun e w' => e = .returned (.bool (withinB n 0 100000)) ∧ w = w' := by
 go_enter Tryz.func91, Tryz.ntmps91
 go_wp2_with (go_at_call 86; refine (p_within _ _ _ _).mono ?_; rintro e w1 ⟨rfl, rfl⟩)
 go_ret
 exact ⟨rfl, rfl⟩
set_option maxHeartbeats 400000 in
theorem p_areDays (a b : Int) (w : World) :
 Calls Tryz.prog 97 #[.agg #[.int .i64 a, .int .i64 b]] w fun e w' => e = .returned (.bool (rangeB a b 0 100000)) ∧ Below w.heap.size w w' := by
 go_enter Tryz.func97, Tryz.ntmps97
 go_wp2_with (first | (go_at_call 86; refine (p_within _ _ _ _).mono ?_; rintro e w1 ⟨rfl, rfl⟩) | (go_at_call 91; refine (p_isDay _ _).mono ?_; rintro e w1 ⟨rfl, rfl⟩))
 all_goals
  go_ret
  refine ⟨ret_bool ?_, (Below.refl _ _).alloc (Nat.le_refl _) _⟩
  simp_all [rangeB, withinB]
  try omega
set_option maxHeartbeats 400000 in
theorem p_areTimes (k u : Int) (w : World) :
 Calls Tryz.prog 92 #[.int .i64 k, .int .i64 u] w fun e w' => e = .returned (.bool (lastsB k u)) ∧ w = w' := by
 go_enter Tryz.func92, Tryz.ntmps92
 go_wp2_with (first | (go_at_call 86; refine (p_within _ _ _ _).mono ?_; rintro e w1 ⟨rfl, rfl⟩) | (go_at_call 91; refine (p_isDay _ _).mono ?_; rintro e w1 ⟨rfl, rfl⟩))
 all_goals
  go_ret
  refine ⟨ret_bool ?_, rfl⟩
  simp_all [lastsB, withinB]
  first
   | done
   | omega
   | (have hw : wrap64 (k + 1) = k + 1 := IntWalk.wrap64_in _ (by constructor <;> omega)
      rw [hw, Bool.eq_iff_iff]
      simp
      omega)
set_option maxHeartbeats 400000 in
theorem p_counts (a b k : Int) (w : World) :
 Calls Tryz.prog 177 #[.int .i64 a, .int .i64 b, .int .i64 k] w fun e w' => e = .returned (.bool (countsB a b k)) ∧ w = w' := by
 go_enter Tryz.func177, Tryz.ntmps177
 go_wp2
 all_goals
  go_ret
  exact ⟨ret_bool (by simp [countsB, *]; try omega), rfl⟩
set_option maxHeartbeats 400000 in
theorem p_verdict (b : Bool) (x : Int) (w : World) :
 Calls Tryz.prog 84 #[.bool b, .int .i64 x] w fun e w' => e = .returned (.int .i64 (errI b x)) ∧ w = w' := by
 cases b <;>
 ·go_enter Tryz.func84, Tryz.ntmps84
  go_wp2
  go_ret
  exact ⟨rfl, rfl⟩
end Go.Proofs.YtklikciiaogpbaaGreat
