import Derived.Test.YtikioiblaoimkaaGreatDoorRows
import Derived.WalkKit
import Derived.WalkSpells
import Derived.WalkLawsBesides
import Derived.Lib.Hide
import Derived.Deep.QuietTactic
import Derived.BigQuiet
import Derived.Deep.RegionWith
import Derived.StillTailTactics
import Derived.Maps.AppendAt
import Derived.Deep.AppendLies
import Derived.RangeFuncBox
set_option linter.unusedVariables false
set_option linter.unusedSimpArgs false

/- Small functions of the reference and of the program, layer 1: what each call does. -/
namespace Go.Proofs.YtikioiblaoimkaaGreatDoor
open Go.RowKit

def withinB (n lo hi : Int) : Bool := decide (lo ≤ n) && decide (n ≤ hi)

/-- A deed: its parish and number, kind, lock, person, the day's ends, known, until. -/
structure Deed where
  par : Int
  no : Int
  kind : Int
  lock : Int
  person : Int
  lo : Int
  hi : Int
  known : Int
  til : Int
deriving DecidableEq

def errI (b : Bool) (e : Int) : Int := if b then 0 else e
def itemB (p n : Int) : Bool := withinB p 0 5 && withinB n 0 9999
def rangeB (a b lo hi : Int) : Bool := decide (lo ≤ a) && (decide (a ≤ b) && decide (b ≤ hi))
def lastsB (k u : Int) : Bool := withinB k 0 100000 && (decide (u = 0) || (decide (k < u) && withinB u 0 100000))
def officeB (k : Int) : Bool := decide (k = 1) || decide (k = 2)
def subjB (d : Deed) : Bool :=
  if d.kind == 1 then decide (d.lock = 0) && withinB d.person 1 99
  else if d.kind == 2 then decide (d.lock = 0) && withinB d.person 1 99
  else if d.kind == 3 then withinB d.lock 1 3 && withinB d.person 1 99
  else if d.kind == 4 then withinB d.lock 1 3 && withinB d.person 1 99
  else if d.kind == 5 then withinB d.lock 1 3 && decide (d.person = 0)
  else if d.kind == 6 then withinB d.lock 1 3 && decide (d.person = 0)
  else false
def Deed.okB (d : Deed) : Bool := subjB d && (itemB d.par d.no && (rangeB d.lo d.hi 0 100000 && lastsB d.known d.til))
def daysB (d : Deed) : Bool := rangeB d.lo d.hi 0 100000 && lastsB d.known d.til
theorem Deed.okB_eq (d : Deed) : d.okB = (itemB d.par d.no && (subjB d && daysB d)) := by
  unfold Deed.okB daysB
  cases subjB d <;> cases itemB d.par d.no <;> rfl
def beforeB (p n q m : Int) : Bool := decide (p < q) || (decide (p = q) && decide (n < m))
def countsB (a b k : Int) : Bool := decide (a ≤ k) && (decide (b = 0) || decide (k < b))

theorem ret_bool {a b : Bool} (h : a = b) : Ending.returned (.bool a) = .returned (.bool b) := by rw [h]
theorem ret_int {k : IntKind} {a b : Int} (h : a = b) : Ending.returned (.int k a) = .returned (.int k b) := by rw [h]
theorem not_t {b : Bool} (h : (!b) = true) : b = false := by cases b <;> simp_all
theorem not_f {b : Bool} (h : (!b) = false) : b = true := by cases b <;> simp_all
theorem bcell {W w1 : World} (hb : Below W.heap.size W w1) : (∀ b o, b < W.heap.size → w1.cell? ⟨b, o, none⟩ = W.cell? ⟨b, o, none⟩) ∧ (∀ b o, b < W.heap.size → w1.frozen? ⟨b, o, none⟩ = W.frozen? ⟨b, o, none⟩) :=
  ⟨fun b o h => hb.cell (p := ⟨b, o, none⟩) h, fun b o h => hb.frozen (p := ⟨b, o, none⟩) h⟩

theorem Below.then_ {w W w1 : World} (h : Below w.heap.size w W) (hb : Below W.heap.size W w1) : Below w.heap.size w w1 := h.trans (hb.mono h.size)

set_option maxHeartbeats 400000 in
theorem r_within (n lo hi : Int) (w : World) :
    Calls Tryz.prog 76 #[.int .i64 n, .int .i64 lo, .int .i64 hi] w fun e w' => e = .returned (.bool (withinB n lo hi)) ∧ w = w' := by
  go_enter Tryz.func76, Tryz.ntmps76
  go_wp2
  all_goals
    go_ret
    exact ⟨ret_bool (by simp [withinB]; try omega), rfl⟩

set_option maxHeartbeats 400000 in
theorem p_within (n lo hi : Int) (w : World) :
    Calls Tryz.prog 106 #[.int .i64 n, .int .i64 lo, .int .i64 hi] w fun e w' => e = .returned (.bool (withinB n lo hi)) ∧ w = w' := by
  go_enter Tryz.func106, Tryz.ntmps106
  go_wp2
  all_goals
    go_ret
    exact ⟨ret_bool (by simp [withinB]; try omega), rfl⟩

set_option maxHeartbeats 400000 in
theorem r_isDay (n : Int) (w : World) :
    Calls Tryz.prog 112 #[.int .i64 n] w fun e w' => e = .returned (.bool (withinB n 0 100000)) ∧ w = w' := by
  go_enter Tryz.func112, Tryz.ntmps112
  go_wp2_with (go_at_call 76; refine (r_within _ _ _ _).mono ?_; rintro e w' ⟨rfl, rfl⟩)
  go_ret
  exact ⟨rfl, rfl⟩

set_option maxHeartbeats 400000 in
theorem r_isItem (p n : Int) (w : World) :
    Calls Tryz.prog 77 #[.agg #[.int .i64 p, .int .i64 n]] w fun e w' => e = .returned (.bool (itemB p n)) ∧ Below w.heap.size w w' := by
  go_enter Tryz.func77, Tryz.ntmps77
  go_wp2_with (go_at_call 76; refine (r_within _ _ _ _).mono ?_; rintro e w' ⟨rfl, rfl⟩)
  all_goals
    go_ret
    exact ⟨ret_bool (by simp [itemB, *]), (Below.refl _ _).alloc (Nat.le_refl _) _⟩

set_option maxHeartbeats 400000 in
theorem r_isRange (a b lo hi : Int) (w : World) :
    Calls Tryz.prog 78 #[.agg #[.int .i64 a, .int .i64 b], .int .i64 lo, .int .i64 hi] w fun e w' => e = .returned (.bool (rangeB a b lo hi)) ∧ Below w.heap.size w w' := by
  go_enter Tryz.func78, Tryz.ntmps78
  go_wp2
  all_goals
    go_ret
    exact ⟨ret_bool (by simp [rangeB, *]; try omega), (Below.refl _ _).alloc (Nat.le_refl _) _⟩

set_option maxHeartbeats 400000 in
theorem r_lasts (k u : Int) (w : World) :
    Calls Tryz.prog 79 #[.int .i64 k, .int .i64 u] w fun e w' => e = .returned (.bool (lastsB k u)) ∧ w = w' := by
  go_enter Tryz.func79, Tryz.ntmps79
  go_wp2_with (go_at_call 112; refine (r_isDay _ _).mono ?_; rintro e w' ⟨rfl, rfl⟩)
  all_goals
    go_ret
    refine ⟨ret_bool ?_, rfl⟩
    first
      | (simp [lastsB, *]; done)
      | (have hq : ¬ k < u := by omega
         simp [lastsB, *])

set_option maxHeartbeats 400000 in
theorem r_before (p n q m : Int) (w : World) :
    Calls Tryz.prog 38 #[.agg #[.int .i64 p, .int .i64 n], .agg #[.int .i64 q, .int .i64 m]] w fun e w' => e = .returned (.bool (beforeB p n q m)) ∧ Below w.heap.size w w' := by
  go_enter Tryz.func38, Tryz.ntmps38
  go_wp2
  all_goals
    go_ret
    exact ⟨ret_bool (by simp [beforeB, *]; try omega), ((Below.refl _ _).alloc (Nat.le_refl _) _).alloc (by simp) _⟩

set_option maxHeartbeats 400000 in
theorem p_isDay (n : Int) (w : World) :
    Calls Tryz.prog 87 #[.int .i64 n] w fun e w' => e = .returned (.bool (withinB n 0 100000)) ∧ w = w' := by
  go_enter Tryz.func87, Tryz.ntmps87
  go_wp2_with (go_at_call 106; refine (p_within _ _ _ _).mono ?_; rintro e w1 ⟨rfl, rfl⟩)
  go_ret
  exact ⟨rfl, rfl⟩

set_option maxHeartbeats 400000 in
theorem p_areDays (a b : Int) (w : World) :
    Calls Tryz.prog 107 #[.agg #[.int .i64 a, .int .i64 b]] w fun e w' => e = .returned (.bool (rangeB a b 0 100000)) ∧ Below w.heap.size w w' := by
  go_enter Tryz.func107, Tryz.ntmps107
  go_wp2_with (first | (go_at_call 106; refine (p_within _ _ _ _).mono ?_; rintro e w1 ⟨rfl, rfl⟩) | (go_at_call 87; refine (p_isDay _ _).mono ?_; rintro e w1 ⟨rfl, rfl⟩))
  all_goals
    go_ret
    refine ⟨ret_bool ?_, (Below.refl _ _).alloc (Nat.le_refl _) _⟩
    simp_all [rangeB, withinB]
    try omega

set_option maxHeartbeats 400000 in
theorem p_areTimes (k u : Int) (w : World) :
    Calls Tryz.prog 108 #[.int .i64 k, .int .i64 u] w fun e w' => e = .returned (.bool (lastsB k u)) ∧ w = w' := by
  go_enter Tryz.func108, Tryz.ntmps108
  go_wp2_with (first | (go_at_call 106; refine (p_within _ _ _ _).mono ?_; rintro e w1 ⟨rfl, rfl⟩) | (go_at_call 87; refine (p_isDay _ _).mono ?_; rintro e w1 ⟨rfl, rfl⟩))
  all_goals
    go_ret
    refine ⟨ret_bool ?_, rfl⟩
    simp_all [lastsB, withinB]
    first
      | done
      | omega
      | (have hw : wrap64 (k + 1) = k + 1 := IntWalk.wrap64_in _ (by constructor <;> omega)
         rw [hw, Bool.eq_iff_iff]
         simp
         omega)

set_option maxHeartbeats 400000 in
theorem p_counts (a b k : Int) (w : World) :
    Calls Tryz.prog 88 #[.int .i64 a, .int .i64 b, .int .i64 k] w fun e w' => e = .returned (.bool (countsB a b k)) ∧ w = w' := by
  go_enter Tryz.func88, Tryz.ntmps88
  go_wp2
  all_goals
    go_ret
    exact ⟨ret_bool (by simp [countsB, *]; try omega), rfl⟩

set_option maxHeartbeats 400000 in
theorem p_verdict (b : Bool) (x : Int) (w : World) :
    Calls Tryz.prog 69 #[.bool b, .int .i64 x] w fun e w' => e = .returned (.int .i64 (errI b x)) ∧ w = w' := by
  cases b <;>
  · go_enter Tryz.func69, Tryz.ntmps69
    go_wp2
    go_ret
    exact ⟨rfl, rfl⟩

end Go.Proofs.YtikioiblaoimkaaGreatDoor

/- CheckDeed of the reference and of the program, layer 1. -/
namespace Go.Proofs.YtikioiblaoimkaaGreatDoor
open Go.RowKit

set_option maxHeartbeats 1000000 in
theorem r_checkDeed (d : Deed) (w : World) :
    Calls Tryz.prog 37 #[.agg #[.int .i64 d.par, .int .i64 d.no, .int .i64 d.kind, .int .i64 d.lock, .int .i64 d.person, .int .i64 d.lo, .int .i64 d.hi, .int .i64 d.known, .int .i64 d.til]] w fun e w' => e = .returned (.int .i64 (errI d.okB 10)) ∧ Below w.heap.size w w' := by
  go_enter Tryz.func37, Tryz.ntmps37
  go_wp2_with (first | (go_at_call 76; refine (r_within _ _ _ _).mono ?_; rintro e w1 ⟨rfl, rfl⟩) | (go_at_call 79; refine (r_lasts _ _ _).mono ?_; rintro e w1 ⟨rfl, rfl⟩) | (go_at_call 77; refine (r_isItem _ _ _).mono ?_; rintro e w1 ⟨rfl, hb1⟩; obtain ⟨hc1, hf1⟩ := bcell hb1; have hz1 : w.heap.size < w1.heap.size := (by have h := hb1.size; (try simp only [World.size_alloc, World.size_setCell] at h); omega); have HB1 : Below w.heap.size w w1 := Below.then_ (by (repeat' (first | with_reducible exact Below.refl _ _ | with_reducible assumption | with_reducible refine Below.alloc ?_ ?_ _ | with_reducible refine Below.setCell ?_ ?_ _ | with_reducible refine Below.drew ?_ | (simp; done) | (simp; omega) | omega))) hb1) | (go_at_call 78; refine (r_isRange _ _ _ _ _).mono ?_; rintro e w1 ⟨rfl, hb1⟩; obtain ⟨hc1, hf1⟩ := bcell hb1; have hz1 : w.heap.size < w1.heap.size := (by have h := hb1.size; (try simp only [World.size_alloc, World.size_setCell] at h); omega); have HB1 : Below w.heap.size w w1 := Below.then_ (by (repeat' (first | with_reducible exact Below.refl _ _ | with_reducible assumption | with_reducible refine Below.alloc ?_ ?_ _ | with_reducible refine Below.setCell ?_ ?_ _ | with_reducible refine Below.drew ?_ | (simp; done) | (simp; omega) | omega))) hb1))
  all_goals
    go_ret
    refine ⟨ret_int ?_, ?_⟩
    · first | (simp [Deed.okB, subjB, errI, *]; done) | (simp [Deed.okB, subjB, errI, *]; first | exact not_t ‹_› | exact not_f ‹_› | (rw [Bool.eq_iff_iff]; simp [*]; done) | (rw [Bool.eq_iff_iff]; simp [*]; omega))
    · (repeat' (first | with_reducible exact Below.refl _ _ | with_reducible assumption | with_reducible refine Below.alloc ?_ ?_ _ | with_reducible refine Below.setCell ?_ ?_ _ | with_reducible refine Below.drew ?_ | (simp; done) | (simp; omega) | omega))

theorem p_isParishK (n : Int) (w : World) : Calls Tryz.prog 105 #[.int .i64 n] w fun e w' => e = .returned (.bool (withinB n 0 5)) ∧ w = w' := by
  go_enter Tryz.func105, Tryz.ntmps105
  go_wp2_with (go_at_call 106; refine (p_within _ _ _ _).mono ?_; rintro e w1 ⟨rfl, rfl⟩)
  go_ret
  exact ⟨rfl, rfl⟩
theorem p_isPersonK (n : Int) (w : World) : Calls Tryz.prog 99 #[.int .i64 n] w fun e w' => e = .returned (.bool (withinB n 1 99)) ∧ w = w' := by
  go_enter Tryz.func99, Tryz.ntmps99
  go_wp2_with (go_at_call 106; refine (p_within _ _ _ _).mono ?_; rintro e w1 ⟨rfl, rfl⟩)
  go_ret
  exact ⟨rfl, rfl⟩

set_option maxHeartbeats 1000000 in
theorem p_isItemK (p n : Int) (w : World) :
    Calls Tryz.prog 70 #[.agg #[.int .i64 p, .int .i64 n]] w fun e w' => e = .returned (.bool (itemB p n)) ∧ Below w.heap.size w w' := by
  go_enter Tryz.func70, Tryz.ntmps70
  go_wp2_with (first | (go_at_call 105; refine (p_isParishK _ _).mono ?_; rintro e w1 ⟨rfl, rfl⟩) | (go_at_call 106; refine (p_within _ _ _ _).mono ?_; rintro e w1 ⟨rfl, rfl⟩))
  all_goals
    go_ret
    exact ⟨ret_bool (by simp [itemB, *]), by (repeat' (first | with_reducible exact Below.refl _ _ | with_reducible assumption | with_reducible refine Below.alloc ?_ ?_ _ | with_reducible refine Below.setCell ?_ ?_ _ | with_reducible refine Below.drew ?_ | (simp; done) | (simp; omega) | omega))⟩

set_option maxHeartbeats 1000000 in
theorem p_validSubject (d : Deed) (w : World) :
    Calls Tryz.prog 71 #[.agg #[.int .i64 d.par, .int .i64 d.no, .int .i64 d.kind, .int .i64 d.lock, .int .i64 d.person, .int .i64 d.lo, .int .i64 d.hi, .int .i64 d.known, .int .i64 d.til]] w fun e w' => e = .returned (.bool (subjB d)) ∧ Below w.heap.size w w' := by
  go_enter Tryz.func71, Tryz.ntmps71
  go_wp2_with (first | (go_at_call 99; refine (p_isPersonK _ _).mono ?_; rintro e w1 ⟨rfl, rfl⟩) | (go_at_call 106; refine (p_within _ _ _ _).mono ?_; rintro e w1 ⟨rfl, rfl⟩))
  all_goals
    go_ret
    refine ⟨ret_bool ?_, by (repeat' (first | with_reducible exact Below.refl _ _ | with_reducible assumption | with_reducible refine Below.alloc ?_ ?_ _ | with_reducible refine Below.setCell ?_ ?_ _ | with_reducible refine Below.drew ?_ | (simp; done) | (simp; omega) | omega))⟩
    first | (simp [subjB, *]; done) | (simp [subjB, *]; first | exact not_t ‹_› | exact not_f ‹_› | (rw [Bool.eq_iff_iff]; simp [*]; done) | (rw [Bool.eq_iff_iff]; simp [*]; omega))

set_option maxHeartbeats 1000000 in
theorem p_validDays (d : Deed) (w : World) :
    Calls Tryz.prog 72 #[.agg #[.int .i64 d.par, .int .i64 d.no, .int .i64 d.kind, .int .i64 d.lock, .int .i64 d.person, .int .i64 d.lo, .int .i64 d.hi, .int .i64 d.known, .int .i64 d.til]] w fun e w' => e = .returned (.bool (daysB d)) ∧ Below w.heap.size w w' := by
  go_enter Tryz.func72, Tryz.ntmps72
  go_wp2_with (first | (go_at_call 107; refine (p_areDays _ _ _).mono ?_; rintro e w1 ⟨rfl, hb1⟩; obtain ⟨hc1, hf1⟩ := bcell hb1; have hz1 : w.heap.size < w1.heap.size := (by have h := hb1.size; (try simp only [World.size_alloc, World.size_setCell] at h); omega); have HB1 : Below w.heap.size w w1 := Below.then_ (by (repeat' (first | with_reducible exact Below.refl _ _ | with_reducible assumption | with_reducible refine Below.alloc ?_ ?_ _ | with_reducible refine Below.setCell ?_ ?_ _ | with_reducible refine Below.drew ?_ | (simp; done) | (simp; omega) | omega))) hb1) | (go_at_call 108; refine (p_areTimes _ _ _).mono ?_; rintro e w1 ⟨rfl, rfl⟩))
  all_goals
    go_ret
    refine ⟨ret_bool ?_, by (repeat' (first | with_reducible exact Below.refl _ _ | with_reducible assumption | with_reducible refine Below.alloc ?_ ?_ _ | with_reducible refine Below.setCell ?_ ?_ _ | with_reducible refine Below.drew ?_ | (simp; done) | (simp; omega) | omega))⟩
    first | (simp [daysB, *]; done) | (simp [daysB, *]; first | exact not_t ‹_› | exact not_f ‹_› | (rw [Bool.eq_iff_iff]; simp [*]; done) | (rw [Bool.eq_iff_iff]; simp [*]; omega))

set_option maxHeartbeats 1000000 in
theorem p_checkDeed (d : Deed) (w : World) :
    Calls Tryz.prog 33 #[.agg #[.int .i64 d.par, .int .i64 d.no, .int .i64 d.kind, .int .i64 d.lock, .int .i64 d.person, .int .i64 d.lo, .int .i64 d.hi, .int .i64 d.known, .int .i64 d.til]] w fun e w' => e = .returned (.int .i64 (errI d.okB 10)) ∧ Below w.heap.size w w' := by
  go_enter Tryz.func33, Tryz.ntmps33
  go_wp2_with (first | (go_at_call 70; refine (p_isItemK _ _ _).mono ?_; rintro e w1 ⟨rfl, hb1⟩; obtain ⟨hc1, hf1⟩ := bcell hb1; have hz1 : w.heap.size < w1.heap.size := (by have h := hb1.size; (try simp only [World.size_alloc, World.size_setCell] at h); omega); have HB1 : Below w.heap.size w w1 := Below.then_ (by (repeat' (first | with_reducible exact Below.refl _ _ | with_reducible assumption | with_reducible refine Below.alloc ?_ ?_ _ | with_reducible refine Below.setCell ?_ ?_ _ | with_reducible refine Below.drew ?_ | (simp; done) | (simp; omega) | omega))) hb1) | (go_at_call 71; refine (p_validSubject _ _).mono ?_; rintro e w1 ⟨rfl, hb1⟩; obtain ⟨hc1, hf1⟩ := bcell hb1; have hz1 : w.heap.size < w1.heap.size := (by have h := hb1.size; (try simp only [World.size_alloc, World.size_setCell] at h); omega); have HB1 : Below w.heap.size w w1 := Below.then_ (by (repeat' (first | with_reducible exact Below.refl _ _ | with_reducible assumption | with_reducible refine Below.alloc ?_ ?_ _ | with_reducible refine Below.setCell ?_ ?_ _ | with_reducible refine Below.drew ?_ | (simp; done) | (simp; omega) | omega))) hb1) | (go_at_call 72; refine (p_validDays _ _).mono ?_; rintro e w1 ⟨rfl, hb1⟩; obtain ⟨hc1, hf1⟩ := bcell hb1; have hz1 : w.heap.size < w1.heap.size := (by have h := hb1.size; (try simp only [World.size_alloc, World.size_setCell] at h); omega); have HB1 : Below w.heap.size w w1 := Below.then_ (by (repeat' (first | with_reducible exact Below.refl _ _ | with_reducible assumption | with_reducible refine Below.alloc ?_ ?_ _ | with_reducible refine Below.setCell ?_ ?_ _ | with_reducible refine Below.drew ?_ | (simp; done) | (simp; omega) | omega))) hb1) | (go_at_call 69; refine (p_verdict _ _ _).mono ?_; rintro e w1 ⟨rfl, rfl⟩))
  all_goals
    go_ret
    refine ⟨ret_int ?_, ?_⟩
    · first | (simp [Deed.okB_eq, errI, *]; done) | (simp [Deed.okB_eq, errI, *]; first | exact not_t ‹_› | exact not_f ‹_› | (rw [Bool.eq_iff_iff]; simp [*]; done) | (rw [Bool.eq_iff_iff]; simp [*]; omega))
    · (repeat' (first | with_reducible exact Below.refl _ _ | with_reducible assumption | with_reducible refine Below.alloc ?_ ?_ _ | with_reducible refine Below.setCell ?_ ?_ _ | with_reducible refine Below.drew ?_ | (simp; done) | (simp; omega) | omega))

end Go.Proofs.YtikioiblaoimkaaGreatDoor

/- cmp.Compare, cmp.Or and what calls them. -/
namespace Go.Proofs.YtikioiblaoimkaaGreatDoor
open Go.RowKit

def cmpI (a b : Int) : Int := if a < b then -1 else if b < a then 1 else 0

set_option maxHeartbeats 1000000 in
theorem l_compare (a b : Int) (w : World) :
    Calls Tryz.prog 110 #[.int .i64 a, .int .i64 b] w fun e w' => e = .returned (.int .i64 (cmpI a b)) ∧ w = w' := by
  have hn : ∀ (x : Int) (w : World), Calls Tryz.prog 136 #[.int .i64 x] w fun e w' => e = .returned (.bool false) ∧ w = w' := by
    intro x w
    go_enter Tryz.func136, Tryz.ntmps136
    go_wp2
    go_ret
    exact ⟨ret_bool (by simp), rfl⟩
  have H := Lib.hid hn
  clear hn
  go_enter Tryz.func110, Tryz.ntmps110
  go_wp2_with (go_at_call 136; refine (H.out _ _).mono ?_; rintro e w1 ⟨rfl, rfl⟩)
  all_goals
    go_ret
    exact ⟨ret_int (by simp [cmpI, *]; try omega), rfl⟩

/-- The first one that is not 0. -/
def orL : List Int → Int
  | [] => 0
  | x :: l => if x = 0 then orL l else x

/-- cmp.Or over a slice of the call's own. -/
theorem l_or_int (l : List Int) (b o c : Nat) (w : World) (hl : l.length ≤ 1000) (hc : ∀ i, i < l.length → w.cell? ⟨b, o + i, none⟩ = some (.int .i64 (l.getD i 0))) :
    Calls Tryz.prog 109 #[.slice (some ⟨b, o, none⟩) l.length c] w fun e w' => e = .returned (.int .i64 (orL l)) ∧ w = w' := by
  go_enter Tryz.func109, Tryz.ntmps109
  go_wp2
  go_loop [8] (fun i => ∃ k : Nat, k ≤ l.length ∧ i = .int .i64 k ∧ orL (l.drop k) = orL l) (fun i => l.length - (intOf i).toNat)
  case atStart => exact ⟨0, by omega, rfl, rfl⟩
  case round =>
    obtain ⟨k, hk, rfl, ho⟩ := hrel
    have hlen : l.length ≤ 1000 := hl
    by_cases hlt : k < l.length
    · have hcell := hc k hlt
      have hd : l.drop k = l.getD k 0 :: l.drop (k + 1) := by
        rw [List.drop_eq_getElem_cons hlt]
        simp [List.getD_eq_getElem?_getD, List.getElem?_eq_getElem hlt]
      have hq : orL l = if l.getD k 0 = 0 then orL (l.drop (k + 1)) else l.getD k 0 := by rw [← ho, hd]; rfl
      have HQ := Lib.hid hq
      clear hq hd ho hc
      generalize l.getD k 0 = x at hcell HQ
      go_wp2
      · have hx : ¬ x = 0 := by simpa using ‹(x != 0) = true›
        go_ret
        exact ⟨ret_int (by rw [HQ.out, if_neg hx]), rfl⟩
      · have hx : x = 0 := by simpa using ‹(x != 0) = false›
        go_round
        case rel => exact ⟨k + 1, by omega, by go_num, by rw [HQ.out, if_pos hx]⟩
        case measure => simp [intOf]; omega
    · have hx : l.drop k = [] := List.drop_eq_nil_of_le (by omega)
      rw [hx] at ho
      go_wp2
      go_ret
      exact ⟨ret_int (by rw [← ho]; rfl), rfl⟩

theorem still_of {F : FuncId} {args : Array Value} {w : World} {v : Value} (h : Calls Tryz.prog F args w fun e w' => e = .returned v ∧ w = w') : Calls Tryz.prog F args w fun e w' => e = .returned v ∧ w' = w :=
  h.mono fun _ _ ⟨he, hw⟩ => ⟨he, hw.symm⟩

theorem wp_still_tail {P : Program} {id : Nat} {Q : Exit → Act → World → Prop} {a : Act} {w : World} {l : List Oper} (n : Nat) (hm : P.follows .mixedOrders = true) (hB : Region.lexTailB .any l.toArray n = true)
    (h : wpStill P l.toArray w.drew (fun a' => wpList P l.toArray Q (l.drop n) a' w.drew) (l.take n) a) : (Code.region id l.toArray true).wp P Q a w :=
  wp_region_still_tail n hm hB h

def byItemI (p n q m : Int) : Int := orL [cmpI p q, cmpI n m]

set_option maxRecDepth 100000 in
set_option maxHeartbeats 1000000 in
theorem p_compareItems (p n q m : Int) (w : World) :
    Calls Tryz.prog 73 #[.agg #[.int .i64 p, .int .i64 n], .agg #[.int .i64 q, .int .i64 m]] w fun e w' => e = .returned (.int .i64 (byItemI p n q m)) ∧ Below w.heap.size w w' := by
  go_enter Tryz.func73, Tryz.ntmps73
  go_wp2_with fail
  refine wp_still_tail 10 (by kernel_rfl) (by kernel_rfl) ?_
  simp only [List.take_succ_cons, List.take_zero, List.drop_succ_cons, List.drop_zero]
  repeat (first | still_step | still_call (still_of (l_compare _ _ _)))
  refine wpStill_nil ?_
  go_wp2_with fail
  refine (l_or_int [cmpI p q, cmpI n m] (w.heap.size + 1 + 1) 0 2 _ (by simp) ?_).mono ?_
  · intro i hi
    match i, hi with
    | 0, _ => go_simp
    | 1, _ => go_simp
  rintro e w1 ⟨rfl, rfl⟩
  go_wp2
  go_ret
  exact ⟨rfl, by (repeat' (first | with_reducible exact Below.refl _ _ | with_reducible assumption | with_reducible refine Below.alloc ?_ ?_ _ | with_reducible refine Below.setCell ?_ ?_ _ | with_reducible refine Below.drew ?_ | (simp; done) | (simp; omega) | omega))⟩
set_option maxHeartbeats 1000000 in
theorem p_byItem (a b : Deed) (w : World) :
    Calls Tryz.prog 34 #[.agg #[.int .i64 a.par, .int .i64 a.no, .int .i64 a.kind, .int .i64 a.lock, .int .i64 a.person, .int .i64 a.lo, .int .i64 a.hi, .int .i64 a.known, .int .i64 a.til], .agg #[.int .i64 b.par, .int .i64 b.no, .int .i64 b.kind, .int .i64 b.lock, .int .i64 b.person, .int .i64 b.lo, .int .i64 b.hi, .int .i64 b.known, .int .i64 b.til]] w fun e w' => e = .returned (.int .i64 (byItemI a.par a.no b.par b.no)) ∧ Below w.heap.size w w' := by
  go_enter Tryz.func34, Tryz.ntmps34
  go_wp2_with (go_at_call 73; refine (p_compareItems _ _ _ _ _).mono ?_; rintro e w1 ⟨rfl, hb1⟩; obtain ⟨hc1, hf1⟩ := bcell hb1; have hz1 : w.heap.size < w1.heap.size := (by have h := hb1.size; (try simp only [World.size_alloc, World.size_setCell] at h); omega); have HB1 : Below w.heap.size w w1 := Below.then_ (by (repeat' (first | with_reducible exact Below.refl _ _ | with_reducible assumption | with_reducible refine Below.alloc ?_ ?_ _ | with_reducible refine Below.setCell ?_ ?_ _ | with_reducible refine Below.drew ?_ | (simp; done) | (simp; omega) | omega))) hb1)
  go_ret
  exact ⟨rfl, by (repeat' (first | with_reducible exact Below.refl _ _ | with_reducible assumption | with_reducible refine Below.alloc ?_ ?_ _ | with_reducible refine Below.setCell ?_ ?_ _ | with_reducible refine Below.drew ?_ | (simp; done) | (simp; omega) | omega))⟩

end Go.Proofs.YtikioiblaoimkaaGreatDoor

/- A region that draws its order, whose operations read what is there and whose calls make memory of their own alone: one walk, in the order of the text. -/
namespace Go.Proofs.YtikioiblaoimkaaGreatDoor
open Go.RowKit

/-- The worlds in which all that was there is as it was. -/
def Grow (W : World) := { w : World // Below W.heap.size W w }
instance (W : World) : Nonempty (Grow W) := ⟨⟨W, Below.refl _ _⟩⟩
@[go_sem] theorem Grow.cell {W : World} (g : Grow W) (b o : Nat) (h : b < W.heap.size) : g.1.cell? ⟨b, o, none⟩ = W.cell? ⟨b, o, none⟩ := g.2.cell (p := ⟨b, o, none⟩) h

theorem wp_region_grow {P : Program} {id : Nat} {Q : Exit → Act → World → Prop} {a : Act} {w : World} {l : List Oper} (hm : P.follows .mixedOrders = true) (hB : Region.lexB .any l.toArray = true)
    (h : wpQuiet P l.toArray (fun w' => ∃ g : Grow w, w' = g.1) (fun a' => ∀ w', (∃ g : Grow w, w' = g.1) → Q .normal a' w') l a) : (Code.region id l.toArray true).wp P Q a w :=
  wp_region_quiet (C := fun w' => ∃ g : Grow w, w' = g.1) hm hB ⟨⟨w.drew, (Below.refl _ _).drew⟩, rfl⟩ (by simpa using h)
/-- A call of a region: its contract. -/
theorem Calls.grow_of {P : Program} {f : FuncId} {args : Array Value} {W : World} {g : Grow W} {v : Value}
    (h : Calls P f args g.1 fun e w' => e = .returned v ∧ Below g.1.heap.size g.1 w') : Calls P f args g.1 fun e w'' => e = .returned v ∧ ∃ g' : Grow W, w'' = g'.1 :=
  h.mono fun _ w'' ⟨he, hb⟩ => ⟨he, ⟨w'', g.2.trans (hb.mono g.2.size)⟩, rfl⟩
theorem Calls.grow_same {P : Program} {f : FuncId} {args : Array Value} {W : World} {g : Grow W} {v : Value}
    (h : Calls P f args g.1 fun e w' => e = .returned v ∧ g.1 = w') : Calls P f args g.1 fun e w'' => e = .returned v ∧ ∃ g' : Grow W, w'' = g'.1 :=
  h.mono fun _ _ ⟨he, hb⟩ => ⟨he, g, hb.symm⟩

theorem Calls.grow_all {P : Program} {f : FuncId} {args : Array Value} {W : World} {g : Grow W} {v : Value}
    (h : ∀ g : Grow W, Calls P f args g.1 fun e w' => e = .returned v ∧ Below g.1.heap.size g.1 w') : Calls P f args g.1 fun e w'' => e = .returned v ∧ ∃ g' : Grow W, w'' = g'.1 := Calls.grow_of (h g)

end Go.Proofs.YtikioiblaoimkaaGreatDoor

/- Words for slices that are read: their cells, and what keeps them. -/
namespace Go.Proofs.YtikioiblaoimkaaGreatDoor
open Go.RowKit

/-- The slice value '.slice A n _' has the cells xs ('size' each element), in a block below B. -/
def Rd (w : World) (B size : Nat) (A : Option Addr) (n : Nat) (xs : List Value) : Prop :=
  xs.length = n * size ∧ (0 < n → ∃ b o, A = some ⟨b, o, none⟩ ∧ b < B ∧ ∀ j u, xs[j]? = some u → w.cell? ⟨b, o + j, none⟩ = some u)

section
variable {w w' : World} {B B' size n : Nat} {A : Option Addr} {xs : List Value}
theorem Rd.keep (h : Rd w B size A n xs) (hk : ∀ b o, b < B → w'.cell? ⟨b, o, none⟩ = w.cell? ⟨b, o, none⟩) : Rd w' B size A n xs :=
  ⟨h.1, fun hn => by
    obtain ⟨b, o, e, hb, hc⟩ := h.2 hn
    exact ⟨b, o, e, hb, fun j u hu => (hk _ _ hb).trans (hc j u hu)⟩⟩
theorem Rd.more (h : Rd w B size A n xs) (hB : B ≤ B') : Rd w B' size A n xs :=
  ⟨h.1, fun hn => by
    obtain ⟨b, o, e, hb, hc⟩ := h.2 hn
    exact ⟨b, o, e, by omega, hc⟩⟩
theorem Rd.below (h : Rd w B size A n xs) (hb : Below B w w') : Rd w' B size A n xs := h.keep fun b o hp => hb.cell (p := ⟨b, o, none⟩) hp
theorem Rd.ext (h : Rd w B size A n xs) (hb : Below w.heap.size w w') (hB : B ≤ w.heap.size) : Rd w' B size A n xs := h.below (hb.mono hB)
theorem Rd.drew (h : Rd w B size A n xs) : Rd w.drew B size A n xs := h
theorem Rd.alloc (h : Rd w B size A n xs) (hB : B ≤ w.heap.size) (o : Obj) : Rd (w.alloc o) B size A n xs :=
  h.keep fun b i hp => World.cell?_alloc_lt w o ⟨b, i, none⟩ (by show b < _; omega)
theorem Rd.setCell (h : Rd w B size A n xs) {p : Addr} (hB : B ≤ p.block) (u : Value) : Rd (w.setCell p u) B size A n xs :=
  h.keep fun b i hq => World.cell?_setCell_other w p ⟨b, i, none⟩ u (fun e => by subst e; simp at hB; omega)
theorem Rd.nil_ : Rd w B size A 0 [] := ⟨by simp, fun h => absurd h (by omega)⟩
end

def deedCells (ds : List Deed) : List Value := ds.flatMap fun d => [.int .i64 d.par, .int .i64 d.no, .int .i64 d.kind, .int .i64 d.lock, .int .i64 d.person, .int .i64 d.lo, .int .i64 d.hi, .int .i64 d.known, .int .i64 d.til]
theorem deedCells_length (ds : List Deed) : (deedCells ds).length = ds.length * 9 := by
  induction ds with
  | nil => rfl
  | cons d ds ih => simp only [deedCells, List.flatMap_cons, List.length_append, List.length_cons] at *; simp only [ih, List.length_nil]; omega
theorem deedCells_cons (d : Deed) (ds : List Deed) : deedCells (d :: ds) = [.int .i64 d.par, .int .i64 d.no, .int .i64 d.kind, .int .i64 d.lock, .int .i64 d.person, .int .i64 d.lo, .int .i64 d.hi, .int .i64 d.known, .int .i64 d.til] ++ deedCells ds := rfl
theorem deedCells_get (ds : List Deed) (k j : Nat) (d : Deed) (hd : ds[k]? = some d) (hj : j < 9) :
    (deedCells ds)[k * 9 + j]? = [Value.int .i64 d.par, .int .i64 d.no, .int .i64 d.kind, .int .i64 d.lock, .int .i64 d.person, .int .i64 d.lo, .int .i64 d.hi, .int .i64 d.known, .int .i64 d.til][j]? := by
  induction ds generalizing k with
  | nil => simp at hd
  | cons a ds ih =>
    cases k with
    | zero =>
      simp only [List.getElem?_cons_zero, Option.some.injEq] at hd
      subst hd
      rw [deedCells_cons, List.getElem?_append_left (by simp; omega)]
      simp
    | succ k =>
      rw [deedCells_cons, List.getElem?_append_right (by simp; omega)]
      rw [show (k + 1) * 9 + j - [Value.int .i64 a.par, .int .i64 a.no, .int .i64 a.kind, .int .i64 a.lock, .int .i64 a.person, .int .i64 a.lo, .int .i64 a.hi, .int .i64 a.known, .int .i64 a.til].length = k * 9 + j from by simp; omega]
      exact ih k (by simpa using hd)

/-- The nine cells of a deed. -/
structure DeedAt (w : World) (b o : Nat) (d : Deed) : Prop where
  c0 : w.cell? ⟨b, o, none⟩ = some (.int .i64 d.par)
  c1 : w.cell? ⟨b, o + 1, none⟩ = some (.int .i64 d.no)
  c2 : w.cell? ⟨b, o + 2, none⟩ = some (.int .i64 d.kind)
  c3 : w.cell? ⟨b, o + 3, none⟩ = some (.int .i64 d.lock)
  c4 : w.cell? ⟨b, o + 4, none⟩ = some (.int .i64 d.person)
  c5 : w.cell? ⟨b, o + 5, none⟩ = some (.int .i64 d.lo)
  c6 : w.cell? ⟨b, o + 6, none⟩ = some (.int .i64 d.hi)
  c7 : w.cell? ⟨b, o + 7, none⟩ = some (.int .i64 d.known)
  c8 : w.cell? ⟨b, o + 8, none⟩ = some (.int .i64 d.til)

/-- A slice of deeds that is read. -/
def Ds (w : World) (B : Nat) (A : Option Addr) (n : Nat) (ds : List Deed) : Prop := Rd w B 9 A n (deedCells ds)
theorem Ds.ext {w w' : World} {B n : Nat} {A : Option Addr} {ds : List Deed} (h : Ds w B A n ds) (hb : Below w.heap.size w w') (hB : B ≤ w.heap.size) : Ds w' B A n ds := Rd.ext h hb hB
theorem Ds.alloc {w : World} {B n : Nat} {A : Option Addr} {ds : List Deed} (h : Ds w B A n ds) (hB : B ≤ w.heap.size) (o : Obj) : Ds (w.alloc o) B A n ds := Rd.alloc h hB o
theorem Ds.more {w : World} {B B' n : Nat} {A : Option Addr} {ds : List Deed} (h : Ds w B A n ds) (hB : B ≤ B') : Ds w B' A n ds := Rd.more h hB
theorem Ds.len {w : World} {B n : Nat} {A : Option Addr} {ds : List Deed} (h : Ds w B A n ds) : ds.length = n := by
  have := h.1
  rw [deedCells_length] at this
  omega
theorem Ds.at_ {w : World} {B n : Nat} {A : Option Addr} {ds : List Deed} (h : Ds w B A n ds) {k : Nat} (hk : k < n) :
    ∃ b o d, A = some ⟨b, o, none⟩ ∧ b < B ∧ ds[k]? = some d ∧ DeedAt w b (o + k * 9) d := by
  obtain ⟨b, o, e, hb, hc⟩ := h.2 (by omega)
  have hl := h.len
  have hd : ds[k]? = some ds[k] := List.getElem?_eq_getElem (by omega)
  have g : ∀ j, j < 9 → ∀ u, [Value.int .i64 ds[k].par, .int .i64 ds[k].no, .int .i64 ds[k].kind, .int .i64 ds[k].lock, .int .i64 ds[k].person, .int .i64 ds[k].lo, .int .i64 ds[k].hi, .int .i64 ds[k].known, .int .i64 ds[k].til][j]? = some u → w.cell? ⟨b, o + (k * 9 + j), none⟩ = some u := fun j hj u hu => hc _ u (by rw [deedCells_get ds k j _ hd hj]; exact hu)
  exact ⟨b, o, ds[k], e, hb, hd, g 0 (by omega) _ rfl, g 1 (by omega) _ rfl, g 2 (by omega) _ rfl, g 3 (by omega) _ rfl, g 4 (by omega) _ rfl, g 5 (by omega) _ rfl, g 6 (by omega) _ rfl, g 7 (by omega) _ rfl, g 8 (by omega) _ rfl⟩

theorem r_checkDeed_ok (d : Deed) (w : World) (h : d.okB = true) :
    Calls Tryz.prog 37 #[.agg #[.int .i64 d.par, .int .i64 d.no, .int .i64 d.kind, .int .i64 d.lock, .int .i64 d.person, .int .i64 d.lo, .int .i64 d.hi, .int .i64 d.known, .int .i64 d.til]] w fun e w' => e = .returned (.int .i64 0) ∧ Below w.heap.size w w' :=
  (r_checkDeed d w).mono fun _ _ ⟨he, hb⟩ => ⟨by rw [he, h]; rfl, hb⟩
theorem r_checkDeed_no (d : Deed) (w : World) (h : ¬ d.okB = true) :
    Calls Tryz.prog 37 #[.agg #[.int .i64 d.par, .int .i64 d.no, .int .i64 d.kind, .int .i64 d.lock, .int .i64 d.person, .int .i64 d.lo, .int .i64 d.hi, .int .i64 d.known, .int .i64 d.til]] w fun e w' => e = .returned (.int .i64 10) ∧ Below w.heap.size w w' :=
  (r_checkDeed d w).mono fun _ _ ⟨he, hb⟩ => ⟨by rw [he]; simp [errI, h], hb⟩
theorem r_before_v (p n q m : Int) (v : Bool) (w : World) (h : beforeB p n q m = v) :
    Calls Tryz.prog 38 #[.agg #[.int .i64 p, .int .i64 n], .agg #[.int .i64 q, .int .i64 m]] w fun e w' => e = .returned (.bool v) ∧ Below w.heap.size w w' :=
  h ▸ r_before p n q m w

/-- The deed with the index i is valid, and behind the one ahead of it. -/
def okAt (ds : List Deed) (i : Nat) : Bool :=
  match ds[i]? with
  | none => false
  | some d => d.okB && (match i with
    | 0 => true
    | j + 1 => match ds[j]? with
      | none => false
      | some e => beforeB e.par e.no d.par d.no)
def checkB (ds : List Deed) : Bool := decide (ds.length ≤ 60) && (List.range ds.length).all (okAt ds)
theorem all_false {ds : List Deed} {k : Nat} (hk : k < ds.length) (h : okAt ds k = false) : (List.range ds.length).all (okAt ds) = false := by
  rw [List.all_eq_false]
  exact ⟨k, by simpa using hk, by simp [h]⟩
theorem all_succ {ds : List Deed} {k : Nat} (h : (List.range k).all (okAt ds) = true) (hk : okAt ds k = true) : (List.range (k + 1)).all (okAt ds) = true := by
  rw [List.range_succ, List.all_append, h, List.all_cons, hk]
  rfl

set_option maxHeartbeats 1000000 in
theorem r_check (ds : List Deed) (A : Option Addr) (n c : Nat) (w : World) (hn : n ≤ 9223372036854775807) (hd : Ds w w.heap.size A n ds) :
    Calls Tryz.prog 14 #[.slice A n c] w fun e w' => e = .returned (.int .i64 (errI (checkB ds) 11)) ∧ Below w.heap.size w w' := by
  have hlen := hd.len
  have HD := Lib.hid hd
  have HL := Lib.hid hlen
  clear hd
  by_cases h60 : 60 < n
  · go_enter Tryz.func14, Tryz.ntmps14
    go_wp2
    go_ret
    exact ⟨ret_int (by simp [checkB, errI, hlen]; omega), Below.refl _ _⟩
  · clear hlen
    go_enter Tryz.func14, Tryz.ntmps14
    go_wp2
    go_loopw [10] (fun i wr => ∃ k : Nat, k ≤ n ∧ i = .int .i64 k ∧ (List.range k).all (okAt ds) = true ∧ Below w.heap.size w wr) (fun i _ => n - (intOf i).toNat)
    case atStart => exact ⟨0, by omega, rfl, rfl, Below.refl _ _⟩
    case round =>
      obtain ⟨k, hk, rfl, hall, hB⟩ := hrel
      have HA := Lib.hid hall
      clear hall
      by_cases hlt : k < n
      · have hDk := HD.out.ext hB (Nat.le_refl _)
        obtain ⟨b, o, d, rfl, hb, hdk, hat⟩ := hDk.at_ hlt
        have HK := Lib.hid hdk
        clear hDk hdk
        obtain ⟨a0, a1, a2, a3, a4, a5, a6, a7, a8⟩ := hat
        have hs0 : w.heap.size ≤ wr.heap.size := hB.size
        have hbr : b < wr.heap.size := by omega
        have hbr1 : b < wr.heap.size + 1 := by omega
        by_cases hok : d.okB = true
        · have HO := Lib.hid hok
          clear hok
          by_cases hk0 : k = 0
          · have hk2 : decide (0 < k) = false := by simp; omega
            have HK0 := Lib.hid hk0
            clear hk0
            go_wp2_with fail
            (refine wp_region_grow (by kernel_rfl) (by kernel_rfl) ?_; (repeat (go_big_quiet_step ((first | (go_at_call 37; exact Calls.grow_of (r_checkDeed_ok d _ HO.out)))))); refine wpQuiet_nil ?_; rintro w1 ⟨⟨_, hb1⟩, rfl⟩; (try dsimp only at hb1 ⊢); obtain ⟨hc1, hf1⟩ := bcell hb1)
            go_wp2_with fail
            go_roundw
            case rel =>
              have hf : okAt ds k = true := by
                have h1 := HK.out
                rw [HK0.out] at h1 ⊢
                simp [okAt, h1, HO.out]
              exact ⟨k + 1, by omega, by go_num, all_succ HA.out hf, by
                have : Below w.heap.size w (wr.alloc (.cells #[.int .i64 d.par, .int .i64 d.no, .int .i64 d.kind, .int .i64 d.lock, .int .i64 d.person, .int .i64 d.lo, .int .i64 d.hi, .int .i64 d.known, .int .i64 d.til] 41)) := by (repeat' (first | with_reducible exact Below.refl _ _ | with_reducible assumption | with_reducible refine Below.alloc ?_ ?_ _ | with_reducible refine Below.setCell ?_ ?_ _ | with_reducible refine Below.drew ?_ | (simp; done) | (simp; omega) | omega))
                exact Below.then_ this hb1⟩
            case measure => simp [intOf]; omega
          · obtain ⟨j, rfl⟩ : ∃ j, k = j + 1 := ⟨k - 1, by omega⟩
            obtain ⟨b', o', f, e', _, hfj, hat'⟩ := (HD.out.ext hB (Nat.le_refl _)).at_ (k := j) (by omega)
            obtain ⟨rfl, rfl⟩ : b = b' ∧ o = o' := by simpa using e'
            have HF := Lib.hid hfj
            clear hfj e' hk0
            obtain ⟨p0, p1, _, _, _, _, _, _, _⟩ := hat'
            by_cases hbf : beforeB f.par f.no d.par d.no = true
            · have HBF := Lib.hid hbf
              clear hbf
              go_wp2_with fail
              (refine wp_region_grow (by kernel_rfl) (by kernel_rfl) ?_; (repeat (go_big_quiet_step ((first | (go_at_call 37; exact Calls.grow_of (r_checkDeed_ok d _ HO.out)) | (go_at_call 38; exact Calls.grow_of (r_before_v _ _ _ _ true _ HBF.out)))))); refine wpQuiet_nil ?_; rintro w1 ⟨⟨_, hb1⟩, rfl⟩; (try dsimp only at hb1 ⊢); obtain ⟨hc1, hf1⟩ := bcell hb1)
              go_wp2_with fail
              go_roundw
              case rel =>
                have hf : okAt ds (j + 1) = true := by simp [okAt, HK.out, HO.out, HF.out, HBF.out]
                exact ⟨j + 1 + 1, by omega, by go_num, all_succ HA.out hf, by
                  have : Below w.heap.size w (wr.alloc (.cells #[.int .i64 d.par, .int .i64 d.no, .int .i64 d.kind, .int .i64 d.lock, .int .i64 d.person, .int .i64 d.lo, .int .i64 d.hi, .int .i64 d.known, .int .i64 d.til] 41)) := by (repeat' (first | with_reducible exact Below.refl _ _ | with_reducible assumption | with_reducible refine Below.alloc ?_ ?_ _ | with_reducible refine Below.setCell ?_ ?_ _ | with_reducible refine Below.drew ?_ | (simp; done) | (simp; omega) | omega))
                  exact Below.then_ this hb1⟩
              case measure => simp [intOf]; omega
            · have hbf' : beforeB f.par f.no d.par d.no = false := by simpa using hbf
              have HBF := Lib.hid hbf'
              clear hbf hbf'
              go_wp2_with fail
              (refine wp_region_grow (by kernel_rfl) (by kernel_rfl) ?_; (repeat (go_big_quiet_step ((first | (go_at_call 37; exact Calls.grow_of (r_checkDeed_ok d _ HO.out)) | (go_at_call 38; exact Calls.grow_of (r_before_v _ _ _ _ false _ HBF.out)))))); refine wpQuiet_nil ?_; rintro w1 ⟨⟨_, hb1⟩, rfl⟩; (try dsimp only at hb1 ⊢); obtain ⟨hc1, hf1⟩ := bcell hb1)
              go_wp2_with fail
              go_ret
              have hf : okAt ds (j + 1) = false := by simp [okAt, HK.out, HO.out, HF.out, HBF.out]
              exact ⟨ret_int (by rw [checkB, all_false (by rw [HL.out]; exact hlt) hf]; simp [errI]), by
                have : Below w.heap.size w (wr.alloc (.cells #[.int .i64 d.par, .int .i64 d.no, .int .i64 d.kind, .int .i64 d.lock, .int .i64 d.person, .int .i64 d.lo, .int .i64 d.hi, .int .i64 d.known, .int .i64 d.til] 41)) := by (repeat' (first | with_reducible exact Below.refl _ _ | with_reducible assumption | with_reducible refine Below.alloc ?_ ?_ _ | with_reducible refine Below.setCell ?_ ?_ _ | with_reducible refine Below.drew ?_ | (simp; done) | (simp; omega) | omega))
                exact Below.then_ this hb1⟩
        · go_wp2_with fail
          (refine wp_region_grow (by kernel_rfl) (by kernel_rfl) ?_; (repeat (go_big_quiet_step ((first | (go_at_call 37; exact Calls.grow_of (r_checkDeed_no d _ hok)))))); refine wpQuiet_nil ?_; rintro w1 ⟨⟨_, hb1⟩, rfl⟩; (try dsimp only at hb1 ⊢); obtain ⟨hc1, hf1⟩ := bcell hb1)
          go_wp2_with fail
          go_ret
          have hf : okAt ds k = false := by simp [okAt, HK.out, hok]
          exact ⟨ret_int (by rw [checkB, all_false (by rw [HL.out]; exact hlt) hf]; simp [errI]), by
            have : Below w.heap.size w (wr.alloc (.cells #[.int .i64 d.par, .int .i64 d.no, .int .i64 d.kind, .int .i64 d.lock, .int .i64 d.person, .int .i64 d.lo, .int .i64 d.hi, .int .i64 d.known, .int .i64 d.til] 41)) := by (repeat' (first | with_reducible exact Below.refl _ _ | with_reducible assumption | with_reducible refine Below.alloc ?_ ?_ _ | with_reducible refine Below.setCell ?_ ?_ _ | with_reducible refine Below.drew ?_ | (simp; done) | (simp; omega) | omega))
            exact Below.then_ this hb1⟩
      · have hkn : k = n := by omega
        have HKn := Lib.hid hkn
        clear hkn
        go_wp2
        go_ret
        have h1 : ds.length = k := by rw [HL.out, HKn.out]
        exact ⟨ret_int (by rw [checkB, h1, HA.out]; simp [errI]; omega), hB⟩

end Go.Proofs.YtikioiblaoimkaaGreatDoor

/- The program's small functions on deeds: Check, nameOf, contradict, counting, find, first, checkDays. -/
namespace Go.Proofs.YtikioiblaoimkaaGreatDoor
open Go.RowKit

theorem byItemI_lt (p n q m : Int) (h : beforeB p n q m = true) : byItemI p n q m = -1 := by
  simp only [beforeB, Bool.or_eq_true, Bool.and_eq_true, decide_eq_true_eq] at h
  simp only [byItemI, orL, cmpI]
  rcases h with h | ⟨h1, h2⟩
  · simp [h]
  · subst h1
    simp [h2]
theorem byItemI_ge (p n q m : Int) (h : beforeB p n q m = false) : 0 ≤ byItemI p n q m := by
  simp only [beforeB, Bool.or_eq_false_iff, Bool.and_eq_false_imp, decide_eq_true_eq, decide_eq_false_iff_not] at h
  obtain ⟨h1, h2⟩ := h
  simp only [byItemI, orL, cmpI]
  by_cases e : p = q
  · have := h2 e
    subst e
    simp only [Int.lt_irrefl, if_false, if_true]
    split <;> (try split) <;> simp_all
  · have : q < p := by omega
    simp [h1, this]
theorem p_byItem_lt (a b : Deed) (w : World) (h : beforeB a.par a.no b.par b.no = true) :
    Calls Tryz.prog 34 #[.agg #[.int .i64 a.par, .int .i64 a.no, .int .i64 a.kind, .int .i64 a.lock, .int .i64 a.person, .int .i64 a.lo, .int .i64 a.hi, .int .i64 a.known, .int .i64 a.til], .agg #[.int .i64 b.par, .int .i64 b.no, .int .i64 b.kind, .int .i64 b.lock, .int .i64 b.person, .int .i64 b.lo, .int .i64 b.hi, .int .i64 b.known, .int .i64 b.til]] w fun e w' => e = .returned (.int .i64 (-1)) ∧ Below w.heap.size w w' :=
  byItemI_lt _ _ _ _ h ▸ p_byItem a b w
theorem p_checkDeed_ok (d : Deed) (w : World) (h : d.okB = true) :
    Calls Tryz.prog 33 #[.agg #[.int .i64 d.par, .int .i64 d.no, .int .i64 d.kind, .int .i64 d.lock, .int .i64 d.person, .int .i64 d.lo, .int .i64 d.hi, .int .i64 d.known, .int .i64 d.til]] w fun e w' => e = .returned (.int .i64 0) ∧ Below w.heap.size w w' :=
  (p_checkDeed d w).mono fun _ _ ⟨he, hb⟩ => ⟨by rw [he, h]; rfl, hb⟩
theorem p_checkDeed_no (d : Deed) (w : World) (h : ¬ d.okB = true) :
    Calls Tryz.prog 33 #[.agg #[.int .i64 d.par, .int .i64 d.no, .int .i64 d.kind, .int .i64 d.lock, .int .i64 d.person, .int .i64 d.lo, .int .i64 d.hi, .int .i64 d.known, .int .i64 d.til]] w fun e w' => e = .returned (.int .i64 10) ∧ Below w.heap.size w w' :=
  (p_checkDeed d w).mono fun _ _ ⟨he, hb⟩ => ⟨by rw [he]; simp [errI, h], hb⟩

set_option maxHeartbeats 1000000 in
theorem p_check (ds : List Deed) (A : Option Addr) (n c : Nat) (w : World) (hn : n ≤ 9223372036854775807) (hd : Ds w w.heap.size A n ds) :
    Calls Tryz.prog 10 #[.slice A n c] w fun e w' => e = .returned (.int .i64 (errI (checkB ds) 11)) ∧ Below w.heap.size w w' := by
  have hlen := hd.len
  have HD := Lib.hid hd
  have HL := Lib.hid hlen
  clear hd
  by_cases h60 : 60 < n
  · go_enter Tryz.func10, Tryz.ntmps10
    go_wp2
    go_ret
    exact ⟨ret_int (by simp [checkB, errI, hlen]; omega), Below.refl _ _⟩
  · clear hlen
    go_enter Tryz.func10, Tryz.ntmps10
    go_wp2
    go_loopw [10] (fun i wr => ∃ k : Nat, k ≤ n ∧ i = .int .i64 k ∧ (List.range k).all (okAt ds) = true ∧ Below w.heap.size w wr) (fun i _ => n - (intOf i).toNat)
    case atStart => exact ⟨0, by omega, rfl, rfl, Below.refl _ _⟩
    case round =>
      obtain ⟨k, hk, rfl, hall, hB⟩ := hrel
      have HA := Lib.hid hall
      clear hall
      by_cases hlt : k < n
      · have hDk := HD.out.ext hB (Nat.le_refl _)
        obtain ⟨b, o, d, rfl, hb, hdk, hat⟩ := hDk.at_ hlt
        have HK := Lib.hid hdk
        clear hDk hdk
        obtain ⟨a0, a1, a2, a3, a4, a5, a6, a7, a8⟩ := hat
        have hs0 : w.heap.size ≤ wr.heap.size := hB.size
        have hbr : b < wr.heap.size := by omega
        have hbr1 : b < wr.heap.size + 1 := by omega
        by_cases hok : d.okB = true
        · have HO := Lib.hid hok
          clear hok
          by_cases hk0 : k = 0
          · have hk2 : decide (0 < k) = false := by simp; omega
            have HK0 := Lib.hid hk0
            clear hk0
            go_wp2_with fail
            (refine wp_region_grow (by kernel_rfl) (by kernel_rfl) ?_; (repeat (go_big_quiet_step ((first | (go_at_call 33; exact Calls.grow_of (p_checkDeed_ok d _ HO.out)))))); refine wpQuiet_nil ?_; rintro w1 ⟨⟨_, hb1⟩, rfl⟩; (try dsimp only at hb1 ⊢); obtain ⟨hc1, hf1⟩ := bcell hb1)
            go_wp2_with fail
            go_roundw
            case rel =>
              have hf : okAt ds k = true := by
                have h1 := HK.out
                rw [HK0.out] at h1 ⊢
                simp [okAt, h1, HO.out]
              exact ⟨k + 1, by omega, by go_num, all_succ HA.out hf, by
                have : Below w.heap.size w (wr.alloc (.cells #[.int .i64 d.par, .int .i64 d.no, .int .i64 d.kind, .int .i64 d.lock, .int .i64 d.person, .int .i64 d.lo, .int .i64 d.hi, .int .i64 d.known, .int .i64 d.til] 41)) := by (repeat' (first | with_reducible exact Below.refl _ _ | with_reducible assumption | with_reducible refine Below.alloc ?_ ?_ _ | with_reducible refine Below.setCell ?_ ?_ _ | with_reducible refine Below.drew ?_ | (simp; done) | (simp; omega) | omega))
                exact Below.then_ this hb1⟩
            case measure => simp [intOf]; omega
          · obtain ⟨j, rfl⟩ : ∃ j, k = j + 1 := ⟨k - 1, by omega⟩
            obtain ⟨b', o', f, e', _, hfj, hat'⟩ := (HD.out.ext hB (Nat.le_refl _)).at_ (k := j) (by omega)
            obtain ⟨rfl, rfl⟩ : b = b' ∧ o = o' := by simpa using e'
            have HF := Lib.hid hfj
            clear hfj e' hk0
            obtain ⟨p0, p1, p2, p3, p4, p5, p6, p7, p8⟩ := hat'
            by_cases hbf : beforeB f.par f.no d.par d.no = true
            · have HBF := Lib.hid hbf
              clear hbf
              go_wp2_with fail
              (refine wp_region_grow (by kernel_rfl) (by kernel_rfl) ?_; (repeat (go_big_quiet_step ((first | (go_at_call 33; exact Calls.grow_of (p_checkDeed_ok d _ HO.out)) | (go_at_call 34; exact Calls.grow_of (p_byItem_lt f d _ HBF.out)))))); refine wpQuiet_nil ?_; rintro w1 ⟨⟨_, hb1⟩, rfl⟩; (try dsimp only at hb1 ⊢); obtain ⟨hc1, hf1⟩ := bcell hb1)
              go_wp2_with fail
              go_roundw
              case rel =>
                have hf : okAt ds (j + 1) = true := by simp [okAt, HK.out, HO.out, HF.out, HBF.out]
                exact ⟨j + 1 + 1, by omega, by go_num, all_succ HA.out hf, by
                  have : Below w.heap.size w (wr.alloc (.cells #[.int .i64 d.par, .int .i64 d.no, .int .i64 d.kind, .int .i64 d.lock, .int .i64 d.person, .int .i64 d.lo, .int .i64 d.hi, .int .i64 d.known, .int .i64 d.til] 41)) := by (repeat' (first | with_reducible exact Below.refl _ _ | with_reducible assumption | with_reducible refine Below.alloc ?_ ?_ _ | with_reducible refine Below.setCell ?_ ?_ _ | with_reducible refine Below.drew ?_ | (simp; done) | (simp; omega) | omega))
                  exact Below.then_ this hb1⟩
              case measure => simp [intOf]; omega
            · have hbf' : beforeB f.par f.no d.par d.no = false := by simpa using hbf
              have hge : (0 : Int) ≤ byItemI f.par f.no d.par d.no := byItemI_ge _ _ _ _ hbf'
              have HBF := Lib.hid hbf'
              clear hbf hbf'
              go_wp2_with fail
              (refine wp_region_grow (by kernel_rfl) (by kernel_rfl) ?_; (repeat (go_big_quiet_step ((first | (go_at_call 33; exact Calls.grow_of (p_checkDeed_ok d _ HO.out)) | (go_at_call 34; exact Calls.grow_of (p_byItem f d _)))))); refine wpQuiet_nil ?_; rintro w1 ⟨⟨_, hb1⟩, rfl⟩; (try dsimp only at hb1 ⊢); obtain ⟨hc1, hf1⟩ := bcell hb1)
              go_wp2_with fail
              go_ret
              have hf : okAt ds (j + 1) = false := by simp [okAt, HK.out, HO.out, HF.out, HBF.out]
              exact ⟨ret_int (by rw [checkB, all_false (by rw [HL.out]; exact hlt) hf]; simp [errI]), by
                have : Below w.heap.size w (wr.alloc (.cells #[.int .i64 d.par, .int .i64 d.no, .int .i64 d.kind, .int .i64 d.lock, .int .i64 d.person, .int .i64 d.lo, .int .i64 d.hi, .int .i64 d.known, .int .i64 d.til] 41)) := by (repeat' (first | with_reducible exact Below.refl _ _ | with_reducible assumption | with_reducible refine Below.alloc ?_ ?_ _ | with_reducible refine Below.setCell ?_ ?_ _ | with_reducible refine Below.drew ?_ | (simp; done) | (simp; omega) | omega))
                exact Below.then_ this hb1⟩
        · go_wp2_with fail
          (refine wp_region_grow (by kernel_rfl) (by kernel_rfl) ?_; (repeat (go_big_quiet_step ((first | (go_at_call 33; exact Calls.grow_of (p_checkDeed_no d _ hok)))))); refine wpQuiet_nil ?_; rintro w1 ⟨⟨_, hb1⟩, rfl⟩; (try dsimp only at hb1 ⊢); obtain ⟨hc1, hf1⟩ := bcell hb1)
          go_wp2_with fail
          go_ret
          have hf : okAt ds k = false := by simp [okAt, HK.out, hok]
          exact ⟨ret_int (by rw [checkB, all_false (by rw [HL.out]; exact hlt) hf]; simp [errI]), by
            have : Below w.heap.size w (wr.alloc (.cells #[.int .i64 d.par, .int .i64 d.no, .int .i64 d.kind, .int .i64 d.lock, .int .i64 d.person, .int .i64 d.lo, .int .i64 d.hi, .int .i64 d.known, .int .i64 d.til] 41)) := by (repeat' (first | with_reducible exact Below.refl _ _ | with_reducible assumption | with_reducible refine Below.alloc ?_ ?_ _ | with_reducible refine Below.setCell ?_ ?_ _ | with_reducible refine Below.drew ?_ | (simp; done) | (simp; omega) | omega))
            exact Below.then_ this hb1⟩
      · have hkn : k = n := by omega
        have HKn := Lib.hid hkn
        clear hkn
        go_wp2
        go_ret
        have h1 : ds.length = k := by rw [HL.out, HKn.out]
        exact ⟨ret_int (by rw [checkB, h1, HA.out]; simp [errI]; omega), hB⟩


def nmLock (d : Deed) : Int := d.lock
def nmPerson (d : Deed) : Int := if d.lock = 0 then d.person else 0

set_option maxHeartbeats 1000000 in
theorem p_nameOf (d : Deed) (w : World) :
    Calls Tryz.prog 53 #[.agg #[.int .i64 d.par, .int .i64 d.no, .int .i64 d.kind, .int .i64 d.lock, .int .i64 d.person, .int .i64 d.lo, .int .i64 d.hi, .int .i64 d.known, .int .i64 d.til]] w fun e w' => e = .returned (.agg #[.int .i64 (nmLock d), .int .i64 (nmPerson d)]) ∧ Below w.heap.size w w' := by
  go_enter Tryz.func53, Tryz.ntmps53
  go_wp2
  · have h : d.lock = 0 := by simpa using ‹(d.lock == 0) = true›
    exact bodyPost_ret (v := .agg #[.int .i64 0, .int .i64 d.person]) (by simp [results, Tryz.results53, go_sem]) rfl ⟨by simp [nmLock, nmPerson, h], by (repeat' (first | with_reducible exact Below.refl _ _ | with_reducible assumption | with_reducible refine Below.alloc ?_ ?_ _ | with_reducible refine Below.setCell ?_ ?_ _ | with_reducible refine Below.drew ?_ | (simp; done) | (simp; omega) | omega))⟩
  · have h : ¬ d.lock = 0 := by simpa using ‹(d.lock == 0) = false›
    exact bodyPost_ret (v := .agg #[.int .i64 d.lock, .int .i64 0]) (by simp [results, Tryz.results53, go_sem]) rfl ⟨by simp [nmLock, nmPerson, h], by (repeat' (first | with_reducible exact Below.refl _ _ | with_reducible assumption | with_reducible refine Below.alloc ?_ ?_ _ | with_reducible refine Below.setCell ?_ ?_ _ | with_reducible refine Below.drew ?_ | (simp; done) | (simp; omega) | omega))⟩

end Go.Proofs.YtikioiblaoimkaaGreatDoor

/- contradict, find, first, checkDays. -/
namespace Go.Proofs.YtikioiblaoimkaaGreatDoor
open Go.RowKit

def sameB (a b : Deed) : Bool := decide (nmLock a = nmLock b) && decide (nmPerson a = nmPerson b)
def contraB (a b : Deed) : Bool := sameB a b && decide (b.hi < a.lo)

set_option maxHeartbeats 1000000 in
theorem p_contradict (a b : Deed) (w : World) :
    Calls Tryz.prog 104 #[.agg #[.int .i64 a.par, .int .i64 a.no, .int .i64 a.kind, .int .i64 a.lock, .int .i64 a.person, .int .i64 a.lo, .int .i64 a.hi, .int .i64 a.known, .int .i64 a.til], .agg #[.int .i64 b.par, .int .i64 b.no, .int .i64 b.kind, .int .i64 b.lock, .int .i64 b.person, .int .i64 b.lo, .int .i64 b.hi, .int .i64 b.known, .int .i64 b.til]] w fun e w' => e = .returned (.bool (contraB a b)) ∧ Below w.heap.size w w' := by
  by_cases h1 : nmLock a = nmLock b
  · by_cases h2 : nmPerson a = nmPerson b
    · have HS : Hid (sameB a b = true) := by show sameB a b = true; simp [sameB, h1, h2]
      go_enter Tryz.func104, Tryz.ntmps104
      go_wp2_with fail
      (refine wp_region_grow (by kernel_rfl) (by kernel_rfl) ?_; (repeat (go_big_quiet_step ((first | (go_at_call 53; exact Calls.grow_of (p_nameOf _ _)))))); refine wpQuiet_nil ?_; rintro w1 ⟨⟨_, hb1⟩, rfl⟩; (try dsimp only at hb1 ⊢); obtain ⟨hc1, hf1⟩ := bcell hb1)
      go_wp2
      go_ret
      exact ⟨ret_bool (by rw [contraB, HS.out]; simp), by
        have : Below w.heap.size w ((w.alloc (.cells #[.int .i64 a.par, .int .i64 a.no, .int .i64 a.kind, .int .i64 a.lock, .int .i64 a.person, .int .i64 a.lo, .int .i64 a.hi, .int .i64 a.known, .int .i64 a.til] 41)).alloc (.cells #[.int .i64 b.par, .int .i64 b.no, .int .i64 b.kind, .int .i64 b.lock, .int .i64 b.person, .int .i64 b.lo, .int .i64 b.hi, .int .i64 b.known, .int .i64 b.til] 41)) := by (repeat' (first | with_reducible exact Below.refl _ _ | with_reducible assumption | with_reducible refine Below.alloc ?_ ?_ _ | with_reducible refine Below.setCell ?_ ?_ _ | with_reducible refine Below.drew ?_ | (simp; done) | (simp; omega) | omega))
        exact Below.then_ this hb1⟩
    · have HS : Hid (sameB a b = false) := by show sameB a b = false; simp [sameB, h2]
      go_enter Tryz.func104, Tryz.ntmps104
      go_wp2_with fail
      (refine wp_region_grow (by kernel_rfl) (by kernel_rfl) ?_; (repeat (go_big_quiet_step ((first | (go_at_call 53; exact Calls.grow_of (p_nameOf _ _)))))); refine wpQuiet_nil ?_; rintro w1 ⟨⟨_, hb1⟩, rfl⟩; (try dsimp only at hb1 ⊢); obtain ⟨hc1, hf1⟩ := bcell hb1)
      go_wp2
      go_ret
      exact ⟨ret_bool (by rw [contraB, HS.out]; simp), by
        have : Below w.heap.size w ((w.alloc (.cells #[.int .i64 a.par, .int .i64 a.no, .int .i64 a.kind, .int .i64 a.lock, .int .i64 a.person, .int .i64 a.lo, .int .i64 a.hi, .int .i64 a.known, .int .i64 a.til] 41)).alloc (.cells #[.int .i64 b.par, .int .i64 b.no, .int .i64 b.kind, .int .i64 b.lock, .int .i64 b.person, .int .i64 b.lo, .int .i64 b.hi, .int .i64 b.known, .int .i64 b.til] 41)) := by (repeat' (first | with_reducible exact Below.refl _ _ | with_reducible assumption | with_reducible refine Below.alloc ?_ ?_ _ | with_reducible refine Below.setCell ?_ ?_ _ | with_reducible refine Below.drew ?_ | (simp; done) | (simp; omega) | omega))
        exact Below.then_ this hb1⟩
  · have HS : Hid (sameB a b = false) := by show sameB a b = false; simp [sameB, h1]
    go_enter Tryz.func104, Tryz.ntmps104
    go_wp2_with fail
    (refine wp_region_grow (by kernel_rfl) (by kernel_rfl) ?_; (repeat (go_big_quiet_step ((first | (go_at_call 53; exact Calls.grow_of (p_nameOf _ _)))))); refine wpQuiet_nil ?_; rintro w1 ⟨⟨_, hb1⟩, rfl⟩; (try dsimp only at hb1 ⊢); obtain ⟨hc1, hf1⟩ := bcell hb1)
    go_wp2
    go_ret
    exact ⟨ret_bool (by rw [contraB, HS.out]; simp), by
      have : Below w.heap.size w ((w.alloc (.cells #[.int .i64 a.par, .int .i64 a.no, .int .i64 a.kind, .int .i64 a.lock, .int .i64 a.person, .int .i64 a.lo, .int .i64 a.hi, .int .i64 a.known, .int .i64 a.til] 41)).alloc (.cells #[.int .i64 b.par, .int .i64 b.no, .int .i64 b.kind, .int .i64 b.lock, .int .i64 b.person, .int .i64 b.lo, .int .i64 b.hi, .int .i64 b.known, .int .i64 b.til] 41)) := by (repeat' (first | with_reducible exact Below.refl _ _ | with_reducible assumption | with_reducible refine Below.alloc ?_ ?_ _ | with_reducible refine Below.setCell ?_ ?_ _ | with_reducible refine Below.drew ?_ | (simp; done) | (simp; omega) | omega))
      exact Below.then_ this hb1⟩

/-- Where the deed with an item stands; the length if there is none. -/
def findN (p n : Int) : List Deed → Nat
  | [] => 0
  | d :: l => if d.par = p ∧ d.no = n then 0 else findN p n l + 1
def findI (p n : Int) (ds : List Deed) : Int := if findN p n ds < ds.length then (findN p n ds : Int) else -1

theorem findN_hit {p q : Int} {ds : List Deed} {k : Nat} {d : Deed} (hk : ds[k]? = some d) (h1 : d.par = p) (h2 : d.no = q) (h : k ≤ findN p q ds) : findN p q ds = k := by
  induction ds generalizing k with
  | nil => simp at hk
  | cons a l ih =>
    cases k with
    | zero =>
      simp only [List.getElem?_cons_zero, Option.some.injEq] at hk
      subst hk
      simp [findN, h1, h2]
    | succ k =>
      by_cases ha : a.par = p ∧ a.no = q
      · simp [findN, ha] at h
      · simp only [findN, ha, if_false] at h ⊢
        rw [ih (by simpa using hk) (by omega)]
theorem findN_miss {p q : Int} {ds : List Deed} {k : Nat} {d : Deed} (hk : ds[k]? = some d) (hn : ¬ (d.par = p ∧ d.no = q)) (h : k ≤ findN p q ds) : k + 1 ≤ findN p q ds := by
  induction ds generalizing k with
  | nil => simp at hk
  | cons a l ih =>
    cases k with
    | zero =>
      simp only [List.getElem?_cons_zero, Option.some.injEq] at hk
      subst hk
      simp only [findN, hn, if_false]
      omega
    | succ k =>
      by_cases ha : a.par = p ∧ a.no = q
      · simp [findN, ha] at h
      · simp only [findN, ha, if_false] at h ⊢
        have := ih (k := k) (by simpa using hk) (by omega)
        omega

set_option maxHeartbeats 1000000 in
theorem p_find (ds : List Deed) (p q : Int) (A : Option Addr) (n c : Nat) (w : World) (hn : n ≤ 9223372036854775807) (hd : Ds w w.heap.size A n ds) :
    Calls Tryz.prog 49 #[.slice A n c, .agg #[.int .i64 p, .int .i64 q]] w fun e w' => e = .returned (.int .i64 (findI p q ds)) ∧ Below w.heap.size w w' := by
  have hlen := hd.len
  have HD := Lib.hid hd
  have HL := Lib.hid hlen
  clear hd hlen
  go_enter Tryz.func49, Tryz.ntmps49
  go_wp2
  go_loopw [9] (fun i wr => ∃ k : Nat, k ≤ n ∧ i = .int .i64 k ∧ k ≤ findN p q ds ∧ Below (w.alloc (.cells #[.int .i64 p, .int .i64 q] 37)).heap.size (w.alloc (.cells #[.int .i64 p, .int .i64 q] 37)) wr) (fun i _ => n - (intOf i).toNat)
  case atStart => exact ⟨0, by omega, rfl, by omega, Below.refl _ _⟩
  case round =>
    obtain ⟨k, hk, rfl, hf, hB⟩ := hrel
    have hBw : Below w.heap.size w wr := ((Below.refl _ _).alloc (Nat.le_refl _) _).trans (hB.mono (by simp))
    have hs0 : w.heap.size < wr.heap.size := by have h := hB.size; simp only [World.size_alloc] at h; omega
    by_cases hlt : k < n
    · have q0 : wr.cell? ⟨w.heap.size, 0, none⟩ = some (.int .i64 p) := by rw [(bcell hB).1 _ _ (by simp)]; simp
      have q1 : wr.cell? ⟨w.heap.size, 1, none⟩ = some (.int .i64 q) := by rw [(bcell hB).1 _ _ (by simp)]; simp
      have hDk := HD.out.ext hBw (Nat.le_refl _)
      obtain ⟨b, o, d, rfl, hb, hdk, hat⟩ := hDk.at_ hlt
      have HK := Lib.hid hdk
      clear hDk hdk
      obtain ⟨a0, a1, a2, a3, a4, a5, a6, a7, a8⟩ := hat
      have HF := Lib.hid hf
      clear hf
      have HBL := Lib.hid (fun o => hB.alloc (by simp; omega) o)
      have HBW := Lib.hid (fun o => hBw.alloc (by omega) o)
      clear hB hBw
      by_cases h1 : d.par = p
      · by_cases h2 : d.no = q
        · have HH := Lib.hid (findN_hit HK.out h1 h2 HF.out)
          go_wp2
          go_ret
          exact ⟨ret_int (by rw [findI, HH.out, if_pos (by rw [HL.out]; exact hlt)]), HBW.out _⟩
        · have HH := Lib.hid (findN_miss (p := p) (q := q) HK.out (fun h => h2 h.2) HF.out)
          go_wp2
          go_roundw
          case rel => exact ⟨k + 1, by omega, by go_num, HH.out, HBL.out _⟩
          case measure => simp [intOf]; omega
      · have HH := Lib.hid (findN_miss (p := p) (q := q) HK.out (fun h => h1 h.1) HF.out)
        go_wp2
        go_roundw
        case rel => exact ⟨k + 1, by omega, by go_num, HH.out, HBL.out _⟩
        case measure => simp [intOf]; omega
    · have hkn : k = n := by omega
      have HKn := Lib.hid hkn
      clear hkn
      go_wp2
      go_ret
      exact ⟨ret_int (by rw [findI, if_neg]; rw [HL.out, ← HKn.out]; omega), hBw⟩

end Go.Proofs.YtikioiblaoimkaaGreatDoor

/- The deeds that count. -/
namespace Go.Proofs.YtikioiblaoimkaaGreatDoor
open Go.RowKit

theorem infoDeed : (Tryz.prog.info? 41).map (fun i => (i.zero, i.size, i.bytes)) = some (some (.agg #[.int .i64 0, .int .i64 0, .int .i64 0, .int .i64 0, .int .i64 0, .int .i64 0, .int .i64 0, .int .i64 0, .int .i64 0]), 9, 72) := by kernel_rfl

theorem own_base {w : World} {base size n : Nat} {e : TypeId} {v : Value} {xs : List Value} (h : w.ownsRow base e size v n xs) {g : Nat} (hg : v.ownBlock = some g) : base ≤ g := by
  rcases h.2 with ⟨rfl, _⟩ | ⟨g', cap, cur, rfl, hb, _⟩
  · simp [Value.ownBlock] at hg
  · simp [Value.ownBlock] at hg
    omega
/-- The frame behind an append to a row of the call's own, the box of a deed and the new cells in blocks of their own. -/
theorem Below.appended {w wr W w1 : World} {size n : Nat} {e : TypeId} {v : Value} {xs : List Value} (hB : Below w.heap.size w wr) (hW : Below wr.heap.size wr W) (hown : wr.ownsRow w.heap.size e size v n xs) (hg : W.grownBy w1 v.ownBlock) : Below w.heap.size w w1 := by
  have h1 : Below w.heap.size w W := Below.then_ hB hW
  exact h1.grown hg h1.size fun k ek => own_base hown ek

theorem own_slice {w : World} {base size n : Nat} {e : TypeId} {v : Value} {xs : List Value} (h : w.ownsRow base e size v n xs) : ∃ A c, v = .slice A n c ∧ (n ≤ c ∧ c ≤ maxLen) := by
  rcases h.2 with ⟨rfl, rfl⟩ | ⟨g, cap, _, rfl, _, _, hn, hm, _⟩
  · exact ⟨none, 0, rfl, Nat.le_refl _, Nat.zero_le _⟩
  · exact ⟨_, _, rfl, hn, hm⟩
/-- What is owned can be read. -/
theorem Rd.of_own {w : World} {base size n c : Nat} {e : TypeId} {A : Option Addr} {xs : List Value} (h : w.ownsRow base e size (.slice A n c) n xs) : Rd w w.heap.size size A n xs := by
  refine ⟨h.1, fun hn => ?_⟩
  obtain ⟨g, cap, hv, _, hlt⟩ := h.form hn
  have hA : A = some ⟨g, 0, none⟩ := by injection hv
  subst hA
  refine ⟨g, 0, rfl, hlt, fun j u hu => ?_⟩
  have := h.cells (g := g) rfl j u hu
  have hadd : (⟨g, 0, none⟩ : Addr).add j = ⟨g, 0 + j, none⟩ := by unfold Addr.add; split <;> simp_all
  rwa [hadd] at this

def cntDs (kn : Int) (ds : List Deed) : List Deed := ds.filter fun d => countsB d.known d.til kn
theorem take_snoc_some {α : Type} {l : List α} {k : Nat} {d : α} (h : l[k]? = some d) : l.take (k + 1) = l.take k ++ [d] := by
  rw [List.take_add_one, h]
  rfl
theorem cntDs_in {kn : Int} {ds : List Deed} {k : Nat} {d : Deed} (h : ds[k]? = some d) (hc : countsB d.known d.til kn = true) : cntDs kn (ds.take (k + 1)) = cntDs kn (ds.take k) ++ [d] := by
  rw [take_snoc_some h, cntDs, List.filter_append]
  simp [cntDs, hc]
theorem cntDs_out {kn : Int} {ds : List Deed} {k : Nat} {d : Deed} (h : ds[k]? = some d) (hc : countsB d.known d.til kn = false) : cntDs kn (ds.take (k + 1)) = cntDs kn (ds.take k) := by
  rw [take_snoc_some h, cntDs, List.filter_append]
  simp [cntDs, hc]
theorem cntDs_len (kn : Int) (ds : List Deed) : (cntDs kn ds).length ≤ ds.length := List.length_filter_le _ _
theorem deedCells_append (a b : List Deed) : deedCells (a ++ b) = deedCells a ++ deedCells b := by simp [deedCells]

/-- A result that is a slice of deeds. -/
def RetDs (ds : List Deed) (w : World) (e : Ending) (w' : World) : Prop :=
  ∃ A c, e = .returned (.slice A ds.length c) ∧ Below w.heap.size w w' ∧ Ds w' w'.heap.size A ds.length ds ∧ ds.length ≤ c ∧ c ≤ maxLen

/-- The append's new cells: a deed's, in a block of their own. -/
theorem news_deed (w : World) (d : Deed) : ∀ j u, [.int .i64 d.par, .int .i64 d.no, .int .i64 d.kind, .int .i64 d.lock, .int .i64 d.person, .int .i64 d.lo, .int .i64 d.hi, .int .i64 d.known, .int .i64 d.til][j]? = some u → (w.alloc (.cells #[.int .i64 d.par, .int .i64 d.no, .int .i64 d.kind, .int .i64 d.lock, .int .i64 d.person, .int .i64 d.lo, .int .i64 d.hi, .int .i64 d.known, .int .i64 d.til] 41)).cell? ((⟨w.heap.size, 0, none⟩ : Addr).add j) = some u :=
  World.news_of_block (cs := #[.int .i64 d.par, .int .i64 d.no, .int .i64 d.kind, .int .i64 d.lock, .int .i64 d.person, .int .i64 d.lo, .int .i64 d.hi, .int .i64 d.known, .int .i64 d.til]) (t := 41) (fr := (0, 0)) (heap_alloc_new w _)

end Go.Proofs.YtikioiblaoimkaaGreatDoor

/- The program's deeds that count. -/
namespace Go.Proofs.YtikioiblaoimkaaGreatDoor
open Go.RowKit

theorem p_counts_v (a b k : Int) (v : Bool) (w : World) (h : countsB a b k = v) :
    Calls Tryz.prog 88 #[.int .i64 a, .int .i64 b, .int .i64 k] w fun e w' => e = .returned (.bool v) ∧ w = w' := h ▸ p_counts a b k w

set_option maxHeartbeats 1000000 in
theorem p_counting (ds : List Deed) (kn : Int) (A : Option Addr) (n c : Nat) (w : World) (hn : n ≤ 1000000) (hd : Ds w w.heap.size A n ds) :
    Calls Tryz.prog 50 #[.slice A n c, .int .i64 kn] w (RetDs (cntDs kn ds) w) := by
  obtain ⟨i0, hi, hz0, hz1, hz2⟩ := info_parts infoDeed
  have hlen := hd.len
  have HD := Lib.hid hd
  have HL := Lib.hid hlen
  clear hd hlen
  go_enter Tryz.func50, Tryz.ntmps50
  go_wp2
  go_loopw [5, 10] (fun v i wr => ∃ k : Nat, k ≤ n ∧ i = .int .i64 k ∧ wr.ownsRow w.heap.size 41 9 v (cntDs kn (ds.take k)).length (deedCells (cntDs kn (ds.take k))) ∧ Below w.heap.size w wr) (fun _ i _ => n - (intOf i).toNat)
  case atStart => exact ⟨0, by omega, rfl, World.ownsRow_nil _ _ _ _, Below.refl _ _⟩
  case round =>
    obtain ⟨k, hk, rfl, hown, hB⟩ := hrel
    have hs0 : w.heap.size ≤ wr.heap.size := hB.size
    by_cases hlt : k < n
    · have hDk := HD.out.ext hB (Nat.le_refl _)
      obtain ⟨b, o, d, rfl, hb, hdk, hat⟩ := hDk.at_ hlt
      have HK := Lib.hid hdk
      clear hDk hdk
      obtain ⟨a0, a1, a2, a3, a4, a5, a6, a7, a8⟩ := hat
      have hcl := cntDs_len kn (ds.take k)
      have hcl2 : (ds.take k).length ≤ k := List.length_take_le _ _
      by_cases hc : countsB d.known d.til kn = true
      · have HC := Lib.hid hc
        clear hc
        have HE := Lib.hid (cntDs_in HK.out HC.out)
        have HBW := Lib.hid (fun o => hB.alloc hs0 o)
        go_wp2_with (first | (go_at_call 88; refine (p_counts_v _ _ _ true _ HC.out).mono ?_; rintro e w1 ⟨rfl, rfl⟩) | (at_builtin; refine wpList_append_own _ rfl (.tmp 20) (.tmp 22) 22 rfl w.heap.size 41 i0 _ 9 72 Tryz.underlying22 hi hz0 hz1 hz2 rfl (by decide) _ _ _ rfl ((hown.alloc _).alloc _) ⟨wr.heap.size + 1, 0, none⟩ 1 1 [.int .i64 d.par, .int .i64 d.no, .int .i64 d.kind, .int .i64 d.lock, .int .i64 d.person, .int .i64 d.lo, .int .i64 d.hi, .int .i64 d.known, .int .i64 d.til] rfl rfl ?c1 ?c2 ?c3 ?c4 ?c5 ?_; rotate_left 5; intro v' w1 hown1 hgrow1 _))
        case c1 => have h := news_deed (wr.alloc (.cells #[.int .i64 d.par, .int .i64 d.no, .int .i64 d.kind, .int .i64 d.lock, .int .i64 d.person, .int .i64 d.lo, .int .i64 d.hi, .int .i64 d.known, .int .i64 d.til] 41)) d; simpa using h
        case c2 => simp [Value.oneCell']
        case c3 => unfold maxLen; omega
        case c4 => omega
        case c5 => simp; omega
        go_roundw
        case rel =>
          refine ⟨k + 1, by omega, by go_num, ?_, Below.appended hB (((Below.refl _ _).alloc (Nat.le_refl _) _).alloc (by simp) _) hown hgrow1⟩
          rw [HE.out, deedCells_append, List.length_append]
          exact hown1
        case measure => simp [intOf]; omega
      · have hc' : countsB d.known d.til kn = false := by simpa using hc
        have HC := Lib.hid hc'
        have HE := Lib.hid (cntDs_out HK.out hc')
        have HBW := Lib.hid (fun o => hB.alloc hs0 o)
        have HOW := Lib.hid (fun o => hown.alloc o)
        clear hc hc'
        go_wp2_with (go_at_call 88; refine (p_counts_v _ _ _ false _ HC.out).mono ?_; rintro e w1 ⟨rfl, rfl⟩)
        go_roundw
        case rel => exact ⟨k + 1, by omega, by go_num, by rw [HE.out]; exact HOW.out _, HBW.out _⟩
        case measure => simp [intOf]; omega
    · have hkn : k = n := by omega
      have HKn := Lib.hid hkn
      have htk : ds.take k = ds := List.take_of_length_le (by rw [HL.out]; omega)
      have HT := Lib.hid htk
      clear hkn htk
      obtain ⟨A1, c1, hv, hcc⟩ : ∃ A1 c1, u5 = .slice A1 (cntDs kn (ds.take k)).length c1 ∧ ((cntDs kn (ds.take k)).length ≤ c1 ∧ c1 ≤ maxLen) := own_slice hown
      subst hv
      go_wp2
      go_ret
      have hr := Rd.of_own hown
      rw [HT.out] at hr hcc ⊢
      exact ⟨A1, c1, rfl, hB, hr, hcc⟩

end Go.Proofs.YtikioiblaoimkaaGreatDoor
