import Derived.Test.YtikioiblaoimkaaGreatDoorB2
import Derived.Test.YtikioiblaoimkaaGreatDoorB4
import Derived.Test.YtikioiblaoimkaaGreatDoorB5
import Derived.Test.YtikioiblaoimkaaGreatDoorB8
set_option linter.unusedVariables false
set_option linter.unusedSimpArgs false

/- What the chapter's examples come to. -/
namespace Go.Proofs.YtikioiblaoimkaaGreatDoor
open Go.RowKit

def opnH (ds : List Deed) (day : Int) : List Int := srtL ((List.range 3).flatMap fun (j : Nat) => (stsL (thr ds ((j : Int) + 1, 0)) day).map fun x => x.2.hand)
theorem opnH_mem {ds : List Deed} {day a : Int} : a ∈ opnH ds day ↔ handsM ds day 3 a := by
  unfold opnH handsM
  rw [srtL_mem, List.mem_flatMap]
  constructor
  · rintro ⟨j, hj, h⟩
    obtain ⟨x, hx, e⟩ := List.mem_map.1 h
    exact ⟨j, by simpa using hj, x, hx, e⟩
  · rintro ⟨j, hj, x, hx, e⟩
    exact ⟨j, by simpa using hj, List.mem_map.2 ⟨x, hx, e⟩⟩
def opnOk (ds : List Deed) (day : Int) : Bool := personsB (opnH ds day) && !witB ds (opnH ds day) day false
def opnE (ds : List Deed) (day kn : Int) : Int := if opErr ds [] day kn = 0 then (if clF (cntDs kn ds) then 13 else if opnOk (cntDs kn ds) day then 0 else 18) else opErr ds [] day kn
def opnL (ds : List Deed) (day kn : Int) : List Int := if opnE ds day kn = 0 then opnH (cntDs kn ds) day else []
theorem RetOpn.retL {ds : List Deed} {day kn : Int} {w w' : World} {e : Ending} (h : RetOpn ds day kn w e w') : RetL (opnL ds day kn) (opnE ds day kn) w e w' := by
  obtain ⟨hb, h1, h2, h3⟩ := h
  by_cases h0 : opErr ds [] day kn = 0
  · cases hc : clF (cntDs kn ds) with
    | true =>
      have hE : opnE ds day kn = 13 := by rw [opnE, if_pos h0, if_pos hc]
      have hL : opnL ds day kn = [] := by rw [opnL, hE]; rfl
      rw [hE, hL]
      exact ⟨none, 0, h2 h0 hc, hb, Rd.nil_, Nat.le_refl _⟩
    | false =>
      obtain ⟨xs, hs, hm, h4, h5⟩ := h3 h0 hc
      have hx : opnH (cntDs kn ds) day = xs := SS.ext (srtL_ss _) hs fun a => by rw [opnH_mem, hm]
      cases ho : opnOk (cntDs kn ds) day with
      | true =>
        have hE : opnE ds day kn = 0 := by rw [opnE, if_pos h0, hc, ho]; rfl
        have hL : opnL ds day kn = xs := by rw [opnL, if_pos hE, hx]
        rw [hE, hL]
        have h6 : personsB xs = true ∧ witB (cntDs kn ds) xs day false = false := by
          unfold opnOk at ho
          rw [hx] at ho
          simpa using ho
        obtain ⟨A, c, he, hi, hcc⟩ := h4 h6
        exact ⟨A, c, he, hb, hi, hcc⟩
      | false =>
        have hE : opnE ds day kn = 18 := by rw [opnE, if_pos h0, hc, ho]; rfl
        have hL : opnL ds day kn = [] := by rw [opnL, hE]; rfl
        rw [hE, hL]
        refine ⟨none, 0, h5 fun h6 => ?_, hb, Rd.nil_, Nat.le_refl _⟩
        have : opnOk (cntDs kn ds) day = true := by unfold opnOk; rw [hx, h6.1, h6.2]; rfl
        rw [ho] at this
        cases this
  · have hE : opnE ds day kn = opErr ds [] day kn := by rw [opnE, if_neg h0]
    have hL : opnL ds day kn = [] := by rw [opnL, hE, if_neg h0]
    rw [hE, hL]
    exact ⟨none, 0, h1 h0, hb, Rd.nil_, Nat.le_refl _⟩

theorem ex_h : whoL (·.holder) exDs 3 15 9 = [0, 13] ∧ whoE exDs 3 15 9 = 0 := by constructor <;> kernel_rfl
theorem ex_x : whoL (·.hand) exDs 1 38 9 = [11, 14] ∧ whoE exDs 1 38 9 = 0 := by constructor <;> kernel_rfl
theorem ex_w : whenV exDs 9 0 6 = .agg #[.int .i64 30, .int .i64 40] ∧ whenE exDs 9 0 6 = 0 := by constructor <;> kernel_rfl
theorem ex_a : lawR exDs [11, 12, 13] 36 9 = (2, 0) := by kernel_rfl
theorem ex_b : lawR exDs [11, 12, 13, 14] 36 9 = (1, 0) := by kernel_rfl
theorem ex_o : opnL exDs 36 9 = [11, 12, 13, 14] ∧ opnE exDs 36 9 = 0 := by constructor <;> kernel_rfl
theorem ex_i : askR exDs (persErr exDs 12 65 75) (0, 12) 65 75 (·.office) = (2, 0) := by kernel_rfl
theorem ex_m : mvRes exDs 0 6 36 9 = [1] ∧ mvErr exDs 0 6 36 9 = 0 := by constructor <;> kernel_rfl
def exMore : List Deed := exDs ++ [⟨0, 9, 5, 1, 0, 20, 29, 0, 0⟩]
theorem ex_j : joinD exDs [⟨0, 9, 5, 1, 0, 20, 29, 0, 0⟩] = exMore ∧ joinE exDs [⟨0, 9, 5, 1, 0, 20, 29, 0, 0⟩] = 0 := by constructor <;> kernel_rfl
theorem ex_c : cfRes (orL [errI (checkB exMore) 11, errI (daysOk [9]) 6]) (cntDs 9 exMore) = [(0, 6), (0, 9)] ∧ cfErr (orL [errI (checkB exMore) 11, errI (daysOk [9]) 6]) (cntDs 9 exMore) = 0 := by constructor <;> kernel_rfl

end Go.Proofs.YtikioiblaoimkaaGreatDoor

/- sane: the chapter's examples hold. -/
namespace Go.Proofs.YtikioiblaoimkaaGreatDoor
open Go.RowKit

theorem p_When_v (ds : List Deed) (p q kn : Int) (v : Value) (err : Int) (A : Option Addr) (n c : Nat) (w : World) (hn : n ≤ 9223372036854775807) (hd : Ds w w.heap.size A n ds) (hv : whenV ds kn p q = v) (he : whenE ds kn p q = err) :
    Calls Tryz.prog 24 #[.slice A n c, .agg #[.int .i64 p, .int .i64 q], .int .i64 kn] w fun e w' => e = .returned (.tuple #[v, .int .i64 err]) ∧ Below w.heap.size w w' := hv ▸ he ▸ p_When ds p q kn A n c w hn hd
theorem p_Lawful_v (ds : List Deed) (xs : List Int) (day kn a err : Int) (A Ap : Option Addr) (n c np cp : Nat) (w : World) (hn : n ≤ 9223372036854775807) (hd : Ds w w.heap.size A n ds) (hnp : np ≤ 1000000) (hx : Is w w.heap.size Ap np xs) (hv : lawR ds xs day kn = (a, err)) :
    Calls Tryz.prog 25 #[.slice A n c, .slice Ap np cp, .int .i64 day, .int .i64 kn] w fun e w' => e = .returned (.tuple #[.int .i64 a, .int .i64 err]) ∧ Below w.heap.size w w' := by
  have h := p_Lawful ds xs day kn A Ap n c np cp w hn hd hnp hx
  rwa [hv] at h
theorem p_OpenersL (ds : List Deed) (day kn err : Int) (xs : List Int) (A : Option Addr) (n c : Nat) (w : World) (hn : n ≤ 9223372036854775807) (hd : Ds w w.heap.size A n ds) (hx : opnL ds day kn = xs) (he : opnE ds day kn = err) :
    Calls Tryz.prog 26 #[.slice A n c, .int .i64 day, .int .i64 kn] w (RetL xs err w) := hx ▸ he ▸ (p_Openers ds day kn A n c w hn hd).mono fun _ _ h => h.retL
theorem p_InOffice_v (ds : List Deed) (person day kn a err : Int) (A : Option Addr) (n c : Nat) (w : World) (hn : n ≤ 9223372036854775807) (hd : Ds w w.heap.size A n ds) (hv : askR ds (persErr ds person day kn) (0, person) day kn (·.office) = (a, err)) :
    Calls Tryz.prog 27 #[.slice A n c, .int .i64 person, .int .i64 day, .int .i64 kn] w fun e w' => e = .returned (.tuple #[.int .i64 a, .int .i64 err]) ∧ Below w.heap.size w w' := by
  have h := p_InOffice ds person day kn A n c w hn hd
  rwa [hv] at h
theorem p_Moved_v (ds : List Deed) (p q day kn err : Int) (xs : List Int) (A : Option Addr) (n c : Nat) (w : World) (hn : n ≤ 9223372036854775807) (hnc : n ≤ c) (hd : Ds w w.heap.size A n ds) (hx : mvRes ds p q day kn = xs) (he : mvErr ds p q day kn = err) :
    Calls Tryz.prog 28 #[.slice A n c, .agg #[.int .i64 p, .int .i64 q], .int .i64 day, .int .i64 kn] w (RetL xs err w) := hx ▸ he ▸ p_Moved ds p q day kn A n c w hn hnc hd
theorem p_Add_v (ds : List Deed) (x : Deed) (zs : List Deed) (err : Int) (A : Option Addr) (n c : Nat) (w : World) (hn : n ≤ 9223372036854775807) (hd : Ds w w.heap.size A n ds) (hz : joinD ds [x] = zs) (he : joinE ds [x] = err) :
    Calls Tryz.prog 29 #[.slice A n c, .agg #[.int .i64 x.par, .int .i64 x.no, .int .i64 x.kind, .int .i64 x.lock, .int .i64 x.person, .int .i64 x.lo, .int .i64 x.hi, .int .i64 x.known, .int .i64 x.til]] w (RetJ zs err w) := hz ▸ he ▸ p_Add sortNone ds x A n c w hn hd
theorem p_Conflict_v (ds : List Deed) (kn err : Int) (l : List (Int × Int)) (A : Option Addr) (n c : Nat) (w : World) (hn : n ≤ 9223372036854775807) (hnc : n ≤ c) (hd : Ds w w.heap.size A n ds) (hl : cfRes (orL [errI (checkB ds) 11, errI (daysOk [kn]) 6]) (cntDs kn ds) = l) (he : cfErr (orL [errI (checkB ds) 11, errI (daysOk [kn]) 6]) (cntDs kn ds) = err) :
    Calls Tryz.prog 30 #[.slice A n c, .int .i64 kn] w (RetIts l err w) := hl ▸ he ▸ p_Conflict ds kn A n c w hn hnc hd

set_option maxRecDepth 100000 in
set_option maxHeartbeats 4000000 in
theorem r_sane (w : World) :
    Calls Tryz.prog 9 #[] w fun e w' => e = .returned (.bool true) ∧ Below w.heap.size w w' := by
  go_enter Tryz.func9, Tryz.ntmps9
  go_wp2_with fail
  refine (r_deeds _).mono ?_
  rintro e w1 ⟨A, c, rfl, hc, hb1, hd1⟩
  have HB1 : Below w.heap.size w w1 := hb1
  have HD1 := Lib.hid hd1
  clear hd1 hb1
  go_wp2_with fail
  refine (p_HoldersL exDs 3 15 9 0 [0, 13] _ _ _ _ (by decide) (HD1.out.now (by (repeat' (first | with_reducible exact Below.refl _ _ | with_reducible assumption | with_reducible refine Below.alloc ?_ ?_ _ | with_reducible refine Below.setCell ?_ ?_ _ | with_reducible refine Below.drew ?_ | (simp; done) | (simp; omega) | omega)))) ex_h.1 ex_h.2).mono ?_
  rintro e w2 ⟨A2, c2, rfl, hb2, hi2, hc2⟩
  have HQ2 : Below w1.heap.size w1 w2 := Below.then_ (by (repeat' (first | with_reducible exact Below.refl _ _ | with_reducible assumption | with_reducible refine Below.alloc ?_ ?_ _ | with_reducible refine Below.setCell ?_ ?_ _ | with_reducible refine Below.drew ?_ | (simp; done) | (simp; omega) | omega))) hb2
  have HB2 : Below w.heap.size w w2 := Below.then_ HB1 HQ2
  have HD2 := Lib.hid (HD1.out.now HQ2)
  have HI2 := Lib.hid hi2
  clear hi2
  clear hb2 HD1 HB1
  go_wp2_with fail
  refine (p_HandsL exDs 1 38 9 0 [11, 14] _ _ _ _ (by decide) (HD2.out.now (by (repeat' (first | with_reducible exact Below.refl _ _ | with_reducible assumption | with_reducible refine Below.alloc ?_ ?_ _ | with_reducible refine Below.setCell ?_ ?_ _ | with_reducible refine Below.drew ?_ | (simp; done) | (simp; omega) | omega)))) ex_x.1 ex_x.2).mono ?_
  rintro e w3 ⟨A3, c3, rfl, hb3, hi3, hc3⟩
  have HQ3 : Below w2.heap.size w2 w3 := Below.then_ (by (repeat' (first | with_reducible exact Below.refl _ _ | with_reducible assumption | with_reducible refine Below.alloc ?_ ?_ _ | with_reducible refine Below.setCell ?_ ?_ _ | with_reducible refine Below.drew ?_ | (simp; done) | (simp; omega) | omega))) hb3
  have HB3 : Below w.heap.size w w3 := Below.then_ HB2 HQ3
  have HD3 := Lib.hid (HD2.out.now HQ3)
  have HI3 := Lib.hid (hi3)
  have HI23 := Lib.hid (HI2.out.now HQ3)
  clear hi3 HI2
  clear hb3 HD2 HB2
  go_wp2_with fail
  refine (p_When_v exDs 0 6 9 _ _ _ _ _ _ (by decide) (HD3.out.now (by (repeat' (first | with_reducible exact Below.refl _ _ | with_reducible assumption | with_reducible refine Below.alloc ?_ ?_ _ | with_reducible refine Below.setCell ?_ ?_ _ | with_reducible refine Below.drew ?_ | (simp; done) | (simp; omega) | omega)))) ex_w.1 ex_w.2).mono ?_
  rintro e w4 ⟨rfl, hb4⟩
  have HQ4 : Below w3.heap.size w3 w4 := Below.then_ (by (repeat' (first | with_reducible exact Below.refl _ _ | with_reducible assumption | with_reducible refine Below.alloc ?_ ?_ _ | with_reducible refine Below.setCell ?_ ?_ _ | with_reducible refine Below.drew ?_ | (simp; done) | (simp; omega) | omega))) hb4
  have HB4 : Below w.heap.size w w4 := Below.then_ HB3 HQ4
  have HD4 := Lib.hid (HD3.out.now HQ4)
  clear hb4 HD3 HB3
  go_wp2_with fail
  refine (p_Lawful_v exDs [11, 12, 13] 36 9 _ _ _ _ _ _ _ _ _ (by decide) (HD4.out.now (by (repeat' (first | with_reducible exact Below.refl _ _ | with_reducible assumption | with_reducible refine Below.alloc ?_ ?_ _ | with_reducible refine Below.setCell ?_ ?_ _ | with_reducible refine Below.drew ?_ | (simp; done) | (simp; omega) | omega)))) (by decide) (Rd.new _ #[.int .i64 11, .int .i64 12, .int .i64 13] _ 1 3 _ (by simp) rfl) ex_a).mono ?_
  rintro e w5 ⟨rfl, hb5⟩
  have HQ5 : Below w4.heap.size w4 w5 := Below.then_ (by (repeat' (first | with_reducible exact Below.refl _ _ | with_reducible assumption | with_reducible refine Below.alloc ?_ ?_ _ | with_reducible refine Below.setCell ?_ ?_ _ | with_reducible refine Below.drew ?_ | (simp; done) | (simp; omega) | omega))) hb5
  have HB5 : Below w.heap.size w w5 := Below.then_ HB4 HQ5
  have HD5 := Lib.hid (HD4.out.now HQ5)
  have bR5 := BoxA.ext ((BoxA.new w4 39 #[.int .i64 30, .int .i64 40]).alloc (.cells #[.int .i64 11, .int .i64 12, .int .i64 13] 3)) hb5
  clear hb5 HD4 HB4
  go_wp2_with fail
  refine (p_Lawful_v exDs [11, 12, 13, 14] 36 9 _ _ _ _ _ _ _ _ _ (by decide) (HD5.out.now (by (repeat' (first | with_reducible exact Below.refl _ _ | with_reducible assumption | with_reducible refine Below.alloc ?_ ?_ _ | with_reducible refine Below.setCell ?_ ?_ _ | with_reducible refine Below.drew ?_ | (simp; done) | (simp; omega) | omega)))) (by decide) (Rd.new _ #[.int .i64 11, .int .i64 12, .int .i64 13, .int .i64 14] _ 1 4 _ (by simp) rfl) ex_b).mono ?_
  rintro e w6 ⟨rfl, hb6⟩
  have HQ6 : Below w5.heap.size w5 w6 := Below.then_ (by (repeat' (first | with_reducible exact Below.refl _ _ | with_reducible assumption | with_reducible refine Below.alloc ?_ ?_ _ | with_reducible refine Below.setCell ?_ ?_ _ | with_reducible refine Below.drew ?_ | (simp; done) | (simp; omega) | omega))) hb6
  have HB6 : Below w.heap.size w w6 := Below.then_ HB5 HQ6
  have HD6 := Lib.hid (HD5.out.now HQ6)
  clear hb6 HD5 HB5
  go_wp2_with fail
  refine (p_OpenersL exDs 36 9 0 [11, 12, 13, 14] _ _ _ _ (by decide) (HD6.out.now (by (repeat' (first | with_reducible exact Below.refl _ _ | with_reducible assumption | with_reducible refine Below.alloc ?_ ?_ _ | with_reducible refine Below.setCell ?_ ?_ _ | with_reducible refine Below.drew ?_ | (simp; done) | (simp; omega) | omega)))) ex_o.1 ex_o.2).mono ?_
  rintro e w7 ⟨A7, c7, rfl, hb7, hi7, hc7⟩
  have HQ7 : Below w6.heap.size w6 w7 := Below.then_ (by (repeat' (first | with_reducible exact Below.refl _ _ | with_reducible assumption | with_reducible refine Below.alloc ?_ ?_ _ | with_reducible refine Below.setCell ?_ ?_ _ | with_reducible refine Below.drew ?_ | (simp; done) | (simp; omega) | omega))) hb7
  have HB7 : Below w.heap.size w w7 := Below.then_ HB6 HQ7
  have HD7 := Lib.hid (HD6.out.now HQ7)
  have HI7 := Lib.hid hi7
  clear hi7
  clear hb7 HD6 HB6
  go_wp2_with fail
  refine (p_InOffice_v exDs 12 65 75 _ _ _ _ _ _ (by decide) (HD7.out.now (by (repeat' (first | with_reducible exact Below.refl _ _ | with_reducible assumption | with_reducible refine Below.alloc ?_ ?_ _ | with_reducible refine Below.setCell ?_ ?_ _ | with_reducible refine Below.drew ?_ | (simp; done) | (simp; omega) | omega)))) ex_i).mono ?_
  rintro e w8 ⟨rfl, hb8⟩
  have HQ8 : Below w7.heap.size w7 w8 := Below.then_ (by (repeat' (first | with_reducible exact Below.refl _ _ | with_reducible assumption | with_reducible refine Below.alloc ?_ ?_ _ | with_reducible refine Below.setCell ?_ ?_ _ | with_reducible refine Below.drew ?_ | (simp; done) | (simp; omega) | omega))) hb8
  have HB8 : Below w.heap.size w w8 := Below.then_ HB7 HQ8
  have HD8 := Lib.hid (HD7.out.now HQ8)
  clear hb8 HD7 HB7
  go_wp2_with fail
  refine (p_Moved_v exDs 0 6 36 9 0 [1] _ _ _ _ (by decide) hc (HD8.out.now (by (repeat' (first | with_reducible exact Below.refl _ _ | with_reducible assumption | with_reducible refine Below.alloc ?_ ?_ _ | with_reducible refine Below.setCell ?_ ?_ _ | with_reducible refine Below.drew ?_ | (simp; done) | (simp; omega) | omega)))) ex_m.1 ex_m.2).mono ?_
  rintro e w9 ⟨A9, c9, rfl, hb9, hi9, hc9⟩
  have HQ9 : Below w8.heap.size w8 w9 := Below.then_ (by (repeat' (first | with_reducible exact Below.refl _ _ | with_reducible assumption | with_reducible refine Below.alloc ?_ ?_ _ | with_reducible refine Below.setCell ?_ ?_ _ | with_reducible refine Below.drew ?_ | (simp; done) | (simp; omega) | omega))) hb9
  have HB9 : Below w.heap.size w w9 := Below.then_ HB8 HQ9
  have HD9 := Lib.hid (HD8.out.now HQ9)
  have HI9 := Lib.hid hi9
  clear hi9
  clear hb9 HD8 HB8
  go_wp2_with fail
  refine (p_Add_v exDs ⟨0, 9, 5, 1, 0, 20, 29, 0, 0⟩ exMore 0 _ _ _ _ (by decide) (HD9.out.now (by (repeat' (first | with_reducible exact Below.refl _ _ | with_reducible assumption | with_reducible refine Below.alloc ?_ ?_ _ | with_reducible refine Below.setCell ?_ ?_ _ | with_reducible refine Below.drew ?_ | (simp; done) | (simp; omega) | omega)))) ex_j.1 ex_j.2).mono ?_
  rintro e w10 ⟨A10, c10, rfl, hb10, hd10, hc10⟩
  have HQ10 : Below w9.heap.size w9 w10 := Below.then_ (by (repeat' (first | with_reducible exact Below.refl _ _ | with_reducible assumption | with_reducible refine Below.alloc ?_ ?_ _ | with_reducible refine Below.setCell ?_ ?_ _ | with_reducible refine Below.drew ?_ | (simp; done) | (simp; omega) | omega))) hb10
  have HB10 : Below w.heap.size w w10 := Below.then_ HB9 HQ10
  have HD10 := Lib.hid (HD9.out.now HQ10)
  have HE10 := Lib.hid hd10
  clear hd10
  clear hb10 HD9 HB9
  go_wp2_with fail
  refine (p_Conflict_v exMore 9 0 [(0, 6), (0, 9)] _ _ _ _ (by decide) hc10 (HE10.out.now (by (repeat' (first | with_reducible exact Below.refl _ _ | with_reducible assumption | with_reducible refine Below.alloc ?_ ?_ _ | with_reducible refine Below.setCell ?_ ?_ _ | with_reducible refine Below.drew ?_ | (simp; done) | (simp; omega) | omega)))) ex_c.1 ex_c.2).mono ?_
  rintro e w11 ⟨A11, c11, rfl, hb11, hi11, hc11⟩
  have HQ11 : Below w10.heap.size w10 w11 := Below.then_ (by (repeat' (first | with_reducible exact Below.refl _ _ | with_reducible assumption | with_reducible refine Below.alloc ?_ ?_ _ | with_reducible refine Below.setCell ?_ ?_ _ | with_reducible refine Below.drew ?_ | (simp; done) | (simp; omega) | omega))) hb11
  have HB11 : Below w.heap.size w w11 := Below.then_ HB10 HQ11
  have HD11 := Lib.hid (HD10.out.now HQ11)
  have HI11 := Lib.hid hi11
  clear hi11
  clear hb11 HD10 HB10
  have bR11 := ((((((bR5.ext HQ6).ext HQ7).ext HQ8).ext HQ9).ext HQ10).ext HQ11)
  have r0 := bR11.cell 0
  have r1 := bR11.cell 1
  have hzr : w4.heap.size < w11.heap.size := bR11.lt
  have J2 := Lib.hid ((((((((HI23.out.now HQ4).now HQ5).now HQ6).now HQ7).now HQ8).now HQ9).now HQ10).now HQ11)
  have J3 := Lib.hid ((((((((HI3.out.now HQ4).now HQ5).now HQ6).now HQ7).now HQ8).now HQ9).now HQ10).now HQ11)
  have J7 := Lib.hid ((((HI7.out.now HQ8).now HQ9).now HQ10).now HQ11)
  have J9 := Lib.hid ((HI9.out.now HQ10).now HQ11)
  have HBR := Lib.hid bR11
  clear HI23 HI3 HI7 HI9 HQ2 HQ3 HQ4 HQ5 HQ6 HQ7 HQ8 HQ9 HQ10 HQ11 bR5 bR11 HD11 HE10 r0 r1
  go_wp2_with fail
  refine (r_same [0, 13] [0, 13] true _ _ 2 _ 2 _ _ (by decide) (by decide) (J2.out.now (by (repeat' (first | with_reducible exact Below.refl _ _ | with_reducible assumption | with_reducible refine Below.alloc ?_ ?_ _ | with_reducible refine Below.setCell ?_ ?_ _ | with_reducible refine Below.drew ?_ | (simp; done) | (simp; omega) | omega)))) (Rd.new _ #[.int .i64 0, .int .i64 13] _ 1 2 _ (by simp) rfl) (by decide)).mono ?_
  rintro e w12 ⟨rfl, hb12⟩
  have HQ12 : Below w11.heap.size w11 w12 := Below.then_ (by (repeat' (first | with_reducible exact Below.refl _ _ | with_reducible assumption | with_reducible refine Below.alloc ?_ ?_ _ | with_reducible refine Below.setCell ?_ ?_ _ | with_reducible refine Below.drew ?_ | (simp; done) | (simp; omega) | omega))) hb12
  have HB12 : Below w.heap.size w w12 := Below.then_ HB11 HQ12
  have J3 := Lib.hid (J3.out.now HQ12)
  have J7 := Lib.hid (J7.out.now HQ12)
  have J9 := Lib.hid (J9.out.now HQ12)
  have HI11 := Lib.hid (HI11.out.now HQ12)
  have HBR := Lib.hid (HBR.out.ext HQ12)
  clear hb12 HQ12 HB11
  go_wp2_with fail
  refine (r_same [11, 14] [11, 14] true _ _ 2 _ 2 _ _ (by decide) (by decide) (J3.out.now (by (repeat' (first | with_reducible exact Below.refl _ _ | with_reducible assumption | with_reducible refine Below.alloc ?_ ?_ _ | with_reducible refine Below.setCell ?_ ?_ _ | with_reducible refine Below.drew ?_ | (simp; done) | (simp; omega) | omega)))) (Rd.new _ #[.int .i64 11, .int .i64 14] _ 1 2 _ (by simp) rfl) (by decide)).mono ?_
  rintro e w13 ⟨rfl, hb13⟩
  have HQ13 : Below w12.heap.size w12 w13 := Below.then_ (by (repeat' (first | with_reducible exact Below.refl _ _ | with_reducible assumption | with_reducible refine Below.alloc ?_ ?_ _ | with_reducible refine Below.setCell ?_ ?_ _ | with_reducible refine Below.drew ?_ | (simp; done) | (simp; omega) | omega))) hb13
  have HB13 : Below w.heap.size w w13 := Below.then_ HB12 HQ13
  have J7 := Lib.hid (J7.out.now HQ13)
  have J9 := Lib.hid (J9.out.now HQ13)
  have HI11 := Lib.hid (HI11.out.now HQ13)
  have HBR := Lib.hid (HBR.out.ext HQ13)
  have r0 := HBR.out.cell 0
  have r1 := HBR.out.cell 1
  have hzr : w4.heap.size < w13.heap.size := HBR.out.lt
  clear hb13 HQ13 HB12
  go_wp2_with fail
  refine (r_same [11, 12, 13, 14] [11, 12, 13, 14] true _ _ 4 _ 4 _ _ (by decide) (by decide) (J7.out.now (by (repeat' (first | with_reducible exact Below.refl _ _ | with_reducible assumption | with_reducible refine Below.alloc ?_ ?_ _ | with_reducible refine Below.setCell ?_ ?_ _ | with_reducible refine Below.drew ?_ | (simp; done) | (simp; omega) | omega)))) (Rd.new _ #[.int .i64 11, .int .i64 12, .int .i64 13, .int .i64 14] _ 1 4 _ (by simp) rfl) (by decide)).mono ?_
  rintro e w14 ⟨rfl, hb14⟩
  have HQ14 : Below w13.heap.size w13 w14 := Below.then_ (by (repeat' (first | with_reducible exact Below.refl _ _ | with_reducible assumption | with_reducible refine Below.alloc ?_ ?_ _ | with_reducible refine Below.setCell ?_ ?_ _ | with_reducible refine Below.drew ?_ | (simp; done) | (simp; omega) | omega))) hb14
  have HB14 : Below w.heap.size w w14 := Below.then_ HB13 HQ14
  have J9 := Lib.hid (J9.out.now HQ14)
  have HI11 := Lib.hid (HI11.out.now HQ14)
  have HBR := Lib.hid (HBR.out.ext HQ14)
  clear hb14 HQ14 HB13
  go_wp2_with fail
  refine (r_same [1] [1] true _ _ 1 _ 1 _ _ (by decide) (by decide) (J9.out.now (by (repeat' (first | with_reducible exact Below.refl _ _ | with_reducible assumption | with_reducible refine Below.alloc ?_ ?_ _ | with_reducible refine Below.setCell ?_ ?_ _ | with_reducible refine Below.drew ?_ | (simp; done) | (simp; omega) | omega)))) (Rd.new _ #[.int .i64 1] _ 1 1 _ (by simp) rfl) (by decide)).mono ?_
  rintro e w15 ⟨rfl, hb15⟩
  have HQ15 : Below w14.heap.size w14 w15 := Below.then_ (by (repeat' (first | with_reducible exact Below.refl _ _ | with_reducible assumption | with_reducible refine Below.alloc ?_ ?_ _ | with_reducible refine Below.setCell ?_ ?_ _ | with_reducible refine Below.drew ?_ | (simp; done) | (simp; omega) | omega))) hb15
  have HB15 : Below w.heap.size w w15 := Below.then_ HB14 HQ15
  have HI11 := Lib.hid (HI11.out.now HQ15)
  have HBR := Lib.hid (HBR.out.ext HQ15)
  clear hb15 HQ15 HB14
  go_wp2_with fail
  refine (r_sameItems [(0, 6), (0, 9)] [(0, 6), (0, 9)] true _ _ 2 _ 2 _ _ (by decide) (by decide) (HI11.out.now (by (repeat' (first | with_reducible exact Below.refl _ _ | with_reducible assumption | with_reducible refine Below.alloc ?_ ?_ _ | with_reducible refine Below.setCell ?_ ?_ _ | with_reducible refine Below.drew ?_ | (simp; done) | (simp; omega) | omega)))) (Rd.new _ #[.int .i64 0, .int .i64 6, .int .i64 0, .int .i64 9] _ 2 2 _ (by simp) rfl) (by decide)).mono ?_
  rintro e w16 ⟨rfl, hb16⟩
  have HQ16 : Below w15.heap.size w15 w16 := Below.then_ (by (repeat' (first | with_reducible exact Below.refl _ _ | with_reducible assumption | with_reducible refine Below.alloc ?_ ?_ _ | with_reducible refine Below.setCell ?_ ?_ _ | with_reducible refine Below.drew ?_ | (simp; done) | (simp; omega) | omega))) hb16
  have HB16 : Below w.heap.size w w16 := Below.then_ HB15 HQ16
  clear hb16
  go_wp2_with fail
  go_ret
  exact ⟨rfl, HB16⟩

end Go.Proofs.YtikioiblaoimkaaGreatDoor
