import Derived.Test.YtaomfjgleddpdaaGreatT4
import Derived.Test.YtaomfjgleddpdaaGreatQ3
import Derived.Test.YtaomfjgleddpdaaGreatN1
import Derived.Deep.DeepCutAuto
set_option linter.unusedVariables false
set_option linter.unusedSimpArgs false

/- KeysOpeners: the law's walk. -/
namespace Go.Proofs.YtaomfjgleddpdaaGreat
open Go.RowKit
attribute [local go_sem] Oper.semAt_some

theorem op_0 {ds : List Deed} {ps : List Int} {day kn : Int} (hck : checkB ds = true) (hp : personsB ps = true) (hd : withinB day 0 100000 = true) (hk : withinB kn 0 100000 = true) : opErr ds ps day kn = 0 := by
  simp [opErr, daysOk, hck, hp, hd, hk, errI, orL]
theorem law_ev {ds : List Deed} {ps : List Int} {day kn : Int} (h : opErr ds ps day kn = 0) (hc : clF (cntDs kn ds) = false) : lawR ds ps day kn = (ansI (witB (cntDs kn ds) ps day true) (witB (cntDs kn ds) ps day false), 0) := by
  unfold lawR
  rw [if_pos h, hc]
  rfl
/-- Are the first j of them among these? -/
def amgB (ps xs : List Int) (j : Nat) : Bool := (xs.take j).all fun x => decide (x ∈ ps)
theorem amgB_succ {ps xs : List Int} {j : Nat} {x : Int} (h : xs[j]? = some x) : amgB ps xs (j + 1) = (amgB ps xs j && decide (x ∈ ps)) := by
  unfold amgB
  rw [List.take_add_one, h]
  simp
theorem amgB_all {ps xs : List Int} : amgB ps xs xs.length = true ↔ ∀ x ∈ xs, x ∈ ps := by
  unfold amgB
  rw [List.take_length, List.all_eq_true]
  simp
/-- What Openers gives, told by what its law asks. -/
theorem opn_cases {ds : List Deed} {ps : List Int} {day kn : Int} (hck : checkB ds = true) (hp : personsB ps = true) (hd : withinB day 0 100000 = true) (hk : withinB kn 0 100000 = true) (hc : clF (cntDs kn ds) = false) (hok : ∀ d ∈ cntDs kn ds, d.okB = true) :
    (opnE ds day kn = 0 ∧ lawR ds (opnL ds day kn) day kn = (1, 0) ∧ (opnL ds day kn).length ≤ 12 ∧ amgB ps (opnL ds day kn) (opnL ds day kn).length = !witB (cntDs kn ds) ps day false) ∨
    (opnE ds day kn = 18 ∧ witB (cntDs kn ds) ps day false = true) := by
  have h0 : opErr ds [] day kn = 0 := op_0 hck rfl hd hk
  cases ho : opnOk (cntDs kn ds) day with
  | true =>
    have hE : opnE ds day kn = 0 := by rw [opnE, if_pos h0, hc, ho]; rfl
    have hL : opnL ds day kn = opnH (cntDs kn ds) day := by rw [opnL, if_pos hE]
    have h1 := ho
    unfold opnOk at h1
    rw [Bool.and_eq_true, Bool.not_eq_true'] at h1
    left
    rw [hL]
    refine ⟨hE, ?_, (pers_in h1.1).1, ?_⟩
    · rw [law_ev (op_0 hck h1.1 hd hk) hc, h1.2, wit_all hok hc h1.2]
      rfl
    · have h2 := opn_iff hok hc (ps := ps) ho
      rw [← amgB_all] at h2
      cases h3 : witB (cntDs kn ds) ps day false with
      | false => exact h2.2 h3
      | true =>
        cases h4 : amgB ps (opnH (cntDs kn ds) day) (opnH (cntDs kn ds) day).length with
        | false => rfl
        | true =>
          rw [h2.1 h4] at h3
          cases h3
  | false =>
    right
    refine ⟨by rw [opnE, if_pos h0, hc, ho]; rfl, ?_⟩
    cases h3 : witB (cntDs kn ds) ps day false with
    | true => rfl
    | false =>
      rw [opn_if hok hc hp h3] at ho
      cases ho
theorem ans_three {can cannot : Bool} (h : cannot = false → can = true) : (can = true ∧ cannot = false ∧ ansI can cannot = 1) ∨ (can = false ∧ cannot = true ∧ ansI can cannot = 0) ∨ (can = true ∧ cannot = true ∧ ansI can cannot = 2) := by
  revert h
  revert can cannot
  decide

set_option maxRecDepth 100000 in
set_option maxHeartbeats 4000000 in
theorem w_KeysOpeners (ds : List Deed) (ps : List Int) (day kn : Int) (A Ap Ay : Option Addr) (n c np cp ny cy : Nat) (w : World) (hn : n ≤ 9223372036854775807) (hnc : n ≤ c) (hnp : np ≤ 9223372036854775807) (hd : Ds w w.heap.size A n ds) (hp : Is w w.heap.size Ap np ps) :
    Calls Tryz.prog 9 #[.slice A n c, .agg #[.slice Ap np cp, .slice Ay ny cy, .int .i64 day, .int .i64 kn]] w fun e w' => e = .returned (.bool true) ∧ Below w.heap.size w w' := by
  have HD := Lib.hid hd
  have HL := Lib.hid hd.len
  have HP := Lib.hid hp
  have HPL := Lib.hid hp.len
  obtain ⟨ce, hce⟩ : ∃ z, errI (checkB ds) 11 = z := ⟨_, rfl⟩
  obtain ⟨vk, hvk⟩ : ∃ z, withinB kn 0 100000 = z := ⟨_, rfl⟩
  obtain ⟨vd, hvd⟩ : ∃ z, withinB day 0 100000 = z := ⟨_, rfl⟩
  obtain ⟨vp, hvp⟩ : ∃ z, personsB ps = z := ⟨_, rfl⟩
  have HCE := Lib.hid hce
  have HVK := Lib.hid hvk
  have HVD := Lib.hid hvd
  have HVP := Lib.hid hvp
  clear hd hp hce hvk hvd hvp
  go_enter Tryz.func9, Tryz.ntmps9
  go_wp2_with fail
  refine (r_checkq ds ce _ _ _ _ hn (HD.out.now (by (repeat' (first | with_reducible exact Below.refl _ _ | with_reducible assumption | with_reducible refine Below.alloc ?_ ?_ _ | with_reducible refine Below.setCell ?_ ?_ _ | with_reducible refine Below.drew ?_ | (simp; done) | (simp; omega) | omega)))) HCE.out).mono ?_
  rintro e w1 ⟨rfl, hb1⟩
  have HBO1 := Lib.hid ((BoxA.new w 73 #[.slice Ap np cp, .slice Ay ny cy, .int .i64 day, .int .i64 kn]).ext hb1)
  have HB1 : Below w.heap.size w w1 := Below.then_ (by (repeat' (first | with_reducible exact Below.refl _ _ | with_reducible assumption | with_reducible refine Below.alloc ?_ ?_ _ | with_reducible refine Below.setCell ?_ ?_ _ | with_reducible refine Below.drew ?_ | (simp; done) | (simp; omega) | omega))) hb1
  clear hb1
  have x0 := HBO1.out.cell 0
  have x2 := HBO1.out.cell 2
  have x3 := HBO1.out.cell 3
  cases hck : checkB ds with
  | false =>
    obtain rfl : ce = 11 := by rw [← HCE.out, hck]; rfl
    clear hck
    go_wp2_with fail
    refine (r_sane _).mono ?_
    rintro e w5 ⟨rfl, hb5⟩
    go_wp2_with fail
    go_ret
    exact ⟨rfl, Below.then_ HB1 hb5⟩
  | true =>
  obtain rfl : ce = 0 := by rw [← HCE.out, hck]; rfl
  have HC := Lib.hid hck
  clear hck
  go_wp2_with fail
  refine (r_isDayq kn vk _ HVK.out).mono ?_
  rintro e w1' ⟨rfl, rfl⟩
  cases vk with
  | false =>
    go_wp2_with fail
    refine (r_sane _).mono ?_
    rintro e w5 ⟨rfl, hb5⟩
    go_wp2_with fail
    go_ret
    exact ⟨rfl, Below.then_ HB1 hb5⟩
  | true =>
  go_wp2_with fail
  refine (r_isDayq day vd _ HVD.out).mono ?_
  rintro e w1' ⟨rfl, rfl⟩
  cases vd with
  | false =>
    go_wp2_with fail
    refine (r_sane _).mono ?_
    rintro e w5 ⟨rfl, hb5⟩
    go_wp2_with fail
    go_ret
    exact ⟨rfl, Below.then_ HB1 hb5⟩
  | true =>
  go_wp2_with fail
  refine (r_arePersons ps vp _ _ _ _ hnp (HP.out.now HB1) HVP.out).mono ?_
  rintro e w1' ⟨rfl, rfl⟩
  cases vp with
  | false =>
    go_wp2_with fail
    refine (r_sane _).mono ?_
    rintro e w5 ⟨rfl, hb5⟩
    go_wp2_with fail
    go_ret
    exact ⟨rfl, Below.then_ HB1 hb5⟩
  | true =>
  have hnp12 : np ≤ 12 := by
    have h := (pers_in HVP.out).1
    have := HPL.out
    omega
  obtain ⟨ev, hev⟩ : ∃ z, clF (cntDs kn ds) = z := ⟨_, rfl⟩
  have HEV := Lib.hid hev
  clear hev
  go_wp2_with fail
  refine (p_Consistent_v ds kn 0 (!ev) _ _ _ _ hn hnc (HD.out.now HB1) (by rw [HC.out, HEV.out]; simp [daysOk, HVK.out]) (by simp [daysOk, HC.out, HVK.out, errI, orL])).mono ?_
  rintro e w2 ⟨rfl, hb2⟩
  have HBO2 := Lib.hid (HBO1.out.ext hb2)
  have HB2 : Below w.heap.size w w2 := Below.then_ HB1 hb2
  clear hb2 x0 x2 x3 HBO1
  have x0 := HBO2.out.cell 0
  have x2 := HBO2.out.cell 2
  have x3 := HBO2.out.cell 3
  cases ev with
  | true =>
    go_wp2_with fail
    refine (r_sane _).mono ?_
    rintro e w5 ⟨rfl, hb5⟩
    go_wp2_with fail
    go_ret
    exact ⟨rfl, Below.then_ HB2 hb5⟩
  | false =>
  have HOK := Lib.hid (cnt_ok HC.out kn)
  have HOP := Lib.hid (op_0 HC.out HVP.out HVD.out HVK.out)
  have HOC := Lib.hid (opn_cases HC.out HVP.out HVD.out HVK.out HEV.out HOK.out)
  have HA3 := Lib.hid (ans_three fun h => wit_all HOK.out HEV.out (ps := ps) (day := day) h)
  obtain ⟨xs, hxs⟩ : ∃ xs, opnL ds day kn = xs := ⟨_, rfl⟩
  obtain ⟨oe, hoe⟩ : ∃ z, opnE ds day kn = z := ⟨_, rfl⟩
  have hle := law_ev HOP.out HEV.out
  obtain ⟨can, hcan⟩ : ∃ z, witB (cntDs kn ds) ps day true = z := ⟨_, rfl⟩
  obtain ⟨cannot, hcannot⟩ : ∃ z, witB (cntDs kn ds) ps day false = z := ⟨_, rfl⟩
  have hoc := HOC.out
  have ha3 := HA3.out
  rw [hxs, hoe, hcannot] at hoc
  rw [hcan, hcannot] at ha3 hle
  obtain ⟨a, ha⟩ : ∃ z, ansI can cannot = z := ⟨_, rfl⟩
  rw [ha] at ha3 hle
  have HXS := Lib.hid hxs
  have HOE := Lib.hid hoe
  have HLE := Lib.hid hle
  have HCAN := Lib.hid hcan
  have HCANNOT := Lib.hid hcannot
  have HOC' := Lib.hid hoc
  have HA3' := Lib.hid ha3
  clear hxs hoe hle hcan hcannot hoc ha3 ha HOC HA3
  go_wp2_with fail
  refine (p_OpenersL ds day kn oe xs _ _ _ _ hn (HD.out.now HB2) HXS.out HOE.out).mono ?_
  rintro e w3 ⟨A3, c3, rfl, hb3, hi3, hc3⟩
  have HBO3 := Lib.hid (HBO2.out.ext hb3)
  have HB3 : Below w.heap.size w w3 := Below.then_ HB2 hb3
  have HI3 := Lib.hid hi3
  clear hb3 hi3 hc3 x0 x2 x3 HBO2
  have x0 := HBO3.out.cell 0
  have x2 := HBO3.out.cell 2
  have x3 := HBO3.out.cell 3
  go_wp2_with fail
  refine (p_Lawful_v ds ps day kn a 0 _ _ _ _ _ _ _ hn (HD.out.now HB3) (by omega) (HP.out.now HB3) HLE.out).mono ?_
  rintro e w4 ⟨rfl, hb4⟩
  have HBO4 := Lib.hid (HBO3.out.ext hb4)
  have HB4 := Lib.hid (Below.then_ HB3 hb4)
  have HI4 := Lib.hid (HI3.out.now hb4)
  clear hb4 x0 x2 x3 HBO3 HI3
  have x0 := HBO4.out.cell 0
  have x2 := HBO4.out.cell 2
  have x3 := HBO4.out.cell 3
  obtain ⟨rfl, hl1, hl12, ham⟩ | ⟨rfl, hcn⟩ := HOC'.out
  · have HL1 := Lib.hid hl1
    have HAM := Lib.hid ham
    clear hl1 ham
    go_wp2_with fail
    go_loopw [11, 100] (fun v i wr => ∃ j : Nat, j ≤ xs.length ∧ i = .int .i64 j ∧ v = .bool (amgB ps xs j) ∧ wr = w4) (fun _ i _ => xs.length - (intOf i).toNat)
    case atStart => exact ⟨0, by omega, rfl, rfl, rfl⟩
    case round =>
      obtain ⟨j, hj, rfl, rfl, rfl⟩ := hrel
      by_cases hlt : j < xs.length
      · obtain ⟨b, o, x, rfl, hb, hx, hc⟩ := HI4.out.at_ hlt
        obtain ⟨y, hy⟩ : ∃ z, amgB ps xs j = z := ⟨_, rfl⟩
        obtain ⟨q, hq⟩ : ∃ z, decide (x ∈ ps) = z := ⟨_, rfl⟩
        have hs := amgB_succ (ps := ps) hx
        rw [hy, hq] at hs
        rw [hy]
        have HS := Lib.hid hs
        have HQ := Lib.hid hq
        clear hs hq hy hx
        cases y with
        | true =>
          go_wp2_with fail
          refine (r_Lists ps x q _ _ _ _ (by omega) (HP.out.now HB4.out) HQ.out).mono ?_
          rintro e w' ⟨rfl, rfl⟩
          go_wp2_with fail
          go_roundw
          case rel => exact ⟨j + 1, by omega, by go_num, by rw [HS.out]; rfl, by trivial⟩
          case measure => simp [intOf]; omega
        | false =>
          go_wp2_with fail
          go_roundw
          case rel => exact ⟨j + 1, by omega, by go_num, by rw [HS.out]; rfl, by trivial⟩
          case measure => simp [intOf]; omega
      · obtain rfl : j = xs.length := by omega
        rw [HAM.out]
        go_wp2_with fail
        refine (p_Lawful_v ds xs day kn 1 0 _ _ _ _ _ _ _ hn (HD.out.now HB4.out) (by omega) HI4.out HL1.out).mono ?_
        rintro e w5 ⟨rfl, hb5⟩
        have HBO5 := Lib.hid (HBO4.out.ext hb5)
        have HB5 := Lib.hid (Below.then_ HB4.out hb5)
        clear hb5 HBO4 x0 x2 x3
        go_upto_region 18 with fail
        go_cut [133] (fun c wx => c = .bool false ∧ wx = w5)
        case first =>
          rcases HA3'.out with ⟨rfl, rfl, rfl⟩ | ⟨rfl, rfl, rfl⟩ | ⟨rfl, rfl, rfl⟩
          all_goals
            go_wp2_with fail
            go_meet
            exact ⟨rfl, rfl⟩
        case rest =>
          obtain ⟨rfl, hwc⟩ := hcut
          obtain rfl : w5 = wc := hwc.symm
          go_wp2_with fail
          go_loopw [16] (fun i wr => ∃ k : Nat, k ≤ 2 ∧ i = .int .i64 k ∧ Below w5.heap.size w5 wr) (fun i _ => 2 - (intOf i).toNat)
          case atStart => exact ⟨0, by omega, rfl, Below.refl _ _⟩
          case round =>
            obtain ⟨k, hk2, rfl, hB⟩ := hrel
            obtain ⟨wo, rfl⟩ : ∃ wo : World, wo = wr := ⟨_, rfl⟩
            have HB := Lib.hid hB
            have HBO := Lib.hid (HBO5.out.ext hB)
            have HBW := Lib.hid (Below.then_ HB5.out hB)
            clear hB
            obtain rfl | rfl | rfl : k = 0 ∨ k = 1 ∨ k = 2 := by omega
            · have x0 := HBO.out.cell 0
              have x2 := HBO.out.cell 2
              have x3 := HBO.out.cell 3
              go_wp2_with fail
              refine (p_Show ds ps day kn false _ _ _ _ _ _ _ hn (by omega) (HD.out.now HBW.out) (HP.out.now HBW.out) HOP.out HEV.out).mono ?_
              rintro e w6 ⟨hb6, hs0, hs1⟩
              have HW := Lib.hid HCANNOT.out
              rcases HA3'.out with ⟨rfl, rfl, rfl⟩ | ⟨rfl, rfl, rfl⟩ | ⟨rfl, rfl, rfl⟩
              · obtain rfl := hs0 HW.out
                clear hs0 hs1
                have HB6 := Lib.hid (Below.then_ HB.out hb6)
                clear hb6 HW
                go_wp2_with fail
                go_roundw
                case rel =>
                  first
                  | exact ⟨1, by omega, by go_num, HB6.out⟩
                  | (repeat apply Exists.intro); exact ⟨⟨1, by omega, by go_num, HB6.out⟩, rfl⟩
                case measure => simp [intOf] <;> omega
              · obtain ⟨ys, A6, n6, c6, rfl, hi6, hn6, ht6, hv6⟩ := hs1 HW.out
                clear hs0 hs1
                have HB6 := Lib.hid (Below.then_ HB.out hb6)
                have HBW6 := Lib.hid (Below.then_ HBW.out hb6)
                have HBO6 := Lib.hid (HBO.out.ext hb6)
                have HI6 := Lib.hid hi6
                have HT6 := Lib.hid ht6
                have HV6 := Lib.hid hv6
                clear hb6 hi6 ht6 hv6 HW x0 x2 x3
                have x0 := HBO6.out.cell 0
                have x2 := HBO6.out.cell 2
                have x3 := HBO6.out.cell 3
                go_wp2_with fail
                refine (p_True ds ps ys day kn false _ _ _ _ _ _ _ _ _ _ hn (by omega) (by omega) (HD.out.now HBW6.out) (HP.out.now HBW6.out) HI6.out HC.out HVP.out (by simp [daysOk, HVD.out, HVK.out]) HT6.out HV6.out).mono ?_
                rintro e w7 ⟨rfl, hb7⟩
                have HB7 := Lib.hid (Below.then_ HB6.out hb7)
                clear hb7 x0 x2 x3
                go_wp2_with fail
                go_roundw
                case rel =>
                  first
                  | exact ⟨1, by omega, by go_num, HB7.out⟩
                  | (repeat apply Exists.intro); exact ⟨⟨1, by omega, by go_num, HB7.out⟩, rfl⟩
                case measure => simp [intOf] <;> omega
              · obtain ⟨ys, A6, n6, c6, rfl, hi6, hn6, ht6, hv6⟩ := hs1 HW.out
                clear hs0 hs1
                have HB6 := Lib.hid (Below.then_ HB.out hb6)
                have HBW6 := Lib.hid (Below.then_ HBW.out hb6)
                have HBO6 := Lib.hid (HBO.out.ext hb6)
                have HI6 := Lib.hid hi6
                have HT6 := Lib.hid ht6
                have HV6 := Lib.hid hv6
                clear hb6 hi6 ht6 hv6 HW x0 x2 x3
                have x0 := HBO6.out.cell 0
                have x2 := HBO6.out.cell 2
                have x3 := HBO6.out.cell 3
                go_wp2_with fail
                refine (p_True ds ps ys day kn false _ _ _ _ _ _ _ _ _ _ hn (by omega) (by omega) (HD.out.now HBW6.out) (HP.out.now HBW6.out) HI6.out HC.out HVP.out (by simp [daysOk, HVD.out, HVK.out]) HT6.out HV6.out).mono ?_
                rintro e w7 ⟨rfl, hb7⟩
                have HB7 := Lib.hid (Below.then_ HB6.out hb7)
                clear hb7 x0 x2 x3
                go_wp2_with fail
                go_roundw
                case rel =>
                  first
                  | exact ⟨1, by omega, by go_num, HB7.out⟩
                  | (repeat apply Exists.intro); exact ⟨⟨1, by omega, by go_num, HB7.out⟩, rfl⟩
                case measure => simp [intOf] <;> omega
            · have x0 := HBO.out.cell 0
              have x2 := HBO.out.cell 2
              have x3 := HBO.out.cell 3
              go_wp2_with fail
              refine (p_Show ds ps day kn true _ _ _ _ _ _ _ hn (by omega) (HD.out.now HBW.out) (HP.out.now HBW.out) HOP.out HEV.out).mono ?_
              rintro e w6 ⟨hb6, hs0, hs1⟩
              have HW := Lib.hid HCAN.out
              rcases HA3'.out with ⟨rfl, rfl, rfl⟩ | ⟨rfl, rfl, rfl⟩ | ⟨rfl, rfl, rfl⟩
              · obtain ⟨ys, A6, n6, c6, rfl, hi6, hn6, ht6, hv6⟩ := hs1 HW.out
                clear hs0 hs1
                have HB6 := Lib.hid (Below.then_ HB.out hb6)
                have HBW6 := Lib.hid (Below.then_ HBW.out hb6)
                have HBO6 := Lib.hid (HBO.out.ext hb6)
                have HI6 := Lib.hid hi6
                have HT6 := Lib.hid ht6
                have HV6 := Lib.hid hv6
                clear hb6 hi6 ht6 hv6 HW x0 x2 x3
                have x0 := HBO6.out.cell 0
                have x2 := HBO6.out.cell 2
                have x3 := HBO6.out.cell 3
                go_wp2_with fail
                refine (p_True ds ps ys day kn true _ _ _ _ _ _ _ _ _ _ hn (by omega) (by omega) (HD.out.now HBW6.out) (HP.out.now HBW6.out) HI6.out HC.out HVP.out (by simp [daysOk, HVD.out, HVK.out]) HT6.out HV6.out).mono ?_
                rintro e w7 ⟨rfl, hb7⟩
                have HB7 := Lib.hid (Below.then_ HB6.out hb7)
                clear hb7 x0 x2 x3
                go_wp2_with fail
                go_roundw
                case rel =>
                  first
                  | exact ⟨2, by omega, by go_num, HB7.out⟩
                  | (repeat apply Exists.intro); exact ⟨⟨2, by omega, by go_num, HB7.out⟩, rfl⟩
                case measure => simp [intOf] <;> omega
              · obtain rfl := hs0 HW.out
                clear hs0 hs1
                have HB6 := Lib.hid (Below.then_ HB.out hb6)
                clear hb6 HW
                go_wp2_with fail
                go_roundw
                case rel =>
                  first
                  | exact ⟨2, by omega, by go_num, HB6.out⟩
                  | (repeat apply Exists.intro); exact ⟨⟨2, by omega, by go_num, HB6.out⟩, rfl⟩
                case measure => simp [intOf] <;> omega
              · obtain ⟨ys, A6, n6, c6, rfl, hi6, hn6, ht6, hv6⟩ := hs1 HW.out
                clear hs0 hs1
                have HB6 := Lib.hid (Below.then_ HB.out hb6)
                have HBW6 := Lib.hid (Below.then_ HBW.out hb6)
                have HBO6 := Lib.hid (HBO.out.ext hb6)
                have HI6 := Lib.hid hi6
                have HT6 := Lib.hid ht6
                have HV6 := Lib.hid hv6
                clear hb6 hi6 ht6 hv6 HW x0 x2 x3
                have x0 := HBO6.out.cell 0
                have x2 := HBO6.out.cell 2
                have x3 := HBO6.out.cell 3
                go_wp2_with fail
                refine (p_True ds ps ys day kn true _ _ _ _ _ _ _ _ _ _ hn (by omega) (by omega) (HD.out.now HBW6.out) (HP.out.now HBW6.out) HI6.out HC.out HVP.out (by simp [daysOk, HVD.out, HVK.out]) HT6.out HV6.out).mono ?_
                rintro e w7 ⟨rfl, hb7⟩
                have HB7 := Lib.hid (Below.then_ HB6.out hb7)
                clear hb7 x0 x2 x3
                go_wp2_with fail
                go_roundw
                case rel =>
                  first
                  | exact ⟨2, by omega, by go_num, HB7.out⟩
                  | (repeat apply Exists.intro); exact ⟨⟨2, by omega, by go_num, HB7.out⟩, rfl⟩
                case measure => simp [intOf] <;> omega
            · go_wp2_with fail
              refine (r_sane _).mono ?_
              rintro e w8 ⟨rfl, hb8⟩
              go_wp2_with fail
              go_ret
              exact ⟨rfl, Below.then_ HBW.out hb8⟩
  · subst hcn
    have hne : a ≠ 1 := by
      have := HA3'.out
      rcases this with ⟨_, h, _⟩ | ⟨_, _, h⟩ | ⟨_, _, h⟩
      · cases h
      · omega
      · omega
    obtain ⟨w5, rfl⟩ : ∃ w5 : World, w5 = w4 := ⟨_, rfl⟩
    have HBO5 := Lib.hid HBO4.out
    have HB5 := Lib.hid HB4.out
    clear HBO4 HB4 x0 x2 x3
    go_wp2_with fail
    go_loopw [16] (fun i wr => ∃ k : Nat, k ≤ 2 ∧ i = .int .i64 k ∧ Below w5.heap.size w5 wr) (fun i _ => 2 - (intOf i).toNat)
    case atStart => exact ⟨0, by omega, rfl, Below.refl _ _⟩
    case round =>
      obtain ⟨k, hk2, rfl, hB⟩ := hrel
      obtain ⟨wo, rfl⟩ : ∃ wo : World, wo = wr := ⟨_, rfl⟩
      have HB := Lib.hid hB
      have HBO := Lib.hid (HBO5.out.ext hB)
      have HBW := Lib.hid (Below.then_ HB5.out hB)
      clear hB
      obtain rfl | rfl | rfl : k = 0 ∨ k = 1 ∨ k = 2 := by omega
      · have x0 := HBO.out.cell 0
        have x2 := HBO.out.cell 2
        have x3 := HBO.out.cell 3
        go_wp2_with fail
        refine (p_Show ds ps day kn false _ _ _ _ _ _ _ hn (by omega) (HD.out.now HBW.out) (HP.out.now HBW.out) HOP.out HEV.out).mono ?_
        rintro e w6 ⟨hb6, hs0, hs1⟩
        have HW := Lib.hid HCANNOT.out
        rcases HA3'.out with ⟨_, h, _⟩ | ⟨h1, _, h2⟩ | ⟨h1, _, h2⟩
        · simp at h
        · subst h1 h2
          obtain ⟨ys, A6, n6, c6, rfl, hi6, hn6, ht6, hv6⟩ := hs1 HW.out
          clear hs0 hs1
          have HB6 := Lib.hid (Below.then_ HB.out hb6)
          have HBW6 := Lib.hid (Below.then_ HBW.out hb6)
          have HBO6 := Lib.hid (HBO.out.ext hb6)
          have HI6 := Lib.hid hi6
          have HT6 := Lib.hid ht6
          have HV6 := Lib.hid hv6
          clear hb6 hi6 ht6 hv6 HW x0 x2 x3
          have x0 := HBO6.out.cell 0
          have x2 := HBO6.out.cell 2
          have x3 := HBO6.out.cell 3
          go_wp2_with fail
          refine (p_True ds ps ys day kn false _ _ _ _ _ _ _ _ _ _ hn (by omega) (by omega) (HD.out.now HBW6.out) (HP.out.now HBW6.out) HI6.out HC.out HVP.out (by simp [daysOk, HVD.out, HVK.out]) HT6.out HV6.out).mono ?_
          rintro e w7 ⟨rfl, hb7⟩
          have HB7 := Lib.hid (Below.then_ HB6.out hb7)
          clear hb7 x0 x2 x3
          go_wp2_with fail
          go_roundw
          case rel =>
            first
            | exact ⟨1, by omega, by go_num, HB7.out⟩
            | (repeat apply Exists.intro); exact ⟨⟨1, by omega, by go_num, HB7.out⟩, rfl⟩
          case measure => simp [intOf] <;> omega
        · subst h1 h2
          obtain ⟨ys, A6, n6, c6, rfl, hi6, hn6, ht6, hv6⟩ := hs1 HW.out
          clear hs0 hs1
          have HB6 := Lib.hid (Below.then_ HB.out hb6)
          have HBW6 := Lib.hid (Below.then_ HBW.out hb6)
          have HBO6 := Lib.hid (HBO.out.ext hb6)
          have HI6 := Lib.hid hi6
          have HT6 := Lib.hid ht6
          have HV6 := Lib.hid hv6
          clear hb6 hi6 ht6 hv6 HW x0 x2 x3
          have x0 := HBO6.out.cell 0
          have x2 := HBO6.out.cell 2
          have x3 := HBO6.out.cell 3
          go_wp2_with fail
          refine (p_True ds ps ys day kn false _ _ _ _ _ _ _ _ _ _ hn (by omega) (by omega) (HD.out.now HBW6.out) (HP.out.now HBW6.out) HI6.out HC.out HVP.out (by simp [daysOk, HVD.out, HVK.out]) HT6.out HV6.out).mono ?_
          rintro e w7 ⟨rfl, hb7⟩
          have HB7 := Lib.hid (Below.then_ HB6.out hb7)
          clear hb7 x0 x2 x3
          go_wp2_with fail
          go_roundw
          case rel =>
            first
            | exact ⟨1, by omega, by go_num, HB7.out⟩
            | (repeat apply Exists.intro); exact ⟨⟨1, by omega, by go_num, HB7.out⟩, rfl⟩
          case measure => simp [intOf] <;> omega
      · have x0 := HBO.out.cell 0
        have x2 := HBO.out.cell 2
        have x3 := HBO.out.cell 3
        go_wp2_with fail
        refine (p_Show ds ps day kn true _ _ _ _ _ _ _ hn (by omega) (HD.out.now HBW.out) (HP.out.now HBW.out) HOP.out HEV.out).mono ?_
        rintro e w6 ⟨hb6, hs0, hs1⟩
        have HW := Lib.hid HCAN.out
        rcases HA3'.out with ⟨_, h, _⟩ | ⟨h1, _, h2⟩ | ⟨h1, _, h2⟩
        · simp at h
        · subst h1 h2
          obtain rfl := hs0 HW.out
          clear hs0 hs1
          have HB6 := Lib.hid (Below.then_ HB.out hb6)
          clear hb6 HW
          go_wp2_with fail
          go_roundw
          case rel =>
            first
            | exact ⟨2, by omega, by go_num, HB6.out⟩
            | (repeat apply Exists.intro); exact ⟨⟨2, by omega, by go_num, HB6.out⟩, rfl⟩
          case measure => simp [intOf] <;> omega
        · subst h1 h2
          obtain ⟨ys, A6, n6, c6, rfl, hi6, hn6, ht6, hv6⟩ := hs1 HW.out
          clear hs0 hs1
          have HB6 := Lib.hid (Below.then_ HB.out hb6)
          have HBW6 := Lib.hid (Below.then_ HBW.out hb6)
          have HBO6 := Lib.hid (HBO.out.ext hb6)
          have HI6 := Lib.hid hi6
          have HT6 := Lib.hid ht6
          have HV6 := Lib.hid hv6
          clear hb6 hi6 ht6 hv6 HW x0 x2 x3
          have x0 := HBO6.out.cell 0
          have x2 := HBO6.out.cell 2
          have x3 := HBO6.out.cell 3
          go_wp2_with fail
          refine (p_True ds ps ys day kn true _ _ _ _ _ _ _ _ _ _ hn (by omega) (by omega) (HD.out.now HBW6.out) (HP.out.now HBW6.out) HI6.out HC.out HVP.out (by simp [daysOk, HVD.out, HVK.out]) HT6.out HV6.out).mono ?_
          rintro e w7 ⟨rfl, hb7⟩
          have HB7 := Lib.hid (Below.then_ HB6.out hb7)
          clear hb7 x0 x2 x3
          go_wp2_with fail
          go_roundw
          case rel =>
            first
            | exact ⟨2, by omega, by go_num, HB7.out⟩
            | (repeat apply Exists.intro); exact ⟨⟨2, by omega, by go_num, HB7.out⟩, rfl⟩
          case measure => simp [intOf] <;> omega
      · go_wp2_with fail
        refine (r_sane _).mono ?_
        rintro e w8 ⟨rfl, hb8⟩
        go_wp2_with fail
        go_ret
        exact ⟨rfl, Below.then_ HBW.out hb8⟩

end Go.Proofs.YtaomfjgleddpdaaGreat
