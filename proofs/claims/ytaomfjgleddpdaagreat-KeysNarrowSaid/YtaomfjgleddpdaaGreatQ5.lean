import Derived.Test.YtaomfjgleddpdaaGreatQ3
import Derived.Test.YtaomfjgleddpdaaGreatQ4
import Derived.Test.YtaomfjgleddpdaaGreatN2
import Derived.Deep.DeepCutAuto
set_option linter.unusedVariables false
set_option linter.unusedSimpArgs false

/- KeysTrue: the law's walk. -/
namespace Go.Proofs.YtaomfjgleddpdaaGreat
open Go.RowKit
attribute [local go_sem] Oper.semAt_some

theorem op_zero {ds : List Deed} {ps : List Int} {day kn : Int} (hck : checkB ds = true) (hp : personsB ps = true) (hd : withinB day 0 100000 = true) (hk : withinB kn 0 100000 = true) : opErr ds ps day kn = 0 := by
  simp [opErr, daysOk, hck, hp, hd, hk, errI, orL]
theorem law_even {ds : List Deed} {ps : List Int} {day kn : Int} (h : opErr ds ps day kn = 0) (hc : clF (cntDs kn ds) = false) : lawR ds ps day kn = (ansI (witB (cntDs kn ds) ps day true) (witB (cntDs kn ds) ps day false), 0) := by
  unfold lawR
  rw [if_pos h, hc]
  rfl
theorem law_odd {ds : List Deed} {ps : List Int} {day kn : Int} (h : opErr ds ps day kn = 0) (hc : clF (cntDs kn ds) = true) : lawR ds ps day kn = (0, 13) := by
  unfold lawR
  rw [if_pos h, hc]
  rfl
theorem who_zero {ds : List Deed} {lock day kn : Int} (hck : checkB ds = true) (hl : withinB lock 1 3 = true) (hd : withinB day 0 100000 = true) (hk : withinB kn 0 100000 = true) (hc : clF (cntDs kn ds) = false) : whoE ds lock day kn = 0 := by
  have h : whoErr ds lock day kn = 0 := by simp [whoErr, daysOk, hck, hl, hd, hk, errI, orL]
  unfold whoE
  rw [if_pos h, hc]
  rfl
theorem lock_ask {ds : List Deed} {lock person day kn : Int} (hck : checkB ds = true) (hl : withinB lock 1 3 = true) (hp : withinB person 1 99 = true) (hd : withinB day 0 100000 = true) (hk : withinB kn 0 100000 = true) (hc : clF (cntDs kn ds) = false) (nm : Nm) (p : St → Bool) :
    askR ds (lockErr ds lock person day kn) nm day kn p = (askI (thr (cntDs kn ds) nm) day p, 0) := by
  have h : lockErr ds lock person day kn = 0 := by simp [lockErr, daysOk, hck, hl, hp, hd, hk, errI, orL]
  unfold askR
  rw [if_pos h, hc]
  rfl
theorem pers_ask {ds : List Deed} {person day kn : Int} (hck : checkB ds = true) (hp : withinB person 1 99 = true) (hd : withinB day 0 100000 = true) (hk : withinB kn 0 100000 = true) (hc : clF (cntDs kn ds) = false) (nm : Nm) (p : St → Bool) :
    askR ds (persErr ds person day kn) nm day kn p = (askI (thr (cntDs kn ds) nm) day p, 0) := by
  have h : persErr ds person day kn = 0 := by simp [persErr, daysOk, hck, hp, hd, hk, errI, orL]
  unfold askR
  rw [if_pos h, hc]
  rfl
theorem four_cell {W : World} {B : Nat} (h : BoxA W B 3 #[.int .i64 11, .int .i64 12, .int .i64 13, .int .i64 14]) {j : Nat} (hj : j < 4) : W.cell? ⟨B, j, none⟩ = some (.int .i64 (11 + (j : Int))) := by
  rw [h.cell]
  obtain rfl | rfl | rfl | rfl : j = 0 ∨ j = 1 ∨ j = 2 ∨ j = 3 := by omega
  all_goals rfl
theorem ans_cases {can cannot was : Bool} (h : wrongB (ansI can cannot) was = false) : (ansI can cannot = 1 ∧ was = true) ∨ (ansI can cannot = 0 ∧ was = false) ∨ (ansI can cannot = 2 ∧ was = true) ∨ (ansI can cannot = 2 ∧ was = false) := by
  revert h
  revert can cannot was
  decide

set_option maxRecDepth 100000 in
set_option maxHeartbeats 4000000 in
theorem w_KeysTrue (ds : List Deed) (picks ps ys : List Int) (day kn : Int) (A B Ap Ay : Option Addr) (n c m k2 np cp ny cy : Nat) (w : World) (hn : n ≤ 9223372036854775807) (hnc : n ≤ c) (hm : m ≤ 1125899906842624) (hnp : np ≤ 9223372036854775807) (hd : Ds w w.heap.size A n ds) (hpk : Is w w.heap.size B m picks) (hp : Is w w.heap.size Ap np ps) :
    Calls Tryz.prog 8 #[.slice A n c, .slice B m k2, .agg #[.slice Ap np cp, .slice Ay ny cy, .int .i64 day, .int .i64 kn]] w fun e w' => e = .returned (.bool true) ∧ Below w.heap.size w w' := by
  have HD := Lib.hid hd
  have HL := Lib.hid hd.len
  have HPK := Lib.hid hpk
  have HP := Lib.hid hp
  have HPL := Lib.hid hp.len
  obtain ⟨ce, hce⟩ : ∃ z, errI (checkB ds) 11 = z := ⟨_, rfl⟩
  obtain ⟨vk, hvk⟩ : ∃ z, withinB kn 0 100000 = z := ⟨_, rfl⟩
  obtain ⟨vd, hvd⟩ : ∃ z, withinB day 0 100000 = z := ⟨_, rfl⟩
  obtain ⟨vp, hvp⟩ : ∃ z, personsB ps = z := ⟨_, rfl⟩
  have HCE := Lib.hid hce
  have HVK := Lib.hid hvk
  have HVD := Lib.hid hvd
  have HVP := Lib.hid hvp
  clear hd hpk hp hce hvk hvd hvp
  go_enter Tryz.func8, Tryz.ntmps8
  go_wp2_with fail
  refine (r_checkq ds ce _ _ _ _ hn (HD.out.now (by (repeat' (first | with_reducible exact Below.refl _ _ | with_reducible assumption | with_reducible refine Below.alloc ?_ ?_ _ | with_reducible refine Below.setCell ?_ ?_ _ | with_reducible refine Below.drew ?_ | (simp; done) | (simp; omega) | omega)))) HCE.out).mono ?_
  rintro e w1 ⟨rfl, hb1⟩
  have HBO1 := Lib.hid ((BoxA.new w 73 #[.slice Ap np cp, .slice Ay ny cy, .int .i64 day, .int .i64 kn]).ext hb1)
  have HB1 : Below w.heap.size w w1 := Below.then_ (by (repeat' (first | with_reducible exact Below.refl _ _ | with_reducible assumption | with_reducible refine Below.alloc ?_ ?_ _ | with_reducible refine Below.setCell ?_ ?_ _ | with_reducible refine Below.drew ?_ | (simp; done) | (simp; omega) | omega))) hb1
  clear hb1
  have x0 := HBO1.out.cell 0
  have x2 := HBO1.out.cell 2
  have x3 := HBO1.out.cell 3
  cases hck : checkB ds with
  | false =>
    obtain rfl : ce = 11 := by rw [← HCE.out, hck]; rfl
    clear hck
    go_wp2_with fail
    refine (r_sane _).mono ?_
    rintro e w5 ⟨rfl, hb5⟩
    go_wp2_with fail
    go_ret
    exact ⟨rfl, Below.then_ HB1 hb5⟩
  | true =>
  obtain rfl : ce = 0 := by rw [← HCE.out, hck]; rfl
  have HC := Lib.hid hck
  have h60 : n ≤ 60 := by have := check_60 hck; have := HL.out; omega
  clear hck
  go_wp2_with fail
  refine (r_isDayq kn vk _ HVK.out).mono ?_
  rintro e w1' ⟨rfl, rfl⟩
  cases vk with
  | false =>
    go_wp2_with fail
    refine (r_sane _).mono ?_
    rintro e w5 ⟨rfl, hb5⟩
    go_wp2_with fail
    go_ret
    exact ⟨rfl, Below.then_ HB1 hb5⟩
  | true =>
  go_wp2_with fail
  refine (r_isDayq day vd _ HVD.out).mono ?_
  rintro e w1' ⟨rfl, rfl⟩
  cases vd with
  | false =>
    go_wp2_with fail
    refine (r_sane _).mono ?_
    rintro e w5 ⟨rfl, hb5⟩
    go_wp2_with fail
    go_ret
    exact ⟨rfl, Below.then_ HB1 hb5⟩
  | true =>
  go_wp2_with fail
  refine (r_arePersons ps vp _ _ _ _ hnp (HP.out.now HB1) HVP.out).mono ?_
  rintro e w1' ⟨rfl, rfl⟩
  cases vp with
  | false =>
    go_wp2_with fail
    refine (r_sane _).mono ?_
    rintro e w5 ⟨rfl, hb5⟩
    go_wp2_with fail
    go_ret
    exact ⟨rfl, Below.then_ HB1 hb5⟩
  | true =>
  have hnp12 : np ≤ 12 := by
    have h := HVP.out
    unfold personsB at h
    rw [Bool.and_eq_true, decide_eq_true_eq] at h
    have := HPL.out
    omega
  obtain ⟨ev, hev⟩ : ∃ z, clF (cntDs kn ds) = z := ⟨_, rfl⟩
  have HEV := Lib.hid hev
  clear hev
  go_wp2_with fail
  refine (p_Consistent_v ds kn 0 (!ev) _ _ _ _ hn hnc (HD.out.now HB1) (by rw [HC.out, HEV.out]; simp [daysOk, HVK.out]) (by simp [daysOk, HC.out, HVK.out, errI, orL])).mono ?_
  rintro e w2 ⟨rfl, hb2⟩
  have HBO2 := Lib.hid (HBO1.out.ext hb2)
  have HB2 : Below w.heap.size w w2 := Below.then_ HB1 hb2
  clear hb2 x0 x2 x3 HBO1
  have x0 := HBO2.out.cell 0
  have x2 := HBO2.out.cell 2
  have x3 := HBO2.out.cell 3
  have HOP := Lib.hid (op_zero HC.out HVP.out HVD.out HVK.out)
  cases ev with
  | true =>
    go_wp2_with fail
    refine (p_Lawful_v ds ps day kn 0 13 _ _ _ _ _ _ _ hn (HD.out.now HB2) (by omega) (HP.out.now HB2) (law_odd HOP.out HEV.out)).mono ?_
    rintro e w3 ⟨rfl, hb3⟩
    have HB3 : Below w.heap.size w w3 := Below.then_ HB2 hb3
    go_wp2_with fail
    refine (r_sane _).mono ?_
    rintro e w5 ⟨rfl, hb5⟩
    go_wp2_with fail
    go_ret
    exact ⟨rfl, Below.then_ HB3 hb5⟩
  | false =>
  go_wp2_with fail
  refine (r_counting ds kn _ _ _ _ (by omega) (HD.out.now HB2)).mono ?_
  rintro e w3 ⟨A3, c3, rfl, hb3, hd3, _, _⟩
  have HBO3 := Lib.hid (HBO2.out.ext hb3)
  have HB3 : Below w.heap.size w w3 := Below.then_ HB2 hb3
  have HD3 := Lib.hid hd3
  clear hb3 hd3 x0 x2 x3 HBO2
  have hc60 : (cntDs kn ds).length ≤ 60 := by have := cntDs_len kn ds; have := HL.out; omega
  have HOK := Lib.hid (cnt_ok HC.out kn)
  have HTR := Lib.hid (tr_true HOK.out HEV.out picks)
  have HTL := Lib.hid (trN_len (cntDs kn ds) picks (cntDs kn ds).length)
  obtain ⟨xs, hxs⟩ : ∃ xs, trN (cntDs kn ds) picks (cntDs kn ds).length = xs := ⟨_, rfl⟩
  rw [hxs] at HTR HTL
  have HXS := Lib.hid hxs
  clear hxs
  go_wp2_with fail
  refine (r_truth (cntDs kn ds) picks _ _ _ _ _ _ _ (by omega) hm HOK.out HEV.out HD3.out (HPK.out.now HB3)).mono ?_
  rintro e w4 ⟨A4, c4, rfl, hb4, hi4, _⟩
  rw [HXS.out] at hi4
  have HBO4 := Lib.hid (HBO3.out.ext hb4)
  have HB4 : Below w.heap.size w w4 := Below.then_ HB3 hb4
  have HD4 := Lib.hid (HD3.out.now hb4)
  have HI4 := Lib.hid hi4
  clear hb4 hi4 HBO3 HD3
  have x0 := HBO4.out.cell 0
  have x2 := HBO4.out.cell 2
  have x3 := HBO4.out.cell 3
  obtain ⟨was, hwas⟩ : ∃ z, truB (cntDs kn ds) xs ps day = z := ⟨_, rfl⟩
  have hrt := law_right HOK.out HTR.out ps day
  rw [hwas] at hrt
  have hcs := ans_cases hrt
  have hle := law_even HOP.out HEV.out
  obtain ⟨a, ha⟩ : ∃ z, ansI (witB (cntDs kn ds) ps day true) (witB (cntDs kn ds) ps day false) = z := ⟨_, rfl⟩
  rw [ha] at hcs hle
  have HWAS := Lib.hid hwas
  have HCS := Lib.hid hcs
  have HLE := Lib.hid hle
  clear hwas hrt hcs hle ha
  go_wp2_with fail
  refine (p_Lawful_v ds ps day kn a 0 _ _ _ _ _ _ _ hn (HD.out.now HB4) (by omega) (HP.out.now HB4) HLE.out).mono ?_
  rintro e w5 ⟨rfl, hb5⟩
  have HBO5 := Lib.hid (HBO4.out.ext hb5)
  have HB5 : Below w.heap.size w w5 := Below.then_ HB4 hb5
  have HD5 := Lib.hid (HD4.out.now hb5)
  have HI5 := Lib.hid (HI4.out.now hb5)
  clear hb5 HBO4 HD4 HI4 x0 x2 x3
  have x0 := HBO5.out.cell 0
  have x2 := HBO5.out.cell 2
  have x3 := HBO5.out.cell 3
  go_wp2_with fail
  refine (p_True ds ps xs day kn was _ _ _ _ _ _ _ _ _ _ hn (by omega) (by omega) (HD.out.now HB5) (HP.out.now HB5) HI5.out HC.out HVP.out (by simp [daysOk, HVD.out, HVK.out]) HTR.out HWAS.out).mono ?_
  rintro e w6 ⟨rfl, hb6⟩
  have HBO6 := Lib.hid (HBO5.out.ext hb6)
  have HB6 : Below w.heap.size w w6 := Below.then_ HB5 hb6
  have HD6 := Lib.hid (HD5.out.now hb6)
  have HI6 := Lib.hid (HI5.out.now hb6)
  clear hb6 HBO5 HD5 HI5 x0 x2 x3
  have x3 := HBO6.out.cell 3
  go_upto_region 13 with fail
  go_cut [140] (fun c wx => c = .bool false ∧ Below w6.heap.size w6 wx)
  case first =>
    go_wp2_with fail
    refine (p_CheckTrue ds kn 0 0 xs _ _ _ _ _ _ _ hn (by omega) (HD.out.now HB6) HI6.out (by simp [askE, daysOk, HC.out, HVK.out, errI]) (by rw [if_pos rfl, HTR.out]; rfl)).mono ?_
    rintro e w7 ⟨rfl, hb7⟩
    rcases HCS.out with ⟨rfl, rfl⟩ | ⟨rfl, rfl⟩ | ⟨rfl, rfl⟩ | ⟨rfl, rfl⟩
    all_goals
      go_wp2_with fail
      go_meet
      exact ⟨rfl, hb7⟩
  case rest =>
    obtain ⟨rfl, hb7⟩ := hcut
    obtain ⟨w7, rfl⟩ : ∃ w7 : World, w7 = wc := ⟨_, rfl⟩
    have HBO7 := Lib.hid (HBO6.out.ext hb7)
    have HB7 := Lib.hid (Below.then_ HB6 hb7)
    have HD7 := Lib.hid (HD6.out.now hb7)
    have HI7 := Lib.hid (HI6.out.now hb7)
    clear hb7 HBO6 HD6 HI6 x3
    go_wp2_with fail
    go_loopw [17] (fun i wr => ∃ k : Nat, 1 ≤ k ∧ k ≤ 4 ∧ i = .int .i64 k ∧ Below w7.heap.size w7 wr) (fun i _ => 4 - (intOf i).toNat)
    case atStart => exact ⟨1, by omega, by omega, rfl, Below.refl _ _⟩
    case round =>
      obtain ⟨k, hk1, hk4, rfl, hB⟩ := hrel
      obtain ⟨wo, rfl⟩ : ∃ wo : World, wo = wr := ⟨_, rfl⟩
      have HB := Lib.hid hB
      have HBO := Lib.hid (HBO7.out.ext hB)
      have HBW := Lib.hid (Below.then_ HB7.out hB)
      clear hB
      by_cases hlt : k ≤ 3
      · have hlk : withinB (k : Int) 1 3 = true := by simp [withinB]; omega
        have HLK := Lib.hid hlk
        have HWZ := Lib.hid (who_zero HC.out hlk HVD.out HVK.out HEV.out)
        obtain ⟨s, hs⟩ : ∃ s, stT (cntDs kn ds) xs ((k : Int), 0) day = s := ⟨_, rfl⟩
        have hky := key_on HOK.out HTR.out ((k : Int), 0) day
        have hms := stT_sts HOK.out HTR.out ((k : Int), 0) day
        rw [hs] at hky hms
        have HKY := Lib.hid hky
        have HMS := Lib.hid hms
        obtain ⟨l1, hl1⟩ : ∃ z, whoL (·.holder) ds (k : Int) day kn = z := ⟨_, rfl⟩
        obtain ⟨l2, hl2⟩ : ∃ z, whoL (·.hand) ds (k : Int) day kn = z := ⟨_, rfl⟩
        have HN1 := Lib.hid (hl1 ▸ who_has (·.holder) HWZ.out hms)
        have HN2 := Lib.hid (hl2 ▸ who_has (·.hand) HWZ.out hms)
        have n1 : l1.length ≤ 1000000 := by rw [← hl1]; exact Nat.le_trans (whoL_len _ _ _ _ _) (by decide)
        have n2 : l2.length ≤ 1000000 := by rw [← hl2]; exact Nat.le_trans (whoL_len _ _ _ _ _) (by decide)
        have HL1 := Lib.hid hl1
        have HL2 := Lib.hid hl2
        clear hlk hs hky hms hl1 hl2
        have g1 : (k : Int) ≤ 3 := by omega
        have x2 := HBO.out.cell 2
        go_wp2_with fail
        refine (r_KeyOn (cntDs kn ds) xs (k : Int) 0 day 0 (s.holder, s.hand) _ _ _ _ _ _ _ (by omega) (by omega) (Nat.le_refl _) (by omega) HOK.out (HD7.out.now HB.out) (HI7.out.now HB.out) HKY.out).mono ?_
        rintro e w8 ⟨rfl, hb8⟩
        have HB8 := Lib.hid (Below.then_ HBW.out hb8)
        have HT8 := Lib.hid (Below.then_ HB.out hb8)
        have HBO8 := Lib.hid (HBO.out.ext hb8)
        have HBA8 := Lib.hid (HBO8.out.alloc (.cells #[.int .i64 s.holder, .int .i64 s.hand] 81))
        clear hb8 HBO x2
        have x2 := HBA8.out.cell 2
        have x3 := HBA8.out.cell 3
        have hl8 := HBO8.out.lt
        go_wp2_with fail
        refine (p_HoldersL ds (k : Int) day kn 0 l1 _ _ _ _ hn (HD.out.now (HB8.out.alloc HB8.out.size _)) HL1.out HWZ.out).mono ?_
        rintro e w9 ⟨A9, c9, rfl, hb9, hi9, _⟩
        have HB9 := Lib.hid (Below.then_ (HB8.out.alloc HB8.out.size (.cells #[.int .i64 s.holder, .int .i64 s.hand] 81)) hb9)
        have HT9 := Lib.hid (Below.then_ (HT8.out.alloc HT8.out.size (.cells #[.int .i64 s.holder, .int .i64 s.hand] 81)) hb9)
        have HBO9 := Lib.hid (HBA8.out.ext hb9)
        have HKB9 := Lib.hid ((BoxA.new w8 81 #[.int .i64 s.holder, .int .i64 s.hand]).ext hb9)
        have HI9 := Lib.hid hi9
        clear hb9 hi9 x2 x3 HBA8 HBO8
        have x2 := HBO9.out.cell 2
        have x3 := HBO9.out.cell 3
        go_wp2_with fail
        refine (p_HandsL ds (k : Int) day kn 0 l2 _ _ _ _ hn (HD.out.now HB9.out) HL2.out HWZ.out).mono ?_
        rintro e w10 ⟨A10, c10, rfl, hb10, hi10, _⟩
        have HB10 := Lib.hid (Below.then_ HB9.out hb10)
        have HT10 := Lib.hid (Below.then_ HT9.out hb10)
        have HBO10 := Lib.hid (HBO9.out.ext hb10)
        have HKB10 := Lib.hid (HKB9.out.ext hb10)
        have HI9' := Lib.hid (HI9.out.now hb10)
        have HI10 := Lib.hid hi10
        clear hb10 hi10 x2 x3 HBO9 HKB9 HI9
        have y0 := HKB10.out.cell 0
        have y1 := HKB10.out.cell 1
        go_wp2_with fail
        refine (r_Lists l1 s.holder true _ _ _ _ n1 HI9'.out (by simpa using HN1.out)).mono ?_
        rintro e w' ⟨rfl, rfl⟩
        go_wp2_with fail
        refine (r_Lists l2 s.hand true _ _ _ _ n2 HI10.out (by simpa using HN2.out)).mono ?_
        rintro e w' ⟨rfl, rfl⟩
        go_wp2_with fail
        go_loopw [194] (fun i w2 => ∃ j : Nat, j ≤ 4 ∧ i = .int .i64 j ∧ Below w10.heap.size w10 w2 ∧ BoxA w2 w10.heap.size 3 #[.int .i64 11, .int .i64 12, .int .i64 13, .int .i64 14]) (fun i _ => 4 - (intOf i).toNat)
        case atStart => exact ⟨0, by omega, rfl, by (repeat' (first | with_reducible exact Below.refl _ _ | with_reducible assumption | with_reducible refine Below.alloc ?_ ?_ _ | with_reducible refine Below.setCell ?_ ?_ _ | with_reducible refine Below.drew ?_ | (simp; done) | (simp; omega) | omega)), BoxA.new w10 _ _⟩
        case round =>
          obtain ⟨j, hj, rfl, hB2, hbx⟩ := hrel
          obtain ⟨wi, rfl⟩ : ∃ wi : World, wi = wr := ⟨_, rfl⟩
          have HB2 := Lib.hid hB2
          have HBX := Lib.hid hbx
          clear hB2 hbx y0 y1
          by_cases hj4 : j < 4
          · have z0 := four_cell HBX.out hj4
            obtain ⟨p, hp⟩ : ∃ p, 11 + (j : Int) = p := ⟨_, rfl⟩
            have hp99 : withinB p 1 99 = true := by simp [withinB]; omega
            rw [hp] at z0
            obtain ⟨a3, ha3⟩ : ∃ z, askI (thr (cntDs kn ds) ((k : Int), 0)) day (fun s => decide (s.holder = p)) = z := ⟨_, rfl⟩
            obtain ⟨a4, ha4⟩ : ∃ z, askI (thr (cntDs kn ds) ((k : Int), 0)) day (fun s => decide (s.hand = p)) = z := ⟨_, rfl⟩
            have HW3 := Lib.hid (ha3 ▸ ask_right HMS.out (fun s => decide (s.holder = p)))
            have HW4 := Lib.hid (ha4 ▸ ask_right HMS.out (fun s => decide (s.hand = p)))
            have h3 := lock_ask HC.out HLK.out hp99 HVD.out HVK.out HEV.out ((k : Int), 0) (fun s => decide (s.holder = p))
            have h4 := lock_ask HC.out HLK.out hp99 HVD.out HVK.out HEV.out ((k : Int), 0) (fun s => decide (s.hand = p))
            rw [ha3] at h3
            rw [ha4] at h4
            have H3 := Lib.hid h3
            have H4 := Lib.hid h4
            have HBi := Lib.hid (Below.then_ HB10.out HB2.out)
            have HBOi := Lib.hid (HBO10.out.ext HB2.out)
            have HKBi := Lib.hid (HKB10.out.ext HB2.out)
            have hlb := HBX.out.lt
            clear ha3 ha4 h3 h4 hp hp99
            have x2 := HBOi.out.cell 2
            have x3 := HBOi.out.cell 3
            go_wp2_with fail
            refine (p_Holds_v ds (k : Int) p day kn a3 0 _ _ _ _ hn (HD.out.now HBi.out) (by rw [H3.out]) (by rw [H3.out])).mono ?_
            rintro e w11 ⟨rfl, hb11⟩
            have HB11 := Lib.hid (Below.then_ HB2.out hb11)
            have HBi11 := Lib.hid (Below.then_ HBi.out hb11)
            have HBX11 := Lib.hid (HBX.out.ext hb11)
            have HBO11 := Lib.hid (HBOi.out.ext hb11)
            have HKB11 := Lib.hid (HKBi.out.ext hb11)
            clear hb11 x2 x3 z0 HBOi HKBi
            have x2 := HBO11.out.cell 2
            have x3 := HBO11.out.cell 3
            go_wp2_with fail
            refine (p_Has_v ds (k : Int) p day kn a4 0 _ _ _ _ hn (HD.out.now HBi11.out) (by rw [H4.out]) (by rw [H4.out])).mono ?_
            rintro e w12 ⟨rfl, hb12⟩
            have HB12 := Lib.hid (Below.then_ HB11.out hb12)
            have HBX12 := Lib.hid (HBX11.out.ext hb12)
            have HKB12 := Lib.hid (HKB11.out.ext hb12)
            clear hb12 x2 x3 HBO11 HKB11
            have y0 := HKB12.out.cell 0
            have y1 := HKB12.out.cell 1
            go_wp2_with fail
            refine (r_wrong a3 _ false _ HW3.out).mono ?_
            rintro e w' ⟨rfl, rfl⟩
            go_wp2_with fail
            refine (r_wrong a4 _ false _ HW4.out).mono ?_
            rintro e w' ⟨rfl, rfl⟩
            go_wp2_with fail
            go_roundw
            case rel => exact ⟨j + 1, by omega, by go_num, HB12.out, HBX12.out⟩
            case measure => simp [intOf] <;> omega
          · obtain rfl : j = 4 := by omega
            go_wp2_with fail
            go_roundw
            case rel => exact ⟨k + 1, by omega, by omega, by go_num, Below.then_ HT10.out HB2.out⟩
            case measure => simp [intOf] <;> omega
      · obtain rfl : k = 4 := by omega
        go_wp2_with fail
        go_loopw [245] (fun i w2 => ∃ j : Nat, j ≤ 4 ∧ i = .int .i64 j ∧ Below wo.heap.size wo w2 ∧ BoxA w2 wo.heap.size 3 #[.int .i64 11, .int .i64 12, .int .i64 13, .int .i64 14]) (fun i _ => 4 - (intOf i).toNat)
        case atStart => exact ⟨0, by omega, rfl, by (repeat' (first | with_reducible exact Below.refl _ _ | with_reducible assumption | with_reducible refine Below.alloc ?_ ?_ _ | with_reducible refine Below.setCell ?_ ?_ _ | with_reducible refine Below.drew ?_ | (simp; done) | (simp; omega) | omega)), BoxA.new wo _ _⟩
        case round =>
          obtain ⟨j, hj, rfl, hB2, hbx⟩ := hrel
          obtain ⟨wi, rfl⟩ : ∃ wi : World, wi = wr := ⟨_, rfl⟩
          have HB2 := Lib.hid hB2
          have HBX := Lib.hid hbx
          have HBi := Lib.hid (Below.then_ HBW.out hB2)
          have HTi := Lib.hid (Below.then_ HB.out hB2)
          have HBOi := Lib.hid (HBO.out.ext hB2)
          clear hB2 hbx
          by_cases hj4 : j < 4
          · have z0 := four_cell HBX.out hj4
            obtain ⟨p, hp⟩ : ∃ p, 11 + (j : Int) = p := ⟨_, rfl⟩
            have hp99 : withinB p 1 99 = true := by simp [withinB]; omega
            rw [hp] at z0
            obtain ⟨s, hs⟩ : ∃ s, stT (cntDs kn ds) xs (0, p) day = s := ⟨_, rfl⟩
            have hin := in_on HOK.out HTR.out p day
            have hms := stT_sts HOK.out HTR.out (0, p) day
            rw [hs] at hin hms
            have HIN := Lib.hid hin
            obtain ⟨a5, ha5⟩ : ∃ z, askI (thr (cntDs kn ds) (0, p)) day (·.office) = z := ⟨_, rfl⟩
            have HW5 := Lib.hid (ha5 ▸ ask_right hms (·.office))
            have h5 := pers_ask HC.out hp99 HVD.out HVK.out HEV.out (0, p) (·.office)
            rw [ha5] at h5
            have H5 := Lib.hid h5
            have hlb := HBX.out.lt
            clear ha5 h5 hp hp99 hin hms hs
            have x2 := HBOi.out.cell 2
            have x3 := HBOi.out.cell 3
            go_wp2_with fail
            refine (p_InOffice_w ds p day kn a5 0 _ _ _ _ hn (HD.out.now HBi.out) (by rw [H5.out]) (by rw [H5.out])).mono ?_
            rintro e w11 ⟨rfl, hb11⟩
            have HB11 := Lib.hid (Below.then_ HB2.out hb11)
            have HT11 := Lib.hid (Below.then_ HTi.out hb11)
            have HBX11 := Lib.hid (HBX.out.ext hb11)
            have HBO11 := Lib.hid (HBOi.out.ext hb11)
            clear hb11 x2 x3 z0 HBOi
            have x2 := HBO11.out.cell 2
            go_wp2_with fail
            refine (r_InOn (cntDs kn ds) xs 0 p day 0 s.office _ _ _ _ _ _ _ (by omega) (by omega) (Nat.le_refl _) HOK.out (HD7.out.now HT11.out) (HI7.out.now HT11.out) HIN.out).mono ?_
            rintro e w12 ⟨rfl, hb12⟩
            have HB12 := Lib.hid (Below.then_ HB11.out hb12)
            have HBX12 := Lib.hid (HBX11.out.ext hb12)
            clear hb12 x2 HBO11
            go_wp2_with fail
            refine (r_wrong a5 _ false _ HW5.out).mono ?_
            rintro e w' ⟨rfl, rfl⟩
            go_wp2_with fail
            go_roundw
            case rel =>
              refine ⟨_, _, _, _, _, _, _, _, _, _, _, _, _, _, _, _, _, _, _, _, _, _, _, _, _, _, _, _, _, _, _, _, ?_, rfl⟩
              exact ⟨j + 1, by omega, by go_num, HB12.out, HBX12.out⟩
            case measure => simp [intOf] <;> omega
          · obtain rfl : j = 4 := by omega
            go_wp2_with fail
            refine (r_sane _).mono ?_
            rintro e w13 ⟨rfl, hb13⟩
            go_wp2_with fail
            go_ret
            exact ⟨rfl, Below.then_ HBi.out hb13⟩

end Go.Proofs.YtaomfjgleddpdaaGreat
