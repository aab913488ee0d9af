import Derived.Test.YtaomfjgleddpdaaGreatA2
import Derived.Test.YtaomfjgleddpdaaGreatA5
set_option linter.unusedVariables false
set_option linter.unusedSimpArgs false

/- The reference's SameThread, clash and asked. -/
namespace Go.Proofs.YtaomfjgleddpdaaGreat
open Go.RowKit

def sameTB (a b : Deed) : Bool := if officeB a.kind then officeB b.kind && decide (a.person = b.person) else decide (a.lock = b.lock)
theorem okB_office {d : Deed} (h : d.okB = true) : officeB d.kind = decide (d.lock = 0) := by
  unfold Deed.okB subjB at h
  simp only [Bool.and_eq_true] at h
  have h1 := h.1
  unfold officeB
  by_cases k1 : d.kind = 1
  · simp [k1] at h1 ⊢; exact h1.1
  by_cases k2 : d.kind = 2
  · simp [k2] at h1 ⊢; exact h1.1
  have h2 : ¬ d.lock = 0 := by
    intro e
    simp only [e] at h1
    simp [withinB, k1, k2] at h1
  simp [k1, k2, h2]
theorem same_eq {a b : Deed} (ha : a.okB = true) (hb : b.okB = true) : sameTB a b = sameB a b := by
  unfold sameTB sameB nmLock nmPerson
  rw [okB_office ha, okB_office hb]
  by_cases h1 : a.lock = 0
  · by_cases h2 : b.lock = 0
    · simp [h1, h2]
    · simp only [h1, h2]
      have : ¬ (0 = b.lock) := fun e => h2 e.symm
      simp [this]
  · by_cases h2 : a.lock = b.lock
    · have h3 : ¬ b.lock = 0 := by rw [← h2]; exact h1
      simp [h1, h2, h3]
    · simp [h1, h2]

theorem r_isOffice_v (k : Int) (v : Bool) (w : World) (h : officeB k = v) :
    Calls Tryz.prog 148 #[.int .i64 k] w fun e w' => e = .returned (.bool v) ∧ w = w' := h ▸ r_isOffice k w

set_option maxRecDepth 100000 in
set_option maxHeartbeats 1000000 in
theorem r_sameThread (a b : Deed) (w : World) :
    Calls Tryz.prog 98 #[.agg #[.int .i64 a.par, .int .i64 a.no, .int .i64 a.kind, .int .i64 a.lock, .int .i64 a.person, .int .i64 a.lo, .int .i64 a.hi, .int .i64 a.known, .int .i64 a.til], .agg #[.int .i64 b.par, .int .i64 b.no, .int .i64 b.kind, .int .i64 b.lock, .int .i64 b.person, .int .i64 b.lo, .int .i64 b.hi, .int .i64 b.known, .int .i64 b.til]] w fun e w' => e = .returned (.bool (sameTB a b)) ∧ Below w.heap.size w w' := by
  cases h1 : officeB a.kind with
  | true =>
    have H1 := Lib.hid h1
    clear h1
    cases h2 : officeB b.kind with
    | true =>
      have H2 := Lib.hid h2
      clear h2
      go_enter Tryz.func98, Tryz.ntmps98
      go_wp2_with (first | (go_at_call 148; refine (r_isOffice_v a.kind true _ H1.out).mono ?_; rintro e w1 ⟨rfl, rfl⟩) | (go_at_call 148; refine (r_isOffice_v b.kind true _ H2.out).mono ?_; rintro e w1 ⟨rfl, rfl⟩))
      go_ret
      exact ⟨ret_bool (by rw [sameTB, H1.out, H2.out, Bool.eq_iff_iff]; simp), ((Below.refl _ _).alloc (Nat.le_refl _) _).alloc (by simp) _⟩
    | false =>
      have H2 := Lib.hid h2
      clear h2
      go_enter Tryz.func98, Tryz.ntmps98
      go_wp2_with (first | (go_at_call 148; refine (r_isOffice_v a.kind true _ H1.out).mono ?_; rintro e w1 ⟨rfl, rfl⟩) | (go_at_call 148; refine (r_isOffice_v b.kind false _ H2.out).mono ?_; rintro e w1 ⟨rfl, rfl⟩))
      go_ret
      exact ⟨ret_bool (by rw [sameTB, H1.out, H2.out, Bool.eq_iff_iff]; simp), ((Below.refl _ _).alloc (Nat.le_refl _) _).alloc (by simp) _⟩
  | false =>
    have H1 := Lib.hid h1
    clear h1
    go_enter Tryz.func98, Tryz.ntmps98
    go_wp2_with ((go_at_call 148; refine (r_isOffice_v a.kind false _ H1.out).mono ?_; rintro e w1 ⟨rfl, rfl⟩))
    go_ret
    exact ⟨ret_bool (by rw [sameTB, H1.out, Bool.eq_iff_iff]; simp), ((Below.refl _ _).alloc (Nat.le_refl _) _).alloc (by simp) _⟩
theorem r_sameThread_v (a b : Deed) (v : Bool) (w : World) (h : sameTB a b = v) :
    Calls Tryz.prog 98 #[.agg #[.int .i64 a.par, .int .i64 a.no, .int .i64 a.kind, .int .i64 a.lock, .int .i64 a.person, .int .i64 a.lo, .int .i64 a.hi, .int .i64 a.known, .int .i64 a.til], .agg #[.int .i64 b.par, .int .i64 b.no, .int .i64 b.kind, .int .i64 b.lock, .int .i64 b.person, .int .i64 b.lo, .int .i64 b.hi, .int .i64 b.known, .int .i64 b.til]] w fun e w' => e = .returned (.bool v) ∧ Below w.heap.size w w' := h ▸ r_sameThread a b w

/-- The error of deeds and days. -/
def askE (ds : List Deed) (xs : List Int) : Int := if checkB ds then errI (daysOk xs) 6 else 11
theorem days_all {xs : List Int} {k : Nat} {x : Int} (hk : xs[k]? = some x) (h : withinB x 0 100000 = false) : daysOk xs = false := by
  rw [daysOk, List.all_eq_false]
  exact ⟨x, List.mem_of_getElem? hk, by simp [h]⟩
theorem days_take {xs : List Int} {k : Nat} {x : Int} (hk : xs[k]? = some x) (h : withinB x 0 100000 = true) (ht : daysOk (xs.take k) = true) : daysOk (xs.take (k + 1)) = true := by
  rw [take_snoc_some hk, daysOk, List.all_append]
  unfold daysOk at ht
  rw [ht]
  simp [h]
theorem r_checkq (ds : List Deed) (err : Int) (A : Option Addr) (n c : Nat) (w : World) (hn : n ≤ 9223372036854775807) (hd : Ds w w.heap.size A n ds) (he : errI (checkB ds) 11 = err) :
    Calls Tryz.prog 22 #[.slice A n c] w fun e w' => e = .returned (.int .i64 err) ∧ Below w.heap.size w w' := he ▸ r_check ds A n c w hn hd
theorem r_isDayq (x : Int) (v : Bool) (w : World) (h : withinB x 0 100000 = v) :
    Calls Tryz.prog 54 #[.int .i64 x] w fun e w' => e = .returned (.bool v) ∧ w = w' := h ▸ r_isDay x w

set_option maxHeartbeats 1000000 in
theorem r_asked (ds : List Deed) (xs : List Int) (A B : Option Addr) (n c m d : Nat) (w : World) (hn : n ≤ 9223372036854775807) (hm : m ≤ 1000000) (hd : Ds w w.heap.size A n ds) (hx : Is w w.heap.size B m xs) :
    Calls Tryz.prog 87 #[.slice A n c, .slice B m d] w fun e w' => e = .returned (.int .i64 (askE ds xs)) ∧ Below w.heap.size w w' := by
  have HD := Lib.hid hd
  have HX := Lib.hid hx
  have HLX := Lib.hid hx.len
  clear hd hx
  cases hck : checkB ds with
  | false =>
    have HC := Lib.hid hck
    clear hck
    go_enter Tryz.func87, Tryz.ntmps87
    go_wp2_with fail
    refine (r_checkq ds 11 _ _ _ _ hn HD.out (by rw [HC.out]; rfl)).mono ?_
    rintro e w1 ⟨rfl, hb1⟩
    go_wp2_with fail
    go_ret
    exact ⟨ret_int (by rw [askE, HC.out]; rfl), hb1⟩
  | true =>
    have HC := Lib.hid hck
    clear hck
    go_enter Tryz.func87, Tryz.ntmps87
    go_wp2_with fail
    refine (r_checkq ds 0 _ _ _ _ hn HD.out (by rw [HC.out]; rfl)).mono ?_
    rintro e w1 ⟨rfl, hb1⟩
    have HB1 := Lib.hid hb1
    clear hb1
    go_wp2_with fail
    go_loopw [15] (fun i wr => ∃ k : Nat, k ≤ m ∧ i = .int .i64 k ∧ daysOk (xs.take k) = true ∧ wr = w1) (fun i _ => m - (intOf i).toNat)
    case atStart => exact ⟨0, by omega, rfl, by simp [daysOk], rfl⟩
    case round =>
      obtain ⟨k, hk, rfl, hall, rfl⟩ := hrel
      have HA := Lib.hid hall
      clear hall
      by_cases hlt : k < m
      · obtain ⟨b, o, x, rfl, hb, hxk, hcell⟩ := (HX.out.ext HB1.out (Nat.le_refl _)).at_ hlt
        have HK := Lib.hid hxk
        clear hxk
        cases hw : withinB x 0 100000 with
        | true =>
          have HW := Lib.hid hw
          clear hw
          go_wp2_with (go_at_call 54; refine (r_isDayq x true _ HW.out).mono ?_; rintro e w1 ⟨rfl, rfl⟩)
          go_roundw
          case rel => exact ⟨k + 1, by omega, by go_num, days_take HK.out HW.out HA.out, trivial⟩
          case measure => simp [intOf]; omega
        | false =>
          have HW := Lib.hid hw
          clear hw
          go_wp2_with (go_at_call 54; refine (r_isDayq x false _ HW.out).mono ?_; rintro e w1 ⟨rfl, rfl⟩)
          go_ret
          exact ⟨ret_int (by rw [askE, HC.out, days_all HK.out HW.out]; rfl), HB1.out⟩
      · obtain rfl : k = m := by omega
        go_wp2
        go_ret
        have h1 := HA.out
        rw [List.take_of_length_le (by rw [HLX.out]; exact Nat.le_refl _)] at h1
        exact ⟨ret_int (by rw [askE, HC.out, h1]; rfl), HB1.out⟩
theorem r_asked_v (ds : List Deed) (xs : List Int) (v : Int) (A B : Option Addr) (n c m d : Nat) (w : World) (hn : n ≤ 9223372036854775807) (hm : m ≤ 1000000) (hd : Ds w w.heap.size A n ds) (hx : Is w w.heap.size B m xs) (hv : askE ds xs = v) :
    Calls Tryz.prog 87 #[.slice A n c, .slice B m d] w fun e w' => e = .returned (.int .i64 v) ∧ Below w.heap.size w w' := hv ▸ r_asked ds xs A B n c m d w hn hm hd hx

end Go.Proofs.YtaomfjgleddpdaaGreat

/- The reference's clash. -/
namespace Go.Proofs.YtaomfjgleddpdaaGreat
open Go.RowKit
attribute [local go_sem] Oper.semAt_some

set_option maxRecDepth 100000 in
set_option maxHeartbeats 2000000 in
theorem r_clash (ds : List Deed) (A : Option Addr) (n c : Nat) (w : World) (hn : n ≤ 1000000) (hok : ∀ d ∈ ds, d.okB = true) (hd : Ds w w.heap.size A n ds) :
    Calls Tryz.prog 88 #[.slice A n c] w fun e w' => ∃ i k : Nat, e = .returned (.tuple #[.agg #[.int .i64 i, .int .i64 k], .bool (clF ds)]) ∧ (clF ds = true → i < k ∧ ds[i]? = some (clA ds) ∧ ds[k]? = some (clB ds)) ∧ Below w.heap.size w w' := by
  have HD := Lib.hid hd
  have HL := Lib.hid hd.len
  have HO := Lib.hid hok
  clear hd hok
  go_enter Tryz.func88, Tryz.ntmps88
  go_wp2
  go_loopw [8] (fun i wr => ∃ k : Nat, k ≤ n ∧ i = .int .i64 k ∧ clash (ds.drop k) = clash ds ∧ Below (w.alloc (.cells #[.int .i64 0, .int .i64 0] 41)).heap.size (w.alloc (.cells #[.int .i64 0, .int .i64 0] 41)) wr) (fun i _ => n - (intOf i).toNat)
  case atStart => exact ⟨0, by omega, rfl, rfl, Below.refl _ _⟩
  case round =>
    obtain ⟨k, hk, rfl, hcl, hB⟩ := hrel
    obtain ⟨wo, rfl⟩ : ∃ wo : World, wo = wr := ⟨_, rfl⟩
    have hBw : Below w.heap.size w wo := ((Below.refl _ _).alloc (Nat.le_refl _) _).trans (hB.mono (by simp))
    have hs0 : w.heap.size < wo.heap.size := by have h := hB.size; simp only [World.size_alloc] at h; omega
    have HBX := Lib.hid hB
    have HBW := Lib.hid hBw
    have HCL := Lib.hid hcl
    clear hB hBw hcl
    by_cases hlt : k < n
    · obtain ⟨b, o, d, rfl, hb, hdk, hat⟩ := (HD.out.ext HBW.out (Nat.le_refl _)).at_ hlt
      have HK := Lib.hid hdk
      have HOD := Lib.hid (HO.out d (List.mem_of_getElem? hdk))
      clear hdk hat
      go_wp2_with fail
      go_loopw [5] (fun i w2 => ∃ j : Nat, k + 1 ≤ j ∧ j ≤ n ∧ i = .int .i64 j ∧ ((ds.drop (k + 1)).take (j - (k + 1))).find? (contraB d) = none ∧ Below wo.heap.size wo w2) (fun i _ => n - (intOf i).toNat)
      case atStart => exact ⟨k + 1, by omega, by omega, by go_num, by simp, Below.refl _ _⟩
      case round =>
        obtain ⟨j, hj1, hj2, rfl, hfj, hB2⟩ := hrel
        have HFJ := Lib.hid hfj
        have HB2 := Lib.hid hB2
        have hs2 : wo.heap.size ≤ wr.heap.size := hB2.size
        clear hfj hB2
        have HB3 := Lib.hid (Below.then_ HBW.out HB2.out)
        by_cases hlj : j < n
        · obtain ⟨f, hdj, hat⟩ := (HD.out.ext HB3.out (Nat.le_refl _)).get hlj
          obtain ⟨d', hdk', hat0⟩ := (HD.out.ext HB3.out (Nat.le_refl _)).get hlt
          obtain rfl : d = d' := by have h := HK.out; rw [hdk'] at h; cases h; rfl
          have HJ := Lib.hid hdj
          have HOF := Lib.hid (HO.out f (List.mem_of_getElem? hdj))
          clear hdk' hdj
          have HDJ : Hid ((ds.drop (k + 1))[j - (k + 1)]? = some f) := by show _ = _; rw [List.getElem?_drop, ← HJ.out]; congr 1; omega
          obtain ⟨a0, a1, a2, a3, a4, a5, a6, a7, a8⟩ := hat0
          obtain ⟨p0, p1, p2, p3, p4, p5, p6, p7, p8⟩ := hat
          have hbr : b < wr.heap.size := by omega
          have g1 : (k : Int) < (n : Int) := by omega
          have g2 : (j : Int) < (n : Int) := by omega
          have g3 : ¬ ((k : Int) < 0) := by omega
          have g4 : ¬ ((j : Int) < 0) := by omega
          cases hsm : sameTB d f with
          | false =>
            have HSM := Lib.hid hsm
            have HCT : Hid (contraB d f = false) := by show _ = _; rw [contraB, ← same_eq HOD.out HOF.out, hsm]; rfl
            clear hsm
            go_wp2_with fail
            (refine wp_region_grow (by kernel_rfl) (by kernel_rfl) ?_; (repeat (go_big_quiet_step ((first | (go_at_call 98; exact Calls.grow_of (r_sameThread_v d f false _ HSM.out)))))); refine wpQuiet_nil ?_; rintro w1 ⟨⟨_, hb1⟩, rfl⟩; (try dsimp only at hb1 ⊢); obtain ⟨hc1, hf1⟩ := bcell hb1)
            go_wp2_with fail
            go_roundw
            case rel => exact ⟨j + 1, by omega, by omega, by go_num, by rw [show j + 1 - (k + 1) = (j - (k + 1)) + 1 by omega]; exact find_none_step HDJ.out HCT.out HFJ.out, Below.then_ HB2.out hb1⟩
            case measure => simp [intOf]; omega
          | true =>
            have HSM := Lib.hid hsm
            by_cases hlo : f.hi < d.lo
            · have HCT : Hid (contraB d f = true) := by show _ = _; rw [contraB, ← same_eq HOD.out HOF.out, hsm]; simpa using hlo
              clear hsm
              go_wp2_with fail
              (refine wp_region_grow (by kernel_rfl) (by kernel_rfl) ?_; (repeat (go_big_quiet_step ((first | (go_at_call 98; exact Calls.grow_of (r_sameThread_v d f true _ HSM.out)))))); refine wpQuiet_nil ?_; rintro w1 ⟨⟨_, hb1⟩, rfl⟩; (try dsimp only at hb1 ⊢); obtain ⟨hc1, hf1⟩ := bcell hb1)
              have HB4 := Lib.hid (Below.trans HBX.out ((Below.then_ HB2.out hb1).mono (by simp; omega)))
              have z0 : w1.cell? ⟨w.heap.size, 0, none⟩ = some (.int .i64 0) := by rw [HB4.out.cell (p := ⟨w.heap.size, 0, none⟩) (by simp)]; simp
              have z1 : w1.cell? ⟨w.heap.size, 1, none⟩ = some (.int .i64 0) := by rw [HB4.out.cell (p := ⟨w.heap.size, 1, none⟩) (by simp)]; simp
              have z2 : w1.frozen? ⟨w.heap.size, 0, none⟩ = false := by rw [HB4.out.frozen (p := ⟨w.heap.size, 0, none⟩) (by simp)]; simp
              have z3 : w1.frozen? ⟨w.heap.size, 1, none⟩ = false := by rw [HB4.out.frozen (p := ⟨w.heap.size, 1, none⟩) (by simp)]; simp
              have HB5 := Lib.hid (Below.then_ HB3.out hb1)
              have HCS := Lib.hid (clash_some HK.out (find_some_at HDJ.out HCT.out HFJ.out) HCL.out)
              clear hb1 hc1 hf1 a0 a1 a2 a3 a4 a5 a6 a7 a8 p0 p1 p2 p3 p4 p5 p6 p7 p8
              go_wp2_with fail
              refine bodyPost_ret (v := .tuple #[.agg #[.int .i64 k, .int .i64 j], .bool true]) (by simp [results, Tryz.results88, go_sem, z0, z1, z2, z3]) rfl ⟨k, j, by simp [clF, HCS.out], fun _ => ⟨by omega, by rw [HK.out, clA, HCS.out]; rfl, by rw [HJ.out, clB, HCS.out]; rfl⟩, by have hBw := HB5.out; (repeat' (first | with_reducible exact Below.refl _ _ | with_reducible assumption | with_reducible refine Below.alloc ?_ ?_ _ | with_reducible refine Below.setCell ?_ ?_ _ | with_reducible refine Below.drew ?_ | (simp; done) | (simp; omega) | omega))⟩
            · have HCT : Hid (contraB d f = false) := by show _ = _; rw [contraB, ← same_eq HOD.out HOF.out, hsm]; simpa using hlo
              clear hsm
              go_wp2_with fail
              (refine wp_region_grow (by kernel_rfl) (by kernel_rfl) ?_; (repeat (go_big_quiet_step ((first | (go_at_call 98; exact Calls.grow_of (r_sameThread_v d f true _ HSM.out)))))); refine wpQuiet_nil ?_; rintro w1 ⟨⟨_, hb1⟩, rfl⟩; (try dsimp only at hb1 ⊢); obtain ⟨hc1, hf1⟩ := bcell hb1)
              go_wp2_with fail
              go_roundw
              case rel => exact ⟨j + 1, by omega, by omega, by go_num, by rw [show j + 1 - (k + 1) = (j - (k + 1)) + 1 by omega]; exact find_none_step HDJ.out HCT.out HFJ.out, Below.then_ HB2.out hb1⟩
              case measure => simp [intOf]; omega
        · have hfn : (ds.drop (k + 1)).find? (contraB d) = none := by
            have h1 := HFJ.out
            rwa [List.take_of_length_le (by rw [List.length_drop, HL.out]; omega)] at h1
          have HN := Lib.hid (clash_none HK.out hfn HCL.out)
          clear hfn
          go_wp2_with fail
          go_roundw
          case rel => exact ⟨k + 1, by omega, by go_num, HN.out, Below.trans HBX.out (HB2.out.mono (by simp; omega))⟩
          case measure => simp [intOf]; omega
    · obtain rfl : k = n := by omega
      have HNO : Hid (clash ds = none) := by
        show _ = _
        rw [← HCL.out, List.drop_eq_nil_of_le (by rw [HL.out]; omega)]
        rfl
      have z0 : wo.cell? ⟨w.heap.size, 0, none⟩ = some (.int .i64 0) := by rw [HBX.out.cell (p := ⟨w.heap.size, 0, none⟩) (by simp)]; simp
      have z1 : wo.cell? ⟨w.heap.size, 1, none⟩ = some (.int .i64 0) := by rw [HBX.out.cell (p := ⟨w.heap.size, 1, none⟩) (by simp)]; simp
      have z2 : wo.frozen? ⟨w.heap.size, 0, none⟩ = false := by rw [HBX.out.frozen (p := ⟨w.heap.size, 0, none⟩) (by simp)]; simp
      have z3 : wo.frozen? ⟨w.heap.size, 1, none⟩ = false := by rw [HBX.out.frozen (p := ⟨w.heap.size, 1, none⟩) (by simp)]; simp
      go_wp2_with fail
      refine bodyPost_ret (v := .tuple #[.agg #[.int .i64 0, .int .i64 0], .bool false]) (by simp [results, Tryz.results88, go_sem, z0, z1, z2, z3]) rfl ⟨0, 0, by simp [clF, HNO.out], fun h => by simp [clF, HNO.out] at h, by have hBw := HBW.out; (repeat' (first | with_reducible exact Below.refl _ _ | with_reducible assumption | with_reducible refine Below.alloc ?_ ?_ _ | with_reducible refine Below.setCell ?_ ?_ _ | with_reducible refine Below.drew ?_ | (simp; done) | (simp; omega) | omega))⟩

end Go.Proofs.YtaomfjgleddpdaaGreat

/- The reference's Consistent and Conflict. -/
namespace Go.Proofs.YtaomfjgleddpdaaGreat
open Go.RowKit
attribute [local go_sem] Oper.semAt_some

theorem askE_or (ds : List Deed) (xs : List Int) : orL [errI (checkB ds) 11, errI (daysOk xs) 6] = askE ds xs := by
  unfold askE
  cases checkB ds <;> cases daysOk xs <;> rfl
theorem ask_err {ds : List Deed} {xs : List Int} {v : Int} (h : askE ds xs = v) (h0 : v ≠ 0) : (checkB ds && daysOk xs) = false := by
  cases hc : checkB ds with
  | false => rfl
  | true => cases hd : daysOk xs with
    | false => rfl
    | true => exact absurd (by rw [← h, askE, hc, hd]; rfl) h0
theorem ask_ok {ds : List Deed} {xs : List Int} (h : askE ds xs = 0) : checkB ds = true ∧ daysOk xs = true := or2_eq (by rw [askE_or, h])

set_option maxRecDepth 100000 in
set_option maxHeartbeats 2000000 in
theorem r_Consistent_v (ds : List Deed) (kn err : Int) (v : Bool) (A : Option Addr) (n c : Nat) (w : World) (hn : n ≤ 9223372036854775807) (hd : Ds w w.heap.size A n ds) (hv : (checkB ds && daysOk [kn] && !clF (cntDs kn ds)) = v) (he : askE ds [kn] = err) :
    Calls Tryz.prog 28 #[.slice A n c, .int .i64 kn] w fun e w' => e = .returned (.tuple #[.bool v, .int .i64 err]) ∧ Below w.heap.size w w' := by
  have HD := Lib.hid hd
  have HL := Lib.hid hd.len
  have HV := Lib.hid hv
  have HE := Lib.hid he
  clear hd hv he
  by_cases h0 : err = 0
  · subst h0
    have H60 := Lib.hid (check_60 (ask_ok HE.out).1)
    have h60 : n ≤ 60 := by have := H60.out; have := HL.out; omega
    have HOK := Lib.hid (cnt_ok (ask_ok HE.out).1 kn)
    have HC60 : Hid ((cntDs kn ds).length ≤ 60) := by show _ ≤ _; have := cntDs_len kn ds; have := H60.out; omega
    go_enter Tryz.func28, Tryz.ntmps28
    go_wp2_with fail
    refine (r_asked_v ds [kn] 0 _ _ _ _ _ _ _ hn (by decide) (HD.out.now (by (repeat' (first | with_reducible exact Below.refl _ _ | with_reducible assumption | with_reducible refine Below.alloc ?_ ?_ _ | with_reducible refine Below.setCell ?_ ?_ _ | with_reducible refine Below.drew ?_ | (simp; done) | (simp; omega) | omega)))) (Rd.new w #[.int .i64 kn] 3 1 1 _ rfl rfl) HE.out).mono ?_
    rintro e w1 ⟨rfl, hb1⟩
    have HB1 : Below w.heap.size w w1 := Below.then_ (by (repeat' (first | with_reducible exact Below.refl _ _ | with_reducible assumption | with_reducible refine Below.alloc ?_ ?_ _ | with_reducible refine Below.setCell ?_ ?_ _ | with_reducible refine Below.drew ?_ | (simp; done) | (simp; omega) | omega))) hb1
    clear hb1
    go_wp2_with fail
    refine (r_counting ds kn _ _ _ _ (by omega) (HD.out.now HB1)).mono ?_
    rintro e w2 ⟨A2, c2, rfl, hb2, hd2, _, _⟩
    have HB2 : Below w.heap.size w w2 := Below.then_ HB1 hb2
    have HD2 := Lib.hid hd2
    clear hb2 hd2
    go_wp2_with fail
    refine (r_clash (cntDs kn ds) _ _ _ _ (by have := HC60.out; omega) HOK.out HD2.out).mono ?_
    rintro e w3 ⟨i, k, rfl, _, hb3⟩
    have HB3 : Below w.heap.size w w3 := Below.then_ HB2 hb3
    have hs3 := HB3.size
    obtain ⟨cl, hcl⟩ : ∃ cl, clF (cntDs kn ds) = cl := ⟨_, rfl⟩
    have HR : Hid ((!cl) = v) := by show _ = _; have h1 := HV.out; rw [(ask_ok HE.out).1, (ask_ok HE.out).2, hcl] at h1; simpa using h1
    rw [hcl]
    go_wp2_with fail
    go_ret2
    exact ⟨by rw [← HR.out]; rfl, by (repeat' (first | with_reducible exact Below.refl _ _ | with_reducible assumption | with_reducible refine Below.alloc ?_ ?_ _ | with_reducible refine Below.setCell ?_ ?_ _ | with_reducible refine Below.drew ?_ | (simp; done) | (simp; omega) | omega))⟩
  · have h1 : (err != 0) = true := by simpa using h0
    have HR : Hid (v = false) := by show _ = _; rw [← HV.out, ask_err HE.out h0]; rfl
    clear h0
    go_enter Tryz.func28, Tryz.ntmps28
    go_wp2_with fail
    refine (r_asked_v ds [kn] err _ _ _ _ _ _ _ hn (by decide) (HD.out.now (by (repeat' (first | with_reducible exact Below.refl _ _ | with_reducible assumption | with_reducible refine Below.alloc ?_ ?_ _ | with_reducible refine Below.setCell ?_ ?_ _ | with_reducible refine Below.drew ?_ | (simp; done) | (simp; omega) | omega)))) (Rd.new w #[.int .i64 kn] 3 1 1 _ rfl rfl) HE.out).mono ?_
    rintro e w1 ⟨rfl, hb1⟩
    have HB1 : Below w.heap.size w w1 := Below.then_ (by (repeat' (first | with_reducible exact Below.refl _ _ | with_reducible assumption | with_reducible refine Below.alloc ?_ ?_ _ | with_reducible refine Below.setCell ?_ ?_ _ | with_reducible refine Below.drew ?_ | (simp; done) | (simp; omega) | omega))) hb1
    go_wp2_with fail
    go_ret2
    exact ⟨by rw [HR.out]; rfl, HB1⟩

set_option maxRecDepth 100000 in
set_option maxHeartbeats 2000000 in
theorem r_Conflict (ds : List Deed) (kn err : Int) (A : Option Addr) (n c : Nat) (w : World) (hn : n ≤ 9223372036854775807) (hd : Ds w w.heap.size A n ds) (he : askE ds [kn] = err) :
    Calls Tryz.prog 30 #[.slice A n c, .int .i64 kn] w (RetIts (cfRes err (cntDs kn ds)) (cfErr err (cntDs kn ds)) w) := by
  have HD := Lib.hid hd
  have HL := Lib.hid hd.len
  have HE := Lib.hid he
  clear hd he
  by_cases h0 : err = 0
  · subst h0
    have H60 := Lib.hid (check_60 (ask_ok HE.out).1)
    have h60 : n ≤ 60 := by have := H60.out; have := HL.out; omega
    have HOK := Lib.hid (cnt_ok (ask_ok HE.out).1 kn)
    have HC60 : Hid ((cntDs kn ds).length ≤ 60) := by show _ ≤ _; have := cntDs_len kn ds; have := H60.out; omega
    go_enter Tryz.func30, Tryz.ntmps30
    go_wp2_with fail
    refine (r_asked_v ds [kn] 0 _ _ _ _ _ _ _ hn (by decide) (HD.out.now (by (repeat' (first | with_reducible exact Below.refl _ _ | with_reducible assumption | with_reducible refine Below.alloc ?_ ?_ _ | with_reducible refine Below.setCell ?_ ?_ _ | with_reducible refine Below.drew ?_ | (simp; done) | (simp; omega) | omega)))) (Rd.new w #[.int .i64 kn] 3 1 1 _ rfl rfl) HE.out).mono ?_
    rintro e w1 ⟨rfl, hb1⟩
    have HB1 : Below w.heap.size w w1 := Below.then_ (by (repeat' (first | with_reducible exact Below.refl _ _ | with_reducible assumption | with_reducible refine Below.alloc ?_ ?_ _ | with_reducible refine Below.setCell ?_ ?_ _ | with_reducible refine Below.drew ?_ | (simp; done) | (simp; omega) | omega))) hb1
    clear hb1
    go_wp2_with fail
    refine (r_counting ds kn _ _ _ _ (by omega) (HD.out.now HB1)).mono ?_
    rintro e w2 ⟨A2, c2, rfl, hb2, hd2, _, _⟩
    have HB2 : Below w.heap.size w w2 := Below.then_ HB1 hb2
    have HD2 := Lib.hid hd2
    clear hb2 hd2
    go_wp2_with fail
    refine (r_clash (cntDs kn ds) _ _ _ _ (by have := HC60.out; omega) HOK.out HD2.out).mono ?_
    rintro e w3 ⟨i, k, rfl, hik, hb3⟩
    have HB3 : Below w.heap.size w w3 := Below.then_ HB2 hb3
    have hs3 := HB3.size
    have HD3 := Lib.hid ((HD2.out.now hb3).alloc (Nat.le_refl _) (.cells #[.int .i64 i, .int .i64 k] 41))
    clear hb3
    cases hcl : clF (cntDs kn ds) with
    | false =>
      have h1 : cfRes 0 (cntDs kn ds) = [] := by
        have h0 : clash (cntDs kn ds) = none := by simpa [clF] using hcl
        rw [cfRes, if_pos rfl, cfIts, h0]
      have h2 : cfErr 0 (cntDs kn ds) = 14 := by rw [cfErr, if_pos rfl, hcl]; rfl
      have H1 := Lib.hid h1
      have H2 := Lib.hid h2
      clear hik h1 h2 hcl
      go_wp2_with fail
      go_ret2
      rw [H1.out, H2.out]
      exact ⟨none, 0, rfl, by (repeat' (first | with_reducible exact Below.refl _ _ | with_reducible assumption | with_reducible refine Below.alloc ?_ ?_ _ | with_reducible refine Below.setCell ?_ ?_ _ | with_reducible refine Below.drew ?_ | (simp; done) | (simp; omega) | omega)), Rd.nil_, Nat.le_refl _⟩
    | true =>
      obtain ⟨hlt, hi, hk⟩ := hik hcl
      have hil := (List.getElem?_eq_some_iff.1 hi).1
      have hkl := (List.getElem?_eq_some_iff.1 hk).1
      obtain ⟨b, o, x, rfl, hb, hx, hat⟩ := HD3.out.at_ hil
      obtain ⟨y, hy, hat2⟩ := HD3.out.get hkl
      obtain ⟨a0, a1, _, _, _, _, _, _, _⟩ := hat
      obtain ⟨p0, p1, _, _, _, _, _, _, _⟩ := hat2
      have h1 : cfRes 0 (cntDs kn ds) = [(x.par, x.no), (y.par, y.no)] := by
        rw [hi] at hx
        rw [hk] at hy
        cases hx
        cases hy
        obtain ⟨z, hz⟩ : ∃ z, clash (cntDs kn ds) = some z := by rw [clF, Option.isSome_iff_exists] at hcl; exact hcl
        rw [cfRes, if_pos rfl, cfIts, clA, clB, hz]
        rfl
      have h2 : cfErr 0 (cntDs kn ds) = 0 := by rw [cfErr, if_pos rfl, hcl]; rfl
      have H1 := Lib.hid h1
      have H2 := Lib.hid h2
      have g1 : (i : Int) < ((cntDs kn ds).length : Int) := by omega
      have g2 : (k : Int) < ((cntDs kn ds).length : Int) := by omega
      have g3 : ¬ ((i : Int) < 0) := by omega
      have g4 : ¬ ((k : Int) < 0) := by omega
      clear hik h1 h2 hcl hi hk hx hy
      go_wp2_with fail
      refine wp_still_tail 12 (by kernel_rfl) (by kernel_rfl) ?_
      simp only [List.take_succ_cons, List.take_zero, List.drop_succ_cons, List.drop_zero]
      repeat still_step
      refine wpStill_nil ?_
      go_wp2_with fail
      go_ret2
      rw [H1.out, H2.out]
      exact ⟨_, 2, rfl, by (repeat' (first | with_reducible exact Below.refl _ _ | with_reducible assumption | with_reducible refine Below.alloc ?_ ?_ _ | with_reducible refine Below.setCell ?_ ?_ _ | with_reducible refine Below.drew ?_ | (simp; done) | (simp; omega) | omega)), Rd.new _ #[_, _, _, _] _ 2 2 _ (by simp) rfl, Nat.le_refl _⟩
  · have h1 : (err != 0) = true := by simpa using h0
    have HR : Hid (cfRes err (cntDs kn ds) = []) := by show _ = _; rw [cfRes, if_neg h0]
    have HS : Hid (cfErr err (cntDs kn ds) = err) := by show _ = _; rw [cfErr, if_neg h0]
    clear h0
    go_enter Tryz.func30, Tryz.ntmps30
    go_wp2_with fail
    refine (r_asked_v ds [kn] err _ _ _ _ _ _ _ hn (by decide) (HD.out.now (by (repeat' (first | with_reducible exact Below.refl _ _ | with_reducible assumption | with_reducible refine Below.alloc ?_ ?_ _ | with_reducible refine Below.setCell ?_ ?_ _ | with_reducible refine Below.drew ?_ | (simp; done) | (simp; omega) | omega)))) (Rd.new w #[.int .i64 kn] 3 1 1 _ rfl rfl) HE.out).mono ?_
    rintro e w1 ⟨rfl, hb1⟩
    have HB1 : Below w.heap.size w w1 := Below.then_ (by (repeat' (first | with_reducible exact Below.refl _ _ | with_reducible assumption | with_reducible refine Below.alloc ?_ ?_ _ | with_reducible refine Below.setCell ?_ ?_ _ | with_reducible refine Below.drew ?_ | (simp; done) | (simp; omega) | omega))) hb1
    go_wp2_with fail
    go_ret2
    rw [HR.out, HS.out]
    exact ⟨none, 0, rfl, HB1, Rd.nil_, Nat.le_refl _⟩

end Go.Proofs.YtaomfjgleddpdaaGreat

/- The reference's areTrue and CheckTrue. -/
namespace Go.Proofs.YtaomfjgleddpdaaGreat
open Go.RowKit
attribute [local go_sem] Oper.semAt_some

/-- No deed ahead of the i-th one, of its thread, is later. -/
def aheadB (c : List Deed) (xs : List Int) (d : Deed) (x : Int) (k : Nat) : Bool := match c[k]?, xs[k]? with
  | some e, some y => !(sameB e d) || decide (y ≤ x)
  | _, _ => true
def trAtB (c : List Deed) (xs : List Int) (i : Nat) : Bool := match c[i]?, xs[i]? with
  | some d, some x => withinB x d.lo d.hi && (List.range i).all (aheadB c xs d x)
  | _, _ => false
/-- Days that are true ones of deeds that count. -/
def trueB (c : List Deed) (xs : List Int) : Bool := decide (xs.length = c.length) && (List.range c.length).all (trAtB c xs)
theorem range_snoc {p : Nat → Bool} {k : Nat} (h : (List.range k).all p = true) (hk : p k = true) : (List.range (k + 1)).all p = true := by
  rw [List.range_succ, List.all_append, h, List.all_cons, hk]
  rfl
theorem range_false {p : Nat → Bool} {k n : Nat} (hk : k < n) (h : p k = false) : (List.range n).all p = false := by
  rw [List.all_eq_false]
  exact ⟨k, by simpa using hk, by simp [h]⟩
theorem Is.get {w : World} {B n b o : Nat} {xs : List Int} (h : Is w B (some ⟨b, o, none⟩) n xs) {k : Nat} (hk : k < n) : ∃ x, xs[k]? = some x ∧ w.cell? ⟨b, o + k, none⟩ = some (.int .i64 x) := by
  obtain ⟨b', o', x, e, _, hx, hc⟩ := h.at_ hk
  obtain ⟨rfl, rfl⟩ : b = b' ∧ o = o' := by simpa using e
  exact ⟨x, hx, hc⟩
theorem r_withinq (n lo hi : Int) (v : Bool) (w : World) (h : withinB n lo hi = v) :
    Calls Tryz.prog 74 #[.int .i64 n, .int .i64 lo, .int .i64 hi] w fun e w' => e = .returned (.bool v) ∧ w = w' := h ▸ r_within n lo hi w

set_option maxRecDepth 100000 in
set_option maxHeartbeats 2000000 in
theorem r_areTrue (ds : List Deed) (xs : List Int) (v : Bool) (A B : Option Addr) (n c m cc : Nat) (w : World) (hn : n ≤ 1000000) (hm : m ≤ 9223372036854775807) (hok : ∀ d ∈ ds, d.okB = true) (hd : Ds w w.heap.size A n ds) (hx : Is w w.heap.size B m xs) (hv : trueB ds xs = v) :
    Calls Tryz.prog 100 #[.slice A n c, .slice B m cc] w fun e w' => e = .returned (.bool v) ∧ Below w.heap.size w w' := by
  have HD := Lib.hid hd
  have HL := Lib.hid hd.len
  have HX := Lib.hid hx
  have HLX := Lib.hid hx.len
  have HO := Lib.hid hok
  have HV := Lib.hid hv
  clear hd hx hok hv
  by_cases hnm : m = n
  · subst hnm
    go_enter Tryz.func100, Tryz.ntmps100
    go_wp2_with fail
    go_loopw [15] (fun i wr => ∃ k : Nat, k ≤ m ∧ i = .int .i64 k ∧ (List.range k).all (trAtB ds xs) = true ∧ Below w.heap.size w wr) (fun i _ => m - (intOf i).toNat)
    case atStart => exact ⟨0, by omega, rfl, rfl, Below.refl _ _⟩
    case round =>
      obtain ⟨k, hk, rfl, hall, hB⟩ := hrel
      obtain ⟨wo, rfl⟩ : ∃ wo : World, wo = wr := ⟨_, rfl⟩
      have hs0 : w.heap.size ≤ wo.heap.size := hB.size
      have HB := Lib.hid hB
      have HA := Lib.hid hall
      clear hB hall
      by_cases hlt : k < m
      · obtain ⟨b, o, d, rfl, hb, hdk, hat⟩ := (HD.out.ext HB.out (Nat.le_refl _)).at_ hlt
        obtain ⟨b2, o2, x, rfl, hb2, hxk, hxc⟩ := (HX.out.ext HB.out (Nat.le_refl _)).at_ hlt
        have HK := Lib.hid hdk
        have HXK := Lib.hid hxk
        have HOD := Lib.hid (HO.out d (List.mem_of_getElem? hdk))
        clear hdk hxk
        obtain ⟨a0, a1, a2, a3, a4, a5, a6, a7, a8⟩ := hat
        have hb3 : b2 < wo.heap.size + 1 := by omega
        have hb4 : wo.heap.size < wo.heap.size + 1 := by omega
        have hb5 : b2 < wo.heap.size := by omega
        have g1 : (k : Int) < (m : Int) := by omega
        have g3 : ¬ ((k : Int) < 0) := by omega
        have HBN := Lib.hid (HB.out.alloc hs0 (.cells #[.int .i64 d.par, .int .i64 d.no, .int .i64 d.kind, .int .i64 d.lock, .int .i64 d.person, .int .i64 d.lo, .int .i64 d.hi, .int .i64 d.known, .int .i64 d.til] 28))
        cases hw : withinB x d.lo d.hi with
        | false =>
          have HW := Lib.hid hw
          have HF : Hid (trAtB ds xs k = false) := by show _ = _; rw [trAtB, HK.out, HXK.out]; simp [hw]
          clear hw
          go_wp2_with fail
          (refine wp_region_grow (by kernel_rfl) (by kernel_rfl) ?_; (repeat (go_big_quiet_step ((first | (go_at_call 74; exact Calls.grow_same (r_withinq x d.lo d.hi false _ HW.out)))))); refine wpQuiet_nil ?_; rintro w1 ⟨⟨_, hb1⟩, rfl⟩; (try dsimp only at hb1 ⊢); obtain ⟨hc1, hf1⟩ := bcell hb1)
          go_wp2_with fail
          go_ret
          exact ⟨ret_bool (by rw [← HV.out, trueB, range_false (by rw [HL.out]; exact hlt) HF.out]; simp), Below.then_ HBN.out hb1⟩
        | true =>
          have HW := Lib.hid hw
          clear hw
          go_wp2_with fail
          (refine wp_region_grow (by kernel_rfl) (by kernel_rfl) ?_; (repeat (go_big_quiet_step ((first | (go_at_call 74; exact Calls.grow_same (r_withinq x d.lo d.hi true _ HW.out)))))); refine wpQuiet_nil ?_; rintro w1 ⟨⟨_, hb1⟩, rfl⟩; (try dsimp only at hb1 ⊢); obtain ⟨hc1, hf1⟩ := bcell hb1)
          have HB4 := Lib.hid (Below.then_ HBN.out hb1)
          have HBD := Lib.hid ((BoxA.new wo 28 #[.int .i64 d.par, .int .i64 d.no, .int .i64 d.kind, .int .i64 d.lock, .int .i64 d.person, .int .i64 d.lo, .int .i64 d.hi, .int .i64 d.known, .int .i64 d.til]).ext hb1)
          obtain ⟨wi, rfl⟩ : ∃ wi : World, wi = w1 := ⟨_, rfl⟩
          have hsi : wo.heap.size < wi.heap.size := HBD.out.lt
          clear hb1 hc1 hf1 a0 a1 a2 a3 a4 a5 a6 a7 a8 hxc HBN
          go_wp2_with fail
          go_loopw [7] (fun i w2 => ∃ j : Nat, j ≤ k ∧ i = .int .i64 j ∧ (List.range j).all (aheadB ds xs d x) = true ∧ Below wi.heap.size wi w2) (fun i _ => k - (intOf i).toNat)
          case atStart => exact ⟨0, by omega, rfl, rfl, Below.refl _ _⟩
          case round =>
            obtain ⟨j, hj, rfl, hfj, hB2⟩ := hrel
            have HFJ := Lib.hid hfj
            have HB2 := Lib.hid hB2
            have hs2 : wi.heap.size ≤ wr.heap.size := hB2.size
            clear hfj hB2
            have HB5 := Lib.hid (Below.then_ HB4.out HB2.out)
            by_cases hlj : j < k
            · have hjm : j < m := by omega
              obtain ⟨e, hej, hat⟩ := (HD.out.ext HB5.out (Nat.le_refl _)).get hjm
              obtain ⟨y, hyj, hyc⟩ := (HX.out.ext HB5.out (Nat.le_refl _)).get hjm
              obtain ⟨x', hxk', hxc⟩ := (HX.out.ext HB5.out (Nat.le_refl _)).get hlt
              obtain rfl : x = x' := by have h := HXK.out; rw [hxk'] at h; cases h; rfl
              have HJ := Lib.hid hej
              have HYJ := Lib.hid hyj
              have HOE := Lib.hid (HO.out e (List.mem_of_getElem? hej))
              clear hej hyj hxk'
              obtain ⟨p0, p1, p2, p3, p4, p5, p6, p7, p8⟩ := hat
              have hBd := HBD.out.ext HB2.out
              have x0 := hBd.cell 0
              have x1 := hBd.cell 1
              have x2 := hBd.cell 2
              have x3 := hBd.cell 3
              have x4 := hBd.cell 4
              have x5 := hBd.cell 5
              have x6 := hBd.cell 6
              have x7 := hBd.cell 7
              have x8 := hBd.cell 8
              clear hBd
              have hbr : b < wr.heap.size := by omega
              have hbr2 : b2 < wr.heap.size := by omega
              have hbr3 : wo.heap.size < wr.heap.size := by omega
              have g2 : (j : Int) < (m : Int) := by omega
              have g4 : ¬ ((j : Int) < 0) := by omega
              cases hsm : sameTB e d with
              | false =>
                have HSM := Lib.hid hsm
                have HAH : Hid (aheadB ds xs d x j = true) := by show _ = _; rw [aheadB, HJ.out, HYJ.out]; simp [← same_eq HOE.out HOD.out, hsm]
                clear hsm
                go_wp2_with fail
                (refine wp_region_grow (by kernel_rfl) (by kernel_rfl) ?_; (repeat (go_big_quiet_step ((first | (go_at_call 98; exact Calls.grow_of (r_sameThread_v e d false _ HSM.out)))))); refine wpQuiet_nil ?_; rintro w1 ⟨⟨_, hb1⟩, rfl⟩; (try dsimp only at hb1 ⊢); obtain ⟨hc1, hf1⟩ := bcell hb1)
                go_wp2_with fail
                go_roundw
                case rel => exact ⟨j + 1, by omega, by go_num, range_snoc HFJ.out HAH.out, Below.then_ HB2.out hb1⟩
                case measure => simp [intOf]; omega
              | true =>
                have HSM := Lib.hid hsm
                by_cases hyx : x < y
                · have HAH : Hid (aheadB ds xs d x j = false) := by show _ = _; rw [aheadB, HJ.out, HYJ.out]; simp [← same_eq HOE.out HOD.out, hsm]; omega
                  clear hsm
                  go_wp2_with fail
                  (refine wp_region_grow (by kernel_rfl) (by kernel_rfl) ?_; (repeat (go_big_quiet_step ((first | (go_at_call 98; exact Calls.grow_of (r_sameThread_v e d true _ HSM.out)))))); refine wpQuiet_nil ?_; rintro w1 ⟨⟨_, hb1⟩, rfl⟩; (try dsimp only at hb1 ⊢); obtain ⟨hc1, hf1⟩ := bcell hb1)
                  go_wp2_with fail
                  go_ret
                  exact ⟨ret_bool (by rw [← HV.out, trueB, range_false (by rw [HL.out]; exact hlt) (show trAtB ds xs k = false by rw [trAtB, HK.out, HXK.out]; simp only [range_false hlj HAH.out, Bool.and_false])]; simp), Below.then_ HB5.out hb1⟩
                · have HAH : Hid (aheadB ds xs d x j = true) := by show _ = _; rw [aheadB, HJ.out, HYJ.out]; simp; right; omega
                  clear hsm
                  go_wp2_with fail
                  (refine wp_region_grow (by kernel_rfl) (by kernel_rfl) ?_; (repeat (go_big_quiet_step ((first | (go_at_call 98; exact Calls.grow_of (r_sameThread_v e d true _ HSM.out)))))); refine wpQuiet_nil ?_; rintro w1 ⟨⟨_, hb1⟩, rfl⟩; (try dsimp only at hb1 ⊢); obtain ⟨hc1, hf1⟩ := bcell hb1)
                  go_wp2_with fail
                  go_roundw
                  case rel => exact ⟨j + 1, by omega, by go_num, range_snoc HFJ.out HAH.out, Below.then_ HB2.out hb1⟩
                  case measure => simp [intOf]; omega
            · obtain rfl : j = k := by omega
              have HF : Hid (trAtB ds xs j = true) := by show _ = _; rw [trAtB, HK.out, HXK.out]; simp only [HW.out, HFJ.out, Bool.and_true]
              go_wp2_with fail
              go_roundw
              case rel => exact ⟨j + 1, by omega, by go_num, range_snoc HA.out HF.out, HB5.out⟩
              case measure => simp [intOf]; omega
      · obtain rfl : k = m := by omega
        go_wp2
        go_ret
        exact ⟨ret_bool (by rw [← HV.out, trueB, HL.out, HLX.out, HA.out]; simp), HB.out⟩
  · have h1 : ((m : Int) != (n : Int)) = true := by simp; omega
    go_enter Tryz.func100, Tryz.ntmps100
    go_wp2
    go_ret
    exact ⟨ret_bool (by rw [← HV.out, trueB, HL.out, HLX.out]; simp [hnm]), Below.refl _ _⟩

set_option maxRecDepth 100000 in
set_option maxHeartbeats 2000000 in
theorem r_CheckTrue (ds : List Deed) (kn err v : Int) (xs : List Int) (A B : Option Addr) (n c m cc : Nat) (w : World) (hn : n ≤ 9223372036854775807) (hm : m ≤ 9223372036854775807) (hd : Ds w w.heap.size A n ds) (hx : Is w w.heap.size B m xs) (he : askE ds [kn] = err) (hv : (if err = 0 then errI (trueB (cntDs kn ds) xs) 17 else err) = v) :
    Calls Tryz.prog 37 #[.slice A n c, .int .i64 kn, .slice B m cc] w fun e w' => e = .returned (.int .i64 v) ∧ Below w.heap.size w w' := by
  have HD := Lib.hid hd
  have HX := Lib.hid hx
  have HL := Lib.hid hd.len
  have HV := Lib.hid hv
  have HE := Lib.hid he
  clear hd hx hv he
  by_cases h0 : err = 0
  · subst h0
    have H60 := Lib.hid (check_60 (ask_ok HE.out).1)
    have h60 : n ≤ 60 := by have := H60.out; have := HL.out; omega
    have HOK := Lib.hid (cnt_ok (ask_ok HE.out).1 kn)
    have HC60 : Hid ((cntDs kn ds).length ≤ 60) := by show _ ≤ _; have := cntDs_len kn ds; have := H60.out; omega
    go_enter Tryz.func37, Tryz.ntmps37
    go_wp2_with fail
    refine (r_asked_v ds [kn] 0 _ _ _ _ _ _ _ hn (by decide) (HD.out.now (by (repeat' (first | with_reducible exact Below.refl _ _ | with_reducible assumption | with_reducible refine Below.alloc ?_ ?_ _ | with_reducible refine Below.setCell ?_ ?_ _ | with_reducible refine Below.drew ?_ | (simp; done) | (simp; omega) | omega)))) (Rd.new w #[.int .i64 kn] 3 1 1 _ rfl rfl) HE.out).mono ?_
    rintro e w1 ⟨rfl, hb1⟩
    have HB1 : Below w.heap.size w w1 := Below.then_ (by (repeat' (first | with_reducible exact Below.refl _ _ | with_reducible assumption | with_reducible refine Below.alloc ?_ ?_ _ | with_reducible refine Below.setCell ?_ ?_ _ | with_reducible refine Below.drew ?_ | (simp; done) | (simp; omega) | omega))) hb1
    clear hb1
    go_wp2_with fail
    refine (r_counting ds kn _ _ _ _ (by omega) (HD.out.now HB1)).mono ?_
    rintro e w2 ⟨A2, c2, rfl, hb2, hd2, _, _⟩
    have HB2 : Below w.heap.size w w2 := Below.then_ HB1 hb2
    have HD2 := Lib.hid hd2
    clear hb2 hd2
    go_wp2_with fail
    obtain ⟨t, ht⟩ : ∃ t, trueB (cntDs kn ds) xs = t := ⟨_, rfl⟩
    refine (r_areTrue (cntDs kn ds) xs t _ _ _ _ _ _ _ (by have := HC60.out; omega) hm HOK.out HD2.out (HX.out.now HB2) ht).mono ?_
    rintro e w3 ⟨rfl, hb3⟩
    have HB3 : Below w.heap.size w w3 := Below.then_ HB2 hb3
    have HR : Hid (errI t 17 = v) := by show _ = _; rw [← HV.out, ht]; simp
    clear ht
    cases t
    · go_wp2_with fail
      go_ret
      exact ⟨by rw [← HR.out]; rfl, HB3⟩
    · go_wp2_with fail
      go_ret
      exact ⟨by rw [← HR.out]; rfl, HB3⟩
  · have h1 : (err != 0) = true := by simpa using h0
    have HR : Hid (err = v) := by show _ = _; rw [← HV.out, if_neg h0]
    clear h0
    go_enter Tryz.func37, Tryz.ntmps37
    go_wp2_with fail
    refine (r_asked_v ds [kn] err _ _ _ _ _ _ _ hn (by decide) (HD.out.now (by (repeat' (first | with_reducible exact Below.refl _ _ | with_reducible assumption | with_reducible refine Below.alloc ?_ ?_ _ | with_reducible refine Below.setCell ?_ ?_ _ | with_reducible refine Below.drew ?_ | (simp; done) | (simp; omega) | omega)))) (Rd.new w #[.int .i64 kn] 3 1 1 _ rfl rfl) HE.out).mono ?_
    rintro e w1 ⟨rfl, hb1⟩
    have HB1 : Below w.heap.size w w1 := Below.then_ (by (repeat' (first | with_reducible exact Below.refl _ _ | with_reducible assumption | with_reducible refine Below.alloc ?_ ?_ _ | with_reducible refine Below.setCell ?_ ?_ _ | with_reducible refine Below.drew ?_ | (simp; done) | (simp; omega) | omega))) hb1
    go_wp2_with fail
    go_ret
    exact ⟨by rw [← HR.out]; rfl, HB1⟩

end Go.Proofs.YtaomfjgleddpdaaGreat
