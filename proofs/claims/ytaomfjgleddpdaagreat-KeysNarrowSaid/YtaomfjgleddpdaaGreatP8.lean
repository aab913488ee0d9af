import Derived.Test.YtaomfjgleddpdaaGreatP7
import Derived.Test.YtaomfjgleddpdaaGreatB9
set_option linter.unusedVariables false
set_option linter.unusedSimpArgs false

/- KeysHolds: the law's walk. -/
namespace Go.Proofs.YtaomfjgleddpdaaGreat
open Go.RowKit
attribute [local go_sem] Oper.semAt_some

theorem p_Holds_v (ds : List Deed) (lock person day kn a err : Int) (A : Option Addr) (n c : Nat) (w : World) (hn : n ≤ 9223372036854775807) (hd : Ds w w.heap.size A n ds) (hv : (askR ds (lockErr ds lock person day kn) (lock, 0) day kn fun s => decide (s.holder = person)).1 = a) (he : (askR ds (lockErr ds lock person day kn) (lock, 0) day kn fun s => decide (s.holder = person)).2 = err) :
    Calls Tryz.prog 42 #[.slice A n c, .int .i64 lock, .int .i64 person, .int .i64 day, .int .i64 kn] w fun e w' => e = .returned (.tuple #[.int .i64 a, .int .i64 err]) ∧ Below w.heap.size w w' := hv ▸ he ▸ p_Holds ds lock person day kn A n c w hn hd
theorem p_Has_v (ds : List Deed) (lock person day kn a err : Int) (A : Option Addr) (n c : Nat) (w : World) (hn : n ≤ 9223372036854775807) (hd : Ds w w.heap.size A n ds) (hv : (askR ds (lockErr ds lock person day kn) (lock, 0) day kn fun s => decide (s.hand = person)).1 = a) (he : (askR ds (lockErr ds lock person day kn) (lock, 0) day kn fun s => decide (s.hand = person)).2 = err) :
    Calls Tryz.prog 44 #[.slice A n c, .int .i64 lock, .int .i64 person, .int .i64 day, .int .i64 kn] w fun e w' => e = .returned (.tuple #[.int .i64 a, .int .i64 err]) ∧ Below w.heap.size w w' := hv ▸ he ▸ p_Has ds lock person day kn A n c w hn hd
theorem p_InOffice_w (ds : List Deed) (person day kn a err : Int) (A : Option Addr) (n c : Nat) (w : World) (hn : n ≤ 9223372036854775807) (hd : Ds w w.heap.size A n ds) (hv : (askR ds (persErr ds person day kn) (0, person) day kn (·.office)).1 = a) (he : (askR ds (persErr ds person day kn) (0, person) day kn (·.office)).2 = err) :
    Calls Tryz.prog 46 #[.slice A n c, .int .i64 person, .int .i64 day, .int .i64 kn] w fun e w' => e = .returned (.tuple #[.int .i64 a, .int .i64 err]) ∧ Below w.heap.size w w' := hv ▸ he ▸ p_InOffice ds person day kn A n c w hn hd
theorem wardL_len (ds : List Deed) (day kn : Int) : (wardL ds day kn).length ≤ 1000000 := by
  unfold wardL
  split
  · have := wardJ_len (cntDs kn ds) day 99
    omega
  · simp

set_option maxRecDepth 100000 in
set_option maxHeartbeats 4000000 in
theorem w_KeysHolds (ds : List Deed) (lock person day kn : Int) (A : Option Addr) (n c : Nat) (w : World) (hn : n ≤ 9223372036854775807) (hd : Ds w w.heap.size A n ds) :
    Calls Tryz.prog 6 #[.slice A n c, .agg #[.int .i64 lock, .int .i64 person, .int .i64 day, .int .i64 kn]] w fun e w' => e = .returned (.bool true) ∧ Below w.heap.size w w' := by
  have HD := Lib.hid hd
  clear hd
  obtain ⟨l1, hl1⟩ : ∃ z, whoL (·.holder) ds lock day kn = z := ⟨_, rfl⟩
  have Hl1 := Lib.hid hl1
  obtain ⟨e1, he1⟩ : ∃ z, whoE ds lock day kn = z := ⟨_, rfl⟩
  have He1 := Lib.hid he1
  obtain ⟨l2, hl2⟩ : ∃ z, whoL (·.hand) ds lock day kn = z := ⟨_, rfl⟩
  have Hl2 := Lib.hid hl2
  obtain ⟨a3, ha3⟩ : ∃ z, (askR ds (lockErr ds lock person day kn) (lock, 0) day kn fun s => decide (s.holder = person)).1 = z := ⟨_, rfl⟩
  have Ha3 := Lib.hid ha3
  obtain ⟨e3, he3⟩ : ∃ z, (askR ds (lockErr ds lock person day kn) (lock, 0) day kn fun s => decide (s.holder = person)).2 = z := ⟨_, rfl⟩
  have He3 := Lib.hid he3
  obtain ⟨a4, ha4⟩ : ∃ z, (askR ds (lockErr ds lock person day kn) (lock, 0) day kn fun s => decide (s.hand = person)).1 = z := ⟨_, rfl⟩
  have Ha4 := Lib.hid ha4
  obtain ⟨e4, he4⟩ : ∃ z, (askR ds (lockErr ds lock person day kn) (lock, 0) day kn fun s => decide (s.hand = person)).2 = z := ⟨_, rfl⟩
  have He4 := Lib.hid he4
  obtain ⟨a5, ha5⟩ : ∃ z, (askR ds (persErr ds person day kn) (0, person) day kn (·.office)).1 = z := ⟨_, rfl⟩
  have Ha5 := Lib.hid ha5
  obtain ⟨e5, he5⟩ : ∃ z, (askR ds (persErr ds person day kn) (0, person) day kn (·.office)).2 = z := ⟨_, rfl⟩
  have He5 := Lib.hid he5
  obtain ⟨l6, hl6⟩ : ∃ z, wardL ds day kn = z := ⟨_, rfl⟩
  have Hl6 := Lib.hid hl6
  obtain ⟨e6, he6⟩ : ∃ z, wardE ds day kn = z := ⟨_, rfl⟩
  have He6 := Lib.hid he6
  have n1 : l1.length ≤ 1000000 := by rw [← hl1]; exact Nat.le_trans (whoL_len _ _ _ _ _) (by decide)
  have n2 : l2.length ≤ 1000000 := by rw [← hl2]; exact Nat.le_trans (whoL_len _ _ _ _ _) (by decide)
  have n6 : l6.length ≤ 1000000 := by rw [← hl6]; exact wardL_len _ _ _
  clear hl1 he1 hl2 ha3 he3 ha4 he4 ha5 he5 hl6 he6
  go_enter Tryz.func6, Tryz.ntmps6
  go_wp2_with fail
  refine (p_HoldersL ds lock day kn e1 l1 _ _ _ _ hn (HD.out.now (by (repeat' (first | with_reducible exact Below.refl _ _ | with_reducible assumption | with_reducible refine Below.alloc ?_ ?_ _ | with_reducible refine Below.setCell ?_ ?_ _ | with_reducible refine Below.drew ?_ | (simp; done) | (simp; omega) | omega)))) Hl1.out He1.out).mono ?_
  rintro e w1 ⟨A1, c1, rfl, hb1, hi1, _⟩
  have HBA1 := Lib.hid ((BoxA.new w 59 #[.int .i64 lock, .int .i64 person, .int .i64 day, .int .i64 kn]).ext hb1)
  have HB1 : Below w.heap.size w w1 := Below.then_ (by (repeat' (first | with_reducible exact Below.refl _ _ | with_reducible assumption | with_reducible refine Below.alloc ?_ ?_ _ | with_reducible refine Below.setCell ?_ ?_ _ | with_reducible refine Below.drew ?_ | (simp; done) | (simp; omega) | omega))) hb1
  have HI1_1 := Lib.hid hi1
  clear hb1 hi1
  have x0 := HBA1.out.cell 0
  have x1 := HBA1.out.cell 1
  have x2 := HBA1.out.cell 2
  have x3 := HBA1.out.cell 3
  go_wp2_with fail
  refine (r_Holders ds lock person day kn e1 l1 _ _ _ _ hn (HD.out.now HB1) Hl1.out He1.out).mono ?_
  rintro e w2 ⟨A2, c2, rfl, hb2, hi2, _⟩
  have HBA2 := Lib.hid (HBA1.out.ext hb2)
  have HB2 : Below w.heap.size w w2 := Below.then_ HB1 hb2
  have HI1_2 := Lib.hid (HI1_1.out.now hb2)
  have HI2_2 := Lib.hid hi2
  clear hb2 hi2 HBA1 HI1_1 x0 x1 x2 x3
  have x0 := HBA2.out.cell 0
  have x1 := HBA2.out.cell 1
  have x2 := HBA2.out.cell 2
  have x3 := HBA2.out.cell 3
  go_wp2_with fail
  refine (p_HandsL ds lock day kn e1 l2 _ _ _ _ hn (HD.out.now HB2) Hl2.out He1.out).mono ?_
  rintro e w3 ⟨A3, c3, rfl, hb3, hi3, _⟩
  have HBA3 := Lib.hid (HBA2.out.ext hb3)
  have HB3 : Below w.heap.size w w3 := Below.then_ HB2 hb3
  have HI1_3 := Lib.hid (HI1_2.out.now hb3)
  have HI2_3 := Lib.hid (HI2_2.out.now hb3)
  have HI3_3 := Lib.hid hi3
  clear hb3 hi3 HBA2 HI1_2 HI2_2 x0 x1 x2 x3
  have x0 := HBA3.out.cell 0
  have x1 := HBA3.out.cell 1
  have x2 := HBA3.out.cell 2
  have x3 := HBA3.out.cell 3
  go_wp2_with fail
  refine (r_Hands ds lock person day kn e1 l2 _ _ _ _ hn (HD.out.now HB3) Hl2.out He1.out).mono ?_
  rintro e w4 ⟨A4, c4, rfl, hb4, hi4, _⟩
  have HBA4 := Lib.hid (HBA3.out.ext hb4)
  have HB4 : Below w.heap.size w w4 := Below.then_ HB3 hb4
  have HI1_4 := Lib.hid (HI1_3.out.now hb4)
  have HI2_4 := Lib.hid (HI2_3.out.now hb4)
  have HI3_4 := Lib.hid (HI3_3.out.now hb4)
  have HI4_4 := Lib.hid hi4
  clear hb4 hi4 HBA3 HI1_3 HI2_3 HI3_3 x0 x1 x2 x3
  have x0 := HBA4.out.cell 0
  have x1 := HBA4.out.cell 1
  have x2 := HBA4.out.cell 2
  have x3 := HBA4.out.cell 3
  go_wp2_with fail
  refine (p_Holds_v ds lock person day kn a3 e3 _ _ _ _ hn (HD.out.now HB4) Ha3.out He3.out).mono ?_
  rintro e w5 ⟨rfl, hb5⟩
  have HBA5 := Lib.hid (HBA4.out.ext hb5)
  have HB5 : Below w.heap.size w w5 := Below.then_ HB4 hb5
  have HI1_5 := Lib.hid (HI1_4.out.now hb5)
  have HI2_5 := Lib.hid (HI2_4.out.now hb5)
  have HI3_5 := Lib.hid (HI3_4.out.now hb5)
  have HI4_5 := Lib.hid (HI4_4.out.now hb5)
  clear hb5 HBA4 HI1_4 HI2_4 HI3_4 HI4_4 x0 x1 x2 x3
  have x0 := HBA5.out.cell 0
  have x1 := HBA5.out.cell 1
  have x2 := HBA5.out.cell 2
  have x3 := HBA5.out.cell 3
  go_wp2_with fail
  refine (r_Holds ds lock person day kn a3 e3 _ _ _ _ hn (HD.out.now HB5) Ha3.out He3.out).mono ?_
  rintro e w6 ⟨rfl, hb6⟩
  have HBA6 := Lib.hid (HBA5.out.ext hb6)
  have HB6 : Below w.heap.size w w6 := Below.then_ HB5 hb6
  have HI1_6 := Lib.hid (HI1_5.out.now hb6)
  have HI2_6 := Lib.hid (HI2_5.out.now hb6)
  have HI3_6 := Lib.hid (HI3_5.out.now hb6)
  have HI4_6 := Lib.hid (HI4_5.out.now hb6)
  clear hb6 HBA5 HI1_5 HI2_5 HI3_5 HI4_5 x0 x1 x2 x3
  have x0 := HBA6.out.cell 0
  have x1 := HBA6.out.cell 1
  have x2 := HBA6.out.cell 2
  have x3 := HBA6.out.cell 3
  go_wp2_with fail
  refine (p_Has_v ds lock person day kn a4 e4 _ _ _ _ hn (HD.out.now HB6) Ha4.out He4.out).mono ?_
  rintro e w7 ⟨rfl, hb7⟩
  have HBA7 := Lib.hid (HBA6.out.ext hb7)
  have HB7 : Below w.heap.size w w7 := Below.then_ HB6 hb7
  have HI1_7 := Lib.hid (HI1_6.out.now hb7)
  have HI2_7 := Lib.hid (HI2_6.out.now hb7)
  have HI3_7 := Lib.hid (HI3_6.out.now hb7)
  have HI4_7 := Lib.hid (HI4_6.out.now hb7)
  clear hb7 HBA6 HI1_6 HI2_6 HI3_6 HI4_6 x0 x1 x2 x3
  have x0 := HBA7.out.cell 0
  have x1 := HBA7.out.cell 1
  have x2 := HBA7.out.cell 2
  have x3 := HBA7.out.cell 3
  go_wp2_with fail
  refine (r_Has ds lock person day kn a4 e4 _ _ _ _ hn (HD.out.now HB7) Ha4.out He4.out).mono ?_
  rintro e w8 ⟨rfl, hb8⟩
  have HBA8 := Lib.hid (HBA7.out.ext hb8)
  have HB8 : Below w.heap.size w w8 := Below.then_ HB7 hb8
  have HI1_8 := Lib.hid (HI1_7.out.now hb8)
  have HI2_8 := Lib.hid (HI2_7.out.now hb8)
  have HI3_8 := Lib.hid (HI3_7.out.now hb8)
  have HI4_8 := Lib.hid (HI4_7.out.now hb8)
  clear hb8 HBA7 HI1_7 HI2_7 HI3_7 HI4_7 x0 x1 x2 x3
  have x0 := HBA8.out.cell 0
  have x1 := HBA8.out.cell 1
  have x2 := HBA8.out.cell 2
  have x3 := HBA8.out.cell 3
  go_wp2_with fail
  refine (p_InOffice_w ds person day kn a5 e5 _ _ _ _ hn (HD.out.now HB8) Ha5.out He5.out).mono ?_
  rintro e w9 ⟨rfl, hb9⟩
  have HBA9 := Lib.hid (HBA8.out.ext hb9)
  have HB9 : Below w.heap.size w w9 := Below.then_ HB8 hb9
  have HI1_9 := Lib.hid (HI1_8.out.now hb9)
  have HI2_9 := Lib.hid (HI2_8.out.now hb9)
  have HI3_9 := Lib.hid (HI3_8.out.now hb9)
  have HI4_9 := Lib.hid (HI4_8.out.now hb9)
  clear hb9 HBA8 HI1_8 HI2_8 HI3_8 HI4_8 x0 x1 x2 x3
  have x0 := HBA9.out.cell 0
  have x1 := HBA9.out.cell 1
  have x2 := HBA9.out.cell 2
  have x3 := HBA9.out.cell 3
  go_wp2_with fail
  refine (r_InOffice ds lock person day kn a5 e5 _ _ _ _ hn (HD.out.now HB9) Ha5.out He5.out).mono ?_
  rintro e w10 ⟨rfl, hb10⟩
  have HBA10 := Lib.hid (HBA9.out.ext hb10)
  have HB10 : Below w.heap.size w w10 := Below.then_ HB9 hb10
  have HI1_10 := Lib.hid (HI1_9.out.now hb10)
  have HI2_10 := Lib.hid (HI2_9.out.now hb10)
  have HI3_10 := Lib.hid (HI3_9.out.now hb10)
  have HI4_10 := Lib.hid (HI4_9.out.now hb10)
  clear hb10 HBA9 HI1_9 HI2_9 HI3_9 HI4_9 x0 x1 x2 x3
  have x0 := HBA10.out.cell 0
  have x1 := HBA10.out.cell 1
  have x2 := HBA10.out.cell 2
  have x3 := HBA10.out.cell 3
  go_wp2_with fail
  refine (p_Wardens ds day kn e6 l6 _ _ _ _ hn (HD.out.now HB10) Hl6.out He6.out).mono ?_
  rintro e w11 ⟨A11, c11, rfl, hb11, hi11, _⟩
  have HBA11 := Lib.hid (HBA10.out.ext hb11)
  have HB11 : Below w.heap.size w w11 := Below.then_ HB10 hb11
  have HI1_11 := Lib.hid (HI1_10.out.now hb11)
  have HI2_11 := Lib.hid (HI2_10.out.now hb11)
  have HI3_11 := Lib.hid (HI3_10.out.now hb11)
  have HI4_11 := Lib.hid (HI4_10.out.now hb11)
  have HI11_11 := Lib.hid hi11
  clear hb11 hi11 HBA10 HI1_10 HI2_10 HI3_10 HI4_10 x0 x1 x2 x3
  have x0 := HBA11.out.cell 0
  have x1 := HBA11.out.cell 1
  have x2 := HBA11.out.cell 2
  have x3 := HBA11.out.cell 3
  go_wp2_with fail
  refine (r_Wardens ds lock person day kn e6 l6 _ _ _ _ hn (HD.out.now HB11) Hl6.out He6.out).mono ?_
  rintro e w12 ⟨A12, c12, rfl, hb12, hi12, _⟩
  have HBA12 := Lib.hid (HBA11.out.ext hb12)
  have HB12 : Below w.heap.size w w12 := Below.then_ HB11 hb12
  have HI1_12 := Lib.hid (HI1_11.out.now hb12)
  have HI2_12 := Lib.hid (HI2_11.out.now hb12)
  have HI3_12 := Lib.hid (HI3_11.out.now hb12)
  have HI4_12 := Lib.hid (HI4_11.out.now hb12)
  have HI11_12 := Lib.hid (HI11_11.out.now hb12)
  have HI12_12 := Lib.hid hi12
  clear hb12 hi12 HBA11 HI1_11 HI2_11 HI3_11 HI4_11 HI11_11 x0 x1 x2 x3
  go_wp2_with fail
  refine (r_same l1 l1 true _ _ _ _ _ _ _ n1 n1 HI1_12.out HI2_12.out (by simp)).mono ?_
  rintro e w13 ⟨rfl, hb13⟩
  have HB13 : Below w.heap.size w w13 := Below.then_ HB12 hb13
  have HI1_13 := Lib.hid (HI1_12.out.now hb13)
  have HI2_13 := Lib.hid (HI2_12.out.now hb13)
  have HI3_13 := Lib.hid (HI3_12.out.now hb13)
  have HI4_13 := Lib.hid (HI4_12.out.now hb13)
  have HI11_13 := Lib.hid (HI11_12.out.now hb13)
  have HI12_13 := Lib.hid (HI12_12.out.now hb13)
  clear hb13 HI1_12 HI2_12 HI3_12 HI4_12 HI11_12 HI12_12
  go_wp2_with fail
  refine (r_same l2 l2 true _ _ _ _ _ _ _ n2 n2 HI3_13.out HI4_13.out (by simp)).mono ?_
  rintro e w14 ⟨rfl, hb14⟩
  have HB14 : Below w.heap.size w w14 := Below.then_ HB13 hb14
  have HI1_14 := Lib.hid (HI1_13.out.now hb14)
  have HI2_14 := Lib.hid (HI2_13.out.now hb14)
  have HI3_14 := Lib.hid (HI3_13.out.now hb14)
  have HI4_14 := Lib.hid (HI4_13.out.now hb14)
  have HI11_14 := Lib.hid (HI11_13.out.now hb14)
  have HI12_14 := Lib.hid (HI12_13.out.now hb14)
  clear hb14 HI1_13 HI2_13 HI3_13 HI4_13 HI11_13 HI12_13
  go_wp2_with fail
  refine (r_same l6 l6 true _ _ _ _ _ _ _ n6 n6 HI11_14.out HI12_14.out (by simp)).mono ?_
  rintro e w15 ⟨rfl, hb15⟩
  have HB15 : Below w.heap.size w w15 := Below.then_ HB14 hb15
  have HI1_15 := Lib.hid (HI1_14.out.now hb15)
  have HI2_15 := Lib.hid (HI2_14.out.now hb15)
  have HI3_15 := Lib.hid (HI3_14.out.now hb15)
  have HI4_15 := Lib.hid (HI4_14.out.now hb15)
  have HI11_15 := Lib.hid (HI11_14.out.now hb15)
  have HI12_15 := Lib.hid (HI12_14.out.now hb15)
  clear hb15 HI1_14 HI2_14 HI3_14 HI4_14 HI11_14 HI12_14
  go_wp2_with fail
  refine (r_sane _).mono ?_
  rintro e w16 ⟨rfl, hb16⟩
  go_wp2_with fail
  go_ret
  exact ⟨rfl, Below.then_ HB15 hb16⟩

end Go.Proofs.YtaomfjgleddpdaaGreat
