import Derived.Test.YtaomfjgleddpdaaGreatZ1
import Derived.Test.YtaomfjgleddpdaaGreatM4
import Derived.Test.YtaomfjgleddpdaaGreatM2
import Derived.Test.YtaomfjgleddpdaaGreatN4
set_option linter.unusedVariables false
set_option linter.unusedSimpArgs false

/- KeysChecks: the walk. -/
namespace Go.Proofs.YtaomfjgleddpdaaGreat
open Go.RowKit
attribute [local go_sem] Oper.semAt_some

set_option maxRecDepth 100000 in
theorem r_Add (ds : List Deed) (x : Deed) (zs : List Deed) (err : Int) (A : Option Addr) (n c : Nat) (w : World) (hn : n ≤ 9223372036854775807) (hd : Ds w w.heap.size A n ds) (hz : joinD ds [x] = zs) (he : joinE ds [x] = err) :
    Calls Tryz.prog 14 #[.slice A n c, .agg #[.int .i64 x.par, .int .i64 x.no, .int .i64 x.kind, .int .i64 x.lock, .int .i64 x.person, .int .i64 x.lo, .int .i64 x.hi, .int .i64 x.known, .int .i64 x.til]] w (RetJ zs err w) := by
  have HX := Lib.hid hd
  have HZ := Lib.hid hz
  have HE := Lib.hid he
  clear hd hz he
  go_enter Tryz.func14, Tryz.ntmps14
  go_wp2_with fail
  refine (r_Join ds [x] _ _ _ _ 1 1 _ hn (by decide) (HX.out.now (by (repeat' (first | with_reducible exact Below.refl _ _ | with_reducible assumption | with_reducible refine Below.alloc ?_ ?_ _ | with_reducible refine Below.setCell ?_ ?_ _ | with_reducible refine Below.drew ?_ | (simp; done) | (simp; omega) | omega)))) (Rd.new _ #[.int .i64 x.par, .int .i64 x.no, .int .i64 x.kind, .int .i64 x.lock, .int .i64 x.person, .int .i64 x.lo, .int .i64 x.hi, .int .i64 x.known, .int .i64 x.til] _ 9 1 _ (by simp) rfl)).mono ?_
  rw [HZ.out, HE.out]
  rintro e w1 ⟨A1, c1, rfl, hb1, hd1, hc1⟩
  have HD1 := Lib.hid hd1
  clear hd1
  go_wp2_with fail
  go_ret2
  exact ⟨A1, c1, rfl, Below.then_ (by (repeat' (first | with_reducible exact Below.refl _ _ | with_reducible assumption | with_reducible refine Below.alloc ?_ ?_ _ | with_reducible refine Below.setCell ?_ ?_ _ | with_reducible refine Below.drew ?_ | (simp; done) | (simp; omega) | omega))) hb1, HD1.out, hc1⟩

theorem joinL_len (ms : List Deed) : ∀ L : List Deed, (joinL L ms).2.length ≤ 60 := by
  induction ms with
  | nil =>
    intro L
    rw [joinL]
    split
    · simp
    · rename_i h
      show (srtD L).length ≤ 60
      rw [srt_len]; omega
  | cons d ms ih =>
    intro L
    rw [joinL]
    split
    · split
      · split
        · exact ih L
        · simp
      · exact ih _
    · simp
theorem joinD_len (ds ms : List Deed) : (joinD ds ms).length ≤ 60 := by
  unfold joinD
  split
  · exact joinL_len ms ds
  · simp

def RetD2 (ds : List Deed) (w : World) (e : Ending) (w' : World) : Prop :=
  ∃ xs A c, e = .returned (.tuple #[.slice A xs.length c, .int .i64 (errI (checkB ds) 11)]) ∧ SS xs ∧ (∀ a, a ∈ xs ↔ (checkB ds = true ∧ ∃ d ∈ ds, dateOf d a)) ∧ xs.length ≤ 1000000 ∧ Below w.heap.size w w' ∧ Is w' w'.heap.size A xs.length xs ∧ xs.length ≤ c
theorem retD2_of {ds : List Deed} {w w' : World} {e : Ending} (h : RetDates ds w e w') : RetD2 ds w e w' := by
  obtain ⟨hb, h1, h2⟩ := h
  cases hc : checkB ds with
  | false => exact ⟨[], none, 0, by rw [h1 hc, hc]; rfl, List.Pairwise.nil, by simp [hc], by simp, hb, Rd.nil_, Nat.le_refl _⟩
  | true =>
    obtain ⟨xs, A, c, h3, h4, h5, h6, h7⟩ := h2 hc
    exact ⟨xs, A, c, by rw [h3, hc]; rfl, h4, fun a => by rw [h5 a, hc]; simp, dates_len (checkB_ok hc) h4 h5, hb, h6, h7⟩

set_option maxRecDepth 100000 in
set_option maxHeartbeats 4000000 in
theorem w_KeysChecks (ds : List Deed) (x : Deed) (A : Option Addr) (n c : Nat) (w : World) (hn : n ≤ 9223372036854775807) (hd : Ds w w.heap.size A n ds) :
    Calls Tryz.prog 3 #[.slice A n c, .agg #[.int .i64 x.par, .int .i64 x.no, .int .i64 x.kind, .int .i64 x.lock, .int .i64 x.person, .int .i64 x.lo, .int .i64 x.hi, .int .i64 x.known, .int .i64 x.til]] w fun e w' => e = .returned (.bool true) ∧ Below w.heap.size w w' := by
  have HD := Lib.hid hd
  clear hd
  obtain ⟨zs, hzs⟩ : ∃ z, joinD ds [x] = z := ⟨_, rfl⟩
  obtain ⟨ze, hze⟩ : ∃ z, joinE ds [x] = z := ⟨_, rfl⟩
  obtain ⟨ce, hce⟩ : ∃ z, errI (checkB ds) 11 = z := ⟨_, rfl⟩
  obtain ⟨de, hde⟩ : ∃ z, errI x.okB 10 = z := ⟨_, rfl⟩
  have HZ := Lib.hid hzs
  have HZE := Lib.hid hze
  have HCE := Lib.hid hce
  have HDE := Lib.hid hde
  have hzl : zs.length ≤ 1000000 := by have := joinD_len ds [x]; rw [hzs] at this; omega
  clear hzs hze hce hde
  go_enter Tryz.func3, Tryz.ntmps3
  go_wp2_with fail
  refine (p_Add_v ds x zs ze _ _ _ _ hn (HD.out.now (by (repeat' (first | with_reducible exact Below.refl _ _ | with_reducible assumption | with_reducible refine Below.alloc ?_ ?_ _ | with_reducible refine Below.setCell ?_ ?_ _ | with_reducible refine Below.drew ?_ | (simp; done) | (simp; omega) | omega)))) HZ.out HZE.out).mono ?_
  rintro e w1 ⟨A1, c1, rfl, hb1, hi1, hc1⟩
  have HBX1 := Lib.hid ((BoxA.new w 28 #[.int .i64 x.par, .int .i64 x.no, .int .i64 x.kind, .int .i64 x.lock, .int .i64 x.person, .int .i64 x.lo, .int .i64 x.hi, .int .i64 x.known, .int .i64 x.til]).ext hb1)
  have HB1 : Below w.heap.size w w1 := Below.then_ (by (repeat' (first | with_reducible exact Below.refl _ _ | with_reducible assumption | with_reducible refine Below.alloc ?_ ?_ _ | with_reducible refine Below.setCell ?_ ?_ _ | with_reducible refine Below.drew ?_ | (simp; done) | (simp; omega) | omega))) hb1
  have HI1 := Lib.hid hi1
  clear hb1 hi1 hc1
  obtain ⟨x0, x1, x2, x3, x4, x5, x6, x7, x8⟩ := boxa_nine HBX1.out
  go_wp2_with fail
  refine (r_Add ds x zs ze _ _ _ _ hn (HD.out.now HB1) HZ.out HZE.out).mono ?_
  rintro e w2 ⟨A2, c2, rfl, hb2, hi2, hc2⟩
  have HBX2 := Lib.hid (HBX1.out.ext hb2)
  have HB2 : Below w.heap.size w w2 := Below.then_ HB1 hb2
  have HI12 := Lib.hid (HI1.out.now hb2)
  have HI2 := Lib.hid hi2
  clear hb2 hi2 hc2 HI1 HBX1 x0 x1 x2 x3 x4 x5 x6 x7 x8
  go_wp2_with fail
  refine ((p_Dates ds _ _ _ _ hn (HD.out.now HB2)).mono fun _ _ h => retD2_of h).mono ?_
  rintro e w3 ⟨xs, A3, c3, rfl, hs3, hm3, hl3, hb3, hi3, hc3⟩
  have HBX3 := Lib.hid (HBX2.out.ext hb3)
  have HB3 : Below w.heap.size w w3 := Below.then_ HB2 hb3
  have HI13 := Lib.hid (HI12.out.now hb3)
  have HI23 := Lib.hid (HI2.out.now hb3)
  have HI3 := Lib.hid hi3
  have HS3 := Lib.hid hs3
  have HM3 := Lib.hid hm3
  rw [HCE.out]
  clear hb3 hi3 hc3 hs3 hm3 HI12 HI2 HBX2
  go_wp2_with fail
  refine ((r_Dates ds _ _ _ _ hn (HD.out.now HB3)).mono fun _ _ h => retD2_of h).mono ?_
  rintro e w4 ⟨ys, A4, c4, rfl, hs4, hm4, hl4, hb4, hi4, hc4⟩
  obtain rfl : xs = ys := SS.ext HS3.out hs4 fun a => (HM3.out a).trans (hm4 a).symm
  have HBX4 := Lib.hid (HBX3.out.ext hb4)
  have HB4 : Below w.heap.size w w4 := Below.then_ HB3 hb4
  have HI14 := Lib.hid (HI13.out.now hb4)
  have HI24 := Lib.hid (HI23.out.now hb4)
  have HI34 := Lib.hid (HI3.out.now hb4)
  have HI4 := Lib.hid hi4
  have HD4 := Lib.hid (HD.out.now HB4)
  rw [HCE.out]
  clear hb4 hi4 hc4 hs4 hm4 HI13 HI23 HI3 HBX3 HS3 HM3
  obtain ⟨x0, x1, x2, x3, x4, x5, x6, x7, x8⟩ := boxa_nine HBX4.out
  have hlt := HBX4.out.lt
  go_wp2_with fail
  (refine wp_region_grow (by kernel_rfl) (by kernel_rfl) ?_; (repeat (go_big_quiet_step ((first | (go_at_call_of 17 (Value.slice A1 zs.length c1); exact Calls.grow_all (fun g => r_sameDeeds zs zs true _ _ _ _ _ _ _ hzl hzl (HI14.out.grow g) (HI24.out.grow g) (by simp))) | (go_at_call_of 18 (Value.slice A3 xs.length c3); exact Calls.grow_all (fun g => r_same xs xs true _ _ _ _ _ _ _ hl3 hl3 (HI34.out.grow g) (HI4.out.grow g) (by simp))) | (go_at_call 19; exact Calls.grow_of (HDE.out ▸ p_checkDeed x _)) | (go_at_call 20; exact Calls.grow_of (HDE.out ▸ r_checkDeed x _)) | (go_at_call_of 21 (Value.slice A n c); exact Calls.grow_all (fun g => HCE.out ▸ p_check ds _ _ _ _ hn (HD4.out.grow g))) | (go_at_call_of 22 (Value.slice A n c); exact Calls.grow_all (fun g => r_checkq ds ce _ _ _ _ hn (HD4.out.grow g) HCE.out)) | (go_at_call 23; exact Calls.grow_of (r_sane _)))))); refine wpQuiet_nil ?_; rintro w1 ⟨⟨_, hb1⟩, rfl⟩; (try dsimp only at hb1 ⊢); obtain ⟨hc1, hf1⟩ := bcell hb1)
  go_wp2_with fail
  go_ret
  exact ⟨rfl, Below.then_ HB4 hb1⟩

end Go.Proofs.YtaomfjgleddpdaaGreat
