import Derived.Test.YtaomfjgleddpdaaGreatN3
import Derived.Test.YtaomfjgleddpdaaGreatB9
set_option linter.unusedVariables false
set_option linter.unusedSimpArgs false

/- KeysConflicts: the walk. -/
namespace Go.Proofs.YtaomfjgleddpdaaGreat
open Go.RowKit
attribute [local go_sem] Oper.semAt_some

theorem whenV_agg (ds : List Deed) (kn p q : Int) : ∃ x y : Int, whenV ds kn p q = .agg #[.int .i64 x, .int .i64 y] := by
  unfold whenV
  split
  · exact ⟨_, _, rfl⟩
  · exact ⟨0, 0, rfl⟩
theorem cf_len (v : Int) (ds : List Deed) : (cfRes v ds).length ≤ 2 := by
  unfold cfRes cfIts
  split
  · split <;> simp
  · simp
theorem Is.grow {w : World} {n : Nat} {A : Option Addr} {xs : List Int} (h : Is w w.heap.size A n xs) (g : Grow w) : Is g.1 g.1.heap.size A n xs := Is.now h g.2
theorem Its.grow {w : World} {n : Nat} {A : Option Addr} {l : List (Int × Int)} (h : Its w w.heap.size A n l) (g : Grow w) : Its g.1 g.1.heap.size A n l := Its.now h g.2

set_option maxRecDepth 100000 in
set_option maxHeartbeats 4000000 in
theorem w_KeysConflicts (ds : List Deed) (by_ : List (Int × Int)) (xs : List Int) (p q day kn later : Int) (A Ab Ax : Option Addr) (n c m cb nx cx : Nat) (w : World) (hn : n ≤ 9223372036854775807) (hnc : n ≤ c) (hm : m ≤ 9223372036854775807) (hnx : nx ≤ 9223372036854775807) (hd : Ds w w.heap.size A n ds) (hl : Its w w.heap.size Ab m by_) (hx : Is w w.heap.size Ax nx xs) :
    Calls Tryz.prog 5 #[.slice A n c, .slice Ab m cb, .agg #[.int .i64 p, .int .i64 q, .int .i64 day, .int .i64 kn, .int .i64 later, .slice Ax nx cx]] w fun e w' => e = .returned (.bool true) ∧ Below w.heap.size w w' := by
  have HD := Lib.hid hd
  have HI := Lib.hid hl
  have HX := Lib.hid hx
  clear hd hl hx
  obtain ⟨err, herr⟩ : ∃ e, askE ds [kn] = e := ⟨_, rfl⟩
  have HE := Lib.hid herr
  have HO : Hid (orL [errI (checkB ds) 11, errI (daysOk [kn]) 6] = err) := by show _ = _; rw [askE_or]; exact herr
  obtain ⟨v, hv⟩ : ∃ v, (checkB ds && daysOk [kn] && !clF (cntDs kn ds)) = v := ⟨_, rfl⟩
  have HV := Lib.hid hv
  obtain ⟨cl, hcl⟩ : ∃ l, cfRes err (cntDs kn ds) = l := ⟨_, rfl⟩
  have HCL := Lib.hid hcl
  have hcl2 : cl.length ≤ 2 := by rw [← hcl]; exact cf_len _ _
  obtain ⟨ce, hce⟩ : ∃ l, cfErr err (cntDs kn ds) = l := ⟨_, rfl⟩
  have HCE := Lib.hid hce
  obtain ⟨wx, wy, hw⟩ := whenV_agg ds kn p q
  have HW := Lib.hid hw
  obtain ⟨we, hwe⟩ : ∃ l, whenE ds kn p q = l := ⟨_, rfl⟩
  have HWE := Lib.hid hwe
  obtain ⟨cc, hcc⟩ : ∃ l, ccErr err (cntDs kn ds) by_ = l := ⟨_, rfl⟩
  have HCC := Lib.hid hcc
  obtain ⟨tt, htt⟩ : ∃ l, (if err = 0 then errI (trueB (cntDs kn ds) xs) 17 else err) = l := ⟨_, rfl⟩
  have HTT := Lib.hid htt
  clear herr hv hcl hce hw hwe hcc htt
  go_enter Tryz.func5, Tryz.ntmps5
  go_wp2_with fail
  refine (p_Consistent_v ds kn err v _ _ _ _ hn hnc (HD.out.now (by (repeat' (first | with_reducible exact Below.refl _ _ | with_reducible assumption | with_reducible refine Below.alloc ?_ ?_ _ | with_reducible refine Below.setCell ?_ ?_ _ | with_reducible refine Below.drew ?_ | (simp; done) | (simp; omega) | omega)))) HV.out HO.out).mono ?_
  rintro e w1 ⟨rfl, hb1⟩
  have HBA1 := Lib.hid ((BoxA.new w 47 #[.int .i64 p, .int .i64 q, .int .i64 day, .int .i64 kn, .int .i64 later, .slice Ax nx cx]).ext hb1)
  have HB1 : Below w.heap.size w w1 := Below.then_ (by (repeat' (first | with_reducible exact Below.refl _ _ | with_reducible assumption | with_reducible refine Below.alloc ?_ ?_ _ | with_reducible refine Below.setCell ?_ ?_ _ | with_reducible refine Below.drew ?_ | (simp; done) | (simp; omega) | omega))) hb1
  clear hb1
  have x3 := HBA1.out.cell 3
  go_wp2_with fail
  refine (r_Consistent_v ds kn err v _ _ _ _ hn (HD.out.now HB1) HV.out HE.out).mono ?_
  rintro e w2 ⟨rfl, hb2⟩
  have HBA2 := Lib.hid (HBA1.out.ext hb2)
  have HB2 : Below w.heap.size w w2 := Below.then_ HB1 hb2
  clear hb2 HBA1 x3
  have x3 := HBA2.out.cell 3
  go_wp2_with fail
  refine (p_Conflict_v ds kn ce cl _ _ _ _ hn hnc (HD.out.now HB2) (by rw [HO.out]; exact HCL.out) (by rw [HO.out]; exact HCE.out)).mono ?_
  rintro e w3 ⟨A3, c3, rfl, hb3, hi3, hc3⟩
  have HBA3 := Lib.hid (HBA2.out.ext hb3)
  have HB3 : Below w.heap.size w w3 := Below.then_ HB2 hb3
  have HI3 := Lib.hid hi3
  clear hb3 HBA2 x3 hi3 hc3
  have x3 := HBA3.out.cell 3
  go_wp2_with fail
  refine (r_Conflict ds kn err _ _ _ _ hn (HD.out.now HB3) HE.out).mono ?_
  rw [HCL.out, HCE.out]
  rintro e w4 ⟨A4, c4, rfl, hb4, hi4, hc4⟩
  have HBA4 := Lib.hid (HBA3.out.ext hb4)
  have HB4 : Below w.heap.size w w4 := Below.then_ HB3 hb4
  have HI34 := Lib.hid (HI3.out.now hb4)
  have HI4 := Lib.hid hi4
  clear hb4 HBA3 x3 hi4 hc4 HI3
  have x3 := HBA4.out.cell 3
  have x0 := HBA4.out.cell 0
  have x1 := HBA4.out.cell 1
  go_wp2_with fail
  refine (p_When_v ds p q kn _ we _ _ _ _ hn (HD.out.now HB4) HW.out HWE.out).mono ?_
  rintro e w5 ⟨rfl, hb5⟩
  have HBA5 := Lib.hid ((HBA4.out.ext hb5).alloc (.cells #[.int .i64 wx, .int .i64 wy] 26))
  have HB5 : Below w.heap.size w w5 := Below.then_ HB4 hb5
  have HB5b := Lib.hid (HB5.alloc HB5.size (.cells #[.int .i64 wx, .int .i64 wy] 26))
  have HI35 := Lib.hid (HI34.out.now (hb5.alloc hb5.size (.cells #[.int .i64 wx, .int .i64 wy] 26)))
  have HI45 := Lib.hid (HI4.out.now (hb5.alloc hb5.size (.cells #[.int .i64 wx, .int .i64 wy] 26)))
  have y3 := (HBA4.out.ext hb5).cell 3
  have y0 := (HBA4.out.ext hb5).cell 0
  have y1 := (HBA4.out.ext hb5).cell 1
  have hlt5 := (HBA4.out.ext hb5).lt
  clear hb5 HBA4 x3 x0 x1 HI34 HI4
  go_wp2_with fail
  refine (r_When ds p q kn err we _ _ _ _ _ hn (HD.out.now HB5b.out) HE.out HW.out HWE.out).mono ?_
  rintro e w6 ⟨rfl, hb6⟩
  have HBR6 : Hid (BoxA w6 w5.heap.size 26 #[.int .i64 wx, .int .i64 wy]) := (BoxA.new w5 _ _).ext hb6
  have HBA6 := Lib.hid (HBA5.out.ext hb6)
  have HB6 : Below w.heap.size w w6 := Below.then_ HB5b.out hb6
  have HI36 := Lib.hid ((HI35.out.now hb6).now (show Below w6.heap.size w6 (w6.alloc (.cells #[.int .i64 wx, .int .i64 wy] 26)) by (repeat' (first | with_reducible exact Below.refl _ _ | with_reducible assumption | with_reducible refine Below.alloc ?_ ?_ _ | with_reducible refine Below.setCell ?_ ?_ _ | with_reducible refine Below.drew ?_ | (simp; done) | (simp; omega) | omega))))
  have HI46 := Lib.hid ((HI45.out.now hb6).now (show Below w6.heap.size w6 (w6.alloc (.cells #[.int .i64 wx, .int .i64 wy] 26)) by (repeat' (first | with_reducible exact Below.refl _ _ | with_reducible assumption | with_reducible refine Below.alloc ?_ ?_ _ | with_reducible refine Below.setCell ?_ ?_ _ | with_reducible refine Below.drew ?_ | (simp; done) | (simp; omega) | omega))))
  have HB7 := Lib.hid (HB6.alloc HB6.size (.cells #[.int .i64 wx, .int .i64 wy] 26))
  have HD7 := Lib.hid (HD.out.now HB7.out)
  have HI7 := Lib.hid (HI.out.now HB7.out)
  have HX7 := Lib.hid (HX.out.now HB7.out)
  have z0 := HBR6.out.cell 0
  have z1 := HBR6.out.cell 1
  have u3 := HBA6.out.cell 3
  have u5 := HBA6.out.cell 5
  have g1 : w.heap.size < w6.heap.size := HBA6.out.lt
  have g2 : w5.heap.size < w6.heap.size := HBR6.out.lt
  have g3 : w.heap.size < w6.heap.size + 1 := by omega
  have g4 : w5.heap.size < w6.heap.size + 1 := by omega
  have g5 : w6.heap.size < w6.heap.size + 1 := by omega
  clear hb6 y0 y1 y3 HBA5 HI35 HI45
  go_wp2_with fail
  (refine wp_region_grow (by kernel_rfl) (by kernel_rfl) ?_; (repeat (go_big_quiet_step ((first | (go_at_call_of 33 (Value.slice A3 cl.length c3); exact Calls.grow_all (fun g => r_sameItems cl cl true _ _ _ _ _ _ _ (by omega) (by omega) (HI36.out.grow g) (HI46.out.grow g) (by simp))) | (go_at_call_of 34 (Value.slice A n c); exact Calls.grow_all (fun g => p_CheckConflict_v ds kn cc by_ _ _ _ _ _ _ _ hn hnc hm (HD7.out.grow g) (HI7.out.grow g) (by rw [HO.out]; exact HCC.out))) | (go_at_call_of 35 (Value.slice A n c); exact Calls.grow_all (fun g => r_CheckConflict ds kn err cc by_ _ _ _ _ _ _ _ hn hm (HD7.out.grow g) (HI7.out.grow g) HE.out HCC.out)) | (go_at_call_of 36 (Value.slice A n c); exact Calls.grow_all (fun g => p_CheckTrue ds kn err tt xs _ _ _ _ _ _ _ hn hnx (HD7.out.grow g) (HX7.out.grow g) HE.out HTT.out)) | (go_at_call_of 37 (Value.slice A n c); exact Calls.grow_all (fun g => r_CheckTrue ds kn err tt xs _ _ _ _ _ _ _ hn hnx (HD7.out.grow g) (HX7.out.grow g) HE.out HTT.out)) | (go_at_call 23; exact Calls.grow_of (r_sane _)))))); refine wpQuiet_nil ?_; rintro w1 ⟨⟨_, hb1⟩, rfl⟩; (try dsimp only at hb1 ⊢); obtain ⟨hc1, hf1⟩ := bcell hb1)
  go_wp2_with fail
  go_ret
  exact ⟨rfl, Below.then_ HB7.out hb1⟩

end Go.Proofs.YtaomfjgleddpdaaGreat
