import Derived.Test.YtaomfjgleddpdaaGreatP4
set_option linter.unusedVariables false
set_option linter.unusedSimpArgs false

/- The reference's InOffice and Wardens. -/
namespace Go.Proofs.YtaomfjgleddpdaaGreat
open Go.RowKit
attribute [local go_sem] Oper.semAt_some

theorem persErr_r (ds : List Deed) (person day kn : Int) : persErr ds person day kn = if checkB ds then (if withinB person 1 99 then errI (daysOk [kn, day]) 6 else 16) else 11 := by
  unfold persErr
  rw [days_comm kn day]
  cases checkB ds <;> cases withinB person 1 99 <;> cases daysOk [day, kn] <;> rfl

set_option maxRecDepth 100000 in
set_option maxHeartbeats 4000000 in
theorem r_InOffice (ds : List Deed) (lock person day kn a err : Int) (A : Option Addr) (n c : Nat) (w : World) (hn : n ≤ 9223372036854775807) (hd : Ds w w.heap.size A n ds) (ha : (askR ds (persErr ds person day kn) (0, person) day kn (·.office)).1 = a) (he : (askR ds (persErr ds person day kn) (0, person) day kn (·.office)).2 = err) :
    Calls Tryz.prog 47 #[.slice A n c, .agg #[.int .i64 lock, .int .i64 person, .int .i64 day, .int .i64 kn]] w fun e w' => e = .returned (.tuple #[.int .i64 a, .int .i64 err]) ∧ Below w.heap.size w w' := by
  have HD := Lib.hid hd
  have HLN := Lib.hid hd.len
  have HA := Lib.hid ha
  have HE := Lib.hid he
  clear hd ha he
  have hpe := persErr_r ds person day kn
  cases hc : checkB ds with
  | false =>
    rw [hc] at hpe
    simp only [Bool.false_eq_true, if_false] at hpe
    have h1 : askR ds (persErr ds person day kn) (0, person) day kn (·.office) = (0, 11) := by rw [hpe, askR]; rfl
    have ha : a = 0 := by rw [← HA.out, h1]
    have he : err = 11 := by rw [← HE.out, h1]
    have HC := Lib.hid hc
    subst ha
    subst he
    clear h1 hpe hc
    go_enter Tryz.func47, Tryz.ntmps47
    go_wp2_with fail
    refine (r_checkq ds 11 _ _ _ _ hn (HD.out.now (by (repeat' (first | with_reducible exact Below.refl _ _ | with_reducible assumption | with_reducible refine Below.alloc ?_ ?_ _ | with_reducible refine Below.setCell ?_ ?_ _ | with_reducible refine Below.drew ?_ | (simp; done) | (simp; omega) | omega)))) (by rw [HC.out]; rfl)).mono ?_
    rintro e w1 ⟨rfl, hb1⟩
    go_wp2_with fail
    go_ret2
    exact ⟨rfl, Below.then_ (by (repeat' (first | with_reducible exact Below.refl _ _ | with_reducible assumption | with_reducible refine Below.alloc ?_ ?_ _ | with_reducible refine Below.setCell ?_ ?_ _ | with_reducible refine Below.drew ?_ | (simp; done) | (simp; omega) | omega))) hb1⟩
  | true =>
    rw [hc] at hpe
    simp only [if_true] at hpe
    have HC := Lib.hid hc
    have h60 : n ≤ 60 := by have := check_60 hc; have := HLN.out; omega
    clear hc
    go_enter Tryz.func47, Tryz.ntmps47
    go_wp2_with fail
    refine (r_checkq ds 0 _ _ _ _ hn (HD.out.now (by (repeat' (first | with_reducible exact Below.refl _ _ | with_reducible assumption | with_reducible refine Below.alloc ?_ ?_ _ | with_reducible refine Below.setCell ?_ ?_ _ | with_reducible refine Below.drew ?_ | (simp; done) | (simp; omega) | omega)))) (by rw [HC.out]; rfl)).mono ?_
    rintro e w1 ⟨rfl, hb1⟩
    have HBA := Lib.hid ((BoxA.new w 59 #[.int .i64 lock, .int .i64 person, .int .i64 day, .int .i64 kn]).ext hb1)
    have HB1 : Below w.heap.size w w1 := Below.then_ (by (repeat' (first | with_reducible exact Below.refl _ _ | with_reducible assumption | with_reducible refine Below.alloc ?_ ?_ _ | with_reducible refine Below.setCell ?_ ?_ _ | with_reducible refine Below.drew ?_ | (simp; done) | (simp; omega) | omega))) hb1
    clear hb1
    have x1 := HBA.out.cell 1
    have x2 := HBA.out.cell 2
    have x3 := HBA.out.cell 3
    have hlt1 := HBA.out.lt
    cases hw : withinB person 1 99 with
    | false =>
      rw [hw] at hpe
      simp only [Bool.false_eq_true, if_false] at hpe
      have h1 : askR ds (persErr ds person day kn) (0, person) day kn (·.office) = (0, 16) := by rw [hpe, askR]; rfl
      have ha : a = 0 := by rw [← HA.out, h1]
      have he : err = 16 := by rw [← HE.out, h1]
      have HW := Lib.hid hw
      subst ha
      subst he
      clear h1 hpe hw
      go_wp2_with (go_at_call 74; refine (r_withinq person 1 99 false _ HW.out).mono ?_; rintro e w1 ⟨rfl, rfl⟩)
      go_ret2
      exact ⟨rfl, HB1⟩
    | true =>
      rw [hw] at hpe
      simp only [if_true] at hpe
      have HW := Lib.hid hw
      obtain ⟨ae, hae⟩ : ∃ z, askE ds [kn, day] = z := ⟨_, rfl⟩
      have hae2 : errI (daysOk [kn, day]) 6 = ae := by rw [← hae, askE, HC.out]; rfl
      rw [hae2] at hpe
      have HAE := Lib.hid hae
      have HPE := Lib.hid hpe
      obtain ⟨ev, hev⟩ : ∃ z, (if ae = 0 then evErr kn ds else ae) = z := ⟨_, rfl⟩
      obtain ⟨zs, hzs⟩ : ∃ z, (if ae = 0 then evDs kn ds else []) = z := ⟨_, rfl⟩
      have HEV := Lib.hid hev
      have HZS := Lib.hid hzs
      have HOK := Lib.hid (cnt_ok HC.out kn)
      have HC60 : Hid ((cntDs kn ds).length ≤ 60) := by show _ ≤ _; have := cntDs_len kn ds; have := HLN.out; omega
      have HERR : Hid (err = ev) := by
        show _ = _
        rw [← HE.out, ← HEV.out, HPE.out]
        unfold askR evErr
        by_cases h : ae = 0
        · simp only [h, if_true]
          split <;> rfl
        · simp only [h, if_false]
      clear hae hae2 hpe hev hzs hw
      go_wp2_with (go_at_call 74; refine (r_withinq person 1 99 true _ HW.out).mono ?_; rintro e w1 ⟨rfl, rfl⟩)
      refine (r_even ds kn [day] ae zs ev _ _ _ _ 2 2 _ hn (by decide) (HD.out.now (by (repeat' (first | with_reducible exact Below.refl _ _ | with_reducible assumption | with_reducible refine Below.alloc ?_ ?_ _ | with_reducible refine Below.setCell ?_ ?_ _ | with_reducible refine Below.drew ?_ | (simp; done) | (simp; omega) | omega)))) (Rd.new w1 #[.int .i64 kn, .int .i64 day] 3 1 2 _ rfl rfl) HAE.out HZS.out HEV.out).mono ?_
      rintro e w2 ⟨A2, c2, rfl, hb2, hd2, hcc2⟩
      have HB2 : Below w.heap.size w w2 := Below.then_ (by (repeat' (first | with_reducible exact Below.refl _ _ | with_reducible assumption | with_reducible refine Below.alloc ?_ ?_ _ | with_reducible refine Below.setCell ?_ ?_ _ | with_reducible refine Below.drew ?_ | (simp; done) | (simp; omega) | omega))) hb2
      have HBA2 := Lib.hid ((HBA.out.alloc (.cells #[.int .i64 kn, .int .i64 day] 3)).ext hb2)
      have HD2 := Lib.hid hd2
      clear hb2 hd2 x1 x2 x3 hlt1
      have x1 := HBA2.out.cell 1
      have x2 := HBA2.out.cell 2
      by_cases he0 : ev = 0
      · have hzc : ae = 0 ∧ clF (cntDs kn ds) = false ∧ zs = cntDs kn ds := by
          have h1 := HEV.out
          have h2 := HZS.out
          by_cases h3 : ae = 0
          · rw [if_pos h3] at h1 h2
            unfold evErr at h1
            unfold evDs at h2
            split at h1
            · omega
            · rename_i hf
              rw [if_neg hf] at h2
              exact ⟨h3, by simpa using hf, h2.symm⟩
          · rw [if_neg h3] at h1
            omega
        obtain ⟨z1, z2, z3⟩ := hzc
        have ha : askI (thr (cntDs kn ds) (0, person)) day (·.office) = a := by
          rw [← HA.out, HPE.out, askR, if_pos z1, z2]
          rfl
        have HAA := Lib.hid ha
        have he : err = 0 := by rw [HERR.out, he0]
        subst z3
        subst he
        subst he0
        clear z1 z2 ha
        go_wp2_with fail
        refine (r_office (cntDs kn ds) person day a _ _ _ _ HC60.out HOK.out HD2.out HAA.out).mono ?_
        rintro e w3 ⟨rfl, hb3⟩
        go_wp2_with fail
        go_ret2
        exact ⟨rfl, Below.then_ HB2 hb3⟩
      · have hne : (ev != 0) = true := by simpa using he0
        have ha : a = 0 := by
          rw [← HA.out, HPE.out]
          have h1 := HEV.out
          unfold askR
          by_cases h : ae = 0
          · rw [if_pos h] at h1 ⊢
            unfold evErr at h1
            split at h1
            · rename_i hf; rw [if_pos hf]
            · omega
          · rw [if_neg h]
        have he := HERR.out
        subst ha
        subst he
        clear he0
        go_wp2_with fail
        go_ret2
        exact ⟨rfl, HB2⟩

/-- The persons who surely are in office; none with an error. -/
def wardJ (c : List Deed) (day : Int) (k : Nat) : List Int := ((List.range k).filter fun (i : Nat) => decide (askI (thr c (0, (i : Int) + 1)) day (·.office) = 1)).map fun (i : Nat) => (i : Int) + 1
theorem wardJ_in {c : List Deed} {day : Int} {k : Nat} (h : askI (thr c (0, (k : Int) + 1)) day (·.office) = 1) : wardJ c day (k + 1) = wardJ c day k ++ [(k : Int) + 1] := by
  unfold wardJ
  rw [List.range_succ, List.filter_append]
  simp [h]
theorem wardJ_out {c : List Deed} {day : Int} {k : Nat} (h : ¬ askI (thr c (0, (k : Int) + 1)) day (·.office) = 1) : wardJ c day (k + 1) = wardJ c day k := by
  unfold wardJ
  rw [List.range_succ, List.filter_append]
  simp [h]
theorem wardJ_len (c : List Deed) (day : Int) (k : Nat) : (wardJ c day k).length ≤ k := by
  unfold wardJ
  rw [List.length_map]
  exact Nat.le_trans (List.length_filter_le _ _) (by simp)
def wardE (ds : List Deed) (day kn : Int) : Int := if askE ds [kn, day] = 0 then evErr kn ds else askE ds [kn, day]
def wardL (ds : List Deed) (day kn : Int) : List Int := if wardE ds day kn = 0 then wardJ (cntDs kn ds) day 99 else []

set_option maxRecDepth 100000 in
set_option maxHeartbeats 4000000 in
theorem r_Wardens (ds : List Deed) (lock person day kn err : Int) (xs : List Int) (A : Option Addr) (n c : Nat) (w : World) (hn : n ≤ 9223372036854775807) (hd : Ds w w.heap.size A n ds) (hx : wardL ds day kn = xs) (he : wardE ds day kn = err) :
    Calls Tryz.prog 49 #[.slice A n c, .agg #[.int .i64 lock, .int .i64 person, .int .i64 day, .int .i64 kn]] w (RetL xs err w) := by
  obtain ⟨i0, hi, hz0, hz1, hz2⟩ := info_parts infoInt
  have HD := Lib.hid hd
  have HLN := Lib.hid hd.len
  have HX := Lib.hid hx
  have HEE := Lib.hid he
  clear hd hx he
  obtain ⟨ae, hae⟩ : ∃ z, askE ds [kn, day] = z := ⟨_, rfl⟩
  have HAE := Lib.hid hae
  obtain ⟨zs, hzs⟩ : ∃ z, (if ae = 0 then evDs kn ds else []) = z := ⟨_, rfl⟩
  have HZS := Lib.hid hzs
  have HEV : Hid ((if ae = 0 then evErr kn ds else ae) = err) := by show _ = _; rw [← HEE.out, wardE, hae]
  clear hae hzs
  go_enter Tryz.func49, Tryz.ntmps49
  go_wp2_with fail
  refine (r_even ds kn [day] ae zs err _ _ _ _ 2 2 _ hn (by decide) (HD.out.now (by (repeat' (first | with_reducible exact Below.refl _ _ | with_reducible assumption | with_reducible refine Below.alloc ?_ ?_ _ | with_reducible refine Below.setCell ?_ ?_ _ | with_reducible refine Below.drew ?_ | (simp; done) | (simp; omega) | omega)))) (Rd.new _ #[.int .i64 kn, .int .i64 day] 3 1 2 _ (by simp) rfl) HAE.out HZS.out HEV.out).mono ?_
  rintro e w2 ⟨A2, c2, rfl, hb2, hd2, hcc2⟩
  have HB2 := Lib.hid (show Below w.heap.size w w2 from Below.then_ (by (repeat' (first | with_reducible exact Below.refl _ _ | with_reducible assumption | with_reducible refine Below.alloc ?_ ?_ _ | with_reducible refine Below.setCell ?_ ?_ _ | with_reducible refine Below.drew ?_ | (simp; done) | (simp; omega) | omega))) hb2)
  have HBA2 := Lib.hid (((BoxA.new w 59 #[.int .i64 lock, .int .i64 person, .int .i64 day, .int .i64 kn]).alloc (.cells #[.int .i64 kn, .int .i64 day] 3)).ext hb2)
  have HD2 := Lib.hid hd2
  clear hb2 hd2
  by_cases he0 : err = 0
  · have hzc : ae = 0 ∧ zs = cntDs kn ds := by
      have h1 := HEV.out
      have h2 := HZS.out
      by_cases h3 : ae = 0
      · rw [if_pos h3] at h1 h2
        unfold evErr at h1
        unfold evDs at h2
        split at h1
        · omega
        · rename_i hf
          rw [if_neg hf] at h2
          exact ⟨h3, h2.symm⟩
      · rw [if_neg h3] at h1
        omega
    obtain ⟨z1, z3⟩ := hzc
    have hck : checkB ds = true := (ask_ok (by rw [HAE.out, z1])).1
    have HOK := Lib.hid (cnt_ok hck kn)
    have HC60 : Hid ((cntDs kn ds).length ≤ 60) := by show _ ≤ _; have := cntDs_len kn ds; have := check_60 hck; omega
    have HXS : Hid (wardJ (cntDs kn ds) day 99 = xs) := by show _ = _; rw [← HX.out, wardL, HEE.out, if_pos he0]
    subst z3
    subst he0
    clear z1 hck
    go_wp2_with fail
    go_loopw [8, 9] (fun v i wr => ∃ k : Nat, k ≤ 99 ∧ i = .int .i64 ((k : Int) + 1) ∧ wr.ownsRow w2.heap.size 3 1 v (wardJ (cntDs kn ds) day k).length ((wardJ (cntDs kn ds) day k).map fun x => .int .i64 x) ∧ Below w2.heap.size w2 wr) (fun _ i _ => 100 - (intOf i).toNat)
    case atStart => exact ⟨0, by omega, rfl, World.ownsRow_nil _ _ _ _, Below.refl _ _⟩
    case round =>
      obtain ⟨k, hk, rfl, hown, hB⟩ := hrel
      obtain ⟨wo, rfl⟩ : ∃ wo : World, wo = wr := ⟨_, rfl⟩
      have HO := Lib.hid hown
      have HB := Lib.hid hB
      obtain ⟨A0, c0, rfl, hcc⟩ := own_slice hown
      clear hown hB
      by_cases hlt : k < 99
      · have hBa := HBA2.out.ext HB.out
        have a2 := hBa.cell 2
        have hl := wardJ_len (cntDs kn ds) day k
        clear hBa
        obtain ⟨v, hv⟩ : ∃ z, askI (thr (cntDs kn ds) (0, (k : Int) + 1)) day (·.office) = z := ⟨_, rfl⟩
        have HV := Lib.hid hv
        clear hv
        go_wp2_with fail
        refine (r_office (cntDs kn ds) ((k : Int) + 1) day v _ _ _ _ HC60.out HOK.out (HD2.out.now HB.out) HV.out).mono ?_
        rintro e w3 ⟨rfl, hb3⟩
        have HBN := Lib.hid (Below.then_ HB.out hb3)
        have HON := Lib.hid (own_ext HO.out hb3)
        clear hb3 a2
        obtain ⟨wf, rfl⟩ : ∃ wf : World, wf = w3 := ⟨_, rfl⟩
        by_cases h1 : v = 1
        · have HJ := Lib.hid (wardJ_in (c := cntDs kn ds) (day := day) (k := k) (by rw [HV.out, h1]))
          have h2 : (v == 1) = true := by simpa using h1
          clear h1
          go_wp2_with (at_builtin; refine wpList_append_own _ rfl (.tmp 33) (.tmp 35) 32 rfl w2.heap.size 3 i0 _ 1 8 Tryz.underlying32 hi hz0 hz1 hz2 rfl (by decide) _ _ _ rfl (HON.out.alloc _) ⟨wf.heap.size, 0, none⟩ 1 1 [.int .i64 ((k : Int) + 1)] rfl rfl ?c1 ?c2 ?c3 ?c4 ?c5 ?_; rotate_left 5; intro v' w9 hown9 hgrow9 _)
          case c1 => exact World.news_of_block (cs := #[.int .i64 ((k : Int) + 1)]) (t := 3) (fr := (0, 0)) (heap_alloc_new wf _)
          case c2 => simp [Value.oneCell']
          case c3 => unfold maxLen; omega
          case c4 => omega
          case c5 => have := HBN.out.size; simp; omega
          go_roundw
          case rel =>
            refine ⟨k + 1, by omega, by go_num, ?_, Below.appended HBN.out ((Below.refl _ _).alloc (Nat.le_refl _) _) HON.out hgrow9⟩
            rw [HJ.out, List.map_append, List.length_append]
            exact hown9
          case measure => simp [intOf] <;> omega
        · have HJ := Lib.hid (wardJ_out (c := cntDs kn ds) (day := day) (k := k) (by rw [HV.out]; exact h1))
          have h2 : (v == 1) = false := by simpa using h1
          clear h1
          go_wp2_with fail
          go_roundw
          case rel => exact ⟨k + 1, by omega, by go_num, by rw [HJ.out]; exact HON.out, HBN.out⟩
          case measure => simp [intOf] <;> omega
      · obtain rfl : k = 99 := by omega
        go_wp2_with fail
        go_ret2
        have hr := Rd.of_own HO.out
        rw [HXS.out] at hr hcc ⊢
        exact ⟨A0, c0, rfl, Below.then_ HB2.out HB.out, hr, hcc.1⟩
  · have hne : (err != 0) = true := by simpa using he0
    have hx : xs = [] := by rw [← HX.out, wardL, HEE.out, if_neg he0]
    subst hx
    clear he0
    go_wp2_with fail
    go_ret2
    exact ⟨none, 0, rfl, HB2.out, Rd.nil_, Nat.le_refl _⟩

end Go.Proofs.YtaomfjgleddpdaaGreat
