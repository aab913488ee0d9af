import Derived.Test.YtaomfjgleddpdaaGreatN1
import Derived.Test.YtaomfjgleddpdaaGreatA8
set_option linter.unusedVariables false
set_option linter.unusedSimpArgs false

/- The program's areTrue and CheckTrue. -/
namespace Go.Proofs.YtaomfjgleddpdaaGreat
open Go.RowKit Go.Maps
attribute [local go_sem] Oper.semAt_some

/-- The last day that is set for a thread. -/
def lastI (l : List (Deed × Int)) (nm : Nm) : Int := l.foldl (fun a p => if nmD p.1 = nm then p.2 else a) 0
theorem lastI_snoc (l : List (Deed × Int)) (p : Deed × Int) (nm : Nm) : lastI (l ++ [p]) nm = if nmD p.1 = nm then p.2 else lastI l nm := by simp [lastI, List.foldl_append]
theorem zip_at {ds : List Deed} {xs : List Int} {k : Nat} {d : Deed} {x : Int} (h1 : ds[k]? = some d) (h2 : xs[k]? = some x) : (ds.zip xs)[k]? = some (d, x) := by
  rw [List.getElem?_zip_eq_some]
  exact ⟨h1, h2⟩
theorem sameB_nm {a b : Deed} : sameB a b = true ↔ nmD a = nmD b := by simp [sameB, nmD]
def LastT (ds : List Deed) (xs : List Int) (k : Nat) : Prop := ∀ nm : Nm,
  (∀ (j : Nat) (e : Deed) (y : Int), j < k → ds[j]? = some e → xs[j]? = some y → nmD e = nm → y ≤ lastI ((ds.zip xs).take k) nm) ∧
  (lastI ((ds.zip xs).take k) nm = 0 ∨ ∃ (j : Nat) (e : Deed) (y : Int), j < k ∧ ds[j]? = some e ∧ xs[j]? = some y ∧ nmD e = nm ∧ y = lastI ((ds.zip xs).take k) nm)
theorem trAt_parts {ds : List Deed} {xs : List Int} {i : Nat} {d : Deed} {x : Int} (h1 : ds[i]? = some d) (h2 : xs[i]? = some x) : trAtB ds xs i = (withinB x d.lo d.hi && (List.range i).all (aheadB ds xs d x)) := by rw [trAtB, h1, h2]
theorem last_step {ds : List Deed} {xs : List Int} {k : Nat} {d : Deed} {x : Int} (h1 : ds[k]? = some d) (h2 : xs[k]? = some x) (ht : trAtB ds xs k = true) (hl : LastT ds xs k) : LastT ds xs (k + 1) := by
  intro nm
  rw [take_snoc_some (zip_at h1 h2), lastI_snoc]
  obtain ⟨hb, hc⟩ := hl nm
  by_cases hn : nmD d = nm
  · rw [if_pos hn]
    refine ⟨fun j e y hj he hy hne => ?_, .inr ⟨k, d, x, by omega, h1, h2, hn, rfl⟩⟩
    rcases Nat.lt_or_ge j k with h3 | h3
    · rw [trAt_parts h1 h2, Bool.and_eq_true, List.all_eq_true] at ht
      have h4 := ht.2 j (by simpa using h3)
      rw [aheadB, he, hy] at h4
      simp only [sameB_nm.2 (hne.trans hn.symm), Bool.not_true, Bool.false_or, decide_eq_true_eq] at h4
      exact h4
    · obtain rfl : j = k := by omega
      rw [h2] at hy
      cases hy
      exact Int.le_refl _
  · rw [if_neg hn]
    refine ⟨fun j e y hj he hy hne => ?_, ?_⟩
    · rcases Nat.lt_or_ge j k with h3 | h3
      · exact hb j e y h3 he hy hne
      · obtain rfl : j = k := by omega
        rw [h1] at he
        cases he
        exact absurd hne hn
    · rcases hc with h | ⟨j, e, y, hj, r⟩
      · exact .inl h
      · exact .inr ⟨j, e, y, by omega, r⟩
theorem last_start (ds : List Deed) (xs : List Int) : LastT ds xs 0 := fun nm => ⟨fun j e y h => absurd h (by omega), .inl rfl⟩
theorem last_ok {ds : List Deed} {xs : List Int} {k : Nat} {d : Deed} {x : Int} (h1 : ds[k]? = some d) (h2 : xs[k]? = some x) (h0 : 0 ≤ d.lo) (hl : LastT ds xs k) (hw : withinB x d.lo d.hi = true) : trAtB ds xs k = decide (lastI ((ds.zip xs).take k) (nmD d) ≤ x) := by
  rw [trAt_parts h1 h2, hw, Bool.true_and, Bool.eq_iff_iff, List.all_eq_true, decide_eq_true_eq]
  obtain ⟨hb, hc⟩ := hl (nmD d)
  refine ⟨fun h => ?_, fun h j hj => ?_⟩
  · rcases hc with h3 | ⟨j, e, y, hj, he, hy, hn, h4⟩
    · simp only [withinB, Bool.and_eq_true, decide_eq_true_eq] at hw
      omega
    · have h5 := h j (by simpa using hj)
      rw [aheadB, he, hy] at h5
      simp only [sameB_nm.2 hn, Bool.not_true, Bool.false_or, decide_eq_true_eq] at h5
      omega
  · rw [aheadB]
    split
    · rename_i e y he hy
      by_cases hs : nmD e = nmD d
      · have := hb j e y (by simpa using hj) he hy hs
        simp; right; omega
      · have : sameB e d = false := by rw [Bool.eq_false_iff]; exact fun h => hs (sameB_nm.1 h)
        simp [this]
    · rfl
theorem okB_lo {d : Deed} (h : d.okB = true) : 0 ≤ d.lo := by
  rw [Deed.okB_eq] at h
  simp only [Bool.and_eq_true, daysB, rangeB, decide_eq_true_eq] at h
  exact h.2.2.1.1

set_option maxRecDepth 100000 in
set_option maxHeartbeats 2000000 in
theorem p_areTrue (ds : List Deed) (xs : List Int) (v : Bool) (A B : Option Addr) (n c m cc : Nat) (w : World) (hn : n ≤ 1000000) (hm : m ≤ 9223372036854775807) (hok : ∀ d ∈ ds, d.okB = true) (hd : Ds w w.heap.size A n ds) (hx : Is w w.heap.size B m xs) (hv : trueB ds xs = v) :
    Calls Tryz.prog 99 #[.slice A n c, .slice B m cc] w fun e w' => e = .returned (.bool v) ∧ Below w.heap.size w w' := by
  have hmm := @run_makeMap Tryz.prog
  have HD := Lib.hid hd
  have HL := Lib.hid hd.len
  have HX := Lib.hid hx
  have HLX := Lib.hid hx.len
  have HO := Lib.hid hok
  have HV := Lib.hid hv
  clear hd hx hok hv
  by_cases hnm : m = n
  · subst hnm
    go_enter Tryz.func99, Tryz.ntmps99
    go_wp2_with fail
    go_loopw [17] (fun i wr => ∃ k : Nat, k ≤ m ∧ i = .int .i64 k ∧ (List.range k).all (trAtB ds xs) = true ∧ LastT ds xs k ∧ (∃ L, MapN wr w.heap.size L ∧ ∀ nm, (getM L nm).getD (.int .i64 0) = .int .i64 (lastI ((ds.zip xs).take k) nm)) ∧ Below w.heap.size w wr) (fun i _ => m - (intOf i).toNat)
    case atStart => exact ⟨0, by omega, rfl, rfl, last_start _ _, ⟨[], MapN.made w, fun nm => rfl⟩, by (repeat' (first | with_reducible exact Below.refl _ _ | with_reducible assumption | with_reducible refine Below.alloc ?_ ?_ _ | with_reducible refine Below.setCell ?_ ?_ _ | with_reducible refine Below.drew ?_ | (simp; done) | (simp; omega) | omega))⟩
    case round =>
      obtain ⟨k, hk, rfl, hall, hlp, ⟨L, hM, hL⟩, hB⟩ := hrel
      obtain ⟨wo, rfl⟩ : ∃ wo : World, wo = wr := ⟨_, rfl⟩
      have hs0 : w.heap.size ≤ wo.heap.size := hB.size
      have HB := Lib.hid hB
      have HA := Lib.hid hall
      have HLP := Lib.hid hlp
      have HM := Lib.hid hM
      have HG := Lib.hid hL
      clear hB hall hlp hM hL
      by_cases hlt : k < m
      · obtain ⟨b, o, d, rfl, hb, hdk, hat⟩ := (HD.out.ext HB.out (Nat.le_refl _)).at_ hlt
        obtain ⟨x, hxk⟩ : ∃ x, xs[k]? = some x := ⟨_, List.getElem?_eq_getElem (by rw [HLX.out]; exact hlt)⟩
        have HK := Lib.hid hdk
        have HXK := Lib.hid hxk
        have HOD := Lib.hid (HO.out d (List.mem_of_getElem? hdk))
        clear hdk hxk
        obtain ⟨a0, a1, a2, a3, a4, a5, a6, a7, a8⟩ := hat
        have g1 : (k : Int) < (m : Int) := by omega
        have g3 : ¬ ((k : Int) < 0) := by omega
        go_wp2_with fail
        refine (p_nameOf d _).mono ?_
        rintro e w1 ⟨rfl, hb1⟩
        have HB1 := Lib.hid (Below.then_ ((Below.refl wo.heap.size wo).alloc (Nat.le_refl _) (.cells #[.int .i64 d.par, .int .i64 d.no, .int .i64 d.kind, .int .i64 d.lock, .int .i64 d.person, .int .i64 d.lo, .int .i64 d.hi, .int .i64 d.known, .int .i64 d.til] 28)) hb1)
        have HBD := Lib.hid ((BoxA.new wo 28 #[.int .i64 d.par, .int .i64 d.no, .int .i64 d.kind, .int .i64 d.lock, .int .i64 d.person, .int .i64 d.lo, .int .i64 d.hi, .int .i64 d.known, .int .i64 d.til]).ext hb1)
        clear hb1 a0 a1 a2 a3 a4 a5 a6 a7 a8
        go_wp2_with fail
        have HBN : Hid (BoxA (w1.alloc (.cells #[.int .i64 (nmLock d), .int .i64 (nmPerson d)] 126)) w1.heap.size 126 #[.int .i64 (nmLock d), .int .i64 (nmPerson d)]) := BoxA.new _ _ _
        have HBD2 := Lib.hid (HBD.out.alloc (.cells #[.int .i64 (nmLock d), .int .i64 (nmPerson d)] 126))
        have HB2 := Lib.hid (HB1.out.alloc HB1.out.size (.cells #[.int .i64 (nmLock d), .int .i64 (nmPerson d)] 126))
        have hsz : wo.heap.size < w1.heap.size := HBD.out.lt
        generalize hb7 : w1.heap.size = b7 at *
        generalize hWW : w1.alloc (.cells #[.int .i64 (nmLock d), .int .i64 (nmPerson d)] 126) = W at *
        have hsw : b7 < W.heap.size := HBN.out.lt
        have hsv : wo.heap.size < W.heap.size := by omega
        clear hWW hb7 HB1 HBD
        obtain ⟨b2, o2, x', rfl, hb2, hxk', hxc⟩ := (HX.out.ext (Below.then_ HB.out HB2.out) (Nat.le_refl _)).at_ hlt
        obtain rfl : x = x' := by have h := HXK.out; rw [hxk'] at h; cases h; rfl
        clear hxk'
        have n0 := HBN.out.cell 0
        have n1 := HBN.out.cell 1
        have x5 := HBD2.out.cell 5
        have x6 := HBD2.out.cell 6
        obtain ⟨y, hy⟩ : ∃ y, lastI ((ds.zip xs).take k) (nmD d) = y := ⟨_, rfl⟩
        have HMW := Lib.hid (HM.out.ext HB2.out)
        have hlk : ∀ g : Grow W, (Instr.lookup 156 (.map (some w.heap.size)) (.agg #[.int .i64 (nmLock d), .int .i64 (nmPerson d)]) false).run Tryz.prog g.1 = .ok (.int .i64 y) g.1 := fun g => by
          have h := (HMW.out.ext g.2).lookup key2_name Tryz.underlying156 (okB_wf HOD.out) (zeroInt g.1)
          rw [HG.out (nmLock d, nmPerson d), show (nmLock d, nmPerson d) = nmD d from rfl, hy] at h
          exact h
        have HY := Lib.hid hy
        have HBW := Lib.hid (Below.then_ HB.out HB2.out)
        have hsu : b2 < W.heap.size := by omega
        clear hy
        cases hw : withinB x d.lo d.hi with
        | false =>
          have HW := Lib.hid hw
          have HF : Hid (trAtB ds xs k = false) := by show _ = _; rw [trAtB, HK.out, HXK.out]; simp [hw]
          clear hw
          (refine wp_region_grow (by kernel_rfl) (by kernel_rfl) ?_; (repeat (go_big_quiet_step ((first | (go_at_call 134; exact Calls.grow_same (p_within_v x d.lo d.hi false _ HW.out)))))); refine wpQuiet_nil ?_; rintro w1 ⟨⟨_, hb1⟩, rfl⟩; (try dsimp only at hb1 ⊢); obtain ⟨hc1, hf1⟩ := bcell hb1)
          go_wp2_with fail
          go_ret
          exact ⟨ret_bool (by rw [← HV.out, trueB, range_false (by rw [HL.out]; exact hlt) HF.out]; simp), Below.then_ HBW.out hb1⟩
        | true =>
          have HW := Lib.hid hw
          have HT := Lib.hid (last_ok HK.out HXK.out (okB_lo HOD.out) HLP.out hw)
          clear hw
          (refine wp_region_grow (by kernel_rfl) (by kernel_rfl) ?_; (repeat (go_big_quiet_step ((first | (go_at_call 134; exact Calls.grow_same (p_within_v x d.lo d.hi true _ HW.out)))))); refine wpQuiet_nil ?_; rintro w1 ⟨⟨_, hb1⟩, rfl⟩; (try dsimp only at hb1 ⊢); obtain ⟨hc1, hf1⟩ := bcell hb1)
          clear hlk
          by_cases hxy : x < y
          · have HF : Hid (trAtB ds xs k = false) := by show _ = _; rw [HT.out, HY.out]; simp; omega
            go_wp2_with fail
            go_ret
            exact ⟨ret_bool (by rw [← HV.out, trueB, range_false (by rw [HL.out]; exact hlt) HF.out]; simp), Below.then_ HBW.out hb1⟩
          · have HF : Hid (trAtB ds xs k = true) := by show _ = _; rw [HT.out, HY.out]; simp; omega
            obtain ⟨es, nn, hup, hM3⟩ := ((HMW.out.ext hb1).keep (w' := w1.drew) rfl).update key2_name Tryz.underlying156 (okB_wf HOD.out) (.int .i64 x)
            obtain ⟨W3, hW3⟩ : ∃ W3, setObj' w1.drew w.heap.size (.map es nn) = W3 := ⟨_, rfl⟩
            rw [hW3] at hup hM3
            have HM3 := Lib.hid hM3
            have HB3 : Hid (Below w.heap.size w W3) := by show Below _ _ _; rw [← hW3]; exact Below.setObj' (Below.then_ HBW.out hb1).drew (Nat.le_refl _) _
            clear hM3 hW3
            have m0 : w1.cell? ⟨b7, 0, none⟩ = some (.int .i64 (nmLock d)) := (HBN.out.ext hb1).cell 0
            have m1 : w1.cell? ⟨b7, 1, none⟩ = some (.int .i64 (nmPerson d)) := (HBN.out.ext hb1).cell 1
            have m2 : w1.cell? ⟨b2, o2 + k, none⟩ = some (.int .i64 x) := (hc1 _ _ hsu).trans hxc
            go_wp2_with fail
            refine wp_still_tail 6 (by kernel_rfl) (by kernel_rfl) ?_
            simp only [List.take_succ_cons, List.take_zero, List.drop_succ_cons, List.drop_zero]
            repeat still_step
            refine wpStill_nil ?_
            go_wp2_with fail
            go_roundw
            case rel =>
              refine ⟨k + 1, by omega, by go_num, range_snoc HA.out HF.out, last_step HK.out HXK.out HF.out HLP.out, ⟨_, HM3.out, fun nm => ?_⟩, HB3.out⟩
              rw [getM_put, take_snoc_some (zip_at HK.out HXK.out), lastI_snoc]
              by_cases hnm : nm = (nmLock d, nmPerson d)
              · rw [if_pos hnm, if_pos (show nmD d = nm from hnm.symm)]
                rfl
              · rw [if_neg hnm, if_neg (show ¬ nmD d = nm from fun e => hnm e.symm)]
                exact HG.out nm
            case measure => simp [intOf]; omega
      · obtain rfl : k = m := by omega
        go_wp2_with fail
        go_ret
        exact ⟨ret_bool (by rw [← HV.out, trueB, HL.out, HLX.out, HA.out]; simp), HB.out⟩
  · have h1 : ((m : Int) != (n : Int)) = true := by simp; omega
    go_enter Tryz.func99, Tryz.ntmps99
    go_wp2_with fail
    go_ret
    exact ⟨ret_bool (by rw [← HV.out, trueB, HL.out, HLX.out]; simp [hnm]), Below.refl _ _⟩

end Go.Proofs.YtaomfjgleddpdaaGreat

/- The program's CheckTrue; the reference's CheckConflict. -/
namespace Go.Proofs.YtaomfjgleddpdaaGreat
open Go.RowKit
attribute [local go_sem] Oper.semAt_some

set_option maxRecDepth 100000 in
set_option maxHeartbeats 2000000 in
theorem p_CheckTrue (ds : List Deed) (kn err v : Int) (xs : List Int) (A B : Option Addr) (n c m cc : Nat) (w : World) (hn : n ≤ 9223372036854775807) (hm : m ≤ 9223372036854775807) (hd : Ds w w.heap.size A n ds) (hx : Is w w.heap.size B m xs) (he : askE ds [kn] = err) (hv : (if err = 0 then errI (trueB (cntDs kn ds) xs) 17 else err) = v) :
    Calls Tryz.prog 36 #[.slice A n c, .int .i64 kn, .slice B m cc] w fun e w' => e = .returned (.int .i64 v) ∧ Below w.heap.size w w' := by
  have HD := Lib.hid hd
  have HX := Lib.hid hx
  have HL := Lib.hid hd.len
  have HV := Lib.hid hv
  have HE : Hid (orL [errI (checkB ds) 11, errI (daysOk [kn]) 6] = err) := by show _ = _; rw [askE_or]; exact he
  have HA := Lib.hid he
  clear hd hx hv he
  by_cases h0 : err = 0
  · subst h0
    have H60 := Lib.hid (check_60 (ask_ok HA.out).1)
    have h60 : n ≤ 60 := by have := H60.out; have := HL.out; omega
    have HOK := Lib.hid (cnt_ok (ask_ok HA.out).1 kn)
    have HC60 : Hid ((cntDs kn ds).length ≤ 60) := by show _ ≤ _; have := cntDs_len kn ds; have := H60.out; omega
    go_enter Tryz.func36, Tryz.ntmps36
    go_wp2_with (first | (go_at_call 21; refine (p_check ds _ _ _ _ hn HD.out).mono ?_; rintro e w1 ⟨rfl, hb1⟩; obtain ⟨hc1, hf1⟩ := bcell hb1; have HB1 : Below w.heap.size w w1 := Below.then_ (by (repeat' (first | with_reducible exact Below.refl _ _ | with_reducible assumption | with_reducible refine Below.alloc ?_ ?_ _ | with_reducible refine Below.setCell ?_ ?_ _ | with_reducible refine Below.drew ?_ | (simp; done) | (simp; omega) | omega))) hb1; have hs1 := HB1.size) | (go_at_call 84; refine (p_checkDays [kn] _ 1 1 _ (by decide) (Rd.new _ #[.int .i64 kn] _ 1 1 _ (by simp) rfl)).mono ?_; rintro e w1 ⟨rfl, hb1⟩; obtain ⟨hc1, hf1⟩ := bcell hb1; have HB1 : Below w.heap.size w w1 := Below.then_ (by (repeat' (first | with_reducible exact Below.refl _ _ | with_reducible assumption | with_reducible refine Below.alloc ?_ ?_ _ | with_reducible refine Below.setCell ?_ ?_ _ | with_reducible refine Below.drew ?_ | (simp; done) | (simp; omega) | omega))) hb1; have hs1 := HB1.size) | (go_at_call 83; refine (p_first [errI (checkB ds) 11, errI (daysOk [kn]) 6] 0 _ 2 2 _ (by decide) (Rd.new _ #[.int .i64 (errI (checkB ds) 11), .int .i64 (errI (daysOk [kn]) 6)] _ 1 2 _ (by simp) rfl) HE.out).mono ?_; rintro e w1 ⟨rfl, rfl⟩) | (go_at_call 86; fail))
    refine (p_counting ds kn _ _ _ _ (by omega) (Ds.now HD.out (by (repeat' (first | with_reducible exact Below.refl _ _ | with_reducible assumption | with_reducible refine Below.alloc ?_ ?_ _ | with_reducible refine Below.setCell ?_ ?_ _ | with_reducible refine Below.drew ?_ | (simp; done) | (simp; omega) | omega))))).mono ?_
    rintro e w2 ⟨A2, c2, rfl, hb2, hd2, _, _⟩
    have HB2 : Below w.heap.size w w2 := Below.then_ (by (repeat' (first | with_reducible exact Below.refl _ _ | with_reducible assumption | with_reducible refine Below.alloc ?_ ?_ _ | with_reducible refine Below.setCell ?_ ?_ _ | with_reducible refine Below.drew ?_ | (simp; done) | (simp; omega) | omega))) hb2
    have HD2 := Lib.hid hd2
    clear hb2 hd2
    go_wp2_with fail
    obtain ⟨t, ht⟩ : ∃ t, trueB (cntDs kn ds) xs = t := ⟨_, rfl⟩
    refine (p_areTrue (cntDs kn ds) xs t _ _ _ _ _ _ _ (by have := HC60.out; omega) hm HOK.out HD2.out (HX.out.now HB2) ht).mono ?_
    rintro e w3 ⟨rfl, hb3⟩
    have HB3 : Below w.heap.size w w3 := Below.then_ HB2 hb3
    have HR : Hid (errI t 17 = v) := by show _ = _; rw [← HV.out, ht]; simp
    clear ht
    cases t
    · go_wp2_with fail
      go_ret
      exact ⟨by rw [← HR.out]; rfl, HB3⟩
    · go_wp2_with fail
      go_ret
      exact ⟨by rw [← HR.out]; rfl, HB3⟩
  · have h1 : (err != 0) = true := by simpa using h0
    have HR : Hid (err = v) := by show _ = _; rw [← HV.out, if_neg h0]
    clear h0
    go_enter Tryz.func36, Tryz.ntmps36
    go_wp2_with (first | (go_at_call 21; refine (p_check ds _ _ _ _ hn HD.out).mono ?_; rintro e w1 ⟨rfl, hb1⟩; obtain ⟨hc1, hf1⟩ := bcell hb1; have HB1 : Below w.heap.size w w1 := Below.then_ (by (repeat' (first | with_reducible exact Below.refl _ _ | with_reducible assumption | with_reducible refine Below.alloc ?_ ?_ _ | with_reducible refine Below.setCell ?_ ?_ _ | with_reducible refine Below.drew ?_ | (simp; done) | (simp; omega) | omega))) hb1; have hs1 := HB1.size) | (go_at_call 84; refine (p_checkDays [kn] _ 1 1 _ (by decide) (Rd.new _ #[.int .i64 kn] _ 1 1 _ (by simp) rfl)).mono ?_; rintro e w1 ⟨rfl, hb1⟩; obtain ⟨hc1, hf1⟩ := bcell hb1; have HB1 : Below w.heap.size w w1 := Below.then_ (by (repeat' (first | with_reducible exact Below.refl _ _ | with_reducible assumption | with_reducible refine Below.alloc ?_ ?_ _ | with_reducible refine Below.setCell ?_ ?_ _ | with_reducible refine Below.drew ?_ | (simp; done) | (simp; omega) | omega))) hb1; have hs1 := HB1.size) | (go_at_call 83; refine (p_first [errI (checkB ds) 11, errI (daysOk [kn]) 6] err _ 2 2 _ (by decide) (Rd.new _ #[.int .i64 (errI (checkB ds) 11), .int .i64 (errI (daysOk [kn]) 6)] _ 1 2 _ (by simp) rfl) HE.out).mono ?_; rintro e w1 ⟨rfl, rfl⟩))
    go_ret
    exact ⟨by rw [← HR.out]; rfl, by (repeat' (first | with_reducible exact Below.refl _ _ | with_reducible assumption | with_reducible refine Below.alloc ?_ ?_ _ | with_reducible refine Below.setCell ?_ ?_ _ | with_reducible refine Below.drew ?_ | (simp; done) | (simp; omega) | omega))⟩

theorem r_index_v (ds : List Deed) (p q i : Int) (A : Option Addr) (n c : Nat) (w : World) (hn : n ≤ 9223372036854775807) (hd : Ds w w.heap.size A n ds) (h : findI p q ds = i) :
    Calls Tryz.prog 95 #[.slice A n c, .agg #[.int .i64 p, .int .i64 q]] w fun e w' => e = .returned (.int .i64 i) ∧ Below w.heap.size w w' := h ▸ r_index ds p q A n c w hn hd
theorem findI_some {p q : Int} {ds : List Deed} {i : Nat} (h : findN p q ds = i) (hi : i < ds.length) : findI p q ds = (i : Int) := by rw [findI, h, if_pos hi]
theorem findI_none {p q : Int} {ds : List Deed} (h : ¬ findN p q ds < ds.length) : findI p q ds = -1 := by rw [findI, if_neg h]

set_option maxRecDepth 100000 in
set_option maxHeartbeats 4000000 in
theorem r_CheckConflict (ds : List Deed) (kn err v : Int) (l : List (Int × Int)) (A Ab : Option Addr) (n c m cb : Nat) (w : World) (hn : n ≤ 9223372036854775807) (hm : m ≤ 9223372036854775807) (hd : Ds w w.heap.size A n ds) (hl : Its w w.heap.size Ab m l) (he : askE ds [kn] = err) (hv : ccErr err (cntDs kn ds) l = v) :
    Calls Tryz.prog 35 #[.slice A n c, .int .i64 kn, .slice Ab m cb] w fun e w' => e = .returned (.int .i64 v) ∧ Below w.heap.size w w' := by
  have HD := Lib.hid hd
  have HL := Lib.hid hd.len
  have HI := Lib.hid hl
  have HM := Lib.hid hl.len
  have HV := Lib.hid hv
  have HE := Lib.hid he
  clear hd hl hv he
  by_cases h0 : err = 0
  · subst h0
    have H60 := Lib.hid (check_60 (ask_ok HE.out).1)
    have h60 : n ≤ 60 := by have := H60.out; have := HL.out; omega
    have HOK := Lib.hid (cnt_ok (ask_ok HE.out).1 kn)
    have HC60 : Hid ((cntDs kn ds).length ≤ 60) := by show _ ≤ _; have := cntDs_len kn ds; have := H60.out; omega
    have HR : Hid (errI (ccB (cntDs kn ds) l) 14 = v) := by show _ = _; rw [← HV.out, ccErr, if_pos rfl]
    go_enter Tryz.func35, Tryz.ntmps35
    go_wp2_with fail
    refine (r_asked_v ds [kn] 0 _ _ _ _ _ _ _ hn (by decide) (HD.out.now (by (repeat' (first | with_reducible exact Below.refl _ _ | with_reducible assumption | with_reducible refine Below.alloc ?_ ?_ _ | with_reducible refine Below.setCell ?_ ?_ _ | with_reducible refine Below.drew ?_ | (simp; done) | (simp; omega) | omega)))) (Rd.new w #[.int .i64 kn] 3 1 1 _ rfl rfl) HE.out).mono ?_
    rintro e w1 ⟨rfl, hb1⟩
    have HB1 : Below w.heap.size w w1 := Below.then_ (by (repeat' (first | with_reducible exact Below.refl _ _ | with_reducible assumption | with_reducible refine Below.alloc ?_ ?_ _ | with_reducible refine Below.setCell ?_ ?_ _ | with_reducible refine Below.drew ?_ | (simp; done) | (simp; omega) | omega))) hb1
    clear hb1
    go_wp2_with fail
    refine (r_counting ds kn _ _ _ _ (by omega) (HD.out.now HB1)).mono ?_
    rintro e w2 ⟨A2, c2, rfl, hb2, hd2, _, _⟩
    have HB2 : Below w.heap.size w w2 := Below.then_ HB1 hb2
    have HD2 := Lib.hid hd2
    clear hb2 hd2
    by_cases hm2 : m = 2
    · subst hm2
      obtain ⟨p, q, r, s, hpq⟩ : ∃ p q r s, l = [(p, q), (r, s)] := by
        have h2 := HM.out
        match l, h2 with
        | [x, y], _ => exact ⟨x.1, x.2, y.1, y.2, rfl⟩
      subst hpq
      obtain ⟨b, o, rfl, hb, x0, x1, x2, x3⟩ := (HI.out.now HB2).two
      go_wp2_with fail
      obtain ⟨fi, hfi⟩ : ∃ i, findI p q (cntDs kn ds) = i := ⟨_, rfl⟩
      obtain ⟨fk, hfk⟩ : ∃ i, findI r s (cntDs kn ds) = i := ⟨_, rfl⟩
      refine (r_index_v (cntDs kn ds) p q fi _ _ _ _ (by have := HC60.out; omega) HD2.out hfi).mono ?_
      rintro e w3 ⟨rfl, hb3⟩
      have HB3 : Below w.heap.size w w3 := Below.then_ HB2 hb3
      have HD3 := Lib.hid (HD2.out.now hb3)
      obtain ⟨b', o', e', hb', y0, y1, y2, y3⟩ := (HI.out.now HB3).two
      obtain ⟨rfl, rfl⟩ : b = b' ∧ o = o' := by simpa using e'
      clear hb3 e' x0 x1 x2 x3
      go_wp2_with fail
      refine (r_index_v (cntDs kn ds) r s fk _ _ _ _ (by have := HC60.out; omega) HD3.out hfk).mono ?_
      rintro e w4 ⟨rfl, hb4⟩
      have HB4 : Below w.heap.size w w4 := Below.then_ HB3 hb4
      have HD4 := Lib.hid (HD3.out.now hb4)
      clear hb4 y0 y1 y2 y3
      by_cases h1 : findN p q (cntDs kn ds) < (cntDs kn ds).length
      · obtain ⟨i, hi⟩ : ∃ i, findN p q (cntDs kn ds) = i := ⟨_, rfl⟩
        rw [hi] at h1
        rw [findI_some hi h1] at hfi
        subst hfi
        have HI1 := Lib.hid hi
        have H1 := Lib.hid h1
        clear hi h1
        have hi0 : decide ((i : Int) < 0) = false := by simp
        by_cases h2 : findN r s (cntDs kn ds) < (cntDs kn ds).length
        · obtain ⟨k, hk⟩ : ∃ k, findN r s (cntDs kn ds) = k := ⟨_, rfl⟩
          rw [hk] at h2
          rw [findI_some hk h2] at hfk
          subst hfk
          have HK1 := Lib.hid hk
          have H2 := Lib.hid h2
          clear hk h2
          by_cases hki : k ≤ i
          · have HRR : Hid (ccB (cntDs kn ds) [(p, q), (r, s)] = false) := by
              show _ = _
              rw [ccB, HI1.out, HK1.out]
              split
              · simp; omega
              · rfl
            have hk2 : decide (k ≤ i) = true := by simpa using hki
            have hk3 : decide ((k : Int) ≤ (i : Int)) = true := by simp; omega
            clear hki
            go_wp2_with fail
            (refine wp_region_grow (by kernel_rfl) (by kernel_rfl) ?_; (repeat (go_big_quiet_step ((first | fail)))); refine wpQuiet_nil ?_; rintro w1 ⟨⟨_, hb1⟩, rfl⟩; (try dsimp only at hb1 ⊢); obtain ⟨hc1, hf1⟩ := bcell hb1)
            go_wp2_with fail
            go_ret
            exact ⟨ret_int (by rw [← HR.out, HRR.out]; rfl), Below.then_ HB4 hb1⟩
          · obtain ⟨b3, o3, x, rfl, hb3, hxi, hat⟩ := HD4.out.at_ H1.out
            obtain ⟨y, hyk, hat2⟩ := HD4.out.get H2.out
            obtain ⟨a0, a1, a2, a3, a4, a5, a6, a7, a8⟩ := hat
            obtain ⟨p0, p1, p2, p3, p4, p5, p6, p7, p8⟩ := hat2
            have hk2 : decide (k ≤ i) = false := by simpa using hki
            have hk3 : decide ((k : Int) ≤ (i : Int)) = false := by simp; omega
            have g1 : (0 : Int) ≤ (i : Int) := by omega
            have g2 : (i : Int) < ((cntDs kn ds).length : Int) := by have := H1.out; omega
            have g3 : (0 : Int) ≤ (k : Int) := by omega
            have g4 : (k : Int) < ((cntDs kn ds).length : Int) := by have := H2.out; omega
            have HSE := Lib.hid (same_eq (HOK.out x (List.mem_of_getElem? hxi)) (HOK.out y (List.mem_of_getElem? hyk)))
            have HRR : Hid (ccB (cntDs kn ds) [(p, q), (r, s)] = contraB x y) := by
              show _ = _
              rw [ccB, HI1.out, HK1.out, hxi, hyk]
              simp
              intro _
              omega
            clear hki hxi hyk
            cases hsm : sameTB x y with
            | false =>
              have HSM := Lib.hid hsm
              have HCT : Hid (contraB x y = false) := by show _ = _; rw [contraB, ← HSE.out, hsm]; rfl
              clear hsm
              go_wp2_with fail
              (refine wp_region_grow (by kernel_rfl) (by kernel_rfl) ?_; (repeat (go_big_quiet_step ((first | (go_at_call 98; exact Calls.grow_of (r_sameThread_v x y false _ HSM.out)))))); refine wpQuiet_nil ?_; rintro w1 ⟨⟨_, hb1⟩, rfl⟩; (try dsimp only at hb1 ⊢); obtain ⟨hc1, hf1⟩ := bcell hb1)
              go_wp2_with fail
              go_ret
              exact ⟨ret_int (by rw [← HR.out, HRR.out, HCT.out]; rfl), Below.then_ HB4 hb1⟩
            | true =>
              have HSM := Lib.hid hsm
              by_cases hlo : y.hi < x.lo
              · have HCT : Hid (contraB x y = true) := by show _ = _; rw [contraB, ← HSE.out, hsm]; simpa using hlo
                clear hsm
                go_wp2_with fail
                (refine wp_region_grow (by kernel_rfl) (by kernel_rfl) ?_; (repeat (go_big_quiet_step ((first | (go_at_call 98; exact Calls.grow_of (r_sameThread_v x y true _ HSM.out)))))); refine wpQuiet_nil ?_; rintro w1 ⟨⟨_, hb1⟩, rfl⟩; (try dsimp only at hb1 ⊢); obtain ⟨hc1, hf1⟩ := bcell hb1)
                go_wp2_with fail
                go_ret
                exact ⟨ret_int (by rw [← HR.out, HRR.out, HCT.out]; rfl), Below.then_ HB4 hb1⟩
              · have HCT : Hid (contraB x y = false) := by show _ = _; rw [contraB, ← HSE.out, hsm]; simpa using hlo
                clear hsm
                go_wp2_with fail
                (refine wp_region_grow (by kernel_rfl) (by kernel_rfl) ?_; (repeat (go_big_quiet_step ((first | (go_at_call 98; exact Calls.grow_of (r_sameThread_v x y true _ HSM.out)))))); refine wpQuiet_nil ?_; rintro w1 ⟨⟨_, hb1⟩, rfl⟩; (try dsimp only at hb1 ⊢); obtain ⟨hc1, hf1⟩ := bcell hb1)
                go_wp2_with fail
                go_ret
                exact ⟨ret_int (by rw [← HR.out, HRR.out, HCT.out]; rfl), Below.then_ HB4 hb1⟩
        · rw [findI_none h2] at hfk
          subst hfk
          have HRR : Hid (ccB (cntDs kn ds) [(p, q), (r, s)] = false) := by
            show _ = _
            rw [ccB, List.getElem?_eq_none (l := cntDs kn ds) (i := findN r s (cntDs kn ds)) (by omega)]
            split <;> simp_all
          have hk2 : decide ((-1 : Int) ≤ (i : Int)) = true := by simp
          clear h2
          go_wp2_with fail
          (refine wp_region_grow (by kernel_rfl) (by kernel_rfl) ?_; (repeat (go_big_quiet_step ((first | fail)))); refine wpQuiet_nil ?_; rintro w1 ⟨⟨_, hb1⟩, rfl⟩; (try dsimp only at hb1 ⊢); obtain ⟨hc1, hf1⟩ := bcell hb1)
          go_wp2_with fail
          go_ret
          exact ⟨ret_int (by rw [← HR.out, HRR.out]; rfl), Below.then_ HB4 hb1⟩
      · rw [findI_none h1] at hfi
        subst hfi
        have HRR : Hid (ccB (cntDs kn ds) [(p, q), (r, s)] = false) := by
          show _ = _
          rw [ccB, List.getElem?_eq_none (l := cntDs kn ds) (i := findN p q (cntDs kn ds)) (by omega)]
        clear h1 hfk
        go_wp2_with fail
        (refine wp_region_grow (by kernel_rfl) (by kernel_rfl) ?_; (repeat (go_big_quiet_step ((first | fail)))); refine wpQuiet_nil ?_; rintro w1 ⟨⟨_, hb1⟩, rfl⟩; (try dsimp only at hb1 ⊢); obtain ⟨hc1, hf1⟩ := bcell hb1)
        go_wp2_with fail
        go_ret
        exact ⟨ret_int (by rw [← HR.out, HRR.out]; rfl), Below.then_ HB4 hb1⟩
    · have hm3 : ((m : Int) != 2) = true := by simp; omega
      have HM2 := Lib.hid hm2
      clear hm2
      go_wp2_with fail
      go_ret
      have hcc0 : ccB (cntDs kn ds) l = false := by
        have h2 := HM.out
        have h3 := HM2.out
        match l, h2 with
        | [], _ => rfl
        | [_], _ => rfl
        | [x, y], h2 => simp at h2; omega
        | _ :: _ :: _ :: _, _ => rfl
      exact ⟨ret_int (by rw [← HR.out, hcc0]; rfl), HB2⟩
  · have h1 : (err != 0) = true := by simpa using h0
    have HR : Hid (err = v) := by show _ = _; rw [← HV.out, ccErr, if_neg h0]
    clear h0
    go_enter Tryz.func35, Tryz.ntmps35
    go_wp2_with fail
    refine (r_asked_v ds [kn] err _ _ _ _ _ _ _ hn (by decide) (HD.out.now (by (repeat' (first | with_reducible exact Below.refl _ _ | with_reducible assumption | with_reducible refine Below.alloc ?_ ?_ _ | with_reducible refine Below.setCell ?_ ?_ _ | with_reducible refine Below.drew ?_ | (simp; done) | (simp; omega) | omega)))) (Rd.new w #[.int .i64 kn] 3 1 1 _ rfl rfl) HE.out).mono ?_
    rintro e w1 ⟨rfl, hb1⟩
    have HB1 : Below w.heap.size w w1 := Below.then_ (by (repeat' (first | with_reducible exact Below.refl _ _ | with_reducible assumption | with_reducible refine Below.alloc ?_ ?_ _ | with_reducible refine Below.setCell ?_ ?_ _ | with_reducible refine Below.drew ?_ | (simp; done) | (simp; omega) | omega))) hb1
    go_wp2_with fail
    go_ret
    exact ⟨by rw [← HR.out]; rfl, HB1⟩

end Go.Proofs.YtaomfjgleddpdaaGreat
