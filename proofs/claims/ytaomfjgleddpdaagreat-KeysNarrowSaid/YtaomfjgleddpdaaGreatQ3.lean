import Derived.Test.YtaomfjgleddpdaaGreatQ2
set_option linter.unusedVariables false
set_option linter.unusedSimpArgs false

/- KeysTrue: the program's True. -/
namespace Go.Proofs.YtaomfjgleddpdaaGreat
open Go.RowKit Go.Maps
attribute [local go_sem] Oper.semAt_some

abbrev stCs (s : St) : Value := .agg #[.int .i64 s.holder, .int .i64 s.hand, .bool s.office]
/-- The first k of three states. -/
def upK (s : St) (i k : Nat) : St := if i < k then s else St.zero
theorem p_truly_v {c : List Deed} {days : List Int} (nm : Nm) (day : Int) (s : St) {Ad Ai As : Option Addr} {cd ci cs lo B : Nat} {Ay : Option Addr} {ny cy : Nat} {w : World} (hn : (sub c nm).length ≤ 1000000) (hT : ThrAt w lo B (sub c nm) Ad Ai As cd ci cs) (hB : B ≤ w.heap.size) (hy : Is w w.heap.size Ay ny days) (hlen : c.length ≤ ny) (hs : stT c days nm day = s) :
    Calls Tryz.prog 125 #[.agg #[.slice Ad (sub c nm).length cd, .slice Ai (sub c nm).length ci, .slice As (sub c nm).length cs], .slice Ay ny cy, .int .i64 day] w fun e w' => e = .returned (.agg #[.int .i64 s.holder, .int .i64 s.hand, .bool s.office]) ∧ Below w.heap.size w w' := by
  have hT' := hT.more hB
  have h := p_truly (aftL ((sub c nm).map (·.1))) (ixL c nm) days day Ad Ai As Ay (sub c nm).length cd ci (sub c nm).length cs ny cy w hn hT'.s hT'.i hy (fun a ha => by
    unfold ixL at ha
    obtain ⟨p, hp, rfl⟩ := List.mem_map.1 ha
    have := (List.getElem?_eq_some_iff.1 (sub_mem.1 hp).1).1
    omega)
  have e : stN (aftL ((sub c nm).map (·.1))) (truN days (ixL c nm) day) = s := hs
  rw [e] at h
  exact h

theorem fld_2 (h x : Int) (o : Bool) (w : World) : (Instr.field 135 (.agg #[.int .i64 h, .int .i64 x, .bool o]) 2).run Tryz.prog w = .ok (.bool o) w := by kernel_rfl
theorem stT_okP {c : List Deed} {xs : List Int} (hok : ∀ d ∈ c, d.okB = true) (h : trueB c xs = true) (nm : Nm) (day : Int) : 0 ≤ (stT c xs nm day).holder ∧ (stT c xs nm day).holder ≤ 99 :=
  (sts_okP (thr_ok hok nm) (stT_sts hok h nm day)).2.1

set_option maxRecDepth 100000 in
set_option maxHeartbeats 4000000 in
theorem p_True (ds : List Deed) (ps days : List Int) (day kn : Int) (v : Bool) (A Ap Ay : Option Addr) (n c np cp ny cy : Nat) (w : World) (hn : n ≤ 9223372036854775807) (hnp : np ≤ 1000000) (hny : ny ≤ 1000000) (hd : Ds w w.heap.size A n ds) (hp : Is w w.heap.size Ap np ps) (hy : Is w w.heap.size Ay ny days)
    (hck : checkB ds = true) (hpb : personsB ps = true) (hdy : daysOk [day, kn] = true) (htr : trueB (cntDs kn ds) days = true) (hv : truB (cntDs kn ds) days ps day = v) :
    Calls Tryz.prog 59 #[.slice A n c, .slice Ap np cp, .slice Ay ny cy, .int .i64 day, .int .i64 kn] w fun e w' => e = .returned (.tuple #[.bool v, .int .i64 0]) ∧ Below w.heap.size w w' := by
  have HD := Lib.hid hd
  have HL := Lib.hid hd.len
  have HPS := Lib.hid hp
  have HY := Lib.hid hy
  have HLY := Lib.hid hy.len
  have HV := Lib.hid hv
  have HTR := Lib.hid htr
  have HOK := Lib.hid (cnt_ok hck kn)
  have HF : Hid (orL [errI (checkB ds) 11, errI (personsB ps) 16, errI (daysOk [day, kn]) 6] = 0) := by show _ = _; rw [hck, hpb, hdy]; rfl
  have h60 : n ≤ 60 := by have := check_60 hck; have := HL.out; omega
  have HC60 : Hid ((cntDs kn ds).length ≤ 60) := by show _ ≤ _; have := cntDs_len kn ds; have := HL.out; omega
  have HCY : Hid ((cntDs kn ds).length ≤ ny) := by
    show _ ≤ _
    have h := htr
    unfold trueB at h
    rw [Bool.and_eq_true, decide_eq_true_eq] at h
    have := HLY.out
    omega
  clear hd hp hy hv htr hck hpb hdy
  go_enter Tryz.func59, Tryz.ntmps59
  go_wp2_with (first
    | (go_at_call 21; refine (p_check ds _ _ _ _ hn (HD.out.now (by (repeat' (first | with_reducible exact Below.refl _ _ | with_reducible assumption | with_reducible refine Below.alloc ?_ ?_ _ | with_reducible refine Below.setCell ?_ ?_ _ | with_reducible refine Below.drew ?_ | (simp; done) | (simp; omega) | omega))))).mono ?_; rintro e w1 ⟨rfl, hb1⟩; obtain ⟨hc1, hf1⟩ := bcell hb1; have HB1 : Below w.heap.size w w1 := Below.then_ (by (repeat' (first | with_reducible exact Below.refl _ _ | with_reducible assumption | with_reducible refine Below.alloc ?_ ?_ _ | with_reducible refine Below.setCell ?_ ?_ _ | with_reducible refine Below.drew ?_ | (simp; done) | (simp; omega) | omega))) hb1; have hs1 := HB1.size)
    | (go_at_call 124; refine (p_checkPersons ps _ _ _ _ hnp (HPS.out.now (by (repeat' (first | with_reducible exact Below.refl _ _ | with_reducible assumption | with_reducible refine Below.alloc ?_ ?_ _ | with_reducible refine Below.setCell ?_ ?_ _ | with_reducible refine Below.drew ?_ | (simp; done) | (simp; omega) | omega))))).mono ?_; rintro e w1 ⟨rfl, rfl⟩)
    | (go_at_call 84; refine (p_checkDays [day, kn] _ 2 2 _ (by decide) (Rd.new _ #[.int .i64 day, .int .i64 kn] _ 1 2 _ (by simp) rfl)).mono ?_; rintro e w1 ⟨rfl, hb1⟩; obtain ⟨hc1, hf1⟩ := bcell hb1; have HB1 : Below w.heap.size w w1 := Below.then_ (by (repeat' (first | with_reducible exact Below.refl _ _ | with_reducible assumption | with_reducible refine Below.alloc ?_ ?_ _ | with_reducible refine Below.setCell ?_ ?_ _ | with_reducible refine Below.drew ?_ | (simp; done) | (simp; omega) | omega))) hb1; have hs1 := HB1.size)
    | (go_at_call 83; refine (p_first [errI (checkB ds) 11, errI (personsB ps) 16, errI (daysOk [day, kn]) 6] 0 _ 3 3 _ (by decide) (Rd.new _ #[.int .i64 (errI (checkB ds) 11), .int .i64 (errI (personsB ps) 16), .int .i64 (errI (daysOk [day, kn]) 6)] _ 1 3 _ (by simp) rfl) HF.out).mono ?_; rintro e w1 ⟨rfl, rfl⟩)
    | (go_at_call 86; refine (p_counting ds kn _ _ _ _ (by omega) (Ds.now HD.out (by (repeat' (first | with_reducible exact Below.refl _ _ | with_reducible assumption | with_reducible refine Below.alloc ?_ ?_ _ | with_reducible refine Below.setCell ?_ ?_ _ | with_reducible refine Below.drew ?_ | (simp; done) | (simp; omega) | omega))))).mono ?_; rintro e w3 ⟨A1, c1, rfl, hb3, hd3, hcc, hmm⟩; have HB3 := Lib.hid (show Below w.heap.size w w3 from Below.then_ (by (repeat' (first | with_reducible exact Below.refl _ _ | with_reducible assumption | with_reducible refine Below.alloc ?_ ?_ _ | with_reducible refine Below.setCell ?_ ?_ _ | with_reducible refine Below.drew ?_ | (simp; done) | (simp; omega) | omega))) hb3); have hs3 := HB3.out.size; have HD3 := Lib.hid hd3; clear hd3 hb3)
    | (go_at_call 99; refine (p_areTrue (cntDs kn ds) days true _ _ _ _ _ _ _ (by have := HC60.out; omega) (by omega) HOK.out (HD3.out.now (by (repeat' (first | with_reducible exact Below.refl _ _ | with_reducible assumption | with_reducible refine Below.alloc ?_ ?_ _ | with_reducible refine Below.setCell ?_ ?_ _ | with_reducible refine Below.drew ?_ | (simp; done) | (simp; omega) | omega)))) (HY.out.now (Below.then_ HB3.out (by (repeat' (first | with_reducible exact Below.refl _ _ | with_reducible assumption | with_reducible refine Below.alloc ?_ ?_ _ | with_reducible refine Below.setCell ?_ ?_ _ | with_reducible refine Below.drew ?_ | (simp; done) | (simp; omega) | omega))))) HTR.out).mono ?_; rintro e w4 ⟨rfl, hb4⟩; have HB4 := Lib.hid (show Below w3.heap.size w3 w4 from Below.then_ (by (repeat' (first | with_reducible exact Below.refl _ _ | with_reducible assumption | with_reducible refine Below.alloc ?_ ?_ _ | with_reducible refine Below.setCell ?_ ?_ _ | with_reducible refine Below.drew ?_ | (simp; done) | (simp; omega) | omega))) hb4); have hs4 := HB4.out.size; clear hb4)
    | (go_at_call 91; refine (p_threads (cntDs kn ds) A1 _ c1 _ (by have := HC60.out; omega) HOK.out (HD3.out.now (Below.then_ HB4.out (by (repeat' (first | with_reducible exact Below.refl _ _ | with_reducible assumption | with_reducible refine Below.alloc ?_ ?_ _ | with_reducible refine Below.setCell ?_ ?_ _ | with_reducible refine Below.drew ?_ | (simp; done) | (simp; omega) | omega)))))).mono ?_; rintro e w5 ⟨bm, be, rfl, hbm, hth, hb5⟩; have HTH := Lib.hid (hth.read hbm); have HBX := Lib.hid ((BoxA.new w4 162 #[.int .i64 0, .int .i64 0, .bool false, .int .i64 0, .int .i64 0, .bool false, .int .i64 0, .int .i64 0, .bool false]).ext hb5); have HB5 := Lib.hid (show Below w4.heap.size w4 w5 from Below.then_ (by (repeat' (first | with_reducible exact Below.refl _ _ | with_reducible assumption | with_reducible refine Below.alloc ?_ ?_ _ | with_reducible refine Below.setCell ?_ ?_ _ | with_reducible refine Below.drew ?_ | (simp; done) | (simp; omega) | omega))) hb5); have hs5 := hb5.size; clear hth hbm hb5))
  --LOOP
  simp only [World.size_alloc] at HTH
  obtain ⟨s1, hs1'⟩ : ∃ s, stT (cntDs kn ds) days (1, 0) day = s := ⟨_, rfl⟩
  obtain ⟨s2, hs2'⟩ : ∃ s, stT (cntDs kn ds) days (2, 0) day = s := ⟨_, rfl⟩
  obtain ⟨s3, hs3'⟩ : ∃ s, stT (cntDs kn ds) days (3, 0) day = s := ⟨_, rfl⟩
  have HS1 := Lib.hid hs1'
  have HS2 := Lib.hid hs2'
  have HS3 := Lib.hid hs3'
  have HSL : Hid (∀ nm : Nm, (sub (cntDs kn ds) nm).length ≤ 1000000) := fun nm => by have := sub_length_le (cntDs kn ds) nm; have := HC60.out; omega
  clear hs1' hs2' hs3' hb1 hc1 hf1
  go_loopw [41] (fun i wr => ∃ k : Nat, k ≤ 3 ∧ i = .int .i64 k ∧ BoxA wr w4.heap.size 162 #[.int .i64 (upK s1 0 k).holder, .int .i64 (upK s1 0 k).hand, .bool (upK s1 0 k).office, .int .i64 (upK s2 1 k).holder, .int .i64 (upK s2 1 k).hand, .bool (upK s2 1 k).office, .int .i64 (upK s3 2 k).holder, .int .i64 (upK s3 2 k).hand, .bool (upK s3 2 k).office] ∧ ThR wr (w4.heap.size + 1) w5.heap.size bm (sub (cntDs kn ds)) ∧ Below w4.heap.size w4 wr ∧ w5.heap.size ≤ wr.heap.size) (fun i _ => 3 - (intOf i).toNat)
  case atStart => exact ⟨0, by omega, rfl, HBX.out, HTH.out, HB5.out, Nat.le_refl _⟩
  case round =>
    obtain ⟨k, hk, rfl, hbx, hth, hB, hsz⟩ := hrel
    obtain ⟨wo, rfl⟩ : ∃ wo : World, wo = wr := ⟨_, rfl⟩
    have HBQ := Lib.hid hB
    have HBXQ := Lib.hid hbx
    have HTQ := Lib.hid hth
    have HBA := Lib.hid (Below.then_ HB3.out (Below.then_ HB4.out hB))
    clear hbx hth hB
    obtain rfl | rfl | rfl | rfl : k = 0 ∨ k = 1 ∨ k = 2 ∨ k = 3 := by omega
    · obtain ⟨Ad, Ai, As, cd, ci, cs, hlook, hthr⟩ := HTQ.out.look (a := 1) (c := 0) (wf2_small (by omega) (by omega) (by omega) (by omega))
      have HT := Lib.hid hthr
      clear hthr
      go_wp2_with (go_at_call 125; refine (p_truly_v (1, 0) day s1 (HSL.out _) HT.out (by omega) (HY.out.now HBA.out) HCY.out HS1.out).mono ?_; rintro e w6 ⟨rfl, hb6⟩; have hx6 := HBXQ.out.ext hb6; have HX6 := Lib.hid hx6; have x0 := hx6.cell 0; have x1 := hx6.cell 1; have x2 := hx6.cell 2; have f0 := boxa_frozen hx6 0; have f1 := boxa_frozen hx6 1; have f2 := boxa_frozen hx6 2; have hs6 := hb6.size; clear hx6; have HT6 := Lib.hid (HTQ.out.keep (w' := w6) fun k _ h2 => hb6.block k (by omega)); have HB6 := Lib.hid (Below.then_ HBQ.out hb6); clear hb6)
      go_roundw
      case rel =>
        refine ⟨0 + 1, by omega, by go_num, boxa_set (boxa_set (boxa_set HX6.out 0 _) 1 _) 2 _, ?_, ((HB6.out.setCell (by simp) _).setCell (by simp) _).setCell (by simp) _, by simp <;> omega⟩
        refine HT6.out.keep fun k h1 _ => ?_
        rw [Below.heap_setCell _ _ _ _ (by simp; omega), Below.heap_setCell _ _ _ _ (by simp; omega), Below.heap_setCell _ _ _ _ (by simp; omega)]
      case measure => simp [intOf]
    · obtain ⟨Ad, Ai, As, cd, ci, cs, hlook, hthr⟩ := HTQ.out.look (a := 2) (c := 0) (wf2_small (by omega) (by omega) (by omega) (by omega))
      have HT := Lib.hid hthr
      clear hthr
      go_wp2_with (go_at_call 125; refine (p_truly_v (2, 0) day s2 (HSL.out _) HT.out (by omega) (HY.out.now HBA.out) HCY.out HS2.out).mono ?_; rintro e w6 ⟨rfl, hb6⟩; have hx6 := HBXQ.out.ext hb6; have HX6 := Lib.hid hx6; have x0 := hx6.cell 3; have x1 := hx6.cell 4; have x2 := hx6.cell 5; have f0 := boxa_frozen hx6 3; have f1 := boxa_frozen hx6 4; have f2 := boxa_frozen hx6 5; have hs6 := hb6.size; clear hx6; have HT6 := Lib.hid (HTQ.out.keep (w' := w6) fun k _ h2 => hb6.block k (by omega)); have HB6 := Lib.hid (Below.then_ HBQ.out hb6); clear hb6)
      go_roundw
      case rel =>
        refine ⟨1 + 1, by omega, by go_num, boxa_set (boxa_set (boxa_set HX6.out 3 _) 4 _) 5 _, ?_, ((HB6.out.setCell (by simp) _).setCell (by simp) _).setCell (by simp) _, by simp <;> omega⟩
        refine HT6.out.keep fun k h1 _ => ?_
        rw [Below.heap_setCell _ _ _ _ (by simp; omega), Below.heap_setCell _ _ _ _ (by simp; omega), Below.heap_setCell _ _ _ _ (by simp; omega)]
      case measure => simp [intOf]
    · obtain ⟨Ad, Ai, As, cd, ci, cs, hlook, hthr⟩ := HTQ.out.look (a := 3) (c := 0) (wf2_small (by omega) (by omega) (by omega) (by omega))
      have HT := Lib.hid hthr
      clear hthr
      go_wp2_with (go_at_call 125; refine (p_truly_v (3, 0) day s3 (HSL.out _) HT.out (by omega) (HY.out.now HBA.out) HCY.out HS3.out).mono ?_; rintro e w6 ⟨rfl, hb6⟩; have hx6 := HBXQ.out.ext hb6; have HX6 := Lib.hid hx6; have x0 := hx6.cell 6; have x1 := hx6.cell 7; have x2 := hx6.cell 8; have f0 := boxa_frozen hx6 6; have f1 := boxa_frozen hx6 7; have f2 := boxa_frozen hx6 8; have hs6 := hb6.size; clear hx6; have HT6 := Lib.hid (HTQ.out.keep (w' := w6) fun k _ h2 => hb6.block k (by omega)); have HB6 := Lib.hid (Below.then_ HBQ.out hb6); clear hb6)
      go_roundw
      case rel =>
        refine ⟨2 + 1, by omega, by go_num, boxa_set (boxa_set (boxa_set HX6.out 6 _) 7 _) 8 _, ?_, ((HB6.out.setCell (by simp) _).setCell (by simp) _).setCell (by simp) _, by simp <;> omega⟩
        refine HT6.out.keep fun k h1 _ => ?_
        rw [Below.heap_setCell _ _ _ _ (by simp; omega), Below.heap_setCell _ _ _ _ (by simp; omega), Below.heap_setCell _ _ _ _ (by simp; omega)]
      case measure => simp [intOf]
    · --LOOP2
      have HBXL := Lib.hid (show BoxA wo w4.heap.size 162 #[.int .i64 s1.holder, .int .i64 s1.hand, .bool s1.office, .int .i64 s2.holder, .int .i64 s2.hand, .bool s2.office, .int .i64 s3.holder, .int .i64 s3.hand, .bool s3.office] from HBXQ.out)
      have y0 := HBXL.out.cell 0
      have y1 := HBXL.out.cell 1
      have y2 := HBXL.out.cell 2
      have y3 := HBXL.out.cell 3
      have y4 := HBXL.out.cell 4
      have y5 := HBXL.out.cell 5
      have y6 := HBXL.out.cell 6
      have y7 := HBXL.out.cell 7
      have y8 := HBXL.out.cell 8
      have ix0 := idx_0 s1 s2 s3
      have ix1 := idx_1 s1 s2 s3
      have ix2 := idx_2 s1 s2 s3
      have HP1 : Hid (0 ≤ s1.holder ∧ s1.holder ≤ 99) := by have h := stT_okP HOK.out HTR.out (1, 0) day; rw [HS1.out] at h; exact h
      have HP2 : Hid (0 ≤ s2.holder ∧ s2.holder ≤ 99) := by have h := stT_okP HOK.out HTR.out (2, 0) day; rw [HS2.out] at h; exact h
      have HP3 : Hid (0 ≤ s3.holder ∧ s3.holder ≤ 99) := by have h := stT_okP HOK.out HTR.out (3, 0) day; rw [HS3.out] at h; exact h
      obtain ⟨t1, ht1⟩ : ∃ s, stT (cntDs kn ds) days (0, s1.holder) day = s := ⟨_, rfl⟩
      obtain ⟨t2, ht2⟩ : ∃ s, stT (cntDs kn ds) days (0, s2.holder) day = s := ⟨_, rfl⟩
      obtain ⟨t3, ht3⟩ : ∃ s, stT (cntDs kn ds) days (0, s3.holder) day = s := ⟨_, rfl⟩
      have HT1 := Lib.hid ht1
      have HT2 := Lib.hid ht2
      have HT3 := Lib.hid ht3
      have HVV : Hid (((t1.office && (t2.office && t3.office)) && openB s1 s2 s3 ps) = v) := by
        show _ = _
        rw [← HV.out, truB, HS1.out, HS2.out, HS3.out, ht1, ht2, ht3]
      clear ht1 ht2 ht3
      obtain ⟨wl, rfl⟩ : ∃ wl : World, wl = wo := ⟨_, rfl⟩
      go_wp2_with fail
      go_loopw [56] (fun i wr => ∃ k : Nat, k ≤ 3 ∧ i = .int .i64 k ∧ ((1 ≤ k → t1.office = true) ∧ (2 ≤ k → t2.office = true) ∧ (3 ≤ k → t3.office = true)) ∧ Below wl.heap.size wl wr) (fun i _ => 3 - (intOf i).toNat)
      case atStart => exact ⟨0, by omega, rfl, ⟨by omega, by omega, by omega⟩, Below.refl _ _⟩
      case round =>
        obtain ⟨k, hk, rfl, ho, hB2⟩ := hrel
        obtain ⟨wq, rfl⟩ : ∃ wq : World, wq = wr := ⟨_, rfl⟩
        have HOF := Lib.hid ho
        have HB2 := Lib.hid hB2
        have hs2 := hB2.size
        have HBZ := Lib.hid (Below.then_ HBA.out hB2)
        clear ho hB2 y0 y1 y2 y3 y4 y5 y6 y7 y8
        obtain rfl | rfl | rfl | rfl : k = 0 ∨ k = 1 ∨ k = 2 ∨ k = 3 := by omega
        · have HTA := Lib.hid ((HTQ.out.keep (w' := wq.alloc (.cells #[.int .i64 s1.holder, .int .i64 s1.hand, .bool s1.office] 135)) fun k _ h2 => (Below.heap_alloc _ _ _ (by omega)).trans (HB2.out.block k (by omega))))
          obtain ⟨Ad, Ai, As, cd, ci, cs, hlook, hthr⟩ := HTA.out.look (a := 0) (c := s1.holder) (wf2_small (by omega) (by omega) HP1.out.1 (by have := HP1.out.2; omega))
          have HT := Lib.hid hthr
          clear hthr
          cases hof : t1.office with
          | true =>
            have HOO := Lib.hid hof
            have fl := fld_2 t1.holder t1.hand true
            go_wp2_with (go_at_call 125; refine (p_truly_v (0, s1.holder) day t1 (HSL.out _) HT.out (by simp <;> omega) (HY.out.now (Below.then_ HBZ.out (by (repeat' (first | with_reducible exact Below.refl _ _ | with_reducible assumption | with_reducible refine Below.alloc ?_ ?_ _ | with_reducible refine Below.setCell ?_ ?_ _ | with_reducible refine Below.drew ?_ | (simp; done) | (simp; omega) | omega))))) HCY.out HT1.out).mono ?_; rw [HOO.out]; rintro e w6 ⟨rfl, hb6⟩; have HB6 := Lib.hid (show Below wq.heap.size wq w6 from Below.then_ (by (repeat' (first | with_reducible exact Below.refl _ _ | with_reducible assumption | with_reducible refine Below.alloc ?_ ?_ _ | with_reducible refine Below.setCell ?_ ?_ _ | with_reducible refine Below.drew ?_ | (simp; done) | (simp; omega) | omega))) hb6); clear hb6)
            go_roundw
            case rel =>
              refine ⟨_, _, _, _, _, _, _, _, _, _, _, _, _, _, _, _, _, ?_, rfl⟩
              exact ⟨0 + 1, by omega, by go_num, ⟨fun _ => trivial, by omega, by omega⟩, Below.then_ HB2.out HB6.out⟩
            case measure => simp [intOf]
          | false =>
            have HOO := Lib.hid hof
            have hv0 : v = false := by rw [← HVV.out, HOO.out]; simp
            subst hv0
            have fl := fld_2 t1.holder t1.hand false
            go_wp2_with (go_at_call 125; refine (p_truly_v (0, s1.holder) day t1 (HSL.out _) HT.out (by simp <;> omega) (HY.out.now (Below.then_ HBZ.out (by (repeat' (first | with_reducible exact Below.refl _ _ | with_reducible assumption | with_reducible refine Below.alloc ?_ ?_ _ | with_reducible refine Below.setCell ?_ ?_ _ | with_reducible refine Below.drew ?_ | (simp; done) | (simp; omega) | omega))))) HCY.out HT1.out).mono ?_; rw [HOO.out]; rintro e w6 ⟨rfl, hb6⟩; have HB6 := Lib.hid (show Below wq.heap.size wq w6 from Below.then_ (by (repeat' (first | with_reducible exact Below.refl _ _ | with_reducible assumption | with_reducible refine Below.alloc ?_ ?_ _ | with_reducible refine Below.setCell ?_ ?_ _ | with_reducible refine Below.drew ?_ | (simp; done) | (simp; omega) | omega))) hb6); clear hb6)
            go_ret2
            exact ⟨rfl, Below.then_ HBZ.out HB6.out⟩
        · have HTA := Lib.hid ((HTQ.out.keep (w' := wq.alloc (.cells #[.int .i64 s2.holder, .int .i64 s2.hand, .bool s2.office] 135)) fun k _ h2 => (Below.heap_alloc _ _ _ (by omega)).trans (HB2.out.block k (by omega))))
          obtain ⟨Ad, Ai, As, cd, ci, cs, hlook, hthr⟩ := HTA.out.look (a := 0) (c := s2.holder) (wf2_small (by omega) (by omega) HP2.out.1 (by have := HP2.out.2; omega))
          have HT := Lib.hid hthr
          clear hthr
          cases hof : t2.office with
          | true =>
            have HOO := Lib.hid hof
            have fl := fld_2 t2.holder t2.hand true
            go_wp2_with (go_at_call 125; refine (p_truly_v (0, s2.holder) day t2 (HSL.out _) HT.out (by simp <;> omega) (HY.out.now (Below.then_ HBZ.out (by (repeat' (first | with_reducible exact Below.refl _ _ | with_reducible assumption | with_reducible refine Below.alloc ?_ ?_ _ | with_reducible refine Below.setCell ?_ ?_ _ | with_reducible refine Below.drew ?_ | (simp; done) | (simp; omega) | omega))))) HCY.out HT2.out).mono ?_; rw [HOO.out]; rintro e w6 ⟨rfl, hb6⟩; have HB6 := Lib.hid (show Below wq.heap.size wq w6 from Below.then_ (by (repeat' (first | with_reducible exact Below.refl _ _ | with_reducible assumption | with_reducible refine Below.alloc ?_ ?_ _ | with_reducible refine Below.setCell ?_ ?_ _ | with_reducible refine Below.drew ?_ | (simp; done) | (simp; omega) | omega))) hb6); clear hb6)
            go_roundw
            case rel =>
              refine ⟨_, _, _, _, _, _, _, _, _, _, _, _, _, _, _, _, _, ?_, rfl⟩
              exact ⟨1 + 1, by omega, by go_num, ⟨fun _ => HOF.out.1 (by omega), fun _ => trivial, by omega⟩, Below.then_ HB2.out HB6.out⟩
            case measure => simp [intOf]
          | false =>
            have HOO := Lib.hid hof
            have hv0 : v = false := by rw [← HVV.out, HOO.out]; simp
            subst hv0
            have fl := fld_2 t2.holder t2.hand false
            go_wp2_with (go_at_call 125; refine (p_truly_v (0, s2.holder) day t2 (HSL.out _) HT.out (by simp <;> omega) (HY.out.now (Below.then_ HBZ.out (by (repeat' (first | with_reducible exact Below.refl _ _ | with_reducible assumption | with_reducible refine Below.alloc ?_ ?_ _ | with_reducible refine Below.setCell ?_ ?_ _ | with_reducible refine Below.drew ?_ | (simp; done) | (simp; omega) | omega))))) HCY.out HT2.out).mono ?_; rw [HOO.out]; rintro e w6 ⟨rfl, hb6⟩; have HB6 := Lib.hid (show Below wq.heap.size wq w6 from Below.then_ (by (repeat' (first | with_reducible exact Below.refl _ _ | with_reducible assumption | with_reducible refine Below.alloc ?_ ?_ _ | with_reducible refine Below.setCell ?_ ?_ _ | with_reducible refine Below.drew ?_ | (simp; done) | (simp; omega) | omega))) hb6); clear hb6)
            go_ret2
            exact ⟨rfl, Below.then_ HBZ.out HB6.out⟩
        · have HTA := Lib.hid ((HTQ.out.keep (w' := wq.alloc (.cells #[.int .i64 s3.holder, .int .i64 s3.hand, .bool s3.office] 135)) fun k _ h2 => (Below.heap_alloc _ _ _ (by omega)).trans (HB2.out.block k (by omega))))
          obtain ⟨Ad, Ai, As, cd, ci, cs, hlook, hthr⟩ := HTA.out.look (a := 0) (c := s3.holder) (wf2_small (by omega) (by omega) HP3.out.1 (by have := HP3.out.2; omega))
          have HT := Lib.hid hthr
          clear hthr
          cases hof : t3.office with
          | true =>
            have HOO := Lib.hid hof
            have fl := fld_2 t3.holder t3.hand true
            go_wp2_with (go_at_call 125; refine (p_truly_v (0, s3.holder) day t3 (HSL.out _) HT.out (by simp <;> omega) (HY.out.now (Below.then_ HBZ.out (by (repeat' (first | with_reducible exact Below.refl _ _ | with_reducible assumption | with_reducible refine Below.alloc ?_ ?_ _ | with_reducible refine Below.setCell ?_ ?_ _ | with_reducible refine Below.drew ?_ | (simp; done) | (simp; omega) | omega))))) HCY.out HT3.out).mono ?_; rw [HOO.out]; rintro e w6 ⟨rfl, hb6⟩; have HB6 := Lib.hid (show Below wq.heap.size wq w6 from Below.then_ (by (repeat' (first | with_reducible exact Below.refl _ _ | with_reducible assumption | with_reducible refine Below.alloc ?_ ?_ _ | with_reducible refine Below.setCell ?_ ?_ _ | with_reducible refine Below.drew ?_ | (simp; done) | (simp; omega) | omega))) hb6); clear hb6)
            go_roundw
            case rel =>
              refine ⟨_, _, _, _, _, _, _, _, _, _, _, _, _, _, _, _, _, ?_, rfl⟩
              exact ⟨2 + 1, by omega, by go_num, ⟨fun _ => HOF.out.1 (by omega), fun _ => HOF.out.2.1 (by omega), fun _ => trivial⟩, Below.then_ HB2.out HB6.out⟩
            case measure => simp [intOf]
          | false =>
            have HOO := Lib.hid hof
            have hv0 : v = false := by rw [← HVV.out, HOO.out]; simp
            subst hv0
            have fl := fld_2 t3.holder t3.hand false
            go_wp2_with (go_at_call 125; refine (p_truly_v (0, s3.holder) day t3 (HSL.out _) HT.out (by simp <;> omega) (HY.out.now (Below.then_ HBZ.out (by (repeat' (first | with_reducible exact Below.refl _ _ | with_reducible assumption | with_reducible refine Below.alloc ?_ ?_ _ | with_reducible refine Below.setCell ?_ ?_ _ | with_reducible refine Below.drew ?_ | (simp; done) | (simp; omega) | omega))))) HCY.out HT3.out).mono ?_; rw [HOO.out]; rintro e w6 ⟨rfl, hb6⟩; have HB6 := Lib.hid (show Below wq.heap.size wq w6 from Below.then_ (by (repeat' (first | with_reducible exact Below.refl _ _ | with_reducible assumption | with_reducible refine Below.alloc ?_ ?_ _ | with_reducible refine Below.setCell ?_ ?_ _ | with_reducible refine Below.drew ?_ | (simp; done) | (simp; omega) | omega))) hb6); clear hb6)
            go_ret2
            exact ⟨rfl, Below.then_ HBZ.out HB6.out⟩
        · have HBY := Lib.hid (HBXL.out.ext HB2.out)
          have z0 := HBY.out.cell 0
          have z1 := HBY.out.cell 1
          have z2 := HBY.out.cell 2
          have z3 := HBY.out.cell 3
          have z4 := HBY.out.cell 4
          have z5 := HBY.out.cell 5
          have z6 := HBY.out.cell 6
          have z7 := HBY.out.cell 7
          have z8 := HBY.out.cell 8
          have hv1 : openB s1 s2 s3 ps = v := by rw [← HVV.out, HOF.out.1 (by omega), HOF.out.2.1 (by omega), HOF.out.2.2 (by omega)]; rfl
          have HV1 := Lib.hid hv1
          clear hv1
          go_wp2_with (go_at_call 126; refine (p_open s1 s2 s3 ps _ _ _ _ hnp (HPS.out.now HBZ.out)).mono ?_; rw [HV1.out]; rintro e w6 ⟨rfl, hb6⟩)
          go_ret2
          exact ⟨rfl, Below.then_ HBZ.out hb6⟩

end Go.Proofs.YtaomfjgleddpdaaGreat
