import Derived.Test.YtaomfjgleddpdaaGreatP6
set_option linter.unusedVariables false
set_option linter.unusedSimpArgs false

/- The program's Wardens: it ranges over the map of threads. -/
namespace Go.Proofs.YtaomfjgleddpdaaGreat
open Go.RowKit Go.Shelf Go.Maps
attribute [local go_sem] Oper.semAt_some

theorem p_ask_v (T : TL) (day : Int) (gf : Nat) (lb : Array Value) (p : St → Bool) (v : Int) (Ad Ai As : Option Addr) (cd ci cs : Nat) (w : World) (hTn : T.length ≤ 1000) (hT : ThrAt w 0 w.heap.size T Ad Ai As cd ci cs) (hp : Tells gf lb p w) (hv : askI (T.map (·.1)) day p = v) :
    Calls Tryz.prog 110 #[.agg #[.slice Ad T.length cd, .slice Ai T.length ci, .slice As T.length cs], .int .i64 day, .func (.func gf) #[] lb] w fun e w' => e = .returned (.int .i64 v) ∧ Below w.heap.size w w' := by
  have h := p_ask T day gf lb p Ad Ai As cd ci cs w hTn hT hp
  rwa [hv] at h

set_option maxRecDepth 100000 in
set_option maxHeartbeats 4000000 in
theorem p_Wardens (ds : List Deed) (day kn err : Int) (xs : List Int) (A : Option Addr) (n c : Nat) (w : World) (hn : n ≤ 9223372036854775807) (hd : Ds w w.heap.size A n ds) (hx : wardL ds day kn = xs) (he : wardE ds day kn = err) :
    Calls Tryz.prog 48 #[.slice A n c, .int .i64 day, .int .i64 kn] w (RetL xs err w) := by
  have HD := Lib.hid hd
  have HL := Lib.hid hd.len
  have HX := Lib.hid hx
  have HE := Lib.hid he
  clear hd hx he
  obtain ⟨v, hv⟩ : ∃ v, orL [errI (checkB ds) 11, errI (daysOk [day, kn]) 6] = v := ⟨_, rfl⟩
  have HV := Lib.hid hv
  have HA : Hid (askE ds [kn, day] = v) := by show _ = _; rw [← ward_err]; exact hv
  clear hv
  by_cases hv0 : v = 0
  · subst hv0
    have hck : checkB ds = true := (ask_ok HA.out).1
    have H60 := Lib.hid (check_60 hck)
    have h60 : n ≤ 60 := by have := H60.out; have := HL.out; omega
    have HOK := Lib.hid (cnt_ok hck kn)
    clear hck
    by_cases hf : clF (cntDs kn ds) = true
    · have HF := Lib.hid hf
      clear hf
      have h1 : err = 13 := by rw [← HE.out, wardE, if_pos HA.out, evErr, if_pos HF.out]
      have h2 : xs = [] := by rw [← HX.out, wardL, HE.out, h1]; rfl
      subst h1
      subst h2
      go_enter Tryz.func48, Tryz.ntmps48
      go_wp2_with (first | (go_at_call 21; refine (p_check ds _ _ _ _ hn (HD.out.now (by (repeat' (first | with_reducible exact Below.refl _ _ | with_reducible assumption | with_reducible refine Below.alloc ?_ ?_ _ | with_reducible refine Below.setCell ?_ ?_ _ | with_reducible refine Below.drew ?_ | (simp; done) | (simp; omega) | omega))))).mono ?_; rintro e w1 ⟨rfl, hb1⟩; obtain ⟨hc1, hf1⟩ := bcell hb1; have HB1 : Below w.heap.size w w1 := Below.then_ (by (repeat' (first | with_reducible exact Below.refl _ _ | with_reducible assumption | with_reducible refine Below.alloc ?_ ?_ _ | with_reducible refine Below.setCell ?_ ?_ _ | with_reducible refine Below.drew ?_ | (simp; done) | (simp; omega) | omega))) hb1; have hs1 := HB1.size) | (go_at_call 84; refine (p_checkDays [day, kn] _ 2 2 _ (by decide) (Rd.new _ #[.int .i64 day, .int .i64 kn] _ 1 2 _ (by simp) rfl)).mono ?_; rintro e w1 ⟨rfl, hb1⟩; obtain ⟨hc1, hf1⟩ := bcell hb1; have HB1 : Below w.heap.size w w1 := Below.then_ (by (repeat' (first | with_reducible exact Below.refl _ _ | with_reducible assumption | with_reducible refine Below.alloc ?_ ?_ _ | with_reducible refine Below.setCell ?_ ?_ _ | with_reducible refine Below.drew ?_ | (simp; done) | (simp; omega) | omega))) hb1; have hs1 := HB1.size) | (go_at_call 83; refine (p_first [errI (checkB ds) 11, errI (daysOk [day, kn]) 6] 0 _ 2 2 _ (by decide) (Rd.new _ #[.int .i64 (errI (checkB ds) 11), .int .i64 (errI (daysOk [day, kn]) 6)] _ 1 2 _ (by simp) rfl) HV.out).mono ?_; rintro e w1 ⟨rfl, rfl⟩) | (go_at_call 90; refine (p_even_no ds kn _ _ _ _ (by omega) (Ds.now HD.out (by (repeat' (first | with_reducible exact Below.refl _ _ | with_reducible assumption | with_reducible refine Below.alloc ?_ ?_ _ | with_reducible refine Below.setCell ?_ ?_ _ | with_reducible refine Below.drew ?_ | (simp; done) | (simp; omega) | omega)))) HF.out).mono ?_; rintro e w1 ⟨A1, c1, rfl, hb1⟩; have HB2 : Below w.heap.size w w1 := Below.then_ (by (repeat' (first | with_reducible exact Below.refl _ _ | with_reducible assumption | with_reducible refine Below.alloc ?_ ?_ _ | with_reducible refine Below.setCell ?_ ?_ _ | with_reducible refine Below.drew ?_ | (simp; done) | (simp; omega) | omega))) hb1; have hs2 := HB2.size))
      go_ret2
      exact ⟨none, 0, rfl, by (repeat' (first | with_reducible exact Below.refl _ _ | with_reducible assumption | with_reducible refine Below.alloc ?_ ?_ _ | with_reducible refine Below.setCell ?_ ?_ _ | with_reducible refine Below.drew ?_ | (simp; done) | (simp; omega) | omega)), Rd.nil_, Nat.le_refl _⟩
    · have HF : Hid (clF (cntDs kn ds) = false) := by show _ = _; simpa using hf
      have HC60 : Hid ((cntDs kn ds).length ≤ 60) := by show _ ≤ _; have := cntDs_len kn ds; have := H60.out; omega
      clear hf
      have h1 : err = 0 := by rw [← HE.out, wardE, if_pos HA.out, evErr, if_neg (by rw [HF.out]; simp)]
      have HXS : Hid (wardJ (cntDs kn ds) day 99 = xs) := by show _ = _; rw [← HX.out, wardL, HE.out, if_pos h1]
      subst h1
      go_enter Tryz.func48, Tryz.ntmps48
      go_wp2_with (first | (go_at_call 21; refine (p_check ds _ _ _ _ hn (HD.out.now (by (repeat' (first | with_reducible exact Below.refl _ _ | with_reducible assumption | with_reducible refine Below.alloc ?_ ?_ _ | with_reducible refine Below.setCell ?_ ?_ _ | with_reducible refine Below.drew ?_ | (simp; done) | (simp; omega) | omega))))).mono ?_; rintro e w1 ⟨rfl, hb1⟩; obtain ⟨hc1, hf1⟩ := bcell hb1; have HB1 : Below w.heap.size w w1 := Below.then_ (by (repeat' (first | with_reducible exact Below.refl _ _ | with_reducible assumption | with_reducible refine Below.alloc ?_ ?_ _ | with_reducible refine Below.setCell ?_ ?_ _ | with_reducible refine Below.drew ?_ | (simp; done) | (simp; omega) | omega))) hb1; have hs1 := HB1.size) | (go_at_call 84; refine (p_checkDays [day, kn] _ 2 2 _ (by decide) (Rd.new _ #[.int .i64 day, .int .i64 kn] _ 1 2 _ (by simp) rfl)).mono ?_; rintro e w1 ⟨rfl, hb1⟩; obtain ⟨hc1, hf1⟩ := bcell hb1; have HB1 : Below w.heap.size w w1 := Below.then_ (by (repeat' (first | with_reducible exact Below.refl _ _ | with_reducible assumption | with_reducible refine Below.alloc ?_ ?_ _ | with_reducible refine Below.setCell ?_ ?_ _ | with_reducible refine Below.drew ?_ | (simp; done) | (simp; omega) | omega))) hb1; have hs1 := HB1.size) | (go_at_call 83; refine (p_first [errI (checkB ds) 11, errI (daysOk [day, kn]) 6] 0 _ 2 2 _ (by decide) (Rd.new _ #[.int .i64 (errI (checkB ds) 11), .int .i64 (errI (daysOk [day, kn]) 6)] _ 1 2 _ (by simp) rfl) HV.out).mono ?_; rintro e w1 ⟨rfl, rfl⟩) | (go_at_call 90; refine (p_even_ok ds kn _ _ _ _ (by omega) (Ds.now HD.out (by (repeat' (first | with_reducible exact Below.refl _ _ | with_reducible assumption | with_reducible refine Below.alloc ?_ ?_ _ | with_reducible refine Below.setCell ?_ ?_ _ | with_reducible refine Below.drew ?_ | (simp; done) | (simp; omega) | omega)))) HF.out).mono ?_; rintro e w3 ⟨A1, c1, rfl, hb3, hd3, hcc, hmm⟩; have HB3 : Below w.heap.size w w3 := Below.then_ (by (repeat' (first | with_reducible exact Below.refl _ _ | with_reducible assumption | with_reducible refine Below.alloc ?_ ?_ _ | with_reducible refine Below.setCell ?_ ?_ _ | with_reducible refine Below.drew ?_ | (simp; done) | (simp; omega) | omega))) hb3; have hs3 := HB3.size; have HD3 := Lib.hid hd3; clear hd3) | (go_at_call 91; refine (p_threads (cntDs kn ds) A1 _ c1 _ (by have := HC60.out; omega) HOK.out (HD3.out.now (by (repeat' (first | with_reducible exact Below.refl _ _ | with_reducible assumption | with_reducible refine Below.alloc ?_ ?_ _ | with_reducible refine Below.setCell ?_ ?_ _ | with_reducible refine Below.drew ?_ | (simp; done) | (simp; omega) | omega))))).mono ?_; rintro e w4 ⟨bm, be, rfl, hbm, hth, hb4⟩; have HTH := Lib.hid (hth.read hbm); clear hth hbm; have HB4 : Below w.heap.size w w4 := Below.then_ (by (repeat' (first | with_reducible exact Below.refl _ _ | with_reducible assumption | with_reducible refine Below.alloc ?_ ?_ _ | with_reducible refine Below.setCell ?_ ?_ _ | with_reducible refine Below.drew ?_ | (simp; done) | (simp; omega) | omega))) hb4; have hs4 := HB4.size; clear hb4; obtain ⟨L, hM, hL⟩ := HTH.out.ex; obtain ⟨es, clock, hb, hnd, hlt⟩ := hM.brn; have hrange := run_range_map (P := Tryz.prog) w4 123 126 122 bm es clock Tryz.underlying123 hb; have HND := Lib.hid hnd; have HLT := Lib.hid hlt; have HMB := Lib.hid hb; clear hnd hlt hb hM hL))
      clear hrange
      have HTB := Lib.hid HTH.out.lt
      go_loopw [11] (fun v wr => ∃ (seen : Array Nat) (c0 : Nat) (pre : List MapEntry) (zs : List Int), wr.heap[w4.heap.size]? = some (.mapIter (some bm) clock seen c0) ∧ clock ≤ c0 ∧ (pre ++ (leftOf es seen).toList).Perm es.toList ∧ wr.ownsRow (w4.heap.size + 1) 3 1 v zs.length (zs.map fun x => .int .i64 x) ∧ WInv (cntDs kn ds) day pre zs ∧ Below w4.heap.size w4 wr) (fun _ wr => leftN wr w4.heap.size es)
      case atStart =>
        refine ⟨#[], clock, [], [], World.alloc_heap_new w4 _, Nat.le_refl _, ?_, World.ownsRow_nil _ _ _ _, WInv.nil _ _, (Below.refl _ _).alloc (Nat.le_refl _) _⟩
        have h1 : (leftOf es #[]).toList = es.toList := by unfold leftOf; simp
        rw [h1]
        exact List.Perm.refl _
      case round =>
        obtain ⟨seen, c0, pre, zs, hit, hc0, hperm, hown, hI, hB⟩ := hrel
        obtain ⟨wo, rfl⟩ : ∃ wo : World, wo = wr := ⟨_, rfl⟩
        obtain ⟨A0, k0, rfl, hcc0⟩ := own_slice hown
        have HP := Lib.hid hperm
        have HO := Lib.hid hown
        have HI := Lib.hid hI
        have HB := Lib.hid hB
        have hbr := (hB.block bm HTB.out).trans HMB.out
        clear hperm hown hI hB
        rcases run_next_at (P := Tryz.prog) wo 0 w4.heap.size bm clock c0 seen es clock hit hbr HLT.out hc0 with ⟨hz, hrun⟩ | ⟨e, he, w1, hw1, hrun⟩
        · have hpl : pre.Perm es.toList := by
            have h1 := HP.out
            rwa [List.eq_nil_of_length_eq_zero (l := (leftOf es seen).toList) (by simpa using hz), List.append_nil] at h1
          have hx0 : zs = xs := (HI.out.done HOK.out HTH.out HMB.out hpl).trans HXS.out
          subst hx0
          clear hz hpl hbr hit
          go_wp2_with fail
          go_ret2
          exact ⟨A0, k0, rfl, Below.then_ HB4 HB.out, Rd.of_own HO.out, hcc0.1⟩
        · obtain ⟨w2, hw2⟩ : ∃ w2, ChangeMaps.setBlock w1 w4.heap.size (.mapIter (some bm) clock (seen.push e.born) clock) = w2 := ⟨_, rfl⟩
          have hmem := (mem_left he).1
          obtain ⟨l, p, Ad, Ai, As, cd, ci, cs, hkey, hval, hthr⟩ := thr_entry HTH.out HMB.out hmem
          have HK := Lib.hid hkey
          have hB1 : Below w4.heap.size w4 w1 := by
            rcases hw1 with rfl | rfl
            · exact HB.out
            · exact HB.out.drew
          have hsz1 : w1.heap = wo.heap := by rcases hw1 with rfl | rfl <;> rfl
          have hlt1 : w4.heap.size < w1.heap.size := by rw [hsz1]; exact block_lt hit
          have hit2 : w2.heap[w4.heap.size]? = some (.mapIter (some bm) clock (seen.push e.born) clock) := by rw [← hw2]; exact setBlock_get hlt1 _
          have hB2 : Below w4.heap.size w4 w2 := by rw [← hw2]; exact below_setBlock hB1 (Nat.le_refl _) _
          have hbr2 : w2.heap[bm]? = some (.map es clock) := (hB2.block bm HTB.out).trans HMB.out
          have hent := run_entry_at (P := Tryz.prog) w2 w4.heap.size bm clock seen es clock e hit2 hbr2 hmem HND.out
          have hown2 : w2.ownsRow (w4.heap.size + 1) 3 1 (.slice A0 zs.length k0) zs.length (zs.map fun x => .int .i64 x) := by
            rw [← hw2]
            refine own_keep HO.out fun b hb => ?_
            have h1 := own_le HO.out hb
            rw [setBlock_other (by omega), hsz1]
          have hsz2 : w4.heap.size < w2.heap.size := block_lt hit2
          have hp2 : ((pre ++ [e]) ++ (leftOf es (seen.push e.born)).toList).Perm es.toList := by
            refine List.Perm.trans ?_ HP.out
            rw [List.append_assoc]
            exact ((left_perm HND.out he).symm).append_left pre
          have hsh := left_shrinks es seen e he
          have hzl : zs.length ≤ 99 := HI.out.len HOK.out HTH.out HMB.out HP.out
          have hTl : (sub (cntDs kn ds) (l, p)).length ≤ 1000 := Nat.le_trans (sub_length_le _ _) (by have := HC60.out; omega)
          rw [hw2] at hrun
          rw [hkey, hval] at hrun hent
          have HT := Lib.hid ((hthr.below hB2).more hB2.size)
          have HSH := Lib.hid hsh
          have HP2 := Lib.hid hp2
          have HIT := Lib.hid hit
          have HIT2 := Lib.hid hit2
          have HB2 := Lib.hid hB2
          have HO2 := Lib.hid hown2
          clear hw2 hw1 hsz1 hlt1 hp2 hsh he hmem hit hit2 hbr hbr2 hB1 hB2 hthr hown2 hkey hval HP
          have HFIN : Hid (∀ W : World, Below w2.heap.size w2 W → W.heap[w4.heap.size]? = some (.mapIter (some bm) clock (seen.push e.born) clock) ∧ W.ownsRow (w4.heap.size + 1) 3 1 (.slice A0 zs.length k0) zs.length (zs.map fun x => .int .i64 x) ∧ Below w4.heap.size w4 W ∧ leftN W w4.heap.size es < leftN wo w4.heap.size es) := by
            intro W hW
            have h1 := (hW.block _ hsz2).trans HIT2.out
            refine ⟨h1, own_ext HO2.out hW, Below.then_ HB2.out hW, ?_⟩
            unfold leftN
            rw [h1, HIT.out]
            exact HSH.out
          obtain ⟨va, hva⟩ : ∃ z, askI (thr (cntDs kn ds) (l, p)) day (·.office) = z := ⟨_, rfl⟩
          have HVA := Lib.hid hva
          clear hva
          by_cases hp0 : p = 0
          · have hg : (p != 0) = false := by simpa using hp0
            have HSK : Hid (WInv (cntDs kn ds) day (pre ++ [e]) zs) := HI.out.skip fun a hk => ((wardP_iff HK.out a).1 hk).1 hp0
            clear hp0
            go_wp2_with fail
            go_roundw
            case rel =>
              refine ⟨_, _, _, zs, ?_, Nat.le_refl _, HP2.out, ?_, HSK.out, ?_⟩
              · exact (HFIN.out _ (by (repeat' (first | with_reducible exact Below.refl _ _ | with_reducible assumption | with_reducible refine Below.alloc ?_ ?_ _ | with_reducible refine Below.setCell ?_ ?_ _ | with_reducible refine Below.drew ?_ | (simp; done) | (simp; omega) | omega)))).1
              · exact (HFIN.out _ (by (repeat' (first | with_reducible exact Below.refl _ _ | with_reducible assumption | with_reducible refine Below.alloc ?_ ?_ _ | with_reducible refine Below.setCell ?_ ?_ _ | with_reducible refine Below.drew ?_ | (simp; done) | (simp; omega) | omega)))).2.1
              · exact (HFIN.out _ (by (repeat' (first | with_reducible exact Below.refl _ _ | with_reducible assumption | with_reducible refine Below.alloc ?_ ?_ _ | with_reducible refine Below.setCell ?_ ?_ _ | with_reducible refine Below.drew ?_ | (simp; done) | (simp; omega) | omega)))).2.2.1
            case measure => exact (HFIN.out _ (by (repeat' (first | with_reducible exact Below.refl _ _ | with_reducible assumption | with_reducible refine Below.alloc ?_ ?_ _ | with_reducible refine Below.setCell ?_ ?_ _ | with_reducible refine Below.drew ?_ | (simp; done) | (simp; omega) | omega)))).2.2.2
          · have hg : (p != 0) = true := by simpa using hp0
            have HP0 := Lib.hid hp0
            clear hp0
            by_cases h1 : va = 1
            · have hg2 : (va == 1) = true := by simpa using h1
              have HTK := Lib.hid (show ∀ a, wardP (cntDs kn ds) day e a ↔ a = p from fun a => (wardP_iff HK.out a).trans ⟨fun h => h.2.2.symm, fun h => ⟨HP0.out, HVA.out.trans h1, h.symm⟩⟩)
              clear h1
              go_wp2_with (first
                | (go_at_call 110; refine (p_ask_v (sub (cntDs kn ds) (l, p)) day 111 #[] (·.office) va Ad Ai As cd ci cs _ hTl (ThrAt.low ((HT.out.below (by (repeat' (first | with_reducible exact Below.refl _ _ | with_reducible assumption | with_reducible refine Below.alloc ?_ ?_ _ | with_reducible refine Below.setCell ?_ ?_ _ | with_reducible refine Below.drew ?_ | (simp; done) | (simp; omega) | omega)))).more (by simp <;> omega))) (tells_office _) HVA.out).mono ?_; rintro e5 w5 ⟨rfl, hb5⟩; have HB5 := Lib.hid (show Below w2.heap.size w2 w5 from Below.then_ (by (repeat' (first | with_reducible exact Below.refl _ _ | with_reducible assumption | with_reducible refine Below.alloc ?_ ?_ _ | with_reducible refine Below.setCell ?_ ?_ _ | with_reducible refine Below.drew ?_ | (simp; done) | (simp; omega) | omega))) hb5); have hs5 := hb5.size; have hbx := ((BoxA.new w2 126 #[.int .i64 l, .int .i64 p]).alloc (.cells #[.slice Ad (sub (cntDs kn ds) (l, p)).length cd, .slice Ai (sub (cntDs kn ds) (l, p)).length ci, .slice As (sub (cntDs kn ds) (l, p)).length cs] 122)).ext hb5; have x5 := hbx.cell 1; have hl5 := hbx.lt; clear hbx)
                | (go_at_call 114; refine (p_insert (base := w4.heap.size + 1) p (by omega) HI.out.ss (by have := HB5.out.size; omega) (own_ext HO2.out HB5.out)).mono ?_; rintro e7 w7 ⟨v', ys, rfl, hys, hyl, hym, hyo, hgr, hat⟩; obtain ⟨A', k', rfl, hcc'⟩ := own_slice hyo))
              have hf7 : w7.heap[w4.heap.size]? = some (.mapIter (some bm) clock (seen.push e.born) clock) :=
                (hgr.block _ (by have := HB5.out.size; omega) fun h => by have := own_le HO.out h.symm; omega).trans (HFIN.out _ HB5.out).1
              have HF7 := Lib.hid hf7
              have HB7 := Lib.hid (((HFIN.out _ HB5.out).2.2.1).grown hgr (by have := HB5.out.size; omega) fun b h => by have := own_le HO.out h; omega)
              have HO7 := Lib.hid hyo
              have HI7 := Lib.hid (HI.out.take (e := e) hys hym HTK.out)
              have HM7 : Hid (leftN w7 w4.heap.size es < leftN wo w4.heap.size es) := by
                show _ < _
                unfold leftN
                rw [HF7.out, HIT.out]
                exact HSH.out
              clear hf7 hyo hgr hat hys hym
              go_roundw
              case rel => exact ⟨_, _, _, ys, HF7.out, Nat.le_refl _, HP2.out, HO7.out, HI7.out, HB7.out⟩
              case measure => exact HM7.out
            · have hg2 : (va == 1) = false := by simpa using h1
              have HSK : Hid (WInv (cntDs kn ds) day (pre ++ [e]) zs) := HI.out.skip fun a hk => h1 (HVA.out.symm.trans ((wardP_iff HK.out a).1 hk).2.1)
              clear h1
              go_wp2_with (go_at_call 110; refine (p_ask_v (sub (cntDs kn ds) (l, p)) day 111 #[] (·.office) va Ad Ai As cd ci cs _ hTl (ThrAt.low ((HT.out.below (by (repeat' (first | with_reducible exact Below.refl _ _ | with_reducible assumption | with_reducible refine Below.alloc ?_ ?_ _ | with_reducible refine Below.setCell ?_ ?_ _ | with_reducible refine Below.drew ?_ | (simp; done) | (simp; omega) | omega)))).more (by simp <;> omega))) (tells_office _) HVA.out).mono ?_; rintro e5 w5 ⟨rfl, hb5⟩; have HB5 := Lib.hid (show Below w2.heap.size w2 w5 from Below.then_ (by (repeat' (first | with_reducible exact Below.refl _ _ | with_reducible assumption | with_reducible refine Below.alloc ?_ ?_ _ | with_reducible refine Below.setCell ?_ ?_ _ | with_reducible refine Below.drew ?_ | (simp; done) | (simp; omega) | omega))) hb5); have hs5 := hb5.size)
              go_roundw
              case rel =>
                obtain ⟨f1, f2, f3, _⟩ := HFIN.out _ HB5.out
                exact ⟨_, _, _, zs, f1, Nat.le_refl _, HP2.out, f2, HSK.out, f3⟩
              case measure => exact (HFIN.out _ HB5.out).2.2.2
  · have hv1 : (v != 0) = true := by simpa using hv0
    have HV0 := Lib.hid hv0
    clear hv0
    have h1 : err = v := by rw [← HE.out, wardE, if_neg (by rw [HA.out]; exact HV0.out), HA.out]
    have h2 : xs = [] := by rw [← HX.out, wardL, HE.out, if_neg (by rw [h1]; exact HV0.out)]
    subst h1
    subst h2
    go_enter Tryz.func48, Tryz.ntmps48
    go_wp2_with (first | (go_at_call 21; refine (p_check ds _ _ _ _ hn (HD.out.now (by (repeat' (first | with_reducible exact Below.refl _ _ | with_reducible assumption | with_reducible refine Below.alloc ?_ ?_ _ | with_reducible refine Below.setCell ?_ ?_ _ | with_reducible refine Below.drew ?_ | (simp; done) | (simp; omega) | omega))))).mono ?_; rintro e w1 ⟨rfl, hb1⟩; obtain ⟨hc1, hf1⟩ := bcell hb1; have HB1 : Below w.heap.size w w1 := Below.then_ (by (repeat' (first | with_reducible exact Below.refl _ _ | with_reducible assumption | with_reducible refine Below.alloc ?_ ?_ _ | with_reducible refine Below.setCell ?_ ?_ _ | with_reducible refine Below.drew ?_ | (simp; done) | (simp; omega) | omega))) hb1; have hs1 := HB1.size) | (go_at_call 84; refine (p_checkDays [day, kn] _ 2 2 _ (by decide) (Rd.new _ #[.int .i64 day, .int .i64 kn] _ 1 2 _ (by simp) rfl)).mono ?_; rintro e w1 ⟨rfl, hb1⟩; obtain ⟨hc1, hf1⟩ := bcell hb1; have HB1 : Below w.heap.size w w1 := Below.then_ (by (repeat' (first | with_reducible exact Below.refl _ _ | with_reducible assumption | with_reducible refine Below.alloc ?_ ?_ _ | with_reducible refine Below.setCell ?_ ?_ _ | with_reducible refine Below.drew ?_ | (simp; done) | (simp; omega) | omega))) hb1; have hs1 := HB1.size) | (go_at_call 83; refine (p_first [errI (checkB ds) 11, errI (daysOk [day, kn]) 6] err _ 2 2 _ (by decide) (Rd.new _ #[.int .i64 (errI (checkB ds) 11), .int .i64 (errI (daysOk [day, kn]) 6)] _ 1 2 _ (by simp) rfl) HV.out).mono ?_; rintro e w1 ⟨rfl, rfl⟩))
    go_ret2
    exact ⟨none, 0, rfl, by (repeat' (first | with_reducible exact Below.refl _ _ | with_reducible assumption | with_reducible refine Below.alloc ?_ ?_ _ | with_reducible refine Below.setCell ?_ ?_ _ | with_reducible refine Below.drew ?_ | (simp; done) | (simp; omega) | omega)), Rd.nil_, Nat.le_refl _⟩

end Go.Proofs.YtaomfjgleddpdaaGreat
