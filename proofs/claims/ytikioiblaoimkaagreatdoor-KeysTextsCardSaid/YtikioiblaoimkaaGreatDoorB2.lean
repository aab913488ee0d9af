import Derived.Test.YtikioiblaoimkaaGreatDoorB1
set_option linter.unusedVariables false
set_option linter.unusedSimpArgs false

/- When. -/
namespace Go.Proofs.YtikioiblaoimkaaGreatDoor
open Go.RowKit Go.Shelf Go.Maps
attribute [local go_sem] Oper.semAt_some

theorem findN_lt {p q : Int} {ds : List Deed} {d : Deed} (h : d ∈ ds) (h1 : d.par = p) (h2 : d.no = q) : findN p q ds < ds.length := by
  induction ds with
  | nil => cases h
  | cons a l ih =>
    rw [findN]
    split
    · simp
    · rename_i hn
      rcases List.mem_cons.1 h with rfl | h
      · exact absurd ⟨h1, h2⟩ hn
      · have := ih h
        simp; omega
theorem findN_get {p q : Int} {ds : List Deed} (h : findN p q ds < ds.length) : ∃ d, ds[findN p q ds]? = some d ∧ d.par = p ∧ d.no = q := by
  induction ds with
  | nil => simp at h
  | cons a l ih =>
    rw [findN] at h ⊢
    split
    · rename_i hn
      exact ⟨a, by simp, hn⟩
    · rename_i hn
      rw [if_neg hn] at h
      obtain ⟨d, h1, h2⟩ := ih (by simpa using h)
      exact ⟨d, by simpa using h1, h2⟩
theorem thr_mem {ds : List Deed} {d : Deed} (h : d ∈ ds) : d ∈ thr ds (nmD d) := by
  obtain ⟨i, hi⟩ := List.mem_iff_getElem?.1 h
  unfold thr sub
  exact List.mem_map.2 ⟨(d, i), List.mem_filter.2 ⟨List.mem_zipIdx_iff_getElem?.2 hi, by simp⟩, rfl⟩

theorem boxa_frozen {W : World} {B : Nat} {t : TypeId} {cs : Array Value} (h : BoxA W B t cs) (o : Nat) : W.frozen? ⟨B, o, none⟩ = false := by
  simp [World.frozen?, show W.heap[B]? = _ from h]

theorem boxa_set {W : World} {B : Nat} {t : TypeId} {cs : Array Value} (h : BoxA W B t cs) (o : Nat) (v : Value) : BoxA (W.setCell ⟨B, o, none⟩ v) B t (cs.setIfInBounds o v) := by
  obtain ⟨hlt, hk⟩ := Array.getElem?_eq_some_iff.1 h
  show (W.heap.modify B _)[B]? = _
  rw [Array.getElem?_eq_getElem (by rw [Array.size_modify]; exact hlt), Array.getElem_modify_self, hk]
  rfl
theorem boxa_set2 {W : World} {B : Nat} {t : TypeId} {u0 u1 : Value} (h : BoxA W B t #[u0, u1]) (v0 v1 : Value) : BoxA ((W.setCell ⟨B, 0, none⟩ v0).setCell ⟨B, 1, none⟩ v1) B t #[v0, v1] :=
  boxa_set (boxa_set h 0 v0) 1 v1
theorem boxa_set3 {W : World} {B : Nat} {t : TypeId} {u0 u1 u2 : Value} (h : BoxA W B t #[u0, u1, u2]) (v0 v1 v2 : Value) : BoxA (((W.setCell ⟨B, 0, none⟩ v0).setCell ⟨B, 1, none⟩ v1).setCell ⟨B, 2, none⟩ v2) B t #[v0, v1, v2] :=
  boxa_set (boxa_set (boxa_set h 0 v0) 1 v1) 2 v2

theorem boxa_drew {W : World} {B : Nat} {t : TypeId} {cs : Array Value} (h : BoxA W B t cs) : BoxA W.drew B t cs := h
theorem closeA {w5 w7 : World} {lo B : Nat} {t : TypeId} {cd0 : List Deed} {nm : Nm} {Ad Ai As : Option Addr} {cd ci cs : Nat} (hB : Below w5.heap.size w5 w7) (hT : ThrAt w7 lo B (sub cd0 nm) Ad Ai As cd ci cs) (hl : B ≤ w7.heap.size) (cells : Array Value) :
    Below w5.heap.size w5 (w7.alloc (.cells cells t)) ∧ BoxA (w7.alloc (.cells cells t)) w7.heap.size t cells ∧ Ds (w7.alloc (.cells cells t)) (w7.alloc (.cells cells t)).heap.size Ad (sub cd0 nm).length (thr cd0 nm) ∧ (sub cd0 nm).length ≤ cd :=
  ⟨hB.alloc hB.size _, BoxA.new _ _ _, (hT.keep fun k _ h2 => Below.heap_alloc _ _ _ (by omega)).d.more (by simp; omega), hT.cd⟩
theorem closeS {w5 w7 : World} {lo B bt : Nat} {t : TypeId} {cd0 : List Deed} {nm : Nm} {Ad Ai As : Option Addr} {cd ci cs : Nat} {z0 z1 z2 : Value} (hB : Below w5.heap.size w5 w7) (hT : ThrAt w7 lo B (sub cd0 nm) Ad Ai As cd ci cs) (hb : BoxA w7 bt t #[z0, z1, z2]) (h5 : w5.heap.size ≤ bt) (hne : bt < lo ∨ B ≤ bt) (hl : B ≤ w7.heap.size) (v0 v1 v2 : Value) :
    Below w5.heap.size w5 (((w7.setCell ⟨bt, 0, none⟩ v0).setCell ⟨bt, 1, none⟩ v1).setCell ⟨bt, 2, none⟩ v2) ∧ BoxA (((w7.setCell ⟨bt, 0, none⟩ v0).setCell ⟨bt, 1, none⟩ v1).setCell ⟨bt, 2, none⟩ v2) bt t #[v0, v1, v2] ∧
      Ds (((w7.setCell ⟨bt, 0, none⟩ v0).setCell ⟨bt, 1, none⟩ v1).setCell ⟨bt, 2, none⟩ v2) (((w7.setCell ⟨bt, 0, none⟩ v0).setCell ⟨bt, 1, none⟩ v1).setCell ⟨bt, 2, none⟩ v2).heap.size Ad (sub cd0 nm).length (thr cd0 nm) ∧ (sub cd0 nm).length ≤ cd := by
  refine ⟨((hB.setCell h5 _).setCell h5 _).setCell h5 _, boxa_set3 hb _ _ _, (hT.keep fun k h1 h2 => ?_).d.more (by simp; omega), hT.cd⟩
  have hk : k ≠ bt := by omega
  rw [Below.heap_setCell _ _ _ _ hk, Below.heap_setCell _ _ _ _ hk, Below.heap_setCell _ _ _ _ hk]

/-- The days on which the deed with an item may have been, among the deeds that count. -/
def whenR (c : List Deed) (p q : Int) : Int × Int := match c[findN p q c]? with
  | some d => (eaI ((thr c (nmD d)).take (findN p q (thr c (nmD d)) + 1)), laI ((thr c (nmD d)).drop (findN p q (thr c (nmD d)))))
  | none => (0, 0)
def whenE (ds : List Deed) (kn p q : Int) : Int :=
  if orL [errI (checkB ds) 11, errI (daysOk [kn]) 6] = 0 then
    if findN p q (cntDs kn ds) < (cntDs kn ds).length then if clF (cntDs kn ds) then 13 else 0 else 3
  else orL [errI (checkB ds) 11, errI (daysOk [kn]) 6]
def whenV (ds : List Deed) (kn p q : Int) : Value :=
  if whenE ds kn p q = 0 then .agg #[.int .i64 (whenR (cntDs kn ds) p q).1, .int .i64 (whenR (cntDs kn ds) p q).2] else .agg #[.int .i64 0, .int .i64 0]

set_option maxRecDepth 100000 in
set_option maxHeartbeats 4000000 in
theorem p_When (ds : List Deed) (p q kn : Int) (A : Option Addr) (n c : Nat) (w : World) (hn : n ≤ 9223372036854775807) (hd : Ds w w.heap.size A n ds) :
    Calls Tryz.prog 24 #[.slice A n c, .agg #[.int .i64 p, .int .i64 q], .int .i64 kn] w fun e w' => e = .returned (.tuple #[whenV ds kn p q, .int .i64 (whenE ds kn p q)]) ∧ Below w.heap.size w w' := by
  have hmo : Tryz.prog.follows .mixedOrders = true := by kernel_rfl
  have HD := Lib.hid hd
  have HL := Lib.hid hd.len
  clear hd
  have hor : ∃ v, orL [errI (checkB ds) 11, errI (daysOk [kn]) 6] = v := ⟨_, rfl⟩
  obtain ⟨v, hv⟩ := hor
  have HV := Lib.hid hv
  clear hv
  by_cases hv0 : v = 0
  · subst hv0
    have H60 := Lib.hid (check_60 (or2_eq HV.out).1)
    have h60 : n ≤ 60 := by have := H60.out; have := HL.out; omega
    have HOK := Lib.hid (cnt_ok (or2_eq HV.out).1 kn)
    have HC60 : Hid ((cntDs kn ds).length ≤ 60) := by show _ ≤ _; have := cntDs_len kn ds; have := H60.out; omega
    refine (callsIn_wide (n := 9)).1 ?_
    have h1 : 1 ≤ 9 := by omega
    (refine callsIn_of_wp_marks Tryz.func24 rfl trivial ?_ rfl; simp only [Tryz.ntmps24, List.size_toArray, List.length_cons, List.length_nil, Nat.reduceAdd, Nat.reduceSub, Array.replicate_succ, Array.replicate_zero, List.push_toArray, List.append_toArray, List.nil_append, List.cons_append])
    gi_wp2_with (first
      | (refine ⟨trivial, ?_⟩; gi_at_call 10; refine (callsIn_wide.2 (p_check ds _ _ _ _ hn (HD.out.now (by (repeat' (first | with_reducible exact Below.refl _ _ | with_reducible assumption | with_reducible refine Below.alloc ?_ ?_ _ | with_reducible refine Below.setCell ?_ ?_ _ | with_reducible refine Below.drew ?_ | (simp; done) | (simp; omega) | omega)))))).mono ?_; rintro e w1 ⟨rfl, hb1⟩; have HB1 : Below w.heap.size w w1 := Below.then_ (by (repeat' (first | with_reducible exact Below.refl _ _ | with_reducible assumption | with_reducible refine Below.alloc ?_ ?_ _ | with_reducible refine Below.setCell ?_ ?_ _ | with_reducible refine Below.drew ?_ | (simp; done) | (simp; omega) | omega))) hb1; have bI := BoxA.ext (B := w.heap.size) (t := 37) (cs := #[.int .i64 p, .int .i64 q]) (by simp only [boxa_iff, alloc_get, World.size_alloc]; simp) hb1; have bR := BoxA.ext (B := w.heap.size + 1) (t := 39) (cs := #[.int .i64 0, .int .i64 0]) (by simp only [boxa_iff, alloc_get, World.size_alloc]; simp) hb1; have hz1 : w.heap.size + 1 < w1.heap.size := bR.lt;clear hb1)
      | (refine ⟨trivial, ?_⟩; gi_at_call 48; refine (callsIn_wide.2 (p_checkDays [kn] _ 1 1 _ (by decide) (Rd.new _ #[.int .i64 kn] _ 1 1 _ (by simp) rfl))).mono ?_; rintro e w1c ⟨rfl, hb1c⟩; have HB1 : Below w.heap.size w w1c := Below.then_ (by (repeat' (first | with_reducible exact Below.refl _ _ | with_reducible assumption | with_reducible refine Below.alloc ?_ ?_ _ | with_reducible refine Below.setCell ?_ ?_ _ | with_reducible refine Below.drew ?_ | (simp; done) | (simp; omega) | omega))) hb1c; have bI := (bI.alloc (.cells #[.int .i64 kn] 3)).ext hb1c; have bR := (bR.alloc (.cells #[.int .i64 kn] 3)).ext hb1c; have hz1 : w.heap.size + 1 < w1c.heap.size := bR.lt; clear hb1c)
      | (refine ⟨trivial, ?_⟩; gi_at_call 47; refine (callsIn_wide.2 (p_first [errI (checkB ds) 11, errI (daysOk [kn]) 6] 0 _ 2 2 _ (by decide) (Rd.new _ #[.int .i64 (errI (checkB ds) 11), .int .i64 (errI (daysOk [kn]) 6)] _ 1 2 _ (by simp) rfl) HV.out)).mono ?_; rintro e w2 ⟨rfl, rfl⟩; have bR2 := bR.alloc (.cells #[.int .i64 (errI (checkB ds) 11), .int .i64 (errI (daysOk [kn]) 6)] 23); have bI2 := bI.alloc (.cells #[.int .i64 (errI (checkB ds) 11), .int .i64 (errI (daysOk [kn]) 6)] 23); have r0 := bR2.cell 0; have r1 := bR2.cell 1; have f0 := boxa_frozen bR2 0; have f1 := boxa_frozen bR2 1; have i0 := bI2.cell 0; have i1 := bI2.cell 1))
    refine wpIn_named2 fun g0 W0 hg0 hW0 => ?_
    have HB0 : Below w.heap.size w W0 := by rw [← hW0]; (repeat' (first | with_reducible exact Below.refl _ _ | with_reducible assumption | with_reducible refine Below.alloc ?_ ?_ _ | with_reducible refine Below.setCell ?_ ?_ _ | with_reducible refine Below.drew ?_ | (simp; done) | (simp; omega) | omega))
    rw [hW0] at bI2 bR2
    have HBI := Lib.hid bI2
    have HBR := Lib.hid bR2
    have hz0 := bR2.lt
    have i0 := bI2.cell 0
    have i1 := bI2.cell 1
    clear bI2 bR2 hW0 bI bR hz1 HB1 i0 i1
    have i0 := HBI.out.cell 0
    have i1 := HBI.out.cell 1
    by_cases hf : findN p q (cntDs kn ds) < (cntDs kn ds).length
    · obtain ⟨d, hdi, hdp, hdq⟩ := findN_get hf
      obtain ⟨i, hi⟩ : ∃ i, findN p q (cntDs kn ds) = i := ⟨_, rfl⟩
      have HF := Lib.hid hf
      rw [hi] at hf hdi
      have HI := Lib.hid hi
      have HDI := Lib.hid hdi
      have HDP := Lib.hid hdp
      have HDQ := Lib.hid hdq
      clear hi hdi hdp hdq
      refine wpIn_cut (fun a' W' => (∃ A1 c1, a' = { tmps := ((((((g0.tmps.setIfInBounds 25 (.slice A n c)).setIfInBounds 26 (.int .i64 kn)).setIfInBounds 27 (.slice A1 (cntDs kn ds).length c1)).setIfInBounds 28 (.agg #[.int .i64 p, .int .i64 q])).setIfInBounds 29 (.int .i64 i)).setIfInBounds 9 (.int .i64 i)), defers := [] }) ∧ Below W0.heap.size W0 W') ?reg ?rest
      case reg =>
        subst hg0
        gi_region_with_o (first
          | (refine ⟨trivial, ?_⟩; gi_at_call 50; refine (callsIn_wide.2 (p_counting ds kn _ _ _ _ (by omega) (HD.out.now (by (repeat' (first | with_reducible exact Below.refl _ _ | with_reducible assumption | with_reducible refine Below.alloc ?_ ?_ _ | with_reducible refine Below.setCell ?_ ?_ _ | with_reducible refine Below.drew ?_ | (simp; done) | (simp; omega) | omega)))))).mono ?_; rintro e w2 ⟨A1, c1, rfl, hb2, hd2, _, _⟩; have bI4 := BoxA.ext (W := W0.drew) HBI.out hb2; have j0 := bI4.cell 0; have j1 := bI4.cell 1)
          | (refine ⟨trivial, ?_⟩; gi_at_call 49; refine (callsIn_wide.2 (p_find_some (cntDs kn ds) p q i _ _ _ _ (by have := HC60.out; omega) hd2 HI.out hf)).mono ?_; rintro e w3 ⟨rfl, hb3⟩))
        all_goals exact ⟨⟨_, _, rfl⟩, Below.then_ (Below.then_ (Below.refl W0.heap.size W0).drew hb2) hb3⟩
      case rest =>
        rintro a' W1 ⟨⟨A1, c1, rfl⟩, hb1⟩
        subst hg0
        simp only [List.setIfInBounds_toArray, List.set_cons_zero, List.set_cons_succ]
        have HB1 := Below.then_ HB0 hb1
        have HBI1 := Lib.hid (HBI.out.ext hb1)
        have HBR1 := Lib.hid (HBR.out.ext hb1)
        have hi0 : decide ((i : Int) < 0) = false := by simp
        clear hb1 i0 i1 hz0 HBI HBR
        cases hcl : clF (cntDs kn ds) with
        | true =>
          have HCL := Lib.hid hcl
          clear hcl
          gi_wp2_with (refine ⟨trivial, ?_⟩; gi_at_call 51; refine (callsIn_wide.2 (p_even_no ds kn _ _ _ _ (by omega) (HD.out.now (by (repeat' (first | with_reducible exact Below.refl _ _ | with_reducible assumption | with_reducible refine Below.alloc ?_ ?_ _ | with_reducible refine Below.setCell ?_ ?_ _ | with_reducible refine Below.drew ?_ | (simp; done) | (simp; omega) | omega)))) HCL.out)).mono ?_; rintro e w5 ⟨A5, c5, rfl, hb5⟩; have bR5 := BoxA.ext HBR1.out hb5; have r0 := bR5.cell 0; have r1 := bR5.cell 1; have f0 := boxa_frozen bR5 0; have f1 := boxa_frozen bR5 1)
          refine ⟨.tuple #[.agg #[.int .i64 0, .int .i64 0], .int .i64 13], by simp [results, Tryz.f24, go_sem, r0, r1], ?_⟩
          have HE : whenE ds kn p q = 13 := by rw [whenE, if_pos HV.out, if_pos HF.out, if_pos HCL.out]
          have HB5 := Below.then_ HB1 hb5
          exact ⟨by rw [whenV, HE]; rfl, (HB5.setCell (by simp only; omega) _).setCell (by simp only; omega) _⟩
        | false =>
          have HCL := Lib.hid hcl
          clear hcl
          gi_wp2_with (refine ⟨trivial, ?_⟩; gi_at_call 51; refine (callsIn_wide.2 (p_even_ok ds kn _ _ _ _ (by omega) (HD.out.now (by (repeat' (first | with_reducible exact Below.refl _ _ | with_reducible assumption | with_reducible refine Below.alloc ?_ ?_ _ | with_reducible refine Below.setCell ?_ ?_ _ | with_reducible refine Below.drew ?_ | (simp; done) | (simp; omega) | omega)))) HCL.out)).mono ?_; rintro e w5 ⟨A5, c5, rfl, hb5, hd5, hc5, hm5⟩)
          refine wpIn_named2 fun g1 W2 hg1 hW2 => ?_
          subst hW2
          have HB2 := Below.then_ HB1 hb5
          have HBI2 := Lib.hid (HBI1.out.ext hb5)
          have HBR2 := Lib.hid (HBR1.out.ext hb5)
          have HD5 := Lib.hid hd5
          clear HBI1 HBR1 HB1 hb5 HB0
          obtain ⟨b5, o5, d', rfl, hb5, hdi', hat⟩ := hd5.at_ hf
          obtain rfl : d' = d := by rw [HDI.out] at hdi'; exact (Option.some.inj hdi').symm
          obtain ⟨x0, x1, x2, x3, x4, x5, x6, x7, x8⟩ := hat
          have g2 : (i : Int) < ((cntDs kn ds).length : Int) := by omega
          have hwf := okB_wf (HOK.out d' (List.mem_of_getElem? HDI.out))
          refine wpIn_cut (fun a' W' => ∃ bm bt Ad Ai As cd ci cs, (a' = { tmps := (((((((((g1.tmps.setIfInBounds 43 (.slice (some ⟨b5, o5, none⟩) (cntDs kn ds).length c5)).setIfInBounds 44 (.map (some bm))).setIfInBounds 45 (.slice (some ⟨b5, o5, none⟩) (cntDs kn ds).length c5)).setIfInBounds 46 (.int .i64 i)).setIfInBounds 47 (.pointer (some ⟨b5, o5 + i * 9, none⟩))).setIfInBounds 48 (.agg #[.int .i64 d'.par, .int .i64 d'.no, .int .i64 d'.kind, .int .i64 d'.lock, .int .i64 d'.person, .int .i64 d'.lo, .int .i64 d'.hi, .int .i64 d'.known, .int .i64 d'.til])).setIfInBounds 49 (nk (nmLock d') (nmPerson d'))).setIfInBounds 50 (.agg #[.slice Ad (sub (cntDs kn ds) (nmD d')).length cd, .slice Ai (sub (cntDs kn ds) (nmD d')).length ci, .slice As (sub (cntDs kn ds) (nmD d')).length cs])).setIfInBounds 12 (.pointer (some ⟨bt, 0, none⟩))), defers := [] }) ∧ Below w5.heap.size w5 W' ∧ BoxA W' bt 98 #[.slice Ad (sub (cntDs kn ds) (nmD d')).length cd, .slice Ai (sub (cntDs kn ds) (nmD d')).length ci, .slice As (sub (cntDs kn ds) (nmD d')).length cs] ∧ Ds W' W'.heap.size Ad (sub (cntDs kn ds) (nmD d')).length (thr (cntDs kn ds) (nmD d')) ∧ (sub (cntDs kn ds) (nmD d')).length ≤ cd) ?reg2 ?rest2
          case reg2 =>
            subst hg1
            have hb51 : b5 < w5.heap.size + 1 := by omega
            gi_region_with_o (first
              | (refine ⟨trivial, ?_⟩; gi_at_call 52; refine (callsIn_wide.2 (p_threads (cntDs kn ds) _ _ c5 _ (by have := HC60.out; omega) HOK.out (HD5.out.now (by (repeat' (first | with_reducible exact Below.refl _ _ | with_reducible assumption | with_reducible refine Below.alloc ?_ ?_ _ | with_reducible refine Below.setCell ?_ ?_ _ | with_reducible refine Below.drew ?_ | (simp; done) | (simp; omega) | omega)))))).mono ?_; rintro e w6 ⟨bm, be, rfl, hbm, hth, hb6⟩; obtain ⟨hc6, hf6⟩ := bcell hb6; have HT := Lib.hid (hth.read hbm); have HB56 : Below w5.heap.size w5 w6 := Below.then_ (by (repeat' (first | with_reducible exact Below.refl _ _ | with_reducible assumption | with_reducible refine Below.alloc ?_ ?_ _ | with_reducible refine Below.setCell ?_ ?_ _ | with_reducible refine Below.drew ?_ | (simp; done) | (simp; omega) | omega))) hb6; have hs6 := HB56.size; have hb56 := Nat.lt_of_lt_of_le hb5 HB56.size; have hz6 := hb6.size; simp only [World.size_alloc, drew_heap] at hz6; (try have hz6' : w5.heap.size < w6.heap.size := by omega); have hcc : ∀ o, w6.cell? ⟨b5, o, none⟩ = w5.cell? ⟨b5, o, none⟩ := fun o => HB56.cell (p := ⟨b5, o, none⟩) hb5; have y0 := (hcc _).trans x0; have y1 := (hcc _).trans x1; have y2 := (hcc _).trans x2; have y3 := (hcc _).trans x3; have y4 := (hcc _).trans x4; have y5 := (hcc _).trans x5; have y6 := (hcc _).trans x6; have y7 := (hcc _).trans x7; have y8 := (hcc _).trans x8; clear hth hcc)
              | (refine ⟨trivial, ?_⟩; gi_at_call 53; refine (callsIn_wide.2 (p_nameOf d' _)).mono ?_; rintro e w7 ⟨rfl, hb7⟩; obtain ⟨hc7, hf7⟩ := bcell hb7; have HB67 : Below w6.heap.size w6 w7 := Below.then_ (by (repeat' (first | with_reducible exact Below.refl _ _ | with_reducible assumption | with_reducible refine Below.alloc ?_ ?_ _ | with_reducible refine Below.setCell ?_ ?_ _ | with_reducible refine Below.drew ?_ | (simp; done) | (simp; omega) | omega))) hb7; have HB57 := Below.then_ HB56 HB67; have hs7 := HB67.size; have hz7 := hb7.size; (try simp only [World.size_alloc, drew_heap] at hz7); (try have hz7' : w5.heap.size < w7.heap.size := by omega); (try have hz7'' : w6.heap.size < w7.heap.size := by omega); obtain ⟨L, hM, hL⟩ := (HT.out.below HB67).ex; obtain ⟨Ad, Ai, As, cd, ci, cs, eL, hthr⟩ := hL (nmD d'); have HTR := Lib.hid hthr; have hlk := hM.lookup key2_name Tryz.underlying99 hwf (zeroThr _); have hlk2 := (hM.alloc (.cells #[.slice none 0 0, .slice none 0 0, .slice none 0 0] 98)).lookup key2_name Tryz.underlying99 hwf (zeroThr _); rw [show (getM L (nmLock d', nmPerson d')).getD zT = _ from eL] at hlk hlk2; clear hthr hL hM))
            all_goals
              first
                | (refine ⟨bm, w7.heap.size, Ad, Ai, As, cd, ci, cs, ?_, ?_⟩
                   · simp only [List.setIfInBounds_toArray, List.set_cons_zero, List.set_cons_succ]
                   · with_reducible exact closeA HB57 HTR.out hs7 _)
                | (refine ⟨bm, w6.heap.size, Ad, Ai, As, cd, ci, cs, ?_, ?_⟩
                   · simp only [List.setIfInBounds_toArray, List.set_cons_zero, List.set_cons_succ]
                   · with_reducible exact closeS HB57 HTR.out ((BoxA.new _ _ _).ext hb7) (by omega) (by omega) (by omega) _ _ _)
                | (refine ⟨bm, w5.heap.size, Ad, Ai, As, cd, ci, cs, ?_, ?_⟩
                   · simp only [List.setIfInBounds_toArray, List.set_cons_zero, List.set_cons_succ]
                   · with_reducible exact closeS HB57 HTR.out ((BoxA.ext (W := (w5.alloc (.cells #[.slice none 0 0, .slice none 0 0, .slice none 0 0] 98)).drew) (boxa_drew (BoxA.new w5 _ _)) hb6).ext hb7) (by omega) (.inl (by simp only [drew_heap, World.size_alloc]; omega)) (by omega) _ _ _)
          case rest2 =>
            rintro a' W3 ⟨bm, bt, Ad, Ai, As, cd, ci, cs, rfl, hb3, bT, hdT, hcd⟩
            subst hg1
            simp only [List.setIfInBounds_toArray, List.set_cons_zero, List.set_cons_succ]
            have HB3 := Below.then_ HB2 hb3
            have HBR3 := Lib.hid (HBR2.out.ext hb3)
            have HBT := Lib.hid bT
            have HDT := Lib.hid hdT
            have t0 := bT.cell 0
            have t1 := bT.cell 1
            have t2 := bT.cell 2
            have bI3 := HBI2.out.ext hb3
            have i0 := bI3.cell 0
            have i1 := bI3.cell 1
            have hft := findN_lt (thr_mem (List.mem_of_getElem? HDI.out)) HDP.out HDQ.out
            obtain ⟨T, hT⟩ : ∃ T, thr (cntDs kn ds) (nmD d') = T := ⟨_, rfl⟩
            have hTl : T.length = (sub (cntDs kn ds) (nmD d')).length := by rw [← hT, thr, List.length_map]
            have hTn : (sub (cntDs kn ds) (nmD d')).length ≤ 60 := Nat.le_trans (sub_length_le _ _) HC60.out
            rw [hT] at hdT hft
            obtain ⟨m, hm⟩ : ∃ m, findN p q T = m := ⟨_, rfl⟩
            rw [hm] at hft
            have HTT := Lib.hid hT
            have HM := Lib.hid hm
            have HDT := Lib.hid hdT
            obtain ⟨nt, hnt⟩ : ∃ nt, (sub (cntDs kn ds) (nmD d')).length = nt := ⟨_, rfl⟩
            rw [hnt] at hdT hTl hTn hcd t0 t1 t2 bT
            clear HBT
            have HBT := Lib.hid bT
            have HDT := Lib.hid hdT
            have HTL := Lib.hid hTl
            have hmn : m < nt := by omega
            clear x0 x1 x2 x3 x4 x5 x6 x7 x8 hdT hT hm hTl bT bI3 hb3
            simp only [hnt]
            clear hnt
            gi_wp2_with (refine ⟨trivial, ?_⟩; gi_at_call 49; refine (callsIn_wide.2 (p_find_some T p q m _ _ _ _ (by omega) HDT.out HM.out (by have := HTL.out; omega))).mono ?_; rintro e w8 ⟨rfl, hb8⟩)
            refine wpIn_named2 fun g3 W8 hg3 hW8 => ?_
            subst hW8
            have HBT8 := Lib.hid (HBT.out.ext hb8)
            have bR8 := HBR3.out.ext hb8
            have HBR8 := Lib.hid bR8
            have HB8 := Below.then_ HB3 hb8
            have HD8 := Lib.hid (HDT.out.now hb8)
            have t0 := HBT8.out.cell 0
            have t1 := HBT8.out.cell 1
            have t2 := HBT8.out.cell 2
            obtain ⟨lo, hlo⟩ : ∃ lo, eaI (T.take (m + 1)) = lo := ⟨_, rfl⟩
            obtain ⟨hi, hhi⟩ : ∃ hi, laI (T.drop m) = hi := ⟨_, rfl⟩
            have HLO := Lib.hid hlo
            have HHI := Lib.hid hhi
            clear hlo hhi bR8
            refine wpIn_cut (fun a' W' => a' = { tmps := ((((((((g3.tmps.setIfInBounds 55 (.agg #[.slice Ad nt cd, .slice Ai nt ci, .slice As nt cs])).setIfInBounds 56 (.int .i64 m)).setIfInBounds 57 (.int .i64 lo)).setIfInBounds 58 (.agg #[.slice Ad nt cd, .slice Ai nt ci, .slice As nt cs])).setIfInBounds 59 (.int .i64 m)).setIfInBounds 60 (.int .i64 hi)).setIfInBounds 61 (.agg #[.int .i64 lo, .int .i64 hi])).setIfInBounds 7 (.int .i64 0)), defers := [] } ∧ BoxA W' (w.heap.size + 1) 39 #[.int .i64 lo, .int .i64 hi] ∧ Below w.heap.size w W') ?reg3 ?rest3
            case reg3 =>
              subst hg3
              have hpe : ∀ W : World, Ds W W.heap.size Ad nt T → Calls Tryz.prog 54 #[.agg #[.slice Ad nt cd, .slice Ai nt ci, .slice As nt cs], .int .i64 m] W fun e w' => e = .returned (.int .i64 lo) ∧ Below W.heap.size W w' := fun W h => by
                have := p_earliest T m Ad Ai As nt cd nt ci nt cs W hmn (by omega) hcd h
                rwa [HLO.out] at this
              have hpl : ∀ W : World, Ds W W.heap.size Ad nt T → Calls Tryz.prog 55 #[.agg #[.slice Ad nt cd, .slice Ai nt ci, .slice As nt cs], .int .i64 m] W fun e w' => e = .returned (.int .i64 hi) ∧ Below W.heap.size W w' := fun W h => by
                have := p_latest T m Ad Ai As nt cd nt ci nt cs W hmn (by omega) hcd h
                rwa [HHI.out] at this
              have hsB : w.heap.size ≤ w.heap.size + 1 := Nat.le_succ _
              have HPE := Lib.hid hpe
              have HPL := Lib.hid hpl
              clear hpe hpl
              gi_region_with_o (first
                | (refine ⟨trivial, ?_⟩; gi_at_call 54; refine (callsIn_wide.2 (HPE.out _ (HD8.out.now (by (repeat' (first | with_reducible exact Below.refl _ _ | with_reducible assumption | with_reducible refine Below.alloc ?_ ?_ _ | with_reducible refine Below.setCell ?_ ?_ _ | with_reducible refine Below.drew ?_ | (simp; done) | (simp; omega) | omega)))))).mono ?_; rintro e w9 ⟨rfl, hb9⟩; have HB89 : Below w8.heap.size w8 w9 := Below.then_ (by (repeat' (first | with_reducible exact Below.refl _ _ | with_reducible assumption | with_reducible refine Below.alloc ?_ ?_ _ | with_reducible refine Below.setCell ?_ ?_ _ | with_reducible refine Below.drew ?_ | (simp; done) | (simp; omega) | omega))) hb9; have bT9 := HBT8.out.ext HB89; have y0 := bT9.cell 0; have y1 := bT9.cell 1; have y2 := bT9.cell 2; have bR9 := HBR8.out.ext HB89; have r0 := bR9.cell 0; have r1 := bR9.cell 1; have f0 := boxa_frozen bR9 0; have f1 := boxa_frozen bR9 1; have hz9 : w.heap.size + 1 < w9.heap.size := bR9.lt)
                | (refine ⟨trivial, ?_⟩; gi_at_call 55; refine (callsIn_wide.2 (HPL.out _ (HD8.out.now (by (repeat' (first | with_reducible exact Below.refl _ _ | with_reducible assumption | with_reducible refine Below.alloc ?_ ?_ _ | with_reducible refine Below.setCell ?_ ?_ _ | with_reducible refine Below.drew ?_ | (simp; done) | (simp; omega) | omega)))))).mono ?_; rintro e w10 ⟨rfl, hb10⟩; have HB810 : Below w8.heap.size w8 w10 := Below.then_ (by (repeat' (first | with_reducible exact Below.refl _ _ | with_reducible assumption | with_reducible refine Below.alloc ?_ ?_ _ | with_reducible refine Below.setCell ?_ ?_ _ | with_reducible refine Below.drew ?_ | (simp; done) | (simp; omega) | omega))) hb10; have bT10 := HBT8.out.ext HB810; have y0 := bT10.cell 0; have y1 := bT10.cell 1; have y2 := bT10.cell 2; have bR10 := HBR8.out.ext HB810; have r0 := bR10.cell 0; have r1 := bR10.cell 1; have f0 := boxa_frozen bR10 0; have f1 := boxa_frozen bR10 1; have hz10 : w.heap.size + 1 < w10.heap.size := bR10.lt))
              all_goals
                first
                  | (refine ⟨?_, ?_, ?_⟩
                     rotate_left
                     · with_reducible exact boxa_set2 bR10 _ _
                     · with_reducible exact ((Below.then_ HB8 HB810).setCell hsB _).setCell hsB _
                     · simp only [List.setIfInBounds_toArray, List.set_cons_zero, List.set_cons_succ]; rfl)
                  | (refine ⟨?_, ?_, ?_⟩
                     rotate_left
                     · with_reducible exact boxa_set2 bR9 _ _
                     · with_reducible exact ((Below.then_ HB8 HB89).setCell hsB _).setCell hsB _
                     · simp only [List.setIfInBounds_toArray, List.set_cons_zero, List.set_cons_succ]; rfl)
            case rest3 =>
              subst hg3
              rintro a' W9 ⟨rfl, bR9, HB9⟩
              simp only [List.setIfInBounds_toArray, List.set_cons_zero, List.set_cons_succ]
              have r0 := bR9.cell 0
              have r1 := bR9.cell 1
              gi_wp2
              refine ⟨.tuple #[.agg #[.int .i64 lo, .int .i64 hi], .int .i64 0], by simp [results, Tryz.f24, go_sem, r0, r1], ?_⟩
              have HE : whenE ds kn p q = 0 := by rw [whenE, if_pos HV.out, if_pos HF.out, HCL.out]; rfl
              have HR : whenR (cntDs kn ds) p q = (lo, hi) := by rw [whenR, HI.out, HDI.out]; simp only [HTT.out, HM.out, HLO.out, HHI.out]
              exact ⟨by rw [whenV, HE, HR]; rfl, HB9⟩
    · have HF := Lib.hid hf
      refine wpIn_cut (fun a' W' => (∃ A1 c1, a' = { tmps := ((((((g0.tmps.setIfInBounds 25 (.slice A n c)).setIfInBounds 26 (.int .i64 kn)).setIfInBounds 27 (.slice A1 (cntDs kn ds).length c1)).setIfInBounds 28 (.agg #[.int .i64 p, .int .i64 q])).setIfInBounds 29 (.int .i64 (-1))).setIfInBounds 9 (.int .i64 (-1))), defers := [] }) ∧ Below W0.heap.size W0 W') ?reg ?rest
      case reg =>
        subst hg0
        gi_region_with_o (first
          | (refine ⟨trivial, ?_⟩; gi_at_call 50; refine (callsIn_wide.2 (p_counting ds kn _ _ _ _ (by omega) (HD.out.now (by (repeat' (first | with_reducible exact Below.refl _ _ | with_reducible assumption | with_reducible refine Below.alloc ?_ ?_ _ | with_reducible refine Below.setCell ?_ ?_ _ | with_reducible refine Below.drew ?_ | (simp; done) | (simp; omega) | omega)))))).mono ?_; rintro e w2 ⟨A1, c1, rfl, hb2, hd2, _, _⟩; have bI4 := BoxA.ext (W := W0.drew) HBI.out hb2; have j0 := bI4.cell 0; have j1 := bI4.cell 1)
          | (refine ⟨trivial, ?_⟩; gi_at_call 49; refine (callsIn_wide.2 (p_find_none (cntDs kn ds) p q _ _ _ _ (by have := HC60.out; omega) hd2 HF.out)).mono ?_; rintro e w3 ⟨rfl, hb3⟩))
        all_goals exact ⟨⟨_, _, rfl⟩, Below.then_ (Below.then_ (Below.refl W0.heap.size W0).drew hb2) hb3⟩
      case rest =>
        rintro a' W1 ⟨⟨A1, c1, rfl⟩, hb1⟩
        subst hg0
        simp only [List.setIfInBounds_toArray, List.set_cons_zero, List.set_cons_succ]
        have HB3 := Below.then_ HB0 hb1
        have bR5 := HBR.out.ext hb1
        have r0 := bR5.cell 0
        have r1 := bR5.cell 1
        have f0 := boxa_frozen bR5 0
        have f1 := boxa_frozen bR5 1
        gi_wp2
        refine ⟨.tuple #[.agg #[.int .i64 0, .int .i64 0], .int .i64 3], by simp [results, Tryz.f24, go_sem, r0, r1], ?_⟩
        have HE : whenE ds kn p q = 3 := by rw [whenE, if_pos HV.out, if_neg HF.out]
        exact ⟨by rw [whenV, HE]; rfl, (HB3.setCell (by simp only; omega) _).setCell (by simp only; omega) _⟩
  · have HE : Hid (whenE ds kn p q = v) := by show _ = _; rw [whenE, HV.out, if_neg hv0]
    have HR : Hid (whenV ds kn p q = .agg #[.int .i64 0, .int .i64 0]) := by show _ = _; rw [whenV, HE.out, if_neg hv0]
    have hv1 : (v != 0) = true := by simpa using hv0
    have hv2 : decide (v = 0) = false := by simpa using hv0
    clear hv0
    go_enter Tryz.func24, Tryz.ntmps24
    go_wp2_with (first | (go_at_call 10; refine (p_check ds _ _ _ _ hn (HD.out.now (by (repeat' (first | with_reducible exact Below.refl _ _ | with_reducible assumption | with_reducible refine Below.alloc ?_ ?_ _ | with_reducible refine Below.setCell ?_ ?_ _ | with_reducible refine Below.drew ?_ | (simp; done) | (simp; omega) | omega))))).mono ?_; rintro e w1 ⟨rfl, hb1⟩; have HB1 : Below w.heap.size w w1 := Below.then_ (by (repeat' (first | with_reducible exact Below.refl _ _ | with_reducible assumption | with_reducible refine Below.alloc ?_ ?_ _ | with_reducible refine Below.setCell ?_ ?_ _ | with_reducible refine Below.drew ?_ | (simp; done) | (simp; omega) | omega))) hb1; have bI := BoxA.ext (B := w.heap.size) (t := 37) (cs := #[.int .i64 p, .int .i64 q]) (by simp only [boxa_iff, alloc_get, World.size_alloc]; simp) hb1; have bR := BoxA.ext (B := w.heap.size + 1) (t := 39) (cs := #[.int .i64 0, .int .i64 0]) (by simp only [boxa_iff, alloc_get, World.size_alloc]; simp) hb1; have hz1 : w.heap.size + 1 < w1.heap.size := bR.lt;clear hb1) | (go_at_call 48; refine (p_checkDays [kn] _ 1 1 _ (by decide) (Rd.new _ #[.int .i64 kn] _ 1 1 _ (by simp) rfl)).mono ?_; rintro e w1c ⟨rfl, hb1c⟩; have HB1 : Below w.heap.size w w1c := Below.then_ (by (repeat' (first | with_reducible exact Below.refl _ _ | with_reducible assumption | with_reducible refine Below.alloc ?_ ?_ _ | with_reducible refine Below.setCell ?_ ?_ _ | with_reducible refine Below.drew ?_ | (simp; done) | (simp; omega) | omega))) hb1c; have bI := (bI.alloc (.cells #[.int .i64 kn] 3)).ext hb1c; have bR := (bR.alloc (.cells #[.int .i64 kn] 3)).ext hb1c; have hz1 : w.heap.size + 1 < w1c.heap.size := bR.lt; clear hb1c) | (go_at_call 47; refine (p_first [errI (checkB ds) 11, errI (daysOk [kn]) 6] v _ 2 2 _ (by decide) (Rd.new _ #[.int .i64 (errI (checkB ds) 11), .int .i64 (errI (daysOk [kn]) 6)] _ 1 2 _ (by simp) rfl) HV.out).mono ?_; rintro e w2 ⟨rfl, rfl⟩; have bR2 := bR.alloc (.cells #[.int .i64 (errI (checkB ds) 11), .int .i64 (errI (daysOk [kn]) 6)] 23); have bI2 := bI.alloc (.cells #[.int .i64 (errI (checkB ds) 11), .int .i64 (errI (daysOk [kn]) 6)] 23); have r0 := bR2.cell 0; have r1 := bR2.cell 1; have f0 := boxa_frozen bR2 0; have f1 := boxa_frozen bR2 1; have f0c := boxa_frozen bR 0; have f1c := boxa_frozen bR 1; have r0c := bR.cell 0; have r1c := bR.cell 1; have i0 := bI2.cell 0; have i1 := bI2.cell 1))
    refine bodyPost_ret (v := .tuple #[.agg #[.int .i64 0, .int .i64 0], .int .i64 v]) (by simp [results, Tryz.f24, go_sem, r0, r1, r0c, r1c, hz1]) rfl ⟨by rw [HR.out, HE.out], ?_⟩
    (repeat' (first | with_reducible exact Below.refl _ _ | with_reducible assumption | with_reducible refine Below.alloc ?_ ?_ _ | with_reducible refine Below.setCell ?_ ?_ _ | with_reducible refine Below.drew ?_ | (simp; done) | (simp; omega) | omega))

end Go.Proofs.YtikioiblaoimkaaGreatDoor
