import Derived.Test.YtaomfjgleddpdaaGreatP2
import Derived.Test.YtaomfjgleddpdaaGreatN2
import Derived.Test.YtaomfjgleddpdaaGreatN4
set_option linter.unusedVariables false
set_option linter.unusedSimpArgs false

/- Changed of both; the reference's Without and Moved. -/
namespace Go.Proofs.YtaomfjgleddpdaaGreat
open Go.RowKit
attribute [local go_sem] Oper.semAt_some

def chRes (ds : List Deed) (err kn km day : Int) : List Int := if err = 0 then mvL ds ds kn km day 3 else []

set_option maxRecDepth 100000 in
set_option maxHeartbeats 2000000 in
theorem p_Changed (ds : List Deed) (day kn km err : Int) (xs : List Int) (A : Option Addr) (n c : Nat) (w : World) (hn : n ≤ 9223372036854775807) (hd : Ds w w.heap.size A n ds) (he : askE ds [day, kn, km] = err) (hx : chRes ds err kn km day = xs) :
    Calls Tryz.prog 50 #[.slice A n c, .int .i64 day, .int .i64 kn, .int .i64 km] w (RetL xs err w) := by
  have HD := Lib.hid hd
  have HE : Hid (orL [errI (checkB ds) 11, errI (daysOk [day, kn, km]) 6] = err) := by show _ = _; rw [askE_or]; exact he
  have HX := Lib.hid hx
  clear hd he hx
  by_cases h0 : err = 0
  · subst h0
    have HR : Hid (mvL ds ds kn km day 3 = xs) := by show _ = _; rw [← HX.out, chRes, if_pos rfl]
    go_enter Tryz.func50, Tryz.ntmps50
    go_wp2_with (first | (go_at_call 21; refine (p_check ds _ _ _ _ hn HD.out).mono ?_; rintro e w1 ⟨rfl, hb1⟩; obtain ⟨hc1, hf1⟩ := bcell hb1; have HB1 : Below w.heap.size w w1 := Below.then_ (by (repeat' (first | with_reducible exact Below.refl _ _ | with_reducible assumption | with_reducible refine Below.alloc ?_ ?_ _ | with_reducible refine Below.setCell ?_ ?_ _ | with_reducible refine Below.drew ?_ | (simp; done) | (simp; omega) | omega))) hb1; have hs1 := HB1.size) | (go_at_call 84; refine (p_checkDays [day, kn, km] _ 3 3 _ (by decide) (Rd.new _ #[.int .i64 day, .int .i64 kn, .int .i64 km] _ 1 3 _ (by simp) rfl)).mono ?_; rintro e w1 ⟨rfl, hb1⟩; obtain ⟨hc1, hf1⟩ := bcell hb1; have HB1 : Below w.heap.size w w1 := Below.then_ (by (repeat' (first | with_reducible exact Below.refl _ _ | with_reducible assumption | with_reducible refine Below.alloc ?_ ?_ _ | with_reducible refine Below.setCell ?_ ?_ _ | with_reducible refine Below.drew ?_ | (simp; done) | (simp; omega) | omega))) hb1; have hs1 := HB1.size) | (go_at_call 83; refine (p_first [errI (checkB ds) 11, errI (daysOk [day, kn, km]) 6] 0 _ 2 2 _ (by decide) (Rd.new _ #[.int .i64 (errI (checkB ds) 11), .int .i64 (errI (daysOk [day, kn, km]) 6)] _ 1 2 _ (by simp) rfl) HE.out).mono ?_; rintro e w1 ⟨rfl, rfl⟩) | (go_at_call 115; fail))
    refine (p_differing ds ds kn km day _ _ _ _ _ _ _ hn hn (HD.out.now (by (repeat' (first | with_reducible exact Below.refl _ _ | with_reducible assumption | with_reducible refine Below.alloc ?_ ?_ _ | with_reducible refine Below.setCell ?_ ?_ _ | with_reducible refine Below.drew ?_ | (simp; done) | (simp; omega) | omega)))) (HD.out.now (by (repeat' (first | with_reducible exact Below.refl _ _ | with_reducible assumption | with_reducible refine Below.alloc ?_ ?_ _ | with_reducible refine Below.setCell ?_ ?_ _ | with_reducible refine Below.drew ?_ | (simp; done) | (simp; omega) | omega))))).mono ?_
    rw [HR.out]
    rintro e w2 ⟨A2, c2, rfl, hb2, hi2, hc2⟩
    have HB2 : Below w.heap.size w w2 := Below.then_ (by (repeat' (first | with_reducible exact Below.refl _ _ | with_reducible assumption | with_reducible refine Below.alloc ?_ ?_ _ | with_reducible refine Below.setCell ?_ ?_ _ | with_reducible refine Below.drew ?_ | (simp; done) | (simp; omega) | omega))) hb2
    have HI2 := Lib.hid hi2
    clear hb2 hi2
    go_wp2_with fail
    go_ret2
    exact ⟨A2, c2, rfl, HB2, HI2.out, hc2⟩
  · have h1 : (err != 0) = true := by simpa using h0
    have hx : xs = [] := by rw [← HX.out, chRes, if_neg h0]
    subst hx
    clear h0
    go_enter Tryz.func50, Tryz.ntmps50
    go_wp2_with (first | (go_at_call 21; refine (p_check ds _ _ _ _ hn HD.out).mono ?_; rintro e w1 ⟨rfl, hb1⟩; obtain ⟨hc1, hf1⟩ := bcell hb1; have HB1 : Below w.heap.size w w1 := Below.then_ (by (repeat' (first | with_reducible exact Below.refl _ _ | with_reducible assumption | with_reducible refine Below.alloc ?_ ?_ _ | with_reducible refine Below.setCell ?_ ?_ _ | with_reducible refine Below.drew ?_ | (simp; done) | (simp; omega) | omega))) hb1; have hs1 := HB1.size) | (go_at_call 84; refine (p_checkDays [day, kn, km] _ 3 3 _ (by decide) (Rd.new _ #[.int .i64 day, .int .i64 kn, .int .i64 km] _ 1 3 _ (by simp) rfl)).mono ?_; rintro e w1 ⟨rfl, hb1⟩; obtain ⟨hc1, hf1⟩ := bcell hb1; have HB1 : Below w.heap.size w w1 := Below.then_ (by (repeat' (first | with_reducible exact Below.refl _ _ | with_reducible assumption | with_reducible refine Below.alloc ?_ ?_ _ | with_reducible refine Below.setCell ?_ ?_ _ | with_reducible refine Below.drew ?_ | (simp; done) | (simp; omega) | omega))) hb1; have hs1 := HB1.size) | (go_at_call 83; refine (p_first [errI (checkB ds) 11, errI (daysOk [day, kn, km]) 6] err _ 2 2 _ (by decide) (Rd.new _ #[.int .i64 (errI (checkB ds) 11), .int .i64 (errI (daysOk [day, kn, km]) 6)] _ 1 2 _ (by simp) rfl) HE.out).mono ?_; rintro e w1 ⟨rfl, rfl⟩))
    go_ret2
    exact ⟨none, 0, rfl, by (repeat' (first | with_reducible exact Below.refl _ _ | with_reducible assumption | with_reducible refine Below.alloc ?_ ?_ _ | with_reducible refine Below.setCell ?_ ?_ _ | with_reducible refine Below.drew ?_ | (simp; done) | (simp; omega) | omega)), Rd.nil_, Nat.le_refl _⟩

set_option maxRecDepth 100000 in
set_option maxHeartbeats 2000000 in
theorem r_Changed (ds : List Deed) (day kn km err : Int) (xs : List Int) (A : Option Addr) (n c : Nat) (w : World) (hn : n ≤ 9223372036854775807) (hd : Ds w w.heap.size A n ds) (he : askE ds [day, kn, km] = err) (hx : chRes ds err kn km day = xs) :
    Calls Tryz.prog 51 #[.slice A n c, .int .i64 day, .agg #[.int .i64 kn, .int .i64 km]] w (RetL xs err w) := by
  have HD := Lib.hid hd
  have HE := Lib.hid he
  have HX := Lib.hid hx
  clear hd he hx
  go_enter Tryz.func51, Tryz.ntmps51
  go_wp2_with fail
  refine (r_asked_v ds [day, kn, km] err _ _ _ _ 3 3 _ hn (by decide) (HD.out.now (by (repeat' (first | with_reducible exact Below.refl _ _ | with_reducible assumption | with_reducible refine Below.alloc ?_ ?_ _ | with_reducible refine Below.setCell ?_ ?_ _ | with_reducible refine Below.drew ?_ | (simp; done) | (simp; omega) | omega)))) (Rd.new _ #[.int .i64 day, .int .i64 kn, .int .i64 km] 3 1 3 _ (by simp) rfl) HE.out).mono ?_
  rintro e w1 ⟨rfl, hb1⟩
  have HBA := Lib.hid (((BoxA.new w 41 #[.int .i64 kn, .int .i64 km]).alloc (.cells #[.int .i64 day, .int .i64 kn, .int .i64 km] 3)).ext hb1)
  have HB1 : Below w.heap.size w w1 := Below.then_ (by (repeat' (first | with_reducible exact Below.refl _ _ | with_reducible assumption | with_reducible refine Below.alloc ?_ ?_ _ | with_reducible refine Below.setCell ?_ ?_ _ | with_reducible refine Below.drew ?_ | (simp; done) | (simp; omega) | omega))) hb1
  clear hb1
  have x0 := HBA.out.cell 0
  have x1 := HBA.out.cell 1
  by_cases h0 : err = 0
  · subst h0
    have HR : Hid (mvL ds ds kn km day 3 = xs) := by show _ = _; rw [← HX.out, chRes, if_pos rfl]
    go_wp2_with fail
    refine (r_differ ds ds kn km day _ _ _ _ _ _ _ hn hn (HD.out.now HB1) (HD.out.now HB1)).mono ?_
    rw [HR.out]
    rintro e w2 ⟨A2, c2, rfl, hb2, hi2, hc2⟩
    have HI2 := Lib.hid hi2
    clear hi2
    go_wp2_with fail
    go_ret2
    exact ⟨A2, c2, rfl, Below.then_ HB1 hb2, HI2.out, hc2⟩
  · have h1 : (err != 0) = true := by simpa using h0
    have hx : xs = [] := by rw [← HX.out, chRes, if_neg h0]
    subst hx
    clear h0
    go_wp2_with fail
    go_ret2
    exact ⟨none, 0, rfl, HB1, Rd.nil_, Nat.le_refl _⟩

/-- Deeds without those with an item. -/
def wfil (p q : Int) (ds : List Deed) : List Deed := ds.filter fun d => !(decide (d.par = p) && decide (d.no = q))
theorem wfil_in {p q : Int} {ds : List Deed} {k : Nat} {d : Deed} (h : ds[k]? = some d) (hn : ¬ (d.par = p ∧ d.no = q)) : wfil p q (ds.take (k + 1)) = wfil p q (ds.take k) ++ [d] := by
  rw [take_snoc_some h, wfil, List.filter_append]
  congr 1
  rw [List.filter_cons_of_pos]
  · rfl
  · simp only [Bool.not_eq_true', Bool.and_eq_false_imp, decide_eq_true_eq, decide_eq_false_iff_not]
    exact fun h1 h2 => hn ⟨h1, h2⟩
theorem wfil_out {p q : Int} {ds : List Deed} {k : Nat} {d : Deed} (h : ds[k]? = some d) (h1 : d.par = p) (h2 : d.no = q) : wfil p q (ds.take (k + 1)) = wfil p q (ds.take k) := by
  rw [take_snoc_some h, wfil, List.filter_append]
  simp [h1, h2, wfil]
theorem wfil_len (p q : Int) (ds : List Deed) : (wfil p q ds).length ≤ ds.length := List.length_filter_le _ _
theorem wfil_gone {p q : Int} : ∀ {ds : List Deed}, ¬ findN p q ds < ds.length → wfil p q ds = ds := by
  intro ds
  induction ds with
  | nil => intro _; rfl
  | cons a l ih =>
    intro h
    rw [findN] at h
    split at h
    · simp at h
    · rename_i hn
      unfold wfil at ih ⊢
      rw [List.filter_cons_of_pos, ih (by simpa using h)]
      simp only [Bool.not_eq_true', Bool.and_eq_false_imp, decide_eq_true_eq, decide_eq_false_iff_not]
      exact fun h1 h2 => hn ⟨h1, h2⟩
theorem wfil_none {p q : Int} {l : List Deed} (h : ∀ x ∈ l, ¬ (x.par = p ∧ x.no = q)) : wfil p q l = l := by
  unfold wfil
  rw [List.filter_eq_self]
  intro x hx
  simp only [Bool.not_eq_true', Bool.and_eq_false_imp, decide_eq_true_eq, decide_eq_false_iff_not]
  exact fun h1 h2 => h x hx ⟨h1, h2⟩
theorem wfil_found {p q : Int} : ∀ {ds : List Deed}, KN ds → findN p q ds < ds.length → wfil p q ds = without p q ds := by
  intro ds
  induction ds with
  | nil => intro _ h; simp at h
  | cons a l ih =>
    intro hk h
    have ha := (List.pairwise_cons.1 hk).1
    have hl := (List.pairwise_cons.1 hk).2
    unfold without
    rw [findN] at h ⊢
    split
    · rename_i hn
      simp only [List.take_zero, Nat.zero_add, List.drop_succ_cons, List.drop_zero, List.nil_append]
      unfold wfil
      rw [List.filter_cons_of_neg (by simp [hn.1, hn.2])]
      exact wfil_none fun x hx e => ha x hx (by simp [kOf, hn.1, hn.2, e.1, e.2])
    · rename_i hn
      rw [if_neg hn] at h
      have h2 := ih hl (by simpa using h)
      unfold wfil without at h2
      unfold wfil
      rw [List.filter_cons_of_pos, h2]
      · simp
      · simp only [Bool.not_eq_true', Bool.and_eq_false_imp, decide_eq_true_eq, decide_eq_false_iff_not]
        exact fun h1 h2 => hn ⟨h1, h2⟩
theorem without_len {p q : Int} {ds : List Deed} (h : findN p q ds < ds.length) : (without p q ds).length < ds.length := by
  unfold without
  rw [List.length_append, List.length_take, List.length_drop]
  omega

set_option maxRecDepth 100000 in
set_option maxHeartbeats 2000000 in
theorem r_Without (ds : List Deed) (p q : Int) (A : Option Addr) (n c : Nat) (w : World) (hn : n ≤ 1000000) (hd : Ds w w.heap.size A n ds) :
    Calls Tryz.prog 118 #[.slice A n c, .agg #[.int .i64 p, .int .i64 q]] w fun e w' => ∃ A' c', e = .returned (.tuple #[.slice A' (wfil p q ds).length c', .bool (decide ((wfil p q ds).length < ds.length))]) ∧ Below w.heap.size w w' ∧ Ds w' w'.heap.size A' (wfil p q ds).length (wfil p q ds) := by
  obtain ⟨i0, hi, hz0, hz1, hz2⟩ := info_parts infoDeed
  have HD := Lib.hid hd
  have HL := Lib.hid hd.len
  clear hd
  go_enter Tryz.func118, Tryz.ntmps118
  go_wp2_with fail
  go_loopw [6, 11] (fun v i wr => ∃ k : Nat, k ≤ n ∧ i = .int .i64 k ∧ wr.ownsRow (w.heap.size + 1) 28 9 v (wfil p q (ds.take k)).length (deedCells (wfil p q (ds.take k))) ∧ BoxA wr w.heap.size 24 #[.int .i64 p, .int .i64 q] ∧ Below w.heap.size w wr) (fun _ i _ => n - (intOf i).toNat)
  case atStart => exact ⟨0, by omega, rfl, World.ownsRow_nil _ _ _ _, BoxA.new _ _ _, by (repeat' (first | with_reducible exact Below.refl _ _ | with_reducible assumption | with_reducible refine Below.alloc ?_ ?_ _ | with_reducible refine Below.setCell ?_ ?_ _ | with_reducible refine Below.drew ?_ | (simp; done) | (simp; omega) | omega))⟩
  case round =>
    obtain ⟨k, hk, rfl, hown, hbx, hB⟩ := hrel
    obtain ⟨wo, rfl⟩ : ∃ wo : World, wo = wr := ⟨_, rfl⟩
    have hs0 : w.heap.size < wo.heap.size := hbx.lt
    have HOW := Lib.hid hown
    have HBX := Lib.hid hbx
    have HBB := Lib.hid hB
    obtain ⟨A0, c0, rfl, hcc⟩ := own_slice hown
    clear hown hbx hB
    by_cases hlt : k < n
    · obtain ⟨b, o, d, rfl, hb, hdk, hat⟩ := (HD.out.ext HBB.out (Nat.le_refl _)).at_ hlt
      have HK := Lib.hid hdk
      clear hdk
      obtain ⟨a0, a1, a2, a3, a4, a5, a6, a7, a8⟩ := hat
      have q0 := HBX.out.cell 0
      have q1 := HBX.out.cell 1
      have hcl := wfil_len p q (ds.take k)
      have hcl2 : (ds.take k).length ≤ k := List.length_take_le _ _
      by_cases hpq : d.par = p ∧ d.no = q
      · have HE := Lib.hid (wfil_out HK.out hpq.1 hpq.2)
        have HBN := Lib.hid (HBB.out.alloc (by omega) (.cells #[.int .i64 d.par, .int .i64 d.no, .int .i64 d.kind, .int .i64 d.lock, .int .i64 d.person, .int .i64 d.lo, .int .i64 d.hi, .int .i64 d.known, .int .i64 d.til] 28))
        have HON := Lib.hid (HOW.out.alloc (.cells #[.int .i64 d.par, .int .i64 d.no, .int .i64 d.kind, .int .i64 d.lock, .int .i64 d.person, .int .i64 d.lo, .int .i64 d.hi, .int .i64 d.known, .int .i64 d.til] 28))
        have HXN := Lib.hid (HBX.out.alloc (.cells #[.int .i64 d.par, .int .i64 d.no, .int .i64 d.kind, .int .i64 d.lock, .int .i64 d.person, .int .i64 d.lo, .int .i64 d.hi, .int .i64 d.known, .int .i64 d.til] 28))
        obtain ⟨rfl, rfl⟩ := hpq
        go_wp2_with fail
        go_roundw
        case rel => exact ⟨k + 1, by omega, by go_num, by rw [HE.out]; exact HON.out, HXN.out, HBN.out⟩
        case measure => simp [intOf]; omega
      · have HE := Lib.hid (wfil_in HK.out hpq)
        have HOA := Lib.hid ((HOW.out.alloc (.cells #[.int .i64 d.par, .int .i64 d.no, .int .i64 d.kind, .int .i64 d.lock, .int .i64 d.person, .int .i64 d.lo, .int .i64 d.hi, .int .i64 d.known, .int .i64 d.til] 28)).alloc (.cells #[.int .i64 d.par, .int .i64 d.no, .int .i64 d.kind, .int .i64 d.lock, .int .i64 d.person, .int .i64 d.lo, .int .i64 d.hi, .int .i64 d.known, .int .i64 d.til] 28))
        have htail : ∀ (v' : Value) (w1 : World), w1.ownsRow (w.heap.size + 1) 28 9 v' ((wfil p q (ds.take k)).length + 1) (deedCells (wfil p q (ds.take k)) ++ [.int .i64 d.par, .int .i64 d.no, .int .i64 d.kind, .int .i64 d.lock, .int .i64 d.person, .int .i64 d.lo, .int .i64 d.hi, .int .i64 d.known, .int .i64 d.til]) → ((wo.alloc (.cells #[.int .i64 d.par, .int .i64 d.no, .int .i64 d.kind, .int .i64 d.lock, .int .i64 d.person, .int .i64 d.lo, .int .i64 d.hi, .int .i64 d.known, .int .i64 d.til] 28)).alloc (.cells #[.int .i64 d.par, .int .i64 d.no, .int .i64 d.kind, .int .i64 d.lock, .int .i64 d.person, .int .i64 d.lo, .int .i64 d.hi, .int .i64 d.known, .int .i64 d.til] 28)).grownBy w1 (Value.slice A0 (wfil p q (ds.take k)).length c0).ownBlock →
            w1.ownsRow (w.heap.size + 1) 28 9 v' (wfil p q (ds.take (k + 1))).length (deedCells (wfil p q (ds.take (k + 1)))) ∧ BoxA w1 w.heap.size 24 #[.int .i64 p, .int .i64 q] ∧ Below w.heap.size w w1 := fun v' w1 h1 h2 => by
          refine ⟨by rw [HE.out, deedCells_append, List.length_append]; exact h1, ((HBX.out.alloc _).alloc _).kept h2 ?_, Below.appended HBB.out (((Below.refl _ _).alloc (Nat.le_refl _) _).alloc (by simp) _) (own_down HOW.out (by omega)) h2⟩
          intro e2
          have := own_base HOW.out e2.symm
          omega
        have HT := Lib.hid htail
        clear htail
        have hfin : (d.par ≠ p) ∨ (d.par = p ∧ d.no ≠ q) := by
          by_cases h1 : d.par = p
          · exact .inr ⟨h1, fun h2 => hpq ⟨h1, h2⟩⟩
          · exact .inl h1
        clear hpq
        rcases hfin with hne | ⟨rfl, hne⟩
        all_goals
          go_wp2_with (at_builtin; refine wpList_append_own _ rfl (.tmp 19) (.tmp 21) 22 rfl (w.heap.size + 1) 28 i0 _ 9 72 Tryz.underlying22 hi hz0 hz1 hz2 rfl (by decide) _ _ _ rfl HOA.out ⟨wo.heap.size + 1, 0, none⟩ 1 1 [.int .i64 d.par, .int .i64 d.no, .int .i64 d.kind, .int .i64 d.lock, .int .i64 d.person, .int .i64 d.lo, .int .i64 d.hi, .int .i64 d.known, .int .i64 d.til] rfl rfl ?c1 ?c2 ?c3 ?c4 ?c5 ?_; rotate_left 5; intro v' w1 hown1 hgrow1 _)
          case c1 => have h := news_deed (wo.alloc (.cells #[.int .i64 d.par, .int .i64 d.no, .int .i64 d.kind, .int .i64 d.lock, .int .i64 d.person, .int .i64 d.lo, .int .i64 d.hi, .int .i64 d.known, .int .i64 d.til] 28)) d; simpa using h
          case c2 => simp [Value.oneCell']
          case c3 => unfold maxLen; omega
          case c4 => omega
          case c5 => simp; omega
          obtain ⟨r1, r2, r3⟩ := HT.out v' w1 hown1 hgrow1
          go_roundw
          case rel => exact ⟨k + 1, by omega, by go_num, r1, r2, r3⟩
          case measure => simp [intOf]; omega
    · obtain rfl : k = n := by omega
      have HT : Hid (ds.take k = ds) := List.take_of_length_le (by rw [HL.out]; exact Nat.le_refl _)
      have hr := Rd.of_own HOW.out
      rw [HT.out] at hr hcc ⊢
      have HR := Lib.hid hr
      clear hr
      go_wp2_with fail
      go_ret2
      exact ⟨A0, c0, by rw [HL.out]; simp, HBB.out, HR.out⟩

end Go.Proofs.YtaomfjgleddpdaaGreat

/- The reference's Moved; KeysMoves: the walk. -/
namespace Go.Proofs.YtaomfjgleddpdaaGreat
open Go.RowKit
attribute [local go_sem] Oper.semAt_some

set_option maxRecDepth 100000 in
set_option maxHeartbeats 2000000 in
theorem r_Moved (ds : List Deed) (p q lk pe day kn err : Int) (xs : List Int) (A : Option Addr) (n c : Nat) (w : World) (hn : n ≤ 9223372036854775807) (hd : Ds w w.heap.size A n ds) (hx : mvRes ds p q day kn = xs) (he : mvErr ds p q day kn = err) :
    Calls Tryz.prog 53 #[.slice A n c, .agg #[.int .i64 p, .int .i64 q], .agg #[.int .i64 lk, .int .i64 pe, .int .i64 day, .int .i64 kn]] w (RetL xs err w) := by
  have HD := Lib.hid hd
  have HL := Lib.hid hd.len
  have HX := Lib.hid hx
  have HE : Hid ((if askE ds [day, kn] = 0 then (if findN p q ds < ds.length then 0 else 3) else askE ds [day, kn]) = err) := by show _ = _; rw [← he, mvErr, askE_or]
  have HEM := Lib.hid he
  clear hd hx he
  obtain ⟨ae, hae⟩ : ∃ z, askE ds [day, kn] = z := ⟨_, rfl⟩
  have HAE := Lib.hid hae
  clear hae
  go_enter Tryz.func53, Tryz.ntmps53
  go_wp2_with fail
  refine (r_asked_v ds [day, kn] ae _ _ _ _ 2 2 _ hn (by decide) (HD.out.now (by (repeat' (first | with_reducible exact Below.refl _ _ | with_reducible assumption | with_reducible refine Below.alloc ?_ ?_ _ | with_reducible refine Below.setCell ?_ ?_ _ | with_reducible refine Below.drew ?_ | (simp; done) | (simp; omega) | omega)))) (Rd.new _ #[.int .i64 day, .int .i64 kn] 3 1 2 _ (by simp) rfl) HAE.out).mono ?_
  rintro e w1 ⟨rfl, hb1⟩
  have HBI := Lib.hid ((((BoxA.new w 24 #[.int .i64 p, .int .i64 q]).alloc (.cells #[.int .i64 lk, .int .i64 pe, .int .i64 day, .int .i64 kn] 59)).alloc (.cells #[.int .i64 day, .int .i64 kn] 3)).ext hb1)
  have HBA : Hid (BoxA w1 (w.heap.size + 1) 59 #[.int .i64 lk, .int .i64 pe, .int .i64 day, .int .i64 kn]) := by
    have h := ((BoxA.new (w.alloc (.cells #[.int .i64 p, .int .i64 q] 24)) 59 #[.int .i64 lk, .int .i64 pe, .int .i64 day, .int .i64 kn]).alloc (.cells #[.int .i64 day, .int .i64 kn] 3)).ext hb1
    simp only [World.size_alloc] at h
    exact h
  have HB1 : Below w.heap.size w w1 := Below.then_ (by (repeat' (first | with_reducible exact Below.refl _ _ | with_reducible assumption | with_reducible refine Below.alloc ?_ ?_ _ | with_reducible refine Below.setCell ?_ ?_ _ | with_reducible refine Below.drew ?_ | (simp; done) | (simp; omega) | omega))) hb1
  clear hb1
  by_cases h0 : ae = 0
  · subst h0
    have HCK := Lib.hid (ask_ok HAE.out).1
    have h60 : n ≤ 60 := by have := check_60 HCK.out; have := HL.out; omega
    have i0 := HBI.out.cell 0
    have i1 := HBI.out.cell 1
    go_wp2_with fail
    refine (r_Without ds p q _ _ _ _ (by omega) (HD.out.now HB1)).mono ?_
    rintro e w2 ⟨A2, c2, rfl, hb2, hd2⟩
    have HB2 : Below w.heap.size w w2 := Below.then_ HB1 hb2
    have HBA2 := Lib.hid (HBA.out.ext hb2)
    have HD2 := Lib.hid hd2
    clear hb2 hd2 i0 i1
    have x2 := HBA2.out.cell 2
    have x3 := HBA2.out.cell 3
    by_cases hf : findN p q ds < ds.length
    · have HW := Lib.hid (wfil_found (checkB_sd HCK.out).kn hf)
      have hlt : decide ((wfil p q ds).length < ds.length) = true := by rw [HW.out]; simpa using without_len hf
      have he0 : err = 0 := by rw [← HE.out, HAE.out, if_pos rfl, if_pos hf]
      have HR : Hid (mvL ds (wfil p q ds) kn kn day 3 = xs) := by show _ = _; rw [← HX.out, mvRes, HEM.out, if_pos he0, HW.out]
      have hwl : (wfil p q ds).length ≤ 60 := by have := wfil_len p q ds; have := HL.out; omega
      subst he0
      rw [hlt]
      clear hf hlt
      go_wp2_with fail
      refine (r_differ ds (wfil p q ds) kn kn day _ _ _ _ _ _ _ hn (by omega) (HD.out.now HB2) HD2.out).mono ?_
      rw [HR.out]
      rintro e w3 ⟨A3, c3, rfl, hb3, hi3, hc3⟩
      have HI3 := Lib.hid hi3
      clear hi3
      go_wp2_with fail
      go_ret2
      exact ⟨A3, c3, rfl, Below.then_ HB2 hb3, HI3.out, hc3⟩
    · have hlt : decide ((wfil p q ds).length < ds.length) = false := by rw [wfil_gone hf]; simp
      have he0 : err = 3 := by rw [← HE.out, HAE.out, if_pos rfl, if_neg hf]
      have hx : xs = [] := by rw [← HX.out, mvRes, HEM.out, he0]; rfl
      subst he0
      subst hx
      rw [hlt]
      clear hf hlt
      go_wp2_with fail
      go_ret2
      exact ⟨none, 0, rfl, HB2, Rd.nil_, Nat.le_refl _⟩
  · have h1 : (ae != 0) = true := by simpa using h0
    have he0 : err = ae := by rw [← HE.out, HAE.out, if_neg h0]
    have hx : xs = [] := by rw [← HX.out, mvRes, HEM.out, he0, if_neg h0]
    subst he0
    subst hx
    clear h0
    go_wp2_with fail
    go_ret2
    exact ⟨none, 0, rfl, HB1, Rd.nil_, Nat.le_refl _⟩

theorem mv_len (ds es : List Deed) (kn km day : Int) : (mvL ds es kn km day 3).length ≤ 1000000 := by have := mvL_len ds es kn km day 3; omega

set_option maxRecDepth 100000 in
set_option maxHeartbeats 4000000 in
theorem w_KeysMoves (ds : List Deed) (xs : List Int) (p q day kn later : Int) (A Ax : Option Addr) (n c nx cx : Nat) (w : World) (hn : n ≤ 9223372036854775807) (hnc : n ≤ c) (hd : Ds w w.heap.size A n ds) :
    Calls Tryz.prog 7 #[.slice A n c, .agg #[.int .i64 p, .int .i64 q, .int .i64 day, .int .i64 kn, .int .i64 later, .slice Ax nx cx]] w fun e w' => e = .returned (.bool true) ∧ Below w.heap.size w w' := by
  have HD := Lib.hid hd
  clear hd
  obtain ⟨ce, hce⟩ : ∃ z, askE ds [day, kn, later] = z := ⟨_, rfl⟩
  obtain ⟨cl, hcl⟩ : ∃ z, chRes ds ce kn later day = z := ⟨_, rfl⟩
  obtain ⟨me, hme⟩ : ∃ z, mvErr ds p q day kn = z := ⟨_, rfl⟩
  obtain ⟨ml, hml⟩ : ∃ z, mvRes ds p q day kn = z := ⟨_, rfl⟩
  have HCE := Lib.hid hce
  have HCL := Lib.hid hcl
  have HME := Lib.hid hme
  have HML := Lib.hid hml
  have l1 : cl.length ≤ 1000000 := by
    rw [← hcl, chRes]
    split
    · exact mv_len _ _ _ _ _
    · simp
  have l2 : ml.length ≤ 1000000 := by
    rw [← hml, mvRes]
    split
    · exact mv_len _ _ _ _ _
    · simp
  clear hce hcl hme hml
  go_enter Tryz.func7, Tryz.ntmps7
  go_wp2_with fail
  refine (p_Changed ds day kn later ce cl _ _ _ _ hn (HD.out.now (by (repeat' (first | with_reducible exact Below.refl _ _ | with_reducible assumption | with_reducible refine Below.alloc ?_ ?_ _ | with_reducible refine Below.setCell ?_ ?_ _ | with_reducible refine Below.drew ?_ | (simp; done) | (simp; omega) | omega)))) HCE.out HCL.out).mono ?_
  rintro e w1 ⟨A1, c1, rfl, hb1, hi1, _⟩
  have HBA := Lib.hid ((BoxA.new w 47 #[.int .i64 p, .int .i64 q, .int .i64 day, .int .i64 kn, .int .i64 later, .slice Ax nx cx]).ext hb1)
  have HB1 : Below w.heap.size w w1 := Below.then_ (by (repeat' (first | with_reducible exact Below.refl _ _ | with_reducible assumption | with_reducible refine Below.alloc ?_ ?_ _ | with_reducible refine Below.setCell ?_ ?_ _ | with_reducible refine Below.drew ?_ | (simp; done) | (simp; omega) | omega))) hb1
  have HI1 := Lib.hid hi1
  clear hb1 hi1
  have x0 := HBA.out.cell 0
  have x1 := HBA.out.cell 1
  have x2 := HBA.out.cell 2
  have x3 := HBA.out.cell 3
  have x4 := HBA.out.cell 4
  go_wp2_with fail
  refine (r_Changed ds day kn later ce cl _ _ _ _ hn (HD.out.now HB1) HCE.out HCL.out).mono ?_
  rintro e w2 ⟨A2, c2, rfl, hb2, hi2, _⟩
  have HBA2 := Lib.hid (HBA.out.ext hb2)
  have HB2 : Below w.heap.size w w2 := Below.then_ HB1 hb2
  have HI12 := Lib.hid (HI1.out.now hb2)
  have HI2 := Lib.hid hi2
  clear hb2 hi2 HBA HI1 x0 x1 x2 x3 x4
  have x0 := HBA2.out.cell 0
  have x1 := HBA2.out.cell 1
  have x2 := HBA2.out.cell 2
  have x3 := HBA2.out.cell 3
  go_wp2_with fail
  refine (p_Moved_v ds p q day kn me ml _ _ _ _ hn hnc (HD.out.now HB2) HML.out HME.out).mono ?_
  rintro e w3 ⟨A3, c3, rfl, hb3, hi3, _⟩
  have HBA3 := Lib.hid (HBA2.out.ext hb3)
  have HB3 : Below w.heap.size w w3 := Below.then_ HB2 hb3
  have HI13 := Lib.hid (HI12.out.now hb3)
  have HI23 := Lib.hid (HI2.out.now hb3)
  have HI3 := Lib.hid hi3
  clear hb3 hi3 HBA2 HI12 HI2 x0 x1 x2 x3
  have x0 := HBA3.out.cell 0
  have x1 := HBA3.out.cell 1
  have x2 := HBA3.out.cell 2
  have x3 := HBA3.out.cell 3
  go_wp2_with fail
  refine (r_Moved ds p q 0 0 day kn me ml _ _ _ _ hn (HD.out.now HB3) HML.out HME.out).mono ?_
  rintro e w4 ⟨A4, c4, rfl, hb4, hi4, _⟩
  have HB4 : Below w.heap.size w w4 := Below.then_ HB3 hb4
  have HI14 := Lib.hid (HI13.out.now hb4)
  have HI24 := Lib.hid (HI23.out.now hb4)
  have HI34 := Lib.hid (HI3.out.now hb4)
  have HI4 := Lib.hid hi4
  clear hb4 hi4 HBA3 HI13 HI23 HI3 x0 x1 x2 x3
  go_wp2_with fail
  refine (r_same cl cl true _ _ _ _ _ _ _ l1 l1 HI14.out HI24.out (by simp)).mono ?_
  rintro e w5 ⟨rfl, hb5⟩
  have HB5 : Below w.heap.size w w5 := Below.then_ HB4 hb5
  have HI35 := Lib.hid (HI34.out.now hb5)
  have HI45 := Lib.hid (HI4.out.now hb5)
  clear hb5 HI14 HI24 HI34 HI4
  go_wp2_with fail
  refine (r_same ml ml true _ _ _ _ _ _ _ l2 l2 HI35.out HI45.out (by simp)).mono ?_
  rintro e w6 ⟨rfl, hb6⟩
  go_wp2_with fail
  refine (r_sane _).mono ?_
  rintro e w7 ⟨rfl, hb7⟩
  go_wp2_with fail
  go_ret
  exact ⟨rfl, Below.then_ (Below.then_ HB5 hb6) hb7⟩

end Go.Proofs.YtaomfjgleddpdaaGreat
