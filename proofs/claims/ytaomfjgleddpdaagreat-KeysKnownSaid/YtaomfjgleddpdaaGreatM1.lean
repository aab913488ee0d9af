import Derived.Test.YtaomfjgleddpdaaGreatA4
import Derived.Test.YtaomfjgleddpdaaGreatB9
import Derived.Test.YtaomfjgleddpdaaGreatZ1
set_option linter.unusedVariables false
set_option linter.unusedSimpArgs false

/- The reference's ArePersons and Mod. -/
namespace Go.Proofs.YtaomfjgleddpdaaGreat
open Go.RowKit

def allP (xs : List Int) : Bool := (List.range xs.length).all (okP xs)
theorem allP_no {xs : List Int} {k : Nat} (hk : k < xs.length) (h : okP xs k = false) : allP xs = false := by
  unfold allP
  rw [List.all_eq_false]
  exact ⟨k, by simpa using hk, by simp [h]⟩
theorem personsB_eq (xs : List Int) : personsB xs = (decide (xs.length ≤ 12) && allP xs) := rfl

theorem r_within_v (n lo hi : Int) (v : Bool) (w : World) (h : withinB n lo hi = v) :
    Calls Tryz.prog 74 #[.int .i64 n, .int .i64 lo, .int .i64 hi] w fun e w' => e = .returned (.bool v) ∧ w = w' := h ▸ r_within n lo hi w

set_option maxHeartbeats 1000000 in
theorem r_arePersons (xs : List Int) (v : Bool) (A : Option Addr) (n c : Nat) (w : World) (hn : n ≤ 9223372036854775807) (h : Is w w.heap.size A n xs) (hv : personsB xs = v) :
    Calls Tryz.prog 55 #[.slice A n c] w fun e w' => e = .returned (.bool v) ∧ w = w' := by
  have HI := Lib.hid h
  have HL := Lib.hid h.len
  have HV := Lib.hid hv
  clear h hv
  go_enter Tryz.func55, Tryz.ntmps55
  go_wp2_with fail
  go_loopw [7] (fun i wr => ∃ k : Nat, k ≤ n ∧ i = .int .i64 k ∧ (List.range k).all (okP xs) = true ∧ wr = w) (fun i _ => n - (intOf i).toNat)
  case atStart => exact ⟨0, by omega, rfl, rfl, rfl⟩
  case round =>
    obtain ⟨k, hk, rfl, hall, rfl⟩ := hrel
    have HA := Lib.hid hall
    clear hall
    by_cases hlt : k < n
    · obtain ⟨b, o, x, rfl, hb, hx, hat⟩ := HI.out.at_ hlt
      have HX := Lib.hid hx
      clear hx
      cases hw : withinB x 1 99 with
      | false =>
        have HF := Lib.hid (allP_no (xs := xs) (k := k) (by rw [HL.out]; exact hlt) (by unfold okP; rw [HX.out]; simp [hw]))
        have HW := Lib.hid hw
        clear hw
        go_wp2_with fail
        refine (r_within_v x 1 99 false _ HW.out).mono ?_
        rintro e w1 ⟨rfl, rfl⟩
        go_wp2_with fail
        go_ret
        exact ⟨ret_bool (by rw [← HV.out, personsB_eq, HF.out]; simp), rfl⟩
      | true =>
        have HW := Lib.hid hw
        by_cases hk0 : k = 0
        · have HS := Lib.hid (okP_all_succ HA.out (by unfold okP; rw [HX.out]; simp [hw, hk0]))
          have hk1 : ¬ (0 < k) := by omega
          have hk2 : ¬ ((0 : Int) < (k : Int)) := by omega
          clear hw hk0
          go_wp2_with fail
          refine (r_within_v x 1 99 true _ HW.out).mono ?_
          rintro e w1 ⟨rfl, rfl⟩
          go_wp2_with fail
          exact ⟨⟨k + 1, by omega, by go_num, HS.out, trivial⟩, by simp [intOf]; omega⟩
        · obtain ⟨j, rfl⟩ : ∃ j, k = j + 1 := ⟨k - 1, by omega⟩
          obtain ⟨b', o', y, e', hb', hy, hat'⟩ := HI.out.at_ (k := j) (by omega)
          obtain ⟨rfl, rfl⟩ : b = b' ∧ o = o' := by simpa using e'
          have HY := Lib.hid hy
          clear hy e'
          by_cases hyx : y < x
          · have HS := Lib.hid (okP_all_succ HA.out (by unfold okP; rw [HX.out, show j + 1 - 1 = j from rfl, HY.out]; simp [hw, hyx]))
            clear hw
            have hyx2 : ¬ (x ≤ y) := by omega
            go_wp2_with fail
            refine (r_within_v x 1 99 true _ HW.out).mono ?_
            rintro e w1 ⟨rfl, rfl⟩
            go_wp2_with fail
            exact ⟨⟨j + 1 + 1, by omega, by go_num, HS.out, trivial⟩, by simp [intOf]; omega⟩
          · have HF := Lib.hid (allP_no (xs := xs) (k := j + 1) (by rw [HL.out]; exact hlt) (by unfold okP; rw [HX.out, show j + 1 - 1 = j from rfl, HY.out]; simp [hyx]))
            clear hw
            have hyx2 : x ≤ y := by omega
            go_wp2_with fail
            refine (r_within_v x 1 99 true _ HW.out).mono ?_
            rintro e w1 ⟨rfl, rfl⟩
            go_wp2_with fail
            go_ret
            exact ⟨ret_bool (by rw [← HV.out, personsB_eq, HF.out]; simp), rfl⟩
    · have hkn : k = n := by omega
      have h1 : allP xs = true := by unfold allP; rw [HL.out, ← hkn]; exact HA.out
      have HP : Hid (personsB xs = decide (n ≤ 12)) := by show _ = _; rw [personsB_eq, h1, Bool.and_true, HL.out]
      clear hkn h1
      by_cases h12 : n ≤ 12
      · have HR : Hid (v = true) := by show _ = _; rw [← HV.out, HP.out]; simpa using h12
        go_wp2_with fail
        go_ret
        exact ⟨ret_bool (by rw [HR.out]; first | (simp; omega) | (simp; done) | rfl), rfl⟩
      · have HR : Hid (v = false) := by show _ = _; rw [← HV.out, HP.out]; simpa using h12
        go_wp2_with fail
        go_ret
        exact ⟨ret_bool (by rw [HR.out]; first | (simp; omega) | (simp; done) | rfl), rfl⟩

theorem mod_mid {a m : Int} (hm : 0 < m) : a.tmod m + m = a % m + m ∨ a.tmod m + m = a % m := by
  rcases Int.lt_or_le a 0 with h | h
  · have e1 := Int.tmod_eq_emod (a := a) (b := m)
    by_cases hd : m ∣ a
    · left; rw [e1]; simp [hd]
    · right; rw [e1]; simp [hd, Int.not_le.2 h]; omega
  · left; rw [Int.tmod_eq_emod_of_nonneg h]
theorem mod_val {a m : Int} (hm : 0 < m) (hm2 : m ≤ 1000000) : (wrap64 (a.tmod m + m)).tmod m = a % m := by
  have h0 := Int.emod_nonneg a (Int.ne_of_gt hm)
  have h2 := Int.emod_lt_of_pos a hm
  have hw : wrap64 (a.tmod m + m) = a.tmod m + m := IntWalk.wrap64_in _ (by rcases mod_mid (a := a) hm with h1 | h1 <;> rw [h1] <;> constructor <;> omega)
  rw [hw]
  rcases mod_mid (a := a) hm with h1 | h1
  · rw [h1, Int.tmod_eq_emod_of_nonneg (by omega), Int.add_emod_right, Int.emod_emod]
  · rw [h1, Int.tmod_eq_emod_of_nonneg h0, Int.emod_emod]

set_option maxHeartbeats 1000000 in
theorem r_mod (a m : Int) (w : World) (hm : 0 < m) (hm2 : m ≤ 1000000) :
    Calls Tryz.prog 26 #[.int .i64 a, .int .i64 m] w fun e w' => e = .returned (.int .i64 (a % m)) ∧ w = w' := by
  have hz : ¬ m = 0 := by omega
  go_enter Tryz.func26, Tryz.ntmps26
  go_wp2
  go_ret
  exact ⟨ret_int (mod_val hm hm2), rfl⟩

end Go.Proofs.YtaomfjgleddpdaaGreat

/- KeysKnown: plain facts on what counts, and on the dates. -/
namespace Go.Proofs.YtaomfjgleddpdaaGreat
open Go.RowKit

theorem cnt_idem (kn : Int) (ds : List Deed) : cntDs kn (cntDs kn ds) = cntDs kn ds := by
  unfold cntDs
  rw [List.filter_filter]
  simp
theorem checkB_of {ds : List Deed} (h1 : ds.length ≤ 60) (h2 : ∀ d ∈ ds, d.okB = true) (h3 : SD ds) : checkB ds = true := by
  unfold checkB
  rw [Bool.and_eq_true, decide_eq_true_eq, List.all_eq_true]
  refine ⟨h1, fun i hi => ?_⟩
  have hi' : i < ds.length := by simpa using hi
  have hd : ds[i]? = some ds[i] := List.getElem?_eq_getElem hi'
  unfold okAt
  rw [hd]
  simp only [Bool.and_eq_true]
  refine ⟨h2 _ (List.mem_of_getElem? hd), ?_⟩
  cases i with
  | zero => rfl
  | succ j =>
    have he : ds[j]? = some ds[j] := List.getElem?_eq_getElem (by omega)
    simp only [he]
    exact List.pairwise_iff_getElem.1 h3 j (j + 1) (by omega) hi' (by omega)
theorem checkB_cnt {ds : List Deed} (h : checkB ds = true) (kn : Int) : checkB (cntDs kn ds) = true :=
  checkB_of (Nat.le_trans (cntDs_len _ _) (check_60 h)) (cnt_ok h kn) ((checkB_sd h).filter _)
theorem whoE_cnt {ds : List Deed} (h : checkB ds = true) (lock day kn : Int) : whoE (cntDs kn ds) lock day kn = whoE ds lock day kn := by
  unfold whoE whoErr
  rw [checkB_cnt h, h, cnt_idem]
theorem whoL_cnt {ds : List Deed} (h : checkB ds = true) (q : St → Int) (lock day kn : Int) : whoL q (cntDs kn ds) lock day kn = whoL q ds lock day kn := by
  unfold whoL
  rw [whoE_cnt h, cnt_idem]
theorem lawR_cnt {ds : List Deed} (h : checkB ds = true) (xs : List Int) (day kn : Int) : lawR (cntDs kn ds) xs day kn = lawR ds xs day kn := by
  unfold lawR opErr
  rw [checkB_cnt h, h, cnt_idem]
theorem days2 {a b : Int} (ha : withinB a 0 100000 = true) (hb : withinB b 0 100000 = true) : daysOk [a, b] = true := by simp [daysOk, ha, hb]
theorem whoE_at {ds : List Deed} {lock day kn l : Int} (hc : cntDs l ds = cntDs kn ds) (hd : withinB day 0 100000 = true) (hk : withinB kn 0 100000 = true) (hl : withinB l 0 100000 = true) : whoE ds lock day l = whoE ds lock day kn := by
  unfold whoE whoErr
  rw [hc, days2 hd hk, days2 hd hl]
theorem whoL_at {ds : List Deed} {lock day kn l : Int} (q : St → Int) (hc : cntDs l ds = cntDs kn ds) (hd : withinB day 0 100000 = true) (hk : withinB kn 0 100000 = true) (hl : withinB l 0 100000 = true) : whoL q ds lock day l = whoL q ds lock day kn := by
  unfold whoL
  rw [whoE_at hc hd hk hl, hc]
theorem lawR_at {ds : List Deed} {xs : List Int} {day kn l : Int} (hc : cntDs l ds = cntDs kn ds) (hd : withinB day 0 100000 = true) (hk : withinB kn 0 100000 = true) (hl : withinB l 0 100000 = true) : lawR ds xs day l = lawR ds xs day kn := by
  unfold lawR opErr
  rw [hc, days2 hd hk, days2 hd hl]

/-- The last number of a list that is not greater than kn; -1 if there is none. -/
def LastP (kn : Int) (ys : List Int) (l : Int) : Prop := (l = -1 ∧ ∀ a ∈ ys, kn < a) ∨ (l ∈ ys ∧ l ≤ kn ∧ ∀ a ∈ ys, a ≤ kn → a ≤ l)
theorem LastP.start (kn : Int) (xs : List Int) : LastP kn (xs.take 0) (-1) := .inl ⟨rfl, by simp⟩
theorem LastP.in_ {kn : Int} {xs : List Int} {k : Nat} {x l : Int} (hs : SS xs) (hk : xs[k]? = some x) (hx : x ≤ kn) : LastP kn (xs.take (k + 1)) x := by
  rw [take_snoc_some hk]
  refine .inr ⟨by simp, hx, fun a ha _ => ?_⟩
  rcases List.mem_append.1 ha with h | h
  · obtain ⟨i, hi⟩ := List.mem_iff_getElem?.1 h
    rw [List.getElem?_take] at hi
    split at hi
    · rename_i hik
      obtain ⟨g1, e1⟩ := List.getElem?_eq_some_iff.1 hi
      obtain ⟨g2, e2⟩ := List.getElem?_eq_some_iff.1 hk
      have := List.pairwise_iff_getElem.1 hs i k g1 g2 hik
      omega
    · cases hi
  · simp at h
    omega
theorem LastP.out {kn : Int} {xs : List Int} {k : Nat} {x l : Int} (h : LastP kn (xs.take k) l) (hk : xs[k]? = some x) (hx : kn < x) : LastP kn (xs.take (k + 1)) l := by
  rw [take_snoc_some hk]
  rcases h with ⟨h1, h2⟩ | ⟨h1, h2, h3⟩
  · refine .inl ⟨h1, fun a ha => ?_⟩
    rcases List.mem_append.1 ha with h | h
    · exact h2 a h
    · simp at h; omega
  · refine .inr ⟨by simp [h1], h2, fun a ha hak => ?_⟩
    rcases List.mem_append.1 ha with h | h
    · exact h3 a h hak
    · simp at h; omega
theorem okB_times {d : Deed} (h : d.okB = true) : 0 ≤ d.known ∧ d.known ≤ 100000 ∧ (d.til = 0 ∨ (d.known < d.til ∧ d.til ≤ 100000)) := by
  unfold Deed.okB lastsB withinB at h
  simp only [Bool.and_eq_true, Bool.or_eq_true, decide_eq_true_eq] at h
  omega
/-- Where no date is less than the day, or equal to it, nothing counts. -/
theorem cnt_none {ds : List Deed} {xs : List Int} {kn : Int} (hm : ∀ a, a ∈ xs ↔ ∃ d ∈ ds, dateOf d a) (h : ∀ a ∈ xs, kn < a) : cntDs kn ds = [] := by
  unfold cntDs
  refine List.filter_eq_nil_iff.2 fun d hd => ?_
  have := h d.known ((hm _).2 ⟨d, hd, .inl rfl⟩)
  simp only [countsB, Bool.and_eq_true, decide_eq_true_eq, not_and]
  omega
/-- As known on a day everything counts as on the last date that is not greater. -/
theorem cnt_last {ds : List Deed} {xs : List Int} {kn l : Int} (hok : ∀ d ∈ ds, d.okB = true) (hm : ∀ a, a ∈ xs ↔ ∃ d ∈ ds, dateOf d a) (h1 : l ≤ kn) (h2 : ∀ a ∈ xs, a ≤ kn → a ≤ l) : cntDs l ds = cntDs kn ds := by
  unfold cntDs
  refine List.filter_congr fun d hd => ?_
  have a1 : d.known ≤ kn → d.known ≤ l := h2 d.known ((hm _).2 ⟨d, hd, .inl rfl⟩)
  have a2 : d.til ≠ 0 → d.til ≤ kn → d.til ≤ l := fun h0 => h2 d.til ((hm _).2 ⟨d, hd, .inr ⟨rfl, h0⟩⟩)
  have ht := okB_times (hok d hd)
  rw [Bool.eq_iff_iff]
  simp only [countsB, Bool.and_eq_true, Bool.or_eq_true, decide_eq_true_eq]
  by_cases h0 : d.til = 0
  · simp only [h0, true_or, and_true]
    exact ⟨fun h => by omega, fun h => a1 h⟩
  · have a3 := a2 h0
    simp only [h0, false_or]
    constructor
    · rintro ⟨h3, h4⟩
      refine ⟨by omega, ?_⟩
      rcases Int.lt_or_le kn d.til with h5 | h5
      · exact h5
      · have := a3 h5; omega
    · rintro ⟨h3, h4⟩
      exact ⟨a1 h3, by omega⟩

theorem thr_nil (n : Nm) : thr [] n = [] := rfl
theorem sts_nil (day : Int) : stsL [] day = [(0, St.zero)] := by
  have h : mayB [] 0 day = true := rfl
  unfold stsL
  simp [h, stN, List.range_succ]
theorem wit_nil (xs : List Int) (day : Int) : witB [] xs day true = false := by
  unfold witB scnL
  simp only [thr_nil, sts_nil]
  have h1 : ∀ p, offB [] day true p = false := fun p => by
    unfold offB
    rw [thr_nil, sts_nil]
    rfl
  simp [condB, soN, st3, h1]
theorem who_none {ds : List Deed} {lock day kn : Int} (h : checkB ds = true) (hc : cntDs kn ds = []) (hl : withinB lock 1 3 = true) (hd : withinB day 0 100000 = true) (hk : withinB kn 0 100000 = true) (q : St → Int) (hq : q St.zero = 0) :
    whoE ds lock day kn = 0 ∧ whoL q ds lock day kn = [0] := by
  have h0 : whoErr ds lock day kn = 0 := by unfold whoErr; rw [h, hl, days2 hd hk]; rfl
  have hE : whoE ds lock day kn = 0 := by unfold whoE; rw [h0, hc]; rfl
  refine ⟨hE, ?_⟩
  unfold whoL
  rw [hE, hc, thr_nil, sts_nil]
  simp [hq, srtL, insS]
theorem law_none {ds : List Deed} {xs : List Int} {day kn : Int} (h : checkB ds = true) (hc : cntDs kn ds = []) (hp : personsB xs = true) (hd : withinB day 0 100000 = true) (hk : withinB kn 0 100000 = true) : lawR ds xs day kn = (0, 0) := by
  have h0 : opErr ds xs day kn = 0 := by unfold opErr; rw [h, hp, days2 hd hk]; rfl
  unfold lawR
  rw [if_pos h0, hc, wit_nil]
  rfl

end Go.Proofs.YtaomfjgleddpdaaGreat

/- KeysKnown: the walk. -/
namespace Go.Proofs.YtaomfjgleddpdaaGreat
open Go.RowKit

def RetX (ds : List Deed) (w : World) (e : Ending) (w' : World) : Prop :=
  ∃ xs A c, e = .returned (.tuple #[.slice A xs.length c, .int .i64 0]) ∧ SS xs ∧ (∀ a, a ∈ xs ↔ ∃ d ∈ ds, dateOf d a) ∧ Below w.heap.size w w' ∧ Is w' w'.heap.size A xs.length xs ∧ xs.length ≤ c
theorem p_Dates_x (ds : List Deed) (A : Option Addr) (n c : Nat) (w : World) (hn : n ≤ 9223372036854775807) (hd : Ds w w.heap.size A n ds) (h : checkB ds = true) :
    Calls Tryz.prog 15 #[.slice A n c] w (RetX ds w) := (p_Dates ds A n c w hn hd).mono fun _ _ ⟨hb, _, h2⟩ => by
  obtain ⟨xs, A, c, h3, h4, h5, h6, h7⟩ := h2 h
  exact ⟨xs, A, c, h3, h4, h5, hb, h6, h7⟩
theorem dates_len {ds : List Deed} {xs : List Int} (hok : ∀ d ∈ ds, d.okB = true) (hs : SS xs) (hm : ∀ a, a ∈ xs ↔ ∃ d ∈ ds, dateOf d a) : xs.length ≤ 1000000 := by
  have hr : ∀ a ∈ xs, 0 ≤ a ∧ a ≤ 100000 := fun a ha => by
    obtain ⟨d, hd, h⟩ := (hm a).1 ha
    have := okB_times (hok d hd)
    rcases h with rfl | ⟨rfl, h⟩ <;> omega
  clear hm
  have key : ∀ (xs : List Int) (lo : Int), SS xs → (∀ a ∈ xs, lo ≤ a ∧ a ≤ 100000) → lo ≤ 100001 → (xs.length : Int) ≤ 100001 - lo := by
    intro xs
    induction xs with
    | nil => intro lo _ _ h; simp; omega
    | cons x l ih =>
      intro lo hs hr hlo
      have h1 := hr x (by simp)
      have h2 := ih (x + 1) (List.pairwise_cons.1 hs).2 (fun a ha => ⟨by have := (List.pairwise_cons.1 hs).1 a ha; omega, (hr a (List.mem_cons_of_mem _ ha)).2⟩) (by omega)
      simp only [List.length_cons]
      omega
  have := key xs 0 hs hr (by omega)
  omega

set_option maxRecDepth 100000 in
set_option maxHeartbeats 8000000 in
theorem w_KeysKnown (ds : List Deed) (ps : List Int) (lk pe day kn : Int) (A Ap : Option Addr) (n c m cp : Nat) (w : World) (hn : n ≤ 9223372036854775807) (hm : m ≤ 9223372036854775807) (hd : Ds w w.heap.size A n ds) (hp : Is w w.heap.size Ap m ps) :
    Calls Tryz.prog 11 #[.slice A n c, .agg #[.int .i64 lk, .int .i64 pe, .int .i64 day, .int .i64 kn], .slice Ap m cp] w fun e w' => e = .returned (.bool true) ∧ Below w.heap.size w w' := by
  have HD0 := Lib.hid hd
  have HP0 := Lib.hid hp
  clear hd hp
  cases hck : checkB ds with
  | false =>
    have HC := Lib.hid hck
    clear hck
    go_enter Tryz.func11, Tryz.ntmps11
    go_wp2_with fail
    refine (r_check_v ds 11 _ _ _ _ hn (HD0.out.now (by (repeat' (first | with_reducible exact Below.refl _ _ | with_reducible assumption | with_reducible refine Below.alloc ?_ ?_ _ | with_reducible refine Below.setCell ?_ ?_ _ | with_reducible refine Below.drew ?_ | (simp; done) | (simp; omega) | omega)))) (by rw [HC.out]; rfl)).mono ?_
    rintro e w1 ⟨rfl, hb1⟩
    have HB1 : Below w.heap.size w w1 := Below.then_ (by (repeat' (first | with_reducible exact Below.refl _ _ | with_reducible assumption | with_reducible refine Below.alloc ?_ ?_ _ | with_reducible refine Below.setCell ?_ ?_ _ | with_reducible refine Below.drew ?_ | (simp; done) | (simp; omega) | omega))) hb1
    have bA := (BoxA.new w 59 #[.int .i64 lk, .int .i64 pe, .int .i64 day, .int .i64 kn]).ext hb1
    have HBA := Lib.hid bA
    have a0 := bA.cell 0
    have a2 := bA.cell 2
    have a3 := bA.cell 3
    clear bA hb1
    go_wp2_with fail
    refine (r_sane _).mono ?_
    rintro e w2 ⟨rfl, hb2⟩
    go_wp2_with fail
    go_ret
    exact ⟨rfl, Below.then_ HB1 hb2⟩
  | true =>
    have HC := Lib.hid hck
    clear hck
    cases hdk : withinB kn 0 100000 with
    | false =>
      have HK := Lib.hid hdk
      clear hdk
      go_enter Tryz.func11, Tryz.ntmps11
      go_wp2_with fail
      refine (r_check_v ds 0 _ _ _ _ hn (HD0.out.now (by (repeat' (first | with_reducible exact Below.refl _ _ | with_reducible assumption | with_reducible refine Below.alloc ?_ ?_ _ | with_reducible refine Below.setCell ?_ ?_ _ | with_reducible refine Below.drew ?_ | (simp; done) | (simp; omega) | omega)))) (by rw [HC.out]; rfl)).mono ?_
      rintro e w1 ⟨rfl, hb1⟩
      have HB1 : Below w.heap.size w w1 := Below.then_ (by (repeat' (first | with_reducible exact Below.refl _ _ | with_reducible assumption | with_reducible refine Below.alloc ?_ ?_ _ | with_reducible refine Below.setCell ?_ ?_ _ | with_reducible refine Below.drew ?_ | (simp; done) | (simp; omega) | omega))) hb1
      have bA := (BoxA.new w 59 #[.int .i64 lk, .int .i64 pe, .int .i64 day, .int .i64 kn]).ext hb1
      have HBA := Lib.hid bA
      have a0 := bA.cell 0
      have a2 := bA.cell 2
      have a3 := bA.cell 3
      clear bA hb1
      go_wp2_with fail
      refine (r_isDay_v kn false _ HK.out).mono ?_
      rintro e w1' ⟨rfl, rfl⟩
      go_wp2_with fail
      refine (r_sane _).mono ?_
      rintro e w2 ⟨rfl, hb2⟩
      go_wp2_with fail
      go_ret
      exact ⟨rfl, Below.then_ HB1 hb2⟩
    | true =>
      have HK := Lib.hid hdk
      clear hdk
      cases hdd : withinB day 0 100000 with
      | false =>
        have HY := Lib.hid hdd
        clear hdd
        go_enter Tryz.func11, Tryz.ntmps11
        go_wp2_with fail
        refine (r_check_v ds 0 _ _ _ _ hn (HD0.out.now (by (repeat' (first | with_reducible exact Below.refl _ _ | with_reducible assumption | with_reducible refine Below.alloc ?_ ?_ _ | with_reducible refine Below.setCell ?_ ?_ _ | with_reducible refine Below.drew ?_ | (simp; done) | (simp; omega) | omega)))) (by rw [HC.out]; rfl)).mono ?_
        rintro e w1 ⟨rfl, hb1⟩
        have HB1 : Below w.heap.size w w1 := Below.then_ (by (repeat' (first | with_reducible exact Below.refl _ _ | with_reducible assumption | with_reducible refine Below.alloc ?_ ?_ _ | with_reducible refine Below.setCell ?_ ?_ _ | with_reducible refine Below.drew ?_ | (simp; done) | (simp; omega) | omega))) hb1
        have bA := (BoxA.new w 59 #[.int .i64 lk, .int .i64 pe, .int .i64 day, .int .i64 kn]).ext hb1
        have HBA := Lib.hid bA
        have a0 := bA.cell 0
        have a2 := bA.cell 2
        have a3 := bA.cell 3
        clear bA hb1
        go_wp2_with fail
        refine (r_isDay_v kn true _ HK.out).mono ?_
        rintro e w1' ⟨rfl, rfl⟩
        go_wp2_with fail
        refine (r_isDay_v day false _ HY.out).mono ?_
        rintro e w1' ⟨rfl, rfl⟩
        go_wp2_with fail
        refine (r_sane _).mono ?_
        rintro e w2 ⟨rfl, hb2⟩
        go_wp2_with fail
        go_ret
        exact ⟨rfl, Below.then_ HB1 hb2⟩
      | true =>
        have HY := Lib.hid hdd
        clear hdd
        cases hpp : personsB ps with
        | false =>
          have HPP := Lib.hid hpp
          clear hpp
          go_enter Tryz.func11, Tryz.ntmps11
          go_wp2_with fail
          refine (r_check_v ds 0 _ _ _ _ hn (HD0.out.now (by (repeat' (first | with_reducible exact Below.refl _ _ | with_reducible assumption | with_reducible refine Below.alloc ?_ ?_ _ | with_reducible refine Below.setCell ?_ ?_ _ | with_reducible refine Below.drew ?_ | (simp; done) | (simp; omega) | omega)))) (by rw [HC.out]; rfl)).mono ?_
          rintro e w1 ⟨rfl, hb1⟩
          have HB1 : Below w.heap.size w w1 := Below.then_ (by (repeat' (first | with_reducible exact Below.refl _ _ | with_reducible assumption | with_reducible refine Below.alloc ?_ ?_ _ | with_reducible refine Below.setCell ?_ ?_ _ | with_reducible refine Below.drew ?_ | (simp; done) | (simp; omega) | omega))) hb1
          have bA := (BoxA.new w 59 #[.int .i64 lk, .int .i64 pe, .int .i64 day, .int .i64 kn]).ext hb1
          have HBA := Lib.hid bA
          have a0 := bA.cell 0
          have a2 := bA.cell 2
          have a3 := bA.cell 3
          clear bA hb1
          go_wp2_with fail
          refine (r_isDay_v kn true _ HK.out).mono ?_
          rintro e w1' ⟨rfl, rfl⟩
          go_wp2_with fail
          refine (r_isDay_v day true _ HY.out).mono ?_
          rintro e w1' ⟨rfl, rfl⟩
          go_wp2_with fail
          refine (r_arePersons ps false _ _ _ _ hm (HP0.out.now (by (repeat' (first | with_reducible exact Below.refl _ _ | with_reducible assumption | with_reducible refine Below.alloc ?_ ?_ _ | with_reducible refine Below.setCell ?_ ?_ _ | with_reducible refine Below.drew ?_ | (simp; done) | (simp; omega) | omega)))) HPP.out).mono ?_
          rintro e w1' ⟨rfl, rfl⟩
          go_wp2_with fail
          refine (r_sane _).mono ?_
          rintro e w2 ⟨rfl, hb2⟩
          go_wp2_with fail
          go_ret
          exact ⟨rfl, Below.then_ HB1 hb2⟩
        | true =>
          have HPP := Lib.hid hpp
          clear hpp
          have hm12 : m ≤ 12 := by
            have h1 := HPP.out
            rw [personsB_eq] at h1
            simp only [Bool.and_eq_true, decide_eq_true_eq] at h1
            rw [← HP0.out.len]
            exact h1.1
          obtain ⟨q, hq⟩ : ∃ q, lk % 3 = q := ⟨_, rfl⟩
          have hlr : 0 ≤ q ∧ q < 3 := by rw [← hq]; exact ⟨Int.emod_nonneg _ (by decide), Int.emod_lt_of_pos _ (by decide)⟩
          have HLW : Hid (withinB (1 + q) 1 3 = true) := by show _ = _; simp [withinB]; omega
          have H60 := Lib.hid (check_60 HC.out)
          have h60 : n ≤ 60 := by have := H60.out; have := HD0.out.len; omega
          obtain ⟨e1, he1⟩ : ∃ e, whoE ds (1 + q) day kn = e := ⟨_, rfl⟩
          obtain ⟨xs, hxs⟩ : ∃ e, whoL (·.holder) ds (1 + q) day kn = e := ⟨_, rfl⟩
          obtain ⟨l1, l2, hll⟩ : ∃ a b, lawR ds ps day kn = (a, b) := ⟨_, _, rfl⟩
          have HE1 := Lib.hid he1
          have HXS := Lib.hid hxs
          have HLL := Lib.hid hll
          have HXL : Hid (xs.length ≤ 61) := by show _ ≤ _; rw [← hxs]; exact whoL_len _ _ _ _ _
          have HQ := Lib.hid hq
          clear he1 hxs hll hq
          have q1 : IntKind.i64.wrap (1 + q) = 1 + q := IntWalk.i64_in _ (by omega)
          go_enter Tryz.func11, Tryz.ntmps11
          go_wp2_with fail
          refine (r_check_v ds 0 _ _ _ _ hn (HD0.out.now (by (repeat' (first | with_reducible exact Below.refl _ _ | with_reducible assumption | with_reducible refine Below.alloc ?_ ?_ _ | with_reducible refine Below.setCell ?_ ?_ _ | with_reducible refine Below.drew ?_ | (simp; done) | (simp; omega) | omega)))) (by rw [HC.out]; rfl)).mono ?_
          rintro e w1 ⟨rfl, hb1⟩
          have HB1 : Below w.heap.size w w1 := Below.then_ (by (repeat' (first | with_reducible exact Below.refl _ _ | with_reducible assumption | with_reducible refine Below.alloc ?_ ?_ _ | with_reducible refine Below.setCell ?_ ?_ _ | with_reducible refine Below.drew ?_ | (simp; done) | (simp; omega) | omega))) hb1
          have bA := (BoxA.new w 59 #[.int .i64 lk, .int .i64 pe, .int .i64 day, .int .i64 kn]).ext hb1
          have HBA := Lib.hid bA
          have a0 := bA.cell 0
          have a2 := bA.cell 2
          have a3 := bA.cell 3
          clear bA hb1
          go_wp2_with fail
          refine (r_isDay_v kn true _ HK.out).mono ?_
          rintro e w1' ⟨rfl, rfl⟩
          go_wp2_with fail
          refine (r_isDay_v day true _ HY.out).mono ?_
          rintro e w1' ⟨rfl, rfl⟩
          go_wp2_with fail
          refine (r_arePersons ps true _ _ _ _ hm (HP0.out.now (by (repeat' (first | with_reducible exact Below.refl _ _ | with_reducible assumption | with_reducible refine Below.alloc ?_ ?_ _ | with_reducible refine Below.setCell ?_ ?_ _ | with_reducible refine Below.drew ?_ | (simp; done) | (simp; omega) | omega)))) HPP.out).mono ?_
          rintro e w1' ⟨rfl, rfl⟩
          have hmod := r_mod lk 3 w1 (by decide) (by decide)
          rw [HQ.out] at hmod
          have HMOD := Lib.hid hmod
          clear hmod
          go_wp2_with fail
          refine HMOD.out.mono ?_
          rintro e w1' ⟨rfl, rfl⟩
          clear q1
          go_wp2_with fail
          refine (r_counting ds kn _ _ _ _ (by omega) (HD0.out.now HB1)).mono ?_
          rintro e w2 ⟨Ac, cc, rfl, hb2, hdc, hcc, hcm⟩
          have HB2 := Below.then_ HB1 hb2
          have HDC2 := Lib.hid hdc
          have hcl60 : (cntDs kn ds).length ≤ 60 := by have := cntDs_len kn ds; have := H60.out; omega
          clear hdc hcm
          obtain ⟨nc, hnc⟩ : ∃ nc, (cntDs kn ds).length = nc := ⟨_, rfl⟩
          have HNC := Lib.hid hnc
          rw [hnc] at hcl60 hcc
          have HDC2 : Hid (Ds w2 w2.heap.size Ac nc (cntDs kn ds)) := by show Ds _ _ _ _ _; have := HDC2.out; rwa [hnc] at this
          simp only [hnc]
          clear hnc
          go_wp2_with fail
          refine (p_Dates_x ds _ _ _ _ hn (HD0.out.now HB2) HC.out).mono ?_
          rintro e w3 ⟨dx, Ax, cx, rfl, hss, hmem, hb3, hix, hcx⟩
          have HB3 := Below.then_ HB2 hb3
          have hdl := dates_len (checkB_ok HC.out) hss hmem
          have HDC3 := Lib.hid (HDC2.out.now hb3)
          have bA3 := (HBA.out.ext hb2).ext hb3
          have HBA3 := Lib.hid bA3
          clear a0 a2 a3
          have a2 := bA3.cell 2
          have a3 := bA3.cell 3
          have HSS := Lib.hid hss
          have HME := Lib.hid hmem
          have HIX := Lib.hid hix
          have HD3 := Lib.hid (HD0.out.now HB3)
          have HP3 := Lib.hid (HP0.out.now HB3)
          obtain ⟨nd, hnd⟩ : ∃ nd, dx.length = nd := ⟨_, rfl⟩
          have HND := Lib.hid hnd
          rw [hnd] at hdl hcx
          have HIX : Hid (Is w3 w3.heap.size Ax nd dx) := by show Is _ _ _ _ _; have := HIX.out; rwa [hnd] at this
          simp only [hnd]
          clear hss hmem hix hnd bA3 hb2 hb3 HB1 HB2 HDC2 HD0 HP0 HBA
          go_wp2_with fail
          go_loop [11, 64] (fun v i => ∃ (k : Nat) (L : Int), k ≤ nd ∧ i = .int .i64 k ∧ v = .int .i64 L ∧ LastP kn (dx.take k) L) (fun _ i => nd - (intOf i).toNat)
          case atStart => exact ⟨0, -1, by omega, rfl, rfl, LastP.start _ _⟩
          case round =>
            obtain ⟨k, L, hk, rfl, rfl, hP⟩ := hrel
            have HL := Lib.hid hP
            clear hP
            by_cases hlt : k < nd
            · obtain ⟨bx, ox, x, rfl, hbx, hx, hat⟩ := HIX.out.at_ hlt
              have HX := Lib.hid hx
              clear hx
              by_cases hxk : x ≤ kn
              · have HN := Lib.hid (LastP.in_ (l := L) HSS.out HX.out hxk)
                go_wp2_with fail
                go_round
                case rel => exact ⟨k + 1, x, by omega, by go_num, rfl, HN.out⟩
                case measure => simp [intOf]; omega
              · have HN := Lib.hid (HL.out.out HX.out (by omega))
                go_wp2_with fail
                go_round
                case rel => exact ⟨k + 1, L, by omega, by go_num, rfl, HN.out⟩
                case measure => simp [intOf]; omega
            · have hkn : k = nd := by omega
              have hP : LastP kn dx L := by have := HL.out; rwa [List.take_of_length_le (by rw [HND.out, hkn]; exact Nat.le_refl _)] at this
              clear hkn
              have HEC : Hid (whoE (cntDs kn ds) (1 + q) day kn = e1) := by show _ = _; rw [whoE_cnt HC.out]; exact HE1.out
              have HXC : Hid (whoL (·.holder) (cntDs kn ds) (1 + q) day kn = xs) := by show _ = _; rw [whoL_cnt HC.out]; exact HXS.out
              have HLC : Hid (lawR (cntDs kn ds) ps day kn = (l1, l2)) := by show _ = _; rw [lawR_cnt HC.out]; exact HLL.out
              go_wp2_with fail
              refine (p_HoldersL ds (1 + q) day kn e1 xs _ _ _ _ hn HD3.out HXS.out HE1.out).mono ?_
              rintro e w4 ⟨A4, c4, rfl, hb4, hi4, hc4⟩
              have HI4 := Lib.hid hi4
              have bA4 := HBA3.out.ext hb4
              have a2 := bA4.cell 2
              have a3 := bA4.cell 3
              have HD4 := Lib.hid (HD3.out.now hb4)
              have HP4 := Lib.hid (HP3.out.now hb4)
              have HC4 := Lib.hid (HDC3.out.now hb4)
              have HB4 := Below.then_ HB3 hb4
              have HBA4 := Lib.hid bA4
              clear hi4 bA4 hb4
              go_wp2_with fail
              refine (p_HoldersL (cntDs kn ds) (1 + q) day kn e1 xs _ _ _ _ (by omega) HC4.out HXC.out HEC.out).mono ?_
              rintro e w5 ⟨A5, c5, rfl, hb5, hi5, hc5⟩
              have HI5 := Lib.hid hi5
              have HI45 := Lib.hid (HI4.out.now hb5)
              have bA5 := HBA4.out.ext hb5
              have a2 := bA5.cell 2
              have a3 := bA5.cell 3
              have HD5 := Lib.hid (HD4.out.now hb5)
              have HP5 := Lib.hid (HP4.out.now hb5)
              have HC5 := Lib.hid (HC4.out.now hb5)
              have HB5 := Below.then_ HB4 hb5
              have HBA5 := Lib.hid bA5
              clear hi5 bA5 hb5
              go_wp2_with fail
              refine (p_Lawful_v ds ps day kn l1 l2 _ _ _ _ _ _ _ hn HD5.out (by omega) HP5.out HLL.out).mono ?_
              rintro e w6 ⟨rfl, hb6⟩
              have HI46 := Lib.hid (HI45.out.now hb6)
              have HI56 := Lib.hid (HI5.out.now hb6)
              have bA6 := HBA5.out.ext hb6
              have a2 := bA6.cell 2
              have a3 := bA6.cell 3
              have HD6 := Lib.hid (HD5.out.now hb6)
              have HP6 := Lib.hid (HP5.out.now hb6)
              have HC6 := Lib.hid (HC5.out.now hb6)
              have HB6 := Below.then_ HB5 hb6
              have HBA6 := Lib.hid bA6
              clear bA6 hb6
              go_wp2_with fail
              refine (p_Lawful_v (cntDs kn ds) ps day kn l1 l2 _ _ _ _ _ _ _ (by omega) HC6.out (by omega) HP6.out HLC.out).mono ?_
              rintro e w7 ⟨rfl, hb7⟩
              have HI47 := Lib.hid (HI46.out.now hb7)
              have HI57 := Lib.hid (HI56.out.now hb7)
              have bA7 := HBA6.out.ext hb7
              have a2 := bA7.cell 2
              have a3 := bA7.cell 3
              have HD7 := Lib.hid (HD6.out.now hb7)
              have HP7 := Lib.hid (HP6.out.now hb7)
              have HB7 := Below.then_ HB6 hb7
              have HBA7 := Lib.hid bA7
              clear bA7 hb7
              go_wp2_with fail
              refine (r_same xs xs true _ _ _ _ _ _ _ (by have := HXL.out; omega) (by have := HXL.out; omega) HI47.out HI57.out (by simp)).mono ?_
              rintro e w8 ⟨rfl, hb8⟩
              have HI48 := Lib.hid (HI47.out.now hb8)
              have bA8 := HBA7.out.ext hb8
              have a2 := bA8.cell 2
              have a3 := bA8.cell 3
              have HD8 := Lib.hid (HD7.out.now hb8)
              have HP8 := Lib.hid (HP7.out.now hb8)
              have HB8 := Below.then_ HB7 hb8
              have HBA8 := Lib.hid bA8
              clear bA8 hb8
              rcases hP with ⟨rfl, hno⟩ | ⟨hLm, hLk, hmx⟩
              · have hcn := cnt_none HME.out hno
                have hw := who_none HC.out hcn HLW.out HY.out HK.out (·.holder) rfl
                have hl := law_none (xs := ps) HC.out hcn HPP.out HY.out HK.out
                rw [HE1.out, HXS.out] at hw
                rw [HLL.out] at hl
                obtain ⟨rfl, rfl⟩ := hw
                obtain ⟨rfl, rfl⟩ : l1 = 0 ∧ l2 = 0 := by simpa using hl
                clear hno hcn hl
                go_wp2_with fail
                refine (r_same [0] [0] true _ _ 1 _ 1 _ _ (by decide) (by decide) (HI48.out.now (by (repeat' (first | with_reducible exact Below.refl _ _ | with_reducible assumption | with_reducible refine Below.alloc ?_ ?_ _ | with_reducible refine Below.setCell ?_ ?_ _ | with_reducible refine Below.drew ?_ | (simp; done) | (simp; omega) | omega)))) (Rd.new _ #[.int .i64 0] _ 1 1 _ (by simp) rfl) (by decide)).mono ?_
                rintro e w9 ⟨rfl, hb9⟩
                have HQ9 : Below w8.heap.size w8 w9 := Below.then_ (by (repeat' (first | with_reducible exact Below.refl _ _ | with_reducible assumption | with_reducible refine Below.alloc ?_ ?_ _ | with_reducible refine Below.setCell ?_ ?_ _ | with_reducible refine Below.drew ?_ | (simp; done) | (simp; omega) | omega))) hb9
                have HB9 := Below.then_ HB8 HQ9
                go_wp2_with fail
                refine (r_sane _).mono ?_
                rintro e w10 ⟨rfl, hb10⟩
                go_wp2_with fail
                go_ret
                exact ⟨rfl, Below.then_ HB9 hb10⟩
              · have hL0 : 0 ≤ L := by
                  obtain ⟨d, hd, hda⟩ := (HME.out L).1 hLm
                  have := okB_times (checkB_ok HC.out d hd)
                  rcases hda with rfl | ⟨rfl, h⟩ <;> omega
                have hcl := cnt_last (checkB_ok HC.out) HME.out hLk hmx
                have hLw : withinB L 0 100000 = true := by
                  have := HK.out
                  simp only [withinB, Bool.and_eq_true, decide_eq_true_eq] at this ⊢
                  omega
                have HEL : Hid (whoE ds (1 + q) day L = e1) := by show _ = _; rw [whoE_at hcl HY.out HK.out hLw]; exact HE1.out
                have HXL2 : Hid (whoL (·.holder) ds (1 + q) day L = xs) := by show _ = _; rw [whoL_at _ hcl HY.out HK.out hLw]; exact HXS.out
                have HLL2 : Hid (lawR ds ps day L = (l1, l2)) := by show _ = _; rw [lawR_at hcl HY.out HK.out hLw]; exact HLL.out
                have hneg : decide (L < 0) = false := by simp; omega
                clear hcl hmx hLm hLw
                go_wp2_with fail
                refine (p_HoldersL ds (1 + q) day L e1 xs _ _ _ _ hn HD8.out HXL2.out HEL.out).mono ?_
                rintro e w9 ⟨A9, c9, rfl, hb9, hi9, hc9⟩
                have HI9 := Lib.hid hi9
                have HI49 := Lib.hid (HI48.out.now hb9)
                have bA9 := HBA8.out.ext hb9
                have a2 := bA9.cell 2
                have HD9 := Lib.hid (HD8.out.now hb9)
                have HP9 := Lib.hid (HP8.out.now hb9)
                have HB9 := Below.then_ HB8 hb9
                clear hi9 hb9 bA9
                go_wp2_with fail
                refine (p_Lawful_v ds ps day L l1 l2 _ _ _ _ _ _ _ hn HD9.out (by omega) HP9.out HLL2.out).mono ?_
                rintro e w10 ⟨rfl, hb10⟩
                have HB10 := Below.then_ HB9 hb10
                have HI410 := Lib.hid (HI49.out.now hb10)
                have HI910 := Lib.hid (HI9.out.now hb10)
                clear hb10
                go_wp2_with fail
                refine (r_same xs xs true _ _ _ _ _ _ _ (by have := HXL.out; omega) (by have := HXL.out; omega) HI410.out HI910.out (by simp)).mono ?_
                rintro e w11 ⟨rfl, hb11⟩
                have HB11 := Below.then_ HB10 hb11
                clear hb11
                go_wp2_with fail
                refine (r_sane _).mono ?_
                rintro e w12 ⟨rfl, hb12⟩
                go_wp2_with fail
                go_ret
                exact ⟨rfl, Below.then_ HB11 hb12⟩
          
end Go.Proofs.YtaomfjgleddpdaaGreat
