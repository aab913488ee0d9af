import Derived.Test.YtaomfjgleddpdaaGreatP2
set_option linter.unusedVariables false
set_option linter.unusedSimpArgs false

/- The reference's Holds and Has. -/
namespace Go.Proofs.YtaomfjgleddpdaaGreat
open Go.RowKit
attribute [local go_sem] Oper.semAt_some

theorem koE_ask {ds : List Deed} {lock person day kn : Int} {p : St → Bool} : koE ds lock person day kn true = (askR ds (lockErr ds lock person day kn) (lock, 0) day kn p).2 := by
  unfold koE askR
  rw [show koV ds lock person day kn true = lockErr ds lock person day kn from rfl]
  split
  · split <;> rfl
  · rfl
theorem koL_ask {ds : List Deed} {lock person day kn : Int} {f : Int × Int → Bool} {p : St → Bool} (h : ∀ s : St, p s = f (s.holder, s.hand)) : ansI ((koL ds lock person day kn true).any f) ((koL ds lock person day kn true).any fun r => !f r) = (askR ds (lockErr ds lock person day kn) (lock, 0) day kn p).1 := by
  have hko := koE_ask (ds := ds) (lock := lock) (person := person) (day := day) (kn := kn) (p := p)
  unfold koL
  rw [hko]
  unfold askR
  by_cases h0 : lockErr ds lock person day kn = 0
  · rw [if_pos h0]
    cases hcl : clF (cntDs kn ds) with
    | true => simp [ansI]
    | false =>
      simp only [Bool.false_eq_true, if_false, if_true]
      unfold askI keysL
      rw [List.any_map, List.any_map]
      congr 1
      · congr 1; funext x; simp [Function.comp, h]
      · congr 1; funext x; simp [Function.comp, h]
  · rw [if_neg h0]
    simp [h0, ansI]
theorem koL_ask_holder {ds : List Deed} {lock person day kn : Int} : ansI ((koL ds lock person day kn true).any fun r => decide (r.1 = person)) ((koL ds lock person day kn true).any fun r => !decide (r.1 = person)) = (askR ds (lockErr ds lock person day kn) (lock, 0) day kn fun s => decide (s.holder = person)).1 := koL_ask fun _ => rfl
theorem koL_ask_hand {ds : List Deed} {lock person day kn : Int} : ansI ((koL ds lock person day kn true).any fun r => decide (r.2 = person)) ((koL ds lock person day kn true).any fun r => !decide (r.2 = person)) = (askR ds (lockErr ds lock person day kn) (lock, 0) day kn fun s => decide (s.hand = person)).1 := koL_ask fun _ => rfl

set_option maxRecDepth 100000 in
set_option maxHeartbeats 2000000 in
theorem r_Holds (ds : List Deed) (lock person day kn a err : Int) (A : Option Addr) (n c : Nat) (w : World) (hn : n ≤ 9223372036854775807) (hd : Ds w w.heap.size A n ds) (ha : (askR ds (lockErr ds lock person day kn) (lock, 0) day kn fun s => decide (s.holder = person)).1 = a) (he : (askR ds (lockErr ds lock person day kn) (lock, 0) day kn fun s => decide (s.holder = person)).2 = err) :
    Calls Tryz.prog 43 #[.slice A n c, .agg #[.int .i64 lock, .int .i64 person, .int .i64 day, .int .i64 kn]] w fun e w' => e = .returned (.tuple #[.int .i64 a, .int .i64 err]) ∧ Below w.heap.size w w' := by
  have HD := Lib.hid hd
  obtain ⟨l, hl⟩ : ∃ l, koL ds lock person day kn true = l := ⟨_, rfl⟩
  have HLL := Lib.hid hl
  have hll := koL_len ds lock person day kn true
  rw [hl] at hll
  have HE : Hid (koE ds lock person day kn true = err) := by show _ = _; rw [← he]; exact koE_ask
  have HA : Hid (ansI (l.any fun r => decide (r.1 = person)) (l.any fun r => !decide (r.1 = person)) = a) := by show _ = _; rw [← ha, ← hl]; exact koL_ask_holder
  clear hd ha he hl
  go_enter Tryz.func43, Tryz.ntmps43
  go_wp2_with fail
  refine (r_keysOf ds lock person day kn err true l _ _ _ _ hn (HD.out.now (by (repeat' (first | with_reducible exact Below.refl _ _ | with_reducible assumption | with_reducible refine Below.alloc ?_ ?_ _ | with_reducible refine Below.setCell ?_ ?_ _ | with_reducible refine Below.drew ?_ | (simp; done) | (simp; omega) | omega)))) HE.out HLL.out).mono ?_
  rintro e w1 ⟨A1, c1, rfl, hb1, hi1, _⟩
  have HB1 := Lib.hid (show Below w.heap.size w w1 from Below.then_ (by (repeat' (first | with_reducible exact Below.refl _ _ | with_reducible assumption | with_reducible refine Below.alloc ?_ ?_ _ | with_reducible refine Below.setCell ?_ ?_ _ | with_reducible refine Below.drew ?_ | (simp; done) | (simp; omega) | omega))) hb1)
  have HBA := Lib.hid ((BoxA.new w 59 #[.int .i64 lock, .int .i64 person, .int .i64 day, .int .i64 kn]).ext hb1)
  have HI := Lib.hid hi1
  clear hb1 hi1
  go_wp2_with fail
  go_loopw [8, 9, 20] (fun vy vn i wr => ∃ (k : Nat) (y z : Bool), k ≤ l.length ∧ i = .int .i64 k ∧ vy = .bool y ∧ vn = .bool z ∧ y = ((l.take k).any fun r => decide (r.1 = person)) ∧ z = ((l.take k).any fun r => !decide (r.1 = person)) ∧ Below w1.heap.size w1 wr) (fun _ _ i _ => l.length - (intOf i).toNat)
  case atStart => exact ⟨0, false, false, by omega, rfl, rfl, rfl, rfl, rfl, Below.refl _ _⟩
  case round =>
    obtain ⟨k, y0, z0, hk, rfl, rfl, rfl, hy, hz, hB⟩ := hrel
    have HY := Lib.hid hy
    have HZ := Lib.hid hz
    have HBB := Lib.hid hB
    have hsr : w1.heap.size ≤ wr.heap.size := hB.size
    clear hy hz hB
    by_cases hlt : k < l.length
    · obtain ⟨b, o, x, y, rfl, hb, hxk, hc1, hc2⟩ := (HI.out.ext HBB.out (Nat.le_refl _)).at_ hlt
      have HK := Lib.hid hxk
      have HBN := Lib.hid (HBB.out.alloc hsr (.cells #[.int .i64 x, .int .i64 y] 81))
      have hBa := HBA.out.ext HBB.out
      have a1 := hBa.cell 1
      have hlta := hBa.lt
      have hY2 : ((l.take (k + 1)).any fun r => decide (r.1 = person)) = (y0 || decide (x = person)) := by rw [take_snoc_some hxk, List.any_append, HY.out]; simp
      have hZ2 : ((l.take (k + 1)).any fun r => !decide (r.1 = person)) = (z0 || !decide (x = person)) := by rw [take_snoc_some hxk, List.any_append, HZ.out]; simp
      have HY2 := Lib.hid hY2
      have HZ2 := Lib.hid hZ2
      clear hxk hBa hY2 hZ2 HY HZ
      by_cases hp : x = person
      · have hp1 : (x == person) = true := by simpa using hp
        have hp2 : (x != person) = false := by simpa using hp
        have HP : Hid (decide (x = person) = true) := by show _ = _; simpa using hp
        clear hp
        cases y0 <;> cases z0
        all_goals
          go_wp2_with fail
          go_roundw
          case rel => exact ⟨k + 1, _, _, by omega, by go_num, rfl, rfl, by rw [HY2.out, HP.out]; rfl, by rw [HZ2.out, HP.out]; rfl, HBN.out⟩
          case measure => simp [intOf]; omega
      · have hp1 : (x == person) = false := by simpa using hp
        have hp2 : (x != person) = true := by simpa using hp
        have HP : Hid (decide (x = person) = false) := by show _ = _; simpa using hp
        clear hp
        cases y0 <;> cases z0
        all_goals
          go_wp2_with fail
          go_roundw
          case rel => exact ⟨k + 1, _, _, by omega, by go_num, rfl, rfl, by rw [HY2.out, HP.out]; rfl, by rw [HZ2.out, HP.out]; rfl, HBN.out⟩
          case measure => simp [intOf]; omega
    · obtain rfl : k = l.length := by omega
      have HF : Hid (ansI y0 z0 = a) := by show _ = _; rw [← HA.out, HY.out, HZ.out, List.take_length]
      go_wp2_with (go_at_call 107; refine (r_answer _ _ _).mono ?_; rintro e w1 ⟨rfl, rfl⟩)
      go_ret2
      exact ⟨by rw [← HF.out]; rfl, Below.then_ HB1.out HBB.out⟩

set_option maxRecDepth 100000 in
set_option maxHeartbeats 2000000 in
theorem r_Has (ds : List Deed) (lock person day kn a err : Int) (A : Option Addr) (n c : Nat) (w : World) (hn : n ≤ 9223372036854775807) (hd : Ds w w.heap.size A n ds) (ha : (askR ds (lockErr ds lock person day kn) (lock, 0) day kn fun s => decide (s.hand = person)).1 = a) (he : (askR ds (lockErr ds lock person day kn) (lock, 0) day kn fun s => decide (s.hand = person)).2 = err) :
    Calls Tryz.prog 45 #[.slice A n c, .agg #[.int .i64 lock, .int .i64 person, .int .i64 day, .int .i64 kn]] w fun e w' => e = .returned (.tuple #[.int .i64 a, .int .i64 err]) ∧ Below w.heap.size w w' := by
  have HD := Lib.hid hd
  obtain ⟨l, hl⟩ : ∃ l, koL ds lock person day kn true = l := ⟨_, rfl⟩
  have HLL := Lib.hid hl
  have hll := koL_len ds lock person day kn true
  rw [hl] at hll
  have HE : Hid (koE ds lock person day kn true = err) := by show _ = _; rw [← he]; exact koE_ask
  have HA : Hid (ansI (l.any fun r => decide (r.2 = person)) (l.any fun r => !decide (r.2 = person)) = a) := by show _ = _; rw [← ha, ← hl]; exact koL_ask_hand
  clear hd ha he hl
  go_enter Tryz.func45, Tryz.ntmps45
  go_wp2_with fail
  refine (r_keysOf ds lock person day kn err true l _ _ _ _ hn (HD.out.now (by (repeat' (first | with_reducible exact Below.refl _ _ | with_reducible assumption | with_reducible refine Below.alloc ?_ ?_ _ | with_reducible refine Below.setCell ?_ ?_ _ | with_reducible refine Below.drew ?_ | (simp; done) | (simp; omega) | omega)))) HE.out HLL.out).mono ?_
  rintro e w1 ⟨A1, c1, rfl, hb1, hi1, _⟩
  have HB1 := Lib.hid (show Below w.heap.size w w1 from Below.then_ (by (repeat' (first | with_reducible exact Below.refl _ _ | with_reducible assumption | with_reducible refine Below.alloc ?_ ?_ _ | with_reducible refine Below.setCell ?_ ?_ _ | with_reducible refine Below.drew ?_ | (simp; done) | (simp; omega) | omega))) hb1)
  have HBA := Lib.hid ((BoxA.new w 59 #[.int .i64 lock, .int .i64 person, .int .i64 day, .int .i64 kn]).ext hb1)
  have HI := Lib.hid hi1
  clear hb1 hi1
  go_wp2_with fail
  go_loopw [8, 9, 20] (fun vy vn i wr => ∃ (k : Nat) (y z : Bool), k ≤ l.length ∧ i = .int .i64 k ∧ vy = .bool y ∧ vn = .bool z ∧ y = ((l.take k).any fun r => decide (r.2 = person)) ∧ z = ((l.take k).any fun r => !decide (r.2 = person)) ∧ Below w1.heap.size w1 wr) (fun _ _ i _ => l.length - (intOf i).toNat)
  case atStart => exact ⟨0, false, false, by omega, rfl, rfl, rfl, rfl, rfl, Below.refl _ _⟩
  case round =>
    obtain ⟨k, y0, z0, hk, rfl, rfl, rfl, hy, hz, hB⟩ := hrel
    have HY := Lib.hid hy
    have HZ := Lib.hid hz
    have HBB := Lib.hid hB
    have hsr : w1.heap.size ≤ wr.heap.size := hB.size
    clear hy hz hB
    by_cases hlt : k < l.length
    · obtain ⟨b, o, x, y, rfl, hb, hxk, hc1, hc2⟩ := (HI.out.ext HBB.out (Nat.le_refl _)).at_ hlt
      have HK := Lib.hid hxk
      have HBN := Lib.hid (HBB.out.alloc hsr (.cells #[.int .i64 x, .int .i64 y] 81))
      have hBa := HBA.out.ext HBB.out
      have a1 := hBa.cell 1
      have hlta := hBa.lt
      have hY2 : ((l.take (k + 1)).any fun r => decide (r.2 = person)) = (y0 || decide (y = person)) := by rw [take_snoc_some hxk, List.any_append, HY.out]; simp
      have hZ2 : ((l.take (k + 1)).any fun r => !decide (r.2 = person)) = (z0 || !decide (y = person)) := by rw [take_snoc_some hxk, List.any_append, HZ.out]; simp
      have HY2 := Lib.hid hY2
      have HZ2 := Lib.hid hZ2
      clear hxk hBa hY2 hZ2 HY HZ
      by_cases hp : y = person
      · have hp1 : (y == person) = true := by simpa using hp
        have hp2 : (y != person) = false := by simpa using hp
        have HP : Hid (decide (y = person) = true) := by show _ = _; simpa using hp
        clear hp
        cases y0 <;> cases z0
        all_goals
          go_wp2_with fail
          go_roundw
          case rel => exact ⟨k + 1, _, _, by omega, by go_num, rfl, rfl, by rw [HY2.out, HP.out]; rfl, by rw [HZ2.out, HP.out]; rfl, HBN.out⟩
          case measure => simp [intOf]; omega
      · have hp1 : (y == person) = false := by simpa using hp
        have hp2 : (y != person) = true := by simpa using hp
        have HP : Hid (decide (y = person) = false) := by show _ = _; simpa using hp
        clear hp
        cases y0 <;> cases z0
        all_goals
          go_wp2_with fail
          go_roundw
          case rel => exact ⟨k + 1, _, _, by omega, by go_num, rfl, rfl, by rw [HY2.out, HP.out]; rfl, by rw [HZ2.out, HP.out]; rfl, HBN.out⟩
          case measure => simp [intOf]; omega
    · obtain rfl : k = l.length := by omega
      have HF : Hid (ansI y0 z0 = a) := by show _ = _; rw [← HA.out, HY.out, HZ.out, List.take_length]
      go_wp2_with (go_at_call 107; refine (r_answer _ _ _).mono ?_; rintro e w1 ⟨rfl, rfl⟩)
      go_ret2
      exact ⟨by rw [← HF.out]; rfl, Below.then_ HB1.out HBB.out⟩

end Go.Proofs.YtaomfjgleddpdaaGreat

/- The reference's office, InOffice and Wardens. -/
namespace Go.Proofs.YtaomfjgleddpdaaGreat
open Go.RowKit
attribute [local go_sem] Oper.semAt_some

def anyJ (T : List Deed) (day : Int) (p : Nat → Bool) (j : Nat) : Bool := (List.range j).any fun k => mayB T k day && p k
theorem any_yes {T : List Deed} {day : Int} {p : Nat → Bool} {j : Nat} (h : mayB T j day = true) : anyJ T day p (j + 1) = (anyJ T day p j || p j) := by
  unfold anyJ
  rw [List.range_succ, List.any_append]
  simp [h]
theorem any_no {T : List Deed} {day : Int} {p : Nat → Bool} {j : Nat} (h : mayB T j day = false) : anyJ T day p (j + 1) = anyJ T day p j := by
  unfold anyJ
  rw [List.range_succ, List.any_append]
  simp [h]
theorem any_all {T : List Deed} {day : Int} (p : St → Bool) : anyJ T day (fun k => p (runSt (T.take k))) (T.length + 1) = (stsL T day).any fun x => p x.2 := by
  unfold anyJ stsL
  rw [List.any_map, List.any_filter, Bool.eq_iff_iff, List.any_eq_true, List.any_eq_true]
  constructor
  · rintro ⟨k, hk, h⟩
    refine ⟨k, hk, ?_⟩
    have hk2 : k ≤ T.length := by simp at hk; omega
    simpa [stN_run T hk2] using h
  · rintro ⟨k, hk, h⟩
    refine ⟨k, hk, ?_⟩
    have hk2 : k ≤ T.length := by simp at hk; omega
    simpa [stN_run T hk2] using h
theorem office_step {ds : List Deed} {q : Int} {T : List Deed} {j : Nat} {d : Deed} (ho : d.okB = true) (hn : nmD d = (0, q)) (hd : T[j]? = some d) : (runSt (T.take (j + 1))).office = decide (d.kind = 1) := by
  have h1 := (officeOf_is ho hn).1
  rw [take_snoc_some hd, runSt, List.foldl_append]
  simp only [List.foldl_cons, List.foldl_nil]
  unfold stepSt
  by_cases k1 : d.kind = 1
  · simp [k1]
  · have k2 : d.kind = 2 := by simp [officeB, k1] at h1; exact h1
    simp [k2]

set_option maxRecDepth 100000 in
set_option maxHeartbeats 4000000 in
theorem r_office (ds : List Deed) (q day a : Int) (A : Option Addr) (n c : Nat) (w : World) (hn : n ≤ 60) (hok : ∀ d ∈ ds, d.okB = true) (hd : Ds w w.heap.size A n ds) (ha : askI (thr ds (0, q)) day (·.office) = a) :
    Calls Tryz.prog 113 #[.slice A n c, .int .i64 q, .int .i64 day] w fun e w' => e = .returned (.int .i64 a) ∧ Below w.heap.size w w' := by
  have HD := Lib.hid hd
  have HL := Lib.hid hd.len
  have HO := Lib.hid hok
  have HAA := Lib.hid ha
  clear hd hok ha
  have HXL : Hid ((ixL ds (0, q)).length ≤ n) := by show _ ≤ _; have h := ixL_len ds (0, q); rwa [HL.out] at h
  have HRL : Hid ((dayL ds).length = n) := (dayL_len ds).trans HL.out
  go_enter Tryz.func113, Tryz.ntmps113
  go_wp2_with fail
  refine (r_Days ds _ _ _ _ (by omega) HO.out HD.out).mono ?_
  rintro e w1 ⟨A1, c1, rfl, hb1, hi1, _⟩
  have HB1 := Lib.hid hb1
  have HR1 := Lib.hid hi1
  clear hb1 hi1
  go_wp2_with fail
  refine (r_officeOf ds q _ _ _ _ (by omega) HO.out (HD.out.now HB1.out)).mono ?_
  rintro e w2 ⟨A2, c2, rfl, hb2, hi2, _⟩
  have HB2 := Lib.hid (Below.then_ HB1.out hb2)
  have HR := Lib.hid (HR1.out.now hb2)
  have HX := Lib.hid hi2
  clear hb2 hi2 HR1 HB1
  obtain ⟨w3, rfl⟩ : ∃ w3 : World, w3 = w2 := ⟨_, rfl⟩
  go_wp2_with fail
  go_loopw [9, 10, 11] (fun vy vn i wr => ∃ (j : Nat) (y z : Bool), j ≤ (ixL ds (0, q)).length + 1 ∧ i = .int .i64 j ∧ vy = .bool y ∧ vn = .bool z ∧ y = anyJ (thr ds (0, q)) day (fun k => (runSt ((thr ds (0, q)).take k)).office) j ∧ z = anyJ (thr ds (0, q)) day (fun k => !(runSt ((thr ds (0, q)).take k)).office) j ∧ Below w3.heap.size w3 wr) (fun _ _ i _ => (ixL ds (0, q)).length + 1 - (intOf i).toNat)
  case atStart => exact ⟨0, false, false, by omega, rfl, rfl, rfl, rfl, rfl, Below.refl _ _⟩
  case round =>
    obtain ⟨j, y0, z0, hj, rfl, rfl, rfl, hy, hz, hB⟩ := hrel
    obtain ⟨wo, rfl⟩ : ∃ wo : World, wo = wr := ⟨_, rfl⟩
    have HY := Lib.hid hy
    have HZ := Lib.hid hz
    have HBQ := Lib.hid hB
    clear hy hz hB
    by_cases hlt : j ≤ (ixL ds (0, q)).length
    · by_cases j0 : j = 0
      · subst j0
        have hmay : mayB (thr ds (0, q)) 0 day = (vloB (thr ds (0, q)) 0 day && vhiB (thr ds (0, q)) 0 day) := rfl
        have HMAY := Lib.hid hmay
        clear hmay
        go_wp2_with fail
        refine (r_can' (dayL ds) (ixL ds (0, q)) 0 0 day _ _ _ _ _ _ _ _ _ (by have := HRL.out; omega) (by have := HXL.out; omega) (HR.out.now HBQ.out) (HX.out.now HBQ.out) (by have := HXL.out; omega) (by go_num) (can_lo HO.out (by have := HXL.out; omega)) (can_hi HO.out (by have := HXL.out; omega))).mono ?_
        rw [← HMAY.out]
        rintro e w5 ⟨rfl, hb5⟩
        have HBN := Lib.hid (Below.then_ HBQ.out hb5)
        clear hb5 HMAY
        obtain ⟨wf, rfl⟩ : ∃ wf : World, wf = w5 := ⟨_, rfl⟩
        cases hm : mayB (thr ds (0, q)) 0 day with
        | false =>
          have HY2 := Lib.hid (any_no (p := fun k => (runSt ((thr ds (0, q)).take k)).office) hm)
          have HZ2 := Lib.hid (any_no (p := fun k => !(runSt ((thr ds (0, q)).take k)).office) hm)
          clear hm
          go_wp2_with fail
          go_roundw
          case rel => exact ⟨0 + 1, y0, z0, by omega, by go_num, rfl, rfl, by rw [HY2.out]; exact HY.out, by rw [HZ2.out]; exact HZ.out, HBN.out⟩
          case measure => simp [intOf] <;> omega
        | true =>
          have HIN : Hid ((runSt ((thr ds (0, q)).take 0)).office = false) := rfl
          have HY2 := Lib.hid (any_yes (p := fun k => (runSt ((thr ds (0, q)).take k)).office) hm)
          have HZ2 := Lib.hid (any_yes (p := fun k => !(runSt ((thr ds (0, q)).take k)).office) hm)
          clear hm
          cases y0 <;> cases z0
          all_goals
            go_wp2_with fail
            go_roundw
            case rel => exact ⟨0 + 1, _, _, by omega, by go_num, rfl, rfl, by rw [HY2.out, ← HY.out, HIN.out]; rfl, by rw [HZ2.out, ← HZ.out, HIN.out]; rfl, HBN.out⟩
            case measure => simp [intOf] <;> omega
      · obtain ⟨j, rfl⟩ : ∃ k, j = k + 1 := ⟨j - 1, by omega⟩
        have hsl := ixL_sub ds (0, q)
        obtain ⟨⟨d, i⟩, hp⟩ : ∃ p, (sub ds (0, q))[j]? = some p := ⟨_, List.getElem?_eq_getElem (by omega)⟩
        clear hsl
        obtain ⟨hci, hnm⟩ := sub_mem.1 (List.mem_of_getElem? hp)
        have hxi := ixL_at hp
        have hod := HO.out d (List.mem_of_getElem? hci)
        have hTj : (thr ds (0, q))[j]? = some d := by unfold thr; rw [List.getElem?_map, hp]; rfl
        have HST := Lib.hid (office_step (ds := ds) hod hnm hTj)
        have hin : i < n := by have := (List.getElem?_eq_some_iff.1 hci).1; have := HL.out; omega
        have hj60 : j < 60 := by have := HXL.out; omega
        have HCI := Lib.hid hci
        have HXI := Lib.hid hxi
        clear hp hci hxi hod hTj j0 hnm
        have hmay : mayB (thr ds (0, q)) (j + 1) day = (vloB (thr ds (0, q)) (j + 1) day && vhiB (thr ds (0, q)) (j + 1) day) := rfl
        have HMAY := Lib.hid hmay
        clear hmay
        go_wp2_with fail
        refine (r_can' (dayL ds) (ixL ds (0, q)) (j + 1) ((j : Int) + 1) day _ _ _ _ _ _ _ _ _ (by have := HRL.out; omega) (by have := HXL.out; omega) (HR.out.now HBQ.out) (HX.out.now HBQ.out) (by have := HXL.out; omega) (by go_num) (can_lo HO.out (by have := HXL.out; omega)) (can_hi HO.out (by have := HXL.out; omega))).mono ?_
        rw [← HMAY.out]
        rintro e w5 ⟨rfl, hb5⟩
        have HBN := Lib.hid (Below.then_ HBQ.out hb5)
        clear hb5 HMAY
        obtain ⟨wf, rfl⟩ : ∃ wf : World, wf = w5 := ⟨_, rfl⟩
        cases hm : mayB (thr ds (0, q)) (j + 1) day with
        | false =>
          have HY2 := Lib.hid (any_no (p := fun k => (runSt ((thr ds (0, q)).take k)).office) hm)
          have HZ2 := Lib.hid (any_no (p := fun k => !(runSt ((thr ds (0, q)).take k)).office) hm)
          clear hm
          go_wp2_with fail
          go_roundw
          case rel => exact ⟨(j + 1) + 1, y0, z0, by omega, by go_num, rfl, rfl, by rw [HY2.out]; exact HY.out, by rw [HZ2.out]; exact HZ.out, HBN.out⟩
          case measure => simp [intOf] <;> omega
        | true =>
          have HBD := Lib.hid (Below.then_ HB2.out HBN.out)
          obtain ⟨bx, ox, x, eb, hbb, hx, hxc⟩ := (HX.out.now HBN.out).at_ (k := j) (by omega)
          cases eb
          rw [HXI.out] at hx
          cases hx
          obtain ⟨bd, od, d', ed, hbd, hd', hat⟩ := (HD.out.now HBD.out).at_ hin
          cases ed
          rw [HCI.out] at hd'
          cases hd'
          obtain ⟨_, _, a2, _, _, _, _, _, _⟩ := hat
          have g1 : (j : Int) < ((ixL ds (0, q)).length : Int) := by omega
          have g2 : ¬ ((j : Int) < 0) := by omega
          have g3 : (i : Int) < (n : Int) := by omega
          have g4 : ¬ ((i : Int) < 0) := by omega
          have g5 : decide (0 < (j : Int) + 1) = true := by simp <;> omega
          have g6 : IntKind.i64.wrap (j : Int) = (j : Int) := wrap_small (by omega) (by omega)
          by_cases hk : d.kind = 1
          · have hk1 : (d.kind == 1) = true := by simpa using hk
            have HIN : Hid ((runSt ((thr ds (0, q)).take (j + 1))).office = true) := by show _ = _; rw [HST.out]; simpa using hk
            clear hk
            have HY2 := Lib.hid (any_yes (p := fun k => (runSt ((thr ds (0, q)).take k)).office) hm)
            have HZ2 := Lib.hid (any_yes (p := fun k => !(runSt ((thr ds (0, q)).take k)).office) hm)
            clear hm
            cases y0 <;> cases z0
            all_goals
              go_wp2_with fail
              go_roundw
              case rel => exact ⟨(j + 1) + 1, _, _, by omega, by go_num, rfl, rfl, by rw [HY2.out, ← HY.out, HIN.out]; rfl, by rw [HZ2.out, ← HZ.out, HIN.out]; rfl, HBN.out⟩
              case measure => simp [intOf] <;> omega
          · have hk1 : (d.kind == 1) = false := by simpa using hk
            have HIN : Hid ((runSt ((thr ds (0, q)).take (j + 1))).office = false) := by show _ = _; rw [HST.out]; simpa using hk
            clear hk
            have HY2 := Lib.hid (any_yes (p := fun k => (runSt ((thr ds (0, q)).take k)).office) hm)
            have HZ2 := Lib.hid (any_yes (p := fun k => !(runSt ((thr ds (0, q)).take k)).office) hm)
            clear hm
            cases y0 <;> cases z0
            all_goals
              go_wp2_with fail
              go_roundw
              case rel => exact ⟨(j + 1) + 1, _, _, by omega, by go_num, rfl, rfl, by rw [HY2.out, ← HY.out, HIN.out]; rfl, by rw [HZ2.out, ← HZ.out, HIN.out]; rfl, HBN.out⟩
              case measure => simp [intOf] <;> omega
    · obtain rfl : j = (ixL ds (0, q)).length + 1 := by omega
      have HF : Hid (ansI y0 z0 = a) := by
        show _ = _
        rw [← HAA.out, HY.out, HZ.out, ixL_thr]
        unfold askI
        rw [any_all (fun s => s.office), any_all (fun s => !s.office)]
      go_wp2_with (go_at_call 107; refine (r_answer _ _ _).mono ?_; rintro e w1 ⟨rfl, rfl⟩)
      go_ret
      exact ⟨by rw [← HF.out]; rfl, Below.then_ HB2.out HBQ.out⟩

end Go.Proofs.YtaomfjgleddpdaaGreat
