import Derived.Test.YtaomfjgleddpdaaGreatN3
import Derived.Test.YtaomfjgleddpdaaGreatB3
import Derived.Test.YtaomfjgleddpdaaGreatB5
set_option linter.unusedVariables false
set_option linter.unusedSimpArgs false

/- The reference's even, answer, after, threadOf and officeOf. -/
namespace Go.Proofs.YtaomfjgleddpdaaGreat
open Go.RowKit
attribute [local go_sem] Oper.semAt_some

set_option maxRecDepth 100000 in
set_option maxHeartbeats 2000000 in
/-- The deeds that count: the first one of the days is that of knowing. -/
theorem r_even (ds : List Deed) (kn : Int) (xs : List Int) (err : Int) (zs : List Deed) (ev : Int) (A B : Option Addr) (n c m cc : Nat) (w : World) (hn : n ≤ 9223372036854775807) (hm : m ≤ 1000000) (hd : Ds w w.heap.size A n ds) (hx : Is w w.heap.size B m (kn :: xs)) (he : askE ds (kn :: xs) = err)
    (hz : (if err = 0 then evDs kn ds else []) = zs) (hv : (if err = 0 then evErr kn ds else err) = ev) :
    Calls Tryz.prog 112 #[.slice A n c, .slice B m cc] w (RetJ zs ev w) := by
  have HD := Lib.hid hd
  have HL := Lib.hid hd.len
  have HX := Lib.hid hx
  have hm1 : 1 ≤ m := by have := hx.len; simp at this; omega
  have HE := Lib.hid he
  have HZ := Lib.hid hz
  have HV := Lib.hid hv
  clear hd hx he hz hv
  by_cases h0 : err = 0
  · subst h0
    have H60 := Lib.hid (check_60 (ask_ok HE.out).1)
    have h60 : n ≤ 60 := by have := H60.out; have := HL.out; omega
    have HOK := Lib.hid (cnt_ok (ask_ok HE.out).1 kn)
    have HC60 : Hid ((cntDs kn ds).length ≤ 60) := by show _ ≤ _; have := cntDs_len kn ds; have := H60.out; omega
    obtain ⟨b, o, x, rfl, hb, hx0, hc0⟩ := HX.out.at_ (k := 0) (by omega)
    obtain rfl : kn = x := by simpa using hx0
    clear hx0 hc0
    go_enter Tryz.func112, Tryz.ntmps112
    go_wp2_with fail
    refine (r_asked_v ds (kn :: xs) 0 _ _ _ _ _ _ _ hn hm HD.out HX.out HE.out).mono ?_
    rintro e w1 ⟨rfl, hb1⟩
    have HB1 : Below w.heap.size w w1 := hb1
    clear hb1
    obtain ⟨x', hx', hc0⟩ := (HX.out.now HB1).get (k := 0) (by omega)
    obtain rfl : kn = x' := by simpa using hx'
    rw [Nat.add_zero] at hc0
    have g1 : (0 : Int) < (m : Int) := by omega
    clear hx'
    go_wp2_with fail
    refine (r_counting ds kn _ _ _ _ (by omega) (HD.out.now HB1)).mono ?_
    rintro e w2 ⟨A2, c2, rfl, hb2, hd2, hcc2, _⟩
    have HB2 : Below w.heap.size w w2 := Below.then_ HB1 hb2
    have HD2 := Lib.hid hd2
    clear hb2 hd2
    go_wp2_with fail
    refine (r_clash (cntDs kn ds) _ _ _ _ (by have := HC60.out; omega) HOK.out HD2.out).mono ?_
    rintro e w3 ⟨i, k, rfl, _, hb3⟩
    have HB3 : Below w.heap.size w w3 := Below.then_ HB2 hb3
    have hs3 := HB3.size
    have HD3 := Lib.hid (HD2.out.now hb3)
    clear hb3
    cases hcl : clF (cntDs kn ds) with
    | true =>
      have hz1 : zs = [] := by rw [← HZ.out, if_pos trivial, evDs, if_pos hcl]
      have hv1 : ev = 13 := by rw [← HV.out, if_pos trivial, evErr, if_pos hcl]
      subst hz1
      subst hv1
      clear hcl
      go_wp2_with fail
      go_ret2
      exact ⟨none, 0, rfl, by (repeat' (first | with_reducible exact Below.refl _ _ | with_reducible assumption | with_reducible refine Below.alloc ?_ ?_ _ | with_reducible refine Below.setCell ?_ ?_ _ | with_reducible refine Below.drew ?_ | (simp; done) | (simp; omega) | omega)), Rd.nil_, Nat.le_refl _⟩
    | false =>
      have HZ1 : Hid (zs = cntDs kn ds) := by show _ = _; rw [← HZ.out, if_pos trivial, evDs, if_neg (by rw [hcl]; simp)]
      have hv1 : ev = 0 := by rw [← HV.out, if_pos trivial, evErr, if_neg (by rw [hcl]; simp)]
      subst hv1
      clear hcl
      go_wp2_with fail
      go_ret2
      rw [HZ1.out]
      exact ⟨A2, c2, rfl, by (repeat' (first | with_reducible exact Below.refl _ _ | with_reducible assumption | with_reducible refine Below.alloc ?_ ?_ _ | with_reducible refine Below.setCell ?_ ?_ _ | with_reducible refine Below.drew ?_ | (simp; done) | (simp; omega) | omega)), HD3.out.now (by (repeat' (first | with_reducible exact Below.refl _ _ | with_reducible assumption | with_reducible refine Below.alloc ?_ ?_ _ | with_reducible refine Below.setCell ?_ ?_ _ | with_reducible refine Below.drew ?_ | (simp; done) | (simp; omega) | omega))), hcc2⟩
  · have h1 : (err != 0) = true := by simpa using h0
    have hz1 : zs = [] := by rw [← HZ.out, if_neg h0]
    have hv1 : ev = err := by rw [← HV.out, if_neg h0]
    subst hz1
    subst hv1
    clear h0
    go_enter Tryz.func112, Tryz.ntmps112
    go_wp2_with fail
    refine (r_asked_v ds (kn :: xs) ev _ _ _ _ _ _ _ hn hm HD.out HX.out HE.out).mono ?_
    rintro e w1 ⟨rfl, hb1⟩
    go_wp2_with fail
    go_ret2
    exact ⟨none, 0, rfl, hb1, Rd.nil_, Nat.le_refl _⟩

theorem r_answer (can cannot : Bool) (w : World) :
    Calls Tryz.prog 107 #[.bool can, .bool cannot] w fun e w' => e = .returned (.int .i64 (ansI can cannot)) ∧ w = w' := by
  cases can <;> cases cannot <;>
  · go_enter Tryz.func107, Tryz.ntmps107
    go_wp2
    go_ret
    exact ⟨rfl, rfl⟩

/-- A key after a deed. -/
def aftK (k : Int × Int) (d : Deed) : Int × Int :=
  if d.kind = 3 then (d.person, d.person) else if d.kind = 4 then (if k.1 = 0 then k else (k.1, d.person)) else if d.kind = 5 then (k.1, k.1) else if d.kind = 6 then (0, 0) else k
theorem aftK_step {d : Deed} (h : d.okB = true) (s : St) : aftK (s.holder, s.hand) d = ((stepSt s d).holder, (stepSt s d).hand) := by
  obtain ⟨h1, h6⟩ := okB_kind h
  unfold aftK stepSt
  by_cases k1 : d.kind = 1
  · simp [k1]
  by_cases k2 : d.kind = 2
  · simp [k2]
  by_cases k3 : d.kind = 3
  · simp [k3]
  by_cases k4 : d.kind = 4
  · by_cases hh : s.holder = 0 <;> simp [k4, hh]
  by_cases k5 : d.kind = 5
  · simp [k5]
  have k6 : d.kind = 6 := by omega
  simp [k6]

set_option maxRecDepth 100000 in
set_option maxHeartbeats 2000000 in
theorem r_after (h x : Int) (d : Deed) (r : Int × Int) (w : World) (hr : aftK (h, x) d = r) :
    Calls Tryz.prog 128 #[.agg #[.int .i64 h, .int .i64 x], .agg #[.int .i64 d.par, .int .i64 d.no, .int .i64 d.kind, .int .i64 d.lock, .int .i64 d.person, .int .i64 d.lo, .int .i64 d.hi, .int .i64 d.known, .int .i64 d.til]] w fun e w' => e = .returned (.agg #[.int .i64 r.1, .int .i64 r.2]) ∧ Below w.heap.size w w' := by
  have HR := Lib.hid hr
  clear hr
  unfold aftK at HR
  by_cases k3 : d.kind = 3
  · have h1 : (d.kind == 3) = true := by simpa using k3
    have HR2 : Hid (r = (d.person, d.person)) := by show _ = _; rw [← HR.out, if_pos k3]
    clear HR k3
    go_enter Tryz.func128, Tryz.ntmps128
    go_wp2_with fail
    refine bodyPost_ret (v := .agg #[.int .i64 d.person, .int .i64 d.person]) (by simp [results, Tryz.results128, go_sem]) rfl ⟨by rw [HR2.out], by (repeat' (first | with_reducible exact Below.refl _ _ | with_reducible assumption | with_reducible refine Below.alloc ?_ ?_ _ | with_reducible refine Below.setCell ?_ ?_ _ | with_reducible refine Below.drew ?_ | (simp; done) | (simp; omega) | omega))⟩
  have h3 : (d.kind == 3) = false := by simpa using k3
  by_cases k4 : d.kind = 4
  · have h1 : (d.kind == 4) = true := by simpa using k4
    by_cases hh : h = 0
    · have h2 : (h != 0) = false := by simpa using hh
      have HR2 : Hid (r = (h, x)) := by show _ = _; rw [← HR.out, if_neg k3, if_pos k4, if_pos hh]
      clear HR k3 k4 hh
      go_enter Tryz.func128, Tryz.ntmps128
      go_wp2_with fail
      refine bodyPost_ret (v := .agg #[.int .i64 h, .int .i64 x]) (by simp [results, Tryz.results128, go_sem]) rfl ⟨by rw [HR2.out], by (repeat' (first | with_reducible exact Below.refl _ _ | with_reducible assumption | with_reducible refine Below.alloc ?_ ?_ _ | with_reducible refine Below.setCell ?_ ?_ _ | with_reducible refine Below.drew ?_ | (simp; done) | (simp; omega) | omega))⟩
    · have h2 : (h != 0) = true := by simpa using hh
      have HR2 : Hid (r = (h, d.person)) := by show _ = _; rw [← HR.out, if_neg k3, if_pos k4, if_neg hh]
      clear HR k3 k4 hh
      go_enter Tryz.func128, Tryz.ntmps128
      go_wp2_with fail
      refine bodyPost_ret (v := .agg #[.int .i64 h, .int .i64 d.person]) (by simp [results, Tryz.results128, go_sem]) rfl ⟨by rw [HR2.out], by (repeat' (first | with_reducible exact Below.refl _ _ | with_reducible assumption | with_reducible refine Below.alloc ?_ ?_ _ | with_reducible refine Below.setCell ?_ ?_ _ | with_reducible refine Below.drew ?_ | (simp; done) | (simp; omega) | omega))⟩
  have h4 : (d.kind == 4) = false := by simpa using k4
  by_cases k5 : d.kind = 5
  · have h1 : (d.kind == 5) = true := by simpa using k5
    have HR2 : Hid (r = (h, h)) := by show _ = _; rw [← HR.out, if_neg k3, if_neg k4, if_pos k5]
    clear HR k3 k4 k5
    go_enter Tryz.func128, Tryz.ntmps128
    go_wp2_with fail
    refine bodyPost_ret (v := .agg #[.int .i64 h, .int .i64 h]) (by simp [results, Tryz.results128, go_sem]) rfl ⟨by rw [HR2.out], by (repeat' (first | with_reducible exact Below.refl _ _ | with_reducible assumption | with_reducible refine Below.alloc ?_ ?_ _ | with_reducible refine Below.setCell ?_ ?_ _ | with_reducible refine Below.drew ?_ | (simp; done) | (simp; omega) | omega))⟩
  have h5 : (d.kind == 5) = false := by simpa using k5
  by_cases k6 : d.kind = 6
  · have h1 : (d.kind == 6) = true := by simpa using k6
    have HR2 : Hid (r = (0, 0)) := by show _ = _; rw [← HR.out, if_neg k3, if_neg k4, if_neg k5, if_pos k6]
    clear HR k3 k4 k5 k6
    go_enter Tryz.func128, Tryz.ntmps128
    go_wp2_with fail
    refine bodyPost_ret (v := .agg #[.int .i64 0, .int .i64 0]) (by simp [results, Tryz.results128, go_sem]) rfl ⟨by rw [HR2.out], by (repeat' (first | with_reducible exact Below.refl _ _ | with_reducible assumption | with_reducible refine Below.alloc ?_ ?_ _ | with_reducible refine Below.setCell ?_ ?_ _ | with_reducible refine Below.drew ?_ | (simp; done) | (simp; omega) | omega))⟩
  have h6 : (d.kind == 6) = false := by simpa using k6
  have HR2 : Hid (r = (h, x)) := by show _ = _; rw [← HR.out, if_neg k3, if_neg k4, if_neg k5, if_neg k6]
  clear HR k3 k4 k5 k6
  go_enter Tryz.func128, Tryz.ntmps128
  go_wp2_with fail
  refine bodyPost_ret (v := .agg #[.int .i64 h, .int .i64 x]) (by simp [results, Tryz.results128, go_sem]) rfl ⟨by rw [HR2.out], by (repeat' (first | with_reducible exact Below.refl _ _ | with_reducible assumption | with_reducible refine Below.alloc ?_ ?_ _ | with_reducible refine Below.setCell ?_ ?_ _ | with_reducible refine Below.drew ?_ | (simp; done) | (simp; omega) | omega))⟩

end Go.Proofs.YtaomfjgleddpdaaGreat

/- The reference's threadOf and officeOf. -/
namespace Go.Proofs.YtaomfjgleddpdaaGreat
open Go.RowKit
attribute [local go_sem] Oper.semAt_some

/-- The indices of a thread's deeds. -/
def ixL (ds : List Deed) (nm : Nm) : List Int := (sub ds nm).map fun p => (p.2 : Int)
theorem ixL_len (ds : List Deed) (nm : Nm) : (ixL ds nm).length ≤ ds.length := by
  unfold ixL sub
  rw [List.length_map]
  exact Nat.le_trans (List.length_filter_le _ _) (by simp)
theorem ixL_in {ds : List Deed} {k : Nat} {d : Deed} {nm : Nm} (h : ds[k]? = some d) (hn : nmD d = nm) : ixL (ds.take (k + 1)) nm = ixL (ds.take k) nm ++ [(k : Int)] := by
  unfold ixL
  rw [sub_take_snoc h, ← hn, upd_same, List.map_append]
  rfl
theorem ixL_out {ds : List Deed} {k : Nat} {d : Deed} {nm : Nm} (h : ds[k]? = some d) (hn : ¬ nmD d = nm) : ixL (ds.take (k + 1)) nm = ixL (ds.take k) nm := by
  unfold ixL
  rw [sub_take_snoc h, upd_other _ (fun e => hn e.symm)]
theorem nm_lock {d : Deed} (h : d.okB = true) {q : Int} (hq : 1 ≤ q) : nmD d = (q, 0) ↔ d.lock = q := by
  unfold nmD nmLock nmPerson
  constructor
  · intro e; exact (Prod.mk.inj e).1
  · intro e
    rw [if_neg (by omega), e]
theorem nm_pers {d : Deed} (h : d.okB = true) {q : Int} : nmD d = (0, q) ↔ d.lock = 0 ∧ d.person = q := by
  unfold nmD nmLock nmPerson
  constructor
  · intro e
    obtain ⟨h1, h2⟩ := Prod.mk.inj e
    rw [if_pos h1] at h2
    exact ⟨h1, h2⟩
  · rintro ⟨h1, h2⟩
    rw [if_pos h1, h1, h2]
theorem threadOf_is {d : Deed} (h : d.okB = true) {q : Int} (hq : 1 ≤ q) (hn : nmD d = (q, 0)) : officeB d.kind = false ∧ d.lock = q := by
  have h1 := (nm_lock h hq).1 hn
  exact ⟨by rw [okB_office h, decide_eq_false_iff_not]; omega, h1⟩
theorem threadOf_not {d : Deed} (h : d.okB = true) {q : Int} (hq : 1 ≤ q) (hn : ¬ nmD d = (q, 0)) : officeB d.kind = true ∨ (officeB d.kind = false ∧ ¬ d.lock = q) := by
  cases ho : officeB d.kind with
  | true => exact .inl rfl
  | false => exact .inr ⟨rfl, fun e => hn ((nm_lock h hq).2 e)⟩
theorem officeOf_is {d : Deed} (h : d.okB = true) {q : Int} (hn : nmD d = (0, q)) : officeB d.kind = true ∧ d.person = q := by
  obtain ⟨h1, h2⟩ := (nm_pers h).1 hn
  exact ⟨by rw [okB_office h, decide_eq_true_eq]; exact h1, h2⟩
theorem officeOf_not {d : Deed} (h : d.okB = true) {q : Int} (hn : ¬ nmD d = (0, q)) : officeB d.kind = false ∨ (officeB d.kind = true ∧ ¬ d.person = q) := by
  cases ho : officeB d.kind with
  | false => exact .inl rfl
  | true =>
    rw [okB_office h, decide_eq_true_eq] at ho
    exact .inr ⟨rfl, fun e => hn ((nm_pers h).2 ⟨ho, e⟩)⟩

set_option maxRecDepth 100000 in
set_option maxHeartbeats 2000000 in
theorem r_threadOf (ds : List Deed) (q : Int) (A : Option Addr) (n c : Nat) (w : World) (hn : n ≤ 1000) (hq : 1 ≤ q) (hok : ∀ d ∈ ds, d.okB = true) (hd : Ds w w.heap.size A n ds) :
    Calls Tryz.prog 127 #[.slice A n c, .int .i64 q] w (RetI (ixL ds (q, 0)) w) := by
  obtain ⟨i0, hi, hz0, hz1, hz2⟩ := info_parts infoInt
  have HD := Lib.hid hd
  have HL := Lib.hid hd.len
  have HO := Lib.hid hok
  clear hd hok
  go_enter Tryz.func127, Tryz.ntmps127
  go_wp2_with fail
  go_loopw [5, 10] (fun v i wr => ∃ k : Nat, k ≤ n ∧ i = .int .i64 k ∧ wr.ownsRow w.heap.size 3 1 v (ixL (ds.take k) (q, 0)).length ((ixL (ds.take k) (q, 0)).map fun x => .int .i64 x) ∧ Below w.heap.size w wr) (fun _ i _ => n - (intOf i).toNat)
  case atStart => exact ⟨0, by omega, rfl, World.ownsRow_nil _ _ _ _, Below.refl _ _⟩
  case round =>
    obtain ⟨k, hk, rfl, hown, hB⟩ := hrel
    have hs0 : w.heap.size ≤ wr.heap.size := hB.size
    by_cases hlt : k < n
    · obtain ⟨b, o, d, rfl, hb, hdk, hat⟩ := (HD.out.ext hB (Nat.le_refl _)).at_ hlt
      have HK := Lib.hid hdk
      have HOD := Lib.hid (HO.out d (List.mem_of_getElem? hdk))
      clear hdk
      obtain ⟨a0, a1, a2, a3, a4, a5, a6, a7, a8⟩ := hat
      have hxl := ixL_len (ds.take k) (q, 0)
      rw [List.length_take, HL.out] at hxl
      have HBW := Lib.hid (fun o => hB.alloc hs0 o)
      have HOW := Lib.hid (fun o => hown.alloc o)
      by_cases hnm : nmD d = (q, 0)
      · have HE := Lib.hid (ixL_in HK.out hnm)
        obtain ⟨t1, t2⟩ := threadOf_is HOD.out hq hnm
        have T1 := Lib.hid t1
        have T2 : (d.lock == q) = true := by simpa using t2
        clear hnm t1 t2
        go_wp2_with (first | (go_at_call 148; refine (r_isOffice_v d.kind _ _ T1.out).mono ?_; rintro e w1 ⟨rfl, rfl⟩) | (at_builtin; refine wpList_append_own _ rfl (.tmp 25) (.tmp 27) 32 rfl w.heap.size 3 i0 _ 1 8 Tryz.underlying32 hi hz0 hz1 hz2 rfl (by decide) _ _ _ rfl ((hown.alloc _).alloc _) ⟨wr.heap.size + 1, 0, none⟩ 1 1 [.int .i64 (k : Int)] rfl rfl ?c1 ?c2 ?c3 ?c4 ?c5 ?_; rotate_left 5; intro v' w1 hown1 hgrow1 _))
        case c1 => have h := World.news_of_block (cs := #[.int .i64 (k : Int)]) (t := 3) (fr := (0, 0)) (heap_alloc_new (wr.alloc (.cells #[.int .i64 d.par, .int .i64 d.no, .int .i64 d.kind, .int .i64 d.lock, .int .i64 d.person, .int .i64 d.lo, .int .i64 d.hi, .int .i64 d.known, .int .i64 d.til] 28)) _); simpa using h
        case c2 => simp [Value.oneCell']
        case c3 => unfold maxLen; omega
        case c4 => omega
        case c5 => simp; omega
        go_roundw
        case rel =>
          refine ⟨k + 1, by omega, by go_num, ?_, Below.appended hB (((Below.refl _ _).alloc (Nat.le_refl _) _).alloc (by simp) _) hown hgrow1⟩
          rw [HE.out, List.map_append, List.length_append]
          exact hown1
        case measure => simp [intOf]; omega
      · have HE := Lib.hid (ixL_out HK.out hnm)
        rcases threadOf_not HOD.out hq hnm with t1 | ⟨t1, t2⟩
        · have T1 := Lib.hid t1
          clear hnm t1
          go_wp2_with (go_at_call 148; refine (r_isOffice_v d.kind _ _ T1.out).mono ?_; rintro e w1 ⟨rfl, rfl⟩)
          go_roundw
          case rel => exact ⟨k + 1, by omega, by go_num, by rw [HE.out]; exact HOW.out _, HBW.out _⟩
          case measure => simp [intOf]; omega
        · have T1 := Lib.hid t1
          have T2 : (d.lock == q) = false := by simpa using t2
          clear hnm t1 t2
          go_wp2_with (go_at_call 148; refine (r_isOffice_v d.kind _ _ T1.out).mono ?_; rintro e w1 ⟨rfl, rfl⟩)
          go_roundw
          case rel => exact ⟨k + 1, by omega, by go_num, by rw [HE.out]; exact HOW.out _, HBW.out _⟩
          case measure => simp [intOf]; omega
    · obtain rfl : k = n := by omega
      have HT : Hid (ds.take k = ds) := List.take_of_length_le (by rw [HL.out]; exact Nat.le_refl _)
      obtain ⟨A1, c1, hv, hcc⟩ : ∃ A1 c1, u5 = .slice A1 (ixL (ds.take k) (q, 0)).length c1 ∧ ((ixL (ds.take k) (q, 0)).length ≤ c1 ∧ c1 ≤ maxLen) := own_slice hown
      subst hv
      go_wp2_with fail
      go_ret
      have hr := Rd.of_own hown
      rw [HT.out] at hr hcc ⊢
      exact ⟨A1, c1, rfl, hB, hr, hcc.1⟩

set_option maxRecDepth 100000 in
set_option maxHeartbeats 2000000 in
theorem r_officeOf (ds : List Deed) (q : Int) (A : Option Addr) (n c : Nat) (w : World) (hn : n ≤ 1000) (hok : ∀ d ∈ ds, d.okB = true) (hd : Ds w w.heap.size A n ds) :
    Calls Tryz.prog 129 #[.slice A n c, .int .i64 q] w (RetI (ixL ds (0, q)) w) := by
  obtain ⟨i0, hi, hz0, hz1, hz2⟩ := info_parts infoInt
  have HD := Lib.hid hd
  have HL := Lib.hid hd.len
  have HO := Lib.hid hok
  clear hd hok
  go_enter Tryz.func129, Tryz.ntmps129
  go_wp2_with fail
  go_loopw [5, 10] (fun v i wr => ∃ k : Nat, k ≤ n ∧ i = .int .i64 k ∧ wr.ownsRow w.heap.size 3 1 v (ixL (ds.take k) (0, q)).length ((ixL (ds.take k) (0, q)).map fun x => .int .i64 x) ∧ Below w.heap.size w wr) (fun _ i _ => n - (intOf i).toNat)
  case atStart => exact ⟨0, by omega, rfl, World.ownsRow_nil _ _ _ _, Below.refl _ _⟩
  case round =>
    obtain ⟨k, hk, rfl, hown, hB⟩ := hrel
    have hs0 : w.heap.size ≤ wr.heap.size := hB.size
    by_cases hlt : k < n
    · obtain ⟨b, o, d, rfl, hb, hdk, hat⟩ := (HD.out.ext hB (Nat.le_refl _)).at_ hlt
      have HK := Lib.hid hdk
      have HOD := Lib.hid (HO.out d (List.mem_of_getElem? hdk))
      clear hdk
      obtain ⟨a0, a1, a2, a3, a4, a5, a6, a7, a8⟩ := hat
      have hxl := ixL_len (ds.take k) (0, q)
      rw [List.length_take, HL.out] at hxl
      have HBW := Lib.hid (fun o => hB.alloc hs0 o)
      have HOW := Lib.hid (fun o => hown.alloc o)
      by_cases hnm : nmD d = (0, q)
      · have HE := Lib.hid (ixL_in HK.out hnm)
        obtain ⟨t1, t2⟩ := officeOf_is HOD.out hnm
        have T1 := Lib.hid t1
        have T2 : (d.person == q) = true := by simpa using t2
        clear hnm t1 t2
        go_wp2_with (first | (go_at_call 148; refine (r_isOffice_v d.kind _ _ T1.out).mono ?_; rintro e w1 ⟨rfl, rfl⟩) | (at_builtin; refine wpList_append_own _ rfl (.tmp 24) (.tmp 26) 32 rfl w.heap.size 3 i0 _ 1 8 Tryz.underlying32 hi hz0 hz1 hz2 rfl (by decide) _ _ _ rfl ((hown.alloc _).alloc _) ⟨wr.heap.size + 1, 0, none⟩ 1 1 [.int .i64 (k : Int)] rfl rfl ?c1 ?c2 ?c3 ?c4 ?c5 ?_; rotate_left 5; intro v' w1 hown1 hgrow1 _))
        case c1 => have h := World.news_of_block (cs := #[.int .i64 (k : Int)]) (t := 3) (fr := (0, 0)) (heap_alloc_new (wr.alloc (.cells #[.int .i64 d.par, .int .i64 d.no, .int .i64 d.kind, .int .i64 d.lock, .int .i64 d.person, .int .i64 d.lo, .int .i64 d.hi, .int .i64 d.known, .int .i64 d.til] 28)) _); simpa using h
        case c2 => simp [Value.oneCell']
        case c3 => unfold maxLen; omega
        case c4 => omega
        case c5 => simp; omega
        go_roundw
        case rel =>
          refine ⟨k + 1, by omega, by go_num, ?_, Below.appended hB (((Below.refl _ _).alloc (Nat.le_refl _) _).alloc (by simp) _) hown hgrow1⟩
          rw [HE.out, List.map_append, List.length_append]
          exact hown1
        case measure => simp [intOf]; omega
      · have HE := Lib.hid (ixL_out HK.out hnm)
        rcases officeOf_not HOD.out hnm with t1 | ⟨t1, t2⟩
        · have T1 := Lib.hid t1
          clear hnm t1
          go_wp2_with (go_at_call 148; refine (r_isOffice_v d.kind _ _ T1.out).mono ?_; rintro e w1 ⟨rfl, rfl⟩)
          go_roundw
          case rel => exact ⟨k + 1, by omega, by go_num, by rw [HE.out]; exact HOW.out _, HBW.out _⟩
          case measure => simp [intOf]; omega
        · have T1 := Lib.hid t1
          have T2 : (d.person == q) = false := by simpa using t2
          clear hnm t1 t2
          go_wp2_with (go_at_call 148; refine (r_isOffice_v d.kind _ _ T1.out).mono ?_; rintro e w1 ⟨rfl, rfl⟩)
          go_roundw
          case rel => exact ⟨k + 1, by omega, by go_num, by rw [HE.out]; exact HOW.out _, HBW.out _⟩
          case measure => simp [intOf]; omega
    · obtain rfl : k = n := by omega
      have HT : Hid (ds.take k = ds) := List.take_of_length_le (by rw [HL.out]; exact Nat.le_refl _)
      obtain ⟨A1, c1, hv, hcc⟩ : ∃ A1 c1, u5 = .slice A1 (ixL (ds.take k) (0, q)).length c1 ∧ ((ixL (ds.take k) (0, q)).length ≤ c1 ∧ c1 ≤ maxLen) := own_slice hown
      subst hv
      go_wp2_with fail
      go_ret
      have hr := Rd.of_own hown
      rw [HT.out] at hr hcc ⊢
      exact ⟨A1, c1, rfl, hB, hr, hcc.1⟩

end Go.Proofs.YtaomfjgleddpdaaGreat

/- The reference's can. -/
namespace Go.Proofs.YtaomfjgleddpdaaGreat
open Go.RowKit
attribute [local go_sem] Oper.semAt_some

theorem its_get {w : World} {B n b o : Nat} {l : List (Int × Int)} (h : Its w B (some ⟨b, o, none⟩) n l) {k : Nat} {r : Int × Int} (hk : l[k]? = some r) : w.cell? ⟨b, o + k * 2, none⟩ = some (.int .i64 r.1) ∧ w.cell? ⟨b, o + k * 2 + 1, none⟩ = some (.int .i64 r.2) := by
  have hl := h.len
  have hlt : k < n := by have := (List.getElem?_eq_some_iff.1 hk).1; omega
  obtain ⟨b', o', x, y, e, _, hx, h1, h2⟩ := h.at_ hlt
  obtain ⟨rfl, rfl⟩ : b = b' ∧ o = o' := by simpa using e
  rw [hk] at hx
  cases hx
  exact ⟨h1, h2⟩

set_option maxRecDepth 100000 in
set_option maxHeartbeats 2000000 in
theorem r_can (R : List (Int × Int)) (X : List Int) (k : Nat) (day : Int) (vlo vhi : Bool) (A B : Option Addr) (n c m cc : Nat) (w : World) (hn : n ≤ 1000) (hm : m ≤ 1000) (hR : Its w w.heap.size A n R) (hX : Is w w.heap.size B m X) (hk : k ≤ m)
    (hlo : if k = 0 then vlo = true else ∃ (i : Nat) (r : Int × Int), X[k - 1]? = some (i : Int) ∧ R[i]? = some r ∧ decide (r.1 ≤ day) = vlo)
    (hhi : if k = m then vhi = true else ∃ (i : Nat) (r : Int × Int), X[k]? = some (i : Int) ∧ R[i]? = some r ∧ decide (day < r.2) = vhi) :
    Calls Tryz.prog 151 #[.slice A n c, .slice B m cc, .agg #[.int .i64 k, .int .i64 day]] w fun e w' => e = .returned (.bool (vlo && vhi)) ∧ Below w.heap.size w w' := by
  have HR := Lib.hid hR
  have HX := Lib.hid hX
  have HLR := Lib.hid hR.len
  have HLX := Lib.hid hX.len
  have HLO := Lib.hid hlo
  have HHI := Lib.hid hhi
  clear hR hX hlo hhi
  have hb0 : w.heap.size < w.heap.size + 1 := by omega
  by_cases k0 : k = 0
  · subst k0
    obtain rfl : vlo = true := by have h := HLO.out; rwa [if_pos rfl] at h
    clear HLO
    go_enter Tryz.func151, Tryz.ntmps151
    go_wp2_with fail
    (refine wp_region_grow (by kernel_rfl) (by kernel_rfl) ?_; (repeat (go_big_quiet_step ((first | fail)))); refine wpQuiet_nil ?_; rintro w1 ⟨⟨_, hb1⟩, rfl⟩; (try dsimp only at hb1 ⊢); obtain ⟨hc1, hf1⟩ := bcell hb1)
    have HB1 := Lib.hid (Below.then_ ((Below.refl w.heap.size w).alloc (Nat.le_refl _) _) hb1)
    have HBX := Lib.hid ((BoxA.new w 41 #[.int .i64 0, .int .i64 day]).ext hb1)
    clear hb1 hc1 hf1
    have x0 := HBX.out.cell 0
    have x1 := HBX.out.cell 1
    have hlt1 := HBX.out.lt
    by_cases km : 0 = m
    · obtain rfl : vhi = true := by have h := HHI.out; rwa [if_pos km] at h
      have q1 : ((0 : Int) == (m : Int)) = true := by simp; omega
      have hlm : (m : Int) = (0 : Int) := by omega
      have HKM := Lib.hid km
      clear HHI km hlm
      go_wp2_with fail
      (refine wp_region_grow (by kernel_rfl) (by kernel_rfl) ?_; (repeat (go_big_quiet_step ((first | fail)))); refine wpQuiet_nil ?_; rintro w1 ⟨⟨_, hb1⟩, rfl⟩; (try dsimp only at hb1 ⊢); obtain ⟨hc1, hf1⟩ := bcell hb1)
      go_wp2_with fail
      go_ret
      exact ⟨rfl, Below.then_ HB1.out hb1⟩
    · obtain ⟨i', r', hxi', hri', hv'⟩ : ∃ (i : Nat) (r : Int × Int), X[0]? = some (i : Int) ∧ R[i]? = some r ∧ decide (day < r.2) = vhi := by have h := HHI.out; rwa [if_neg km] at h
      have q1 : ((0 : Int) == (m : Int)) = false := by simp; omega
      have hkm : 0 < m := by omega
      have hin' : i' < n := by have := (List.getElem?_eq_some_iff.1 hri').1; have := HLR.out; omega
      obtain ⟨b, o, x, eb, hb, hx, hxc⟩ := (HX.out.now HB1.out).at_ hkm
      cases eb
      rw [hxi'] at hx
      cases hx
      obtain ⟨b2, o2, e2, hb2, _⟩ := (HR.out.now HB1.out).2 (by omega)
      cases e2
      obtain ⟨r0', r1'⟩ := its_get (HR.out.now HB1.out) hri'
      have g1' : (0 : Int) < (m : Int) := by omega
      have g2' : ¬ ((0 : Int) < 0) := by omega
      have g3' : (i' : Int) < (n : Int) := by omega
      have g4' : ¬ ((i' : Int) < 0) := by omega
      have HV' := Lib.hid hv'
      simp only [Nat.add_zero] at hxc
      clear HHI km hv' hxi' hri'
      go_wp2_with fail
      (refine wp_region_grow (by kernel_rfl) (by kernel_rfl) ?_; (repeat (go_big_quiet_step ((first | fail)))); refine wpQuiet_nil ?_; rintro w1 ⟨⟨_, hb1⟩, rfl⟩; (try dsimp only at hb1 ⊢); obtain ⟨hc1, hf1⟩ := bcell hb1)
      go_wp2_with fail
      go_ret
      exact ⟨ret_bool (by rw [← HV'.out]; simp), Below.then_ HB1.out hb1⟩
  · obtain ⟨j, rfl⟩ : ∃ j, k = j + 1 := ⟨k - 1, by omega⟩
    obtain ⟨i, r, hxi, hri, hv⟩ : ∃ (i : Nat) (r : Int × Int), X[j]? = some (i : Int) ∧ R[i]? = some r ∧ decide (r.1 ≤ day) = vlo := by have h := HLO.out; rwa [if_neg k0] at h
    have hjm : j < m := by omega
    have hin : i < n := by have := (List.getElem?_eq_some_iff.1 hri).1; have := HLR.out; omega
    obtain ⟨bx, ox, x, rfl, hb, hx, hxc0⟩ := HX.out.at_ hjm
    rw [hxi] at hx
    cases hx
    obtain ⟨by2, oy2, e2, hb2, _⟩ := HR.out.2 (by omega)
    subst e2
    obtain ⟨r0, r1⟩ := its_get HR.out hri
    have g1 : (j : Int) < (m : Int) := by omega
    have g2 : ¬ ((j : Int) < 0) := by omega
    have g3 : (i : Int) < (n : Int) := by omega
    have g4 : ¬ ((i : Int) < 0) := by omega
    have g5 : decide (0 < (j : Int) + 1) = true := by simp <;> omega
    have hb3 : bx < w.heap.size + 1 := by omega
    have hb4 : by2 < w.heap.size + 1 := by omega
    clear HLO k0 hxi hri
    cases vlo with
    | false =>
      have g7 : day < r.1 := by have h := of_decide_eq_false hv; omega
      clear hv
      go_enter Tryz.func151, Tryz.ntmps151
      go_wp2_with fail
      (refine wp_region_grow (by kernel_rfl) (by kernel_rfl) ?_; (repeat (go_big_quiet_step ((first | fail)))); refine wpQuiet_nil ?_; rintro w1 ⟨⟨_, hb1⟩, rfl⟩; (try dsimp only at hb1 ⊢); obtain ⟨hc1, hf1⟩ := bcell hb1)
      go_wp2_with fail
      go_ret
      exact ⟨rfl, Below.then_ ((Below.refl w.heap.size w).alloc (Nat.le_refl _) _) hb1⟩
    | true =>
      have g7 : ¬ day < r.1 := by have h := of_decide_eq_true hv; omega
      clear hv
      go_enter Tryz.func151, Tryz.ntmps151
      go_wp2_with fail
      (refine wp_region_grow (by kernel_rfl) (by kernel_rfl) ?_; (repeat (go_big_quiet_step ((first | fail)))); refine wpQuiet_nil ?_; rintro w1 ⟨⟨_, hb1⟩, rfl⟩; (try dsimp only at hb1 ⊢); obtain ⟨hc1, hf1⟩ := bcell hb1)
      clear hxc0 r0 r1 hb3 hb4 g1 g2 g3 g4
      have HB1 := Lib.hid (Below.then_ ((Below.refl w.heap.size w).alloc (Nat.le_refl _) _) hb1)
      have HBX := Lib.hid ((BoxA.new w 41 #[.int .i64 ((j : Int) + 1), .int .i64 day]).ext hb1)
      clear hb1 hc1 hf1
      have x0 := HBX.out.cell 0
      have x1 := HBX.out.cell 1
      have hlt1 := HBX.out.lt
      by_cases km : (j + 1) = m
      · obtain rfl : vhi = true := by have h := HHI.out; rwa [if_pos km] at h
        have q1 : ((((j : Int) + 1) : Int) == (m : Int)) = true := by simp; omega
        have hlm : (m : Int) = (((j : Int) + 1) : Int) := by omega
        have HKM := Lib.hid km
        clear HHI km hlm
        go_wp2_with fail
        (refine wp_region_grow (by kernel_rfl) (by kernel_rfl) ?_; (repeat (go_big_quiet_step ((first | fail)))); refine wpQuiet_nil ?_; rintro w1 ⟨⟨_, hb1⟩, rfl⟩; (try dsimp only at hb1 ⊢); obtain ⟨hc1, hf1⟩ := bcell hb1)
        go_wp2_with fail
        go_ret
        exact ⟨rfl, Below.then_ HB1.out hb1⟩
      · obtain ⟨i', r', hxi', hri', hv'⟩ : ∃ (i : Nat) (r : Int × Int), X[(j + 1)]? = some (i : Int) ∧ R[i]? = some r ∧ decide (day < r.2) = vhi := by have h := HHI.out; rwa [if_neg km] at h
        have q1 : ((((j : Int) + 1) : Int) == (m : Int)) = false := by simp; omega
        have hkm : (j + 1) < m := by omega
        have hin' : i' < n := by have := (List.getElem?_eq_some_iff.1 hri').1; have := HLR.out; omega
        obtain ⟨b, o, x, eb, hb, hx, hxc⟩ := (HX.out.now HB1.out).at_ hkm
        cases eb
        rw [hxi'] at hx
        cases hx
        obtain ⟨b2, o2, e2, hb2, _⟩ := (HR.out.now HB1.out).2 (by omega)
        cases e2
        obtain ⟨r0', r1'⟩ := its_get (HR.out.now HB1.out) hri'
        have g1' : (((j : Int) + 1) : Int) < (m : Int) := by omega
        have g2' : ¬ ((((j : Int) + 1) : Int) < 0) := by omega
        have g3' : (i' : Int) < (n : Int) := by omega
        have g4' : ¬ ((i' : Int) < 0) := by omega
        have HV' := Lib.hid hv'
        clear HHI km hv' hxi' hri'
        go_wp2_with fail
        (refine wp_region_grow (by kernel_rfl) (by kernel_rfl) ?_; (repeat (go_big_quiet_step ((first | fail)))); refine wpQuiet_nil ?_; rintro w1 ⟨⟨_, hb1⟩, rfl⟩; (try dsimp only at hb1 ⊢); obtain ⟨hc1, hf1⟩ := bcell hb1)
        go_wp2_with fail
        go_ret
        exact ⟨ret_bool (by rw [← HV'.out]; simp), Below.then_ HB1.out hb1⟩

end Go.Proofs.YtaomfjgleddpdaaGreat

/- The reference's Keys and office: plain facts. -/
namespace Go.Proofs.YtaomfjgleddpdaaGreat
open Go.RowKit
attribute [local go_sem] Oper.semAt_some

theorem rng_abs {c T D : List Deed} {i : Nat} {d : Deed} (hok : ∀ x ∈ c, x.okB = true) (hi : c[i]? = some d) (ht : ∀ o, o ∈ T ↔ ∃ k, k ≤ i ∧ c[k]? = some o ∧ nmD o = nmD d) (hd : ∀ o, o ∈ D ↔ ∃ k, i ≤ k ∧ c[k]? = some o ∧ nmD o = nmD d) : rngI c.zipIdx d i = (eaI T, laI D) := by
  have hdT : d ∈ T := (ht d).2 ⟨i, Nat.le_refl _, hi, rfl⟩
  have hdD : d ∈ D := (hd d).2 ⟨i, Nat.le_refl _, hi, rfl⟩
  obtain ⟨e1, e2, e3⟩ := ea_spec T
  obtain ⟨l1, l2, l3⟩ := la_spec D
  obtain ⟨m1, m2, m3⟩ := fmax (fun p : Deed × Nat => sameB d p.1 = true ∧ p.2 < i) (fun p => p.1.lo) c.zipIdx d.lo
  obtain ⟨n1, n2, n3⟩ := fmin (fun p : Deed × Nat => sameB d p.1 = true ∧ i < p.2) (fun p => p.1.hi) c.zipIdx d.hi
  have hf1 : (rngI c.zipIdx d i).1 = _ := rng_fst d i c.zipIdx (d.lo, d.hi)
  have hf2 : (rngI c.zipIdx d i).2 = _ := rng_snd d i c.zipIdx (d.lo, d.hi)
  simp only at m1 m2 m3 n1 n2 n3 hf1 hf2
  rw [← hf1] at m1 m2 m3
  rw [← hf2] at n1 n2 n3
  have hod := okB_rng (hok d (List.mem_of_getElem? hi))
  refine Prod.ext ?_ ?_
  · show _ = eaI T
    apply Int.le_antisymm
    · rcases m3 with m3 | ⟨x, hx, ⟨h1, h2⟩, m3⟩
      · rw [m3]; exact e1 d hdT
      · rw [m3]
        exact e1 x.1 ((ht x.1).2 ⟨x.2, by omega, zi_mem.1 hx, (sameB_nm.1 h1).symm⟩)
    · rcases e2 with e2 | ⟨o, ho, e2⟩
      · omega
      · obtain ⟨k, hk, h1, h2⟩ := (ht o).1 ho
        rw [e2]
        rcases Nat.lt_or_ge k i with hki | hki
        · exact m2 (o, k) (zi_mem.2 h1) ⟨sameB_nm.2 h2.symm, hki⟩
        · obtain rfl : k = i := by omega
          rw [hi] at h1
          cases h1
          exact m1
  · show _ = laI D
    apply Int.le_antisymm
    · rcases l2 with l2 | ⟨o, ho, l2⟩
      · omega
      · obtain ⟨k, hk, h1, h2⟩ := (hd o).1 ho
        rw [l2]
        rcases Nat.lt_or_ge i k with hki | hki
        · exact n2 (o, k) (zi_mem.2 h1) ⟨sameB_nm.2 h2.symm, hki⟩
        · obtain rfl : k = i := by omega
          rw [hi] at h1
          cases h1
          exact n1
    · rcases n3 with n3 | ⟨x, hx, ⟨h1, h2⟩, n3⟩
      · rw [n3]; exact l1 d hdD
      · rw [n3]
        exact l1 x.1 ((hd x.1).2 ⟨x.2, by omega, zi_mem.1 hx, (sameB_nm.1 h1).symm⟩)
theorem sub_mem {c : List Deed} {nm : Nm} {o : Deed} {k : Nat} : (o, k) ∈ sub c nm ↔ c[k]? = some o ∧ nmD o = nm := by
  unfold sub
  rw [List.mem_filter, zi_mem]
  simp
theorem sub_sorted (c : List Deed) (nm : Nm) : (sub c nm).Pairwise fun a b => a.2 < b.2 := by
  unfold sub
  refine List.Pairwise.filter _ ?_
  rw [List.pairwise_iff_getElem]
  intro i j hi hj hij
  simp [hij]
theorem thr_sub_len (c : List Deed) (nm : Nm) : (thr c nm).length = (sub c nm).length := by simp [thr]
/-- The days of the j-th deed of a thread. -/
theorem sub_rng {c : List Deed} {nm : Nm} {j i : Nat} {d : Deed} (hok : ∀ x ∈ c, x.okB = true) (hj : (sub c nm)[j]? = some (d, i)) : rngI c.zipIdx d i = (eaI ((thr c nm).take (j + 1)), laI ((thr c nm).drop j)) := by
  obtain ⟨hci, hnm⟩ := sub_mem.1 (List.mem_of_getElem? hj)
  have hs := List.pairwise_iff_getElem.1 (sub_sorted c nm)
  obtain ⟨hjl, hje⟩ := List.getElem?_eq_some_iff.1 hj
  have hat : ∀ (a : Nat) (o : Deed), (thr c nm)[a]? = some o → ∃ k, (sub c nm)[a]? = some (o, k) := fun a o h => by
    unfold thr at h
    rw [List.getElem?_map] at h
    obtain ⟨p, hp, rfl⟩ := Option.map_eq_some_iff.1 h
    exact ⟨p.2, hp⟩
  have hta : ∀ (a : Nat) (o : Deed) (k : Nat), (sub c nm)[a]? = some (o, k) → (thr c nm)[a]? = some o := fun a o k h => by
    unfold thr
    rw [List.getElem?_map, h]
    rfl
  have hord : ∀ (a k : Nat) (o : Deed), (sub c nm)[a]? = some (o, k) → (a < j → k < i) ∧ (j < a → i < k) ∧ (a = j → k = i) := fun a k o h => by
    obtain ⟨hal, hae⟩ := List.getElem?_eq_some_iff.1 h
    refine ⟨fun h1 => ?_, fun h1 => ?_, fun h1 => ?_⟩
    · have := hs a j hal hjl h1; rw [hae, hje] at this; exact this
    · have := hs j a hjl hal h1; rw [hae, hje] at this; exact this
    · subst h1; rw [hj] at h; cases h; rfl
  refine rng_abs hok hci (fun o => ?_) (fun o => ?_)
  · constructor
    · intro ho
      obtain ⟨a, ha⟩ := List.mem_iff_getElem?.1 ho
      rw [List.getElem?_take] at ha
      split at ha
      · rename_i hlt
        obtain ⟨k, hk⟩ := hat a o ha
        obtain ⟨o1, o2, o3⟩ := hord a k o hk
        obtain ⟨h1, h2⟩ := sub_mem.1 (List.mem_of_getElem? hk)
        refine ⟨k, ?_, h1, h2.trans hnm.symm⟩
        rcases Nat.lt_or_ge a j with h3 | h3
        · have := o1 h3; omega
        · have := o3 (by omega); omega
      · cases ha
    · rintro ⟨k, hk, h1, h2⟩
      obtain ⟨a, ha⟩ := List.mem_iff_getElem?.1 (sub_mem.2 ⟨h1, h2.trans hnm⟩)
      obtain ⟨o1, o2, o3⟩ := hord a k o ha
      refine List.mem_iff_getElem?.2 ⟨a, ?_⟩
      have h4 : a < j + 1 := by
        rcases Nat.lt_or_ge j a with h3 | h3
        · have := o2 h3; omega
        · omega
      rw [List.getElem?_take, if_pos h4]
      exact hta a o k ha
  · constructor
    · intro ho
      obtain ⟨a, ha⟩ := List.mem_iff_getElem?.1 ho
      rw [List.getElem?_drop] at ha
      obtain ⟨k, hk⟩ := hat _ o ha
      obtain ⟨o1, o2, o3⟩ := hord _ k o hk
      obtain ⟨h1, h2⟩ := sub_mem.1 (List.mem_of_getElem? hk)
      refine ⟨k, ?_, h1, h2.trans hnm.symm⟩
      rcases Nat.lt_or_ge j (j + a) with h3 | h3
      · have := o2 h3; omega
      · have := o3 (by omega); omega
    · rintro ⟨k, hk, h1, h2⟩
      obtain ⟨a, ha⟩ := List.mem_iff_getElem?.1 (sub_mem.2 ⟨h1, h2.trans hnm⟩)
      obtain ⟨o1, o2, o3⟩ := hord a k o ha
      have hja : j ≤ a := by
        rcases Nat.lt_or_ge a j with h3 | h3
        · have := o1 h3; omega
        · omega
      refine List.mem_iff_getElem?.2 ⟨a - j, ?_⟩
      rw [List.getElem?_drop, show j + (a - j) = a by omega]
      exact hta a o k ha
theorem ixL_at {c : List Deed} {nm : Nm} {j i : Nat} {d : Deed} (hj : (sub c nm)[j]? = some (d, i)) : (ixL c nm)[j]? = some (i : Int) := by
  unfold ixL
  rw [List.getElem?_map, hj]
  rfl
def vloB (T : List Deed) (j : Nat) (day : Int) : Bool := decide (j = 0) || decide (eaI (T.take j) ≤ day)
def vhiB (T : List Deed) (j : Nat) (day : Int) : Bool := decide (j = T.length) || decide (day < laI (T.drop j))
theorem can_lo {c : List Deed} {nm : Nm} {j : Nat} {day : Int} (hok : ∀ x ∈ c, x.okB = true) (hj : j ≤ (ixL c nm).length) : if j = 0 then vloB (thr c nm) j day = true else ∃ (i : Nat) (r : Int × Int), (ixL c nm)[j - 1]? = some (i : Int) ∧ (dayL c)[i]? = some r ∧ decide (r.1 ≤ day) = vloB (thr c nm) j day := by
  split
  · rename_i h; simp [vloB, h]
  · rename_i h
    have hl : j - 1 < (sub c nm).length := by have : (ixL c nm).length = (sub c nm).length := by simp [ixL]
                                              omega
    obtain ⟨⟨d, i⟩, hp⟩ : ∃ p, (sub c nm)[j - 1]? = some p := ⟨_, List.getElem?_eq_getElem hl⟩
    refine ⟨i, _, ixL_at hp, dayL_at (sub_mem.1 (List.mem_of_getElem? hp)).1, ?_⟩
    rw [sub_rng hok hp, show j - 1 + 1 = j by omega]
    simp [vloB, h]
theorem can_hi {c : List Deed} {nm : Nm} {j : Nat} {day : Int} (hok : ∀ x ∈ c, x.okB = true) (hj : j ≤ (ixL c nm).length) : if j = (ixL c nm).length then vhiB (thr c nm) j day = true else ∃ (i : Nat) (r : Int × Int), (ixL c nm)[j]? = some (i : Int) ∧ (dayL c)[i]? = some r ∧ decide (day < r.2) = vhiB (thr c nm) j day := by
  have hle : (ixL c nm).length = (sub c nm).length := by simp [ixL]
  split
  · rename_i h; simp [vhiB, h, thr_sub_len, hle]
  · rename_i h
    have hl : j < (sub c nm).length := by omega
    obtain ⟨⟨d, i⟩, hp⟩ : ∃ p, (sub c nm)[j]? = some p := ⟨_, List.getElem?_eq_getElem hl⟩
    refine ⟨i, _, ixL_at hp, dayL_at (sub_mem.1 (List.mem_of_getElem? hp)).1, ?_⟩
    rw [sub_rng hok hp]
    have h2 : ¬ j = (thr c nm).length := by rw [thr_sub_len]; omega
    simp [vhiB, h2]

end Go.Proofs.YtaomfjgleddpdaaGreat

/- The reference's Keys. -/
namespace Go.Proofs.YtaomfjgleddpdaaGreat
open Go.RowKit
attribute [local go_sem] Oper.semAt_some

theorem infoKey : (Tryz.prog.info? 81).map (fun i => (i.zero, i.size, i.bytes)) = some (some (.agg #[.int .i64 0, .int .i64 0]), 2, 16) := by kernel_rfl
theorem r_can' (R : List (Int × Int)) (X : List Int) (k : Nat) (kc day : Int) (vlo vhi : Bool) (A B : Option Addr) (n c m cc : Nat) (w : World) (hn : n ≤ 1000) (hm : m ≤ 1000) (hR : Its w w.heap.size A n R) (hX : Is w w.heap.size B m X) (hk : k ≤ m) (hkc : (k : Int) = kc)
    (hlo : if k = 0 then vlo = true else ∃ (i : Nat) (r : Int × Int), X[k - 1]? = some (i : Int) ∧ R[i]? = some r ∧ decide (r.1 ≤ day) = vlo)
    (hhi : if k = X.length then vhi = true else ∃ (i : Nat) (r : Int × Int), X[k]? = some (i : Int) ∧ R[i]? = some r ∧ decide (day < r.2) = vhi) :
    Calls Tryz.prog 151 #[.slice A n c, .slice B m cc, .agg #[.int .i64 kc, .int .i64 day]] w fun e w' => e = .returned (.bool (vlo && vhi)) ∧ Below w.heap.size w w' :=
  hkc ▸ r_can R X k day vlo vhi A B n c m cc w hn hm hR hX hk hlo (by rw [hX.len] at hhi; exact hhi)

theorem wrap_small {a : Int} (h0 : 0 ≤ a) (h1 : a ≤ 1000000) : IntKind.i64.wrap a = a := IntWalk.i64_in _ (by omega)
def keyP (T : List Deed) (j : Nat) : Int × Int := ((runSt (T.take j)).holder, (runSt (T.take j)).hand)
def keysJ (T : List Deed) (day : Int) (j : Nat) : List (Int × Int) := ((List.range j).filter fun k => mayB T k day).map (keyP T)
/-- What a lock's key may be. -/
def keysL (T : List Deed) (day : Int) : List (Int × Int) := (stsL T day).map fun x => (x.2.holder, x.2.hand)
theorem keysJ_in {T : List Deed} {day : Int} {j : Nat} (h : mayB T j day = true) : keysJ T day (j + 1) = keysJ T day j ++ [keyP T j] := by
  unfold keysJ
  rw [List.range_succ, List.filter_append, List.map_append]
  simp [h]
theorem keysJ_out {T : List Deed} {day : Int} {j : Nat} (h : mayB T j day = false) : keysJ T day (j + 1) = keysJ T day j := by
  unfold keysJ
  rw [List.range_succ, List.filter_append, List.map_append]
  simp [h]
theorem keysJ_len (T : List Deed) (day : Int) (j : Nat) : (keysJ T day j).length ≤ j := by
  unfold keysJ
  rw [List.length_map]
  exact Nat.le_trans (List.length_filter_le _ _) (by simp)
theorem keysJ_all (T : List Deed) (day : Int) : keysJ T day (T.length + 1) = keysL T day := by
  unfold keysJ keysL stsL
  rw [List.map_map]
  refine List.map_congr_left fun k hk => ?_
  have hk2 : k ≤ T.length := by have := (List.mem_filter.1 hk).1; simp at this; omega
  simp only [Function.comp, keyP, stN_run T hk2]
theorem keyP_step {T : List Deed} {j : Nat} {d : Deed} (hd : T[j]? = some d) (ho : d.okB = true) : aftK (keyP T j) d = keyP T (j + 1) := by
  unfold keyP
  rw [aftK_step ho, take_snoc_some hd]
  simp [runSt, List.foldl_append]
theorem ixL_sub (c : List Deed) (nm : Nm) : (ixL c nm).length = (sub c nm).length := by simp [ixL]
theorem ixL_thr (c : List Deed) (nm : Nm) : (ixL c nm).length = (thr c nm).length := by simp [ixL, thr]

set_option maxRecDepth 100000 in
set_option maxHeartbeats 4000000 in
theorem r_Keys (ds : List Deed) (q day : Int) (A : Option Addr) (n c : Nat) (w : World) (hn : n ≤ 60) (hq : 1 ≤ q) (hok : ∀ d ∈ ds, d.okB = true) (hd : Ds w w.heap.size A n ds) :
    Calls Tryz.prog 150 #[.slice A n c, .int .i64 q, .int .i64 day] w (RetRg (keysL (thr ds (q, 0)) day) w) := by
  obtain ⟨i0, hi, hz0, hz1, hz2⟩ := info_parts infoKey
  have HD := Lib.hid hd
  have HL := Lib.hid hd.len
  have HO := Lib.hid hok
  clear hd hok
  have HXL : Hid ((ixL ds (q, 0)).length ≤ n) := by show _ ≤ _; have h := ixL_len ds (q, 0); rwa [HL.out] at h
  have HRL : Hid ((dayL ds).length = n) := (dayL_len ds).trans HL.out
  go_enter Tryz.func150, Tryz.ntmps150
  go_wp2_with fail
  refine (r_Days ds _ _ _ _ (by omega) HO.out HD.out).mono ?_
  rintro e w1 ⟨A1, c1, rfl, hb1, hi1, _⟩
  have HB1 := Lib.hid hb1
  have HR1 := Lib.hid hi1
  clear hb1 hi1
  go_wp2_with fail
  refine (r_threadOf ds q _ _ _ _ (by omega) hq HO.out (HD.out.now HB1.out)).mono ?_
  rintro e w2 ⟨A2, c2, rfl, hb2, hi2, _⟩
  have HB2 := Lib.hid (Below.then_ HB1.out hb2)
  have HR := Lib.hid (HR1.out.now hb2)
  have HX := Lib.hid hi2
  clear hb2 hi2 HR1 HB1
  obtain ⟨w3, rfl⟩ : ∃ w3 : World, w3 = w2 := ⟨_, rfl⟩
  have hs2 := HB2.out.size
  go_wp2_with fail
  have HK0 : Hid (BoxA (w3.alloc (.cells #[.int .i64 0, .int .i64 0] 81)) w3.heap.size 81 #[.int .i64 0, .int .i64 0]) := BoxA.new _ _ _
  obtain ⟨b9, hb9⟩ : ∃ b : Nat, w3.heap.size = b := ⟨_, rfl⟩
  rw [hb9] at HK0 ⊢
  have HB9S := Lib.hid hb9
  clear hb9
  go_loopw [10, 11] (fun v i wr => ∃ j : Nat, j ≤ (ixL ds (q, 0)).length + 1 ∧ i = .int .i64 j ∧ wr.ownsRow (b9 + 1) 81 2 v (keysJ (thr ds (q, 0)) day j).length (itemCells (keysJ (thr ds (q, 0)) day j)) ∧ BoxA wr b9 81 #[.int .i64 (keyP (thr ds (q, 0)) (j - 1)).1, .int .i64 (keyP (thr ds (q, 0)) (j - 1)).2] ∧ Below w3.heap.size w3 wr) (fun _ i _ => (ixL ds (q, 0)).length + 1 - (intOf i).toNat)
  case atStart => exact ⟨0, by omega, rfl, World.ownsRow_nil _ _ _ _, HK0.out, by (repeat' (first | with_reducible exact Below.refl _ _ | with_reducible assumption | with_reducible refine Below.alloc ?_ ?_ _ | with_reducible refine Below.setCell ?_ ?_ _ | with_reducible refine Below.drew ?_ | (simp; done) | (simp; omega) | omega))⟩
  case round =>
    obtain ⟨j, hj, rfl, hown, hbx, hB⟩ := hrel
    obtain ⟨wo, rfl⟩ : ∃ wo : World, wo = wr := ⟨_, rfl⟩
    have HOW := Lib.hid hown
    have HB9 := Lib.hid hbx
    have HBQ := Lib.hid hB
    have HBR := Lib.hid hB
    have hlb : b9 < wo.heap.size := hbx.lt
    clear hown hbx hB HK0
    by_cases hlt : j ≤ (ixL ds (q, 0)).length
    · by_cases j0 : j = 0
      · subst j0
        have HBR := Lib.hid (HBQ.out)
        have hmay : mayB (thr ds (q, 0)) 0 day = (vloB (thr ds (q, 0)) 0 day && vhiB (thr ds (q, 0)) 0 day) := rfl
        have HMAY := Lib.hid hmay
        clear hmay
        go_wp2_with fail
        refine (r_can' (dayL ds) (ixL ds (q, 0)) 0 0 day _ _ _ _ _ _ _ _ _ (by have := HRL.out; omega) (by have := HXL.out; omega) (HR.out.now HBR.out) (HX.out.now HBR.out) (by have := HXL.out; omega) (by go_num) (can_lo HO.out (by have := HXL.out; omega)) (can_hi HO.out (by have := HXL.out; omega))).mono ?_
        rw [← HMAY.out]
        rintro e w5 ⟨rfl, hb5⟩
        have HBN := Lib.hid (Below.then_ HBQ.out hb5)
        have HB9n := Lib.hid (HB9.out.ext hb5)
        have HOn := Lib.hid (own_ext HOW.out hb5)
        clear hb5 HMAY
        obtain ⟨wf, rfl⟩ : ∃ wf : World, wf = w5 := ⟨_, rfl⟩
        cases hm : mayB (thr ds (q, 0)) 0 day with
        | false =>
          have HJ := Lib.hid (keysJ_out (T := thr ds (q, 0)) hm)
          clear hm
          go_wp2_with fail
          go_roundw
          case rel => exact ⟨0 + 1, by omega, by go_num, by rw [HJ.out]; exact HOn.out, HB9n.out, HBN.out⟩
          case measure => simp [intOf] <;> omega
        | true =>
          have HJ := Lib.hid (keysJ_in (T := thr ds (q, 0)) hm)
          clear hm
          have z0 := HB9n.out.cell 0
          have z1 := HB9n.out.cell 1
          have hkl := keysJ_len (thr ds (q, 0)) day 0
          go_wp2_with (at_builtin; refine wpList_append_own _ rfl (.tmp 42) (.tmp 44) 137 rfl (b9 + 1) 81 i0 _ 2 16 Tryz.underlying137 hi hz0 hz1 hz2 rfl (by decide) _ _ _ rfl (HOn.out.alloc _) ⟨wf.heap.size, 0, none⟩ 1 1 [.int .i64 (keyP (thr ds (q, 0)) 0).1, .int .i64 (keyP (thr ds (q, 0)) 0).2] rfl rfl ?c1 ?c2 ?c3 ?c4 ?c5 ?_; rotate_left 5; intro v' w6 hown6 hgrow6 _)
          case c1 => exact World.news_of_block (cs := #[.int .i64 (keyP (thr ds (q, 0)) 0).1, .int .i64 (keyP (thr ds (q, 0)) 0).2]) (t := 81) (fr := (0, 0)) (heap_alloc_new wf _)
          case c2 => simp [Value.oneCell']
          case c3 => unfold maxLen; omega
          case c4 => omega
          case c5 => have := HB9n.out.lt; simp; omega
          go_roundw
          case rel =>
            refine ⟨0 + 1, by omega, by go_num, ?_, (HB9n.out.alloc _).kept hgrow6 ?_, Below.appended HBN.out ((Below.refl _ _).alloc (Nat.le_refl _) _) (own_down HOn.out (by have := HB9S.out; omega)) hgrow6⟩
            · rw [HJ.out, itemCells_append, List.length_append]
              exact hown6
            · intro e2
              have := own_base HOn.out (g := b9) e2.symm
              omega
          case measure => simp [intOf] <;> omega
      · obtain ⟨j, rfl⟩ : ∃ k, j = k + 1 := ⟨j - 1, by omega⟩
        have hsl := ixL_sub ds (q, 0)
        obtain ⟨⟨d, i⟩, hp⟩ : ∃ p, (sub ds (q, 0))[j]? = some p := ⟨_, List.getElem?_eq_getElem (by omega)⟩
        clear hsl
        have hci := (sub_mem.1 (List.mem_of_getElem? hp)).1
        have hxi := ixL_at hp
        have hod := HO.out d (List.mem_of_getElem? hci)
        have hTj : (thr ds (q, 0))[j]? = some d := by unfold thr; rw [List.getElem?_map, hp]; rfl
        have HST := Lib.hid (keyP_step hTj hod)
        have hin : i < n := by have := (List.getElem?_eq_some_iff.1 hci).1; have := HL.out; omega
        have HBD := Lib.hid (Below.then_ HB2.out HBQ.out)
        have hj60 : j < 60 := by have := HXL.out; omega
        obtain ⟨bx, ox, x, eb, hbb, hx, hxc⟩ := (HX.out.now HBQ.out).at_ (k := j) (by omega)
        cases eb
        rw [hxi] at hx
        cases hx
        obtain ⟨bd, od, d', ed, hbd, hd', hat⟩ := (HD.out.now HBD.out).at_ hin
        cases ed
        rw [hci] at hd'
        cases hd'
        obtain ⟨a0, a1, a2, a3, a4, a5, a6, a7, a8⟩ := hat
        have y0 : wo.cell? ⟨b9, 0, none⟩ = some (.int .i64 (keyP (thr ds (q, 0)) j).1) := HB9.out.cell 0
        have y1 : wo.cell? ⟨b9, 1, none⟩ = some (.int .i64 (keyP (thr ds (q, 0)) j).2) := HB9.out.cell 1
        have g1 : (j : Int) < ((ixL ds (q, 0)).length : Int) := by omega
        have g2 : ¬ ((j : Int) < 0) := by omega
        have g3 : (i : Int) < (n : Int) := by omega
        have g4 : ¬ ((i : Int) < 0) := by omega
        have g6 : IntKind.i64.wrap (j : Int) = (j : Int) := by
          have h := HXL.out
          have hj6 : (j : Int) < 60 := by omega
          exact wrap_small (by omega) (by omega)
        clear hp hci hxi hod hTj j0
        go_wp2_with fail
        refine wp_still_tail 9 (by kernel_rfl) (by kernel_rfl) ?_
        simp only [List.take_succ_cons, List.take_zero, List.drop_succ_cons, List.drop_zero]
        iterate 9 still_step
        refine wpStill_nil ?_
        go_wp2_with fail
        refine (r_after _ _ d (keyP (thr ds (q, 0)) (j + 1)) _ HST.out).mono ?_
        rintro e w4 ⟨rfl, hb4⟩
        have hb4' : Below wo.heap.size wo w4 := Below.then_ (Below.refl wo.heap.size wo).drew hb4
        have HB9a := Lib.hid (HB9.out.ext hb4')
        have HOWa := Lib.hid (own_ext HOW.out hb4')
        have HBQa := Lib.hid (Below.then_ HBQ.out hb4')
        have u0 := HB9a.out.cell 0
        have u1 := HB9a.out.cell 1
        have uf := boxa_frozen HB9a.out 0
        have ug := boxa_frozen HB9a.out 1
        clear hb4 a0 a1 a2 a3 a4 a5 a6 a7 a8 y0 y1 hxc
        obtain ⟨wg, rfl⟩ : ∃ wg : World, wg = w4 := ⟨_, rfl⟩
        have HB9 := Lib.hid (show BoxA ((wg.setCell ⟨b9, 0, none⟩ (.int .i64 (keyP (thr ds (q, 0)) (j + 1)).1)).setCell ⟨b9, 1, none⟩ (.int .i64 (keyP (thr ds (q, 0)) (j + 1)).2)) b9 81 #[.int .i64 (keyP (thr ds (q, 0)) (j + 1)).1, .int .i64 (keyP (thr ds (q, 0)) (j + 1)).2] from boxa_set2 HB9a.out _ _)
        have HOW := Lib.hid (own_keep (w' := (wg.setCell ⟨b9, 0, none⟩ (.int .i64 (keyP (thr ds (q, 0)) (j + 1)).1)).setCell ⟨b9, 1, none⟩ (.int .i64 (keyP (thr ds (q, 0)) (j + 1)).2)) HOWa.out fun b hb => by
          have h1 := own_base HOWa.out hb
          rw [Below.heap_setCell _ _ _ _ (by simp; omega), Below.heap_setCell _ _ _ _ (by simp; omega)])
        have h9 := HB9S.out
        have HBQ := Lib.hid (show Below w3.heap.size w3 ((wg.setCell ⟨b9, 0, none⟩ (.int .i64 (keyP (thr ds (q, 0)) (j + 1)).1)).setCell ⟨b9, 1, none⟩ (.int .i64 (keyP (thr ds (q, 0)) (j + 1)).2)) from (HBQa.out.setCell (by simp; omega) _).setCell (by simp; omega) _)
        have HBR := Lib.hid (HBQ.out)
        clear h9 HB9a HOWa HBQa hb4'
        have hmay : mayB (thr ds (q, 0)) (j + 1) day = (vloB (thr ds (q, 0)) (j + 1) day && vhiB (thr ds (q, 0)) (j + 1) day) := rfl
        have HMAY := Lib.hid hmay
        clear hmay
        go_wp2_with fail
        refine (r_can' (dayL ds) (ixL ds (q, 0)) (j + 1) ((j : Int) + 1) day _ _ _ _ _ _ _ _ _ (by have := HRL.out; omega) (by have := HXL.out; omega) (HR.out.now HBR.out) (HX.out.now HBR.out) (by have := HXL.out; omega) (by go_num) (can_lo HO.out (by have := HXL.out; omega)) (can_hi HO.out (by have := HXL.out; omega))).mono ?_
        rw [← HMAY.out]
        rintro e w5 ⟨rfl, hb5⟩
        have HBN := Lib.hid (Below.then_ HBQ.out hb5)
        have HB9n := Lib.hid (HB9.out.ext hb5)
        have HOn := Lib.hid (own_ext HOW.out hb5)
        clear hb5 HMAY
        obtain ⟨wf, rfl⟩ : ∃ wf : World, wf = w5 := ⟨_, rfl⟩
        cases hm : mayB (thr ds (q, 0)) (j + 1) day with
        | false =>
          have HJ := Lib.hid (keysJ_out (T := thr ds (q, 0)) hm)
          clear hm
          go_wp2_with fail
          go_roundw
          case rel => exact ⟨(j + 1) + 1, by omega, by go_num, by rw [HJ.out]; exact HOn.out, HB9n.out, HBN.out⟩
          case measure => simp [intOf] <;> omega
        | true =>
          have HJ := Lib.hid (keysJ_in (T := thr ds (q, 0)) hm)
          clear hm
          have z0 := HB9n.out.cell 0
          have z1 := HB9n.out.cell 1
          have hkl := keysJ_len (thr ds (q, 0)) day (j + 1)
          go_wp2_with (at_builtin; refine wpList_append_own _ rfl (.tmp 42) (.tmp 44) 137 rfl (b9 + 1) 81 i0 _ 2 16 Tryz.underlying137 hi hz0 hz1 hz2 rfl (by decide) _ _ _ rfl (HOn.out.alloc _) ⟨wf.heap.size, 0, none⟩ 1 1 [.int .i64 (keyP (thr ds (q, 0)) (j + 1)).1, .int .i64 (keyP (thr ds (q, 0)) (j + 1)).2] rfl rfl ?c1 ?c2 ?c3 ?c4 ?c5 ?_; rotate_left 5; intro v' w6 hown6 hgrow6 _)
          case c1 => exact World.news_of_block (cs := #[.int .i64 (keyP (thr ds (q, 0)) (j + 1)).1, .int .i64 (keyP (thr ds (q, 0)) (j + 1)).2]) (t := 81) (fr := (0, 0)) (heap_alloc_new wf _)
          case c2 => simp [Value.oneCell']
          case c3 => unfold maxLen; omega
          case c4 => omega
          case c5 => have := HB9n.out.lt; simp; omega
          go_roundw
          case rel =>
            refine ⟨(j + 1) + 1, by omega, by go_num, ?_, (HB9n.out.alloc _).kept hgrow6 ?_, Below.appended HBN.out ((Below.refl _ _).alloc (Nat.le_refl _) _) (own_down HOn.out (by have := HB9S.out; omega)) hgrow6⟩
            · rw [HJ.out, itemCells_append, List.length_append]
              exact hown6
            · intro e2
              have := own_base HOn.out (g := b9) e2.symm
              omega
          case measure => simp [intOf] <;> omega
    · obtain rfl : j = (ixL ds (q, 0)).length + 1 := by omega
      obtain ⟨A3, c3, rfl, hcc⟩ := own_slice HOW.out
      have HF : Hid (keysJ (thr ds (q, 0)) day ((ixL ds (q, 0)).length + 1) = keysL (thr ds (q, 0)) day) := by show _ = _; rw [ixL_thr, keysJ_all]
      go_wp2_with fail
      go_ret
      have hr := Rd.of_own HOW.out
      rw [HF.out] at hr hcc ⊢
      exact ⟨A3, c3, rfl, Below.then_ HB2.out HBQ.out, hr, hcc.1⟩

end Go.Proofs.YtaomfjgleddpdaaGreat
