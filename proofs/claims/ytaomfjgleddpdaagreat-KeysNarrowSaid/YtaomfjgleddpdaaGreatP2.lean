import Derived.Test.YtaomfjgleddpdaaGreatP1
import Derived.Test.YtaomfjgleddpdaaGreatM2
import Derived.Test.YtaomfjgleddpdaaGreatB5
set_option linter.unusedVariables false
set_option linter.unusedSimpArgs false

/- The reference's keysOf, Holders and Hands. -/
namespace Go.Proofs.YtaomfjgleddpdaaGreat
open Go.RowKit
attribute [local go_sem] Oper.semAt_some

def koV (ds : List Deed) (lock person day kn : Int) (pers : Bool) : Int := if pers then lockErr ds lock person day kn else whoErr ds lock day kn
def koE (ds : List Deed) (lock person day kn : Int) (pers : Bool) : Int := if koV ds lock person day kn pers = 0 then (if clF (cntDs kn ds) then 13 else 0) else koV ds lock person day kn pers
/-- What a lock's key may be; none with an error. -/
def koL (ds : List Deed) (lock person day kn : Int) (pers : Bool) : List (Int × Int) := if koE ds lock person day kn pers = 0 then keysL (thr (cntDs kn ds) (lock, 0)) day else []
theorem koV_check {ds : List Deed} {lock person day kn : Int} {pers : Bool} (h : checkB ds = false) : koV ds lock person day kn pers = 11 := by
  unfold koV lockErr whoErr
  rw [h]
  cases pers <;> rfl
theorem koV_lock {ds : List Deed} {lock person day kn : Int} {pers : Bool} (h : checkB ds = true) (h2 : withinB lock 1 3 = false) : koV ds lock person day kn pers = 15 := by
  unfold koV lockErr whoErr
  rw [h, h2]
  cases pers <;> rfl
theorem koV_pers {ds : List Deed} {lock person day kn : Int} (h : checkB ds = true) (h2 : withinB lock 1 3 = true) (h3 : withinB person 1 99 = false) : koV ds lock person day kn true = 16 := by
  unfold koV lockErr
  rw [h, h2, h3]
  rfl
theorem days_comm (a b : Int) : daysOk [a, b] = daysOk [b, a] := by
  simp only [daysOk, List.all_cons, List.all_nil, Bool.and_true]
  exact Bool.and_comm _ _
theorem koV_days {ds : List Deed} {lock person day kn : Int} {pers : Bool} (h : checkB ds = true) (h2 : withinB lock 1 3 = true) (h3 : pers = false ∨ withinB person 1 99 = true) : koV ds lock person day kn pers = askE ds [kn, day] := by
  unfold koV lockErr whoErr askE
  rw [h, h2, days_comm kn day]
  cases pers with
  | false => cases daysOk [day, kn] <;> rfl
  | true =>
    rcases h3 with h3 | h3
    · cases h3
    · rw [h3]
      cases daysOk [day, kn] <;> rfl
theorem keysL_len (T : List Deed) (day : Int) : (keysL T day).length ≤ T.length + 1 := by
  rw [← keysJ_all]
  exact keysJ_len _ _ _
theorem koL_len (ds : List Deed) (lock person day kn : Int) (pers : Bool) : (koL ds lock person day kn pers).length ≤ 1000000 := by
  unfold koL
  split
  · rename_i h
    have h60 : ds.length ≤ 60 := by
      cases hc : checkB ds with
      | true => exact check_60 hc
      | false =>
        unfold koE at h
        rw [koV_check hc] at h
        simp at h
    have h1 := keysL_len (thr (cntDs kn ds) (lock, 0)) day
    have h2 := thr_len (cntDs kn ds) (lock, 0)
    have h3 := cntDs_len kn ds
    omega
  · simp
theorem koL_who_holder (ds : List Deed) (lock person day kn : Int) : srtL ((koL ds lock person day kn false).map (·.1)) = whoL (·.holder) ds lock day kn := by
  unfold koL whoL
  rw [show koE ds lock person day kn false = whoE ds lock day kn from rfl]
  split
  · rw [keysL, List.map_map]; rfl
  · rfl
theorem koL_who_hand (ds : List Deed) (lock person day kn : Int) : srtL ((koL ds lock person day kn false).map (·.2)) = whoL (·.hand) ds lock day kn := by
  unfold koL whoL
  rw [show koE ds lock person day kn false = whoE ds lock day kn from rfl]
  split
  · rw [keysL, List.map_map]; rfl
  · rfl

set_option maxRecDepth 100000 in
set_option maxHeartbeats 4000000 in
theorem r_keysOf (ds : List Deed) (lock person day kn err : Int) (pers : Bool) (l : List (Int × Int)) (A : Option Addr) (n c : Nat) (w : World) (hn : n ≤ 9223372036854775807) (hd : Ds w w.heap.size A n ds) (he : koE ds lock person day kn pers = err) (hl : koL ds lock person day kn pers = l) :
    Calls Tryz.prog 103 #[.slice A n c, .agg #[.int .i64 lock, .int .i64 person, .int .i64 day, .int .i64 kn], .bool pers] w (RetIts l err w) := by
  have HD := Lib.hid hd
  have HLN := Lib.hid hd.len
  have HE := Lib.hid he
  have HLL := Lib.hid hl
  clear hd he hl
  cases hc : checkB ds with
  | false =>
    have hv := koV_check (lock := lock) (person := person) (day := day) (kn := kn) (pers := pers) hc
    have he : err = 11 := by rw [← HE.out, koE, hv]; rfl
    have hl : l = [] := by rw [← HLL.out, koL, HE.out, he]; rfl
    have HC := Lib.hid hc
    subst he
    subst hl
    clear hv hc
    go_enter Tryz.func103, Tryz.ntmps103
    go_wp2_with fail
    refine (r_checkq ds 11 _ _ _ _ hn (HD.out.now (by (repeat' (first | with_reducible exact Below.refl _ _ | with_reducible assumption | with_reducible refine Below.alloc ?_ ?_ _ | with_reducible refine Below.setCell ?_ ?_ _ | with_reducible refine Below.drew ?_ | (simp; done) | (simp; omega) | omega)))) (by rw [HC.out]; rfl)).mono ?_
    rintro e w1 ⟨rfl, hb1⟩
    go_wp2_with fail
    go_ret2
    exact ⟨none, 0, rfl, Below.then_ (by (repeat' (first | with_reducible exact Below.refl _ _ | with_reducible assumption | with_reducible refine Below.alloc ?_ ?_ _ | with_reducible refine Below.setCell ?_ ?_ _ | with_reducible refine Below.drew ?_ | (simp; done) | (simp; omega) | omega))) hb1, Rd.nil_, Nat.le_refl _⟩
  | true =>
    have HC := Lib.hid hc
    have h60 : n ≤ 60 := by have := check_60 hc; have := HLN.out; omega
    clear hc
    go_enter Tryz.func103, Tryz.ntmps103
    go_wp2_with fail
    refine (r_checkq ds 0 _ _ _ _ hn (HD.out.now (by (repeat' (first | with_reducible exact Below.refl _ _ | with_reducible assumption | with_reducible refine Below.alloc ?_ ?_ _ | with_reducible refine Below.setCell ?_ ?_ _ | with_reducible refine Below.drew ?_ | (simp; done) | (simp; omega) | omega)))) (by rw [HC.out]; rfl)).mono ?_
    rintro e w1 ⟨rfl, hb1⟩
    have HBA := Lib.hid ((BoxA.new w 59 #[.int .i64 lock, .int .i64 person, .int .i64 day, .int .i64 kn]).ext hb1)
    have HB1 : Below w.heap.size w w1 := Below.then_ (by (repeat' (first | with_reducible exact Below.refl _ _ | with_reducible assumption | with_reducible refine Below.alloc ?_ ?_ _ | with_reducible refine Below.setCell ?_ ?_ _ | with_reducible refine Below.drew ?_ | (simp; done) | (simp; omega) | omega))) hb1
    clear hb1
    have x0 := HBA.out.cell 0
    have x1 := HBA.out.cell 1
    have x2 := HBA.out.cell 2
    have x3 := HBA.out.cell 3
    have hlt1 := HBA.out.lt
    cases hw : withinB lock 1 3 with
    | false =>
      have hv := koV_lock (person := person) (day := day) (kn := kn) (pers := pers) HC.out hw
      have he : err = 15 := by rw [← HE.out, koE, hv]; rfl
      have hl : l = [] := by rw [← HLL.out, koL, HE.out, he]; rfl
      have HW := Lib.hid hw
      subst he
      subst hl
      clear hv hw
      go_wp2_with (go_at_call 74; refine (r_withinq lock 1 3 false _ HW.out).mono ?_; rintro e w1 ⟨rfl, rfl⟩)
      go_ret2
      exact ⟨none, 0, rfl, HB1, Rd.nil_, Nat.le_refl _⟩
    | true =>
      have HW := Lib.hid hw
      have hq1 : 1 ≤ lock := by simp only [withinB, Bool.and_eq_true, decide_eq_true_eq] at hw; exact hw.1
      clear hw
      have HREST : Hid ((pers = false ∨ withinB person 1 99 = true) ∨ (pers = true ∧ withinB person 1 99 = false)) := by
        show _ ∨ _
        cases pers <;> cases withinB person 1 99 <;> simp
      rcases HREST.out with hp | ⟨hp, hpw⟩
      · have hv := koV_days (day := day) (kn := kn) HC.out HW.out hp
        obtain ⟨ae, hae⟩ : ∃ z, askE ds [kn, day] = z := ⟨_, rfl⟩
        rw [hae] at hv
        have HAE := Lib.hid hae
        have HV := Lib.hid hv
        have HEQ : Hid ((if ae = 0 then evErr kn ds else ae) = err) := by show _ = _; rw [← HE.out, koE, HV.out]; rfl
        obtain ⟨zs, hzs⟩ : ∃ z, (if ae = 0 then evDs kn ds else []) = z := ⟨_, rfl⟩
        have HZS := Lib.hid hzs
        have HOK := Lib.hid (cnt_ok HC.out kn)
        have HC60 : Hid ((cntDs kn ds).length ≤ 60) := by show _ ≤ _; have := cntDs_len kn ds; have := HLN.out; omega
        clear hv hae hzs HREST
        cases pers with
        | false =>
          go_wp2_with (go_at_call 74; refine (r_withinq lock 1 3 true _ HW.out).mono ?_; rintro e w1 ⟨rfl, rfl⟩)
          refine (r_even ds kn [day] ae zs err _ _ _ _ 2 2 _ hn (by decide) (HD.out.now (by (repeat' (first | with_reducible exact Below.refl _ _ | with_reducible assumption | with_reducible refine Below.alloc ?_ ?_ _ | with_reducible refine Below.setCell ?_ ?_ _ | with_reducible refine Below.drew ?_ | (simp; done) | (simp; omega) | omega)))) (Rd.new w1 #[.int .i64 kn, .int .i64 day] 3 1 2 _ rfl rfl) HAE.out HZS.out HEQ.out).mono ?_
          rintro e w2 ⟨A2, c2, rfl, hb2, hd2, hcc2⟩
          have HB2 : Below w.heap.size w w2 := Below.then_ (by (repeat' (first | with_reducible exact Below.refl _ _ | with_reducible assumption | with_reducible refine Below.alloc ?_ ?_ _ | with_reducible refine Below.setCell ?_ ?_ _ | with_reducible refine Below.drew ?_ | (simp; done) | (simp; omega) | omega))) hb2
          have HBA2 := Lib.hid ((HBA.out.alloc (.cells #[.int .i64 kn, .int .i64 day] 3)).ext hb2)
          have HD2 := Lib.hid hd2
          clear hb2 hd2 x0 x1 x2 x3 hlt1
          have x0 := HBA2.out.cell 0
          have x2 := HBA2.out.cell 2
          by_cases he0 : err = 0
          · have hzc : zs = cntDs kn ds := by
              have h1 := HEQ.out
              have h2 := HZS.out
              by_cases ha : ae = 0
              · rw [if_pos ha] at h1 h2
                unfold evErr at h1
                unfold evDs at h2
                split at h1
                · omega
                · rename_i hf
                  rw [if_neg hf] at h2
                  exact h2.symm
              · rw [if_neg ha] at h1
                omega
            have hl : l = keysL (thr (cntDs kn ds) (lock, 0)) day := by rw [← HLL.out, koL, HE.out, if_pos he0]
            subst hzc
            subst hl
            subst he0
            go_wp2_with fail
            refine (r_Keys (cntDs kn ds) lock day _ _ _ _ HC60.out hq1 HOK.out HD2.out).mono ?_
            rintro e w3 ⟨A3, c3, rfl, hb3, hi3, hc3⟩
            have HI3 := Lib.hid hi3
            clear hi3
            go_wp2_with fail
            go_ret2
            exact ⟨A3, c3, rfl, Below.then_ HB2 hb3, HI3.out, hc3⟩
          · have hne : (err != 0) = true := by simpa using he0
            have hl : l = [] := by rw [← HLL.out, koL, HE.out, if_neg he0]
            subst hl
            clear he0
            go_wp2_with fail
            go_ret2
            exact ⟨none, 0, rfl, HB2, Rd.nil_, Nat.le_refl _⟩
        | true =>
          have HPW : Hid (withinB person 1 99 = true) := by rcases hp with h | h; cases h; exact h
          go_wp2_with (first | (go_at_call_of 74 (Value.int .i64 3); refine (r_withinq lock 1 3 true _ HW.out).mono ?_; rintro e w' ⟨rfl, rfl⟩) | (go_at_call_of 74 (Value.int .i64 99); refine (r_withinq person 1 99 true _ HPW.out).mono ?_; rintro e w' ⟨rfl, rfl⟩))
          refine (r_even ds kn [day] ae zs err _ _ _ _ 2 2 _ hn (by decide) (HD.out.now (by (repeat' (first | with_reducible exact Below.refl _ _ | with_reducible assumption | with_reducible refine Below.alloc ?_ ?_ _ | with_reducible refine Below.setCell ?_ ?_ _ | with_reducible refine Below.drew ?_ | (simp; done) | (simp; omega) | omega)))) (Rd.new w1 #[.int .i64 kn, .int .i64 day] 3 1 2 _ rfl rfl) HAE.out HZS.out HEQ.out).mono ?_
          rintro e w2 ⟨A2, c2, rfl, hb2, hd2, hcc2⟩
          have HB2 : Below w.heap.size w w2 := Below.then_ (by (repeat' (first | with_reducible exact Below.refl _ _ | with_reducible assumption | with_reducible refine Below.alloc ?_ ?_ _ | with_reducible refine Below.setCell ?_ ?_ _ | with_reducible refine Below.drew ?_ | (simp; done) | (simp; omega) | omega))) hb2
          have HBA2 := Lib.hid ((HBA.out.alloc (.cells #[.int .i64 kn, .int .i64 day] 3)).ext hb2)
          have HD2 := Lib.hid hd2
          clear hb2 hd2 x0 x1 x2 x3 hlt1
          have x0 := HBA2.out.cell 0
          have x2 := HBA2.out.cell 2
          by_cases he0 : err = 0
          · have hzc : zs = cntDs kn ds := by
              have h1 := HEQ.out
              have h2 := HZS.out
              by_cases ha : ae = 0
              · rw [if_pos ha] at h1 h2
                unfold evErr at h1
                unfold evDs at h2
                split at h1
                · omega
                · rename_i hf
                  rw [if_neg hf] at h2
                  exact h2.symm
              · rw [if_neg ha] at h1
                omega
            have hl : l = keysL (thr (cntDs kn ds) (lock, 0)) day := by rw [← HLL.out, koL, HE.out, if_pos he0]
            subst hzc
            subst hl
            subst he0
            go_wp2_with fail
            refine (r_Keys (cntDs kn ds) lock day _ _ _ _ HC60.out hq1 HOK.out HD2.out).mono ?_
            rintro e w3 ⟨A3, c3, rfl, hb3, hi3, hc3⟩
            have HI3 := Lib.hid hi3
            clear hi3
            go_wp2_with fail
            go_ret2
            exact ⟨A3, c3, rfl, Below.then_ HB2 hb3, HI3.out, hc3⟩
          · have hne : (err != 0) = true := by simpa using he0
            have hl : l = [] := by rw [← HLL.out, koL, HE.out, if_neg he0]
            subst hl
            clear he0
            go_wp2_with fail
            go_ret2
            exact ⟨none, 0, rfl, HB2, Rd.nil_, Nat.le_refl _⟩
      · subst hp
        have hv := koV_pers (day := day) (kn := kn) HC.out HW.out hpw
        have he : err = 16 := by rw [← HE.out, koE, hv]; rfl
        have hl : l = [] := by rw [← HLL.out, koL, HE.out, he]; rfl
        have HPW := Lib.hid hpw
        subst he
        subst hl
        clear hv hpw HREST
        go_wp2_with (first | (go_at_call_of 74 (Value.int .i64 3); refine (r_withinq lock 1 3 true _ HW.out).mono ?_; rintro e w' ⟨rfl, rfl⟩) | (go_at_call_of 74 (Value.int .i64 99); refine (r_withinq person 1 99 false _ HPW.out).mono ?_; rintro e w' ⟨rfl, rfl⟩))
        go_ret2
        exact ⟨none, 0, rfl, HB1, Rd.nil_, Nat.le_refl _⟩

set_option maxRecDepth 100000 in
set_option maxHeartbeats 2000000 in
theorem r_Holders (ds : List Deed) (lock person day kn err : Int) (xs : List Int) (A : Option Addr) (n c : Nat) (w : World) (hn : n ≤ 9223372036854775807) (hd : Ds w w.heap.size A n ds) (hx : whoL (·.holder) ds lock day kn = xs) (he : whoE ds lock day kn = err) :
    Calls Tryz.prog 39 #[.slice A n c, .agg #[.int .i64 lock, .int .i64 person, .int .i64 day, .int .i64 kn]] w (RetL xs err w) := by
  have HD := Lib.hid hd
  have HX := Lib.hid hx
  have HE : Hid (koE ds lock person day kn false = err) := by show _ = _; rw [← he]; rfl
  clear hd hx he
  obtain ⟨l, hl⟩ : ∃ l, koL ds lock person day kn false = l := ⟨_, rfl⟩
  have HLL := Lib.hid hl
  have hll := koL_len ds lock person day kn false
  rw [hl] at hll
  have HXS : Hid (xs = srtL (l.map (·.1))) := by show _ = _; rw [← HX.out, ← hl]; exact (koL_who_holder ds lock person day kn).symm
  clear hl
  go_enter Tryz.func39, Tryz.ntmps39
  go_wp2_with fail
  refine (r_keysOf ds lock person day kn err false l _ _ _ _ hn (HD.out.now (by (repeat' (first | with_reducible exact Below.refl _ _ | with_reducible assumption | with_reducible refine Below.alloc ?_ ?_ _ | with_reducible refine Below.setCell ?_ ?_ _ | with_reducible refine Below.drew ?_ | (simp; done) | (simp; omega) | omega)))) HE.out HLL.out).mono ?_
  rintro e w1 ⟨A1, c1, rfl, hb1, hi1, _⟩
  have HB1 : Below w.heap.size w w1 := Below.then_ (by (repeat' (first | with_reducible exact Below.refl _ _ | with_reducible assumption | with_reducible refine Below.alloc ?_ ?_ _ | with_reducible refine Below.setCell ?_ ?_ _ | with_reducible refine Below.drew ?_ | (simp; done) | (simp; omega) | omega))) hb1
  have HI := Lib.hid hi1
  have HB1 := Lib.hid HB1
  clear hb1 hi1
  go_wp2_with fail
  go_loopw [8, 19] (fun v i wr => ∃ (k : Nat) (ys : List Int) (A0 : Option Addr) (c0 : Nat), k ≤ l.length ∧ i = .int .i64 k ∧ v = .slice A0 ys.length c0 ∧ SS ys ∧ ys.length ≤ k ∧ (∀ a, a ∈ ys ↔ a ∈ (l.take k).map (·.1)) ∧ Is wr wr.heap.size A0 ys.length ys ∧ ys.length ≤ c0 ∧ Below w1.heap.size w1 wr) (fun _ i _ => l.length - (intOf i).toNat)
  case atStart => exact ⟨0, [], none, 0, by omega, rfl, rfl, List.Pairwise.nil, by simp, by simp, Rd.nil_, by simp, Below.refl _ _⟩
  case round =>
    obtain ⟨k, ys, A0, c0, hk, rfl, rfl, hss, hyl, hmem, his, hc0, hB⟩ := hrel
    have HSS := Lib.hid hss
    have HMEM := Lib.hid hmem
    have HIS := Lib.hid his
    have HBB := Lib.hid hB
    have hsr : w1.heap.size ≤ wr.heap.size := hB.size
    clear hss hmem his hB
    by_cases hlt : k < l.length
    · obtain ⟨b, o, x, y, rfl, hb, hxk, hc1, hc2⟩ := (HI.out.ext HBB.out (Nat.le_refl _)).at_ hlt
      have HK := Lib.hid hxk
      clear hxk
      go_wp2_with fail
      refine (r_Put ys x _ _ c0 _ (by omega) hc0 (HIS.out.now (by (repeat' (first | with_reducible exact Below.refl _ _ | with_reducible assumption | with_reducible refine Below.alloc ?_ ?_ _ | with_reducible refine Below.setCell ?_ ?_ _ | with_reducible refine Below.drew ?_ | (simp; done) | (simp; omega) | omega)))) HSS.out).mono ?_
      rintro e w2 ⟨A2, c2, rfl, hb2, hi2, hc2'⟩
      have HBN := Lib.hid (Below.then_ (HBB.out.alloc hsr (.cells #[.int .i64 x, .int .i64 y] 81)) hb2)
      have HI2 := Lib.hid hi2
      have hl2 := insS_len x ys
      clear hi2 hb2 hc1 hc2
      go_wp2_with fail
      go_roundw
      case rel => exact ⟨k + 1, insS x ys, A2, c2, by omega, by go_num, rfl, insS_ss HSS.out, by omega, fun a => by
        rw [insS_mem, HMEM.out a, take_snoc_some HK.out, List.map_append, List.mem_append]
        simp only [List.map_cons, List.map_nil, List.mem_singleton]
        exact or_comm, HI2.out, hc2', HBN.out⟩
      case measure => simp [intOf]; omega
    · obtain rfl : k = l.length := by omega
      have hys : ys = xs := by
        rw [HXS.out]
        refine SS.ext HSS.out (srtL_ss _) fun a => ?_
        rw [HMEM.out a, srtL_mem, List.take_length]
      subst hys
      go_wp2_with fail
      go_ret2
      exact ⟨A0, c0, rfl, Below.then_ HB1.out HBB.out, HIS.out, hc0⟩

set_option maxRecDepth 100000 in
set_option maxHeartbeats 2000000 in
theorem r_Hands (ds : List Deed) (lock person day kn err : Int) (xs : List Int) (A : Option Addr) (n c : Nat) (w : World) (hn : n ≤ 9223372036854775807) (hd : Ds w w.heap.size A n ds) (hx : whoL (·.hand) ds lock day kn = xs) (he : whoE ds lock day kn = err) :
    Calls Tryz.prog 41 #[.slice A n c, .agg #[.int .i64 lock, .int .i64 person, .int .i64 day, .int .i64 kn]] w (RetL xs err w) := by
  have HD := Lib.hid hd
  have HX := Lib.hid hx
  have HE : Hid (koE ds lock person day kn false = err) := by show _ = _; rw [← he]; rfl
  clear hd hx he
  obtain ⟨l, hl⟩ : ∃ l, koL ds lock person day kn false = l := ⟨_, rfl⟩
  have HLL := Lib.hid hl
  have hll := koL_len ds lock person day kn false
  rw [hl] at hll
  have HXS : Hid (xs = srtL (l.map (·.2))) := by show _ = _; rw [← HX.out, ← hl]; exact (koL_who_hand ds lock person day kn).symm
  clear hl
  go_enter Tryz.func41, Tryz.ntmps41
  go_wp2_with fail
  refine (r_keysOf ds lock person day kn err false l _ _ _ _ hn (HD.out.now (by (repeat' (first | with_reducible exact Below.refl _ _ | with_reducible assumption | with_reducible refine Below.alloc ?_ ?_ _ | with_reducible refine Below.setCell ?_ ?_ _ | with_reducible refine Below.drew ?_ | (simp; done) | (simp; omega) | omega)))) HE.out HLL.out).mono ?_
  rintro e w1 ⟨A1, c1, rfl, hb1, hi1, _⟩
  have HB1 : Below w.heap.size w w1 := Below.then_ (by (repeat' (first | with_reducible exact Below.refl _ _ | with_reducible assumption | with_reducible refine Below.alloc ?_ ?_ _ | with_reducible refine Below.setCell ?_ ?_ _ | with_reducible refine Below.drew ?_ | (simp; done) | (simp; omega) | omega))) hb1
  have HI := Lib.hid hi1
  have HB1 := Lib.hid HB1
  clear hb1 hi1
  go_wp2_with fail
  go_loopw [8, 19] (fun v i wr => ∃ (k : Nat) (ys : List Int) (A0 : Option Addr) (c0 : Nat), k ≤ l.length ∧ i = .int .i64 k ∧ v = .slice A0 ys.length c0 ∧ SS ys ∧ ys.length ≤ k ∧ (∀ a, a ∈ ys ↔ a ∈ (l.take k).map (·.2)) ∧ Is wr wr.heap.size A0 ys.length ys ∧ ys.length ≤ c0 ∧ Below w1.heap.size w1 wr) (fun _ i _ => l.length - (intOf i).toNat)
  case atStart => exact ⟨0, [], none, 0, by omega, rfl, rfl, List.Pairwise.nil, by simp, by simp, Rd.nil_, by simp, Below.refl _ _⟩
  case round =>
    obtain ⟨k, ys, A0, c0, hk, rfl, rfl, hss, hyl, hmem, his, hc0, hB⟩ := hrel
    have HSS := Lib.hid hss
    have HMEM := Lib.hid hmem
    have HIS := Lib.hid his
    have HBB := Lib.hid hB
    have hsr : w1.heap.size ≤ wr.heap.size := hB.size
    clear hss hmem his hB
    by_cases hlt : k < l.length
    · obtain ⟨b, o, x, y, rfl, hb, hxk, hc1, hc2⟩ := (HI.out.ext HBB.out (Nat.le_refl _)).at_ hlt
      have HK := Lib.hid hxk
      clear hxk
      go_wp2_with fail
      refine (r_Put ys y _ _ c0 _ (by omega) hc0 (HIS.out.now (by (repeat' (first | with_reducible exact Below.refl _ _ | with_reducible assumption | with_reducible refine Below.alloc ?_ ?_ _ | with_reducible refine Below.setCell ?_ ?_ _ | with_reducible refine Below.drew ?_ | (simp; done) | (simp; omega) | omega)))) HSS.out).mono ?_
      rintro e w2 ⟨A2, c2, rfl, hb2, hi2, hc2'⟩
      have HBN := Lib.hid (Below.then_ (HBB.out.alloc hsr (.cells #[.int .i64 x, .int .i64 y] 81)) hb2)
      have HI2 := Lib.hid hi2
      have hl2 := insS_len y ys
      clear hi2 hb2 hc1 hc2
      go_wp2_with fail
      go_roundw
      case rel => exact ⟨k + 1, insS y ys, A2, c2, by omega, by go_num, rfl, insS_ss HSS.out, by omega, fun a => by
        rw [insS_mem, HMEM.out a, take_snoc_some HK.out, List.map_append, List.mem_append]
        simp only [List.map_cons, List.map_nil, List.mem_singleton]
        exact or_comm, HI2.out, hc2', HBN.out⟩
      case measure => simp [intOf]; omega
    · obtain rfl : k = l.length := by omega
      have hys : ys = xs := by
        rw [HXS.out]
        refine SS.ext HSS.out (srtL_ss _) fun a => ?_
        rw [HMEM.out a, srtL_mem, List.take_length]
      subst hys
      go_wp2_with fail
      go_ret2
      exact ⟨A0, c0, rfl, Below.then_ HB1.out HBB.out, HIS.out, hc0⟩

end Go.Proofs.YtaomfjgleddpdaaGreat

/- The reference's told and differ. -/
namespace Go.Proofs.YtaomfjgleddpdaaGreat
open Go.RowKit
attribute [local go_sem] Oper.semAt_some

def RetT (hs xs : List Int) (err : Int) (w : World) (e : Ending) (w' : World) : Prop :=
  ∃ A c B d, e = .returned (.tuple #[.slice A hs.length c, .slice B xs.length d, .int .i64 err]) ∧ Below w.heap.size w w' ∧ Is w' w'.heap.size A hs.length hs ∧ Is w' w'.heap.size B xs.length xs

set_option maxRecDepth 100000 in
set_option maxHeartbeats 1000000 in
theorem r_told (ds : List Deed) (lock person day kn err : Int) (hs xs : List Int) (A : Option Addr) (n c : Nat) (w : World) (hn : n ≤ 9223372036854775807) (hd : Ds w w.heap.size A n ds) (hh : whoL (·.holder) ds lock day kn = hs) (hx : whoL (·.hand) ds lock day kn = xs) (he : whoE ds lock day kn = err) :
    Calls Tryz.prog 155 #[.slice A n c, .agg #[.int .i64 lock, .int .i64 person, .int .i64 day, .int .i64 kn]] w (RetT hs xs err w) := by
  have HD := Lib.hid hd
  have HH := Lib.hid hh
  have HX := Lib.hid hx
  have HE := Lib.hid he
  clear hd hh hx he
  go_enter Tryz.func155, Tryz.ntmps155
  go_wp2_with fail
  refine (r_Holders ds lock person day kn err hs _ _ _ _ hn (HD.out.now (by (repeat' (first | with_reducible exact Below.refl _ _ | with_reducible assumption | with_reducible refine Below.alloc ?_ ?_ _ | with_reducible refine Below.setCell ?_ ?_ _ | with_reducible refine Below.drew ?_ | (simp; done) | (simp; omega) | omega)))) HH.out HE.out).mono ?_
  rintro e w1 ⟨A1, c1, rfl, hb1, hi1, _⟩
  have HBA := Lib.hid ((BoxA.new w 59 #[.int .i64 lock, .int .i64 person, .int .i64 day, .int .i64 kn]).ext hb1)
  have HB1 : Below w.heap.size w w1 := Below.then_ (by (repeat' (first | with_reducible exact Below.refl _ _ | with_reducible assumption | with_reducible refine Below.alloc ?_ ?_ _ | with_reducible refine Below.setCell ?_ ?_ _ | with_reducible refine Below.drew ?_ | (simp; done) | (simp; omega) | omega))) hb1
  have HI1 := Lib.hid hi1
  clear hb1 hi1
  have x0 := HBA.out.cell 0
  have x1 := HBA.out.cell 1
  have x2 := HBA.out.cell 2
  have x3 := HBA.out.cell 3
  go_wp2_with fail
  refine (r_Hands ds lock person day kn err xs _ _ _ _ hn (HD.out.now HB1) HX.out HE.out).mono ?_
  rintro e w2 ⟨A2, c2, rfl, hb2, hi2, _⟩
  have HI12 := Lib.hid (HI1.out.now hb2)
  have HI2 := Lib.hid hi2
  clear hi2 HI1
  go_wp2_with fail
  go_ret3
  exact ⟨A1, c1, A2, c2, rfl, Below.then_ HB1 hb2, HI12.out, HI2.out⟩

theorem who_len {q : St → Int} {ds : List Deed} {lock day kn : Int} : (whoL q ds lock day kn).length ≤ 1000000 := by
  have h1 : ∀ l : List Int, (srtL l).length ≤ l.length := by
    intro l
    induction l with
    | nil => simp [srtL]
    | cons a l ih =>
      have h2 := insS_len a (srtL l)
      simp only [srtL, List.foldr_cons, List.length_cons] at *
      omega
  unfold whoL
  split
  · rename_i h
    have h2 := h1 ((stsL (thr (cntDs kn ds) (lock, 0)) day).map fun x => q x.2)
    have h3 := koL_len ds lock 0 day kn false
    unfold koL at h3
    rw [show koE ds lock 0 day kn false = whoE ds lock day kn from rfl, if_pos h, keysL, List.length_map] at h3
    rw [List.length_map] at h2
    omega
  · simp
theorem sameV_eq (ds es : List Deed) (kn km lock day : Int) : sameV ds es kn km lock day = (decide (whoE ds lock day kn = whoE es lock day km) && decide (whoL (·.holder) ds lock day kn = whoL (·.holder) es lock day km) && decide (whoL (·.hand) ds lock day kn = whoL (·.hand) es lock day km)) := by
  have h2 : List.range 2 = [0, 1] := rfl
  unfold sameV
  rw [h2]
  simp only [List.all_cons, List.all_nil, Bool.and_true]
  unfold eqA
  by_cases h : whoE ds lock day kn = whoE es lock day km
  · simp only [h, decide_true, Bool.true_and]
    rfl
  · simp [h]

set_option maxRecDepth 100000 in
set_option maxHeartbeats 4000000 in
theorem r_differ (ds es : List Deed) (kn km day : Int) (A B : Option Addr) (n c m d : Nat) (w : World) (hn : n ≤ 9223372036854775807) (hm : m ≤ 9223372036854775807) (hd : Ds w w.heap.size A n ds) (he : Ds w w.heap.size B m es) :
    Calls Tryz.prog 116 #[.agg #[.slice A n c, .slice B m d], .int .i64 day, .agg #[.int .i64 kn, .int .i64 km]] w (RetI (mvL ds es kn km day 3) w) := by
  obtain ⟨i0, hi, hz0, hz1, hz2⟩ := info_parts infoInt
  have HX := Lib.hid hd
  have HY := Lib.hid he
  clear hd he
  go_enter Tryz.func116, Tryz.ntmps116
  go_wp2_with fail
  go_loopw [7, 8] (fun v i wr => ∃ k : Nat, k ≤ 3 ∧ i = .int .i64 ((k : Int) + 1) ∧ wr.ownsRow (w.heap.size + 2) 3 1 v (mvL ds es kn km day k).length ((mvL ds es kn km day k).map fun x => .int .i64 x) ∧ Below w.heap.size w wr ∧ BoxA wr w.heap.size 151 #[.slice A n c, .slice B m d] ∧ BoxA wr (w.heap.size + 1) 41 #[.int .i64 kn, .int .i64 km]) (fun _ i _ => 4 - (intOf i).toNat)
  case atStart => exact ⟨0, by omega, rfl, World.ownsRow_nil _ _ _ _, by (repeat' (first | with_reducible exact Below.refl _ _ | with_reducible assumption | with_reducible refine Below.alloc ?_ ?_ _ | with_reducible refine Below.setCell ?_ ?_ _ | with_reducible refine Below.drew ?_ | (simp; done) | (simp; omega) | omega)), (BoxA.new w _ _).alloc _, by have h := (BoxA.new (w.alloc (.cells #[.slice A n c, .slice B m d] 151)) 41 #[.int .i64 kn, .int .i64 km]); simpa using h⟩
  case round =>
    obtain ⟨k, hk, rfl, hown, hB, bX, bY⟩ := hrel
    obtain ⟨wo, rfl⟩ : ∃ wo : World, wo = wr := ⟨_, rfl⟩
    have hs0 : w.heap.size + 1 < wo.heap.size := bY.lt
    have HB := Lib.hid hB
    have x0 := bX.cell 0
    have x1 := bX.cell 1
    have y0 := bY.cell 0
    have y1 := bY.cell 1
    have HBX := Lib.hid bX
    have HBY := Lib.hid bY
    have HO := Lib.hid hown
    obtain ⟨A0, c0, rfl, hcc⟩ := own_slice hown
    clear bX bY hB hown
    by_cases hlt : k < 3
    · have hml := mvL_len ds es kn km day k
      have hSV := sameV_eq ds es kn km ((k : Int) + 1) day
      obtain ⟨h1, hh1⟩ : ∃ z, whoL (·.holder) ds ((k : Int) + 1) day kn = z := ⟨_, rfl⟩
      obtain ⟨z1, hz1'⟩ : ∃ z, whoL (·.hand) ds ((k : Int) + 1) day kn = z := ⟨_, rfl⟩
      obtain ⟨e1, he1⟩ : ∃ z, whoE ds ((k : Int) + 1) day kn = z := ⟨_, rfl⟩
      obtain ⟨h2, hh2⟩ : ∃ z, whoL (·.holder) es ((k : Int) + 1) day km = z := ⟨_, rfl⟩
      obtain ⟨z2, hz2'⟩ : ∃ z, whoL (·.hand) es ((k : Int) + 1) day km = z := ⟨_, rfl⟩
      obtain ⟨e2, he2⟩ : ∃ z, whoE es ((k : Int) + 1) day km = z := ⟨_, rfl⟩
      have l1 : h1.length ≤ 1000000 := by rw [← hh1]; exact who_len
      have l2 : z1.length ≤ 1000000 := by rw [← hz1']; exact who_len
      have l3 : h2.length ≤ 1000000 := by rw [← hh2]; exact who_len
      have l4 : z2.length ≤ 1000000 := by rw [← hz2']; exact who_len
      rw [hh1, hz1', he1, hh2, hz2', he2] at hSV
      have H1 := Lib.hid hh1
      have H2 := Lib.hid hz1'
      have H3 := Lib.hid he1
      have H4 := Lib.hid hh2
      have H5 := Lib.hid hz2'
      have H6 := Lib.hid he2
      have HSVE := Lib.hid hSV
      clear hh1 hz1' he1 hh2 hz2' he2 hSV
      go_wp2_with fail
      refine (r_told ds ((k : Int) + 1) 0 day kn e1 h1 z1 _ _ _ _ hn (HX.out.now HB.out) H1.out H2.out H3.out).mono ?_
      rintro e w1 ⟨B1, b1, B2, b2, rfl, hb1, hi1, hi2⟩
      have HB1 := Lib.hid (Below.then_ HB.out hb1)
      have HBX1 := Lib.hid (HBX.out.ext hb1)
      have HBY1 := Lib.hid (HBY.out.ext hb1)
      have HO1 := Lib.hid (own_ext HO.out hb1)
      have HI1 := Lib.hid hi1
      have HI2 := Lib.hid hi2
      clear hb1 hi1 hi2 x0 x1 y0 y1 HB HBX HBY HO
      have x1 := HBX1.out.cell 1
      have y1 := HBY1.out.cell 1
      go_wp2_with fail
      refine (r_told es ((k : Int) + 1) 0 day km e2 h2 z2 _ _ _ _ hm (HY.out.now HB1.out) H4.out H5.out H6.out).mono ?_
      rintro e w2 ⟨B3, b3, B4, b4, rfl, hb2, hi3, hi4⟩
      have HB2 := Lib.hid (Below.then_ HB1.out hb2)
      have HBX2 := Lib.hid (HBX1.out.ext hb2)
      have HBY2 := Lib.hid (HBY1.out.ext hb2)
      have HO2 := Lib.hid (own_ext HO1.out hb2)
      have HI12 := Lib.hid (HI1.out.now hb2)
      have HI22 := Lib.hid (HI2.out.now hb2)
      have HI3 := Lib.hid hi3
      have HI4 := Lib.hid hi4
      clear hb2 hi3 hi4 x1 y1 HB1 HBX1 HBY1 HO1 HI1 HI2
      by_cases he : e1 = e2
      · have hne : (e1 != e2) = false := by simpa using he
        by_cases hh : h1 = h2
        · have hv1 : decide (h1 = h2) = true := by simpa using hh
          have HV1 := Lib.hid hv1
          by_cases hz : z1 = z2
          · have HSV : Hid (sameV ds es kn km ((k : Int) + 1) day = true) := by show _ = _; rw [HSVE.out]; simp [he, hh, hz]
            have hv2 : decide (z1 = z2) = true := by simpa using hz
            have HV2 := Lib.hid hv2
            have HE := Lib.hid (mvL_out HSV.out)
            clear he hh hz hv1 hv2
            go_wp2_with fail
            refine (r_same h1 h2 true _ _ _ _ _ _ _ l1 l3 HI12.out HI3.out HV1.out).mono ?_
            rintro e w3 ⟨rfl, hb3⟩
            go_wp2_with fail
            refine (r_same z1 z2 true _ _ _ _ _ _ _ l2 l4 (HI22.out.now hb3) (HI4.out.now hb3) HV2.out).mono ?_
            rintro e w4 ⟨rfl, hb4⟩
            have hbb := Below.then_ hb3 hb4
            go_wp2_with fail
            go_roundw
            case rel => exact ⟨k + 1, by omega, by go_num, by rw [HE.out]; exact own_ext HO2.out hbb, Below.then_ HB2.out hbb, HBX2.out.ext hbb, HBY2.out.ext hbb⟩
            case measure => simp [intOf] <;> omega
          · have HSV : Hid (sameV ds es kn km ((k : Int) + 1) day = false) := by show _ = _; rw [HSVE.out]; simp [hz]
            have hv2 : decide (z1 = z2) = false := by simpa using hz
            have HV2 := Lib.hid hv2
            clear he hh hz hv1 hv2
            go_wp2_with fail
            refine (r_same h1 h2 true _ _ _ _ _ _ _ l1 l3 HI12.out HI3.out HV1.out).mono ?_
            rintro e w3 ⟨rfl, hb3⟩
            go_wp2_with fail
            refine (r_same z1 z2 false _ _ _ _ _ _ _ l2 l4 (HI22.out.now hb3) (HI4.out.now hb3) HV2.out).mono ?_
            rintro e w4 ⟨rfl, hb4⟩
            have hbb := Below.then_ hb3 hb4
            have HBL := Lib.hid (Below.then_ HB2.out hbb)
            have HOL := Lib.hid (own_ext HO2.out hbb)
            have HBXL := Lib.hid (HBX2.out.ext hbb)
            have HBYL := Lib.hid (HBY2.out.ext hbb)
            clear hbb hb3 hb4
            have HE := Lib.hid (mvL_in HSV.out)
            go_wp2_with (at_builtin; refine wpList_append_own _ rfl (.tmp 58) (.tmp 60) 32 rfl (w.heap.size + 2) 3 i0 _ 1 8 Tryz.underlying32 hi hz0 hz1 hz2 rfl (by decide) _ _ _ rfl (HOL.out.alloc _) ⟨w4.heap.size, 0, none⟩ 1 1 [.int .i64 ((k : Int) + 1)] rfl rfl ?c1 ?c2 ?c3 ?c4 ?c5 ?_; rotate_left 5; intro v' w9 hown9 hgrow9 _)
            case c1 => exact World.news_of_block (cs := #[.int .i64 ((k : Int) + 1)]) (t := 3) (fr := (0, 0)) (heap_alloc_new w4 _)
            case c2 => simp [Value.oneCell']
            case c3 => unfold maxLen; omega
            case c4 => omega
            case c5 => have := HBL.out.size; have := HBXL.out.lt; have := HBYL.out.lt; simp; omega
            go_roundw
            case rel =>
              refine ⟨k + 1, by omega, by go_num, ?_, Below.appended HBL.out ((Below.refl _ _).alloc (Nat.le_refl _) _) (own_down HOL.out (by omega)) hgrow9, (HBXL.out.alloc _).kept hgrow9 ?_, (HBYL.out.alloc _).kept hgrow9 ?_⟩
              · rw [HE.out, List.map_append, List.length_append]
                exact hown9
              · intro e2
                have := own_base HOL.out e2.symm
                omega
              · intro e2
                have := own_base HOL.out e2.symm
                omega
            case measure => simp [intOf] <;> omega
        · have HSV : Hid (sameV ds es kn km ((k : Int) + 1) day = false) := by show _ = _; rw [HSVE.out]; simp [hh]
          have hv1 : decide (h1 = h2) = false := by simpa using hh
          have HV1 := Lib.hid hv1
          clear he hh hv1
          go_wp2_with fail
          refine (r_same h1 h2 false _ _ _ _ _ _ _ l1 l3 HI12.out HI3.out HV1.out).mono ?_
          rintro e w3 ⟨rfl, hb3⟩
          have HBL := Lib.hid (Below.then_ HB2.out hb3)
          have HOL := Lib.hid (own_ext HO2.out hb3)
          have HBXL := Lib.hid (HBX2.out.ext hb3)
          have HBYL := Lib.hid (HBY2.out.ext hb3)
          clear hb3
          have HE := Lib.hid (mvL_in HSV.out)
          go_wp2_with (at_builtin; refine wpList_append_own _ rfl (.tmp 58) (.tmp 60) 32 rfl (w.heap.size + 2) 3 i0 _ 1 8 Tryz.underlying32 hi hz0 hz1 hz2 rfl (by decide) _ _ _ rfl (HOL.out.alloc _) ⟨w3.heap.size, 0, none⟩ 1 1 [.int .i64 ((k : Int) + 1)] rfl rfl ?c1 ?c2 ?c3 ?c4 ?c5 ?_; rotate_left 5; intro v' w9 hown9 hgrow9 _)
          case c1 => exact World.news_of_block (cs := #[.int .i64 ((k : Int) + 1)]) (t := 3) (fr := (0, 0)) (heap_alloc_new w3 _)
          case c2 => simp [Value.oneCell']
          case c3 => unfold maxLen; omega
          case c4 => omega
          case c5 => have := HBL.out.size; have := HBXL.out.lt; have := HBYL.out.lt; simp; omega
          go_roundw
          case rel =>
            refine ⟨k + 1, by omega, by go_num, ?_, Below.appended HBL.out ((Below.refl _ _).alloc (Nat.le_refl _) _) (own_down HOL.out (by omega)) hgrow9, (HBXL.out.alloc _).kept hgrow9 ?_, (HBYL.out.alloc _).kept hgrow9 ?_⟩
            · rw [HE.out, List.map_append, List.length_append]
              exact hown9
            · intro e2
              have := own_base HOL.out e2.symm
              omega
            · intro e2
              have := own_base HOL.out e2.symm
              omega
          case measure => simp [intOf] <;> omega
      · have HSV : Hid (sameV ds es kn km ((k : Int) + 1) day = false) := by show _ = _; rw [HSVE.out]; simp [he]
        have hne : (e1 != e2) = true := by simpa using he
        have HBL := Lib.hid HB2.out
        have HOL := Lib.hid HO2.out
        have HBXL := Lib.hid HBX2.out
        have HBYL := Lib.hid HBY2.out
        clear he
        have HE := Lib.hid (mvL_in HSV.out)
        go_wp2_with (at_builtin; refine wpList_append_own _ rfl (.tmp 58) (.tmp 60) 32 rfl (w.heap.size + 2) 3 i0 _ 1 8 Tryz.underlying32 hi hz0 hz1 hz2 rfl (by decide) _ _ _ rfl (HOL.out.alloc _) ⟨w2.heap.size, 0, none⟩ 1 1 [.int .i64 ((k : Int) + 1)] rfl rfl ?c1 ?c2 ?c3 ?c4 ?c5 ?_; rotate_left 5; intro v' w9 hown9 hgrow9 _)
        case c1 => exact World.news_of_block (cs := #[.int .i64 ((k : Int) + 1)]) (t := 3) (fr := (0, 0)) (heap_alloc_new w2 _)
        case c2 => simp [Value.oneCell']
        case c3 => unfold maxLen; omega
        case c4 => omega
        case c5 => have := HBL.out.size; have := HBXL.out.lt; have := HBYL.out.lt; simp; omega
        go_roundw
        case rel =>
          refine ⟨k + 1, by omega, by go_num, ?_, Below.appended HBL.out ((Below.refl _ _).alloc (Nat.le_refl _) _) (own_down HOL.out (by omega)) hgrow9, (HBXL.out.alloc _).kept hgrow9 ?_, (HBYL.out.alloc _).kept hgrow9 ?_⟩
          · rw [HE.out, List.map_append, List.length_append]
            exact hown9
          · intro e2
            have := own_base HOL.out e2.symm
            omega
          · intro e2
            have := own_base HOL.out e2.symm
            omega
        case measure => simp [intOf] <;> omega
    · obtain rfl : k = 3 := by omega
      go_wp2_with fail
      go_ret
      exact ⟨A0, c0, rfl, HB.out, Rd.of_own HO.out, hcc.1⟩

end Go.Proofs.YtaomfjgleddpdaaGreat
