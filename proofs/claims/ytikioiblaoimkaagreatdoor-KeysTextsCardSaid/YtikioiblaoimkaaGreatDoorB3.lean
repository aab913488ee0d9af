import Derived.Test.YtikioiblaoimkaaGreatDoorA5
set_option linter.unusedVariables false
set_option linter.unusedSimpArgs false

/- slices.Equal at numbers; who may be, as a list; view.same. -/
namespace Go.Proofs.YtikioiblaoimkaaGreatDoor
open Go.RowKit
attribute [local go_sem] Oper.semAt_some

def insS (x : Int) : List Int → List Int
  | [] => [x]
  | a :: l => if x < a then x :: a :: l else if x = a then a :: l else a :: insS x l
theorem insS_mem {x a : Int} {l : List Int} : a ∈ insS x l ↔ a = x ∨ a ∈ l := by
  induction l with
  | nil => simp [insS]
  | cons b l ih =>
    unfold insS
    split
    · simp
    · split
      · rename_i h; subst h; simp
      · simp only [List.mem_cons, ih]
        constructor
        · rintro (h | h | h)
          · exact .inr (.inl h)
          · exact .inl h
          · exact .inr (.inr h)
        · rintro (h | h | h)
          · exact .inr (.inl h)
          · exact .inl h
          · exact .inr (.inr h)
theorem insS_ss {x : Int} {l : List Int} (h : SS l) : SS (insS x l) := by
  induction l with
  | nil => simp [insS, SS]
  | cons b l ih =>
    have hb := (List.pairwise_cons.1 h).1
    have hl := (List.pairwise_cons.1 h).2
    unfold insS
    split
    · refine List.pairwise_cons.2 ⟨fun a ha => ?_, h⟩
      rcases List.mem_cons.1 ha with rfl | ha
      · assumption
      · have := hb a ha; omega
    · split
      · exact h
      · refine List.pairwise_cons.2 ⟨fun a ha => ?_, ih hl⟩
        rcases insS_mem.1 ha with rfl | ha
        · omega
        · exact hb a ha
/-- The numbers of a list, rising, each but once. -/
def srtL (l : List Int) : List Int := l.foldr insS []
theorem srtL_mem {a : Int} {l : List Int} : a ∈ srtL l ↔ a ∈ l := by
  induction l with
  | nil => simp [srtL]
  | cons b l ih => simp only [srtL, List.foldr_cons] at ih ⊢; rw [insS_mem, ih, List.mem_cons]
theorem srtL_ss (l : List Int) : SS (srtL l) := by
  induction l with
  | nil => exact List.Pairwise.nil
  | cons b l ih => exact insS_ss ih

def whoE (ds : List Deed) (lock day kn : Int) : Int := if whoErr ds lock day kn = 0 then (if clF (cntDs kn ds) then 13 else 0) else whoErr ds lock day kn
def whoL (q : St → Int) (ds : List Deed) (lock day kn : Int) : List Int := if whoE ds lock day kn = 0 then srtL ((stsL (thr (cntDs kn ds) (lock, 0)) day).map fun x => q x.2) else []
def RetL (xs : List Int) (err : Int) (w : World) (e : Ending) (w' : World) : Prop :=
  ∃ A c, e = .returned (.tuple #[.slice A xs.length c, .int .i64 err]) ∧ Below w.heap.size w w' ∧ Is w' w'.heap.size A xs.length xs ∧ xs.length ≤ c

theorem RetWho.retL {q : St → Int} {ds : List Deed} {lock day kn : Int} {w w' : World} {e : Ending} (h : RetWho q ds lock day kn w e w') : RetL (whoL q ds lock day kn) (whoE ds lock day kn) w e w' := by
  obtain ⟨hb, h1, h2, h3⟩ := h
  by_cases h0 : whoErr ds lock day kn = 0
  · cases hc : clF (cntDs kn ds) with
    | true =>
      have hE : whoE ds lock day kn = 13 := by rw [whoE, if_pos h0, if_pos hc]
      have hL : whoL q ds lock day kn = [] := by rw [whoL, hE]; rfl
      rw [hE, hL]
      exact ⟨none, 0, h2 h0 hc, hb, Rd.nil_, Nat.le_refl _⟩
    | false =>
      have hE : whoE ds lock day kn = 0 := by rw [whoE, if_pos h0, hc]; rfl
      obtain ⟨xs, A, c, he, hs, hm, hi, hc'⟩ := h3 h0 hc
      have hL : whoL q ds lock day kn = xs := by
        rw [whoL, if_pos hE]
        refine SS.ext (srtL_ss _) hs fun a => ?_
        rw [srtL_mem, hm, List.mem_map]
      rw [hE, hL]
      exact ⟨A, c, he, hb, hi, hc'⟩
  · have hE : whoE ds lock day kn = whoErr ds lock day kn := by rw [whoE, if_neg h0]
    have hL : whoL q ds lock day kn = [] := by rw [whoL, hE, if_neg h0]
    rw [hE, hL]
    exact ⟨none, 0, h1 h0, hb, Rd.nil_, Nat.le_refl _⟩

theorem insS_len (x : Int) (l : List Int) : (insS x l).length ≤ l.length + 1 := by
  induction l with
  | nil => simp [insS]
  | cons b l ih => unfold insS; split <;> (try split) <;> simp <;> omega
theorem srtL_len (l : List Int) : (srtL l).length ≤ l.length := by
  induction l with
  | nil => exact Nat.le_refl _
  | cons b l ih => exact Nat.le_trans (insS_len _ _) (Nat.succ_le_succ ih)
theorem whoL_len (q : St → Int) (ds : List Deed) (lock day kn : Int) : (whoL q ds lock day kn).length ≤ 61 := by
  unfold whoL
  by_cases h0 : whoErr ds lock day kn = 0
  · have h60 := check_60 (who_eq h0).1
    have h1 := cntDs_len kn ds
    have h2 := thr_len (cntDs kn ds) (lock, 0)
    have h3 := stsL_len (thr (cntDs kn ds) (lock, 0)) day
    have h4 := srtL_len ((stsL (thr (cntDs kn ds) (lock, 0)) day).map fun x => q x.2)
    rw [List.length_map] at h4
    split
    · omega
    · simp
  · have hE : ¬ whoE ds lock day kn = 0 := by rw [whoE, if_neg h0]; exact h0
    rw [if_neg hE]
    simp

theorem p_HoldersL (ds : List Deed) (lock day kn err : Int) (xs : List Int) (A : Option Addr) (n c : Nat) (w : World) (hn : n ≤ 9223372036854775807) (hd : Ds w w.heap.size A n ds) (hx : whoL (·.holder) ds lock day kn = xs) (he : whoE ds lock day kn = err) :
    Calls Tryz.prog 22 #[.slice A n c, .int .i64 lock, .int .i64 day, .int .i64 kn] w (RetL xs err w) := hx ▸ he ▸ (p_Holders ds lock day kn A n c w hn hd).mono fun _ _ h => h.retL
theorem p_HandsL (ds : List Deed) (lock day kn err : Int) (xs : List Int) (A : Option Addr) (n c : Nat) (w : World) (hn : n ≤ 9223372036854775807) (hd : Ds w w.heap.size A n ds) (hx : whoL (·.hand) ds lock day kn = xs) (he : whoE ds lock day kn = err) :
    Calls Tryz.prog 23 #[.slice A n c, .int .i64 lock, .int .i64 day, .int .i64 kn] w (RetL xs err w) := hx ▸ he ▸ (p_Hands ds lock day kn A n c w hn hd).mono fun _ _ h => h.retL

theorem take_eq_succ {xs ys : List Int} {k : Nat} {x y : Int} (hx : xs[k]? = some x) (hy : ys[k]? = some y) (h : xs.take k = ys.take k) : xs.take (k + 1) = ys.take (k + 1) ↔ x = y := by
  rw [take_snoc_some hx, take_snoc_some hy, h]
  simp

set_option maxHeartbeats 1000000 in
theorem l_equal (xs ys : List Int) (v : Bool) (A B : Option Addr) (n c m d : Nat) (w : World) (hn : n ≤ 1000000) (hm : m ≤ 1000000) (hx : Is w w.heap.size A n xs) (hy : Is w w.heap.size B m ys) (hv : decide (xs = ys) = v) :
    Calls Tryz.prog 132 #[.slice A n c, .slice B m d] w fun e w' => e = .returned (.bool v) ∧ Below w.heap.size w w' := by
  have HX := Lib.hid hx
  have HY := Lib.hid hy
  have HLX := Lib.hid hx.len
  have HLY := Lib.hid hy.len
  have HV := Lib.hid hv
  clear hx hy hv
  by_cases hnm : n = m
  · subst hnm
    go_enter Tryz.func132, Tryz.ntmps132
    go_wp2
    go_loopw [13] (fun i wr => ∃ k : Nat, k ≤ n ∧ i = .int .i64 k ∧ xs.take k = ys.take k ∧ Below w.heap.size w wr) (fun i _ => n - (intOf i).toNat)
    case atStart => exact ⟨0, by omega, rfl, by simp, Below.refl _ _⟩
    case round =>
      obtain ⟨k, hk, rfl, hpre, hB⟩ := hrel
      have HP := Lib.hid hpre
      clear hpre
      have hs0 : w.heap.size ≤ wr.heap.size := hB.size
      by_cases hlt : k < n
      · obtain ⟨b, o, x, rfl, hb, hxk, hcx⟩ := (HX.out.ext hB (Nat.le_refl _)).at_ hlt
        obtain ⟨b', o', y, rfl, hb', hyk, hcy⟩ := (HY.out.ext hB (Nat.le_refl _)).at_ hlt
        have HXK := Lib.hid hxk
        have HYK := Lib.hid hyk
        clear hxk hyk
        have hbr : b < wr.heap.size := by omega
        have hbr' : b' < wr.heap.size := by omega
        have HS := Lib.hid (take_eq_succ HXK.out HYK.out HP.out)
        by_cases hxy : x = y
        · have hb1 : (x != y) = false := by simp [hxy]
          have HXY := Lib.hid hxy
          clear hxy
          go_wp2_with fail
          (refine wp_region_grow (by kernel_rfl) (by kernel_rfl) ?_; (repeat (go_big_quiet_step ((first | fail)))); refine wpQuiet_nil ?_; rintro w1 ⟨⟨_, hb1⟩, rfl⟩; (try dsimp only at hb1 ⊢); obtain ⟨hc1, hf1⟩ := bcell hb1)
          go_wp2_with fail
          go_roundw
          case rel => exact ⟨k + 1, by omega, by go_num, HS.out.2 HXY.out, Below.then_ hB hb1⟩
          case measure => simp [intOf]; omega
        · have hb1 : (x != y) = true := by simp [hxy]
          have HXY := Lib.hid hxy
          clear hxy
          go_wp2_with fail
          (refine wp_region_grow (by kernel_rfl) (by kernel_rfl) ?_; (repeat (go_big_quiet_step ((first | fail)))); refine wpQuiet_nil ?_; rintro w1 ⟨⟨_, hb1⟩, rfl⟩; (try dsimp only at hb1 ⊢); obtain ⟨hc1, hf1⟩ := bcell hb1)
          go_wp2_with fail
          go_ret
          refine ⟨ret_bool ?_, Below.then_ hB hb1⟩
          rw [← HV.out]
          symm
          apply decide_eq_false
          intro e
          exact HXY.out (HS.out.1 (by rw [e]))
      · have hkn : k = n := by omega
        have HKn := Lib.hid hkn
        clear hkn
        go_wp2
        go_ret
        refine ⟨ret_bool ?_, hB⟩
        rw [← HV.out]
        symm
        apply decide_eq_true
        have h1 := HP.out
        rwa [List.take_of_length_le (by rw [HLX.out, HKn.out]; exact Nat.le_refl _), List.take_of_length_le (by rw [HLY.out, HKn.out]; exact Nat.le_refl _)] at h1
  · have h1 : ((n : Int) != (m : Int)) = true := by simp; omega
    go_enter Tryz.func132, Tryz.ntmps132
    go_wp2
    go_ret
    refine ⟨ret_bool ?_, Below.refl _ _⟩
    rw [← HV.out]
    symm
    apply decide_eq_false
    intro e
    exact hnm (by rw [← HLX.out, ← HLY.out, e])

end Go.Proofs.YtikioiblaoimkaaGreatDoor

/- view.same: whether two views tell the same of a lock. -/
namespace Go.Proofs.YtikioiblaoimkaaGreatDoor
open Go.RowKit
attribute [local go_sem] Oper.semAt_some

def askS (k : Nat) : St → Int := if k = 0 then (·.holder) else (·.hand)
def eqA (ds es : List Deed) (kn km lock day : Int) (k : Nat) : Bool := decide (whoE ds lock day kn = whoE es lock day km) && decide (whoL (askS k) ds lock day kn = whoL (askS k) es lock day km)
/-- Two views tell the same of a lock: who may hold its key, and in whose hand it may be. -/
def sameV (ds es : List Deed) (kn km lock day : Int) : Bool := (List.range 2).all (eqA ds es kn km lock day)
theorem sameV_no {ds es : List Deed} {kn km lock day : Int} {k : Nat} (hk : k < 2) (h : eqA ds es kn km lock day k = false) : sameV ds es kn km lock day = false := by
  unfold sameV
  rw [List.all_eq_false]
  exact ⟨k, by simpa using hk, by simp [h]⟩
theorem eqA_succ {ds es : List Deed} {kn km lock day : Int} {k : Nat} (h : (List.range k).all (eqA ds es kn km lock day) = true) (hk : eqA ds es kn km lock day k = true) : (List.range (k + 1)).all (eqA ds es kn km lock day) = true := by
  rw [List.range_succ, List.all_append, h, List.all_cons, hk]
  rfl

set_option maxHeartbeats 2000000 in
theorem p_same (ds es : List Deed) (kn km lock day : Int) (v : Bool) (A B : Option Addr) (n c m d : Nat) (w : World) (hn : n ≤ 9223372036854775807) (hm : m ≤ 9223372036854775807) (hd : Ds w w.heap.size A n ds) (he : Ds w w.heap.size B m es) (hv : sameV ds es kn km lock day = v) :
    Calls Tryz.prog 101 #[.agg #[.slice A n c, .int .i64 kn], .agg #[.slice B m d, .int .i64 km], .int .i64 lock, .int .i64 day] w fun e w' => e = .returned (.bool v) ∧ Below w.heap.size w w' := by
  have HX := Lib.hid hd
  have HY := Lib.hid he
  have HV := Lib.hid hv
  clear hd he hv
  go_enter Tryz.func101, Tryz.ntmps101
  go_wp2
  go_loopw [17] (fun i wr => ∃ k : Nat, k ≤ 2 ∧ i = .int .i64 k ∧ (List.range k).all (eqA ds es kn km lock day) = true ∧ Below w.heap.size w wr ∧ BoxA wr w.heap.size 120 #[.slice A n c, .int .i64 kn] ∧ BoxA wr (w.heap.size + 1) 120 #[.slice B m d, .int .i64 km] ∧ BoxA wr (w.heap.size + 2) 59 #[.func (.func 22) #[] #[], .func (.func 23) #[] #[]]) (fun i _ => 2 - (intOf i).toNat)
  case atStart => exact ⟨0, by omega, rfl, rfl, by (repeat' (first | with_reducible exact Below.refl _ _ | with_reducible assumption | with_reducible refine Below.alloc ?_ ?_ _ | with_reducible refine Below.setCell ?_ ?_ _ | with_reducible refine Below.drew ?_ | (simp; done) | (simp; omega) | omega)), ((BoxA.new w _ _).alloc _).alloc _, by have h := (BoxA.new (w.alloc (.cells #[.slice A n c, .int .i64 kn] 120)) 120 #[.slice B m d, .int .i64 km]).alloc (.cells #[.func (.func 22) #[] #[], .func (.func 23) #[] #[]] 59); simpa using h, by have h := BoxA.new ((w.alloc (.cells #[.slice A n c, .int .i64 kn] 120)).alloc (.cells #[.slice B m d, .int .i64 km] 120)) 59 #[.func (.func 22) #[] #[], .func (.func 23) #[] #[]]; simpa using h⟩
  case round =>
    obtain ⟨k, hk, rfl, hpre, hB, bX, bY, bF⟩ := hrel
    have HP := Lib.hid hpre
    have HB := Lib.hid hB
    clear hpre
    have hs0 : w.heap.size ≤ wr.heap.size := hB.size
    have x0 := bX.cell 0
    have x1 := bX.cell 1
    have y0 := bY.cell 0
    have y1 := bY.cell 1
    have f0 := bF.cell 0
    have f1 := bF.cell 1
    have HBX := Lib.hid bX
    have HBY := Lib.hid bY
    have HBF := Lib.hid bF
    clear bX bY bF
    have hcs : k = 0 ∨ k = 1 ∨ k = 2 := by omega
    obtain ⟨e1, he1⟩ : ∃ e, whoE ds lock day kn = e := ⟨_, rfl⟩
    obtain ⟨e2, he2⟩ : ∃ e, whoE es lock day km = e := ⟨_, rfl⟩
    obtain ⟨xs, hxs⟩ : ∃ e, whoL (askS k) ds lock day kn = e := ⟨_, rfl⟩
    obtain ⟨ys, hys⟩ : ∃ e, whoL (askS k) es lock day km = e := ⟨_, rfl⟩
    have HEA : Hid (eqA ds es kn km lock day k = (decide (e1 = e2) && decide (xs = ys))) := by show _ = _; unfold eqA; rw [he1, he2, hxs, hys]
    have HXL : Hid (xs.length ≤ 61) := by show _ ≤ _; rw [← hxs]; exact whoL_len _ _ _ _ _
    have HYL : Hid (ys.length ≤ 61) := by show _ ≤ _; rw [← hys]; exact whoL_len _ _ _ _ _
    have HE1 := Lib.hid he1
    have HE2 := Lib.hid he2
    have HXS := Lib.hid hxs
    have HYS := Lib.hid hys
    clear he1 he2 hxs hys
    rcases hcs with rfl | rfl | rfl
    · by_cases hee : e1 = e2
      · have hE : (e1 != e2) = false := by simp [hee]
        have HEE := Lib.hid hee
        clear hee
        by_cases hxy : xs = ys
        · have HXY := Lib.hid hxy
          clear hxy
          go_wp2_with fail
          refine (p_HoldersL ds lock day kn e1 xs _ _ _ _ hn (HX.out.now (by (repeat' (first | with_reducible exact Below.refl _ _ | with_reducible assumption | with_reducible refine Below.alloc ?_ ?_ _ | with_reducible refine Below.setCell ?_ ?_ _ | with_reducible refine Below.drew ?_ | (simp; done) | (simp; omega) | omega)))) HXS.out HE1.out).mono ?_
          rintro e w1 ⟨A1, c1, rfl, hb1, hi1, hc1⟩
          have HI1 := Lib.hid hi1
          have y0 := (HBY.out.ext hb1).cell 0
          have y1 := (HBY.out.ext hb1).cell 1
          have HB1 := Lib.hid (Below.then_ HB.out hb1)
          clear hi1
          go_wp2_with fail
          refine (p_HoldersL es lock day km e2 ys _ _ _ _ hm (HY.out.now HB1.out) HYS.out HE2.out).mono ?_
          rintro e w2 ⟨A2, c2, rfl, hb2, hi2, hc2⟩
          have HI2 := Lib.hid hi2
          have HB2 := Lib.hid (Below.then_ HB1.out hb2)
          clear hi2
          go_wp2_with fail
          refine (l_equal xs ys true _ _ _ _ _ _ _ (by have := HXL.out; omega) (by have := HYL.out; omega) (HI1.out.now hb2) HI2.out (by simp [HXY.out])).mono ?_
          rintro e w3 ⟨rfl, hb3⟩
          go_wp2_with fail
          go_roundw
          case rel => exact ⟨1, by omega, by go_num, eqA_succ HP.out (by rw [HEA.out]; simp [HEE.out, HXY.out]), Below.then_ HB2.out hb3, ((HBX.out.ext hb1).ext hb2).ext hb3, ((HBY.out.ext hb1).ext hb2).ext hb3, ((HBF.out.ext hb1).ext hb2).ext hb3⟩
          case measure => simp [intOf]
        · have HXY := Lib.hid hxy
          clear hxy
          go_wp2_with fail
          refine (p_HoldersL ds lock day kn e1 xs _ _ _ _ hn (HX.out.now (by (repeat' (first | with_reducible exact Below.refl _ _ | with_reducible assumption | with_reducible refine Below.alloc ?_ ?_ _ | with_reducible refine Below.setCell ?_ ?_ _ | with_reducible refine Below.drew ?_ | (simp; done) | (simp; omega) | omega)))) HXS.out HE1.out).mono ?_
          rintro e w1 ⟨A1, c1, rfl, hb1, hi1, hc1⟩
          have HI1 := Lib.hid hi1
          have y0 := (HBY.out.ext hb1).cell 0
          have y1 := (HBY.out.ext hb1).cell 1
          have HB1 := Lib.hid (Below.then_ HB.out hb1)
          clear hi1
          go_wp2_with fail
          refine (p_HoldersL es lock day km e2 ys _ _ _ _ hm (HY.out.now HB1.out) HYS.out HE2.out).mono ?_
          rintro e w2 ⟨A2, c2, rfl, hb2, hi2, hc2⟩
          have HI2 := Lib.hid hi2
          have HB2 := Lib.hid (Below.then_ HB1.out hb2)
          clear hi2
          go_wp2_with fail
          refine (l_equal xs ys false _ _ _ _ _ _ _ (by have := HXL.out; omega) (by have := HYL.out; omega) (HI1.out.now hb2) HI2.out (by simp [HXY.out])).mono ?_
          rintro e w3 ⟨rfl, hb3⟩
          go_wp2_with fail
          go_ret
          exact ⟨ret_bool ((sameV_no (k := 0) (by omega) (by rw [HEA.out]; simp [HXY.out])).symm.trans HV.out), Below.then_ HB2.out hb3⟩
      · have hE : (e1 != e2) = true := by simp [hee]
        have HEE := Lib.hid hee
        clear hee
        go_wp2_with fail
        refine (p_HoldersL ds lock day kn e1 xs _ _ _ _ hn (HX.out.now (by (repeat' (first | with_reducible exact Below.refl _ _ | with_reducible assumption | with_reducible refine Below.alloc ?_ ?_ _ | with_reducible refine Below.setCell ?_ ?_ _ | with_reducible refine Below.drew ?_ | (simp; done) | (simp; omega) | omega)))) HXS.out HE1.out).mono ?_
        rintro e w1 ⟨A1, c1, rfl, hb1, hi1, hc1⟩
        have HI1 := Lib.hid hi1
        have y0 := (HBY.out.ext hb1).cell 0
        have y1 := (HBY.out.ext hb1).cell 1
        have HB1 := Lib.hid (Below.then_ HB.out hb1)
        clear hi1
        go_wp2_with fail
        refine (p_HoldersL es lock day km e2 ys _ _ _ _ hm (HY.out.now HB1.out) HYS.out HE2.out).mono ?_
        rintro e w2 ⟨A2, c2, rfl, hb2, hi2, hc2⟩
        have HI2 := Lib.hid hi2
        have HB2 := Lib.hid (Below.then_ HB1.out hb2)
        clear hi2
        go_wp2_with fail
        go_ret
        exact ⟨ret_bool ((sameV_no (k := 0) (by omega) (by rw [HEA.out]; simp [HEE.out])).symm.trans HV.out), HB2.out⟩
    · by_cases hee : e1 = e2
      · have hE : (e1 != e2) = false := by simp [hee]
        have HEE := Lib.hid hee
        clear hee
        by_cases hxy : xs = ys
        · have HXY := Lib.hid hxy
          clear hxy
          go_wp2_with fail
          refine (p_HandsL ds lock day kn e1 xs _ _ _ _ hn (HX.out.now (by (repeat' (first | with_reducible exact Below.refl _ _ | with_reducible assumption | with_reducible refine Below.alloc ?_ ?_ _ | with_reducible refine Below.setCell ?_ ?_ _ | with_reducible refine Below.drew ?_ | (simp; done) | (simp; omega) | omega)))) HXS.out HE1.out).mono ?_
          rintro e w1 ⟨A1, c1, rfl, hb1, hi1, hc1⟩
          have HI1 := Lib.hid hi1
          have y0 := (HBY.out.ext hb1).cell 0
          have y1 := (HBY.out.ext hb1).cell 1
          have HB1 := Lib.hid (Below.then_ HB.out hb1)
          clear hi1
          go_wp2_with fail
          refine (p_HandsL es lock day km e2 ys _ _ _ _ hm (HY.out.now HB1.out) HYS.out HE2.out).mono ?_
          rintro e w2 ⟨A2, c2, rfl, hb2, hi2, hc2⟩
          have HI2 := Lib.hid hi2
          have HB2 := Lib.hid (Below.then_ HB1.out hb2)
          clear hi2
          go_wp2_with fail
          refine (l_equal xs ys true _ _ _ _ _ _ _ (by have := HXL.out; omega) (by have := HYL.out; omega) (HI1.out.now hb2) HI2.out (by simp [HXY.out])).mono ?_
          rintro e w3 ⟨rfl, hb3⟩
          go_wp2_with fail
          go_roundw
          case rel => exact ⟨2, by omega, by go_num, eqA_succ HP.out (by rw [HEA.out]; simp [HEE.out, HXY.out]), Below.then_ HB2.out hb3, ((HBX.out.ext hb1).ext hb2).ext hb3, ((HBY.out.ext hb1).ext hb2).ext hb3, ((HBF.out.ext hb1).ext hb2).ext hb3⟩
          case measure => simp [intOf]
        · have HXY := Lib.hid hxy
          clear hxy
          go_wp2_with fail
          refine (p_HandsL ds lock day kn e1 xs _ _ _ _ hn (HX.out.now (by (repeat' (first | with_reducible exact Below.refl _ _ | with_reducible assumption | with_reducible refine Below.alloc ?_ ?_ _ | with_reducible refine Below.setCell ?_ ?_ _ | with_reducible refine Below.drew ?_ | (simp; done) | (simp; omega) | omega)))) HXS.out HE1.out).mono ?_
          rintro e w1 ⟨A1, c1, rfl, hb1, hi1, hc1⟩
          have HI1 := Lib.hid hi1
          have y0 := (HBY.out.ext hb1).cell 0
          have y1 := (HBY.out.ext hb1).cell 1
          have HB1 := Lib.hid (Below.then_ HB.out hb1)
          clear hi1
          go_wp2_with fail
          refine (p_HandsL es lock day km e2 ys _ _ _ _ hm (HY.out.now HB1.out) HYS.out HE2.out).mono ?_
          rintro e w2 ⟨A2, c2, rfl, hb2, hi2, hc2⟩
          have HI2 := Lib.hid hi2
          have HB2 := Lib.hid (Below.then_ HB1.out hb2)
          clear hi2
          go_wp2_with fail
          refine (l_equal xs ys false _ _ _ _ _ _ _ (by have := HXL.out; omega) (by have := HYL.out; omega) (HI1.out.now hb2) HI2.out (by simp [HXY.out])).mono ?_
          rintro e w3 ⟨rfl, hb3⟩
          go_wp2_with fail
          go_ret
          exact ⟨ret_bool ((sameV_no (k := 1) (by omega) (by rw [HEA.out]; simp [HXY.out])).symm.trans HV.out), Below.then_ HB2.out hb3⟩
      · have hE : (e1 != e2) = true := by simp [hee]
        have HEE := Lib.hid hee
        clear hee
        go_wp2_with fail
        refine (p_HandsL ds lock day kn e1 xs _ _ _ _ hn (HX.out.now (by (repeat' (first | with_reducible exact Below.refl _ _ | with_reducible assumption | with_reducible refine Below.alloc ?_ ?_ _ | with_reducible refine Below.setCell ?_ ?_ _ | with_reducible refine Below.drew ?_ | (simp; done) | (simp; omega) | omega)))) HXS.out HE1.out).mono ?_
        rintro e w1 ⟨A1, c1, rfl, hb1, hi1, hc1⟩
        have HI1 := Lib.hid hi1
        have y0 := (HBY.out.ext hb1).cell 0
        have y1 := (HBY.out.ext hb1).cell 1
        have HB1 := Lib.hid (Below.then_ HB.out hb1)
        clear hi1
        go_wp2_with fail
        refine (p_HandsL es lock day km e2 ys _ _ _ _ hm (HY.out.now HB1.out) HYS.out HE2.out).mono ?_
        rintro e w2 ⟨A2, c2, rfl, hb2, hi2, hc2⟩
        have HI2 := Lib.hid hi2
        have HB2 := Lib.hid (Below.then_ HB1.out hb2)
        clear hi2
        go_wp2_with fail
        go_ret
        exact ⟨ret_bool ((sameV_no (k := 1) (by omega) (by rw [HEA.out]; simp [HEE.out])).symm.trans HV.out), HB2.out⟩
    · go_wp2
      go_ret
      exact ⟨ret_bool (HP.out.symm.trans HV.out), hB⟩

end Go.Proofs.YtikioiblaoimkaaGreatDoor

/- view.differing. -/
namespace Go.Proofs.YtikioiblaoimkaaGreatDoor
open Go.RowKit
attribute [local go_sem] Oper.semAt_some

theorem own_ext {W W' : World} {base size n : Nat} {e : TypeId} {v : Value} {xs : List Value} (h : W.ownsRow base e size v n xs) (hb : Below W.heap.size W W') : W'.ownsRow base e size v n xs :=
  own_keep h fun b hb' => hb.block b (by obtain ⟨cur, hh⟩ := own_block h hb'; exact block_lt hh)
/-- The locks of which two views tell differently. -/
def mvL (ds es : List Deed) (kn km day : Int) (k : Nat) : List Int := ((List.range k).filter fun (i : Nat) => !sameV ds es kn km ((i : Int) + 1) day).map fun (i : Nat) => (i : Int) + 1
theorem mvL_len (ds es : List Deed) (kn km day : Int) (k : Nat) : (mvL ds es kn km day k).length ≤ k := by
  unfold mvL
  rw [List.length_map]
  exact Nat.le_trans (List.length_filter_le _ _) (by simp)
theorem mvL_in {ds es : List Deed} {kn km day : Int} {k : Nat} (h : sameV ds es kn km ((k : Int) + 1) day = false) : mvL ds es kn km day (k + 1) = mvL ds es kn km day k ++ [(k : Int) + 1] := by
  unfold mvL
  rw [List.range_succ, List.filter_append]
  simp [h]
theorem mvL_out {ds es : List Deed} {kn km day : Int} {k : Nat} (h : sameV ds es kn km ((k : Int) + 1) day = true) : mvL ds es kn km day (k + 1) = mvL ds es kn km day k := by
  unfold mvL
  rw [List.range_succ, List.filter_append]
  simp [h]
def RetI (xs : List Int) (w : World) (e : Ending) (w' : World) : Prop :=
  ∃ A c, e = .returned (.slice A xs.length c) ∧ Below w.heap.size w w' ∧ Is w' w'.heap.size A xs.length xs ∧ xs.length ≤ c

set_option maxRecDepth 100000 in
set_option maxHeartbeats 2000000 in
theorem p_differing (ds es : List Deed) (kn km day : Int) (A B : Option Addr) (n c m d : Nat) (w : World) (hn : n ≤ 9223372036854775807) (hm : m ≤ 9223372036854775807) (hd : Ds w w.heap.size A n ds) (he : Ds w w.heap.size B m es) :
    Calls Tryz.prog 66 #[.agg #[.slice A n c, .int .i64 kn], .agg #[.slice B m d, .int .i64 km], .int .i64 day] w (RetI (mvL ds es kn km day 3) w) := by
  obtain ⟨i0, hi, hz0, hz1, hz2⟩ := info_parts infoInt
  have HX := Lib.hid hd
  have HY := Lib.hid he
  clear hd he
  go_enter Tryz.func66, Tryz.ntmps66
  go_wp2
  go_loopw [7, 9] (fun v i wr => ∃ k : Nat, k ≤ 3 ∧ i = .int .i64 k ∧ wr.ownsRow (w.heap.size + 2) 3 1 v (mvL ds es kn km day k).length ((mvL ds es kn km day k).map fun x => .int .i64 x) ∧ Below w.heap.size w wr ∧ BoxA wr w.heap.size 120 #[.slice A n c, .int .i64 kn] ∧ BoxA wr (w.heap.size + 1) 120 #[.slice B m d, .int .i64 km]) (fun _ i _ => 3 - (intOf i).toNat)
  case atStart => exact ⟨0, by omega, rfl, World.ownsRow_nil _ _ _ _, by (repeat' (first | with_reducible exact Below.refl _ _ | with_reducible assumption | with_reducible refine Below.alloc ?_ ?_ _ | with_reducible refine Below.setCell ?_ ?_ _ | with_reducible refine Below.drew ?_ | (simp; done) | (simp; omega) | omega)), (BoxA.new w _ _).alloc _, by have h := (BoxA.new (w.alloc (.cells #[.slice A n c, .int .i64 kn] 120)) 120 #[.slice B m d, .int .i64 km]); simpa using h⟩
  case round =>
    obtain ⟨k, hk, rfl, hown, hB, bX, bY⟩ := hrel
    have hs0 : w.heap.size + 1 < wr.heap.size := bY.lt
    have HB := Lib.hid hB
    have x0 := bX.cell 0
    have x1 := bX.cell 1
    have y0 := bY.cell 0
    have y1 := bY.cell 1
    have HBX := Lib.hid bX
    have HBY := Lib.hid bY
    clear bX bY
    by_cases hlt : k < 3
    · have hml := mvL_len ds es kn km day k
      cases hs : sameV ds es kn km ((k : Int) + 1) day with
      | true =>
        have HE := Lib.hid (mvL_out hs)
        have HS := Lib.hid hs
        have HO := Lib.hid hown
        clear hs hown
        go_wp2_with fail
        refine (p_same ds es kn km ((k : Int) + 1) day true _ _ _ _ _ _ _ hn hm (HX.out.now HB.out) (HY.out.now HB.out) HS.out).mono ?_
        rintro e w1 ⟨rfl, hb1⟩
        go_wp2_with fail
        go_roundw
        case rel => exact ⟨k + 1, by omega, by go_num, by rw [HE.out]; exact own_ext HO.out hb1, Below.then_ HB.out hb1, HBX.out.ext hb1, HBY.out.ext hb1⟩
        case measure => simp [intOf]; omega
      | false =>
        have HE := Lib.hid (mvL_in hs)
        have HS := Lib.hid hs
        have HO := Lib.hid hown
        clear hs
        go_wp2_with fail
        refine (p_same ds es kn km ((k : Int) + 1) day false _ _ _ _ _ _ _ hn hm (HX.out.now HB.out) (HY.out.now HB.out) HS.out).mono ?_
        rintro e w1 ⟨rfl, hb1⟩
        have hs1 := hb1.size
        have hown1 := own_ext hown hb1
        have HOW := Lib.hid hown1
        clear hown
        go_wp2_with (at_builtin; refine wpList_append_own _ rfl (.tmp 19) (.tmp 22) 49 rfl (w.heap.size + 2) 3 i0 _ 1 8 Tryz.underlying49 hi hz0 hz1 hz2 rfl (by decide) _ _ _ rfl (hown1.alloc _) ⟨w1.heap.size, 0, none⟩ 1 1 [.int .i64 ((k : Int) + 1)] rfl rfl ?c1 ?c2 ?c3 ?c4 ?c5 ?_; rotate_left 5; intro v' w2 hown2 hgrow2 _)
        case c1 => intro j u hj; cases j with | zero => (simp at hj; subst hj; exact (BoxA.new w1 _ _).cell 0) | succ j => simp at hj
        case c2 => simp [Value.oneCell']
        case c3 => unfold maxLen; omega
        case c4 => omega
        case c5 => simp; omega
        go_roundw
        case rel =>
          have hg : ∀ b, u7.ownBlock = some b → w.heap.size + 2 ≤ b := fun b hb => own_le HOW.out hb
          refine ⟨k + 1, by omega, by go_num, ?_, ?_, ?_, ?_⟩
          · rw [HE.out, List.map_append, List.length_append]
            exact hown2
          · exact ((Below.then_ HB.out hb1).alloc (by omega) _).grown hgrow2 (by simp; omega) fun b e => by have := hg b e; omega
          · exact ((HBX.out.ext hb1).alloc _).kept hgrow2 fun e => by have := hg _ e.symm; omega
          · exact ((HBY.out.ext hb1).alloc _).kept hgrow2 fun e => by have := hg _ e.symm; omega
        case measure => simp [intOf]; omega
    · obtain rfl : k = 3 := by omega
      obtain ⟨A1, c1, hv, hcc⟩ := own_slice hown
      subst hv
      go_wp2
      go_ret
      exact ⟨A1, c1, rfl, hB, Rd.of_own hown, hcc.1⟩

end Go.Proofs.YtikioiblaoimkaaGreatDoor
