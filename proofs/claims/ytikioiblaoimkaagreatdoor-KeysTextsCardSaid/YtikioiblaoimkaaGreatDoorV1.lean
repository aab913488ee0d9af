import Derived.Test.YtikioiblaoimkaaGreatDoorU6
import Derived.WalkLawsBesides
import Derived.Test.YtikioiblaoimkaaGreatDoorU2
import Derived.RecoverIn
set_option linter.unusedVariables false
set_option linter.unusedSimpArgs false

/- The program's deedOf: a deed of the words of a line, or a panic. -/
namespace Go.Proofs.YtikioiblaoimkaaGreatDoor
open Go.RowKit

/-- The panic that tells a line's number. -/
def wrongV (i : Nat) : List PanicEntry := [{ v := .iface 79 (.int .i64 i), recovered := false }]
set_option maxRecDepth 100000 in
set_option maxHeartbeats 4000000 in
theorem p_deedOf_bad (i : Nat) (w0 : List UInt8) (wt : List (List UInt8)) (A n : Nat) (w : World) (hs : Sts w w.heap.size (some ⟨A, 0, none⟩) n (w0 :: wt)) (hi : i ≤ 100001) (hn : n ≤ 100000) (hl : ∀ y ∈ w0 :: wt, y.length ≤ 100000) (hd : deedO (w0 :: wt) = none) :
    Calls Tryz.prog 42 #[.int .i64 i, .slice (some ⟨A, 0, none⟩) n n] w fun e w' => e = .panicked (wrongV i) ∧ Below w.heap.size w w' := by
  have hlen := hs.len
  simp only [List.length_cons] at hlen
  obtain ⟨b3, o3, y0, hbo, hb3', hy0, hcell0⟩ := hs.at_ (k := 0) (by omega)
  obtain ⟨rfl, rfl⟩ : A = b3 ∧ 0 = o3 := by simpa using hbo
  obtain rfl : y0 = w0 := by simpa using hy0.symm
  rw [Nat.add_zero] at hcell0
  obtain ⟨yb, hyb⟩ : ∃ yb : ByteArray, ⟨y0.toArray⟩ = yb := ⟨_, rfl⟩
  rw [hyb] at hcell0
  have HS := Lib.hid hs
  have HWL := Lib.hid hl
  have HD := Lib.hid hd
  have hb0 : Below w.heap.size w (w.alloc (.cells #[.int .i64 0, .int .i64 0, .int .i64 0, .int .i64 0, .int .i64 0, .int .i64 0, .int .i64 0, .int .i64 0, .int .i64 0] 41)) := (Below.refl _ _).alloc (Nat.le_refl _) _
  have HB0 := Lib.hid hb0
  have HY := Lib.hid hyb
  clear hbo hy0 hs hl hd hb0 hyb
  by_cases h1 : n = 1
  · subst h1
    have hwt0 : wt = [] := List.eq_nil_of_length_eq_zero (by omega)
    subst hwt0
    have hN : ∀ W : World, Calls Tryz.prog 83 #[.slice (some ⟨A, 0, none⟩) 0 0, .int .i64 6] W fun e w' => ∃ A1 c1, e = .returned (.tuple #[.slice A1 0 c1, .bool true]) ∧ Below W.heap.size W w' := fun W =>
      (p_Numbers_some (ws := []) (ns := []) rfl _ 0 0 W (by decide) (fun x hx => by cases hx) Sts.nil).mono fun e w' ⟨A1, c1, h1, h2, _⟩ => ⟨A1, c1, h1, h2⟩
    have HN4 := Lib.hid hN
    clear hN
    go_enter Tryz.func42, Tryz.ntmps42
    go_wp2_with (go_at_call 83; refine (HN4.out _).mono ?_; rintro e w4 ⟨A4, c4, rfl, hb4⟩; have hc04 := hb4.cell (p := ⟨A, 0, none⟩) (by simp; omega))
    all_goals exact ⟨rfl, rfl, Below.then_ HB0.out hb4⟩
  · have h2 : 1 < n := by omega
    have hst : Sts w w.heap.size (some ⟨A, 0 + 1, none⟩) wt.length wt := Sts.tail (by rw [hlen]; exact HS.out)
    have hst2 : Sts (w.alloc (.cells #[.int .i64 0, .int .i64 0, .int .i64 0, .int .i64 0, .int .i64 0, .int .i64 0, .int .i64 0, .int .i64 0, .int .i64 0] 41)) (w.alloc (.cells #[.int .i64 0, .int .i64 0, .int .i64 0, .int .i64 0, .int .i64 0, .int .i64 0, .int .i64 0, .int .i64 0, .int .i64 0] 41)).heap.size (some ⟨A, 0 + 1, none⟩) wt.length wt := hst.now HB0.out
    have hwl : ∀ y ∈ wt, y.length ≤ 100000 := fun y hy => HWL.out y (List.mem_cons_of_mem _ hy)
    have hwn : wt.length = n - 1 := by omega
    cases hno : numsO wt with
    | none =>
      have HN4 := p_Numbers_none hno (some ⟨A, 0 + 1, none⟩) wt.length (n - 1) _ (by omega) hwl hst2
      rw [hwn] at HN4
      have HN5 := Lib.hid HN4
      clear hno hst hst2 HN4
      go_enter Tryz.func42, Tryz.ntmps42
      go_wp2_with (go_at_call 83; refine HN5.out.mono ?_; rintro e w4 ⟨rfl, hb4⟩)
      all_goals exact ⟨rfl, rfl, Below.then_ HB0.out hb4⟩
    | some ns =>
      have HN4 := p_Numbers_some hno (some ⟨A, 0 + 1, none⟩) wt.length (n - 1) _ (by omega) hwl hst2
      rw [hwn] at HN4
      by_cases h9 : ns.length = 9
      · have hw0 : y0 ≠ deedW := fun e => by
          have h := HD.out
          rw [e, deedO_some hno h9] at h
          cases h
        have hty : ¬ yb.toList = [100, 101, 101, 100] := by
          rw [Lib.toList_data, ← HY.out]
          exact hw0
        have hty2 : (yb.toList == [100, 101, 101, 100]) = false := by rw [beq_eq_false_iff_ne]; exact hty
        rw [h9] at HN4
        have HN5 := Lib.hid HN4
        clear hno hst hst2 HN4 hw0
        go_enter Tryz.func42, Tryz.ntmps42
        go_wp2_with (go_at_call 83; refine HN5.out.mono ?_; rintro e w4 ⟨A4, c4, rfl, hb4, _, _, _, _⟩; have hc04 := hb4.cell (p := ⟨A, 0, none⟩) (by simp; omega))
        all_goals exact ⟨rfl, rfl, Below.then_ HB0.out hb4⟩
      · obtain ⟨m, hm⟩ : ∃ m, ns.length = m := ⟨_, rfl⟩
        rw [hm] at HN4 h9
        have hi9 : ¬ (m : Int) = 9 := by omega
        have HN5 := Lib.hid HN4
        clear hno hst hst2 hm h9 HN4
        go_enter Tryz.func42, Tryz.ntmps42
        go_wp2_with (go_at_call 83; refine HN5.out.mono ?_; rintro e w4 ⟨A4, c4, rfl, hb4, _, _, _, _⟩; have hc04 := hb4.cell (p := ⟨A, 0, none⟩) (by simp; omega))
        all_goals exact ⟨rfl, rfl, Below.then_ HB0.out hb4⟩

set_option maxRecDepth 100000 in
set_option maxHeartbeats 4000000 in
theorem p_deedOf_ok (i : Nat) (w0 : List UInt8) (wt : List (List UInt8)) (A n : Nat) (w : World) (d : Deed) (hs : Sts w w.heap.size (some ⟨A, 0, none⟩) n (w0 :: wt)) (hi : i ≤ 100001) (hn : n ≤ 100000) (hl : ∀ y ∈ w0 :: wt, y.length ≤ 100000) (hd : deedO (w0 :: wt) = some d) :
    Calls Tryz.prog 42 #[.int .i64 i, .slice (some ⟨A, 0, none⟩) n n] w fun e w' => e = .returned (.agg #[.int .i64 d.par, .int .i64 d.no, .int .i64 d.kind, .int .i64 d.lock, .int .i64 d.person, .int .i64 d.lo, .int .i64 d.hi, .int .i64 d.known, .int .i64 d.til]) ∧ Below w.heap.size w w' := by
  have hlen := hs.len
  simp only [List.length_cons] at hlen
  obtain ⟨b3, o3, y0, hbo, hb3', hy0, hcell0⟩ := hs.at_ (k := 0) (by omega)
  obtain ⟨rfl, rfl⟩ : A = b3 ∧ 0 = o3 := by simpa using hbo
  obtain rfl : y0 = w0 := by simpa using hy0.symm
  rw [Nat.add_zero] at hcell0
  obtain ⟨yb, hyb⟩ : ∃ yb : ByteArray, ⟨y0.toArray⟩ = yb := ⟨_, rfl⟩
  rw [hyb] at hcell0
  have hb0 : Below w.heap.size w (w.alloc (.cells #[.int .i64 0, .int .i64 0, .int .i64 0, .int .i64 0, .int .i64 0, .int .i64 0, .int .i64 0, .int .i64 0, .int .i64 0] 41)) := (Below.refl _ _).alloc (Nat.le_refl _) _
  have hnn : ∃ ns, numsO wt = some ns ∧ ns.length = 9 ∧ y0 = deedW ∧ mkDeed ns = d := by
    cases hno : numsO wt with
    | none => rw [deedO_none (ws := y0 :: wt) hno] at hd; cases hd
    | some ns =>
      by_cases h9 : ns.length = 9
      · by_cases hw : y0 = deedW
        · rw [hw, deedO_some hno h9] at hd
          exact ⟨ns, rfl, h9, hw, Option.some.inj hd⟩
        · rw [deedO_word hw] at hd; cases hd
      · rw [deedO_len (ws := y0 :: wt) hno h9] at hd; cases hd
  obtain ⟨ns, hno, h9, hw0, hd'⟩ := hnn
  have hty : yb.toList = [100, 101, 101, 100] := by rw [Lib.toList_data, ← hyb, hw0]; rfl
  have h2 : 1 < n := by
    rcases Nat.lt_or_ge 1 n with h | h
    · exact h
    · have : wt = [] := List.eq_nil_of_length_eq_zero (by omega)
      subst this
      have h5 : numsO [] = some [] := rfl
      rw [h5] at hno
      obtain rfl := Option.some.inj hno
      cases h9
  have hst : Sts w w.heap.size (some ⟨A, 0 + 1, none⟩) wt.length wt := Sts.tail (by rw [hlen]; exact hs)
  have hst2 : Sts (w.alloc (.cells #[.int .i64 0, .int .i64 0, .int .i64 0, .int .i64 0, .int .i64 0, .int .i64 0, .int .i64 0, .int .i64 0, .int .i64 0] 41)) (w.alloc (.cells #[.int .i64 0, .int .i64 0, .int .i64 0, .int .i64 0, .int .i64 0, .int .i64 0, .int .i64 0, .int .i64 0, .int .i64 0] 41)).heap.size (some ⟨A, 0 + 1, none⟩) wt.length wt := hst.now hb0
  have hwl : ∀ y ∈ wt, y.length ≤ 100000 := fun y hy => hl y (List.mem_cons_of_mem _ hy)
  have hwn : wt.length = n - 1 := by omega
  have HN4 := p_Numbers_some hno (some ⟨A, 0 + 1, none⟩) wt.length (n - 1) _ (by omega) hwl hst2
  rw [hwn, h9] at HN4
  have HN5 := Lib.hid HN4
  have HB0 := Lib.hid hb0
  clear hbo hy0 hs hl hd hb0 hyb hno hst hst2 HN4 hwl hw0
  go_enter Tryz.func42, Tryz.ntmps42
  go_wp2_with (go_at_call 83; refine HN5.out.mono ?_; rintro e w4 ⟨A4, c4, rfl, hb4, hr4, hc4, hm4, hob4⟩; have hc04 := hb4.cell (p := ⟨A, 0, none⟩) (by simp; omega); refine Hid.out ?_)
  refine Lib.hid ?_
  obtain ⟨b4, o4, rfl, hb4', hq⟩ := nine_cells h9 (by rw [h9]; exact hr4)
  obtain ⟨hc1, hf1⟩ := bcell hb4
  have hB4 : Below w.heap.size w w4 := Below.then_ HB0.out hb4
  have hs4 := hB4.size
  have q0 := hq 0 (by decide)
  have q1 := hq 1 (by decide)
  have q2 := hq 2 (by decide)
  have q3 := hq 3 (by decide)
  have q4 := hq 4 (by decide)
  have q5 := hq 5 (by decide)
  have q6 := hq 6 (by decide)
  have q7 := hq 7 (by decide)
  have q8 := hq 8 (by decide)
  rw [Nat.add_zero] at q0
  have e0 : ((ns.getD 0 0 : Nat) : Int) = d.par := by rw [← hd']; rfl
  have e1 : ((ns.getD 1 0 : Nat) : Int) = d.no := by rw [← hd']; rfl
  have e2 : ((ns.getD 2 0 : Nat) : Int) = d.kind := by rw [← hd']; rfl
  have e3 : ((ns.getD 3 0 : Nat) : Int) = d.lock := by rw [← hd']; rfl
  have e4 : ((ns.getD 4 0 : Nat) : Int) = d.person := by rw [← hd']; rfl
  have e5 : ((ns.getD 5 0 : Nat) : Int) = d.lo := by rw [← hd']; rfl
  have e6 : ((ns.getD 6 0 : Nat) : Int) = d.hi := by rw [← hd']; rfl
  have e7 : ((ns.getD 7 0 : Nat) : Int) = d.known := by rw [← hd']; rfl
  have e8 : ((ns.getD 8 0 : Nat) : Int) = d.til := by rw [← hd']; rfl
  rw [e0] at q0
  rw [e1] at q1
  rw [e2] at q2
  rw [e3] at q3
  rw [e4] at q4
  rw [e5] at q5
  rw [e6] at q6
  rw [e7] at q7
  rw [e8] at q8
  clear e0 e1 e2 e3 e4 e5 e6 e7 e8 hq hd' hr4 h9
  go_wp2_with fail
  have hS0 : SNine b4 o4 d w4.drew := ⟨q0, q1, q2, q3, q4, q5, q6, q7, q8⟩
  (refine wp_region_sink_lit (S := SNine b4 o4 d) 30 (by kernel_rfl) rfl rfl (by kernel_rfl) (by kernel_rfl) hS0 (fun hS => ?_); simp only [List.take_succ_cons, List.take_zero, List.reduceReplicate, Array.replicate_succ, Array.replicate_zero])
  (refine wpAnyH_take (i := 0) (v := ?_) rfl (by kernel_rfl) (by kernel_rfl) (by kernel_rfl) (fun _ _ _ h => h) (Or.inl ⟨by rfl, ?_⟩) hS ?_; rotate_left; focus (intro w2 hw2; (try dsimp only at hw2); (try unfold S6 at hw2); (try unfold S9 at hw2); (try unfold SNine at hw2); go_split_ands; go_simp; first | done | with_reducible rfl); (try simp only [Act.put, List.setIfInBounds_toArray, List.set_cons_zero, List.set_cons_succ]))
  (refine wpAnyH_take (i := 1) (v := ?_) rfl (by kernel_rfl) (by kernel_rfl) (by kernel_rfl) (fun _ _ _ h => h) (Or.inl ⟨by rfl, ?_⟩) hS ?_; rotate_left; focus (intro w2 hw2; (try dsimp only at hw2); (try unfold S6 at hw2); (try unfold S9 at hw2); (try unfold SNine at hw2); go_split_ands; go_simp; first | done | with_reducible rfl); (try simp only [Act.put, List.setIfInBounds_toArray, List.set_cons_zero, List.set_cons_succ]))
  (refine wpAnyH_take (i := 2) (v := ?_) rfl (by kernel_rfl) (by kernel_rfl) (by kernel_rfl) (fun _ _ _ h => h) (Or.inl ⟨by rfl, ?_⟩) hS ?_; rotate_left; focus (intro w2 hw2; (try dsimp only at hw2); (try unfold S6 at hw2); (try unfold S9 at hw2); (try unfold SNine at hw2); go_split_ands; go_simp; first | done | with_reducible rfl); (try simp only [Act.put, List.setIfInBounds_toArray, List.set_cons_zero, List.set_cons_succ]))
  (refine wpAnyH_take (i := 3) (v := ?_) rfl (by kernel_rfl) (by kernel_rfl) (by kernel_rfl) (fun _ _ _ h => h) (Or.inl ⟨by rfl, ?_⟩) hS ?_; rotate_left; focus (intro w2 hw2; (try dsimp only at hw2); (try unfold S6 at hw2); (try unfold S9 at hw2); (try unfold SNine at hw2); go_split_ands; go_simp; first | done | with_reducible rfl); (try simp only [Act.put, List.setIfInBounds_toArray, List.set_cons_zero, List.set_cons_succ]))
  (refine wpAnyH_take (i := 4) (v := ?_) rfl (by kernel_rfl) (by kernel_rfl) (by kernel_rfl) (fun _ _ _ h => h) (Or.inl ⟨by rfl, ?_⟩) hS ?_; rotate_left; focus (intro w2 hw2; (try dsimp only at hw2); (try unfold S6 at hw2); (try unfold S9 at hw2); (try unfold SNine at hw2); go_split_ands; go_simp; first | done | with_reducible rfl); (try simp only [Act.put, List.setIfInBounds_toArray, List.set_cons_zero, List.set_cons_succ]))
  (refine wpAnyH_take (i := 5) (v := ?_) rfl (by kernel_rfl) (by kernel_rfl) (by kernel_rfl) (fun _ _ _ h => h) (Or.inl ⟨by rfl, ?_⟩) hS ?_; rotate_left; focus (intro w2 hw2; (try dsimp only at hw2); (try unfold S6 at hw2); (try unfold S9 at hw2); (try unfold SNine at hw2); go_split_ands; go_simp; first | done | with_reducible rfl); (try simp only [Act.put, List.setIfInBounds_toArray, List.set_cons_zero, List.set_cons_succ]))
  (refine wpAnyH_take (i := 6) (v := ?_) rfl (by kernel_rfl) (by kernel_rfl) (by kernel_rfl) (fun _ _ _ h => h) (Or.inl ⟨by rfl, ?_⟩) hS ?_; rotate_left; focus (intro w2 hw2; (try dsimp only at hw2); (try unfold S6 at hw2); (try unfold S9 at hw2); (try unfold SNine at hw2); go_split_ands; go_simp; first | done | with_reducible rfl); (try simp only [Act.put, List.setIfInBounds_toArray, List.set_cons_zero, List.set_cons_succ]))
  (refine wpAnyH_take (i := 7) (v := ?_) rfl (by kernel_rfl) (by kernel_rfl) (by kernel_rfl) (fun _ _ _ h => h) (Or.inl ⟨by rfl, ?_⟩) hS ?_; rotate_left; focus (intro w2 hw2; (try dsimp only at hw2); (try unfold S6 at hw2); (try unfold S9 at hw2); (try unfold SNine at hw2); go_split_ands; go_simp; first | done | with_reducible rfl); (try simp only [Act.put, List.setIfInBounds_toArray, List.set_cons_zero, List.set_cons_succ]))
  (refine wpAnyH_take (i := 8) (v := ?_) rfl (by kernel_rfl) (by kernel_rfl) (by kernel_rfl) (fun _ _ _ h => h) (Or.inl ⟨by rfl, ?_⟩) hS ?_; rotate_left; focus (intro w2 hw2; (try dsimp only at hw2); (try unfold S6 at hw2); (try unfold S9 at hw2); (try unfold SNine at hw2); go_split_ands; go_simp; first | done | with_reducible rfl); (try simp only [Act.put, List.setIfInBounds_toArray, List.set_cons_zero, List.set_cons_succ]))
  (refine wpAnyH_take (i := 9) (v := ?_) rfl (by kernel_rfl) (by kernel_rfl) (by kernel_rfl) (fun _ _ _ h => h) (Or.inl ⟨by rfl, ?_⟩) hS ?_; rotate_left; focus (intro w2 hw2; (try dsimp only at hw2); (try unfold S6 at hw2); (try unfold S9 at hw2); (try unfold SNine at hw2); go_split_ands; go_simp; first | done | with_reducible rfl); (try simp only [Act.put, List.setIfInBounds_toArray, List.set_cons_zero, List.set_cons_succ]))
  (refine wpAnyH_take (i := 10) (v := ?_) rfl (by kernel_rfl) (by kernel_rfl) (by kernel_rfl) (fun _ _ _ h => h) (Or.inl ⟨by rfl, ?_⟩) hS ?_; rotate_left; focus (intro w2 hw2; (try dsimp only at hw2); (try unfold S6 at hw2); (try unfold S9 at hw2); (try unfold SNine at hw2); go_split_ands; go_simp; first | done | with_reducible rfl); (try simp only [Act.put, List.setIfInBounds_toArray, List.set_cons_zero, List.set_cons_succ]))
  (refine wpAnyH_take (i := 11) (v := ?_) rfl (by kernel_rfl) (by kernel_rfl) (by kernel_rfl) (fun _ _ _ h => h) (Or.inl ⟨by rfl, ?_⟩) hS ?_; rotate_left; focus (intro w2 hw2; (try dsimp only at hw2); (try unfold S6 at hw2); (try unfold S9 at hw2); (try unfold SNine at hw2); go_split_ands; go_simp; first | done | with_reducible rfl); (try simp only [Act.put, List.setIfInBounds_toArray, List.set_cons_zero, List.set_cons_succ]))
  (refine wpAnyH_take (i := 12) (v := ?_) rfl (by kernel_rfl) (by kernel_rfl) (by kernel_rfl) (fun _ _ _ h => h) (Or.inl ⟨by rfl, ?_⟩) hS ?_; rotate_left; focus (intro w2 hw2; (try dsimp only at hw2); (try unfold S6 at hw2); (try unfold S9 at hw2); (try unfold SNine at hw2); go_split_ands; go_simp; first | done | with_reducible rfl); (try simp only [Act.put, List.setIfInBounds_toArray, List.set_cons_zero, List.set_cons_succ]))
  (refine wpAnyH_take (i := 13) (v := ?_) rfl (by kernel_rfl) (by kernel_rfl) (by kernel_rfl) (fun _ _ _ h => h) (Or.inl ⟨by rfl, ?_⟩) hS ?_; rotate_left; focus (intro w2 hw2; (try dsimp only at hw2); (try unfold S6 at hw2); (try unfold S9 at hw2); (try unfold SNine at hw2); go_split_ands; go_simp; first | done | with_reducible rfl); (try simp only [Act.put, List.setIfInBounds_toArray, List.set_cons_zero, List.set_cons_succ]))
  (refine wpAnyH_take (i := 14) (v := ?_) rfl (by kernel_rfl) (by kernel_rfl) (by kernel_rfl) (fun _ _ _ h => h) (Or.inl ⟨by rfl, ?_⟩) hS ?_; rotate_left; focus (intro w2 hw2; (try dsimp only at hw2); (try unfold S6 at hw2); (try unfold S9 at hw2); (try unfold SNine at hw2); go_split_ands; go_simp; first | done | with_reducible rfl); (try simp only [Act.put, List.setIfInBounds_toArray, List.set_cons_zero, List.set_cons_succ]))
  (refine wpAnyH_take (i := 15) (v := ?_) rfl (by kernel_rfl) (by kernel_rfl) (by kernel_rfl) (fun _ _ _ h => h) (Or.inl ⟨by rfl, ?_⟩) hS ?_; rotate_left; focus (intro w2 hw2; (try dsimp only at hw2); (try unfold S6 at hw2); (try unfold S9 at hw2); (try unfold SNine at hw2); go_split_ands; go_simp; first | done | with_reducible rfl); (try simp only [Act.put, List.setIfInBounds_toArray, List.set_cons_zero, List.set_cons_succ]))
  (refine wpAnyH_take (i := 16) (v := ?_) rfl (by kernel_rfl) (by kernel_rfl) (by kernel_rfl) (fun _ _ _ h => h) (Or.inl ⟨by rfl, ?_⟩) hS ?_; rotate_left; focus (intro w2 hw2; (try dsimp only at hw2); (try unfold S6 at hw2); (try unfold S9 at hw2); (try unfold SNine at hw2); go_split_ands; go_simp; first | done | with_reducible rfl); (try simp only [Act.put, List.setIfInBounds_toArray, List.set_cons_zero, List.set_cons_succ]))
  (refine wpAnyH_take (i := 17) (v := ?_) rfl (by kernel_rfl) (by kernel_rfl) (by kernel_rfl) (fun _ _ _ h => h) (Or.inl ⟨by rfl, ?_⟩) hS ?_; rotate_left; focus (intro w2 hw2; (try dsimp only at hw2); (try unfold S6 at hw2); (try unfold S9 at hw2); (try unfold SNine at hw2); go_split_ands; go_simp; first | done | with_reducible rfl); (try simp only [Act.put, List.setIfInBounds_toArray, List.set_cons_zero, List.set_cons_succ]))
  (refine wpAnyH_take (i := 18) (v := ?_) rfl (by kernel_rfl) (by kernel_rfl) (by kernel_rfl) (fun _ _ _ h => h) (Or.inl ⟨by rfl, ?_⟩) hS ?_; rotate_left; focus (intro w2 hw2; (try dsimp only at hw2); (try unfold S6 at hw2); (try unfold S9 at hw2); (try unfold SNine at hw2); go_split_ands; go_simp; first | done | with_reducible rfl); (try simp only [Act.put, List.setIfInBounds_toArray, List.set_cons_zero, List.set_cons_succ]))
  (refine wpAnyH_take (i := 19) (v := ?_) rfl (by kernel_rfl) (by kernel_rfl) (by kernel_rfl) (fun _ _ _ h => h) (Or.inl ⟨by rfl, ?_⟩) hS ?_; rotate_left; focus (intro w2 hw2; (try dsimp only at hw2); (try unfold S6 at hw2); (try unfold S9 at hw2); (try unfold SNine at hw2); go_split_ands; go_simp; first | done | with_reducible rfl); (try simp only [Act.put, List.setIfInBounds_toArray, List.set_cons_zero, List.set_cons_succ]))
  (refine wpAnyH_take (i := 20) (v := ?_) rfl (by kernel_rfl) (by kernel_rfl) (by kernel_rfl) (fun _ _ _ h => h) (Or.inl ⟨by rfl, ?_⟩) hS ?_; rotate_left; focus (intro w2 hw2; (try dsimp only at hw2); (try unfold S6 at hw2); (try unfold S9 at hw2); (try unfold SNine at hw2); go_split_ands; go_simp; first | done | with_reducible rfl); (try simp only [Act.put, List.setIfInBounds_toArray, List.set_cons_zero, List.set_cons_succ]))
  (refine wpAnyH_take (i := 21) (v := ?_) rfl (by kernel_rfl) (by kernel_rfl) (by kernel_rfl) (fun _ _ _ h => h) (Or.inl ⟨by rfl, ?_⟩) hS ?_; rotate_left; focus (intro w2 hw2; (try dsimp only at hw2); (try unfold S6 at hw2); (try unfold S9 at hw2); (try unfold SNine at hw2); go_split_ands; go_simp; first | done | with_reducible rfl); (try simp only [Act.put, List.setIfInBounds_toArray, List.set_cons_zero, List.set_cons_succ]))
  (refine wpAnyH_take (i := 22) (v := ?_) rfl (by kernel_rfl) (by kernel_rfl) (by kernel_rfl) (fun _ _ _ h => h) (Or.inl ⟨by rfl, ?_⟩) hS ?_; rotate_left; focus (intro w2 hw2; (try dsimp only at hw2); (try unfold S6 at hw2); (try unfold S9 at hw2); (try unfold SNine at hw2); go_split_ands; go_simp; first | done | with_reducible rfl); (try simp only [Act.put, List.setIfInBounds_toArray, List.set_cons_zero, List.set_cons_succ]))
  (refine wpAnyH_take (i := 23) (v := ?_) rfl (by kernel_rfl) (by kernel_rfl) (by kernel_rfl) (fun _ _ _ h => h) (Or.inl ⟨by rfl, ?_⟩) hS ?_; rotate_left; focus (intro w2 hw2; (try dsimp only at hw2); (try unfold S6 at hw2); (try unfold S9 at hw2); (try unfold SNine at hw2); go_split_ands; go_simp; first | done | with_reducible rfl); (try simp only [Act.put, List.setIfInBounds_toArray, List.set_cons_zero, List.set_cons_succ]))
  (refine wpAnyH_take (i := 24) (v := ?_) rfl (by kernel_rfl) (by kernel_rfl) (by kernel_rfl) (fun _ _ _ h => h) (Or.inl ⟨by rfl, ?_⟩) hS ?_; rotate_left; focus (intro w2 hw2; (try dsimp only at hw2); (try unfold S6 at hw2); (try unfold S9 at hw2); (try unfold SNine at hw2); go_split_ands; go_simp; first | done | with_reducible rfl); (try simp only [Act.put, List.setIfInBounds_toArray, List.set_cons_zero, List.set_cons_succ]))
  (refine wpAnyH_take (i := 25) (v := ?_) rfl (by kernel_rfl) (by kernel_rfl) (by kernel_rfl) (fun _ _ _ h => h) (Or.inl ⟨by rfl, ?_⟩) hS ?_; rotate_left; focus (intro w2 hw2; (try dsimp only at hw2); (try unfold S6 at hw2); (try unfold S9 at hw2); (try unfold SNine at hw2); go_split_ands; go_simp; first | done | with_reducible rfl); (try simp only [Act.put, List.setIfInBounds_toArray, List.set_cons_zero, List.set_cons_succ]))
  (refine wpAnyH_take (i := 26) (v := ?_) rfl (by kernel_rfl) (by kernel_rfl) (by kernel_rfl) (fun _ _ _ h => h) (Or.inl ⟨by rfl, ?_⟩) hS ?_; rotate_left; focus (intro w2 hw2; (try dsimp only at hw2); (try unfold S6 at hw2); (try unfold S9 at hw2); (try unfold SNine at hw2); go_split_ands; go_simp; first | done | with_reducible rfl); (try simp only [Act.put, List.setIfInBounds_toArray, List.set_cons_zero, List.set_cons_succ]))
  (refine wpAnyH_take (i := 27) (v := ?_) rfl (by kernel_rfl) (by kernel_rfl) (by kernel_rfl) (fun _ _ _ h => h) (Or.inl ⟨by rfl, ?_⟩) hS ?_; rotate_left; focus (intro w2 hw2; (try dsimp only at hw2); (try unfold S6 at hw2); (try unfold S9 at hw2); (try unfold SNine at hw2); go_split_ands; go_simp; first | done | with_reducible rfl); (try simp only [Act.put, List.setIfInBounds_toArray, List.set_cons_zero, List.set_cons_succ]))
  (refine wpAnyH_take (i := 28) (v := ?_) rfl (by kernel_rfl) (by kernel_rfl) (by kernel_rfl) (fun _ _ _ h => h) (Or.inl ⟨by rfl, ?_⟩) hS ?_; rotate_left; focus (intro w2 hw2; (try dsimp only at hw2); (try unfold S6 at hw2); (try unfold S9 at hw2); (try unfold SNine at hw2); go_split_ands; go_simp; first | done | with_reducible rfl); (try simp only [Act.put, List.setIfInBounds_toArray, List.set_cons_zero, List.set_cons_succ]))
  (refine wpAnyH_take (i := 29) (v := ?_) rfl (by kernel_rfl) (by kernel_rfl) (by kernel_rfl) (fun _ _ _ h => h) (Or.inl ⟨by rfl, ?_⟩) hS ?_; rotate_left; focus (intro w2 hw2; (try dsimp only at hw2); (try unfold S6 at hw2); (try unfold S9 at hw2); (try unfold SNine at hw2); go_split_ands; go_simp; first | done | with_reducible rfl); (try simp only [Act.put, List.setIfInBounds_toArray, List.set_cons_zero, List.set_cons_succ]))
  refine wpAnyH_done (by kernel_rfl) ?_ _
  simp only [sinkQ]
  go_simp
  go_wp2_with fail
  have k0 : w4.cell? ⟨w.heap.size, 0, none⟩ = some (.int .i64 0) := (hb4.cell (p := ⟨w.heap.size, 0, none⟩) (by simp)).trans (by simp)
  have k1 : w4.cell? ⟨w.heap.size, 1, none⟩ = some (.int .i64 0) := (hb4.cell (p := ⟨w.heap.size, 1, none⟩) (by simp)).trans (by simp)
  have k2 : w4.cell? ⟨w.heap.size, 2, none⟩ = some (.int .i64 0) := (hb4.cell (p := ⟨w.heap.size, 2, none⟩) (by simp)).trans (by simp)
  have k3 : w4.cell? ⟨w.heap.size, 3, none⟩ = some (.int .i64 0) := (hb4.cell (p := ⟨w.heap.size, 3, none⟩) (by simp)).trans (by simp)
  have k4 : w4.cell? ⟨w.heap.size, 4, none⟩ = some (.int .i64 0) := (hb4.cell (p := ⟨w.heap.size, 4, none⟩) (by simp)).trans (by simp)
  have k5 : w4.cell? ⟨w.heap.size, 5, none⟩ = some (.int .i64 0) := (hb4.cell (p := ⟨w.heap.size, 5, none⟩) (by simp)).trans (by simp)
  have k6 : w4.cell? ⟨w.heap.size, 6, none⟩ = some (.int .i64 0) := (hb4.cell (p := ⟨w.heap.size, 6, none⟩) (by simp)).trans (by simp)
  have k7 : w4.cell? ⟨w.heap.size, 7, none⟩ = some (.int .i64 0) := (hb4.cell (p := ⟨w.heap.size, 7, none⟩) (by simp)).trans (by simp)
  have k8 : w4.cell? ⟨w.heap.size, 8, none⟩ = some (.int .i64 0) := (hb4.cell (p := ⟨w.heap.size, 8, none⟩) (by simp)).trans (by simp)
  refine bodyPost_ret (v := .agg #[.int .i64 d.par, .int .i64 d.no, .int .i64 d.kind, .int .i64 d.lock, .int .i64 d.person, .int .i64 d.lo, .int .i64 d.hi, .int .i64 d.known, .int .i64 d.til]) (by simp [results, Tryz.f42, go_sem, k0, k1, k2, k3, k4, k5, k6, k7, k8]) rfl ⟨rfl, ?_⟩
  have HB9 := hB4.drew
  (repeat' (first | with_reducible exact Below.refl _ _ | with_reducible assumption | with_reducible refine Below.alloc ?_ ?_ _ | with_reducible refine Below.setCell ?_ ?_ _ | with_reducible refine Below.drew ?_ | (simp; done) | (simp; omega) | omega))

end Go.Proofs.YtikioiblaoimkaaGreatDoor

/- The deferred function of read: it catches a line's panic. -/
namespace Go.Proofs.YtikioiblaoimkaaGreatDoor
open Go.RowKit

theorem assert_wrong (W : World) (v : Value) : (Instr.typeAssert (.iface 79 v) 20 79 true).run Tryz.prog W = .ok (.tuple #[v, .bool true]) W := by kernel_rfl
theorem assert_nil (W : World) : (Instr.typeAssert .nilIface 20 79 true).run Tryz.prog W = .ok (.tuple #[.int .i64 0, .bool false]) W := by kernel_rfl
/-- The panic that tells a line's number, caught. -/
def caughtV (i : Nat) : List PanicEntry := [{ v := .iface 79 (.int .i64 i), recovered := true }]
set_option maxRecDepth 100000 in
set_option maxHeartbeats 1000000 in
theorem catch_wrong (m bp bq i : Nat) (vp vq : Value) (w : World) (hne : bp ≠ bq) (hp : w.cell? ⟨bp, 0, none⟩ = some vp) (hq : w.cell? ⟨bq, 0, none⟩ = some vq) (fp : w.frozen? ⟨bp, 0, none⟩ = false) (fq : w.frozen? ⟨bq, 0, none⟩ = false) :
    CallsDIn Fence.wide m Tryz.prog 40 #[.pointer (some ⟨bp, 0, none⟩), .pointer (some ⟨bq, 0, none⟩)] (.panicking (wrongV i)) w fun e u' w' =>
      e = .returned (.tuple #[]) ∧ u' = .panicking (caughtV i) ∧ w' = (w.setCell ⟨bp, 0, none⟩ (.slice none 0 0)).setCell ⟨bq, 0, none⟩ (.int .i64 i) := by
  refine callsDIn_of_wpSIn Tryz.func40 rfl trivial fun c₀ cs hu => ?_
  apply wpSIn_seq
  apply wpSIn_region
  simp [wpOpsSIn, go_sem, recoverD, hu, Tryz.ntmps40, Exit.thenS, wrongV, assert_wrong, Array.replicate]
  apply wpSIn_seq
  apply wpSIn_region
  simp [wpOpsSIn, go_sem, Exit.thenS]
  refine wpSIn_cond (t := true) (by simp [Act.eval, Array.replicate]) ?_
  simp only [if_true]
  apply wpSIn_region
  simp [wpOpsSIn, go_sem, hp, hq, fp, fq, hne, bodyPostS, results, Tryz.f40]
  rfl
theorem catch_none (m bp bq : Nat) (w : World) :
    CallsDIn Fence.wide m Tryz.prog 40 #[.pointer (some ⟨bp, 0, none⟩), .pointer (some ⟨bq, 0, none⟩)] .returning w fun e u' w' =>
      e = .returned (.tuple #[]) ∧ u' = .returning ∧ w' = w := by
  refine callsDIn_of_wpSIn Tryz.func40 rfl trivial fun c₀ cs hu => ?_
  apply wpSIn_seq
  apply wpSIn_region
  simp [wpOpsSIn, go_sem, recoverD, hu, Tryz.ntmps40, Exit.thenS, assert_nil, Array.replicate]
  apply wpSIn_seq
  apply wpSIn_region
  simp [wpOpsSIn, go_sem, Exit.thenS]
  refine wpSIn_cond (t := false) (by simp [Act.eval]) ?_
  simp only [Bool.false_eq_true, if_false]
  refine wpSIn_of_wpIn rfl (wpIn_skip ?_)
  cases c₀
  simp_all [bodyPostS, results, Tryz.f40, go_sem]

end Go.Proofs.YtikioiblaoimkaaGreatDoor
