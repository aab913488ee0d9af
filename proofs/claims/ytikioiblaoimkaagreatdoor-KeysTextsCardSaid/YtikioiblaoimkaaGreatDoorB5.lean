import Derived.Test.YtikioiblaoimkaaGreatDoorB3
set_option linter.unusedVariables false
set_option linter.unusedSimpArgs false

/- The reference's Same and SameItems; the chapter's deeds. -/
namespace Go.Proofs.YtikioiblaoimkaaGreatDoor
open Go.RowKit

set_option maxHeartbeats 1000000 in
theorem r_same (xs ys : List Int) (v : Bool) (A B : Option Addr) (n c m d : Nat) (w : World) (hn : n ≤ 1000000) (hm : m ≤ 1000000) (hx : Is w w.heap.size A n xs) (hy : Is w w.heap.size B m ys) (hv : decide (xs = ys) = v) :
    Calls Tryz.prog 31 #[.slice A n c, .slice B m d] w fun e w' => e = .returned (.bool v) ∧ Below w.heap.size w w' := by
  have HX := Lib.hid hx
  have HY := Lib.hid hy
  have HLX := Lib.hid hx.len
  have HLY := Lib.hid hy.len
  have HV := Lib.hid hv
  clear hx hy hv
  by_cases hnm : n = m
  · subst hnm
    go_enter Tryz.func31, Tryz.ntmps31
    go_wp2
    go_loopw [13] (fun i wr => ∃ k : Nat, k ≤ n ∧ i = .int .i64 k ∧ xs.take k = ys.take k ∧ Below w.heap.size w wr) (fun i _ => n - (intOf i).toNat)
    case atStart => exact ⟨0, by omega, rfl, by simp, Below.refl _ _⟩
    case round =>
      obtain ⟨k, hk, rfl, hpre, hB⟩ := hrel
      have HP := Lib.hid hpre
      clear hpre
      have hs0 : w.heap.size ≤ wr.heap.size := hB.size
      by_cases hlt : k < n
      · obtain ⟨b, o, x, rfl, hb, hxk, hcx⟩ := (HX.out.ext hB (Nat.le_refl _)).at_ hlt
        obtain ⟨b', o', y, rfl, hb', hyk, hcy⟩ := (HY.out.ext hB (Nat.le_refl _)).at_ hlt
        have HXK := Lib.hid hxk
        have HYK := Lib.hid hyk
        clear hxk hyk
        have hbr : b < wr.heap.size := by omega
        have hbr' : b' < wr.heap.size := by omega
        have HS := Lib.hid (take_eq_succ HXK.out HYK.out HP.out)
        by_cases hxy : x = y
        · have hb1 : (x != y) = false := by simp [hxy]
          have HXY := Lib.hid hxy
          clear hxy
          go_wp2_with fail
          (refine wp_region_grow (by kernel_rfl) (by kernel_rfl) ?_; (repeat (go_big_quiet_step ((first | fail)))); refine wpQuiet_nil ?_; rintro w1 ⟨⟨_, hb1⟩, rfl⟩; (try dsimp only at hb1 ⊢); obtain ⟨hc1, hf1⟩ := bcell hb1)
          go_wp2_with fail
          go_roundw
          case rel => exact ⟨k + 1, by omega, by go_num, HS.out.2 HXY.out, Below.then_ hB hb1⟩
          case measure => simp [intOf]; omega
        · have hb1 : (x != y) = true := by simp [hxy]
          have HXY := Lib.hid hxy
          clear hxy
          go_wp2_with fail
          (refine wp_region_grow (by kernel_rfl) (by kernel_rfl) ?_; (repeat (go_big_quiet_step ((first | fail)))); refine wpQuiet_nil ?_; rintro w1 ⟨⟨_, hb1⟩, rfl⟩; (try dsimp only at hb1 ⊢); obtain ⟨hc1, hf1⟩ := bcell hb1)
          go_wp2_with fail
          go_ret
          refine ⟨ret_bool ?_, Below.then_ hB hb1⟩
          rw [← HV.out]
          symm
          apply decide_eq_false
          intro e
          exact HXY.out (HS.out.1 (by rw [e]))
      · have hkn : k = n := by omega
        have HKn := Lib.hid hkn
        clear hkn
        go_wp2
        go_ret
        refine ⟨ret_bool ?_, hB⟩
        rw [← HV.out]
        symm
        apply decide_eq_true
        have h1 := HP.out
        rwa [List.take_of_length_le (by rw [HLX.out, HKn.out]; exact Nat.le_refl _), List.take_of_length_le (by rw [HLY.out, HKn.out]; exact Nat.le_refl _)] at h1
  · have h1 : ((n : Int) != (m : Int)) = true := by simp; omega
    go_enter Tryz.func31, Tryz.ntmps31
    go_wp2
    go_ret
    refine ⟨ret_bool ?_, Below.refl _ _⟩
    rw [← HV.out]
    symm
    apply decide_eq_false
    intro e
    exact hnm (by rw [← HLX.out, ← HLY.out, e])

theorem itemCells_get (l : List (Int × Int)) (k j : Nat) (x : Int × Int) (hx : l[k]? = some x) (hj : j < 2) : (itemCells l)[k * 2 + j]? = [Value.int .i64 x.1, .int .i64 x.2][j]? := by
  induction l generalizing k with
  | nil => simp at hx
  | cons y l ih =>
    cases k with
    | zero =>
      simp at hx
      subst hx
      show ([Value.int .i64 y.1, .int .i64 y.2] ++ itemCells l)[0 * 2 + j]? = _
      rw [Nat.zero_mul, Nat.zero_add, List.getElem?_append_left (by simpa using hj)]
    | succ k =>
      show ([Value.int .i64 y.1, .int .i64 y.2] ++ itemCells l)[(k + 1) * 2 + j]? = _
      rw [List.getElem?_append_right (by simp; omega)]
      have := ih k (by simpa using hx)
      rw [← this]
      congr 1
      simp
      omega
theorem Its.at_ {w : World} {B n : Nat} {A : Option Addr} {l : List (Int × Int)} (h : Its w B A n l) {k : Nat} (hk : k < n) :
    ∃ b o x y, A = some ⟨b, o, none⟩ ∧ b < B ∧ l[k]? = some (x, y) ∧ w.cell? ⟨b, o + k * 2, none⟩ = some (.int .i64 x) ∧ w.cell? ⟨b, o + k * 2 + 1, none⟩ = some (.int .i64 y) := by
  obtain ⟨b, o, e, hb, hc⟩ := h.2 (by omega)
  have hl := h.len
  obtain ⟨⟨x, y⟩, hx⟩ : ∃ x, l[k]? = some x := ⟨_, List.getElem?_eq_getElem (by omega)⟩
  refine ⟨b, o, x, y, e, hb, hx, hc (k * 2) _ ?_, ?_⟩
  · have := itemCells_get l k 0 _ hx (by omega)
    simpa using this
  · have := hc (k * 2 + 1) (.int .i64 y) (by have := itemCells_get l k 1 _ hx (by omega); simpa using this)
    rw [← this]
    rfl
theorem Its.ext {w w' : World} {B n : Nat} {A : Option Addr} {l : List (Int × Int)} (h : Its w B A n l) (hb : Below w.heap.size w w') (hB : B ≤ w.heap.size) : Its w' B A n l := Rd.ext h hb hB
theorem take_eq_succG {α : Type} {xs ys : List α} {k : Nat} {x y : α} (hx : xs[k]? = some x) (hy : ys[k]? = some y) (h : xs.take k = ys.take k) : xs.take (k + 1) = ys.take (k + 1) ↔ x = y := by
  rw [take_snoc_some hx, take_snoc_some hy, h]
  simp

set_option maxHeartbeats 1000000 in
theorem r_sameItems (xs ys : List (Int × Int)) (v : Bool) (A B : Option Addr) (n c m d : Nat) (w : World) (hn : n ≤ 1000000) (hm : m ≤ 1000000) (hx : Its w w.heap.size A n xs) (hy : Its w w.heap.size B m ys) (hv : decide (xs = ys) = v) :
    Calls Tryz.prog 32 #[.slice A n c, .slice B m d] w fun e w' => e = .returned (.bool v) ∧ Below w.heap.size w w' := by
  have HX := Lib.hid hx
  have HY := Lib.hid hy
  have HLX := Lib.hid hx.len
  have HLY := Lib.hid hy.len
  have HV := Lib.hid hv
  clear hx hy hv
  by_cases hnm : n = m
  · subst hnm
    go_enter Tryz.func32, Tryz.ntmps32
    go_wp2
    go_loopw [13] (fun i wr => ∃ k : Nat, k ≤ n ∧ i = .int .i64 k ∧ xs.take k = ys.take k ∧ Below w.heap.size w wr) (fun i _ => n - (intOf i).toNat)
    case atStart => exact ⟨0, by omega, rfl, by simp, Below.refl _ _⟩
    case round =>
      obtain ⟨k, hk, rfl, hpre, hB⟩ := hrel
      have HP := Lib.hid hpre
      clear hpre
      have hs0 : w.heap.size ≤ wr.heap.size := hB.size
      by_cases hlt : k < n
      · obtain ⟨b, o, x, x2, rfl, hb, hxk, hcx, hcx2⟩ := (HX.out.ext hB (Nat.le_refl _)).at_ hlt
        obtain ⟨b', o', y, y2, rfl, hb', hyk, hcy, hcy2⟩ := (HY.out.ext hB (Nat.le_refl _)).at_ hlt
        have HXK := Lib.hid hxk
        have HYK := Lib.hid hyk
        clear hxk hyk
        have hbr : b < wr.heap.size := by omega
        have hbr' : b' < wr.heap.size := by omega
        have HS := Lib.hid (take_eq_succG HXK.out HYK.out HP.out)
        by_cases hxy : x = y
        · by_cases hxy2 : x2 = y2
          · have HXY : Hid ((x, x2) = (y, y2)) := by show _ = _; rw [hxy, hxy2]
            subst hxy hxy2
            go_wp2_with fail
            (refine wp_region_grow (by kernel_rfl) (by kernel_rfl) ?_; (repeat (go_big_quiet_step ((first | fail)))); refine wpQuiet_nil ?_; rintro w1 ⟨⟨_, hb1⟩, rfl⟩; (try dsimp only at hb1 ⊢); obtain ⟨hc1, hf1⟩ := bcell hb1)
            go_wp2_with fail
            go_roundw
            case rel => exact ⟨k + 1, by omega, by go_num, HS.out.2 HXY.out, Below.then_ hB hb1⟩
            case measure => simp [intOf]; omega
          · have HXY : Hid (¬ (x, x2) = (y, y2)) := by show ¬ _; intro e; injection e with e1 e2; exact hxy2 e2
            go_wp2_with fail
            (refine wp_region_grow (by kernel_rfl) (by kernel_rfl) ?_; (repeat (go_big_quiet_step ((first | fail)))); refine wpQuiet_nil ?_; rintro w1 ⟨⟨_, hb1⟩, rfl⟩; (try dsimp only at hb1 ⊢); obtain ⟨hc1, hf1⟩ := bcell hb1)
            go_wp2_with fail
            go_ret
            refine ⟨ret_bool ?_, Below.then_ hB hb1⟩
            rw [← HV.out]
            symm
            apply decide_eq_false
            intro e
            exact HXY.out (HS.out.1 (by rw [e]))
        · have HXY : Hid (¬ (x, x2) = (y, y2)) := by show ¬ _; intro e; injection e with e1 e2; exact hxy e1
          go_wp2_with fail
          (refine wp_region_grow (by kernel_rfl) (by kernel_rfl) ?_; (repeat (go_big_quiet_step ((first | fail)))); refine wpQuiet_nil ?_; rintro w1 ⟨⟨_, hb1⟩, rfl⟩; (try dsimp only at hb1 ⊢); obtain ⟨hc1, hf1⟩ := bcell hb1)
          go_wp2_with fail
          go_ret
          refine ⟨ret_bool ?_, Below.then_ hB hb1⟩
          rw [← HV.out]
          symm
          apply decide_eq_false
          intro e
          exact HXY.out (HS.out.1 (by rw [e]))
      · have hkn : k = n := by omega
        have HKn := Lib.hid hkn
        clear hkn
        go_wp2
        go_ret
        refine ⟨ret_bool ?_, hB⟩
        rw [← HV.out]
        symm
        apply decide_eq_true
        have h1 := HP.out
        rwa [List.take_of_length_le (by rw [HLX.out, HKn.out]; exact Nat.le_refl _), List.take_of_length_le (by rw [HLY.out, HKn.out]; exact Nat.le_refl _)] at h1
  · have h1 : ((n : Int) != (m : Int)) = true := by simp; omega
    go_enter Tryz.func32, Tryz.ntmps32
    go_wp2
    go_ret
    refine ⟨ret_bool ?_, Below.refl _ _⟩
    rw [← HV.out]
    symm
    apply decide_eq_false
    intro e
    exact hnm (by rw [← HLX.out, ← HLY.out, e])

end Go.Proofs.YtikioiblaoimkaaGreatDoor

/- The deeds of the chapter's examples. -/
namespace Go.Proofs.YtikioiblaoimkaaGreatDoor
open Go.RowKit

def exDs : List Deed := [⟨0, 0, 1, 0, 11, 10, 10, 0, 0⟩, ⟨0, 1, 1, 0, 12, 10, 10, 0, 0⟩, ⟨0, 2, 1, 0, 13, 10, 10, 0, 0⟩, ⟨0, 3, 3, 1, 11, 12, 12, 0, 0⟩, ⟨0, 4, 3, 2, 12, 12, 12, 0, 0⟩, ⟨0, 5, 3, 3, 13, 12, 20, 0, 0⟩,
  ⟨0, 6, 4, 1, 14, 30, 40, 0, 0⟩, ⟨0, 7, 5, 1, 0, 35, 50, 0, 0⟩, ⟨0, 8, 2, 0, 12, 60, 70, 75, 0⟩]

set_option maxRecDepth 100000 in
set_option maxHeartbeats 1000000 in
theorem r_deeds (w : World) :
    Calls Tryz.prog 21 #[] w fun e w' => ∃ A c, e = .returned (.slice A 9 c) ∧ 9 ≤ c ∧ Below w.heap.size w w' ∧ Ds w' w'.heap.size A 9 exDs := by
  go_enter Tryz.func21, Tryz.ntmps21
  go_wp2
  go_ret
  exact ⟨_, _, rfl, Nat.le_refl _, by (repeat' (first | with_reducible exact Below.refl _ _ | with_reducible assumption | with_reducible refine Below.alloc ?_ ?_ _ | with_reducible refine Below.setCell ?_ ?_ _ | with_reducible refine Below.drew ?_ | (simp; done) | (simp; omega) | omega)), Rd.new w _ _ 9 9 _ rfl rfl⟩

end Go.Proofs.YtikioiblaoimkaaGreatDoor
