/- Layer 2 of the texts that LoanChecks takes: Vakq. -/
import Derived.Test.YtklikciiaogpbaaGreatVagq
import Derived.Test.YtklikciiaogpbaaGreatVaiq
set_option linter.unusedVariables false
set_option linter.unusedSimpArgs false
/- Layer 2: leaves, by the reference and by the program. -/
namespace Go.Proofs.YtklikciiaogpbaaGreat
open Go.RowKit
theorem r_In_v (n lo hi : Int) (v : Bool) (w : World) (h : withinB n lo hi = v) :
 Calls Tryz.prog 87 #[.int .i64 n, .int .i64 lo, .int .i64 hi] w fun e w' => e = .returned (.bool v) ∧ w = w' := h ▸ r_In2 n lo hi w
set_option maxHeartbeats 2000000 in
theorem r_areLeaves2 (l : List Int) (A : Option Addr) (n c : Nat) (w : World) (hn : n ≤ 9223372036854775807) (hd : Is w w.heap.size A n l) :
 Calls Tryz.prog 94 #[.slice A n c] w fun e w' => e = .returned (.bool (leavesB l)) ∧ Below w.heap.size w w' := by
 have hlen := hd.len
 have HD := Lib.hid hd
 have HL := Lib.hid hlen
 clear hd hlen
 go_enter Tryz.func94, Tryz.ntmps94
 go_wp2
 go_loopw [3] (fun i wr => ∃ k : Nat, k ≤ n ∧ i = .int .i64 k ∧ (List.range k).all (valAt id leafB l) = true ∧ Below w.heap.size w wr) (fun i _ => n - (intOf i).toNat)
 case atStart => exact ⟨0, by omega, rfl, rfl, Below.refl _ _⟩
 case round =>
  obtain ⟨k, hk, rfl, hall, hB⟩ := hrel
  have HA := Lib.hid hall
  clear hall
  by_cases hlt : k < n
  ·obtain ⟨b, o, x, rfl, hb, hx, hc0⟩ := (Is.ext HD.out hB (Nat.le_refl _)).at_ hlt
   have HX := Lib.hid hx
   clear hx
   have hs0 : w.heap.size ≤ wr.heap.size := hB.size
   have hbr : b < wr.heap.size := by omega
   cases hin : withinB x 1 30 with
   | false =>
     have hf : Hid (valAt id leafB l k = false) := by
      show _ = _
      cases k with
      | zero => simp [valAt, HX.out, leafB, hin]
      | succ j => cases hj : l[j]? <;> simp [valAt, HX.out, leafB, hin, hj]
     have HI := Lib.hid hin
     clear hin
     go_wp2_with fail
     (refine wp_region_grow (by kernel_rfl) (by kernel_rfl) ?_; (repeat (go_big_quiet_step ((first | (go_at_call 87; exact Calls.grow_same (r_In_v _ _ _ _ _ HI.out)))))); refine wpQuiet_nil ?_; rintro w1 ⟨⟨_, hb1⟩, rfl⟩; (try dsimp only at hb1 ⊢); obtain ⟨hc1, hf1⟩ := bcell hb1)
     go_wp2_with fail
     go_ret
     exact ⟨ret_bool (by rw [leavesB, valB, val_false (by rw [HL.out]; exact hlt) hf.out]; simp), Below.then_ hB hb1⟩
   | true =>
     have HI := Lib.hid hin
     clear hin
     by_cases hk0 : k = 0
     ·have hf : Hid (valAt id leafB l k = true) := by
       show _ = _
       have h1 := HX.out
       rw [hk0] at h1 ⊢
       simp [valAt, h1, leafB, HI.out]
      have hk2 : decide (0 < k) = false := by simp; omega
      clear hk0
      go_wp2_with fail
      (refine wp_region_grow (by kernel_rfl) (by kernel_rfl) ?_; (repeat (go_big_quiet_step ((first | (go_at_call 87; exact Calls.grow_same (r_In_v _ _ _ _ _ HI.out)))))); refine wpQuiet_nil ?_; rintro w1 ⟨⟨_, hb1⟩, rfl⟩; (try dsimp only at hb1 ⊢); obtain ⟨hc1, hf1⟩ := bcell hb1)
      go_wp2_with fail
      go_roundw
      case rel => exact ⟨k + 1, by omega, by go_num, val_succ HA.out hf.out, Below.then_ hB hb1⟩
      case measure => simp [intOf]; omega
     ·obtain ⟨j, rfl⟩ : ∃ j, k = j + 1 := ⟨k - 1, by omega⟩
      obtain ⟨b', o', y, e', _, hy, hc1⟩ := (Is.ext HD.out hB (Nat.le_refl _)).at_ (k := j) (by omega)
      obtain ⟨rfl, rfl⟩ : b = b' ∧ o = o' := by simpa using e'
      have HY := Lib.hid hy
      clear hy e' hk0
      by_cases hxy : y < x
      ·have hf : Hid (valAt id leafB l (j + 1) = true) := by show _ = _; simp [valAt, HX.out, HY.out, leafB, HI.out, hxy]
       have hxd : decide (x ≤ y) = false := by simp; omega
       clear hxy
       go_wp2_with fail
       (refine wp_region_grow (by kernel_rfl) (by kernel_rfl) ?_; (repeat (go_big_quiet_step ((first | (go_at_call 87; exact Calls.grow_same (r_In_v _ _ _ _ _ HI.out)))))); refine wpQuiet_nil ?_; rintro w1 ⟨⟨_, hb1⟩, rfl⟩; (try dsimp only at hb1 ⊢); obtain ⟨hc1, hf1⟩ := bcell hb1)
       go_wp2_with fail
       go_roundw
       case rel => exact ⟨j + 1 + 1, by omega, by go_num, val_succ HA.out hf.out, Below.then_ hB hb1⟩
       case measure => simp [intOf]; omega
      ·have hf : Hid (valAt id leafB l (j + 1) = false) := by show _ = _; simp [valAt, HX.out, HY.out, leafB, HI.out]; omega
       have hxd : decide (x ≤ y) = true := by simp; omega
       clear hxy
       go_wp2_with fail
       (refine wp_region_grow (by kernel_rfl) (by kernel_rfl) ?_; (repeat (go_big_quiet_step ((first | (go_at_call 87; exact Calls.grow_same (r_In_v _ _ _ _ _ HI.out)))))); refine wpQuiet_nil ?_; rintro w1 ⟨⟨_, hb1⟩, rfl⟩; (try dsimp only at hb1 ⊢); obtain ⟨hc1, hf1⟩ := bcell hb1)
       go_wp2_with fail
       go_ret
       exact ⟨ret_bool (by rw [leavesB, valB, val_false (by rw [HL.out]; exact hlt) hf.out]; simp), Below.then_ hB hb1⟩
  ·have hkn : k = n := by omega
   have HKn := Lib.hid hkn
   clear hkn
   go_wp2_with (go_at_call 87; refine (r_In2 _ _ _ _).mono ?_; rintro e w1 ⟨rfl, rfl⟩)
   go_ret
   have h1 : l.length = k := by rw [HL.out, HKn.out]
   exact ⟨ret_bool (by rw [leavesB, valB, h1, HA.out, withinB, Bool.eq_iff_iff]; simp; omega), hB⟩
end Go.Proofs.YtklikciiaogpbaaGreat
