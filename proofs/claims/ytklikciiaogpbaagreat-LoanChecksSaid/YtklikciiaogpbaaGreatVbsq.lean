/- Layer 2 of the texts that LoanChecks takes: Vbsq. -/
import Derived.Test.YtklikciiaogpbaaGreatVaqq
set_option linter.unusedVariables false
set_option linter.unusedSimpArgs false
/- Layer 2, the reference: Same, SameFolios. -/
namespace Go.Proofs.YtklikciiaogpbaaGreat
open Go.RowKit Go.Maps
theorem take_eq_succ2 {α : Type} {xs ys : List α} {k : Nat} {x y : α} (hx : xs[k]? = some x) (hy : ys[k]? = some y) (h : xs.take k = ys.take k) : xs.take (k + 1) = ys.take (k + 1) ↔ x = y := by
 rw [take_snoc_some hx, take_snoc_some hy, h]
 simp
set_option maxHeartbeats 1000000 in
theorem r_Same2 (xs ys : List (Int)) (v : Bool) (A B : Option Addr) (n c m d : Nat) (w : World) (hn : n ≤ 1000000) (hm : m ≤ 1000000) (hx : Is w w.heap.size A n xs) (hy : Is w w.heap.size B m ys) (hv : decide (xs = ys) = v) :
 Calls Tryz.prog 36 #[.slice A n c, .slice B m d] w fun e w' => e = .returned (.bool v) ∧ Below w.heap.size w w' := by
 have HX := Lib.hid hx
 have HY := Lib.hid hy
 have HLX := Lib.hid hx.len
 have HLY := Lib.hid hy.len
 have HV := Lib.hid hv
 clear hx hy hv
 by_cases hnm : n = m
 ·subst hnm
  go_enter Tryz.func36, Tryz.ntmps36
  go_wp2
  go_loopw [5] (fun i wr => ∃ k : Nat, k ≤ n ∧ i = .int .i64 k ∧ xs.take k = ys.take k ∧ Below w.heap.size w wr) (fun i _ => n - (intOf i).toNat)
  case atStart => exact ⟨0, by omega, rfl, by simp, Below.refl _ _⟩
  case round =>
   obtain ⟨k, hk, rfl, hpre, hB⟩ := hrel
   have HP := Lib.hid hpre
   clear hpre
   have hs0 : w.heap.size ≤ wr.heap.size := hB.size
   by_cases hlt : k < n
   ·obtain ⟨b, o, x, rfl, hb, hxk, hcx⟩ := (HX.out.ext hB (Nat.le_refl _)).at_ hlt
    obtain ⟨b', o', y, rfl, hb', hyk, hcy⟩ := (HY.out.ext hB (Nat.le_refl _)).at_ hlt
    have HXK := Lib.hid hxk
    have HYK := Lib.hid hyk
    clear hxk hyk
    have hbr : b < wr.heap.size := by omega
    have hbr' : b' < wr.heap.size := by omega
    have HS := Lib.hid (take_eq_succ2 HXK.out HYK.out HP.out)
    by_cases hxy : x = y
    ·have hb1 : (x != y) = false := by simp [hxy]
     have HXY := Lib.hid hxy
     clear hxy
     go_wp2_with fail
     (refine wp_region_grow (by kernel_rfl) (by kernel_rfl) ?_; (repeat (go_big_quiet_step ((first | fail)))); refine wpQuiet_nil ?_; rintro w1 ⟨⟨_, hb1⟩, rfl⟩; (try dsimp only at hb1 ⊢); obtain ⟨hc1, hf1⟩ := bcell hb1)
     go_wp2_with fail
     go_roundw
     case rel => exact ⟨k + 1, by omega, by go_num, HS.out.2 HXY.out, Below.then_ hB hb1⟩
     case measure => simp [intOf]; omega
    ·have hb1 : (x != y) = true := by simp [hxy]
     have HXY := Lib.hid hxy
     clear hxy
     go_wp2_with fail
     (refine wp_region_grow (by kernel_rfl) (by kernel_rfl) ?_; (repeat (go_big_quiet_step ((first | fail)))); refine wpQuiet_nil ?_; rintro w1 ⟨⟨_, hb1⟩, rfl⟩; (try dsimp only at hb1 ⊢); obtain ⟨hc1, hf1⟩ := bcell hb1)
     go_wp2_with fail
     go_ret
     refine ⟨ret_bool ?_, Below.then_ hB hb1⟩
     rw [← HV.out]
     symm
     apply decide_eq_false
     intro e
     exact HXY.out (HS.out.1 (by rw [e]))
   ·have hkn : k = n := by omega
    have HKn := Lib.hid hkn
    clear hkn
    go_wp2
    go_ret
    refine ⟨ret_bool ?_, hB⟩
    rw [← HV.out]
    symm
    apply decide_eq_true
    have h1 := HP.out
    rwa [List.take_of_length_le (by rw [HLX.out, HKn.out]; exact Nat.le_refl _), List.take_of_length_le (by rw [HLY.out, HKn.out]; exact Nat.le_refl _)] at h1
 ·have h1 : ((n : Int) != (m : Int)) = true := by simp; omega
  go_enter Tryz.func36, Tryz.ntmps36
  go_wp2
  go_ret
  refine ⟨ret_bool ?_, Below.refl _ _⟩
  rw [← HV.out]
  symm
  apply decide_eq_false
  intro e
  exact hnm (by rw [← HLX.out, ← HLY.out, e])
set_option maxHeartbeats 1000000 in
theorem r_SameFols (xs ys : List (Int × Int)) (v : Bool) (A B : Option Addr) (n c m d : Nat) (w : World) (hn : n ≤ 1000000) (hm : m ≤ 1000000) (hx : Sq QF 2 w w.heap.size A n xs) (hy : Sq QF 2 w w.heap.size B m ys) (hv : decide (xs = ys) = v) :
 Calls Tryz.prog 53 #[.slice A n c, .slice B m d] w fun e w' => e = .returned (.bool v) ∧ Below w.heap.size w w' := by
 have HX := Lib.hid hx
 have HY := Lib.hid hy
 have HLX := Lib.hid hx.len
 have HLY := Lib.hid hy.len
 have HV := Lib.hid hv
 clear hx hy hv
 by_cases hnm : n = m
 ·subst hnm
  go_enter Tryz.func53, Tryz.ntmps53
  go_wp2
  go_loopw [5] (fun i wr => ∃ k : Nat, k ≤ n ∧ i = .int .i64 k ∧ xs.take k = ys.take k ∧ Below w.heap.size w wr) (fun i _ => n - (intOf i).toNat)
  case atStart => exact ⟨0, by omega, rfl, by simp, Below.refl _ _⟩
  case round =>
   obtain ⟨k, hk, rfl, hpre, hB⟩ := hrel
   have HP := Lib.hid hpre
   clear hpre
   have hs0 : w.heap.size ≤ wr.heap.size := hB.size
   by_cases hlt : k < n
   ·obtain ⟨b, o, ⟨x, x2⟩, rfl, hb, hxk, hcx, hcx2⟩ := (Sq.ext HX.out abF hB (Nat.le_refl _)).at_ hlt
    obtain ⟨b', o', ⟨y, y2⟩, rfl, hb', hyk, hcy, hcy2⟩ := (Sq.ext HY.out abF hB (Nat.le_refl _)).at_ hlt
    have HXK := Lib.hid hxk
    have HYK := Lib.hid hyk
    clear hxk hyk
    have hbr : b < wr.heap.size := by omega
    have hbr' : b' < wr.heap.size := by omega
    have HS := Lib.hid (take_eq_succ2 HXK.out HYK.out HP.out)
    by_cases hxy : x = y
    ·by_cases hxy2 : x2 = y2
     ·have HXY : Hid ((x, x2) = (y, y2)) := by show _ = _; rw [hxy, hxy2]
      subst hxy hxy2
      go_wp2_with fail
      (refine wp_region_grow (by kernel_rfl) (by kernel_rfl) ?_; (repeat (go_big_quiet_step ((first | fail)))); refine wpQuiet_nil ?_; rintro w1 ⟨⟨_, hb1⟩, rfl⟩; (try dsimp only at hb1 ⊢); obtain ⟨hc1, hf1⟩ := bcell hb1)
      go_wp2_with fail
      go_roundw
      case rel => exact ⟨k + 1, by omega, by go_num, HS.out.2 HXY.out, Below.then_ hB hb1⟩
      case measure => simp [intOf]; omega
     ·have HXY : Hid (¬ (x, x2) = (y, y2)) := by show ¬ _; intro e; injection e with e1 e2; exact hxy2 e2
      go_wp2_with fail
      (refine wp_region_grow (by kernel_rfl) (by kernel_rfl) ?_; (repeat (go_big_quiet_step ((first | fail)))); refine wpQuiet_nil ?_; rintro w1 ⟨⟨_, hb1⟩, rfl⟩; (try dsimp only at hb1 ⊢); obtain ⟨hc1, hf1⟩ := bcell hb1)
      go_wp2_with fail
      go_ret
      refine ⟨ret_bool ?_, Below.then_ hB hb1⟩
      rw [← HV.out]
      symm
      apply decide_eq_false
      intro e
      exact HXY.out (HS.out.1 (by rw [e]))
    ·have HXY : Hid (¬ (x, x2) = (y, y2)) := by show ¬ _; intro e; injection e with e1 e2; exact hxy e1
     go_wp2_with fail
     (refine wp_region_grow (by kernel_rfl) (by kernel_rfl) ?_; (repeat (go_big_quiet_step ((first | fail)))); refine wpQuiet_nil ?_; rintro w1 ⟨⟨_, hb1⟩, rfl⟩; (try dsimp only at hb1 ⊢); obtain ⟨hc1, hf1⟩ := bcell hb1)
     go_wp2_with fail
     go_ret
     refine ⟨ret_bool ?_, Below.then_ hB hb1⟩
     rw [← HV.out]
     symm
     apply decide_eq_false
     intro e
     exact HXY.out (HS.out.1 (by rw [e]))
   ·have hkn : k = n := by omega
    have HKn := Lib.hid hkn
    clear hkn
    go_wp2
    go_ret
    refine ⟨ret_bool ?_, hB⟩
    rw [← HV.out]
    symm
    apply decide_eq_true
    have h1 := HP.out
    rwa [List.take_of_length_le (by rw [HLX.out, HKn.out]; exact Nat.le_refl _), List.take_of_length_le (by rw [HLY.out, HKn.out]; exact Nat.le_refl _)] at h1
 ·have h1 : ((n : Int) != (m : Int)) = true := by simp; omega
  go_enter Tryz.func53, Tryz.ntmps53
  go_wp2
  go_ret
  refine ⟨ret_bool ?_, Below.refl _ _⟩
  rw [← HV.out]
  symm
  apply decide_eq_false
  intro e
  exact hnm (by rw [← HLX.out, ← HLY.out, e])
end Go.Proofs.YtklikciiaogpbaaGreat
/- Layer 2, the reference: SameLedger. -/
namespace Go.Proofs.YtklikciiaogpbaaGreat
open Go.RowKit Go.Maps
theorem sgt_ne {x y : Sgt} (h : ¬ x = y) : ¬ x.src = y.src ∨ ¬ x.per = y.per ∨ ¬ x.pap = y.pap ∨ ¬ x.leaf = y.leaf ∨ ¬ x.day = y.day ∨ ¬ x.kn = y.kn ∨ ¬ x.un = y.un := by
 refine Classical.byContradiction fun h2 => h ?_
 simp only [not_or, Decidable.not_not] at h2
 obtain ⟨h0, h1, h2, h3, h4, h5, h6⟩ := h2
 cases x; cases y
 simp_all
set_option maxHeartbeats 4000000 in
theorem r_sameReceipt (r r2 : Rcp) (v : Bool) (A B : Option Addr) (n c m d : Nat) (w : World) (hn : n ≤ 1000000) (hm : m ≤ 1000000) (hx : Is w w.heap.size A n r.lv) (hy : Is w w.heap.size B m r2.lv) (hv : decide (r = r2) = v) :
 Calls Tryz.prog 82 #[.agg #[.int .i64 r.src, .int .i64 r.bor, .int .i64 r.pap, .slice A n c, .int .i64 r.day, .int .i64 r.kn, .int .i64 r.un], .agg #[.int .i64 r2.src, .int .i64 r2.bor, .int .i64 r2.pap, .slice B m d, .int .i64 r2.day, .int .i64 r2.kn, .int .i64 r2.un]] w fun e w' => e = .returned (.bool v) ∧ Below w.heap.size w w' := by
 have HS : Hid (∀ (W : World) (q : Bool), Below w.heap.size w W → decide (r.lv = r2.lv) = q → Calls Tryz.prog 36 #[.slice A n c, .slice B m d] W fun e w' => e = .returned (.bool q) ∧ Below W.heap.size W w') := by
  show ∀ _, _
  exact fun W q hW hq => r_Same2 r.lv r2.lv q A B n c m d W hn hm (hx.now hW) (hy.now hW) hq
 clear hx hy
 by_cases h0 : r.src = r2.src
 ·have b0 : (r.src == r2.src) = true := by simpa using h0
  by_cases h1 : r.bor = r2.bor
  ·have b1 : (r.bor == r2.bor) = true := by simpa using h1
   by_cases h2 : r.pap = r2.pap
   ·have b2 : (r.pap == r2.pap) = true := by simpa using h2
    by_cases h3 : r.lv = r2.lv
    ·have HQ : Hid (decide (r.lv = r2.lv) = true) := by show _ = _; simpa using h3
     have K3 := Lib.hid h3
     by_cases h4 : r.day = r2.day
     ·have b4 : (r.day == r2.day) = true := by simpa using h4
      by_cases h5 : r.kn = r2.kn
      ·have b5 : (r.kn == r2.kn) = true := by simpa using h5
       by_cases h6 : r.un = r2.un
       ·have b6 : (r.un == r2.un) = true := by simpa using h6
        obtain rfl : v = true := by
         rw [← hv]
         apply decide_eq_true
         cases r; cases r2
         simp_all
        clear hv
        go_enter Tryz.func82, Tryz.ntmps82
        go_wp2_with (go_at_call 36; refine (HS.out _ _ (by exact bel_) HQ.out).mono ?_; rintro e w1 ⟨rfl, hb1⟩; obtain ⟨hc1, hf1⟩ := bcell hb1; have HB1 : Below w.heap.size w w1 := Below.then_ (by exact bel_) hb1; have hs1 := HB1.size)
        go_ret
        exact ⟨rfl, by exact bel_⟩
       ·have b6 : (r.un == r2.un) = false := by simpa using h6
        have HQ : Hid (decide (r.lv = r2.lv) = decide (r.lv = r2.lv)) := by show _ = _; rfl
        obtain rfl : v = false := by
         rw [← hv]
         apply decide_eq_false
         intro e
         exact h6 (by rw [e])
        clear hv
        go_enter Tryz.func82, Tryz.ntmps82
        go_wp2_with (go_at_call 36; refine (HS.out _ _ (by exact bel_) HQ.out).mono ?_; rintro e w1 ⟨rfl, hb1⟩; obtain ⟨hc1, hf1⟩ := bcell hb1; have HB1 : Below w.heap.size w w1 := Below.then_ (by exact bel_) hb1; have hs1 := HB1.size)
        go_ret
        exact ⟨rfl, by exact bel_⟩
      ·have b5 : (r.kn == r2.kn) = false := by simpa using h5
       have HQ : Hid (decide (r.lv = r2.lv) = decide (r.lv = r2.lv)) := by show _ = _; rfl
       obtain rfl : v = false := by
        rw [← hv]
        apply decide_eq_false
        intro e
        exact h5 (by rw [e])
       clear hv
       go_enter Tryz.func82, Tryz.ntmps82
       go_wp2_with (go_at_call 36; refine (HS.out _ _ (by exact bel_) HQ.out).mono ?_; rintro e w1 ⟨rfl, hb1⟩; obtain ⟨hc1, hf1⟩ := bcell hb1; have HB1 : Below w.heap.size w w1 := Below.then_ (by exact bel_) hb1; have hs1 := HB1.size)
       go_ret
       exact ⟨rfl, by exact bel_⟩
     ·have b4 : (r.day == r2.day) = false := by simpa using h4
      have HQ : Hid (decide (r.lv = r2.lv) = decide (r.lv = r2.lv)) := by show _ = _; rfl
      obtain rfl : v = false := by
       rw [← hv]
       apply decide_eq_false
       intro e
       exact h4 (by rw [e])
      clear hv
      go_enter Tryz.func82, Tryz.ntmps82
      go_wp2_with (go_at_call 36; refine (HS.out _ _ (by exact bel_) HQ.out).mono ?_; rintro e w1 ⟨rfl, hb1⟩; obtain ⟨hc1, hf1⟩ := bcell hb1; have HB1 : Below w.heap.size w w1 := Below.then_ (by exact bel_) hb1; have hs1 := HB1.size)
      go_ret
      exact ⟨rfl, by exact bel_⟩
    ·have HQ : Hid (decide (r.lv = r2.lv) = false) := by show _ = _; simpa using h3
     obtain rfl : v = false := by
      rw [← hv]
      apply decide_eq_false
      intro e
      exact h3 (by rw [e])
     clear h3
     clear hv
     go_enter Tryz.func82, Tryz.ntmps82
     go_wp2_with (go_at_call 36; refine (HS.out _ _ (by exact bel_) HQ.out).mono ?_; rintro e w1 ⟨rfl, hb1⟩; obtain ⟨hc1, hf1⟩ := bcell hb1; have HB1 : Below w.heap.size w w1 := Below.then_ (by exact bel_) hb1; have hs1 := HB1.size)
     go_ret
     exact ⟨rfl, by exact bel_⟩
   ·have b2 : (r.pap == r2.pap) = false := by simpa using h2
    have HQ : Hid (decide (r.lv = r2.lv) = decide (r.lv = r2.lv)) := by show _ = _; rfl
    obtain rfl : v = false := by
     rw [← hv]
     apply decide_eq_false
     intro e
     exact h2 (by rw [e])
    clear hv
    go_enter Tryz.func82, Tryz.ntmps82
    go_wp2_with (go_at_call 36; refine (HS.out _ _ (by exact bel_) HQ.out).mono ?_; rintro e w1 ⟨rfl, hb1⟩; obtain ⟨hc1, hf1⟩ := bcell hb1; have HB1 : Below w.heap.size w w1 := Below.then_ (by exact bel_) hb1; have hs1 := HB1.size)
    go_ret
    exact ⟨rfl, by exact bel_⟩
  ·have b1 : (r.bor == r2.bor) = false := by simpa using h1
   have HQ : Hid (decide (r.lv = r2.lv) = decide (r.lv = r2.lv)) := by show _ = _; rfl
   obtain rfl : v = false := by
    rw [← hv]
    apply decide_eq_false
    intro e
    exact h1 (by rw [e])
   clear hv
   go_enter Tryz.func82, Tryz.ntmps82
   go_wp2_with (go_at_call 36; refine (HS.out _ _ (by exact bel_) HQ.out).mono ?_; rintro e w1 ⟨rfl, hb1⟩; obtain ⟨hc1, hf1⟩ := bcell hb1; have HB1 : Below w.heap.size w w1 := Below.then_ (by exact bel_) hb1; have hs1 := HB1.size)
   go_ret
   exact ⟨rfl, by exact bel_⟩
 ·have b0 : (r.src == r2.src) = false := by simpa using h0
  have HQ : Hid (decide (r.lv = r2.lv) = decide (r.lv = r2.lv)) := by show _ = _; rfl
  obtain rfl : v = false := by
   rw [← hv]
   apply decide_eq_false
   intro e
   exact h0 (by rw [e])
  clear hv
  go_enter Tryz.func82, Tryz.ntmps82
  go_wp2_with (go_at_call 36; refine (HS.out _ _ (by exact bel_) HQ.out).mono ?_; rintro e w1 ⟨rfl, hb1⟩; obtain ⟨hc1, hf1⟩ := bcell hb1; have HB1 : Below w.heap.size w w1 := Below.then_ (by exact bel_) hb1; have hs1 := HB1.size)
  go_ret
  exact ⟨rfl, by exact bel_⟩
set_option maxHeartbeats 4000000 in
theorem r_sameReturn (r r2 : Rtn) (v : Bool) (A B : Option Addr) (n c m d : Nat) (w : World) (hn : n ≤ 1000000) (hm : m ≤ 1000000) (hx : Is w w.heap.size A n r.lv) (hy : Is w w.heap.size B m r2.lv) (hv : decide (r = r2) = v) :
 Calls Tryz.prog 83 #[.agg #[.int .i64 r.src, .int .i64 r.rcp, .int .i64 r.per, .slice A n c, .int .i64 r.lo, .int .i64 r.hi, .int .i64 r.kn, .int .i64 r.un], .agg #[.int .i64 r2.src, .int .i64 r2.rcp, .int .i64 r2.per, .slice B m d, .int .i64 r2.lo, .int .i64 r2.hi, .int .i64 r2.kn, .int .i64 r2.un]] w fun e w' => e = .returned (.bool v) ∧ Below w.heap.size w w' := by
 have HS : Hid (∀ (W : World) (q : Bool), Below w.heap.size w W → decide (r.lv = r2.lv) = q → Calls Tryz.prog 36 #[.slice A n c, .slice B m d] W fun e w' => e = .returned (.bool q) ∧ Below W.heap.size W w') := by
  show ∀ _, _
  exact fun W q hW hq => r_Same2 r.lv r2.lv q A B n c m d W hn hm (hx.now hW) (hy.now hW) hq
 clear hx hy
 by_cases h0 : r.src = r2.src
 ·have b0 : (r.src == r2.src) = true := by simpa using h0
  by_cases h1 : r.rcp = r2.rcp
  ·have b1 : (r.rcp == r2.rcp) = true := by simpa using h1
   by_cases h2 : r.per = r2.per
   ·have b2 : (r.per == r2.per) = true := by simpa using h2
    by_cases h3 : r.lv = r2.lv
    ·have HQ : Hid (decide (r.lv = r2.lv) = true) := by show _ = _; simpa using h3
     have K3 := Lib.hid h3
     by_cases h4 : r.lo = r2.lo
     ·have b4 : (r.lo == r2.lo) = true := by simpa using h4
      by_cases h5 : r.hi = r2.hi
      ·have b5 : (r.hi == r2.hi) = true := by simpa using h5
       by_cases h6 : r.kn = r2.kn
       ·have b6 : (r.kn == r2.kn) = true := by simpa using h6
        by_cases h7 : r.un = r2.un
        ·have b7 : (r.un == r2.un) = true := by simpa using h7
         obtain rfl : v = true := by
          rw [← hv]
          apply decide_eq_true
          cases r; cases r2
          simp_all
         clear hv
         go_enter Tryz.func83, Tryz.ntmps83
         go_wp2_with (go_at_call 36; refine (HS.out _ _ (by exact bel_) HQ.out).mono ?_; rintro e w1 ⟨rfl, hb1⟩; obtain ⟨hc1, hf1⟩ := bcell hb1; have HB1 : Below w.heap.size w w1 := Below.then_ (by exact bel_) hb1; have hs1 := HB1.size)
         go_ret
         exact ⟨rfl, by exact bel_⟩
        ·have b7 : (r.un == r2.un) = false := by simpa using h7
         have HQ : Hid (decide (r.lv = r2.lv) = decide (r.lv = r2.lv)) := by show _ = _; rfl
         obtain rfl : v = false := by
          rw [← hv]
          apply decide_eq_false
          intro e
          exact h7 (by rw [e])
         clear hv
         go_enter Tryz.func83, Tryz.ntmps83
         go_wp2_with (go_at_call 36; refine (HS.out _ _ (by exact bel_) HQ.out).mono ?_; rintro e w1 ⟨rfl, hb1⟩; obtain ⟨hc1, hf1⟩ := bcell hb1; have HB1 : Below w.heap.size w w1 := Below.then_ (by exact bel_) hb1; have hs1 := HB1.size)
         go_ret
         exact ⟨rfl, by exact bel_⟩
       ·have b6 : (r.kn == r2.kn) = false := by simpa using h6
        have HQ : Hid (decide (r.lv = r2.lv) = decide (r.lv = r2.lv)) := by show _ = _; rfl
        obtain rfl : v = false := by
         rw [← hv]
         apply decide_eq_false
         intro e
         exact h6 (by rw [e])
        clear hv
        go_enter Tryz.func83, Tryz.ntmps83
        go_wp2_with (go_at_call 36; refine (HS.out _ _ (by exact bel_) HQ.out).mono ?_; rintro e w1 ⟨rfl, hb1⟩; obtain ⟨hc1, hf1⟩ := bcell hb1; have HB1 : Below w.heap.size w w1 := Below.then_ (by exact bel_) hb1; have hs1 := HB1.size)
        go_ret
        exact ⟨rfl, by exact bel_⟩
      ·have b5 : (r.hi == r2.hi) = false := by simpa using h5
       have HQ : Hid (decide (r.lv = r2.lv) = decide (r.lv = r2.lv)) := by show _ = _; rfl
       obtain rfl : v = false := by
        rw [← hv]
        apply decide_eq_false
        intro e
        exact h5 (by rw [e])
       clear hv
       go_enter Tryz.func83, Tryz.ntmps83
       go_wp2_with (go_at_call 36; refine (HS.out _ _ (by exact bel_) HQ.out).mono ?_; rintro e w1 ⟨rfl, hb1⟩; obtain ⟨hc1, hf1⟩ := bcell hb1; have HB1 : Below w.heap.size w w1 := Below.then_ (by exact bel_) hb1; have hs1 := HB1.size)
       go_ret
       exact ⟨rfl, by exact bel_⟩
     ·have b4 : (r.lo == r2.lo) = false := by simpa using h4
      have HQ : Hid (decide (r.lv = r2.lv) = decide (r.lv = r2.lv)) := by show _ = _; rfl
      obtain rfl : v = false := by
       rw [← hv]
       apply decide_eq_false
       intro e
       exact h4 (by rw [e])
      clear hv
      go_enter Tryz.func83, Tryz.ntmps83
      go_wp2_with (go_at_call 36; refine (HS.out _ _ (by exact bel_) HQ.out).mono ?_; rintro e w1 ⟨rfl, hb1⟩; obtain ⟨hc1, hf1⟩ := bcell hb1; have HB1 : Below w.heap.size w w1 := Below.then_ (by exact bel_) hb1; have hs1 := HB1.size)
      go_ret
      exact ⟨rfl, by exact bel_⟩
    ·have HQ : Hid (decide (r.lv = r2.lv) = false) := by show _ = _; simpa using h3
     obtain rfl : v = false := by
      rw [← hv]
      apply decide_eq_false
      intro e
      exact h3 (by rw [e])
     clear h3
     clear hv
     go_enter Tryz.func83, Tryz.ntmps83
     go_wp2_with (go_at_call 36; refine (HS.out _ _ (by exact bel_) HQ.out).mono ?_; rintro e w1 ⟨rfl, hb1⟩; obtain ⟨hc1, hf1⟩ := bcell hb1; have HB1 : Below w.heap.size w w1 := Below.then_ (by exact bel_) hb1; have hs1 := HB1.size)
     go_ret
     exact ⟨rfl, by exact bel_⟩
   ·have b2 : (r.per == r2.per) = false := by simpa using h2
    have HQ : Hid (decide (r.lv = r2.lv) = decide (r.lv = r2.lv)) := by show _ = _; rfl
    obtain rfl : v = false := by
     rw [← hv]
     apply decide_eq_false
     intro e
     exact h2 (by rw [e])
    clear hv
    go_enter Tryz.func83, Tryz.ntmps83
    go_wp2_with (go_at_call 36; refine (HS.out _ _ (by exact bel_) HQ.out).mono ?_; rintro e w1 ⟨rfl, hb1⟩; obtain ⟨hc1, hf1⟩ := bcell hb1; have HB1 : Below w.heap.size w w1 := Below.then_ (by exact bel_) hb1; have hs1 := HB1.size)
    go_ret
    exact ⟨rfl, by exact bel_⟩
  ·have b1 : (r.rcp == r2.rcp) = false := by simpa using h1
   have HQ : Hid (decide (r.lv = r2.lv) = decide (r.lv = r2.lv)) := by show _ = _; rfl
   obtain rfl : v = false := by
    rw [← hv]
    apply decide_eq_false
    intro e
    exact h1 (by rw [e])
   clear hv
   go_enter Tryz.func83, Tryz.ntmps83
   go_wp2_with (go_at_call 36; refine (HS.out _ _ (by exact bel_) HQ.out).mono ?_; rintro e w1 ⟨rfl, hb1⟩; obtain ⟨hc1, hf1⟩ := bcell hb1; have HB1 : Below w.heap.size w w1 := Below.then_ (by exact bel_) hb1; have hs1 := HB1.size)
   go_ret
   exact ⟨rfl, by exact bel_⟩
 ·have b0 : (r.src == r2.src) = false := by simpa using h0
  have HQ : Hid (decide (r.lv = r2.lv) = decide (r.lv = r2.lv)) := by show _ = _; rfl
  obtain rfl : v = false := by
   rw [← hv]
   apply decide_eq_false
   intro e
   exact h0 (by rw [e])
  clear hv
  go_enter Tryz.func83, Tryz.ntmps83
  go_wp2_with (go_at_call 36; refine (HS.out _ _ (by exact bel_) HQ.out).mono ?_; rintro e w1 ⟨rfl, hb1⟩; obtain ⟨hc1, hf1⟩ := bcell hb1; have HB1 : Below w.heap.size w w1 := Below.then_ (by exact bel_) hb1; have hs1 := HB1.size)
  go_ret
  exact ⟨rfl, by exact bel_⟩
end Go.Proofs.YtklikciiaogpbaaGreat
/- Layer 2, the reference: SameLedger. -/
namespace Go.Proofs.YtklikciiaogpbaaGreat
open Go.RowKit Go.Maps
instance : DecidableEq Led := fun a b => decidable_of_iff (a.pp = b.pp ∧ a.rc = b.rc ∧ a.rt = b.rt ∧ a.sg = b.sg) (by cases a; cases b; simp)
set_option maxRecDepth 100000 in
set_option maxHeartbeats 16000000 in
theorem r_SameLedger (l1 l2 : Led) (x y : Lsl) (v : Bool) (w : World) (h1 : LedIn w w.heap.size x l1) (h2 : LedIn w w.heap.size y l2)
 (hn1 : (x.pn ≤ 1000000 ∧ x.rn ≤ 1000000 ∧ x.tn ≤ 1000000 ∧ x.sn ≤ 1000000) ∧ (∀ r ∈ l1.rc, r.lv.length ≤ 1000000) ∧ ∀ r ∈ l1.rt, r.lv.length ≤ 1000000) (hn2 : (y.pn ≤ 1000000 ∧ y.rn ≤ 1000000 ∧ y.tn ≤ 1000000 ∧ y.sn ≤ 1000000) ∧ (∀ r ∈ l2.rc, r.lv.length ≤ 1000000) ∧ ∀ r ∈ l2.rt, r.lv.length ≤ 1000000) (hv : decide (l1 = l2) = v) :
 Calls Tryz.prog 16 #[.agg #[.slice x.pA x.pn x.pc, .slice x.rA x.rn x.rc, .slice x.tA x.tn x.tc, .slice x.sA x.sn x.sc], .agg #[.slice y.pA y.pn y.pc, .slice y.rA y.rn y.rc, .slice y.tA y.tn y.tc, .slice y.sA y.sn y.sc]] w fun e w' => e = .returned (.bool v) ∧ Below w.heap.size w w' := by
 obtain ⟨pA, pn, pc, rA, rn, rc, tA, tn, tc, sA, sn, sc⟩ := x
 obtain ⟨pB, qn, qc, rB, un, uc, tB, vn, vc, sB, zn, zc⟩ := y
 show Calls _ _ #[.agg #[.slice pA pn pc, .slice rA rn rc, .slice tA tn tc, .slice sA sn sc], .agg #[.slice pB qn qc, .slice rB un uc, .slice tB vn vc, .slice sB zn zc]] _ _
 have Hp1 : Hid (Pps w w.heap.size pA pn l1.pp) := by show Sq _ _ _ _ _ _ _; exact h1.p
 have Hr1 : Hid (Rcs w w.heap.size rA rn l1.rc) := by show Sq _ _ _ _ _ _ _; exact h1.r
 have Ht1 : Hid (Rts w w.heap.size tA tn l1.rt) := by show Sq _ _ _ _ _ _ _; exact h1.t
 have Hs1 : Hid (Sgs w w.heap.size sA sn l1.sg) := by show Sq _ _ _ _ _ _ _; exact h1.s
 have Hp2 : Hid (Pps w w.heap.size pB qn l2.pp) := by show Sq _ _ _ _ _ _ _; exact h2.p
 have Hr2 : Hid (Rcs w w.heap.size rB un l2.rc) := by show Sq _ _ _ _ _ _ _; exact h2.r
 have Ht2 : Hid (Rts w w.heap.size tB vn l2.rt) := by show Sq _ _ _ _ _ _ _; exact h2.t
 have Hs2 : Hid (Sgs w w.heap.size sB zn l2.sg) := by show Sq _ _ _ _ _ _ _; exact h2.s
 have HLr1 := Lib.hid hn1.2.1
 have HLt1 := Lib.hid hn1.2.2
 have HLr2 := Lib.hid hn2.2.1
 have HLt2 := Lib.hid hn2.2.2
 obtain ⟨⟨b1, b2, b3, b4⟩, _⟩ := hn1
 obtain ⟨⟨b5, b6, b7, b8⟩, _⟩ := hn2
 dsimp only at b1 b2 b3 b4 b5 b6 b7 b8
 have HV := Lib.hid hv
 clear h1 h2 hv
 by_cases e0 : pn = qn
 ·subst e0
  by_cases e1 : rn = un
  ·subst e1
   by_cases e2 : tn = vn
   ·subst e2
    by_cases e3 : sn = zn
    ·subst e3
     go_enter Tryz.func16, Tryz.ntmps16
     go_wp2
     go_loopw [5] (fun i wr => ∃ k : Nat, k ≤ pn ∧ i = .int .i64 k ∧ l1.pp.take k = l2.pp.take k ∧ Below w.heap.size w wr ∧ BoxA wr w.heap.size 27 #[.slice pA pn pc, .slice rA rn rc, .slice tA tn tc, .slice sA sn sc] ∧ BoxA wr (w.heap.size + 1) 27 #[.slice pB pn qc, .slice rB rn uc, .slice tB tn vc, .slice sB sn zc]) (fun i _ => pn - (intOf i).toNat)
     case atStart => exact ⟨0, by omega, rfl, by simp, by exact bel_, (BoxA.new _ _ _).alloc _, by have h := BoxA.new (w.alloc (.cells #[.slice pA pn pc, .slice rA rn rc, .slice tA tn tc, .slice sA sn sc] 27)) 27 #[.slice pB pn qc, .slice rB rn uc, .slice tB tn vc, .slice sB sn zc]; simpa using h⟩
     case round =>
      obtain ⟨k, hk, rfl, hpre, hB, b1, b2⟩ := hrel
      have HP := Lib.hid hpre
      clear hpre
      have hs0 : w.heap.size ≤ wr.heap.size := hB.size
      have k1 := b1.cell
      have k2 := b2.cell
      have z1 := b1.lt
      have z2 := b2.lt
      by_cases hlt : k < pn
      ·obtain ⟨b, o, x, rfl, hb, hxk, hc0, hc1⟩ := (Sq.ext Hp1.out abP hB (Nat.le_refl _)).at_ hlt
       obtain ⟨b', o', y, rfl, hb', hyk, hd0, hd1⟩ := (Sq.ext Hp2.out abP hB (Nat.le_refl _)).at_ hlt
       have HS := Lib.hid (take_eq_succ2 hxk hyk HP.out)
       clear hxk hyk
       have hbr : b < wr.heap.size := by omega
       have hbr' : b' < wr.heap.size := by omega
       by_cases h0 : x.id = y.id
       ·by_cases h1 : x.lv = y.lv
        ·have HXY : Hid (x = y) := by show _ = _; cases x; cases y; simp_all
         have e0 := hd0
         rw [← h0] at hd0
         rw [← h1] at hd1
         clear h0 h1 e0
         go_wp2_with fail
         (refine wp_region_grow (by kernel_rfl) (by kernel_rfl) ?_; (repeat (go_big_quiet_step ((first | fail)))); refine wpQuiet_nil ?_; rintro w1 ⟨⟨_, hb1⟩, rfl⟩; (try dsimp only at hb1 ⊢); obtain ⟨hc1, hf1⟩ := bcell hb1)
         go_wp2_with fail
         go_roundw
         case rel => exact ⟨k + 1, by omega, by go_num, HS.out.2 HXY.out, Below.then_ hB hb1, b1.ext hb1, b2.ext hb1⟩
         case measure => simp [intOf]; omega
        ·have HXY : Hid (¬ x = y) := by show ¬ _; intro e; exact h1 (by rw [e])
         rw [← h0] at hd0
         go_wp2_with fail
         (refine wp_region_grow (by kernel_rfl) (by kernel_rfl) ?_; (repeat (go_big_quiet_step ((first | fail)))); refine wpQuiet_nil ?_; rintro w1 ⟨⟨_, hb1⟩, rfl⟩; (try dsimp only at hb1 ⊢); obtain ⟨hc1, hf1⟩ := bcell hb1)
         go_wp2_with fail
         go_ret
         refine ⟨ret_bool ?_, Below.then_ hB hb1⟩
         rw [← HV.out]
         symm
         apply decide_eq_false
         intro e
         exact HXY.out (HS.out.1 (by rw [e]))
       ·have HXY : Hid (¬ x = y) := by show ¬ _; intro e; exact h0 (by rw [e])
        go_wp2_with fail
        (refine wp_region_grow (by kernel_rfl) (by kernel_rfl) ?_; (repeat (go_big_quiet_step ((first | fail)))); refine wpQuiet_nil ?_; rintro w1 ⟨⟨_, hb1⟩, rfl⟩; (try dsimp only at hb1 ⊢); obtain ⟨hc1, hf1⟩ := bcell hb1)
        go_wp2_with fail
        go_ret
        refine ⟨ret_bool ?_, Below.then_ hB hb1⟩
        rw [← HV.out]
        symm
        apply decide_eq_false
        intro e
        exact HXY.out (HS.out.1 (by rw [e]))
      ·have hkn : Hid (k = pn) := by show _ = _; omega
       have HEp : Hid (l1.pp = l2.pp) := by
        show _ = _
        have h1 := HP.out
        rwa [List.take_of_length_le (by rw [Hp1.out.len, hkn.out]; exact Nat.le_refl _), List.take_of_length_le (by rw [Hp2.out.len, hkn.out]; exact Nat.le_refl _)] at h1
       clear HP
       go_wp2
       clear k1 k2 z1 z2 hs0 hk hlt
       go_loopw [6] (fun i wr => ∃ k : Nat, k ≤ rn ∧ i = .int .i64 k ∧ l1.rc.take k = l2.rc.take k ∧ Below w.heap.size w wr ∧ BoxA wr w.heap.size 27 #[.slice pA pn pc, .slice rA rn rc, .slice tA tn tc, .slice sA sn sc] ∧ BoxA wr (w.heap.size + 1) 27 #[.slice pB pn qc, .slice rB rn uc, .slice tB tn vc, .slice sB sn zc]) (fun i _ => rn - (intOf i).toNat)
       case atStart => exact ⟨0, by omega, rfl, by simp, hB, b1, b2⟩
       case round =>
        obtain ⟨k, hk, rfl, hpre, hB, b1, b2⟩ := hrel
        have HP := Lib.hid hpre
        clear hpre
        have hs0 : w.heap.size ≤ wr.heap.size := hB.size
        have k1 := b1.cell
        have k2 := b2.cell
        have z1 := b1.lt
        have z2 := b2.lt
        by_cases hlt : k < rn
        ·obtain ⟨b, o, x, rfl, hb, hxk, A1, n1, c1, ⟨hc0, hc1, hc2, hc3, hc4, hc5, hc6⟩, hi1, hle1, hm1⟩ := (Sq.ext Hr1.out abR hB (Nat.le_refl _)).at_ hlt
         obtain ⟨b', o', y, rfl, hb', hyk, A2, n2, c2, ⟨hd0, hd1, hd2, hd3, hd4, hd5, hd6⟩, hi2, hle2, hm2⟩ := (Sq.ext Hr2.out abR hB (Nat.le_refl _)).at_ hlt
         have hx1 := HLr1.out x (List.mem_of_getElem? hxk)
         have hy1 := HLr2.out y (List.mem_of_getElem? hyk)
         have hn1 : n1 ≤ 1000000 := by rw [← hi1.len]; exact hx1
         have hn2 : n2 ≤ 1000000 := by rw [← hi2.len]; exact hy1
         have HS := Lib.hid (take_eq_succ2 hxk hyk HP.out)
         clear hxk hyk hx1 hy1
         have hbr : b < wr.heap.size := by omega
         have hbr' : b' < wr.heap.size := by omega
         have HI1 : Hid (Is wr wr.heap.size A1 n1 x.lv) := by show Is _ _ _ _ _; exact Is.more hi1 hs0
         have HI2 : Hid (Is wr wr.heap.size A2 n2 y.lv) := by show Is _ _ _ _ _; exact Is.more hi2 hs0
         clear hi1 hi2
         cases hq : decide (x = y) with
         | true =>
           have HQ := Lib.hid hq
           have HXY : Hid (x = y) := by show _ = _; exact of_decide_eq_true hq
           clear hq
           go_wp2_with fail
           (refine wp_region_grow (by kernel_rfl) (by kernel_rfl) ?_; (repeat (go_big_quiet_step ((first | (go_at_call_of 82 (Value.agg #[.int .i64 x.src, .int .i64 x.bor, .int .i64 x.pap, .slice A1 n1 c1, .int .i64 x.day, .int .i64 x.kn, .int .i64 x.un]); exact Calls.grow_all (fun g => r_sameReceipt x y true A1 A2 n1 c1 n2 c2 g.1 hn1 hn2 (HI1.out.now g.2) (HI2.out.now g.2) HQ.out)))))); refine wpQuiet_nil ?_; rintro w1 ⟨⟨_, hb1⟩, rfl⟩; (try dsimp only at hb1 ⊢); obtain ⟨hc1, hf1⟩ := bcell hb1)
           go_wp2_with fail
           go_roundw
           case rel => exact ⟨k + 1, by omega, by go_num, HS.out.2 HXY.out, Below.then_ hB hb1, b1.ext hb1, b2.ext hb1⟩
           case measure => simp [intOf]; omega
         | false =>
           have HQ := Lib.hid hq
           have HXY : Hid (¬ x = y) := by show ¬ _; exact of_decide_eq_false hq
           clear hq
           go_wp2_with fail
           (refine wp_region_grow (by kernel_rfl) (by kernel_rfl) ?_; (repeat (go_big_quiet_step ((first | (go_at_call_of 82 (Value.agg #[.int .i64 x.src, .int .i64 x.bor, .int .i64 x.pap, .slice A1 n1 c1, .int .i64 x.day, .int .i64 x.kn, .int .i64 x.un]); exact Calls.grow_all (fun g => r_sameReceipt x y false A1 A2 n1 c1 n2 c2 g.1 hn1 hn2 (HI1.out.now g.2) (HI2.out.now g.2) HQ.out)))))); refine wpQuiet_nil ?_; rintro w1 ⟨⟨_, hb1⟩, rfl⟩; (try dsimp only at hb1 ⊢); obtain ⟨hc1, hf1⟩ := bcell hb1)
           go_wp2_with fail
           go_ret
           refine ⟨ret_bool ?_, Below.then_ hB hb1⟩
           rw [← HV.out]
           symm
           apply decide_eq_false
           intro e
           exact HXY.out (HS.out.1 (by rw [e]))
        ·have hkn : Hid (k = rn) := by show _ = _; omega
         have HEr : Hid (l1.rc = l2.rc) := by
          show _ = _
          have h1 := HP.out
          rwa [List.take_of_length_le (by rw [Hr1.out.len, hkn.out]; exact Nat.le_refl _), List.take_of_length_le (by rw [Hr2.out.len, hkn.out]; exact Nat.le_refl _)] at h1
         clear HP
         go_wp2
         clear k1 k2 z1 z2 hs0 hk hlt
         go_loopw [7] (fun i wr => ∃ k : Nat, k ≤ tn ∧ i = .int .i64 k ∧ l1.rt.take k = l2.rt.take k ∧ Below w.heap.size w wr ∧ BoxA wr w.heap.size 27 #[.slice pA pn pc, .slice rA rn rc, .slice tA tn tc, .slice sA sn sc] ∧ BoxA wr (w.heap.size + 1) 27 #[.slice pB pn qc, .slice rB rn uc, .slice tB tn vc, .slice sB sn zc]) (fun i _ => tn - (intOf i).toNat)
         case atStart => exact ⟨0, by omega, rfl, by simp, hB, b1, b2⟩
         case round =>
          obtain ⟨k, hk, rfl, hpre, hB, b1, b2⟩ := hrel
          have HP := Lib.hid hpre
          clear hpre
          have hs0 : w.heap.size ≤ wr.heap.size := hB.size
          have k1 := b1.cell
          have k2 := b2.cell
          have z1 := b1.lt
          have z2 := b2.lt
          by_cases hlt : k < tn
          ·obtain ⟨b, o, x, rfl, hb, hxk, A1, n1, c1, ⟨hc0, hc1, hc2, hc3, hc4, hc5, hc6, hc7⟩, hi1, hle1, hm1⟩ := (Sq.ext Ht1.out abT hB (Nat.le_refl _)).at_ hlt
           obtain ⟨b', o', y, rfl, hb', hyk, A2, n2, c2, ⟨hd0, hd1, hd2, hd3, hd4, hd5, hd6, hd7⟩, hi2, hle2, hm2⟩ := (Sq.ext Ht2.out abT hB (Nat.le_refl _)).at_ hlt
           have hx1 := HLt1.out x (List.mem_of_getElem? hxk)
           have hy1 := HLt2.out y (List.mem_of_getElem? hyk)
           have hn1 : n1 ≤ 1000000 := by rw [← hi1.len]; exact hx1
           have hn2 : n2 ≤ 1000000 := by rw [← hi2.len]; exact hy1
           have HS := Lib.hid (take_eq_succ2 hxk hyk HP.out)
           clear hxk hyk hx1 hy1
           have hbr : b < wr.heap.size := by omega
           have hbr' : b' < wr.heap.size := by omega
           have HI1 : Hid (Is wr wr.heap.size A1 n1 x.lv) := by show Is _ _ _ _ _; exact Is.more hi1 hs0
           have HI2 : Hid (Is wr wr.heap.size A2 n2 y.lv) := by show Is _ _ _ _ _; exact Is.more hi2 hs0
           clear hi1 hi2
           cases hq : decide (x = y) with
           | true =>
             have HQ := Lib.hid hq
             have HXY : Hid (x = y) := by show _ = _; exact of_decide_eq_true hq
             clear hq
             go_wp2_with fail
             (refine wp_region_grow (by kernel_rfl) (by kernel_rfl) ?_; (repeat (go_big_quiet_step ((first | (go_at_call_of 83 (Value.agg #[.int .i64 x.src, .int .i64 x.rcp, .int .i64 x.per, .slice A1 n1 c1, .int .i64 x.lo, .int .i64 x.hi, .int .i64 x.kn, .int .i64 x.un]); exact Calls.grow_all (fun g => r_sameReturn x y true A1 A2 n1 c1 n2 c2 g.1 hn1 hn2 (HI1.out.now g.2) (HI2.out.now g.2) HQ.out)))))); refine wpQuiet_nil ?_; rintro w1 ⟨⟨_, hb1⟩, rfl⟩; (try dsimp only at hb1 ⊢); obtain ⟨hc1, hf1⟩ := bcell hb1)
             go_wp2_with fail
             go_roundw
             case rel => exact ⟨k + 1, by omega, by go_num, HS.out.2 HXY.out, Below.then_ hB hb1, b1.ext hb1, b2.ext hb1⟩
             case measure => simp [intOf]; omega
           | false =>
             have HQ := Lib.hid hq
             have HXY : Hid (¬ x = y) := by show ¬ _; exact of_decide_eq_false hq
             clear hq
             go_wp2_with fail
             (refine wp_region_grow (by kernel_rfl) (by kernel_rfl) ?_; (repeat (go_big_quiet_step ((first | (go_at_call_of 83 (Value.agg #[.int .i64 x.src, .int .i64 x.rcp, .int .i64 x.per, .slice A1 n1 c1, .int .i64 x.lo, .int .i64 x.hi, .int .i64 x.kn, .int .i64 x.un]); exact Calls.grow_all (fun g => r_sameReturn x y false A1 A2 n1 c1 n2 c2 g.1 hn1 hn2 (HI1.out.now g.2) (HI2.out.now g.2) HQ.out)))))); refine wpQuiet_nil ?_; rintro w1 ⟨⟨_, hb1⟩, rfl⟩; (try dsimp only at hb1 ⊢); obtain ⟨hc1, hf1⟩ := bcell hb1)
             go_wp2_with fail
             go_ret
             refine ⟨ret_bool ?_, Below.then_ hB hb1⟩
             rw [← HV.out]
             symm
             apply decide_eq_false
             intro e
             exact HXY.out (HS.out.1 (by rw [e]))
          ·have hkn : Hid (k = tn) := by show _ = _; omega
           have HEt : Hid (l1.rt = l2.rt) := by
            show _ = _
            have h1 := HP.out
            rwa [List.take_of_length_le (by rw [Ht1.out.len, hkn.out]; exact Nat.le_refl _), List.take_of_length_le (by rw [Ht2.out.len, hkn.out]; exact Nat.le_refl _)] at h1
           clear HP
           go_wp2
           clear k1 k2 z1 z2 hs0 hk hlt
           go_loopw [8] (fun i wr => ∃ k : Nat, k ≤ sn ∧ i = .int .i64 k ∧ l1.sg.take k = l2.sg.take k ∧ Below w.heap.size w wr ∧ BoxA wr w.heap.size 27 #[.slice pA pn pc, .slice rA rn rc, .slice tA tn tc, .slice sA sn sc] ∧ BoxA wr (w.heap.size + 1) 27 #[.slice pB pn qc, .slice rB rn uc, .slice tB tn vc, .slice sB sn zc]) (fun i _ => sn - (intOf i).toNat)
           case atStart => exact ⟨0, by omega, rfl, by simp, hB, b1, b2⟩
           case round =>
            obtain ⟨k, hk, rfl, hpre, hB, b1, b2⟩ := hrel
            have HP := Lib.hid hpre
            clear hpre
            have hs0 : w.heap.size ≤ wr.heap.size := hB.size
            have k1 := b1.cell
            have k2 := b2.cell
            have z1 := b1.lt
            have z2 := b2.lt
            by_cases hlt : k < sn
            ·obtain ⟨b, o, x, rfl, hb, hxk, hc0, hc1, hc2, hc3, hc4, hc5, hc6⟩ := (Sq.ext Hs1.out abS hB (Nat.le_refl _)).at_ hlt
             obtain ⟨b', o', y, rfl, hb', hyk, hd0, hd1, hd2, hd3, hd4, hd5, hd6⟩ := (Sq.ext Hs2.out abS hB (Nat.le_refl _)).at_ hlt
             have HS := Lib.hid (take_eq_succ2 hxk hyk HP.out)
             clear hxk hyk
             have hbr : b < wr.heap.size := by omega
             have hbr' : b' < wr.heap.size := by omega
             by_cases hxy : x = y
             ·have HXY := Lib.hid hxy
              subst hxy
              go_wp2_with fail
              (refine wp_region_grow (by kernel_rfl) (by kernel_rfl) ?_; (repeat (go_big_quiet_step ((first | fail)))); refine wpQuiet_nil ?_; rintro w1 ⟨⟨_, hb1⟩, rfl⟩; (try dsimp only at hb1 ⊢); obtain ⟨hc1, hf1⟩ := bcell hb1)
              go_wp2_with fail
              go_roundw
              case rel => exact ⟨k + 1, by omega, by go_num, HS.out.2 HXY.out, Below.then_ hB hb1, b1.ext hb1, b2.ext hb1⟩
              case measure => simp [intOf]; omega
             ·have HXY := Lib.hid hxy
              rcases sgt_ne hxy with hq | hq | hq | hq | hq | hq | hq
              all_goals
               clear hxy
               go_wp2_with fail
               (refine wp_region_grow (by kernel_rfl) (by kernel_rfl) ?_; (repeat (go_big_quiet_step ((first | fail)))); refine wpQuiet_nil ?_; rintro w1 ⟨⟨_, hb1⟩, rfl⟩; (try dsimp only at hb1 ⊢); obtain ⟨hc1, hf1⟩ := bcell hb1)
               go_wp2_with fail
               go_ret
               refine ⟨ret_bool ?_, Below.then_ hB hb1⟩
               rw [← HV.out]
               symm
               apply decide_eq_false
               intro e
               exact HXY.out (HS.out.1 (by rw [e]))
            ·have hkn : Hid (k = sn) := by show _ = _; omega
             have HEs : Hid (l1.sg = l2.sg) := by
              show _ = _
              have h1 := HP.out
              rwa [List.take_of_length_le (by rw [Hs1.out.len, hkn.out]; exact Nat.le_refl _), List.take_of_length_le (by rw [Hs2.out.len, hkn.out]; exact Nat.le_refl _)] at h1
             clear HP
             go_wp2
             go_ret
             refine ⟨ret_bool ?_, hB⟩
             rw [← HV.out]
             symm
             apply decide_eq_true
             cases l1; cases l2
             simp only [Led.mk.injEq]
             exact ⟨HEp.out, HEr.out, HEt.out, HEs.out⟩
    ·have d3 : (((sn : Nat) : Int) != ((zn : Nat) : Int)) = true := by simp; omega
     go_enter Tryz.func16, Tryz.ntmps16
     go_wp2
     go_ret
     refine ⟨ret_bool ?_, by exact bel_⟩
     rw [← HV.out]
     symm
     apply decide_eq_false
     intro e
     exact e3 (by rw [← Hs1.out.len, ← Hs2.out.len, e])
   ·have d2 : (((tn : Nat) : Int) != ((vn : Nat) : Int)) = true := by simp; omega
    go_enter Tryz.func16, Tryz.ntmps16
    go_wp2
    go_ret
    refine ⟨ret_bool ?_, by exact bel_⟩
    rw [← HV.out]
    symm
    apply decide_eq_false
    intro e
    exact e2 (by rw [← Ht1.out.len, ← Ht2.out.len, e])
  ·have d1 : (((rn : Nat) : Int) != ((un : Nat) : Int)) = true := by simp; omega
   go_enter Tryz.func16, Tryz.ntmps16
   go_wp2
   go_ret
   refine ⟨ret_bool ?_, by exact bel_⟩
   rw [← HV.out]
   symm
   apply decide_eq_false
   intro e
   exact e1 (by rw [← Hr1.out.len, ← Hr2.out.len, e])
 ·have d0 : (((pn : Nat) : Int) != ((qn : Nat) : Int)) = true := by simp; omega
  go_enter Tryz.func16, Tryz.ntmps16
  go_wp2
  go_ret
  refine ⟨ret_bool ?_, by exact bel_⟩
  rw [← HV.out]
  symm
  apply decide_eq_false
  intro e
  exact e0 (by rw [← Hp1.out.len, ← Hp2.out.len, e])
end Go.Proofs.YtklikciiaogpbaaGreat
