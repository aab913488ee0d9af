import Derived.Test.YtikioiblaoimkaaGreatDoorB8
import Derived.Test.YtikioiblaoimkaaGreatDoorZ1
import Derived.Test.YtikioiblaoimkaaGreatDoorB6
import Derived.Deep.RegionHeld3
set_option linter.unusedVariables false
set_option linter.unusedSimpArgs false

/- The reference's SameDeeds. -/
namespace Go.Proofs.YtikioiblaoimkaaGreatDoor
open Go.RowKit

set_option maxHeartbeats 1000000 in
theorem r_sameDeeds (xs ys : List Deed) (v : Bool) (A B : Option Addr) (n c m d : Nat) (w : World) (hn : n ≤ 1000000) (hm : m ≤ 1000000) (hx : Ds w w.heap.size A n xs) (hy : Ds w w.heap.size B m ys) (hv : decide (xs = ys) = v) :
    Calls Tryz.prog 8 #[.slice A n c, .slice B m d] w fun e w' => e = .returned (.bool v) ∧ Below w.heap.size w w' := by
  have HX := Lib.hid hx
  have HY := Lib.hid hy
  have HLX := Lib.hid hx.len
  have HLY := Lib.hid hy.len
  have HV := Lib.hid hv
  clear hx hy hv
  by_cases hnm : n = m
  · subst hnm
    go_enter Tryz.func8, Tryz.ntmps8
    go_wp2
    go_loopw [13] (fun i wr => ∃ k : Nat, k ≤ n ∧ i = .int .i64 k ∧ xs.take k = ys.take k ∧ Below w.heap.size w wr) (fun i _ => n - (intOf i).toNat)
    case atStart => exact ⟨0, by omega, rfl, by simp, Below.refl _ _⟩
    case round =>
      obtain ⟨k, hk, rfl, hpre, hB⟩ := hrel
      have HP := Lib.hid hpre
      clear hpre
      have hs0 : w.heap.size ≤ wr.heap.size := hB.size
      by_cases hlt : k < n
      · obtain ⟨b, o, x, rfl, hb, hxk, hxat⟩ := (HX.out.ext hB (Nat.le_refl _)).at_ hlt
        obtain ⟨b', o', y, rfl, hb', hyk, hyat⟩ := (HY.out.ext hB (Nat.le_refl _)).at_ hlt
        have HXK := Lib.hid hxk
        have HYK := Lib.hid hyk
        clear hxk hyk
        have hbr : b < wr.heap.size := by omega
        have hbr' : b' < wr.heap.size := by omega
        have HS := Lib.hid (take_eq_succG HXK.out HYK.out HP.out)
        obtain ⟨x0, x1, x2, x3, x4, x5, x6, x7, x8⟩ := hxat
        obtain ⟨y0, y1, y2, y3, y4, y5, y6, y7, y8⟩ := hyat
        by_cases hxy : x = y
        · have HXY := Lib.hid hxy
          subst hxy
          go_wp2_with fail
          (refine wp_region_grow (by kernel_rfl) (by kernel_rfl) ?_; (repeat (go_big_quiet_step ((first | fail)))); refine wpQuiet_nil ?_; rintro w1 ⟨⟨_, hb1⟩, rfl⟩; (try dsimp only at hb1 ⊢); obtain ⟨hc1, hf1⟩ := bcell hb1)
          go_wp2_with fail
          go_roundw
          case rel => exact ⟨k + 1, by omega, by go_num, HS.out.2 HXY.out, Below.then_ hB hb1⟩
          case measure => simp [intOf]; omega
        · have HXY := Lib.hid hxy
          rcases deed_ne hxy with hq | hq | hq | hq | hq | hq | hq | hq | hq
          all_goals
            clear hxy
            go_wp2_with fail
            (refine wp_region_grow (by kernel_rfl) (by kernel_rfl) ?_; (repeat (go_big_quiet_step ((first | fail)))); refine wpQuiet_nil ?_; rintro w1 ⟨⟨_, hb1⟩, rfl⟩; (try dsimp only at hb1 ⊢); obtain ⟨hc1, hf1⟩ := bcell hb1)
            go_wp2_with fail
            go_ret
            refine ⟨ret_bool ?_, Below.then_ hB hb1⟩
            rw [← HV.out]
            symm
            apply decide_eq_false
            intro e
            exact HXY.out (HS.out.1 (by rw [e]))
      · have hkn : k = n := by omega
        have HKn := Lib.hid hkn
        clear hkn
        go_wp2
        go_ret
        refine ⟨ret_bool ?_, hB⟩
        rw [← HV.out]
        symm
        apply decide_eq_true
        have h1 := HP.out
        rwa [List.take_of_length_le (by rw [HLX.out, HKn.out]; exact Nat.le_refl _), List.take_of_length_le (by rw [HLY.out, HKn.out]; exact Nat.le_refl _)] at h1
  · have h1 : ((n : Int) != (m : Int)) = true := by simp; omega
    go_enter Tryz.func8, Tryz.ntmps8
    go_wp2
    go_ret
    refine ⟨ret_bool ?_, Below.refl _ _⟩
    rw [← HV.out]
    symm
    apply decide_eq_false
    intro e
    exact hnm (by rw [← HLX.out, ← HLY.out, e])

end Go.Proofs.YtikioiblaoimkaaGreatDoor

/- The reference's Put. -/
namespace Go.Proofs.YtikioiblaoimkaaGreatDoor
open Go.RowKit
attribute [local go_sem] Oper.semAt_some

theorem own_emptyB (w : World) (t : TypeId) (size base : Nat) (h : base ≤ w.heap.size) : (w.alloc (.cells #[] t)).ownsRow base t size (.slice (some ⟨w.heap.size, 0, none⟩) 0 0) 0 [] := own_down (own_empty w t size) h

theorem Is.take {w : World} {B n k : Nat} {A : Option Addr} {xs : List Int} (h : Is w B A n xs) (hk : k ≤ n) : Rd w B 1 A k ((xs.take k).map fun x => .int .i64 x) := by
  have hl := h.len
  refine ⟨by simp; omega, fun h0 => ?_⟩
  obtain ⟨b, o, e, hb, hc⟩ := h.2 (by omega)
  refine ⟨b, o, e, hb, fun j u hj => hc j u ?_⟩
  rw [List.getElem?_map, List.getElem?_take] at hj
  split at hj
  · rw [List.getElem?_map]; exact hj
  · cases hj
theorem Is.drop {w : World} {B n k b o : Nat} {xs : List Int} (h : Is w B (some ⟨b, o, none⟩) n xs) (hk : k ≤ n) : Rd w B 1 (some ⟨b, o + k, none⟩) (n - k) ((xs.drop k).map fun x => .int .i64 x) := by
  have hl := h.len
  refine ⟨by simp; omega, fun h0 => ?_⟩
  obtain ⟨b, o, e, hb, hc⟩ := h.2 (by omega)
  cases e
  refine ⟨_, _, rfl, hb, fun j u hj => ?_⟩
  rw [List.getElem?_map, List.getElem?_drop] at hj
  rw [Nat.add_assoc]
  exact hc (k + j) u (by rw [List.getElem?_map]; exact hj)

theorem Rd.kept {w w' : World} {B size n g o : Nat} {xs : List Value} {row : Option Nat} (h : Rd w B size (some ⟨g, o, none⟩) n xs) (hg : w.grownBy w' row) (hlt : g < w.heap.size) (hne : row ≠ some g) : Rd w' w'.heap.size size (some ⟨g, o, none⟩) n xs := by
  refine ⟨h.1, fun h0 => ?_⟩
  obtain ⟨b, o', e, hb, hc⟩ := h.2 h0
  cases e
  refine ⟨_, _, rfl, Nat.lt_of_lt_of_le hlt hg.size, fun j u hj => ?_⟩
  rw [World.cell?_of_block (w := w) (a := ⟨g, o + j, none⟩) (hg.block g hlt fun e => hne e.symm)]
  exact hc j u hj
theorem step_appB {P : Program} {w : World} {ops : Array Oper} {o : Oper} {a : Act} {K : Act → World → Prop} {Q : Exit → Act → World → Prop} {E : Prop} (hgd : o.guard = none) (s x : Operand) (t : TypeId)
    (hop : o.op = .call { callee := .builtin .append, args := #[s, x], argTypes := #[t, t] })
    {base B : Nat} {e : TypeId} {i : TypeInfo} {z : Value} {size bytes : Nat} (ht : P.underlying t = some (.slice e)) (hi : P.info? e = some i) (hz : i.zero = some z)
    (hsize : i.size = size) (hby : i.bytes = bytes) (hzs : z.cells.size = size) (hsz : 0 < size) {v : Value} {n m c : Nat} {xs news : List Value} {A : Option Addr} (hs : a.eval s = v) (hx : a.eval x = .slice A m c) (ho : w.ownsRow base e size v n xs)
    (hr : Rd w B size A m news) (h1 : ∀ u ∈ news, u.oneCell' = true) (h63 : n + m ≤ maxLen) (hb : (n + m) * bytes ≤ 140737488355328) (hbase : base ≤ w.heap.size)
    (h : ∀ v' w', w'.ownsRow base e size v' (n + m) (xs ++ news) → w.grownBy w' v.ownBlock → Below base w w' → K (a.put o.dst v') w') :
    if Region.wanted o (yielded ops a.tmps) = true then Oper.wp P o a w K Q else E :=
  step_app hgd s x t hop ht hi hz hsize hby hzs hsz hs hx ho hr h1 h63 hb hbase fun v' w' g1 g2 => h v' w' g1 g2 ((Below.refl base w).grown g2 hbase fun k e => own_le ho e)

end Go.Proofs.YtikioiblaoimkaaGreatDoor
