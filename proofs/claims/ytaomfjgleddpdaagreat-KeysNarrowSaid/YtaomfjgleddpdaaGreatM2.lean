import Derived.Test.YtaomfjgleddpdaaGreatB8
import Derived.Test.YtaomfjgleddpdaaGreatZ1
import Derived.Test.YtaomfjgleddpdaaGreatB6
import Derived.Deep.RegionHeld3
import Derived.Test.YtaomfjgleddpdaaGreatM1
set_option linter.unusedVariables false
set_option linter.unusedSimpArgs false

/- The reference's SameDeeds. -/
namespace Go.Proofs.YtaomfjgleddpdaaGreat
open Go.RowKit

set_option maxHeartbeats 1000000 in
theorem r_sameDeeds (xs ys : List Deed) (v : Bool) (A B : Option Addr) (n c m d : Nat) (w : World) (hn : n ≤ 1000000) (hm : m ≤ 1000000) (hx : Ds w w.heap.size A n xs) (hy : Ds w w.heap.size B m ys) (hv : decide (xs = ys) = v) :
    Calls Tryz.prog 17 #[.slice A n c, .slice B m d] w fun e w' => e = .returned (.bool v) ∧ Below w.heap.size w w' := by
  have HX := Lib.hid hx
  have HY := Lib.hid hy
  have HLX := Lib.hid hx.len
  have HLY := Lib.hid hy.len
  have HV := Lib.hid hv
  clear hx hy hv
  by_cases hnm : n = m
  · subst hnm
    go_enter Tryz.func17, Tryz.ntmps17
    go_wp2
    go_loopw [13] (fun i wr => ∃ k : Nat, k ≤ n ∧ i = .int .i64 k ∧ xs.take k = ys.take k ∧ Below w.heap.size w wr) (fun i _ => n - (intOf i).toNat)
    case atStart => exact ⟨0, by omega, rfl, by simp, Below.refl _ _⟩
    case round =>
      obtain ⟨k, hk, rfl, hpre, hB⟩ := hrel
      have HP := Lib.hid hpre
      clear hpre
      have hs0 : w.heap.size ≤ wr.heap.size := hB.size
      by_cases hlt : k < n
      · obtain ⟨b, o, x, rfl, hb, hxk, hxat⟩ := (HX.out.ext hB (Nat.le_refl _)).at_ hlt
        obtain ⟨b', o', y, rfl, hb', hyk, hyat⟩ := (HY.out.ext hB (Nat.le_refl _)).at_ hlt
        have HXK := Lib.hid hxk
        have HYK := Lib.hid hyk
        clear hxk hyk
        have hbr : b < wr.heap.size := by omega
        have hbr' : b' < wr.heap.size := by omega
        have HS := Lib.hid (take_eq_succG HXK.out HYK.out HP.out)
        obtain ⟨x0, x1, x2, x3, x4, x5, x6, x7, x8⟩ := hxat
        obtain ⟨y0, y1, y2, y3, y4, y5, y6, y7, y8⟩ := hyat
        by_cases hxy : x = y
        · have HXY := Lib.hid hxy
          subst hxy
          go_wp2_with fail
          (refine wp_region_grow (by kernel_rfl) (by kernel_rfl) ?_; (repeat (go_big_quiet_step ((first | fail)))); refine wpQuiet_nil ?_; rintro w1 ⟨⟨_, hb1⟩, rfl⟩; (try dsimp only at hb1 ⊢); obtain ⟨hc1, hf1⟩ := bcell hb1)
          go_wp2_with fail
          go_roundw
          case rel => exact ⟨k + 1, by omega, by go_num, HS.out.2 HXY.out, Below.then_ hB hb1⟩
          case measure => simp [intOf]; omega
        · have HXY := Lib.hid hxy
          rcases deed_ne hxy with hq | hq | hq | hq | hq | hq | hq | hq | hq
          all_goals
            clear hxy
            go_wp2_with fail
            (refine wp_region_grow (by kernel_rfl) (by kernel_rfl) ?_; (repeat (go_big_quiet_step ((first | fail)))); refine wpQuiet_nil ?_; rintro w1 ⟨⟨_, hb1⟩, rfl⟩; (try dsimp only at hb1 ⊢); obtain ⟨hc1, hf1⟩ := bcell hb1)
            go_wp2_with fail
            go_ret
            refine ⟨ret_bool ?_, Below.then_ hB hb1⟩
            rw [← HV.out]
            symm
            apply decide_eq_false
            intro e
            exact HXY.out (HS.out.1 (by rw [e]))
      · have hkn : k = n := by omega
        have HKn := Lib.hid hkn
        clear hkn
        go_wp2
        go_ret
        refine ⟨ret_bool ?_, hB⟩
        rw [← HV.out]
        symm
        apply decide_eq_true
        have h1 := HP.out
        rwa [List.take_of_length_le (by rw [HLX.out, HKn.out]; exact Nat.le_refl _), List.take_of_length_le (by rw [HLY.out, HKn.out]; exact Nat.le_refl _)] at h1
  · have h1 : ((n : Int) != (m : Int)) = true := by simp; omega
    go_enter Tryz.func17, Tryz.ntmps17
    go_wp2
    go_ret
    refine ⟨ret_bool ?_, Below.refl _ _⟩
    rw [← HV.out]
    symm
    apply decide_eq_false
    intro e
    exact hnm (by rw [← HLX.out, ← HLY.out, e])

end Go.Proofs.YtaomfjgleddpdaaGreat

/- The reference's Put. -/
namespace Go.Proofs.YtaomfjgleddpdaaGreat
open Go.RowKit
attribute [local go_sem] Oper.semAt_some

theorem own_emptyB (w : World) (t : TypeId) (size base : Nat) (h : base ≤ w.heap.size) : (w.alloc (.cells #[] t)).ownsRow base t size (.slice (some ⟨w.heap.size, 0, none⟩) 0 0) 0 [] := own_down (own_empty w t size) h

theorem Is.take {w : World} {B n k : Nat} {A : Option Addr} {xs : List Int} (h : Is w B A n xs) (hk : k ≤ n) : Rd w B 1 A k ((xs.take k).map fun x => .int .i64 x) := by
  have hl := h.len
  refine ⟨by simp; omega, fun h0 => ?_⟩
  obtain ⟨b, o, e, hb, hc⟩ := h.2 (by omega)
  refine ⟨b, o, e, hb, fun j u hj => hc j u ?_⟩
  rw [List.getElem?_map, List.getElem?_take] at hj
  split at hj
  · rw [List.getElem?_map]; exact hj
  · cases hj
theorem Is.drop {w : World} {B n k b o : Nat} {xs : List Int} (h : Is w B (some ⟨b, o, none⟩) n xs) (hk : k ≤ n) : Rd w B 1 (some ⟨b, o + k, none⟩) (n - k) ((xs.drop k).map fun x => .int .i64 x) := by
  have hl := h.len
  refine ⟨by simp; omega, fun h0 => ?_⟩
  obtain ⟨b, o, e, hb, hc⟩ := h.2 (by omega)
  cases e
  refine ⟨_, _, rfl, hb, fun j u hj => ?_⟩
  rw [List.getElem?_map, List.getElem?_drop] at hj
  rw [Nat.add_assoc]
  exact hc (k + j) u (by rw [List.getElem?_map]; exact hj)

theorem Rd.kept {w w' : World} {B size n g o : Nat} {xs : List Value} {row : Option Nat} (h : Rd w B size (some ⟨g, o, none⟩) n xs) (hg : w.grownBy w' row) (hlt : g < w.heap.size) (hne : row ≠ some g) : Rd w' w'.heap.size size (some ⟨g, o, none⟩) n xs := by
  refine ⟨h.1, fun h0 => ?_⟩
  obtain ⟨b, o', e, hb, hc⟩ := h.2 h0
  cases e
  refine ⟨_, _, rfl, Nat.lt_of_lt_of_le hlt hg.size, fun j u hj => ?_⟩
  rw [World.cell?_of_block (w := w) (a := ⟨g, o + j, none⟩) (hg.block g hlt fun e => hne e.symm)]
  exact hc j u hj
theorem step_appB {P : Program} {w : World} {ops : Array Oper} {o : Oper} {a : Act} {K : Act → World → Prop} {Q : Exit → Act → World → Prop} {E : Prop} (hgd : o.guard = none) (s x : Operand) (t : TypeId)
    (hop : o.op = .call { callee := .builtin .append, args := #[s, x], argTypes := #[t, t] })
    {base B : Nat} {e : TypeId} {i : TypeInfo} {z : Value} {size bytes : Nat} (ht : P.underlying t = some (.slice e)) (hi : P.info? e = some i) (hz : i.zero = some z)
    (hsize : i.size = size) (hby : i.bytes = bytes) (hzs : z.cells.size = size) (hsz : 0 < size) {v : Value} {n m c : Nat} {xs news : List Value} {A : Option Addr} (hs : a.eval s = v) (hx : a.eval x = .slice A m c) (ho : w.ownsRow base e size v n xs)
    (hr : Rd w B size A m news) (h1 : ∀ u ∈ news, u.oneCell' = true) (h63 : n + m ≤ maxLen) (hb : (n + m) * bytes ≤ 140737488355328) (hbase : base ≤ w.heap.size)
    (h : ∀ v' w', w'.ownsRow base e size v' (n + m) (xs ++ news) → w.grownBy w' v.ownBlock → Below base w w' → K (a.put o.dst v') w') :
    if Region.wanted o (yielded ops a.tmps) = true then Oper.wp P o a w K Q else E :=
  step_app hgd s x t hop ht hi hz hsize hby hzs hsz hs hx ho hr h1 h63 hb hbase fun v' w' g1 g2 => h v' w' g1 g2 ((Below.refl base w).grown g2 hbase fun k e => own_le ho e)

set_option maxRecDepth 100000 in
set_option maxHeartbeats 2000000 in
theorem r_Put (xs : List Int) (t : Int) (A : Option Addr) (n c : Nat) (w : World) (hn : n ≤ 1000000) (hnc : n ≤ c) (hd : Is w w.heap.size A n xs) (hs : SS xs) :
    Calls Tryz.prog 69 #[.slice A n c, .int .i64 t] w (RetI (insS t xs) w) := by
  obtain ⟨i0, hi, hz0, hz1, hz2⟩ := info_parts infoInt
  have hlen := hd.len
  have HD := Lib.hid hd
  have HS := Lib.hid hs
  clear hd hs
  go_enter Tryz.func69, Tryz.ntmps69
  go_wp2
  go_loopw [5] (fun i wr => ∃ k : Nat, k ≤ n ∧ i = .int .i64 k ∧ wr = w ∧ ∀ (j : Nat) (a : Int), j < k → xs[j]? = some a → a < t) (fun i _ => n - (intOf i).toNat)
  case atStart => exact ⟨0, by omega, rfl, rfl, fun j a h => absurd h (by omega)⟩
  case round =>
    obtain ⟨k, hk, rfl, rfl, hlo⟩ := hrel
    have hc0 : ¬ ((c : Int) < 0) := by omega
    by_cases hlt : k < n
    · obtain ⟨b, o, a, rfl, hb, hx, hcell⟩ := HD.out.at_ hlt
      have hik : ¬ ((k : Int) < 0) := by omega
      have hik2 : (k : Int) < (n : Int) := by omega
      have hkx : (k : Int) < (n : Int) ∧ 0 ≤ (k : Int) := by omega
      by_cases h1 : a < t
      · go_wp2
        go_roundw
        case rel => exact ⟨k + 1, by omega, by go_num, trivial, fun j a' hj ha => by
          rcases Nat.lt_or_ge j k with h3 | h3
          · exact hlo j a' h3 ha
          · obtain rfl : j = k := by omega
            rw [hx] at ha
            cases ha
            exact h1⟩
        case measure => simp [intOf]; omega
      · by_cases h2 : a = t
        · subst h2
          go_wp2
          go_ret
          have hI : insS a xs = xs := by rw [insS_at HS.out hlo (fun a' h => by rw [hx] at h; cases h; omega), if_pos hx]
          exact ⟨some ⟨b, o, none⟩, c, by rw [hI, hlen]; rfl, by (repeat' (first | with_reducible exact Below.refl _ _ | with_reducible assumption | with_reducible refine Below.alloc ?_ ?_ _ | with_reducible refine Below.setCell ?_ ?_ _ | with_reducible refine Below.drew ?_ | (simp; done) | (simp; omega) | omega)), by rw [hI, hlen]; exact HD.out, by rw [hI]; omega⟩
        · have HI := Lib.hid (show insS t xs = xs.take k ++ t :: xs.drop k by rw [insS_at HS.out hlo (fun a' h => by rw [hx] at h; cases h; omega), if_neg (by rw [hx]; intro e; cases e; exact h2 rfl)])
          have HTK : Hid (Rd wr wr.heap.size 1 (some ⟨b, o, none⟩) k ((xs.take k).map fun x => .int .i64 x)) := HD.out.take hk
          have HTD : Hid (Rd wr wr.heap.size 1 (some ⟨b, o + k, none⟩) (n - k) ((xs.drop k).map fun x => .int .i64 x)) := HD.out.drop hk
          have h4 : (k : Int) ≤ (c : Int) := by omega
          have h5 : (k : Int) ≤ (n : Int) := by omega
          have h6 : ¬ c = k := by omega
          go_wp2_with fail
          go_region_held3 (fun w' => Below wr.heap.size wr w') (first | ((repeat' (first | with_reducible exact Below.refl _ _ | with_reducible assumption | with_reducible refine Below.alloc ?_ ?_ _ | with_reducible refine Below.setCell ?_ ?_ _ | with_reducible refine Below.drew ?_ | (simp; done) | (simp; omega) | omega)); done))
            (first
              | (refine step_appB (by rfl) (.tmp 33) (.tmp 36) 32 (by rfl) (base := wr.heap.size) (B := wr.heap.size) (e := 3) (i := i0) (size := 1) (bytes := 8) Tryz.underlying32 hi hz0 hz1 hz2 rfl (by decide) (by rfl) (by rfl) (n := 0) (xs := []) (by first | exact own_emptyB wr 3 1 wr.heap.size (Nat.le_refl _) | exact (own_emptyB wr 3 1 wr.heap.size (Nat.le_refl _)).alloc (.cells #[.int .i64 t] 3) | (have h := own_emptyB (wr.alloc (.cells #[.int .i64 t] 3)) 3 1 wr.heap.size (by simp); simp only [World.size_alloc] at h; exact h)) (m := k) (news := (xs.take k).map fun x => .int .i64 x) (HTK.out.below (by (repeat' (first | with_reducible exact Below.refl _ _ | with_reducible assumption | with_reducible refine Below.alloc ?_ ?_ _ | with_reducible refine Below.setCell ?_ ?_ _ | with_reducible refine Below.drew ?_ | (simp; done) | (simp; omega) | omega)))) (ints_one _) (by unfold maxLen; omega) (by omega) (by first | omega | (simp; done) | (simp; omega)) ?_; intro v1 w1 hown1 hgrow1 hB1; have hC1 : Below wr.heap.size wr w1 := Below.trans (by (repeat' (first | with_reducible exact Below.refl _ _ | with_reducible assumption | with_reducible refine Below.alloc ?_ ?_ _ | with_reducible refine Below.setCell ?_ ?_ _ | with_reducible refine Below.drew ?_ | (simp; done) | (simp; omega) | omega))) hB1; have hsz1 := hC1.size; (first | (have HN1 : Hid (Rd w1 w1.heap.size 1 (some ⟨wr.heap.size + 1, 0, none⟩) 1 [.int .i64 t]) := Rd.kept (w := ((wr.alloc (.cells #[] 3)).alloc (.cells #[.int .i64 t] 3)).drew) (by have h := Rd.new (wr.alloc (.cells #[] 3)) #[.int .i64 t] 3 1 1 _ rfl rfl; simp only [World.size_alloc] at h; exact h) hgrow1 (by first | omega | (simp; done) | (simp; omega)) (fun e => by have h := Option.some.inj (show some _ = some _ from e); simp at h)) | (have HN1 : Hid (Rd w1 w1.heap.size 1 (some ⟨wr.heap.size, 0, none⟩) 1 [.int .i64 t]) := Rd.kept (w := ((wr.alloc (.cells #[.int .i64 t] 3)).alloc (.cells #[] 3)).drew) (by have h := (Rd.new wr #[.int .i64 t] 3 1 1 _ rfl rfl).alloc (Nat.le_refl _) (.cells #[] 3); exact h) hgrow1 (by first | omega | (simp; done) | (simp; omega)) (fun e => by have h := Option.some.inj (show some _ = some _ from e); simp at h)) | skip))
              | (refine step_appB (by rfl) (.tmp 37) (.tmp 39) 32 (by rfl) (base := wr.heap.size) (B := _) (e := 3) (i := i0) (size := 1) (bytes := 8) Tryz.underlying32 hi hz0 hz1 hz2 rfl (by decide) (by rfl) (by rfl) (n := 0 + k) (xs := [] ++ (xs.take k).map fun x => .int .i64 x) (by first | exact hown1 | exact hown1.alloc _ | exact hown1.drew | exact (hown1.drew).alloc _ | exact (hown1.alloc _).drew) (m := 1) (news := [.int .i64 t]) (by first | exact HN1.out | exact Rd.new w1 #[.int .i64 t] 3 1 1 _ rfl rfl) (ints_one [t]) (by unfold maxLen; omega) (by omega) (by first | omega | (simp; done) | (simp; omega)) ?_; intro v2 w2 hown2 hgrow2 hB2; have hC2 : Below wr.heap.size wr w2 := Below.trans (by (repeat' (first | with_reducible exact Below.refl _ _ | with_reducible assumption | with_reducible refine Below.alloc ?_ ?_ _ | with_reducible refine Below.setCell ?_ ?_ _ | with_reducible refine Below.drew ?_ | (simp; done) | (simp; omega) | omega))) hB2; have hsz2 := hC2.size)
              | (refine step_appB (by rfl) (.tmp 40) (.tmp 43) 32 (by rfl) (base := wr.heap.size) (B := wr.heap.size) (e := 3) (i := i0) (size := 1) (bytes := 8) Tryz.underlying32 hi hz0 hz1 hz2 rfl (by decide) (by rfl) (by rfl) (n := 0 + k + 1) (xs := [] ++ ((xs.take k).map fun x => .int .i64 x) ++ [.int .i64 t]) (by first | exact hown2 | exact hown2.drew) (m := n - k) (news := (xs.drop k).map fun x => .int .i64 x) (HTD.out.below (by (repeat' (first | with_reducible exact Below.refl _ _ | with_reducible assumption | with_reducible refine Below.alloc ?_ ?_ _ | with_reducible refine Below.setCell ?_ ?_ _ | with_reducible refine Below.drew ?_ | (simp; done) | (simp; omega) | omega)))) (ints_one _) (by unfold maxLen; omega) (by omega) (by first | omega | (simp; done) | (simp; omega)) ?_; intro v3 w3 hown3 hgrow3 hB3; have hC3 : Below wr.heap.size wr w3 := Below.trans (by (repeat' (first | with_reducible exact Below.refl _ _ | with_reducible assumption | with_reducible refine Below.alloc ?_ ?_ _ | with_reducible refine Below.setCell ?_ ?_ _ | with_reducible refine Below.drew ?_ | (simp; done) | (simp; omega) | omega))) hB3; have hsz3 := hC3.size))
          all_goals (
            obtain ⟨A3, c3, rfl, hcc⟩ := own_slice hown3
            go_wp2
            go_ret
            have hL : (insS t xs).map (fun x => Value.int .i64 x) = [] ++ ((xs.take k).map fun x => .int .i64 x) ++ [.int .i64 t] ++ ((xs.drop k).map fun x => .int .i64 x) := by rw [HI.out]; simp
            have hN : (insS t xs).length = 0 + k + 1 + (n - k) := by rw [HI.out]; simp; omega
            exact ⟨A3, c3, by rw [hN]; rfl, hC3, by unfold Is; rw [hL, hN]; exact Rd.of_own hown3, by rw [hN]; exact hcc.1⟩)
    · obtain rfl : k = n := by omega
      have HI := Lib.hid (show insS t xs = xs.take k ++ t :: xs.drop k by
        rw [insS_at HS.out hlo (fun a' h => by rw [List.getElem?_eq_none (by omega)] at h; cases h), if_neg (by rw [List.getElem?_eq_none (by omega)]; exact fun e => by cases e)])
      have HTK : Hid (Rd wr wr.heap.size 1 A k ((xs.take k).map fun x => .int .i64 x)) := HD.out.take hk
      have hdrop : xs.drop k = [] := List.drop_eq_nil_of_le (by omega)
      have HDR := Lib.hid hdrop
      clear hdrop
      have h4 : (k : Int) ≤ (c : Int) := by omega
      have hik : ¬ ((k : Int) < 0) := by omega
      have HTZ : ∀ (A' : Option Addr) (w' : World), Rd w' wr.heap.size 1 A' 0 [] := fun _ _ => Rd.nil_
      cases A with
      | none =>
        have hk0 : k = 0 := (Nat.eq_zero_or_pos k).elim id fun h => by obtain ⟨_, _, e, _⟩ := HD.out.2 h; cases e
        subst hk0
        go_wp2_with fail
        go_region_held3 (fun w' => Below wr.heap.size wr w') (first | ((repeat' (first | with_reducible exact Below.refl _ _ | with_reducible assumption | with_reducible refine Below.alloc ?_ ?_ _ | with_reducible refine Below.setCell ?_ ?_ _ | with_reducible refine Below.drew ?_ | (simp; done) | (simp; omega) | omega)); done))
          (first
            | (refine step_appB (by rfl) (.tmp 33) (.tmp 36) 32 (by rfl) (base := wr.heap.size) (B := wr.heap.size) (e := 3) (i := i0) (size := 1) (bytes := 8) Tryz.underlying32 hi hz0 hz1 hz2 rfl (by decide) (by rfl) (by rfl) (n := 0) (xs := []) (by first | exact own_emptyB wr 3 1 wr.heap.size (Nat.le_refl _) | exact (own_emptyB wr 3 1 wr.heap.size (Nat.le_refl _)).alloc (.cells #[.int .i64 t] 3) | (have h := own_emptyB (wr.alloc (.cells #[.int .i64 t] 3)) 3 1 wr.heap.size (by simp); simp only [World.size_alloc] at h; exact h)) (m := 0) (news := (xs.take 0).map fun x => .int .i64 x) (HTK.out.below (by (repeat' (first | with_reducible exact Below.refl _ _ | with_reducible assumption | with_reducible refine Below.alloc ?_ ?_ _ | with_reducible refine Below.setCell ?_ ?_ _ | with_reducible refine Below.drew ?_ | (simp; done) | (simp; omega) | omega)))) (ints_one _) (by unfold maxLen; omega) (by omega) (by first | omega | (simp; done) | (simp; omega)) ?_; intro v1 w1 hown1 hgrow1 hB1; have hC1 : Below wr.heap.size wr w1 := Below.trans (by (repeat' (first | with_reducible exact Below.refl _ _ | with_reducible assumption | with_reducible refine Below.alloc ?_ ?_ _ | with_reducible refine Below.setCell ?_ ?_ _ | with_reducible refine Below.drew ?_ | (simp; done) | (simp; omega) | omega))) hB1; have hsz1 := hC1.size; (first | (have HN1 : Hid (Rd w1 w1.heap.size 1 (some ⟨wr.heap.size + 1, 0, none⟩) 1 [.int .i64 t]) := Rd.kept (w := ((wr.alloc (.cells #[] 3)).alloc (.cells #[.int .i64 t] 3)).drew) (by have h := Rd.new (wr.alloc (.cells #[] 3)) #[.int .i64 t] 3 1 1 _ rfl rfl; simp only [World.size_alloc] at h; exact h) hgrow1 (by first | omega | (simp; done) | (simp; omega)) (fun e => by have h := Option.some.inj (show some _ = some _ from e); simp at h)) | (have HN1 : Hid (Rd w1 w1.heap.size 1 (some ⟨wr.heap.size, 0, none⟩) 1 [.int .i64 t]) := Rd.kept (w := ((wr.alloc (.cells #[.int .i64 t] 3)).alloc (.cells #[] 3)).drew) (by have h := (Rd.new wr #[.int .i64 t] 3 1 1 _ rfl rfl).alloc (Nat.le_refl _) (.cells #[] 3); exact h) hgrow1 (by first | omega | (simp; done) | (simp; omega)) (fun e => by have h := Option.some.inj (show some _ = some _ from e); simp at h)) | skip))
            | (refine step_appB (by rfl) (.tmp 37) (.tmp 39) 32 (by rfl) (base := wr.heap.size) (B := _) (e := 3) (i := i0) (size := 1) (bytes := 8) Tryz.underlying32 hi hz0 hz1 hz2 rfl (by decide) (by rfl) (by rfl) (n := 0 + 0) (xs := [] ++ (xs.take 0).map fun x => .int .i64 x) (by first | exact hown1 | exact hown1.alloc _ | exact hown1.drew | exact (hown1.drew).alloc _ | exact (hown1.alloc _).drew) (m := 1) (news := [.int .i64 t]) (by first | exact HN1.out | exact Rd.new w1 #[.int .i64 t] 3 1 1 _ rfl rfl) (ints_one [t]) (by unfold maxLen; omega) (by omega) (by first | omega | (simp; done) | (simp; omega)) ?_; intro v2 w2 hown2 hgrow2 hB2; have hC2 : Below wr.heap.size wr w2 := Below.trans (by (repeat' (first | with_reducible exact Below.refl _ _ | with_reducible assumption | with_reducible refine Below.alloc ?_ ?_ _ | with_reducible refine Below.setCell ?_ ?_ _ | with_reducible refine Below.drew ?_ | (simp; done) | (simp; omega) | omega))) hB2; have hsz2 := hC2.size)
            | (refine step_appB (by rfl) (.tmp 40) (.tmp 43) 32 (by rfl) (base := wr.heap.size) (B := wr.heap.size) (e := 3) (i := i0) (size := 1) (bytes := 8) Tryz.underlying32 hi hz0 hz1 hz2 rfl (by decide) (by rfl) (by rfl) (n := 0 + 0 + 1) (xs := [] ++ ((xs.take 0).map fun x => .int .i64 x) ++ [.int .i64 t]) (by first | exact hown2 | exact hown2.drew) (m := 0) (news := ([] : List Value)) (HTZ _ _) (ints_one []) (by unfold maxLen; omega) (by omega) (by first | omega | (simp; done) | (simp; omega)) ?_; intro v3 w3 hown3 hgrow3 hB3; have hC3 : Below wr.heap.size wr w3 := Below.trans (by (repeat' (first | with_reducible exact Below.refl _ _ | with_reducible assumption | with_reducible refine Below.alloc ?_ ?_ _ | with_reducible refine Below.setCell ?_ ?_ _ | with_reducible refine Below.drew ?_ | (simp; done) | (simp; omega) | omega))) hB3; have hsz3 := hC3.size))
        all_goals (
          obtain ⟨A3, c3, rfl, hcc⟩ := own_slice hown3
          go_wp2
          go_ret
          have hL : (insS t xs).map (fun x => Value.int .i64 x) = [] ++ ((xs.take 0).map fun x => .int .i64 x) ++ [.int .i64 t] ++ ([] : List Value) := by rw [HI.out, HDR.out]; simp
          have hN : (insS t xs).length = 0 + 0 + 1 + 0 := by rw [HI.out, HDR.out]; simp
          exact ⟨A3, c3, by rw [hN]; rfl, hC3, by unfold Is; rw [hL, hN]; exact Rd.of_own hown3, by rw [hN]; exact hcc.1⟩)
      | some ad =>
        by_cases h6 : c = k
        · go_wp2_with fail
          go_region_held3 (fun w' => Below wr.heap.size wr w') (first | ((repeat' (first | with_reducible exact Below.refl _ _ | with_reducible assumption | with_reducible refine Below.alloc ?_ ?_ _ | with_reducible refine Below.setCell ?_ ?_ _ | with_reducible refine Below.drew ?_ | (simp; done) | (simp; omega) | omega)); done))
            (first
              | (refine step_appB (by rfl) (.tmp 33) (.tmp 36) 32 (by rfl) (base := wr.heap.size) (B := wr.heap.size) (e := 3) (i := i0) (size := 1) (bytes := 8) Tryz.underlying32 hi hz0 hz1 hz2 rfl (by decide) (by rfl) (by rfl) (n := 0) (xs := []) (by first | exact own_emptyB wr 3 1 wr.heap.size (Nat.le_refl _) | exact (own_emptyB wr 3 1 wr.heap.size (Nat.le_refl _)).alloc (.cells #[.int .i64 t] 3) | (have h := own_emptyB (wr.alloc (.cells #[.int .i64 t] 3)) 3 1 wr.heap.size (by simp); simp only [World.size_alloc] at h; exact h)) (m := k) (news := (xs.take k).map fun x => .int .i64 x) (HTK.out.below (by (repeat' (first | with_reducible exact Below.refl _ _ | with_reducible assumption | with_reducible refine Below.alloc ?_ ?_ _ | with_reducible refine Below.setCell ?_ ?_ _ | with_reducible refine Below.drew ?_ | (simp; done) | (simp; omega) | omega)))) (ints_one _) (by unfold maxLen; omega) (by omega) (by first | omega | (simp; done) | (simp; omega)) ?_; intro v1 w1 hown1 hgrow1 hB1; have hC1 : Below wr.heap.size wr w1 := Below.trans (by (repeat' (first | with_reducible exact Below.refl _ _ | with_reducible assumption | with_reducible refine Below.alloc ?_ ?_ _ | with_reducible refine Below.setCell ?_ ?_ _ | with_reducible refine Below.drew ?_ | (simp; done) | (simp; omega) | omega))) hB1; have hsz1 := hC1.size; (first | (have HN1 : Hid (Rd w1 w1.heap.size 1 (some ⟨wr.heap.size + 1, 0, none⟩) 1 [.int .i64 t]) := Rd.kept (w := ((wr.alloc (.cells #[] 3)).alloc (.cells #[.int .i64 t] 3)).drew) (by have h := Rd.new (wr.alloc (.cells #[] 3)) #[.int .i64 t] 3 1 1 _ rfl rfl; simp only [World.size_alloc] at h; exact h) hgrow1 (by first | omega | (simp; done) | (simp; omega)) (fun e => by have h := Option.some.inj (show some _ = some _ from e); simp at h)) | (have HN1 : Hid (Rd w1 w1.heap.size 1 (some ⟨wr.heap.size, 0, none⟩) 1 [.int .i64 t]) := Rd.kept (w := ((wr.alloc (.cells #[.int .i64 t] 3)).alloc (.cells #[] 3)).drew) (by have h := (Rd.new wr #[.int .i64 t] 3 1 1 _ rfl rfl).alloc (Nat.le_refl _) (.cells #[] 3); exact h) hgrow1 (by first | omega | (simp; done) | (simp; omega)) (fun e => by have h := Option.some.inj (show some _ = some _ from e); simp at h)) | skip))
              | (refine step_appB (by rfl) (.tmp 37) (.tmp 39) 32 (by rfl) (base := wr.heap.size) (B := _) (e := 3) (i := i0) (size := 1) (bytes := 8) Tryz.underlying32 hi hz0 hz1 hz2 rfl (by decide) (by rfl) (by rfl) (n := 0 + k) (xs := [] ++ (xs.take k).map fun x => .int .i64 x) (by first | exact hown1 | exact hown1.alloc _ | exact hown1.drew | exact (hown1.drew).alloc _ | exact (hown1.alloc _).drew) (m := 1) (news := [.int .i64 t]) (by first | exact HN1.out | exact Rd.new w1 #[.int .i64 t] 3 1 1 _ rfl rfl) (ints_one [t]) (by unfold maxLen; omega) (by omega) (by first | omega | (simp; done) | (simp; omega)) ?_; intro v2 w2 hown2 hgrow2 hB2; have hC2 : Below wr.heap.size wr w2 := Below.trans (by (repeat' (first | with_reducible exact Below.refl _ _ | with_reducible assumption | with_reducible refine Below.alloc ?_ ?_ _ | with_reducible refine Below.setCell ?_ ?_ _ | with_reducible refine Below.drew ?_ | (simp; done) | (simp; omega) | omega))) hB2; have hsz2 := hC2.size)
              | (refine step_appB (by rfl) (.tmp 40) (.tmp 43) 32 (by rfl) (base := wr.heap.size) (B := wr.heap.size) (e := 3) (i := i0) (size := 1) (bytes := 8) Tryz.underlying32 hi hz0 hz1 hz2 rfl (by decide) (by rfl) (by rfl) (n := 0 + k + 1) (xs := [] ++ ((xs.take k).map fun x => .int .i64 x) ++ [.int .i64 t]) (by first | exact hown2 | exact hown2.drew) (m := 0) (news := ([] : List Value)) (HTZ _ _) (ints_one []) (by unfold maxLen; omega) (by omega) (by first | omega | (simp; done) | (simp; omega)) ?_; intro v3 w3 hown3 hgrow3 hB3; have hC3 : Below wr.heap.size wr w3 := Below.trans (by (repeat' (first | with_reducible exact Below.refl _ _ | with_reducible assumption | with_reducible refine Below.alloc ?_ ?_ _ | with_reducible refine Below.setCell ?_ ?_ _ | with_reducible refine Below.drew ?_ | (simp; done) | (simp; omega) | omega))) hB3; have hsz3 := hC3.size))
          all_goals (
            obtain ⟨A3, c3, rfl, hcc⟩ := own_slice hown3
            go_wp2
            go_ret
            have hL : (insS t xs).map (fun x => Value.int .i64 x) = [] ++ ((xs.take k).map fun x => .int .i64 x) ++ [.int .i64 t] ++ ([] : List Value) := by rw [HI.out, HDR.out]; simp
            have hN : (insS t xs).length = 0 + k + 1 + 0 := by rw [HI.out]; simp; omega
            exact ⟨A3, c3, by rw [hN]; rfl, hC3, by unfold Is; rw [hL, hN]; exact Rd.of_own hown3, by rw [hN]; exact hcc.1⟩)
        · go_wp2_with fail
          go_region_held3 (fun w' => Below wr.heap.size wr w') (first | ((repeat' (first | with_reducible exact Below.refl _ _ | with_reducible assumption | with_reducible refine Below.alloc ?_ ?_ _ | with_reducible refine Below.setCell ?_ ?_ _ | with_reducible refine Below.drew ?_ | (simp; done) | (simp; omega) | omega)); done))
            (first
              | (refine step_appB (by rfl) (.tmp 33) (.tmp 36) 32 (by rfl) (base := wr.heap.size) (B := wr.heap.size) (e := 3) (i := i0) (size := 1) (bytes := 8) Tryz.underlying32 hi hz0 hz1 hz2 rfl (by decide) (by rfl) (by rfl) (n := 0) (xs := []) (by first | exact own_emptyB wr 3 1 wr.heap.size (Nat.le_refl _) | exact (own_emptyB wr 3 1 wr.heap.size (Nat.le_refl _)).alloc (.cells #[.int .i64 t] 3) | (have h := own_emptyB (wr.alloc (.cells #[.int .i64 t] 3)) 3 1 wr.heap.size (by simp); simp only [World.size_alloc] at h; exact h)) (m := k) (news := (xs.take k).map fun x => .int .i64 x) (HTK.out.below (by (repeat' (first | with_reducible exact Below.refl _ _ | with_reducible assumption | with_reducible refine Below.alloc ?_ ?_ _ | with_reducible refine Below.setCell ?_ ?_ _ | with_reducible refine Below.drew ?_ | (simp; done) | (simp; omega) | omega)))) (ints_one _) (by unfold maxLen; omega) (by omega) (by first | omega | (simp; done) | (simp; omega)) ?_; intro v1 w1 hown1 hgrow1 hB1; have hC1 : Below wr.heap.size wr w1 := Below.trans (by (repeat' (first | with_reducible exact Below.refl _ _ | with_reducible assumption | with_reducible refine Below.alloc ?_ ?_ _ | with_reducible refine Below.setCell ?_ ?_ _ | with_reducible refine Below.drew ?_ | (simp; done) | (simp; omega) | omega))) hB1; have hsz1 := hC1.size; (first | (have HN1 : Hid (Rd w1 w1.heap.size 1 (some ⟨wr.heap.size + 1, 0, none⟩) 1 [.int .i64 t]) := Rd.kept (w := ((wr.alloc (.cells #[] 3)).alloc (.cells #[.int .i64 t] 3)).drew) (by have h := Rd.new (wr.alloc (.cells #[] 3)) #[.int .i64 t] 3 1 1 _ rfl rfl; simp only [World.size_alloc] at h; exact h) hgrow1 (by first | omega | (simp; done) | (simp; omega)) (fun e => by have h := Option.some.inj (show some _ = some _ from e); simp at h)) | (have HN1 : Hid (Rd w1 w1.heap.size 1 (some ⟨wr.heap.size, 0, none⟩) 1 [.int .i64 t]) := Rd.kept (w := ((wr.alloc (.cells #[.int .i64 t] 3)).alloc (.cells #[] 3)).drew) (by have h := (Rd.new wr #[.int .i64 t] 3 1 1 _ rfl rfl).alloc (Nat.le_refl _) (.cells #[] 3); exact h) hgrow1 (by first | omega | (simp; done) | (simp; omega)) (fun e => by have h := Option.some.inj (show some _ = some _ from e); simp at h)) | skip))
              | (refine step_appB (by rfl) (.tmp 37) (.tmp 39) 32 (by rfl) (base := wr.heap.size) (B := _) (e := 3) (i := i0) (size := 1) (bytes := 8) Tryz.underlying32 hi hz0 hz1 hz2 rfl (by decide) (by rfl) (by rfl) (n := 0 + k) (xs := [] ++ (xs.take k).map fun x => .int .i64 x) (by first | exact hown1 | exact hown1.alloc _ | exact hown1.drew | exact (hown1.drew).alloc _ | exact (hown1.alloc _).drew) (m := 1) (news := [.int .i64 t]) (by first | exact HN1.out | exact Rd.new w1 #[.int .i64 t] 3 1 1 _ rfl rfl) (ints_one [t]) (by unfold maxLen; omega) (by omega) (by first | omega | (simp; done) | (simp; omega)) ?_; intro v2 w2 hown2 hgrow2 hB2; have hC2 : Below wr.heap.size wr w2 := Below.trans (by (repeat' (first | with_reducible exact Below.refl _ _ | with_reducible assumption | with_reducible refine Below.alloc ?_ ?_ _ | with_reducible refine Below.setCell ?_ ?_ _ | with_reducible refine Below.drew ?_ | (simp; done) | (simp; omega) | omega))) hB2; have hsz2 := hC2.size)
              | (refine step_appB (by rfl) (.tmp 40) (.tmp 43) 32 (by rfl) (base := wr.heap.size) (B := wr.heap.size) (e := 3) (i := i0) (size := 1) (bytes := 8) Tryz.underlying32 hi hz0 hz1 hz2 rfl (by decide) (by rfl) (by rfl) (n := 0 + k + 1) (xs := [] ++ ((xs.take k).map fun x => .int .i64 x) ++ [.int .i64 t]) (by first | exact hown2 | exact hown2.drew) (m := 0) (news := ([] : List Value)) (HTZ _ _) (ints_one []) (by unfold maxLen; omega) (by omega) (by first | omega | (simp; done) | (simp; omega)) ?_; intro v3 w3 hown3 hgrow3 hB3; have hC3 : Below wr.heap.size wr w3 := Below.trans (by (repeat' (first | with_reducible exact Below.refl _ _ | with_reducible assumption | with_reducible refine Below.alloc ?_ ?_ _ | with_reducible refine Below.setCell ?_ ?_ _ | with_reducible refine Below.drew ?_ | (simp; done) | (simp; omega) | omega))) hB3; have hsz3 := hC3.size))
          all_goals (
            obtain ⟨A3, c3, rfl, hcc⟩ := own_slice hown3
            go_wp2
            go_ret
            have hL : (insS t xs).map (fun x => Value.int .i64 x) = [] ++ ((xs.take k).map fun x => .int .i64 x) ++ [.int .i64 t] ++ ([] : List Value) := by rw [HI.out, HDR.out]; simp
            have hN : (insS t xs).length = 0 + k + 1 + 0 := by rw [HI.out]; simp; omega
            exact ⟨A3, c3, by rw [hN]; rfl, hC3, by unfold Is; rw [hL, hN]; exact Rd.of_own hown3, by rw [hN]; exact hcc.1⟩)
end Go.Proofs.YtaomfjgleddpdaaGreat

/- The reference's Dates. -/
namespace Go.Proofs.YtaomfjgleddpdaaGreat
open Go.RowKit
attribute [local go_sem] Oper.semAt_some

set_option maxRecDepth 100000 in
set_option maxHeartbeats 2000000 in
theorem r_Dates (ds : List Deed) (A : Option Addr) (n c : Nat) (w : World) (hn : n ≤ 9223372036854775807) (hd : Ds w w.heap.size A n ds) :
    Calls Tryz.prog 16 #[.slice A n c] w (RetDates ds w) := by
  have HD := Lib.hid hd
  have HL := Lib.hid hd.len
  clear hd
  cases hb : checkB ds with
  | false =>
    have HB := Lib.hid hb
    clear hb
    go_enter Tryz.func16, Tryz.ntmps16
    go_wp2_with fail
    refine (r_check_v ds 11 _ _ _ _ hn HD.out (by rw [HB.out]; rfl)).mono ?_
    rintro e w1 ⟨rfl, hb1⟩
    go_wp2_with fail
    go_ret2
    exact ⟨hb1, fun _ => rfl, fun h => by rw [HB.out] at h; cases h⟩
  | true =>
    have HB := Lib.hid hb
    have hln : n ≤ 60 := by
      have h := hb
      unfold checkB at h
      simp only [Bool.and_eq_true, decide_eq_true_eq] at h
      have := h.1
      have := HL.out
      omega
    clear hb
    go_enter Tryz.func16, Tryz.ntmps16
    go_wp2_with fail
    refine (r_check_v ds 0 _ _ _ _ hn HD.out (by rw [HB.out]; rfl)).mono ?_
    rintro e w1 ⟨rfl, hb1⟩
    have HB1 := Lib.hid hb1
    clear hb1
    go_wp2_with fail
    go_loopw [5, 15] (fun v i wr => ∃ (k : Nat) (xs : List Int) (A0 : Option Addr) (c0 : Nat), k ≤ n ∧ i = .int .i64 k ∧ v = .slice A0 xs.length c0 ∧ SS xs ∧ xs.length ≤ 2 * k ∧ (∀ a, a ∈ xs ↔ ∃ d ∈ ds.take k, dateOf d a) ∧ Is wr wr.heap.size A0 xs.length xs ∧ xs.length ≤ c0 ∧ Below w.heap.size w wr) (fun _ i _ => n - (intOf i).toNat)
    case atStart => exact ⟨0, [], none, 0, by omega, rfl, rfl, List.Pairwise.nil, by simp, by simp, Rd.nil_, by simp, HB1.out⟩
    case round =>
      obtain ⟨k, xs, A0, c0, hk, rfl, rfl, hss, hxl, hmem, his, hc0, hB⟩ := hrel
      have HSS := Lib.hid hss
      have HMEM := Lib.hid hmem
      have HIS := Lib.hid his
      have HBB := Lib.hid hB
      clear hss hmem his
      by_cases hlt : k < n
      · obtain ⟨b, o, d, rfl, hb, hd, hat⟩ := (HD.out.ext hB (Nat.le_refl _)).at_ hlt
        clear hB
        obtain ⟨a0, a1, a2, a3, a4, a5, a6, a7, a8⟩ := hat
        have HK := Lib.hid hd
        clear hd
        have ht0 : 0 ≤ d.til := by have := okB_times (checkB_ok HB.out d (List.mem_of_getElem? HK.out)); omega
        by_cases hz : d.til = 0
        · have hz1 : ¬ (0 < d.til) := by omega
          have HZ := Lib.hid hz
          clear hz
          go_wp2_with fail
          refine (r_Put xs d.known _ _ c0 _ (by omega) hc0 (HIS.out.now (by (repeat' (first | with_reducible exact Below.refl _ _ | with_reducible assumption | with_reducible refine Below.alloc ?_ ?_ _ | with_reducible refine Below.setCell ?_ ?_ _ | with_reducible refine Below.drew ?_ | (simp; done) | (simp; omega) | omega)))) HSS.out).mono ?_
          rintro e w2 ⟨A2, c2, rfl, hb2, hi2, hc2⟩
          have z8 : w2.cell? ⟨wr.heap.size, 8, none⟩ = some (.int .i64 d.til) := by rw [hb2.cell (p := ⟨wr.heap.size, 8, none⟩) (by simp)]; simp
          have HBN := Lib.hid (Below.then_ (HBB.out.alloc (by have := HBB.out.size; omega) (.cells #[.int .i64 d.par, .int .i64 d.no, .int .i64 d.kind, .int .i64 d.lock, .int .i64 d.person, .int .i64 d.lo, .int .i64 d.hi, .int .i64 d.known, .int .i64 d.til] 28)) hb2)
          have HI2 := Lib.hid hi2
          clear hi2
          have hl2 := insS_len d.known xs
          go_wp2_with fail
          go_roundw
          case rel => exact ⟨k + 1, insS d.known xs, A2, c2, by omega, by go_num, rfl, insS_ss HSS.out, by omega, dates_step HMEM.out HK.out (fun a => by rw [insS_mem]; unfold dateOf; have := HZ.out; simp [this]), HI2.out, hc2, HBN.out⟩
          case measure => simp [intOf]; omega
        · have hz1 : 0 < d.til := by omega
          have HZ := Lib.hid hz
          clear hz
          go_wp2_with fail
          refine (r_Put xs d.known _ _ c0 _ (by omega) hc0 (HIS.out.now (by (repeat' (first | with_reducible exact Below.refl _ _ | with_reducible assumption | with_reducible refine Below.alloc ?_ ?_ _ | with_reducible refine Below.setCell ?_ ?_ _ | with_reducible refine Below.drew ?_ | (simp; done) | (simp; omega) | omega)))) HSS.out).mono ?_
          rintro e w2 ⟨A2, c2, rfl, hb2, hi2, hc2⟩
          have z8 : w2.cell? ⟨wr.heap.size, 8, none⟩ = some (.int .i64 d.til) := by rw [hb2.cell (p := ⟨wr.heap.size, 8, none⟩) (by simp)]; simp
          have HBN := Lib.hid (Below.then_ (HBB.out.alloc (by have := HBB.out.size; omega) (.cells #[.int .i64 d.par, .int .i64 d.no, .int .i64 d.kind, .int .i64 d.lock, .int .i64 d.person, .int .i64 d.lo, .int .i64 d.hi, .int .i64 d.known, .int .i64 d.til] 28)) hb2)
          have HI2 := Lib.hid hi2
          clear hi2
          have hl2 := insS_len d.known xs
          go_wp2_with fail
          refine (r_Put (insS d.known xs) d.til _ _ c2 _ (by omega) hc2 HI2.out (insS_ss HSS.out)).mono ?_
          rintro e w3 ⟨A3, c3, rfl, hb3, hi3, hc3⟩
          have HBN3 := Lib.hid (Below.then_ HBN.out hb3)
          have HI3 := Lib.hid hi3
          clear hi3
          have hl3 := insS_len d.til (insS d.known xs)
          go_wp2_with fail
          go_roundw
          case rel => exact ⟨k + 1, insS d.til (insS d.known xs), A3, c3, by omega, by go_num, rfl, insS_ss (insS_ss HSS.out), by omega, dates_step HMEM.out HK.out (fun a => by rw [insS_mem, insS_mem]; unfold dateOf; have := HZ.out; simp [this]; exact ⟨fun h => h.elim (fun h => .inl (.inr h)) (fun h => h.elim (fun h => .inl (.inl h)) .inr), fun h => h.elim (fun h => h.elim (fun h => .inr (.inl h)) .inl) (fun h => .inr (.inr h))⟩), HI3.out, hc3, HBN3.out⟩
          case measure => simp [intOf]; omega
      · obtain rfl : k = n := by omega
        go_wp2
        go_ret2
        rw [List.take_of_length_le (by rw [HL.out]; exact Nat.le_refl _)] at HMEM
        exact ⟨HBB.out, fun h => absurd (HB.out.symm.trans h) (by decide), fun _ => ⟨xs, _, _, rfl, HSS.out, HMEM.out, HIS.out, hc0⟩⟩

end Go.Proofs.YtaomfjgleddpdaaGreat

/- The reference's Join: its plain facts, and an append of a slice that is read, at a plain region. -/
namespace Go.Proofs.YtaomfjgleddpdaaGreat
open Go.RowKit
attribute [local go_sem] Oper.semAt_some

theorem insD_at {zs : List Deed} {x : Deed} {j : Nat} (h1 : ∀ (i : Nat) (a : Deed), i < j → zs[i]? = some a → bef a x = true) (h2 : ∀ a, zs[j]? = some a → bef a x = false) : insD x zs = zs.take j ++ x :: zs.drop j := by
  induction zs generalizing j with
  | nil => simp [insD]
  | cons b l ih =>
    unfold insD
    cases j with
    | zero => rw [if_neg (by rw [h2 b rfl]; simp)]; rfl
    | succ j =>
      rw [if_pos (h1 0 b (by omega) rfl), ih (j := j) (fun i a hi ha => h1 (i + 1) a (by omega) (by simpa using ha)) (fun a ha => h2 a (by simpa using ha))]
      rfl
theorem findK_some {x y : Deed} {L : List Deed} (h : KN L) (hy : y ∈ L) (e : kOf y = kOf x) : findK x L = some y := by
  induction L with
  | nil => cases hy
  | cons a l ih =>
    have ha := (List.pairwise_cons.1 h).1
    unfold findK at *
    rw [List.find?_cons]
    rcases List.mem_cons.1 hy with rfl | hy'
    · simp [e]
    · rw [show decide (kOf a = kOf x) = false from by simp; exact fun e2 => ha y hy' (e2.trans e.symm)]
      exact ih (List.pairwise_cons.1 h).2 hy'
theorem srt_mem {a : Deed} {L : List Deed} : a ∈ srtD L ↔ a ∈ L := (srtD_perm L).mem_iff
theorem srt_len (L : List Deed) : (srtD L).length = L.length := (srtD_perm L).length_eq
theorem find_here {L : List Deed} {x y : Deed} {j : Nat} (h : KN L) (hj : (srtD L)[j]? = some y) (e : kOf y = kOf x) : findK x L = some y := findK_some h (srt_mem.1 (List.mem_of_getElem? hj)) e
theorem find_gone {L : List Deed} {x : Deed} {j : Nat} (h : KN L) (h1 : ∀ (i : Nat) (a : Deed), i < j → (srtD L)[i]? = some a → bef a x = true) (h2 : ∀ a, (srtD L)[j]? = some a → bef a x = false ∧ kOf a ≠ kOf x) : findK x L = none := by
  refine List.find?_eq_none.2 fun y hy => ?_
  have hs := srtD_sd h
  obtain ⟨i, hi⟩ := List.mem_iff_getElem?.1 (srt_mem.2 hy)
  have hk : kOf y ≠ kOf x := by
    rcases Nat.lt_trichotomy i j with hlt | rfl | hgt
    · exact bef_ne (h1 i y hlt hi)
    · exact (h2 y hi).2
    · obtain ⟨hil, e1⟩ := List.getElem?_eq_some_iff.1 hi
      have hjl : j < (srtD L).length := by omega
      obtain ⟨h3, h4⟩ := h2 _ (List.getElem?_eq_getElem hjl)
      have h5 := List.pairwise_iff_getElem.1 hs j i hjl hil hgt
      rw [e1] at h5
      exact (bef_ne (bef_trans (bef_total h3 h4) h5)).symm
  simpa using hk
theorem srt_snoc {L : List Deed} {x : Deed} (h : KN L) (hn : findK x L = none) : srtD (L ++ [x]) = insD x (srtD L) := by
  refine SD.eq (srtD_sd (h.snoc hn)) (insD_sd (srtD_sd h) fun y hy => findK_none hn y (srt_mem.1 hy)) ?_
  refine (srtD_perm _).trans (List.Perm.trans ?_ (insD_perm x (srtD L)).symm)
  exact (List.perm_append_comm (l₁ := L) (l₂ := [x])).trans ((srtD_perm L).symm.cons x)
theorem srt_self {L : List Deed} (h : SD L) : srtD L = L := SD.eq (srtD_sd h.kn) h (srtD_perm L)
theorem ss_len : ∀ (xs : List Int) (lo hi : Int), SS xs → (∀ a ∈ xs, lo ≤ a ∧ a ≤ hi) → lo ≤ hi + 1 → (xs.length : Int) ≤ hi + 1 - lo := by
  intro xs
  induction xs with
  | nil => intro lo hi _ _ h; simp; omega
  | cons x l ih =>
    intro lo hi hs hr hlo
    have h0 := hr x (by simp)
    have h2 := ih (x + 1) hi (List.pairwise_cons.1 hs).2 (fun a ha => ⟨by have := (List.pairwise_cons.1 hs).1 a ha; omega, (hr a (List.mem_cons_of_mem _ ha)).2⟩) (by omega)
    simp only [List.length_cons]
    omega
theorem okB_at {d : Deed} (h : d.okB = true) : 0 ≤ d.par ∧ d.par ≤ 5 ∧ 0 ≤ d.no ∧ d.no ≤ 9999 := by
  rw [Deed.okB_eq] at h
  simp only [Bool.and_eq_true, itemB, withinB, decide_eq_true_eq] at h
  obtain ⟨⟨⟨h1, h2⟩, h3, h4⟩, _⟩ := h
  exact ⟨h1, h2, h3, h4⟩
theorem kn_len {L : List Deed} (h : KN L) (ho : ∀ d ∈ L, d.okB = true) : L.length ≤ 60000 := by
  have hs := srtD_sd h
  have ho2 : ∀ d ∈ srtD L, d.okB = true := fun d hd => ho d (srt_mem.1 hd)
  have h1 : SS ((srtD L).map fun d => d.par * 10000 + d.no) := by
    unfold SS
    rw [List.pairwise_map]
    refine hs.imp_of_mem fun {a b} ha hb hab => ?_
    have h2 := okB_at (ho2 a ha)
    have h3 := okB_at (ho2 b hb)
    simp only [bef, beforeB, Bool.or_eq_true, Bool.and_eq_true, decide_eq_true_eq] at hab
    omega
  have h4 := ss_len _ 0 59999 h1 (fun a ha => by
    obtain ⟨d, hd, rfl⟩ := List.mem_map.1 ha
    have := okB_at (ho2 d hd)
    omega) (by decide)
  rw [List.length_map, srt_len] at h4
  omega

theorem wpList_app {P : Program} {w : World} {ops : Array Oper} {rest : List Oper} {o : Oper} {a : Act} {Q : Exit → Act → World → Prop} (hgd : o.guard = none) (s x : Operand) (t : TypeId)
    (hop : o.op = .call { callee := .builtin .append, args := #[s, x], argTypes := #[t, t] })
    {base B : Nat} {e : TypeId} {i : TypeInfo} {z : Value} {size bytes : Nat} (ht : P.underlying t = some (.slice e)) (hi : P.info? e = some i) (hz : i.zero = some z)
    (hsize : i.size = size) (hby : i.bytes = bytes) (hzs : z.cells.size = size) (hsz : 0 < size) {v : Value} {n m c : Nat} {xs news : List Value} {A : Option Addr} (hs : a.eval s = v) (hx : a.eval x = .slice A m c) (ho : w.ownsRow base e size v n xs)
    (hr : Rd w B size A m news) (h1 : ∀ u ∈ news, u.oneCell' = true) (h63 : n + m ≤ maxLen) (hb : (n + m) * bytes ≤ 140737488355328) (hbase : base ≤ w.heap.size)
    (h : ∀ v' w', w'.ownsRow base e size v' (n + m) (xs ++ news) → w.grownBy w' v.ownBlock → Below base w w' → wpList P ops Q rest (a.put o.dst v') w') : wpList P ops Q (o :: rest) a w := by
  refine wpList_plain hgd fun K hK => ?_
  obtain ⟨v', w', g1, g2, g3⟩ := run_app (P := P) w (ty := o.type) ht hi hz hsize hby hzs hsz ho hr h1 h63 hb hbase (c := c)
  unfold Oper.wp execOp
  simp only [hop, resolve, invoke, builtin, Sem.run_bind, Sem.run_pure, Result.andThen_ok, List.map_toArray, List.map_cons, List.map_nil, hs, hx, g1]
  exact hK _ _ (h v' w' g2 g3 ((Below.refl base w).grown g3 hbase fun k e => own_le ho e))

end Go.Proofs.YtaomfjgleddpdaaGreat
