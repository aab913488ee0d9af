/- Layer 2, the reference: Mod and bits. -/
import Derived.Test.YtmcmbicapdcfmaaGreatAe
import Derived.Laws.Bits64
set_option linter.unusedVariables false
set_option linter.unusedSimpArgs false
namespace Go.Proofs.YtmcmbicapdcfmaaGreat
open Go.RowKit Go.Maps

theorem mod_mid {a m : Int} (hm : 0 < m) : a.tmod m + m = a % m + m ∨ a.tmod m + m = a % m := by
  rcases Int.lt_or_le a 0 with h | h
  · have e1 := Int.tmod_eq_emod (a := a) (b := m)
    by_cases hd : m ∣ a
    · left; rw [e1]; simp [hd]
    · right; rw [e1]; simp [hd, Int.not_le.2 h]; omega
  · left; rw [Int.tmod_eq_emod_of_nonneg h]
theorem mod_val {a m : Int} (hm : 0 < m) (hm2 : m ≤ 1000000) : (wrap64 (a.tmod m + m)).tmod m = a % m := by
  have h0 := Int.emod_nonneg a (Int.ne_of_gt hm)
  have h2 := Int.emod_lt_of_pos a hm
  have hw : wrap64 (a.tmod m + m) = a.tmod m + m := IntWalk.wrap64_in _ (by rcases mod_mid (a := a) hm with h1 | h1 <;> rw [h1] <;> constructor <;> omega)
  rw [hw]
  rcases mod_mid (a := a) hm with h1 | h1
  · rw [h1, Int.tmod_eq_emod_of_nonneg (by omega), Int.add_emod_right, Int.emod_emod]
  · rw [h1, Int.tmod_eq_emod_of_nonneg h0, Int.emod_emod]

set_option maxHeartbeats 1000000 in
theorem r_Mod2 (a m : Int) (w : World) (hm : 0 < m) (hm2 : m ≤ 1000000) :
    Calls Tryz.prog 11 #[.int .i64 a, .int .i64 m] w fun e w' => e = .returned (.int .i64 (a % m)) ∧ w = w' := by
  have hz : ¬ m = 0 := by omega
  go_enter Tryz.func11, Tryz.ntmps11
  go_wp2
  go_ret
  exact ⟨ret_int (mod_val hm hm2), rfl⟩
theorem r_Mod_v (a m v : Int) (w : World) (hm : 0 < m) (hm2 : m ≤ 1000000) (h : a % m = v) :
    Calls Tryz.prog 11 #[.int .i64 a, .int .i64 m] w fun e w' => e = .returned (.int .i64 v) ∧ w = w' := h ▸ r_Mod2 a m w hm hm2

/-- What bits hands back. -/
def RetBits (m : Int) (w : World) (e : Ending) (w' : World) : Prop := ∃ A n c xs, e = .returned (.slice A n c) ∧ Below w.heap.size w w' ∧ w'.ownsRow w.heap.size 3 1 (.slice A n c) n (intL xs) ∧ n ≤ c ∧ c ≤ maxLen ∧ BitsOk m xs

theorem up_le {m : Int} : ∀ {xs : List Int}, xs.Pairwise (· < ·) → (∀ x ∈ xs, 1 ≤ x ∧ x < m) → (xs.length : Int) ≤ m - 1 ∨ xs = [] := by
  intro xs hp h
  have g : ∀ (i : Nat) (hi : i < xs.length), (i : Int) + 1 ≤ xs[i] := by
    intro i
    induction i with
    | zero => intro hi; have := (h _ (List.getElem_mem hi)).1; omega
    | succ i ih =>
      intro hi
      have h4 := ih (by omega)
      have h5 := List.pairwise_iff_getElem.1 hp i (i + 1) (by omega) hi (by omega)
      omega
  rcases Nat.eq_zero_or_pos xs.length with h0 | h0
  · exact .inr (List.eq_nil_of_length_eq_zero h0)
  · left
    have h4 := g (xs.length - 1) (by omega)
    have h5 := (h _ (List.getElem_mem (show xs.length - 1 < xs.length by omega))).2
    omega
theorem bits_snoc {xs : List Int} {i : Int} (h : xs.Pairwise (· < ·)) (h2 : ∀ x ∈ xs, 1 ≤ x ∧ x < i) (hi : 1 ≤ i) : (xs ++ [i]).Pairwise (· < ·) ∧ ∀ x ∈ xs ++ [i], 1 ≤ x ∧ x < i + 1 := by
  refine ⟨List.pairwise_append.2 ⟨h, by simp, fun a ha b hb => ?_⟩, fun x hx => ?_⟩
  · rw [List.mem_singleton.1 hb]; exact (h2 a ha).2
  · rcases List.mem_append.1 hx with hx | hx
    · have := h2 x hx; omega
    · rw [List.mem_singleton.1 hx]; omega

set_option maxRecDepth 10000 in
set_option maxHeartbeats 8000000 in
theorem r_bits (n m : Int) (w : World) (hm : 1 ≤ m ∧ m ≤ 4) :
    Calls Tryz.prog 77 #[.int .i64 n, .int .i64 m] w (RetBits m w) := by
  obtain ⟨i0, hi, hz0, hz1, hz2⟩ := info_parts infoI2
  obtain ⟨hm1, hm4⟩ := hm
  go_enter Tryz.func77, Tryz.ntmps77
  go_wp2
  go_loopw [5, 6] (fun v i wr => ∃ (k : Nat) (xs : List Int), 1 ≤ k ∧ (k : Int) ≤ m + 1 ∧ i = .int .i64 (k : Int) ∧ wr.ownsRow w.heap.size 3 1 v xs.length (intL xs) ∧ Below w.heap.size w wr ∧ xs.length ≤ 4 ∧ xs.Pairwise (· < ·) ∧ ∀ x ∈ xs, 1 ≤ x ∧ x < (k : Int)) (fun _ i _ => (m + 1).toNat - (intOf i).toNat)
  case atStart => exact ⟨1, [], by omega, by omega, rfl, World.ownsRow_nil _ _ _ _, by (repeat' (first | with_reducible exact Below.refl _ _ | with_reducible assumption | with_reducible refine Below.alloc ?_ ?_ _ | with_reducible refine Below.setCell ?_ ?_ _ | with_reducible refine Below.drew ?_ | (simp; done) | (simp; omega) | omega)), by simp, List.Pairwise.nil, by simp⟩
  case round =>
    obtain ⟨k, xs, hk1, hk2, rfl, hown, hB, hl4, hup, hlo⟩ := hrel
    have hs0 := hB.size
    by_cases hlt : (k : Int) ≤ m
    · have hk4 : k = 1 ∨ k = 2 ∨ k = 3 ∨ k = 4 := by omega
      have HO := Lib.hid hown
      have HB := Lib.hid hB
      have HU := Lib.hid hup
      have HL := Lib.hid hlo
      clear hown hB hup hlo
      rcases hk4 with rfl | rfl | rfl | rfl
      · cases hbt : (bits BinOp.and IntKind.i64 n 2 != 0) with
        | true =>
          have hg := HO.out
          go_wp2_with (at_builtin; refine wpList_append_own _ rfl (.tmp 17) (.tmp 19) 33 rfl (w.heap.size) 3 i0 _ 1 8 Tryz.underlying33 hi hz0 hz1 hz2 rfl (by decide) _ _ _ rfl (hg.alloc _) ⟨wr.heap.size, 0, none⟩ 1 1 [.int .i64 1] rfl rfl ?c1 ?c2 ?c3 ?c4 ?c5 ?_; rotate_left 5; intro v' w2 hown2 hgrow2 _)
          case c1 => intro j u hj; match j, hj with | 0, hj => simp at hj; subst hj; simp [Addr.add]
          case c2 => simp [Value.oneCell']
          case c3 => unfold maxLen; omega
          case c4 => omega
          case c5 => simp; omega
          go_roundw
          case rel =>
            have hsn := bits_snoc (i := 1) HU.out HL.out (by omega)
            refine ⟨2, xs ++ [1], by omega, by omega, rfl, ?_, OwnB.below (by have := HB.out; (repeat' (first | with_reducible exact Below.refl _ _ | with_reducible assumption | with_reducible refine Below.alloc ?_ ?_ _ | with_reducible refine Below.setCell ?_ ?_ _ | with_reducible refine Below.drew ?_ | (simp; done) | (simp; omega) | omega))) HO.out (by simp; omega) hgrow2, ?_, hsn.1, hsn.2⟩
            · rw [List.length_append, List.length_singleton]; simpa [intL] using hown2
            · have hq := HL.out; have hrl := up_le (m := 1) HU.out hq; rcases hrl with hrl | rfl <;> simp <;> omega
          case measure => simp [intOf]; omega
        | false =>
          go_wp2_with fail
          go_roundw
          case rel => exact ⟨2, xs, by omega, by omega, rfl, HO.out, by have := HB.out; (repeat' (first | with_reducible exact Below.refl _ _ | with_reducible assumption | with_reducible refine Below.alloc ?_ ?_ _ | with_reducible refine Below.setCell ?_ ?_ _ | with_reducible refine Below.drew ?_ | (simp; done) | (simp; omega) | omega)), hl4, HU.out, fun x hx => by have := HL.out x hx; omega⟩
          case measure => simp [intOf]; omega
      · cases hbt : (bits BinOp.and IntKind.i64 n 4 != 0) with
        | true =>
          have hg := HO.out
          go_wp2_with (at_builtin; refine wpList_append_own _ rfl (.tmp 17) (.tmp 19) 33 rfl (w.heap.size) 3 i0 _ 1 8 Tryz.underlying33 hi hz0 hz1 hz2 rfl (by decide) _ _ _ rfl (hg.alloc _) ⟨wr.heap.size, 0, none⟩ 1 1 [.int .i64 2] rfl rfl ?c1 ?c2 ?c3 ?c4 ?c5 ?_; rotate_left 5; intro v' w2 hown2 hgrow2 _)
          case c1 => intro j u hj; match j, hj with | 0, hj => simp at hj; subst hj; simp [Addr.add]
          case c2 => simp [Value.oneCell']
          case c3 => unfold maxLen; omega
          case c4 => omega
          case c5 => simp; omega
          go_roundw
          case rel =>
            have hsn := bits_snoc (i := 2) HU.out HL.out (by omega)
            refine ⟨3, xs ++ [2], by omega, by omega, rfl, ?_, OwnB.below (by have := HB.out; (repeat' (first | with_reducible exact Below.refl _ _ | with_reducible assumption | with_reducible refine Below.alloc ?_ ?_ _ | with_reducible refine Below.setCell ?_ ?_ _ | with_reducible refine Below.drew ?_ | (simp; done) | (simp; omega) | omega))) HO.out (by simp; omega) hgrow2, ?_, hsn.1, hsn.2⟩
            · rw [List.length_append, List.length_singleton]; simpa [intL] using hown2
            · have hq := HL.out; have hrl := up_le (m := 2) HU.out hq; rcases hrl with hrl | rfl <;> simp <;> omega
          case measure => simp [intOf]; omega
        | false =>
          go_wp2_with fail
          go_roundw
          case rel => exact ⟨3, xs, by omega, by omega, rfl, HO.out, by have := HB.out; (repeat' (first | with_reducible exact Below.refl _ _ | with_reducible assumption | with_reducible refine Below.alloc ?_ ?_ _ | with_reducible refine Below.setCell ?_ ?_ _ | with_reducible refine Below.drew ?_ | (simp; done) | (simp; omega) | omega)), hl4, HU.out, fun x hx => by have := HL.out x hx; omega⟩
          case measure => simp [intOf]; omega
      · cases hbt : (bits BinOp.and IntKind.i64 n 8 != 0) with
        | true =>
          have hg := HO.out
          go_wp2_with (at_builtin; refine wpList_append_own _ rfl (.tmp 17) (.tmp 19) 33 rfl (w.heap.size) 3 i0 _ 1 8 Tryz.underlying33 hi hz0 hz1 hz2 rfl (by decide) _ _ _ rfl (hg.alloc _) ⟨wr.heap.size, 0, none⟩ 1 1 [.int .i64 3] rfl rfl ?c1 ?c2 ?c3 ?c4 ?c5 ?_; rotate_left 5; intro v' w2 hown2 hgrow2 _)
          case c1 => intro j u hj; match j, hj with | 0, hj => simp at hj; subst hj; simp [Addr.add]
          case c2 => simp [Value.oneCell']
          case c3 => unfold maxLen; omega
          case c4 => omega
          case c5 => simp; omega
          go_roundw
          case rel =>
            have hsn := bits_snoc (i := 3) HU.out HL.out (by omega)
            refine ⟨4, xs ++ [3], by omega, by omega, rfl, ?_, OwnB.below (by have := HB.out; (repeat' (first | with_reducible exact Below.refl _ _ | with_reducible assumption | with_reducible refine Below.alloc ?_ ?_ _ | with_reducible refine Below.setCell ?_ ?_ _ | with_reducible refine Below.drew ?_ | (simp; done) | (simp; omega) | omega))) HO.out (by simp; omega) hgrow2, ?_, hsn.1, hsn.2⟩
            · rw [List.length_append, List.length_singleton]; simpa [intL] using hown2
            · have hq := HL.out; have hrl := up_le (m := 3) HU.out hq; rcases hrl with hrl | rfl <;> simp <;> omega
          case measure => simp [intOf]; omega
        | false =>
          go_wp2_with fail
          go_roundw
          case rel => exact ⟨4, xs, by omega, by omega, rfl, HO.out, by have := HB.out; (repeat' (first | with_reducible exact Below.refl _ _ | with_reducible assumption | with_reducible refine Below.alloc ?_ ?_ _ | with_reducible refine Below.setCell ?_ ?_ _ | with_reducible refine Below.drew ?_ | (simp; done) | (simp; omega) | omega)), hl4, HU.out, fun x hx => by have := HL.out x hx; omega⟩
          case measure => simp [intOf]; omega
      · cases hbt : (bits BinOp.and IntKind.i64 n 16 != 0) with
        | true =>
          have hg := HO.out
          go_wp2_with (at_builtin; refine wpList_append_own _ rfl (.tmp 17) (.tmp 19) 33 rfl (w.heap.size) 3 i0 _ 1 8 Tryz.underlying33 hi hz0 hz1 hz2 rfl (by decide) _ _ _ rfl (hg.alloc _) ⟨wr.heap.size, 0, none⟩ 1 1 [.int .i64 4] rfl rfl ?c1 ?c2 ?c3 ?c4 ?c5 ?_; rotate_left 5; intro v' w2 hown2 hgrow2 _)
          case c1 => intro j u hj; match j, hj with | 0, hj => simp at hj; subst hj; simp [Addr.add]
          case c2 => simp [Value.oneCell']
          case c3 => unfold maxLen; omega
          case c4 => omega
          case c5 => simp; omega
          go_roundw
          case rel =>
            have hsn := bits_snoc (i := 4) HU.out HL.out (by omega)
            refine ⟨5, xs ++ [4], by omega, by omega, rfl, ?_, OwnB.below (by have := HB.out; (repeat' (first | with_reducible exact Below.refl _ _ | with_reducible assumption | with_reducible refine Below.alloc ?_ ?_ _ | with_reducible refine Below.setCell ?_ ?_ _ | with_reducible refine Below.drew ?_ | (simp; done) | (simp; omega) | omega))) HO.out (by simp; omega) hgrow2, ?_, hsn.1, hsn.2⟩
            · rw [List.length_append, List.length_singleton]; simpa [intL] using hown2
            · have hq := HL.out; have hrl := up_le (m := 4) HU.out hq; rcases hrl with hrl | rfl <;> simp <;> omega
          case measure => simp [intOf]; omega
        | false =>
          go_wp2_with fail
          go_roundw
          case rel => exact ⟨5, xs, by omega, by omega, rfl, HO.out, by have := HB.out; (repeat' (first | with_reducible exact Below.refl _ _ | with_reducible assumption | with_reducible refine Below.alloc ?_ ?_ _ | with_reducible refine Below.setCell ?_ ?_ _ | with_reducible refine Below.drew ?_ | (simp; done) | (simp; omega) | omega)), hl4, HU.out, fun x hx => by have := HL.out x hx; omega⟩
          case measure => simp [intOf]; omega
    · have HO := Lib.hid hown
      have HB := Lib.hid hB
      have HU := Lib.hid hup
      have HL := Lib.hid hlo
      clear hown hB hup hlo
      cases xs with
      | nil =>
        obtain ⟨A, c, rfl, hc⟩ := own_slice HO.out
        have hl0 : (([] : List Int).length : Int) = 0 := rfl
        simp only [List.length_nil] at *
        go_wp2_with fail
        go_ret
        refine ⟨_, _, _, [1], rfl, by have := HB.out; (repeat' (first | with_reducible exact Below.refl _ _ | with_reducible assumption | with_reducible refine Below.alloc ?_ ?_ _ | with_reducible refine Below.setCell ?_ ?_ _ | with_reducible refine Below.drew ?_ | (simp; done) | (simp; omega) | omega)), own_dn (own_new wr 3 #[.int .i64 1] 1 rfl (by decide)) hs0, by decide, by decide, by decide, by simp, fun x hx => by rw [List.mem_singleton.1 hx]; omega⟩
      | cons x xs =>
        obtain ⟨A, c, rfl, hc⟩ := own_slice HO.out
        have hne : (((x :: xs).length : Int) == 0) = false := by simp; omega
        go_wp2_with fail
        go_ret
        refine ⟨A, _, c, x :: xs, rfl, HB.out, HO.out, hc.1, hc.2, by simp, HU.out, fun y hy => by have := HL.out y hy; omega⟩
end Go.Proofs.YtmcmbicapdcfmaaGreat
