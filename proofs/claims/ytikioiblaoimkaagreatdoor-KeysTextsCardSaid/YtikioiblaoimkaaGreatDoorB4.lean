import Derived.Test.YtikioiblaoimkaaGreatDoorB3
import Derived.Ground.Names8Prog
import Derived.Shelf.Spec.SlicesGrow
import Derived.Test.YtikioiblaoimkaaGreatDoorZp
set_option linter.unusedVariables false
set_option linter.unusedSimpArgs false

/- slices.Grow at a nil slice of deeds, slices.Concat of two slices of deeds. -/
namespace Go.Proofs.YtikioiblaoimkaaGreatDoor
open Go.RowKit Go.Shelf Go.Proofs


theorem zeroCells_size (cs : Array Value) (n : Nat) : (Builtin.zeroCells cs n).size = n * cs.size := by
  unfold Builtin.zeroCells
  simp [Nat.mul_comm]
theorem Below.of_alloc_drew (w : World) (o : Obj) : Below w.heap.size w (w.drew.alloc o) := (Below.refl w.heap.size w).drew.alloc (Nat.le_refl _) _
theorem p_GrowNil (n : Nat) (w : World) (hn : n ≤ 1000) :
    Calls Tryz.prog 100 #[.slice none 0 0, .int .i64 n] w fun e w' => ∃ v, e = .returned v ∧ w'.ownsRow w.heap.size 41 9 v 0 [] ∧ Below w.heap.size w w' := by
  obtain ⟨i0, hi, hz0, hz1, hz2⟩ := info_parts infoDeed
  rcases Nat.eq_zero_or_pos n with rfl | hpos
  · refine (Any8.slices_Grow_room Tryz.growD none 0 0 0 w (by omega) (by omega) (by omega) (by omega)).mono ?_
    rintro e w' ⟨rfl, rfl⟩
    exact ⟨_, rfl, World.ownsRow_nil _ _ _ _, Below.refl _ _⟩
  · refine (Any8.slices_Grow_grow Tryz.growD i0 _ hi hz0 (by rw [hz1]; omega) none 0 0 n [] w (by omega) (by omega) (by rw [hz2]; omega) (by omega) (by simp) (fun _ => rfl) (fun a h => by cases h)).mono ?_
    rintro e w' ⟨rfl, rfl⟩
    have hg := grownCap_ge w (0 + n) 0 41
    have hm := grownCap_le_maxLen w (0 + n) 0 41 (by unfold maxLen; omega)
    refine ⟨_, rfl, ⟨rfl, .inr ⟨w.heap.size, _, _, rfl, Nat.le_refl _, World.alloc_heap_new w.drew _, Nat.zero_le _, hm, ?_, by simp⟩⟩, Below.of_alloc_drew _ _⟩
    have hz : (Value.agg #[.int .i64 0, .int .i64 0, .int .i64 0, .int .i64 0, .int .i64 0, .int .i64 0, .int .i64 0, .int .i64 0, .int .i64 0]).cells.size = 9 := rfl
    change _ = grownCap w (0 + n) 0 41 * 9
    simp only [Array.size_append, zeroCells_size, hz, List.size_toArray, List.length_nil]
    change 0 + n ≤ grownCap w (0 + n) 0 41 at hg
    change 0 + (0 + n - 0) * 9 + (grownCap w (0 + n) 0 41 - (0 + n)) * 9 = grownCap w (0 + n) 0 41 * 9
    generalize grownCap w (0 + n) 0 41 = G at hg ⊢
    omega
theorem Ds.news {w : World} {B n p q : Nat} {xs : List Deed} (h : Ds w B (some ⟨p, q, none⟩) n xs) : ∀ j u, (deedCells xs)[j]? = some u → w.cell? ((⟨p, q, none⟩ : Addr).add j) = some u := by
  intro j u hj
  have hl := h.1
  rcases Nat.eq_zero_or_pos n with rfl | hpos
  · rw [List.getElem?_eq_none (by omega)] at hj
    cases hj
  · obtain ⟨b, o, e, _, h2⟩ := h.2 hpos
    cases e
    rw [Addr.add_lit]
    exact h2 j u hj
theorem deedCells_one (xs : List Deed) : ∀ u ∈ deedCells xs, u.oneCell' = true := by
  intro u hu
  unfold deedCells at hu
  obtain ⟨d, _, h⟩ := List.mem_flatMap.1 hu
  simp only [List.mem_cons, List.not_mem_nil, or_false] at h
  rcases h with rfl | rfl | rfl | rfl | rfl | rfl | rfl | rfl | rfl <;> rfl

set_option maxHeartbeats 2000000 in
theorem p_Concat (xs ys : List Deed) (b p q s t n m c d : Nat) (w : World) (hn : n ≤ 100) (hm : m ≤ 100) (hx : Ds w w.heap.size (some ⟨p, q, none⟩) n xs) (hy : Ds w w.heap.size (some ⟨s, t, none⟩) m ys)
    (f0 : w.cell? ⟨b, 0, none⟩ = some (.slice (some ⟨p, q, none⟩) n c)) (f1 : w.cell? ⟨b, 1, none⟩ = some (.slice (some ⟨s, t, none⟩) m d)) (hb : b < w.heap.size) :
    Calls Tryz.prog 65 #[.slice (some ⟨b, 0, none⟩) 2 2] w (RetDs (xs ++ ys) w) := by
  obtain ⟨i0, hi, hz0, hz1, hz2⟩ := info_parts infoDeed
  have HX := Lib.hid hx
  have HY := Lib.hid hy
  have HLX := Lib.hid hx.len
  have HLY := Lib.hid hy.len
  clear hx hy
  go_enter Tryz.func65, Tryz.ntmps65
  go_wp2
  go_loop [3, 11] (fun z i => ∃ k : Nat, k ≤ 2 ∧ i = .int .i64 k ∧ z = .int .i64 ((if k = 0 then 0 else if k = 1 then n else n + m : Nat) : Int)) (fun _ i => 2 - (intOf i).toNat)
  case atStart => exact ⟨0, by omega, rfl, rfl⟩
  case round =>
    obtain ⟨k, hk, rfl, rfl⟩ := hrel
    have hcs : k = 0 ∨ k = 1 ∨ k = 2 := by omega
    rcases hcs with rfl | rfl | rfl
    · simp only [if_true]
      have hlt : decide ((n : Int) < 0) = false := by simp
      go_wp2
      go_round
      case rel => exact ⟨1, by omega, by go_num, by simp⟩
      case measure => simp [intOf]
    · simp only [show ¬ (1 = 0) from by omega, if_false, if_true]
      have hlt : decide ((n : Int) + (m : Int) < 0) = false := by simp; omega
      go_wp2
      go_round
      case rel => exact ⟨2, by omega, by go_num, by simp⟩
      case measure => simp [intOf]
    · simp only [show ¬ (2 = 0) from by omega, show ¬ (2 = 1) from by omega, if_false]
      go_wp2_with fail
      refine (p_GrowNil (n + m) _ (by omega)).mono ?_
      rintro e w1 ⟨v, rfl, hown, hb1⟩
      have HO := Lib.hid hown
      obtain ⟨A0, c0, rfl, hcc⟩ := own_slice hown
      clear hown
      go_wp2
      go_loopw [6, 27] (fun v i wr => ∃ k : Nat, k ≤ 2 ∧ i = .int .i64 k ∧ wr.ownsRow w.heap.size 41 9 v (if k = 0 then 0 else if k = 1 then n else n + m : Nat) (if k = 0 then [] else if k = 1 then deedCells xs else deedCells xs ++ deedCells ys) ∧ Below w.heap.size w wr) (fun _ i _ => 2 - (intOf i).toNat)
      case atStart => exact ⟨0, by omega, rfl, HO.out, hb1⟩
      case round =>
        obtain ⟨k, hk, rfl, hown, hB⟩ := hrel
        have hs := hB.size
        have g0 := (hB.cell (p := ⟨b, 0, none⟩) hb).trans f0
        have g1 := (hB.cell (p := ⟨b, 1, none⟩) hb).trans f1
        have HB := Lib.hid hB
        have HXc := Lib.hid (HX.out.ext hB (Nat.le_refl _))
        have HYc := Lib.hid (HY.out.ext hB (Nat.le_refl _))
        clear hB f0 f1
        have hcs : k = 0 ∨ k = 1 ∨ k = 2 := by omega
        rcases hcs with rfl | rfl | rfl
        · simp only [if_true] at hown
          have HO2 := Lib.hid hown
          go_wp2_with (at_builtin; refine wpList_append_own _ rfl (.tmp 31) (.tmp 32) 22 rfl w.heap.size 41 i0 _ 9 72 Tryz.underlying22 hi hz0 hz1 hz2 rfl (by decide) _ _ _ rfl hown ⟨p, q, none⟩ n c (deedCells xs) rfl (by rw [deedCells_length, HLX.out]) HXc.out.news (deedCells_one _) ?c3 ?c4 ?c5 ?_; rotate_left 3; intro v' w2 hown2 hgrow2 _)
          case c3 => unfold maxLen; omega
          case c4 => omega
          case c5 => omega
          go_roundw
          case rel => exact ⟨1, by omega, by go_num, by simpa using hown2, HB.out.grown hgrow2 hs fun b e => own_le HO2.out e⟩
          case measure => simp [intOf]
        · simp only [show ¬ (1 = 0) from by omega, if_false, if_true] at hown
          have HO2 := Lib.hid hown
          go_wp2_with (at_builtin; refine wpList_append_own _ rfl (.tmp 31) (.tmp 32) 22 rfl w.heap.size 41 i0 _ 9 72 Tryz.underlying22 hi hz0 hz1 hz2 rfl (by decide) _ _ _ rfl hown ⟨s, t, none⟩ m d (deedCells ys) rfl (by rw [deedCells_length, HLY.out]) HYc.out.news (deedCells_one _) ?c3 ?c4 ?c5 ?_; rotate_left 3; intro v' w2 hown2 hgrow2 _)
          case c3 => unfold maxLen; omega
          case c4 => omega
          case c5 => omega
          go_roundw
          case rel => exact ⟨2, by omega, by go_num, by simpa using hown2, HB.out.grown hgrow2 hs fun b e => own_le HO2.out e⟩
          case measure => simp [intOf]
        · simp only [show ¬ (2 = 0) from by omega, show ¬ (2 = 1) from by omega, if_false] at hown
          obtain ⟨A1, c1, hv, hcc⟩ := own_slice hown
          subst hv
          go_wp2
          go_ret
          have hl : (xs ++ ys).length = n + m := by rw [List.length_append, HLX.out, HLY.out]
          refine ⟨A1, c1, by rw [hl]; rfl, HB.out, ?_, by rw [hl]; exact hcc⟩
          rw [hl]
          have hr := Rd.of_own hown
          rw [← deedCells_append] at hr
          exact hr

end Go.Proofs.YtikioiblaoimkaaGreatDoor

/- Moved. -/
namespace Go.Proofs.YtikioiblaoimkaaGreatDoor
open Go.RowKit
attribute [local go_sem] Oper.semAt_some

def mvErr (ds : List Deed) (p q day kn : Int) : Int :=
  if orL [errI (checkB ds) 11, errI (daysOk [day, kn]) 6] = 0 then (if findN p q ds < ds.length then 0 else 3) else orL [errI (checkB ds) 11, errI (daysOk [day, kn]) 6]
def without (p q : Int) (ds : List Deed) : List Deed := ds.take (findN p q ds) ++ ds.drop (findN p q ds + 1)
def mvRes (ds : List Deed) (p q day kn : Int) : List Int := if mvErr ds p q day kn = 0 then mvL ds (without p q ds) kn kn day 3 else []

theorem Ds.take {w : World} {B n b o : Nat} {ds : List Deed} (h : Ds w B (some ⟨b, o, none⟩) n ds) {k : Nat} (hk : k ≤ n) : Ds w B (some ⟨b, o, none⟩) k (ds.take k) := by
  have hl := h.len
  refine ⟨by rw [deedCells_length, List.length_take]; omega, fun h0 => ?_⟩
  obtain ⟨b', o', e, h1, h2⟩ := h.2 (by omega)
  cases e
  refine ⟨_, _, rfl, h1, fun j u hj => h2 j u ?_⟩
  have : deedCells ds = deedCells (ds.take k) ++ deedCells (ds.drop k) := by rw [← deedCells_append, List.take_append_drop]
  rw [this]
  rw [List.getElem?_append_left (List.getElem?_eq_some_iff.1 hj).1]
  exact hj

theorem p_ConcatM (M : Nat) (zs xs ys : List Deed) (b p q s t n m c d : Nat) (w : World) (hz : zs = xs ++ ys) (hM : zs.length = M) (hn : n ≤ 100) (hm : m ≤ 100) (hx : Ds w w.heap.size (some ⟨p, q, none⟩) n xs) (hy : Ds w w.heap.size (some ⟨s, t, none⟩) m ys)
    (f0 : w.cell? ⟨b, 0, none⟩ = some (.slice (some ⟨p, q, none⟩) n c)) (f1 : w.cell? ⟨b, 1, none⟩ = some (.slice (some ⟨s, t, none⟩) m d)) (hb : b < w.heap.size) :
    Calls Tryz.prog 65 #[.slice (some ⟨b, 0, none⟩) 2 2] w fun e w' => ∃ A c, e = .returned (.slice A M c) ∧ Below w.heap.size w w' ∧ Ds w' w'.heap.size A M zs := by
  subst hz hM
  exact (p_Concat xs ys b p q s t n m c d w hn hm hx hy f0 f1 hb).mono fun _ _ ⟨A, c, h1, h2, h3, _, _⟩ => ⟨A, c, h1, h2, h3⟩

set_option maxRecDepth 100000 in
set_option maxHeartbeats 4000000 in
theorem p_Moved (ds : List Deed) (p q day kn : Int) (A : Option Addr) (n c : Nat) (w : World) (hn : n ≤ 9223372036854775807) (hnc : n ≤ c) (hd : Ds w w.heap.size A n ds) :
    Calls Tryz.prog 28 #[.slice A n c, .agg #[.int .i64 p, .int .i64 q], .int .i64 day, .int .i64 kn] w (RetL (mvRes ds p q day kn) (mvErr ds p q day kn) w) := by
  have HD := Lib.hid hd
  have HL := Lib.hid hd.len
  clear hd
  obtain ⟨v, hv⟩ : ∃ v, orL [errI (checkB ds) 11, errI (daysOk [day, kn]) 6] = v := ⟨_, rfl⟩
  have HV := Lib.hid hv
  clear hv
  by_cases hv0 : v = 0
  · subst hv0
    have H60 := Lib.hid (check_60 (or2_eq HV.out).1)
    have h60 : n ≤ 60 := by have := H60.out; have := HL.out; omega
    by_cases hf : findN p q ds < ds.length
    · have HE : Hid (mvErr ds p q day kn = 0) := by show _ = _; rw [mvErr, if_pos HV.out, if_pos hf]
      have HR : Hid (mvRes ds p q day kn = mvL ds (without p q ds) kn kn day 3) := by show _ = _; rw [mvRes, if_pos HE.out]
      obtain ⟨i, hi⟩ : ∃ i, findN p q ds = i := ⟨_, rfl⟩
      have HI := Lib.hid hi
      have hin : i < n := by rw [← hi, ← HL.out]; exact hf
      clear hi hf
      obtain ⟨b, o, rfl, hb⟩ : ∃ b o, A = some ⟨b, o, none⟩ ∧ b < w.heap.size := by
        obtain ⟨b, o, e, h, _⟩ := HD.out.2 (by omega)
        exact ⟨b, o, e, h⟩
      go_enter Tryz.func28, Tryz.ntmps28
      go_wp2_with (first | (go_at_call 10; refine (p_check ds _ _ _ _ hn (HD.out.now (by (repeat' (first | with_reducible exact Below.refl _ _ | with_reducible assumption | with_reducible refine Below.alloc ?_ ?_ _ | with_reducible refine Below.setCell ?_ ?_ _ | with_reducible refine Below.drew ?_ | (simp; done) | (simp; omega) | omega))))).mono ?_; rintro e w1 ⟨rfl, hb1⟩; obtain ⟨hc1, hf1⟩ := bcell hb1; have hz1 : w.heap.size < w1.heap.size := (by have h := hb1.size; (try simp only [World.size_alloc, World.size_setCell] at h); omega); have HB1 : Below w.heap.size w w1 := Below.then_ (by (repeat' (first | with_reducible exact Below.refl _ _ | with_reducible assumption | with_reducible refine Below.alloc ?_ ?_ _ | with_reducible refine Below.setCell ?_ ?_ _ | with_reducible refine Below.drew ?_ | (simp; done) | (simp; omega) | omega))) hb1) | (go_at_call 48; refine (p_checkDays [day, kn] _ 2 2 _ (by decide) (Rd.new _ #[.int .i64 day, .int .i64 kn] _ 1 2 _ (by simp) rfl)).mono ?_; rintro e w1 ⟨rfl, hb1⟩; obtain ⟨hc1, hf1⟩ := bcell hb1; have hz1 : w.heap.size < w1.heap.size := (by have h := hb1.size; (try simp only [World.size_alloc, World.size_setCell] at h); omega); have HB1 : Below w.heap.size w w1 := Below.then_ (by (repeat' (first | with_reducible exact Below.refl _ _ | with_reducible assumption | with_reducible refine Below.alloc ?_ ?_ _ | with_reducible refine Below.setCell ?_ ?_ _ | with_reducible refine Below.drew ?_ | (simp; done) | (simp; omega) | omega))) hb1) | (go_at_call 47; refine (p_first [errI (checkB ds) 11, errI (daysOk [day, kn]) 6] 0 _ 2 2 _ (by decide) (Rd.new _ #[.int .i64 (errI (checkB ds) 11), .int .i64 (errI (daysOk [day, kn]) 6)] _ 1 2 _ (by simp) rfl) HV.out).mono ?_; rintro e w1 ⟨rfl, rfl⟩) | (go_at_call 49; refine (p_find_some ds p q i _ _ _ _ (by omega) (HD.out.now (by (repeat' (first | with_reducible exact Below.refl _ _ | with_reducible assumption | with_reducible refine Below.alloc ?_ ?_ _ | with_reducible refine Below.setCell ?_ ?_ _ | with_reducible refine Below.drew ?_ | (simp; done) | (simp; omega) | omega)))) HI.out (by have := HL.out; omega)).mono ?_; rintro e w2 ⟨rfl, hb2⟩; have HB2 : Below w.heap.size w w2 := Below.then_ (by (repeat' (first | with_reducible exact Below.refl _ _ | with_reducible assumption | with_reducible refine Below.alloc ?_ ?_ _ | with_reducible refine Below.setCell ?_ ?_ _ | with_reducible refine Below.drew ?_ | (simp; done) | (simp; omega) | omega))) hb2))
      have hs2 := HB2.size
      have g1 : decide ((i : Int) < 0) = false := by simp
      have q2 : (0 : Int) ≤ (i : Int) + 1 := by omega
      have q4 : (i : Int) + 1 ≤ (n : Int) := by omega
      have q10 : IntKind.i64.wrap ((i : Int) + 1) = (i : Int) + 1 := IntWalk.i64_in _ (by omega)
      have q11 : ((i : Int) + 1).toNat = i + 1 := by omega
      by_cases hci : c = i + 1
      · subst hci
        have hx2 : ∀ O, Ds (w2.alloc O).drew (w2.alloc O).drew.heap.size (some ⟨b, o, none⟩) i (ds.take i) := fun O => (HD.out.now (w' := (w2.alloc O).drew) (by (repeat' (first | with_reducible exact Below.refl _ _ | with_reducible assumption | with_reducible refine Below.alloc ?_ ?_ _ | with_reducible refine Below.setCell ?_ ?_ _ | with_reducible refine Below.drew ?_ | (simp; done) | (simp; omega) | omega)))).take (by omega)
        have hy2 : ∀ O, Ds (w2.alloc O).drew (w2.alloc O).drew.heap.size (some ⟨b, o, none⟩) 0 (ds.drop (i + 1)) := fun O => (by rw [List.drop_of_length_le (by have := HL.out; omega)]; exact Rd.nil_)
        have HX2 := Lib.hid hx2
        have HY2 := Lib.hid hy2
        clear hx2 hy2
        obtain ⟨M, hM⟩ : ∃ M, (without p q ds).length = M := ⟨_, rfl⟩
        have HM := Lib.hid hM
        have HW : Hid (without p q ds = ds.take i ++ ds.drop (i + 1)) := by show _ = _; rw [without, HI.out]
        have hML : M ≤ 60 := by rw [← hM, HW.out]; have := H60.out; simp; omega
        obtain ⟨zs, hzs⟩ : ∃ zs, without p q ds = zs := ⟨_, rfl⟩
        have HZ := Lib.hid hzs
        have HZM : Hid (zs.length = M) := by show _ = _; rw [← hzs, hM]
        clear hM hzs
        go_region_with (go_at_call 65; refine (p_ConcatM M zs (ds.take i) (ds.drop (i + 1)) w2.heap.size b o b o i 0 (i + 1) 0 _ (HZ.out.symm.trans HW.out) HZM.out (by omega) (by omega) (HX2.out _) (HY2.out _) (by simp) (by simp) (by simp)).mono ?_; rintro e w3 ⟨A3, c3, rfl, hb3, hd3⟩)
        all_goals
         clear q2 q4 q10 q11
         have HD3 := Lib.hid hd3
         have HB3 : Below w.heap.size w w3 := Below.then_ (by (repeat' (first | with_reducible exact Below.refl _ _ | with_reducible assumption | with_reducible refine Below.alloc ?_ ?_ _ | with_reducible refine Below.setCell ?_ ?_ _ | with_reducible refine Below.drew ?_ | (simp; done) | (simp; omega) | omega))) hb3
         clear hd3
         go_wp2_with (go_at_call 66; refine (p_differing ds zs kn kn day _ _ _ _ M _ _ hn (by omega) (HD.out.now HB3) HD3.out).mono ?_; rintro e w4 ⟨A4, c4, rfl, hb4, hi4, hc4⟩)
         go_ret2
         rw [HE.out, HR.out, HZ.out]
         exact ⟨A4, c4, rfl, Below.then_ HB3 hb4, hi4, hc4⟩
      · have hlt : i + 1 < c := by omega
        have hx2 : ∀ O, Ds (w2.alloc O).drew (w2.alloc O).drew.heap.size (some ⟨b, o, none⟩) i (ds.take i) := fun O => (HD.out.now (w' := (w2.alloc O).drew) (by (repeat' (first | with_reducible exact Below.refl _ _ | with_reducible assumption | with_reducible refine Below.alloc ?_ ?_ _ | with_reducible refine Below.setCell ?_ ?_ _ | with_reducible refine Below.drew ?_ | (simp; done) | (simp; omega) | omega)))).take (by omega)
        have hy2 : ∀ O, Ds (w2.alloc O).drew (w2.alloc O).drew.heap.size (some ⟨b, o + (i + 1) * 9, none⟩) (n - (i + 1)) (ds.drop (i + 1)) := fun O => (HD.out.now (w' := (w2.alloc O).drew) (by (repeat' (first | with_reducible exact Below.refl _ _ | with_reducible assumption | with_reducible refine Below.alloc ?_ ?_ _ | with_reducible refine Below.setCell ?_ ?_ _ | with_reducible refine Below.drew ?_ | (simp; done) | (simp; omega) | omega)))).drop (by omega)
        have HX2 := Lib.hid hx2
        have HY2 := Lib.hid hy2
        clear hx2 hy2
        obtain ⟨M, hM⟩ : ∃ M, (without p q ds).length = M := ⟨_, rfl⟩
        have HM := Lib.hid hM
        have HW : Hid (without p q ds = ds.take i ++ ds.drop (i + 1)) := by show _ = _; rw [without, HI.out]
        have hML : M ≤ 60 := by rw [← hM, HW.out]; have := H60.out; simp; omega
        obtain ⟨zs, hzs⟩ : ∃ zs, without p q ds = zs := ⟨_, rfl⟩
        have HZ := Lib.hid hzs
        have HZM : Hid (zs.length = M) := by show _ = _; rw [← hzs, hM]
        clear hM hzs
        go_region_with (go_at_call 65; refine (p_ConcatM M zs (ds.take i) (ds.drop (i + 1)) w2.heap.size b o b (o + (i + 1) * 9) i (n - (i + 1)) c (c - (i + 1)) _ (HZ.out.symm.trans HW.out) HZM.out (by omega) (by omega) (HX2.out _) (HY2.out _) (by simp) (by simp) (by simp)).mono ?_; rintro e w3 ⟨A3, c3, rfl, hb3, hd3⟩)
        all_goals
         clear q2 q4 q10 q11
         have HD3 := Lib.hid hd3
         have HB3 : Below w.heap.size w w3 := Below.then_ (by (repeat' (first | with_reducible exact Below.refl _ _ | with_reducible assumption | with_reducible refine Below.alloc ?_ ?_ _ | with_reducible refine Below.setCell ?_ ?_ _ | with_reducible refine Below.drew ?_ | (simp; done) | (simp; omega) | omega))) hb3
         clear hd3
         go_wp2_with (go_at_call 66; refine (p_differing ds zs kn kn day _ _ _ _ M _ _ hn (by omega) (HD.out.now HB3) HD3.out).mono ?_; rintro e w4 ⟨A4, c4, rfl, hb4, hi4, hc4⟩)
         go_ret2
         rw [HE.out, HR.out, HZ.out]
         exact ⟨A4, c4, rfl, Below.then_ HB3 hb4, hi4, hc4⟩
    · have HE : Hid (mvErr ds p q day kn = 3) := by show _ = _; rw [mvErr, if_pos HV.out, if_neg hf]
      have HR : Hid (mvRes ds p q day kn = []) := by show _ = _; rw [mvRes, HE.out]; rfl
      have HF := Lib.hid hf
      clear hf
      go_enter Tryz.func28, Tryz.ntmps28
      go_wp2_with (first | (go_at_call 10; refine (p_check ds _ _ _ _ hn (HD.out.now (by (repeat' (first | with_reducible exact Below.refl _ _ | with_reducible assumption | with_reducible refine Below.alloc ?_ ?_ _ | with_reducible refine Below.setCell ?_ ?_ _ | with_reducible refine Below.drew ?_ | (simp; done) | (simp; omega) | omega))))).mono ?_; rintro e w1 ⟨rfl, hb1⟩; obtain ⟨hc1, hf1⟩ := bcell hb1; have hz1 : w.heap.size < w1.heap.size := (by have h := hb1.size; (try simp only [World.size_alloc, World.size_setCell] at h); omega); have HB1 : Below w.heap.size w w1 := Below.then_ (by (repeat' (first | with_reducible exact Below.refl _ _ | with_reducible assumption | with_reducible refine Below.alloc ?_ ?_ _ | with_reducible refine Below.setCell ?_ ?_ _ | with_reducible refine Below.drew ?_ | (simp; done) | (simp; omega) | omega))) hb1) | (go_at_call 48; refine (p_checkDays [day, kn] _ 2 2 _ (by decide) (Rd.new _ #[.int .i64 day, .int .i64 kn] _ 1 2 _ (by simp) rfl)).mono ?_; rintro e w1 ⟨rfl, hb1⟩; obtain ⟨hc1, hf1⟩ := bcell hb1; have hz1 : w.heap.size < w1.heap.size := (by have h := hb1.size; (try simp only [World.size_alloc, World.size_setCell] at h); omega); have HB1 : Below w.heap.size w w1 := Below.then_ (by (repeat' (first | with_reducible exact Below.refl _ _ | with_reducible assumption | with_reducible refine Below.alloc ?_ ?_ _ | with_reducible refine Below.setCell ?_ ?_ _ | with_reducible refine Below.drew ?_ | (simp; done) | (simp; omega) | omega))) hb1) | (go_at_call 47; refine (p_first [errI (checkB ds) 11, errI (daysOk [day, kn]) 6] 0 _ 2 2 _ (by decide) (Rd.new _ #[.int .i64 (errI (checkB ds) 11), .int .i64 (errI (daysOk [day, kn]) 6)] _ 1 2 _ (by simp) rfl) HV.out).mono ?_; rintro e w1 ⟨rfl, rfl⟩) | (go_at_call 49; refine (p_find_none ds p q _ _ _ _ (by omega) (HD.out.now (by (repeat' (first | with_reducible exact Below.refl _ _ | with_reducible assumption | with_reducible refine Below.alloc ?_ ?_ _ | with_reducible refine Below.setCell ?_ ?_ _ | with_reducible refine Below.drew ?_ | (simp; done) | (simp; omega) | omega)))) HF.out).mono ?_; rintro e w2 ⟨rfl, hb2⟩; have HB2 : Below w.heap.size w w2 := Below.then_ (by (repeat' (first | with_reducible exact Below.refl _ _ | with_reducible assumption | with_reducible refine Below.alloc ?_ ?_ _ | with_reducible refine Below.setCell ?_ ?_ _ | with_reducible refine Below.drew ?_ | (simp; done) | (simp; omega) | omega))) hb2))
      go_ret2
      rw [HE.out, HR.out]
      exact ⟨none, 0, rfl, HB2, Rd.nil_, Nat.le_refl _⟩
  · have HE : Hid (mvErr ds p q day kn = v) := by show _ = _; rw [mvErr, HV.out, if_neg hv0]
    have HR : Hid (mvRes ds p q day kn = []) := by show _ = _; rw [mvRes, HE.out, if_neg hv0]
    have hv1 : (v != 0) = true := by simpa using hv0
    clear hv0
    go_enter Tryz.func28, Tryz.ntmps28
    go_wp2_with (first | (go_at_call 10; refine (p_check ds _ _ _ _ hn (HD.out.now (by (repeat' (first | with_reducible exact Below.refl _ _ | with_reducible assumption | with_reducible refine Below.alloc ?_ ?_ _ | with_reducible refine Below.setCell ?_ ?_ _ | with_reducible refine Below.drew ?_ | (simp; done) | (simp; omega) | omega))))).mono ?_; rintro e w1 ⟨rfl, hb1⟩; obtain ⟨hc1, hf1⟩ := bcell hb1; have hz1 : w.heap.size < w1.heap.size := (by have h := hb1.size; (try simp only [World.size_alloc, World.size_setCell] at h); omega); have HB1 : Below w.heap.size w w1 := Below.then_ (by (repeat' (first | with_reducible exact Below.refl _ _ | with_reducible assumption | with_reducible refine Below.alloc ?_ ?_ _ | with_reducible refine Below.setCell ?_ ?_ _ | with_reducible refine Below.drew ?_ | (simp; done) | (simp; omega) | omega))) hb1) | (go_at_call 48; refine (p_checkDays [day, kn] _ 2 2 _ (by decide) (Rd.new _ #[.int .i64 day, .int .i64 kn] _ 1 2 _ (by simp) rfl)).mono ?_; rintro e w1 ⟨rfl, hb1⟩; obtain ⟨hc1, hf1⟩ := bcell hb1; have hz1 : w.heap.size < w1.heap.size := (by have h := hb1.size; (try simp only [World.size_alloc, World.size_setCell] at h); omega); have HB1 : Below w.heap.size w w1 := Below.then_ (by (repeat' (first | with_reducible exact Below.refl _ _ | with_reducible assumption | with_reducible refine Below.alloc ?_ ?_ _ | with_reducible refine Below.setCell ?_ ?_ _ | with_reducible refine Below.drew ?_ | (simp; done) | (simp; omega) | omega))) hb1) | (go_at_call 47; refine (p_first [errI (checkB ds) 11, errI (daysOk [day, kn]) 6] v _ 2 2 _ (by decide) (Rd.new _ #[.int .i64 (errI (checkB ds) 11), .int .i64 (errI (daysOk [day, kn]) 6)] _ 1 2 _ (by simp) rfl) HV.out).mono ?_; rintro e w1 ⟨rfl, rfl⟩))
    go_ret2
    rw [HE.out, HR.out]
    exact ⟨none, 0, rfl, by (repeat' (first | with_reducible exact Below.refl _ _ | with_reducible assumption | with_reducible refine Below.alloc ?_ ?_ _ | with_reducible refine Below.setCell ?_ ?_ _ | with_reducible refine Below.drew ?_ | (simp; done) | (simp; omega) | omega)), Rd.nil_, Nat.le_refl _⟩

end Go.Proofs.YtikioiblaoimkaaGreatDoor
