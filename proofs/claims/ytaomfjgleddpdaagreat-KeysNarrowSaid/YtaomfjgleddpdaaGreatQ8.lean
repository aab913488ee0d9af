import Derived.Test.YtaomfjgleddpdaaGreatQ7
import Derived.Test.YtaomfjgleddpdaaGreatM2
import Derived.Test.YtaomfjgleddpdaaGreatN6
import Derived.Deep.DeepCutAuto
set_option linter.unusedVariables false
set_option linter.unusedSimpArgs false

/- KeysNarrow: the law's walk. -/
namespace Go.Proofs.YtaomfjgleddpdaaGreat
open Go.RowKit
attribute [local go_sem] Oper.semAt_some

set_option maxRecDepth 100000 in
set_option maxHeartbeats 4000000 in
theorem w_KeysNarrow (ds : List Deed) (ps : List Int) (n0 n1 n2 day kn : Int) (A Ap Ay : Option Addr) (n c np cp ny cy : Nat) (w : World) (hn : n ≤ 9223372036854775807) (hnp : np ≤ 9223372036854775807) (hd : Ds w w.heap.size A n ds) (hp : Is w w.heap.size Ap np ps) :
    Calls Tryz.prog 12 #[.slice A n c, .agg #[.int .i64 n0, .int .i64 n1, .int .i64 n2], .agg #[.slice Ap np cp, .slice Ay ny cy, .int .i64 day, .int .i64 kn]] w fun e w' => e = .returned (.bool true) ∧ Below w.heap.size w w' := by
  obtain ⟨i0, hi, hz0, hz1, hz2⟩ := info_parts infoDeed
  have HD := Lib.hid hd
  have HL := Lib.hid hd.len
  have HP := Lib.hid hp
  have HPL := Lib.hid hp.len
  obtain ⟨ce, hce⟩ : ∃ z, errI (checkB ds) 11 = z := ⟨_, rfl⟩
  obtain ⟨vk, hvk⟩ : ∃ z, withinB kn 0 100000 = z := ⟨_, rfl⟩
  obtain ⟨vd, hvd⟩ : ∃ z, withinB day 0 100000 = z := ⟨_, rfl⟩
  obtain ⟨vp, hvp⟩ : ∃ z, personsB ps = z := ⟨_, rfl⟩
  have HCE := Lib.hid hce
  have HVK := Lib.hid hvk
  have HVD := Lib.hid hvd
  have HVP := Lib.hid hvp
  clear hd hp hce hvk hvd hvp
  go_enter Tryz.func12, Tryz.ntmps12
  go_wp2_with fail
  refine (r_checkq ds ce _ _ _ _ hn (HD.out.now (by (repeat' (first | with_reducible exact Below.refl _ _ | with_reducible assumption | with_reducible refine Below.alloc ?_ ?_ _ | with_reducible refine Below.setCell ?_ ?_ _ | with_reducible refine Below.drew ?_ | (simp; done) | (simp; omega) | omega)))) HCE.out).mono ?_
  rintro e w1 ⟨rfl, hb1⟩
  have HBN1 := Lib.hid (((BoxA.new w 91 #[.int .i64 n0, .int .i64 n1, .int .i64 n2]).alloc (.cells #[.slice Ap np cp, .slice Ay ny cy, .int .i64 day, .int .i64 kn] 73)).ext hb1)
  have HBO1 := Lib.hid ((show BoxA ((w.alloc (.cells #[.int .i64 n0, .int .i64 n1, .int .i64 n2] 91)).alloc (.cells #[.slice Ap np cp, .slice Ay ny cy, .int .i64 day, .int .i64 kn] 73)) (w.heap.size + 1) 73 #[.slice Ap np cp, .slice Ay ny cy, .int .i64 day, .int .i64 kn] from (by have h := BoxA.new (w.alloc (.cells #[.int .i64 n0, .int .i64 n1, .int .i64 n2] 91)) 73 #[.slice Ap np cp, .slice Ay ny cy, .int .i64 day, .int .i64 kn]; simpa using h)).ext hb1)
  have HB1 : Below w.heap.size w w1 := Below.then_ (by (repeat' (first | with_reducible exact Below.refl _ _ | with_reducible assumption | with_reducible refine Below.alloc ?_ ?_ _ | with_reducible refine Below.setCell ?_ ?_ _ | with_reducible refine Below.drew ?_ | (simp; done) | (simp; omega) | omega))) hb1
  clear hb1
  have x0 := HBO1.out.cell 0
  have x2 := HBO1.out.cell 2
  have x3 := HBO1.out.cell 3
  cases hck : checkB ds with
  | false =>
    obtain rfl : ce = 11 := by rw [← HCE.out, hck]; rfl
    clear hck
    go_wp2_with fail
    refine (r_sane _).mono ?_
    rintro e w5 ⟨rfl, hb5⟩
    go_wp2_with fail
    go_ret
    exact ⟨rfl, Below.then_ HB1 hb5⟩
  | true =>
  obtain rfl : ce = 0 := by rw [← HCE.out, hck]; rfl
  have HC := Lib.hid hck
  have h60 : n ≤ 60 := by have := check_60 hck; have := HL.out; omega
  clear hck
  go_wp2_with fail
  refine (r_isDayq kn vk _ HVK.out).mono ?_
  rintro e w1' ⟨rfl, rfl⟩
  cases vk with
  | false =>
    go_wp2_with fail
    refine (r_sane _).mono ?_
    rintro e w5 ⟨rfl, hb5⟩
    go_wp2_with fail
    go_ret
    exact ⟨rfl, Below.then_ HB1 hb5⟩
  | true =>
  go_wp2_with fail
  refine (r_isDayq day vd _ HVD.out).mono ?_
  rintro e w1' ⟨rfl, rfl⟩
  cases vd with
  | false =>
    go_wp2_with fail
    refine (r_sane _).mono ?_
    rintro e w5 ⟨rfl, hb5⟩
    go_wp2_with fail
    go_ret
    exact ⟨rfl, Below.then_ HB1 hb5⟩
  | true =>
  go_wp2_with fail
  refine (r_arePersons ps vp _ _ _ _ hnp (HP.out.now HB1) HVP.out).mono ?_
  rintro e w1' ⟨rfl, rfl⟩
  cases vp with
  | false =>
    go_wp2_with fail
    refine (r_sane _).mono ?_
    rintro e w5 ⟨rfl, hb5⟩
    go_wp2_with fail
    go_ret
    exact ⟨rfl, Below.then_ HB1 hb5⟩
  | true =>
  have hnp12 : np ≤ 12 := by
    have h := HVP.out
    unfold personsB at h
    rw [Bool.and_eq_true, decide_eq_true_eq] at h
    have := HPL.out
    omega
  by_cases hn0 : n = 0
  · subst hn0
    go_wp2_with fail
    refine (r_sane _).mono ?_
    rintro e w5 ⟨rfl, hb5⟩
    go_wp2_with fail
    go_ret
    exact ⟨rfl, Below.then_ HB1 hb5⟩
  have hn1 : ((n : Int) == 0) = false := by simp; omega
  have HDN := Lib.hid (HD.out.now HB1)
  have hs1 : w.heap.size + 1 < w1.heap.size := HBO1.out.lt
  obtain ⟨i, hi0⟩ : ∃ i : Nat, n0 % (n : Int) = (i : Int) := ⟨(n0 % (n : Int)).toNat, by have := Int.emod_nonneg n0 (show (n : Int) ≠ 0 by omega); omega⟩
  have hin : i < n := by have := Int.emod_lt_of_pos n0 (show (0 : Int) < (n : Int) by omega); omega
  have HI0 := Lib.hid hi0
  obtain ⟨d, hdi⟩ : ∃ d, ds[i]? = some d := ⟨_, List.getElem?_eq_getElem (by rw [HL.out]; exact hin)⟩
  have HDI := Lib.hid hdi
  have HDK := Lib.hid (okB_days (checkB_ok HC.out d (List.mem_of_getElem? hdi)))
  clear hi0 hdi x0 x2 x3
  go_wp2_with (at_builtin; refine wpList_app rfl (.tmp 58) (.tmp 59) 22 rfl (base := w1.heap.size) (B := _) (e := 28) (i := i0) (size := 9) (bytes := 72) Tryz.underlying22 hi hz0 hz1 hz2 rfl (by decide) rfl rfl (n := 0) (xs := []) (own_empty w1 28 9) (m := n) (news := deedCells ds) (HDN.out.alloc (Nat.le_refl _) _) (deedCells_one _) (by unfold maxLen; omega) (by omega) (by simp) ?_; intro v2 w2 hown2 hgrow2 hb2; simp only [Nat.zero_add, List.nil_append] at hown2; obtain ⟨g, o, cap, ho, rfl, hg1, hg2, hc1, _⟩ := own_shape hown2 (by omega); have HO := Lib.hid ho; have HW := Lib.hid hown2; have HT2 := Lib.hid (Below.trans ((Below.refl _ _).alloc (Nat.le_refl _) _) hb2); have HBN2 := Lib.hid (HBN1.out.ext HT2.out); have HBO2 := Lib.hid (HBO1.out.ext HT2.out); have c0 := HBN2.out.cell 0; clear ho hown2 hgrow2 hb2)
  refine (r_mod_v n0 (n : Int) (i : Int) _ (by omega) (by omega) HI0.out).mono ?_
  rintro e w2' ⟨rfl, hb2'⟩
  have HW2 := Lib.hid (own_ext HW.out hb2')
  have HB2 := Lib.hid (Below.then_ HB1 (Below.then_ HT2.out hb2'))
  have HT2' := Lib.hid (Below.then_ HT2.out hb2')
  have HBN2' := Lib.hid (HBN2.out.ext hb2')
  have HBO2' := Lib.hid (HBO2.out.ext hb2')
  have hgl : g < w2'.heap.size := Nat.lt_of_lt_of_le hg2 hb2'.size
  have HDM := Lib.hid (show Ds w2' w2'.heap.size (some ⟨g, o, none⟩) n ds from Rd.of_own HW2.out)
  clear hb2' c0 HW HT2 HBN2 HBO2 HDN
  obtain ⟨d', hd', hat⟩ := HDM.out.get hin
  rw [HDI.out] at hd'
  cases hd'
  obtain ⟨a0, a1, a2, a3, a4, a5, a6, a7, a8⟩ := hat
  have q1 : (i : Int) < (n : Int) := by omega
  have q2 : ¬ ((i : Int) < 0) := by omega
  go_wp2_with fail
  have hbr0 := BoxA.new w2' 26 #[.int .i64 d.lo, .int .i64 d.hi]
  have ht0 : Below w2'.heap.size w2' (w2'.alloc (.cells #[.int .i64 d.lo, .int .i64 d.hi] 26)) := (Below.refl _ _).alloc (Nat.le_refl _) _
  obtain ⟨w3, hw3⟩ : ∃ w3, w2'.alloc (.cells #[.int .i64 d.lo, .int .i64 d.hi] 26) = w3 := ⟨_, rfl⟩
  rw [hw3] at hbr0 ht0 ⊢
  have HBR3 := Lib.hid hbr0
  have HBN3 := Lib.hid (HBN2'.out.ext ht0)
  have HBO3 := Lib.hid (HBO2'.out.ext ht0)
  have HW3 := Lib.hid (own_ext HW2.out ht0)
  have HT3 := Lib.hid (Below.then_ HT2'.out ht0)
  clear hbr0 ht0 hw3 a0 a1 a2 a3 a4 a5 a6 a7 a8 HBN2' HBO2' HW2
  obtain ⟨k0, k1, k2⟩ := HDK.out
  obtain ⟨m1, hm1⟩ : ∃ z, n1 % (d.hi - d.lo + 1) = z := ⟨_, rfl⟩
  have e1 := Int.emod_nonneg n1 (show d.hi - d.lo + 1 ≠ 0 by omega)
  have e2 := Int.emod_lt_of_pos n1 (show 0 < d.hi - d.lo + 1 by omega)
  rw [hm1] at e1 e2
  have HM1 := Lib.hid hm1
  obtain ⟨x, hx⟩ : ∃ z, d.lo = z := ⟨_, rfl⟩
  obtain ⟨y, hy⟩ : ∃ z, d.hi = z := ⟨_, rfl⟩
  rw [hx, hy] at HM1 HBR3
  rw [hx, hy] at e2
  rw [hx] at k0 k1
  rw [hy] at k1 k2
  have HX := Lib.hid hx
  have HY := Lib.hid hy
  clear hm1 hx hy
  have hs3 : w2'.heap.size < w3.heap.size := HBR3.out.lt
  have hs3n : w.heap.size < w3.heap.size := HBN3.out.lt
  have r0 := HBR3.out.cell 0
  have r1 := HBR3.out.cell 1
  have c1 := HBN3.out.cell 1
  have v1 : IntKind.i64.wrap (y - x) = y - x := IntWalk.i64_in _ (by omega)
  have v2 : IntKind.i64.wrap (y - x + 1) = y - x + 1 := IntWalk.i64_in _ (by omega)
  have v3 : IntKind.i64.wrap (x + m1) = x + m1 := IntWalk.i64_in _ (by omega)
  refine wp_region_grow_sink 13 (by kernel_rfl) rfl (by kernel_rfl) (by kernel_rfl) (by kernel_rfl) ?_
  simp only [List.take_succ_cons, List.take_zero]
  (repeat (go_big_quiet_step ((go_at_call 26; exact Calls.grow_of (r_mod_v n1 (y - x + 1) m1 _ (by omega) (by omega) HM1.out)))))
  refine wpQuiet_nil ?_
  rintro w4 ⟨⟨_, hb4⟩, rfl⟩
  try dsimp only at hb4 ⊢
  have HBR4 := Lib.hid (HBR3.out.ext hb4)
  have HBN4 := Lib.hid (HBN3.out.ext hb4)
  have HBO4 := Lib.hid (HBO3.out.ext hb4)
  have HW4 := Lib.hid (own_ext HW3.out hb4)
  have HT4 := Lib.hid (Below.then_ HT3.out hb4)
  clear hb4 r0 r1 c1 HBR3 HBN3 HBO3 HW3 HT3 hs3 hs3n
  have r0 := HBR4.out.cell 0
  have rf := boxa_frozen HBR4.out 0
  go_wp2_with fail
  have hgr : g ≠ w2'.heap.size := by omega
  have hb5 := boxa_set HBR4.out 0 (.int .i64 (x + m1))
  have hn5 := boxa_other (a := ⟨w2'.heap.size, 0, none⟩) HBN4.out (by show w.heap.size ≠ w2'.heap.size; have := HB2.out.size; have := HT2'.out.size; omega) (.int .i64 (x + m1))
  have ho5 := boxa_other (a := ⟨w2'.heap.size, 0, none⟩) HBO4.out (by show w.heap.size + 1 ≠ w2'.heap.size; have := HT2'.out.size; omega) (.int .i64 (x + m1))
  have hw5 : (w4.setCell ⟨w2'.heap.size, 0, none⟩ (.int .i64 (x + m1))).ownsRow w1.heap.size 28 9 (.slice (some ⟨g, o, none⟩) n cap) n (deedCells ds) := own_keep HW4.out fun b hb => by
    have e : g = b := Option.some.inj (show some g = some b from hb)
    subst e
    exact Below.heap_setCell _ _ _ _ (by simpa using hgr)
  have ht5 : Below w1.heap.size w1 (w4.setCell ⟨w2'.heap.size, 0, none⟩ (.int .i64 (x + m1))) := HT4.out.setCell (by show w1.heap.size ≤ w2'.heap.size; exact HT2'.out.size) _
  simp only [List.setIfInBounds_toArray, List.set_cons_zero] at hb5
  generalize w4.setCell ⟨w2'.heap.size, 0, none⟩ (.int .i64 (x + m1)) = w5 at *
  have HBR5 := Lib.hid hb5
  have HBN5 := Lib.hid hn5
  have HBO5 := Lib.hid ho5
  have HW5 := Lib.hid hw5
  have HT5 := Lib.hid ht5
  clear hb5 hn5 ho5 hw5 ht5 r0 rf HBR4 HBN4 HBO4 HW4 HT4 v1 v2 v3
  obtain ⟨x', hx'⟩ : ∃ z, x + m1 = z := ⟨_, rfl⟩
  rw [hx'] at HBR5
  obtain ⟨m2, hm2⟩ : ∃ z, n2 % (y - x' + 1) = z := ⟨_, rfl⟩
  have e3 := Int.emod_nonneg n2 (show y - x' + 1 ≠ 0 by omega)
  have e4 := Int.emod_lt_of_pos n2 (show 0 < y - x' + 1 by omega)
  rw [hm2] at e3 e4
  have HM2 := Lib.hid hm2
  clear hm2
  have hs5 : w2'.heap.size < w5.heap.size := HBR5.out.lt
  have hs5n : w.heap.size < w5.heap.size := HBN5.out.lt
  have r0 := HBR5.out.cell 0
  have r1 := HBR5.out.cell 1
  have c2 := HBN5.out.cell 2
  have v1 : IntKind.i64.wrap (y - x') = y - x' := IntWalk.i64_in _ (by omega)
  have v2 : IntKind.i64.wrap (y - x' + 1) = y - x' + 1 := IntWalk.i64_in _ (by omega)
  have v3 : IntKind.i64.wrap (y - m2) = y - m2 := IntWalk.i64_in _ (by omega)
  refine wp_region_grow_sink 13 (by kernel_rfl) rfl (by kernel_rfl) (by kernel_rfl) (by kernel_rfl) ?_
  simp only [List.take_succ_cons, List.take_zero]
  (repeat (go_big_quiet_step ((go_at_call 26; exact Calls.grow_of (r_mod_v n2 (y - x' + 1) m2 _ (by omega) (by omega) HM2.out)))))
  refine wpQuiet_nil ?_
  rintro w6 ⟨⟨_, hb6⟩, rfl⟩
  try dsimp only at hb6 ⊢
  have HBR6 := Lib.hid (HBR5.out.ext hb6)
  have HBN6 := Lib.hid (HBN5.out.ext hb6)
  have HBO6 := Lib.hid (HBO5.out.ext hb6)
  have HW6 := Lib.hid (own_ext HW5.out hb6)
  have HT6 := Lib.hid (Below.then_ HT5.out hb6)
  clear hb6 r0 r1 c2 HBR5 HBN5 HBO5 HW5 HT5 hs5 hs5n
  have r1 := HBR6.out.cell 1
  have rf := boxa_frozen HBR6.out 1
  go_upto_region 8 with fail
  have hb7 := boxa_set HBR6.out 1 (.int .i64 (y - m2))
  have ho7 := boxa_other (a := ⟨w2'.heap.size, 1, none⟩) HBO6.out (by show w.heap.size + 1 ≠ w2'.heap.size; have := HT2'.out.size; omega) (.int .i64 (y - m2))
  have hw7 : (w6.setCell ⟨w2'.heap.size, 1, none⟩ (.int .i64 (y - m2))).ownsRow w1.heap.size 28 9 (.slice (some ⟨g, o, none⟩) n cap) n (deedCells ds) := own_keep HW6.out fun b hb => by
    have e : g = b := Option.some.inj (show some g = some b from hb)
    subst e
    exact Below.heap_setCell _ _ _ _ (by simpa using hgr)
  have ht7 : Below w1.heap.size w1 (w6.setCell ⟨w2'.heap.size, 1, none⟩ (.int .i64 (y - m2))) := HT6.out.setCell (by show w1.heap.size ≤ w2'.heap.size; exact HT2'.out.size) _
  simp only [List.setIfInBounds_toArray, List.set_cons_zero, List.set_cons_succ] at hb7
  clear HBR6 HBN6 HBO6 HW6 HT6 r1 rf v1 v2 v3
  generalize w6.setCell ⟨w2'.heap.size, 1, none⟩ (.int .i64 (y - m2)) = w6' at *
  obtain ⟨w6, rfl⟩ : ∃ w6 : World, w6 = w6' := ⟨_, rfl⟩
  have HBR6 := Lib.hid hb7
  have HBO6 := Lib.hid ho7
  have HW6 := Lib.hid hw7
  have HT6 := Lib.hid ht7
  clear hb7 ho7 hw7 ht7
  have r0 := HBR6.out.cell 0
  have r1 := HBR6.out.cell 1
  have HDM6 := Lib.hid (show Ds w6 w6.heap.size (some ⟨g, o, none⟩) n ds from Rd.of_own HW6.out)
  obtain ⟨d', hd', hat⟩ := HDM6.out.get hin
  rw [HDI.out] at hd'
  cases hd'
  obtain ⟨_, _, _, _, _, a5, a6, _, _⟩ := hat
  have fz5 := own_frozen HW6.out HO.out (o + i * 9 + 5)
  have fz6 := own_frozen HW6.out HO.out (o + i * 9 + 6)
  have hgl6 : g < w6.heap.size := by have h := HT6.out.size; have := HDM6.out; obtain ⟨b', o', e', hb', _⟩ := this.2 (by omega); cases e'; exact hb'
  have hgr2 : w2'.heap.size ≠ g := fun e => hgr e.symm
  have x3 := HBO6.out.cell 3
  have hls : w.heap.size + 1 < w6.heap.size := HBO6.out.lt
  go_wp2_with fail
  have hde := (HDM6.out.setDay HDI.out x' (y - m2)).more (B' := ((w6.setCell ⟨g, o + i * 9 + 5, none⟩ (.int .i64 x')).setCell ⟨g, o + i * 9 + 6, none⟩ (.int .i64 (y - m2))).heap.size) (by simp)
  have hbo7 := boxa_other (a := ⟨g, o + i * 9 + 6, none⟩) (boxa_other (a := ⟨g, o + i * 9 + 5, none⟩) HBO6.out (by show w.heap.size + 1 ≠ g; omega) (.int .i64 x')) (by show w.heap.size + 1 ≠ g; omega) (.int .i64 (y - m2))
  have hb7 : Below w.heap.size w ((w6.setCell ⟨g, o + i * 9 + 5, none⟩ (.int .i64 x')).setCell ⟨g, o + i * 9 + 6, none⟩ (.int .i64 (y - m2))) := ((Below.then_ HB1 HT6.out).setCell (by show w.heap.size ≤ g; omega) _).setCell (by show w.heap.size ≤ g; omega) _
  generalize (w6.setCell ⟨g, o + i * 9 + 5, none⟩ (.int .i64 x')).setCell ⟨g, o + i * 9 + 6, none⟩ (.int .i64 (y - m2)) = w7 at *
  obtain ⟨es, hes⟩ : ∃ es, ds.set i { d with lo := x', hi := y - m2 } = es := ⟨_, rfl⟩
  have hxy := HX.out
  have hyy := HY.out
  have hnar : Nar ds es := hes ▸ Nar.set HDI.out ⟨rfl, rfl, rfl, rfl, rfl, rfl, rfl, by show d.lo ≤ x'; omega, by show y - m2 ≤ d.hi; omega⟩
  have hoke : ∀ b ∈ es, b.okB = true := fun b hb => by
    rw [← hes] at hb
    rcases List.mem_or_eq_of_mem_set hb with h | rfl
    · exact checkB_ok HC.out b h
    · exact nar_ok (checkB_ok HC.out d (List.mem_of_getElem? HDI.out)) (by omega) (by omega) (by omega)
  have hcke := hnar.check hoke HC.out
  rw [hes] at hde
  have HDE := Lib.hid hde
  have HBO7 := Lib.hid hbo7
  have HNAR := Lib.hid hnar
  have HCE2 := Lib.hid hcke
  have HB7 := Lib.hid hb7
  clear hes hxy hyy hnar hoke hcke hde hbo7 hb7 r0 r1 a5 a6 fz5 fz6 hgl6 hgr2 x3 hls e1 e2 e3 e4 k0 k1 k2 HBR6 HBO6 HW6 HT6 HDM6 HX HY HM1 HM2 HDK HI0 HO HT2' HB2 HDM HDI hgl hgr hg1 hg2 q1 q2 hx'
  obtain ⟨ev, hev⟩ : ∃ z, clF (cntDs kn es) = z := ⟨_, rfl⟩
  have HEV := Lib.hid hev
  clear hev
  refine (p_Consistent_v es kn 0 (!ev) _ _ _ _ hn hc1 HDE.out (by rw [HCE2.out, HEV.out]; simp [daysOk, HVK.out]) (by simp [daysOk, HCE2.out, HVK.out, errI, orL])).mono ?_
  rintro e w8 ⟨rfl, hb8⟩
  have HB8 := Lib.hid (Below.then_ HB7.out hb8)
  have HBO8 := Lib.hid (HBO7.out.ext hb8)
  have HDE8 := Lib.hid (HDE.out.now hb8)
  clear hb8 HBO7 HDE HB7
  have x0 := HBO8.out.cell 0
  have x2 := HBO8.out.cell 2
  have x3 := HBO8.out.cell 3
  have HOP := Lib.hid (op_zero HC.out HVP.out HVD.out HVK.out)
  have HOPE := Lib.hid (op_zero HCE2.out HVP.out HVD.out HVK.out)
  cases ev with
  | true =>
    obtain ⟨a1, f1, hl1⟩ : ∃ a f, lawR ds ps day kn = (a, f) := ⟨_, _, rfl⟩
    have HL1 := Lib.hid hl1
    clear hl1
    go_wp2_with fail
    refine (p_Lawful_v ds ps day kn a1 f1 _ _ _ _ _ _ _ hn (HD.out.now HB8.out) (by omega) (HP.out.now HB8.out) HL1.out).mono ?_
    rintro e w9 ⟨rfl, hb9⟩
    have HB9 := Lib.hid (Below.then_ HB8.out hb9)
    have HBO9 := Lib.hid (HBO8.out.ext hb9)
    have HDE9 := Lib.hid (HDE8.out.now hb9)
    clear hb9 x0 x2 x3
    have x0 := HBO9.out.cell 0
    have x2 := HBO9.out.cell 2
    have x3 := HBO9.out.cell 3
    go_wp2_with fail
    refine (p_Lawful_v es ps day kn 0 13 _ _ _ _ _ _ _ hn HDE9.out (by omega) (HP.out.now HB9.out) (law_odd HOPE.out HEV.out)).mono ?_
    rintro e w10 ⟨rfl, hb10⟩
    have HB10 := Lib.hid (Below.then_ HB9.out hb10)
    go_wp2_with fail
    refine (r_sane _).mono ?_
    rintro e w11 ⟨rfl, hb11⟩
    go_wp2_with fail
    go_ret
    exact ⟨rfl, Below.then_ HB10.out hb11⟩
  | false =>
  have HEVD := Lib.hid ((HNAR.out.cnt kn).even HEV.out)
  have HOKD := Lib.hid (cnt_ok HC.out kn)
  have HOKE := Lib.hid (cnt_ok HCE2.out kn)
  obtain ⟨a1, ha1⟩ : ∃ z, ansI (witB (cntDs kn ds) ps day true) (witB (cntDs kn ds) ps day false) = z := ⟨_, rfl⟩
  obtain ⟨a2, ha2⟩ : ∃ z, ansI (witB (cntDs kn es) ps day true) (witB (cntDs kn es) ps day false) = z := ⟨_, rfl⟩
  have hlaw := (HNAR.out.cnt kn).law HOKE.out HEV.out ps day
  rw [ha1, ha2] at hlaw
  have hl1 := law_even HOP.out HEVD.out
  have hl2 := law_even HOPE.out HEV.out
  rw [ha1] at hl1
  rw [ha2] at hl2
  have HL1 := Lib.hid hl1
  have HL2 := Lib.hid hl2
  have HLAW := Lib.hid hlaw
  clear hl1 hl2 hlaw ha1 ha2
  go_wp2_with fail
  refine (p_Lawful_v ds ps day kn a1 0 _ _ _ _ _ _ _ hn (HD.out.now HB8.out) (by omega) (HP.out.now HB8.out) HL1.out).mono ?_
  rintro e w9 ⟨rfl, hb9⟩
  have HB9 := Lib.hid (Below.then_ HB8.out hb9)
  have HBO9 := Lib.hid (HBO8.out.ext hb9)
  have HDE9 := Lib.hid (HDE8.out.now hb9)
  clear hb9 x0 x2 x3 HBO8 HDE8
  have x0 := HBO9.out.cell 0
  have x2 := HBO9.out.cell 2
  have x3 := HBO9.out.cell 3
  go_wp2_with fail
  refine (p_Lawful_v es ps day kn a2 0 _ _ _ _ _ _ _ hn HDE9.out (by omega) (HP.out.now HB9.out) HL2.out).mono ?_
  rintro e w10 ⟨rfl, hb10⟩
  have HB10 := Lib.hid (Below.then_ HB9.out hb10)
  have HBO10 := Lib.hid (HBO9.out.ext hb10)
  have HDE10 := Lib.hid (HDE9.out.now hb10)
  clear hb10 x0 x2 x3 HBO9 HDE9
  go_upto_region 16 with fail
  go_cut [154] (fun c wx => c = .bool false ∧ wx = w10)
  case first =>
    by_cases h2 : a1 = 2
    · subst h2
      go_wp2_with fail
      go_meet
      exact ⟨rfl, rfl⟩
    · obtain rfl : a1 = a2 := HLAW.out.resolve_left h2
      have g1 : (a1 != 2) = true := by simpa using h2
      have g2 : (a1 != a1) = false := by simp
      clear h2
      go_wp2_with fail
      go_meet
      exact ⟨rfl, rfl⟩
  case rest =>
    obtain ⟨rfl, rfl⟩ := hcut
    obtain ⟨wA, rfl⟩ : ∃ wA : World, wA = wc := ⟨_, rfl⟩
    have x3 := HBO10.out.cell 3
    go_wp2_with fail
    refine (r_counting ds kn _ _ _ _ (by omega) (HD.out.now HB10.out)).mono ?_
    rintro e wB ⟨A3, c3, rfl, hbB, hdB, _, _⟩
    have HBB := Lib.hid (Below.then_ HB10.out hbB)
    have HBOB := Lib.hid (HBO10.out.ext hbB)
    have HDEB := Lib.hid (HDE10.out.now hbB)
    have HDB := Lib.hid hdB
    have hc60 : (cntDs kn ds).length ≤ 60 := by have := cntDs_len kn ds; have := HL.out; omega
    clear hbB hdB x3 HBO10 HDE10 HB10
    go_wp2_with fail
    go_loopw [160] (fun i wr => ∃ k : Nat, k ≤ (cntDs kn ds).length ∧ i = .int .i64 k ∧ Below wB.heap.size wB wr) (fun i _ => (cntDs kn ds).length - (intOf i).toNat)
    case atStart => exact ⟨0, by omega, rfl, Below.refl _ _⟩
    case round =>
      obtain ⟨k, hk, rfl, hB⟩ := hrel
      obtain ⟨wo, rfl⟩ : ∃ wo : World, wo = wr := ⟨_, rfl⟩
      have HB := Lib.hid hB
      have HBO := Lib.hid (HBOB.out.ext hB)
      have HBW := Lib.hid (Below.then_ HBB.out hB)
      clear hB
      by_cases hlt : k < (cntDs kn ds).length
      · obtain ⟨b, ob, f, rfl, hb, hfk, hat⟩ := (HDB.out.now HB.out).at_ hlt
        have hfm := List.mem_of_getElem? hfk
        have hf1 := findN_lt hfm (p := f.par) (q := f.no) rfl rfl
        have hf2 : findN f.par f.no (cntDs kn es) < (cntDs kn es).length := by rw [(HNAR.out.cnt kn).findN, ← (HNAR.out.cnt kn).len]; exact hf1
        have hwn := (HNAR.out.cnt kn).when HOKE.out HEV.out hf1
        obtain ⟨we1, wv1⟩ := when_zero HC.out HVK.out HEVD.out hf1
        obtain ⟨we2, wv2⟩ := when_zero HCE2.out HVK.out HEV.out hf2
        obtain ⟨p1, hp1⟩ : ∃ z, (whenR (cntDs kn ds) f.par f.no).1 = z := ⟨_, rfl⟩
        obtain ⟨p2, hp2⟩ : ∃ z, (whenR (cntDs kn ds) f.par f.no).2 = z := ⟨_, rfl⟩
        obtain ⟨q1, hq1⟩ : ∃ z, (whenR (cntDs kn es) f.par f.no).1 = z := ⟨_, rfl⟩
        obtain ⟨q2, hq2⟩ : ∃ z, (whenR (cntDs kn es) f.par f.no).2 = z := ⟨_, rfl⟩
        rw [hp1, hp2, hq1, hq2] at hwn
        rw [hp1, hp2] at wv1
        rw [hq1, hq2] at wv2
        have WE1 := Lib.hid we1
        have WE2 := Lib.hid we2
        have WV1 := Lib.hid wv1
        have WV2 := Lib.hid wv2
        obtain ⟨h1, h2, h3⟩ := hwn
        have c1 : ¬ q1 < p1 := by omega
        have c2 : ¬ p2 < q2 := by omega
        have c3 : ¬ q2 < q1 := by omega
        clear hfk hfm hf1 hf2 we1 we2 wv1 wv2 hp1 hp2 hq1 hq2 h1 h2 h3
        obtain ⟨a0, a1, a2, a3, a4, a5, a6, a7, a8⟩ := hat
        have x3 := HBO.out.cell 3
        have hlo := HBO.out.lt
        go_wp2_with fail
        refine (p_When_v ds f.par f.no kn (.agg #[.int .i64 p1, .int .i64 p2]) 0 _ _ _ _ hn (HD.out.now (HBW.out.alloc HBW.out.size _)) WV1.out WE1.out).mono ?_
        rintro e wC ⟨rfl, hbC⟩
        have HBC := Lib.hid (Below.then_ (HBW.out.alloc HBW.out.size (.cells #[.int .i64 f.par, .int .i64 f.no, .int .i64 f.kind, .int .i64 f.lock, .int .i64 f.person, .int .i64 f.lo, .int .i64 f.hi, .int .i64 f.known, .int .i64 f.til] 28)) hbC)
        have HTC := Lib.hid (Below.then_ (HB.out.alloc HB.out.size (.cells #[.int .i64 f.par, .int .i64 f.no, .int .i64 f.kind, .int .i64 f.lock, .int .i64 f.person, .int .i64 f.lo, .int .i64 f.hi, .int .i64 f.known, .int .i64 f.til] 28)) hbC)
        have HBOC := Lib.hid ((HBO.out.alloc (.cells #[.int .i64 f.par, .int .i64 f.no, .int .i64 f.kind, .int .i64 f.lock, .int .i64 f.person, .int .i64 f.lo, .int .i64 f.hi, .int .i64 f.known, .int .i64 f.til] 28)).ext hbC)
        have HFC := Lib.hid ((BoxA.new wo 28 #[.int .i64 f.par, .int .i64 f.no, .int .i64 f.kind, .int .i64 f.lock, .int .i64 f.person, .int .i64 f.lo, .int .i64 f.hi, .int .i64 f.known, .int .i64 f.til]).ext hbC)
        clear hbC a0 a1 a2 a3 a4 a5 a6 a7 a8 x3 HBO hlo
        have HPC := Lib.hid (BoxA.new wC 26 #[.int .i64 p1, .int .i64 p2])
        have y0 := HFC.out.cell 0
        have y1 := HFC.out.cell 1
        have hlf := HFC.out.lt
        have x3 := HBOC.out.cell 3
        have hlo := HBOC.out.lt
        go_wp2_with fail
        refine (p_When_v es f.par f.no kn (.agg #[.int .i64 q1, .int .i64 q2]) 0 _ _ _ _ hn ((HDEB.out.now HTC.out).now ((Below.refl _ _).alloc (Nat.le_refl _) _)) WV2.out WE2.out).mono ?_
        rintro e wD ⟨rfl, hbD⟩
        have HTD := Lib.hid (Below.then_ (HTC.out.alloc HTC.out.size (.cells #[.int .i64 p1, .int .i64 p2] 26)) hbD)
        have HPD := Lib.hid (HPC.out.ext hbD)
        clear hbD y0 y1 x3 hlo hlf HPC HFC HBOC
        have z0 := HPD.out.cell 0
        have z1 := HPD.out.cell 1
        have hlp := HPD.out.lt
        go_wp2_with fail
        go_roundw
        case rel => exact ⟨k + 1, by omega, by go_num, HTD.out.alloc HTD.out.size _⟩
        case measure => simp [intOf] <;> omega
      · obtain rfl : k = (cntDs kn ds).length := by omega
        go_wp2_with fail
        go_loopw [22] (fun i w2 => ∃ j : Nat, 1 ≤ j ∧ j ≤ 4 ∧ i = .int .i64 j ∧ Below wo.heap.size wo w2) (fun i _ => 4 - (intOf i).toNat)
        case atStart => exact ⟨1, by omega, by omega, rfl, Below.refl _ _⟩
        case round =>
          obtain ⟨j, hj1, hj4, rfl, hB2⟩ := hrel
          obtain ⟨wi, rfl⟩ : ∃ wi : World, wi = wr := ⟨_, rfl⟩
          have HB2 := Lib.hid hB2
          have HBi := Lib.hid (Below.then_ HBW.out hB2)
          have HTi := Lib.hid (Below.then_ HB.out hB2)
          have HBOi := Lib.hid (HBO.out.ext hB2)
          clear hB2
          by_cases hj3 : j ≤ 3
          · have hlj : withinB (j : Int) 1 3 = true := by simp [withinB]; omega
            have hwd := who_zero HC.out hlj HVD.out HVK.out HEVD.out
            have hwe := who_zero HCE2.out hlj HVD.out HVK.out HEV.out
            obtain ⟨l1, hl1⟩ : ∃ z, whoL (·.holder) ds (j : Int) day kn = z := ⟨_, rfl⟩
            obtain ⟨l2, hl2⟩ : ∃ z, whoL (·.holder) es (j : Int) day kn = z := ⟨_, rfl⟩
            obtain ⟨l3, hl3⟩ : ∃ z, whoL (·.hand) ds (j : Int) day kn = z := ⟨_, rfl⟩
            obtain ⟨l4, hl4⟩ : ∃ z, whoL (·.hand) es (j : Int) day kn = z := ⟨_, rfl⟩
            have HA1 := Lib.hid (hl1 ▸ hl2 ▸ HNAR.out.who (·.holder) hwd hwe)
            have HA2 := Lib.hid (hl3 ▸ hl4 ▸ HNAR.out.who (·.hand) hwd hwe)
            have hs2 := hl2 ▸ who_some (·.holder) HOKE.out HEV.out hwe
            have hs4 := hl4 ▸ who_some (·.hand) HOKE.out HEV.out hwe
            have m1 : l1.length ≤ 1000000 := by rw [← hl1]; exact Nat.le_trans (whoL_len _ _ _ _ _) (by decide)
            have m2 : l2.length ≤ 1000000 := by rw [← hl2]; exact Nat.le_trans (whoL_len _ _ _ _ _) (by decide)
            have m3 : l3.length ≤ 1000000 := by rw [← hl3]; exact Nat.le_trans (whoL_len _ _ _ _ _) (by decide)
            have m4 : l4.length ≤ 1000000 := by rw [← hl4]; exact Nat.le_trans (whoL_len _ _ _ _ _) (by decide)
            have HL1' := Lib.hid hl1
            have HL2' := Lib.hid hl2
            have HL3' := Lib.hid hl3
            have HL4' := Lib.hid hl4
            have HWD := Lib.hid hwd
            have HWE := Lib.hid hwe
            clear hlj hwd hwe hl1 hl2 hl3 hl4
            have g1 : (j : Int) ≤ 3 := by omega
            have x2 := HBOi.out.cell 2
            have x3 := HBOi.out.cell 3
            go_wp2_with fail
            refine (p_HoldersL ds (j : Int) day kn 0 l1 _ _ _ _ hn (HD.out.now HBi.out) HL1'.out HWD.out).mono ?_
            rintro e w11 ⟨A1, c1', rfl, hb11, hi11, _⟩
            have HB11 := Lib.hid (Below.then_ HBi.out hb11)
            have HT11 := Lib.hid (Below.then_ HTi.out hb11)
            have HU11 := Lib.hid (Below.then_ HB2.out hb11)
            have HBO11 := Lib.hid (HBOi.out.ext hb11)
            have HI1 := Lib.hid hi11
            clear hb11 hi11 x2 x3 HBOi
            have x2 := HBO11.out.cell 2
            have x3 := HBO11.out.cell 3
            go_wp2_with fail
            refine (p_HoldersL es (j : Int) day kn 0 l2 _ _ _ _ hn (HDEB.out.now HT11.out) HL2'.out HWE.out).mono ?_
            rintro e w12 ⟨A2, c2', rfl, hb12, hi12, _⟩
            have HB12 := Lib.hid (Below.then_ HB11.out hb12)
            have HT12 := Lib.hid (Below.then_ HT11.out hb12)
            have HU12 := Lib.hid (Below.then_ HU11.out hb12)
            have HBO12 := Lib.hid (HBO11.out.ext hb12)
            have HI1' := Lib.hid (HI1.out.now hb12)
            have HI2 := Lib.hid hi12
            clear hb12 hi12 x2 x3 HBO11 HI1
            have x2 := HBO12.out.cell 2
            have x3 := HBO12.out.cell 3
            go_wp2_with fail
            refine (p_HandsL ds (j : Int) day kn 0 l3 _ _ _ _ hn (HD.out.now HB12.out) HL3'.out HWD.out).mono ?_
            rintro e w13 ⟨A3', c3', rfl, hb13, hi13, _⟩
            have HB13 := Lib.hid (Below.then_ HB12.out hb13)
            have HT13 := Lib.hid (Below.then_ HT12.out hb13)
            have HU13 := Lib.hid (Below.then_ HU12.out hb13)
            have HBO13 := Lib.hid (HBO12.out.ext hb13)
            have HI1a := Lib.hid (HI1'.out.now hb13)
            have HI2a := Lib.hid (HI2.out.now hb13)
            have HI3 := Lib.hid hi13
            clear hb13 hi13 x2 x3 HBO12 HI1' HI2
            have x2 := HBO13.out.cell 2
            have x3 := HBO13.out.cell 3
            go_wp2_with fail
            refine (p_HandsL es (j : Int) day kn 0 l4 _ _ _ _ hn (HDEB.out.now HT13.out) HL4'.out HWE.out).mono ?_
            rintro e w14 ⟨A4', c4', rfl, hb14, hi14, _⟩
            have HU14 := Lib.hid (Below.then_ HU13.out hb14)
            have HI1b := Lib.hid (HI1a.out.now hb14)
            have HI2b := Lib.hid (HI2a.out.now hb14)
            have HI3b := Lib.hid (HI3.out.now hb14)
            have HI4 := Lib.hid hi14
            clear hb14 hi14 x2 x3 HI1a HI2a HI3
            go_wp2_with fail
            refine (r_among l2 l1 _ _ _ _ _ _ _ m2 m1 HI2b.out HI1b.out HA1.out hs2).mono ?_
            rintro e w' ⟨rfl, rfl⟩
            go_wp2_with fail
            refine (r_among l4 l3 _ _ _ _ _ _ _ m4 m3 HI4.out HI3b.out HA2.out hs4).mono ?_
            rintro e w' ⟨rfl, rfl⟩
            go_wp2_with fail
            go_roundw
            case rel => exact ⟨j + 1, by omega, by omega, by go_num, HU14.out⟩
            case measure => simp [intOf] <;> omega
          · obtain rfl : j = 4 := by omega
            go_wp2_with fail
            refine (r_sane _).mono ?_
            rintro e w15 ⟨rfl, hb15⟩
            go_wp2_with fail
            go_ret
            exact ⟨rfl, Below.then_ HBi.out hb15⟩

end Go.Proofs.YtaomfjgleddpdaaGreat
