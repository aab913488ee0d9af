import Derived.Test.YtikioiblaoimkaaGreatDoorA8
set_option linter.unusedVariables false
set_option linter.unusedSimpArgs false

/- witness. -/
namespace Go.Proofs.YtikioiblaoimkaaGreatDoor
open Go.RowKit Go.Shelf Go.Maps
attribute [local go_sem] Oper.semAt_some

/-- Somebody may be in office, or may be out of it. -/
def offB (ds : List Deed) (day : Int) (b : Bool) (p : Int) : Bool := (stsL (thr ds (0, p)) day).any fun x => x.2.office == b
theorem offL_some (l : List (Nat × St)) (b : Bool) : (offL l b).isSome = l.any fun x => x.2.office == b := by
  unfold offL
  induction l with
  | nil => rfl
  | cons x l ih =>
    rw [List.filter_cons, List.any_cons]
    cases h : x.2.office == b with
    | true => simp [List.getLast?_cons]
    | false => simpa using ih
/-- How many of the holders of a scene are so. -/
def soN (f : Int → Bool) (a b c : St) : Nat → Nat
  | 0 => 0
  | k + 1 => soN f a b c k + (if f (st3 a b c k).holder then 1 else 0)
def condB (f : Int → Bool) (xs : List Int) (law : Bool) (x : Sc) : Bool :=
  if law then openB x.1.2 x.2.1.2 x.2.2.2 xs && decide (soN f x.1.2 x.2.1.2 x.2.2.2 3 = 3) else (!openB x.1.2 x.2.1.2 x.2.2.2 xs || decide (0 < soN f x.1.2 x.2.1.2 x.2.2.2 3))
def witB (ds : List Deed) (xs : List Int) (day : Int) (law : Bool) : Bool := (scnL (thr ds (1, 0)) (thr ds (2, 0)) (thr ds (3, 0)) day).any (condB (offB ds day law) xs law)
theorem soN_le (f : Int → Bool) (a b c : St) (k : Nat) : soN f a b c k ≤ k := by
  induction k with
  | zero => exact Nat.le_refl _
  | succ k ih => unfold soN; split <;> omega

theorem KeepQ.setCell {b : Nat} {P : Nat → Prop} {a : Addr} (W : World) (v : Value) (hP : ¬ P a.block) (hb : a.block < b) : KeepQ b P W (W.setCell a v) :=
  ⟨by simp, fun k hk => Below.heap_setCell _ _ _ _ fun e => hP (e ▸ hk), fun k h1 _ => Below.heap_setCell _ _ _ _ (by omega)⟩

/-- What stands between two rounds of witness. -/
structure WitI (w : World) (law : Bool) (Ap : Option Addr) (np cp bo bx m : Nat) (L : List (Int × Value)) (W : World) : Prop where
  off : MapG ik wf1 W bo L
  box : BoxA W bx 144 #[.map (some bo)]
  pers : BoxA W w.heap.size 49 #[.slice Ap np cp]
  law : BoxA W (w.heap.size + 1) 4 #[.bool law]
  r1 : ∃ v, Boxed W (w.heap.size + 1 + 1) 106 v
  r2 : ∃ v, Boxed W (w.heap.size + 1 + 1 + 1) 4 v
  bel : Below w.heap.size w W
  sz : m ≤ W.heap.size
theorem WitI.keep {w : World} {law : Bool} {Ap : Option Addr} {np cp bo bx m bs : Nat} {L : List (Int × Value)} {W W' : World} {row : Option Nat} (h : WitI w law Ap np cp bo bx m L W) (hg : W.grownBy W' row) (hr : ∀ r, row = some r → bs ≤ r) (hbo : bo < bs) (hbx : bx < bs) (hw : w.heap.size + 4 ≤ bs) : WitI w law Ap np cp bo bx m L W' where
  off := h.off.keep (hg.block _ h.off.lt fun e => by have := hr _ e.symm; omega)
  box := h.box.kept hg fun e => by have := hr _ e.symm; omega
  pers := h.pers.kept hg fun e => by have := hr _ e.symm; omega
  law := h.law.kept hg fun e => by have := hr _ e.symm; omega
  r1 := by obtain ⟨v, h1⟩ := h.r1; exact ⟨v, h1.kept hg fun e => by have := hr _ e.symm; omega⟩
  r2 := by obtain ⟨v, h1⟩ := h.r2; exact ⟨v, h1.kept hg fun e => by have := hr _ e.symm; omega⟩
  bel := h.bel.grown hg h.bel.size fun r e => by have := hr _ e; omega
  sz := Nat.le_trans h.sz hg.size

set_option maxRecDepth 100000 in
set_option maxHeartbeats 4000000 in
theorem p_witness (ds : List Deed) (xs : List Int) (day : Int) (law : Bool) (A Ap : Option Addr) (n c np cp : Nat) (w : World) (hn : n ≤ 1000) (hok : ∀ d ∈ ds, d.okB = true) (hd : Ds w w.heap.size A n ds) (hnp : np ≤ 1000000) (hx : Is w w.heap.size Ap np xs) :
    Calls Tryz.prog 57 #[.slice A n c, .slice Ap np cp, .int .i64 day, .bool law] w fun e w' => (∃ m, e = .returned (.tuple #[.map m, .bool (witB ds xs day law)])) ∧ Below w.heap.size w w' := by
  have HD := Lib.hid hd
  have HX := Lib.hid hx
  have HL := Lib.hid hd.len
  have HO := Lib.hid hok
  clear hd hx hok
  refine (callsIn_wide (n := 9)).1 ?_
  (refine callsIn_of_wp_marks Tryz.func57 rfl trivial ?_ rfl; simp only [Tryz.ntmps57, List.size_toArray, List.length_cons, List.length_nil, Nat.reduceAdd, Nat.reduceSub, Array.replicate_succ, Array.replicate_zero, List.push_toArray, List.append_toArray, List.nil_append, List.cons_append])
  gi_wp2_with (first
    | (refine ⟨trivial, ?_⟩; gi_at_call 52; refine (callsIn_wide.2 (p_threads ds A n c _ hn HO.out (HD.out.now (by (repeat' (first | with_reducible exact Below.refl _ _ | with_reducible assumption | with_reducible refine Below.alloc ?_ ?_ _ | with_reducible refine Below.setCell ?_ ?_ _ | with_reducible refine Below.drew ?_ | (simp; done) | (simp; omega) | omega)))))).mono ?_; rintro e w4 ⟨bm, be, rfl, hbm, hth, hb4⟩; have HTH := Lib.hid (hth.read hbm); clear hth hbm; have lw4 : w4.cell? ⟨w.heap.size + 1, 0, none⟩ = some (.bool law) := (hb4.cell (p := ⟨w.heap.size + 1, 0, none⟩) (by first | omega | (simp; done) | (simp; omega))).trans (by first | (simp; done) | go_simp))
    | (refine ⟨trivial, ?_⟩; gi_at_call 91; refine (callsIn_wide.2 (p_offices (sub ds) day law _ w4.heap.size bm w4 (fun m => Nat.le_trans (sub_length_le _ _) (by have := HL.out; omega)) (Nat.le_refl _) HTH.out)).mono ?_; rintro e w5 ⟨bo, L, rfl, hbo, hM, hL, hb5⟩; have HM := Lib.hid hM; have HLL := Lib.hid hL; clear hM hL)
    | (refine ⟨trivial, ?_⟩; gi_at_call 92; refine (callsIn_wide.2 (p_scenes day bm _)).mono ?_; rintro e w6 ⟨rfl, hw6⟩))
  obtain ⟨V, hV⟩ : ∃ V, (((w.alloc (.cells #[.slice Ap np cp] 49)).alloc (.cells #[.bool law] 4)).alloc (.cells #[.map none] 106)).alloc (.cells #[.bool false] 4) = V := ⟨_, rfl⟩
  rw [hV] at hb4 HTH
  have hsV : V.heap.size = w.heap.size + 4 := by rw [← hV]; simp
  have hbV : Below w.heap.size w V := by rw [← hV]; (repeat' (first | with_reducible exact Below.refl _ _ | with_reducible assumption | with_reducible refine Below.alloc ?_ ?_ _ | with_reducible refine Below.setCell ?_ ?_ _ | with_reducible refine Below.drew ?_ | (simp; done) | (simp; omega) | omega))
  have v0 : BoxA V w.heap.size 49 #[.slice Ap np cp] := by (rw [← hV]; simp only [boxed_iff, boxa_iff, alloc_get, drew_heap, World.size_alloc]; (repeat (first | rw [if_pos trivial] | rw [if_pos (by omega)] | rw [if_neg (by omega)])))
  have v1 : BoxA V (w.heap.size + 1) 4 #[.bool law] := by (rw [← hV]; simp only [boxed_iff, boxa_iff, alloc_get, drew_heap, World.size_alloc]; (repeat (first | rw [if_pos trivial] | rw [if_pos (by omega)] | rw [if_neg (by omega)])))
  have v2 : Boxed V (w.heap.size + 1 + 1) 106 (.map none) := by (rw [← hV]; simp only [boxed_iff, boxa_iff, alloc_get, drew_heap, World.size_alloc]; (repeat (first | rw [if_pos trivial] | rw [if_pos (by omega)] | rw [if_neg (by omega)])))
  have v3 : Boxed V (w.heap.size + 1 + 1 + 1) 4 (.bool false) := by (rw [← hV]; simp only [boxed_iff, boxa_iff, alloc_get, drew_heap, World.size_alloc]; (repeat (first | rw [if_pos trivial] | rw [if_pos (by omega)] | rw [if_neg (by omega)])))
  refine wpIn_named2 fun f0 W0 hf0 hW0 => ?_
  have hs4 := hb4.size
  have hs5 := hb5.size
  have HSW : Hid (W0.heap.size = w5.heap.size + 3) := by show _ = _; rw [← hW0]; simp
  have hb50 : Below w5.heap.size w5 W0 := by rw [← hW0]; exact (((Below.refl _ _).alloc (Nat.le_refl _) _).alloc (by simp) _).alloc (by simp; omega) _
  have hb40 : Below w4.heap.size w4 W0 := Below.then_ hb5 hb50
  have hbV0 : Below V.heap.size V W0 := Below.then_ hb4 hb40
  have hB0 : Below w.heap.size w W0 := Below.then_ hbV hbV0
  have bA : BoxA W0 (w5.heap.size + 1) 99 #[.map (some bm)] := by (rw [← hW0]; simp only [boxed_iff, boxa_iff, alloc_get, drew_heap, World.size_alloc]; (repeat (first | rw [if_pos trivial] | rw [if_pos (by omega)] | rw [if_neg (by omega)])))
  have bD : BoxA W0 (w5.heap.size + 1 + 1) 3 #[.int .i64 day] := by (rw [← hW0]; simp only [boxed_iff, boxa_iff, alloc_get, drew_heap, World.size_alloc]; (repeat (first | rw [if_pos trivial] | rw [if_pos (by omega)] | rw [if_neg (by omega)])))
  have bO : BoxA W0 w5.heap.size 144 #[.map (some bo)] := by (rw [← hW0]; simp only [boxed_iff, boxa_iff, alloc_get, drew_heap, World.size_alloc]; (repeat (first | rw [if_pos trivial] | rw [if_pos (by omega)] | rw [if_neg (by omega)])))
  have hbo5 := HM.out.lt
  have HSV := Lib.hid hsV
  clear hsV hV hW0
  have hT0 := HTH.out.below hb40
  have hPw : ∀ k, ((fun k => (V.heap.size ≤ k ∧ k < w4.heap.size) ∨ k = w5.heap.size + 1 ∨ k = w5.heap.size + 1 + 1) k) → k < W0.heap.size := fun k hk => by
    have := HSW.out
    rcases hk with hk | hk | hk <;> omega
  have hnP : ∀ k, k < w.heap.size + 4 → ¬ (fun k => (V.heap.size ≤ k ∧ k < w4.heap.size) ∨ k = w5.heap.size + 1 ∨ k = w5.heap.size + 1 + 1) k := fun k hk hp => by
    have := HSV.out
    rcases hp with hp | hp | hp <;> omega
  have hLf : ∀ p : Int, 0 ≤ p → p ≤ 99 → (getG L p).isSome = offB ds day law p := fun p h0 h9 => by
    rw [HLL.out p h0 h9, offL_some]
    rfl
  have hW : WitI w law Ap np cp bo w5.heap.size W0.heap.size L W0 := ⟨HM.out.ext hb50, bO, v0.ext hbV0, v1.ext hbV0, ⟨_, boxed_ext v2 hbV0⟩, ⟨_, boxed_ext v3 hbV0⟩, hB0, Nat.le_refl _⟩
  refine wpIn_range_seqO (gf := 126) (lb := #[.pointer (some ⟨w5.heap.size + 1, 0, none⟩), .pointer (some ⟨w5.heap.size + 1 + 1, 0, none⟩)]) (by subst hf0; rfl) (enters_of Tryz.func126 (by kernel_rfl) rfl)
    (scenes_in (sub ds) day (w5.heap.size + 1) (w5.heap.size + 1 + 1) V.heap.size w4.heap.size bm (fun k => (V.heap.size ≤ k ∧ k < w4.heap.size) ∨ k = w5.heap.size + 1 ∨ k = w5.heap.size + 1 + 1) W0 (fun m => Nat.le_trans (sub_length_le _ _) (by have := HL.out; omega)) (fun k h2 h3 => .inl ⟨h2, h3⟩) (.inr (.inl rfl)) (.inr (.inr rfl)) hPw (by have := HSW.out; omega) bA bD hT0)
    hPw (fun _ => rfl)
    (fun pre W => (∀ x ∈ pre, condB (offB ds day law) xs law x.1 = false) ∧ WitI w law Ap np cp bo w5.heap.size W0.heap.size L W)
    (fun pre W => (∃ m, Boxed W (w.heap.size + 1 + 1) 106 (.map m)) ∧ Boxed W (w.heap.size + 1 + 1 + 1) 4 (.bool true) ∧ Below w.heap.size w W ∧ ∃ x ∈ pre, condB (offB ds day law) xs law x.1 = true)
    (fun s X Y row hs hg hr => ⟨hs.1, hs.2.keep (bs := W0.heap.size) hg (fun r e => (hr r e).1) (by have := HSW.out; omega) (by have := HSW.out; omega) (by have := HSW.out; have := HSV.out; omega)⟩)
    (fun s X Y row hs hg hr => by
      obtain ⟨⟨m, h2⟩, h3, h4, h5⟩ := hs
      have hq : ∀ k, k < w.heap.size + 4 → some k ≠ row := fun k hk e => by have := (hr _ e.symm).1; have := HSW.out; have := HSV.out; omega
      exact ⟨⟨m, h2.kept hg (hq _ (by omega))⟩, h3.kept hg (hq _ (by omega)), h4.grown hg h4.size fun r e => by have := (hr r e).1; have := hB0.size; omega, h5⟩)
    ⟨by simp, hW⟩
    (fun x a' W => ∃ Bx, W0.heap.size ≤ Bx ∧ BoxA W Bx 153 #[.int .i64 x.1.1.1, .int .i64 x.1.2.1.1, .int .i64 x.1.2.2.1, .int .i64 x.1.1.2.holder, .int .i64 x.1.1.2.hand, .bool x.1.1.2.office, .int .i64 x.1.2.1.2.holder, .int .i64 x.1.2.1.2.hand, .bool x.1.2.1.2.office, .int .i64 x.1.2.2.2.holder, .int .i64 x.1.2.2.2.hand, .bool x.1.2.2.2.office] ∧ a' = { tmps := (f0.tmps.setIfInBounds 28 (.agg #[.int .i64 x.1.1.1, .int .i64 x.1.2.1.1, .int .i64 x.1.2.2.1, .int .i64 x.1.1.2.holder, .int .i64 x.1.1.2.hand, .bool x.1.1.2.office, .int .i64 x.1.2.1.2.holder, .int .i64 x.1.2.1.2.hand, .bool x.1.2.1.2.office, .int .i64 x.1.2.2.2.holder, .int .i64 x.1.2.2.2.hand, .bool x.1.2.2.2.office])).setIfInBounds 12 (.pointer (some ⟨Bx, 0, none⟩)), defers := [] })
    (fun x a' _ X Y row hs hg hr => by obtain ⟨Bx, g1, g2, g3⟩ := hs; exact ⟨Bx, g1, boxa_own Bx _ (fun (_ : Unit) => _) () X Y row g2 hg (fun r e => (hr r e).2), g3⟩)
    ?assign ?body ?done ?stop
  case assign =>
    subst hf0
    rintro l pre x W K hsz ⟨hno, hI⟩ hK
    simp only [encC]
    gi_wp2
    have hbU : Below W.heap.size W (W.alloc (.cells #[.int .i64 x.1.1.1, .int .i64 x.1.2.1.1, .int .i64 x.1.2.2.1, .int .i64 x.1.1.2.holder, .int .i64 x.1.1.2.hand, .bool x.1.1.2.office, .int .i64 x.1.2.1.2.holder, .int .i64 x.1.2.1.2.hand, .bool x.1.2.1.2.office, .int .i64 x.1.2.2.2.holder, .int .i64 x.1.2.2.2.hand, .bool x.1.2.2.2.office] 153)) := (Below.refl _ _).alloc (Nat.le_refl _) _
    exact hK _ _ (KeepQ.of_below hbU (fun k hk => Nat.lt_of_lt_of_le (hPw k hk) hI.sz) (Nat.le_refl _)) ⟨hno, hI.keep (bs := W0.heap.size) (grown_of_below hbU) (by simp) (by have := HSW.out; omega) (by have := HSW.out; omega) (by have := HSW.out; have := HSV.out; omega)⟩ ⟨W.heap.size, hI.sz, BoxA.new W _ _, rfl⟩
  case body =>
    subst hf0
    rintro l pre ⟨⟨⟨i1, a⟩, ⟨i2, b⟩, ⟨i3, c⟩⟩, hx⟩ a' W hsz ⟨hno, hI⟩ ⟨Bx, hBx, bX, rfl⟩ hlt
    dsimp only at bX
    simp only [List.setIfInBounds_toArray, List.set_cons_zero, List.set_cons_succ]
    have hoka : ∀ {k : Int} {y : Nat × St}, y ∈ stsL (thr ds (k, 0)) day → y.2.okP := fun hy => (sts_okP (thr_ok HO.out _) hy).2
    obtain ⟨ya, hya, hx2⟩ := List.mem_flatMap.1 hx
    obtain ⟨yb, hyb, hx3⟩ := List.mem_flatMap.1 hx2
    obtain ⟨yc, hyc, hx4⟩ := List.mem_map.1 hx3
    obtain ⟨rfl, rfl, rfl⟩ : ya = (i1, a) ∧ yb = (i2, b) ∧ yc = (i3, c) := by simpa using hx4
    obtain ⟨⟨pa0, pa1⟩, _⟩ := hoka hya
    obtain ⟨⟨pb0, pb1⟩, _⟩ := hoka hyb
    obtain ⟨⟨pc0, pc1⟩, _⟩ := hoka hyc
    clear hya hyb hyc hx2 hx3 hx4 hoka
    dsimp only at pa0 pa1 pb0 pb1 pc0 pc1
    have HI := Lib.hid hI
    have HNO := Lib.hid hno
    have hIs := hI.sz
    clear hI hno
    have x0 := bX.cell 0
    have x1 := bX.cell 1
    have x2 := bX.cell 2
    have x3 := bX.cell 3
    have x4 := bX.cell 4
    have x5 := bX.cell 5
    have x6 := bX.cell 6
    have x7 := bX.cell 7
    have x8 := bX.cell 8
    have x9 := bX.cell 9
    have x10 := bX.cell 10
    have x11 := bX.cell 11
    have hbx := bX.lt
    have ix0 := idx_0 a b c
    have ix1 := idx_1 a b c
    have ix2 := idx_2 a b c
    gi_wp2
    gi_loopw [13, 31] (fun so i wr => ∃ k : Nat, k ≤ 3 ∧ i = .int .i64 k ∧ so = .int .i64 (soN (offB ds day law) a b c k : Nat) ∧ Below W.heap.size W wr) (fun _ i _ => 3 - (intOf i).toNat)
    case atStart => exact ⟨0, by omega, rfl, rfl, Below.refl _ _⟩
    case round =>
      obtain ⟨wo, rfl⟩ : ∃ wo, wo = wr := ⟨wr, rfl⟩
      obtain ⟨k, hk, rfl, rfl, hB⟩ := hrel
      have hs0 := hB.size
      have hql := soN_le (offB ds day law) a b c k
      obtain ⟨q, hq⟩ : ∃ q, soN (offB ds day law) a b c k = q := ⟨_, rfl⟩
      rw [hq] at hql ⊢
      have HQ0 := Lib.hid hq
      clear hq
      have o0 := (HI.out.box.ext hB).cell 0
      have hbw : w5.heap.size < wo.heap.size := (HI.out.box.ext hB).lt
      obtain rfl | rfl | rfl | rfl : k = 0 ∨ k = 1 ∨ k = 2 ∨ k = 3 := by omega
      · have HBN := Lib.hid (hB.alloc hs0 (.cells #[.int .i64 a.holder, .int .i64 a.hand, .bool a.office] 89))
        have hlk := (HI.out.off.ext HBN.out).look2 key_int Tryz.underlying144 (a := a.holder) (wf_small (by omega) (by omega)) (zeroInt (wo.alloc (.cells #[.int .i64 a.holder, .int .i64 a.hand, .bool a.office] 89)))
        have hfv := hLf a.holder (by omega) (by omega)
        cases hg : getG L a.holder with
        | none =>
          rw [hg] at hlk hfv
          simp only [Option.getD_none, Option.isSome_none] at hlk hfv
          have HQ : Hid (soN (offB ds day law) a b c 1 = q) := by show soN _ _ _ _ 0 + _ = _; rw [HQ0.out, show (st3 a b c 0) = a from rfl, ← hfv]; rfl
          clear hg hfv
          gi_wp2
          exact ⟨⟨1, by omega, by go_num, by rw [HQ.out], HBN.out⟩, by simp [intOf]⟩
        | some v =>
          rw [hg] at hlk hfv
          simp only [Option.getD_some, Option.isSome_some] at hlk hfv
          have HQ : Hid (soN (offB ds day law) a b c 1 = q + 1) := by show soN _ _ _ _ 0 + _ = _; rw [HQ0.out, show (st3 a b c 0) = a from rfl, ← hfv]; rfl
          clear hg hfv
          gi_wp2
          exact ⟨⟨1, by omega, by go_num, by rw [HQ.out]; go_num, HBN.out⟩, by simp [intOf]⟩
      · have HBN := Lib.hid (hB.alloc hs0 (.cells #[.int .i64 b.holder, .int .i64 b.hand, .bool b.office] 89))
        have hlk := (HI.out.off.ext HBN.out).look2 key_int Tryz.underlying144 (a := b.holder) (wf_small (by omega) (by omega)) (zeroInt (wo.alloc (.cells #[.int .i64 b.holder, .int .i64 b.hand, .bool b.office] 89)))
        have hfv := hLf b.holder (by omega) (by omega)
        cases hg : getG L b.holder with
        | none =>
          rw [hg] at hlk hfv
          simp only [Option.getD_none, Option.isSome_none] at hlk hfv
          have HQ : Hid (soN (offB ds day law) a b c 2 = q) := by show soN _ _ _ _ 1 + _ = _; rw [HQ0.out, show (st3 a b c 1) = b from rfl, ← hfv]; rfl
          clear hg hfv
          gi_wp2
          exact ⟨⟨2, by omega, by go_num, by rw [HQ.out], HBN.out⟩, by simp [intOf]⟩
        | some v =>
          rw [hg] at hlk hfv
          simp only [Option.getD_some, Option.isSome_some] at hlk hfv
          have HQ : Hid (soN (offB ds day law) a b c 2 = q + 1) := by show soN _ _ _ _ 1 + _ = _; rw [HQ0.out, show (st3 a b c 1) = b from rfl, ← hfv]; rfl
          clear hg hfv
          gi_wp2
          exact ⟨⟨2, by omega, by go_num, by rw [HQ.out]; go_num, HBN.out⟩, by simp [intOf]⟩
      · have HBN := Lib.hid (hB.alloc hs0 (.cells #[.int .i64 c.holder, .int .i64 c.hand, .bool c.office] 89))
        have hlk := (HI.out.off.ext HBN.out).look2 key_int Tryz.underlying144 (a := c.holder) (wf_small (by omega) (by omega)) (zeroInt (wo.alloc (.cells #[.int .i64 c.holder, .int .i64 c.hand, .bool c.office] 89)))
        have hfv := hLf c.holder (by omega) (by omega)
        cases hg : getG L c.holder with
        | none =>
          rw [hg] at hlk hfv
          simp only [Option.getD_none, Option.isSome_none] at hlk hfv
          have HQ : Hid (soN (offB ds day law) a b c 3 = q) := by show soN _ _ _ _ 2 + _ = _; rw [HQ0.out, show (st3 a b c 2) = c from rfl, ← hfv]; rfl
          clear hg hfv
          gi_wp2
          exact ⟨⟨3, by omega, by go_num, by rw [HQ.out], HBN.out⟩, by simp [intOf]⟩
        | some v =>
          rw [hg] at hlk hfv
          simp only [Option.getD_some, Option.isSome_some] at hlk hfv
          have HQ : Hid (soN (offB ds day law) a b c 3 = q + 1) := by show soN _ _ _ _ 2 + _ = _; rw [HQ0.out, show (st3 a b c 2) = c from rfl, ← hfv]; rfl
          clear hg hfv
          gi_wp2
          exact ⟨⟨3, by omega, by go_num, by rw [HQ.out]; go_num, HBN.out⟩, by simp [intOf]⟩
      · have bXo := bX.ext hB
        have bLo := HI.out.law.ext hB
        have bPo := HI.out.pers.ext hB
        have bOo := HI.out.box.ext hB
        have p0 := bPo.cell 0
        have y3 := bXo.cell 3
        have y4 := bXo.cell 4
        have y5 := bXo.cell 5
        have y6 := bXo.cell 6
        have y7 := bXo.cell 7
        have y8 := bXo.cell 8
        have y9 := bXo.cell 9
        have y10 := bXo.cell 10
        have y11 := bXo.cell 11
        have HBo : Below w.heap.size w wo := Below.then_ HI.out.bel hB
        obtain ⟨op, hop⟩ : ∃ op, openB a b c xs = op := ⟨_, rfl⟩
        have hopen := p_open a b c xs Ap np cp wo hnp (HX.out.now HBo)
        rw [hop] at hopen
        have HCB : Hid (condB (offB ds day law) xs law ((i1, a), (i2, b), (i3, c)) = (if law then op && decide (q = 3) else (!op || decide (0 < q)))) := by show _ = _; unfold condB; rw [hop, HQ0.out]
        clear hop HQ0
        have HNY : Hid (∀ v : Bool, v = false → (if law then op && decide (q = 3) else (!op || decide (0 < q))) = v → ∀ y ∈ pre ++ [⟨((i1, a), (i2, b), (i3, c)), hx⟩], condB (offB ds day law) xs law y.1 = false) := fun v hv he y hy => by
          rcases List.mem_append.1 hy with h | h
          · exact HNO.out y h
          · rw [List.mem_singleton] at h
            rw [h]
            exact HCB.out.trans (he.trans hv)
        obtain rfl | rfl | rfl | rfl : q = 0 ∨ q = 1 ∨ q = 2 ∨ q = 3 := by omega
        all_goals
          cases law <;> cases op <;>
          · gi_wp2_with (first
              | (refine ⟨trivial, ?_⟩; gi_at_call 93; refine (CallsIn.inRound l (callsIn_wide.2 hopen)).mono ?_; clear hopen; rintro e w6 ⟨rfl, hb6⟩; have l6 := (bLo.ext hb6).cell 0; have o6 := (bOo.ext hb6).cell 0; have z0 := (bXo.ext hb6).cell 0; have z1 := (bXo.ext hb6).cell 1; have z2 := (bXo.ext hb6).cell 2; have z3 := (bXo.ext hb6).cell 3; have z4 := (bXo.ext hb6).cell 4; have z5 := (bXo.ext hb6).cell 5; have z6 := (bXo.ext hb6).cell 6; have z7 := (bXo.ext hb6).cell 7; have z8 := (bXo.ext hb6).cell 8; have z9 := (bXo.ext hb6).cell 9; have z10 := (bXo.ext hb6).cell 10; have z11 := (bXo.ext hb6).cell 11)
              | (refine ⟨trivial, ?_⟩; gi_at_call 94; refine (CallsIn.inRound l (callsIn_wide.2 (p_happened a b c i1 i2 i3 bo L w6 (HI.out.off.ext (Below.then_ hB hb6)) ⟨pa0, pa1⟩ ⟨pb0, pb1⟩ ⟨pc0, pc1⟩))).mono ?_; rintro e w7 ⟨⟨mm, rfl⟩, hb7⟩; obtain ⟨v1, hr1⟩ := HI.out.r1; obtain ⟨v2, hr2⟩ := HI.out.r2; have e1 := boxed_ext hr1 (Below.then_ (Below.then_ hB hb6) hb7); have e2 := boxed_ext hr2 (Below.then_ (Below.then_ hB hb6) hb7); have e3 := e1.cell; have e4 := e1.frozen; have e5 := e2.cell; have e6 := e2.frozen))
            first
              | exact ⟨KeepQ.of_below (Below.then_ hB hb6) (fun k hk => Nat.lt_of_lt_of_le (hPw k hk) hIs) (Nat.le_refl _), HNY.out false rfl rfl, HI.out.keep (bs := W0.heap.size) (grown_of_below (Below.then_ hB hb6)) (by simp) (by have := HSW.out; omega) (by have := HSW.out; omega) (by have := HSW.out; have := HSV.out; omega)⟩
              | exact ⟨((KeepQ.of_below (Below.then_ (Below.then_ hB hb6) hb7) (fun k hk => Nat.lt_of_lt_of_le (hPw k hk) hIs) (Nat.le_refl _)).trans (KeepQ.setCell _ _ (hnP _ (by simp only; omega)) (by have := HSW.out; have := HSV.out; simp only; omega))).trans (KeepQ.setCell _ _ (hnP _ (by simp only; omega)) (by have := HSW.out; have := HSV.out; simp only; omega)),
                  ⟨_, (e1.set _).other (by omega) _⟩, (e2.other (by omega) _).set _, ((Below.then_ (Below.then_ (Below.then_ HI.out.bel hB) hb6) hb7).setCell (by simp only; omega) _).setCell (by simp only; omega) _, ⟨⟨((i1, a), (i2, b), (i3, c)), hx⟩, List.mem_append.2 (.inr (List.mem_singleton.2 rfl)), HCB.out⟩⟩
  case done =>
    subst hf0
    rintro D ys W hD hys ⟨hno, hI⟩ hK
    obtain ⟨q1, hr1⟩ := hI.r1
    obtain ⟨q2, hr2⟩ := hI.r2
    have c1 := hr1.cell
    have g1 := hr1.frozen
    have c2 := hr2.cell
    have g2 := hr2.frozen
    gi_wp2
    have b1 := (hr1.set (.map none)).other (B' := w.heap.size + 1 + 1 + 1) (by omega) (.bool false)
    have b2 := (hr2.other (B' := w.heap.size + 1 + 1) (by omega) (.map none)).set (.bool false)
    have hK' := ((KeepsOthers.setCell W ⟨w.heap.size + 1 + 1, 0, none⟩ (.map none)).trans (KeepsOthers.setCell _ ⟨w.heap.size + 1 + 1 + 1, 0, none⟩ (.bool false))).same D _ hK rfl
    refine ⟨by simp, .inl ⟨_, _, rfl, run_takeDeferred hK', ?_⟩⟩
    have c5 := cell_kept b1.cell (grownBy_putObj' _ D (.deferred none)) (fun r e => by cases e; exact ⟨_, hK', rfl⟩)
    have c6 := cell_kept b2.cell (grownBy_putObj' _ D (.deferred none)) (fun r e => by cases e; exact ⟨_, hK', rfl⟩)
    have hw : witB ds xs day law = false := by
      unfold witB
      rw [List.any_eq_false]
      intro y hy
      have hy2 : y ∈ ys.map (·.1) := by rw [hys]; exact hy
      obtain ⟨z, hz, rfl⟩ := List.mem_map.1 hy2
      rw [hno z hz]
      simp
    refine ⟨.tuple #[.map none, .bool false], by simp [results, Tryz.f57, go_sem, c5, c6], ⟨none, by rw [hw]⟩, ?_⟩
    exact ((hI.bel.setCell (p := ⟨w.heap.size + 1 + 1, 0, none⟩) (by simp only; omega) _).setCell (p := ⟨w.heap.size + 1 + 1 + 1, 0, none⟩) (by simp only; omega) _).trans (belowK_b (w := w) (Nat.le_refl _) _ D _ _ (by have := hB0.size; omega) hK' rfl rfl)
  case stop =>
    subst hf0
    rintro D pre W hD ⟨⟨m, h2⟩, h3, h4, x, hx1, hx2⟩ hK
    have hw : witB ds xs day law = true := by
      unfold witB
      rw [List.any_eq_true]
      exact ⟨x.1, x.2, hx2⟩
    refine ⟨by simp, .inl ⟨_, _, rfl, run_takeDeferred hK, ?_⟩⟩
    have c5 := cell_kept h2.cell (grownBy_putObj' _ D (.deferred none)) (fun r e => by cases e; exact ⟨_, hK, rfl⟩)
    have c6 := cell_kept h3.cell (grownBy_putObj' _ D (.deferred none)) (fun r e => by cases e; exact ⟨_, hK, rfl⟩)
    refine ⟨.tuple #[.map m, .bool true], by simp [results, Tryz.f57, go_sem, c5, c6], ⟨m, by rw [hw]⟩, h4.trans (belowK_b (w := w) (Nat.le_refl _) _ D _ _ (by have := hB0.size; omega) hK rfl rfl)⟩

end Go.Proofs.YtikioiblaoimkaaGreatDoor
