/- Layer 2 of the texts that LoanChecks takes: Vbhq. -/
import Derived.Test.YtklikciiaogpbaaGreatVbeq
set_option linter.unusedVariables false
set_option linter.unusedSimpArgs false
/- Layer 2: slices.Insert at sights, one value, into a row of the call's own. -/
namespace Go.Proofs.YtklikciiaogpbaaGreat
open Go.RowKit Go.Maps Go.Shelf
theorem run_copy_cellsK {P : Program} (w : World) (dT sT ty elem : TypeId) (b o dLen dCap : Nat) (a : Addr) (sLen sCap s m : Nat) (cs : List Value)
 (hu : P.underlying dT = some (.slice elem)) (hs : (P.info? elem).map (·.size) = some s) (hm : Nat.min sLen dLen = m) (hn : cs.length = m * s)
 (hsrc : ∀ j v, cs[j]? = some v → w.cell? (a.add j) = some v) (hc : ∀ j, j < cs.length → (w.cell? ⟨b, o + j, none⟩).isSome = true) (hf : ∀ j, j < cs.length → w.frozen? ⟨b, o + j, none⟩ = false) (h1 : ∀ v ∈ cs, v.oneCell' = true) :
 (Builtin.copy_ #[dT, sT] ty #[.slice (some ⟨b, o, none⟩) dLen dCap, .slice (some a) sLen sCap]).run P w = .ok (goInt m) (w.setCells b o cs) := by
 have hl := run_loadCells_list (P := P) w a cs hsrc
 rw [hn] at hl
 have hst := run_storeCells_cells (P := P) b o cs 0 w (by simpa using hc) (by simpa using hf) h1
 cases hq : P.info? elem with
 | none => simp [hq] at hs
 | some i =>
   have hi : i.size = s := by simpa [hq] using hs
   simp [Builtin.copy_, run_underlying hu, Builtin.lenOf, Builtin.firstCells, sizeOf, typeInfo, hq, hi, hm, hl, hst]
theorem szSgt : (Tryz.prog.info? 38).map (·.size) = some 7 := by kernel_rfl
theorem szSgt2 : ∀ w, (Go.sizeOf 38).run Tryz.prog w = .ok 7 w := fun w => by kernel_rfl
set_option maxHeartbeats 4000000 in
set_option maxRecDepth 100000 in
theorem insS_shift (b n c i vb : Nat) (cs vs : List Value) (w : World) (hi : i < n) (hroom : n + 1 ≤ c) (hn6 : n ≤ 1000000) (hc63 : c ≤ 9223372036854775807) (hvb : vb ≠ b)
 (hcl : cs.length = n * 7) (hvl : vs.length = 7)
 (hcs : ∀ j v, cs[j]? = some v → w.cell? ⟨b, j, none⟩ = some v) (hsp : ∀ j, j < (n + 1) * 7 → (w.cell? ⟨b, j, none⟩).isSome = true) (hfz : ∀ j, w.frozen? ⟨b, j, none⟩ = false)
 (hvs : ∀ j v, vs[j]? = some v → w.cell? ⟨vb, j, none⟩ = some v) (h1c : ∀ v ∈ cs, v.oneCell' = true) (h1v : ∀ v ∈ vs, v.oneCell' = true)
 (tA tB : TypeId) (kA kB : Nat) (hsa : w.shape? vb = some (tA, kA)) (hsb : w.shape? b = some (tB, kB)) (hkB : kB ≠ 0) (hfa : w.frozen? ⟨vb, 0, none⟩ = false) (hfe : w.frozen? ⟨vb, kA, none⟩ = false) :
 Calls Tryz.prog 78 #[.slice (some ⟨b, 0, none⟩) n c, .int .i64 i, .slice (some ⟨vb, 0, none⟩) 1 1] w fun e w' =>
  e = .returned (.slice (some ⟨b, 0, none⟩) (n + 1) c) ∧ w' = (w.drew.setCells b ((i + 1) * 7) (cs.drop (i * 7))).setCells b (i * 7) vs := by
 have mixed : Tryz.prog.follows .mixedOrders = true := by kernel_rfl
 have hz2 : ¬ ((i : Int) = (n : Int)) := by omega
 have hov : ∀ lb cb, (callFunc 167 #[.slice (some ⟨vb, 0, none⟩) 1 1, .slice (some ⟨b, (i + 1) * 7, none⟩) lb cb]).run Tryz.prog w = .ok (.value (.bool false)) w := fun lb cb => by
  rw [run_callFunc_extern Tryz.func167 (by kernel_rfl) (by kernel_rfl) (by kernel_rfl) (e := Extern.SlicesOverlaps.overlaps #[25, 25] #[4]) (by kernel_rfl),
   Lib.run_overlaps_apart w 25 4 38 Tryz.underlying25 7 szSgt2 ⟨vb, 0, none⟩ ⟨b, (i + 1) * 7, none⟩ 1 1 lb cb hvb tA tB kA kB hsa hsb hkB hfa hfe]
  rfl
 have hdl : (cs.drop (i * 7)).length = (n - i) * 7 := by rw [List.length_drop, hcl, Nat.sub_mul]
 have hw1 : IntKind.i64.wrap ((i : Int) + 1) = (i : Int) + 1 := by rw [IntKind.wrap_i64]; omega
 have hb1 : (0 : Int) ≤ (i : Int) + 1 := by omega
 have hin : i ≤ n := by omega
 have htn : ((i : Int) + 1).toNat = i + 1 := by omega
 have hb2 : ¬ (c = i + 1) := by omega
 have hb3 : (i : Int) ≤ (n : Int) + 1 := by omega
 have hb4 : ¬ (c = i) := by omega
 have hcp1 : ∀ ty dc sc, (Builtin.copy_ #[25, 25] ty #[.slice (some ⟨b, (i + 1) * 7, none⟩) (n - i) dc, .slice (some ⟨b, i * 7, none⟩) (n + 1 - i) sc]).run Tryz.prog w.drew = .ok (goInt (n - i : Nat)) (w.drew.setCells b ((i + 1) * 7) (cs.drop (i * 7))) := fun ty dc sc =>
  run_copy_cellsK w.drew _ _ ty 38 b ((i + 1) * 7) (n - i) dc ⟨b, i * 7, none⟩ (n + 1 - i) sc 7 (n - i) (cs.drop (i * 7)) Tryz.underlying25 szSgt (by simp only [Nat.min_def]; split <;> omega) hdl
   (fun j v hj => by rw [Addr.add_lit]; exact hcs (i * 7 + j) v (by rwa [List.getElem?_drop] at hj))
   (fun j hj => hsp ((i + 1) * 7 + j) (by rw [hdl] at hj; omega)) (fun j hj => hfz _) (fun v hv => h1c v (List.mem_of_mem_drop hv))
 obtain ⟨W1, hW1⟩ : ∃ W1, W1 = w.drew.setCells b ((i + 1) * 7) (cs.drop (i * 7)) := ⟨_, rfl⟩
 have hsp1 : ∀ k, k < (n + 1) * 7 → (W1.cell? ⟨b, k, none⟩).isSome = true := fun k hk => by
  rw [hW1]
  exact isSome_setCells b _ _ w.drew (fun j hj => hsp ((i + 1) * 7 + j) (by rw [hdl] at hj; omega)) _ (hsp k hk)
 have hcp2 : ∀ (W : World), (∀ x, W.cell? x = W1.cell? x) → (∀ x, W.frozen? x = W1.frozen? x) → ∀ ty dc, (Builtin.copy_ #[25, 25] ty #[.slice (some ⟨b, i * 7, none⟩) (n + 1 - i) dc, .slice (some ⟨vb, 0, none⟩) 1 1]).run Tryz.prog W = .ok (goInt (1 : Nat)) (W.setCells b (i * 7) vs) := fun W hWc hWf ty dc =>
  run_copy_cellsK W _ _ ty 38 b (i * 7) (n + 1 - i) dc ⟨vb, 0, none⟩ 1 1 7 1 vs Tryz.underlying25 szSgt (by simp only [Nat.min_def]; split <;> omega) (by omega)
   (fun j v hj => by
     rw [Addr.add_lit, hWc, hW1, World.cell?_setCells_out b _ _ _ _ (fun h _ => absurd h hvb), Nat.zero_add]
     exact hvs j v hj)
   (fun j hj => by rw [hWc]; exact hsp1 (i * 7 + j) (by omega)) (fun j hj => by rw [hWf, hW1, World.frozen?_setCells]; exact hfz _) h1v
 rw [← hW1] at hcp1
 go_enter Tryz.func78, Tryz.ntmps78
 go_wp2_with (simp only [hov])
 go_region_law_o (refine step_copy_runI rfl _ _ 25 25 rfl _ _ (by simp [Act.eval, Act.put]) (by simp [Act.eval, Act.put]) (hcp1 _ _ _) ?_)
 go_wp2_with (at_builtin; refine wpList_copy_runI _ rfl _ _ 25 25 rfl _ _ rfl rfl (hcp2 _ (fun _ => rfl) (fun _ => rfl) _ _) ?_)
 go_ret
 first | exact ⟨rfl, rfl⟩ | exact ⟨rfl, by rw [hW1]⟩
set_option maxHeartbeats 4000000 in
set_option maxRecDepth 100000 in
theorem insS_end_room (b n c vb : Nat) (vs : List Value) (w : World) (hn6 : n ≤ 1000000) (hroom : n + 1 ≤ c) (hc63 : c ≤ 9223372036854775807)
 (hvl : vs.length = 7) (hsp : ∀ j, j < (n + 1) * 7 → (w.cell? ⟨b, j, none⟩).isSome = true) (hfz : ∀ j, w.frozen? ⟨b, j, none⟩ = false)
 (hvs : ∀ j v, vs[j]? = some v → w.cell? ⟨vb, j, none⟩ = some v) (h1v : ∀ v ∈ vs, v.oneCell' = true) :
 Calls Tryz.prog 78 #[.slice (some ⟨b, 0, none⟩) n c, .int .i64 n, .slice (some ⟨vb, 0, none⟩) 1 1] w fun e w' =>
  e = .returned (.slice (some ⟨b, 0, none⟩) (n + 1) c) ∧ w' = w.setCells b (n * 7) vs := by
 obtain ⟨i0, hi0, hz0, hzs, hzb⟩ := info_parts infoSight
 have hsrc : Src Tryz.prog i0.size 25 (.slice (some ⟨vb, 0, none⟩) 1 1) 1 vs w := by
  rw [hzs]
  exact Src.ofSlice w Tryz.underlying25 ⟨vb, 0, none⟩ 1 1 vs (by omega) (fun j u hj => by rw [Addr.add_lit, Nat.zero_add]; exact hvs j u hj) h1v
 go_enter Tryz.func78, Tryz.ntmps78
 go_wp2_with (at_builtin; refine wpList_append_room_src _ rfl _ _ 25 25 rfl 38 i0 Tryz.underlying25 hi0 b 0 n c rfl _ rfl 1 vs hsrc hroom (by rw [hzs]; exact fun j hj => hsp _ (by omega)) (by rw [hzs]; exact fun j hj => hfz _) ?_)
 go_ret
 first
  | exact ⟨rfl, rfl⟩
  | exact ⟨rfl, by rw [hzs, Nat.zero_add]⟩
set_option maxHeartbeats 4000000 in
set_option maxRecDepth 100000 in
theorem insS_end_grow (base : Option Addr) (n c vb : Nat) (cs vs : List Value) (w : World) (hn6 : n ≤ 1000000) (hnc : n ≤ c) (hroom : c < n + 1)
 (hcl : cs.length = n * 7) (hvl : vs.length = 7) (hnil : base = none → n = 0)
 (hcs : ∀ a, base = some a → ∀ j v, cs[j]? = some v → w.cell? (a.add j) = some v)
 (hvs : ∀ j v, vs[j]? = some v → w.cell? ⟨vb, j, none⟩ = some v) (h1v : ∀ v ∈ vs, v.oneCell' = true) :
 Calls Tryz.prog 78 #[.slice base n c, .int .i64 n, .slice (some ⟨vb, 0, none⟩) 1 1] w fun e w' =>
  e = .returned (.slice (some ⟨w.heap.size, 0, none⟩) (n + 1) (grownCap w (n + 1) c 38)) ∧
  w' = w.drew.alloc (.cells ((cs ++ vs).toArray ++ Builtin.zeroCells (Value.agg #[.int .i64 0, .int .i64 0, .int .i64 0, .int .i64 0, .int .i64 0, .int .i64 0, .int .i64 0]).cells (grownCap w (n + 1) c 38 - (n + 1))) 38) := by
 obtain ⟨i0, hi0, hz0, hzs, hzb⟩ := info_parts infoSight
 have hsrc : Src Tryz.prog i0.size 25 (.slice (some ⟨vb, 0, none⟩) 1 1) 1 vs w := by
  rw [hzs]
  exact Src.ofSlice w Tryz.underlying25 ⟨vb, 0, none⟩ 1 1 vs (by omega) (fun j u hj => by rw [Addr.add_lit, Nat.zero_add]; exact hvs j u hj) h1v
 have hold : (Builtin.firstCells i0.size n (.slice base n c)).run Tryz.prog w.drew = .ok cs.toArray w.drew := by
  rw [hzs]
  cases base with
  | none =>
    have h0 := hnil rfl
    subst h0
    rw [show cs = [] from List.length_eq_zero_iff.1 (by omega)]
    exact run_firstCells_none w.drew 7 0 0 c
  | some a => exact run_firstCells_some w.drew 7 n a n c cs hcl (fun j v hj => hcs a rfl j v hj)
 have hrun : ∀ ty, (Builtin.append_ #[25, 25] ty #[.slice base n c, .slice (some ⟨vb, 0, none⟩) 1 1]).run Tryz.prog w = _ := fun ty =>
  run_append_grow_src w 25 25 ty 38 i0 _ Tryz.underlying25 hi0 hz0 base n c cs hold _ 1 vs hsrc hroom (by omega) (by rw [hzb]; exact growslice_fits hroom (by omega))
 go_enter Tryz.func78, Tryz.ntmps78
 cases base with
 | none =>
   have h0 := hnil rfl
   subst h0
   go_wp2_with (at_builtin; refine Lib.wpList_append_run _ rfl _ _ _ _ rfl _ _ rfl rfl _ _ (hrun _) ?_)
   go_ret
   exact ⟨rfl, rfl⟩
 | some a =>
   obtain ⟨ab, ao, asp⟩ := a
   go_wp2_with (at_builtin; refine Lib.wpList_append_run _ rfl _ _ _ _ rfl _ _ rfl rfl _ _ (hrun _) ?_)
   all_goals (go_ret; exact ⟨rfl, rfl⟩)
end Go.Proofs.YtklikciiaogpbaaGreat
/- Layer 2: slices.Insert at sights: a new row, ahead of others; all roads. -/
namespace Go.Proofs.YtklikciiaogpbaaGreat
open Go.RowKit Go.Maps Go.Shelf
abbrev zSgt : Array Value := #[.int .i64 0, .int .i64 0, .int .i64 0, .int .i64 0, .int .i64 0, .int .i64 0, .int .i64 0]
set_option maxHeartbeats 4000000 in
set_option maxRecDepth 100000 in
theorem insS_grow (b n c i vb : Nat) (cs vs : List Value) (w : World) (hi : i < n) (hn6 : n ≤ 1000000) (hnc : n ≤ c) (hroom : c < n + 1)
 (hcl : cs.length = n * 7) (hvl : vs.length = 7)
 (hcs : ∀ j v, cs[j]? = some v → w.cell? ⟨b, j, none⟩ = some v)
 (hvs : ∀ j v, vs[j]? = some v → w.cell? ⟨vb, j, none⟩ = some v) (h1c : ∀ v ∈ cs, v.oneCell' = true) (h1v : ∀ v ∈ vs, v.oneCell' = true) :
 Calls Tryz.prog 78 #[.slice (some ⟨b, 0, none⟩) n c, .int .i64 i, .slice (some ⟨vb, 0, none⟩) 1 1] w fun e w' =>
  e = .returned (.slice (some ⟨w.heap.size, 0, none⟩) (n + 1) (grownCap w (n + 1) c 38)) ∧
  w' = (((w.alloc (.cells ((cs.take (i * 7)).toArray ++ Builtin.zeroCells zSgt (n + 1 - i) ++ Builtin.zeroCells zSgt (grownCap w (n + 1) c 38 - (n + 1))) 38)).drew.setCells w.heap.size (i * 7) vs).drew).setCells w.heap.size ((i + 1) * 7) (cs.drop (i * 7)) := by
 have mixed : Tryz.prog.follows .mixedOrders = true := by kernel_rfl
 obtain ⟨i0, hi0, hz0, hzs, hzb⟩ := info_parts infoSight
 have hz2 : ¬ ((i : Int) = (n : Int)) := by omega
 have hz3 : (c : Int) < (n : Int) + 1 := by omega
 have hbw : b < w.heap.size := block_lt_of_cell (hcs 0 _ (List.getElem?_eq_getElem (by omega)))
 have hvw : vb < w.heap.size := block_lt_of_cell (hvs 0 _ (List.getElem?_eq_getElem (by omega)))
 have hkk : (n : Int) + 1 - (i : Int) = ((n + 1 - i : Nat) : Int) := by omega
 have hik : i + (n + 1 - i) = n + 1 := by omega
 have htl : (cs.take (i * 7)).length = i * 7 := by rw [List.length_take, hcl]; omega
 have hold : (Builtin.firstCells i0.size i (.slice (some ⟨b, 0, none⟩) i c)).run Tryz.prog w.drew = .ok (cs.take (i * 7)).toArray w.drew := by
  rw [hzs]
  exact run_firstCells_some w.drew 7 i ⟨b, 0, none⟩ i c (cs.take (i * 7)) htl (fun j v hj => by
   rw [Addr.add_lit, Nat.zero_add]
   rw [List.getElem?_take] at hj
   split at hj
   ·exact hcs j v hj
   ·cases hj)
 have hrz : ∀ ty, (Builtin.append_ #[25, 3] ty #[.slice (some ⟨b, 0, none⟩) i c, .int .i64 ((n : Int) + 1 - (i : Int))]).run Tryz.prog w =
  .ok (.slice (some ⟨w.heap.size, 0, none⟩) (n + 1) (grownCap w (n + 1) c 38)) (w.drew.alloc (.cells ((cs.take (i * 7)).toArray ++ Builtin.zeroCells zSgt (n + 1 - i) ++ Builtin.zeroCells zSgt (grownCap w (n + 1) c 38 - (n + 1))) 38)) := fun ty => by
  have h := Lib.run_append_grow_zeros w 25 3 ty 38 i0 _ .i64 .i64 Tryz.underlying25 Tryz.underlying3 hi0 hz0 (some ⟨b, 0, none⟩) i c (cs.take (i * 7)) hold (n + 1 - i) (by omega) (by omega) (by omega) (by omega) (by rw [hzb]; omega) (by rw [hzb, hik]; exact growslice_fits hroom (by omega))
  rw [hik] at h
  rw [hkk]
  exact h
 obtain ⟨G, hG⟩ : ∃ G, G = grownCap w (n + 1) c 38 := ⟨_, rfl⟩
 obtain ⟨ROW, hROW⟩ : ∃ ROW : Array Value, ROW = (cs.take (i * 7)).toArray ++ Builtin.zeroCells zSgt (n + 1 - i) ++ Builtin.zeroCells zSgt (G - (n + 1)) := ⟨_, rfl⟩
 rw [← hG] at hrz ⊢
 rw [← hROW] at hrz ⊢
 have hRl : (n + 1) * 7 ≤ ROW.size := by
  rw [hROW]
  simp [Builtin.zeroCells, hcl]
  omega
 obtain ⟨W1, hW1⟩ : ∃ W1, W1 = w.drew.alloc (.cells ROW 38) := ⟨_, rfl⟩
 rw [← hW1] at hrz
 have hN : ∀ j, j < (n + 1) * 7 → (W1.cell? ⟨w.heap.size, j, none⟩).isSome = true := fun j hj => by
  rw [hW1, World.cell?_alloc_at (w := w.drew) ROW _ w.heap.size j rfl, Array.getElem?_eq_getElem (by omega)]; rfl
 have hNf : ∀ j, W1.frozen? ⟨w.heap.size, j, none⟩ = false := fun j => by rw [hW1]; exact World.frozen?_alloc_at (w := w.drew) ROW _ w.heap.size j rfl
 have hOb : ∀ j v, w.cell? ⟨b, j, none⟩ = some v → W1.cell? ⟨b, j, none⟩ = some v := fun j v h => by rw [hW1, World.cell?_alloc_past (w := w.drew) _ b j hbw]; exact h
 have hOv : ∀ j v, w.cell? ⟨vb, j, none⟩ = some v → W1.cell? ⟨vb, j, none⟩ = some v := fun j v h => by rw [hW1, World.cell?_alloc_past (w := w.drew) _ vb j hvw]; exact h
 have hcpA : ∀ (W : World), (∀ x, W.cell? x = W1.cell? x) → (∀ x, W.frozen? x = W1.frozen? x) → ∀ ty dc, (Builtin.copy_ #[25, 25] ty #[.slice (some ⟨w.heap.size, i * 7, none⟩) (n + 1 - i) dc, .slice (some ⟨vb, 0, none⟩) 1 1]).run Tryz.prog W = .ok (goInt (1 : Nat)) (W.setCells w.heap.size (i * 7) vs) := fun W hWc hWf ty dc =>
  run_copy_cellsK W _ _ ty 38 w.heap.size (i * 7) (n + 1 - i) dc ⟨vb, 0, none⟩ 1 1 7 1 vs Tryz.underlying25 szSgt (by simp only [Nat.min_def]; split <;> omega) (by omega)
   (fun j v hj => by rw [Addr.add_lit, hWc, Nat.zero_add]; exact hOv _ v (hvs j v hj))
   (fun j hj => by rw [hWc]; exact hN (i * 7 + j) (by omega)) (fun j hj => by rw [hWf]; exact hNf _) h1v
 have hGn : n + 1 ≤ G := by rw [hG]; exact grownCap_ge w _ _ _
 have hG63 : G ≤ 9223372036854775807 := by
  have := grownCap_le_maxLen w (n + 1) c 38 (by unfold maxLen; omega)
  rw [← hG] at this
  unfold maxLen at this
  omega
 have hGi : ¬ (G = i) := by omega
 have hGim : ¬ (G = i + 1) := by omega
 have hci : ¬ (c = i) := by omega
 have hbN : b ≠ w.heap.size := by omega
 have hdl : (cs.drop (i * 7)).length = (n - i) * 7 := by rw [List.length_drop, hcl, Nat.sub_mul]
 have hcpB : ∀ (W : World), (∀ x, W.cell? x = (W1.setCells w.heap.size (i * 7) vs).cell? x) → (∀ x, W.frozen? x = (W1.setCells w.heap.size (i * 7) vs).frozen? x) → ∀ ty dc sc, (Builtin.copy_ #[25, 25] ty #[.slice (some ⟨w.heap.size, (i + 1) * 7, none⟩) (n - i) dc, .slice (some ⟨b, i * 7, none⟩) (n - i) sc]).run Tryz.prog W = .ok (goInt (n - i : Nat)) (W.setCells w.heap.size ((i + 1) * 7) (cs.drop (i * 7))) := fun W hWc hWf ty dc sc =>
  run_copy_cellsK W _ _ ty 38 w.heap.size ((i + 1) * 7) (n - i) dc ⟨b, i * 7, none⟩ (n - i) sc 7 (n - i) (cs.drop (i * 7)) Tryz.underlying25 szSgt (by simp only [Nat.min_def]; split <;> omega) hdl
   (fun j v hj => by
     rw [Addr.add_lit, hWc, World.cell?_setCells_out _ _ _ _ _ (fun h _ => absurd h hbN)]
     exact hOb _ v (hcs (i * 7 + j) v (by rwa [List.getElem?_drop] at hj)))
   (fun j hj => by rw [hWc]; exact isSome_setCells _ _ _ _ (fun t ht => hN (i * 7 + t) (by omega)) _ (hN ((i + 1) * 7 + j) (by rw [hdl] at hj; omega)))
   (fun j hj => by rw [hWf, World.frozen?_setCells]; exact hNf _) (fun v hv => h1c v (List.mem_of_mem_drop hv))
 subst hW1
 have hE1 : ∀ x, ((w.alloc (.cells ROW 38)).drew).cell? x = (w.drew.alloc (.cells ROW 38)).cell? x := fun x => rfl
 have hE2 : ∀ x, ((w.alloc (.cells ROW 38)).drew).frozen? x = (w.drew.alloc (.cells ROW 38)).frozen? x := fun x => rfl
 have hF1 : ∀ x, (((w.alloc (.cells ROW 38)).drew.setCells w.heap.size (i * 7) vs).drew).cell? x = ((w.drew.alloc (.cells ROW 38)).setCells w.heap.size (i * 7) vs).cell? x := fun x => rfl
 have hF2 : ∀ x, (((w.alloc (.cells ROW 38)).drew.setCells w.heap.size (i * 7) vs).drew).frozen? x = ((w.drew.alloc (.cells ROW 38)).setCells w.heap.size (i * 7) vs).frozen? x := fun x => rfl
 have hw1 : IntKind.i64.wrap ((i : Int) + 1) = (i : Int) + 1 := by rw [IntKind.wrap_i64]; omega
 have hb1 : (0 : Int) ≤ (i : Int) + 1 := by omega
 have hin : i ≤ n := by omega
 have htn : ((i : Int) + 1).toNat = i + 1 := by omega
 have hb3 : (i : Int) ≤ (n : Int) := by omega
 clear hkk hik hold hROW hG hRl
 go_enter Tryz.func78, Tryz.ntmps78
 go_wp2_with (first
  | (at_builtin; refine Lib.wpList_append_run _ rfl _ _ _ _ rfl _ _ rfl rfl _ _ (hrz _) ?_)
  | (at_builtin; refine wpList_copy_runI _ rfl _ _ 25 25 rfl _ _ rfl rfl (hcpA _ hE1 hE2 _ _) ?_)
  | (at_builtin; refine wpList_copy_runI _ rfl _ _ 25 25 rfl _ _ rfl rfl (hcpB _ (fun _ => rfl) (fun _ => rfl) _ _ _) ?_))
 go_region_law_o (refine step_copy_runI rfl _ _ 25 25 rfl (.slice (some ⟨w.heap.size, (i + 1) * 7, none⟩) (n - i) (G - (i + 1))) (.slice (some ⟨b, i * 7, none⟩) (n - i) (c - i)) (by simp [Act.eval, Act.put]) (by simp [Act.eval, Act.put]) (hcpB _ hF1 hF2 3 (G - (i + 1)) (c - i)) ?_)
 go_wp2
 go_ret
 exact ⟨rfl, rfl⟩
end Go.Proofs.YtklikciiaogpbaaGreat
/- Layer 2: slices.Insert at sights: all roads. -/
namespace Go.Proofs.YtklikciiaogpbaaGreat
open Go.RowKit Go.Maps Go.Shelf
def insQ (cs : List Value) (i : Nat) (vs : List Value) : List Value := cs.take (i * 7) ++ vs ++ cs.drop (i * 7)
theorem insQ_len {cs vs : List Value} {i n : Nat} (hi : i ≤ n) (hcl : cs.length = n * 7) (hvl : vs.length = 7) : (insQ cs i vs).length = (n + 1) * 7 := by simp [insQ]; omega
theorem insQ_get {cs vs : List Value} {i n : Nat} (hi : i ≤ n) (hcl : cs.length = n * 7) (hvl : vs.length = 7) (j : Nat) : (insQ cs i vs)[j]? = if j < i * 7 then cs[j]? else if j < (i + 1) * 7 then vs[j - i * 7]? else cs[j - 7]? := by
 unfold insQ
 have htl : (cs.take (i * 7)).length = i * 7 := by rw [List.length_take, hcl]; omega
 by_cases h1 : j < i * 7
 ·rw [if_pos h1, List.append_assoc, List.getElem?_append_left (by omega), List.getElem?_take, if_pos h1]
 ·rw [if_neg h1, List.append_assoc, List.getElem?_append_right (by omega), htl]
  by_cases h2 : j < (i + 1) * 7
  ·rw [if_pos h2, List.getElem?_append_left (by omega)]
  ·rw [if_neg h2, List.getElem?_append_right (by omega), List.getElem?_drop, hvl]
   congr 1
   omega
theorem zq_size (k : Nat) : (Builtin.zeroCells zSgt k).size = k * 7 := by simp [Builtin.zeroCells]
set_option maxHeartbeats 4000000 in
theorem p_InsertSgt {base vb n : Nat} {v : Value} {cs vs : List Value} {W : World} (i : Nat) (hi : i ≤ n) (hn : n ≤ 1000000) (hbase : base ≤ W.heap.size) (h : W.ownsRow base 38 7 v n cs) (h1 : ∀ u ∈ cs, u.oneCell' = true)
 (hvl : vs.length = 7) (hv : W.heap[vb]? = some (.cells vs.toArray 38 (0, 0))) (h1v : ∀ u ∈ vs, u.oneCell' = true) (hne : v.ownBlock ≠ some vb) :
 Calls Tryz.prog 78 #[v, .int .i64 i, .slice (some ⟨vb, 0, none⟩) 1 1] W fun e w' => ∃ v', e = .returned v' ∧ w'.ownsRow base 38 7 v' (n + 1) (insQ cs i vs) ∧ W.grownBy w' v.ownBlock := by
 have hcl : cs.length = n * 7 := h.1
 have hm := mL
 have hvs : ∀ (j : Nat) (u : Value), vs[j]? = some u → W.cell? ⟨vb, j, none⟩ = some u := fun j u hj => by
  rw [cell_of_row _ _ _ _ _ _ hv]
  simpa using hj
 rcases h.2 with ⟨rfl, rfl⟩ | ⟨g, cap, cur, rfl, hg, hh, hnc, hcm, hsz, htk⟩
 ·obtain rfl : i = 0 := by omega
  have hcs : cs = [] := List.eq_nil_of_length_eq_zero (by omega)
  subst hcs
  refine (insS_end_grow none 0 0 vb [] vs W (by omega) (by omega) (by omega) rfl hvl (fun _ => rfl) (fun a e => by cases e) hvs h1v).mono ?_
  rintro e w' ⟨rfl, rfl⟩
  have hge := grownCap_ge W (0 + 1) 0 38
  have hle := grownCap_le_maxLen W (0 + 1) 0 38 (by omega)
  refine ⟨_, rfl, own_of_getK hbase (heap_alloc_new _ _) hge hle ?_ (insQ_len (Nat.le_refl _) rfl hvl) (fun j hj => ?_), (grown_drew W _).trans (grown_alloc _ _ _)⟩
  ·generalize grownCap W (0 + 1) 0 38 = G at *
   rw [Array.size_append]
   show _ = _ + (Builtin.zeroCells zSgt _).size
   rw [zq_size]
   simp [hvl]
   omega
  ·rw [insQ_get (n := 0) (Nat.le_refl _) rfl hvl, if_neg (by omega), if_pos (by omega), Array.getElem?_append_left (by simp [hvl]; omega)]
   simp
 ·have hsz7 : cap * 7 = cur.size := by omega
  have hcur : ∀ j, j < n * 7 → cur[j]? = cs[j]? := fun j hj => by rw [← htk, List.getElem?_take, if_pos hj, Array.getElem?_toList]
  have hcc : ∀ (j : Nat) (u : Value), cs[j]? = some u → W.cell? ⟨g, j, none⟩ = some u := fun j u hj => by
   have : j < n * 7 := by
    rcases Nat.lt_or_ge j (n * 7) with h | h
    ·exact h
    ·rw [List.getElem?_eq_none (by omega)] at hj; cases hj
   rw [cell_of_row _ _ _ _ _ _ hh, hcur j this]
   exact hj
  have hsome : ∀ o, o < cap * 7 → (W.cell? ⟨g, o, none⟩).isSome = true := fun o ho => by
   rw [cell_of_row _ _ _ _ _ _ hh, Array.getElem?_eq_getElem (by omega)]
   rfl
  have hfr : ∀ o, W.frozen? ⟨g, o, none⟩ = false := fun o => by simp [World.frozen?, hh]
  have hfv : ∀ o, W.frozen? ⟨vb, o, none⟩ = false := fun o => by simp [World.frozen?, hv]
  have hvg : vb ≠ g := fun e => hne (by rw [e]; rfl)
  have hgl : g < W.heap.size := block_lt hh
  by_cases hin : i = n
  ·subst hin
   by_cases hr : i + 1 ≤ cap
   ·refine (insS_end_room g i cap vb vs W hn hr (by unfold maxLen at hcm; omega) hvl (fun j hj => hsome _ (by omega)) hfr hvs h1v).mono ?_
    rintro e w' ⟨rfl, rfl⟩
    obtain ⟨c', b1, b2, b3⟩ := block_setCells vs (i * 7) W cur hh
    refine ⟨_, rfl, own_of_getK hg b1 hr hcm (by omega) (insQ_len (Nat.le_refl _) hcl hvl) (fun j hj => ?_), grown_setCells _ _ _ _⟩
    rw [b3 j (by omega), insQ_get (Nat.le_refl _) hcl hvl]
    by_cases hj2 : j < i * 7
    ·rw [if_neg (by omega), if_pos hj2]
     exact hcur j hj2
    ·rw [if_pos (by omega), if_neg hj2, if_pos (by omega)]
   ·refine (insS_end_grow (some ⟨g, 0, none⟩) i cap vb cs vs W hn hnc (by omega) hcl hvl (fun e => by cases e) (fun a e j u hj => by
     cases e
     rw [Addr.add_lit, Nat.zero_add]
     exact hcc j u hj) hvs h1v).mono ?_
    rintro e w' ⟨rfl, rfl⟩
    have hge := grownCap_ge W (i + 1) cap 38
    have hle := grownCap_le_maxLen W (i + 1) cap 38 (by omega)
    refine ⟨_, rfl, own_of_getK hbase (heap_alloc_new _ _) hge hle ?_ (insQ_len (Nat.le_refl _) hcl hvl) (fun j hj => ?_), (grown_drew W _).trans (grown_alloc _ _ _)⟩
    ·generalize grownCap W (i + 1) cap 38 = G at *
     rw [Array.size_append]
     show _ = _ + (Builtin.zeroCells zSgt _).size
     rw [zq_size]
     simp [hvl, hcl]
     omega
    ·have hic : insQ cs i vs = cs ++ vs := by unfold insQ; rw [List.take_of_length_le (by omega), List.drop_eq_nil_of_le (by omega), List.append_nil]
     rw [hic, Array.getElem?_append_left (by simp [hcl, hvl]; omega)]
     simp
  ·have hil : i < n := by omega
   by_cases hr : n + 1 ≤ cap
   ·refine (insS_shift g n cap i vb cs vs W hil hr hn (by unfold maxLen at hcm; omega) hvg hcl hvl hcc (fun j hj => hsome _ (by omega)) hfr hvs h1 h1v 38 38 7 cur.size (by simp [World.shape?, hv, hvl]) (by simp [World.shape?, hh]) (by omega) (hfv _) (hfv _)).mono ?_
    rintro e w' ⟨rfl, rfl⟩
    obtain ⟨c1, p1, p2, p3⟩ := block_setCells (cs.drop (i * 7)) ((i + 1) * 7) W.drew cur hh
    obtain ⟨c2, q1, q2, q3⟩ := block_setCells vs (i * 7) _ c1 p1
    refine ⟨_, rfl, own_of_getK hg q1 hr hcm (by omega) (insQ_len hi hcl hvl) (fun j hj => ?_), ((grown_drew W _).trans (grown_setCells _ _ _ _)).trans (grown_setCells _ _ _ _)⟩
    rw [q3 j (by omega), insQ_get hi hcl hvl]
    by_cases hj3 : j < i * 7
    ·rw [if_neg (by omega), p3 j (by omega), if_neg (by omega), if_pos hj3]
     exact hcur j (by omega)
    ·by_cases hj2 : j < (i + 1) * 7
     ·rw [if_pos (by omega), if_neg hj3, if_pos hj2]
     ·rw [if_neg (by omega), p3 j (by omega), if_pos (by rw [List.length_drop]; omega), if_neg hj3, if_neg hj2, List.getElem?_drop]
      congr 1
      omega
   ·refine (insS_grow g n cap i vb cs vs W hil hn hnc (by omega) hcl hvl hcc hvs h1 h1v).mono ?_
    rintro e w' ⟨rfl, rfl⟩
    have hge := grownCap_ge W (n + 1) cap 38
    have hle := grownCap_le_maxLen W (n + 1) cap 38 (by omega)
    obtain ⟨c1, p1, p2, p3⟩ := block_setCells (g := W.heap.size) vs (i * 7) (W.alloc (.cells ((cs.take (i * 7)).toArray ++ Builtin.zeroCells zSgt (n + 1 - i) ++ Builtin.zeroCells zSgt (grownCap W (n + 1) cap 38 - (n + 1))) 38)).drew _ (heap_alloc_new _ _)
    obtain ⟨c2, q1, q2, q3⟩ := block_setCells (g := W.heap.size) (cs.drop (i * 7)) ((i + 1) * 7) (((W.alloc (.cells ((cs.take (i * 7)).toArray ++ Builtin.zeroCells zSgt (n + 1 - i) ++ Builtin.zeroCells zSgt (grownCap W (n + 1) cap 38 - (n + 1))) 38)).drew.setCells W.heap.size (i * 7) vs).drew) c1 p1
    generalize hG : grownCap W (n + 1) cap 38 = G at *
    have hsz1 : ((cs.take (i * 7)).toArray ++ Builtin.zeroCells zSgt (n + 1 - i) ++ Builtin.zeroCells zSgt (G - (n + 1))).size = G * 7 := by
     simp only [Array.size_append, zq_size, List.size_toArray, List.length_take, hcl]
     omega
    refine ⟨_, rfl, own_of_getK hbase q1 hge hle (by omega) (insQ_len hi hcl hvl) (fun j hj => ?_), ?_⟩
    ·rw [q3 j (by omega), insQ_get hi hcl hvl]
     by_cases hj3 : j < i * 7
     ·rw [if_neg (by omega), p3 j (by omega), if_neg (by omega), if_pos hj3, Array.getElem?_append_left (by simp [hcl, zq_size]; omega), Array.getElem?_append_left (by simp [hcl]; omega)]
      simp [hj3]
     ·by_cases hj2 : j < (i + 1) * 7
      ·rw [if_neg (by omega), p3 j (by omega), if_pos (by omega), if_neg hj3, if_pos hj2]
      ·rw [if_pos (by rw [List.length_drop]; omega), if_neg hj3, if_neg hj2, List.getElem?_drop]
       congr 1
       omega
    ·have k1 : W.grownBy (W.alloc (.cells ((cs.take (i * 7)).toArray ++ Builtin.zeroCells zSgt (n + 1 - i) ++ Builtin.zeroCells zSgt (G - (n + 1))) 38)).drew (some g) := (grown_alloc _ _ _).trans (grown_drew _ _)
     have k2 := grown_then k1 (grown_setCells W.heap.size vs (i * 7) _) (Nat.le_refl _)
     exact grown_then (k2.trans (grown_drew _ _)) (grown_setCells W.heap.size (cs.drop (i * 7)) ((i + 1) * 7) _) (Nat.le_refl _)
theorem insQ_flat (S : List Sgt) (s : Sgt) : insQ (S.flatMap sgC) (sgIx S s.src) (sgC s) = (sgIns S s).flatMap sgC := by
 have h : ∀ (S : List Sgt) (k : Nat), (S.flatMap sgC).take (k * 7) = (S.take k).flatMap sgC ∧ (S.flatMap sgC).drop (k * 7) = (S.drop k).flatMap sgC := by
  intro S
  induction S with
  | nil => intro k; simp
  | cons x S ih =>
    intro k
    cases k with
    | zero => simp
    | succ k =>
      have e : (k + 1) * 7 = 7 + k * 7 := by omega
      have hx : (sgC x).length = 7 := rfl
      constructor
      ·rw [List.take_succ_cons, List.flatMap_cons, List.flatMap_cons, List.take_append, hx, e, List.take_of_length_le (by rw [hx]; omega), Nat.add_sub_cancel_left, (ih k).1]
      ·rw [List.drop_succ_cons, List.flatMap_cons, List.drop_append, hx, e, List.drop_eq_nil_of_le (by rw [hx]; omega), Nat.add_sub_cancel_left, (ih k).2, List.nil_append]
 unfold insQ sgIns
 rw [(h S _).1, (h S _).2, List.flatMap_append, List.flatMap_cons, List.append_assoc]
end Go.Proofs.YtklikciiaogpbaaGreat
