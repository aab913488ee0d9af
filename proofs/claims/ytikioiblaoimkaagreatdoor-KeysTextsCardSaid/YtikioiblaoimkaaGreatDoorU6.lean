import Derived.Test.YtikioiblaoimkaaGreatDoorU5
import Derived.Test.YtikioiblaoimkaaGreatDoorA3
import Derived.Test.YtikioiblaoimkaaGreatDoorM2
set_option linter.unusedVariables false
set_option linter.unusedSimpArgs false

/- The reference's Parse. -/
namespace Go.Proofs.YtikioiblaoimkaaGreatDoor
open Go.RowKit

/-- Nine cells of numbers. -/
def SNine (b o : Nat) (d : Deed) (V : World) : Prop :=
  V.cell? ⟨b, o, none⟩ = some (.int .i64 d.par) ∧ V.cell? ⟨b, o + 1, none⟩ = some (.int .i64 d.no) ∧ V.cell? ⟨b, o + 2, none⟩ = some (.int .i64 d.kind) ∧ V.cell? ⟨b, o + 3, none⟩ = some (.int .i64 d.lock) ∧ V.cell? ⟨b, o + 4, none⟩ = some (.int .i64 d.person) ∧
  V.cell? ⟨b, o + 5, none⟩ = some (.int .i64 d.lo) ∧ V.cell? ⟨b, o + 6, none⟩ = some (.int .i64 d.hi) ∧ V.cell? ⟨b, o + 7, none⟩ = some (.int .i64 d.known) ∧ V.cell? ⟨b, o + 8, none⟩ = some (.int .i64 d.til)
theorem SNine.of {V V' : World} {b o : Nat} {d : Deed} (h : SNine b o d V) (hk : ∀ j, V'.cell? ⟨b, j, none⟩ = V.cell? ⟨b, j, none⟩) : SNine b o d V' := by
  obtain ⟨h0, h1, h2, h3, h4, h5, h6, h7, h8⟩ := h
  exact ⟨(hk _).trans h0, (hk _).trans h1, (hk _).trans h2, (hk _).trans h3, (hk _).trans h4, (hk _).trans h5, (hk _).trans h6, (hk _).trans h7, (hk _).trans h8⟩
theorem SNine.ext {V V' : World} {b o : Nat} {d : Deed} (h : SNine b o d V) (hb : Below V.heap.size V V') : SNine b o d V' :=
  h.of fun j => hb.cell (p := ⟨b, j, none⟩) (show b < V.heap.size from block_lt_of_cell h.1)
theorem SNine.kept {V V' : World} {b o : Nat} {d : Deed} {row : Option Nat} (h : SNine b o d V) (g : V.grownBy V' row) (hne : some b ≠ row) : SNine b o d V' :=
  h.of fun j => World.cell?_of_block (g.block b (block_lt_of_cell h.1) (fun e => hne e))

set_option maxRecDepth 100000 in
set_option maxHeartbeats 4000000 in
theorem r_Parse (t : ByteArray) (w : World) (ht : t.size ≤ 9223372036854775807) : Calls Tryz.prog 7 #[.string t] w (RetPrs t.data.toList w) := by
  obtain ⟨i0, hi, hz0, hz1, hz2⟩ := info_parts infoDeed
  by_cases h8 : 8000 < t.size
  · have HP := Lib.hid (pars_long (t := t.data.toList) (by rw [← size_len]; exact h8))
    have hi8 : 8000 < (t.size : Int) := by omega
    go_enter Tryz.func7, Tryz.ntmps7
    go_wp2_with fail
    refine bodyPost_ret (v := .tuple #[.slice none 0 0, .int .i64 0, .int .i64 2]) (by simp [results, Tryz.f7, go_sem]) rfl (retPrs_none HP.out (Below.refl _ _))
  · have hi8 : ¬ 8000 < (t.size : Int) := by omega
    have h8' : t.data.toList.length ≤ 8000 := by rw [← size_len]; omega
    obtain ⟨ls, hls⟩ : ∃ ls, lnR t.data.toList = ls := ⟨_, rfl⟩
    have HS : Hid (spokenL 0 ls = parsD t.data.toList) := by show _ = _; rw [← hls]; exact spoken_lnR _
    have HM : Hid (∀ x ∈ ls, x.length ≤ 8000) := by show ∀ x ∈ ls, x.length ≤ 8000; intro x hx; rw [← hls] at hx; have := lnR_mem hx; omega
    have hlc : ls.length ≤ 8001 := by rw [← hls]; have := lnR_count t.data.toList; omega
    have hL := r_Lines t w (by omega)
    rw [hls] at hL
    have HLI := Lib.hid hL
    clear hL hls h8
    go_enter Tryz.func7, Tryz.ntmps7
    go_wp2_with (go_at_call 17; refine HLI.out.mono ?_; rintro e w1 ⟨A1, c1, rfl, hb1, hs1, hc1, hm1⟩; refine Hid.out ?_)
    refine Lib.hid ?_
    have HB1 := Lib.hid hb1
    have HS1 := Lib.hid hs1
    obtain ⟨n, hn⟩ : ∃ n, ls.length = n := ⟨_, rfl⟩
    rw [hn] at HS1 hc1 hlc
    simp only [hn]
    have HN := Lib.hid hn
    clear hb1 hs1 hn
    go_wp2_with fail
    go_loopw [5, 18] (fun v i wr => ∃ (k : Nat) (ds : List Deed), k ≤ n ∧ i = .int .i64 k ∧ ds.length ≤ k ∧ GoodL (spokenL 0 (ls.take k)) ds ∧ wr.ownsRow w1.heap.size 41 9 v ds.length (deedCells ds) ∧ Below w1.heap.size w1 wr) (fun _ i _ => n - (intOf i).toNat)
    case atStart => exact ⟨0, [], by omega, rfl, Nat.le_refl _, ⟨fun y hy => by simp [spokenL] at hy, by simp [spokenL]⟩, World.ownsRow_nil _ _ _ _, Below.refl _ _⟩
    case round =>
      obtain ⟨k, ds, hk, rfl, hdk, hg, hown, hB⟩ := hrel
      have HG := Lib.hid hg
      have HO := Lib.hid hown
      have HB := Lib.hid hB
      have hs0 : w1.heap.size ≤ wr.heap.size := hB.size
      have hsw : w.heap.size ≤ w1.heap.size := HB1.out.size
      clear hg hB
      by_cases hlt : k < n
      · have hDk := HS1.out.ext HB.out (Nat.le_refl _)
        obtain ⟨b, o, x, rfl, hb, hx, hc0⟩ := hDk.at_ hlt
        have HX := Lib.hid hx
        have hxl : x.length ≤ 8000 := HM.out x (List.mem_of_getElem? hx)
        obtain ⟨xb, hxb⟩ : ∃ xb : ByteArray, ⟨x.toArray⟩ = xb := ⟨_, rfl⟩
        have hxd : xb.data.toList = x := by rw [← hxb]
        have hxs : xb.size ≤ 8000 := by rw [← hxb, ba_size]; exact hxl
        rw [hxb] at hc0
        have hsy := fun W => r_Says xb W (by omega)
        rw [hxd] at hsy
        clear hDk hx hxb hown
        cases hsx : saysB x with
        | false =>
          rw [hsx] at hsy
          have HSY := Lib.hid hsy
          have HG2 := Lib.hid (good_out HX.out hsx HG.out)
          clear hsy hsx hxd
          go_wp2_with (go_at_call 18; refine (HSY.out _).mono ?_; rintro e w2 ⟨rfl, hb2⟩)
          go_roundw
          case rel => exact ⟨k + 1, ds, by omega, by go_num, by omega, HG2.out, own_ext HO.out hb2, Below.then_ HB.out hb2⟩
          case measure => simp [intOf]; omega
        | true =>
          rw [hsx] at hsy
          have HSY := Lib.hid hsy
          obtain ⟨w0, wt, hww⟩ := says_words hsx
          have hwd := fun W => r_Words xb W (by omega)
          rw [hxd, hww] at hwd
          have HWD := Lib.hid hwd
          have hwl : ∀ y ∈ w0 :: wt, y.length ≤ 100000 := by rw [← hww]; intro y hy; have := wdL_mem hy; omega
          have hwn : wt.length ≤ 8000 := by have := wdL_count x; rw [hww] at this; simp at this; omega
          have HWL := Lib.hid hwl
          have hbad : deedO (wdL x) = none → parsE t.data.toList = 5 ∧ parsN t.data.toList = (k : Int) + 1 ∧ parsL t.data.toList = [] := fun hd => by
            have h := pars_bad (bad_at HS.out HX.out hsx HG.out hd) (Nat.succ_pos _) h8'
            exact ⟨h.1, by rw [h.2.1]; simp, h.2.2⟩
          have HBAD := Lib.hid hbad
          clear hbad
          have HSP := Lib.hid (spoken_succ HX.out)
          rw [hsx, if_pos rfl] at HSP
          have HWW := Lib.hid hww
          clear hsy hsx hxd hww hwd hwl
          go_wp2_with (first
            | (go_at_call 18; refine (HSY.out _).mono ?_; rintro e w2 ⟨rfl, hb2⟩)
            | (go_at_call 19; refine (HWD.out _).mono ?_; rintro e w3 ⟨A3, c3, rfl, hb3, hs3, hc3, hm3⟩; refine Hid.out ?_))
          refine Lib.hid ?_
          obtain ⟨b3, o3, y0, rfl, hb3', hy0, hcell0⟩ := hs3.at_ (k := 0) (by simp)
          obtain rfl : y0 = w0 := by simpa using hy0.symm
          rw [Nat.add_zero] at hcell0
          obtain ⟨yb, hyb⟩ : ∃ yb : ByteArray, ⟨y0.toArray⟩ = yb := ⟨_, rfl⟩
          rw [hyb] at hcell0
          have HYB := Lib.hid hyb
          clear hyb
          have hB3 : Below w1.heap.size w1 w3 := Below.then_ (Below.then_ HB.out hb2) hb3
          have HB3 := Lib.hid hB3
          have HS3 := Lib.hid hs3
          have hO3 := own_ext (own_ext HO.out hb2) hb3
          have HO3 := Lib.hid hO3
          clear hB3 hs3 hO3 hy0 hb2 hb3
          by_cases hc31 : c3 = 1
          · subst hc31
            have hwt0 : wt = [] := by have h := hc3; simp only [List.length_cons] at h; exact List.eq_nil_of_length_eq_zero (by omega)
            subst hwt0
            have HD0 : Hid (deedO (wdL x) = none) := by show _ = _; rw [HWW.out]; exact deedO_len (ns := []) rfl (by decide)
            have hN : Calls Tryz.prog 20 #[.slice (some ⟨b3, o3, none⟩) 0 0, .int .i64 6] w3 fun e w' => ∃ A1 c1, e = .returned (.tuple #[.slice A1 0 c1, .bool true]) ∧ Below w3.heap.size w3 w' :=
              (r_Numbers_some (ws := []) (ns := []) rfl _ 0 0 w3 (by decide) (fun x hx => by cases hx) Sts.nil).mono fun e w' ⟨A1, c1, h1, h2, _⟩ => ⟨A1, c1, h1, h2⟩
            have HN4 := Lib.hid hN
            clear hN
            go_wp2_with (go_at_call 20; refine HN4.out.mono ?_; rintro e w4 ⟨A4, c4, rfl, hb4⟩; have hc04 := hb4.cell (p := ⟨b3, o3, none⟩) hb3')
            all_goals refine bodyPost_ret (v := .tuple #[.slice none 0 0, .int .i64 ((k : Int) + 1), .int .i64 5]) (by simp [results, Tryz.f7, go_sem]) rfl (retPrs_none (HBAD.out HD0.out) (Below.then_ HB1.out (Below.then_ HB3.out hb4)))
          · have hwt2 : 1 < c3 := by have h := hc3; simp only [List.length_cons] at h; omega
            have hst : Sts w3 w3.heap.size (some ⟨b3, o3 + 1, none⟩) wt.length wt := HS3.out.tail
            cases hno : numsO wt with
            | none =>
              have HD0 : Hid (deedO (wdL x) = none) := by show _ = _; rw [HWW.out]; exact deedO_none hno
              have HN4 := Lib.hid (r_Numbers_none hno (some ⟨b3, o3 + 1, none⟩) wt.length (c3 - 1) w3 (by omega) (fun y hy => HWL.out y (List.mem_cons_of_mem _ hy)) hst)
              clear hno hst
              go_wp2_with (go_at_call 20; refine HN4.out.mono ?_; rintro e w4 ⟨rfl, hb4⟩)
              refine bodyPost_ret (v := .tuple #[.slice none 0 0, .int .i64 ((k : Int) + 1), .int .i64 5]) (by simp [results, Tryz.f7, go_sem]) rfl (retPrs_none (HBAD.out HD0.out) (Below.then_ HB1.out (Below.then_ HB3.out hb4)))
            | some ns =>
              have HN4 := Lib.hid (r_Numbers_some hno (some ⟨b3, o3 + 1, none⟩) wt.length (c3 - 1) w3 (by omega) (fun y hy => HWL.out y (List.mem_cons_of_mem _ hy)) hst)
              by_cases h9 : ns.length = 9
              · by_cases hw0 : y0 = deedW
                · have HDD : Hid (lineO (k + 1, x) = some (mkDeed ns)) := by
                    show deedO (wdL x) = _
                    rw [HWW.out, hw0]
                    exact deedO_some hno h9
                  have hty : yb.toList = [100, 101, 101, 100] := by rw [Lib.toList_data, ← HYB.out, hw0]; rfl
                  rw [h9] at HN4
                  clear hno hst
                  go_wp2_with (go_at_call 20; refine HN4.out.mono ?_; rintro e w4 ⟨A4, c4, rfl, hb4, hr4, hc4, hm4, hob4⟩; have hc04 := hb4.cell (p := ⟨b3, o3, none⟩) hb3'; refine Hid.out ?_)
                  refine Lib.hid ?_
                  obtain ⟨b4, o4, rfl, hb4', hq⟩ := nine_cells h9 (by rw [h9]; exact hr4)
                  have q0 := hq 0 (by decide)
                  have q1 := hq 1 (by decide)
                  have q2 := hq 2 (by decide)
                  have q3 := hq 3 (by decide)
                  have q4 := hq 4 (by decide)
                  have q5 := hq 5 (by decide)
                  have q6 := hq 6 (by decide)
                  have q7 := hq 7 (by decide)
                  have q8 := hq 8 (by decide)
                  rw [Nat.add_zero] at q0
                  have HO4 := Lib.hid (own_ext HO3.out hb4)
                  have HB4 := Lib.hid (Below.then_ HB3.out hb4)
                  have hsz4 : w1.heap.size ≤ w4.heap.size := HB4.out.size
                  obtain ⟨d, hd⟩ : ∃ d, mkDeed ns = d := ⟨_, rfl⟩
                  have e0 : ((ns.getD 0 0 : Nat) : Int) = d.par := by rw [← hd]; rfl
                  have e1 : ((ns.getD 1 0 : Nat) : Int) = d.no := by rw [← hd]; rfl
                  have e2 : ((ns.getD 2 0 : Nat) : Int) = d.kind := by rw [← hd]; rfl
                  have e3 : ((ns.getD 3 0 : Nat) : Int) = d.lock := by rw [← hd]; rfl
                  have e4 : ((ns.getD 4 0 : Nat) : Int) = d.person := by rw [← hd]; rfl
                  have e5 : ((ns.getD 5 0 : Nat) : Int) = d.lo := by rw [← hd]; rfl
                  have e6 : ((ns.getD 6 0 : Nat) : Int) = d.hi := by rw [← hd]; rfl
                  have e7 : ((ns.getD 7 0 : Nat) : Int) = d.known := by rw [← hd]; rfl
                  have e8 : ((ns.getD 8 0 : Nat) : Int) = d.til := by rw [← hd]; rfl
                  rw [e0] at q0
                  rw [e1] at q1
                  rw [e2] at q2
                  rw [e3] at q3
                  rw [e4] at q4
                  rw [e5] at q5
                  rw [e6] at q6
                  rw [e7] at q7
                  rw [e8] at q8
                  rw [hd] at HDD
                  clear e0 e1 e2 e3 e4 e5 e6 e7 e8 hq hd hb4 hr4 h9 hw0
                  go_wp2_with fail
                  have hS0 : SNine b4 o4 d w4.drew := ⟨q0, q1, q2, q3, q4, q5, q6, q7, q8⟩
                  (refine wp_region_sink_lit (S := SNine b4 o4 d) 33 (by kernel_rfl) rfl rfl (by kernel_rfl) (by kernel_rfl) hS0 (fun hS => ?_); simp only [List.take_succ_cons, List.take_zero, List.reduceReplicate, Array.replicate_succ, Array.replicate_zero])
                  (refine wpAnyH_take (i := 0) (v := ?_) rfl (by kernel_rfl) (by kernel_rfl) (by kernel_rfl) (fun _ _ _ h => h) (Or.inl ⟨by rfl, ?_⟩) hS ?_; rotate_left; focus (intro w2 hw2; (try dsimp only at hw2); (try unfold S6 at hw2); (try unfold S9 at hw2); (try unfold SNine at hw2); go_split_ands; go_simp; first | done | with_reducible rfl); (try simp only [Act.put, List.setIfInBounds_toArray, List.set_cons_zero, List.set_cons_succ]))
                  (refine wpAnyH_take (i := 1) (v := ?_) rfl (by kernel_rfl) (by kernel_rfl) (by kernel_rfl) (fun _ _ _ h => h) (Or.inl ⟨by rfl, ?_⟩) hS ?_; rotate_left; focus (intro w2 hw2; (try dsimp only at hw2); (try unfold S6 at hw2); (try unfold S9 at hw2); (try unfold SNine at hw2); go_split_ands; go_simp; first | done | with_reducible rfl); (try simp only [Act.put, List.setIfInBounds_toArray, List.set_cons_zero, List.set_cons_succ]))
                  (refine wpAnyH_take (i := 2) (v := ?_) rfl (by kernel_rfl) (by kernel_rfl) (by kernel_rfl) (fun _ _ _ h => h) (Or.inl ⟨by rfl, ?_⟩) hS ?_; rotate_left; focus (intro w2 hw2; (try dsimp only at hw2); (try unfold S6 at hw2); (try unfold S9 at hw2); (try unfold SNine at hw2); go_split_ands; go_simp; first | done | with_reducible rfl); (try simp only [Act.put, List.setIfInBounds_toArray, List.set_cons_zero, List.set_cons_succ]))
                  (refine wpAnyH_take (i := 3) (v := ?_) rfl (by kernel_rfl) (by kernel_rfl) (by kernel_rfl) (fun _ _ _ h => h) (Or.inl ⟨by rfl, ?_⟩) hS ?_; rotate_left; focus (intro w2 hw2; (try dsimp only at hw2); (try unfold S6 at hw2); (try unfold S9 at hw2); (try unfold SNine at hw2); go_split_ands; go_simp; first | done | with_reducible rfl); (try simp only [Act.put, List.setIfInBounds_toArray, List.set_cons_zero, List.set_cons_succ]))
                  (refine wpAnyH_take (i := 4) (v := ?_) rfl (by kernel_rfl) (by kernel_rfl) (by kernel_rfl) (fun _ _ _ h => h) (Or.inl ⟨by rfl, ?_⟩) hS ?_; rotate_left; focus (intro w2 hw2; (try dsimp only at hw2); (try unfold S6 at hw2); (try unfold S9 at hw2); (try unfold SNine at hw2); go_split_ands; go_simp; first | done | with_reducible rfl); (try simp only [Act.put, List.setIfInBounds_toArray, List.set_cons_zero, List.set_cons_succ]))
                  (refine wpAnyH_take (i := 5) (v := ?_) rfl (by kernel_rfl) (by kernel_rfl) (by kernel_rfl) (fun _ _ _ h => h) (Or.inl ⟨by rfl, ?_⟩) hS ?_; rotate_left; focus (intro w2 hw2; (try dsimp only at hw2); (try unfold S6 at hw2); (try unfold S9 at hw2); (try unfold SNine at hw2); go_split_ands; go_simp; first | done | with_reducible rfl); (try simp only [Act.put, List.setIfInBounds_toArray, List.set_cons_zero, List.set_cons_succ]))
                  (refine wpAnyH_take (i := 6) (v := ?_) rfl (by kernel_rfl) (by kernel_rfl) (by kernel_rfl) (fun _ _ _ h => h) (Or.inl ⟨by rfl, ?_⟩) hS ?_; rotate_left; focus (intro w2 hw2; (try dsimp only at hw2); (try unfold S6 at hw2); (try unfold S9 at hw2); (try unfold SNine at hw2); go_split_ands; go_simp; first | done | with_reducible rfl); (try simp only [Act.put, List.setIfInBounds_toArray, List.set_cons_zero, List.set_cons_succ]))
                  (refine wpAnyH_take (i := 7) (v := ?_) rfl (by kernel_rfl) (by kernel_rfl) (by kernel_rfl) (fun _ _ _ h => h) (Or.inl ⟨by rfl, ?_⟩) hS ?_; rotate_left; focus (intro w2 hw2; (try dsimp only at hw2); (try unfold S6 at hw2); (try unfold S9 at hw2); (try unfold SNine at hw2); go_split_ands; go_simp; first | done | with_reducible rfl); (try simp only [Act.put, List.setIfInBounds_toArray, List.set_cons_zero, List.set_cons_succ]))
                  (refine wpAnyH_take (i := 8) (v := ?_) rfl (by kernel_rfl) (by kernel_rfl) (by kernel_rfl) (fun _ _ _ h => h) (Or.inl ⟨by rfl, ?_⟩) hS ?_; rotate_left; focus (intro w2 hw2; (try dsimp only at hw2); (try unfold S6 at hw2); (try unfold S9 at hw2); (try unfold SNine at hw2); go_split_ands; go_simp; first | done | with_reducible rfl); (try simp only [Act.put, List.setIfInBounds_toArray, List.set_cons_zero, List.set_cons_succ]))
                  (refine wpAnyH_take (i := 9) (v := ?_) rfl (by kernel_rfl) (by kernel_rfl) (by kernel_rfl) (fun _ _ _ h => h) (Or.inl ⟨by rfl, ?_⟩) hS ?_; rotate_left; focus (intro w2 hw2; (try dsimp only at hw2); (try unfold S6 at hw2); (try unfold S9 at hw2); (try unfold SNine at hw2); go_split_ands; go_simp; first | done | with_reducible rfl); (try simp only [Act.put, List.setIfInBounds_toArray, List.set_cons_zero, List.set_cons_succ]))
                  (refine wpAnyH_take (i := 10) (v := ?_) rfl (by kernel_rfl) (by kernel_rfl) (by kernel_rfl) (fun _ _ _ h => h) (Or.inl ⟨by rfl, ?_⟩) hS ?_; rotate_left; focus (intro w2 hw2; (try dsimp only at hw2); (try unfold S6 at hw2); (try unfold S9 at hw2); (try unfold SNine at hw2); go_split_ands; go_simp; first | done | with_reducible rfl); (try simp only [Act.put, List.setIfInBounds_toArray, List.set_cons_zero, List.set_cons_succ]))
                  (refine wpAnyH_take (i := 11) (v := ?_) rfl (by kernel_rfl) (by kernel_rfl) (by kernel_rfl) (fun _ _ _ h => h) (Or.inl ⟨by rfl, ?_⟩) hS ?_; rotate_left; focus (intro w2 hw2; (try dsimp only at hw2); (try unfold S6 at hw2); (try unfold S9 at hw2); (try unfold SNine at hw2); go_split_ands; go_simp; first | done | with_reducible rfl); (try simp only [Act.put, List.setIfInBounds_toArray, List.set_cons_zero, List.set_cons_succ]))
                  (refine wpAnyH_take (i := 12) (v := ?_) rfl (by kernel_rfl) (by kernel_rfl) (by kernel_rfl) (fun _ _ _ h => h) (Or.inl ⟨by rfl, ?_⟩) hS ?_; rotate_left; focus (intro w2 hw2; (try dsimp only at hw2); (try unfold S6 at hw2); (try unfold S9 at hw2); (try unfold SNine at hw2); go_split_ands; go_simp; first | done | with_reducible rfl); (try simp only [Act.put, List.setIfInBounds_toArray, List.set_cons_zero, List.set_cons_succ]))
                  (refine wpAnyH_take (i := 13) (v := ?_) rfl (by kernel_rfl) (by kernel_rfl) (by kernel_rfl) (fun _ _ _ h => h) (Or.inl ⟨by rfl, ?_⟩) hS ?_; rotate_left; focus (intro w2 hw2; (try dsimp only at hw2); (try unfold S6 at hw2); (try unfold S9 at hw2); (try unfold SNine at hw2); go_split_ands; go_simp; first | done | with_reducible rfl); (try simp only [Act.put, List.setIfInBounds_toArray, List.set_cons_zero, List.set_cons_succ]))
                  (refine wpAnyH_take (i := 14) (v := ?_) rfl (by kernel_rfl) (by kernel_rfl) (by kernel_rfl) (fun _ _ _ h => h) (Or.inl ⟨by rfl, ?_⟩) hS ?_; rotate_left; focus (intro w2 hw2; (try dsimp only at hw2); (try unfold S6 at hw2); (try unfold S9 at hw2); (try unfold SNine at hw2); go_split_ands; go_simp; first | done | with_reducible rfl); (try simp only [Act.put, List.setIfInBounds_toArray, List.set_cons_zero, List.set_cons_succ]))
                  (refine wpAnyH_take (i := 15) (v := ?_) rfl (by kernel_rfl) (by kernel_rfl) (by kernel_rfl) (fun _ _ _ h => h) (Or.inl ⟨by rfl, ?_⟩) hS ?_; rotate_left; focus (intro w2 hw2; (try dsimp only at hw2); (try unfold S6 at hw2); (try unfold S9 at hw2); (try unfold SNine at hw2); go_split_ands; go_simp; first | done | with_reducible rfl); (try simp only [Act.put, List.setIfInBounds_toArray, List.set_cons_zero, List.set_cons_succ]))
                  (refine wpAnyH_take (i := 16) (v := ?_) rfl (by kernel_rfl) (by kernel_rfl) (by kernel_rfl) (fun _ _ _ h => h) (Or.inl ⟨by rfl, ?_⟩) hS ?_; rotate_left; focus (intro w2 hw2; (try dsimp only at hw2); (try unfold S6 at hw2); (try unfold S9 at hw2); (try unfold SNine at hw2); go_split_ands; go_simp; first | done | with_reducible rfl); (try simp only [Act.put, List.setIfInBounds_toArray, List.set_cons_zero, List.set_cons_succ]))
                  (refine wpAnyH_take (i := 17) (v := ?_) rfl (by kernel_rfl) (by kernel_rfl) (by kernel_rfl) (fun _ _ _ h => h) (Or.inl ⟨by rfl, ?_⟩) hS ?_; rotate_left; focus (intro w2 hw2; (try dsimp only at hw2); (try unfold S6 at hw2); (try unfold S9 at hw2); (try unfold SNine at hw2); go_split_ands; go_simp; first | done | with_reducible rfl); (try simp only [Act.put, List.setIfInBounds_toArray, List.set_cons_zero, List.set_cons_succ]))
                  (refine wpAnyH_take (i := 18) (v := ?_) rfl (by kernel_rfl) (by kernel_rfl) (by kernel_rfl) (fun _ _ _ h => h) (Or.inl ⟨by rfl, ?_⟩) hS ?_; rotate_left; focus (intro w2 hw2; (try dsimp only at hw2); (try unfold S6 at hw2); (try unfold S9 at hw2); (try unfold SNine at hw2); go_split_ands; go_simp; first | done | with_reducible rfl); (try simp only [Act.put, List.setIfInBounds_toArray, List.set_cons_zero, List.set_cons_succ]))
                  (refine wpAnyH_take (i := 19) (v := ?_) rfl (by kernel_rfl) (by kernel_rfl) (by kernel_rfl) (fun _ _ _ h => h) (Or.inl ⟨by rfl, ?_⟩) hS ?_; rotate_left; focus (intro w2 hw2; (try dsimp only at hw2); (try unfold S6 at hw2); (try unfold S9 at hw2); (try unfold SNine at hw2); go_split_ands; go_simp; first | done | with_reducible rfl); (try simp only [Act.put, List.setIfInBounds_toArray, List.set_cons_zero, List.set_cons_succ]))
                  (refine wpAnyH_take (i := 20) (v := ?_) rfl (by kernel_rfl) (by kernel_rfl) (by kernel_rfl) (fun _ _ _ h => h) (Or.inl ⟨by rfl, ?_⟩) hS ?_; rotate_left; focus (intro w2 hw2; (try dsimp only at hw2); (try unfold S6 at hw2); (try unfold S9 at hw2); (try unfold SNine at hw2); go_split_ands; go_simp; first | done | with_reducible rfl); (try simp only [Act.put, List.setIfInBounds_toArray, List.set_cons_zero, List.set_cons_succ]))
                  (refine wpAnyH_take (i := 21) (v := ?_) rfl (by kernel_rfl) (by kernel_rfl) (by kernel_rfl) (fun _ _ _ h => h) (Or.inl ⟨by rfl, ?_⟩) hS ?_; rotate_left; focus (intro w2 hw2; (try dsimp only at hw2); (try unfold S6 at hw2); (try unfold S9 at hw2); (try unfold SNine at hw2); go_split_ands; go_simp; first | done | with_reducible rfl); (try simp only [Act.put, List.setIfInBounds_toArray, List.set_cons_zero, List.set_cons_succ]))
                  (refine wpAnyH_take (i := 22) (v := ?_) rfl (by kernel_rfl) (by kernel_rfl) (by kernel_rfl) (fun _ _ _ h => h) (Or.inl ⟨by rfl, ?_⟩) hS ?_; rotate_left; focus (intro w2 hw2; (try dsimp only at hw2); (try unfold S6 at hw2); (try unfold S9 at hw2); (try unfold SNine at hw2); go_split_ands; go_simp; first | done | with_reducible rfl); (try simp only [Act.put, List.setIfInBounds_toArray, List.set_cons_zero, List.set_cons_succ]))
                  (refine wpAnyH_take (i := 23) (v := ?_) rfl (by kernel_rfl) (by kernel_rfl) (by kernel_rfl) (fun _ _ _ h => h) (Or.inl ⟨by rfl, ?_⟩) hS ?_; rotate_left; focus (intro w2 hw2; (try dsimp only at hw2); (try unfold S6 at hw2); (try unfold S9 at hw2); (try unfold SNine at hw2); go_split_ands; go_simp; first | done | with_reducible rfl); (try simp only [Act.put, List.setIfInBounds_toArray, List.set_cons_zero, List.set_cons_succ]))
                  (refine wpAnyH_take (i := 24) (v := ?_) rfl (by kernel_rfl) (by kernel_rfl) (by kernel_rfl) (fun _ _ _ h => h) (Or.inl ⟨by rfl, ?_⟩) hS ?_; rotate_left; focus (intro w2 hw2; (try dsimp only at hw2); (try unfold S6 at hw2); (try unfold S9 at hw2); (try unfold SNine at hw2); go_split_ands; go_simp; first | done | with_reducible rfl); (try simp only [Act.put, List.setIfInBounds_toArray, List.set_cons_zero, List.set_cons_succ]))
                  (refine wpAnyH_take (i := 25) (v := ?_) rfl (by kernel_rfl) (by kernel_rfl) (by kernel_rfl) (fun _ _ _ h => h) (Or.inl ⟨by rfl, ?_⟩) hS ?_; rotate_left; focus (intro w2 hw2; (try dsimp only at hw2); (try unfold S6 at hw2); (try unfold S9 at hw2); (try unfold SNine at hw2); go_split_ands; go_simp; first | done | with_reducible rfl); (try simp only [Act.put, List.setIfInBounds_toArray, List.set_cons_zero, List.set_cons_succ]))
                  (refine wpAnyH_take (i := 26) (v := ?_) rfl (by kernel_rfl) (by kernel_rfl) (by kernel_rfl) (fun _ _ _ h => h) (Or.inl ⟨by rfl, ?_⟩) hS ?_; rotate_left; focus (intro w2 hw2; (try dsimp only at hw2); (try unfold S6 at hw2); (try unfold S9 at hw2); (try unfold SNine at hw2); go_split_ands; go_simp; first | done | with_reducible rfl); (try simp only [Act.put, List.setIfInBounds_toArray, List.set_cons_zero, List.set_cons_succ]))
                  (refine wpAnyH_take (i := 27) (v := ?_) rfl (by kernel_rfl) (by kernel_rfl) (by kernel_rfl) (fun _ _ _ h => h) (Or.inl ⟨by rfl, ?_⟩) hS ?_; rotate_left; focus (intro w2 hw2; (try dsimp only at hw2); (try unfold S6 at hw2); (try unfold S9 at hw2); (try unfold SNine at hw2); go_split_ands; go_simp; first | done | with_reducible rfl); (try simp only [Act.put, List.setIfInBounds_toArray, List.set_cons_zero, List.set_cons_succ]))
                  (refine wpAnyH_take (i := 28) (v := ?_) rfl (by kernel_rfl) (by kernel_rfl) (by kernel_rfl) (fun _ _ _ h => h) (Or.inl ⟨by rfl, ?_⟩) hS ?_; rotate_left; focus (intro w2 hw2; (try dsimp only at hw2); (try unfold S6 at hw2); (try unfold S9 at hw2); (try unfold SNine at hw2); go_split_ands; go_simp; first | done | with_reducible rfl); (try simp only [Act.put, List.setIfInBounds_toArray, List.set_cons_zero, List.set_cons_succ]))
                  (refine wpAnyH_take (i := 29) (v := ?_) rfl (by kernel_rfl) (by kernel_rfl) (by kernel_rfl) (fun _ _ _ h => h) (Or.inl ⟨by rfl, ?_⟩) hS ?_; rotate_left; focus (intro w2 hw2; (try dsimp only at hw2); (try unfold S6 at hw2); (try unfold S9 at hw2); (try unfold SNine at hw2); go_split_ands; go_simp; first | done | with_reducible rfl); (try simp only [Act.put, List.setIfInBounds_toArray, List.set_cons_zero, List.set_cons_succ]))
                  (refine wpAnyH_take (i := 30) (v := ?_) rfl (by kernel_rfl) (by kernel_rfl) (by kernel_rfl) (fun _ _ _ h => h) (Or.inl ⟨by rfl, ?_⟩) hS ?_; rotate_left; focus (intro w2 hw2; (try dsimp only at hw2); (try unfold S6 at hw2); (try unfold S9 at hw2); (try unfold SNine at hw2); go_split_ands; go_simp; first | done | with_reducible rfl); (try simp only [Act.put, List.setIfInBounds_toArray, List.set_cons_zero, List.set_cons_succ]))
                  have hne : some b4 ≠ u5.ownBlock := fun e => by
                    obtain ⟨cur, hh⟩ := own_block HO3.out e.symm
                    exact absurd (block_lt hh) (by have := hob4 b4 rfl; omega)
                  have hOA := World.ownsRow.alloc (w := w4.drew) HO4.out (.cells #[.int .i64 d.par, .int .i64 d.no, .int .i64 d.kind, .int .i64 d.lock, .int .i64 d.person, .int .i64 d.lo, .int .i64 d.hi, .int .i64 d.known, .int .i64 d.til] 41)
                  have HOA := Lib.hid hOA
                  clear hOA
                  (refine wpAnyH_ready (rs := [31]) (by kernel_rfl) (by simp) ?_; refine AllReadyH.cons rfl (fun K hK => ?_) AllReadyH.nil; (go_simp); refine hK.out _ _ (hS.ext ((Below.refl _ _).alloc (Nat.le_refl _) _)) (fun hS => ?_); clear hK K; (try simp only [Act.put, List.setIfInBounds_toArray, List.set_cons_zero, List.set_cons_succ]))
                  (refine wpAnyH_ready (rs := [32]) (by kernel_rfl) (by simp) ?_; refine AllReadyH.cons rfl (fun K hK => ?_) AllReadyH.nil; (refine step_appB (by rfl) (.tmp 49) (.tmp 80) 22 (by rfl) (base := w1.heap.size) (B := _) (e := 41) (i := i0) (size := 9) (bytes := 72) Tryz.underlying22 hi hz0 hz1 hz2 rfl (by decide) (by rfl) (by rfl) (n := ds.length) (xs := deedCells ds) HOA.out (m := 1) (news := [.int .i64 d.par, .int .i64 d.no, .int .i64 d.kind, .int .i64 d.lock, .int .i64 d.person, .int .i64 d.lo, .int .i64 d.hi, .int .i64 d.known, .int .i64 d.til]) (Rd.new w4.drew #[.int .i64 d.par, .int .i64 d.no, .int .i64 d.kind, .int .i64 d.lock, .int .i64 d.person, .int .i64 d.lo, .int .i64 d.hi, .int .i64 d.known, .int .i64 d.til] 41 9 1 _ rfl rfl) (deedCells_one [d]) (by unfold maxLen; omega) (by omega) (by simp; omega) ?_; intro v' w5 hown5 hgrow5 hB5); refine hK.out _ _ (hS.kept hgrow5 hne) (fun hS => ?_); clear hK K; (try simp only [Act.put, List.setIfInBounds_toArray, List.set_cons_zero, List.set_cons_succ]))
                  have HB5 := Lib.hid hB5
                  have HO5 := Lib.hid hown5
                  clear hown5 hgrow5 hB5 hne
                  refine wpAnyH_done (by kernel_rfl) ?_ _
                  simp only [sinkQ]
                  go_simp
                  go_wp2_with fail
                  go_roundw
                  case rel =>
                    refine ⟨k + 1, ds ++ [d], by omega, by go_num, by simp; omega, ?_, ?_, ?_⟩
                    · rw [HSP.out]; exact good_in HDD.out HG.out
                    · rw [deedCells_append, List.length_append]
                      exact HO5.out
                    · exact (HB4.out.drew.alloc HB4.out.size _).trans HB5.out
                  case measure => simp [intOf]; omega
                · have HD0 : Hid (deedO (wdL x) = none) := by show _ = _; rw [HWW.out]; exact deedO_word hw0
                  have hty : ¬ yb.toList = [100, 101, 101, 100] := by
                    rw [Lib.toList_data, ← HYB.out]
                    exact hw0
                  rw [h9] at HN4
                  clear hno hst hw0
                  go_wp2_with (go_at_call 20; refine HN4.out.mono ?_; rintro e w4 ⟨A4, c4, rfl, hb4, _, _, _, _⟩; have hc04 := hb4.cell (p := ⟨b3, o3, none⟩) hb3')
                  all_goals refine bodyPost_ret (v := .tuple #[.slice none 0 0, .int .i64 ((k : Int) + 1), .int .i64 5]) (by simp [results, Tryz.f7, go_sem]) rfl (retPrs_none (HBAD.out HD0.out) (Below.then_ HB1.out (Below.then_ HB3.out hb4)))
              · have HD0 : Hid (deedO (wdL x) = none) := by show _ = _; rw [HWW.out]; exact deedO_len hno h9
                obtain ⟨m, hm⟩ : ∃ m, ns.length = m := ⟨_, rfl⟩
                rw [hm] at HN4 h9
                have hi9 : ¬ (m : Int) = 9 := by omega
                clear hno hst hm h9
                go_wp2_with (go_at_call 20; refine HN4.out.mono ?_; rintro e w4 ⟨A4, c4, rfl, hb4, _, _, _, _⟩; have hc04 := hb4.cell (p := ⟨b3, o3, none⟩) hb3')
                all_goals refine bodyPost_ret (v := .tuple #[.slice none 0 0, .int .i64 ((k : Int) + 1), .int .i64 5]) (by simp [results, Tryz.f7, go_sem]) rfl (retPrs_none (HBAD.out HD0.out) (Below.then_ HB1.out (Below.then_ HB3.out hb4)))
      · have hkn : k = n := by omega
        have HT : Hid (ls.take k = ls) := by show _ = _; exact List.take_of_length_le (by have := HN.out; omega)
        have HE : Hid (parsE t.data.toList = errI (checkB ds) 11 ∧ parsN t.data.toList = 0 ∧ parsL t.data.toList = if checkB ds = true then ds else []) := by
          show _ ∧ _
          refine pars_end ?_ h8'
          rw [← HS.out, ← HT.out]
          exact HG.out
        have hlen8 : ds.length ≤ 8001 := by omega
        obtain ⟨A6, c6, hv, hcc⟩ := own_slice hown
        subst hv
        have hr := Rd.of_own hown
        have hck := r_check ds A6 ds.length c6 wr (by omega) hr
        have HR := Lib.hid hr
        obtain ⟨m, hm⟩ : ∃ m, ds.length = m := ⟨_, rfl⟩
        rw [hm] at hck
        have HMM := Lib.hid hm
        clear hr
        cases hkb : checkB ds with
        | true =>
          rw [hkb] at hck HE
          have HCK := Lib.hid hck
          clear hck hm hkn
          simp only [HMM.out]
          go_wp2_with (go_at_call 14; refine HCK.out.mono ?_; rintro e w7 ⟨rfl, hb7⟩)
          refine bodyPost_ret (v := .tuple #[.slice A6 m c6, .int .i64 0, .int .i64 0]) (by simp [results, Tryz.f7, go_sem]) rfl ?_
          obtain ⟨h1, h2, h3⟩ := HE.out
          refine ⟨A6, c6, ?_, Below.then_ HB1.out (Below.then_ HB.out hb7), ?_, ?_, hcc.2⟩
          · have h3' : parsL t.data.toList = ds := by simpa using h3
            rw [h1, h2, h3', HMM.out]; rfl
          · have h3' : parsL t.data.toList = ds := by simpa using h3
            rw [h3']; exact Ds.now HR.out hb7
          · have h3' : parsL t.data.toList = ds := by simpa using h3
            rw [h3']; exact hcc.1
        | false =>
          rw [hkb] at hck HE
          have HCK := Lib.hid hck
          clear hck hm hkn
          simp only [HMM.out]
          go_wp2_with (go_at_call 14; refine HCK.out.mono ?_; rintro e w7 ⟨rfl, hb7⟩)
          refine bodyPost_ret (v := .tuple #[.slice none 0 0, .int .i64 0, .int .i64 11]) (by simp [results, Tryz.f7, go_sem, errI]) rfl ?_
          obtain ⟨h1, h2, h3⟩ := HE.out
          exact retPrs_none ⟨by rw [h1]; rfl, h2, by simpa using h3⟩ (Below.then_ HB1.out (Below.then_ HB.out hb7))

end Go.Proofs.YtikioiblaoimkaaGreatDoor
