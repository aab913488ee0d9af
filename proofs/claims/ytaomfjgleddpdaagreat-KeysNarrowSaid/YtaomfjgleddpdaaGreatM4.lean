import Derived.Test.YtaomfjgleddpdaaGreatM2
import Derived.Test.YtaomfjgleddpdaaGreatB8
set_option linter.unusedVariables false
set_option linter.unusedSimpArgs false

/- The reference's Join. -/
namespace Go.Proofs.YtaomfjgleddpdaaGreat
open Go.RowKit
attribute [local go_sem] Oper.semAt_some

set_option maxRecDepth 100000 in
set_option maxHeartbeats 4000000 in
theorem r_Join (ds ms : List Deed) (A B : Option Addr) (n c m d : Nat) (w : World) (hn : n ≤ 9223372036854775807) (hm : m ≤ 9223372036854775807) (hd : Ds w w.heap.size A n ds) (he : Ds w w.heap.size B m ms) :
    Calls Tryz.prog 25 #[.slice A n c, .slice B m d] w (RetJ (joinD ds ms) (joinE ds ms) w) := by
  obtain ⟨i0, hi, hz0, hz1, hz2⟩ := info_parts infoDeed
  have HX := Lib.hid hd
  have HY := Lib.hid he
  have HLX := Lib.hid hd.len
  have HLY := Lib.hid he.len
  clear hd he
  cases hck : checkB ds with
  | false =>
    have HE : Hid (joinE ds ms = 11) := by show _ = _; rw [joinE, hck]; rfl
    have HR : Hid (joinD ds ms = []) := by show _ = _; rw [joinD, hck]; rfl
    have HB := Lib.hid hck
    clear hck
    go_enter Tryz.func25, Tryz.ntmps25
    go_wp2_with fail
    refine (r_check_v ds 11 _ _ _ _ hn HX.out (by rw [HB.out]; rfl)).mono ?_
    rintro e w1 ⟨rfl, hb1⟩
    go_wp2_with fail
    go_ret2
    rw [HE.out, HR.out]
    exact ⟨none, 0, rfl, hb1, Rd.nil_, Nat.le_refl _⟩
  | true =>
    have HE : Hid (joinE ds ms = (joinL ds ms).1) := by show _ = _; rw [joinE, hck]; rfl
    have HR : Hid (joinD ds ms = (joinL ds ms).2) := by show _ = _; rw [joinD, hck]; rfl
    have H60 := Lib.hid (check_60 hck)
    have h60 : n ≤ 60 := by have := H60.out; have := HLX.out; omega
    have HOK := Lib.hid (checkB_ok hck)
    have HSD := Lib.hid (checkB_sd hck)
    have HB := Lib.hid hck
    clear hck
    go_enter Tryz.func25, Tryz.ntmps25
    go_wp2_with fail
    refine (r_check_v ds 0 _ _ _ _ hn HX.out (by rw [HB.out]; rfl)).mono ?_
    rintro e w1 ⟨rfl, hb1⟩
    have hs1 := hb1.size
    have HB1 := Lib.hid hb1
    have HD1 := Lib.hid (HX.out.ext hb1 (Nat.le_refl _))
    clear hb1
    go_wp2_with (at_builtin; refine wpList_app rfl (.tmp 16) (.tmp 17) 22 rfl (base := w.heap.size) (B := w.heap.size) (e := 28) (i := i0) (size := 9) (bytes := 72) Tryz.underlying22 hi hz0 hz1 hz2 rfl (by decide) rfl rfl (n := 0) (xs := []) (own_emptyB w1 28 9 w.heap.size hs1) (m := n) (news := deedCells ds) (HD1.out.alloc hs1 _) (deedCells_one _) (by unfold maxLen; omega) (by omega) (by simp; omega) ?_; intro v2 w2 hown2 hgrow2 hb2)
    have HB2 := Lib.hid (Below.trans (HB1.out.alloc hs1 _) hb2)
    have hs2 := HB2.out.size
    simp only [Nat.zero_add, List.nil_append] at hown2
    obtain ⟨A2, c2, rfl, hc2, _⟩ := own_slice hown2
    have HO2 : Hid (Ds w2 w2.heap.size A2 n ds) := Rd.of_own hown2
    clear hown2 hgrow2 hb2
    go_wp2_with fail
    go_loopw [7, 21] (fun v i wr => ∃ (k : Nat) (L : List Deed) (A0 : Option Addr) (c0 : Nat), k ≤ m ∧ i = .int .i64 k ∧ v = .slice A0 L.length c0 ∧ L.length ≤ c0 ∧ Ds wr wr.heap.size A0 L.length (srtD L) ∧ KN L ∧ (∀ d ∈ L, d.okB = true) ∧ joinL L (ms.drop k) = joinL ds ms ∧ Below w.heap.size w wr) (fun _ i _ => m - (intOf i).toNat)
    case atStart => exact ⟨0, ds, A2, c2, by omega, rfl, by rw [HLX.out], by rw [HLX.out]; omega, by rw [HLX.out, srt_self HSD.out]; simpa using HO2.out, HSD.out.kn, HOK.out, rfl, HB2.out⟩
    case round =>
      obtain ⟨k, L, A0, c0, hk, rfl, rfl, hc0, hds, hkn, hok, hjl, hB⟩ := hrel
      have hsr : w.heap.size ≤ wr.heap.size := hB.size
      have hLn := kn_len hkn hok
      have HDS := Lib.hid hds
      have HKN := Lib.hid hkn
      have HOL := Lib.hid hok
      have HJ := Lib.hid hjl
      have HBR := Lib.hid hB
      clear hds hkn hok hjl hB
      by_cases hlt : k < m
      · obtain ⟨b, o, x, rfl, hb, hxk, hat⟩ := (HY.out.ext HBR.out (Nat.le_refl _)).at_ hlt
        have HK := Lib.hid hxk
        have HDC := Lib.hid (drop_cons hxk)
        obtain ⟨a0, a1, a2, a3, a4, a5, a6, a7, a8⟩ := hat
        clear hxk
        cases hok : x.okB with
        | false =>
          have HO := Lib.hid hok
          have HJ2 : Hid (joinL ds ms = (10, [])) := by show _ = _; rw [← HJ.out, HDC.out, joinL, HO.out]; rfl
          clear hok
          go_wp2_with fail
          refine (r_checkDeed_no x _ (by rw [HO.out]; simp)).mono ?_
          rintro e w3 ⟨rfl, hb3⟩
          go_wp2_with fail
          go_ret2
          rw [HE.out, HR.out, HJ2.out]
          exact ⟨none, 0, rfl, Below.then_ (HBR.out.alloc hsr _) hb3, Rd.nil_, Nat.le_refl _⟩
        | true =>
          have HO := Lib.hid hok
          clear hok
          go_wp2_with fail
          refine (r_checkDeed_ok x _ HO.out).mono ?_
          rintro e w3 ⟨rfl, hb3⟩
          have HB3 := Lib.hid (Below.then_ (HBR.out.alloc hsr (.cells #[.int .i64 x.par, .int .i64 x.no, .int .i64 x.kind, .int .i64 x.lock, .int .i64 x.person, .int .i64 x.lo, .int .i64 x.hi, .int .i64 x.known, .int .i64 x.til] 28)) hb3)
          have HDS3 := Lib.hid ((HDS.out.alloc (Nat.le_refl _) (.cells #[.int .i64 x.par, .int .i64 x.no, .int .i64 x.kind, .int .i64 x.lock, .int .i64 x.person, .int .i64 x.lo, .int .i64 x.hi, .int .i64 x.known, .int .i64 x.til] 28)).ext hb3 (by simp))
          have HBX := Lib.hid ((BoxA.new wr 28 #[.int .i64 x.par, .int .i64 x.no, .int .i64 x.kind, .int .i64 x.lock, .int .i64 x.person, .int .i64 x.lo, .int .i64 x.hi, .int .i64 x.known, .int .i64 x.til]).ext hb3)
          have hs3 : wr.heap.size < w3.heap.size := HBX.out.lt
          obtain ⟨wo, rfl⟩ : ∃ wo : World, wo = wr := ⟨_, rfl⟩
          clear a0 a1 a2 a3 a4 a5 a6 a7 a8 hb3
          clear HBR HDS
          go_wp2_with fail
          go_loopw [10] (fun i w4 => ∃ j : Nat, j ≤ L.length ∧ i = .int .i64 j ∧ (∀ (i : Nat) (a : Deed), i < j → (srtD L)[i]? = some a → bef a x = true) ∧ Below w3.heap.size w3 w4) (fun i _ => L.length - (intOf i).toNat)
          case atStart => exact ⟨0, by omega, rfl, fun i a h => absurd h (by omega), Below.refl _ _⟩
          case round =>
            obtain ⟨j, hj, rfl, hbe, hB4⟩ := hrel
            have HBE := Lib.hid hbe
            have HB4 := Lib.hid hB4
            have hs4 := hB4.size
            have x0 : wr.cell? ⟨wo.heap.size, 0, none⟩ = some (.int .i64 x.par) := (HBX.out.ext hB4).cell 0
            have x1 : wr.cell? ⟨wo.heap.size, 1, none⟩ = some (.int .i64 x.no) := (HBX.out.ext hB4).cell 1
            clear hbe hB4
            by_cases hlt2 : j < L.length
            · obtain ⟨b', o', y, rfl, hb', hyk, hat'⟩ := (HDS3.out.ext HB4.out (by omega)).at_ hlt2
              obtain ⟨y0, y1, _, _, _, _, _, _, _⟩ := hat'
              have HYK := Lib.hid hyk
              clear hyk
              have hq : decide ((j : Int) < (L.length : Int)) = true := by simp; omega
              have hq1 : (j : Int) < (L.length : Int) := by omega
              have hq2 : ¬ ((j : Int) < 0) := by omega
              have hbl : b' < wr.heap.size := by omega
              have hxl : wo.heap.size < wr.heap.size := by omega
              cases hbf : bef y x with
              | true =>
                have HBF : Hid (beforeB y.par y.no x.par x.no = true) := hbf
                have HBQ := Lib.hid hbf
                clear hbf
                go_wp2_with fail
                (refine wp_region_grow (by kernel_rfl) (by kernel_rfl) ?_; (repeat (go_big_quiet_step ((first | (go_at_call 79; exact Calls.grow_of (r_before_v _ _ _ _ true _ HBF.out)))))); refine wpQuiet_nil ?_; rintro w1 ⟨⟨_, hb1⟩, rfl⟩; (try dsimp only at hb1 ⊢); obtain ⟨hc1, hf1⟩ := bcell hb1)
                go_wp2_with fail
                go_roundw
                case rel => exact ⟨j + 1, by omega, by go_num, fun i a h1 h2 => by
                  rcases Nat.lt_or_ge i j with h3 | h3
                  · exact HBE.out i a h3 h2
                  · obtain rfl : i = j := by omega
                    rw [HYK.out] at h2
                    cases h2
                    exact HBQ.out, Below.then_ HB4.out hb1⟩
                case measure => simp [intOf]; omega
              | false =>
                have HBF : Hid (beforeB y.par y.no x.par x.no = false) := hbf
                have HBQ := Lib.hid hbf
                clear hbf
                go_wp2_with fail
                (refine wp_region_grow (by kernel_rfl) (by kernel_rfl) ?_; (repeat (go_big_quiet_step ((first | (go_at_call 79; exact Calls.grow_of (r_before_v _ _ _ _ false _ HBF.out)))))); refine wpQuiet_nil ?_; rintro w1 ⟨⟨_, hb1⟩, rfl⟩; (try dsimp only at hb1 ⊢); obtain ⟨hc1, hf1⟩ := bcell hb1)
                go_wp2_with fail
                have HB5 := Lib.hid (Below.then_ HB4.out hb1)
                clear hc1 hf1 x0 x1 y0 y1
                have x0 : w1.cell? ⟨wo.heap.size, 0, none⟩ = some (.int .i64 x.par) := (HBX.out.ext HB5.out).cell 0
                have x1 : w1.cell? ⟨wo.heap.size, 1, none⟩ = some (.int .i64 x.no) := (HBX.out.ext HB5.out).cell 1
                obtain ⟨b2, o2, y2, e2, _, h2, hat2⟩ := (HDS3.out.ext HB5.out (by omega)).at_ hlt2
                obtain ⟨rfl, rfl⟩ : b' = b2 ∧ o' = o2 := by simpa using e2
                obtain rfl : y = y2 := by rw [HYK.out] at h2; cases h2; rfl
                clear e2 h2
                obtain ⟨y0, y1, _, _, _, _, _, _, _⟩ := hat2
                have hs5 := HB5.out.size
                have hbl : b' < w1.heap.size := by omega
                have hxl : wo.heap.size < w1.heap.size := by omega
                skip
                by_cases hkk : y.par = x.par ∧ y.no = x.no
                · obtain ⟨p1, p2⟩ := hkk
                  have HFF := Lib.hid (find_here HKN.out HYK.out (x := x) (by simp [kOf, p1, p2]))
                  rw [p1] at y0
                  rw [p2] at y1
                  (refine wp_region_grow (by kernel_rfl) (by kernel_rfl) ?_; (repeat (go_big_quiet_step ((first | fail)))); refine wpQuiet_nil ?_; rintro w1 ⟨⟨_, hb1⟩, rfl⟩; (try dsimp only at hb1 ⊢); obtain ⟨hc1, hf1⟩ := bcell hb1)
                  go_wp2_with fail
                  have HB6 := Lib.hid (Below.then_ HB5.out hb1)
                  have hs6 := HB6.out.size
                  clear hc1 hf1 x0 x1 y0 y1 hbl hxl hs5
                  have hbl : b' < w1.heap.size := by omega
                  have hxl : wo.heap.size < w1.heap.size := by omega
                  have x0 : w1.cell? ⟨wo.heap.size, 0, none⟩ = some (.int .i64 x.par) := (HBX.out.ext HB6.out).cell 0
                  have x1 : w1.cell? ⟨wo.heap.size, 1, none⟩ = some (.int .i64 x.no) := (HBX.out.ext HB6.out).cell 1
                  have x2 : w1.cell? ⟨wo.heap.size, 2, none⟩ = some (.int .i64 x.kind) := (HBX.out.ext HB6.out).cell 2
                  have x3 : w1.cell? ⟨wo.heap.size, 3, none⟩ = some (.int .i64 x.lock) := (HBX.out.ext HB6.out).cell 3
                  have x4 : w1.cell? ⟨wo.heap.size, 4, none⟩ = some (.int .i64 x.person) := (HBX.out.ext HB6.out).cell 4
                  have x5 : w1.cell? ⟨wo.heap.size, 5, none⟩ = some (.int .i64 x.lo) := (HBX.out.ext HB6.out).cell 5
                  have x6 : w1.cell? ⟨wo.heap.size, 6, none⟩ = some (.int .i64 x.hi) := (HBX.out.ext HB6.out).cell 6
                  have x7 : w1.cell? ⟨wo.heap.size, 7, none⟩ = some (.int .i64 x.known) := (HBX.out.ext HB6.out).cell 7
                  have x8 : w1.cell? ⟨wo.heap.size, 8, none⟩ = some (.int .i64 x.til) := (HBX.out.ext HB6.out).cell 8
                  obtain ⟨b2, o2, y2, e2, _, h2, hat2⟩ := (HDS3.out.ext HB6.out (by omega)).at_ hlt2
                  obtain ⟨rfl, rfl⟩ : b' = b2 ∧ o' = o2 := by simpa using e2
                  obtain rfl : y = y2 := by rw [HYK.out] at h2; cases h2; rfl
                  clear e2 h2
                  obtain ⟨y0, y1, y2, y3, y4, y5, y6, y7, y8⟩ := hat2
                  by_cases hyx : y = x
                  · subst hyx
                    (refine wp_region_grow (by kernel_rfl) (by kernel_rfl) ?_; (repeat (go_big_quiet_step ((first | fail)))); refine wpQuiet_nil ?_; rintro w1 ⟨⟨_, hb1⟩, rfl⟩; (try dsimp only at hb1 ⊢); obtain ⟨hc1, hf1⟩ := bcell hb1)
                    have HBZ := Lib.hid (Below.then_ HB6.out hb1)
                    go_wp2_with fail
                    go_roundw
                    case rel => exact ⟨k + 1, L, some ⟨b', o', none⟩, c0, by omega, by go_num, rfl, hc0, Rd.more (HDS3.out.ext HBZ.out (by omega)) (by have := HBZ.out.size; omega), HKN.out, HOL.out, by rw [← HJ.out, HDC.out, joinL, HO.out, HFF.out]; simp, Below.then_ HB3.out HBZ.out⟩
                    case measure => simp [intOf]; omega
                  · have HYX := Lib.hid hyx
                    have HJ2 : Hid (joinL ds ms = (12, [])) := by show _ = _; rw [← HJ.out, HDC.out, joinL, HO.out, HFF.out]; simp [HYX.out]
                    rcases deed_ne hyx with hq5 | hq5 | hq5 | hq5 | hq5 | hq5 | hq5 | hq5 | hq5
                    · exact absurd p1 hq5
                    · exact absurd p2 hq5
                    all_goals
                      clear hyx
                      (refine wp_region_grow (by kernel_rfl) (by kernel_rfl) ?_; (repeat (go_big_quiet_step ((first | fail)))); refine wpQuiet_nil ?_; rintro w1 ⟨⟨_, hb1⟩, rfl⟩; (try dsimp only at hb1 ⊢); obtain ⟨hc1, hf1⟩ := bcell hb1)
                      go_wp2_with fail
                      go_ret2
                      rw [HE.out, HR.out, HJ2.out]
                      exact ⟨none, 0, rfl, Below.then_ HB3.out (Below.then_ HB6.out hb1), Rd.nil_, Nat.le_refl _⟩
                · have HF := Lib.hid (find_gone HKN.out HBE.out (x := x) fun a ha => by
                    rw [HYK.out] at ha
                    cases ha
                    exact ⟨HBQ.out, fun e => hkk (by simpa [kOf] using e)⟩)
                  have HSRT : Hid (deedCells (srtD (L ++ [x])) = [] ++ deedCells ((srtD L).take j) ++ [.int .i64 x.par, .int .i64 x.no, .int .i64 x.kind, .int .i64 x.lock, .int .i64 x.person, .int .i64 x.lo, .int .i64 x.hi, .int .i64 x.known, .int .i64 x.til] ++ deedCells ((srtD L).drop j)) := by
                    show _ = _
                    rw [srt_snoc HKN.out HF.out, insD_at HBE.out (fun a ha => by rw [HYK.out] at ha; cases ha; exact HBQ.out), deedCells_append, deedCells_cons]
                    simp
                  rcases Classical.not_and_iff_not_or_not.1 hkk with hq4 | hq4
                  all_goals
                    clear hkk
                    (refine wp_region_grow (by kernel_rfl) (by kernel_rfl) ?_; (repeat (go_big_quiet_step ((first | fail)))); refine wpQuiet_nil ?_; rintro w1 ⟨⟨_, hb1⟩, rfl⟩; (try dsimp only at hb1 ⊢); obtain ⟨hc1, hf1⟩ := bcell hb1)
                    go_wp2_with fail
                    obtain ⟨wi, rfl⟩ : ∃ wi : World, wi = w1 := ⟨_, rfl⟩
                    have HB6 := Lib.hid (Below.then_ HB5.out hb1)
                    have hs6 := HB6.out.size
                    clear hc1 hf1 hb1 x0 x1 y0 y1
                    have hwo : wo.heap.size < wi.heap.size := by omega
                    have x0 : wi.cell? ⟨wo.heap.size, 0, none⟩ = some (.int .i64 x.par) := (HBX.out.ext HB6.out).cell 0
                    have x1 : wi.cell? ⟨wo.heap.size, 1, none⟩ = some (.int .i64 x.no) := (HBX.out.ext HB6.out).cell 1
                    have x2 : wi.cell? ⟨wo.heap.size, 2, none⟩ = some (.int .i64 x.kind) := (HBX.out.ext HB6.out).cell 2
                    have x3 : wi.cell? ⟨wo.heap.size, 3, none⟩ = some (.int .i64 x.lock) := (HBX.out.ext HB6.out).cell 3
                    have x4 : wi.cell? ⟨wo.heap.size, 4, none⟩ = some (.int .i64 x.person) := (HBX.out.ext HB6.out).cell 4
                    have x5 : wi.cell? ⟨wo.heap.size, 5, none⟩ = some (.int .i64 x.lo) := (HBX.out.ext HB6.out).cell 5
                    have x6 : wi.cell? ⟨wo.heap.size, 6, none⟩ = some (.int .i64 x.hi) := (HBX.out.ext HB6.out).cell 6
                    have x7 : wi.cell? ⟨wo.heap.size, 7, none⟩ = some (.int .i64 x.known) := (HBX.out.ext HB6.out).cell 7
                    have x8 : wi.cell? ⟨wo.heap.size, 8, none⟩ = some (.int .i64 x.til) := (HBX.out.ext HB6.out).cell 8
                    have HBi := Lib.hid (Below.then_ HB3.out HB6.out)
                    have HDW := Lib.hid (Rd.more (HDS3.out.ext HB6.out (by omega)) (show wo.heap.size ≤ wi.heap.size by omega))
                    have HTK : Hid (Rd wi wi.heap.size 9 (some ⟨b', o', none⟩) j (deedCells ((srtD L).take j))) := Ds.take HDW.out hj
                    have HTD : Hid (Rd wi wi.heap.size 9 (some ⟨b', o' + j * 9, none⟩) (L.length - j) (deedCells ((srtD L).drop j))) := Ds.drop HDW.out hj
                    have h4 : (j : Int) ≤ (c0 : Int) := by omega
                    have h5 : (j : Int) ≤ (L.length : Int) := by omega
                    have h6 : ¬ c0 = j := by omega
                    have KS : ∀ w' : World, Below wi.heap.size wi w' → (w'.cell? ⟨wo.heap.size, 0, none⟩ = some (.int .i64 x.par) ∧ w'.cell? ⟨wo.heap.size, 1, none⟩ = some (.int .i64 x.no) ∧ w'.cell? ⟨wo.heap.size, 2, none⟩ = some (.int .i64 x.kind) ∧ w'.cell? ⟨wo.heap.size, 3, none⟩ = some (.int .i64 x.lock) ∧ w'.cell? ⟨wo.heap.size, 4, none⟩ = some (.int .i64 x.person) ∧ w'.cell? ⟨wo.heap.size, 5, none⟩ = some (.int .i64 x.lo) ∧ w'.cell? ⟨wo.heap.size, 6, none⟩ = some (.int .i64 x.hi) ∧ w'.cell? ⟨wo.heap.size, 7, none⟩ = some (.int .i64 x.known) ∧ w'.cell? ⟨wo.heap.size, 8, none⟩ = some (.int .i64 x.til) ∧ Below wi.heap.size wi w') := fun w' h => ⟨(h.cell (p := ⟨wo.heap.size, 0, none⟩) hwo).trans x0, (h.cell (p := ⟨wo.heap.size, 1, none⟩) hwo).trans x1, (h.cell (p := ⟨wo.heap.size, 2, none⟩) hwo).trans x2, (h.cell (p := ⟨wo.heap.size, 3, none⟩) hwo).trans x3, (h.cell (p := ⟨wo.heap.size, 4, none⟩) hwo).trans x4, (h.cell (p := ⟨wo.heap.size, 5, none⟩) hwo).trans x5, (h.cell (p := ⟨wo.heap.size, 6, none⟩) hwo).trans x6, (h.cell (p := ⟨wo.heap.size, 7, none⟩) hwo).trans x7, (h.cell (p := ⟨wo.heap.size, 8, none⟩) hwo).trans x8, h⟩
                    go_region_held3 (fun w' => w'.cell? ⟨wo.heap.size, 0, none⟩ = some (.int .i64 x.par) ∧ w'.cell? ⟨wo.heap.size, 1, none⟩ = some (.int .i64 x.no) ∧ w'.cell? ⟨wo.heap.size, 2, none⟩ = some (.int .i64 x.kind) ∧ w'.cell? ⟨wo.heap.size, 3, none⟩ = some (.int .i64 x.lock) ∧ w'.cell? ⟨wo.heap.size, 4, none⟩ = some (.int .i64 x.person) ∧ w'.cell? ⟨wo.heap.size, 5, none⟩ = some (.int .i64 x.lo) ∧ w'.cell? ⟨wo.heap.size, 6, none⟩ = some (.int .i64 x.hi) ∧ w'.cell? ⟨wo.heap.size, 7, none⟩ = some (.int .i64 x.known) ∧ w'.cell? ⟨wo.heap.size, 8, none⟩ = some (.int .i64 x.til) ∧ Below wi.heap.size wi w') (exact KS _ (by ((repeat' (first | with_reducible exact Below.refl _ _ | with_reducible assumption | with_reducible refine Below.alloc ?_ ?_ _ | with_reducible refine Below.setCell ?_ ?_ _ | with_reducible refine Below.drew ?_ | (simp; done) | (simp; omega) | omega)); done)))
                      (first
                        | (refine step_appB (by rfl) (.tmp 64) (.tmp 67) 22 (by rfl) (base := wi.heap.size) (B := wi.heap.size) (e := 28) (i := i0) (size := 9) (bytes := 72) Tryz.underlying22 hi hz0 hz1 hz2 rfl (by decide) (by rfl) (by rfl) (n := 0) (xs := []) (by first | exact own_emptyB wi 28 9 wi.heap.size (Nat.le_refl _) | exact (own_emptyB wi 28 9 wi.heap.size (Nat.le_refl _)).alloc (.cells #[.int .i64 x.par, .int .i64 x.no, .int .i64 x.kind, .int .i64 x.lock, .int .i64 x.person, .int .i64 x.lo, .int .i64 x.hi, .int .i64 x.known, .int .i64 x.til] 28) | (have h := own_emptyB (wi.alloc (.cells #[.int .i64 x.par, .int .i64 x.no, .int .i64 x.kind, .int .i64 x.lock, .int .i64 x.person, .int .i64 x.lo, .int .i64 x.hi, .int .i64 x.known, .int .i64 x.til] 28)) 28 9 wi.heap.size (by simp); simp only [World.size_alloc] at h; exact h)) (m := j) (news := deedCells ((srtD L).take j)) (HTK.out.below (by (repeat' (first | with_reducible exact Below.refl _ _ | with_reducible assumption | with_reducible refine Below.alloc ?_ ?_ _ | with_reducible refine Below.setCell ?_ ?_ _ | with_reducible refine Below.drew ?_ | (simp; done) | (simp; omega) | omega)))) (deedCells_one _) (by unfold maxLen; omega) (by omega) (by first | omega | (simp; done) | (simp; omega)) ?_; intro v1 w5 hown1 hgrow1 hB1; have hC1 : Below wi.heap.size wi w5 := Below.trans (by first | ((repeat' (first | with_reducible exact Below.refl _ _ | with_reducible assumption | with_reducible refine Below.alloc ?_ ?_ _ | with_reducible refine Below.setCell ?_ ?_ _ | with_reducible refine Below.drew ?_ | (simp; done) | (simp; omega) | omega)); done) | exact (by assumption : _ ∧ _).2) hB1; have hsz1 := hC1.size; (first | (have HN1 : Hid (Rd w5 w5.heap.size 9 (some ⟨wi.heap.size + 1, 0, none⟩) 1 [.int .i64 x.par, .int .i64 x.no, .int .i64 x.kind, .int .i64 x.lock, .int .i64 x.person, .int .i64 x.lo, .int .i64 x.hi, .int .i64 x.known, .int .i64 x.til]) := Rd.kept (w := ((wi.alloc (.cells #[] 28)).alloc (.cells #[.int .i64 x.par, .int .i64 x.no, .int .i64 x.kind, .int .i64 x.lock, .int .i64 x.person, .int .i64 x.lo, .int .i64 x.hi, .int .i64 x.known, .int .i64 x.til] 28)).drew) (by have h := Rd.new (wi.alloc (.cells #[] 28)) #[.int .i64 x.par, .int .i64 x.no, .int .i64 x.kind, .int .i64 x.lock, .int .i64 x.person, .int .i64 x.lo, .int .i64 x.hi, .int .i64 x.known, .int .i64 x.til] 28 9 1 _ rfl rfl; simp only [World.size_alloc] at h; exact h) hgrow1 (by first | omega | (simp; done) | (simp; omega)) (fun e => by have h := Option.some.inj (show some _ = some _ from e); simp at h)) | (have HN1 : Hid (Rd w5 w5.heap.size 9 (some ⟨wi.heap.size, 0, none⟩) 1 [.int .i64 x.par, .int .i64 x.no, .int .i64 x.kind, .int .i64 x.lock, .int .i64 x.person, .int .i64 x.lo, .int .i64 x.hi, .int .i64 x.known, .int .i64 x.til]) := Rd.kept (w := ((wi.alloc (.cells #[.int .i64 x.par, .int .i64 x.no, .int .i64 x.kind, .int .i64 x.lock, .int .i64 x.person, .int .i64 x.lo, .int .i64 x.hi, .int .i64 x.known, .int .i64 x.til] 28)).alloc (.cells #[] 28)).drew) (by have h := (Rd.new wi #[.int .i64 x.par, .int .i64 x.no, .int .i64 x.kind, .int .i64 x.lock, .int .i64 x.person, .int .i64 x.lo, .int .i64 x.hi, .int .i64 x.known, .int .i64 x.til] 28 9 1 _ rfl rfl).alloc (Nat.le_refl _) (.cells #[] 28); exact h) hgrow1 (by first | omega | (simp; done) | (simp; omega)) (fun e => by have h := Option.some.inj (show some _ = some _ from e); simp at h)) | skip))
                        | (refine step_appB (by rfl) (.tmp 68) (.tmp 70) 22 (by rfl) (base := wi.heap.size) (B := _) (e := 28) (i := i0) (size := 9) (bytes := 72) Tryz.underlying22 hi hz0 hz1 hz2 rfl (by decide) (by rfl) (by rfl) (n := 0 + j) (xs := [] ++ deedCells ((srtD L).take j)) (by first | exact hown1 | exact hown1.alloc _ | exact hown1.drew | exact (hown1.drew).alloc _ | exact (hown1.alloc _).drew) (m := 1) (news := [.int .i64 x.par, .int .i64 x.no, .int .i64 x.kind, .int .i64 x.lock, .int .i64 x.person, .int .i64 x.lo, .int .i64 x.hi, .int .i64 x.known, .int .i64 x.til]) (by first | exact HN1.out | exact Rd.new w5 #[.int .i64 x.par, .int .i64 x.no, .int .i64 x.kind, .int .i64 x.lock, .int .i64 x.person, .int .i64 x.lo, .int .i64 x.hi, .int .i64 x.known, .int .i64 x.til] 28 9 1 _ rfl rfl) (by intro u hu; simp at hu; rcases hu with rfl | rfl | rfl | rfl | rfl | rfl | rfl | rfl | rfl <;> rfl) (by unfold maxLen; omega) (by omega) (by first | omega | (simp; done) | (simp; omega)) ?_; intro v2 w6 hown2 hgrow2 hB2; have hC2 : Below wi.heap.size wi w6 := Below.trans (by first | ((repeat' (first | with_reducible exact Below.refl _ _ | with_reducible assumption | with_reducible refine Below.alloc ?_ ?_ _ | with_reducible refine Below.setCell ?_ ?_ _ | with_reducible refine Below.drew ?_ | (simp; done) | (simp; omega) | omega)); done) | exact (by assumption : _ ∧ _).2) hB2; have hsz2 := hC2.size)
                        | (refine step_appB (by rfl) (.tmp 71) (.tmp 74) 22 (by rfl) (base := wi.heap.size) (B := wi.heap.size) (e := 28) (i := i0) (size := 9) (bytes := 72) Tryz.underlying22 hi hz0 hz1 hz2 rfl (by decide) (by rfl) (by rfl) (n := 0 + j + 1) (xs := [] ++ deedCells ((srtD L).take j) ++ [.int .i64 x.par, .int .i64 x.no, .int .i64 x.kind, .int .i64 x.lock, .int .i64 x.person, .int .i64 x.lo, .int .i64 x.hi, .int .i64 x.known, .int .i64 x.til]) (by first | exact hown2 | exact hown2.drew) (m := L.length - j) (news := deedCells ((srtD L).drop j)) (HTD.out.below (by (repeat' (first | with_reducible exact Below.refl _ _ | with_reducible assumption | with_reducible refine Below.alloc ?_ ?_ _ | with_reducible refine Below.setCell ?_ ?_ _ | with_reducible refine Below.drew ?_ | (simp; done) | (simp; omega) | omega)))) (deedCells_one _) (by unfold maxLen; omega) (by omega) (by first | omega | (simp; done) | (simp; omega)) ?_; intro v3 w7 hown3 hgrow3 hB3; have hC3 : Below wi.heap.size wi w7 := Below.trans (by first | ((repeat' (first | with_reducible exact Below.refl _ _ | with_reducible assumption | with_reducible refine Below.alloc ?_ ?_ _ | with_reducible refine Below.setCell ?_ ?_ _ | with_reducible refine Below.drew ?_ | (simp; done) | (simp; omega) | omega)); done) | exact (by assumption : _ ∧ _).2) hB3; have hsz3 := hC3.size))
                    all_goals (
                      obtain ⟨A3, c3, rfl, hcc⟩ := own_slice hown3
                      have HO3 : Hid (Ds w7 w7.heap.size A3 (0 + j + 1 + (L.length - j)) (srtD (L ++ [x]))) := (by have h := Rd.of_own hown3; show Rd _ _ _ _ _ _; rw [HSRT.out]; exact h)
                      have HLN : Hid ((L ++ [x]).length = 0 + j + 1 + (L.length - j)) := by show _ = _; simp <;> omega
                      have HBZ := Lib.hid (Below.then_ HBi.out hC3)
                      clear hown1 hown2 hown3 hgrow1 hgrow2 hgrow3
                      go_wp2_with fail
                      go_roundw
                      case rel => exact ⟨k + 1, L ++ [x], A3, c3, by omega, by go_num, by rw [HLN.out], by rw [HLN.out]; exact hcc.1, by rw [HLN.out]; exact HO3.out, HKN.out.snoc HF.out, fun d hd => (List.mem_append.1 hd).elim (HOL.out d) (fun h => by simp at h; subst h; exact HO.out), by rw [← HJ.out, HDC.out, joinL, HO.out, HF.out]; rfl, HBZ.out⟩
                      case measure => simp [intOf]; omega)
            · obtain rfl : j = L.length := by omega
              have hq : decide ((L.length : Int) < (L.length : Int)) = false := by simp
              have HF := Lib.hid (find_gone HKN.out HBE.out (x := x) fun a ha => by rw [List.getElem?_eq_none (by rw [srt_len]; exact Nat.le_refl _)] at ha; cases ha)
              have HSRT : Hid (deedCells (srtD (L ++ [x])) = [] ++ deedCells ((srtD L).take L.length) ++ [.int .i64 x.par, .int .i64 x.no, .int .i64 x.kind, .int .i64 x.lock, .int .i64 x.person, .int .i64 x.lo, .int .i64 x.hi, .int .i64 x.known, .int .i64 x.til] ++ ([] : List Value)) := by
                show _ = _
                rw [srt_snoc HKN.out HF.out, insD_at HBE.out (fun a ha => by rw [List.getElem?_eq_none (by rw [srt_len]; exact Nat.le_refl _)] at ha; cases ha), List.drop_of_length_le (by rw [srt_len]; exact Nat.le_refl _), deedCells_append]
                simp [deedCells]
              clear x0 x1
              go_wp2_with fail
              (refine wp_region_grow (by kernel_rfl) (by kernel_rfl) ?_; (repeat (go_big_quiet_step ((first | fail)))); refine wpQuiet_nil ?_; rintro w1 ⟨⟨_, hb1⟩, rfl⟩; (try dsimp only at hb1 ⊢); obtain ⟨hc1, hf1⟩ := bcell hb1)
              go_wp2_with fail
              have HB5 := Lib.hid (Below.then_ HB4.out hb1)
              clear hc1 hf1 hb1
              (refine wp_region_grow (by kernel_rfl) (by kernel_rfl) ?_; (repeat (go_big_quiet_step ((first | fail)))); refine wpQuiet_nil ?_; rintro w1 ⟨⟨_, hb1⟩, rfl⟩; (try dsimp only at hb1 ⊢); obtain ⟨hc1, hf1⟩ := bcell hb1)
              go_wp2_with fail
              obtain ⟨wi, rfl⟩ : ∃ wi : World, wi = w1 := ⟨_, rfl⟩
              have HB6 := Lib.hid (Below.then_ HB5.out hb1)
              have hs6 := HB6.out.size
              clear hc1 hf1 hb1
              have hwo : wo.heap.size < wi.heap.size := by omega
              have x0 : wi.cell? ⟨wo.heap.size, 0, none⟩ = some (.int .i64 x.par) := (HBX.out.ext HB6.out).cell 0
              have x1 : wi.cell? ⟨wo.heap.size, 1, none⟩ = some (.int .i64 x.no) := (HBX.out.ext HB6.out).cell 1
              have x2 : wi.cell? ⟨wo.heap.size, 2, none⟩ = some (.int .i64 x.kind) := (HBX.out.ext HB6.out).cell 2
              have x3 : wi.cell? ⟨wo.heap.size, 3, none⟩ = some (.int .i64 x.lock) := (HBX.out.ext HB6.out).cell 3
              have x4 : wi.cell? ⟨wo.heap.size, 4, none⟩ = some (.int .i64 x.person) := (HBX.out.ext HB6.out).cell 4
              have x5 : wi.cell? ⟨wo.heap.size, 5, none⟩ = some (.int .i64 x.lo) := (HBX.out.ext HB6.out).cell 5
              have x6 : wi.cell? ⟨wo.heap.size, 6, none⟩ = some (.int .i64 x.hi) := (HBX.out.ext HB6.out).cell 6
              have x7 : wi.cell? ⟨wo.heap.size, 7, none⟩ = some (.int .i64 x.known) := (HBX.out.ext HB6.out).cell 7
              have x8 : wi.cell? ⟨wo.heap.size, 8, none⟩ = some (.int .i64 x.til) := (HBX.out.ext HB6.out).cell 8
              have HBi := Lib.hid (Below.then_ HB3.out HB6.out)
              have HDW := Lib.hid (Rd.more (HDS3.out.ext HB6.out (by omega)) (show wo.heap.size ≤ wi.heap.size by omega))
              have HTK : Hid (Rd wi wi.heap.size 9 A0 L.length (deedCells ((srtD L).take L.length))) := by show Rd _ _ _ _ _ _; rw [List.take_of_length_le (by rw [srt_len]; exact Nat.le_refl _)]; exact HDW.out
              have HTZ : ∀ (A' : Option Addr) (w' : World), Rd w' wi.heap.size 9 A' 0 [] := fun _ _ => Rd.nil_
              have h4 : (L.length : Int) ≤ (c0 : Int) := by omega
              have hik : ¬ ((L.length : Int) < 0) := by omega
              clear hq
              cases A0 with
              | none =>
                have hL0 : L.length = 0 := (Nat.eq_zero_or_pos L.length).elim id fun h => by obtain ⟨_, _, e, _⟩ := HDW.out.2 h; cases e
                obtain rfl : L = [] := List.eq_nil_of_length_eq_zero hL0
                simp only [List.length_nil] at h4 hik hc0 HTK ⊢
                have KS : ∀ w' : World, Below wi.heap.size wi w' → (w'.cell? ⟨wo.heap.size, 0, none⟩ = some (.int .i64 x.par) ∧ w'.cell? ⟨wo.heap.size, 1, none⟩ = some (.int .i64 x.no) ∧ w'.cell? ⟨wo.heap.size, 2, none⟩ = some (.int .i64 x.kind) ∧ w'.cell? ⟨wo.heap.size, 3, none⟩ = some (.int .i64 x.lock) ∧ w'.cell? ⟨wo.heap.size, 4, none⟩ = some (.int .i64 x.person) ∧ w'.cell? ⟨wo.heap.size, 5, none⟩ = some (.int .i64 x.lo) ∧ w'.cell? ⟨wo.heap.size, 6, none⟩ = some (.int .i64 x.hi) ∧ w'.cell? ⟨wo.heap.size, 7, none⟩ = some (.int .i64 x.known) ∧ w'.cell? ⟨wo.heap.size, 8, none⟩ = some (.int .i64 x.til) ∧ Below wi.heap.size wi w') := fun w' h => ⟨(h.cell (p := ⟨wo.heap.size, 0, none⟩) hwo).trans x0, (h.cell (p := ⟨wo.heap.size, 1, none⟩) hwo).trans x1, (h.cell (p := ⟨wo.heap.size, 2, none⟩) hwo).trans x2, (h.cell (p := ⟨wo.heap.size, 3, none⟩) hwo).trans x3, (h.cell (p := ⟨wo.heap.size, 4, none⟩) hwo).trans x4, (h.cell (p := ⟨wo.heap.size, 5, none⟩) hwo).trans x5, (h.cell (p := ⟨wo.heap.size, 6, none⟩) hwo).trans x6, (h.cell (p := ⟨wo.heap.size, 7, none⟩) hwo).trans x7, (h.cell (p := ⟨wo.heap.size, 8, none⟩) hwo).trans x8, h⟩
                go_region_held3 (fun w' => w'.cell? ⟨wo.heap.size, 0, none⟩ = some (.int .i64 x.par) ∧ w'.cell? ⟨wo.heap.size, 1, none⟩ = some (.int .i64 x.no) ∧ w'.cell? ⟨wo.heap.size, 2, none⟩ = some (.int .i64 x.kind) ∧ w'.cell? ⟨wo.heap.size, 3, none⟩ = some (.int .i64 x.lock) ∧ w'.cell? ⟨wo.heap.size, 4, none⟩ = some (.int .i64 x.person) ∧ w'.cell? ⟨wo.heap.size, 5, none⟩ = some (.int .i64 x.lo) ∧ w'.cell? ⟨wo.heap.size, 6, none⟩ = some (.int .i64 x.hi) ∧ w'.cell? ⟨wo.heap.size, 7, none⟩ = some (.int .i64 x.known) ∧ w'.cell? ⟨wo.heap.size, 8, none⟩ = some (.int .i64 x.til) ∧ Below wi.heap.size wi w') (exact KS _ (by ((repeat' (first | with_reducible exact Below.refl _ _ | with_reducible assumption | with_reducible refine Below.alloc ?_ ?_ _ | with_reducible refine Below.setCell ?_ ?_ _ | with_reducible refine Below.drew ?_ | (simp; done) | (simp; omega) | omega)); done)))
                  (first
                    | (refine step_appB (by rfl) (.tmp 64) (.tmp 67) 22 (by rfl) (base := wi.heap.size) (B := wi.heap.size) (e := 28) (i := i0) (size := 9) (bytes := 72) Tryz.underlying22 hi hz0 hz1 hz2 rfl (by decide) (by rfl) (by rfl) (n := 0) (xs := []) (by first | exact own_emptyB wi 28 9 wi.heap.size (Nat.le_refl _) | exact (own_emptyB wi 28 9 wi.heap.size (Nat.le_refl _)).alloc (.cells #[.int .i64 x.par, .int .i64 x.no, .int .i64 x.kind, .int .i64 x.lock, .int .i64 x.person, .int .i64 x.lo, .int .i64 x.hi, .int .i64 x.known, .int .i64 x.til] 28) | (have h := own_emptyB (wi.alloc (.cells #[.int .i64 x.par, .int .i64 x.no, .int .i64 x.kind, .int .i64 x.lock, .int .i64 x.person, .int .i64 x.lo, .int .i64 x.hi, .int .i64 x.known, .int .i64 x.til] 28)) 28 9 wi.heap.size (by simp); simp only [World.size_alloc] at h; exact h)) (m := 0) (news := deedCells ((srtD ([] : List Deed)).take 0)) (HTK.out.below (by (repeat' (first | with_reducible exact Below.refl _ _ | with_reducible assumption | with_reducible refine Below.alloc ?_ ?_ _ | with_reducible refine Below.setCell ?_ ?_ _ | with_reducible refine Below.drew ?_ | (simp; done) | (simp; omega) | omega)))) (deedCells_one _) (by unfold maxLen; omega) (by omega) (by first | omega | (simp; done) | (simp; omega)) ?_; intro v1 w5 hown1 hgrow1 hB1; have hC1 : Below wi.heap.size wi w5 := Below.trans (by first | ((repeat' (first | with_reducible exact Below.refl _ _ | with_reducible assumption | with_reducible refine Below.alloc ?_ ?_ _ | with_reducible refine Below.setCell ?_ ?_ _ | with_reducible refine Below.drew ?_ | (simp; done) | (simp; omega) | omega)); done) | exact (by assumption : _ ∧ _).2) hB1; have hsz1 := hC1.size; (first | (have HN1 : Hid (Rd w5 w5.heap.size 9 (some ⟨wi.heap.size + 1, 0, none⟩) 1 [.int .i64 x.par, .int .i64 x.no, .int .i64 x.kind, .int .i64 x.lock, .int .i64 x.person, .int .i64 x.lo, .int .i64 x.hi, .int .i64 x.known, .int .i64 x.til]) := Rd.kept (w := ((wi.alloc (.cells #[] 28)).alloc (.cells #[.int .i64 x.par, .int .i64 x.no, .int .i64 x.kind, .int .i64 x.lock, .int .i64 x.person, .int .i64 x.lo, .int .i64 x.hi, .int .i64 x.known, .int .i64 x.til] 28)).drew) (by have h := Rd.new (wi.alloc (.cells #[] 28)) #[.int .i64 x.par, .int .i64 x.no, .int .i64 x.kind, .int .i64 x.lock, .int .i64 x.person, .int .i64 x.lo, .int .i64 x.hi, .int .i64 x.known, .int .i64 x.til] 28 9 1 _ rfl rfl; simp only [World.size_alloc] at h; exact h) hgrow1 (by first | omega | (simp; done) | (simp; omega)) (fun e => by have h := Option.some.inj (show some _ = some _ from e); simp at h)) | (have HN1 : Hid (Rd w5 w5.heap.size 9 (some ⟨wi.heap.size, 0, none⟩) 1 [.int .i64 x.par, .int .i64 x.no, .int .i64 x.kind, .int .i64 x.lock, .int .i64 x.person, .int .i64 x.lo, .int .i64 x.hi, .int .i64 x.known, .int .i64 x.til]) := Rd.kept (w := ((wi.alloc (.cells #[.int .i64 x.par, .int .i64 x.no, .int .i64 x.kind, .int .i64 x.lock, .int .i64 x.person, .int .i64 x.lo, .int .i64 x.hi, .int .i64 x.known, .int .i64 x.til] 28)).alloc (.cells #[] 28)).drew) (by have h := (Rd.new wi #[.int .i64 x.par, .int .i64 x.no, .int .i64 x.kind, .int .i64 x.lock, .int .i64 x.person, .int .i64 x.lo, .int .i64 x.hi, .int .i64 x.known, .int .i64 x.til] 28 9 1 _ rfl rfl).alloc (Nat.le_refl _) (.cells #[] 28); exact h) hgrow1 (by first | omega | (simp; done) | (simp; omega)) (fun e => by have h := Option.some.inj (show some _ = some _ from e); simp at h)) | skip))
                    | (refine step_appB (by rfl) (.tmp 68) (.tmp 70) 22 (by rfl) (base := wi.heap.size) (B := _) (e := 28) (i := i0) (size := 9) (bytes := 72) Tryz.underlying22 hi hz0 hz1 hz2 rfl (by decide) (by rfl) (by rfl) (n := 0 + 0) (xs := [] ++ deedCells ((srtD ([] : List Deed)).take 0)) (by first | exact hown1 | exact hown1.alloc _ | exact hown1.drew | exact (hown1.drew).alloc _ | exact (hown1.alloc _).drew) (m := 1) (news := [.int .i64 x.par, .int .i64 x.no, .int .i64 x.kind, .int .i64 x.lock, .int .i64 x.person, .int .i64 x.lo, .int .i64 x.hi, .int .i64 x.known, .int .i64 x.til]) (by first | exact HN1.out | exact Rd.new w5 #[.int .i64 x.par, .int .i64 x.no, .int .i64 x.kind, .int .i64 x.lock, .int .i64 x.person, .int .i64 x.lo, .int .i64 x.hi, .int .i64 x.known, .int .i64 x.til] 28 9 1 _ rfl rfl) (by intro u hu; simp at hu; rcases hu with rfl | rfl | rfl | rfl | rfl | rfl | rfl | rfl | rfl <;> rfl) (by unfold maxLen; omega) (by omega) (by first | omega | (simp; done) | (simp; omega)) ?_; intro v2 w6 hown2 hgrow2 hB2; have hC2 : Below wi.heap.size wi w6 := Below.trans (by first | ((repeat' (first | with_reducible exact Below.refl _ _ | with_reducible assumption | with_reducible refine Below.alloc ?_ ?_ _ | with_reducible refine Below.setCell ?_ ?_ _ | with_reducible refine Below.drew ?_ | (simp; done) | (simp; omega) | omega)); done) | exact (by assumption : _ ∧ _).2) hB2; have hsz2 := hC2.size)
                    | (refine step_appB (by rfl) (.tmp 71) (.tmp 74) 22 (by rfl) (base := wi.heap.size) (B := wi.heap.size) (e := 28) (i := i0) (size := 9) (bytes := 72) Tryz.underlying22 hi hz0 hz1 hz2 rfl (by decide) (by rfl) (by rfl) (n := 0 + 0 + 1) (xs := [] ++ deedCells ((srtD ([] : List Deed)).take 0) ++ [.int .i64 x.par, .int .i64 x.no, .int .i64 x.kind, .int .i64 x.lock, .int .i64 x.person, .int .i64 x.lo, .int .i64 x.hi, .int .i64 x.known, .int .i64 x.til]) (by first | exact hown2 | exact hown2.drew) (m := 0) (news := ([] : List Value)) ((HTZ _ _)) (ints_one []) (by unfold maxLen; omega) (by omega) (by first | omega | (simp; done) | (simp; omega)) ?_; intro v3 w7 hown3 hgrow3 hB3; have hC3 : Below wi.heap.size wi w7 := Below.trans (by first | ((repeat' (first | with_reducible exact Below.refl _ _ | with_reducible assumption | with_reducible refine Below.alloc ?_ ?_ _ | with_reducible refine Below.setCell ?_ ?_ _ | with_reducible refine Below.drew ?_ | (simp; done) | (simp; omega) | omega)); done) | exact (by assumption : _ ∧ _).2) hB3; have hsz3 := hC3.size))
                all_goals (
                  obtain ⟨A3, c3, rfl, hcc⟩ := own_slice hown3
                  have HO3 : Hid (Ds w7 w7.heap.size A3 (0 + 0 + 1 + 0) (srtD ([] ++ [x] : List Deed))) := (by have h := Rd.of_own hown3; show Rd _ _ _ _ _ _; rw [HSRT.out]; exact h)
                  have HLN : Hid (([] ++ [x] : List Deed).length = 0 + 0 + 1 + 0) := by show _ = _; simp <;> omega
                  have HBZ := Lib.hid (Below.then_ HBi.out hC3)
                  clear hown1 hown2 hown3 hgrow1 hgrow2 hgrow3
                  go_wp2_with fail
                  go_roundw
                  case rel => exact ⟨k + 1, [] ++ [x], A3, c3, by omega, by go_num, by rw [HLN.out], by rw [HLN.out]; exact hcc.1, by rw [HLN.out]; exact HO3.out, HKN.out.snoc HF.out, fun d hd => (List.mem_append.1 hd).elim (HOL.out d) (fun h => by simp at h; subst h; exact HO.out), by rw [← HJ.out, HDC.out, joinL, HO.out, HF.out]; rfl, HBZ.out⟩
                  case measure => simp [intOf]; omega)
              | some ad =>
                by_cases h6 : c0 = L.length
                · have KS : ∀ w' : World, Below wi.heap.size wi w' → (w'.cell? ⟨wo.heap.size, 0, none⟩ = some (.int .i64 x.par) ∧ w'.cell? ⟨wo.heap.size, 1, none⟩ = some (.int .i64 x.no) ∧ w'.cell? ⟨wo.heap.size, 2, none⟩ = some (.int .i64 x.kind) ∧ w'.cell? ⟨wo.heap.size, 3, none⟩ = some (.int .i64 x.lock) ∧ w'.cell? ⟨wo.heap.size, 4, none⟩ = some (.int .i64 x.person) ∧ w'.cell? ⟨wo.heap.size, 5, none⟩ = some (.int .i64 x.lo) ∧ w'.cell? ⟨wo.heap.size, 6, none⟩ = some (.int .i64 x.hi) ∧ w'.cell? ⟨wo.heap.size, 7, none⟩ = some (.int .i64 x.known) ∧ w'.cell? ⟨wo.heap.size, 8, none⟩ = some (.int .i64 x.til) ∧ Below wi.heap.size wi w') := fun w' h => ⟨(h.cell (p := ⟨wo.heap.size, 0, none⟩) hwo).trans x0, (h.cell (p := ⟨wo.heap.size, 1, none⟩) hwo).trans x1, (h.cell (p := ⟨wo.heap.size, 2, none⟩) hwo).trans x2, (h.cell (p := ⟨wo.heap.size, 3, none⟩) hwo).trans x3, (h.cell (p := ⟨wo.heap.size, 4, none⟩) hwo).trans x4, (h.cell (p := ⟨wo.heap.size, 5, none⟩) hwo).trans x5, (h.cell (p := ⟨wo.heap.size, 6, none⟩) hwo).trans x6, (h.cell (p := ⟨wo.heap.size, 7, none⟩) hwo).trans x7, (h.cell (p := ⟨wo.heap.size, 8, none⟩) hwo).trans x8, h⟩
                  go_region_held3 (fun w' => w'.cell? ⟨wo.heap.size, 0, none⟩ = some (.int .i64 x.par) ∧ w'.cell? ⟨wo.heap.size, 1, none⟩ = some (.int .i64 x.no) ∧ w'.cell? ⟨wo.heap.size, 2, none⟩ = some (.int .i64 x.kind) ∧ w'.cell? ⟨wo.heap.size, 3, none⟩ = some (.int .i64 x.lock) ∧ w'.cell? ⟨wo.heap.size, 4, none⟩ = some (.int .i64 x.person) ∧ w'.cell? ⟨wo.heap.size, 5, none⟩ = some (.int .i64 x.lo) ∧ w'.cell? ⟨wo.heap.size, 6, none⟩ = some (.int .i64 x.hi) ∧ w'.cell? ⟨wo.heap.size, 7, none⟩ = some (.int .i64 x.known) ∧ w'.cell? ⟨wo.heap.size, 8, none⟩ = some (.int .i64 x.til) ∧ Below wi.heap.size wi w') (exact KS _ (by ((repeat' (first | with_reducible exact Below.refl _ _ | with_reducible assumption | with_reducible refine Below.alloc ?_ ?_ _ | with_reducible refine Below.setCell ?_ ?_ _ | with_reducible refine Below.drew ?_ | (simp; done) | (simp; omega) | omega)); done)))
                    (first
                      | (refine step_appB (by rfl) (.tmp 64) (.tmp 67) 22 (by rfl) (base := wi.heap.size) (B := wi.heap.size) (e := 28) (i := i0) (size := 9) (bytes := 72) Tryz.underlying22 hi hz0 hz1 hz2 rfl (by decide) (by rfl) (by rfl) (n := 0) (xs := []) (by first | exact own_emptyB wi 28 9 wi.heap.size (Nat.le_refl _) | exact (own_emptyB wi 28 9 wi.heap.size (Nat.le_refl _)).alloc (.cells #[.int .i64 x.par, .int .i64 x.no, .int .i64 x.kind, .int .i64 x.lock, .int .i64 x.person, .int .i64 x.lo, .int .i64 x.hi, .int .i64 x.known, .int .i64 x.til] 28) | (have h := own_emptyB (wi.alloc (.cells #[.int .i64 x.par, .int .i64 x.no, .int .i64 x.kind, .int .i64 x.lock, .int .i64 x.person, .int .i64 x.lo, .int .i64 x.hi, .int .i64 x.known, .int .i64 x.til] 28)) 28 9 wi.heap.size (by simp); simp only [World.size_alloc] at h; exact h)) (m := L.length) (news := deedCells ((srtD L).take L.length)) (HTK.out.below (by (repeat' (first | with_reducible exact Below.refl _ _ | with_reducible assumption | with_reducible refine Below.alloc ?_ ?_ _ | with_reducible refine Below.setCell ?_ ?_ _ | with_reducible refine Below.drew ?_ | (simp; done) | (simp; omega) | omega)))) (deedCells_one _) (by unfold maxLen; omega) (by omega) (by first | omega | (simp; done) | (simp; omega)) ?_; intro v1 w5 hown1 hgrow1 hB1; have hC1 : Below wi.heap.size wi w5 := Below.trans (by first | ((repeat' (first | with_reducible exact Below.refl _ _ | with_reducible assumption | with_reducible refine Below.alloc ?_ ?_ _ | with_reducible refine Below.setCell ?_ ?_ _ | with_reducible refine Below.drew ?_ | (simp; done) | (simp; omega) | omega)); done) | exact (by assumption : _ ∧ _).2) hB1; have hsz1 := hC1.size; (first | (have HN1 : Hid (Rd w5 w5.heap.size 9 (some ⟨wi.heap.size + 1, 0, none⟩) 1 [.int .i64 x.par, .int .i64 x.no, .int .i64 x.kind, .int .i64 x.lock, .int .i64 x.person, .int .i64 x.lo, .int .i64 x.hi, .int .i64 x.known, .int .i64 x.til]) := Rd.kept (w := ((wi.alloc (.cells #[] 28)).alloc (.cells #[.int .i64 x.par, .int .i64 x.no, .int .i64 x.kind, .int .i64 x.lock, .int .i64 x.person, .int .i64 x.lo, .int .i64 x.hi, .int .i64 x.known, .int .i64 x.til] 28)).drew) (by have h := Rd.new (wi.alloc (.cells #[] 28)) #[.int .i64 x.par, .int .i64 x.no, .int .i64 x.kind, .int .i64 x.lock, .int .i64 x.person, .int .i64 x.lo, .int .i64 x.hi, .int .i64 x.known, .int .i64 x.til] 28 9 1 _ rfl rfl; simp only [World.size_alloc] at h; exact h) hgrow1 (by first | omega | (simp; done) | (simp; omega)) (fun e => by have h := Option.some.inj (show some _ = some _ from e); simp at h)) | (have HN1 : Hid (Rd w5 w5.heap.size 9 (some ⟨wi.heap.size, 0, none⟩) 1 [.int .i64 x.par, .int .i64 x.no, .int .i64 x.kind, .int .i64 x.lock, .int .i64 x.person, .int .i64 x.lo, .int .i64 x.hi, .int .i64 x.known, .int .i64 x.til]) := Rd.kept (w := ((wi.alloc (.cells #[.int .i64 x.par, .int .i64 x.no, .int .i64 x.kind, .int .i64 x.lock, .int .i64 x.person, .int .i64 x.lo, .int .i64 x.hi, .int .i64 x.known, .int .i64 x.til] 28)).alloc (.cells #[] 28)).drew) (by have h := (Rd.new wi #[.int .i64 x.par, .int .i64 x.no, .int .i64 x.kind, .int .i64 x.lock, .int .i64 x.person, .int .i64 x.lo, .int .i64 x.hi, .int .i64 x.known, .int .i64 x.til] 28 9 1 _ rfl rfl).alloc (Nat.le_refl _) (.cells #[] 28); exact h) hgrow1 (by first | omega | (simp; done) | (simp; omega)) (fun e => by have h := Option.some.inj (show some _ = some _ from e); simp at h)) | skip))
                      | (refine step_appB (by rfl) (.tmp 68) (.tmp 70) 22 (by rfl) (base := wi.heap.size) (B := _) (e := 28) (i := i0) (size := 9) (bytes := 72) Tryz.underlying22 hi hz0 hz1 hz2 rfl (by decide) (by rfl) (by rfl) (n := 0 + L.length) (xs := [] ++ deedCells ((srtD L).take L.length)) (by first | exact hown1 | exact hown1.alloc _ | exact hown1.drew | exact (hown1.drew).alloc _ | exact (hown1.alloc _).drew) (m := 1) (news := [.int .i64 x.par, .int .i64 x.no, .int .i64 x.kind, .int .i64 x.lock, .int .i64 x.person, .int .i64 x.lo, .int .i64 x.hi, .int .i64 x.known, .int .i64 x.til]) (by first | exact HN1.out | exact Rd.new w5 #[.int .i64 x.par, .int .i64 x.no, .int .i64 x.kind, .int .i64 x.lock, .int .i64 x.person, .int .i64 x.lo, .int .i64 x.hi, .int .i64 x.known, .int .i64 x.til] 28 9 1 _ rfl rfl) (by intro u hu; simp at hu; rcases hu with rfl | rfl | rfl | rfl | rfl | rfl | rfl | rfl | rfl <;> rfl) (by unfold maxLen; omega) (by omega) (by first | omega | (simp; done) | (simp; omega)) ?_; intro v2 w6 hown2 hgrow2 hB2; have hC2 : Below wi.heap.size wi w6 := Below.trans (by first | ((repeat' (first | with_reducible exact Below.refl _ _ | with_reducible assumption | with_reducible refine Below.alloc ?_ ?_ _ | with_reducible refine Below.setCell ?_ ?_ _ | with_reducible refine Below.drew ?_ | (simp; done) | (simp; omega) | omega)); done) | exact (by assumption : _ ∧ _).2) hB2; have hsz2 := hC2.size)
                      | (refine step_appB (by rfl) (.tmp 71) (.tmp 74) 22 (by rfl) (base := wi.heap.size) (B := wi.heap.size) (e := 28) (i := i0) (size := 9) (bytes := 72) Tryz.underlying22 hi hz0 hz1 hz2 rfl (by decide) (by rfl) (by rfl) (n := 0 + L.length + 1) (xs := [] ++ deedCells ((srtD L).take L.length) ++ [.int .i64 x.par, .int .i64 x.no, .int .i64 x.kind, .int .i64 x.lock, .int .i64 x.person, .int .i64 x.lo, .int .i64 x.hi, .int .i64 x.known, .int .i64 x.til]) (by first | exact hown2 | exact hown2.drew) (m := 0) (news := ([] : List Value)) ((HTZ _ _)) (ints_one []) (by unfold maxLen; omega) (by omega) (by first | omega | (simp; done) | (simp; omega)) ?_; intro v3 w7 hown3 hgrow3 hB3; have hC3 : Below wi.heap.size wi w7 := Below.trans (by first | ((repeat' (first | with_reducible exact Below.refl _ _ | with_reducible assumption | with_reducible refine Below.alloc ?_ ?_ _ | with_reducible refine Below.setCell ?_ ?_ _ | with_reducible refine Below.drew ?_ | (simp; done) | (simp; omega) | omega)); done) | exact (by assumption : _ ∧ _).2) hB3; have hsz3 := hC3.size))
                  all_goals (
                    obtain ⟨A3, c3, rfl, hcc⟩ := own_slice hown3
                    have HO3 : Hid (Ds w7 w7.heap.size A3 (0 + L.length + 1 + 0) (srtD (L ++ [x]))) := (by have h := Rd.of_own hown3; show Rd _ _ _ _ _ _; rw [HSRT.out]; exact h)
                    have HLN : Hid ((L ++ [x]).length = 0 + L.length + 1 + 0) := by show _ = _; simp <;> omega
                    have HBZ := Lib.hid (Below.then_ HBi.out hC3)
                    clear hown1 hown2 hown3 hgrow1 hgrow2 hgrow3
                    go_wp2_with fail
                    go_roundw
                    case rel => exact ⟨k + 1, L ++ [x], A3, c3, by omega, by go_num, by rw [HLN.out], by rw [HLN.out]; exact hcc.1, by rw [HLN.out]; exact HO3.out, HKN.out.snoc HF.out, fun d hd => (List.mem_append.1 hd).elim (HOL.out d) (fun h => by simp at h; subst h; exact HO.out), by rw [← HJ.out, HDC.out, joinL, HO.out, HF.out]; rfl, HBZ.out⟩
                    case measure => simp [intOf]; omega)
                · have KS : ∀ w' : World, Below wi.heap.size wi w' → (w'.cell? ⟨wo.heap.size, 0, none⟩ = some (.int .i64 x.par) ∧ w'.cell? ⟨wo.heap.size, 1, none⟩ = some (.int .i64 x.no) ∧ w'.cell? ⟨wo.heap.size, 2, none⟩ = some (.int .i64 x.kind) ∧ w'.cell? ⟨wo.heap.size, 3, none⟩ = some (.int .i64 x.lock) ∧ w'.cell? ⟨wo.heap.size, 4, none⟩ = some (.int .i64 x.person) ∧ w'.cell? ⟨wo.heap.size, 5, none⟩ = some (.int .i64 x.lo) ∧ w'.cell? ⟨wo.heap.size, 6, none⟩ = some (.int .i64 x.hi) ∧ w'.cell? ⟨wo.heap.size, 7, none⟩ = some (.int .i64 x.known) ∧ w'.cell? ⟨wo.heap.size, 8, none⟩ = some (.int .i64 x.til) ∧ Below wi.heap.size wi w') := fun w' h => ⟨(h.cell (p := ⟨wo.heap.size, 0, none⟩) hwo).trans x0, (h.cell (p := ⟨wo.heap.size, 1, none⟩) hwo).trans x1, (h.cell (p := ⟨wo.heap.size, 2, none⟩) hwo).trans x2, (h.cell (p := ⟨wo.heap.size, 3, none⟩) hwo).trans x3, (h.cell (p := ⟨wo.heap.size, 4, none⟩) hwo).trans x4, (h.cell (p := ⟨wo.heap.size, 5, none⟩) hwo).trans x5, (h.cell (p := ⟨wo.heap.size, 6, none⟩) hwo).trans x6, (h.cell (p := ⟨wo.heap.size, 7, none⟩) hwo).trans x7, (h.cell (p := ⟨wo.heap.size, 8, none⟩) hwo).trans x8, h⟩
                  go_region_held3 (fun w' => w'.cell? ⟨wo.heap.size, 0, none⟩ = some (.int .i64 x.par) ∧ w'.cell? ⟨wo.heap.size, 1, none⟩ = some (.int .i64 x.no) ∧ w'.cell? ⟨wo.heap.size, 2, none⟩ = some (.int .i64 x.kind) ∧ w'.cell? ⟨wo.heap.size, 3, none⟩ = some (.int .i64 x.lock) ∧ w'.cell? ⟨wo.heap.size, 4, none⟩ = some (.int .i64 x.person) ∧ w'.cell? ⟨wo.heap.size, 5, none⟩ = some (.int .i64 x.lo) ∧ w'.cell? ⟨wo.heap.size, 6, none⟩ = some (.int .i64 x.hi) ∧ w'.cell? ⟨wo.heap.size, 7, none⟩ = some (.int .i64 x.known) ∧ w'.cell? ⟨wo.heap.size, 8, none⟩ = some (.int .i64 x.til) ∧ Below wi.heap.size wi w') (exact KS _ (by ((repeat' (first | with_reducible exact Below.refl _ _ | with_reducible assumption | with_reducible refine Below.alloc ?_ ?_ _ | with_reducible refine Below.setCell ?_ ?_ _ | with_reducible refine Below.drew ?_ | (simp; done) | (simp; omega) | omega)); done)))
                    (first
                      | (refine step_appB (by rfl) (.tmp 64) (.tmp 67) 22 (by rfl) (base := wi.heap.size) (B := wi.heap.size) (e := 28) (i := i0) (size := 9) (bytes := 72) Tryz.underlying22 hi hz0 hz1 hz2 rfl (by decide) (by rfl) (by rfl) (n := 0) (xs := []) (by first | exact own_emptyB wi 28 9 wi.heap.size (Nat.le_refl _) | exact (own_emptyB wi 28 9 wi.heap.size (Nat.le_refl _)).alloc (.cells #[.int .i64 x.par, .int .i64 x.no, .int .i64 x.kind, .int .i64 x.lock, .int .i64 x.person, .int .i64 x.lo, .int .i64 x.hi, .int .i64 x.known, .int .i64 x.til] 28) | (have h := own_emptyB (wi.alloc (.cells #[.int .i64 x.par, .int .i64 x.no, .int .i64 x.kind, .int .i64 x.lock, .int .i64 x.person, .int .i64 x.lo, .int .i64 x.hi, .int .i64 x.known, .int .i64 x.til] 28)) 28 9 wi.heap.size (by simp); simp only [World.size_alloc] at h; exact h)) (m := L.length) (news := deedCells ((srtD L).take L.length)) (HTK.out.below (by (repeat' (first | with_reducible exact Below.refl _ _ | with_reducible assumption | with_reducible refine Below.alloc ?_ ?_ _ | with_reducible refine Below.setCell ?_ ?_ _ | with_reducible refine Below.drew ?_ | (simp; done) | (simp; omega) | omega)))) (deedCells_one _) (by unfold maxLen; omega) (by omega) (by first | omega | (simp; done) | (simp; omega)) ?_; intro v1 w5 hown1 hgrow1 hB1; have hC1 : Below wi.heap.size wi w5 := Below.trans (by first | ((repeat' (first | with_reducible exact Below.refl _ _ | with_reducible assumption | with_reducible refine Below.alloc ?_ ?_ _ | with_reducible refine Below.setCell ?_ ?_ _ | with_reducible refine Below.drew ?_ | (simp; done) | (simp; omega) | omega)); done) | exact (by assumption : _ ∧ _).2) hB1; have hsz1 := hC1.size; (first | (have HN1 : Hid (Rd w5 w5.heap.size 9 (some ⟨wi.heap.size + 1, 0, none⟩) 1 [.int .i64 x.par, .int .i64 x.no, .int .i64 x.kind, .int .i64 x.lock, .int .i64 x.person, .int .i64 x.lo, .int .i64 x.hi, .int .i64 x.known, .int .i64 x.til]) := Rd.kept (w := ((wi.alloc (.cells #[] 28)).alloc (.cells #[.int .i64 x.par, .int .i64 x.no, .int .i64 x.kind, .int .i64 x.lock, .int .i64 x.person, .int .i64 x.lo, .int .i64 x.hi, .int .i64 x.known, .int .i64 x.til] 28)).drew) (by have h := Rd.new (wi.alloc (.cells #[] 28)) #[.int .i64 x.par, .int .i64 x.no, .int .i64 x.kind, .int .i64 x.lock, .int .i64 x.person, .int .i64 x.lo, .int .i64 x.hi, .int .i64 x.known, .int .i64 x.til] 28 9 1 _ rfl rfl; simp only [World.size_alloc] at h; exact h) hgrow1 (by first | omega | (simp; done) | (simp; omega)) (fun e => by have h := Option.some.inj (show some _ = some _ from e); simp at h)) | (have HN1 : Hid (Rd w5 w5.heap.size 9 (some ⟨wi.heap.size, 0, none⟩) 1 [.int .i64 x.par, .int .i64 x.no, .int .i64 x.kind, .int .i64 x.lock, .int .i64 x.person, .int .i64 x.lo, .int .i64 x.hi, .int .i64 x.known, .int .i64 x.til]) := Rd.kept (w := ((wi.alloc (.cells #[.int .i64 x.par, .int .i64 x.no, .int .i64 x.kind, .int .i64 x.lock, .int .i64 x.person, .int .i64 x.lo, .int .i64 x.hi, .int .i64 x.known, .int .i64 x.til] 28)).alloc (.cells #[] 28)).drew) (by have h := (Rd.new wi #[.int .i64 x.par, .int .i64 x.no, .int .i64 x.kind, .int .i64 x.lock, .int .i64 x.person, .int .i64 x.lo, .int .i64 x.hi, .int .i64 x.known, .int .i64 x.til] 28 9 1 _ rfl rfl).alloc (Nat.le_refl _) (.cells #[] 28); exact h) hgrow1 (by first | omega | (simp; done) | (simp; omega)) (fun e => by have h := Option.some.inj (show some _ = some _ from e); simp at h)) | skip))
                      | (refine step_appB (by rfl) (.tmp 68) (.tmp 70) 22 (by rfl) (base := wi.heap.size) (B := _) (e := 28) (i := i0) (size := 9) (bytes := 72) Tryz.underlying22 hi hz0 hz1 hz2 rfl (by decide) (by rfl) (by rfl) (n := 0 + L.length) (xs := [] ++ deedCells ((srtD L).take L.length)) (by first | exact hown1 | exact hown1.alloc _ | exact hown1.drew | exact (hown1.drew).alloc _ | exact (hown1.alloc _).drew) (m := 1) (news := [.int .i64 x.par, .int .i64 x.no, .int .i64 x.kind, .int .i64 x.lock, .int .i64 x.person, .int .i64 x.lo, .int .i64 x.hi, .int .i64 x.known, .int .i64 x.til]) (by first | exact HN1.out | exact Rd.new w5 #[.int .i64 x.par, .int .i64 x.no, .int .i64 x.kind, .int .i64 x.lock, .int .i64 x.person, .int .i64 x.lo, .int .i64 x.hi, .int .i64 x.known, .int .i64 x.til] 28 9 1 _ rfl rfl) (by intro u hu; simp at hu; rcases hu with rfl | rfl | rfl | rfl | rfl | rfl | rfl | rfl | rfl <;> rfl) (by unfold maxLen; omega) (by omega) (by first | omega | (simp; done) | (simp; omega)) ?_; intro v2 w6 hown2 hgrow2 hB2; have hC2 : Below wi.heap.size wi w6 := Below.trans (by first | ((repeat' (first | with_reducible exact Below.refl _ _ | with_reducible assumption | with_reducible refine Below.alloc ?_ ?_ _ | with_reducible refine Below.setCell ?_ ?_ _ | with_reducible refine Below.drew ?_ | (simp; done) | (simp; omega) | omega)); done) | exact (by assumption : _ ∧ _).2) hB2; have hsz2 := hC2.size)
                      | (refine step_appB (by rfl) (.tmp 71) (.tmp 74) 22 (by rfl) (base := wi.heap.size) (B := wi.heap.size) (e := 28) (i := i0) (size := 9) (bytes := 72) Tryz.underlying22 hi hz0 hz1 hz2 rfl (by decide) (by rfl) (by rfl) (n := 0 + L.length + 1) (xs := [] ++ deedCells ((srtD L).take L.length) ++ [.int .i64 x.par, .int .i64 x.no, .int .i64 x.kind, .int .i64 x.lock, .int .i64 x.person, .int .i64 x.lo, .int .i64 x.hi, .int .i64 x.known, .int .i64 x.til]) (by first | exact hown2 | exact hown2.drew) (m := 0) (news := ([] : List Value)) ((HTZ _ _)) (ints_one []) (by unfold maxLen; omega) (by omega) (by first | omega | (simp; done) | (simp; omega)) ?_; intro v3 w7 hown3 hgrow3 hB3; have hC3 : Below wi.heap.size wi w7 := Below.trans (by first | ((repeat' (first | with_reducible exact Below.refl _ _ | with_reducible assumption | with_reducible refine Below.alloc ?_ ?_ _ | with_reducible refine Below.setCell ?_ ?_ _ | with_reducible refine Below.drew ?_ | (simp; done) | (simp; omega) | omega)); done) | exact (by assumption : _ ∧ _).2) hB3; have hsz3 := hC3.size))
                  all_goals (
                    obtain ⟨A3, c3, rfl, hcc⟩ := own_slice hown3
                    have HO3 : Hid (Ds w7 w7.heap.size A3 (0 + L.length + 1 + 0) (srtD (L ++ [x]))) := (by have h := Rd.of_own hown3; show Rd _ _ _ _ _ _; rw [HSRT.out]; exact h)
                    have HLN : Hid ((L ++ [x]).length = 0 + L.length + 1 + 0) := by show _ = _; simp <;> omega
                    have HBZ := Lib.hid (Below.then_ HBi.out hC3)
                    clear hown1 hown2 hown3 hgrow1 hgrow2 hgrow3
                    go_wp2_with fail
                    go_roundw
                    case rel => exact ⟨k + 1, L ++ [x], A3, c3, by omega, by go_num, by rw [HLN.out], by rw [HLN.out]; exact hcc.1, by rw [HLN.out]; exact HO3.out, HKN.out.snoc HF.out, fun d hd => (List.mem_append.1 hd).elim (HOL.out d) (fun h => by simp at h; subst h; exact HO.out), by rw [← HJ.out, HDC.out, joinL, HO.out, HF.out]; rfl, HBZ.out⟩
                    case measure => simp [intOf]; omega)
      · have hkm : k = m := by omega
        have HJ2 : Hid (joinL L [] = joinL ds ms) := by show _ = _; rw [← HJ.out, List.drop_of_length_le (by rw [HLY.out, hkm]; exact Nat.le_refl _)]
        have HKM := Lib.hid hkm
        clear hkm
        by_cases h6 : 60 < L.length
        · have hq : decide ((60 : Int) < (L.length : Int)) = true := by simp; omega
          have HJ3 : Hid (joinL ds ms = (2, [])) := by show _ = _; rw [← HJ2.out, joinL, if_pos h6]
          go_wp2_with fail
          go_ret2
          rw [HE.out, HR.out, HJ3.out]
          exact ⟨none, 0, rfl, HBR.out, Rd.nil_, Nat.le_refl _⟩
        · have hq : decide ((60 : Int) < (L.length : Int)) = false := by simp; omega
          have HJ3 : Hid (joinL ds ms = (0, srtD L)) := by show _ = _; rw [← HJ2.out, joinL, if_neg h6]
          go_wp2_with fail
          go_ret2
          rw [HE.out, HR.out, HJ3.out]
          exact ⟨A0, c0, by rw [srt_len]; rfl, HBR.out, by rw [srt_len]; exact HDS.out, by rw [srt_len]; exact hc0⟩
end Go.Proofs.YtaomfjgleddpdaaGreat
