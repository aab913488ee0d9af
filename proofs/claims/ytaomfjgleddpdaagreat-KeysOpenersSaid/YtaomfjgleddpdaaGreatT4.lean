import Derived.Test.YtaomfjgleddpdaaGreatT3
import Derived.Test.YtaomfjgleddpdaaGreatP7
import Derived.OwnWalk
set_option linter.unusedVariables false
set_option linter.unusedSimpArgs false

/- Show. -/
namespace Go.Proofs.YtaomfjgleddpdaaGreat
open Go.RowKit Go.Shelf Go.Maps
attribute [local go_sem] Oper.semAt_some

theorem zero_cells (n : Nat) : (madeCells (Value.int .i64 0).cells (n * 1)).toList = (List.replicate n (0 : Int)).map fun x => Value.int .i64 x := by
  have h : (Value.int .i64 0).cells = #[.int .i64 0] := rfl
  rw [h, toList_madeCells_one, Nat.mul_one, List.map_replicate]
theorem make_size {w w' : World} {n : Nat} {xs : List Value} {e : TypeId} (h : w'.ownsRow w.heap.size e 1 (.slice (some ⟨w.heap.size, 0, none⟩) n n) n xs) (hb : Below w.heap.size w w') : w.heap.size < w'.heap.size := by
  rcases h.2 with ⟨h1, _⟩ | ⟨g, cap, cur, h1, h2, h3, _⟩
  · cases h1
  · have h4 := block_lt h3
    omega

set_option maxRecDepth 100000 in
set_option maxHeartbeats 4000000 in
theorem p_Show (ds : List Deed) (ps : List Int) (day kn : Int) (law : Bool) (A Ap : Option Addr) (n c np cp : Nat) (w : World) (hn : n ≤ 9223372036854775807) (hnp : np ≤ 1000000) (hd : Ds w w.heap.size A n ds) (hp : Is w w.heap.size Ap np ps) (hop : opErr ds ps day kn = 0) (hev : clF (cntDs kn ds) = false) :
    Calls Tryz.prog 65 #[.slice A n c, .slice Ap np cp, .int .i64 day, .int .i64 kn, .bool law] w fun e w' => Below w.heap.size w w' ∧ (witB (cntDs kn ds) ps day law = false → e = .returned (.tuple #[.slice none 0 0, .int .i64 3])) ∧
      (witB (cntDs kn ds) ps day law = true → ∃ (xs : List Int) (A' : Option Addr) (n' c' : Nat), e = .returned (.tuple #[.slice A' n' c', .int .i64 0]) ∧ Is w' w'.heap.size A' n' xs ∧ n' ≤ 60 ∧ trueB (cntDs kn ds) xs = true ∧ truB (cntDs kn ds) xs ps day = law) := by
  obtain ⟨i0, hi, hz0, hz1, hz2⟩ := info_parts infoInt
  have hck := (opErr_eq hop).1
  have hco := (p_checkOpening ds ps day kn A Ap n c np cp w hn hd hnp hp).mono (R' := fun e w' => ∃ A1 c1, e = .returned (.tuple #[.slice A1 (cntDs kn ds).length c1, .int .i64 0]) ∧ Below w.heap.size w w' ∧ Ds w' w'.heap.size A1 (cntDs kn ds).length (cntDs kn ds)) fun e w' h => by
    obtain ⟨A1, c1, h1, h2, _⟩ := h.2.2.2 hop hev
    exact ⟨A1, c1, h1, h.1, h2⟩
  have hc60 : (cntDs kn ds).length ≤ 60 := by have := cntDs_len kn ds; have := check_60 hck; omega
  have HOK := Lib.hid (cnt_ok hck kn)
  have HCO := Lib.hid hco
  have HEV := Lib.hid hev
  have HPS := Lib.hid hp
  obtain ⟨cs, hcs⟩ : ∃ cs, cntDs kn ds = cs := ⟨_, rfl⟩
  rw [hcs] at HOK HCO HEV hc60 ⊢
  obtain ⟨k1, hk1⟩ : ∃ k1, cs.length = k1 := ⟨_, rfl⟩
  rw [hk1] at HCO hc60
  have HK1 := Lib.hid hk1
  clear hco hcs hd hp hop hev hck hk1
  go_enter Tryz.func65, Tryz.ntmps65
  go_wp2_with fail
  refine HCO.out.mono ?_
  rintro e w1 ⟨A1, c1, rfl, hb1, hd1⟩
  have HB1 := Lib.hid hb1
  have HD1 := Lib.hid hd1
  clear hb1 hd1 HCO
  go_wp2_with fail
  refine (p_witnessX cs ps day law A1 Ap k1 c1 np cp w1 (by omega) HOK.out HD1.out hnp (HPS.out.now HB1.out)).mono ?_
  rintro e w2 ⟨hb2, hwf, hwt⟩
  have HB2 := Lib.hid (Below.then_ HB1.out hb2)
  have HD2 := Lib.hid (HD1.out.now hb2)
  cases hwb : witB cs ps day law with
  | false =>
    obtain rfl := hwf hwb
    clear hwf hwt hb2
    go_wp2_with fail
    go_ret2
    exact ⟨HB2.out, fun _ => rfl, fun h => absurd (hwb.symm.trans h) (by simp)⟩
  | true =>
    obtain ⟨x, L, m, hx, hcn, hL, rfl, hm0, hM⟩ := hwt hwb
    have HX := Lib.hid hx
    have HCN := Lib.hid hcn
    have HLL := Lib.hid hL
    obtain ⟨D, hD⟩ : ∃ D, hapN L x.1.2 x.2.1.2 x.2.2.2 x.1.1 x.2.1.1 x.2.2.1 3 = D := ⟨_, rfl⟩
    rw [hD] at hM
    have hval : ∀ nm v, getG D nm = some v → ∃ n : Nat, v = .int .i64 (n : Int) := fun nm v h => by
      rw [← hD] at h
      refine hap_val (fun j hj v hv => ?_) 3 (Nat.le_refl _) nm v h
      obtain ⟨g1, g2, g3⟩ := mem_scn hx
      have hr : ∀ {k : Int} {y : Nat × St}, y ∈ stsL (thr cs (k, 0)) day → 0 ≤ y.2.holder ∧ y.2.holder ≤ 99 := fun hy => ((sts_okP (thr_ok HOK.out _) hy).2).1
      have hh : 0 ≤ (st3 x.1.2 x.2.1.2 x.2.2.2 j).holder ∧ (st3 x.1.2 x.2.1.2 x.2.2.2 j).holder ≤ 99 := by
        obtain rfl | rfl | rfl : j = 0 ∨ j = 1 ∨ j = 2 := by omega
        · exact hr g1
        · exact hr g2
        · exact hr g3
      rw [hL _ hh.1 hh.2] at hv
      obtain ⟨y, _, _, rfl⟩ := off_last hv
      exact ⟨_, rfl⟩
    have HD0 := Lib.hid hD
    have HV := Lib.hid hval
    have HM := Lib.hid hM
    have hml := hM.lt
    clear hwf hwt hb2 hx hcn hL hval hD hM
    have hk1m : ((k1 : Int)) ≤ 60 := by omega
    go_wp2_with (first
      | (at_make; refine wpList_make_full _ rfl (.tmp 43) (.tmp 43) 32 rfl w2.heap.size 3 i0 _ 1 Tryz.underlying32 hi hz0 hz1 .i64 .i64 _ _ k1 rfl rfl rfl rfl (by rw [hz2]; omega) (by unfold maxLen; omega) (Nat.le_refl _) ?_; intro w3 hown3 hgrow3; have HB3 := Lib.hid ((Below.refl w2.heap.size w2).grown hgrow3 (Nat.le_refl _) (fun k e => by cases e)); have HW3 := Lib.hid hown3; clear hown3 hgrow3)
      | (go_at_call 91; refine (p_threads cs A1 k1 c1 _ (by omega) HOK.out (HD2.out.now HB3.out)).mono ?_; rintro e w4 ⟨bm, be, rfl, hbm, hth, hb4⟩; have HTH := Lib.hid (hth.read hbm); have HBM := Lib.hid hbm; clear hth hbm; have HB4 := Lib.hid hb4; have hs4 := hb4.size; obtain ⟨Lm, hMm, hLm⟩ := HTH.out.ex; obtain ⟨es, clock, hb, hnd, hlt⟩ := hMm.brn; have hrange := run_range_map (P := Tryz.prog) w4 123 126 122 bm es clock Tryz.underlying123 hb; have HND := Lib.hid hnd; have HLT := Lib.hid hlt; have HMB := Lib.hid hb; clear hnd hlt hb hMm hLm hb4))
    clear hrange
    have HTB := Lib.hid HTH.out.lt
    have HS3 : Hid (w2.heap.size < w3.heap.size) := by show _ < _; exact make_size HW3.out HB3.out
    go_loopw [] (fun wr => ∃ (seen : Array Nat) (c0 : Nat) (pre : List MapEntry) (ys : List Int), wr.heap[w4.heap.size]? = some (.mapIter (some bm) clock seen c0) ∧ clock ≤ c0 ∧ (pre ++ (leftOf es seen).toList).Perm es.toList ∧ wr.ownsRow w2.heap.size 3 1 (.slice (some ⟨w2.heap.size, 0, none⟩) k1 k1) k1 (ys.map fun x => .int .i64 x) ∧ SInv cs (hapH cs D) pre ys ∧ Below w2.heap.size w2 wr ∧ ButG w2.heap.size w4 wr ∧ w4.heap.size < wr.heap.size) (fun wr => leftN wr w4.heap.size es)
    case atStart =>
      refine ⟨#[], clock, [], List.replicate k1 0, World.alloc_heap_new w4 _, Nat.le_refl _, ?_, ?_, by rw [← HK1.out]; exact SInv.start _ _, (Below.then_ HB3.out HB4.out).alloc (Below.then_ HB3.out HB4.out).size _, fun k hk _ => Below.heap_alloc _ _ _ hk, by simp⟩
      · have h1 : (leftOf es #[]).toList = es.toList := by unfold leftOf; simp
        rw [h1]
        exact List.Perm.refl _
      · rw [← zero_cells]
        exact (own_ext HW3.out HB4.out).alloc _
    case round =>
      obtain ⟨seen, c0, pre, ys, hit, hc0, hperm, hown, hI, hB, hbg, hlt4⟩ := hrel
      obtain ⟨wo, rfl⟩ : ∃ wo : World, wo = wr := ⟨_, rfl⟩
      have HP := Lib.hid hperm
      have HO := Lib.hid hown
      have HI := Lib.hid hI
      have HB := Lib.hid hB
      have HBG := Lib.hid hbg
      have hbr := (hbg bm HTB.out (by have := HBM.out; have := HS3.out; omega)).trans HMB.out
      clear hperm hown hI hB hbg
      rcases run_next_at (P := Tryz.prog) wo 0 w4.heap.size bm clock c0 seen es clock hit hbr HLT.out hc0 with ⟨hz, hrun⟩ | ⟨e, he, w1', hw1, hrun⟩
      · have hpl : pre.Perm es.toList := by
          have h1 := HP.out
          rwa [List.eq_nil_of_length_eq_zero (l := (leftOf es seen).toList) (by simpa using hz), List.append_nil] at h1
        have hy0 := HI.out.done HTH.out HMB.out hpl
        have htr := shw_true HOK.out HEV.out (hapH cs D)
        have hla := show_law HOK.out HEV.out HX.out HCN.out HLL.out
        rw [HD0.out] at hla
        rw [← hy0] at htr hla
        have HTR := Lib.hid htr
        have HLA := Lib.hid hla
        clear hz hpl hbr hit hy0 htr hla
        go_wp2_with fail
        go_ret2
        exact ⟨Below.trans HB2.out (HB.out.mono (HB2.out.size)), fun h => absurd (hwb.symm.trans h) (by simp), fun _ => ⟨ys, _, _, _, rfl, Rd.of_own HO.out, hc60, HTR.out, HLA.out⟩⟩
      · obtain ⟨wx, hwx⟩ : ∃ wx, ChangeMaps.setBlock w1' w4.heap.size (.mapIter (some bm) clock (seen.push e.born) clock) = wx := ⟨_, rfl⟩
        have hmem := (mem_left he).1
        obtain ⟨l, p, Ad, Ai, As, cd, ci, cc, hkey, hval, hthr⟩ := thr_entry HTH.out HMB.out hmem
        have hwf := thr_wf HTH.out HMB.out hmem hkey
        have HK := Lib.hid hkey
        have hsz1 : w1'.heap = wo.heap := by rcases hw1 with rfl | rfl <;> rfl
        have hB1 : Below w2.heap.size w2 w1' := by
          rcases hw1 with rfl | rfl
          · exact HB.out
          · exact HB.out.drew
        have hlt1 : w4.heap.size < w1'.heap.size := by rw [hsz1]; exact block_lt hit
        have hit2 : wx.heap[w4.heap.size]? = some (.mapIter (some bm) clock (seen.push e.born) clock) := by rw [← hwx]; exact setBlock_get hlt1 _
        have hB2' : Below w2.heap.size w2 wx := by rw [← hwx]; exact below_setBlock hB1 (by have := HS3.out; omega) _
        have hbg2 : ButG w2.heap.size w4 wx := fun k hk hkg => by
          rw [← hwx, setBlock_other (by omega), hsz1]
          exact HBG.out k hk hkg
        have hbr2 : wx.heap[bm]? = some (.map es clock) := (hbg2 bm HTB.out (by have := HBM.out; have := HS3.out; omega)).trans HMB.out
        have hent := run_entry_at (P := Tryz.prog) wx w4.heap.size bm clock seen es clock e hit2 hbr2 hmem HND.out
        have hown2 : wx.ownsRow w2.heap.size 3 1 (.slice (some ⟨w2.heap.size, 0, none⟩) k1 k1) k1 (ys.map fun x => .int .i64 x) := by
          rw [← hwx]
          refine own_keep HO.out fun b hb => ?_
          have e1 : w2.heap.size = b := Option.some.inj (show some w2.heap.size = some b from hb)
          rw [setBlock_other (by have := HS3.out; omega), hsz1]
        have hsz2 : w4.heap.size < wx.heap.size := block_lt hit2
        have hp2 : ((pre ++ [e]) ++ (leftOf es (seen.push e.born)).toList).Perm es.toList := by
          refine List.Perm.trans ?_ HP.out
          rw [List.append_assoc]
          exact ((left_perm HND.out he).symm).append_left pre
        have hsh := left_shrinks es seen e he
        have hTl : (sub cs (l, p)).length ≤ 1000 := Nat.le_trans (sub_length_le _ _) (by have := HK1.out; omega)
        have hlx : ∀ y ∈ sub cs (l, p), y.2 < k1 := fun y hy => by have := (List.getElem?_eq_some_iff.1 (sub_mem.1 hy).1).1; have := HK1.out; omega
        have hmx : MapG nkk wf22 wx m D := HM.out.keep ((hbg2 m (by have := HS3.out; omega) (by omega)).trans (((Below.then_ HB3.out HB4.out).block m hml)))
        have hlk := ((hmx.alloc (.cells #[.int .i64 l, .int .i64 p] 126)).alloc (.cells #[.slice Ad (sub cs (l, p)).length cd, .slice Ai (sub cs (l, p)).length ci, .slice As (sub cs (l, p)).length cc] 122)).look2 key_names Tryz.underlying156 (a := (l, p)) hwf (zeroInt _)
        dsimp only at hlk
        rw [hwx] at hrun
        rw [hkey, hval] at hrun hent
        have HT5 := Lib.hid (hthr.keep (w' := (wx.alloc (.cells #[.int .i64 l, .int .i64 p] 126)).alloc (.cells #[.slice Ad (sub cs (l, p)).length cd, .slice Ai (sub cs (l, p)).length ci, .slice As (sub cs (l, p)).length cc] 122)) fun k h1 h2 => by
          rw [Below.heap_alloc _ _ _ (by simp; omega), Below.heap_alloc _ _ _ (by omega)]
          exact hbg2 k h2 (by have := HS3.out; omega))
        have HO5 := Lib.hid ((hown2.alloc (.cells #[.int .i64 l, .int .i64 p] 126)).alloc (.cells #[.slice Ad (sub cs (l, p)).length cd, .slice Ai (sub cs (l, p)).length ci, .slice As (sub cs (l, p)).length cc] 122))
        have HI5 := Lib.hid (show ((wx.alloc (.cells #[.int .i64 l, .int .i64 p] 126)).alloc (.cells #[.slice Ad (sub cs (l, p)).length cd, .slice Ai (sub cs (l, p)).length ci, .slice As (sub cs (l, p)).length cc] 122)).heap[w4.heap.size]? = some (.mapIter (some bm) clock (seen.push e.born) clock) by rw [Below.heap_alloc _ _ _ (by simp; omega), Below.heap_alloc _ _ _ (by omega)]; exact hit2)
        have HB5 := Lib.hid ((hB2'.alloc hB2'.size (.cells #[.int .i64 l, .int .i64 p] 126)).alloc (Nat.le_trans hB2'.size (by simp)) (.cells #[.slice Ad (sub cs (l, p)).length cd, .slice Ai (sub cs (l, p)).length ci, .slice As (sub cs (l, p)).length cc] 122))
        have HBG5 := Lib.hid (show ButG w2.heap.size w4 ((wx.alloc (.cells #[.int .i64 l, .int .i64 p] 126)).alloc (.cells #[.slice Ad (sub cs (l, p)).length cd, .slice Ai (sub cs (l, p)).length ci, .slice As (sub cs (l, p)).length cc] 122)) from fun k hk hkg => by rw [Below.heap_alloc _ _ _ (by simp; omega), Below.heap_alloc _ _ _ (by omega)]; exact hbg2 k hk hkg)
        have HLX := Lib.hid hlx
        have HSH := Lib.hid hsh
        have HP2 := Lib.hid hp2
        have HIT := Lib.hid hit
        have hs24 : w2.heap.size < w4.heap.size := by have := HS3.out; omega
        clear hwx hw1 hsz1 hlt1 hp2 hsh he hmem hit hit2 hbr hbr2 hB1 hB2' hbg2 hthr hown2 hkey hval hmx hlx HP
        cases hg : getG D (l, p) with
        | none =>
            rw [hg] at hlk
            simp only [Option.getD_none, Option.isSome_none] at hlk
            have hH : hapH cs D (l, p) = (sub cs (l, p)).length := hapH_none hg
            have hst := HI.out.step (e := e) (l := l) (p := p) HK.out
            rw [hH] at hst
            have HST := Lib.hid hst
            clear hg hH hst
            go_wp2_with fail
            refine (p_settle (sub cs (l, p)) (sub cs (l, p)).length ys (lo := w3.heap.size) (B := w4.heap.size) (g := w2.heap.size) (o := 0) (m := k1) (cap := k1) (base := w2.heap.size) _ hTl HT5.out (by simp; omega) (.inl (by have := HS3.out; omega)) (by omega) HLX.out (Nat.le_refl _) (by simp; omega) rfl HO5.out).mono ?_
            rintro e9 w9 ⟨⟨v9, rfl⟩, hown9, hb9, hbg9⟩
            have h9 : w9.heap[w4.heap.size]? = some (.mapIter (some bm) clock (seen.push e.born) clock) := (hbg9 _ (by simp; omega) (by have := HS3.out; omega)).trans HI5.out
            have HF9 := Lib.hid (And.intro h9 (And.intro hown9 (And.intro (Below.trans HB5.out hb9) (And.intro (show ButG w2.heap.size w4 w9 from fun k hk hkg => (hbg9 k (by simp; omega) hkg).trans (HBG5.out k hk hkg)) (show w4.heap.size < w9.heap.size from Nat.lt_of_lt_of_le hsz2 (Nat.le_trans (by simp; omega) hb9.size))))))
            have HM9 : Hid (leftN w9 w4.heap.size es < leftN wo w4.heap.size es) := by
              show _ < _
              unfold leftN
              rw [h9, HIT.out]
              exact HSH.out
            clear h9 hown9 hb9 hbg9 hlk
            go_wp2_with fail
            go_roundw
            case rel => exact ⟨_, _, _, _, HF9.out.1, Nat.le_refl _, HP2.out, HF9.out.2.1, HST.out, HF9.out.2.2.1, HF9.out.2.2.2.1, HF9.out.2.2.2.2⟩
            case measure => exact HM9.out
        | some v =>
            obtain ⟨q, rfl⟩ := HV.out _ _ hg
            rw [hg] at hlk
            simp only [Option.getD_some, Option.isSome_some] at hlk
            have hH : hapH cs D (l, p) = q := hapH_some hg
            have hst := HI.out.step (e := e) (l := l) (p := p) HK.out
            rw [hH] at hst
            have HST := Lib.hid hst
            clear hg hH hst
            go_wp2_with fail
            refine (p_settle (sub cs (l, p)) q ys (lo := w3.heap.size) (B := w4.heap.size) (g := w2.heap.size) (o := 0) (m := k1) (cap := k1) (base := w2.heap.size) _ hTl HT5.out (by simp; omega) (.inl (by have := HS3.out; omega)) (by omega) HLX.out (Nat.le_refl _) (by simp; omega) rfl HO5.out).mono ?_
            rintro e9 w9 ⟨⟨v9, rfl⟩, hown9, hb9, hbg9⟩
            have h9 : w9.heap[w4.heap.size]? = some (.mapIter (some bm) clock (seen.push e.born) clock) := (hbg9 _ (by simp; omega) (by have := HS3.out; omega)).trans HI5.out
            have HF9 := Lib.hid (And.intro h9 (And.intro hown9 (And.intro (Below.trans HB5.out hb9) (And.intro (show ButG w2.heap.size w4 w9 from fun k hk hkg => (hbg9 k (by simp; omega) hkg).trans (HBG5.out k hk hkg)) (show w4.heap.size < w9.heap.size from Nat.lt_of_lt_of_le hsz2 (Nat.le_trans (by simp; omega) hb9.size))))))
            have HM9 : Hid (leftN w9 w4.heap.size es < leftN wo w4.heap.size es) := by
              show _ < _
              unfold leftN
              rw [h9, HIT.out]
              exact HSH.out
            clear h9 hown9 hb9 hbg9 hlk
            go_wp2_with fail
            go_roundw
            case rel => exact ⟨_, _, _, _, HF9.out.1, Nat.le_refl _, HP2.out, HF9.out.2.1, HST.out, HF9.out.2.2.1, HF9.out.2.2.2.1, HF9.out.2.2.2.2⟩
            case measure => exact HM9.out

end Go.Proofs.YtaomfjgleddpdaaGreat
