import Derived.Test.YtikioiblaoimkaaGreatDoorB7
import Derived.Shelf.SlSortCmp.NoneTotal
set_option linter.unusedVariables false
set_option linter.unusedSimpArgs false

/- Join and Add. -/
namespace Go.Proofs.YtikioiblaoimkaaGreatDoor
open Go.RowKit Go.Maps

def RetJ (zs : List Deed) (err : Int) (w : World) (e : Ending) (w' : World) : Prop :=
  ∃ A c, e = .returned (.tuple #[.slice A zs.length c, .int .i64 err]) ∧ Below w.heap.size w w' ∧ Ds w' w'.heap.size A zs.length zs ∧ zs.length ≤ c
theorem zeroDeed (w : World) : (zeroValue 41).run Tryz.prog w = .ok (.agg #[.int .i64 0, .int .i64 0, .int .i64 0, .int .i64 0, .int .i64 0, .int .i64 0, .int .i64 0, .int .i64 0, .int .i64 0]) w := by kernel_rfl
theorem deed_ne {a b : Deed} (h : ¬ a = b) : a.par ≠ b.par ∨ a.no ≠ b.no ∨ a.kind ≠ b.kind ∨ a.lock ≠ b.lock ∨ a.person ≠ b.person ∨ a.lo ≠ b.lo ∨ a.hi ≠ b.hi ∨ a.known ≠ b.known ∨ a.til ≠ b.til := by
  cases a; cases b
  simp only [Deed.mk.injEq] at h
  simp only
  omega

theorem upd_new {W : World} {bm : Nat} {L : List Deed} (x : Deed) (hM : MapG nkk wf22 W bm (toL L)) (hB : Born W bm) (hw : wf22 (kOf x)) (hf : findK x L = none) :
    ∃ es n, (Instr.mapUpdate 161 (.map (some bm)) (.agg #[.int .i64 x.par, .int .i64 x.no]) (.agg #[.int .i64 x.par, .int .i64 x.no, .int .i64 x.kind, .int .i64 x.lock, .int .i64 x.person, .int .i64 x.lo, .int .i64 x.hi, .int .i64 x.known, .int .i64 x.til])).run Tryz.prog W = .ok () (setObj' W bm (.map es n)) ∧ MapG nkk wf22 (setObj' W bm (.map es n)) bm (toL (L ++ [x])) ∧ Born (setObj' W bm (.map es n)) bm := by
  obtain ⟨es, nn, hrun, hM2⟩ := hM.update key_items Tryz.underlying161 hw (dV x)
  rw [putG_toL_new hf] at hM2
  exact ⟨es, nn, hrun, hM2, Born.update key_items Tryz.underlying161 hM hB hw (dV x) hrun⟩
theorem upd_old {W : World} {bm : Nat} {L : List Deed} (x : Deed) (hM : MapG nkk wf22 W bm (toL L)) (hB : Born W bm) (hw : wf22 (kOf x)) (hf : findK x L = some x) :
    ∃ es n, (Instr.mapUpdate 161 (.map (some bm)) (.agg #[.int .i64 x.par, .int .i64 x.no]) (.agg #[.int .i64 x.par, .int .i64 x.no, .int .i64 x.kind, .int .i64 x.lock, .int .i64 x.person, .int .i64 x.lo, .int .i64 x.hi, .int .i64 x.known, .int .i64 x.til])).run Tryz.prog W = .ok () (setObj' W bm (.map es n)) ∧ MapG nkk wf22 (setObj' W bm (.map es n)) bm (toL L) ∧ Born (setObj' W bm (.map es n)) bm := by
  obtain ⟨es, nn, hrun, hM2⟩ := hM.update key_items Tryz.underlying161 hw (dV x)
  rw [putG_toL_old hf] at hM2
  exact ⟨es, nn, hrun, hM2, Born.update key_items Tryz.underlying161 hM hB hw (dV x) hrun⟩
theorem look_new {W : World} {bm : Nat} {L : List Deed} (x : Deed) (hM : MapG nkk wf22 W bm (toL L)) (hw : wf22 (kOf x)) (hf : findK x L = none) :
    (Instr.lookup 161 (.map (some bm)) (.agg #[.int .i64 x.par, .int .i64 x.no]) true).run Tryz.prog W = .ok (.tuple #[.agg #[.int .i64 0, .int .i64 0, .int .i64 0, .int .i64 0, .int .i64 0, .int .i64 0, .int .i64 0, .int .i64 0, .int .i64 0], .bool false]) W := by
  have h := hM.look2 key_items Tryz.underlying161 hw (zeroDeed W)
  rw [getG_toL, show (L.find? fun d => decide (kOf d = kOf x)) = none from hf] at h
  exact h
theorem look_old {W : World} {bm : Nat} {L : List Deed} (x o : Deed) (hM : MapG nkk wf22 W bm (toL L)) (hw : wf22 (kOf x)) (hf : findK x L = some o) :
    (Instr.lookup 161 (.map (some bm)) (.agg #[.int .i64 x.par, .int .i64 x.no]) true).run Tryz.prog W = .ok (.tuple #[.agg #[.int .i64 o.par, .int .i64 o.no, .int .i64 o.kind, .int .i64 o.lock, .int .i64 o.person, .int .i64 o.lo, .int .i64 o.hi, .int .i64 o.known, .int .i64 o.til], .bool true]) W := by
  have h := hM.look2 key_items Tryz.underlying161 hw (zeroDeed W)
  rw [getG_toL, show (L.find? fun d => decide (kOf d = kOf x)) = some o from hf] at h
  exact h

set_option maxRecDepth 100000 in
set_option maxHeartbeats 4000000 in
theorem p_Join (h0 : SortNone) (ds ms : List Deed) (A B : Option Addr) (n c m d : Nat) (w : World) (hn : n ≤ 9223372036854775807) (hm : m ≤ 9223372036854775807) (hd : Ds w w.heap.size A n ds) (he : Ds w w.heap.size B m ms) :
    Calls Tryz.prog 67 #[.slice A n c, .slice B m d] w (RetJ (joinD ds ms) (joinE ds ms) w) := by
  have hmm := @run_makeMap Tryz.prog
  have HX := Lib.hid hd
  have HY := Lib.hid he
  have HLX := Lib.hid hd.len
  have HLY := Lib.hid he.len
  clear hd he
  cases hck : checkB ds with
  | false =>
    have HE : Hid (joinE ds ms = 11) := by show _ = _; rw [joinE, hck]; rfl
    have HR : Hid (joinD ds ms = []) := by show _ = _; rw [joinD, hck]; rfl
    have hpc : Calls Tryz.prog 10 #[.slice A n c] w fun e w' => e = .returned (.int .i64 11) ∧ Below w.heap.size w w' := by
      have h := p_check ds A n c w hn HX.out
      rw [hck] at h
      exact h
    have HPC := Lib.hid hpc
    clear hpc hck
    go_enter Tryz.func67, Tryz.ntmps67
    go_wp2_with (go_at_call 10; refine HPC.out.mono ?_; rintro e w1 ⟨rfl, hb1⟩)
    go_ret2
    rw [HE.out, HR.out]
    exact ⟨none, 0, rfl, hb1, Rd.nil_, Nat.le_refl _⟩
  | true =>
    have HE : Hid (joinE ds ms = (joinL ds ms).1) := by show _ = _; rw [joinE, hck]; rfl
    have HR : Hid (joinD ds ms = (joinL ds ms).2) := by show _ = _; rw [joinD, hck]; rfl
    have H60 := Lib.hid (check_60 hck)
    have h60 : n ≤ 60 := by have := H60.out; have := HLX.out; omega
    have HOK := Lib.hid (checkB_ok hck)
    have HKN := Lib.hid (checkB_sd hck).kn
    have hpc : Calls Tryz.prog 10 #[.slice A n c] w fun e w' => e = .returned (.int .i64 0) ∧ Below w.heap.size w w' := by
      have h := p_check ds A n c w hn HX.out
      rw [hck] at h
      exact h
    have HPC := Lib.hid hpc
    clear hpc hck
    go_enter Tryz.func67, Tryz.ntmps67
    go_wp2_with (go_at_call 10; refine HPC.out.mono ?_; rintro e w1 ⟨rfl, hb1⟩)
    have hs1 := hb1.size
    go_loopw [23] (fun i wr => ∃ k : Nat, k ≤ n ∧ i = .int .i64 k ∧ MapG nkk wf22 wr w1.heap.size (toL (ds.take k)) ∧ Born wr w1.heap.size ∧ Below w.heap.size w wr) (fun i _ => n - (intOf i).toNat)
    case atStart => exact ⟨0, by omega, rfl, MapG.made w1, Born.made w1, by (repeat' (first | with_reducible exact Below.refl _ _ | with_reducible assumption | with_reducible refine Below.alloc ?_ ?_ _ | with_reducible refine Below.setCell ?_ ?_ _ | with_reducible refine Below.drew ?_ | (simp; done) | (simp; omega) | omega))⟩
    case round =>
      obtain ⟨k, hk, rfl, hM, hBo, hB⟩ := hrel
      have hs0 : w.heap.size ≤ wr.heap.size := hB.size
      by_cases hlt : k < n
      · obtain ⟨b, o, x, rfl, hb, hxk, hat⟩ := (HX.out.ext hB (Nat.le_refl _)).at_ hlt
        have HK := Lib.hid hxk
        obtain ⟨a0, a1, a2, a3, a4, a5, a6, a7, a8⟩ := hat
        have hwf := okB_item (HOK.out x (List.mem_of_getElem? hxk))
        obtain ⟨es, nn, hrun, hM2, hB2⟩ := upd_new x (hM.alloc (.cells #[.int .i64 x.par, .int .i64 x.no, .int .i64 x.kind, .int .i64 x.lock, .int .i64 x.person, .int .i64 x.lo, .int .i64 x.hi, .int .i64 x.known, .int .i64 x.til] 41)) (hBo.alloc (.cells #[.int .i64 x.par, .int .i64 x.no, .int .i64 x.kind, .int .i64 x.lock, .int .i64 x.person, .int .i64 x.lo, .int .i64 x.hi, .int .i64 x.known, .int .i64 x.til] 41)) hwf (findK_take HKN.out hxk)
        rw [← take_snoc_some hxk] at hM2
        have HM2 := Lib.hid hM2
        have HB2 := Lib.hid hB2
        clear hM2 hB2 hM hBo hxk
        go_wp2
        go_roundw
        case rel => exact ⟨k + 1, by omega, by go_num, HM2.out, HB2.out, Below.setObj' (hB.alloc hs0 _) hs1 _⟩
        case measure => simp [intOf]; omega
      · obtain rfl : k = n := by omega
        have hMk := hM
        rw [List.take_of_length_le (by rw [HLX.out]; exact Nat.le_refl _)] at hMk
        clear hM
        have HMk := Lib.hid hMk
        have HBo := Lib.hid hBo
        clear hMk hBo
        go_wp2
        obtain ⟨wo, rfl⟩ : ∃ wo : World, wo = wr := ⟨_, rfl⟩
        go_loopw [34] (fun i wr => ∃ k : Nat, ∃ L : List Deed, k ≤ m ∧ i = .int .i64 k ∧ MapG nkk wf22 wr w1.heap.size (toL L) ∧ Born wr w1.heap.size ∧ Below w.heap.size w wr ∧ joinL L (ms.drop k) = joinL ds ms ∧ KN L) (fun i _ => m - (intOf i).toNat)
        case atStart => exact ⟨0, ds, by omega, rfl, HMk.out, HBo.out, hB, rfl, HKN.out⟩
        case round =>
          obtain ⟨j, L, hj, rfl, hM, hBo, hBr, hjl, hkn⟩ := hrel
          have hsr : w.heap.size ≤ wr.heap.size := hBr.size
          have HM := Lib.hid hM
          have HBR := Lib.hid hBr
          have HBO := Lib.hid hBo
          have HJ := Lib.hid hjl
          have HK2 := Lib.hid hkn
          clear hjl hkn hM hBo
          by_cases hlt2 : j < m
          · obtain ⟨b, o, x, rfl, hb, hxk, hat⟩ := (HY.out.ext hBr (Nat.le_refl _)).at_ hlt2
            have HK := Lib.hid hxk
            have HDC := Lib.hid (drop_cons hxk)
            obtain ⟨a0, a1, a2, a3, a4, a5, a6, a7, a8⟩ := hat
            have hbr : b < wr.heap.size := by omega
            clear hxk
            cases hok : x.okB with
            | false =>
              have HO := Lib.hid hok
              have HJ2 : Hid (joinL ds ms = (10, [])) := by show _ = _; rw [← HJ.out, HDC.out, joinL, HO.out]; rfl
              clear hok
              go_wp2_with fail
              refine (p_checkDeed_no x _ (by rw [HO.out]; simp)).mono ?_
              rintro e w3 ⟨rfl, hb3⟩
              go_wp2_with fail
              go_ret2
              rw [HE.out, HR.out, HJ2.out]
              exact ⟨none, 0, rfl, Below.then_ (hBr.alloc hsr _) hb3, Rd.nil_, Nat.le_refl _⟩
            | true =>
              have HO := Lib.hid hok
              have hwf := okB_item hok
              clear hok
              go_wp2_with fail
              refine (p_checkDeed_ok x _ HO.out).mono ?_
              rintro e w3 ⟨rfl, hb3⟩
              have hM3 := (HM.out.alloc (.cells #[.int .i64 x.par, .int .i64 x.no, .int .i64 x.kind, .int .i64 x.lock, .int .i64 x.person, .int .i64 x.lo, .int .i64 x.hi, .int .i64 x.known, .int .i64 x.til] 41)).ext hb3
              have hB3 := (HBO.out.alloc (.cells #[.int .i64 x.par, .int .i64 x.no, .int .i64 x.kind, .int .i64 x.lock, .int .i64 x.person, .int .i64 x.lo, .int .i64 x.hi, .int .i64 x.known, .int .i64 x.til] 41)).ext hb3
              have bx3 := (BoxA.new wr 41 #[.int .i64 x.par, .int .i64 x.no, .int .i64 x.kind, .int .i64 x.lock, .int .i64 x.person, .int .i64 x.lo, .int .i64 x.hi, .int .i64 x.known, .int .i64 x.til]).ext hb3
              have HBW : Below w.heap.size w w3 := Below.then_ (hBr.alloc hsr _) hb3
              have hz3 : wr.heap.size < w3.heap.size := bx3.lt
              have c0 := bx3.cell 0
              have c1 := bx3.cell 1
              have c2 := bx3.cell 2
              have c3 := bx3.cell 3
              have c4 := bx3.cell 4
              have c5 := bx3.cell 5
              have c6 := bx3.cell 6
              have c7 := bx3.cell 7
              have c8 := bx3.cell 8
              clear a0 a1 a2 a3 a4 a5 a6 a7 a8 bx3
              cases hf : findK x L with
              | none =>
                have hl := look_new x hM3 hwf hf
                obtain ⟨es, nn, hrun, hM4, hB4⟩ := upd_new x (hM3.alloc (.cells #[.int .i64 0, .int .i64 0, .int .i64 0, .int .i64 0, .int .i64 0, .int .i64 0, .int .i64 0, .int .i64 0, .int .i64 0] 41)) (hB3.alloc _) hwf hf
                have HF := Lib.hid hf
                have HM4 := Lib.hid hM4
                have HB4 := Lib.hid hB4
                clear hf hM4 hB4 hM3 hB3
                go_wp2_with fail
                go_roundw
                case rel => exact ⟨j + 1, L ++ [x], by omega, by go_num, HM4.out, HB4.out, Below.setObj' (HBW.alloc HBW.size _) hs1 _, by rw [← HJ.out, HDC.out, joinL, HO.out, HF.out]; rfl, HK2.out.snoc HF.out⟩
                case measure => simp [intOf]; omega
              | some y =>
                have hl := look_old x y hM3 hwf hf
                by_cases hyx : y = x
                · subst hyx
                  obtain ⟨es, nn, hrun, hM4, hB4⟩ := upd_old y (hM3.alloc (.cells #[.int .i64 y.par, .int .i64 y.no, .int .i64 y.kind, .int .i64 y.lock, .int .i64 y.person, .int .i64 y.lo, .int .i64 y.hi, .int .i64 y.known, .int .i64 y.til] 41)) (hB3.alloc _) hwf hf
                  have HF := Lib.hid hf
                  have HM4 := Lib.hid hM4
                  have HB4 := Lib.hid hB4
                  clear hf hM4 hB4 hM3 hB3
                  go_wp2_with fail
                  go_roundw
                  case rel => exact ⟨j + 1, L, by omega, by go_num, HM4.out, HB4.out, Below.setObj' (HBW.alloc HBW.size _) hs1 _, by rw [← HJ.out, HDC.out, joinL, HO.out, HF.out]; simp, HK2.out⟩
                  case measure => simp [intOf]; omega
                · have HF := Lib.hid hf
                  have HYX := Lib.hid hyx
                  have HJ2 : Hid (joinL ds ms = (12, [])) := by show _ = _; rw [← HJ.out, HDC.out, joinL, HO.out, HF.out]; simp [HYX.out]
                  clear hf hM3 hB3
                  rcases deed_ne hyx with hq | hq | hq | hq | hq | hq | hq | hq | hq
                  all_goals
                    clear hyx
                    go_wp2_with fail
                    go_ret2
                    rw [HE.out, HR.out, HJ2.out]
                    exact ⟨none, 0, rfl, HBW.alloc HBW.size _, Rd.nil_, Nat.le_refl _⟩
          · have hjm : j = m := by omega
            have HJ2 : Hid (joinL L [] = joinL ds ms) := by show _ = _; rw [← HJ.out, List.drop_of_length_le (by rw [HLY.out, hjm]; exact Nat.le_refl _)]
            have HJM := Lib.hid hjm
            have hlen := fun ty => HM.out.len Tryz.underlying161 ty
            have hll : (toL L).length = L.length := by simp [toL]
            rw [hll] at hlen
            clear hjm hll
            by_cases h6 : 60 < L.length
            · have hq : decide ((60 : Int) < (L.length : Int)) = true := by simp; omega
              have HJ3 : Hid (joinL ds ms = (2, [])) := by show _ = _; rw [← HJ2.out, joinL, if_pos h6]
              go_wp2_with fail
              go_ret2
              rw [HE.out, HR.out, HJ3.out]
              exact ⟨none, 0, rfl, hBr, Rd.nil_, Nat.le_refl _⟩
            · have hq : decide ((60 : Int) < (L.length : Int)) = false := by simp; omega
              have HJ3 : Hid (joinL ds ms = (0, srtD L)) := by show _ = _; rw [← HJ2.out, joinL, if_neg h6]
              have hL6 : L.length ≤ 60 := by omega
              have hv := p_Values (some w1.heap.size) wr
              have HV := Lib.hid hv
              have hs := p_SortedFunc h0 wr.heap.size w1.heap.size L (wr.alloc (.cells #[.map (some w1.heap.size)] 161)) (by omega) (by simp) ((BoxA.new wr _ _).cell 0) (HM.out.alloc _) (HBO.out.alloc _)
              have HS := Lib.hid hs
              clear hv hs
              go_wp2_with fail
              refine HV.out.mono ?_
              rintro e w3 ⟨rfl, rfl⟩
              go_wp2_with fail
              refine HS.out.mono ?_
              rintro e w4 ⟨zs, A4, c4, rfl, hp, hso, hd4, hc4, hb4⟩
              have hz := sorted_srtD hp hso HK2.out
              subst hz
              have HD4 := Lib.hid hd4
              clear hp hso hd4
              go_wp2_with fail
              go_ret2
              rw [HE.out, HR.out, HJ3.out]
              exact ⟨A4, c4, rfl, Below.then_ (hBr.alloc hsr _) hb4, HD4.out, hc4⟩

def addE (ds : List Deed) (x : Deed) : Int := joinE ds [x]
theorem p_Add (h0 : SortNone) (ds : List Deed) (x : Deed) (A : Option Addr) (n c : Nat) (w : World) (hn : n ≤ 9223372036854775807) (hd : Ds w w.heap.size A n ds) :
    Calls Tryz.prog 29 #[.slice A n c, .agg #[.int .i64 x.par, .int .i64 x.no, .int .i64 x.kind, .int .i64 x.lock, .int .i64 x.person, .int .i64 x.lo, .int .i64 x.hi, .int .i64 x.known, .int .i64 x.til]] w (RetJ (joinD ds [x]) (joinE ds [x]) w) := by
  have HX := Lib.hid hd
  clear hd
  go_enter Tryz.func29, Tryz.ntmps29
  go_wp2_with fail
  refine (p_Join h0 ds [x] _ _ _ _ 1 1 _ hn (by decide) (HX.out.now (by (repeat' (first | with_reducible exact Below.refl _ _ | with_reducible assumption | with_reducible refine Below.alloc ?_ ?_ _ | with_reducible refine Below.setCell ?_ ?_ _ | with_reducible refine Below.drew ?_ | (simp; done) | (simp; omega) | omega)))) (Rd.new _ #[.int .i64 x.par, .int .i64 x.no, .int .i64 x.kind, .int .i64 x.lock, .int .i64 x.person, .int .i64 x.lo, .int .i64 x.hi, .int .i64 x.known, .int .i64 x.til] _ 9 1 _ (by simp) rfl)).mono ?_
  rintro e w1 ⟨A1, c1, rfl, hb1, hd1, hc1⟩
  have HD1 := Lib.hid hd1
  clear hd1
  go_wp2_with fail
  go_ret2
  exact ⟨A1, c1, rfl, Below.then_ (by (repeat' (first | with_reducible exact Below.refl _ _ | with_reducible assumption | with_reducible refine Below.alloc ?_ ?_ _ | with_reducible refine Below.setCell ?_ ?_ _ | with_reducible refine Below.drew ?_ | (simp; done) | (simp; omega) | omega))) hb1, HD1.out, hc1⟩

end Go.Proofs.YtikioiblaoimkaaGreatDoor

/- slices.SortFunc at no element; Join and Add, whole. -/
namespace Go.Proofs.YtikioiblaoimkaaGreatDoor
open Go.RowKit Go.Shelf Go.Proofs

theorem sortNone : SortNone := fun A c w => (AnyF.slices_SortFunc_none Tryz.sortDeeds A c (.func (.func 34) #[] #[]) w).mono fun _ _ ⟨he, hw⟩ => ⟨he, hw ▸ Below.refl _ _⟩

end Go.Proofs.YtikioiblaoimkaaGreatDoor
