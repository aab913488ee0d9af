import Derived.Test.YtaomfjgleddpdaaGreatT1
import Derived.Test.YtaomfjgleddpdaaGreatQ9
set_option linter.unusedVariables false
set_option linter.unusedSimpArgs false

/- A row of the walk's own is not frozen. -/
namespace Go.Proofs.YtaomfjgleddpdaaGreat
open Go.RowKit

theorem own_frz {w : World} {base size n g o cap : Nat} {e : TypeId} {xs : List Value} (h : w.ownsRow base e size (.slice (some ⟨g, o, none⟩) n cap) n xs) (ho : o = 0) (j : Nat) : w.frozen? ⟨g, j, none⟩ = false := by
  subst ho
  exact h.frozenAt j

end Go.Proofs.YtaomfjgleddpdaaGreat

/- settle: what it makes of the days. -/
namespace Go.Proofs.YtaomfjgleddpdaaGreat
open Go.RowKit
attribute [local go_sem] Oper.semAt_some

/-- The days, behind the first k deeds of a thread. -/
def updN (T : TL) (h : Nat) (ys : List Int) : Nat → List Int
  | 0 => ys
  | k + 1 => match T[k]? with
    | some x => (updN T h ys k).set x.2 (setI (T.map (·.1)) h k)
    | none => updN T h ys k
theorem updN_len (T : TL) (h : Nat) (ys : List Int) (k : Nat) : (updN T h ys k).length = ys.length := by
  induction k with
  | zero => rfl
  | succ k ih =>
    unfold updN
    split
    · rw [List.length_set, ih]
    · exact ih
theorem updN_other {T : TL} {h : Nat} {ys : List Int} {i : Nat} (k : Nat) (hi : ∀ p x, p < k → T[p]? = some x → x.2 ≠ i) : (updN T h ys k)[i]? = ys[i]? := by
  induction k with
  | zero => rfl
  | succ k ih =>
    have ih := ih fun p x hp => hi p x (by omega)
    unfold updN
    split
    · rename_i x hx
      rw [List.getElem?_set_ne (hi k x (by omega) hx), ih]
    · exact ih
theorem updN_at {T : TL} {h : Nat} {ys : List Int} (hd : T.Pairwise fun a b => a.2 < b.2) (hl : ∀ x ∈ T, x.2 < ys.length) {p : Nat} {x : Deed × Nat} (hx : T[p]? = some x) (k : Nat) (hk : p < k) : (updN T h ys k)[x.2]? = some (setI (T.map (·.1)) h p) := by
  induction k with
  | zero => omega
  | succ k ih =>
    by_cases hpk : p = k
    · subst hpk
      unfold updN
      rw [hx]
      simp only
      rw [List.getElem?_set_self (by rw [updN_len]; exact hl x (List.mem_of_getElem? hx))]
    · have ih := ih (by omega)
      unfold updN
      split
      · rename_i y hy
        have hlt := List.pairwise_iff_getElem.1 hd
        obtain ⟨h1, e1⟩ := List.getElem?_eq_some_iff.1 hx
        obtain ⟨h2, e2⟩ := List.getElem?_eq_some_iff.1 hy
        have h3 := hlt p k h1 h2 (by omega)
        rw [e1, e2] at h3
        rw [List.getElem?_set_ne (by omega), ih]
      · exact ih
theorem own_stored {w : World} {base size n g o cap : Nat} {e : TypeId} {xs : List Value} (h : w.ownsRow base e size (.slice (some ⟨g, o, none⟩) n cap) n xs) (ho : o = 0) (j : Nat) (u : Value) : (w.setCell ⟨g, o + j, none⟩ u).ownsRow base e size (.slice (some ⟨g, o, none⟩) n cap) n (xs.set j u) := by
  subst ho
  rw [Nat.zero_add]
  exact (h.stored j u).1
theorem own_cell {w : World} {base size n g o cap : Nat} {e : TypeId} {xs : List Value} (h : w.ownsRow base e size (.slice (some ⟨g, o, none⟩) n cap) n xs) (ho : o = 0) {j : Nat} (hj : j < n * size) : w.cell? ⟨g, o + j, none⟩ = xs[j]? := by
  subst ho
  rw [Nat.zero_add]
  exact h.cellAt j hj
/-- Nothing that was there is touched, but for one block. -/
def ButG (g : Nat) (w w' : World) : Prop := ∀ k, k < w.heap.size → k ≠ g → w'.heap[k]? = w.heap[k]?
theorem ButG.below {g : Nat} {w w1 w2 : World} (h : ButG g w w1) (hb : Below w1.heap.size w1 w2) (hs : w.heap.size ≤ w1.heap.size) : ButG g w w2 := fun k hk hg => (hb.block k (by omega)).trans (h k hk hg)
theorem ButG.set {g : Nat} {w w1 : World} (h : ButG g w w1) (o : Nat) (v : Value) : ButG g w (w1.setCell ⟨g, o, none⟩ v) := fun k hk hg => (Below.heap_setCell _ _ _ _ hg).trans (h k hk hg)

set_option maxRecDepth 100000 in
set_option maxHeartbeats 2000000 in
theorem p_settle (T : TL) (h : Nat) (ys : List Int) {Ad Ai As : Option Addr} {cd ci cs lo B g o m cap base : Nat} (w : World) (hTn : T.length ≤ 1000) (hT : ThrAt w lo B T Ad Ai As cd ci cs) (hB : B ≤ w.heap.size) (hg : g < lo ∨ B ≤ g) (hm : m ≤ 1000)
    (hl : ∀ x ∈ T, x.2 < m) (hbase : base ≤ g) (hgw : g < w.heap.size) (ho : o = 0) (hown : w.ownsRow base 3 1 (.slice (some ⟨g, o, none⟩) m cap) m (ys.map fun x => .int .i64 x)) :
    Calls Tryz.prog 131 #[.agg #[.slice Ad T.length cd, .slice Ai T.length ci, .slice As T.length cs], .slice (some ⟨g, o, none⟩) m cap, .int .i64 h] w fun e w' => (∃ v, e = .returned v) ∧
      w'.ownsRow base 3 1 (.slice (some ⟨g, o, none⟩) m cap) m ((updN T h ys T.length).map fun x => .int .i64 x) ∧ Below base w w' ∧ ButG g w w' := by
  have HT := Lib.hid hT
  have HL := Lib.hid hl
  have HO := Lib.hid ho
  have HW0 := Lib.hid hown
  clear hT hl ho hown
  go_enter Tryz.func131, Tryz.ntmps131
  go_wp2_with fail
  go_loopw [6, 14] (fun p i wr => ∃ k : Nat, k ≤ T.length ∧ i = .int .i64 k ∧ p = (if k ≤ h then Value.func (.func 93) #[.agg #[.slice Ad T.length cd, .slice Ai T.length ci, .slice As T.length cs]] #[] else Value.func (.func 94) #[.agg #[.slice Ad T.length cd, .slice Ai T.length ci, .slice As T.length cs]] #[]) ∧
    wr.ownsRow base 3 1 (.slice (some ⟨g, o, none⟩) m cap) m ((updN T h ys k).map fun x => .int .i64 x) ∧ Below base w wr ∧ ButG g w wr ∧ BoxA wr w.heap.size 122 #[.slice Ad T.length cd, .slice Ai T.length ci, .slice As T.length cs]) (fun _ i _ => T.length - (intOf i).toNat)
  case atStart => exact ⟨0, by omega, rfl, by rw [if_pos (Nat.zero_le _)], HW0.out.alloc _, (Below.refl _ _).alloc (by omega) _, fun k hk _ => Below.heap_alloc _ _ _ hk, BoxA.new w _ _⟩
  case round =>
    obtain ⟨k, hk, rfl, rfl, hw, hb, hbg, hbx⟩ := hrel
    obtain ⟨wo, rfl⟩ : ∃ wo : World, wo = wr := ⟨_, rfl⟩
    have HW := Lib.hid hw
    have HB := Lib.hid hb
    have HBG := Lib.hid hbg
    have HBX := Lib.hid hbx
    have hsz : w.heap.size ≤ wo.heap.size := hb.size
    have hbl := hbx.lt
    have HTo := Lib.hid (HT.out.keep (w' := wo) fun j h1 h2 => hbg j (by omega) (by omega))
    clear hw hb hbg hbx
    by_cases hlt : k < T.length
    · obtain ⟨⟨d, i⟩, hx⟩ : ∃ x, T[k]? = some x := ⟨_, List.getElem?_eq_getElem hlt⟩
      have him : i < m := HL.out _ (List.mem_of_getElem? hx)
      have hup : updN T h ys (k + 1) = (updN T h ys k).set i (setI (T.map (·.1)) h k) := by
        conv => lhs; unfold updN
        rw [hx]
      obtain ⟨bi, oi, xi, rfl, hbi, hxi, hci⟩ := (HTo.out.i.more (B' := wo.heap.size) (by omega)).at_ hlt
      rw [List.getElem?_map, hx] at hxi
      obtain rfl : xi = (i : Int) := by simpa using hxi.symm
      have HUP := Lib.hid hup
      have hcd := HTo.out.cd
      have hDS := Lib.hid (HTo.out.d.more (B' := wo.heap.size) (by omega))
      clear hx hup hxi
      have g1 : (k : Int) < (T.length : Int) := by omega
      have g2 : ¬ ((i : Int) < 0) := by omega
      have g3 : (i : Int) < (m : Int) := by omega
      have x0 := HBX.out.cell 0
      have x1 := HBX.out.cell 1
      have x2 := HBX.out.cell 2
      have hfin : ∀ (w2 : World) (v : Int), Below wo.heap.size wo w2 → setI (T.map (·.1)) h k = v → (w2.setCell ⟨g, o + i, none⟩ (.int .i64 v)).ownsRow base 3 1 (.slice (some ⟨g, o, none⟩) m cap) m ((updN T h ys (k + 1)).map fun x => .int .i64 x) ∧
          Below base w (w2.setCell ⟨g, o + i, none⟩ (.int .i64 v)) ∧ ButG g w (w2.setCell ⟨g, o + i, none⟩ (.int .i64 v)) ∧ BoxA (w2.setCell ⟨g, o + i, none⟩ (.int .i64 v)) w.heap.size 122 #[.slice Ad T.length cd, .slice (some ⟨bi, oi, none⟩) T.length ci, .slice As T.length cs] := fun w2 v hb2 hv => by
        refine ⟨?_, (HB.out.trans (hb2.mono (by omega))).setCell (by show base ≤ g; exact hbase) _, (HBG.out.below hb2 hsz).set _ _, boxa_other (HBX.out.ext hb2) (by show w.heap.size ≠ g; omega) _⟩
        rw [HUP.out, List.map_set, hv]
        exact own_stored (own_ext HW.out hb2) HO.out i _
      have HFIN := Lib.hid hfin
      have hcel : ∀ w2, Below wo.heap.size wo w2 → w2.cell? ⟨g, o + i, none⟩ = ((updN T h ys k).map fun x => Value.int .i64 x)[i]? := fun w2 hb2 => own_cell (own_ext HW.out hb2) HO.out (by omega)
      have hul : i < ((updN T h ys k).map fun x => Value.int .i64 x).length := by
        have := HW.out.1
        omega
      obtain ⟨u, hu⟩ : ∃ u, ((updN T h ys k).map fun x => Value.int .i64 x)[i]? = some u := ⟨_, List.getElem?_eq_getElem hul⟩
      have HCEL := Lib.hid hcel
      have HU := Lib.hid hu
      clear hfin hcel hu hul
      rcases Nat.lt_trichotomy k h with hkh | hkh | hkh
      · have e1 : ((k : Int) == (h : Int)) = false := by simp; omega
        have hse : setI (T.map (·.1)) h k = eaI ((T.map (·.1)).take (k + 1)) := by unfold setI; rw [if_pos hkh]
        have HSE := Lib.hid hse
        rw [if_pos (show k ≤ h by omega)]
        clear hse
        go_wp2_with fail
        refine (p_earliest (T.map (·.1)) k _ _ _ _ _ _ _ _ _ _ hlt (by omega) hcd hDS.out).mono ?_
        rintro e w2 ⟨rfl, hb2⟩
        have c9 := (HCEL.out w2 hb2).trans HU.out
        have f9 := own_frz (own_ext HW.out hb2) HO.out (o + i)
        have HF := Lib.hid (HFIN.out w2 _ hb2 HSE.out)
        clear hb2
        go_wp2_with fail
        go_roundw
        case rel =>
          obtain ⟨r1, r2, r3, r4⟩ := HF.out
          exact ⟨k + 1, by omega, by go_num, by rw [if_pos (show k + 1 ≤ h by omega)], r1, r2, r3, r4⟩
        case measure => simp [intOf] <;> omega
      · subst hkh
        have e1 : ((k : Int) == (k : Int)) = true := by simp
        have hse : setI (T.map (·.1)) k k = laI ((T.map (·.1)).drop k) := by unfold setI; rw [if_neg (by omega)]
        have HSE := Lib.hid hse
        rw [if_pos (Nat.le_refl k)]
        clear hse
        go_wp2_with fail
        refine (p_latest (T.map (·.1)) k _ _ _ _ _ _ _ _ _ _ (by omega) (by omega) hcd hDS.out).mono ?_
        rintro e w2 ⟨rfl, hb2⟩
        have c9 := (HCEL.out w2 hb2).trans HU.out
        have f9 := own_frz (own_ext HW.out hb2) HO.out (o + i)
        have HF := Lib.hid (HFIN.out w2 _ hb2 HSE.out)
        clear hb2
        go_wp2_with fail
        go_roundw
        case rel =>
          obtain ⟨r1, r2, r3, r4⟩ := HF.out
          exact ⟨k + 1, by omega, by go_num, by rw [if_neg (show ¬ k + 1 ≤ k by omega)], r1, r2, r3, r4⟩
        case measure => simp [intOf] <;> omega
      · have e1 : ((k : Int) == (h : Int)) = false := by simp; omega
        have hse : setI (T.map (·.1)) h k = laI ((T.map (·.1)).drop k) := by unfold setI; rw [if_neg (by omega)]
        have HSE := Lib.hid hse
        rw [if_neg (show ¬ k ≤ h by omega)]
        clear hse
        go_wp2_with fail
        refine (p_latest (T.map (·.1)) k _ _ _ _ _ _ _ _ _ _ (by omega) (by omega) hcd hDS.out).mono ?_
        rintro e w2 ⟨rfl, hb2⟩
        have c9 := (HCEL.out w2 hb2).trans HU.out
        have f9 := own_frz (own_ext HW.out hb2) HO.out (o + i)
        have HF := Lib.hid (HFIN.out w2 _ hb2 HSE.out)
        clear hb2
        go_wp2_with fail
        go_roundw
        case rel =>
          obtain ⟨r1, r2, r3, r4⟩ := HF.out
          exact ⟨k + 1, by omega, by go_num, by rw [if_neg (show ¬ k + 1 ≤ h by omega)], r1, r2, r3, r4⟩
        case measure => simp [intOf] <;> omega
    · obtain rfl : k = T.length := by omega
      go_wp2_with fail
      all_goals
        go_end0
        exact ⟨⟨_, rfl⟩, HW.out, HB.out, HBG.out⟩

end Go.Proofs.YtaomfjgleddpdaaGreat
