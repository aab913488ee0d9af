import Derived.Test.YtikioiblaoimkaaGreatDoorU3
import Derived.Deep.RegionWith
import Derived.IntWalk
set_option linter.unusedVariables false
set_option linter.unusedSimpArgs false

/- The reference's Words, Lines and Says. -/
namespace Go.Proofs.YtikioiblaoimkaaGreatDoor
open Go.RowKit
open Go.Lib (pieceU)

theorem infoStr : (Tryz.prog.info? 9).map (fun i => (i.zero, i.size, i.bytes)) = some (some (.string ⟨#[]⟩), 1, 16) := by kernel_rfl
/-- What hands back strings. -/
def RetS (ws : List (List UInt8)) (w : World) (e : Ending) (w' : World) : Prop :=
  ∃ A c, e = .returned (.slice A ws.length c) ∧ Below w.heap.size w w' ∧ Sts w' w'.heap.size A ws.length ws ∧ ws.length ≤ c ∧ c ≤ maxLen
theorem extract_strV (s : ByteArray) (a b : Nat) : Value.string (s.extract a b) = strV (pieceU s.data.toList a b) := by
  unfold strV
  congr 1
  apply ba_ext'
  rw [extract_piece]
theorem piece_snoc (s : ByteArray) (a k : Nat) (ha : a ≤ k) (hk : k < s.size) : pieceU s.data.toList a k ++ [s[k]] = pieceU s.data.toList a (k + 1) := by
  rw [← Lib.pieceU_grow _ a k 1 ha]
  congr 1
  have hd : s.data.toList.drop k = s[k] :: s.data.toList.drop (k + 1) := by
    rw [List.drop_eq_getElem_cons (by rw [← size_len]; exact hk)]
    rfl
  rw [hd]
  rfl
theorem piece_self (l : List UInt8) (a : Nat) : pieceU l a a = [] := by simp [pieceU]
theorem piece_len (l : List UInt8) (a b : Nat) : (pieceU l a b).length ≤ b - a := by simp [pieceU]; omega
/-- The bytes of a line, a space behind them. -/
def wdT (l : List UInt8) (k : Nat) : List (List UInt8) × List UInt8 := ((l ++ [32]).take k).foldl wdS ([], [])
theorem wdT_succ (l : List UInt8) (k : Nat) (b : UInt8) (h : (l ++ [32])[k]? = some b) : wdT l (k + 1) = wdS (wdT l k) b := by
  unfold wdT
  rw [take_snoc_some h, List.foldl_append]
  rfl
theorem wdT_all (l : List UInt8) {d : List (List UInt8)} {c : List UInt8} (h : wdT l (l.length + 1) = (d, c)) : d = wdL l := by
  have h1 := wd_fold l [] []
  have h2 : wdT l (l.length + 1) = wdS (l.foldl wdS ([], [])) 32 := by
    unfold wdT
    rw [List.take_of_length_le (by simp), List.foldl_append]
    rfl
  rw [h] at h2
  unfold wdS at h2
  rw [if_pos rfl] at h2
  have h3 : d = if (l.foldl wdS ([], [])).2 = [] then (l.foldl wdS ([], [])).1 else (l.foldl wdS ([], [])).1 ++ [(l.foldl wdS ([], [])).2] := (Prod.mk.inj h2).1
  rw [h3]
  unfold wdL
  rw [List.nil_append] at h1
  rw [← h1]
  split <;> simp_all
theorem wdT_byte (s : ByteArray) (k : Nat) (hk : k < s.size) : (s.data.toList ++ [32])[k]? = some s[k] := by
  rw [List.getElem?_append_left (by rw [← size_len]; exact hk), ba_at s k hk]
theorem wdT_end (s : ByteArray) : (s.data.toList ++ [32])[s.size]? = some 32 := by
  rw [size_len, List.getElem?_append_right (Nat.le_refl _)]
  simp
theorem wdS_len (l : List UInt8) : ∀ (d : List (List UInt8)) (c : List UInt8), (l.foldl wdS (d, c)).1.length ≤ d.length + l.length := by
  induction l with
  | nil => intro d c; simp
  | cons b l ih =>
    intro d c
    rw [List.foldl_cons]
    unfold wdS
    by_cases h : b = 32
    · simp only [h, if_true]
      by_cases hc : c = []
      · simp only [hc, if_true]; have := ih d []; simp; unfold wdS at this; omega
      · simp only [hc, if_false]; have := ih (d ++ [c]) []; simp at this ⊢; unfold wdS at this; omega
    · simp only [h, if_false]
      have := ih d (c ++ [b])
      simp
      unfold wdS at this
      omega
theorem wdT_len {l : List UInt8} {k : Nat} {d : List (List UInt8)} {c : List UInt8} (h : wdT l k = (d, c)) : d.length ≤ k := by
  have h1 := wdS_len ((l ++ [32]).take k) [] []
  have h2 : ((l ++ [32]).take k).length ≤ k := List.length_take_le _ _
  unfold wdT at h
  rw [h] at h1
  simp at h1
  omega

set_option maxRecDepth 10000 in
set_option maxHeartbeats 1000000 in
theorem r_Words (s : ByteArray) (w : World) (hs : s.size ≤ 100000) : Calls Tryz.prog 19 #[.string s] w (RetS (wdL s.data.toList) w) := by
  obtain ⟨i0, hi, hz0, hz1, hz2⟩ := info_parts infoStr
  go_enter Tryz.func19, Tryz.ntmps19
  go_wp2
  go_loopw [3, 4, 5] (fun v at_ i wr => ∃ (k a : Nat) (d : List (List UInt8)), k ≤ s.size + 1 ∧ a ≤ k ∧ i = .int .i64 k ∧ at_ = .int .i64 a ∧ wdT s.data.toList k = (d, pieceU s.data.toList a k) ∧ wr.ownsRow w.heap.size 9 1 v d.length (d.map strV) ∧ Below w.heap.size w wr) (fun _ _ i _ => s.size + 1 - (intOf i).toNat)
  case atStart => exact ⟨0, 0, [], by omega, by omega, rfl, rfl, by simp [wdT, pieceU], World.ownsRow_nil _ _ _ _, Below.refl _ _⟩
  case round =>
    obtain ⟨k, a, d, hk, ha, rfl, rfl, hst, hown, hB⟩ := hrel
    have hdl := wdT_len hst
    have HST := Lib.hid hst
    clear hst
    by_cases hle : k ≤ s.size
    · by_cases hc : k < s.size ∧ s[k]! ≠ 32
      · obtain ⟨hlt, h32⟩ := hc
        rw [getElem!_pos s k hlt] at h32
        have hi32 : ¬ ((s[k].toNat : Int) = 32) := fun e => h32 ((u8_32 _).2 (by omega))
        have HS : Hid (wdT s.data.toList (k + 1) = (d, pieceU s.data.toList a (k + 1))) := by
          show _ = _
          rw [wdT_succ _ _ _ (wdT_byte s k hlt), HST.out, wdS, if_neg h32, piece_snoc s a k ha hlt]
        clear h32
        go_wp2_with fail
        go_roundw
        case rel => exact ⟨k + 1, a, d, by omega, by omega, by go_num, rfl, HS.out, hown, hB⟩
        case measure => simp [intOf]; omega
      · have HBY : Hid (wdT s.data.toList (k + 1) = (if a < k then d ++ [pieceU s.data.toList a k] else d, pieceU s.data.toList (k + 1) (k + 1))) := by
          show _ = _
          have hb : (s.data.toList ++ [32])[k]? = some 32 := by
            by_cases hlt : k < s.size
            · rw [wdT_byte s k hlt]
              congr 1
              apply Decidable.byContradiction
              intro e
              exact hc ⟨hlt, by rw [getElem!_pos s k hlt]; exact e⟩
            · obtain rfl : k = s.size := by omega
              exact wdT_end s
          rw [wdT_succ _ _ _ hb, HST.out, wdS, if_pos rfl, piece_self]
          by_cases hak : a < k
          · have := Lib.pieceU_ne s.data.toList a k hak (by rw [← size_len]; exact hle)
            simp only [if_neg this, if_pos hak]
          · obtain rfl : a = k := by omega
            simp [piece_self]
        have h32 : k = s.size ∨ (k < s.size ∧ ∃ h : k < s.size, (s[k].toNat : Int) = 32) := by
          by_cases hlt : k < s.size
          · right
            refine ⟨hlt, hlt, ?_⟩
            have : s[k] = 32 := Decidable.byContradiction fun e => hc ⟨hlt, by rw [getElem!_pos s k hlt]; exact e⟩
            rw [this]
            rfl
          · left; omega
        clear hc
        by_cases hak : a < k
        · rw [if_pos hak] at HBY
          have hiak : (a : Int) < (k : Int) := by omega
          rcases h32 with he | ⟨hlt, hlt', hi32⟩
          · have hnlt : ¬ k < s.size := by omega
            clear he
            go_wp2_with (at_builtin; refine wpList_append_own _ rfl (.tmp 25) (.tmp 30) 52 rfl w.heap.size 9 i0 _ 1 16 Tryz.underlying52 hi hz0 hz1 hz2 rfl (by decide) _ _ _ rfl (hown.alloc _) ⟨wr.heap.size, 0, none⟩ 1 1 [.string (s.extract a k)] rfl rfl ?c1 ?c2 ?c3 ?c4 ?c5 ?_; rotate_left 5; intro v' w2 hown2 hgrow2 _)
            case c1 => intro j u hj; match j, hj with | 0, hj => simp at hj; subst hj; simp [Addr.add]
            case c2 => simp [Value.oneCell']
            case c3 => unfold maxLen; omega
            case c4 => omega
            case c5 => have := hB.size; simp; omega
            go_roundw
            case rel =>
              refine ⟨k + 1, k + 1, d ++ [pieceU s.data.toList a k], by omega, by omega, by go_num, by go_num, HBY.out, ?_, Below.appended hB ((Below.refl _ _).alloc (Nat.le_refl _) _) hown hgrow2⟩
              rw [List.map_append, List.length_append, List.map_cons, List.map_nil, ← extract_strV]
              exact hown2
            case measure => simp [intOf]; omega
          · go_wp2_with (at_builtin; refine wpList_append_own _ rfl (.tmp 25) (.tmp 30) 52 rfl w.heap.size 9 i0 _ 1 16 Tryz.underlying52 hi hz0 hz1 hz2 rfl (by decide) _ _ _ rfl (hown.alloc _) ⟨wr.heap.size, 0, none⟩ 1 1 [.string (s.extract a k)] rfl rfl ?c1 ?c2 ?c3 ?c4 ?c5 ?_; rotate_left 5; intro v' w2 hown2 hgrow2 _)
            case c1 => intro j u hj; match j, hj with | 0, hj => simp at hj; subst hj; simp [Addr.add]
            case c2 => simp [Value.oneCell']
            case c3 => unfold maxLen; omega
            case c4 => omega
            case c5 => have := hB.size; simp; omega
            go_roundw
            case rel =>
              refine ⟨k + 1, k + 1, d ++ [pieceU s.data.toList a k], by omega, by omega, by go_num, by go_num, HBY.out, ?_, Below.appended hB ((Below.refl _ _).alloc (Nat.le_refl _) _) hown hgrow2⟩
              rw [List.map_append, List.length_append, List.map_cons, List.map_nil, ← extract_strV]
              exact hown2
            case measure => simp [intOf]; omega
        · rw [if_neg hak] at HBY
          have hiak : ¬ (a : Int) < (k : Int) := by omega
          rcases h32 with he | ⟨hlt, hlt', hi32⟩
          · have hnlt : ¬ k < s.size := by omega
            clear he
            go_wp2_with fail
            go_roundw
            case rel => exact ⟨k + 1, k + 1, d, by omega, by omega, by go_num, by go_num, HBY.out, hown, hB⟩
            case measure => simp [intOf]; omega
          · go_wp2_with fail
            go_roundw
            case rel => exact ⟨k + 1, k + 1, d, by omega, by omega, by go_num, by go_num, HBY.out, hown, hB⟩
            case measure => simp [intOf]; omega
    · obtain rfl : k = s.size + 1 := by omega
      have HA : Hid (d = wdL s.data.toList) := by
        have h := HST.out
        rw [size_len] at h
        exact wdT_all _ h
      obtain ⟨A1, c1, hv, hcc⟩ := own_slice hown
      subst hv
      go_wp2
      go_ret
      have h := HA.out
      subst h
      exact ⟨A1, c1, rfl, hB, Rd.of_own hown, hcc.1, hcc.2⟩

end Go.Proofs.YtikioiblaoimkaaGreatDoor

/- The reference's Lines and Says. -/
namespace Go.Proofs.YtikioiblaoimkaaGreatDoor
open Go.RowKit
open Go.Lib (pieceU)

/-- The lines of a text; behind a line feed at its end there is none. -/
def lnR (l : List UInt8) : List (List UInt8) := (l.foldl lnS ([], [])).1 ++ (if (l.foldl lnS ([], [])).2 = [] then [] else [(l.foldl lnS ([], [])).2])
theorem spoken_lnR (l : List UInt8) : spokenL 0 (lnR l) = parsD l := by
  unfold lnR parsD lnL
  rw [spoken_last, ln_fold l [] []]
  simp
def lnT (l : List UInt8) (k : Nat) : List (List UInt8) × List UInt8 := (l.take k).foldl lnS ([], [])
theorem lnT_succ (l : List UInt8) (k : Nat) (b : UInt8) (h : l[k]? = some b) : lnT l (k + 1) = lnS (lnT l k) b := by
  unfold lnT
  rw [take_snoc_some h, List.foldl_append]
  rfl
theorem lnS_len (l : List UInt8) : ∀ (d : List (List UInt8)) (c : List UInt8), (l.foldl lnS (d, c)).1.length ≤ d.length + l.length := by
  induction l with
  | nil => intro d c; simp
  | cons b l ih =>
    intro d c
    rw [List.foldl_cons]
    unfold lnS
    by_cases h : b = 10
    · simp only [h, if_true]
      have := ih (d ++ [c]) []; simp at this ⊢; unfold lnS at this; omega
    · simp only [h, if_false]
      have := ih d (c ++ [b])
      simp
      unfold lnS at this
      omega
theorem lnT_len {l : List UInt8} {k : Nat} {d : List (List UInt8)} {c : List UInt8} (h : lnT l k = (d, c)) : d.length ≤ k := by
  have h1 := lnS_len (l.take k) [] []
  have h2 : (l.take k).length ≤ k := List.length_take_le _ _
  unfold lnT at h
  rw [h] at h1
  simp at h1
  omega
theorem u8_10 (b : UInt8) : b = 10 ↔ b.toNat = 10 := by
  constructor
  · rintro rfl; rfl
  · intro h; exact UInt8.toNat_inj.1 h
theorem lnR_of {s : ByteArray} {d : List (List UInt8)} {a : Nat} (h : lnT s.data.toList s.size = (d, pieceU s.data.toList a s.size)) (ha : a ≤ s.size) :
    lnR s.data.toList = if a < s.size then d ++ [pieceU s.data.toList a s.size] else d := by
  unfold lnT at h
  rw [fold_whole] at h
  unfold lnR
  rw [h]
  by_cases hlt : a < s.size
  · have := Lib.pieceU_ne s.data.toList a s.size hlt (by rw [← size_len]; exact Nat.le_refl _)
    simp only [if_neg this, if_pos hlt]
  · obtain rfl : a = s.size := by omega
    simp [piece_self]

set_option maxRecDepth 10000 in
set_option maxHeartbeats 1000000 in
theorem r_Lines (s : ByteArray) (w : World) (hs : s.size ≤ 100000) : Calls Tryz.prog 17 #[.string s] w (RetS (lnR s.data.toList) w) := by
  obtain ⟨i0, hi, hz0, hz1, hz2⟩ := info_parts infoStr
  go_enter Tryz.func17, Tryz.ntmps17
  go_wp2
  go_loopw [3, 4, 5] (fun v at_ i wr => ∃ (k a : Nat) (d : List (List UInt8)), k ≤ s.size ∧ a ≤ k ∧ i = .int .i64 k ∧ at_ = .int .i64 a ∧ lnT s.data.toList k = (d, pieceU s.data.toList a k) ∧ wr.ownsRow w.heap.size 9 1 v d.length (d.map strV) ∧ Below w.heap.size w wr) (fun _ _ i _ => s.size - (intOf i).toNat)
  case atStart => exact ⟨0, 0, [], by omega, by omega, rfl, rfl, by simp [lnT, pieceU], World.ownsRow_nil _ _ _ _, Below.refl _ _⟩
  case round =>
    obtain ⟨k, a, d, hk, ha, rfl, rfl, hst, hown, hB⟩ := hrel
    have hdl := lnT_len hst
    have HST := Lib.hid hst
    clear hst
    by_cases hlt : k < s.size
    · by_cases hc : s[k].toNat = 10
      · have hi10 : (s[k].toNat : Int) = 10 := by omega
        have HBY : Hid (lnT s.data.toList (k + 1) = (d ++ [pieceU s.data.toList a k], pieceU s.data.toList (k + 1) (k + 1))) := by
          show _ = _
          rw [lnT_succ _ _ _ (ba_at s k hlt), HST.out, lnS, if_pos ((u8_10 _).2 hc), piece_self]
        clear hc
        go_wp2_with (at_builtin; refine wpList_append_own _ rfl (.tmp 16) (.tmp 21) 52 rfl w.heap.size 9 i0 _ 1 16 Tryz.underlying52 hi hz0 hz1 hz2 rfl (by decide) _ _ _ rfl (hown.alloc _) ⟨wr.heap.size, 0, none⟩ 1 1 [.string (s.extract a k)] rfl rfl ?c1 ?c2 ?c3 ?c4 ?c5 ?_; rotate_left 5; intro v' w2 hown2 hgrow2 _)
        case c1 => intro j u hj; match j, hj with | 0, hj => simp at hj; subst hj; simp [Addr.add]
        case c2 => simp [Value.oneCell']
        case c3 => unfold maxLen; omega
        case c4 => omega
        case c5 => have := hB.size; simp; omega
        go_roundw
        case rel =>
          refine ⟨k + 1, k + 1, d ++ [pieceU s.data.toList a k], by omega, by omega, by go_num, by go_num, HBY.out, ?_, Below.appended hB ((Below.refl _ _).alloc (Nat.le_refl _) _) hown hgrow2⟩
          rw [List.map_append, List.length_append, List.map_cons, List.map_nil, ← extract_strV]
          exact hown2
        case measure => simp [intOf]; omega
      · have hi10 : ¬ (s[k].toNat : Int) = 10 := by omega
        have HBY : Hid (lnT s.data.toList (k + 1) = (d, pieceU s.data.toList a (k + 1))) := by
          show _ = _
          rw [lnT_succ _ _ _ (ba_at s k hlt), HST.out, lnS, if_neg (fun e => hc ((u8_10 _).1 e)), piece_snoc s a k ha hlt]
        clear hc
        go_wp2_with fail
        go_roundw
        case rel => exact ⟨k + 1, a, d, by omega, by omega, by go_num, rfl, HBY.out, hown, hB⟩
        case measure => simp [intOf]; omega
    · obtain rfl : k = s.size := by omega
      have HA := Lib.hid (lnR_of HST.out ha)
      by_cases hal : a < s.size
      · rw [if_pos hal] at HA
        go_wp2_with (at_builtin; refine wpList_append_own _ rfl (.tmp 29) (.tmp 33) 52 rfl w.heap.size 9 i0 _ 1 16 Tryz.underlying52 hi hz0 hz1 hz2 rfl (by decide) _ _ _ rfl (hown.alloc _) ⟨wr.heap.size, 0, none⟩ 1 1 [.string (s.extract a s.size)] rfl rfl ?c1 ?c2 ?c3 ?c4 ?c5 ?_; rotate_left 5; intro v' w2 hown2 hgrow2 _)
        case c1 => intro j u hj; match j, hj with | 0, hj => simp at hj; subst hj; simp [Addr.add]
        case c2 => simp [Value.oneCell']
        case c3 => unfold maxLen; omega
        case c4 => omega
        case c5 => have := hB.size; simp; omega
        obtain ⟨A1, c1, hv, hcc⟩ := own_slice hown2
        subst hv
        go_wp2
        go_ret
        rw [HA.out]
        have e : [Value.string (s.extract a s.size)] = [pieceU s.data.toList a s.size].map strV := by rw [List.map_cons, List.map_nil, extract_strV]
        rw [e, ← List.map_append] at hown2
        have hr := Rd.of_own hown2
        refine ⟨A1, c1, by simp, Below.appended hB ((Below.refl _ _).alloc (Nat.le_refl _) _) hown hgrow2, ?_, by simpa using hcc.1, hcc.2⟩
        simpa [Sts] using hr
      · rw [if_neg hal] at HA
        obtain ⟨A1, c1, hv, hcc⟩ := own_slice hown
        subst hv
        go_wp2
        go_ret
        rw [HA.out]
        exact ⟨A1, c1, rfl, hB, Rd.of_own hown, hcc.1, hcc.2⟩

theorem wdL_ne {s : ByteArray} (h : wdL s.data.toList ≠ []) : 0 < s.size := by
  rcases Nat.eq_zero_or_pos s.size with h0 | h0
  · rw [size_len] at h0
    rw [List.eq_nil_of_length_eq_zero h0, wdL_nil] at h
    exact absurd rfl h
  · exact h0
theorem says_ne {s : ByteArray} (h0 : 0 < s.size) (h : wdL s.data.toList ≠ []) : saysB s.data.toList = !decide ((s[0].toNat : Int) = 35) := by
  unfold saysB
  have e := ba_at s 0 h0
  rw [List.head?_eq_getElem?, e]
  have h1 : (wdL s.data.toList).isEmpty = false := by simpa using h
  rw [h1]
  have h2 : (some s[0] == some (35 : UInt8)) = decide ((s[0].toNat : Int) = 35) := by
    rw [Bool.eq_iff_iff]
    simp only [beq_iff_eq, Option.some.injEq, decide_eq_true_eq]
    constructor
    · intro e; rw [e]; rfl
    · intro e; exact UInt8.toNat_inj.1 (by have : s[0].toNat = 35 := by omega
                                           rw [this]; rfl)
  rw [h2]
  rfl

set_option maxHeartbeats 1000000 in
theorem r_Says (s : ByteArray) (w : World) (hs : s.size ≤ 100000) : Calls Tryz.prog 18 #[.string s] w fun e w' => e = .returned (.bool (saysB s.data.toList)) ∧ Below w.heap.size w w' := by
  by_cases h : wdL s.data.toList = []
  · have HS : Hid (saysB s.data.toList = false) := by show _ = _; simp [saysB, h]
    have hw := r_Words s w hs
    rw [h] at hw
    have HW := Lib.hid hw
    clear hw h
    go_enter Tryz.func18, Tryz.ntmps18
    go_wp2_with (go_at_call 19; refine HW.out.mono ?_; rintro e w1 ⟨A, c, rfl, hb1, _, _, _⟩)
    go_ret
    exact ⟨ret_bool (by rw [HS.out]), hb1⟩
  · have h0 := wdL_ne h
    have HS := Lib.hid (says_ne h0 h)
    have hw := r_Words s w hs
    obtain ⟨ws, hws⟩ : ∃ ws, wdL s.data.toList = ws := ⟨_, rfl⟩
    rw [hws] at hw h
    have hl : 0 < ws.length := List.length_pos_iff.2 h
    have HW := Lib.hid hw
    clear hw h hws
    by_cases h35 : (s[0].toNat : Int) = 35
    · have HT : Hid (saysB s.data.toList = false) := by show _ = _; rw [HS.out]; simp [h35]
      go_enter Tryz.func18, Tryz.ntmps18
      go_wp2_with (go_at_call 19; refine HW.out.mono ?_; rintro e w1 ⟨A, c, rfl, hb1, _, _, _⟩)
      go_ret
      exact ⟨ret_bool (by rw [HT.out]; try simp [h35]), hb1⟩
    · have HT : Hid (saysB s.data.toList = true) := by show _ = _; rw [HS.out]; simp [h35]
      go_enter Tryz.func18, Tryz.ntmps18
      go_wp2_with (go_at_call 19; refine HW.out.mono ?_; rintro e w1 ⟨A, c, rfl, hb1, _, _, _⟩)
      go_ret
      exact ⟨ret_bool (by rw [HT.out]; try simp [h35]), hb1⟩

end Go.Proofs.YtikioiblaoimkaaGreatDoor

/- The reference's Text, Row and Print. -/
namespace Go.Proofs.YtikioiblaoimkaaGreatDoor
open Go.RowKit

theorem conv_back1 (z : Int) (q : UInt8) (hq : (q.toNat : Int) = z) (W : World) (b cap : Nat) (hc : W.cell? ⟨b, 0, none⟩ = some (.int .u8 z)) :
    (convert 33 9 (.slice (some ⟨b, 0, none⟩) 1 cap)).run Tryz.prog W = .ok (.string ⟨#[q]⟩) W :=
  run_convert_bytes_back (P := Tryz.prog) W 33 9 5 ⟨b, 0, none⟩ cap [q] Tryz.underlying33 Tryz.underlying5 Tryz.underlying9 (fun j hj => by
    match j, hj with
    | 0, _ => rw [show (⟨b, 0, none⟩ : Addr).add 0 = ⟨b, 0, none⟩ from rfl, hc]; simp only [List.getElem_cons_zero]; rw [hq])

set_option maxRecDepth 10000 in
set_option maxHeartbeats 1000000 in
theorem r_Text_small (n : Nat) (w : World) (h10 : n < 10) : Calls Tryz.prog 39 #[.int .i64 n] w fun e w' => e = .returned (.string ⟨(Lib.decDigits n).toArray⟩) ∧ Below w.heap.size w w' := by
  have hi9 : ¬ (n : Int) < -9 := by omega
  have hi0 : ¬ (n : Int) < 0 := by omega
  have hi10 : (n : Int) < 10 := by omega
  have hz0 : 0 ≤ (n : Int) := by omega
  have HD := Lib.hid (dec_small h10)
  obtain ⟨q, hq⟩ : ∃ q, UInt8.ofNat (48 + n) = q := ⟨_, rfl⟩
  rw [hq] at HD
  have hcv := conv_back1 (48 + n) q (by rw [← hq, ofNat_toNat (by omega)]; omega)
  clear hq
  go_enter Tryz.func39, Tryz.ntmps39
  go_wp2_with fail
  go_ret
  refine ⟨?_, by (repeat' (first | with_reducible exact Below.refl _ _ | with_reducible assumption | with_reducible refine Below.alloc ?_ ?_ _ | with_reducible refine Below.setCell ?_ ?_ _ | with_reducible refine Below.drew ?_ | (simp; done) | (simp; omega) | omega))⟩
  rw [HD.out]
  rfl

set_option maxRecDepth 10000 in
set_option maxHeartbeats 400000 in
theorem r_Text (n : Nat) (w : World) (hn : n ≤ 1000000) : Calls Tryz.prog 39 #[.int .i64 n] w fun e w' => e = .returned (.string ⟨(Lib.decDigits n).toArray⟩) ∧ Below w.heap.size w w' := by
  induction n using Nat.strongRecOn generalizing w with
  | _ n ih =>
    by_cases h10 : n < 10
    · exact r_Text_small n w h10
    · have hi9 : ¬ (n : Int) < -9 := by omega
      have hi0 : ¬ (n : Int) < 0 := by omega
      have hi10 : ¬ (n : Int) < 10 := by omega
      have hz0 : 0 ≤ (n : Int) := by omega
      have HD := Lib.hid (dec_big h10)
      have HI := Lib.hid (fun W : World => ih (n / 10) (by omega) W (by omega))
      obtain ⟨m, hm⟩ : ∃ m, n / 10 = m := ⟨_, rfl⟩
      obtain ⟨r, hr⟩ : ∃ r, n % 10 = r := ⟨_, rfl⟩
      rw [hm] at HD HI
      rw [hr] at HD
      have hr9 : r ≤ 9 := by omega
      obtain ⟨q, hq⟩ : ∃ q, UInt8.ofNat (48 + r) = q := ⟨_, rfl⟩
      rw [hq] at HD
      have hcv := conv_back1 (48 + r) q (by rw [← hq, ofNat_toNat (by omega)]; omega)
      have hw1 : IntKind.i64.wrap ((n : Int) / 10) = (m : Int) := by rw [IntWalk.i64_in _ (by omega)]; omega
      have hw2 : (n : Int).tmod 10 = (r : Int) := by rw [Int.tmod_eq_emod_of_nonneg hz0]; omega
      have hw3 : IntKind.i64.wrap (48 + (r : Int)) = 48 + (r : Int) := IntWalk.i64_in _ (by omega)
      have hw4 : IntKind.u8.wrap (48 + (r : Int)) = 48 + (r : Int) := by simp [IntKind.wrap, IntKind.bits, IntKind.signed]; omega
      have hml : (Lib.decDigits m).length ≤ 7 := (dec_len 7 m (by omega) (by simp; omega)).2
      obtain ⟨dm, hdm⟩ : ∃ dm : ByteArray, ⟨(Lib.decDigits m).toArray⟩ = dm := ⟨_, rfl⟩
      obtain ⟨q1, hq1⟩ : ∃ q1 : ByteArray, ⟨#[q]⟩ = q1 := ⟨_, rfl⟩
      have hbig : dm.size + q1.size ≤ 9223372036854775807 := by
        have h1 : dm.size ≤ 7 := by rw [← hdm, size_len]; simpa using hml
        have h2 : q1.size = 1 := by rw [← hq1]; rfl
        omega
      have HR : Hid (dm ++ q1 = ⟨(Lib.decDigits n).toArray⟩) := by show _ = _; rw [← hdm, ← hq1, HD.out]; exact ByteArray.mk_append_mk _ _
      rw [hdm] at HI
      rw [hq1] at hcv
      clear ih hm hr hq hdm hq1
      go_enter Tryz.func39, Tryz.ntmps39
      go_wp2_with fail
      go_region_with (go_at_call 39; refine (HI.out _).mono ?_; rintro e w1 ⟨rfl, hb1⟩; obtain ⟨hc1, hf1⟩ := bcell hb1; have hs1 := hb1.size)
      all_goals
        go_wp2_with fail
        go_ret
        refine ⟨by rw [← HR.out]; rfl, ?_⟩
        first
          | exact Below.then_ (by (repeat' (first | with_reducible exact Below.refl _ _ | with_reducible assumption | with_reducible refine Below.alloc ?_ ?_ _ | with_reducible refine Below.setCell ?_ ?_ _ | with_reducible refine Below.drew ?_ | (simp; done) | (simp; omega) | omega))) hb1
          | exact (Below.then_ (by (repeat' (first | with_reducible exact Below.refl _ _ | with_reducible assumption | with_reducible refine Below.alloc ?_ ?_ _ | with_reducible refine Below.setCell ?_ ?_ _ | with_reducible refine Below.drew ?_ | (simp; done) | (simp; omega) | omega))) hb1).alloc hs1 _
          | (exact (Below.then_ (W := w.drew) (by (repeat' (first | with_reducible exact Below.refl _ _ | with_reducible assumption | with_reducible refine Below.alloc ?_ ?_ _ | with_reducible refine Below.setCell ?_ ?_ _ | with_reducible refine Below.drew ?_ | (simp; done) | (simp; omega) | omega))) hb1).alloc (by simpa using hs1) _)

end Go.Proofs.YtikioiblaoimkaaGreatDoor
