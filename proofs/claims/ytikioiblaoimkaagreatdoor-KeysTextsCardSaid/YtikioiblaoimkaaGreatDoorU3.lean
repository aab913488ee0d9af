import Derived.Test.YtikioiblaoimkaaGreatDoorU1
import Derived.Test.YtikioiblaoimkaaGreatDoorA1
import Derived.Lib.ConvBytes
import Derived.Laws.IdiomStrings
import Derived.Test.YtikioiblaoimkaaGreatDoorB3
set_option linter.unusedVariables false
set_option linter.unusedSimpArgs false

/- The number that a word is. -/
namespace Go.Proofs.YtikioiblaoimkaaGreatDoor
open Go.RowKit

def numV (l : List UInt8) : Int := ((numO l 6).getD 0 : Nat)
def numB (l : List UInt8) : Bool := (numO l 6).isSome
theorem num_none {l : List UInt8} (h : numO l 6 = none) : numV l = 0 ∧ numB l = false := by simp [numV, numB, h]
theorem num_some {l : List UInt8} {n : Nat} (h : numO l 6 = some n) : numV l = n ∧ numB l = true := by simp [numV, numB, h]
theorem size_len (s : ByteArray) : s.size = s.data.toList.length := Lib.size_eq s
theorem num_out {s : ByteArray} (h : s.size = 0 ∨ 6 < s.size) : numO s.data.toList 6 = none := by
  rw [size_len] at h
  unfold numO
  rw [if_pos (by omega)]
theorem ba_at (s : ByteArray) (k : Nat) (h : k < s.size) : s.data.toList[k]? = some s[k] := by
  rw [List.getElem?_eq_getElem (by rw [← size_len]; exact h)]
  rfl
theorem num_lead {s : ByteArray} (h1 : 1 < s.size) (h : s[0].toNat = 48) : numO s.data.toList 6 = none := by
  have h0 := ba_at s 0 (by omega)
  have e : s[0] = 48 := UInt8.toNat_inj.1 h
  rw [size_len] at h1
  unfold numO
  rw [if_pos (.inr (.inr ⟨h1, by rw [List.head?_eq_getElem?, h0, e]⟩))]
theorem num_fold {s : ByteArray} (h0 : 0 < s.size) (h6 : s.size ≤ 6) (h : s.size ≤ 1 ∨ s[0].toNat ≠ 48) : numO s.data.toList 6 = s.data.toList.foldl digS (some 0) := by
  have e0 := ba_at s 0 h0
  rw [size_len] at h0 h6
  unfold numO
  rw [if_neg]
  rintro (h1 | h1 | ⟨h1, h2⟩)
  · omega
  · omega
  · rcases h with h | h
    · rw [size_len] at h; omega
    · rw [List.head?_eq_getElem?, e0] at h2
      injection h2 with h2
      exact h (by rw [h2]; rfl)
theorem fold_snoc (s : ByteArray) (k m : Nat) (hk : k < s.size) (h : (s.data.toList.take k).foldl digS (some 0) = some m) (h1 : 48 ≤ s[k].toNat) (h2 : s[k].toNat ≤ 57) :
    (s.data.toList.take (k + 1)).foldl digS (some 0) = some (10 * m + (s[k].toNat - 48)) := by
  rw [take_snoc_some (ba_at s k hk), List.foldl_append, h]
  simp only [List.foldl_cons, List.foldl_nil, digS, Option.bind_some]
  rw [if_pos ⟨h1, h2⟩]
theorem fold_bad (s : ByteArray) (k m : Nat) (hk : k < s.size) (h : (s.data.toList.take k).foldl digS (some 0) = some m) (h1 : ¬ (48 ≤ s[k].toNat ∧ s[k].toNat ≤ 57)) : s.data.toList.foldl digS (some 0) = none := by
  rw [← List.take_append_drop k s.data.toList, List.foldl_append, h]
  have hd : s.data.toList.drop k = s[k] :: s.data.toList.drop (k + 1) := by
    rw [List.drop_eq_getElem_cons (by rw [← size_len]; exact hk)]
    rfl
  rw [hd, List.foldl_cons]
  have e : digS (some m) s[k] = none := by simp only [digS, Option.bind_some]; rw [if_neg h1]
  rw [e, fold_none]
theorem fold_lt (s : ByteArray) (k m : Nat) (h6 : k ≤ 6) (h : (s.data.toList.take k).foldl digS (some 0) = some m) : m < 1000000 := by
  have h1 := dig_lt h
  have h2 : (s.data.toList.take k).length ≤ k := List.length_take_le _ _
  have h3 : 10 ^ (s.data.toList.take k).length ≤ 10 ^ 6 := Nat.pow_le_pow_right (by omega) (by omega)
  simp at h1 h3
  omega
theorem fold_whole (s : ByteArray) : s.data.toList.take s.size = s.data.toList := List.take_of_length_le (by rw [← size_len]; exact Nat.le_refl _)
theorem tl_ne {s : ByteArray} (h : 0 < s.size) : ¬ s.toList = [] := by
  rw [Lib.toList_data]
  intro e
  rw [size_len, e] at h
  simp at h
theorem tl_nil {s : ByteArray} (h : s.size = 0) : s.toList = [] := by
  rw [Lib.toList_data]
  rw [size_len] at h
  exact List.eq_nil_of_length_eq_zero h


set_option maxHeartbeats 1000000 in
theorem r_Number (s : ByteArray) (w : World) (hs : s.size ≤ 100000) :
    Calls Tryz.prog 43 #[.string s, .int .i64 6] w fun e w' => e = .returned (.tuple #[.int .i64 (numV s.data.toList), .bool (numB s.data.toList)]) ∧ w = w' := by
  by_cases h0 : s.size = 0
  · have HN := Lib.hid (num_none (num_out (s := s) (.inl h0)))
    have ht := tl_nil h0
    clear h0
    go_enter Tryz.func43, Tryz.ntmps43
    go_wp2_with fail
    refine bodyPost_ret (v := .tuple #[.int .i64 0, .bool false]) (by simp [results, Tryz.f43, go_sem]) rfl ⟨by rw [HN.out.1, HN.out.2], rfl⟩
  · have hp : 0 < s.size := by omega
    have ht := tl_ne hp
    have ht2 : s.toList.isEmpty = false := by simpa using ht
    by_cases h6 : 6 < s.size
    · have HN := Lib.hid (num_none (num_out (s := s) (.inr h6)))
      have hi6 : 6 < (s.size : Int) := by omega
      go_enter Tryz.func43, Tryz.ntmps43
      go_wp2_with fail
      refine bodyPost_ret (v := .tuple #[.int .i64 0, .bool false]) (by simp [results, Tryz.f43, go_sem]) rfl ⟨by rw [HN.out.1, HN.out.2], rfl⟩
    · have hi6 : (s.size : Int) ≤ 6 := by omega
      by_cases h48 : s[0].toNat = 48
      · have hi48 : (s[0].toNat : Int) = 48 := by omega
        by_cases h1 : 1 < s.size
        · have HN := Lib.hid (num_none (num_lead h1 h48))
          have hi1 : 1 < (s.size : Int) := by omega
          clear h48
          go_enter Tryz.func43, Tryz.ntmps43
          go_wp2_with fail
          refine bodyPost_ret (v := .tuple #[.int .i64 0, .bool false]) (by simp [results, Tryz.f43, go_sem]) rfl ⟨by rw [HN.out.1, HN.out.2], rfl⟩
        · have HF := Lib.hid (num_fold hp (by omega) (.inl (by omega)))
          have hi1 : (s.size : Int) ≤ 1 := by omega
          clear h48
          go_enter Tryz.func43, Tryz.ntmps43
          go_wp2_with fail
          go_loop [6, 7] (fun n i => ∃ k m : Nat, k ≤ s.size ∧ i = .int .i64 k ∧ n = .int .i64 m ∧ (s.data.toList.take k).foldl digS (some 0) = some m) (fun _ i => s.size - (intOf i).toNat)
          case atStart => exact ⟨0, 0, by omega, rfl, rfl, rfl⟩
          case round =>
            obtain ⟨k, m, hk, rfl, rfl, hf⟩ := hrel
            have hm := fold_lt s k m (by omega) hf
            by_cases hlt : k < s.size
            · by_cases hd : 48 ≤ s[k].toNat ∧ s[k].toNat ≤ 57
              · have HS := Lib.hid (fold_snoc s k m hlt hf hd.1 hd.2)
                have hlo : ¬ (s[k].toNat : Int) < 48 := by omega
                have hlo2 : 48 ≤ (s[k].toNat : Int) := by omega
                have hhi : (s[k].toNat : Int) ≤ 57 := by omega
                have HF2 := Lib.hid hf
                clear hf hd
                go_wp2_with fail
                go_round
                case rel => exact ⟨k + 1, 10 * m + (s[k].toNat - 48), by omega, by go_num, by congr 1; omega, HS.out⟩
                case measure => simp [intOf]; omega
              · have HN := Lib.hid (num_none (HF.out.trans (fold_bad s k m hlt hf hd)))
                clear hf
                by_cases hlo : s[k].toNat < 48
                · have hi : (s[k].toNat : Int) < 48 := by omega
                  go_wp2_with fail
                  refine bodyPost_ret (v := .tuple #[.int .i64 0, .bool false]) (by simp [results, Tryz.f43, go_sem]) rfl ⟨by rw [HN.out.1, HN.out.2], rfl⟩
                · have hi : ¬ (s[k].toNat : Int) < 48 := by omega
                  have hi2 : 57 < (s[k].toNat : Int) := by omega
                  clear hd
                  go_wp2_with fail
                  refine bodyPost_ret (v := .tuple #[.int .i64 0, .bool false]) (by simp [results, Tryz.f43, go_sem]) rfl ⟨by rw [HN.out.1, HN.out.2], rfl⟩
            · obtain rfl : k = s.size := by omega
              rw [fold_whole] at hf
              have HN := Lib.hid (num_some (HF.out.trans hf))
              clear hf
              go_wp2_with fail
              refine bodyPost_ret (v := .tuple #[.int .i64 m, .bool true]) (by simp [results, Tryz.f43, go_sem]) rfl ⟨by rw [HN.out.1, HN.out.2], rfl⟩
      · have HF := Lib.hid (num_fold hp (by omega) (.inr h48))
        have hi48 : ¬ (s[0].toNat : Int) = 48 := by omega
        clear h48
        go_enter Tryz.func43, Tryz.ntmps43
        go_wp2_with fail
        go_loop [6, 7] (fun n i => ∃ k m : Nat, k ≤ s.size ∧ i = .int .i64 k ∧ n = .int .i64 m ∧ (s.data.toList.take k).foldl digS (some 0) = some m) (fun _ i => s.size - (intOf i).toNat)
        case atStart => exact ⟨0, 0, by omega, rfl, rfl, rfl⟩
        case round =>
          obtain ⟨k, m, hk, rfl, rfl, hf⟩ := hrel
          have hm := fold_lt s k m (by omega) hf
          by_cases hlt : k < s.size
          · by_cases hd : 48 ≤ s[k].toNat ∧ s[k].toNat ≤ 57
            · have HS := Lib.hid (fold_snoc s k m hlt hf hd.1 hd.2)
              have hlo : ¬ (s[k].toNat : Int) < 48 := by omega
              have hlo2 : 48 ≤ (s[k].toNat : Int) := by omega
              have hhi : (s[k].toNat : Int) ≤ 57 := by omega
              have HF2 := Lib.hid hf
              clear hf hd
              go_wp2_with fail
              go_round
              case rel => exact ⟨k + 1, 10 * m + (s[k].toNat - 48), by omega, by go_num, by congr 1; omega, HS.out⟩
              case measure => simp [intOf]; omega
            · have HN := Lib.hid (num_none (HF.out.trans (fold_bad s k m hlt hf hd)))
              clear hf
              by_cases hlo : s[k].toNat < 48
              · have hi : (s[k].toNat : Int) < 48 := by omega
                go_wp2_with fail
                refine bodyPost_ret (v := .tuple #[.int .i64 0, .bool false]) (by simp [results, Tryz.f43, go_sem]) rfl ⟨by rw [HN.out.1, HN.out.2], rfl⟩
              · have hi : ¬ (s[k].toNat : Int) < 48 := by omega
                have hi2 : 57 < (s[k].toNat : Int) := by omega
                clear hd
                go_wp2_with fail
                refine bodyPost_ret (v := .tuple #[.int .i64 0, .bool false]) (by simp [results, Tryz.f43, go_sem]) rfl ⟨by rw [HN.out.1, HN.out.2], rfl⟩
          · obtain rfl : k = s.size := by omega
            rw [fold_whole] at hf
            have HN := Lib.hid (num_some (HF.out.trans hf))
            clear hf
            go_wp2_with fail
            refine bodyPost_ret (v := .tuple #[.int .i64 m, .bool true]) (by simp [results, Tryz.f43, go_sem]) rfl ⟨by rw [HN.out.1, HN.out.2], rfl⟩

end Go.Proofs.YtikioiblaoimkaaGreatDoor

/- The program's Number. -/
namespace Go.Proofs.YtikioiblaoimkaaGreatDoor
open Go.RowKit

theorem below_bytes (w : World) (e : TypeId) (s : ByteArray) : Below w.heap.size w (Lib.bytesWorld w e s) :=
  ⟨rfl, rfl, rfl, by rw [Lib.bytesWorld_size]; omega, fun k hk => Lib.bytesWorld_at_old w e s k hk⟩
theorem p_within_t (n lo hi : Int) (v : Bool) (w : World) (h : withinB n lo hi = v) :
    Calls Tryz.prog 106 #[.int .i64 n, .int .i64 lo, .int .i64 hi] w fun e w' => e = .returned (.bool v) ∧ w = w' := h ▸ p_within n lo hi w
theorem getD_at (s : ByteArray) (k : Nat) (h : k < s.size) : s.data.toList.getD k 0 = s[k] := by
  rw [List.getD_eq_getElem?_getD, ba_at s k h]
  rfl

theorem conv_cp (s : ByteArray) (w : World) : ∃ cp : Nat, (convert 9 33 (.string s)).run Tryz.prog w = .ok (.slice (some ⟨w.heap.size, 0, none⟩) s.size cp) (Lib.bytesWorld w 5 s) :=
  ⟨_, Lib.run_convert_string_bytes (P := Tryz.prog) w 9 33 5 s Tryz.underlying9 Tryz.underlying33 Tryz.underlying5⟩

set_option maxHeartbeats 1000000 in
set_option maxRecDepth 10000 in
theorem p_Number (s : ByteArray) (w : World) (hs : s.size ≤ 100000) :
    Calls Tryz.prog 117 #[.string s, .int .i64 6] w fun e w' => e = .returned (.tuple #[.int .i64 (numV s.data.toList), .bool (numB s.data.toList)]) ∧ Below w.heap.size w w' := by
  by_cases h6 : s.size = 0 ∨ 6 < s.size
  · have HN := Lib.hid (num_none (num_out (s := s) h6))
    have HW : Hid (withinB s.size 1 6 = false) := by show _ = _; simp [withinB]; omega
    clear h6
    go_enter Tryz.func117, Tryz.ntmps117
    go_wp2_with (go_at_call 106; refine (p_within_t _ _ _ false _ HW.out).mono ?_; rintro e w1 ⟨rfl, rfl⟩)
    refine bodyPost_ret (v := .tuple #[.int .i64 0, .bool false]) (by simp [results, Tryz.f117, go_sem]) rfl ⟨by rw [HN.out.1, HN.out.2], Below.refl _ _⟩
  · have hp : 0 < s.size := by omega
    have hp6 : s.size ≤ 6 := by omega
    have HW : Hid (withinB s.size 1 6 = true) := by show _ = _; simp [withinB]; omega
    clear h6
    by_cases h48 : s[0].toNat = 48
    · have hi48 : (s[0].toNat : Int) = 48 := by omega
      by_cases h1 : 1 < s.size
      · have HN := Lib.hid (num_none (num_lead h1 h48))
        have hi1 : 1 < (s.size : Int) := by omega
        clear h48
        go_enter Tryz.func117, Tryz.ntmps117
        go_wp2_with (go_at_call 106; refine (p_within_t _ _ _ true _ HW.out).mono ?_; rintro e w1 ⟨rfl, rfl⟩)
        refine bodyPost_ret (v := .tuple #[.int .i64 0, .bool false]) (by simp [results, Tryz.f117, go_sem]) rfl ⟨by rw [HN.out.1, HN.out.2], Below.refl _ _⟩
      · have HF := Lib.hid (num_fold hp (by omega) (.inl (by omega)))
        have hi1 : (s.size : Int) ≤ 1 := by omega
        clear h48
        obtain ⟨cp, hcv⟩ := conv_cp s w
        have hcl : ∀ j, j < s.size → (Lib.bytesWorld w 5 s).cell? ⟨w.heap.size, j, none⟩ = some (.int .u8 (s.data.toList.getD j 0).toNat) := fun j hj => Lib.bytesWorld_cell w 5 s j hj
        have HCL := Lib.hid hcl
        clear hcl
        obtain ⟨wb, hwb⟩ : ∃ wb, Lib.bytesWorld w 5 s = wb := ⟨_, rfl⟩
        have HB : Hid (Below w.heap.size w wb) := by show Below _ _ _; rw [← hwb]; exact below_bytes w _ s
        rw [hwb] at hcv HCL
        clear hwb
        go_enter Tryz.func117, Tryz.ntmps117
        go_wp2_with (go_at_call 106; refine (p_within_t _ _ _ true _ HW.out).mono ?_; rintro e w1 ⟨rfl, rfl⟩)
        go_loop [6, 27] (fun n i => ∃ k m : Nat, k ≤ s.size ∧ i = .int .i64 k ∧ n = .int .i64 m ∧ (s.data.toList.take k).foldl digS (some 0) = some m) (fun _ i => s.size - (intOf i).toNat)
        case atStart => exact ⟨0, 0, by omega, rfl, rfl, rfl⟩
        case round =>
          obtain ⟨k, m, hk, rfl, rfl, hf⟩ := hrel
          have hm := fold_lt s k m (by omega) hf
          by_cases hlt : k < s.size
          · have hcell := HCL.out k hlt
            rw [getD_at s k hlt] at hcell
            by_cases hd : 48 ≤ s[k].toNat ∧ s[k].toNat ≤ 57
            · have HS := Lib.hid (fold_snoc s k m hlt hf hd.1 hd.2)
              have hlo : ¬ (s[k].toNat : Int) < 48 := by omega
              have hlo2 : 48 ≤ (s[k].toNat : Int) := by omega
              have hhi : (s[k].toNat : Int) ≤ 57 := by omega
              clear hf hd
              go_wp2_with fail
              go_round
              case rel => exact ⟨k + 1, 10 * m + (s[k].toNat - 48), by omega, by go_num, by congr 1; omega, HS.out⟩
              case measure => simp [intOf]; omega
            · have HN := Lib.hid (num_none (HF.out.trans (fold_bad s k m hlt hf hd)))
              clear hf
              by_cases hlo : s[k].toNat < 48
              · have hi : (s[k].toNat : Int) < 48 := by omega
                go_wp2_with fail
                refine bodyPost_ret (v := .tuple #[.int .i64 0, .bool false]) (by simp [results, Tryz.f117, go_sem]) rfl ⟨by rw [HN.out.1, HN.out.2], HB.out⟩
              · have hi : ¬ (s[k].toNat : Int) < 48 := by omega
                have hi2 : 57 < (s[k].toNat : Int) := by omega
                clear hd
                go_wp2_with fail
                refine bodyPost_ret (v := .tuple #[.int .i64 0, .bool false]) (by simp [results, Tryz.f117, go_sem]) rfl ⟨by rw [HN.out.1, HN.out.2], HB.out⟩
          · obtain rfl : k = s.size := by omega
            rw [fold_whole] at hf
            have HN := Lib.hid (num_some (HF.out.trans hf))
            clear hf
            go_wp2_with fail
            refine bodyPost_ret (v := .tuple #[.int .i64 m, .bool true]) (by simp [results, Tryz.f117, go_sem]) rfl ⟨by rw [HN.out.1, HN.out.2], HB.out⟩
    · have HF := Lib.hid (num_fold hp (by omega) (.inr h48))
      have hi48 : ¬ (s[0].toNat : Int) = 48 := by omega
      clear h48
      by_cases h1 : 1 < s.size
      · have hi1 : 1 < (s.size : Int) := by omega
        obtain ⟨cp, hcv⟩ := conv_cp s w
        have hcl : ∀ j, j < s.size → (Lib.bytesWorld w 5 s).cell? ⟨w.heap.size, j, none⟩ = some (.int .u8 (s.data.toList.getD j 0).toNat) := fun j hj => Lib.bytesWorld_cell w 5 s j hj
        have HCL := Lib.hid hcl
        clear hcl
        obtain ⟨wb, hwb⟩ : ∃ wb, Lib.bytesWorld w 5 s = wb := ⟨_, rfl⟩
        have HB : Hid (Below w.heap.size w wb) := by show Below _ _ _; rw [← hwb]; exact below_bytes w _ s
        rw [hwb] at hcv HCL
        clear hwb
        go_enter Tryz.func117, Tryz.ntmps117
        go_wp2_with (go_at_call 106; refine (p_within_t _ _ _ true _ HW.out).mono ?_; rintro e w1 ⟨rfl, rfl⟩)
        go_loop [6, 27] (fun n i => ∃ k m : Nat, k ≤ s.size ∧ i = .int .i64 k ∧ n = .int .i64 m ∧ (s.data.toList.take k).foldl digS (some 0) = some m) (fun _ i => s.size - (intOf i).toNat)
        case atStart => exact ⟨0, 0, by omega, rfl, rfl, rfl⟩
        case round =>
          obtain ⟨k, m, hk, rfl, rfl, hf⟩ := hrel
          have hm := fold_lt s k m (by omega) hf
          by_cases hlt : k < s.size
          · have hcell := HCL.out k hlt
            rw [getD_at s k hlt] at hcell
            by_cases hd : 48 ≤ s[k].toNat ∧ s[k].toNat ≤ 57
            · have HS := Lib.hid (fold_snoc s k m hlt hf hd.1 hd.2)
              have hlo : ¬ (s[k].toNat : Int) < 48 := by omega
              have hlo2 : 48 ≤ (s[k].toNat : Int) := by omega
              have hhi : (s[k].toNat : Int) ≤ 57 := by omega
              clear hf hd
              go_wp2_with fail
              go_round
              case rel => exact ⟨k + 1, 10 * m + (s[k].toNat - 48), by omega, by go_num, by congr 1; omega, HS.out⟩
              case measure => simp [intOf]; omega
            · have HN := Lib.hid (num_none (HF.out.trans (fold_bad s k m hlt hf hd)))
              clear hf
              by_cases hlo : s[k].toNat < 48
              · have hi : (s[k].toNat : Int) < 48 := by omega
                go_wp2_with fail
                refine bodyPost_ret (v := .tuple #[.int .i64 0, .bool false]) (by simp [results, Tryz.f117, go_sem]) rfl ⟨by rw [HN.out.1, HN.out.2], HB.out⟩
              · have hi : ¬ (s[k].toNat : Int) < 48 := by omega
                have hi2 : 57 < (s[k].toNat : Int) := by omega
                clear hd
                go_wp2_with fail
                refine bodyPost_ret (v := .tuple #[.int .i64 0, .bool false]) (by simp [results, Tryz.f117, go_sem]) rfl ⟨by rw [HN.out.1, HN.out.2], HB.out⟩
          · obtain rfl : k = s.size := by omega
            rw [fold_whole] at hf
            have HN := Lib.hid (num_some (HF.out.trans hf))
            clear hf
            go_wp2_with fail
            refine bodyPost_ret (v := .tuple #[.int .i64 m, .bool true]) (by simp [results, Tryz.f117, go_sem]) rfl ⟨by rw [HN.out.1, HN.out.2], HB.out⟩
      · have hi1 : (s.size : Int) ≤ 1 := by omega
        obtain ⟨cp, hcv⟩ := conv_cp s w
        have hcl : ∀ j, j < s.size → (Lib.bytesWorld w 5 s).cell? ⟨w.heap.size, j, none⟩ = some (.int .u8 (s.data.toList.getD j 0).toNat) := fun j hj => Lib.bytesWorld_cell w 5 s j hj
        have HCL := Lib.hid hcl
        clear hcl
        obtain ⟨wb, hwb⟩ : ∃ wb, Lib.bytesWorld w 5 s = wb := ⟨_, rfl⟩
        have HB : Hid (Below w.heap.size w wb) := by show Below _ _ _; rw [← hwb]; exact below_bytes w _ s
        rw [hwb] at hcv HCL
        clear hwb
        go_enter Tryz.func117, Tryz.ntmps117
        go_wp2_with (go_at_call 106; refine (p_within_t _ _ _ true _ HW.out).mono ?_; rintro e w1 ⟨rfl, rfl⟩)
        go_loop [6, 27] (fun n i => ∃ k m : Nat, k ≤ s.size ∧ i = .int .i64 k ∧ n = .int .i64 m ∧ (s.data.toList.take k).foldl digS (some 0) = some m) (fun _ i => s.size - (intOf i).toNat)
        case atStart => exact ⟨0, 0, by omega, rfl, rfl, rfl⟩
        case round =>
          obtain ⟨k, m, hk, rfl, rfl, hf⟩ := hrel
          have hm := fold_lt s k m (by omega) hf
          by_cases hlt : k < s.size
          · have hcell := HCL.out k hlt
            rw [getD_at s k hlt] at hcell
            by_cases hd : 48 ≤ s[k].toNat ∧ s[k].toNat ≤ 57
            · have HS := Lib.hid (fold_snoc s k m hlt hf hd.1 hd.2)
              have hlo : ¬ (s[k].toNat : Int) < 48 := by omega
              have hlo2 : 48 ≤ (s[k].toNat : Int) := by omega
              have hhi : (s[k].toNat : Int) ≤ 57 := by omega
              clear hf hd
              go_wp2_with fail
              go_round
              case rel => exact ⟨k + 1, 10 * m + (s[k].toNat - 48), by omega, by go_num, by congr 1; omega, HS.out⟩
              case measure => simp [intOf]; omega
            · have HN := Lib.hid (num_none (HF.out.trans (fold_bad s k m hlt hf hd)))
              clear hf
              by_cases hlo : s[k].toNat < 48
              · have hi : (s[k].toNat : Int) < 48 := by omega
                go_wp2_with fail
                refine bodyPost_ret (v := .tuple #[.int .i64 0, .bool false]) (by simp [results, Tryz.f117, go_sem]) rfl ⟨by rw [HN.out.1, HN.out.2], HB.out⟩
              · have hi : ¬ (s[k].toNat : Int) < 48 := by omega
                have hi2 : 57 < (s[k].toNat : Int) := by omega
                clear hd
                go_wp2_with fail
                refine bodyPost_ret (v := .tuple #[.int .i64 0, .bool false]) (by simp [results, Tryz.f117, go_sem]) rfl ⟨by rw [HN.out.1, HN.out.2], HB.out⟩
          · obtain rfl : k = s.size := by omega
            rw [fold_whole] at hf
            have HN := Lib.hid (num_some (HF.out.trans hf))
            clear hf
            go_wp2_with fail
            refine bodyPost_ret (v := .tuple #[.int .i64 m, .bool true]) (by simp [results, Tryz.f117, go_sem]) rfl ⟨by rw [HN.out.1, HN.out.2], HB.out⟩

end Go.Proofs.YtikioiblaoimkaaGreatDoor

/- The numbers that words are. -/
namespace Go.Proofs.YtikioiblaoimkaaGreatDoor
open Go.RowKit

theorem infoIntT : (Tryz.prog.info? 3).map (fun i => (i.zero, i.size, i.bytes)) = some (some (.int .i64 0), 1, 8) := by kernel_rfl
def strV (l : List UInt8) : Value := .string ⟨l.toArray⟩
/-- A slice of strings that is read. -/
def Sts (w : World) (B : Nat) (A : Option Addr) (n : Nat) (ws : List (List UInt8)) : Prop := Rd w B 1 A n (ws.map strV)
theorem Sts.len {w : World} {B n : Nat} {A : Option Addr} {ws : List (List UInt8)} (h : Sts w B A n ws) : ws.length = n := by
  have := h.1
  simpa using this
theorem Sts.at_ {w : World} {B n : Nat} {A : Option Addr} {ws : List (List UInt8)} (h : Sts w B A n ws) {k : Nat} (hk : k < n) :
    ∃ b o x, A = some ⟨b, o, none⟩ ∧ b < B ∧ ws[k]? = some x ∧ w.cell? ⟨b, o + k, none⟩ = some (.string ⟨x.toArray⟩) := by
  obtain ⟨b, o, e, hb, hc⟩ := h.2 (by omega)
  have hl := h.len
  have hx : ws[k]? = some ws[k] := List.getElem?_eq_getElem (by omega)
  exact ⟨b, o, ws[k], e, hb, hx, hc k _ (by rw [List.getElem?_map, hx]; rfl)⟩
theorem Sts.ext {w w' : World} {B n : Nat} {A : Option Addr} {xs : List (List UInt8)} (h : Sts w B A n xs) (hb : Below w.heap.size w w') (hB : B ≤ w.heap.size) : Sts w' B A n xs := Rd.ext h hb hB
theorem Sts.now {w w' : World} {n : Nat} {A : Option Addr} {xs : List (List UInt8)} (h : Sts w w.heap.size A n xs) (hb : Below w.heap.size w w') : Sts w' w'.heap.size A n xs := Rd.more (Rd.ext h hb (Nat.le_refl _)) hb.size

def numCells (ns : List Nat) : List Value := ns.map fun (n : Nat) => Value.int .i64 n
theorem numCells_len (ns : List Nat) : (numCells ns).length = ns.length := by simp [numCells]
/-- What Numbers hands back. -/
def RetNs (ws : List (List UInt8)) (w : World) (e : Ending) (w' : World) : Prop :=
  (numsO ws = none ∧ e = .returned (.tuple #[.slice none 0 0, .bool false]) ∧ Below w.heap.size w w') ∨
  (∃ ns A c, numsO ws = some ns ∧ e = .returned (.tuple #[.slice A ns.length c, .bool true]) ∧ Below w.heap.size w w' ∧ Rd w' w'.heap.size 1 A ns.length (numCells ns) ∧ ns.length ≤ c ∧ c ≤ maxLen ∧ ∀ g, (Value.slice A ns.length c).ownBlock = some g → w.heap.size ≤ g)
theorem nums_snoc {ws : List (List UInt8)} {k : Nat} {x : List UInt8} {ns : List Nat} {n : Nat} (hx : ws[k]? = some x) (h : numsO (ws.take k) = some ns) (hn : numO x 6 = some n) : numsO (ws.take (k + 1)) = some (ns ++ [n]) := by
  rw [take_snoc_some hx, numsO_app, h]
  simp [numsO, hn]
theorem nums_bad {ws : List (List UInt8)} {k : Nat} {x : List UInt8} (hx : ws[k]? = some x) (hn : numO x 6 = none) : numsO ws = none := by
  have hd : ws = ws.take k ++ x :: ws.drop (k + 1) := by
    obtain ⟨hk, rfl⟩ := List.getElem?_eq_some_iff.1 hx
    rw [← List.drop_eq_getElem_cons, List.take_append_drop]
  rw [hd, numsO_app]
  cases numsO (ws.take k) <;> simp [numsO, hn]
theorem r_Number_some {l : List UInt8} {n : Nat} (h : numO l 6 = some n) (w : World) (hs : l.length ≤ 100000) :
    Calls Tryz.prog 43 #[.string ⟨l.toArray⟩, .int .i64 6] w fun e w' => e = .returned (.tuple #[.int .i64 n, .bool true]) ∧ w = w' := by
  have h1 := r_Number ⟨l.toArray⟩ w (by rw [size_len]; simpa using hs)
  have h2 := num_some (l := (⟨l.toArray⟩ : ByteArray).data.toList) (by simpa using h)
  rw [h2.1, h2.2] at h1
  exact h1
theorem r_Number_none {l : List UInt8} (h : numO l 6 = none) (w : World) (hs : l.length ≤ 100000) :
    Calls Tryz.prog 43 #[.string ⟨l.toArray⟩, .int .i64 6] w fun e w' => e = .returned (.tuple #[.int .i64 0, .bool false]) ∧ w = w' := by
  have h1 := r_Number ⟨l.toArray⟩ w (by rw [size_len]; simpa using hs)
  have h2 := num_none (l := (⟨l.toArray⟩ : ByteArray).data.toList) (by simpa using h)
  rw [h2.1, h2.2] at h1
  exact h1
theorem p_Number_some {l : List UInt8} {n : Nat} (h : numO l 6 = some n) (w : World) (hs : l.length ≤ 100000) :
    Calls Tryz.prog 117 #[.string ⟨l.toArray⟩, .int .i64 6] w fun e w' => e = .returned (.tuple #[.int .i64 n, .bool true]) ∧ Below w.heap.size w w' := by
  have h1 := p_Number ⟨l.toArray⟩ w (by rw [size_len]; simpa using hs)
  have h2 := num_some (l := (⟨l.toArray⟩ : ByteArray).data.toList) (by simpa using h)
  rw [h2.1, h2.2] at h1
  exact h1
theorem p_Number_none {l : List UInt8} (h : numO l 6 = none) (w : World) (hs : l.length ≤ 100000) :
    Calls Tryz.prog 117 #[.string ⟨l.toArray⟩, .int .i64 6] w fun e w' => e = .returned (.tuple #[.int .i64 0, .bool false]) ∧ Below w.heap.size w w' := by
  have h1 := p_Number ⟨l.toArray⟩ w (by rw [size_len]; simpa using hs)
  have h2 := num_none (l := (⟨l.toArray⟩ : ByteArray).data.toList) (by simpa using h)
  rw [h2.1, h2.2] at h1
  exact h1

set_option maxHeartbeats 1000000 in
theorem r_Numbers (ws : List (List UInt8)) (A : Option Addr) (n c : Nat) (w : World) (hn : n ≤ 100000) (hl : ∀ x ∈ ws, x.length ≤ 100000) (hd : Sts w w.heap.size A n ws) :
    Calls Tryz.prog 20 #[.slice A n c, .int .i64 6] w (RetNs ws w) := by
  obtain ⟨i0, hi, hz0, hz1, hz2⟩ := info_parts infoIntT
  have hlen := hd.len
  have HD := Lib.hid hd
  have HL := Lib.hid hlen
  have HW := Lib.hid hl
  clear hd hlen hl
  go_enter Tryz.func20, Tryz.ntmps20
  go_wp2
  go_loopw [6, 13] (fun v i wr => ∃ (k : Nat) (ns : List Nat), k ≤ n ∧ i = .int .i64 k ∧ ns.length ≤ k ∧ numsO (ws.take k) = some ns ∧ wr.ownsRow w.heap.size 3 1 v ns.length (numCells ns) ∧ Below w.heap.size w wr) (fun _ i _ => n - (intOf i).toNat)
  case atStart => exact ⟨0, [], by omega, rfl, Nat.le_refl _, rfl, World.ownsRow_nil _ _ _ _, Below.refl _ _⟩
  case round =>
    obtain ⟨k, ns, hk, rfl, hnk, hns, hown, hB⟩ := hrel
    have HNS := Lib.hid hns
    clear hns
    have hs0 : w.heap.size ≤ wr.heap.size := hB.size
    by_cases hlt : k < n
    · have hDk := HD.out.ext hB (Nat.le_refl _)
      obtain ⟨b, o, x, rfl, hb, hx, hc0⟩ := hDk.at_ hlt
      have HX := Lib.hid hx
      have hxl : x.length ≤ 100000 := HW.out x (List.mem_of_getElem? hx)
      clear hDk hx
      cases hno : numO x 6 with
      | none =>
        have HN := Lib.hid hno
        have HB := Lib.hid hB
        clear hno hB
        go_wp2_with (go_at_call 43; refine (r_Number_none HN.out _ hxl).mono ?_; rintro e w1 ⟨rfl, rfl⟩)
        refine bodyPost_ret (v := .tuple #[.slice none 0 0, .bool false]) (by simp [results, Tryz.f20, go_sem]) rfl (.inl ⟨nums_bad HX.out HN.out, rfl, HB.out⟩)
      | some m =>
        have HN := Lib.hid hno
        have HS := Lib.hid (nums_snoc HX.out HNS.out hno)
        have HB := Lib.hid hB
        have HO := Lib.hid hown
        clear hno hB hown
        go_wp2_with (go_at_call 43; refine (r_Number_some HN.out _ hxl).mono ?_; rintro e w1 ⟨rfl, rfl⟩; refine Hid.out ?_)
        refine Lib.hid ?_
        have hown := HO.out
        go_wp2_with (at_builtin; refine wpList_append_own _ rfl (.tmp 25) (.tmp 27) 49 rfl w.heap.size 3 i0 _ 1 8 Tryz.underlying49 hi hz0 hz1 hz2 rfl (by decide) _ _ _ rfl (hown.alloc _) ⟨wr.heap.size, 0, none⟩ 1 1 [.int .i64 (m : Int)] rfl rfl ?c1 ?c2 ?c3 ?c4 ?c5 ?_; rotate_left 5; intro v' w2 hown2 hgrow2 _)
        case c1 => intro j u hj; match j, hj with | 0, hj => simp at hj; subst hj; simp [Addr.add]
        case c2 => simp [Value.oneCell']
        case c3 => unfold maxLen; omega
        case c4 => omega
        case c5 => have := HB.out.size; (try have := HB1.size); simp; omega
        go_roundw
        case rel =>
          refine ⟨k + 1, ns ++ [m], by omega, by go_num, by simp; omega, HS.out, ?_, Below.appended HB.out ((Below.refl _ _).alloc (Nat.le_refl _) _) HO.out hgrow2⟩
          rw [show numCells (ns ++ [m]) = numCells ns ++ [.int .i64 (m : Int)] from by simp [numCells], List.length_append]
          exact hown2
        case measure => simp [intOf]; omega
    · have hkn : k = n := by omega
      have hall : ws.take k = ws := List.take_of_length_le (by have := HL.out; omega)
      have HA : Hid (numsO ws = some ns) := by show _ = _; rw [← hall]; exact HNS.out
      clear hall hkn
      obtain ⟨A1, c1, hv, hcc⟩ := own_slice hown
      subst hv
      go_wp2
      refine bodyPost_ret (v := .tuple #[.slice A1 ns.length c1, .bool true]) (by simp [results, Tryz.f20, go_sem]) rfl (.inr ⟨ns, A1, c1, HA.out, rfl, hB, Rd.of_own hown, hcc.1, hcc.2, fun g hg => own_base hown hg⟩)

set_option maxHeartbeats 1000000 in
theorem p_Numbers (ws : List (List UInt8)) (A : Option Addr) (n c : Nat) (w : World) (hn : n ≤ 100000) (hl : ∀ x ∈ ws, x.length ≤ 100000) (hd : Sts w w.heap.size A n ws) :
    Calls Tryz.prog 83 #[.slice A n c, .int .i64 6] w (RetNs ws w) := by
  obtain ⟨i0, hi, hz0, hz1, hz2⟩ := info_parts infoIntT
  have hlen := hd.len
  have HD := Lib.hid hd
  have HL := Lib.hid hlen
  have HW := Lib.hid hl
  clear hd hlen hl
  go_enter Tryz.func83, Tryz.ntmps83
  go_wp2
  go_loopw [6, 13] (fun v i wr => ∃ (k : Nat) (ns : List Nat), k ≤ n ∧ i = .int .i64 k ∧ ns.length ≤ k ∧ numsO (ws.take k) = some ns ∧ wr.ownsRow w.heap.size 3 1 v ns.length (numCells ns) ∧ Below w.heap.size w wr) (fun _ i _ => n - (intOf i).toNat)
  case atStart => exact ⟨0, [], by omega, rfl, Nat.le_refl _, rfl, World.ownsRow_nil _ _ _ _, Below.refl _ _⟩
  case round =>
    obtain ⟨k, ns, hk, rfl, hnk, hns, hown, hB⟩ := hrel
    have HNS := Lib.hid hns
    clear hns
    have hs0 : w.heap.size ≤ wr.heap.size := hB.size
    by_cases hlt : k < n
    · have hDk := HD.out.ext hB (Nat.le_refl _)
      obtain ⟨b, o, x, rfl, hb, hx, hc0⟩ := hDk.at_ hlt
      have HX := Lib.hid hx
      have hxl : x.length ≤ 100000 := HW.out x (List.mem_of_getElem? hx)
      clear hDk hx
      cases hno : numO x 6 with
      | none =>
        have HN := Lib.hid hno
        have HB := Lib.hid hB
        clear hno hB
        go_wp2_with (go_at_call 117; refine (p_Number_none HN.out _ hxl).mono ?_; rintro e w1 ⟨rfl, hb1⟩; have HB1 : Below w.heap.size w w1 := Below.then_ HB.out hb1)
        refine bodyPost_ret (v := .tuple #[.slice none 0 0, .bool false]) (by simp [results, Tryz.f83, go_sem]) rfl (.inl ⟨nums_bad HX.out HN.out, rfl, HB1⟩)
      | some m =>
        have HN := Lib.hid hno
        have HS := Lib.hid (nums_snoc HX.out HNS.out hno)
        have HB := Lib.hid hB
        have HO := Lib.hid hown
        clear hno hB hown
        go_wp2_with (go_at_call 117; refine (p_Number_some HN.out _ hxl).mono ?_; rintro e w1 ⟨rfl, hb1⟩; have HB1 : Below w.heap.size w w1 := Below.then_ HB.out hb1; refine Hid.out ?_)
        refine Lib.hid ?_
        have hown := own_ext HO.out hb1
        go_wp2_with (at_builtin; refine wpList_append_own _ rfl (.tmp 25) (.tmp 27) 49 rfl w.heap.size 3 i0 _ 1 8 Tryz.underlying49 hi hz0 hz1 hz2 rfl (by decide) _ _ _ rfl (hown.alloc _) ⟨w1.heap.size, 0, none⟩ 1 1 [.int .i64 (m : Int)] rfl rfl ?c1 ?c2 ?c3 ?c4 ?c5 ?_; rotate_left 5; intro v' w2 hown2 hgrow2 _)
        case c1 => intro j u hj; match j, hj with | 0, hj => simp at hj; subst hj; simp [Addr.add]
        case c2 => simp [Value.oneCell']
        case c3 => unfold maxLen; omega
        case c4 => omega
        case c5 => have := HB.out.size; (try have := HB1.size); simp; omega
        go_roundw
        case rel =>
          refine ⟨k + 1, ns ++ [m], by omega, by go_num, by simp; omega, HS.out, ?_, Below.appended HB1 ((Below.refl _ _).alloc (Nat.le_refl _) _) hown hgrow2⟩
          rw [show numCells (ns ++ [m]) = numCells ns ++ [.int .i64 (m : Int)] from by simp [numCells], List.length_append]
          exact hown2
        case measure => simp [intOf]; omega
    · have hkn : k = n := by omega
      have hall : ws.take k = ws := List.take_of_length_le (by have := HL.out; omega)
      have HA : Hid (numsO ws = some ns) := by show _ = _; rw [← hall]; exact HNS.out
      clear hall hkn
      obtain ⟨A1, c1, hv, hcc⟩ := own_slice hown
      subst hv
      go_wp2
      refine bodyPost_ret (v := .tuple #[.slice A1 ns.length c1, .bool true]) (by simp [results, Tryz.f83, go_sem]) rfl (.inr ⟨ns, A1, c1, HA.out, rfl, hB, Rd.of_own hown, hcc.1, hcc.2, fun g hg => own_base hown hg⟩)
end Go.Proofs.YtikioiblaoimkaaGreatDoor
