import Derived.Test.YtikioiblaoimkaaGreatDoorU7
import Derived.BigGuard
set_option linter.unusedVariables false
set_option linter.unusedSimpArgs false

/- strconv.AppendInt at base 10 onto such a row, for numbers from 0 to 100000. -/
namespace Go.Proofs.YtikioiblaoimkaaGreatDoor
open Go.RowKit Go.Lib Go.Sort Go.Shelf

theorem infoByte : (Tryz.prog.info? 5).map (fun i => (i.zero, i.size, i.bytes)) = some (some (.int .u8 0), 1, 1) := by kernel_rfl
theorem l_small (i : Nat) (h : i < 100) (w : World) : Calls Tryz.prog 148 #[.int .i64 i] w fun e w' => e = .returned (.string ⟨(decDigits i).toArray⟩) ∧ w = w' :=
  (Any.internal_strconv_small { Tryz.laysAI with } i h w).mono fun _ _ ⟨a, b⟩ => ⟨a, b.symm⟩
theorem l_numDigits (u : Nat) (h1 : 1 ≤ u) (h2 : u < 18446744073709551616) (w : World) (htab : TabIs Tryz.prog w "internal/strconv.uint64pow10" .u64 pow10Tab) :
    Calls Tryz.prog 149 #[.int .u64 u] w fun e w' => e = .returned (.int .i64 (nDigits u)) ∧ w = w' :=
  (Any.internal_strconv_numDigits { Tryz.laysAI with } u h1 h2 w htab).mono fun _ _ ⟨a, b⟩ => ⟨a, b.symm⟩

set_option maxHeartbeats 4000000 in
set_option maxRecDepth 100000 in
theorem l_AppendUint_lo (u : Nat) (hu : u < 100) (B n : Nat) (sv : Value) (xs : List Value) (w : World) (h : OwnG w B 5 sv n xs) (hB : B ≤ w.heap.size) (hn : n ≤ 100000) :
    Calls Tryz.prog 137 #[sv, .int .u64 u, .int .i64 10] w fun e w' => ∃ v', e = .returned v' ∧ OwnG w' B 5 v' (n + (decDigits u).length) (xs ++ byteCells (decDigits u)) ∧ Below B w w' := by
  obtain ⟨i0, hi, hz0, hz1, hz2⟩ := info_parts infoByte
  have hdl := (dec_len 2 u (by omega) (by simpa using hu)).2
  obtain ⟨y, hy⟩ : ∃ y : ByteArray, ⟨(decDigits u).toArray⟩ = y := ⟨_, rfl⟩
  have hys : y.size = (decDigits u).length := by rw [← hy, Lib.size_eq]
  have hyc : strCells y = byteCells (decDigits u) := by rw [← hy]; rfl
  have hsm := l_small u hu w
  rw [hy] at hsm
  have HSM := Lib.hid hsm
  have HYS := Lib.hid hys
  have HYC := Lib.hid hyc
  have hyl : y.size ≤ 2 := by omega
  have hu1 : (u : Int) < 100 := by omega
  clear hsm hys hyc hy hdl
  go_enter Tryz.func137, Tryz.ntmps137
  go_wp2_with (first
    | (go_at_call 148; refine HSM.out.mono ?_; rintro e w1 ⟨rfl, rfl⟩)
    | (at_builtin; refine wpList_appendGs rfl (.tmp 13) (.tmp 16) 33 9 rfl i0 Tryz.underlying33 Tryz.underlying9 hi hz0 hz1 hz2 rfl h y rfl (by omega) hB ?_; intro v' w' h2 hg2))
  go_ret
  have hb := OwnG.below (Below.refl B w) h hB hg2
  rw [HYS.out, HYC.out] at h2
  exact ⟨v', rfl, h2, hb⟩

set_option maxHeartbeats 8000000 in
set_option maxRecDepth 100000 in
theorem l_AppendUint_hi (u : Nat) (hu : 100 ≤ u) (hu2 : u ≤ 100000) (B n : Nat) (sv : Value) (xs : List Value) (w : World) (h : OwnG w B 5 sv n xs) (hB : B ≤ w.heap.size) (hn : n ≤ 100000)
    (htab : TabIs Tryz.prog w "internal/strconv.uint64pow10" .u64 pow10Tab) :
    Calls Tryz.prog 137 #[sv, .int .u64 u, .int .i64 10] w fun e w' => ∃ v', e = .returned v' ∧ OwnG w' B 5 v' (n + (decDigits u).length) (xs ++ byteCells (decDigits u)) ∧ Below B w w' := by
  obtain ⟨i0, hi, hz0, hz1, hz2⟩ := info_parts infoByte
  have hdl := dec_len 6 u (by omega) (by simp; omega)
  rw [decDigits_length] at hdl
  have h64 : u < 18446744073709551616 := by omega
  have hal : Tryz.prog.arrayLen 194 = 24 := by kernel_rfl
  obtain ⟨m, hm⟩ : ∃ m, nDigits u = m := ⟨_, rfl⟩
  have hnd := fun W (ht : TabIs Tryz.prog W "internal/strconv.uint64pow10" .u64 pow10Tab) => l_numDigits u (by omega) h64 W ht
  rw [hm] at hnd hdl
  have hsl : ∀ W, (Instr.sliceAt 194 (.pointer (some ⟨w.heap.size, 0, none⟩)) none (some (.int .i64 (m : Int))) none).run Tryz.prog W = .ok (.slice (some ⟨w.heap.size, 0, none⟩) m 24) W := fun W => by
    rw [run_sliceAt_array_h W 194 ⟨w.heap.size, 0, none⟩ (by kernel_rfl) .i64 (m : Int) (by omega) (by rw [hal]; omega)]
    go_simp
  have hz := holds_zero0 w 194 m (by omega)
  have hfm := Any.internal_strconv_formatBase10 { Tryz.laysAI with } w.heap.size 0 24 u (Array.replicate m 0) (w.alloc (.cells zeros24 194)) hz (by rw [Array.size_replicate, ← hm]; exact lt_pow_nDigits u) h64 (by rw [Array.size_replicate]; omega)
  rw [Array.size_replicate] at hfm
  have HZ := Lib.hid hz
  have HND := Lib.hid (hnd _ (tabIs_alloc htab (.cells zeros24 194)))
  have iu : (100 : Int) ≤ (u : Int) := by omega
  have HM := Lib.hid hm
  have HSL := Lib.hid hal
  clear hz hal hm hnd
  go_enter Tryz.func137, Tryz.ntmps137
  go_wp2_with (go_at_call 149; refine HND.out.mono ?_; rintro e w1 ⟨rfl, rfl⟩)
  go_at_call 150
  refine hfm.mono ?_
  rintro e W2 ⟨rfl, k, v', dk, rfl, hF⟩
  obtain ⟨W3, hW3⟩ : ∃ W3, (putRow (fun (b : UInt8) => Value.int .u8 (b.toNat : Int)) (w.alloc (.cells zeros24 194)) w.heap.size 0 dk).drewN k = W3 := ⟨_, rfl⟩
  have hdg : (decDigits u).length = m := by rw [decDigits_length]; exact HM.out
  have hFs : dk.size = m := hF.size
  have hnews : ∀ j x, (byteCells (decDigits u))[j]? = some x → W3.cell? ((⟨w.heap.size, 0, none⟩ : Addr).add j) = some x := by
    intro j x hj
    have hjl : j < (decDigits u).length := by
      have h5 := (List.getElem?_eq_some_iff.1 hj).1
      rwa [byteCells_length] at h5
    have e5 : (byteCells (decDigits u))[j]? = some (Value.int .u8 ((decDigits u)[j].toNat : Int)) := by simp [byteCells, hjl]
    rw [e5] at hj
    cases hj
    have hF2 := hF
    rw [← HM.out] at hF2
    rw [row_is_numeral hF2 j hjl, add_plain, ← hW3, World.cell?_drewN]
    exact cell?_putRow (fun (b : UInt8) => Value.int .u8 (b.toNat : Int)) _ w.heap.size 0 _ dk HZ.out (by rw [hFs, Array.size_replicate]) j (by omega)
  obtain ⟨os, eo⟩ := fin_at w (.cells zeros24 194) dk k 0
  rw [hW3] at eo
  have hb3 : Below w.heap.size w W3 := by rw [eo]; exact below_grow w.heap.size w (Nat.le_refl _) k os
  have h3 := h.ext hb3
  have hB3 : B ≤ W3.heap.size := Nat.le_trans hB hb3.size
  rw [hW3]
  clear eo hF hfm
  have HN := Lib.hid hnews
  have HW := Lib.hid hW3
  have HD := Lib.hid hdg
  clear hnews hW3 hdg hFs
  go_wp2_with (at_builtin; refine wpList_appendG rfl (.tmp 24) (.tmp 26) 33 rfl i0 Tryz.underlying33 hi hz0 hz1 hz2 rfl h3 ⟨w.heap.size, 0, none⟩ m 24 (byteCells (decDigits u)) rfl (by rw [byteCells_length]; exact HD.out) HN.out (by intro x hx; simp only [byteCells, List.mem_map] at hx; obtain ⟨b, _, rfl⟩ := hx; rfl) (by omega) hB3 ?_; intro v4 w4 h4 hg4)
  go_ret
  have hb := OwnG.below (hb3.mono hB) h3 hB3 hg4
  rw [← HD.out] at h4
  exact ⟨v4, rfl, h4, hb⟩

end Go.Proofs.YtikioiblaoimkaaGreatDoor
