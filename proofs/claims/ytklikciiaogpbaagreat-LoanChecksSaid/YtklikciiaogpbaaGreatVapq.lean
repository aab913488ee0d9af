/- Layer 2 of the texts that LoanChecks takes: Vapq. -/
import Derived.Test.YtklikciiaogpbaaGreatVajq
set_option linter.unusedVariables false
set_option linter.unusedSimpArgs false
/- Layer 2: areApart of the program. -/
namespace Go.Proofs.YtklikciiaogpbaaGreat
open Go.RowKit
theorem apart_eq (xs : List Int) : decide ((Lib.compact (srtI xs)).length = xs.length) = decide xs.Nodup := by
 have h := compact_nodup (srtI_pair xs)
 rw [srtI_len] at h
 rw [h, decide_eq_decide]
 exact (srtI_perm xs).nodup_iff
theorem srcL_len {l : Led} {a b c : Nat} (h1 : l.rc.length = a) (h2 : l.rt.length = b) (h3 : l.sg.length = c) : (srcL l).length = a + b + c := by simp [srcL, h1, h2, h3]; omega
set_option maxRecDepth 10000 in
set_option maxHeartbeats 4000000 in
theorem p_areApart (l : Led) (x : Lsl) (w : World) (hr : x.rn ≤ 60) (ht : x.tn ≤ 60) (hs : x.sn ≤ 60) (hd : LedIn w w.heap.size x l) :
 Calls Tryz.prog 107 #[.agg #[.slice x.pA x.pn x.pc, .slice x.rA x.rn x.rc, .slice x.tA x.tn x.tc, .slice x.sA x.sn x.sc]] w fun e w' => e = .returned (.bool (decide (srcL l).Nodup)) ∧ Below w.heap.size w w' := by
 obtain ⟨W1, hW1⟩ : ∃ W1, w.alloc (.cells #[.slice x.pA x.pn x.pc, .slice x.rA x.rn x.rc, .slice x.tA x.tn x.tc, .slice x.sA x.sn x.sc] 27) = W1 := ⟨_, rfl⟩
 have hB1 : Below w.heap.size w W1 := by rw [← hW1]; exact (Below.refl _ _).alloc (Nat.le_refl _) _
 have hz1 : W1.heap.size = w.heap.size + 1 := by rw [← hW1]; simp
 have b0 : W1.cell? ⟨w.heap.size, 0, none⟩ = some (.slice x.pA x.pn x.pc) := by rw [← hW1]; simp
 have b1 : W1.cell? ⟨w.heap.size, 1, none⟩ = some (.slice x.rA x.rn x.rc) := by rw [← hW1]; simp
 have b2 : W1.cell? ⟨w.heap.size, 2, none⟩ = some (.slice x.tA x.tn x.tc) := by rw [← hW1]; simp
 have b3 : W1.cell? ⟨w.heap.size, 3, none⟩ = some (.slice x.sA x.sn x.sc) := by rw [← hW1]; simp
 have HD := Lib.hid (hd.now hB1)
 have hln := srcL_len hd.r.len hd.t.len hd.s.len
 obtain ⟨xs, hxs⟩ : ∃ xs, srcL l = xs := ⟨_, rfl⟩
 have HS : Hid (∀ W : World, LedIn W W.heap.size x l → Calls Tryz.prog 73 #[.agg #[.slice x.pA x.pn x.pc, .slice x.rA x.rn x.rc, .slice x.tA x.tn x.tc, .slice x.sA x.sn x.sc]] W (RetO xs W)) := by
  show ∀ _, _
  intro W h
  rw [← hxs]
  exact p_sources l x W hr ht hs h
 rw [hxs] at hln ⊢
 obtain ⟨n, hn⟩ : ∃ n, xs.length = n := ⟨_, rfl⟩
 have hn180 : n ≤ 180 := by omega
 unfold RetO at HS
 rw [hn] at HS
 have HE := Lib.hid (apart_eq xs)
 rw [hn] at HE
 obtain ⟨m, hm⟩ : ∃ m, (Lib.compact (srtI xs)).length = m := ⟨_, rfl⟩
 rw [hm] at HE
 have HM := Lib.hid hm
 clear hxs hln hd hn hm
 go_enter Tryz.func107, Tryz.ntmps107
 go_wp2_with (go_at_call 73; (first | rw [hW1] | skip); refine (HS.out _ HD.out).mono ?_; rintro e w1 ⟨v1, rfl, hb1, hown1⟩; refine Hid.out ?_)
 refine Lib.hid ?_
 obtain ⟨A, c, rfl, hcc⟩ := own_slice hown1
 have hs1 := hb1.size
 have HP := Lib.hid (p_SortI (base := W1.heap.size) w1 (by omega) hown1)
 clear hW1
 go_wp2_with (go_at_call 172; refine HP.out.mono ?_; rintro e w2 ⟨rfl, hown2, hg2⟩; refine Hid.out ?_)
 refine Lib.hid ?_
 have hB2 : Below W1.heap.size W1 w2 := hb1.grown hg2 hs1 fun k ek => own_base hown1 ek
 have hs2 := hB2.size
 obtain ⟨q2, f2⟩ := bcell hB2
 have HO2 := Lib.hid hown2
 have HB2 := Lib.hid hB2
 clear hown1 hown2 hg2 hb1 hB2 HP
 go_wp2_with fail
 have hown3 : w2.drew.ownsRow W1.heap.size 3 1 (.slice A n c) n (intL (srtI xs)) := HO2.out
 have HP3 := Lib.hid (p_CompactI (base := W1.heap.size) w2.drew (by omega) hown3)
 rw [HM.out] at HP3
 go_region_with (first
  | (go_at_call 173; refine HP3.out.mono ?_; rintro e w3 ⟨rfl, hg3⟩; have hB3 : Below W1.heap.size W1 w3 := HB2.out.drew.grown hg3 hs2 fun k ek => own_base hown3 ek; obtain ⟨q3, f3⟩ := bcell hB3)
  | (go_at_call 73; refine (HS.out _ (HD.out.now hB3)).mono ?_; rintro e w4 ⟨v4, rfl, hb4, hown4⟩; obtain ⟨A4, c4, rfl, _⟩ := own_slice hown4))
 all_goals
  go_wp2_with fail
  go_ret
  refine ⟨ret_bool ?_, (hB1.trans (hB3.mono (by omega))).trans (hb4.mono (by have := hB3.size; omega))⟩
  rw [← HE.out, Bool.eq_iff_iff]
  simp
  try omega
end Go.Proofs.YtklikciiaogpbaaGreat
