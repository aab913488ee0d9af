/- Layer 2 of the texts that LoanChecks takes: Vboq. -/
import Derived.Test.YtklikciiaogpbaaGreatVbnq
set_option linter.unusedVariables false
set_option linter.unusedSimpArgs false
/- Layer 2: one sight more: a case. -/
namespace Go.Proofs.YtklikciiaogpbaaGreat
open Go.RowKit Go.Maps
set_option maxRecDepth 10000 in
set_option maxHeartbeats 16000000 in
theorem p_Seen1 (l : Led) (s : Sgt) (pA : Option Addr) (pn pc : Nat) (rA : Option Addr) (rn rc : Nat) (tA : Option Addr) (tn tc : Nat) (sA : Option Addr) (sn sc : Nat) (w : World) (hf : Lsl.fit ⟨pA, pn, pc, rA, rn, rc, tA, tn, tc, sA, sn, sc⟩) (hd : LedIn w w.heap.size ⟨pA, pn, pc, rA, rn, rc, tA, tn, tc, sA, sn, sc⟩ l) (hk : ledB l = true) (ho : s.okB = false) :
 Calls Tryz.prog 14 #[.agg #[.slice pA pn pc, .slice rA rn rc, .slice tA tn tc, .slice sA sn sc], .agg #[.int .i64 s.src, .int .i64 s.per, .int .i64 s.pap, .int .i64 s.leaf, .int .i64 s.day, .int .i64 s.kn, .int .i64 s.un]] w (RetSeen l s w) := by
 have HS0 := Lib.hid (SnS.new w #[.slice pA pn pc, .slice rA rn rc, .slice tA tn tc, .slice sA sn sc] #[.int .i64 s.src, .int .i64 s.per, .int .i64 s.pap, .int .i64 s.leaf, .int .i64 s.day, .int .i64 s.kn, .int .i64 s.un])
 have HF := Lib.hid hf
 have HD := Lib.hid hd
 clear hf hd
 have HK : Hid (errI (ledB l) 24 = 0) := by show _ = _; rw [hk]; rfl
 have HKT := Lib.hid hk
 have HLO := Lib.hid (led_ok hk)
 have HD0 := HD
 have HE0 : Hid (seenE l s = if (s.okB && (folB l.pp s.pap s.leaf && !decide (s.src ∈ srcL l))) = true then (if l.sg.length = 60 then 2 else 0) else 23) := by show _ = _; rw [seenE, if_pos hk]
 have hrn : rn ≤ 60 := by have h1 := HLO.out.rn; have h2 : l.rc.length = rn := HD.out.r.len; omega
 have htn : tn ≤ 60 := by have h1 := HLO.out.tn; have h2 : l.rt.length = tn := HD.out.t.len; omega
 have hsn : sn ≤ 60 := by have h1 := HLO.out.sn; have h2 : l.sg.length = sn := HD.out.s.len; omega
 have hpn : pn ≤ 9223372036854775807 := by have h1 := HLO.out.pn; have h2 : l.pp.length = pn := HD.out.p.len; omega
 have hsl : (srcL l).length ≤ 1000000 := by
  have h1 := HLO.out.rn
  have h2 := HLO.out.tn
  have h3 := HLO.out.sn
  simp only [srcL, List.length_append, List.length_map]
  omega
 clear hk
 have HO := Lib.hid ho
 have HE : Hid (seenE l s = 23) := by show _ = _; rw [HE0.out, ho]; rfl
 clear ho
 go_enter Tryz.func14, Tryz.ntmps14
 go_wp2_with (go_at_call 25; refine (p_Check_v l ⟨pA, pn, pc, rA, rn, rc, tA, tn, tc, sA, sn, sc⟩ 0 _ HF.out (HD.out.now HS0.out.hB) HK.out).mono ?_; rintro e w1 ⟨rfl, hb1⟩; have H1 := Lib.hid (HS0.out.ext hb1); clear hb1)
 have HD := Lib.hid (HD.out.now H1.out.hB)
 refine wp_region_held_lit (S := S1 w.heap.size (w.heap.size + 1) #[.slice pA pn pc, .slice rA rn rc, .slice tA tn tc, .slice sA sn sc] #[.int .i64 s.src, .int .i64 s.per, .int .i64 s.pap, .int .i64 s.leaf, .int .i64 s.day, .int .i64 s.kn, .int .i64 s.un]) 17 (by kernel_rfl) rfl ⟨H1.out.bL.cell, H1.out.bS.cell, H1.out.bL.lt, H1.out.bS.lt⟩ (fun hS => ?_)
 simp only [List.reduceReplicate, Array.replicate_succ, Array.replicate_zero]
 have HC : Below w1.heap.size w1 w1.drew := (Below.refl _ _).drew
 (refine tk_ (i := 0) (v := ?_) rfl ?_ hS ?_ (fun _ _ _ h => h); rotate_left; focus (intro w2 hw2; (try dsimp only at hw2); (try unfold S1 at hw2); go_split_ands; go_simp; first | done | with_reducible rfl); (try simp only [Act.put, pu1, pu2, pu3]))
 refine rd_ [1] ?_
 refine ah1 rfl fun K hK => ?_
 (go_simp; go_at_call 23; refine (p_CheckSight_no s _ HO.out).mono ?_; rintro e v2 ⟨rfl, hb⟩; go_simp)
 have HC := Below.then_ HC hb
 refine hK.out _ _ (S1.ext hb hS) (fun hS => ?_)
 clear hK K
 (try simp only [Act.put, pu1, pu2, pu3])
 (refine tk_ (i := 2) (v := ?_) rfl ?_ hS ?_ (fun _ _ _ h => h); rotate_left; focus (intro w2 hw2; (try dsimp only at hw2); (try unfold S1 at hw2); go_split_ands; go_simp; first | done | with_reducible rfl); (try simp only [Act.put, pu1, pu2, pu3]))
 (refine tk_ (i := 3) (v := ?_) rfl ?_ hS ?_ (fun _ _ _ h => h); rotate_left; focus (intro w2 hw2; (try dsimp only at hw2); (try unfold S1 at hw2); go_split_ands; go_simp; first | done | with_reducible rfl); (try simp only [Act.put, pu1, pu2, pu3]))
 go_simp
 (refine wpAnyH_take (i := 4) (v := undef) rfl (by kernel_rfl) (by kernel_rfl) (by kernel_rfl) (fun _ _ _ h => h) (Or.inr ⟨?_, rfl⟩) hS ?_; focus (first | done | kernel_rfl); (try simp only [Act.put, pu1, pu2, pu3]))
 (refine wpAnyH_take (i := 5) (v := undef) rfl (by kernel_rfl) (by kernel_rfl) (by kernel_rfl) (fun _ _ _ h => h) (Or.inr ⟨?_, rfl⟩) hS ?_; focus (first | done | kernel_rfl); (try simp only [Act.put, pu1, pu2, pu3]))
 (refine wpAnyH_take (i := 6) (v := undef) rfl (by kernel_rfl) (by kernel_rfl) (by kernel_rfl) (fun _ _ _ h => h) (Or.inr ⟨?_, rfl⟩) hS ?_; focus (first | done | kernel_rfl); (try simp only [Act.put, pu1, pu2, pu3]))
 (refine wpAnyH_take (i := 7) (v := undef) rfl (by kernel_rfl) (by kernel_rfl) (by kernel_rfl) (fun _ _ _ h => h) (Or.inr ⟨?_, rfl⟩) hS ?_; focus (first | done | kernel_rfl); (try simp only [Act.put, pu1, pu2, pu3]))
 (refine wpAnyH_take (i := 8) (v := undef) rfl (by kernel_rfl) (by kernel_rfl) (by kernel_rfl) (fun _ _ _ h => h) (Or.inr ⟨?_, rfl⟩) hS ?_; focus (first | done | kernel_rfl); (try simp only [Act.put, pu1, pu2, pu3]))
 go_simp
 (refine tk_ (i := 9) (v := ?_) rfl ?_ hS ?_ (fun _ _ _ h => h); rotate_left; focus (intro w2 hw2; (try dsimp only at hw2); (try unfold S1 at hw2); go_split_ands; go_simp; first | done | with_reducible rfl); (try simp only [Act.put, pu1, pu2, pu3]))
 (refine tk_ (i := 10) (v := ?_) rfl ?_ hS ?_ (fun _ _ _ h => h); rotate_left; focus (intro w2 hw2; (try dsimp only at hw2); (try unfold S1 at hw2); go_split_ands; go_simp; first | done | with_reducible rfl); (try simp only [Act.put, pu1, pu2, pu3]))
 go_simp
 (refine wpAnyH_take (i := 11) (v := undef) rfl (by kernel_rfl) (by kernel_rfl) (by kernel_rfl) (fun _ _ _ h => h) (Or.inr ⟨?_, rfl⟩) hS ?_; focus (first | done | kernel_rfl); (try simp only [Act.put, pu1, pu2, pu3]))
 (refine wpAnyH_take (i := 12) (v := undef) rfl (by kernel_rfl) (by kernel_rfl) (by kernel_rfl) (fun _ _ _ h => h) (Or.inr ⟨?_, rfl⟩) hS ?_; focus (first | done | kernel_rfl); (try simp only [Act.put, pu1, pu2, pu3]))
 (refine wpAnyH_take (i := 13) (v := undef) rfl (by kernel_rfl) (by kernel_rfl) (by kernel_rfl) (fun _ _ _ h => h) (Or.inr ⟨?_, rfl⟩) hS ?_; focus (first | done | kernel_rfl); (try simp only [Act.put, pu1, pu2, pu3]))
 (refine wpAnyH_take (i := 14) (v := undef) rfl (by kernel_rfl) (by kernel_rfl) (by kernel_rfl) (fun _ _ _ h => h) (Or.inr ⟨?_, rfl⟩) hS ?_; focus (first | done | kernel_rfl); (try simp only [Act.put, pu1, pu2, pu3]))
 (refine wpAnyH_take (i := 15) (v := undef) rfl (by kernel_rfl) (by kernel_rfl) (by kernel_rfl) (fun _ _ _ h => h) (Or.inr ⟨?_, rfl⟩) hS ?_; focus (first | done | kernel_rfl); (try simp only [Act.put, pu1, pu2, pu3]))
 (refine tk_ (i := 16) (v := ?_) rfl ?_ hS ?_ (fun _ _ _ h => h); rotate_left; focus (intro w2 hw2; (try dsimp only at hw2); (try unfold S1 at hw2); go_split_ands; go_simp; first | done | with_reducible rfl); (try simp only [Act.put, pu1, pu2, pu3]))
 refine wpAnyH_done (by kernel_rfl) ?_ _
 have H4 := Lib.hid (H1.out.ext HC)
 go_simp
 have kZ4 := H4.out.bZ.cell
 have zZ4 := H4.out.bZ.lt
 have fZ4 := H4.out.bZ.frozen
 clear HC hS
 go_wp2
 have bZF := H4.out.bZ
 have hBF := H4.out.hB
 clear kZ4 zZ4 fZ4
 obtain ⟨W2, hW2⟩ : ∃ W2, W2 = v2.setCells (w.heap.size + 2) 0 [.slice none 0 0, .slice none 0 0, .slice none 0 0, .slice none 0 0] := ⟨_, rfl⟩
 have bZ2 : BoxA W2 (w.heap.size + 2) 27 #[.slice none 0 0, .slice none 0 0, .slice none 0 0, .slice none 0 0] := by rw [hW2]; exact bZF.setAll [.slice none 0 0, .slice none 0 0, .slice none 0 0, .slice none 0 0] rfl
 have hB2 : Below w.heap.size w W2 := by rw [hW2]; exact hBF.grown (grown_setCells _ _ _ _) hBF.size (fun b e => by cases e; omega)
 have hG2 : v2.grownBy W2 (some (w.heap.size + 2)) := by rw [hW2]; exact grown_setCells _ _ _ _
 have kz2 := bZ2.cell
 have zz2 := bZ2.lt
 have HW2 := Lib.hid hW2
 clear hW2
 refine bodyPost_w (W2 := W2) (by rw [HW2.out]; rfl) ?_
 refine bodyPost_ret (v := .tuple #[.agg #[.slice none 0 0, .slice none 0 0, .slice none 0 0, .slice none 0 0], .int .i64 23]) ?_ rfl ?_
 ·(simp [results, Tryz.f14, go_sem]; try go_simp)
 ·exact RetSeen.err HE.out (by decide) hB2
end Go.Proofs.YtklikciiaogpbaaGreat
/- Layer 2: one sight more: a case. -/
namespace Go.Proofs.YtklikciiaogpbaaGreat
open Go.RowKit Go.Maps
set_option maxRecDepth 10000 in
set_option maxHeartbeats 16000000 in
theorem p_Seen2 (l : Led) (s : Sgt) (pA : Option Addr) (pn pc : Nat) (rA : Option Addr) (rn rc : Nat) (tA : Option Addr) (tn tc : Nat) (sA : Option Addr) (sn sc : Nat) (w : World) (hf : Lsl.fit ⟨pA, pn, pc, rA, rn, rc, tA, tn, tc, sA, sn, sc⟩) (hd : LedIn w w.heap.size ⟨pA, pn, pc, rA, rn, rc, tA, tn, tc, sA, sn, sc⟩ l) (hk : ledB l = true) (ho : s.okB = true) (hh : folB l.pp s.pap s.leaf = false) :
 Calls Tryz.prog 14 #[.agg #[.slice pA pn pc, .slice rA rn rc, .slice tA tn tc, .slice sA sn sc], .agg #[.int .i64 s.src, .int .i64 s.per, .int .i64 s.pap, .int .i64 s.leaf, .int .i64 s.day, .int .i64 s.kn, .int .i64 s.un]] w (RetSeen l s w) := by
 have HS0 := Lib.hid (SnS.new w #[.slice pA pn pc, .slice rA rn rc, .slice tA tn tc, .slice sA sn sc] #[.int .i64 s.src, .int .i64 s.per, .int .i64 s.pap, .int .i64 s.leaf, .int .i64 s.day, .int .i64 s.kn, .int .i64 s.un])
 have HF := Lib.hid hf
 have HD := Lib.hid hd
 clear hf hd
 have HK : Hid (errI (ledB l) 24 = 0) := by show _ = _; rw [hk]; rfl
 have HKT := Lib.hid hk
 have HLO := Lib.hid (led_ok hk)
 have HD0 := HD
 have HE0 : Hid (seenE l s = if (s.okB && (folB l.pp s.pap s.leaf && !decide (s.src ∈ srcL l))) = true then (if l.sg.length = 60 then 2 else 0) else 23) := by show _ = _; rw [seenE, if_pos hk]
 have hrn : rn ≤ 60 := by have h1 := HLO.out.rn; have h2 : l.rc.length = rn := HD.out.r.len; omega
 have htn : tn ≤ 60 := by have h1 := HLO.out.tn; have h2 : l.rt.length = tn := HD.out.t.len; omega
 have hsn : sn ≤ 60 := by have h1 := HLO.out.sn; have h2 : l.sg.length = sn := HD.out.s.len; omega
 have hpn : pn ≤ 9223372036854775807 := by have h1 := HLO.out.pn; have h2 : l.pp.length = pn := HD.out.p.len; omega
 have hsl : (srcL l).length ≤ 1000000 := by
  have h1 := HLO.out.rn
  have h2 := HLO.out.tn
  have h3 := HLO.out.sn
  simp only [srcL, List.length_append, List.length_map]
  omega
 clear hk
 have HO := Lib.hid ho
 have HH := Lib.hid hh
 have HE : Hid (seenE l s = 23) := by show _ = _; rw [HE0.out, ho, hh]; rfl
 clear ho hh
 go_enter Tryz.func14, Tryz.ntmps14
 go_wp2_with (go_at_call 25; refine (p_Check_v l ⟨pA, pn, pc, rA, rn, rc, tA, tn, tc, sA, sn, sc⟩ 0 _ HF.out (HD.out.now HS0.out.hB) HK.out).mono ?_; rintro e w1 ⟨rfl, hb1⟩; have H1 := Lib.hid (HS0.out.ext hb1); clear hb1)
 have HD := Lib.hid (HD.out.now H1.out.hB)
 refine wp_region_held_lit (S := S1 w.heap.size (w.heap.size + 1) #[.slice pA pn pc, .slice rA rn rc, .slice tA tn tc, .slice sA sn sc] #[.int .i64 s.src, .int .i64 s.per, .int .i64 s.pap, .int .i64 s.leaf, .int .i64 s.day, .int .i64 s.kn, .int .i64 s.un]) 17 (by kernel_rfl) rfl ⟨H1.out.bL.cell, H1.out.bS.cell, H1.out.bL.lt, H1.out.bS.lt⟩ (fun hS => ?_)
 simp only [List.reduceReplicate, Array.replicate_succ, Array.replicate_zero]
 have HC : Below w1.heap.size w1 w1.drew := (Below.refl _ _).drew
 (refine tk_ (i := 0) (v := ?_) rfl ?_ hS ?_ (fun _ _ _ h => h); rotate_left; focus (intro w2 hw2; (try dsimp only at hw2); (try unfold S1 at hw2); go_split_ands; go_simp; first | done | with_reducible rfl); (try simp only [Act.put, pu1, pu2, pu3]))
 refine rd_ [1] ?_
 refine ah1 rfl fun K hK => ?_
 (go_simp; go_at_call 23; refine (p_CheckSight_ok s _ HO.out).mono ?_; rintro e v2 ⟨rfl, hb⟩; go_simp)
 have HC := Below.then_ HC hb
 refine hK.out _ _ (S1.ext hb hS) (fun hS => ?_)
 clear hK K
 (try simp only [Act.put, pu1, pu2, pu3])
 (refine tk_ (i := 2) (v := ?_) rfl ?_ hS ?_ (fun _ _ _ h => h); rotate_left; focus (intro w2 hw2; (try dsimp only at hw2); (try unfold S1 at hw2); go_split_ands; go_simp; first | done | with_reducible rfl); (try simp only [Act.put, pu1, pu2, pu3]))
 (refine tk_ (i := 3) (v := ?_) rfl ?_ hS ?_ (fun _ _ _ h => h); rotate_left; focus (intro w2 hw2; (try dsimp only at hw2); (try unfold S1 at hw2); go_split_ands; go_simp; first | done | with_reducible rfl); (try simp only [Act.put, pu1, pu2, pu3]))
 (refine tk_ (i := 4) (v := ?_) rfl ?_ hS ?_ (fun _ _ _ h => h); rotate_left; focus (intro w2 hw2; (try dsimp only at hw2); (try unfold S1 at hw2); go_split_ands; go_simp; first | done | with_reducible rfl); (try simp only [Act.put, pu1, pu2, pu3]))
 (refine tk_ (i := 5) (v := ?_) rfl ?_ hS ?_ (fun _ _ _ h => h); rotate_left; focus (intro w2 hw2; (try dsimp only at hw2); (try unfold S1 at hw2); go_split_ands; go_simp; first | done | with_reducible rfl); (try simp only [Act.put, pu1, pu2, pu3]))
 refine rd_ [6] ?_
 refine ah1 rfl fun K hK => ?_
 (go_simp; go_at_call 71; refine (p_folioOf s _).mono ?_; rintro e v3 ⟨rfl, hb⟩; go_simp)
 have HC := Below.then_ HC hb
 refine hK.out _ _ (S1.ext hb hS) (fun hS => ?_)
 clear hK K
 (try simp only [Act.put, pu1, pu2, pu3])
 refine rd_ [7] ?_
 refine ah1 rfl fun K hK => ?_
 (go_simp; go_at_call 70; refine (p_has_v l.pp ⟨pA, pn, pc, rA, rn, rc, tA, tn, tc, sA, sn, sc⟩ s.pap s.leaf _ _ HF.out (HD.out.now HC).p HH.out).mono ?_; rintro e v4 ⟨rfl, hb⟩; go_simp)
 have HC := Below.then_ HC hb
 refine hK.out _ _ (S1.ext hb hS) (fun hS => ?_)
 clear hK K
 (try simp only [Act.put, pu1, pu2, pu3])
 (refine tk_ (i := 8) (v := ?_) rfl ?_ hS ?_ (fun _ _ _ h => h); rotate_left; focus (intro w2 hw2; (try dsimp only at hw2); (try unfold S1 at hw2); go_split_ands; go_simp; first | done | with_reducible rfl); (try simp only [Act.put, pu1, pu2, pu3]))
 (refine tk_ (i := 9) (v := ?_) rfl ?_ hS ?_ (fun _ _ _ h => h); rotate_left; focus (intro w2 hw2; (try dsimp only at hw2); (try unfold S1 at hw2); go_split_ands; go_simp; first | done | with_reducible rfl); (try simp only [Act.put, pu1, pu2, pu3]))
 (refine tk_ (i := 10) (v := ?_) rfl ?_ hS ?_ (fun _ _ _ h => h); rotate_left; focus (intro w2 hw2; (try dsimp only at hw2); (try unfold S1 at hw2); go_split_ands; go_simp; first | done | with_reducible rfl); (try simp only [Act.put, pu1, pu2, pu3]))
 go_simp
 (refine wpAnyH_take (i := 11) (v := undef) rfl (by kernel_rfl) (by kernel_rfl) (by kernel_rfl) (fun _ _ _ h => h) (Or.inr ⟨?_, rfl⟩) hS ?_; focus (first | done | kernel_rfl); (try simp only [Act.put, pu1, pu2, pu3]))
 (refine wpAnyH_take (i := 12) (v := undef) rfl (by kernel_rfl) (by kernel_rfl) (by kernel_rfl) (fun _ _ _ h => h) (Or.inr ⟨?_, rfl⟩) hS ?_; focus (first | done | kernel_rfl); (try simp only [Act.put, pu1, pu2, pu3]))
 (refine wpAnyH_take (i := 13) (v := undef) rfl (by kernel_rfl) (by kernel_rfl) (by kernel_rfl) (fun _ _ _ h => h) (Or.inr ⟨?_, rfl⟩) hS ?_; focus (first | done | kernel_rfl); (try simp only [Act.put, pu1, pu2, pu3]))
 (refine wpAnyH_take (i := 14) (v := undef) rfl (by kernel_rfl) (by kernel_rfl) (by kernel_rfl) (fun _ _ _ h => h) (Or.inr ⟨?_, rfl⟩) hS ?_; focus (first | done | kernel_rfl); (try simp only [Act.put, pu1, pu2, pu3]))
 (refine wpAnyH_take (i := 15) (v := undef) rfl (by kernel_rfl) (by kernel_rfl) (by kernel_rfl) (fun _ _ _ h => h) (Or.inr ⟨?_, rfl⟩) hS ?_; focus (first | done | kernel_rfl); (try simp only [Act.put, pu1, pu2, pu3]))
 (refine tk_ (i := 16) (v := ?_) rfl ?_ hS ?_ (fun _ _ _ h => h); rotate_left; focus (intro w2 hw2; (try dsimp only at hw2); (try unfold S1 at hw2); go_split_ands; go_simp; first | done | with_reducible rfl); (try simp only [Act.put, pu1, pu2, pu3]))
 refine wpAnyH_done (by kernel_rfl) ?_ _
 have H4 := Lib.hid (H1.out.ext HC)
 go_simp
 have kZ4 := H4.out.bZ.cell
 have zZ4 := H4.out.bZ.lt
 have fZ4 := H4.out.bZ.frozen
 clear HC hS
 go_wp2
 have bZF := H4.out.bZ
 have hBF := H4.out.hB
 clear kZ4 zZ4 fZ4
 obtain ⟨W2, hW2⟩ : ∃ W2, W2 = v4.setCells (w.heap.size + 2) 0 [.slice none 0 0, .slice none 0 0, .slice none 0 0, .slice none 0 0] := ⟨_, rfl⟩
 have bZ2 : BoxA W2 (w.heap.size + 2) 27 #[.slice none 0 0, .slice none 0 0, .slice none 0 0, .slice none 0 0] := by rw [hW2]; exact bZF.setAll [.slice none 0 0, .slice none 0 0, .slice none 0 0, .slice none 0 0] rfl
 have hB2 : Below w.heap.size w W2 := by rw [hW2]; exact hBF.grown (grown_setCells _ _ _ _) hBF.size (fun b e => by cases e; omega)
 have hG2 : v4.grownBy W2 (some (w.heap.size + 2)) := by rw [hW2]; exact grown_setCells _ _ _ _
 have kz2 := bZ2.cell
 have zz2 := bZ2.lt
 have HW2 := Lib.hid hW2
 clear hW2
 refine bodyPost_w (W2 := W2) (by rw [HW2.out]; rfl) ?_
 refine bodyPost_ret (v := .tuple #[.agg #[.slice none 0 0, .slice none 0 0, .slice none 0 0, .slice none 0 0], .int .i64 23]) ?_ rfl ?_
 ·(simp [results, Tryz.f14, go_sem]; try go_simp)
 ·exact RetSeen.err HE.out (by decide) hB2
end Go.Proofs.YtklikciiaogpbaaGreat
/- Layer 2: one sight more: a case. -/
namespace Go.Proofs.YtklikciiaogpbaaGreat
open Go.RowKit Go.Maps
set_option maxRecDepth 10000 in
set_option maxHeartbeats 16000000 in
theorem p_Seen3 (l : Led) (s : Sgt) (pA : Option Addr) (pn pc : Nat) (rA : Option Addr) (rn rc : Nat) (tA : Option Addr) (tn tc : Nat) (sA : Option Addr) (sn sc : Nat) (w : World) (hf : Lsl.fit ⟨pA, pn, pc, rA, rn, rc, tA, tn, tc, sA, sn, sc⟩) (hd : LedIn w w.heap.size ⟨pA, pn, pc, rA, rn, rc, tA, tn, tc, sA, sn, sc⟩ l) (hk : ledB l = true) (ho : s.okB = true) (hh : folB l.pp s.pap s.leaf = true) (hn : decide (s.src ∈ srcL l) = true) :
 Calls Tryz.prog 14 #[.agg #[.slice pA pn pc, .slice rA rn rc, .slice tA tn tc, .slice sA sn sc], .agg #[.int .i64 s.src, .int .i64 s.per, .int .i64 s.pap, .int .i64 s.leaf, .int .i64 s.day, .int .i64 s.kn, .int .i64 s.un]] w (RetSeen l s w) := by
 have HS0 := Lib.hid (SnS.new w #[.slice pA pn pc, .slice rA rn rc, .slice tA tn tc, .slice sA sn sc] #[.int .i64 s.src, .int .i64 s.per, .int .i64 s.pap, .int .i64 s.leaf, .int .i64 s.day, .int .i64 s.kn, .int .i64 s.un])
 have HF := Lib.hid hf
 have HD := Lib.hid hd
 clear hf hd
 have HK : Hid (errI (ledB l) 24 = 0) := by show _ = _; rw [hk]; rfl
 have HKT := Lib.hid hk
 have HLO := Lib.hid (led_ok hk)
 have HD0 := HD
 have HE0 : Hid (seenE l s = if (s.okB && (folB l.pp s.pap s.leaf && !decide (s.src ∈ srcL l))) = true then (if l.sg.length = 60 then 2 else 0) else 23) := by show _ = _; rw [seenE, if_pos hk]
 have hrn : rn ≤ 60 := by have h1 := HLO.out.rn; have h2 : l.rc.length = rn := HD.out.r.len; omega
 have htn : tn ≤ 60 := by have h1 := HLO.out.tn; have h2 : l.rt.length = tn := HD.out.t.len; omega
 have hsn : sn ≤ 60 := by have h1 := HLO.out.sn; have h2 : l.sg.length = sn := HD.out.s.len; omega
 have hpn : pn ≤ 9223372036854775807 := by have h1 := HLO.out.pn; have h2 : l.pp.length = pn := HD.out.p.len; omega
 have hsl : (srcL l).length ≤ 1000000 := by
  have h1 := HLO.out.rn
  have h2 := HLO.out.tn
  have h3 := HLO.out.sn
  simp only [srcL, List.length_append, List.length_map]
  omega
 clear hk
 have HO := Lib.hid ho
 have HH := Lib.hid hh
 have HN := Lib.hid hn
 have HE : Hid (seenE l s = 23) := by show _ = _; rw [HE0.out, ho, hh, hn]; rfl
 clear ho hh hn
 go_enter Tryz.func14, Tryz.ntmps14
 go_wp2_with (go_at_call 25; refine (p_Check_v l ⟨pA, pn, pc, rA, rn, rc, tA, tn, tc, sA, sn, sc⟩ 0 _ HF.out (HD.out.now HS0.out.hB) HK.out).mono ?_; rintro e w1 ⟨rfl, hb1⟩; have H1 := Lib.hid (HS0.out.ext hb1); clear hb1)
 have HD := Lib.hid (HD.out.now H1.out.hB)
 refine wp_region_held_lit (S := S1 w.heap.size (w.heap.size + 1) #[.slice pA pn pc, .slice rA rn rc, .slice tA tn tc, .slice sA sn sc] #[.int .i64 s.src, .int .i64 s.per, .int .i64 s.pap, .int .i64 s.leaf, .int .i64 s.day, .int .i64 s.kn, .int .i64 s.un]) 17 (by kernel_rfl) rfl ⟨H1.out.bL.cell, H1.out.bS.cell, H1.out.bL.lt, H1.out.bS.lt⟩ (fun hS => ?_)
 simp only [List.reduceReplicate, Array.replicate_succ, Array.replicate_zero]
 have HC : Below w1.heap.size w1 w1.drew := (Below.refl _ _).drew
 (refine tk_ (i := 0) (v := ?_) rfl ?_ hS ?_ (fun _ _ _ h => h); rotate_left; focus (intro w2 hw2; (try dsimp only at hw2); (try unfold S1 at hw2); go_split_ands; go_simp; first | done | with_reducible rfl); (try simp only [Act.put, pu1, pu2, pu3]))
 refine rd_ [1] ?_
 refine ah1 rfl fun K hK => ?_
 (go_simp; go_at_call 23; refine (p_CheckSight_ok s _ HO.out).mono ?_; rintro e v2 ⟨rfl, hb⟩; go_simp)
 have HC := Below.then_ HC hb
 refine hK.out _ _ (S1.ext hb hS) (fun hS => ?_)
 clear hK K
 (try simp only [Act.put, pu1, pu2, pu3])
 (refine tk_ (i := 2) (v := ?_) rfl ?_ hS ?_ (fun _ _ _ h => h); rotate_left; focus (intro w2 hw2; (try dsimp only at hw2); (try unfold S1 at hw2); go_split_ands; go_simp; first | done | with_reducible rfl); (try simp only [Act.put, pu1, pu2, pu3]))
 (refine tk_ (i := 3) (v := ?_) rfl ?_ hS ?_ (fun _ _ _ h => h); rotate_left; focus (intro w2 hw2; (try dsimp only at hw2); (try unfold S1 at hw2); go_split_ands; go_simp; first | done | with_reducible rfl); (try simp only [Act.put, pu1, pu2, pu3]))
 (refine tk_ (i := 4) (v := ?_) rfl ?_ hS ?_ (fun _ _ _ h => h); rotate_left; focus (intro w2 hw2; (try dsimp only at hw2); (try unfold S1 at hw2); go_split_ands; go_simp; first | done | with_reducible rfl); (try simp only [Act.put, pu1, pu2, pu3]))
 (refine tk_ (i := 5) (v := ?_) rfl ?_ hS ?_ (fun _ _ _ h => h); rotate_left; focus (intro w2 hw2; (try dsimp only at hw2); (try unfold S1 at hw2); go_split_ands; go_simp; first | done | with_reducible rfl); (try simp only [Act.put, pu1, pu2, pu3]))
 refine rd_ [6] ?_
 refine ah1 rfl fun K hK => ?_
 (go_simp; go_at_call 71; refine (p_folioOf s _).mono ?_; rintro e v3 ⟨rfl, hb⟩; go_simp)
 have HC := Below.then_ HC hb
 refine hK.out _ _ (S1.ext hb hS) (fun hS => ?_)
 clear hK K
 (try simp only [Act.put, pu1, pu2, pu3])
 refine rd_ [7] ?_
 refine ah1 rfl fun K hK => ?_
 (go_simp; go_at_call 70; refine (p_has_v l.pp ⟨pA, pn, pc, rA, rn, rc, tA, tn, tc, sA, sn, sc⟩ s.pap s.leaf _ _ HF.out (HD.out.now HC).p HH.out).mono ?_; rintro e v4 ⟨rfl, hb⟩; go_simp)
 have HC := Below.then_ HC hb
 refine hK.out _ _ (S1.ext hb hS) (fun hS => ?_)
 clear hK K
 (try simp only [Act.put, pu1, pu2, pu3])
 (refine tk_ (i := 8) (v := ?_) rfl ?_ hS ?_ (fun _ _ _ h => h); rotate_left; focus (intro w2 hw2; (try dsimp only at hw2); (try unfold S1 at hw2); go_split_ands; go_simp; first | done | with_reducible rfl); (try simp only [Act.put, pu1, pu2, pu3]))
 (refine tk_ (i := 9) (v := ?_) rfl ?_ hS ?_ (fun _ _ _ h => h); rotate_left; focus (intro w2 hw2; (try dsimp only at hw2); (try unfold S1 at hw2); go_split_ands; go_simp; first | done | with_reducible rfl); (try simp only [Act.put, pu1, pu2, pu3]))
 (refine tk_ (i := 10) (v := ?_) rfl ?_ hS ?_ (fun _ _ _ h => h); rotate_left; focus (intro w2 hw2; (try dsimp only at hw2); (try unfold S1 at hw2); go_split_ands; go_simp; first | done | with_reducible rfl); (try simp only [Act.put, pu1, pu2, pu3]))
 (refine tk_ (i := 11) (v := ?_) rfl ?_ hS ?_ (fun _ _ _ h => h); rotate_left; focus (intro w2 hw2; (try dsimp only at hw2); (try unfold S1 at hw2); go_split_ands; go_simp; first | done | with_reducible rfl); (try simp only [Act.put, pu1, pu2, pu3]))
 (refine tk_ (i := 13) (v := ?_) rfl ?_ hS ?_ (fun _ _ _ h => h); rotate_left; focus (intro w2 hw2; (try dsimp only at hw2); (try unfold S1 at hw2); go_split_ands; go_simp; first | done | with_reducible rfl); (try simp only [Act.put, pu1, pu2, pu3]))
 (refine tk_ (i := 14) (v := ?_) rfl ?_ hS ?_ (fun _ _ _ h => h); rotate_left; focus (intro w2 hw2; (try dsimp only at hw2); (try unfold S1 at hw2); go_split_ands; go_simp; first | done | with_reducible rfl); (try simp only [Act.put, pu1, pu2, pu3]))
 refine rd_ [12] ?_
 refine ah1 rfl fun K hK => ?_
 (go_simp; go_at_call 73; refine (p_sources l ⟨pA, pn, pc, rA, rn, rc, tA, tn, tc, sA, sn, sc⟩ _ hrn htn hsn (HD.out.now HC)).mono ?_; rintro e v5 ⟨u5, rfl, hb, ho5⟩; obtain ⟨A5, c5, rfl, hc5⟩ := own_slice ho5; go_simp)
 have HC := Below.then_ HC hb
 refine hK.out _ _ (S1.ext hb hS) (fun hS => ?_)
 clear hK K
 (try simp only [Act.put, pu1, pu2, pu3])
 refine rd_ [15] ?_
 refine ah1 rfl fun K hK => ?_
 (go_simp; go_at_call 72; refine (l_contains (srcL l) s.src _ A5 (srcL l).length c5 _ hsl (Rd.of_own ho5) HN.out).mono ?_; rintro e v6 ⟨rfl, rfl⟩; go_simp)
 refine hK.out _ _ hS (fun hS => ?_)
 clear hK K
 (try simp only [Act.put, pu1, pu2, pu3])
 (refine tk_ (i := 16) (v := ?_) rfl ?_ hS ?_ (fun _ _ _ h => h); rotate_left; focus (intro w2 hw2; (try dsimp only at hw2); (try unfold S1 at hw2); go_split_ands; go_simp; first | done | with_reducible rfl); (try simp only [Act.put, pu1, pu2, pu3]))
 refine wpAnyH_done (by kernel_rfl) ?_ _
 have H4 := Lib.hid (H1.out.ext HC)
 have kZ4 := H4.out.bZ.cell
 have zZ4 := H4.out.bZ.lt
 have fZ4 := H4.out.bZ.frozen
 clear HC hS
 go_wp2
 have bZF := H4.out.bZ
 have hBF := H4.out.hB
 clear kZ4 zZ4 fZ4
 obtain ⟨W2, hW2⟩ : ∃ W2, W2 = v5.setCells (w.heap.size + 2) 0 [.slice none 0 0, .slice none 0 0, .slice none 0 0, .slice none 0 0] := ⟨_, rfl⟩
 have bZ2 : BoxA W2 (w.heap.size + 2) 27 #[.slice none 0 0, .slice none 0 0, .slice none 0 0, .slice none 0 0] := by rw [hW2]; exact bZF.setAll [.slice none 0 0, .slice none 0 0, .slice none 0 0, .slice none 0 0] rfl
 have hB2 : Below w.heap.size w W2 := by rw [hW2]; exact hBF.grown (grown_setCells _ _ _ _) hBF.size (fun b e => by cases e; omega)
 have hG2 : v5.grownBy W2 (some (w.heap.size + 2)) := by rw [hW2]; exact grown_setCells _ _ _ _
 have kz2 := bZ2.cell
 have zz2 := bZ2.lt
 have HW2 := Lib.hid hW2
 clear hW2
 refine bodyPost_w (W2 := W2) (by rw [HW2.out]; rfl) ?_
 refine bodyPost_ret (v := .tuple #[.agg #[.slice none 0 0, .slice none 0 0, .slice none 0 0, .slice none 0 0], .int .i64 23]) ?_ rfl ?_
 ·(simp [results, Tryz.f14, go_sem]; try go_simp)
 ·exact RetSeen.err HE.out (by decide) hB2
end Go.Proofs.YtklikciiaogpbaaGreat
/- Layer 2: one sight more: a case. -/
namespace Go.Proofs.YtklikciiaogpbaaGreat
open Go.RowKit Go.Maps
set_option maxRecDepth 10000 in
set_option maxHeartbeats 16000000 in
theorem p_Seen4 (l : Led) (s : Sgt) (pA : Option Addr) (pn pc : Nat) (rA : Option Addr) (rn rc : Nat) (tA : Option Addr) (tn tc : Nat) (sA : Option Addr) (sn sc : Nat) (w : World) (hf : Lsl.fit ⟨pA, pn, pc, rA, rn, rc, tA, tn, tc, sA, sn, sc⟩) (hd : LedIn w w.heap.size ⟨pA, pn, pc, rA, rn, rc, tA, tn, tc, sA, sn, sc⟩ l) (hk : ledB l = true) (ho : s.okB = true) (hh : folB l.pp s.pap s.leaf = true) (hn : decide (s.src ∈ srcL l) = false) (hl60 : sn = 60) :
 Calls Tryz.prog 14 #[.agg #[.slice pA pn pc, .slice rA rn rc, .slice tA tn tc, .slice sA sn sc], .agg #[.int .i64 s.src, .int .i64 s.per, .int .i64 s.pap, .int .i64 s.leaf, .int .i64 s.day, .int .i64 s.kn, .int .i64 s.un]] w (RetSeen l s w) := by
 have HS0 := Lib.hid (SnS.new w #[.slice pA pn pc, .slice rA rn rc, .slice tA tn tc, .slice sA sn sc] #[.int .i64 s.src, .int .i64 s.per, .int .i64 s.pap, .int .i64 s.leaf, .int .i64 s.day, .int .i64 s.kn, .int .i64 s.un])
 have HF := Lib.hid hf
 have HD := Lib.hid hd
 clear hf hd
 have HK : Hid (errI (ledB l) 24 = 0) := by show _ = _; rw [hk]; rfl
 have HKT := Lib.hid hk
 have HLO := Lib.hid (led_ok hk)
 have HD0 := HD
 have HE0 : Hid (seenE l s = if (s.okB && (folB l.pp s.pap s.leaf && !decide (s.src ∈ srcL l))) = true then (if l.sg.length = 60 then 2 else 0) else 23) := by show _ = _; rw [seenE, if_pos hk]
 have hrn : rn ≤ 60 := by have h1 := HLO.out.rn; have h2 : l.rc.length = rn := HD.out.r.len; omega
 have htn : tn ≤ 60 := by have h1 := HLO.out.tn; have h2 : l.rt.length = tn := HD.out.t.len; omega
 have hsn : sn ≤ 60 := by have h1 := HLO.out.sn; have h2 : l.sg.length = sn := HD.out.s.len; omega
 have hpn : pn ≤ 9223372036854775807 := by have h1 := HLO.out.pn; have h2 : l.pp.length = pn := HD.out.p.len; omega
 have hsl : (srcL l).length ≤ 1000000 := by
  have h1 := HLO.out.rn
  have h2 := HLO.out.tn
  have h3 := HLO.out.sn
  simp only [srcL, List.length_append, List.length_map]
  omega
 clear hk
 have HO := Lib.hid ho
 have HH := Lib.hid hh
 have HN := Lib.hid hn
 have HE : Hid (seenE l s = 2) := by show _ = _; rw [HE0.out, ho, hh, hn]; have h1 : l.sg.length = sn := HD.out.s.len; rw [h1, hl60]; rfl
 have hn60 : ((sn : Int) == 60) = true := by simp [hl60]
 clear ho hh hn hl60
 go_enter Tryz.func14, Tryz.ntmps14
 go_wp2_with (go_at_call 25; refine (p_Check_v l ⟨pA, pn, pc, rA, rn, rc, tA, tn, tc, sA, sn, sc⟩ 0 _ HF.out (HD.out.now HS0.out.hB) HK.out).mono ?_; rintro e w1 ⟨rfl, hb1⟩; have H1 := Lib.hid (HS0.out.ext hb1); clear hb1)
 have HD := Lib.hid (HD.out.now H1.out.hB)
 refine wp_region_held_lit (S := S1 w.heap.size (w.heap.size + 1) #[.slice pA pn pc, .slice rA rn rc, .slice tA tn tc, .slice sA sn sc] #[.int .i64 s.src, .int .i64 s.per, .int .i64 s.pap, .int .i64 s.leaf, .int .i64 s.day, .int .i64 s.kn, .int .i64 s.un]) 17 (by kernel_rfl) rfl ⟨H1.out.bL.cell, H1.out.bS.cell, H1.out.bL.lt, H1.out.bS.lt⟩ (fun hS => ?_)
 simp only [List.reduceReplicate, Array.replicate_succ, Array.replicate_zero]
 have HC : Below w1.heap.size w1 w1.drew := (Below.refl _ _).drew
 (refine tk_ (i := 0) (v := ?_) rfl ?_ hS ?_ (fun _ _ _ h => h); rotate_left; focus (intro w2 hw2; (try dsimp only at hw2); (try unfold S1 at hw2); go_split_ands; go_simp; first | done | with_reducible rfl); (try simp only [Act.put, pu1, pu2, pu3]))
 refine rd_ [1] ?_
 refine ah1 rfl fun K hK => ?_
 (go_simp; go_at_call 23; refine (p_CheckSight_ok s _ HO.out).mono ?_; rintro e v2 ⟨rfl, hb⟩; go_simp)
 have HC := Below.then_ HC hb
 refine hK.out _ _ (S1.ext hb hS) (fun hS => ?_)
 clear hK K
 (try simp only [Act.put, pu1, pu2, pu3])
 (refine tk_ (i := 2) (v := ?_) rfl ?_ hS ?_ (fun _ _ _ h => h); rotate_left; focus (intro w2 hw2; (try dsimp only at hw2); (try unfold S1 at hw2); go_split_ands; go_simp; first | done | with_reducible rfl); (try simp only [Act.put, pu1, pu2, pu3]))
 (refine tk_ (i := 3) (v := ?_) rfl ?_ hS ?_ (fun _ _ _ h => h); rotate_left; focus (intro w2 hw2; (try dsimp only at hw2); (try unfold S1 at hw2); go_split_ands; go_simp; first | done | with_reducible rfl); (try simp only [Act.put, pu1, pu2, pu3]))
 (refine tk_ (i := 4) (v := ?_) rfl ?_ hS ?_ (fun _ _ _ h => h); rotate_left; focus (intro w2 hw2; (try dsimp only at hw2); (try unfold S1 at hw2); go_split_ands; go_simp; first | done | with_reducible rfl); (try simp only [Act.put, pu1, pu2, pu3]))
 (refine tk_ (i := 5) (v := ?_) rfl ?_ hS ?_ (fun _ _ _ h => h); rotate_left; focus (intro w2 hw2; (try dsimp only at hw2); (try unfold S1 at hw2); go_split_ands; go_simp; first | done | with_reducible rfl); (try simp only [Act.put, pu1, pu2, pu3]))
 refine rd_ [6] ?_
 refine ah1 rfl fun K hK => ?_
 (go_simp; go_at_call 71; refine (p_folioOf s _).mono ?_; rintro e v3 ⟨rfl, hb⟩; go_simp)
 have HC := Below.then_ HC hb
 refine hK.out _ _ (S1.ext hb hS) (fun hS => ?_)
 clear hK K
 (try simp only [Act.put, pu1, pu2, pu3])
 refine rd_ [7] ?_
 refine ah1 rfl fun K hK => ?_
 (go_simp; go_at_call 70; refine (p_has_v l.pp ⟨pA, pn, pc, rA, rn, rc, tA, tn, tc, sA, sn, sc⟩ s.pap s.leaf _ _ HF.out (HD.out.now HC).p HH.out).mono ?_; rintro e v4 ⟨rfl, hb⟩; go_simp)
 have HC := Below.then_ HC hb
 refine hK.out _ _ (S1.ext hb hS) (fun hS => ?_)
 clear hK K
 (try simp only [Act.put, pu1, pu2, pu3])
 (refine tk_ (i := 8) (v := ?_) rfl ?_ hS ?_ (fun _ _ _ h => h); rotate_left; focus (intro w2 hw2; (try dsimp only at hw2); (try unfold S1 at hw2); go_split_ands; go_simp; first | done | with_reducible rfl); (try simp only [Act.put, pu1, pu2, pu3]))
 (refine tk_ (i := 9) (v := ?_) rfl ?_ hS ?_ (fun _ _ _ h => h); rotate_left; focus (intro w2 hw2; (try dsimp only at hw2); (try unfold S1 at hw2); go_split_ands; go_simp; first | done | with_reducible rfl); (try simp only [Act.put, pu1, pu2, pu3]))
 (refine tk_ (i := 10) (v := ?_) rfl ?_ hS ?_ (fun _ _ _ h => h); rotate_left; focus (intro w2 hw2; (try dsimp only at hw2); (try unfold S1 at hw2); go_split_ands; go_simp; first | done | with_reducible rfl); (try simp only [Act.put, pu1, pu2, pu3]))
 (refine tk_ (i := 11) (v := ?_) rfl ?_ hS ?_ (fun _ _ _ h => h); rotate_left; focus (intro w2 hw2; (try dsimp only at hw2); (try unfold S1 at hw2); go_split_ands; go_simp; first | done | with_reducible rfl); (try simp only [Act.put, pu1, pu2, pu3]))
 (refine tk_ (i := 13) (v := ?_) rfl ?_ hS ?_ (fun _ _ _ h => h); rotate_left; focus (intro w2 hw2; (try dsimp only at hw2); (try unfold S1 at hw2); go_split_ands; go_simp; first | done | with_reducible rfl); (try simp only [Act.put, pu1, pu2, pu3]))
 (refine tk_ (i := 14) (v := ?_) rfl ?_ hS ?_ (fun _ _ _ h => h); rotate_left; focus (intro w2 hw2; (try dsimp only at hw2); (try unfold S1 at hw2); go_split_ands; go_simp; first | done | with_reducible rfl); (try simp only [Act.put, pu1, pu2, pu3]))
 refine rd_ [12] ?_
 refine ah1 rfl fun K hK => ?_
 (go_simp; go_at_call 73; refine (p_sources l ⟨pA, pn, pc, rA, rn, rc, tA, tn, tc, sA, sn, sc⟩ _ hrn htn hsn (HD.out.now HC)).mono ?_; rintro e v5 ⟨u5, rfl, hb, ho5⟩; obtain ⟨A5, c5, rfl, hc5⟩ := own_slice ho5; go_simp)
 have HC := Below.then_ HC hb
 refine hK.out _ _ (S1.ext hb hS) (fun hS => ?_)
 clear hK K
 (try simp only [Act.put, pu1, pu2, pu3])
 refine rd_ [15] ?_
 refine ah1 rfl fun K hK => ?_
 (go_simp; go_at_call 72; refine (l_contains (srcL l) s.src _ A5 (srcL l).length c5 _ hsl (Rd.of_own ho5) HN.out).mono ?_; rintro e v6 ⟨rfl, rfl⟩; go_simp)
 refine hK.out _ _ hS (fun hS => ?_)
 clear hK K
 (try simp only [Act.put, pu1, pu2, pu3])
 (refine tk_ (i := 16) (v := ?_) rfl ?_ hS ?_ (fun _ _ _ h => h); rotate_left; focus (intro w2 hw2; (try dsimp only at hw2); (try unfold S1 at hw2); go_split_ands; go_simp; first | done | with_reducible rfl); (try simp only [Act.put, pu1, pu2, pu3]))
 refine wpAnyH_done (by kernel_rfl) ?_ _
 have H4 := Lib.hid (H1.out.ext HC)
 have kZ4 := H4.out.bZ.cell
 have zZ4 := H4.out.bZ.lt
 have fZ4 := H4.out.bZ.frozen
 have kL4 := H4.out.bL.cell
 have zL4 := H4.out.bL.lt
 clear HC hS
 go_wp2
 have bZF := H4.out.bZ
 have hBF := H4.out.hB
 clear kZ4 zZ4 fZ4
 obtain ⟨W2, hW2⟩ : ∃ W2, W2 = v5.setCells (w.heap.size + 2) 0 [.slice none 0 0, .slice none 0 0, .slice none 0 0, .slice none 0 0] := ⟨_, rfl⟩
 have bZ2 : BoxA W2 (w.heap.size + 2) 27 #[.slice none 0 0, .slice none 0 0, .slice none 0 0, .slice none 0 0] := by rw [hW2]; exact bZF.setAll [.slice none 0 0, .slice none 0 0, .slice none 0 0, .slice none 0 0] rfl
 have hB2 : Below w.heap.size w W2 := by rw [hW2]; exact hBF.grown (grown_setCells _ _ _ _) hBF.size (fun b e => by cases e; omega)
 have hG2 : v5.grownBy W2 (some (w.heap.size + 2)) := by rw [hW2]; exact grown_setCells _ _ _ _
 have kz2 := bZ2.cell
 have zz2 := bZ2.lt
 have HW2 := Lib.hid hW2
 clear hW2
 refine bodyPost_w (W2 := W2) (by rw [HW2.out]; rfl) ?_
 refine bodyPost_ret (v := .tuple #[.agg #[.slice none 0 0, .slice none 0 0, .slice none 0 0, .slice none 0 0], .int .i64 2]) ?_ rfl ?_
 ·(simp [results, Tryz.f14, go_sem]; try go_simp)
 ·exact RetSeen.err HE.out (by decide) hB2
end Go.Proofs.YtklikciiaogpbaaGreat
/- Layer 2: one sight more. -/
namespace Go.Proofs.YtklikciiaogpbaaGreat
open Go.RowKit Go.Maps
theorem p_Seen (l : Led) (s : Sgt) (x : Lsl) (w : World) (hf : x.fit) (hd : LedIn w w.heap.size x l) :
 Calls Tryz.prog 14 #[.agg #[.slice x.pA x.pn x.pc, .slice x.rA x.rn x.rc, .slice x.tA x.tn x.tc, .slice x.sA x.sn x.sc], .agg #[.int .i64 s.src, .int .i64 s.per, .int .i64 s.pap, .int .i64 s.leaf, .int .i64 s.day, .int .i64 s.kn, .int .i64 s.un]] w (RetSeen l s w) := by
 obtain ⟨pA, pn, pc, rA, rn, rc, tA, tn, tc, sA, sn, sc⟩ := x
 cases hk : ledB l with
 | false => exact p_SeenK l s _ _ _ _ _ _ _ _ _ _ _ _ w hf hd hk
 | true =>
   cases ho : s.okB with
   | false => exact p_Seen1 l s _ _ _ _ _ _ _ _ _ _ _ _ w hf hd hk ho
   | true =>
     cases hh : folB l.pp s.pap s.leaf with
     | false => exact p_Seen2 l s _ _ _ _ _ _ _ _ _ _ _ _ w hf hd hk ho hh
     | true =>
       cases hn : decide (s.src ∈ srcL l) with
       | true => exact p_Seen3 l s _ _ _ _ _ _ _ _ _ _ _ _ w hf hd hk ho hh hn
       | false =>
         by_cases h6 : sn = 60
         ·exact p_Seen4 l s _ _ _ _ _ _ _ _ _ _ _ _ w hf hd hk ho hh hn h6
         ·exact p_Seen5 l s _ _ _ _ _ _ _ _ _ _ _ _ w hf hd hk ho hh hn h6
end Go.Proofs.YtklikciiaogpbaaGreat
