/- Layer 2 of the texts that LoanChecks takes: Vbqq. -/
import Derived.Test.YtklikciiaogpbaaGreatVbnq
set_option linter.unusedVariables false
set_option linter.unusedSimpArgs false
/- Layer 2, the reference: one sight more: a case. -/
namespace Go.Proofs.YtklikciiaogpbaaGreat
open Go.RowKit Go.Maps
set_option maxRecDepth 10000 in
set_option maxHeartbeats 16000000 in
theorem r_Seen5 (l : Led) (s : Sgt) (pA : Option Addr) (pn pc : Nat) (rA : Option Addr) (rn rc : Nat) (tA : Option Addr) (tn tc : Nat) (sA : Option Addr) (sn sc : Nat) (w : World) (hf : Lsl.fit ⟨pA, pn, pc, rA, rn, rc, tA, tn, tc, sA, sn, sc⟩) (hd : LedIn w w.heap.size ⟨pA, pn, pc, rA, rn, rc, tA, tn, tc, sA, sn, sc⟩ l) (hk : ledB l = true) (ho : s.okB = true) (hh : folB l.pp s.pap s.leaf = true) (hn : decide (s.src ∈ srcL l) = false) (hl60 : ¬ sn = 60) :
 Calls Tryz.prog 15 #[.agg #[.slice pA pn pc, .slice rA rn rc, .slice tA tn tc, .slice sA sn sc], .agg #[.int .i64 s.src, .int .i64 s.per, .int .i64 s.pap, .int .i64 s.leaf, .int .i64 s.day, .int .i64 s.kn, .int .i64 s.un]] w (RetSeen l s w) := by
 have HS0 := Lib.hid (SnS.new w #[.slice pA pn pc, .slice rA rn rc, .slice tA tn tc, .slice sA sn sc] #[.int .i64 s.src, .int .i64 s.per, .int .i64 s.pap, .int .i64 s.leaf, .int .i64 s.day, .int .i64 s.kn, .int .i64 s.un])
 have HF := Lib.hid hf
 have HD := Lib.hid hd
 clear hf hd
 have HK : Hid (errI (ledB l) 24 = 0) := by show _ = _; rw [hk]; rfl
 have HKT := Lib.hid hk
 have HLO := Lib.hid (led_ok hk)
 have HD0 := HD
 have HE0 : Hid (seenE l s = if (s.okB && (folB l.pp s.pap s.leaf && !decide (s.src ∈ srcL l))) = true then (if l.sg.length = 60 then 2 else 0) else 23) := by show _ = _; rw [seenE, if_pos hk]
 have hrn : rn ≤ 60 := by have h1 := HLO.out.rn; have h2 : l.rc.length = rn := HD.out.r.len; omega
 have htn : tn ≤ 60 := by have h1 := HLO.out.tn; have h2 : l.rt.length = tn := HD.out.t.len; omega
 have hsn : sn ≤ 60 := by have h1 := HLO.out.sn; have h2 : l.sg.length = sn := HD.out.s.len; omega
 have hpn : pn ≤ 9223372036854775807 := by have h1 := HLO.out.pn; have h2 : l.pp.length = pn := HD.out.p.len; omega
 have hsl : (srcL l).length ≤ 1000000 := by
  have h1 := HLO.out.rn
  have h2 := HLO.out.tn
  have h3 := HLO.out.sn
  simp only [srcL, List.length_append, List.length_map]
  omega
 clear hk
 have HO := Lib.hid ho
 have HOV : Hid (errI s.okB 23 = 0) := by show _ = _; rw [ho]; rfl
 have HH := Lib.hid hh
 have HN := Lib.hid hn
 have hsl9 : (srcL l).length ≤ 9223372036854775807 := by omega
 have HE : Hid (seenE l s = 0) := by show _ = _; rw [HE0.out, ho, hh, hn]; have h1 : l.sg.length = sn := HD.out.s.len; rw [h1]; simp [hl60]
 clear ho hh hn
 have hn60 : ((sn : Int) == 60) = false := by (have h : ¬ (sn : Int) = 60 := by omega); simpa using h
 obtain ⟨i0, hi0, hz0, hz1, hz2⟩ := info_parts infoClSight
 have hsrc : s.src ∉ l.sg.map Sgt.src := by
  intro h
  have h1 : s.src ∈ srcL l := by simp only [srcL, List.mem_append]; exact .inr (.inr h)
  have h2 := HN.out
  rw [decide_eq_false_iff_not] at h2
  exact h2 h1
 have HEND := Lib.hid (insK_end l.sg s hsrc)
 have HSG : Hid (Sgs w w.heap.size sA sn l.sg) := by show Sq _ _ _ _ _ _ _; exact HD0.out.s
 have HSN : Hid (l.sg.length = sn) := by show _ = _; exact HD0.out.s.len
 clear hl60 hsrc
 go_enter Tryz.func15, Tryz.ntmps15
 go_wp2_with (go_at_call 26; refine (r_Check_v l ⟨pA, pn, pc, rA, rn, rc, tA, tn, tc, sA, sn, sc⟩ 0 _ HF.out (HD.out.now HS0.out.hB) HK.out).mono ?_; rintro e w1 ⟨rfl, hb1⟩; have H1 := Lib.hid (HS0.out.ext hb1); clear hb1)
 have HD := Lib.hid (HD.out.now H1.out.hB)
 refine wp_region_held_lit (S := S1 w.heap.size (w.heap.size + 1) #[.slice pA pn pc, .slice rA rn rc, .slice tA tn tc, .slice sA sn sc] #[.int .i64 s.src, .int .i64 s.per, .int .i64 s.pap, .int .i64 s.leaf, .int .i64 s.day, .int .i64 s.kn, .int .i64 s.un]) 20 (by kernel_rfl) rfl ⟨H1.out.bL.cell, H1.out.bS.cell, H1.out.bL.lt, H1.out.bS.lt⟩ (fun hS => ?_)
 simp only [List.reduceReplicate, Array.replicate_succ, Array.replicate_zero]
 have HC : Below w1.heap.size w1 w1.drew := (Below.refl _ _).drew
 (refine tk_ (i := 0) (v := ?_) rfl ?_ hS ?_ (fun _ _ _ h => h); rotate_left; focus (intro w2 hw2; (try dsimp only at hw2); (try unfold SZ7 at hw2); (try unfold S1 at hw2); go_split_ands; go_simp; first | done | with_reducible rfl); (try simp only [Act.put, pu1, pu2, pu3]))
 refine rd_ [1] ?_
 refine ah1 rfl fun K hK => ?_
 (go_simp; go_at_call 24; refine (r_CheckSight_v s _ _ HOV.out).mono ?_; rintro e v2 ⟨rfl, hb⟩; go_simp)
 have HC := Below.then_ HC hb
 refine hK.out _ _ (S1.ext hb hS) (fun hS => ?_)
 clear hK K
 (try simp only [Act.put, pu1, pu2, pu3])
 (refine tk_ (i := 2) (v := ?_) rfl ?_ hS ?_ (fun _ _ _ h => h); rotate_left; focus (intro w2 hw2; (try dsimp only at hw2); (try unfold SZ7 at hw2); (try unfold S1 at hw2); go_split_ands; go_simp; first | done | with_reducible rfl); (try simp only [Act.put, pu1, pu2, pu3]))
 (refine tk_ (i := 3) (v := ?_) rfl ?_ hS ?_ (fun _ _ _ h => h); rotate_left; focus (intro w2 hw2; (try dsimp only at hw2); (try unfold SZ7 at hw2); (try unfold S1 at hw2); go_split_ands; go_simp; first | done | with_reducible rfl); (try simp only [Act.put, pu1, pu2, pu3]))
 (refine tk_ (i := 4) (v := ?_) rfl ?_ hS ?_ (fun _ _ _ h => h); rotate_left; focus (intro w2 hw2; (try dsimp only at hw2); (try unfold SZ7 at hw2); (try unfold S1 at hw2); go_split_ands; go_simp; first | done | with_reducible rfl); (try simp only [Act.put, pu1, pu2, pu3]))
 (refine tk_ (i := 5) (v := ?_) rfl ?_ hS ?_ (fun _ _ _ h => h); rotate_left; focus (intro w2 hw2; (try dsimp only at hw2); (try unfold SZ7 at hw2); (try unfold S1 at hw2); go_split_ands; go_simp; first | done | with_reducible rfl); (try simp only [Act.put, pu1, pu2, pu3]))
 (refine tk_ (i := 6) (v := ?_) rfl ?_ hS ?_ (fun _ _ _ h => h); rotate_left; focus (intro w2 hw2; (try dsimp only at hw2); (try unfold SZ7 at hw2); (try unfold S1 at hw2); go_split_ands; go_simp; first | done | with_reducible rfl); (try simp only [Act.put, pu1, pu2, pu3]))
 (refine tk_ (i := 7) (v := ?_) rfl ?_ hS ?_ (fun _ _ _ h => h); rotate_left; focus (intro w2 hw2; (try dsimp only at hw2); (try unfold SZ7 at hw2); (try unfold S1 at hw2); go_split_ands; go_simp; first | done | with_reducible rfl); (try simp only [Act.put, pu1, pu2, pu3]))
 (refine tk_ (i := 8) (v := ?_) rfl ?_ hS ?_ (fun _ _ _ h => h); rotate_left; focus (intro w2 hw2; (try dsimp only at hw2); (try unfold SZ7 at hw2); (try unfold S1 at hw2); go_split_ands; go_simp; first | done | with_reducible rfl); (try simp only [Act.put, pu1, pu2, pu3]))
 (refine tk_ (i := 9) (v := ?_) rfl ?_ hS ?_ (fun _ _ _ h => h); rotate_left; focus (intro w2 hw2; (try dsimp only at hw2); (try unfold SZ7 at hw2); (try unfold S1 at hw2); go_split_ands; go_simp; first | done | with_reducible rfl); (try simp only [Act.put, pu1, pu2, pu3]))
 refine rd_ [10] ?_
 refine ah1 rfl fun K hK => ?_
 (go_simp; go_at_call 79; refine (r_isFolio_v l.pp ⟨pA, pn, pc, rA, rn, rc, tA, tn, tc, sA, sn, sc⟩ s.pap s.leaf _ _ hpn (HD.out.now HC).p HH.out).mono ?_; rintro e v4 ⟨rfl, hb⟩; go_simp)
 have HC := Below.then_ HC hb
 refine hK.out _ _ (S1.ext hb hS) (fun hS => ?_)
 clear hK K
 (try simp only [Act.put, pu1, pu2, pu3])
 (refine tk_ (i := 11) (v := ?_) rfl ?_ hS ?_ (fun _ _ _ h => h); rotate_left; focus (intro w2 hw2; (try dsimp only at hw2); (try unfold SZ7 at hw2); (try unfold S1 at hw2); go_split_ands; go_simp; first | done | with_reducible rfl); (try simp only [Act.put, pu1, pu2, pu3]))
 (refine tk_ (i := 12) (v := ?_) rfl ?_ hS ?_ (fun _ _ _ h => h); rotate_left; focus (intro w2 hw2; (try dsimp only at hw2); (try unfold SZ7 at hw2); (try unfold S1 at hw2); go_split_ands; go_simp; first | done | with_reducible rfl); (try simp only [Act.put, pu1, pu2, pu3]))
 (refine tk_ (i := 13) (v := ?_) rfl ?_ hS ?_ (fun _ _ _ h => h); rotate_left; focus (intro w2 hw2; (try dsimp only at hw2); (try unfold SZ7 at hw2); (try unfold S1 at hw2); go_split_ands; go_simp; first | done | with_reducible rfl); (try simp only [Act.put, pu1, pu2, pu3]))
 (refine tk_ (i := 14) (v := ?_) rfl ?_ hS ?_ (fun _ _ _ h => h); rotate_left; focus (intro w2 hw2; (try dsimp only at hw2); (try unfold SZ7 at hw2); (try unfold S1 at hw2); go_split_ands; go_simp; first | done | with_reducible rfl); (try simp only [Act.put, pu1, pu2, pu3]))
 (refine tk_ (i := 16) (v := ?_) rfl ?_ hS ?_ (fun _ _ _ h => h); rotate_left; focus (intro w2 hw2; (try dsimp only at hw2); (try unfold SZ7 at hw2); (try unfold S1 at hw2); go_split_ands; go_simp; first | done | with_reducible rfl); (try simp only [Act.put, pu1, pu2, pu3]))
 (refine tk_ (i := 17) (v := ?_) rfl ?_ hS ?_ (fun _ _ _ h => h); rotate_left; focus (intro w2 hw2; (try dsimp only at hw2); (try unfold SZ7 at hw2); (try unfold S1 at hw2); go_split_ands; go_simp; first | done | with_reducible rfl); (try simp only [Act.put, pu1, pu2, pu3]))
 refine rd_ [15] ?_
 refine ah1 rfl fun K hK => ?_
 (go_simp; go_at_call 80; refine (r_sources l ⟨pA, pn, pc, rA, rn, rc, tA, tn, tc, sA, sn, sc⟩ _ hrn htn hsn (HD.out.now HC)).mono ?_; rintro e v5 ⟨u5, rfl, hb, ho5⟩; obtain ⟨A5, c5, rfl, hc5⟩ := own_slice ho5; go_simp)
 have HC := Below.then_ HC hb
 refine hK.out _ _ (S1.ext hb hS) (fun hS => ?_)
 clear hK K
 (try simp only [Act.put, pu1, pu2, pu3])
 refine rd_ [18] ?_
 refine ah1 rfl fun K hK => ?_
 (go_simp; go_at_call 64; refine (r_Has2_v (srcL l) s.src _ A5 (srcL l).length c5 _ hsl9 (Rd.of_own ho5) HN.out).mono ?_; rintro e v6 ⟨rfl, hb⟩; go_simp)
 have HC := Below.then_ HC hb
 refine hK.out _ _ (S1.ext hb hS) (fun hS => ?_)
 clear hK K
 (try simp only [Act.put, pu1, pu2, pu3])
 (refine tk_ (i := 19) (v := ?_) rfl ?_ hS ?_ (fun _ _ _ h => h); rotate_left; focus (intro w2 hw2; (try dsimp only at hw2); (try unfold SZ7 at hw2); (try unfold S1 at hw2); go_split_ands; go_simp; first | done | with_reducible rfl); (try simp only [Act.put, pu1, pu2, pu3]))
 refine wpAnyH_done (by kernel_rfl) ?_ _
 have H4 := Lib.hid (H1.out.ext HC)
 have kL4 := H4.out.bL.cell
 have zL4 := H4.out.bL.lt
 clear HC hS
 go_wp2_with fail
 refine (r_Copy l ⟨pA, pn, pc, rA, rn, rc, tA, tn, tc, sA, sn, sc⟩ _ HLO.out (HD0.out.now H4.out.hB)).mono ?_
 rintro e w7 ⟨⟨p1A, p1n, p1c, r1A, r1n, r1c, t1A, t1n, t1c, s1A, s1n, s1c⟩, rvs, tvs, rfl, hb7, hc7, hr7, ht7⟩
 have hz4 := H4.out.bZ.lt
 have hs7 : w.heap.size + 3 ≤ w7.heap.size := by have := hb7.size; omega
 have HR7 := Lib.hid hr7
 have HT7 := Lib.hid ht7
 have H7 := Lib.hid (H4.out.ext hb7)
 have HC7 := Lib.hid ((hc7.dn (base' := w.heap.size + 3) (by omega)).nilS)
 obtain ⟨qo, hqo⟩ : ∃ q, q = w7.heap.size := ⟨_, rfl⟩
 have HZQ0 : w.heap.size + 3 ≤ qo := by omega
 have hSL : SnL w (w7.alloc (.cells #[.slice p1A p1n p1c, .slice r1A r1n r1c, .slice t1A t1n t1c, .slice none 0 0] 27)) #[.slice pA pn pc, .slice rA rn rc, .slice tA tn tc, .slice sA sn sc] #[.int .i64 s.src, .int .i64 s.per, .int .i64 s.pap, .int .i64 s.leaf, .int .i64 s.day, .int .i64 s.kn, .int .i64 s.un] #[.slice p1A p1n p1c, .slice r1A r1n r1c, .slice t1A t1n t1c, .slice none 0 0] qo := ⟨H7.out.ext ((Below.refl _ _).alloc (Nat.le_refl _) _), by rw [hqo]; exact BoxA.new _ _ _, HZQ0⟩
 have HSL := Lib.hid hSL
 have HCL := Lib.hid (HC7.out.ext (show Below w7.heap.size w7 (w7.alloc (.cells #[.slice p1A p1n p1c, .slice r1A r1n r1c, .slice t1A t1n t1c, .slice none 0 0] 27)) from (Below.refl _ _).alloc (Nat.le_refl _) _))
 clear hb7 hc7 hr7 ht7 kL4 zL4 hSL
 go_wp2
 simp only [← hqo]
 clear hqo
 go_loopw [7, 8] (fun dv iv wr => ∃ (k : Nat) (xl : List Sgt) (d : Bool) (A : Option Addr) (m c : Nat), k ≤ sn ∧ insK l.sg s k = (xl, d) ∧ dv = .bool d ∧ iv = .int .i64 k ∧ SnL w wr #[.slice pA pn pc, .slice rA rn rc, .slice tA tn tc, .slice sA sn sc] #[.int .i64 s.src, .int .i64 s.per, .int .i64 s.pap, .int .i64 s.leaf, .int .i64 s.day, .int .i64 s.kn, .int .i64 s.un] #[.slice p1A p1n p1c, .slice r1A r1n r1c, .slice t1A t1n t1c, .slice A m c] qo ∧ Cop wr (w.heap.size + 3) ⟨p1A, p1n, p1c, r1A, r1n, r1c, t1A, t1n, t1c, A, m, c⟩ l.pp rvs tvs xl ∧ ((d = false → m = k) ∧ (d = true → m = k + 1))) (fun _ iv _ => sn - (intOf iv).toNat)
 case atStart => exact ⟨0, [], false, none, 0, 0, by omega, rfl, rfl, rfl, HSL.out, HCL.out, ⟨fun _ => rfl, fun h => (by cases h)⟩⟩
 case round =>
  obtain ⟨k, xl, d, A, m, c, hk, hins, rfl, rfl, hS0, hC0, hm⟩ := hrel
  have HZQ := hS0.zq
  have hsB := hS0.s.hB.size
  have kL := hS0.s.bL.cell
  have zL := hS0.s.bL.lt
  have kS := hS0.s.bS.cell
  have zS := hS0.s.bS.lt
  have HS := Lib.hid hS0
  have HCP := Lib.hid hC0
  have HIN := Lib.hid hins
  clear hS0 hC0 hins
  by_cases hlt : k < sn
  ·obtain ⟨b, o, z, rfl, hb, hz, a0, a1, a2, a3, a4, a5, a6⟩ := (Sq.ext HSG.out abS HS.out.s.hB (Nat.le_refl _)).at_ hlt
   have hbr : b < wr.heap.size := by omega
   have HIK : Hid (insK l.sg s (k + 1) = if d = false ∧ s.src < z.src then (xl ++ [s] ++ [z], true) else (xl ++ [z], d)) := by show _ = _; rw [insK, hz]; simp only [HIN.out]
   have HZ := Lib.hid hz
   have hm9 : m ≤ k + 1 := by cases d <;> simp at hm <;> omega
   clear hz
   cases d with
   | true =>
     have HIX : Hid (insK l.sg s (k + 1) = (xl ++ [z], true)) := by show _ = _; rw [HIK.out, if_neg (fun h => by cases h.1)]
     have HMK : Hid (m = k + 1) := by show _ = _; exact hm.2 rfl
     clear hm
     go_wp2_with fail
     (refine wp_region_grow (by kernel_rfl) (by kernel_rfl) ?_; (repeat (go_big_quiet_step ((first | fail)))); refine wpQuiet_nil ?_; rintro w1 ⟨⟨_, hb1⟩, rfl⟩; (try dsimp only at hb1 ⊢); obtain ⟨hc1, hf1⟩ := bcell hb1)
     have HS1 := Lib.hid (HS.out.ext hb1)
     have HCP1 := Lib.hid (HCP.out.ext hb1)
     clear kL zL kS zS
     have kL := HS1.out.s.bL.cell
     have zL := HS1.out.s.bL.lt
     have b0 := hb1.size
     replace a0 := (hb1.cell (p := ⟨b, _, none⟩) hbr).trans a0
     replace a1 := (hb1.cell (p := ⟨b, _, none⟩) hbr).trans a1
     replace a2 := (hb1.cell (p := ⟨b, _, none⟩) hbr).trans a2
     replace a3 := (hb1.cell (p := ⟨b, _, none⟩) hbr).trans a3
     replace a4 := (hb1.cell (p := ⟨b, _, none⟩) hbr).trans a4
     replace a5 := (hb1.cell (p := ⟨b, _, none⟩) hbr).trans a5
     replace a6 := (hb1.cell (p := ⟨b, _, none⟩) hbr).trans a6
     go_wp2_with fail
     have hL16 := HS1.out.s.bL
     have hO16 := HS1.out.bO
     have hw16 : w.heap.size + 3 ≤ w1.heap.size := by have := HS1.out.zq; have := hO16.lt; omega
     (refine wp_region_sink_lit (S := SZ7 w.heap.size qo #[.slice pA pn pc, .slice rA rn rc, .slice tA tn tc, .slice (some ⟨b, o, none⟩) sn sc] #[.slice p1A p1n p1c, .slice r1A r1n r1c, .slice t1A t1n t1c, .slice A m c] b (o + k * 7) z) 10 (by kernel_rfl) rfl rfl (by kernel_rfl) (by kernel_rfl) ⟨⟨hL16.cell, hO16.cell, hL16.lt, hO16.lt⟩, show b < w1.heap.size by omega, a0, a1, a2, a3, a4, a5, a6⟩ (fun hS => ?_); simp only [List.take_succ_cons, List.take_zero, List.reduceReplicate, Array.replicate_succ, Array.replicate_zero])
     clear a0 a1 a2 a3 a4 a5 a6
     (refine tk_ (i := 0) (v := ?_) rfl ?_ hS ?_ (fun _ _ _ h => h); rotate_left; focus (intro w2 hw2; (try dsimp only at hw2); (try unfold SZ7 at hw2); (try unfold S1 at hw2); go_split_ands; go_simp; first | done | with_reducible rfl); (try simp only [Act.put, pu1, pu2, pu3]))
     (refine tk_ (i := 1) (v := ?_) rfl ?_ hS ?_ (fun _ _ _ h => h); rotate_left; focus (intro w2 hw2; (try dsimp only at hw2); (try unfold SZ7 at hw2); (try unfold S1 at hw2); go_split_ands; go_simp; first | done | with_reducible rfl); (try simp only [Act.put, pu1, pu2, pu3]))
     (refine tk_ (i := 2) (v := ?_) rfl ?_ hS ?_ (fun _ _ _ h => h); rotate_left; focus (intro w2 hw2; (try dsimp only at hw2); (try unfold SZ7 at hw2); (try unfold S1 at hw2); go_split_ands; go_simp; first | done | with_reducible rfl); (try simp only [Act.put, pu1, pu2, pu3]))
     (refine tk_ (i := 3) (v := ?_) rfl ?_ hS ?_ (fun _ _ _ h => h); rotate_left; focus (intro w2 hw2; (try dsimp only at hw2); (try unfold SZ7 at hw2); (try unfold S1 at hw2); go_split_ands; go_simp; first | done | with_reducible rfl); (try simp only [Act.put, pu1, pu2, pu3]))
     (refine tk_ (i := 4) (v := ?_) rfl ?_ hS ?_ (fun _ _ _ h => h); rotate_left; focus (intro w2 hw2; (try dsimp only at hw2); (try unfold SZ7 at hw2); (try unfold S1 at hw2); go_split_ands; go_simp; first | done | with_reducible rfl); (try simp only [Act.put, pu1, pu2, pu3]))
     (refine tk_ (i := 5) (v := ?_) rfl ?_ hS ?_ (fun _ _ _ h => h); rotate_left; focus (intro w2 hw2; (try dsimp only at hw2); (try unfold SZ7 at hw2); (try unfold S1 at hw2); go_split_ands; go_simp; first | done | with_reducible rfl); (try simp only [Act.put, pu1, pu2, pu3]))
     (refine tk_ (i := 6) (v := ?_) rfl ?_ hS ?_ (fun _ _ _ h => h); rotate_left; focus (intro w2 hw2; (try dsimp only at hw2); (try unfold SZ7 at hw2); (try unfold S1 at hw2); go_split_ands; go_simp; first | done | with_reducible rfl); (try simp only [Act.put, pu1, pu2, pu3]))
     refine rd_ [7] ?_
     refine ah1 rfl fun K hK => ?_
     go_simp
     refine hK.out _ _ (SZ7.ext ((Below.refl _ _).alloc (Nat.le_refl _) (.cells (sgC z).toArray 38)) hS) (fun hS => ?_)
     clear hK K
     (try simp only [Act.put, pu1, pu2, pu3])
     refine rd_ [8] ?_
     refine ah1 rfl fun K hK => ?_
     refine step_app (by rfl) (.tmp 69) (.tmp 75) 25 (by rfl) (base := w.heap.size + 3) (B := _) (e := 38) (i := i0) (size := 7) (bytes := 56) Tryz.underlying25 hi0 hz0 hz1 hz2 rfl (by decide) (v := .slice A m c) (n := m) (m := 1) (A := some ⟨w1.heap.size, 0, none⟩) (c := 1) (xs := xl.flatMap sgC) (news := sgC z) (by rfl) (by rfl) ((HCP1.out.s.drew).alloc (.cells (sgC z).toArray 38)) (Rd.new w1.drew (sgC z).toArray 38 7 1 _ rfl rfl) (sg_one z) (by unfold maxLen; omega) (by omega) (by simp; omega) ?_
     intro v6 w6 hown6 hgrow6
     obtain ⟨A6, c6, rfl, hcc6⟩ := own_slice hown6
     have hgD : (w1.alloc (.cells (sgC z).toArray 38)).grownBy w6 (Value.slice A m c).ownBlock := ⟨hgrow6.os, hgrow6.tape, hgrow6.output, hgrow6.size, hgrow6.block⟩
     refine hK.out _ _ (SZ7.grownR hgrow6 hS (own_ne (HCP1.out.s.alloc (.cells (sgC z).toArray 38)) (hL16.alloc _) (by decide)) (own_ne (HCP1.out.s.alloc (.cells (sgC z).toArray 38)) (hO16.alloc _) (by decide)) (fun e => by have := own_le HCP1.out.s e.symm; omega)) (fun hS => ?_)
     clear hK K
     (try simp only [Act.put, pu1, pu2, pu3])
     (refine tk_ (i := 9) (v := ?_) rfl ?_ hS ?_ (fun _ _ _ h => h); rotate_left; focus (intro w2 hw2; (try dsimp only at hw2); (try unfold SZ7 at hw2); (try unfold S1 at hw2); go_split_ands; go_simp; first | done | with_reducible rfl); (try simp only [Act.put, pu1, pu2, pu3]))
     have HCP6 := Lib.hid (snl_app HCP1.out hown6 hgD)
     have HS6 := Lib.hid ((HS1.out.ext (show Below w1.heap.size w1 (w1.alloc (.cells (sgC z).toArray 38)) from (Below.refl _ _).alloc (Nat.le_refl _) _)).grow (HCP1.out.s.alloc _) (by decide) (Nat.le_refl _) hgD)
     have kO6 := HS6.out.bO.cell
     have zO6 := HS6.out.bO.lt
     have fO6 := HS6.out.bO.frozen
     clear hown6 hgrow6 hgD hS hL16 hO16
     refine wpAnyH_done (by kernel_rfl) ?_ _
     simp only [sinkQ]
     go_simp
     go_wp2
     go_roundw
     case rel =>
      exact ⟨k + 1, xl ++ [z], true, A6, m + 1, c6, by omega, HIX.out, rfl, by go_num, HS6.out.set 3 _, HCP6.out.kept HS6.out.bO (grown_setCell _ _ _ _), ⟨fun h => (by cases h), fun _ => (by have := HMK.out; omega)⟩⟩
     case measure => simp [intOf]; omega
   | false =>
     have hmk : m = k := hm.1 rfl
     by_cases hsz : s.src < z.src
     ·have HIX : Hid (insK l.sg s (k + 1) = (xl ++ [s] ++ [z], true)) := by show _ = _; rw [HIK.out, if_pos ⟨rfl, hsz⟩]
      have hsd : decide (z.src > s.src) = true := by simpa using hsz
      have HMK := Lib.hid hmk
      clear hsz hmk hm
      go_wp2_with fail
      (refine wp_region_grow (by kernel_rfl) (by kernel_rfl) ?_; (repeat (go_big_quiet_step ((first | fail)))); refine wpQuiet_nil ?_; rintro w1 ⟨⟨_, hb1⟩, rfl⟩; (try dsimp only at hb1 ⊢); obtain ⟨hc1, hf1⟩ := bcell hb1)
      have HS1 := Lib.hid (HS.out.ext hb1)
      have HCP1 := Lib.hid (HCP.out.ext hb1)
      have b0 := hb1.size
      clear kL zL kS zS a0 a1 a2 a3 a4 a5 a6 hsd
      have kS := HS1.out.s.bS.cell
      have zS := HS1.out.s.bS.lt
      have kO := HS1.out.bO.cell
      have zO := HS1.out.bO.lt
      go_wp2_with (at_builtin; refine wpList_append_own _ rfl (.tmp 63) (.tmp 65) 25 rfl (w.heap.size + 3) 38 i0 _ 7 56 Tryz.underlying25 hi0 hz0 hz1 hz2 rfl (by decide) _ _ _ rfl (HCP1.out.s.alloc (.cells (sgC s).toArray 38)) ⟨w1.heap.size, 0, none⟩ 1 1 (sgC s) rfl rfl ?c1 ?c2 ?c3 ?c4 ?c5 ?_; rotate_left 5; intro v4 w4 hown4 hgrow4 _; obtain ⟨A4, c4, rfl, hcc4⟩ := own_slice hown4; have HCP4 := Lib.hid (snl_app HCP1.out hown4 hgrow4); have HS4 := Lib.hid ((HS1.out.ext (show Below w1.heap.size w1 (w1.alloc (.cells (sgC s).toArray 38)) from (Below.refl _ _).alloc (Nat.le_refl _) _)).grow (HCP1.out.s.alloc _) (by decide) (Nat.le_refl _) hgrow4); have kO4 := HS4.out.bO.cell; have zO4 := HS4.out.bO.lt; have fO4 := HS4.out.bO.frozen; have kL4 := HS4.out.s.bL.cell; have zL4 := HS4.out.s.bL.lt; have kZ4 := HS4.out.s.bZ.cell; have zZ4 := HS4.out.s.bZ.lt; have fZ4 := HS4.out.s.bZ.frozen; clear hown4 hgrow4)
      case c1 =>
       intro j u hj
       rw [Addr.add_lit, Nat.zero_add, (BoxA.new w1 38 (sgC s).toArray).cell]
       simpa using hj
      case c2 => exact sg_one s
      case c3 => unfold maxLen; omega
      case c4 => omega
      case c5 => have := HZQ; simp; omega
      clear kS zS kO zO kO4 zO4 fO4 kL4 zL4 kZ4 zZ4 fZ4
      obtain ⟨w5, hw5⟩ : ∃ W, W = w4.setCell ⟨qo, 3, none⟩ (.slice A4 (m + 1) c4) := ⟨_, rfl⟩
      rw [← hw5]
      have HS5 : Hid (SnL w w5 #[.slice pA pn pc, .slice rA rn rc, .slice tA tn tc, .slice (some ⟨b, o, none⟩) sn sc] #[.int .i64 s.src, .int .i64 s.per, .int .i64 s.pap, .int .i64 s.leaf, .int .i64 s.day, .int .i64 s.kn, .int .i64 s.un] #[.slice p1A p1n p1c, .slice r1A r1n r1c, .slice t1A t1n t1c, .slice A4 (m + 1) c4] qo) := by show SnL _ _ _ _ _ _; rw [hw5]; exact HS4.out.set 3 _
      have HCP5 : Hid (Cop w5 (w.heap.size + 3) ⟨p1A, p1n, p1c, r1A, r1n, r1c, t1A, t1n, t1c, A4, m + 1, c4⟩ l.pp rvs tvs (xl ++ [s])) := by show Cop _ _ _ _ _ _ _; rw [hw5]; exact HCP4.out.kept HS4.out.bO (grown_setCell _ _ _ _)
      obtain ⟨b9, o9, z9, e9, hb9, hz9, a0, a1, a2, a3, a4, a5, a6⟩ := (Sq.ext HSG.out abS HS5.out.s.hB (Nat.le_refl _)).at_ hlt
      cases e9
      rw [HZ.out] at hz9
      cases hz9
      have kL := HS5.out.s.bL.cell
      have zL := HS5.out.s.bL.lt
      have hb5 : b < w5.heap.size := by have := HS5.out.s.hB.size; omega
      clear hw5
      have hL16 := HS5.out.s.bL
      have hO16 := HS5.out.bO
      have hw16 : w.heap.size + 3 ≤ w5.heap.size := by have := HS5.out.zq; have := hO16.lt; omega
      (refine wp_region_sink_lit (S := SZ7 w.heap.size qo #[.slice pA pn pc, .slice rA rn rc, .slice tA tn tc, .slice (some ⟨b, o, none⟩) sn sc] #[.slice p1A p1n p1c, .slice r1A r1n r1c, .slice t1A t1n t1c, .slice A4 (m + 1) c4] b (o + k * 7) z) 10 (by kernel_rfl) rfl rfl (by kernel_rfl) (by kernel_rfl) ⟨⟨hL16.cell, hO16.cell, hL16.lt, hO16.lt⟩, show b < w5.heap.size by omega, a0, a1, a2, a3, a4, a5, a6⟩ (fun hS => ?_); simp only [List.take_succ_cons, List.take_zero, List.reduceReplicate, Array.replicate_succ, Array.replicate_zero])
      clear a0 a1 a2 a3 a4 a5 a6
      (refine tk_ (i := 0) (v := ?_) rfl ?_ hS ?_ (fun _ _ _ h => h); rotate_left; focus (intro w2 hw2; (try dsimp only at hw2); (try unfold SZ7 at hw2); (try unfold S1 at hw2); go_split_ands; go_simp; first | done | with_reducible rfl); (try simp only [Act.put, pu1, pu2, pu3]))
      (refine tk_ (i := 1) (v := ?_) rfl ?_ hS ?_ (fun _ _ _ h => h); rotate_left; focus (intro w2 hw2; (try dsimp only at hw2); (try unfold SZ7 at hw2); (try unfold S1 at hw2); go_split_ands; go_simp; first | done | with_reducible rfl); (try simp only [Act.put, pu1, pu2, pu3]))
      (refine tk_ (i := 2) (v := ?_) rfl ?_ hS ?_ (fun _ _ _ h => h); rotate_left; focus (intro w2 hw2; (try dsimp only at hw2); (try unfold SZ7 at hw2); (try unfold S1 at hw2); go_split_ands; go_simp; first | done | with_reducible rfl); (try simp only [Act.put, pu1, pu2, pu3]))
      (refine tk_ (i := 3) (v := ?_) rfl ?_ hS ?_ (fun _ _ _ h => h); rotate_left; focus (intro w2 hw2; (try dsimp only at hw2); (try unfold SZ7 at hw2); (try unfold S1 at hw2); go_split_ands; go_simp; first | done | with_reducible rfl); (try simp only [Act.put, pu1, pu2, pu3]))
      (refine tk_ (i := 4) (v := ?_) rfl ?_ hS ?_ (fun _ _ _ h => h); rotate_left; focus (intro w2 hw2; (try dsimp only at hw2); (try unfold SZ7 at hw2); (try unfold S1 at hw2); go_split_ands; go_simp; first | done | with_reducible rfl); (try simp only [Act.put, pu1, pu2, pu3]))
      (refine tk_ (i := 5) (v := ?_) rfl ?_ hS ?_ (fun _ _ _ h => h); rotate_left; focus (intro w2 hw2; (try dsimp only at hw2); (try unfold SZ7 at hw2); (try unfold S1 at hw2); go_split_ands; go_simp; first | done | with_reducible rfl); (try simp only [Act.put, pu1, pu2, pu3]))
      (refine tk_ (i := 6) (v := ?_) rfl ?_ hS ?_ (fun _ _ _ h => h); rotate_left; focus (intro w2 hw2; (try dsimp only at hw2); (try unfold SZ7 at hw2); (try unfold S1 at hw2); go_split_ands; go_simp; first | done | with_reducible rfl); (try simp only [Act.put, pu1, pu2, pu3]))
      refine rd_ [7] ?_
      refine ah1 rfl fun K hK => ?_
      go_simp
      refine hK.out _ _ (SZ7.ext ((Below.refl _ _).alloc (Nat.le_refl _) (.cells (sgC z).toArray 38)) hS) (fun hS => ?_)
      clear hK K
      (try simp only [Act.put, pu1, pu2, pu3])
      refine rd_ [8] ?_
      refine ah1 rfl fun K hK => ?_
      refine step_app (by rfl) (.tmp 69) (.tmp 75) 25 (by rfl) (base := w.heap.size + 3) (B := _) (e := 38) (i := i0) (size := 7) (bytes := 56) Tryz.underlying25 hi0 hz0 hz1 hz2 rfl (by decide) (v := .slice A4 (m + 1) c4) (n := (m + 1)) (m := 1) (A := some ⟨w5.heap.size, 0, none⟩) (c := 1) (xs := (xl ++ [s]).flatMap sgC) (news := sgC z) (by rfl) (by rfl) ((HCP5.out.s.drew).alloc (.cells (sgC z).toArray 38)) (Rd.new w5.drew (sgC z).toArray 38 7 1 _ rfl rfl) (sg_one z) (by unfold maxLen; omega) (by omega) (by simp; omega) ?_
      intro v6 w6 hown6 hgrow6
      obtain ⟨A6, c6, rfl, hcc6⟩ := own_slice hown6
      have hgD : (w5.alloc (.cells (sgC z).toArray 38)).grownBy w6 (Value.slice A4 (m + 1) c4).ownBlock := ⟨hgrow6.os, hgrow6.tape, hgrow6.output, hgrow6.size, hgrow6.block⟩
      refine hK.out _ _ (SZ7.grownR hgrow6 hS (own_ne (HCP5.out.s.alloc (.cells (sgC z).toArray 38)) (hL16.alloc _) (by decide)) (own_ne (HCP5.out.s.alloc (.cells (sgC z).toArray 38)) (hO16.alloc _) (by decide)) (fun e => by have := own_le HCP5.out.s e.symm; omega)) (fun hS => ?_)
      clear hK K
      (try simp only [Act.put, pu1, pu2, pu3])
      (refine tk_ (i := 9) (v := ?_) rfl ?_ hS ?_ (fun _ _ _ h => h); rotate_left; focus (intro w2 hw2; (try dsimp only at hw2); (try unfold SZ7 at hw2); (try unfold S1 at hw2); go_split_ands; go_simp; first | done | with_reducible rfl); (try simp only [Act.put, pu1, pu2, pu3]))
      have HCP6 := Lib.hid (snl_app HCP5.out hown6 hgD)
      have HS6 := Lib.hid ((HS5.out.ext (show Below w5.heap.size w5 (w5.alloc (.cells (sgC z).toArray 38)) from (Below.refl _ _).alloc (Nat.le_refl _) _)).grow (HCP5.out.s.alloc _) (by decide) (Nat.le_refl _) hgD)
      have kO6 := HS6.out.bO.cell
      have zO6 := HS6.out.bO.lt
      have fO6 := HS6.out.bO.frozen
      clear hown6 hgrow6 hgD hS hL16 hO16
      refine wpAnyH_done (by kernel_rfl) ?_ _
      simp only [sinkQ]
      go_simp
      go_wp2
      go_roundw
      case rel =>
       exact ⟨k + 1, xl ++ [s] ++ [z], true, A6, m + 1 + 1, c6, by omega, HIX.out, rfl, by go_num, HS6.out.set 3 _, HCP6.out.kept HS6.out.bO (grown_setCell _ _ _ _), ⟨fun h => (by cases h), fun _ => (by have := HMK.out; omega)⟩⟩
      case measure => simp [intOf]; omega
     ·have HIX : Hid (insK l.sg s (k + 1) = (xl ++ [z], false)) := by show _ = _; rw [HIK.out, if_neg (fun h => hsz h.2)]
      have hsd : decide (z.src > s.src) = false := by simpa using hsz
      have HMK := Lib.hid hmk
      clear hsz hmk hm
      go_wp2_with fail
      (refine wp_region_grow (by kernel_rfl) (by kernel_rfl) ?_; (repeat (go_big_quiet_step ((first | fail)))); refine wpQuiet_nil ?_; rintro w1 ⟨⟨_, hb1⟩, rfl⟩; (try dsimp only at hb1 ⊢); obtain ⟨hc1, hf1⟩ := bcell hb1)
      have HS1 := Lib.hid (HS.out.ext hb1)
      have HCP1 := Lib.hid (HCP.out.ext hb1)
      clear kL zL kS zS hsd
      have kL := HS1.out.s.bL.cell
      have zL := HS1.out.s.bL.lt
      have b0 := hb1.size
      replace a0 := (hb1.cell (p := ⟨b, _, none⟩) hbr).trans a0
      replace a1 := (hb1.cell (p := ⟨b, _, none⟩) hbr).trans a1
      replace a2 := (hb1.cell (p := ⟨b, _, none⟩) hbr).trans a2
      replace a3 := (hb1.cell (p := ⟨b, _, none⟩) hbr).trans a3
      replace a4 := (hb1.cell (p := ⟨b, _, none⟩) hbr).trans a4
      replace a5 := (hb1.cell (p := ⟨b, _, none⟩) hbr).trans a5
      replace a6 := (hb1.cell (p := ⟨b, _, none⟩) hbr).trans a6
      go_wp2_with fail
      have hL16 := HS1.out.s.bL
      have hO16 := HS1.out.bO
      have hw16 : w.heap.size + 3 ≤ w1.heap.size := by have := HS1.out.zq; have := hO16.lt; omega
      (refine wp_region_sink_lit (S := SZ7 w.heap.size qo #[.slice pA pn pc, .slice rA rn rc, .slice tA tn tc, .slice (some ⟨b, o, none⟩) sn sc] #[.slice p1A p1n p1c, .slice r1A r1n r1c, .slice t1A t1n t1c, .slice A m c] b (o + k * 7) z) 10 (by kernel_rfl) rfl rfl (by kernel_rfl) (by kernel_rfl) ⟨⟨hL16.cell, hO16.cell, hL16.lt, hO16.lt⟩, show b < w1.heap.size by omega, a0, a1, a2, a3, a4, a5, a6⟩ (fun hS => ?_); simp only [List.take_succ_cons, List.take_zero, List.reduceReplicate, Array.replicate_succ, Array.replicate_zero])
      clear a0 a1 a2 a3 a4 a5 a6
      (refine tk_ (i := 0) (v := ?_) rfl ?_ hS ?_ (fun _ _ _ h => h); rotate_left; focus (intro w2 hw2; (try dsimp only at hw2); (try unfold SZ7 at hw2); (try unfold S1 at hw2); go_split_ands; go_simp; first | done | with_reducible rfl); (try simp only [Act.put, pu1, pu2, pu3]))
      (refine tk_ (i := 1) (v := ?_) rfl ?_ hS ?_ (fun _ _ _ h => h); rotate_left; focus (intro w2 hw2; (try dsimp only at hw2); (try unfold SZ7 at hw2); (try unfold S1 at hw2); go_split_ands; go_simp; first | done | with_reducible rfl); (try simp only [Act.put, pu1, pu2, pu3]))
      (refine tk_ (i := 2) (v := ?_) rfl ?_ hS ?_ (fun _ _ _ h => h); rotate_left; focus (intro w2 hw2; (try dsimp only at hw2); (try unfold SZ7 at hw2); (try unfold S1 at hw2); go_split_ands; go_simp; first | done | with_reducible rfl); (try simp only [Act.put, pu1, pu2, pu3]))
      (refine tk_ (i := 3) (v := ?_) rfl ?_ hS ?_ (fun _ _ _ h => h); rotate_left; focus (intro w2 hw2; (try dsimp only at hw2); (try unfold SZ7 at hw2); (try unfold S1 at hw2); go_split_ands; go_simp; first | done | with_reducible rfl); (try simp only [Act.put, pu1, pu2, pu3]))
      (refine tk_ (i := 4) (v := ?_) rfl ?_ hS ?_ (fun _ _ _ h => h); rotate_left; focus (intro w2 hw2; (try dsimp only at hw2); (try unfold SZ7 at hw2); (try unfold S1 at hw2); go_split_ands; go_simp; first | done | with_reducible rfl); (try simp only [Act.put, pu1, pu2, pu3]))
      (refine tk_ (i := 5) (v := ?_) rfl ?_ hS ?_ (fun _ _ _ h => h); rotate_left; focus (intro w2 hw2; (try dsimp only at hw2); (try unfold SZ7 at hw2); (try unfold S1 at hw2); go_split_ands; go_simp; first | done | with_reducible rfl); (try simp only [Act.put, pu1, pu2, pu3]))
      (refine tk_ (i := 6) (v := ?_) rfl ?_ hS ?_ (fun _ _ _ h => h); rotate_left; focus (intro w2 hw2; (try dsimp only at hw2); (try unfold SZ7 at hw2); (try unfold S1 at hw2); go_split_ands; go_simp; first | done | with_reducible rfl); (try simp only [Act.put, pu1, pu2, pu3]))
      refine rd_ [7] ?_
      refine ah1 rfl fun K hK => ?_
      go_simp
      refine hK.out _ _ (SZ7.ext ((Below.refl _ _).alloc (Nat.le_refl _) (.cells (sgC z).toArray 38)) hS) (fun hS => ?_)
      clear hK K
      (try simp only [Act.put, pu1, pu2, pu3])
      refine rd_ [8] ?_
      refine ah1 rfl fun K hK => ?_
      refine step_app (by rfl) (.tmp 69) (.tmp 75) 25 (by rfl) (base := w.heap.size + 3) (B := _) (e := 38) (i := i0) (size := 7) (bytes := 56) Tryz.underlying25 hi0 hz0 hz1 hz2 rfl (by decide) (v := .slice A m c) (n := m) (m := 1) (A := some ⟨w1.heap.size, 0, none⟩) (c := 1) (xs := xl.flatMap sgC) (news := sgC z) (by rfl) (by rfl) ((HCP1.out.s.drew).alloc (.cells (sgC z).toArray 38)) (Rd.new w1.drew (sgC z).toArray 38 7 1 _ rfl rfl) (sg_one z) (by unfold maxLen; omega) (by omega) (by simp; omega) ?_
      intro v6 w6 hown6 hgrow6
      obtain ⟨A6, c6, rfl, hcc6⟩ := own_slice hown6
      have hgD : (w1.alloc (.cells (sgC z).toArray 38)).grownBy w6 (Value.slice A m c).ownBlock := ⟨hgrow6.os, hgrow6.tape, hgrow6.output, hgrow6.size, hgrow6.block⟩
      refine hK.out _ _ (SZ7.grownR hgrow6 hS (own_ne (HCP1.out.s.alloc (.cells (sgC z).toArray 38)) (hL16.alloc _) (by decide)) (own_ne (HCP1.out.s.alloc (.cells (sgC z).toArray 38)) (hO16.alloc _) (by decide)) (fun e => by have := own_le HCP1.out.s e.symm; omega)) (fun hS => ?_)
      clear hK K
      (try simp only [Act.put, pu1, pu2, pu3])
      (refine tk_ (i := 9) (v := ?_) rfl ?_ hS ?_ (fun _ _ _ h => h); rotate_left; focus (intro w2 hw2; (try dsimp only at hw2); (try unfold SZ7 at hw2); (try unfold S1 at hw2); go_split_ands; go_simp; first | done | with_reducible rfl); (try simp only [Act.put, pu1, pu2, pu3]))
      have HCP6 := Lib.hid (snl_app HCP1.out hown6 hgD)
      have HS6 := Lib.hid ((HS1.out.ext (show Below w1.heap.size w1 (w1.alloc (.cells (sgC z).toArray 38)) from (Below.refl _ _).alloc (Nat.le_refl _) _)).grow (HCP1.out.s.alloc _) (by decide) (Nat.le_refl _) hgD)
      have kO6 := HS6.out.bO.cell
      have zO6 := HS6.out.bO.lt
      have fO6 := HS6.out.bO.frozen
      clear hown6 hgrow6 hgD hS hL16 hO16
      refine wpAnyH_done (by kernel_rfl) ?_ _
      simp only [sinkQ]
      go_simp
      go_wp2
      go_roundw
      case rel =>
       exact ⟨k + 1, xl ++ [z], false, A6, m + 1, c6, by omega, HIX.out, rfl, by go_num, HS6.out.set 3 _, HCP6.out.kept HS6.out.bO (grown_setCell _ _ _ _), ⟨fun _ => (by have := HMK.out; omega), fun h => (by cases h)⟩⟩
      case measure => simp [intOf]; omega
  ·have hkn : k = l.sg.length := by rw [HSN.out]; omega
   have HEN : Hid ((if d = true then xl else xl ++ [s]) = sgIns l.sg s) := by
    show _ = _
    have h := HEND.out
    rw [← hkn, HIN.out] at h
    exact h
   have hm9 : m ≤ 61 := by cases d <;> simp at hm <;> omega
   clear hkn hm
   have kO := HS.out.bO.cell
   have zO := HS.out.bO.lt
   have kZ := HS.out.s.bZ.cell
   have zZ := HS.out.s.bZ.lt
   have fZ := HS.out.s.bZ.frozen
   cases d with
   | true =>
     have HXE : Hid (xl = sgIns l.sg s) := by show _ = _; have h := HEN.out; rwa [if_pos rfl] at h
     go_wp2
     have bZF := HS.out.s.bZ
     have hBF := HS.out.s.hB
     clear kO zO kZ zZ fZ kL zL kS zS
     obtain ⟨W2, hW2⟩ : ∃ W2, W2 = wr.setCells (w.heap.size + 2) 0 [.slice p1A p1n p1c, .slice r1A r1n r1c, .slice t1A t1n t1c, .slice A m c] := ⟨_, rfl⟩
     have bZ2 : BoxA W2 (w.heap.size + 2) 27 #[.slice p1A p1n p1c, .slice r1A r1n r1c, .slice t1A t1n t1c, .slice A m c] := by rw [hW2]; exact bZF.setAll [.slice p1A p1n p1c, .slice r1A r1n r1c, .slice t1A t1n t1c, .slice A m c] rfl
     have hB2 : Below w.heap.size w W2 := by rw [hW2]; exact hBF.grown (grown_setCells _ _ _ _) hBF.size (fun b e => by cases e; omega)
     have hG2 : wr.grownBy W2 (some (w.heap.size + 2)) := by rw [hW2]; exact grown_setCells _ _ _ _
     have kz2 := bZ2.cell
     have zz2 := bZ2.lt
     have HW2 := Lib.hid hW2
     clear hW2
     refine bodyPost_w (W2 := W2) (by rw [HW2.out]; rfl) ?_
     refine bodyPost_ret (v := .tuple #[.agg #[.slice p1A p1n p1c, .slice r1A r1n r1c, .slice t1A t1n t1c, .slice A m c], .int .i64 0]) ?_ rfl ?_
     ·(simp [results, Tryz.f15, go_sem]; try go_simp)
     ·have HC9 := HCP.out.kept bZF hG2
      have hrs : seenL l s = ⟨l.pp, rvs.map Rv.r, tvs.map Tv.r, sgIns l.sg s⟩ := by rw [seenL, if_pos HE.out, HR7.out, HT7.out]
      exact ⟨⟨p1A, p1n, p1c, r1A, r1n, r1c, t1A, t1n, t1c, A, m, c⟩, by rw [HE.out], hB2, HC9.fit, by rw [hrs, ← HXE.out]; exact HC9.led⟩
   | false =>
     have HXE : Hid (xl ++ [s] = sgIns l.sg s) := by show _ = _; have h := HEN.out; rwa [if_neg (by decide)] at h
     go_wp2_with (at_builtin; refine wpList_append_own _ rfl (.tmp 81) (.tmp 83) 25 rfl (w.heap.size + 3) 38 i0 _ 7 56 Tryz.underlying25 hi0 hz0 hz1 hz2 rfl (by decide) _ _ _ rfl (HCP.out.s.alloc (.cells (sgC s).toArray 38)) ⟨wr.heap.size, 0, none⟩ 1 1 (sgC s) rfl rfl ?c1 ?c2 ?c3 ?c4 ?c5 ?_; rotate_left 5; intro v4 w4 hown4 hgrow4 _; obtain ⟨A4, c4, rfl, hcc4⟩ := own_slice hown4; have HCP4 := Lib.hid (snl_app HCP.out hown4 hgrow4); have HS4 := Lib.hid ((HS.out.ext (show Below wr.heap.size wr (wr.alloc (.cells (sgC s).toArray 38)) from (Below.refl _ _).alloc (Nat.le_refl _) _)).grow (HCP.out.s.alloc _) (by decide) (Nat.le_refl _) hgrow4); have kO4 := HS4.out.bO.cell; have zO4 := HS4.out.bO.lt; have fO4 := HS4.out.bO.frozen; have kL4 := HS4.out.s.bL.cell; have zL4 := HS4.out.s.bL.lt; have kZ4 := HS4.out.s.bZ.cell; have zZ4 := HS4.out.s.bZ.lt; have fZ4 := HS4.out.s.bZ.frozen; clear hown4 hgrow4)
     case c1 =>
      intro j u hj
      rw [Addr.add_lit, Nat.zero_add, (BoxA.new wr 38 (sgC s).toArray).cell]
      simpa using hj
     case c2 => exact sg_one s
     case c3 => unfold maxLen; omega
     case c4 => omega
     case c5 => have := HZQ; simp; omega
     have HS5 := Lib.hid (HS4.out.set 3 (.slice A4 (m + 1) c4))
     have HCP5 := Lib.hid (HCP4.out.kept HS4.out.bO (grown_setCell w4 qo 3 (.slice A4 (m + 1) c4)))
     have bZF := HS5.out.s.bZ
     have hBF := HS5.out.s.hB
     clear kO zO kZ zZ fZ kL zL kS zS kO4 zO4 fO4 kL4 zL4 kZ4 zZ4 fZ4
     obtain ⟨W2, hW2⟩ : ∃ W2, W2 = (w4.setCell ⟨qo, 3, none⟩ (.slice A4 (m + 1) c4)).setCells (w.heap.size + 2) 0 [.slice p1A p1n p1c, .slice r1A r1n r1c, .slice t1A t1n t1c, .slice A4 (m + 1) c4] := ⟨_, rfl⟩
     have bZ2 : BoxA W2 (w.heap.size + 2) 27 #[.slice p1A p1n p1c, .slice r1A r1n r1c, .slice t1A t1n t1c, .slice A4 (m + 1) c4] := by rw [hW2]; exact bZF.setAll [.slice p1A p1n p1c, .slice r1A r1n r1c, .slice t1A t1n t1c, .slice A4 (m + 1) c4] rfl
     have hB2 : Below w.heap.size w W2 := by rw [hW2]; exact hBF.grown (grown_setCells _ _ _ _) hBF.size (fun b e => by cases e; omega)
     have hG2 : (w4.setCell ⟨qo, 3, none⟩ (.slice A4 (m + 1) c4)).grownBy W2 (some (w.heap.size + 2)) := by rw [hW2]; exact grown_setCells _ _ _ _
     have kz2 := bZ2.cell
     have zz2 := bZ2.lt
     have HW2 := Lib.hid hW2
     clear hW2
     refine bodyPost_w (W2 := W2) (by rw [HW2.out]; rfl) ?_
     refine bodyPost_ret (v := .tuple #[.agg #[.slice p1A p1n p1c, .slice r1A r1n r1c, .slice t1A t1n t1c, .slice A4 (m + 1) c4], .int .i64 0]) ?_ rfl ?_
     ·(simp [results, Tryz.f15, go_sem]; try go_simp)
     ·have HC9 := HCP5.out.kept bZF hG2
      have hrs : seenL l s = ⟨l.pp, rvs.map Rv.r, tvs.map Tv.r, sgIns l.sg s⟩ := by rw [seenL, if_pos HE.out, HR7.out, HT7.out]
      exact ⟨⟨p1A, p1n, p1c, r1A, r1n, r1c, t1A, t1n, t1c, A4, m + 1, c4⟩, by rw [HE.out], hB2, HC9.fit, by rw [hrs, ← HXE.out]; exact HC9.led⟩
end Go.Proofs.YtklikciiaogpbaaGreat
