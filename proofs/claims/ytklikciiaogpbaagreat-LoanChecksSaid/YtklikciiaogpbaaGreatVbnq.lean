/- Layer 2 of the texts that LoanChecks takes: Vbnq. -/
import Derived.Test.YtklikciiaogpbaaGreatVbhq
import Derived.Test.YtklikciiaogpbaaGreatVbfq
import Derived.Test.YtklikciiaogpbaaGreatVbmq
set_option linter.unusedVariables false
set_option linter.unusedSimpArgs false
/- Layer 2: one sight more. -/
namespace Go.Proofs.YtklikciiaogpbaaGreat
open Go.RowKit Go.Maps
theorem p_Check_v (l : Led) (x : Lsl) (v : Int) (w : World) (hf : x.fit) (hd : LedIn w w.heap.size x l) (hv : errI (ledB l) 24 = v) :
 Calls Tryz.prog 25 #[.agg #[.slice x.pA x.pn x.pc, .slice x.rA x.rn x.rc, .slice x.tA x.tn x.tc, .slice x.sA x.sn x.sc]] w fun e w' => e = .returned (.int .i64 v) ∧ Below w.heap.size w w' := by
 have hml : maxLen ≤ 9223372036854775807 := by decide
 have h := p_Check l x w (by have := hf.p; omega) (by have := hf.r; omega) (by have := hf.t; omega) (by have := hf.s; omega) hd
 rwa [hv] at h
theorem p_has_v (pp : List Ppr) (x : Lsl) (a b : Int) (v : Bool) (w : World) (hf : x.fit) (hd : Pps w w.heap.size x.pA x.pn pp) (hv : folB pp a b = v) :
 Calls Tryz.prog 70 #[.agg #[.slice x.pA x.pn x.pc, .slice x.rA x.rn x.rc, .slice x.tA x.tn x.tc, .slice x.sA x.sn x.sc], .agg #[.int .i64 a, .int .i64 b]] w fun e w' => e = .returned (.bool v) ∧ Below w.heap.size w w' := by
 have hml : maxLen ≤ 9223372036854775807 := by decide
 have h := p_has pp x a b w (by have := hf.p; omega) hd
 rwa [hv] at h
structure SnS (w W : World) (LC SC : Array Value) : Prop where
 hB : Below w.heap.size w W
 bL : BoxA W w.heap.size 27 LC
 bS : BoxA W (w.heap.size + 1) 38 SC
 bZ : BoxA W (w.heap.size + 2) 27 #[.slice none 0 0, .slice none 0 0, .slice none 0 0, .slice none 0 0]
theorem SnS.ext {w W W' : World} {LC SC : Array Value} (h : SnS w W LC SC) (hb : Below W.heap.size W W') : SnS w W' LC SC := ⟨Below.then_ h.hB hb, h.bL.ext hb, h.bS.ext hb, h.bZ.ext hb⟩
theorem SnS.grow {w W W' : World} {LC SC : Array Value} (h : SnS w W LC SC) {row : Option Nat} (hg : W.grownBy W' row) (hr : ∀ b, row = some b → w.heap.size + 3 ≤ b) : SnS w W' LC SC :=
 ⟨h.hB.grown hg h.hB.size fun b hb => by have := hr b hb; omega, h.bL.kept hg (fun e => by have := hr _ e.symm; omega), h.bS.kept hg (fun e => by have := hr _ e.symm; omega), h.bZ.kept hg (fun e => by have := hr _ e.symm; omega)⟩
theorem SnS.new (w : World) (LC SC : Array Value) : SnS w (((w.alloc (.cells LC 27)).alloc (.cells SC 38)).alloc (.cells #[.slice none 0 0, .slice none 0 0, .slice none 0 0, .slice none 0 0] 27)) LC SC := by
 have h := box3 w 27 38 27 LC SC #[.slice none 0 0, .slice none 0 0, .slice none 0 0, .slice none 0 0]
 exact ⟨by exact bel_, h.1, h.2.1, h.2.2⟩
def RetSeen (l : Led) (s : Sgt) (w : World) (e : Ending) (w' : World) : Prop := ∃ y : Lsl, e = .returned (.tuple #[.agg #[.slice y.pA y.pn y.pc, .slice y.rA y.rn y.rc, .slice y.tA y.tn y.tc, .slice y.sA y.sn y.sc], .int .i64 (seenE l s)]) ∧ Below w.heap.size w w' ∧ y.fit ∧ LedIn w' w'.heap.size y (seenL l s)
theorem Led.none_in (w : World) (B : Nat) : LedIn w B ⟨none, 0, 0, none, 0, 0, none, 0, 0, none, 0, 0⟩ ⟨[], [], [], []⟩ := ⟨Sq.nil_, Sq.nil_, Sq.nil_, Sq.nil_⟩
theorem RetSeen.err {l : Led} {s : Sgt} {w w' : World} {v : Int} (hv : seenE l s = v) (h0 : ¬ v = 0) (hb : Below w.heap.size w w') : RetSeen l s w (.returned (.tuple #[.agg #[.slice none 0 0, .slice none 0 0, .slice none 0 0, .slice none 0 0], .int .i64 v])) w' :=
 ⟨⟨none, 0, 0, none, 0, 0, none, 0, 0, none, 0, 0⟩, by rw [hv], hb, ⟨⟨Nat.le_refl _, Nat.zero_le _⟩, ⟨Nat.le_refl _, Nat.zero_le _⟩, ⟨Nat.le_refl _, Nat.zero_le _⟩, ⟨Nat.le_refl _, Nat.zero_le _⟩⟩, by rw [seenL, if_neg (by rw [hv]; exact h0)]; exact Led.none_in _ _⟩
set_option maxRecDepth 10000 in
set_option maxHeartbeats 16000000 in
theorem p_SeenK (l : Led) (s : Sgt) (pA : Option Addr) (pn pc : Nat) (rA : Option Addr) (rn rc : Nat) (tA : Option Addr) (tn tc : Nat) (sA : Option Addr) (sn sc : Nat) (w : World) (hf : Lsl.fit ⟨pA, pn, pc, rA, rn, rc, tA, tn, tc, sA, sn, sc⟩) (hd : LedIn w w.heap.size ⟨pA, pn, pc, rA, rn, rc, tA, tn, tc, sA, sn, sc⟩ l) (hk : ledB l = false) :
 Calls Tryz.prog 14 #[.agg #[.slice pA pn pc, .slice rA rn rc, .slice tA tn tc, .slice sA sn sc], .agg #[.int .i64 s.src, .int .i64 s.per, .int .i64 s.pap, .int .i64 s.leaf, .int .i64 s.day, .int .i64 s.kn, .int .i64 s.un]] w (RetSeen l s w) := by
 have HS0 := Lib.hid (SnS.new w #[.slice pA pn pc, .slice rA rn rc, .slice tA tn tc, .slice sA sn sc] #[.int .i64 s.src, .int .i64 s.per, .int .i64 s.pap, .int .i64 s.leaf, .int .i64 s.day, .int .i64 s.kn, .int .i64 s.un])
 have HF := Lib.hid hf
 have HD := Lib.hid hd
 clear hf hd
 have HK : Hid (errI (ledB l) 24 = 24) := by show _ = _; rw [hk]; rfl
 have HE : Hid (seenE l s = 24) := by show _ = _; rw [seenE, hk]; rfl
 clear hk
 go_enter Tryz.func14, Tryz.ntmps14
 go_wp2_with (go_at_call 25; refine (p_Check_v l ⟨pA, pn, pc, rA, rn, rc, tA, tn, tc, sA, sn, sc⟩ 24 _ HF.out (HD.out.now HS0.out.hB) HK.out).mono ?_; rintro e w1 ⟨rfl, hb1⟩; have H1 := Lib.hid (HS0.out.ext hb1); have kZ1 := H1.out.bZ.cell; have zZ1 := H1.out.bZ.lt; have fZ1 := H1.out.bZ.frozen; clear hb1)
 have bZF := H1.out.bZ
 have hBF := H1.out.hB
 clear kZ1 zZ1 fZ1
 obtain ⟨W2, hW2⟩ : ∃ W2, W2 = w1.setCells (w.heap.size + 2) 0 [.slice none 0 0, .slice none 0 0, .slice none 0 0, .slice none 0 0] := ⟨_, rfl⟩
 have bZ2 : BoxA W2 (w.heap.size + 2) 27 #[.slice none 0 0, .slice none 0 0, .slice none 0 0, .slice none 0 0] := by rw [hW2]; exact bZF.setAll [.slice none 0 0, .slice none 0 0, .slice none 0 0, .slice none 0 0] rfl
 have hB2 : Below w.heap.size w W2 := by rw [hW2]; exact hBF.grown (grown_setCells _ _ _ _) hBF.size (fun b e => by cases e; omega)
 have hG2 : w1.grownBy W2 (some (w.heap.size + 2)) := by rw [hW2]; exact grown_setCells _ _ _ _
 have kz2 := bZ2.cell
 have zz2 := bZ2.lt
 have HW2 := Lib.hid hW2
 clear hW2
 refine bodyPost_w (W2 := W2) (by rw [HW2.out]; rfl) ?_
 refine bodyPost_ret (v := .tuple #[.agg #[.slice none 0 0, .slice none 0 0, .slice none 0 0, .slice none 0 0], .int .i64 24]) ?_ rfl ?_
 ·(simp [results, Tryz.f14, go_sem]; try go_simp)
 ·exact RetSeen.err HE.out (by decide) hB2
end Go.Proofs.YtklikciiaogpbaaGreat
/- Layer 2: one sight more: a case. -/
namespace Go.Proofs.YtklikciiaogpbaaGreat
open Go.RowKit Go.Maps
set_option maxRecDepth 10000 in
set_option maxHeartbeats 16000000 in
theorem p_Seen5 (l : Led) (s : Sgt) (pA : Option Addr) (pn pc : Nat) (rA : Option Addr) (rn rc : Nat) (tA : Option Addr) (tn tc : Nat) (sA : Option Addr) (sn sc : Nat) (w : World) (hf : Lsl.fit ⟨pA, pn, pc, rA, rn, rc, tA, tn, tc, sA, sn, sc⟩) (hd : LedIn w w.heap.size ⟨pA, pn, pc, rA, rn, rc, tA, tn, tc, sA, sn, sc⟩ l) (hk : ledB l = true) (ho : s.okB = true) (hh : folB l.pp s.pap s.leaf = true) (hn : decide (s.src ∈ srcL l) = false) (hl60 : ¬ sn = 60) :
 Calls Tryz.prog 14 #[.agg #[.slice pA pn pc, .slice rA rn rc, .slice tA tn tc, .slice sA sn sc], .agg #[.int .i64 s.src, .int .i64 s.per, .int .i64 s.pap, .int .i64 s.leaf, .int .i64 s.day, .int .i64 s.kn, .int .i64 s.un]] w (RetSeen l s w) := by
 have HS0 := Lib.hid (SnS.new w #[.slice pA pn pc, .slice rA rn rc, .slice tA tn tc, .slice sA sn sc] #[.int .i64 s.src, .int .i64 s.per, .int .i64 s.pap, .int .i64 s.leaf, .int .i64 s.day, .int .i64 s.kn, .int .i64 s.un])
 have HF := Lib.hid hf
 have HD := Lib.hid hd
 clear hf hd
 have HK : Hid (errI (ledB l) 24 = 0) := by show _ = _; rw [hk]; rfl
 have HKT := Lib.hid hk
 have HLO := Lib.hid (led_ok hk)
 have HD0 := HD
 have HE0 : Hid (seenE l s = if (s.okB && (folB l.pp s.pap s.leaf && !decide (s.src ∈ srcL l))) = true then (if l.sg.length = 60 then 2 else 0) else 23) := by show _ = _; rw [seenE, if_pos hk]
 have hrn : rn ≤ 60 := by have h1 := HLO.out.rn; have h2 : l.rc.length = rn := HD.out.r.len; omega
 have htn : tn ≤ 60 := by have h1 := HLO.out.tn; have h2 : l.rt.length = tn := HD.out.t.len; omega
 have hsn : sn ≤ 60 := by have h1 := HLO.out.sn; have h2 : l.sg.length = sn := HD.out.s.len; omega
 have hpn : pn ≤ 9223372036854775807 := by have h1 := HLO.out.pn; have h2 : l.pp.length = pn := HD.out.p.len; omega
 have hsl : (srcL l).length ≤ 1000000 := by
  have h1 := HLO.out.rn
  have h2 := HLO.out.tn
  have h3 := HLO.out.sn
  simp only [srcL, List.length_append, List.length_map]
  omega
 clear hk
 have HO := Lib.hid ho
 have HH := Lib.hid hh
 have HN := Lib.hid hn
 have HE : Hid (seenE l s = 0) := by show _ = _; rw [HE0.out, ho, hh, hn]; have h1 : l.sg.length = sn := HD.out.s.len; rw [h1]; simp [hl60]
 clear ho hh hn
 have hn60 : ((sn : Int) == 60) = false := by (have h : ¬ (sn : Int) = 60 := by omega); simpa using h
 clear hl60
 go_enter Tryz.func14, Tryz.ntmps14
 go_wp2_with (go_at_call 25; refine (p_Check_v l ⟨pA, pn, pc, rA, rn, rc, tA, tn, tc, sA, sn, sc⟩ 0 _ HF.out (HD.out.now HS0.out.hB) HK.out).mono ?_; rintro e w1 ⟨rfl, hb1⟩; have H1 := Lib.hid (HS0.out.ext hb1); clear hb1)
 have HD := Lib.hid (HD.out.now H1.out.hB)
 refine wp_region_held_lit (S := S1 w.heap.size (w.heap.size + 1) #[.slice pA pn pc, .slice rA rn rc, .slice tA tn tc, .slice sA sn sc] #[.int .i64 s.src, .int .i64 s.per, .int .i64 s.pap, .int .i64 s.leaf, .int .i64 s.day, .int .i64 s.kn, .int .i64 s.un]) 17 (by kernel_rfl) rfl ⟨H1.out.bL.cell, H1.out.bS.cell, H1.out.bL.lt, H1.out.bS.lt⟩ (fun hS => ?_)
 simp only [List.reduceReplicate, Array.replicate_succ, Array.replicate_zero]
 have HC : Below w1.heap.size w1 w1.drew := (Below.refl _ _).drew
 (refine tk_ (i := 0) (v := ?_) rfl ?_ hS ?_ (fun _ _ _ h => h); rotate_left; focus (intro w2 hw2; (try dsimp only at hw2); (try unfold S1 at hw2); go_split_ands; go_simp; first | done | with_reducible rfl); (try simp only [Act.put, pu1, pu2, pu3]))
 refine rd_ [1] ?_
 refine ah1 rfl fun K hK => ?_
 (go_simp; go_at_call 23; refine (p_CheckSight_ok s _ HO.out).mono ?_; rintro e v2 ⟨rfl, hb⟩; go_simp)
 have HC := Below.then_ HC hb
 refine hK.out _ _ (S1.ext hb hS) (fun hS => ?_)
 clear hK K
 (try simp only [Act.put, pu1, pu2, pu3])
 (refine tk_ (i := 2) (v := ?_) rfl ?_ hS ?_ (fun _ _ _ h => h); rotate_left; focus (intro w2 hw2; (try dsimp only at hw2); (try unfold S1 at hw2); go_split_ands; go_simp; first | done | with_reducible rfl); (try simp only [Act.put, pu1, pu2, pu3]))
 (refine tk_ (i := 3) (v := ?_) rfl ?_ hS ?_ (fun _ _ _ h => h); rotate_left; focus (intro w2 hw2; (try dsimp only at hw2); (try unfold S1 at hw2); go_split_ands; go_simp; first | done | with_reducible rfl); (try simp only [Act.put, pu1, pu2, pu3]))
 (refine tk_ (i := 4) (v := ?_) rfl ?_ hS ?_ (fun _ _ _ h => h); rotate_left; focus (intro w2 hw2; (try dsimp only at hw2); (try unfold S1 at hw2); go_split_ands; go_simp; first | done | with_reducible rfl); (try simp only [Act.put, pu1, pu2, pu3]))
 (refine tk_ (i := 5) (v := ?_) rfl ?_ hS ?_ (fun _ _ _ h => h); rotate_left; focus (intro w2 hw2; (try dsimp only at hw2); (try unfold S1 at hw2); go_split_ands; go_simp; first | done | with_reducible rfl); (try simp only [Act.put, pu1, pu2, pu3]))
 refine rd_ [6] ?_
 refine ah1 rfl fun K hK => ?_
 (go_simp; go_at_call 71; refine (p_folioOf s _).mono ?_; rintro e v3 ⟨rfl, hb⟩; go_simp)
 have HC := Below.then_ HC hb
 refine hK.out _ _ (S1.ext hb hS) (fun hS => ?_)
 clear hK K
 (try simp only [Act.put, pu1, pu2, pu3])
 refine rd_ [7] ?_
 refine ah1 rfl fun K hK => ?_
 (go_simp; go_at_call 70; refine (p_has_v l.pp ⟨pA, pn, pc, rA, rn, rc, tA, tn, tc, sA, sn, sc⟩ s.pap s.leaf _ _ HF.out (HD.out.now HC).p HH.out).mono ?_; rintro e v4 ⟨rfl, hb⟩; go_simp)
 have HC := Below.then_ HC hb
 refine hK.out _ _ (S1.ext hb hS) (fun hS => ?_)
 clear hK K
 (try simp only [Act.put, pu1, pu2, pu3])
 (refine tk_ (i := 8) (v := ?_) rfl ?_ hS ?_ (fun _ _ _ h => h); rotate_left; focus (intro w2 hw2; (try dsimp only at hw2); (try unfold S1 at hw2); go_split_ands; go_simp; first | done | with_reducible rfl); (try simp only [Act.put, pu1, pu2, pu3]))
 (refine tk_ (i := 9) (v := ?_) rfl ?_ hS ?_ (fun _ _ _ h => h); rotate_left; focus (intro w2 hw2; (try dsimp only at hw2); (try unfold S1 at hw2); go_split_ands; go_simp; first | done | with_reducible rfl); (try simp only [Act.put, pu1, pu2, pu3]))
 (refine tk_ (i := 10) (v := ?_) rfl ?_ hS ?_ (fun _ _ _ h => h); rotate_left; focus (intro w2 hw2; (try dsimp only at hw2); (try unfold S1 at hw2); go_split_ands; go_simp; first | done | with_reducible rfl); (try simp only [Act.put, pu1, pu2, pu3]))
 (refine tk_ (i := 11) (v := ?_) rfl ?_ hS ?_ (fun _ _ _ h => h); rotate_left; focus (intro w2 hw2; (try dsimp only at hw2); (try unfold S1 at hw2); go_split_ands; go_simp; first | done | with_reducible rfl); (try simp only [Act.put, pu1, pu2, pu3]))
 (refine tk_ (i := 13) (v := ?_) rfl ?_ hS ?_ (fun _ _ _ h => h); rotate_left; focus (intro w2 hw2; (try dsimp only at hw2); (try unfold S1 at hw2); go_split_ands; go_simp; first | done | with_reducible rfl); (try simp only [Act.put, pu1, pu2, pu3]))
 (refine tk_ (i := 14) (v := ?_) rfl ?_ hS ?_ (fun _ _ _ h => h); rotate_left; focus (intro w2 hw2; (try dsimp only at hw2); (try unfold S1 at hw2); go_split_ands; go_simp; first | done | with_reducible rfl); (try simp only [Act.put, pu1, pu2, pu3]))
 refine rd_ [12] ?_
 refine ah1 rfl fun K hK => ?_
 (go_simp; go_at_call 73; refine (p_sources l ⟨pA, pn, pc, rA, rn, rc, tA, tn, tc, sA, sn, sc⟩ _ hrn htn hsn (HD.out.now HC)).mono ?_; rintro e v5 ⟨u5, rfl, hb, ho5⟩; obtain ⟨A5, c5, rfl, hc5⟩ := own_slice ho5; go_simp)
 have HC := Below.then_ HC hb
 refine hK.out _ _ (S1.ext hb hS) (fun hS => ?_)
 clear hK K
 (try simp only [Act.put, pu1, pu2, pu3])
 refine rd_ [15] ?_
 refine ah1 rfl fun K hK => ?_
 (go_simp; go_at_call 72; refine (l_contains (srcL l) s.src _ A5 (srcL l).length c5 _ hsl (Rd.of_own ho5) HN.out).mono ?_; rintro e v6 ⟨rfl, rfl⟩; go_simp)
 refine hK.out _ _ hS (fun hS => ?_)
 clear hK K
 (try simp only [Act.put, pu1, pu2, pu3])
 (refine tk_ (i := 16) (v := ?_) rfl ?_ hS ?_ (fun _ _ _ h => h); rotate_left; focus (intro w2 hw2; (try dsimp only at hw2); (try unfold S1 at hw2); go_split_ands; go_simp; first | done | with_reducible rfl); (try simp only [Act.put, pu1, pu2, pu3]))
 refine wpAnyH_done (by kernel_rfl) ?_ _
 have H4 := Lib.hid (H1.out.ext HC)
 have kL4 := H4.out.bL.cell
 have zL4 := H4.out.bL.lt
 have kS4 := H4.out.bS.cell
 have zS4 := H4.out.bS.lt
 clear HC hS
 go_wp2_with fail
 refine (p_copied l ⟨pA, pn, pc, rA, rn, rc, tA, tn, tc, sA, sn, sc⟩ _ HLO.out (HD0.out.now H4.out.hB)).mono ?_
 rintro e w5 ⟨⟨p1A, p1n, p1c, r1A, r1n, r1c, t1A, t1n, t1c, s1A, s1n, s1c⟩, rvs, tvs, rfl, hb5, hc5, hr5, ht5⟩
 have hz4 := H4.out.bZ.lt
 have HC5 := Lib.hid (hc5.dn (base' := w.heap.size + 3) (by omega))
 have HR5 := Lib.hid hr5
 have HT5 := Lib.hid ht5
 have H5 := Lib.hid (H4.out.ext hb5)
 have hs5 : w.heap.size + 3 ≤ w5.heap.size := by have := hb5.size; omega
 have hsl5 : l.sg.length = s1n := own_len HC5.out.s (fun _ => rfl) (by omega)
 have HSL5 := Lib.hid hsl5
 have hs1n : s1n ≤ 60 := by have := HLO.out.sn; omega
 clear hb5 hc5 hr5 ht5 hsl5 kL4 zL4 kS4 zS4
 have kS5 := H5.out.bS.cell
 have zS5 := H5.out.bS.lt
 go_wp2_with fail
 refine (p_bsf l.sg s.src s1A s1n s1c _ (by omega) (srtS_of HKT.out) (HC5.out.led.s.now abS (by exact bel_))).mono ?_
 rintro e w6 ⟨q6, rfl, hb6⟩
 have bM5 := BoxA.new w5 27 #[.slice p1A p1n p1c, .slice r1A r1n r1c, .slice t1A t1n t1c, .slice s1A s1n s1c]
 have bM6 := bM5.ext hb6
 have hb56 : Below w5.heap.size w5 w6 := Below.then_ (by exact bel_) hb6
 have H6 := Lib.hid (H5.out.ext hb56)
 have HC6 := Lib.hid (HC5.out.ext hb56)
 have hs6 := hb56.size
 have kM6 := bM6.cell
 have zM6 := bM6.lt
 have kS6 := H6.out.bS.cell
 have zS6 := H6.out.bS.lt
 have HM6 := Lib.hid bM6
 clear hb6 kS5 zS5 bM5 bM6 hb56
 have hix : sgIx l.sg s.src ≤ s1n := by rw [← HSL5.out]; exact sgIx_le _ _
 go_wp2_with fail
 refine (p_InsertSgt (base := w.heap.size + 3) (vb := w6.heap.size) (n := s1n) (v := .slice s1A s1n s1c) (cs := l.sg.flatMap sgC) (vs := sgC s) (sgIx l.sg s.src) hix (by omega) (by simp; omega) (HC6.out.s.alloc _) (flat_ones sg_one _) rfl (BoxA.new w6 38 (sgC s).toArray) (sg_one s) (fun e => by have := (HC6.out.s.lt _ e).2; omega)).mono ?_
 rintro e w7 ⟨v7, rfl, ho7, hg7⟩
 obtain ⟨A7, c7, rfl, hcc7⟩ := own_slice ho7
 rw [insQ_flat] at ho7
 have HC7 := Lib.hid ((HC6.out.ext (show Below w6.heap.size w6 (w6.alloc (.cells (sgC s).toArray 38)) from (Below.refl _ _).alloc (Nat.le_refl _) _)).putS ho7 hg7)
 have hoA := HC6.out.s.alloc (.cells (sgC s).toArray 38)
 have bM7 := (HM6.out.alloc (.cells (sgC s).toArray 38)).kept hg7 (own_ne hoA (HM6.out.alloc _) (by decide))
 have H7 := Lib.hid ((H6.out.ext (show Below w6.heap.size w6 (w6.alloc (.cells (sgC s).toArray 38)) from (Below.refl _ _).alloc (Nat.le_refl _) _)).grow hg7 (fun b hb => own_le hoA hb))
 have HM7 := Lib.hid bM7
 have kM7 := bM7.cell
 have zM7 := bM7.lt
 have fM7 := bM7.frozen
 have kZ7 := H7.out.bZ.cell
 have zZ7 := H7.out.bZ.lt
 have fZ7 := H7.out.bZ.frozen
 clear ho7 hg7 hoA bM7 kM6 zM6 kS6 zS6
 go_wp2
 have hM8 := HM7.out.set 3 (.slice A7 (s1n + 1) c7)
 have bZF := H7.out.bZ.other (show w.heap.size + 2 ≠ (⟨w5.heap.size, 3, none⟩ : Addr).block by simp only; omega) (.slice A7 (s1n + 1) c7)
 have hBF := H7.out.hB.setCell (show w.heap.size ≤ (⟨w5.heap.size, 3, none⟩ : Addr).block by simp only; omega) (.slice A7 (s1n + 1) c7)
 have HC8 := Lib.hid (HC7.out.kept HM7.out (grown_setCell w7 w5.heap.size 3 (.slice A7 (s1n + 1) c7)))
 clear kM7 zM7 fM7 kZ7 zZ7 fZ7
 obtain ⟨W2, hW2⟩ : ∃ W2, W2 = (w7.setCell ⟨w5.heap.size, 3, none⟩ (.slice A7 (s1n + 1) c7)).setCells (w.heap.size + 2) 0 [.slice p1A p1n p1c, .slice r1A r1n r1c, .slice t1A t1n t1c, .slice A7 (s1n + 1) c7] := ⟨_, rfl⟩
 have bZ2 : BoxA W2 (w.heap.size + 2) 27 #[.slice p1A p1n p1c, .slice r1A r1n r1c, .slice t1A t1n t1c, .slice A7 (s1n + 1) c7] := by rw [hW2]; exact bZF.setAll [.slice p1A p1n p1c, .slice r1A r1n r1c, .slice t1A t1n t1c, .slice A7 (s1n + 1) c7] rfl
 have hB2 : Below w.heap.size w W2 := by rw [hW2]; exact hBF.grown (grown_setCells _ _ _ _) hBF.size (fun b e => by cases e; omega)
 have hG2 : (w7.setCell ⟨w5.heap.size, 3, none⟩ (.slice A7 (s1n + 1) c7)).grownBy W2 (some (w.heap.size + 2)) := by rw [hW2]; exact grown_setCells _ _ _ _
 have kz2 := bZ2.cell
 have zz2 := bZ2.lt
 have HW2 := Lib.hid hW2
 clear hW2
 refine bodyPost_w (W2 := W2) (by rw [HW2.out]; rfl) ?_
 refine bodyPost_ret (v := .tuple #[.agg #[.slice p1A p1n p1c, .slice r1A r1n r1c, .slice t1A t1n t1c, .slice A7 (s1n + 1) c7], .int .i64 0]) ?_ rfl ?_
 ·(simp [results, Tryz.f14, go_sem]; try go_simp)
 ·have HC9 := HC8.out.kept bZF hG2
  have hrs : seenL l s = ⟨l.pp, rvs.map Rv.r, tvs.map Tv.r, sgIns l.sg s⟩ := by rw [seenL, if_pos HE.out, HR5.out, HT5.out]
  exact ⟨⟨p1A, p1n, p1c, r1A, r1n, r1c, t1A, t1n, t1c, A7, s1n + 1, c7⟩, by rw [HE.out], hB2, HC9.fit, by rw [hrs]; exact HC9.led⟩
end Go.Proofs.YtklikciiaogpbaaGreat
/- Layer 2, the reference: one sight more. -/
namespace Go.Proofs.YtklikciiaogpbaaGreat
open Go.RowKit Go.Maps
theorem r_Check_v (l : Led) (x : Lsl) (v : Int) (w : World) (hf : x.fit) (hd : LedIn w w.heap.size x l) (hv : errI (ledB l) 24 = v) :
 Calls Tryz.prog 26 #[.agg #[.slice x.pA x.pn x.pc, .slice x.rA x.rn x.rc, .slice x.tA x.tn x.tc, .slice x.sA x.sn x.sc]] w fun e w' => e = .returned (.int .i64 v) ∧ Below w.heap.size w w' := by
 have hml : maxLen ≤ 9223372036854775807 := by decide
 have h := r_Check l x w (by have := hf.p; omega) (by have := hf.r; omega) (by have := hf.t; omega) (by have := hf.s; omega) hd
 rwa [hv] at h
theorem Cop.nilS {W : World} {base : Nat} {y : Lsl} {pp : List Ppr} {rvs : List Rv} {tvs : List Tv} {sg : List Sgt} (h : Cop W base y pp rvs tvs sg) : Cop W base ⟨y.pA, y.pn, y.pc, y.rA, y.rn, y.rc, y.tA, y.tn, y.tc, none, 0, 0⟩ pp rvs tvs [] :=
 ⟨h.p, h.r, h.t, World.ownsRow_nil _ _ _ _, h.rl, h.tl⟩
structure SnL (w W : World) (LC SC OC : Array Value) (qo : Nat) : Prop where
 s : SnS w W LC SC
 bO : BoxA W qo 27 OC
 zq : w.heap.size + 3 ≤ qo
theorem SnL.ext {w W W' : World} {LC SC OC : Array Value} {qo : Nat} (h : SnL w W LC SC OC qo) (hb : Below W.heap.size W W') : SnL w W' LC SC OC qo := ⟨h.s.ext hb, h.bO.ext hb, h.zq⟩
theorem SnL.grow {w W W' : World} {LC SC OC : Array Value} {qo : Nat} (h : SnL w W LC SC OC qo) {base s n : Nat} {t : TypeId} {v : Value} {xs : List Value} (ho : W.ownsRow base t s v n xs) (ht : 27 ≠ t) (hbase : w.heap.size + 3 ≤ base) (hg : W.grownBy W' v.ownBlock) : SnL w W' LC SC OC qo :=
 ⟨h.s.grow hg fun b hb => Nat.le_trans hbase (own_le ho hb), h.bO.kept hg (own_ne ho h.bO ht), h.zq⟩
theorem SnL.set {w W : World} {LC SC OC : Array Value} {qo : Nat} (h : SnL w W LC SC OC qo) (o : Nat) (u : Value) : SnL w (W.setCell ⟨qo, o, none⟩ u) LC SC (OC.setIfInBounds o u) qo := by
 have hz := h.zq
 exact ⟨h.s.grow (grown_setCell W qo o u) (fun b e => by cases e; omega), h.bO.set o u, hz⟩
theorem S1.grownR {b1 b2 : Nat} {row : Option Nat} {c1 c2 : Array Value} {V V' : World} (hg : V.grownBy V' row) (h : S1 b1 b2 c1 c2 V) (n1 : some b1 ≠ row) (n2 : some b2 ≠ row) : S1 b1 b2 c1 c2 V' := by
 obtain ⟨h1, h2, z1, z2⟩ := h
 have e1 := hg.block b1 z1 n1
 have e2 := hg.block b2 z2 n2
 have hs := hg.size
 refine ⟨fun o => ?_, fun o => ?_, by omega, by omega⟩
 ·rw [← h1 o]; simp [World.cell?, e1]
 ·rw [← h2 o]; simp [World.cell?, e2]
def SZ7 (b1 b2 : Nat) (c1 c2 : Array Value) (b o : Nat) (z : Sgt) (V : World) : Prop := S1 b1 b2 c1 c2 V ∧ b < V.heap.size ∧ V.cell? ⟨b, o, none⟩ = some (.int .i64 z.src) ∧ V.cell? ⟨b, o + 1, none⟩ = some (.int .i64 z.per) ∧ V.cell? ⟨b, o + 2, none⟩ = some (.int .i64 z.pap) ∧ V.cell? ⟨b, o + 3, none⟩ = some (.int .i64 z.leaf) ∧ V.cell? ⟨b, o + 4, none⟩ = some (.int .i64 z.day) ∧ V.cell? ⟨b, o + 5, none⟩ = some (.int .i64 z.kn) ∧ V.cell? ⟨b, o + 6, none⟩ = some (.int .i64 z.un)
theorem SZ7.ext {b1 b2 b o : Nat} {c1 c2 : Array Value} {z : Sgt} {V V' : World} (hb : Below V.heap.size V V') (h : SZ7 b1 b2 c1 c2 b o z V) : SZ7 b1 b2 c1 c2 b o z V' := by
 obtain ⟨h0, h1, q0, q1, q2, q3, q4, q5, q6⟩ := h
 have hs := hb.size
 have c : ∀ j, V'.cell? ⟨b, j, none⟩ = V.cell? ⟨b, j, none⟩ := fun j => hb.cell (p := ⟨b, j, none⟩) h1
 exact ⟨S1.ext hb h0, by omega, (c _).trans q0, (c _).trans q1, (c _).trans q2, (c _).trans q3, (c _).trans q4, (c _).trans q5, (c _).trans q6⟩
theorem SZ7.grownR {b1 b2 b o : Nat} {row : Option Nat} {c1 c2 : Array Value} {z : Sgt} {V V' : World} (hg : V.grownBy V' row) (h : SZ7 b1 b2 c1 c2 b o z V) (n1 : some b1 ≠ row) (n2 : some b2 ≠ row) (n3 : some b ≠ row) : SZ7 b1 b2 c1 c2 b o z V' := by
 obtain ⟨h0, h1, q0, q1, q2, q3, q4, q5, q6⟩ := h
 have hs := hg.size
 have e3 := hg.block b h1 n3
 have c : ∀ j, V'.cell? ⟨b, j, none⟩ = V.cell? ⟨b, j, none⟩ := fun j => by simp [World.cell?, e3]
 exact ⟨S1.grownR hg h0 n1 n2, by omega, (c _).trans q0, (c _).trans q1, (c _).trans q2, (c _).trans q3, (c _).trans q4, (c _).trans q5, (c _).trans q6⟩
theorem snl_app {W W' : World} {base : Nat} {y : Lsl} {pp : List Ppr} {rvs : List Rv} {tvs : List Tv} {xl : List Sgt} {x : Sgt} {A : Option Addr} {n c : Nat} (h : Cop W base y pp rvs tvs xl) (ho : W'.ownsRow base 38 7 (.slice A n c) n (xl.flatMap sgC ++ sgC x)) (hg : (W.alloc (.cells (sgC x).toArray 38)).grownBy W' (Value.slice y.sA y.sn y.sc).ownBlock) :
 Cop W' base ⟨y.pA, y.pn, y.pc, y.rA, y.rn, y.rc, y.tA, y.tn, y.tc, A, n, c⟩ pp rvs tvs (xl ++ [x]) :=
 (h.ext (show Below W.heap.size W (W.alloc (.cells (sgC x).toArray 38)) from (Below.refl _ _).alloc (Nat.le_refl _) _)).putS (by
   have e1 : (xl ++ [x]).flatMap sgC = xl.flatMap sgC ++ sgC x := by simp
   rw [e1]
   exact ho) hg
set_option maxRecDepth 10000 in
set_option maxHeartbeats 16000000 in
theorem r_SeenK (l : Led) (s : Sgt) (pA : Option Addr) (pn pc : Nat) (rA : Option Addr) (rn rc : Nat) (tA : Option Addr) (tn tc : Nat) (sA : Option Addr) (sn sc : Nat) (w : World) (hf : Lsl.fit ⟨pA, pn, pc, rA, rn, rc, tA, tn, tc, sA, sn, sc⟩) (hd : LedIn w w.heap.size ⟨pA, pn, pc, rA, rn, rc, tA, tn, tc, sA, sn, sc⟩ l) (hk : ledB l = false) :
 Calls Tryz.prog 15 #[.agg #[.slice pA pn pc, .slice rA rn rc, .slice tA tn tc, .slice sA sn sc], .agg #[.int .i64 s.src, .int .i64 s.per, .int .i64 s.pap, .int .i64 s.leaf, .int .i64 s.day, .int .i64 s.kn, .int .i64 s.un]] w (RetSeen l s w) := by
 have HS0 := Lib.hid (SnS.new w #[.slice pA pn pc, .slice rA rn rc, .slice tA tn tc, .slice sA sn sc] #[.int .i64 s.src, .int .i64 s.per, .int .i64 s.pap, .int .i64 s.leaf, .int .i64 s.day, .int .i64 s.kn, .int .i64 s.un])
 have HF := Lib.hid hf
 have HD := Lib.hid hd
 clear hf hd
 have HK : Hid (errI (ledB l) 24 = 24) := by show _ = _; rw [hk]; rfl
 have HE : Hid (seenE l s = 24) := by show _ = _; rw [seenE, hk]; rfl
 clear hk
 go_enter Tryz.func15, Tryz.ntmps15
 go_wp2_with (go_at_call 26; refine (r_Check_v l ⟨pA, pn, pc, rA, rn, rc, tA, tn, tc, sA, sn, sc⟩ 24 _ HF.out (HD.out.now HS0.out.hB) HK.out).mono ?_; rintro e w1 ⟨rfl, hb1⟩; have H1 := Lib.hid (HS0.out.ext hb1); have kZ1 := H1.out.bZ.cell; have zZ1 := H1.out.bZ.lt; have fZ1 := H1.out.bZ.frozen; clear hb1)
 have bZF := H1.out.bZ
 have hBF := H1.out.hB
 clear kZ1 zZ1 fZ1
 obtain ⟨W2, hW2⟩ : ∃ W2, W2 = w1.setCells (w.heap.size + 2) 0 [.slice none 0 0, .slice none 0 0, .slice none 0 0, .slice none 0 0] := ⟨_, rfl⟩
 have bZ2 : BoxA W2 (w.heap.size + 2) 27 #[.slice none 0 0, .slice none 0 0, .slice none 0 0, .slice none 0 0] := by rw [hW2]; exact bZF.setAll [.slice none 0 0, .slice none 0 0, .slice none 0 0, .slice none 0 0] rfl
 have hB2 : Below w.heap.size w W2 := by rw [hW2]; exact hBF.grown (grown_setCells _ _ _ _) hBF.size (fun b e => by cases e; omega)
 have hG2 : w1.grownBy W2 (some (w.heap.size + 2)) := by rw [hW2]; exact grown_setCells _ _ _ _
 have kz2 := bZ2.cell
 have zz2 := bZ2.lt
 have HW2 := Lib.hid hW2
 clear hW2
 refine bodyPost_w (W2 := W2) (by rw [HW2.out]; rfl) ?_
 refine bodyPost_ret (v := .tuple #[.agg #[.slice none 0 0, .slice none 0 0, .slice none 0 0, .slice none 0 0], .int .i64 24]) ?_ rfl ?_
 ·(simp [results, Tryz.f15, go_sem]; try go_simp)
 ·exact RetSeen.err HE.out (by decide) hB2
end Go.Proofs.YtklikciiaogpbaaGreat
/- Layer 2, the reference: a view; isOf, returnOf. -/
namespace Go.Proofs.YtklikciiaogpbaaGreat
open Go.RowKit Go.Maps
theorem r_Has2_v (l : List Int) (v : Int) (q : Bool) (A : Option Addr) (n c : Nat) (w : World) (hn : n ≤ 9223372036854775807) (hd : Is w w.heap.size A n l) (h : decide (v ∈ l) = q) :
 Calls Tryz.prog 64 #[.slice A n c, .int .i64 v] w fun e w' => e = .returned (.bool q) ∧ Below w.heap.size w w' := h ▸ r_Has2 l v A n c w hn hd
end Go.Proofs.YtklikciiaogpbaaGreat
/- Layer 2, the reference: one sight more: a case. -/
namespace Go.Proofs.YtklikciiaogpbaaGreat
open Go.RowKit Go.Maps
set_option maxRecDepth 10000 in
set_option maxHeartbeats 16000000 in
theorem r_Seen3 (l : Led) (s : Sgt) (pA : Option Addr) (pn pc : Nat) (rA : Option Addr) (rn rc : Nat) (tA : Option Addr) (tn tc : Nat) (sA : Option Addr) (sn sc : Nat) (w : World) (hf : Lsl.fit ⟨pA, pn, pc, rA, rn, rc, tA, tn, tc, sA, sn, sc⟩) (hd : LedIn w w.heap.size ⟨pA, pn, pc, rA, rn, rc, tA, tn, tc, sA, sn, sc⟩ l) (hk : ledB l = true) (ho : s.okB = true) (hh : folB l.pp s.pap s.leaf = true) (hn : decide (s.src ∈ srcL l) = true) :
 Calls Tryz.prog 15 #[.agg #[.slice pA pn pc, .slice rA rn rc, .slice tA tn tc, .slice sA sn sc], .agg #[.int .i64 s.src, .int .i64 s.per, .int .i64 s.pap, .int .i64 s.leaf, .int .i64 s.day, .int .i64 s.kn, .int .i64 s.un]] w (RetSeen l s w) := by
 have HS0 := Lib.hid (SnS.new w #[.slice pA pn pc, .slice rA rn rc, .slice tA tn tc, .slice sA sn sc] #[.int .i64 s.src, .int .i64 s.per, .int .i64 s.pap, .int .i64 s.leaf, .int .i64 s.day, .int .i64 s.kn, .int .i64 s.un])
 have HF := Lib.hid hf
 have HD := Lib.hid hd
 clear hf hd
 have HK : Hid (errI (ledB l) 24 = 0) := by show _ = _; rw [hk]; rfl
 have HKT := Lib.hid hk
 have HLO := Lib.hid (led_ok hk)
 have HD0 := HD
 have HE0 : Hid (seenE l s = if (s.okB && (folB l.pp s.pap s.leaf && !decide (s.src ∈ srcL l))) = true then (if l.sg.length = 60 then 2 else 0) else 23) := by show _ = _; rw [seenE, if_pos hk]
 have hrn : rn ≤ 60 := by have h1 := HLO.out.rn; have h2 : l.rc.length = rn := HD.out.r.len; omega
 have htn : tn ≤ 60 := by have h1 := HLO.out.tn; have h2 : l.rt.length = tn := HD.out.t.len; omega
 have hsn : sn ≤ 60 := by have h1 := HLO.out.sn; have h2 : l.sg.length = sn := HD.out.s.len; omega
 have hpn : pn ≤ 9223372036854775807 := by have h1 := HLO.out.pn; have h2 : l.pp.length = pn := HD.out.p.len; omega
 have hsl : (srcL l).length ≤ 1000000 := by
  have h1 := HLO.out.rn
  have h2 := HLO.out.tn
  have h3 := HLO.out.sn
  simp only [srcL, List.length_append, List.length_map]
  omega
 clear hk
 have HO := Lib.hid ho
 have HOV : Hid (errI s.okB 23 = 0) := by show _ = _; rw [ho]; rfl
 have HH := Lib.hid hh
 have HN := Lib.hid hn
 have hsl9 : (srcL l).length ≤ 9223372036854775807 := by omega
 have HE : Hid (seenE l s = 23) := by show _ = _; rw [HE0.out, ho, hh, hn]; rfl
 clear ho hh hn
 go_enter Tryz.func15, Tryz.ntmps15
 go_wp2_with (go_at_call 26; refine (r_Check_v l ⟨pA, pn, pc, rA, rn, rc, tA, tn, tc, sA, sn, sc⟩ 0 _ HF.out (HD.out.now HS0.out.hB) HK.out).mono ?_; rintro e w1 ⟨rfl, hb1⟩; have H1 := Lib.hid (HS0.out.ext hb1); clear hb1)
 have HD := Lib.hid (HD.out.now H1.out.hB)
 refine wp_region_held_lit (S := S1 w.heap.size (w.heap.size + 1) #[.slice pA pn pc, .slice rA rn rc, .slice tA tn tc, .slice sA sn sc] #[.int .i64 s.src, .int .i64 s.per, .int .i64 s.pap, .int .i64 s.leaf, .int .i64 s.day, .int .i64 s.kn, .int .i64 s.un]) 20 (by kernel_rfl) rfl ⟨H1.out.bL.cell, H1.out.bS.cell, H1.out.bL.lt, H1.out.bS.lt⟩ (fun hS => ?_)
 simp only [List.reduceReplicate, Array.replicate_succ, Array.replicate_zero]
 have HC : Below w1.heap.size w1 w1.drew := (Below.refl _ _).drew
 (refine tk_ (i := 0) (v := ?_) rfl ?_ hS ?_ (fun _ _ _ h => h); rotate_left; focus (intro w2 hw2; (try dsimp only at hw2); (try unfold S1 at hw2); go_split_ands; go_simp; first | done | with_reducible rfl); (try simp only [Act.put, pu1, pu2, pu3]))
 refine rd_ [1] ?_
 refine ah1 rfl fun K hK => ?_
 (go_simp; go_at_call 24; refine (r_CheckSight_v s _ _ HOV.out).mono ?_; rintro e v2 ⟨rfl, hb⟩; go_simp)
 have HC := Below.then_ HC hb
 refine hK.out _ _ (S1.ext hb hS) (fun hS => ?_)
 clear hK K
 (try simp only [Act.put, pu1, pu2, pu3])
 (refine tk_ (i := 2) (v := ?_) rfl ?_ hS ?_ (fun _ _ _ h => h); rotate_left; focus (intro w2 hw2; (try dsimp only at hw2); (try unfold S1 at hw2); go_split_ands; go_simp; first | done | with_reducible rfl); (try simp only [Act.put, pu1, pu2, pu3]))
 (refine tk_ (i := 3) (v := ?_) rfl ?_ hS ?_ (fun _ _ _ h => h); rotate_left; focus (intro w2 hw2; (try dsimp only at hw2); (try unfold S1 at hw2); go_split_ands; go_simp; first | done | with_reducible rfl); (try simp only [Act.put, pu1, pu2, pu3]))
 (refine tk_ (i := 4) (v := ?_) rfl ?_ hS ?_ (fun _ _ _ h => h); rotate_left; focus (intro w2 hw2; (try dsimp only at hw2); (try unfold S1 at hw2); go_split_ands; go_simp; first | done | with_reducible rfl); (try simp only [Act.put, pu1, pu2, pu3]))
 (refine tk_ (i := 5) (v := ?_) rfl ?_ hS ?_ (fun _ _ _ h => h); rotate_left; focus (intro w2 hw2; (try dsimp only at hw2); (try unfold S1 at hw2); go_split_ands; go_simp; first | done | with_reducible rfl); (try simp only [Act.put, pu1, pu2, pu3]))
 (refine tk_ (i := 6) (v := ?_) rfl ?_ hS ?_ (fun _ _ _ h => h); rotate_left; focus (intro w2 hw2; (try dsimp only at hw2); (try unfold S1 at hw2); go_split_ands; go_simp; first | done | with_reducible rfl); (try simp only [Act.put, pu1, pu2, pu3]))
 (refine tk_ (i := 7) (v := ?_) rfl ?_ hS ?_ (fun _ _ _ h => h); rotate_left; focus (intro w2 hw2; (try dsimp only at hw2); (try unfold S1 at hw2); go_split_ands; go_simp; first | done | with_reducible rfl); (try simp only [Act.put, pu1, pu2, pu3]))
 (refine tk_ (i := 8) (v := ?_) rfl ?_ hS ?_ (fun _ _ _ h => h); rotate_left; focus (intro w2 hw2; (try dsimp only at hw2); (try unfold S1 at hw2); go_split_ands; go_simp; first | done | with_reducible rfl); (try simp only [Act.put, pu1, pu2, pu3]))
 (refine tk_ (i := 9) (v := ?_) rfl ?_ hS ?_ (fun _ _ _ h => h); rotate_left; focus (intro w2 hw2; (try dsimp only at hw2); (try unfold S1 at hw2); go_split_ands; go_simp; first | done | with_reducible rfl); (try simp only [Act.put, pu1, pu2, pu3]))
 refine rd_ [10] ?_
 refine ah1 rfl fun K hK => ?_
 (go_simp; go_at_call 79; refine (r_isFolio_v l.pp ⟨pA, pn, pc, rA, rn, rc, tA, tn, tc, sA, sn, sc⟩ s.pap s.leaf _ _ hpn (HD.out.now HC).p HH.out).mono ?_; rintro e v4 ⟨rfl, hb⟩; go_simp)
 have HC := Below.then_ HC hb
 refine hK.out _ _ (S1.ext hb hS) (fun hS => ?_)
 clear hK K
 (try simp only [Act.put, pu1, pu2, pu3])
 (refine tk_ (i := 11) (v := ?_) rfl ?_ hS ?_ (fun _ _ _ h => h); rotate_left; focus (intro w2 hw2; (try dsimp only at hw2); (try unfold S1 at hw2); go_split_ands; go_simp; first | done | with_reducible rfl); (try simp only [Act.put, pu1, pu2, pu3]))
 (refine tk_ (i := 12) (v := ?_) rfl ?_ hS ?_ (fun _ _ _ h => h); rotate_left; focus (intro w2 hw2; (try dsimp only at hw2); (try unfold S1 at hw2); go_split_ands; go_simp; first | done | with_reducible rfl); (try simp only [Act.put, pu1, pu2, pu3]))
 (refine tk_ (i := 13) (v := ?_) rfl ?_ hS ?_ (fun _ _ _ h => h); rotate_left; focus (intro w2 hw2; (try dsimp only at hw2); (try unfold S1 at hw2); go_split_ands; go_simp; first | done | with_reducible rfl); (try simp only [Act.put, pu1, pu2, pu3]))
 (refine tk_ (i := 14) (v := ?_) rfl ?_ hS ?_ (fun _ _ _ h => h); rotate_left; focus (intro w2 hw2; (try dsimp only at hw2); (try unfold S1 at hw2); go_split_ands; go_simp; first | done | with_reducible rfl); (try simp only [Act.put, pu1, pu2, pu3]))
 (refine tk_ (i := 16) (v := ?_) rfl ?_ hS ?_ (fun _ _ _ h => h); rotate_left; focus (intro w2 hw2; (try dsimp only at hw2); (try unfold S1 at hw2); go_split_ands; go_simp; first | done | with_reducible rfl); (try simp only [Act.put, pu1, pu2, pu3]))
 (refine tk_ (i := 17) (v := ?_) rfl ?_ hS ?_ (fun _ _ _ h => h); rotate_left; focus (intro w2 hw2; (try dsimp only at hw2); (try unfold S1 at hw2); go_split_ands; go_simp; first | done | with_reducible rfl); (try simp only [Act.put, pu1, pu2, pu3]))
 refine rd_ [15] ?_
 refine ah1 rfl fun K hK => ?_
 (go_simp; go_at_call 80; refine (r_sources l ⟨pA, pn, pc, rA, rn, rc, tA, tn, tc, sA, sn, sc⟩ _ hrn htn hsn (HD.out.now HC)).mono ?_; rintro e v5 ⟨u5, rfl, hb, ho5⟩; obtain ⟨A5, c5, rfl, hc5⟩ := own_slice ho5; go_simp)
 have HC := Below.then_ HC hb
 refine hK.out _ _ (S1.ext hb hS) (fun hS => ?_)
 clear hK K
 (try simp only [Act.put, pu1, pu2, pu3])
 refine rd_ [18] ?_
 refine ah1 rfl fun K hK => ?_
 (go_simp; go_at_call 64; refine (r_Has2_v (srcL l) s.src _ A5 (srcL l).length c5 _ hsl9 (Rd.of_own ho5) HN.out).mono ?_; rintro e v6 ⟨rfl, hb⟩; go_simp)
 have HC := Below.then_ HC hb
 refine hK.out _ _ (S1.ext hb hS) (fun hS => ?_)
 clear hK K
 (try simp only [Act.put, pu1, pu2, pu3])
 (refine tk_ (i := 19) (v := ?_) rfl ?_ hS ?_ (fun _ _ _ h => h); rotate_left; focus (intro w2 hw2; (try dsimp only at hw2); (try unfold S1 at hw2); go_split_ands; go_simp; first | done | with_reducible rfl); (try simp only [Act.put, pu1, pu2, pu3]))
 refine wpAnyH_done (by kernel_rfl) ?_ _
 have H4 := Lib.hid (H1.out.ext HC)
 have kZ4 := H4.out.bZ.cell
 have zZ4 := H4.out.bZ.lt
 have fZ4 := H4.out.bZ.frozen
 clear HC hS
 go_wp2
 have bZF := H4.out.bZ
 have hBF := H4.out.hB
 clear kZ4 zZ4 fZ4
 obtain ⟨W2, hW2⟩ : ∃ W2, W2 = v6.setCells (w.heap.size + 2) 0 [.slice none 0 0, .slice none 0 0, .slice none 0 0, .slice none 0 0] := ⟨_, rfl⟩
 have bZ2 : BoxA W2 (w.heap.size + 2) 27 #[.slice none 0 0, .slice none 0 0, .slice none 0 0, .slice none 0 0] := by rw [hW2]; exact bZF.setAll [.slice none 0 0, .slice none 0 0, .slice none 0 0, .slice none 0 0] rfl
 have hB2 : Below w.heap.size w W2 := by rw [hW2]; exact hBF.grown (grown_setCells _ _ _ _) hBF.size (fun b e => by cases e; omega)
 have hG2 : v6.grownBy W2 (some (w.heap.size + 2)) := by rw [hW2]; exact grown_setCells _ _ _ _
 have kz2 := bZ2.cell
 have zz2 := bZ2.lt
 have HW2 := Lib.hid hW2
 clear hW2
 refine bodyPost_w (W2 := W2) (by rw [HW2.out]; rfl) ?_
 refine bodyPost_ret (v := .tuple #[.agg #[.slice none 0 0, .slice none 0 0, .slice none 0 0, .slice none 0 0], .int .i64 23]) ?_ rfl ?_
 ·(simp [results, Tryz.f15, go_sem]; try go_simp)
 ·exact RetSeen.err HE.out (by decide) hB2
end Go.Proofs.YtklikciiaogpbaaGreat
