/- Layer 2 of the texts that LoanChecks takes: Vbwq. -/
import Derived.Test.YtklikciiaogpbaaGreatVbvq
import Derived.Test.YtklikciiaogpbaaGreatVboq
import Derived.Test.YtklikciiaogpbaaGreatVbrq
set_option linter.unusedVariables false
set_option linter.unusedSimpArgs false
/- LoanChecks: the walk of the law, over what it calls. -/
namespace Go.Proofs.YtklikciiaogpbaaGreat
open Go.RowKit Go.Maps
theorem sgIns_len (S : List Sgt) (s : Sgt) : (sgIns S s).length = S.length + 1 := by
 have h := sgIx_le S s.src
 simp [sgIns]
 omega
theorem seen_sz {l : Led} {s : Sgt} {w : World} {B : Nat} {y : Lsl} (h : LedIn w B y (seenL l s)) : (y.pn ≤ 1000000 ∧ y.rn ≤ 1000000 ∧ y.tn ≤ 1000000 ∧ y.sn ≤ 1000000) ∧ (∀ r ∈ (seenL l s).rc, r.lv.length ≤ 1000000) ∧ ∀ r ∈ (seenL l s).rt, r.lv.length ≤ 1000000 := by
 have h1 := h.p.len
 have h2 := h.r.len
 have h3 := h.t.len
 have h4 := h.s.len
 by_cases h0 : seenE l s = 0
 ·have e : seenL l s = { l with sg := sgIns l.sg s } := by rw [seenL, if_pos h0]
  have hk : ledB l = true := by
   cases hk : ledB l with
   | true => rfl
   | false => rw [seenE, hk] at h0; cases h0
  have hl := led_ok hk
  rw [e] at h1 h2 h3 h4 ⊢
  simp only [sgIns_len] at h1 h2 h3 h4
  have q1 := hl.pn
  have q2 := hl.rn
  have q3 := hl.tn
  have q4 := hl.sn
  exact ⟨⟨by omega, by omega, by omega, by omega⟩, fun r hr => Nat.le_trans (hl.rc r hr).1 (by decide), fun r hr => Nat.le_trans (hl.rt r hr).1 (by decide)⟩
 ·have e : seenL l s = ⟨[], [], [], []⟩ := by rw [seenL, if_neg h0]
  rw [e] at h1 h2 h3 h4 ⊢
  simp only [List.length_nil] at h1 h2 h3 h4
  exact ⟨⟨by omega, by omega, by omega, by omega⟩, by simp, by simp⟩
theorem p_CheckPaper_w (p : Ppr) (v : Int) (w : World) (h : errI p.okB 20 = v) : Calls Tryz.prog 17 #[.agg #[.int .i64 p.id, .int .i64 p.lv]] w fun e w' => e = .returned (.int .i64 v) ∧ Below w.heap.size w w' := h ▸ p_CheckPaper p w
theorem p_CheckSight_w (s : Sgt) (v : Int) (w : World) (h : errI s.okB 23 = v) : Calls Tryz.prog 23 #[.agg #[.int .i64 s.src, .int .i64 s.per, .int .i64 s.pap, .int .i64 s.leaf, .int .i64 s.day, .int .i64 s.kn, .int .i64 s.un]] w fun e w' => e = .returned (.int .i64 v) ∧ Below w.heap.size w w' := h ▸ p_CheckSight s w
theorem p_CheckReceipt_w (r : Rcp) (v : Int) (A : Option Addr) (n c : Nat) (w : World) (hn : n ≤ 9223372036854775807) (hd : Is w w.heap.size A n r.lv) (h : errI r.okB 21 = v) :
 Calls Tryz.prog 19 #[.agg #[.int .i64 r.src, .int .i64 r.bor, .int .i64 r.pap, .slice A n c, .int .i64 r.day, .int .i64 r.kn, .int .i64 r.un]] w fun e w' => e = .returned (.int .i64 v) ∧ Below w.heap.size w w' := h ▸ p_CheckReceipt r A n c w hn hd
theorem p_CheckReturn_w (r : Rtn) (v : Int) (A : Option Addr) (n c : Nat) (w : World) (hn : n ≤ 9223372036854775807) (hd : Is w w.heap.size A n r.lv) (h : errI r.okB 22 = v) :
 Calls Tryz.prog 21 #[.agg #[.int .i64 r.src, .int .i64 r.rcp, .int .i64 r.per, .slice A n c, .int .i64 r.lo, .int .i64 r.hi, .int .i64 r.kn, .int .i64 r.un]] w fun e w' => e = .returned (.int .i64 v) ∧ Below w.heap.size w w' := h ▸ p_CheckReturn r A n c w hn hd
theorem p_Check_w (l : Led) (x : Lsl) (v : Int) (w : World) (hp : x.pn ≤ 9223372036854775807) (hr : x.rn ≤ 9223372036854775807) (ht : x.tn ≤ 9223372036854775807) (hs : x.sn ≤ 9223372036854775807) (hd : LedIn w w.heap.size x l) (h : errI (ledB l) 24 = v) :
 Calls Tryz.prog 25 #[.agg #[.slice x.pA x.pn x.pc, .slice x.rA x.rn x.rc, .slice x.tA x.tn x.tc, .slice x.sA x.sn x.sc]] w fun e w' => e = .returned (.int .i64 v) ∧ Below w.heap.size w w' := h ▸ p_Check l x w hp hr ht hs hd
theorem r_Check_w (l : Led) (x : Lsl) (v : Int) (w : World) (hp : x.pn ≤ 9223372036854775807) (hr : x.rn ≤ 9223372036854775807) (ht : x.tn ≤ 9223372036854775807) (hs : x.sn ≤ 9223372036854775807) (hd : LedIn w w.heap.size x l) (h : errI (ledB l) 24 = v) :
 Calls Tryz.prog 26 #[.agg #[.slice x.pA x.pn x.pc, .slice x.rA x.rn x.rc, .slice x.tA x.tn x.tc, .slice x.sA x.sn x.sc]] w fun e w' => e = .returned (.int .i64 v) ∧ Below w.heap.size w w' := h ▸ r_Check l x w hp hr ht hs hd
set_option maxRecDepth 100000 in
set_option maxHeartbeats 16000000 in
theorem w_LoanChecks (l : Led) (x : Lsl) (p : Ppr) (a : Rv) (b : Tv) (s : Sgt) (w : World) (hf : x.fit) (hd : LedIn w w.heap.size x l) (ha : Is w w.heap.size a.A a.n a.r.lv ∧ a.n ≤ a.c ∧ a.c ≤ maxLen) (hb : Is w w.heap.size b.A b.n b.r.lv ∧ b.n ≤ b.c ∧ b.c ≤ maxLen) :
 Calls Tryz.prog 3 #[.agg #[.slice x.pA x.pn x.pc, .slice x.rA x.rn x.rc, .slice x.tA x.tn x.tc, .slice x.sA x.sn x.sc], .agg (ppC p ++ (rvC a ++ (tvC b ++ sgC s))).toArray] w fun e w' => e = .returned (.bool true) ∧ Below w.heap.size w w' := by
 obtain ⟨pA, pn, pc, rA, rn, rc, tA, tn, tc, sA, sn, sc⟩ := x
 show Calls Tryz.prog 3 #[.agg #[.slice pA pn pc, .slice rA rn rc, .slice tA tn tc, .slice sA sn sc], .agg #[.int .i64 p.id, .int .i64 p.lv, .int .i64 a.r.src, .int .i64 a.r.bor, .int .i64 a.r.pap, .slice a.A a.n a.c, .int .i64 a.r.day, .int .i64 a.r.kn, .int .i64 a.r.un, .int .i64 b.r.src, .int .i64 b.r.rcp, .int .i64 b.r.per, .slice b.A b.n b.c, .int .i64 b.r.lo, .int .i64 b.r.hi, .int .i64 b.r.kn, .int .i64 b.r.un, .int .i64 s.src, .int .i64 s.per, .int .i64 s.pap, .int .i64 s.leaf, .int .i64 s.day, .int .i64 s.kn, .int .i64 s.un]] w fun e w' => e = .returned (.bool true) ∧ Below w.heap.size w w'
 have hml : maxLen ≤ 9223372036854775807 := by decide
 have hpn : pn ≤ 9223372036854775807 := by have := hf.p; dsimp only at this; omega
 have hrn : rn ≤ 9223372036854775807 := by have := hf.r; dsimp only at this; omega
 have htn : tn ≤ 9223372036854775807 := by have := hf.t; dsimp only at this; omega
 have hsn : sn ≤ 9223372036854775807 := by have := hf.s; dsimp only at this; omega
 have han : a.n ≤ 9223372036854775807 := by have := ha.2; omega
 have hbn : b.n ≤ 9223372036854775807 := by have := hb.2; omega
 have HF := Lib.hid hf
 have HD := Lib.hid hd
 have HA : Hid (Is w w.heap.size a.A a.n a.r.lv) := by show Is _ _ _ _ _; exact ha.1
 have HB : Hid (Is w w.heap.size b.A b.n b.r.lv) := by show Is _ _ _ _ _; exact hb.1
 have HN : Hid (((pn ≤ 9223372036854775807 ∧ rn ≤ 9223372036854775807) ∧ tn ≤ 9223372036854775807 ∧ sn ≤ 9223372036854775807) ∧ a.n ≤ 9223372036854775807 ∧ b.n ≤ 9223372036854775807) := by show _ ∧ _; exact ⟨⟨⟨hpn, hrn⟩, htn, hsn⟩, han, hbn⟩
 clear hf hd ha hb hml hpn hrn htn hsn han hbn
 obtain ⟨v, hv⟩ : ∃ v, seenE l s = v := ⟨_, rfl⟩
 obtain ⟨vp, hvp⟩ : ∃ v, errI p.okB 20 = v := ⟨_, rfl⟩
 obtain ⟨va, hva⟩ : ∃ v, errI a.r.okB 21 = v := ⟨_, rfl⟩
 obtain ⟨vb, hvb⟩ : ∃ v, errI b.r.okB 22 = v := ⟨_, rfl⟩
 obtain ⟨vs, hvs⟩ : ∃ v, errI s.okB 23 = v := ⟨_, rfl⟩
 obtain ⟨vl, hvl⟩ : ∃ v, errI (ledB l) 24 = v := ⟨_, rfl⟩
 have HV := Lib.hid hv
 have HVP := Lib.hid hvp
 have HVA := Lib.hid hva
 have HVB := Lib.hid hvb
 have HVS := Lib.hid hvs
 have HVL := Lib.hid hvl
 clear hv hvp hva hvb hvs hvl
 go_enter Tryz.func3, Tryz.ntmps3
 go_wp2_with fail
 refine (p_Seen l s ⟨pA, pn, pc, rA, rn, rc, tA, tn, tc, sA, sn, sc⟩ _ HF.out (HD.out.now (by exact bel_))).mono ?_
 rintro e wa ⟨⟨p1A, p1n, p1c, r1A, r1n, r1c, t1A, t1n, t1c, s1A, s1n, s1c⟩, rfl, hba, hf1, hl1⟩
 have bx := box2 w 27 40 #[.slice pA pn pc, .slice rA rn rc, .slice tA tn tc, .slice sA sn sc] #[.int .i64 p.id, .int .i64 p.lv, .int .i64 a.r.src, .int .i64 a.r.bor, .int .i64 a.r.pap, .slice a.A a.n a.c, .int .i64 a.r.day, .int .i64 a.r.kn, .int .i64 a.r.un, .int .i64 b.r.src, .int .i64 b.r.rcp, .int .i64 b.r.per, .slice b.A b.n b.c, .int .i64 b.r.lo, .int .i64 b.r.hi, .int .i64 b.r.kn, .int .i64 b.r.un, .int .i64 s.src, .int .i64 s.per, .int .i64 s.pap, .int .i64 s.leaf, .int .i64 s.day, .int .i64 s.kn, .int .i64 s.un]
 have HBa : Below w.heap.size w wa := Below.then_ (by exact bel_) hba
 have bL := bx.1.ext hba
 have bO := bx.2.ext hba
 have HL1 := Lib.hid hl1
 have kL := bL.cell
 have zL := bL.lt
 have kO := bO.cell
 have zO := bO.lt
 simp only [HV.out]
 clear hba hf1 hl1 bx
 go_wp2_with fail
 refine (r_Seen l s ⟨pA, pn, pc, rA, rn, rc, tA, tn, tc, sA, sn, sc⟩ _ HF.out (HD.out.now (by exact bel_))).mono ?_
 rintro e wb ⟨⟨p2A, p2n, p2c, r2A, r2n, r2c, t2A, t2n, t2c, s2A, s2n, s2c⟩, rfl, hbb, hf2, hl2⟩
 have HQb : Below wa.heap.size wa wb := Below.then_ (by exact bel_) hbb
 have HBb : Below w.heap.size w wb := Below.then_ HBa HQb
 have bA := (BoxA.new wa 27 #[.slice p1A p1n p1c, .slice r1A r1n r1c, .slice t1A t1n t1c, .slice s1A s1n s1c]).ext hbb
 replace bL := bL.ext HQb
 replace bO := bO.ext HQb
 have kA := bA.cell
 have zA := bA.lt
 replace kL := bL.cell
 replace zL := bL.lt
 replace kO := bO.cell
 replace zO := bO.lt
 simp only [HV.out]
 have HZ1 := Lib.hid (seen_sz HL1.out)
 have HZ2 := Lib.hid (seen_sz hl2)
 have HL2 := Lib.hid hl2
 obtain ⟨V, hV⟩ : ∃ V, V = wb.alloc (.cells #[.slice p2A p2n p2c, .slice r2A r2n r2c, .slice t2A t2n t2c, .slice s2A s2n s2c] 27) := ⟨_, rfl⟩
 have HBV : Below w.heap.size w V := by rw [hV]; exact bel_
 have HQV : Below wb.heap.size wb V := by rw [hV]; exact bel_
 have HLa := Lib.hid ((HL1.out.now HQb).now HQV)
 have HLb := Lib.hid (HL2.out.now HQV)
 have HDv := Lib.hid (HD.out.now HBV)
 have HAv : Hid (Is V V.heap.size a.A a.n a.r.lv) := by show Is _ _ _ _ _; exact Is.now (show Is _ _ _ _ _ from HA.out) HBV
 have HBv : Hid (Is V V.heap.size b.A b.n b.r.lv) := by show Is _ _ _ _ _; exact Is.now (show Is _ _ _ _ _ from HB.out) HBV
 have bA2 : BoxA V wa.heap.size 27 #[.slice p1A p1n p1c, .slice r1A r1n r1c, .slice t1A t1n t1c, .slice s1A s1n s1c] := by rw [hV]; exact bA.alloc _
 have bB2 : BoxA V wb.heap.size 27 #[.slice p2A p2n p2c, .slice r2A r2n r2c, .slice t2A t2n t2c, .slice s2A s2n s2c] := by rw [hV]; exact BoxA.new _ _ _
 have bL2 : BoxA V w.heap.size 27 #[.slice pA pn pc, .slice rA rn rc, .slice tA tn tc, .slice sA sn sc] := by rw [hV]; exact bL.alloc _
 have bO2 : BoxA V (w.heap.size + 1) 40 #[.int .i64 p.id, .int .i64 p.lv, .int .i64 a.r.src, .int .i64 a.r.bor, .int .i64 a.r.pap, .slice a.A a.n a.c, .int .i64 a.r.day, .int .i64 a.r.kn, .int .i64 a.r.un, .int .i64 b.r.src, .int .i64 b.r.rcp, .int .i64 b.r.per, .slice b.A b.n b.c, .int .i64 b.r.lo, .int .i64 b.r.hi, .int .i64 b.r.kn, .int .i64 b.r.un, .int .i64 s.src, .int .i64 s.per, .int .i64 s.pap, .int .i64 s.leaf, .int .i64 s.day, .int .i64 s.kn, .int .i64 s.un] := by rw [hV]; exact bO.alloc _
 have HBX : Hid (((BoxA V wa.heap.size 27 #[.slice p1A p1n p1c, .slice r1A r1n r1c, .slice t1A t1n t1c, .slice s1A s1n s1c] ∧ BoxA V wb.heap.size 27 #[.slice p2A p2n p2c, .slice r2A r2n r2c, .slice t2A t2n t2c, .slice s2A s2n s2c]) ∧ BoxA V w.heap.size 27 #[.slice pA pn pc, .slice rA rn rc, .slice tA tn tc, .slice sA sn sc] ∧ BoxA V (w.heap.size + 1) 40 #[.int .i64 p.id, .int .i64 p.lv, .int .i64 a.r.src, .int .i64 a.r.bor, .int .i64 a.r.pap, .slice a.A a.n a.c, .int .i64 a.r.day, .int .i64 a.r.kn, .int .i64 a.r.un, .int .i64 b.r.src, .int .i64 b.r.rcp, .int .i64 b.r.per, .slice b.A b.n b.c, .int .i64 b.r.lo, .int .i64 b.r.hi, .int .i64 b.r.kn, .int .i64 b.r.un, .int .i64 s.src, .int .i64 s.per, .int .i64 s.pap, .int .i64 s.leaf, .int .i64 s.day, .int .i64 s.kn, .int .i64 s.un])) := by show _ ∧ _; exact ⟨⟨bA2, bB2⟩, bL2, bO2⟩
 have HHV := Lib.hid hV
 clear bA2 bB2 bL2 bO2 hV
 clear hbb hf2 hl2 HL1 HL2 bL bO bA HQb HQV
 go_wp2_with fail
 refine wp_named2 fun f1 V1 hf1 hV1 => ?_
 obtain rfl : V1 = V := by rw [← hV1, HHV.out]
 clear hV1 HHV kA zA kL zL kO zO
 subst hf1
 have kA := HBX.out.1.1.cell
 have zA := HBX.out.1.1.lt
 have kB := HBX.out.1.2.cell
 have zB := HBX.out.1.2.lt
 have kL := HBX.out.2.1.cell
 have zL := HBX.out.2.1.lt
 have kO := HBX.out.2.2.cell
 have zO := HBX.out.2.2.lt
 (refine wp_region_grow (by kernel_rfl) (by kernel_rfl) ?_; (repeat (go_big_quiet_step ((first | (go_at_call 16; exact Calls.grow_all (fun g => r_SameLedger (seenL l s) (seenL l s) ⟨p1A, p1n, p1c, r1A, r1n, r1c, t1A, t1n, t1c, s1A, s1n, s1c⟩ ⟨p2A, p2n, p2c, r2A, r2n, r2c, t2A, t2n, t2c, s2A, s2n, s2c⟩ true g.1 (HLa.out.now g.2) (HLb.out.now g.2) HZ1.out HZ2.out (by simp))) | (go_at_call 17; exact Calls.grow_all (fun g => p_CheckPaper_w p vp g.1 HVP.out)) | (go_at_call 18; exact Calls.grow_all (fun g => r_CheckPaper_v p vp g.1 HVP.out)) | (go_at_call 19; exact Calls.grow_all (fun g => p_CheckReceipt_w a.r va a.A a.n a.c g.1 HN.out.2.1 (Is.now (show Is _ _ _ _ _ from HAv.out) g.2) HVA.out)) | (go_at_call 20; exact Calls.grow_all (fun g => r_CheckReceipt_v a.r va a.A a.n a.c g.1 HN.out.2.1 (Is.now (show Is _ _ _ _ _ from HAv.out) g.2) HVA.out)) | (go_at_call 21; exact Calls.grow_all (fun g => p_CheckReturn_w b.r vb b.A b.n b.c g.1 HN.out.2.2 (Is.now (show Is _ _ _ _ _ from HBv.out) g.2) HVB.out)) | (go_at_call 22; exact Calls.grow_all (fun g => r_CheckReturn_v b.r vb b.A b.n b.c g.1 HN.out.2.2 (Is.now (show Is _ _ _ _ _ from HBv.out) g.2) HVB.out)) | (go_at_call 23; exact Calls.grow_all (fun g => p_CheckSight_w s vs g.1 HVS.out)) | (go_at_call 24; exact Calls.grow_all (fun g => r_CheckSight_v s vs g.1 HVS.out)) | (go_at_call 25; exact Calls.grow_all (fun g => p_Check_w l ⟨pA, pn, pc, rA, rn, rc, tA, tn, tc, sA, sn, sc⟩ vl g.1 HN.out.1.1.1 HN.out.1.1.2 HN.out.1.2.1 HN.out.1.2.2 (HDv.out.now g.2) HVL.out)) | (go_at_call 26; exact Calls.grow_all (fun g => r_Check_w l ⟨pA, pn, pc, rA, rn, rc, tA, tn, tc, sA, sn, sc⟩ vl g.1 HN.out.1.1.1 HN.out.1.1.2 HN.out.1.2.1 HN.out.1.2.2 (HDv.out.now g.2) HVL.out)) | (go_at_call 27; exact Calls.grow_all (fun g => r_sane2 g.1)))))); refine wpQuiet_nil ?_; rintro w1 ⟨⟨_, hb1⟩, rfl⟩; (try dsimp only at hb1 ⊢); obtain ⟨hc1, hf1⟩ := bcell hb1)
 clear kA zA kB zB kL zL kO zO
 go_wp2_with fail
 go_ret
 exact ⟨rfl, Below.then_ HBV hb1⟩
end Go.Proofs.YtklikciiaogpbaaGreat
