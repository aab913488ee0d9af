/- Layer 2 of the texts that LoanChecks takes: Vatq. -/
import Derived.Test.YtklikciiaogpbaaGreatVarq
import Derived.Test.YtklikciiaogpbaaGreatVasq
set_option linter.unusedVariables false
set_option linter.unusedSimpArgs false
/- Layer 2: contradict, where, backFor of an account. -/
namespace Go.Proofs.YtklikciiaogpbaaGreat
open Go.RowKit Go.Maps
structure AccR (w : World) (a : Acc) (M : List ((Int × Int) × Nat)) (R : List Rcp) (P : List (Int × Int)) : Prop where
 m : MapS w a.bm (encM M)
 r : Rcs w w.heap.size a.RA a.Rn R
 p : Sq QF 2 w w.heap.size a.PA a.Pn P
 nR : a.Rn ≤ 1000000
 cR : a.Rn ≤ a.Rc ∧ a.Rc ≤ maxLen
 okR : ∀ r ∈ R, r.lv.length ≤ 1000000 ∧ (Lit.int .i64 r.src).wf = true ∧ ∀ x ∈ r.lv, (Lit.int .i64 x).wf = true
 nP : a.Pn ≤ 100000
 aP : a.PA = none → a.Pc = 0
 mP : ∀ k i, getN M k = some i → i < a.Pn
theorem AccR.now {w w' : World} {a : Acc} {M : List ((Int × Int) × Nat)} {R : List Rcp} {P : List (Int × Int)} (h : AccR w a M R P) (hb : Below w.heap.size w w') : AccR w' a M R P :=
 ⟨h.m.ext hb, h.r.now abR hb, h.p.now abF hb, h.nR, h.cR, h.okR, h.nP, h.aP, h.mP⟩
def sgsOk (S : List Sgt) : Prop := ∀ s ∈ S, (Lit.int .i64 s.leaf).wf = true ∧ 0 ≤ s.day ∧ s.day ≤ 1000000
set_option maxHeartbeats 1000000 in
theorem p_contradict (M : List ((Int × Int) × Nat)) (R : List Rcp) (P : List (Int × Int)) (S : List Sgt) (a : Acc) (A : Option Addr) (n c : Nat) (w : World) (h : AccR w a M R P) (hS : sgsOk S) (hn : n ≤ 1000000) (hs : Sgs w w.heap.size A n S) :
 Calls Tryz.prog 122 #[accV a, .slice A n c] w fun e w' => e = .returned (.bool (narL M R S P).isNone) ∧ Below w.heap.size w w' := by
 obtain ⟨⟨pA, pn, pc, rA, rn, rc, tA, tn, tc, sA, sn, sc⟩, kn, RA, Rn, Rc, SA, Sn, Sc, bm, TA, Tn, Tc, PA, Pn, Pc⟩ := a
 show Calls _ _ #[.agg #[.slice pA pn pc, .slice rA rn rc, .slice tA tn tc, .slice sA sn sc, .int .i64 kn, .slice RA Rn Rc, .slice SA Sn Sc, .map (some bm), .slice TA Tn Tc, .slice PA Pn Pc], _] _ _
 obtain ⟨o, ho⟩ : ∃ o, narL M R S P = o := ⟨_, rfl⟩
 have HN : Hid (∀ W : World, Below w.heap.size w W → Calls Tryz.prog 181 #[.agg #[.slice pA pn pc, .slice rA rn rc, .slice tA tn tc, .slice sA sn sc, .int .i64 kn, .slice RA Rn Rc, .slice SA Sn Sc, .map (some bm), .slice TA Tn Tc, .slice PA Pn Pc], .slice A n c] W (RetNar o Pn W)) := by
  show ∀ _, _
  intro W hW
  have hk := h.now hW
  rw [← ho]
  exact p_narrowed M R P S ⟨⟨pA, pn, pc, rA, rn, rc, tA, tn, tc, sA, sn, sc⟩, kn, RA, Rn, Rc, SA, Sn, Sc, bm, TA, Tn, Tc, PA, Pn, Pc⟩ A n c W hk.nR (fun r hr => ⟨(hk.okR r hr).1, (hk.okR r hr).2.1⟩) hS hn hk.nP hk.aP hk.mP hk.m hk.r hk.p (hs.now abS hW)
 rw [ho]
 clear ho h hS hs
 have hB0 : Below w.heap.size w (w.alloc (.cells #[.slice pA pn pc, .slice rA rn rc, .slice tA tn tc, .slice sA sn sc, .int .i64 kn, .slice RA Rn Rc, .slice SA Sn Sc, .map (some bm), .slice TA Tn Tc, .slice PA Pn Pc] 137)) := by exact bel_
 cases o with
 | none =>
   go_enter Tryz.func122, Tryz.ntmps122
   go_wp2_with (go_at_call 181; refine (HN.out _ hB0).mono ?_; rintro e w1 ⟨hb1, rfl⟩)
   go_ret
   exact ⟨rfl, Below.then_ hB0 hb1⟩
 | some P' =>
   go_enter Tryz.func122, Tryz.ntmps122
   go_wp2_with (go_at_call 181; refine (HN.out _ hB0).mono ?_; rintro e w1 ⟨hb1, v1, rfl, _, _⟩)
   go_ret
   exact ⟨rfl, Below.then_ hB0 hb1⟩
def whereS (st : Int × Int) (P : List (Int × Int)) (day : Int) : List Int :=
 if st.2 < 0 ∨ day < (P.getD st.2.toNat (0, 0)).1 then [st.1] else if (P.getD st.2.toNat (0, 0)).2 ≤ day then [0] else [0, st.1]
def stayP (M : List ((Int × Int) × Nat)) (R : List Rcp) (pap leaf day : Int) : Int × Int := ((stayF M R pap leaf day).1, (stayF M R pap leaf day).2.1)
theorem stayP_back {M : List ((Int × Int) × Nat)} {R : List Rcp} {pap leaf day : Int} {n : Nat} (hM : ∀ k i, getN M k = some i → i < n) : (stayP M R pap leaf day).2 = -1 ∨ ∃ i : Nat, i < n ∧ (stayP M R pap leaf day).2 = (i : Int) := by
 rcases stayL_back M leaf day (R.filter (isOfB pap leaf)) with h | ⟨k, i, hg, h⟩
 ·exact .inl h
 ·exact .inr ⟨i, hM k i hg, h⟩
theorem own_new (w : World) (t : TypeId) (cs : Array Value) (n : Nat) (hs : cs.size = n) (hn : n ≤ maxLen) : (w.alloc (.cells cs t)).ownsRow w.heap.size t 1 (.slice (some ⟨w.heap.size, 0, none⟩) n n) n cs.toList := by
 refine ⟨by simpa using hs, .inr ⟨w.heap.size, n, cs, rfl, Nat.le_refl _, World.alloc_heap_new w _, Nat.le_refl _, hn, by omega, ?_⟩⟩
 rw [List.take_of_length_le]
 simp [hs]
set_option maxRecDepth 10000 in
set_option maxHeartbeats 4000000 in
theorem p_where (M : List ((Int × Int) × Nat)) (R : List Rcp) (P : List (Int × Int)) (a : Acc) (pap leaf day : Int) (w : World) (h : AccR w a M R P) (hwl : (Lit.int .i64 leaf).wf = true) :
 Calls Tryz.prog 136 #[accV a, .agg #[.int .i64 pap, .int .i64 leaf], .int .i64 day] w (RetO (whereS (stayP M R pap leaf day) P day) w) := by
 obtain ⟨⟨pA, pn, pc, rA, rn, rc, tA, tn, tc, sA, sn, sc⟩, kn, RA, Rn, Rc, SA, Sn, Sc, bm, TA, Tn, Tc, PA, Pn, Pc⟩ := a
 show Calls _ _ #[.agg #[.slice pA pn pc, .slice rA rn rc, .slice tA tn tc, .slice sA sn sc, .int .i64 kn, .slice RA Rn Rc, .slice SA Sn Sc, .map (some bm), .slice TA Tn Tc, .slice PA Pn Pc], _, _] _ _
 have hback := stayP_back (M := M) (R := R) (pap := pap) (leaf := leaf) (day := day) h.mP
 obtain ⟨⟨sp, sb⟩, hst⟩ : ∃ st, stayP M R pap leaf day = st := ⟨_, rfl⟩
 have HST : Hid (∀ W : World, Below w.heap.size w W → Calls Tryz.prog 148 #[.agg #[.slice pA pn pc, .slice rA rn rc, .slice tA tn tc, .slice sA sn sc, .int .i64 kn, .slice RA Rn Rc, .slice SA Sn Sc, .map (some bm), .slice TA Tn Tc, .slice PA Pn Pc], .agg #[.int .i64 pap, .int .i64 leaf], .int .i64 day] W fun e w' => e = .returned (.agg #[.int .i64 sp, .int .i64 sb]) ∧ Below W.heap.size W w') := by
  show ∀ _, _
  intro W hW
  have hk := h.now hW
  have := p_stay M R ⟨⟨pA, pn, pc, rA, rn, rc, tA, tn, tc, sA, sn, sc⟩, kn, RA, Rn, Rc, SA, Sn, Sc, bm, TA, Tn, Tc, PA, Pn, Pc⟩ pap leaf day W hk.nR (fun r hr => ⟨(hk.okR r hr).1, (hk.okR r hr).2.1⟩) hwl hk.m hk.r
  have e1 : (stayF M R pap leaf day).1 = sp := congrArg Prod.fst hst
  have e2 : (stayF M R pap leaf day).2.1 = sb := congrArg Prod.snd hst
  rw [e1, e2] at this
  exact this
 rw [hst] at hback ⊢
 have HP : Hid (Sq QF 2 w w.heap.size PA Pn P) := by show Sq _ _ _ _ _ _ _; exact h.p
 have hPn : Pn ≤ 100000 := h.nP
 clear hst h
 have hmx : 2 ≤ maxLen := by decide
 have hB0 : Below w.heap.size w ((w.alloc (.cells #[.slice pA pn pc, .slice rA rn rc, .slice tA tn tc, .slice sA sn sc, .int .i64 kn, .slice RA Rn Rc, .slice SA Sn Sc, .map (some bm), .slice TA Tn Tc, .slice PA Pn Pc] 137)).alloc (.cells #[.int .i64 pap, .int .i64 leaf] 60)) := by exact bel_
 have HB0 := Lib.hid hB0
 clear hB0
 rcases hback with hb | ⟨i, hi, hb⟩
 ·have hb : sb = -1 := hb
  subst hb
  have hres : whereS (sp, -1) P day = [sp] := by rw [whereS, if_pos (.inl (show (-1 : Int) < 0 by decide))]
  rw [hres]
  go_enter Tryz.func136, Tryz.ntmps136
  go_wp2_with (go_at_call 148; refine (HST.out _ HB0.out).mono ?_; rintro e w1 ⟨rfl, hb1⟩; have HB1 := Below.then_ HB0.out hb1; have hs1 := HB1.size)
  go_ret
  have HO1 := own_new (w1.alloc (.cells #[.int .i64 sp, .int .i64 (-1)] 172)) 3 #[.int .i64 sp] 1 rfl (by omega)
  simp only [World.size_alloc] at HO1
  exact ⟨_, rfl, by exact bel_, own_dn HO1 (show w.heap.size ≤ w1.heap.size + 1 by omega)⟩
 ·have hb : sb = (i : Int) := hb
  subst hb
  obtain ⟨d, hdi⟩ : ∃ d, P[i]? = some d := ⟨_, List.getElem?_eq_getElem (by rw [HP.out.len]; exact hi)⟩
  have hgd : P.getD ((i : Int)).toNat (0, 0) = d := by rw [List.getD_eq_getElem?_getD, Int.toNat_natCast, hdi]; rfl
  rw [whereS]
  simp only [hgd]
  clear hgd
  have hnn : ¬ ((i : Int) < 0) := by omega
  obtain ⟨b, o, d', rfl, hbb, hd', q0, q1⟩ := HP.out.at_ hi
  obtain rfl : d = d' := Option.some.inj (hdi.symm.trans hd')
  clear hdi hd'
  have HB1 : Hid (∀ w1, Below ((w.alloc (.cells #[.slice pA pn pc, .slice rA rn rc, .slice tA tn tc, .slice sA sn sc, .int .i64 kn, .slice RA Rn Rc, .slice SA Sn Sc, .map (some bm), .slice TA Tn Tc, .slice (some ⟨b, o, none⟩) Pn Pc] 137)).alloc (.cells #[.int .i64 pap, .int .i64 leaf] 60)).heap.size ((w.alloc (.cells #[.slice pA pn pc, .slice rA rn rc, .slice tA tn tc, .slice sA sn sc, .int .i64 kn, .slice RA Rn Rc, .slice SA Sn Sc, .map (some bm), .slice TA Tn Tc, .slice (some ⟨b, o, none⟩) Pn Pc] 137)).alloc (.cells #[.int .i64 pap, .int .i64 leaf] 60)) w1 → w1.cell? ⟨b, o + i * 2, none⟩ = some (.int .i64 d.1) ∧ w1.cell? ⟨b, o + i * 2 + 1, none⟩ = some (.int .i64 d.2)) := by
   show ∀ _, _
   intro w1 hb1
   have := HB0.out.trans (hb1.mono (by simp; omega))
   exact ⟨(this.cell (p := ⟨b, _, none⟩) hbb).trans q0, (this.cell (p := ⟨b, _, none⟩) hbb).trans q1⟩
  by_cases c1 : day < d.1
  ·have hres : (if (i : Int) < 0 ∨ day < d.1 then [sp] else if d.2 ≤ day then [0] else [0, sp]) = [sp] := if_pos (.inr c1)
   rw [hres]
   go_enter Tryz.func136, Tryz.ntmps136
   go_wp2_with (go_at_call 148; refine (HST.out _ HB0.out).mono ?_; rintro e w1 ⟨rfl, hb1⟩; obtain ⟨u0, u1⟩ := HB1.out _ hb1; obtain ⟨hc1, hf1⟩ := bcell hb1; have HB2 := Below.then_ HB0.out hb1; have hs1 := HB2.size; have hs2 := hb1.size; have hz1 : w.heap.size < w1.heap.size := (by simp at hs2; omega); have hbl := Nat.lt_of_lt_of_le hbb hs1)
   go_ret
   have HO1 := own_new (w1.alloc (.cells #[.int .i64 sp, .int .i64 (i : Int)] 172)) 3 #[.int .i64 sp] 1 rfl (by omega)
   simp only [World.size_alloc] at HO1
   exact ⟨_, rfl, by exact bel_, own_dn HO1 (show w.heap.size ≤ w1.heap.size + 1 by omega)⟩
  ·by_cases c2 : d.2 ≤ day
   ·have hres : (if (i : Int) < 0 ∨ day < d.1 then [sp] else if d.2 ≤ day then [0] else [0, sp]) = [0] := by rw [if_neg (fun h => h.elim hnn c1), if_pos c2]
    rw [hres]
    go_enter Tryz.func136, Tryz.ntmps136
    go_wp2_with (go_at_call 148; refine (HST.out _ HB0.out).mono ?_; rintro e w1 ⟨rfl, hb1⟩; obtain ⟨u0, u1⟩ := HB1.out _ hb1; obtain ⟨hc1, hf1⟩ := bcell hb1; have HB2 := Below.then_ HB0.out hb1; have hs1 := HB2.size; have hs2 := hb1.size; have hz1 : w.heap.size < w1.heap.size := (by simp at hs2; omega); have hbl := Nat.lt_of_lt_of_le hbb hs1)
    go_ret
    have HO1 := own_new (w1.alloc (.cells #[.int .i64 sp, .int .i64 (i : Int)] 172)) 3 #[.int .i64 0] 1 rfl (by omega)
    simp only [World.size_alloc] at HO1
    exact ⟨_, rfl, by exact bel_, own_dn HO1 (show w.heap.size ≤ w1.heap.size + 1 by omega)⟩
   ·have hres : (if (i : Int) < 0 ∨ day < d.1 then [sp] else if d.2 ≤ day then [0] else [0, sp]) = [0, sp] := by rw [if_neg (fun h => h.elim hnn c1), if_neg c2]
    rw [hres]
    go_enter Tryz.func136, Tryz.ntmps136
    go_wp2_with (go_at_call 148; refine (HST.out _ HB0.out).mono ?_; rintro e w1 ⟨rfl, hb1⟩; obtain ⟨u0, u1⟩ := HB1.out _ hb1; obtain ⟨hc1, hf1⟩ := bcell hb1; have HB2 := Below.then_ HB0.out hb1; have hs1 := HB2.size; have hs2 := hb1.size; have hz1 : w.heap.size < w1.heap.size := (by simp at hs2; omega); have hbl := Nat.lt_of_lt_of_le hbb hs1)
    go_ret
    have HO1 := own_new (w1.alloc (.cells #[.int .i64 sp, .int .i64 (i : Int)] 172)) 3 #[.int .i64 0, .int .i64 sp] 2 rfl (by omega)
    simp only [World.size_alloc] at HO1
    exact ⟨_, rfl, by exact bel_, own_dn HO1 (show w.heap.size ≤ w1.heap.size + 1 by omega)⟩
end Go.Proofs.YtklikciiaogpbaaGreat
/- Layer 2: backFor, areDouble of an account. -/
namespace Go.Proofs.YtklikciiaogpbaaGreat
open Go.RowKit Go.Maps
def backB (M : List ((Int × Int) × Nat)) (P : List (Int × Int)) (src leaf day : Int) : Bool := match getN M (src, leaf) with
 | some i => decide ((P.getD i (0, 0)).1 ≤ day)
 | none => false
set_option maxRecDepth 10000 in
set_option maxHeartbeats 1000000 in
theorem p_backFor (M : List ((Int × Int) × Nat)) (R : List Rcp) (P : List (Int × Int)) (a : Acc) (v : Rv) (leaf day : Int) (w : World) (h : AccR w a M R P) (hws : (Lit.int .i64 v.r.src).wf = true) (hwl : (Lit.int .i64 leaf).wf = true) :
 Calls Tryz.prog 183 #[accV a, rvV v, .int .i64 leaf, .int .i64 day] w fun e w' => e = .returned (.bool (backB M P v.r.src leaf day)) ∧ Below w.heap.size w w' := by
 obtain ⟨⟨pA, pn, pc, rA, rn, rc, tA, tn, tc, sA, sn, sc⟩, kn, RA, Rn, Rc, SA, Sn, Sc, bm, TA, Tn, Tc, PA, Pn, Pc⟩ := a
 obtain ⟨r, A1, n1, c1⟩ := v
 show Calls _ _ #[.agg #[.slice pA pn pc, .slice rA rn rc, .slice tA tn tc, .slice sA sn sc, .int .i64 kn, .slice RA Rn Rc, .slice SA Sn Sc, .map (some bm), .slice TA Tn Tc, .slice PA Pn Pc], .agg #[.int .i64 r.src, .int .i64 r.bor, .int .i64 r.pap, .slice A1 n1 c1, .int .i64 r.day, .int .i64 r.kn, .int .i64 r.un], _, _] _ _
 have HP : Hid (Sq QF 2 w w.heap.size PA Pn P) := by show Sq _ _ _ _ _ _ _; exact h.p
 have hPn : Pn ≤ 100000 := h.nP
 have hM : ∀ i, getN M (r.src, leaf) = some i → i < Pn := fun i hi => h.mP _ i hi
 have hlk := (show MapS w bm (encM M) from h.m).ext (w' := (w.alloc (.cells #[.slice pA pn pc, .slice rA rn rc, .slice tA tn tc, .slice sA sn sc, .int .i64 kn, .slice RA Rn Rc, .slice SA Sn Sc, .map (some bm), .slice TA Tn Tc, .slice PA Pn Pc] 137)).alloc (.cells #[.int .i64 r.src, .int .i64 r.bor, .int .i64 r.pap, .slice A1 n1 c1, .int .i64 r.day, .int .i64 r.kn, .int .i64 r.un] 32)) (by exact bel_) |>.look2 key_slips Tryz.underlying133 (a := (r.src, leaf)) ⟨hws, hwl⟩ (zeroInt2 _)
 rw [getG_enc] at hlk
 clear h hws
 rw [show backB M P (⟨r, A1, n1, c1⟩ : Rv).r.src leaf day = backB M P r.src leaf day from rfl, backB]
 cases hg : getN M (r.src, leaf) with
 | none =>
   rw [hg] at hlk
   simp only [Option.map_none, Option.getD_none, Option.isSome_none] at hlk
   clear hg
   go_enter Tryz.func183, Tryz.ntmps183
   go_wp2
   go_ret
   exact ⟨rfl, by exact bel_⟩
 | some i =>
   have hi := hM i hg
   rw [hg] at hlk
   simp only [Option.map_some, Option.getD_some, Option.isSome_some] at hlk
   clear hg hM
   obtain ⟨b, o, d, rfl, hbb, hd, q0, q1⟩ := HP.out.at_ hi
   have hgd : P.getD i (0, 0) = d := by rw [List.getD_eq_getElem?_getD, hd]; rfl
   simp only [hgd]
   clear hgd hd
   go_enter Tryz.func183, Tryz.ntmps183
   go_wp2
   go_ret
   exact ⟨rfl, by exact bel_⟩
theorem p_backFor_v (M : List ((Int × Int) × Nat)) (R : List Rcp) (P : List (Int × Int)) (a : Acc) (v : Rv) (leaf day : Int) (q : Bool) (w : World) (h : AccR w a M R P) (hws : (Lit.int .i64 v.r.src).wf = true) (hwl : (Lit.int .i64 leaf).wf = true) (hq : backB M P v.r.src leaf day = q) :
 Calls Tryz.prog 183 #[accV a, rvV v, .int .i64 leaf, .int .i64 day] w fun e w' => e = .returned (.bool q) ∧ Below w.heap.size w w' := hq ▸ p_backFor M R P a v leaf day w h hws hwl
def outB (M : List ((Int × Int) × Nat)) (P : List (Int × Int)) (u v : Rcp) (leaf : Int) : Bool := decide (leaf ∈ v.lv) && !backB M P u.src leaf v.day
def dblB (M : List ((Int × Int) × Nat)) (P : List (Int × Int)) (x y : Rcp) : Bool :=
 if x.pap = y.pap then (if y.day < x.day then y.lv.any (outB M P y x) else x.lv.any (outB M P x y)) else false
theorem any_not {l : List Int} {p : Int → Bool} {k : Nat} {x : Int} (hx : l[k]? = some x) (h : p x = true) : l.any p = true := List.any_eq_true.2 ⟨x, List.mem_of_getElem? hx, h⟩
theorem any_take_succ {l : List Int} {k : Nat} {x : Int} {p : Int → Bool} (h : l[k]? = some x) : (l.take (k + 1)).any p = ((l.take k).any p || p x) := by rw [take_snoc_some h, List.any_append]; simp
structure RvIn (w : World) (v : Rv) : Prop where
 i : Is w w.heap.size v.A v.n v.r.lv
 n : v.n ≤ 1000000
 ws : (Lit.int .i64 v.r.src).wf = true
 wl : ∀ x ∈ v.r.lv, (Lit.int .i64 x).wf = true
theorem RvIn.now {w w' : World} {v : Rv} (h : RvIn w v) (hb : Below w.heap.size w w') : RvIn w' v := ⟨h.i.now hb, h.n, h.ws, h.wl⟩
set_option maxRecDepth 10000 in
set_option maxHeartbeats 1000000 in
theorem p_areDouble (M : List ((Int × Int) × Nat)) (R : List Rcp) (P : List (Int × Int)) (a : Acc) (x y : Rv) (w : World) (h : AccR w a M R P) (hx : RvIn w x) (hy : RvIn w y) :
 Calls Tryz.prog 129 #[accV a, rvV x, rvV y] w fun e w' => e = .returned (.bool (dblB M P x.r y.r)) ∧ Below w.heap.size w w' := by
 obtain ⟨⟨pA, pn, pc, rA, rn, rc, tA, tn, tc, sA, sn, sc⟩, kn, RA, Rn, Rc, SA, Sn, Sc, bm, TA, Tn, Tc, PA, Pn, Pc⟩ := a
 have HBF : Hid (∀ (u : Rcp) (A : Option Addr) (n c : Nat) (leaf day : Int) (q : Bool) (W : World), Below w.heap.size w W → (Lit.int .i64 u.src).wf = true → (Lit.int .i64 leaf).wf = true → backB M P u.src leaf day = q → Calls Tryz.prog 183 #[.agg #[.slice pA pn pc, .slice rA rn rc, .slice tA tn tc, .slice sA sn sc, .int .i64 kn, .slice RA Rn Rc, .slice SA Sn Sc, .map (some bm), .slice TA Tn Tc, .slice PA Pn Pc], .agg #[.int .i64 u.src, .int .i64 u.bor, .int .i64 u.pap, .slice A n c, .int .i64 u.day, .int .i64 u.kn, .int .i64 u.un], .int .i64 leaf, .int .i64 day] W fun e w' => e = .returned (.bool q) ∧ Below W.heap.size W w') := by
  show ∀ _, _
  exact fun u A n c leaf day q W hW h1 h2 h3 => p_backFor_v M R P ⟨⟨pA, pn, pc, rA, rn, rc, tA, tn, tc, sA, sn, sc⟩, kn, RA, Rn, Rc, SA, Sn, Sc, bm, TA, Tn, Tc, PA, Pn, Pc⟩ ⟨u, A, n, c⟩ leaf day q W (h.now hW) h1 h2 h3
 obtain ⟨r, A1, n1, c1⟩ := x
 obtain ⟨s, A2, n2, c2⟩ := y
 have HX : Hid (Is w w.heap.size A1 n1 r.lv ∧ n1 ≤ 1000000 ∧ (Lit.int .i64 r.src).wf = true ∧ ∀ x ∈ r.lv, (Lit.int .i64 x).wf = true) := by show _ ∧ _; exact ⟨hx.i, hx.n, hx.ws, hx.wl⟩
 have HY : Hid (Is w w.heap.size A2 n2 s.lv ∧ n2 ≤ 1000000 ∧ (Lit.int .i64 s.src).wf = true ∧ ∀ x ∈ s.lv, (Lit.int .i64 x).wf = true) := by show _ ∧ _; exact ⟨hy.i, hy.n, hy.ws, hy.wl⟩
 clear h hx hy
 show Calls _ _ #[.agg #[.slice pA pn pc, .slice rA rn rc, .slice tA tn tc, .slice sA sn sc, .int .i64 kn, .slice RA Rn Rc, .slice SA Sn Sc, .map (some bm), .slice TA Tn Tc, .slice PA Pn Pc], .agg #[.int .i64 r.src, .int .i64 r.bor, .int .i64 r.pap, .slice A1 n1 c1, .int .i64 r.day, .int .i64 r.kn, .int .i64 r.un], .agg #[.int .i64 s.src, .int .i64 s.bor, .int .i64 s.pap, .slice A2 n2 c2, .int .i64 s.day, .int .i64 s.kn, .int .i64 s.un]] _ _
 obtain ⟨q, hq⟩ : ∃ q, dblB M P (⟨r, A1, n1, c1⟩ : Rv).r (⟨s, A2, n2, c2⟩ : Rv).r = q := ⟨_, rfl⟩
 rw [hq]
 have HQ : Hid (dblB M P r s = q) := by show _ = _; exact hq
 clear hq
 by_cases hp : r.pap = s.pap
 ·have hpd : (r.pap != s.pap) = false := by simpa using hp
  have HPp := Lib.hid hp
  clear hp
  by_cases hd : s.day < r.day
  ·have HQ2 : Hid (s.lv.any (outB M P s r) = q) := by show _ = _; rw [← HQ.out, dblB, if_pos HPp.out, if_pos hd]
   have hnu : n2 ≤ 1000000 := HY.out.2.1
   go_enter Tryz.func129, Tryz.ntmps129
   go_wp2
   go_loopw [24] (fun i wr => ∃ k : Nat, k ≤ n2 ∧ i = .int .i64 k ∧ (s.lv.take k).any (outB M P s r) = false ∧ Below w.heap.size w wr ∧ w.heap.size + 3 ≤ wr.heap.size ∧ BoxA wr w.heap.size 137 #[.slice pA pn pc, .slice rA rn rc, .slice tA tn tc, .slice sA sn sc, .int .i64 kn, .slice RA Rn Rc, .slice SA Sn Sc, .map (some bm), .slice TA Tn Tc, .slice PA Pn Pc] ∧ BoxA wr (w.heap.size + 1) 32 #[.int .i64 s.src, .int .i64 s.bor, .int .i64 s.pap, .slice A2 n2 c2, .int .i64 s.day, .int .i64 s.kn, .int .i64 s.un] ∧ BoxA wr (w.heap.size + 1 + 1) 32 #[.int .i64 r.src, .int .i64 r.bor, .int .i64 r.pap, .slice A1 n1 c1, .int .i64 r.day, .int .i64 r.kn, .int .i64 r.un]) (fun i _ => n2 - (intOf i).toNat)
   case atStart =>
    refine ⟨0, by omega, rfl, rfl, ?_, ?_, ?_, ?_, ?_⟩
    ·exact bel_
    ·simp
    ·exact ((BoxA.new _ _ _).alloc _).alloc _
    ·have h := (BoxA.new (w.alloc (.cells #[.slice pA pn pc, .slice rA rn rc, .slice tA tn tc, .slice sA sn sc, .int .i64 kn, .slice RA Rn Rc, .slice SA Sn Sc, .map (some bm), .slice TA Tn Tc, .slice PA Pn Pc] 137)) 32 #[.int .i64 s.src, .int .i64 s.bor, .int .i64 s.pap, .slice A2 n2 c2, .int .i64 s.day, .int .i64 s.kn, .int .i64 s.un]).alloc (.cells #[.int .i64 r.src, .int .i64 r.bor, .int .i64 r.pap, .slice A1 n1 c1, .int .i64 r.day, .int .i64 r.kn, .int .i64 r.un] 32); simpa using h
    ·have h := BoxA.new ((w.alloc (.cells #[.slice pA pn pc, .slice rA rn rc, .slice tA tn tc, .slice sA sn sc, .int .i64 kn, .slice RA Rn Rc, .slice SA Sn Sc, .map (some bm), .slice TA Tn Tc, .slice PA Pn Pc] 137)).alloc (.cells #[.int .i64 s.src, .int .i64 s.bor, .int .i64 s.pap, .slice A2 n2 c2, .int .i64 s.day, .int .i64 s.kn, .int .i64 s.un] 32)) 32 #[.int .i64 r.src, .int .i64 r.bor, .int .i64 r.pap, .slice A1 n1 c1, .int .i64 r.day, .int .i64 r.kn, .int .i64 r.un]; simpa using h
   case round =>
    obtain ⟨k, hk, rfl, hany, hB, hsz, b0, b1, b2⟩ := hrel
    have HA := Lib.hid hany
    clear hany
    have hs0 := hB.size
    have k0 := b0.cell
    have k1 := b1.cell
    have k2 := b2.cell
    have z0 := b0.lt
    have z1 := b1.lt
    have z2 := b2.lt
    by_cases hlt : k < n2
    ·obtain ⟨b, o, x, rfl, hb, hx, hc0⟩ := (show Is wr w.heap.size A2 n2 s.lv from Is.ext HY.out.1 hB (Nat.le_refl _)).at_ hlt
     have hbr : b < wr.heap.size := by omega
     have hwx := HY.out.2.2.2 x (List.mem_of_getElem? hx)
     have HXk := Lib.hid hx
     clear hx
     have hIv : Is wr wr.heap.size A1 n1 r.lv := (show Is w w.heap.size A1 n1 r.lv from HX.out.1).now hB
     have HIV := Lib.hid hIv
     clear hIv
     cases hd2 : decide (x ∈ r.lv) with
     | false =>
       have HF : Hid ((s.lv.take (k + 1)).any (outB M P s r) = false) := by show _ = _; rw [any_take_succ HXk.out, HA.out, outB, hd2]; rfl
       have HD := Lib.hid hd2
       clear hd2
       have hcon := l_contains r.lv x false A1 n1 c1 wr HX.out.2.1 HIV.out HD.out
       go_wp2_with (go_at_call 72; refine hcon.mono ?_; rintro e w1 ⟨rfl, rfl⟩)
       go_roundw
       case rel => exact ⟨k + 1, by omega, by go_num, HF.out, hB, hsz, b0, b1, b2⟩
       case measure => simp [intOf]; omega
     | true =>
       have HD := Lib.hid hd2
       clear hd2
       have hcon := l_contains r.lv x true A1 n1 c1 wr HX.out.2.1 HIV.out HD.out
       cases hbk : backB M P s.src x r.day with
       | true =>
         have HF : Hid ((s.lv.take (k + 1)).any (outB M P s r) = false) := by show _ = _; rw [any_take_succ HXk.out, HA.out, outB, hbk]; simp
         have hcb := HBF.out s (some ⟨b, o, none⟩) n2 c2 x r.day true wr hB HY.out.2.2.1 hwx hbk
         clear hbk
         go_wp2_with (first | (go_at_call 72; refine hcon.mono ?_; rintro e w1 ⟨rfl, rfl⟩) | (go_at_call 183; refine hcb.mono ?_; rintro e w2 ⟨rfl, hb2⟩))
         go_roundw
         case rel => exact ⟨k + 1, by omega, by go_num, HF.out, Below.then_ hB hb2, Nat.le_trans hsz hb2.size, b0.ext hb2, b1.ext hb2, b2.ext hb2⟩
         case measure => simp [intOf]; omega
       | false =>
         have ho : q = true := by rw [← HQ2.out]; exact any_not HXk.out (by rw [outB, HD.out, hbk]; rfl)
         subst ho
         have hcb := HBF.out s (some ⟨b, o, none⟩) n2 c2 x r.day false wr hB HY.out.2.2.1 hwx hbk
         clear hbk
         go_wp2_with (first | (go_at_call 72; refine hcon.mono ?_; rintro e w1 ⟨rfl, rfl⟩) | (go_at_call 183; refine hcb.mono ?_; rintro e w2 ⟨rfl, hb2⟩))
         go_ret
         exact ⟨rfl, Below.then_ hB hb2⟩
    ·have hkn : Hid (k = n2) := by show _ = _; omega
     have ho : q = false := by
      have := HA.out
      have hl : s.lv.length = n2 := HY.out.1.len
      rw [List.take_of_length_le (by rw [hl, hkn.out]; exact Nat.le_refl _)] at this
      rw [← HQ2.out, this]
     subst ho
     go_wp2
     go_ret
     exact ⟨rfl, hB⟩
  ·have HQ2 : Hid (r.lv.any (outB M P r s) = q) := by show _ = _; rw [← HQ.out, dblB, if_pos HPp.out, if_neg hd]
   have hnu : n1 ≤ 1000000 := HX.out.2.1
   go_enter Tryz.func129, Tryz.ntmps129
   go_wp2
   go_loopw [24] (fun i wr => ∃ k : Nat, k ≤ n1 ∧ i = .int .i64 k ∧ (r.lv.take k).any (outB M P r s) = false ∧ Below w.heap.size w wr ∧ w.heap.size + 3 ≤ wr.heap.size ∧ BoxA wr w.heap.size 137 #[.slice pA pn pc, .slice rA rn rc, .slice tA tn tc, .slice sA sn sc, .int .i64 kn, .slice RA Rn Rc, .slice SA Sn Sc, .map (some bm), .slice TA Tn Tc, .slice PA Pn Pc] ∧ BoxA wr (w.heap.size + 1) 32 #[.int .i64 r.src, .int .i64 r.bor, .int .i64 r.pap, .slice A1 n1 c1, .int .i64 r.day, .int .i64 r.kn, .int .i64 r.un] ∧ BoxA wr (w.heap.size + 1 + 1) 32 #[.int .i64 s.src, .int .i64 s.bor, .int .i64 s.pap, .slice A2 n2 c2, .int .i64 s.day, .int .i64 s.kn, .int .i64 s.un]) (fun i _ => n1 - (intOf i).toNat)
   case atStart =>
    refine ⟨0, by omega, rfl, rfl, ?_, ?_, ?_, ?_, ?_⟩
    ·exact bel_
    ·simp
    ·exact ((BoxA.new _ _ _).alloc _).alloc _
    ·have h := (BoxA.new (w.alloc (.cells #[.slice pA pn pc, .slice rA rn rc, .slice tA tn tc, .slice sA sn sc, .int .i64 kn, .slice RA Rn Rc, .slice SA Sn Sc, .map (some bm), .slice TA Tn Tc, .slice PA Pn Pc] 137)) 32 #[.int .i64 r.src, .int .i64 r.bor, .int .i64 r.pap, .slice A1 n1 c1, .int .i64 r.day, .int .i64 r.kn, .int .i64 r.un]).alloc (.cells #[.int .i64 s.src, .int .i64 s.bor, .int .i64 s.pap, .slice A2 n2 c2, .int .i64 s.day, .int .i64 s.kn, .int .i64 s.un] 32); simpa using h
    ·have h := BoxA.new ((w.alloc (.cells #[.slice pA pn pc, .slice rA rn rc, .slice tA tn tc, .slice sA sn sc, .int .i64 kn, .slice RA Rn Rc, .slice SA Sn Sc, .map (some bm), .slice TA Tn Tc, .slice PA Pn Pc] 137)).alloc (.cells #[.int .i64 r.src, .int .i64 r.bor, .int .i64 r.pap, .slice A1 n1 c1, .int .i64 r.day, .int .i64 r.kn, .int .i64 r.un] 32)) 32 #[.int .i64 s.src, .int .i64 s.bor, .int .i64 s.pap, .slice A2 n2 c2, .int .i64 s.day, .int .i64 s.kn, .int .i64 s.un]; simpa using h
   case round =>
    obtain ⟨k, hk, rfl, hany, hB, hsz, b0, b1, b2⟩ := hrel
    have HA := Lib.hid hany
    clear hany
    have hs0 := hB.size
    have k0 := b0.cell
    have k1 := b1.cell
    have k2 := b2.cell
    have z0 := b0.lt
    have z1 := b1.lt
    have z2 := b2.lt
    by_cases hlt : k < n1
    ·obtain ⟨b, o, x, rfl, hb, hx, hc0⟩ := (show Is wr w.heap.size A1 n1 r.lv from Is.ext HX.out.1 hB (Nat.le_refl _)).at_ hlt
     have hbr : b < wr.heap.size := by omega
     have hwx := HX.out.2.2.2 x (List.mem_of_getElem? hx)
     have HXk := Lib.hid hx
     clear hx
     have hIv : Is wr wr.heap.size A2 n2 s.lv := (show Is w w.heap.size A2 n2 s.lv from HY.out.1).now hB
     have HIV := Lib.hid hIv
     clear hIv
     cases hd2 : decide (x ∈ s.lv) with
     | false =>
       have HF : Hid ((r.lv.take (k + 1)).any (outB M P r s) = false) := by show _ = _; rw [any_take_succ HXk.out, HA.out, outB, hd2]; rfl
       have HD := Lib.hid hd2
       clear hd2
       have hcon := l_contains s.lv x false A2 n2 c2 wr HY.out.2.1 HIV.out HD.out
       go_wp2_with (go_at_call 72; refine hcon.mono ?_; rintro e w1 ⟨rfl, rfl⟩)
       go_roundw
       case rel => exact ⟨k + 1, by omega, by go_num, HF.out, hB, hsz, b0, b1, b2⟩
       case measure => simp [intOf]; omega
     | true =>
       have HD := Lib.hid hd2
       clear hd2
       have hcon := l_contains s.lv x true A2 n2 c2 wr HY.out.2.1 HIV.out HD.out
       cases hbk : backB M P r.src x s.day with
       | true =>
         have HF : Hid ((r.lv.take (k + 1)).any (outB M P r s) = false) := by show _ = _; rw [any_take_succ HXk.out, HA.out, outB, hbk]; simp
         have hcb := HBF.out r (some ⟨b, o, none⟩) n1 c1 x s.day true wr hB HX.out.2.2.1 hwx hbk
         clear hbk
         go_wp2_with (first | (go_at_call 72; refine hcon.mono ?_; rintro e w1 ⟨rfl, rfl⟩) | (go_at_call 183; refine hcb.mono ?_; rintro e w2 ⟨rfl, hb2⟩))
         go_roundw
         case rel => exact ⟨k + 1, by omega, by go_num, HF.out, Below.then_ hB hb2, Nat.le_trans hsz hb2.size, b0.ext hb2, b1.ext hb2, b2.ext hb2⟩
         case measure => simp [intOf]; omega
       | false =>
         have ho : q = true := by rw [← HQ2.out]; exact any_not HXk.out (by rw [outB, HD.out, hbk]; rfl)
         subst ho
         have hcb := HBF.out r (some ⟨b, o, none⟩) n1 c1 x s.day false wr hB HX.out.2.2.1 hwx hbk
         clear hbk
         go_wp2_with (first | (go_at_call 72; refine hcon.mono ?_; rintro e w1 ⟨rfl, rfl⟩) | (go_at_call 183; refine hcb.mono ?_; rintro e w2 ⟨rfl, hb2⟩))
         go_ret
         exact ⟨rfl, Below.then_ hB hb2⟩
    ·have hkn : Hid (k = n1) := by show _ = _; omega
     have ho : q = false := by
      have := HA.out
      have hl : r.lv.length = n1 := HX.out.1.len
      rw [List.take_of_length_le (by rw [hl, hkn.out]; exact Nat.le_refl _)] at this
      rw [← HQ2.out, this]
     subst ho
     go_wp2
     go_ret
     exact ⟨rfl, hB⟩
 ·have hpd : (r.pap != s.pap) = true := by simpa using hp
  have hf : q = false := by rw [← HQ.out, dblB, if_neg hp]
  subst hf
  clear hp
  go_enter Tryz.func129, Tryz.ntmps129
  go_wp2
  go_ret
  exact ⟨rfl, by exact bel_⟩
end Go.Proofs.YtklikciiaogpbaaGreat
/- Layer 2: what open reads out of returns: plain facts. -/
namespace Go.Proofs.YtklikciiaogpbaaGreat
open Go.RowKit Go.Maps
structure Opn where
 M : List ((Int × Int) × Nat)
 T : List Bool
 P : List (Int × Int)
def hiStep (d h : Int) (x : Rcp) : Int := if d < x.day then min h x.day else h
def hiL (d h : Int) (xs : List Rcp) : Int := xs.foldl (hiStep d) h
theorem hiL_snoc (d h : Int) (xs : List Rcp) (x : Rcp) : hiL d h (xs ++ [x]) = hiStep d (hiL d h xs) x := by simp [hiL]
def hiK (R : List Rcp) (r : Rcp) (h : Int) (l : List Int) : Int := l.foldl (fun h x => hiL r.day h (R.filter (isOfB r.pap x))) h
theorem hiK_succ {R : List Rcp} {r : Rcp} {h : Int} {l : List Int} {k : Nat} {x : Int} (hx : l[k]? = some x) : hiK R r h (l.take (k + 1)) = hiL r.day (hiK R r h (l.take k)) (R.filter (isOfB r.pap x)) := by
 rw [take_snoc_some hx, hiK, List.foldl_append]; rfl
def putK (M : List ((Int × Int) × Nat)) (src : Int) (i : Nat) (l : List Int) : List ((Int × Int) × Nat) := l.foldl (fun M x => putN M (src, x) i) M
theorem putK_succ {M : List ((Int × Int) × Nat)} {src : Int} {i : Nat} {l : List Int} {k : Nat} {x : Int} (hx : l[k]? = some x) : putK M src i (l.take (k + 1)) = putN (putK M src i (l.take k)) (src, x) i := by
 rw [take_snoc_some hx, putK, List.foldl_append]; rfl
theorem getN_putK {M : List ((Int × Int) × Nat)} {src : Int} {i : Nat} {l : List Int} {k : Int × Int} {j : Nat} (h : getN (putK M src i l) k = some j) : j = i ∨ getN M k = some j := by
 induction l generalizing M with
 | nil => exact .inr h
 | cons x l ih =>
   rcases ih (M := putN M (src, x) i) h with h | h
   ·exact .inl h
   ·rw [getN_put] at h
    split at h
    ·exact .inl (Option.some.inj h).symm
    ·exact .inr h
def readR (kn : Int) (R : List Rcp) (M : List ((Int × Int) × Nat)) (t : Rtn) : Option Rcp := match findR R t.rcp with
 | none => none
 | some r => if (countsB t.kn t.un kn && (takesB (encM M) r t.lv && !decide (t.hi < max t.lo (r.day + 1)))) = true then some r else none
def readS (kn : Int) (R : List Rcp) (s : Opn) (i : Nat) (t : Rtn) : Opn := match readR kn R s.M t with
 | none => ⟨s.M, s.T, s.P.set i (0, 100000)⟩
 | some r => ⟨putK s.M r.src i t.lv, s.T.set i true, (s.P.set i (0, 100000)).set i (max t.lo (r.day + 1), hiK R r t.hi t.lv)⟩
theorem read_len (kn : Int) (R : List Rcp) (s : Opn) (i : Nat) (t : Rtn) : (readS kn R s i t).T.length = s.T.length ∧ (readS kn R s i t).P.length = s.P.length := by
 unfold readS
 split <;> simp
theorem read_M {kn : Int} {R : List Rcp} {s : Opn} {i : Nat} {t : Rtn} {k : Int × Int} {j : Nat} (h : getN (readS kn R s i t).M k = some j) : j = i ∨ getN s.M k = some j := by
 unfold readS at h
 split at h
 ·exact .inr h
 ·exact getN_putK h
theorem findR_mem {R : List Rcp} {n : Int} {r : Rcp} (h : findR R n = some r) : r ∈ R ∧ r.src = n := by
 refine ⟨List.mem_of_find?_eq_some h, ?_⟩
 have := List.find?_some h
 simpa using this
def opnK (kn : Int) (R : List Rcp) (rt : List Rtn) (n : Nat) (k : Nat) : Opn := (List.range k).foldl (fun s i => match rt[i]? with | some t => readS kn R s i t | none => s) ⟨[], List.replicate n false, List.replicate n (0, 0)⟩
theorem opnK_succ {kn : Int} {R : List Rcp} {rt : List Rtn} {n k : Nat} {t : Rtn} (h : rt[k]? = some t) : opnK kn R rt n (k + 1) = readS kn R (opnK kn R rt n k) k t := by
 rw [opnK, List.range_succ, List.foldl_append]
 simp only [List.foldl_cons, List.foldl_nil, h]
 rfl
theorem opnK_zero (kn : Int) (R : List Rcp) (rt : List Rtn) (n : Nat) : opnK kn R rt n 0 = ⟨[], List.replicate n false, List.replicate n (0, 0)⟩ := rfl
theorem opnK_len (kn : Int) (R : List Rcp) (rt : List Rtn) (n : Nat) : ∀ k, (opnK kn R rt n k).T.length = n ∧ (opnK kn R rt n k).P.length = n
 | 0 => by simp [opnK_zero]
 | k + 1 => by
   cases h : rt[k]? with
   | none =>
     have e : opnK kn R rt n (k + 1) = opnK kn R rt n k := by
      rw [opnK, List.range_succ, List.foldl_append]
      simp only [List.foldl_cons, List.foldl_nil, h]
      rfl
     rw [e]
     exact opnK_len kn R rt n k
   | some t =>
     rw [opnK_succ h]
     have h1 := read_len kn R (opnK kn R rt n k) k t
     have h2 := opnK_len kn R rt n k
     exact ⟨h1.1.trans h2.1, h1.2.trans h2.2⟩
theorem opnK_M (kn : Int) (R : List Rcp) (rt : List Rtn) (n : Nat) : ∀ (m : Nat) (k : Int × Int) (j : Nat), getN (opnK kn R rt n m).M k = some j → j < m
 | 0, k, j, h => by simp [opnK_zero, getN] at h
 | m + 1, k, j, h => by
   cases ht : rt[m]? with
   | none =>
     have e : opnK kn R rt n (m + 1) = opnK kn R rt n m := by
      rw [opnK, List.range_succ, List.foldl_append]
      simp only [List.foldl_cons, List.foldl_nil, ht]
      rfl
     rw [e] at h
     exact Nat.lt_succ_of_lt (opnK_M kn R rt n m k j h)
   | some t =>
     rw [opnK_succ ht] at h
     rcases read_M h with h | h
     ·omega
     ·exact Nat.lt_succ_of_lt (opnK_M kn R rt n m k j h)
def cntR (l : Led) (kn : Int) : List Rcp := l.rc.filter fun r => countsB r.kn r.un kn
def cntS (l : Led) (kn : Int) : List Sgt := l.sg.filter fun s => countsB s.kn s.un kn
def opnL (l : Led) (kn : Int) : Opn := opnK kn (cntR l kn) l.rt l.rt.length l.rt.length
theorem BoxA.setF {W : World} {B : Nat} {t : TypeId} {P : List (Int × Int)} (h : BoxA W B t (folCells P).toArray) (i : Nat) (d : Int × Int) :
 BoxA ((W.setCell ⟨B, i * 2, none⟩ (.int .i64 d.1)).setCell ⟨B, i * 2 + 1, none⟩ (.int .i64 d.2)) B t (folCells (P.set i d)).toArray := by
 have := (h.set (i * 2) (.int .i64 d.1)).set (i * 2 + 1) (.int .i64 d.2)
 rw [← folCells_set P i d]
 simpa using this
def boolL (T : List Bool) : List Value := T.map fun b => .bool b
theorem BoxA.setT {W : World} {B : Nat} {t : TypeId} {T : List Bool} (h : BoxA W B t (boolL T).toArray) (i : Nat) (b : Bool) : BoxA (W.setCell ⟨B, i, none⟩ (.bool b)) B t (boolL (T.set i b)).toArray := by
 have := h.set i (.bool b)
 simpa [boolL, List.map_set] using this
theorem BoxA.sqF {W : World} {B B' : Nat} {t : TypeId} {P : List (Int × Int)} {n : Nat} (h : BoxA W B t (folCells P).toArray) (hn : P.length = n) (hB : B < B') : Sq QF 2 W B' (some ⟨B, 0, none⟩) n P := by
 refine ⟨hn, fun _ => ⟨B, 0, rfl, hB, fun k f hf => ?_⟩⟩
 obtain ⟨h1, h2⟩ := folCells_get P k f hf
 exact ⟨by rw [h.cell]; simpa using h1, by rw [h.cell, ← h2]; simp⟩
theorem BoxA.sqT {W : World} {B B' : Nat} {t : TypeId} {T : List Bool} {n : Nat} (h : BoxA W B t (boolL T).toArray) (hn : T.length = n) (hB : B < B') : Sq QB 1 W B' (some ⟨B, 0, none⟩) n T := by
 refine ⟨hn, fun _ => ⟨B, 0, rfl, hB, fun k f hf => ?_⟩⟩
 show World.cell? _ _ = _
 rw [h.cell]
 simp [boolL, hf]
theorem flat_get {α : Type} (f : α → List Value) (s : Nat) (hs : ∀ x, (f x).length = s) : ∀ (xs : List α) (k j : Nat) (x : α), xs[k]? = some x → j < s → (xs.flatMap f)[k * s + j]? = (f x)[j]?
 | [], k, j, x, h, _ => by simp at h
 | y :: xs, 0, j, x, h, hj => by
   simp at h
   subst h
   rw [List.flatMap_cons, Nat.zero_mul, Nat.zero_add, List.getElem?_append_left (by rw [hs]; exact hj)]
 | y :: xs, k + 1, j, x, h, hj => by
   rw [List.flatMap_cons, List.getElem?_append_right (by rw [hs, Nat.succ_mul]; omega), hs, ← flat_get f s hs xs k j x (by simpa using h) hj]
   congr 1
   rw [Nat.succ_mul]
   omega
theorem flat_len {α : Type} (f : α → List Value) (s : Nat) (hs : ∀ x, (f x).length = s) (xs : List α) : (xs.flatMap f).length = xs.length * s := by
 induction xs with
 | nil => simp
 | cons x xs ih => rw [List.flatMap_cons, List.length_append, hs, ih, List.length_cons, Nat.succ_mul]; omega
abbrev rvC (v : Rv) : List Value := [.int .i64 v.r.src, .int .i64 v.r.bor, .int .i64 v.r.pap, .slice v.A v.n v.c, .int .i64 v.r.day, .int .i64 v.r.kn, .int .i64 v.r.un]
def rvCells (xs : List Rv) : List Value := xs.flatMap rvC
theorem sq_rv {w : World} {B n : Nat} {A : Option Addr} {xs : List Rv} (h : Rd w B 7 A n (rvCells xs)) (hn : xs.length = n) (hv : ∀ v ∈ xs, Is w B v.A v.n v.r.lv ∧ v.n ≤ v.c ∧ v.c ≤ maxLen) : Sq QV 7 w B A n xs := by
 refine ⟨hn, fun h0 => ?_⟩
 obtain ⟨b, o, e, hb, hc⟩ := h.2 h0
 refine ⟨b, o, e, hb, fun k v hk => ⟨?_, hv v (List.mem_of_getElem? hk)⟩⟩
 have g : ∀ j u, j < 7 → (rvC v)[j]? = some u → w.cell? ⟨b, o + k * 7 + j, none⟩ = some u := fun j u hj hu => by
  have := hc (k * 7 + j) u (by rw [← hu]; exact flat_get rvC 7 (fun _ => rfl) xs k j v hk hj)
  rwa [← Nat.add_assoc] at this
 exact ⟨g 0 _ (by omega) rfl, g 1 _ (by omega) rfl, g 2 _ (by omega) rfl, g 3 _ (by omega) rfl, g 4 _ (by omega) rfl, g 5 _ (by omega) rfl, g 6 _ (by omega) rfl⟩
theorem sq_sg {w : World} {B n : Nat} {A : Option Addr} {xs : List Sgt} (h : Rd w B 7 A n (sgCells xs)) (hn : xs.length = n) : Sgs w B A n xs := by
 refine ⟨hn, fun h0 => ?_⟩
 obtain ⟨b, o, e, hb, hc⟩ := h.2 h0
 refine ⟨b, o, e, hb, fun k v hk => ?_⟩
 have g : ∀ j u, j < 7 → ([.int .i64 v.src, .int .i64 v.per, .int .i64 v.pap, .int .i64 v.leaf, .int .i64 v.day, .int .i64 v.kn, .int .i64 v.un] : List Value)[j]? = some u → w.cell? ⟨b, o + k * 7 + j, none⟩ = some u := fun j u hj hu => by
  have := hc (k * 7 + j) u (by rw [← hu]; exact flat_get (fun s : Sgt => [.int .i64 s.src, .int .i64 s.per, .int .i64 s.pap, .int .i64 s.leaf, .int .i64 s.day, .int .i64 s.kn, .int .i64 s.un]) 7 (fun _ => rfl) xs k j v hk hj)
  rwa [← Nat.add_assoc] at this
 exact ⟨g 0 _ (by omega) rfl, g 1 _ (by omega) rfl, g 2 _ (by omega) rfl, g 3 _ (by omega) rfl, g 4 _ (by omega) rfl, g 5 _ (by omega) rfl, g 6 _ (by omega) rfl⟩
end Go.Proofs.YtklikciiaogpbaaGreat
