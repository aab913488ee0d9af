/- Layer 2 of the texts that LoanChecks takes: Vbeq. -/
import Derived.Test.YtklikciiaogpbaaGreatVbdq
set_option linter.unusedVariables false
set_option linter.unusedSimpArgs false
/- Layer 2: a valid receipt's leaves are folios just where its last one is. -/
namespace Go.Proofs.YtklikciiaogpbaaGreat
open Go.RowKit
theorem val_rise {l : List Int} {ok : Int → Bool} {most : Nat} (h : valB id ok most l = true) : ∀ (j : Nat) (h1 : j + 1 < l.length), l[j] < l[j + 1] := fun j h1 => by
 rw [valB, Bool.and_eq_true] at h
 have h2 := List.all_eq_true.1 h.2 (j + 1) (List.mem_range.2 h1)
 have e1 : l[j + 1]? = some l[j + 1] := List.getElem?_eq_getElem h1
 have e2 : l[j]? = some (l[j]'(by omega)) := List.getElem?_eq_getElem (by omega)
 simp only [valAt, e1, e2, id, Bool.and_eq_true, decide_eq_true_eq] at h2
 exact h2.2
theorem rise_le {l : List Int} (h : ∀ (j : Nat) (h1 : j + 1 < l.length), l[j] < l[j + 1]) : ∀ (d i : Nat) (hi : i + d < l.length), l[i]'(by omega) ≤ l[i + d]
 | 0, i, hi => by simp
 | d + 1, i, hi => by
   have h1 := rise_le h d i (by omega)
   have h2 := h (i + d) (by omega)
   have e : i + (d + 1) = i + d + 1 := by omega
   simp only [e]
   omega
def Rcp.last (r : Rcp) : Int := r.lv.getD (r.lv.length - 1) 0
theorem fol_last {r : Rcp} (pp : List Ppr) (h : r.okB = true) : (rcFol r).all (fun f => folB pp f.1 f.2) = folB pp r.pap r.last := by
 have h1 := h
 simp only [Rcp.okB, Bool.and_eq_true] at h1
 have hl := h1.2.2.2.1
 rw [leavesB, Bool.and_eq_true, decide_eq_true_eq] at hl
 obtain ⟨h0, hv⟩ := hl
 have hr := val_rise hv
 have ho := val_all hv
 have hlast : r.last = r.lv[r.lv.length - 1]'(by omega) := by
  rw [Rcp.last, List.getD_eq_getElem?_getD, List.getElem?_eq_getElem (by omega)]; rfl
 rw [rcFol, List.all_map, Bool.eq_iff_iff, List.all_eq_true]
 constructor
 ·intro ha
  have := ha r.last (by rw [hlast]; exact List.getElem_mem _)
  simpa using this
 ·intro hf y hy
  obtain ⟨i, hi, rfl⟩ := List.getElem_of_mem hy
  have h2 := rise_le hr (r.lv.length - 1 - i) i (by omega)
  have e : i + (r.lv.length - 1 - i) = r.lv.length - 1 := by omega
  simp only [e] at h2
  have h3 := ho _ (List.getElem_mem hi)
  simp only [folB, withinB, leafB, Function.comp, Bool.and_eq_true, decide_eq_true_eq] at hf h3 ⊢
  rw [hlast] at hf
  omega
def rcOk (pp : List Ppr) (r : Rcp) : Bool := r.okB && folB pp r.pap r.last
def sgOk (pp : List Ppr) (s : Sgt) : Bool := s.okB && folB pp s.pap s.leaf
theorem val_ext {α : Type} {num : α → Int} {ok ok' : α → Bool} {l : List α} (h : ∀ x ∈ l, ok x = ok' x) (most : Nat) : valB num ok most l = valB num ok' most l := by
 have h1 : ∀ k, valAt num ok l k = valAt num ok' l k := fun k => by
  cases k with
  | zero =>
    cases h0 : l[0]? with
    | none => simp [valAt, h0]
    | some x => simp [valAt, h0, h x (List.mem_of_getElem? h0)]
  | succ j =>
    cases h0 : l[j + 1]? with
    | none => simp [valAt, h0]
    | some x =>
      cases h2 : l[j]? with
      | none => simp [valAt, h0, h2]
      | some y => simp [valAt, h0, h2, h x (List.mem_of_getElem? h0)]
 rw [valB, valB, funext h1]
theorem val_and {α : Type} {num : α → Int} {ok q : α → Bool} {l : List α} (most : Nat) : valB num (fun x => ok x && q x) most l = (valB num ok most l && l.all q) := by
 by_cases hq : l.all q = true
 ·rw [hq, Bool.and_true]
  exact val_ext (fun x hx => by simp [List.all_eq_true.1 hq x hx]) most
 ·have hf : l.all q = false := by simpa using hq
  rw [hf, Bool.and_false, Bool.eq_false_iff]
  intro h
  refine hq (List.all_eq_true.2 fun x hx => ?_)
  have := val_all h x hx
  simp only [Bool.and_eq_true] at this
  exact this.2
theorem ledB_ref (l : Led) : ledB l = (valB Ppr.id Ppr.okB 12 l.pp && (valB Rcp.src (rcOk l.pp) 60 l.rc && (valB Rtn.src Rtn.okB 60 l.rt && (valB Sgt.src (sgOk l.pp) 60 l.sg && decide (srcL l).Nodup)))) := by
 have e1 : valB Rcp.src (rcOk l.pp) 60 l.rc = (valB Rcp.src Rcp.okB 60 l.rc && l.rc.all fun r => folB l.pp r.pap r.last) := val_and 60
 have e2 : valB Sgt.src (sgOk l.pp) 60 l.sg = (valB Sgt.src Sgt.okB 60 l.sg && l.sg.all fun s => folB l.pp s.pap s.leaf) := val_and 60
 have e3 : folsB l.pp (namL l) = ((l.rc.all fun r => (rcFol r).all fun f => folB l.pp f.1 f.2) && l.sg.all fun s => folB l.pp s.pap s.leaf) := by
  rw [folsB, namL, List.all_append, List.all_flatMap, List.all_map]
  rfl
 rw [ledB, e1, e2, e3]
 by_cases hr : valB Rcp.src Rcp.okB 60 l.rc = true
 ·have h4 : (l.rc.all fun r => (rcFol r).all fun f => folB l.pp f.1 f.2) = l.rc.all fun r => folB l.pp r.pap r.last := by
   rw [Bool.eq_iff_iff, List.all_eq_true, List.all_eq_true]
   exact ⟨fun h r hr' => by rw [← fol_last l.pp (val_all hr r hr')]; exact h r hr', fun h r hr' => by rw [fol_last l.pp (val_all hr r hr')]; exact h r hr'⟩
  rw [h4]
  cases valB Ppr.id Ppr.okB 12 l.pp <;> cases valB Rcp.src Rcp.okB 60 l.rc <;> cases valB Rtn.src Rtn.okB 60 l.rt <;> cases valB Sgt.src Sgt.okB 60 l.sg <;> cases decide (srcL l).Nodup <;> simp
 ·have hf : valB Rcp.src Rcp.okB 60 l.rc = false := by simpa using hr
  rw [hf]
  simp
end Go.Proofs.YtklikciiaogpbaaGreat
/- Layer 2: one sight more: plain facts. -/
namespace Go.Proofs.YtklikciiaogpbaaGreat
open Go.RowKit Go.Maps
def sgIx (S : List Sgt) (n : Int) : Nat := S.findIdx fun x => decide (n ≤ x.src)
def SrtS (S : List Sgt) : Prop := ∀ (i j : Nat) (a b : Sgt), i ≤ j → S[i]? = some a → S[j]? = some b → a.src ≤ b.src
theorem sgIx_of {S : List Sgt} {n : Int} {i : Nat} (hi : i ≤ S.length) (h1 : ∀ (j : Nat) (a : Sgt), j < i → S[j]? = some a → a.src < n) (h2 : ∀ (j : Nat) (a : Sgt), i ≤ j → S[j]? = some a → n ≤ a.src) : sgIx S n = i := by
 unfold sgIx
 rcases Nat.lt_or_ge i S.length with h | h
 ·rw [List.findIdx_eq h]
  refine ⟨by simpa using h2 i S[i] (Nat.le_refl _) (List.getElem?_eq_getElem h), fun j hj => ?_⟩
  have h3 := h1 j S[j] hj (List.getElem?_eq_getElem (by omega))
  simpa using h3
 ·have e : i = S.length := by omega
  subst e
  rw [List.findIdx_eq_length]
  intro x hx
  obtain ⟨k, hk⟩ := List.getElem?_of_mem hx
  have h3 := h1 k x (List.getElem?_eq_some_iff.1 hk).1 hk
  simpa using h3
theorem sgIx_le (S : List Sgt) (n : Int) : sgIx S n ≤ S.length := List.findIdx_le_length
def seenE (l : Led) (s : Sgt) : Int := if ledB l = true then (if (s.okB && (folB l.pp s.pap s.leaf && !decide (s.src ∈ srcL l))) = true then (if l.sg.length = 60 then 2 else 0) else 23) else 24
def sgIns (S : List Sgt) (s : Sgt) : List Sgt := S.take (sgIx S s.src) ++ s :: S.drop (sgIx S s.src)
def seenL (l : Led) (s : Sgt) : Led := if seenE l s = 0 then { l with sg := sgIns l.sg s } else ⟨[], [], [], []⟩
theorem srtS_of {l : Led} (h : ledB l = true) : SrtS l.sg := by
 rw [ledB_ref] at h
 simp only [Bool.and_eq_true] at h
 have h1 := h.2.2.2.1
 have hr : ∀ (j : Nat) (h1 : j + 1 < (l.sg.map Sgt.src).length), (l.sg.map Sgt.src)[j] < (l.sg.map Sgt.src)[j + 1] := fun j hj => by
  rw [valB, Bool.and_eq_true] at h1
  rw [List.length_map] at hj
  have h2 := List.all_eq_true.1 h1.2 (j + 1) (List.mem_range.2 hj)
  have e1 : l.sg[j + 1]? = some l.sg[j + 1] := List.getElem?_eq_getElem hj
  have e2 : l.sg[j]? = some (l.sg[j]'(by omega)) := List.getElem?_eq_getElem (by omega)
  simp only [valAt, e1, e2, Bool.and_eq_true, decide_eq_true_eq] at h2
  simpa using h2.2
 intro i j a b hij ha hb
 obtain ⟨hi, rfl⟩ := List.getElem?_eq_some_iff.1 ha
 obtain ⟨hj, rfl⟩ := List.getElem?_eq_some_iff.1 hb
 have h3 := rise_le hr (j - i) i (by rw [List.length_map]; omega)
 simpa [show i + (j - i) = j from by omega] using h3
def insK (S : List Sgt) (s : Sgt) : Nat → List Sgt × Bool
 | 0 => ([], false)
 | k + 1 => match S[k]? with
   | none => insK S s k
   | some x => if (insK S s k).2 = false ∧ s.src < x.src then ((insK S s k).1 ++ [s] ++ [x], true) else ((insK S s k).1 ++ [x], (insK S s k).2)
theorem insK_spec (S : List Sgt) (s : Sgt) (hs : s.src ∉ S.map Sgt.src) : ∀ k, k ≤ S.length → insK S s k = if k ≤ sgIx S s.src then (S.take k, false) else (S.take (sgIx S s.src) ++ s :: (S.drop (sgIx S s.src)).take (k - sgIx S s.src), true)
 | 0, _ => by simp [insK]
 | k + 1, hk => by
   have ih := insK_spec S s hs k (by omega)
   have hx : S[k]? = some S[k] := List.getElem?_eq_getElem (by omega)
   have hne : S[k].src ≠ s.src := fun e => hs (List.mem_map.2 ⟨S[k], List.getElem_mem _, e⟩)
   rcases Nat.lt_trichotomy k (sgIx S s.src) with h | h | h
   ·have hp : ¬ (s.src < S[k].src) := by
     have := List.not_of_lt_findIdx (p := fun x : Sgt => decide (s.src ≤ x.src)) (xs := S) h
     have h3 : ¬ (s.src ≤ S[k].src) := by simpa using this
     omega
    rw [if_pos (Nat.le_of_lt h)] at ih
    rw [insK, hx, ih]
    simp only [hp, and_false, if_false]
    rw [if_pos (show k + 1 ≤ sgIx S s.src from h), take_snoc_some hx]
   ·have hp : s.src < S[k].src := by
     have h1 := List.findIdx_getElem (p := fun x : Sgt => decide (s.src ≤ x.src)) (xs := S) (w := by rw [show List.findIdx (fun x : Sgt => decide (s.src ≤ x.src)) S = k from h.symm]; exact hk)
     have h2 : S[List.findIdx (fun x : Sgt => decide (s.src ≤ x.src)) S]? = some S[k] := by rw [show List.findIdx (fun x : Sgt => decide (s.src ≤ x.src)) S = k from h.symm]; exact hx
     have h3 := (List.getElem?_eq_some_iff.1 h2).2
     have h4 : s.src ≤ S[k].src := by rw [h3] at h1; simpa using h1
     omega
    rw [if_pos (Nat.le_of_eq h)] at ih
    rw [insK, hx, ih]
    simp only [hp, and_self, if_true]
    rw [if_neg (show ¬ (k + 1 ≤ sgIx S s.src) by omega), ← h]
    have e1 : k + 1 - k = 0 + 1 := by omega
    have hd : (S.drop k)[0]? = some S[k] := by rw [List.getElem?_drop]; exact hx
    rw [e1, take_snoc_some hd]
    simp
   ·have e1 : k + 1 - sgIx S s.src = (k - sgIx S s.src) + 1 := by omega
    have hd : (S.drop (sgIx S s.src))[k - sgIx S s.src]? = some S[k] := by
     rw [List.getElem?_drop, show sgIx S s.src + (k - sgIx S s.src) = k from by omega]
     exact hx
    rw [if_neg (show ¬ (k ≤ sgIx S s.src) by omega)] at ih
    rw [insK, hx, ih]
    simp only [Bool.true_eq_false, false_and, if_false]
    rw [if_neg (show ¬ (k + 1 ≤ sgIx S s.src) by omega), e1, take_snoc_some hd]
    simp
theorem insK_end (S : List Sgt) (s : Sgt) (hs : s.src ∉ S.map Sgt.src) : (if (insK S s S.length).2 = true then (insK S s S.length).1 else (insK S s S.length).1 ++ [s]) = sgIns S s := by
 rw [insK_spec S s hs _ (Nat.le_refl _)]
 have hle := sgIx_le S s.src
 by_cases h : S.length ≤ sgIx S s.src
 ·have e : sgIx S s.src = S.length := by omega
  rw [if_pos h, sgIns, e]
  simp
 ·rw [if_neg h]
  simp only [if_true, sgIns]
  rw [List.take_of_length_le (l := S.drop (sgIx S s.src)) (by rw [List.length_drop]; omega)]
end Go.Proofs.YtklikciiaogpbaaGreat
/- Layer 2: the place of a source among sights. -/
namespace Go.Proofs.YtklikciiaogpbaaGreat
open Go.RowKit Go.Maps
set_option maxHeartbeats 1000000 in
theorem p_seen1 (s : Sgt) (n : Int) (w : World) :
 Calls Tryz.prog 76 #[.agg (sgC s).toArray, .int .i64 n] w fun e w' => e = .returned (.int .i64 (cmpI s.src n)) ∧ Below w.heap.size w w' := by
 go_enter Tryz.func76, Tryz.ntmps76
 go_wp2_with (go_at_call 77; refine (l_compare _ _ _).mono ?_; rintro e w1 ⟨rfl, rfl⟩)
 go_ret
 exact ⟨rfl, by exact bel_⟩
set_option maxRecDepth 10000 in
set_option maxHeartbeats 4000000 in
theorem p_bsf (S : List Sgt) (t : Int) (A : Option Addr) (n c : Nat) (w : World) (hn : n ≤ 1000000) (hs : SrtS S) (h : Sgs w w.heap.size A n S) :
 Calls Tryz.prog 75 #[.slice A n c, .int .i64 t, .func (.func 76) #[] #[]] w fun e w' => ∃ q, e = .returned (.tuple #[.int .i64 (sgIx S t), .bool q]) ∧ Below w.heap.size w w' := by
 have HI := Lib.hid h
 have HS := Lib.hid hs
 have HL := Lib.hid h.len
 clear h hs
 go_enter Tryz.func75, Tryz.ntmps75
 go_wp2
 go_loopw [9, 10] (fun p q wr => ∃ i j : Nat, i ≤ j ∧ j ≤ n ∧ p = .int .i64 i ∧ q = .int .i64 j ∧ (∀ (k : Nat) (a : Sgt), k < i → S[k]? = some a → a.src < t) ∧ (∀ (k : Nat) (a : Sgt), j ≤ k → S[k]? = some a → t ≤ a.src) ∧ Below w.heap.size w wr) (fun p q _ => (intOf q - intOf p).toNat)
 case atStart => exact ⟨0, n, by omega, by omega, rfl, rfl, fun k a h => absurd h (by omega), fun k a h h2 => (by rw [List.getElem?_eq_none (by rw [HL.out]; exact h)] at h2; cases h2), Below.refl _ _⟩
 case round =>
  obtain ⟨i, j, hij, hj, rfl, rfl, hlo, hhi, hB⟩ := hrel
  have HLO := Lib.hid hlo
  have HHI := Lib.hid hhi
  have hs0 : w.heap.size ≤ wr.heap.size := hB.size
  clear hlo hhi
  by_cases hlt : i < j
  ·obtain ⟨b, o, x, rfl, hb, hx, a0, a1, a2, a3, a4, a5, a6⟩ := (Sq.ext HI.out abS hB (Nat.le_refl _)).at_ (k := (i + j) / 2) (by omega)
   have HX := Lib.hid hx
   have hbr : b < wr.heap.size := by omega
   clear hx
   by_cases hxt : x.src < t
   ·have hq : Hid (cmpI x.src t < 0) := by show _ < _; unfold cmpI; first | (rw [if_pos hxt]; decide) | (simp [hxt])
    obtain ⟨q, hqe⟩ : ∃ q, cmpI x.src t = q := ⟨_, rfl⟩
    rw [hqe] at hq
    have hql : q < 0 := hq.out
    have HQE := Lib.hid hqe
    clear hqe hq
    go_wp2_with (go_at_call 76; refine (p_seen1 x t _).mono ?_; rintro e w1 ⟨rfl, hb1⟩; rw [HQE.out])
    exact ⟨⟨(i + j) / 2 + 1, j, by omega, hj, by go_num, rfl, fun k a hk hka => (by have := HS.out k ((i + j) / 2) a x (by omega) hka HX.out; omega), HHI.out, Below.then_ hB hb1⟩, by simp [intOf]; omega⟩
   ·have hq : Hid (¬ cmpI x.src t < 0) := by show ¬ _ < _; unfold cmpI; rw [if_neg hxt]; split <;> decide
    obtain ⟨q, hqe⟩ : ∃ q, cmpI x.src t = q := ⟨_, rfl⟩
    rw [hqe] at hq
    have hql : ¬ q < 0 := hq.out
    have HQE := Lib.hid hqe
    clear hqe hq
    go_wp2_with (go_at_call 76; refine (p_seen1 x t _).mono ?_; rintro e w1 ⟨rfl, hb1⟩; rw [HQE.out])
    exact ⟨⟨i, (i + j) / 2, by omega, by omega, rfl, by go_num, HLO.out, fun k a hk hka => (by have := HS.out ((i + j) / 2) k x a hk HX.out hka; omega), Below.then_ hB hb1⟩, by simp [intOf]; omega⟩
  ·obtain rfl : i = j := by omega
   have HRES : Hid (sgIx S t = i) := by show _ = _; exact sgIx_of (by rw [HL.out]; exact hj) HLO.out HHI.out
   by_cases hn2 : i < n
   ·obtain ⟨b, o, x, rfl, hb, hx, a0, a1, a2, a3, a4, a5, a6⟩ := (Sq.ext HI.out abS hB (Nat.le_refl _)).at_ (k := i) hn2
    have hbr : b < wr.heap.size := by omega
    clear hx
    obtain ⟨q, hqe⟩ : ∃ q, cmpI x.src t = q := ⟨_, rfl⟩
    have HQE := Lib.hid hqe
    clear hqe
    go_wp2_with (go_at_call 76; refine (p_seen1 x t _).mono ?_; rintro e w1 ⟨rfl, hb1⟩; rw [HQE.out])
    go_ret2
    rw [HRES.out]
    exact ⟨_, rfl, Below.then_ hB hb1⟩
   ·go_wp2
    go_ret2
    rw [HRES.out]
    exact ⟨_, rfl, hB⟩
end Go.Proofs.YtklikciiaogpbaaGreat
