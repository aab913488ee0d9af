import Derived.Test.YtaomfjgleddpdaaGreatA3
import Derived.Test.YtaomfjgleddpdaaGreatQ2
set_option linter.unusedVariables false
set_option linter.unusedSimpArgs false

/- A region that draws its order, whose operations read and call, and whose last one (or two) wait for all others: one walk of the others in the order of the text, then the last ones. -/
namespace Go.Proofs.YtaomfjgleddpdaaGreat
open Go.RowKit

def sinkR (R : Act → World → Prop) (Q : Exit → Act → World → Prop) : Exit → Act → World → Prop
  | .normal, a, w => R a w
  | e, a, w => Q e a w
def depsOf (x : Oper) : List Nat := (x.after.toList.filter fun e => Region.binds .any e).map (·.on)
/-- What some of the operations wait for, and these. -/
def nextS (L : Array Oper) (s : List Nat) : List Nat := (List.range L.size).filter fun i => s.contains i || s.any fun j => match L[j]? with
  | some x => (depsOf x).contains i
  | none => false
def closS (L : Array Oper) : Nat → List Nat → List Nat
  | 0, s => s
  | n + 1, s => closS L n (nextS L s)
/-- No guard; it waits for all of the others, if not at once; none of the others looks at it, or at one behind itself. -/
def sinkC (L : Array Oper) (o : Oper) (n : Nat) : Bool :=
  o.guard.isNone && (List.range L.size).all (fun i => (closS L n (depsOf o)).contains i) &&
  (List.range L.size).all fun i => match L[i]? with
    | none => true
    | some x => x.after.all (fun e => decide (e.on < i)) && (match x.guard with | none => true | some (g, _) => decide (g < L.size))

section
variable {P : Program} {L : Array Oper} {o : Oper} {Q : Exit → Act → World → Prop} {R : Act → World → Prop}

theorem sinkC_spec {n : Nat} (h : sinkC L o n = true) : o.guard = none ∧ (∀ i, i < L.size → i ∈ closS L n (depsOf o)) ∧
    (∀ (i : Nat) (x : Oper), L[i]? = some x → (∀ e ∈ x.after, e.on < i) ∧ (∀ g b, x.guard = some (g, b) → g < L.size)) := by
  simp only [sinkC, Bool.and_eq_true, List.all_eq_true, List.mem_range] at h
  obtain ⟨⟨h1, h2⟩, h3⟩ := h
  refine ⟨by simpa using h1, fun i hi => by simpa using h2 i hi, fun i x hx => ?_⟩
  have hi : i < L.size := by
    rcases Nat.lt_or_ge i L.size with hlt | hge
    · exact hlt
    · rw [Array.getElem?_eq_none hge] at hx; cases hx
  have := h3 i hi
  rw [hx] at this
  simp only [Bool.and_eq_true, Array.all_eq_true', decide_eq_true_eq] at this
  refine ⟨this.1, fun g b hg => ?_⟩
  have h4 := this.2
  rw [hg] at h4
  simpa using h4
/-- What has come up waits for nothing that has not. -/
def ClosedL (L : Array Oper) (l : Array Bool) : Prop := ∀ i x, L[i]? = some x → l.getD i false = true → ∀ e ∈ x.after, Region.binds .any e = true → l.getD e.on false = true
theorem clos_listed {l : Array Bool} (hc : ClosedL L l) : ∀ (n : Nat) (s : List Nat), (∀ i ∈ s, l.getD i false = true) → ∀ i ∈ closS L n s, l.getD i false = true
  | 0, _ => fun h => h
  | n + 1, s => fun h => clos_listed hc n (nextS L s) fun i hi => by
    unfold nextS at hi
    rw [List.mem_filter, Bool.or_eq_true] at hi
    rcases hi.2 with h1 | h1
    · exact h i (by simpa using h1)
    · obtain ⟨j, hj, hm⟩ := List.any_eq_true.1 h1
      cases hx : L[j]? with
      | none => rw [hx] at hm; cases hm
      | some x =>
        rw [hx] at hm
        have hm' : i ∈ depsOf x := by simpa using hm
        unfold depsOf at hm'
        obtain ⟨e, he, rfl⟩ := List.mem_map.1 hm'
        obtain ⟨he1, he2⟩ := List.mem_filter.1 he
        exact hc j x hx (h j hj) e (Array.mem_toList_iff.1 he1) he2
theorem listed_td {l : Array Bool} {i : Nat} (h : l.getD i false = true) : l.getD i true = true := by
  simp only [Array.getD_eq_getD_getElem?] at h ⊢
  cases hx : l[i]? with
  | none => rfl
  | some b => rw [hx] at h; simpa using h
theorem listed_dt {l : Array Bool} {i : Nat} (hi : i < l.size) (h : l.getD i true = true) : l.getD i false = true := by
  simp only [Array.getD_eq_getD_getElem?, Array.getElem?_eq_getElem hi] at h ⊢
  simpa using h
theorem sinkC_all {n : Nat} (h : sinkC L o n = true) {l : Array Bool} (hc : ClosedL L l) (hw : ∀ e ∈ o.after, Region.binds .any e = true → l.getD e.on false = true) : ∀ i, i < L.size → l.getD i true = true := fun i hi => by
  refine listed_td (clos_listed hc n (depsOf o) (fun j hj => ?_) i ((sinkC_spec h).2.1 i hi))
  unfold depsOf at hj
  obtain ⟨e, he, rfl⟩ := List.mem_map.1 hj
  obtain ⟨he1, he2⟩ := List.mem_filter.1 he
  exact hw e (Array.mem_toList_iff.1 he1) he2
/-- Not all have come up: the same may come up, the last one or not. -/
theorem ready_pushC {n : Nat} (h : sinkC L o n = true) (hB : ∀ e ∈ o.after, e.on < L.size) {l : Array Bool} (hl : l.size = L.size) (hc : ClosedL L l) (hne : ∃ i, i < L.size ∧ l.getD i true = false) :
    Region.ready .any (L.push o) (l.push false) = Region.ready .any L l := by
  obtain ⟨_, _, h3⟩ := sinkC_spec h
  have hlast : ∀ i, i ∈ Region.ready .any (L.push o) (l.push false) → i < L.size := fun i hi => by
    obtain ⟨g1, g2, x, hx, hw⟩ := ready_mem.1 hi
    rcases Nat.lt_or_ge i L.size with hlt | hge
    · exact hlt
    · have hi2 : i = L.size := by rw [Array.size_push] at g1; omega
      subst hi2
      have hxo : o = x := by simpa using hx
      subst hxo
      obtain ⟨j, hj, hu⟩ := hne
      have h5 := sinkC_all h hc (fun e he hb => by
        have := hw e he hb
        rwa [listed_push _ (by have := hB e he; omega)] at this) j hj
      rw [h5] at hu
      cases hu
  have hiff : ∀ i, i < L.size → (i ∈ Region.ready .any (L.push o) (l.push false) ↔ i ∈ Region.ready .any L l) := fun i hi => by
    rw [ready_mem, ready_mem, push_get hi, listed_push _ (by omega), Array.size_push]
    constructor
    · rintro ⟨_, g2, x, hx, hw⟩
      refine ⟨hi, g2, x, hx, fun e he hb => ?_⟩
      have := hw e he hb
      rwa [listed_push _ (by have := (h3 i x hx).1 e he; omega)] at this
    · rintro ⟨_, g2, x, hx, hw⟩
      refine ⟨by omega, g2, x, hx, fun e he hb => ?_⟩
      rw [listed_push _ (by have := (h3 i x hx).1 e he; omega)]
      exact hw e he hb
  unfold Region.ready at *
  rw [Array.size_push, List.range_succ, List.filter_append]
  have h6 : List.filter (fun i => !(l.push false).getD i true && (Option.map (fun x => x.after.all fun e => !Region.binds Region.Mode.any e || (l.push false).getD e.on false) (L.push o)[i]?).getD false) [L.size] = [] := by
    rw [List.filter_eq_nil_iff]
    intro i hi hq
    have hi2 : i = L.size := by simpa using hi
    have := hlast i (by rw [List.mem_filter, List.mem_range]; exact ⟨by rw [Array.size_push]; omega, hq⟩)
    omega
  rw [h6, List.append_nil]
  apply List.filter_congr
  intro i hi
  have hi := List.mem_range.1 hi
  have := hiff i hi
  rw [List.mem_filter, List.mem_filter, List.mem_range, List.mem_range, Array.size_push] at this
  rw [Bool.eq_iff_iff]
  constructor
  · exact fun hq => (this.1 ⟨by omega, hq⟩).2
  · exact fun hq => (this.2 ⟨hi, hq⟩).2
theorem ready_lastC {l : Array Bool} (hl : l.size = L.size) (hall : ∀ i, i < L.size → l.getD i true = true) :
    ∀ i ∈ Region.ready .any (L.push o) (l.push false), i = L.size := fun i hi => by
  obtain ⟨g1, g2, x, hx, hw⟩ := ready_mem.1 hi
  rcases Nat.lt_or_ge i L.size with hlt | hge
  · rw [listed_push _ (by omega), hall i hlt] at g2
    cases g2
  · rw [Array.size_push] at g1
    omega
theorem ready_nilC {n : Nat} (h : sinkC L o n = true) {l : Array Bool} (hr : Region.ready .any L l = []) : ∀ n i, i < n → i < L.size → l.getD i true = true := by
  obtain ⟨_, _, h3⟩ := sinkC_spec h
  intro n
  induction n with
  | zero => intro i hi; omega
  | succ n ih =>
    intro i hi hiL
    cases hg : l.getD i true with
    | true => rfl
    | false =>
      exfalso
      have hx : L[i]? = some L[i] := Array.getElem?_eq_getElem hiL
      have : i ∈ Region.ready .any L l := ready_mem.2 ⟨hiL, hg, _, hx, fun e he _ => by
        have h1 := (h3 i _ hx).1 e he
        have h2 := ih e.on (by omega) (by omega)
        have h4 : e.on < l.size := by
          rcases Nat.lt_or_ge e.on l.size with hlt | hge
          · exact hlt
          · have h5 : l.size ≤ i := by omega
            simp [Array.getD_eq_getD_getElem?, Array.getElem?_eq_none h5] at hg
        exact listed_dt h4 h2⟩
      rw [hr] at this
      cases this

theorem wpAny_sinkC {n : Nat} (h : sinkC L o n = true) (hB : ∀ e ∈ o.after, e.on < L.size) (hR : ∀ a w, R a w → o.wp P a w (Q .normal) Q ∨ (o.asks P a w ∧ LetsOut Q)) : ∀ (fuel : Nat) (l : Array Bool) (a : Act) (w : World), l.size = L.size → ClosedL L l →
    wpAny P .any L (sinkR R Q) fuel l a w → wpAny P .any (L.push o) Q (fuel + 1) (l.push false) a w := by
  obtain ⟨hgd, _, h3⟩ := sinkC_spec h
  have last : ∀ (fuel : Nat) (l : Array Bool) (a : Act) (w : World), l.size = L.size → Region.ready .any L l = [] → sinkR R Q .normal a w → wpAny P .any (L.push o) Q (fuel + 1) (l.push false) a w := by
    intro fuel l a w hl hr hq
    have hall : ∀ i, i < L.size → l.getD i true = true := fun i hi => ready_nilC h hr (i + 1) i (by omega) hi
    have hm := ready_last_mem (o := o) hB hl hall
    refine ⟨fun h0 => (by rw [h0] at hm; cases hm), fun i hi => ?_⟩
    obtain rfl := ready_lastC hl hall i hi
    unfold wpOp
    have ho : (L.push o)[L.size]? = some o := by simp
    simp only [ho, Region.wanted, hgd, if_true]
    refine (hR a w hq).imp (fun hq => Oper.wp_mono (fun a' w' hq' => ?_) hq) id
    have hrd : Region.ready .any (L.push o) ((l.push false).setIfInBounds L.size true) = [] := by
      rw [List.eq_nil_iff_forall_not_mem]
      intro i hi
      obtain ⟨g1, g2, _⟩ := ready_mem.1 hi
      rw [Array.size_push] at g1
      have h7 : ((l.push false).setIfInBounds L.size true).getD i true = true := by
        rcases Nat.lt_or_ge i L.size with hlt | hge
        · have h8 := hall i hlt
          have h9 : i < l.size := by omega
          simp [Array.getD_eq_getD_getElem?, Array.getElem?_setIfInBounds, Array.getElem?_push, hl, Nat.ne_of_lt hlt, Array.getElem?_eq_getElem h9, Nat.ne_of_gt hlt] at h8 ⊢
          exact h8
        · have hi2 : i = L.size := by omega
          subst hi2
          simp [Array.getD_eq_getD_getElem?, Array.getElem?_setIfInBounds, hl]
      rw [h7] at g2
      cases g2
    exact wpAny_done hrd hq' fuel
  intro fuel
  induction fuel with
  | zero => intro l a w hl _ hh; exact last 0 l a w hl hh.1 hh.2
  | succ f ih =>
    intro l a w hl hcl hh
    by_cases hr : Region.ready .any L l = []
    · exact last (f + 1) l a w hl hr (hh.1 hr)
    · have hne : ∃ i, i < L.size ∧ l.getD i true = false := by
        obtain ⟨i, hi⟩ := List.exists_mem_of_ne_nil _ hr
        obtain ⟨g1, g2, _⟩ := ready_mem.1 hi
        exact ⟨i, g1, g2⟩
      have hrp := ready_pushC (o := o) h hB hl hcl hne
      refine ⟨fun h0 => absurd (hrp ▸ h0) hr, fun i hi => ?_⟩
      rw [hrp] at hi
      have hk := hh.2 i hi
      obtain ⟨hiL, _, xi, hxi, hwi⟩ := ready_mem.1 hi
      have hcl' : ClosedL L (l.setIfInBounds i true) := by
        have hgd2 : ∀ j, l.getD j false = true → (l.setIfInBounds i true).getD j false = true := fun j hj => by
          by_cases hji : i = j
          · subst hji
            simp [Array.getD_eq_getD_getElem?, Array.getElem?_setIfInBounds, hl, hiL]
          · simp only [Array.getD_eq_getD_getElem?, Array.getElem?_setIfInBounds, if_neg hji] at hj ⊢
            exact hj
        intro j x hx hj e he hb
        by_cases hji : i = j
        · subst hji
          rw [hxi] at hx
          cases hx
          exact hgd2 _ (hwi e he hb)
        · refine hgd2 _ (hcl j x hx ?_ e he hb)
          simp only [Array.getD_eq_getD_getElem?, Array.getElem?_setIfInBounds, if_neg hji] at hj ⊢
          exact hj
      have hx : L[i]? = some L[i] := Array.getElem?_eq_getElem hiL
      have hx' : (L.push o)[i]? = some L[i] := by rw [push_get hiL]; exact hx
      have hyl : Region.wanted L[i] (yielded (L.push o) a.tmps) = Region.wanted L[i] (yielded L a.tmps) := by
        unfold Region.wanted
        cases hg : L[i].guard with
        | none => rfl
        | some gb =>
          obtain ⟨g, b⟩ := gb
          have := (h3 i _ hx).2 g b hg
          simp only [yielded, push_get this]
      unfold wpOp at hk ⊢
      simp only [hx, hx', hyl] at hk ⊢
      have next : ∀ a' w', wpAny P .any L (sinkR R Q) f (l.setIfInBounds i true) a' w' → wpAny P .any (L.push o) Q (f + 1) ((l.push false).setIfInBounds i true) a' w' := fun a' w' hq => by
        rw [set_push (by omega)]
        exact ih _ a' w' (by simpa using hl) hcl' hq
      split
      · rename_i hw
        simp only [hw, if_true] at hk
        exact hk.imp (fun hq => wp_post (fun _ _ _ q => q) id (Oper.wp_mono next hq)) id
      · rename_i hw
        simp only [hw] at hk
        exact next _ _ hk
theorem closed_start (L : Array Oper) (n : Nat) : ClosedL L (Array.replicate n false) := fun i x _ h => by
  simp only [Array.getD_eq_getD_getElem?, Array.getElem?_replicate] at h
  split at h <;> cases h
theorem quiet_any {R' : Exit → Act → World → Prop} {a : Act} {w : World} (l : List Oper) (hL : Region.lexB .any l.toArray = true) (K : Act → World → Prop) (hK : ∀ a w, K a w → R' .normal a w)
    (hh : wpQuiet P l.toArray (fun w' => ∃ g : Grow w, w' = g.1) (fun a' => ∀ w', (∃ g : Grow w, w' = g.1) → K a' w') l a) : wpAny P .any l.toArray R' l.toArray.size (Array.replicate l.toArray.size false) a w.drew := by
  simp only [Region.lexB, Bool.and_eq_true] at hL
  have hC : ∃ g : Grow w, w.drew = g.1 := ⟨⟨w.drew, (Below.refl _ _).drew⟩, rfl⟩
  refine wpAny_of_quiet (Q := fun a' => ∀ w', (∃ g : Grow w, w' = g.1) → K a' w') (C := fun w' => ∃ g : Grow w, w' = g.1) (fun _ w' hw' h => hK _ _ (h w' hw')) _ _ _ _ hC ?_
  have := wpAnyQ_lex (P := P) (C := fun w' => ∃ g : Grow w, w' = g.1) (md := .any) (ops := l.toArray) hL.1 l 0 (Array.replicate l.toArray.size false) a (by simp) (by simpa using hL.2) hh
  simpa using this
theorem list_step {a : Act} {w : World} {rest : List Oper} (hgd : o.guard = none) (h : wpList P #[] Q (o :: rest) a w) : o.wp P a w (wpList P #[] Q rest) Q ∨ (o.asks P a w ∧ LetsOut Q) := by
  have hr' : (if Region.wanted o (yielded #[] a.tmps) then o.wp P a w (wpList P #[] Q rest) Q ∨ (o.asks P a w ∧ LetsOut Q) else wpList P #[] Q rest (a.put o.dst undef) w) := h
  simpa only [Region.wanted, hgd, if_true] using hr'

/-- The others are quiet in the worlds that grow out of the one at hand; the last one waits for them. -/
theorem wp_region_grow_sink {id : Nat} {a : Act} {w : World} {l : List Oper} (n : Nat) (hm : P.follows .mixedOrders = true) (hd : l.drop n = [o]) (h : sinkC (l.take n).toArray o n = true) (hB : o.after.all (fun e => decide (e.on < (l.take n).toArray.size)) = true)
    (hL : Region.lexB .any (l.take n).toArray = true)
    (hh : wpQuiet P (l.take n).toArray (fun w' => ∃ g : Grow w, w' = g.1) (fun a' => ∀ w', (∃ g : Grow w, w' = g.1) → wpList P #[] Q [o] a' w') (l.take n) a) : (Code.region id l.toArray true).wp P Q a w := by
  have e : l.toArray = (l.take n).toArray.push o := by
    apply Array.ext'
    simp only [Array.toList_push]
    rw [← hd]
    simp
  have hgd := (sinkC_spec h).1
  rw [e]
  refine wp_region_any hm ?_
  have hq := quiet_any (R' := sinkR (wpList P #[] Q [o]) Q) (l.take n) hL (wpList P #[] Q [o]) (fun _ _ h => h) hh
  have h1 := wpAny_sinkC (R := wpList P #[] Q [o]) (Q := Q) h (fun e he => by rw [Array.all_eq_true'] at hB; simpa using hB e he) (fun a w hr => list_step hgd hr) (l.take n).toArray.size _ a w.drew (by simp) (closed_start _ _) hq
  rw [Array.size_push, show Array.replicate ((l.take n).toArray.size + 1) false = (Array.replicate (l.take n).toArray.size false).push false from by simp [Array.replicate_succ]]
  exact h1

/-- Two of them wait for all that is ahead. -/
theorem wp_region_grow_sink2 {o2 : Oper} {id : Nat} {a : Act} {w : World} {l : List Oper} (n : Nat) (hm : P.follows .mixedOrders = true) (hd : l.drop n = [o, o2]) (h : sinkC (l.take n).toArray o n = true) (hB : o.after.all (fun e => decide (e.on < (l.take n).toArray.size)) = true)
    (h2 : sinkC ((l.take n).toArray.push o) o2 n = true) (hB2 : o2.after.all (fun e => decide (e.on < (l.take n).toArray.size + 1)) = true)
    (hL : Region.lexB .any (l.take n).toArray = true)
    (hh : wpQuiet P (l.take n).toArray (fun w' => ∃ g : Grow w, w' = g.1) (fun a' => ∀ w', (∃ g : Grow w, w' = g.1) → wpList P #[] Q [o, o2] a' w') (l.take n) a) : (Code.region id l.toArray true).wp P Q a w := by
  have e : l.toArray = ((l.take n).toArray.push o).push o2 := by
    apply Array.ext'
    simp only [Array.toList_push]
    rw [List.append_assoc, List.singleton_append, ← hd]
    simp
  have hgd := (sinkC_spec h).1
  have hgd2 := (sinkC_spec h2).1
  rw [e]
  refine wp_region_any hm ?_
  have hq := quiet_any (R' := sinkR (wpList P #[] Q [o, o2]) (sinkR (wpList P #[] Q [o2]) Q)) (l.take n) hL (wpList P #[] Q [o, o2]) (fun _ _ h => h) hh
  have h1 := wpAny_sinkC (R := wpList P #[] Q [o, o2]) (Q := sinkR (wpList P #[] Q [o2]) Q) h (fun e he => by rw [Array.all_eq_true'] at hB; simpa using hB e he)
    (fun a w hr => (list_step hgd hr).imp (fun hq => wp_post (fun _ _ _ q => q) (fun h => h) hq) (fun h => h)) (l.take n).toArray.size _ a w.drew (by simp) (closed_start _ _) hq
  have e2 : ((Array.replicate (l.take n).toArray.size false).push false) = Array.replicate ((l.take n).toArray.push o).size false := by rw [Array.size_push]; simp [Array.replicate_succ]
  rw [e2] at h1
  have h3 := wpAny_sinkC (R := wpList P #[] Q [o2]) (Q := Q) h2 (fun e he => by rw [Array.all_eq_true'] at hB2; rw [Array.size_push]; simpa using hB2 e he)
    (fun a w hr => list_step hgd2 hr) _ _ a w.drew (by simp) (closed_start _ _) h1
  rw [Array.size_push, Array.size_push, show Array.replicate ((l.take n).toArray.size + 1 + 1) false = (Array.replicate ((l.take n).toArray.push o).size false).push false from by rw [Array.size_push]; simp [Array.replicate_succ]]
  rw [Array.size_push] at h3 ⊢
  exact h3
end

end Go.Proofs.YtaomfjgleddpdaaGreat

/- KeysTrue: the days that the law's truth makes. -/
namespace Go.Proofs.YtaomfjgleddpdaaGreat
open Go.RowKit
attribute [local go_sem] Oper.semAt_some

theorem loN_succ (c : List Deed) (out : List Int) (d : Deed) (lo0 : Int) (k : Nat) : loN c out d lo0 (k + 1) = if sameTB ((c[k]?).getD zeroD) d = true then max (loN c out d lo0 k) ((out[k]?).getD 0) else loN c out d lo0 k := by
  unfold loN
  rw [List.range_succ, List.foldl_append]
  rfl
theorem r_Days_n (ds : List Deed) (A : Option Addr) (n c : Nat) (w : World) (hn : n ≤ 1000000) (hok : ∀ d ∈ ds, d.okB = true) (hd : Ds w w.heap.size A n ds) :
    Calls Tryz.prog 96 #[.slice A n c] w fun e w' => ∃ A' c', e = .returned (.slice A' n c') ∧ Below w.heap.size w w' ∧ Its w' w'.heap.size A' n (dayL ds) ∧ n ≤ c' :=
  (r_Days ds A n c w hn hok hd).mono fun e w' ⟨A', c', h1, h2, h3, h4⟩ => by
    have hl : (dayL ds).length = n := (dayL_len ds).trans hd.len
    rw [hl] at h1 h3 h4
    exact ⟨A', c', h1, h2, h3, h4⟩
theorem r_mod_v (a m v : Int) (w : World) (hm : 0 < m) (hm2 : m ≤ 1000000) (h : a % m = v) :
    Calls Tryz.prog 26 #[.int .i64 a, .int .i64 m] w fun e w' => e = .returned (.int .i64 v) ∧ Below w.heap.size w w' :=
  (r_mod a m w hm hm2).mono fun _ _ ⟨he, hw⟩ => ⟨by rw [he, h], hw ▸ Below.refl _ _⟩
def S1 (b : Nat) (v : Value) (V : World) : Prop := V.cell? ⟨b, 1, none⟩ = some v
theorem S1.ext {V V' : World} {b : Nat} {v : Value} (hb : Below V.heap.size V V') (h : S1 b v V) : S1 b v V' :=
  (hb.cell (World.block_lt_of_cell? V _ h)).trans h
theorem S1.kept {V V' : World} {b : Nat} {v : Value} {row : Option Nat} (h : S1 b v V) (hg : V.grownBy V' row) (hne : some b ≠ row) : S1 b v V' :=
  (hg.cell_far _ (World.block_lt_of_cell? V _ h) hne).trans h

set_option maxRecDepth 100000 in
set_option maxHeartbeats 4000000 in
theorem r_truth (c : List Deed) (picks : List Int) (A B : Option Addr) (n k1 m k2 : Nat) (w : World) (hn : n ≤ 1000) (hm : m ≤ 1125899906842624) (hok : ∀ d ∈ c, d.okB = true) (hc : clF c = false) (hd : Ds w w.heap.size A n c) (hp : Is w w.heap.size B m picks) :
    Calls Tryz.prog 58 #[.slice A n k1, .slice B m k2] w fun e w' => ∃ A' c', e = .returned (.slice A' n c') ∧ Below w.heap.size w w' ∧ Is w' w'.heap.size A' n (trN c picks c.length) ∧ n ≤ c' := by
  obtain ⟨i0, hi, hz0, hz1, hz2⟩ := info_parts infoInt
  have HD := Lib.hid hd
  have HL := Lib.hid hd.len
  have HP := Lib.hid hp
  have HO := Lib.hid hok
  have HCL := Lib.hid hc
  clear hd hp hok hc
  go_enter Tryz.func58, Tryz.ntmps58
  go_wp2_with fail
  refine (r_Days_n c _ _ _ _ (by omega) HO.out (HD.out.now (by (repeat' (first | with_reducible exact Below.refl _ _ | with_reducible assumption | with_reducible refine Below.alloc ?_ ?_ _ | with_reducible refine Below.setCell ?_ ?_ _ | with_reducible refine Below.drew ?_ | (simp; done) | (simp; omega) | omega))))).mono ?_
  rintro e w1 ⟨A1, c1, rfl, hb1, hi1, _⟩
  obtain ⟨w3, rfl⟩ : ∃ w3 : World, w3 = w1 := ⟨_, rfl⟩
  have HB3 := Lib.hid hb1
  have HR := Lib.hid hi1
  clear hb1 hi1
  go_wp2_with fail
  go_loopw [6, 15] (fun v i wr => ∃ j : Nat, j ≤ n ∧ i = .int .i64 j ∧ wr.ownsRow w3.heap.size 3 1 v j ((trN c picks j).map fun x => .int .i64 x) ∧ Below w3.heap.size w3 wr) (fun _ i _ => n - (intOf i).toNat)
  case atStart => exact ⟨0, by omega, rfl, World.ownsRow_nil _ _ _ _, Below.refl _ _⟩
  case round =>
    obtain ⟨j, hj, rfl, hown, hB⟩ := hrel
    obtain ⟨wo, rfl⟩ : ∃ wo : World, wo = wr := ⟨_, rfl⟩
    have hs0 : w3.heap.size ≤ wo.heap.size := hB.size
    obtain ⟨A0, c0, rfl, hcc⟩ := own_slice hown
    have HB := Lib.hid hB
    have HW := Lib.hid hown
    clear hB hown
    by_cases hlt : j < n
    · obtain ⟨b, o, d, rfl, hb, hdk, _⟩ := (HD.out.ext (Below.then_ HB3.out HB.out) (Nat.le_refl _)).at_ hlt
      have HK := Lib.hid hdk
      have hdl := dayL_at hdk
      obtain ⟨r, hr⟩ : ∃ r, rngI c.zipIdx d j = r := ⟨_, rfl⟩
      have hrb := (rng_spec c d j).1
      have hdb := okB_days (HO.out d (List.mem_of_getElem? hdk))
      rw [hr] at hdl hrb
      have HRR := Lib.hid hr
      clear hdk hr
      obtain ⟨bd, od, x, y, rfl, hbd, hxy, a0, a1⟩ := (HR.out.now HB.out).at_ hlt
      rw [hdl] at hxy
      obtain rfl : r = (x, y) := Option.some.inj hxy
      clear hxy hdl
      go_wp2_with fail
      go_loopw [9, 10] (fun vlo vk w2 => ∃ k : Nat, k ≤ j ∧ vk = .int .i64 k ∧ vlo = .int .i64 (loN c (trN c picks j) d x k) ∧ Below wo.heap.size wo w2 ∧ BoxA w2 wo.heap.size 26 #[.int .i64 x, .int .i64 y]) (fun _ v _ => j - (intOf v).toNat)
      case atStart => exact ⟨0, by omega, rfl, rfl, by (repeat' (first | with_reducible exact Below.refl _ _ | with_reducible assumption | with_reducible refine Below.alloc ?_ ?_ _ | with_reducible refine Below.setCell ?_ ?_ _ | with_reducible refine Below.drew ?_ | (simp; done) | (simp; omega) | omega)), BoxA.new wo _ _⟩
      case round =>
        obtain ⟨k, hk, rfl, rfl, hB2, hbr⟩ := hrel
        obtain ⟨wi, rfl⟩ : ∃ wi : World, wi = wr := ⟨_, rfl⟩
        have HB2 := Lib.hid hB2
        have HBR := Lib.hid hbr
        have hs2 : wo.heap.size < wi.heap.size := hbr.lt
        clear hB2 hbr a0 a1
        have HLO := Lib.hid (loN_succ c (trN c picks j) d x k)
        obtain ⟨lo, hlo⟩ : ∃ lo, loN c (trN c picks j) d x k = lo := ⟨_, rfl⟩
        rw [hlo] at HLO
        rw [hlo]
        have HLK := Lib.hid hlo
        clear hlo
        have HBW := Lib.hid (Below.then_ HB3.out (Below.then_ HB.out HB2.out))
        by_cases hlk : k < j
        · obtain ⟨f, hfk, hat⟩ := (HD.out.ext HBW.out (Nat.le_refl _)).get (k := k) (by omega)
          obtain ⟨d', hdk', hat2⟩ := (HD.out.ext HBW.out (Nat.le_refl _)).get (k := j) hlt
          rw [HK.out] at hdk'
          cases hdk'
          rw [hfk, Option.getD_some] at HLO
          clear hfk
          obtain ⟨p0, p1, p2, p3, p4, p5, p6, p7, p8⟩ := hat
          obtain ⟨x0, x1, x2, x3, x4, x5, x6, x7, x8⟩ := hat2
          have hbw : b < wi.heap.size := by have := HBW.out.size; omega
          have g1 : (k : Int) < (n : Int) := by omega
          have g2 : ¬ ((k : Int) < 0) := by omega
          have g3 : (j : Int) < (n : Int) := by omega
          have g4 : ¬ ((j : Int) < 0) := by omega
          have g5 : (k : Int) < (j : Int) := by omega
          cases hsm : sameTB f d with
          | false =>
            have HSM := Lib.hid hsm
            rw [hsm] at HLO
            clear hsm
            go_wp2_with fail
            (refine wp_region_grow (by kernel_rfl) (by kernel_rfl) ?_; (repeat (go_big_quiet_step ((first | (go_at_call 98; exact Calls.grow_of (r_sameThread_v f d false _ HSM.out)))))); refine wpQuiet_nil ?_; rintro w1 ⟨⟨_, hb1⟩, rfl⟩; (try dsimp only at hb1 ⊢); obtain ⟨hc1, hf1⟩ := bcell hb1)
            have HBN := Lib.hid (Below.then_ HB2.out hb1)
            have HBR1 := Lib.hid (HBR.out.ext hb1)
            clear hb1 hc1 hf1 x0 x1 x2 x3 x4 x5 x6 x7 x8 p0 p1 p2 p3 p4 p5 p6 p7 p8
            go_wp2_with fail
            go_roundw
            case rel => exact ⟨k + 1, by omega, by go_num, by rw [HLO.out]; rfl, HBN.out, HBR1.out⟩
            case measure => simp [intOf] <;> omega
          | true =>
            have HSM := Lib.hid hsm
            rw [hsm] at HLO
            clear hsm
            go_wp2_with fail
            (refine wp_region_grow (by kernel_rfl) (by kernel_rfl) ?_; (repeat (go_big_quiet_step ((first | (go_at_call 98; exact Calls.grow_of (r_sameThread_v f d true _ HSM.out)))))); refine wpQuiet_nil ?_; rintro w1 ⟨⟨_, hb1⟩, rfl⟩; (try dsimp only at hb1 ⊢); obtain ⟨hc1, hf1⟩ := bcell hb1)
            have HBN := Lib.hid (Below.then_ HB2.out hb1)
            have HBR1 := Lib.hid (HBR.out.ext hb1)
            clear hb1 hc1 hf1 x0 x1 x2 x3 x4 x5 x6 x7 x8 p0 p1 p2 p3 p4 p5 p6 p7 p8
            obtain ⟨by_, oy, y2, ey, hby, hy2, hyc⟩ := (show Is w1 w1.heap.size A0 j (trN c picks j) from Rd.of_own (own_ext HW.out HBN.out)).at_ hlk
            cases ey
            rw [hy2, Option.getD_some] at HLO
            clear hy2
            go_wp2_with fail
            go_roundw
            case rel => exact ⟨k + 1, by omega, by go_num, by rw [HLO.out]; rfl, HBN.out, HBR1.out⟩
            case measure => simp [intOf] <;> omega
        · obtain rfl : k = j := by omega
          have hto := tr_ok HO.out HCL.out picks k (by have := HL.out; omega)
          have hsp := lo_spec HO.out HCL.out HK.out hto
          have hnx : trN c picks (k + 1) = trN c picks k ++ [nextI c picks (trN c picks k) d k] := by rw [trN, HK.out]; rfl
          unfold nextI at hnx
          rw [HRR.out] at hsp hnx
          simp only at hsp hnx
          rw [HLK.out] at hsp hnx
          obtain ⟨h1, h2, _⟩ := hsp
          obtain ⟨pv, hpv⟩ : ∃ pv, pickI picks (k : Int) = pv := ⟨_, rfl⟩
          obtain ⟨mv, hmv⟩ : ∃ mv, pv % (y - lo + 1) = mv := ⟨_, rfl⟩
          have hm0 := Int.emod_nonneg pv (show y - lo + 1 ≠ 0 by omega)
          have hm1 := Int.emod_lt_of_pos pv (show 0 < y - lo + 1 by omega)
          rw [hpv, hmv] at hnx
          rw [hmv] at hm0 hm1
          have hrb : y ≤ d.hi := hrb
          have q1 : IntKind.i64.wrap (y - lo) = y - lo := IntWalk.i64_in _ (by omega)
          have q2 : IntKind.i64.wrap (y - lo + 1) = y - lo + 1 := IntWalk.i64_in _ (by omega)
          have q3 : IntKind.i64.wrap (lo + mv) = lo + mv := IntWalk.i64_in _ (by omega)
          have HNX := Lib.hid hnx
          have hcP := Lib.hid (r_Pick picks (k : Int) pv B m k2 wi.drew hm (HP.out.now (by have := HBW.out; (repeat' (first | with_reducible exact Below.refl _ _ | with_reducible assumption | with_reducible refine Below.alloc ?_ ?_ _ | with_reducible refine Below.setCell ?_ ?_ _ | with_reducible refine Below.drew ?_ | (simp; done) | (simp; omega) | omega)))) hpv)
          have hcM := Lib.hid (fun W => r_mod_v pv (y - lo + 1) mv W (by omega) (by omega) hmv)
          clear hnx hpv hmv hto
          have hz1' := HBR.out.cell 1
          go_wp2_with fail
          (refine wp_region_sink_lit (S := S1 wo.heap.size (.int .i64 y)) 14 (by kernel_rfl) rfl rfl (by kernel_rfl) (by kernel_rfl) hz1' (fun hS => ?_); simp only [List.take_succ_cons, List.take_zero, List.reduceReplicate, Array.replicate_succ, Array.replicate_zero])
          (refine wpAnyH_take (i := 0) (v := ?_) rfl (by kernel_rfl) (by kernel_rfl) (by kernel_rfl) (fun _ _ _ h => h) (Or.inl ⟨by rfl, ?_⟩) hS ?_; rotate_left; focus (intro w2 hw2; (try dsimp only at hw2); (try unfold S6 at hw2); (try unfold S9 at hw2); (try unfold SZ7 at hw2); (try unfold S1 at hw2); (try unfold S4 at hw2); go_split_ands; go_simp; first | done | with_reducible rfl); (try simp only [Act.put, List.setIfInBounds_toArray, List.set_cons_zero, List.set_cons_succ]))
          (refine wpAnyH_take (i := 1) (v := ?_) rfl (by kernel_rfl) (by kernel_rfl) (by kernel_rfl) (fun _ _ _ h => h) (Or.inl ⟨by rfl, ?_⟩) hS ?_; rotate_left; focus (intro w2 hw2; (try dsimp only at hw2); (try unfold S6 at hw2); (try unfold S9 at hw2); (try unfold SZ7 at hw2); (try unfold S1 at hw2); (try unfold S4 at hw2); go_split_ands; go_simp; first | done | with_reducible rfl); (try simp only [Act.put, List.setIfInBounds_toArray, List.set_cons_zero, List.set_cons_succ]))
          (refine wpAnyH_take (i := 2) (v := ?_) rfl (by kernel_rfl) (by kernel_rfl) (by kernel_rfl) (fun _ _ _ h => h) (Or.inl ⟨by rfl, ?_⟩) hS ?_; rotate_left; focus (intro w2 hw2; (try dsimp only at hw2); (try unfold S6 at hw2); (try unfold S9 at hw2); (try unfold SZ7 at hw2); (try unfold S1 at hw2); (try unfold S4 at hw2); go_split_ands; go_simp; first | done | with_reducible rfl); (try simp only [Act.put, List.setIfInBounds_toArray, List.set_cons_zero, List.set_cons_succ]))
          (refine wpAnyH_take (i := 3) (v := ?_) rfl (by kernel_rfl) (by kernel_rfl) (by kernel_rfl) (fun _ _ _ h => h) (Or.inl ⟨by rfl, ?_⟩) hS ?_; rotate_left; focus (intro w2 hw2; (try dsimp only at hw2); (try unfold S6 at hw2); (try unfold S9 at hw2); (try unfold SZ7 at hw2); (try unfold S1 at hw2); (try unfold S4 at hw2); go_split_ands; go_simp; first | done | with_reducible rfl); (try simp only [Act.put, List.setIfInBounds_toArray, List.set_cons_zero, List.set_cons_succ]))
          (refine wpAnyH_take (i := 5) (v := ?_) rfl (by kernel_rfl) (by kernel_rfl) (by kernel_rfl) (fun _ _ _ h => h) (Or.inl ⟨by rfl, ?_⟩) hS ?_; rotate_left; focus (intro w2 hw2; (try dsimp only at hw2); (try unfold S6 at hw2); (try unfold S9 at hw2); (try unfold SZ7 at hw2); (try unfold S1 at hw2); (try unfold S4 at hw2); go_split_ands; go_simp; first | done | with_reducible rfl); (try simp only [Act.put, List.setIfInBounds_toArray, List.set_cons_zero, List.set_cons_succ]))
          (refine wpAnyH_take (i := 6) (v := ?_) rfl (by kernel_rfl) (by kernel_rfl) (by kernel_rfl) (fun _ _ _ h => h) (Or.inl ⟨by rfl, ?_⟩) hS ?_; rotate_left; focus (intro w2 hw2; (try dsimp only at hw2); (try unfold S6 at hw2); (try unfold S9 at hw2); (try unfold SZ7 at hw2); (try unfold S1 at hw2); (try unfold S4 at hw2); go_split_ands; go_simp; first | done | with_reducible rfl); (try simp only [Act.put, List.setIfInBounds_toArray, List.set_cons_zero, List.set_cons_succ]))
          (refine wpAnyH_take (i := 7) (v := ?_) rfl (by kernel_rfl) (by kernel_rfl) (by kernel_rfl) (fun _ _ _ h => h) (Or.inl ⟨by rfl, ?_⟩) hS ?_; rotate_left; focus (intro w2 hw2; (try dsimp only at hw2); (try unfold S6 at hw2); (try unfold S9 at hw2); (try unfold SZ7 at hw2); (try unfold S1 at hw2); (try unfold S4 at hw2); go_split_ands; go_simp; first | done | with_reducible rfl); (try simp only [Act.put, List.setIfInBounds_toArray, List.set_cons_zero, List.set_cons_succ]))
          (refine wpAnyH_take (i := 8) (v := ?_) rfl (by kernel_rfl) (by kernel_rfl) (by kernel_rfl) (fun _ _ _ h => h) (Or.inl ⟨by rfl, ?_⟩) hS ?_; rotate_left; focus (intro w2 hw2; (try dsimp only at hw2); (try unfold S6 at hw2); (try unfold S9 at hw2); (try unfold SZ7 at hw2); (try unfold S1 at hw2); (try unfold S4 at hw2); go_split_ands; go_simp; first | done | with_reducible rfl); (try simp only [Act.put, List.setIfInBounds_toArray, List.set_cons_zero, List.set_cons_succ]))
          (refine wpAnyH_take (i := 9) (v := ?_) rfl (by kernel_rfl) (by kernel_rfl) (by kernel_rfl) (fun _ _ _ h => h) (Or.inl ⟨by rfl, ?_⟩) hS ?_; rotate_left; focus (intro w2 hw2; (try dsimp only at hw2); (try unfold S6 at hw2); (try unfold S9 at hw2); (try unfold SZ7 at hw2); (try unfold S1 at hw2); (try unfold S4 at hw2); go_split_ands; go_simp; first | done | with_reducible rfl); (try simp only [Act.put, List.setIfInBounds_toArray, List.set_cons_zero, List.set_cons_succ]))
          (refine wpAnyH_ready (rs := [4]) (by kernel_rfl) (by simp) ?_; refine AllReadyH.cons rfl (fun K hK => ?_) AllReadyH.nil; (go_simp; go_at_call 123; refine hcP.out.mono ?_; rintro e wa ⟨rfl, hba⟩; go_simp); refine hK.out _ _ (S1.ext hba hS) (fun hS => ?_); clear hK K; (try simp only [Act.put, List.setIfInBounds_toArray, List.set_cons_zero, List.set_cons_succ]))
          (refine wpAnyH_ready (rs := [10]) (by kernel_rfl) (by simp) ?_; refine AllReadyH.cons rfl (fun K hK => ?_) AllReadyH.nil; (go_simp; go_at_call 26; refine (hcM.out _).mono ?_; rintro e wb ⟨rfl, hbb⟩; go_simp); refine hK.out _ _ (S1.ext hbb hS) (fun hS => ?_); clear hK K; (try simp only [Act.put, List.setIfInBounds_toArray, List.set_cons_zero, List.set_cons_succ]))
          (refine wpAnyH_take (i := 11) (v := ?_) rfl (by kernel_rfl) (by kernel_rfl) (by kernel_rfl) (fun _ _ _ h => h) (Or.inl ⟨by rfl, ?_⟩) hS ?_; rotate_left; focus (intro w2 hw2; (try dsimp only at hw2); (try unfold S6 at hw2); (try unfold S9 at hw2); (try unfold SZ7 at hw2); (try unfold S1 at hw2); (try unfold S4 at hw2); go_split_ands; go_simp; first | done | with_reducible rfl); (try simp only [Act.put, List.setIfInBounds_toArray, List.set_cons_zero, List.set_cons_succ]))
          have hne : some wo.heap.size ≠ (Value.slice A0 k c0).ownBlock := fun e => by
            obtain ⟨cur, hh⟩ := own_block HW.out e.symm
            exact absurd (block_lt hh) (by omega)
          have HBWB := Lib.hid (Below.then_ (Below.then_ HB2.out.drew hba) hbb)
          have HOWN := Lib.hid ((own_ext HW.out HBWB.out).alloc (.cells #[.int .i64 (lo + mv)] 3))
          have HBWA := Lib.hid (HBWB.out.alloc HBWB.out.size (.cells #[.int .i64 (lo + mv)] 3))
          have hswb := HBWB.out.size
          (refine wpAnyH_ready (rs := [12]) (by kernel_rfl) (by simp) ?_; refine AllReadyH.cons rfl (fun K hK => ?_) AllReadyH.nil; (go_simp); refine hK.out _ _ (S1.ext ((Below.refl _ _).alloc (Nat.le_refl _) _) hS) (fun hS => ?_); clear hK K; (try simp only [Act.put, List.setIfInBounds_toArray, List.set_cons_zero, List.set_cons_succ]))
          (refine wpAnyH_ready (rs := [13]) (by kernel_rfl) (by simp) ?_; refine AllReadyH.cons rfl (fun K hK => ?_) AllReadyH.nil; (refine step_appB (by rfl) (.tmp 42) (.tmp 54) 32 (by rfl) (base := w3.heap.size) (B := _) (e := 3) (i := i0) (size := 1) (bytes := 8) Tryz.underlying32 hi hz0 hz1 hz2 rfl (by decide) (by rfl) (by rfl) (n := k) (xs := (trN c picks k).map fun x => .int .i64 x) HOWN.out (m := 1) (news := [.int .i64 (lo + mv)]) (Rd.new wb #[.int .i64 (lo + mv)] 3 1 1 _ rfl rfl) (ints_one [lo + mv]) (by unfold maxLen; omega) (by omega) (by simp; omega) ?_; intro v2 w2 hown2 hgrow2 hB2); refine hK.out _ _ (hS.kept hgrow2 hne) (fun hS => ?_); clear hK K; (try simp only [Act.put, List.setIfInBounds_toArray, List.set_cons_zero, List.set_cons_succ]))
          refine wpAnyH_done (by kernel_rfl) ?_ _
          have HOW2 := Lib.hid hown2
          have HBN2 := Lib.hid (Below.trans (Below.then_ HB.out HBWA.out) hB2)
          clear hown2 hgrow2 hB2 hba hbb hne
          simp only [sinkQ]
          go_simp
          go_wp2_with fail
          go_roundw
          case rel => exact ⟨k + 1, by omega, by go_num, by rw [HNX.out, List.map_append]; exact HOW2.out, HBN2.out⟩
          case measure => simp [intOf] <;> omega
    · obtain rfl : j = n := by omega
      have HT : Hid (c.length = j) := HL
      go_wp2_with fail
      go_ret
      exact ⟨A0, c0, rfl, Below.then_ HB3.out HB.out, by rw [HT.out]; exact Rd.of_own HW.out, hcc.1⟩

end Go.Proofs.YtaomfjgleddpdaaGreat
