import Derived.Test.YtaomfjgleddpdaaGreatP5
import Derived.Test.YtaomfjgleddpdaaGreatB6
set_option linter.unusedVariables false
set_option linter.unusedSimpArgs false

/- Wardens over the map of threads: plain facts. -/
namespace Go.Proofs.YtaomfjgleddpdaaGreat
open Go.RowKit Go.Maps

theorem nm_person {d : Deed} (h : d.okB = true) (hp : (nmD d).2 ≠ 0) : (nmD d).1 = 0 ∧ 1 ≤ (nmD d).2 ∧ (nmD d).2 ≤ 99 := by
  unfold nmD nmPerson at *
  simp only at hp ⊢
  by_cases h0 : d.lock = 0
  · rw [if_pos h0] at hp ⊢
    unfold Deed.okB at h
    rw [Bool.and_eq_true] at h
    have h1 := h.1
    have h2 : withinB d.person 1 99 = true ∨ withinB d.lock 1 3 = true := by
      revert h1
      unfold subjB
      repeat' split
      all_goals
        intro h1
        first
        | exact absurd h1 (by decide)
        | exact .inl (Bool.and_eq_true_iff.1 h1).2
        | exact .inr (Bool.and_eq_true_iff.1 h1).1
    refine ⟨h0, ?_⟩
    rcases h2 with h2 | h2
    · simpa [withinB] using h2
    · rw [h0] at h2
      cases h2
  · rw [if_neg h0] at hp
    exact absurd rfl hp
theorem thr_ne {c : List Deed} {n : Nm} (h : thr c n ≠ []) : ∃ d ∈ c, nmD d = n := by
  obtain ⟨d, hd⟩ := List.exists_mem_of_ne_nil _ h
  unfold thr sub at hd
  obtain ⟨x, hx, rfl⟩ := List.mem_map.1 hd
  obtain ⟨h1, h2⟩ := List.mem_filter.1 hx
  exact ⟨_, List.fst_mem_of_mem_zipIdx h1, by simpa using h2⟩
theorem ask_nil (day : Int) : askI [] day (·.office) ≠ 1 := by
  have h : askI [] day (·.office) = 0 := rfl
  rw [h]
  decide
theorem getM_of {L : List ((Int × Int) × Value)} (h : (L.map (·.1)).Nodup) {x : (Int × Int) × Value} (hx : x ∈ L) : getM L x.1 = some x.2 := by
  induction L with
  | nil => simp at hx
  | cons y l ih =>
    rw [List.map_cons, List.nodup_cons] at h
    unfold getM
    rcases List.mem_cons.1 hx with rfl | h1
    · simp
    · have hne : ¬ y.1 = x.1 := fun e => h.1 (List.mem_map.2 ⟨x, h1, e.symm⟩)
      rw [if_neg hne]
      exact ih h.2 h1
/-- That an entry of the map of threads is a warden of that day, with this number. -/
def wardP (c : List Deed) (day : Int) (e : MapEntry) (a : Int) : Prop := ∃ l p, e.key = nk l p ∧ p ≠ 0 ∧ askI (thr c (l, p)) day (·.office) = 1 ∧ p = a
theorem wardP_iff {c : List Deed} {day l p : Int} {e : MapEntry} (he : e.key = nk l p) (a : Int) : wardP c day e a ↔ p ≠ 0 ∧ askI (thr c (l, p)) day (·.office) = 1 ∧ p = a := by
  constructor
  · rintro ⟨l', p', h1, h2⟩
    rw [he] at h1
    have h3 := nk_inj h1
    simp only [Prod.mk.injEq] at h3
    obtain ⟨rfl, rfl⟩ := h3
    exact h2
  · exact fun h => ⟨l, p, he, h⟩
theorem thr_entry {w : World} {lo B bm clock : Nat} {S : Nm → TL} {es : Array MapEntry} (hR : ThR w lo B bm S) (hb : w.heap[bm]? = some (.map es clock)) {e : MapEntry} (he : e ∈ es.toList) :
    ∃ l p Ad Ai As cd ci cs, e.key = nk l p ∧ e.val = .agg #[.slice Ad (S (l, p)).length cd, .slice Ai (S (l, p)).length ci, .slice As (S (l, p)).length cs] ∧ ThrAt w lo B (S (l, p)) Ad Ai As cd ci cs := by
  obtain ⟨L, hM, hL⟩ := hR.ex
  obtain ⟨es', clock', hb', hm⟩ := hM.ex
  rw [hb] at hb'
  cases hb'
  have h1 : (e.key, e.val) ∈ L.map fun x => (nk x.1.1 x.1.2, x.2) := by rw [← hm]; exact List.mem_map.2 ⟨e, he, rfl⟩
  obtain ⟨x, hx, ex⟩ := List.mem_map.1 h1
  simp only [Prod.mk.injEq] at ex
  obtain ⟨e1, e2⟩ := ex
  obtain ⟨Ad, Ai, As, cd, ci, cs, e3, ht⟩ := hL x.1
  rw [getM_of hM.nodup hx] at e3
  exact ⟨x.1.1, x.1.2, Ad, Ai, As, cd, ci, cs, e1.symm, e2.symm.trans e3, ht⟩
theorem thr_there {w : World} {lo B bm clock : Nat} {S : Nm → TL} {es : Array MapEntry} (hR : ThR w lo B bm S) (hb : w.heap[bm]? = some (.map es clock)) {n : Nm} (hn : S n ≠ []) : ∃ e ∈ es.toList, e.key = nk n.1 n.2 := by
  obtain ⟨L, hM, hL⟩ := hR.ex
  obtain ⟨es', clock', hb', hm⟩ := hM.ex
  rw [hb] at hb'
  cases hb'
  obtain ⟨Ad, Ai, As, cd, ci, cs, e3, ht⟩ := hL n
  cases hg : getM L n with
  | none =>
    rw [hg] at e3
    have h0 : (S n).length = 0 := by
      have e4 : zT = Value.agg #[.slice Ad (S n).length cd, .slice Ai (S n).length ci, .slice As (S n).length cs] := e3
      unfold zT at e4
      simp at e4
      omega
    exact absurd (List.eq_nil_of_length_eq_zero h0) hn
  | some v =>
    have h1 := getM_mem hg
    have h2 : (nk n.1 n.2, v) ∈ es.toList.map (fun e => (e.key, e.val)) := by rw [hm]; exact List.mem_map.2 ⟨_, h1, rfl⟩
    obtain ⟨e, he, ee⟩ := List.mem_map.1 h2
    simp only [Prod.mk.injEq] at ee
    exact ⟨e, he, ee.1⟩
theorem ward_mem {c : List Deed} {day : Int} (hok : ∀ d ∈ c, d.okB = true) {w : World} {lo B bm clock : Nat} {es : Array MapEntry} (hR : ThR w lo B bm (sub c)) (hb : w.heap[bm]? = some (.map es clock)) (a : Int) :
    a ∈ wardJ c day 99 ↔ ∃ e ∈ es.toList, wardP c day e a := by
  have hj : a ∈ wardJ c day 99 ↔ ∃ i : Nat, i < 99 ∧ askI (thr c (0, (i : Int) + 1)) day (·.office) = 1 ∧ (i : Int) + 1 = a := by
    unfold wardJ
    rw [List.mem_map]
    constructor
    · rintro ⟨i, hi, e⟩
      obtain ⟨h1, h2⟩ := List.mem_filter.1 hi
      exact ⟨i, List.mem_range.1 h1, by simpa using h2, e⟩
    · rintro ⟨i, h1, h2, e⟩
      exact ⟨i, List.mem_filter.2 ⟨List.mem_range.2 h1, by simpa using h2⟩, e⟩
  rw [hj]
  constructor
  · rintro ⟨i, hi, h1, h2⟩
    have hne : sub c (0, (i : Int) + 1) ≠ [] := fun e => by
      have h3 : thr c (0, (i : Int) + 1) = [] := by unfold thr; rw [e]; rfl
      rw [h3] at h1
      exact ask_nil day h1
    obtain ⟨e, he, hk⟩ := thr_there hR hb hne
    exact ⟨e, he, 0, (i : Int) + 1, hk, by omega, h1, h2⟩
  · rintro ⟨e, he, l, p, hk, hp, h1, rfl⟩
    have hne : thr c (l, p) ≠ [] := fun e => by
      rw [e] at h1
      exact ask_nil day h1
    obtain ⟨d, hd, hn⟩ := thr_ne hne
    have h2 := nm_person (hok d hd) (by rw [hn]; exact hp)
    rw [hn] at h2
    obtain ⟨h3, h4, h5⟩ := h2
    simp only at h3 h4 h5
    subst h3
    have h6 : ((p - 1).toNat : Int) + 1 = p := by omega
    exact ⟨(p - 1).toNat, by omega, by rw [h6]; exact h1, h6⟩
theorem wardJ_ss (c : List Deed) (day : Int) (k : Nat) : SS (wardJ c day k) := by
  unfold SS wardJ
  rw [List.pairwise_map]
  refine List.Pairwise.imp (R := fun (a b : Nat) => a < b) (fun h => by omega) ?_
  exact List.Pairwise.sublist List.filter_sublist List.pairwise_lt_range
theorem ward_rng {c : List Deed} {day a : Int} (h : a ∈ wardJ c day 99) : 1 ≤ a ∧ a ≤ 99 := by
  unfold wardJ at h
  obtain ⟨i, hi, rfl⟩ := List.mem_map.1 h
  have := List.mem_range.1 (List.mem_filter.1 hi).1
  omega
theorem ssw_len {hi : Int} : ∀ {xs : List Int} {lo : Int}, SS xs → (∀ a ∈ xs, lo ≤ a ∧ a ≤ hi) → xs.length ≤ (hi - lo + 1).toNat
  | [], _, _, _ => Nat.zero_le _
  | x :: l, lo, hs, hm => by
    unfold SS at hs
    rw [List.pairwise_cons] at hs
    have h1 := ssw_len (xs := l) (lo := x + 1) hs.2 fun a ha => ⟨by have := hs.1 a ha; omega, (hm a (List.mem_cons_of_mem _ ha)).2⟩
    have h2 := hm x List.mem_cons_self
    rw [List.length_cons]
    omega
/-- The wardens of the entries seen. -/
structure WInv (c : List Deed) (day : Int) (pre : List MapEntry) (xs : List Int) : Prop where
  ss : SS xs
  mem : ∀ a, a ∈ xs ↔ ∃ e ∈ pre, wardP c day e a
theorem WInv.nil (c : List Deed) (day : Int) : WInv c day [] [] := ⟨List.Pairwise.nil, fun a => by simp⟩
theorem WInv.skip {c : List Deed} {day : Int} {pre : List MapEntry} {xs : List Int} {e : MapEntry} (h : WInv c day pre xs) (he : ∀ a, ¬ wardP c day e a) : WInv c day (pre ++ [e]) xs :=
  ⟨h.ss, fun a => by
    rw [h.mem]
    constructor
    · rintro ⟨y, hy, hk⟩
      exact ⟨y, List.mem_append_left _ hy, hk⟩
    · rintro ⟨y, hy, hk⟩
      rcases List.mem_append.1 hy with h1 | h1
      · exact ⟨y, h1, hk⟩
      · simp at h1
        subst h1
        exact absurd hk (he a)⟩
theorem WInv.take {c : List Deed} {day p : Int} {pre : List MapEntry} {xs ys : List Int} {e : MapEntry} (h : WInv c day pre xs) (hy : SS ys) (hm : ∀ a, a ∈ ys ↔ a = p ∨ a ∈ xs) (he : ∀ a, wardP c day e a ↔ a = p) : WInv c day (pre ++ [e]) ys :=
  ⟨hy, fun a => by
    rw [hm, h.mem]
    constructor
    · rintro (rfl | ⟨y, hy, hk⟩)
      · exact ⟨e, by simp, (he _).2 rfl⟩
      · exact ⟨y, List.mem_append_left _ hy, hk⟩
    · rintro ⟨y, hy, hk⟩
      rcases List.mem_append.1 hy with h1 | h1
      · exact .inr ⟨y, h1, hk⟩
      · simp at h1
        subst h1
        exact .inl ((he a).1 hk)⟩
theorem WInv.len {c : List Deed} {day : Int} {pre r : List MapEntry} {xs : List Int} (h : WInv c day pre xs) (hok : ∀ d ∈ c, d.okB = true) {w : World} {lo B bm clock : Nat} {es : Array MapEntry} (hR : ThR w lo B bm (sub c)) (hb : w.heap[bm]? = some (.map es clock)) (hp : (pre ++ r).Perm es.toList) : xs.length ≤ 99 := by
  have h1 := ssw_len (lo := 1) (hi := 99) h.ss fun a ha => by
    obtain ⟨e, he, hk⟩ := (h.mem a).1 ha
    exact ward_rng ((ward_mem (day := day) hok hR hb a).2 ⟨e, hp.mem_iff.1 (List.mem_append_left _ he), hk⟩)
  omega
theorem WInv.done {c : List Deed} {day : Int} {pre : List MapEntry} {xs : List Int} (h : WInv c day pre xs) (hok : ∀ d ∈ c, d.okB = true) {w : World} {lo B bm clock : Nat} {es : Array MapEntry} (hR : ThR w lo B bm (sub c)) (hb : w.heap[bm]? = some (.map es clock)) (hp : pre.Perm es.toList) : xs = wardJ c day 99 :=
  SS.ext h.ss (wardJ_ss c day 99) fun a => by
    rw [h.mem, ward_mem hok hR hb]
    exact ⟨fun ⟨e, he, hk⟩ => ⟨e, hp.mem_iff.1 he, hk⟩, fun ⟨e, he, hk⟩ => ⟨e, hp.mem_iff.2 he, hk⟩⟩
theorem below_setBlock {B r : Nat} {u w : World} (h : Below B u w) (hr : B ≤ r) (o : Obj) : Below B u (ChangeMaps.setBlock w r o) :=
  h.trans ⟨rfl, rfl, rfl, by show w.heap.size ≤ (w.heap.setIfInBounds r o).size; simp, fun c hc => setBlock_other (by omega) o⟩
theorem ward_err (ds : List Deed) (day kn : Int) : orL [errI (checkB ds) 11, errI (daysOk [day, kn]) 6] = askE ds [kn, day] := by
  unfold askE
  rw [days_comm day kn]
  cases checkB ds <;> cases daysOk [kn, day] <;> rfl

end Go.Proofs.YtaomfjgleddpdaaGreat
