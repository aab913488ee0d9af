import Derived.Test.YtaomfjgleddpdaaGreatQ6
set_option linter.unusedVariables false
set_option linter.unusedSimpArgs false

/- KeysOpeners: the days that Show returns: true ones, by which just so many deeds of a thread have happened. -/
namespace Go.Proofs.YtaomfjgleddpdaaGreat
open Go.RowKit

theorem mem_takeI {α : Type} {l : List α} {n : Nat} {x : α} : x ∈ l.take n ↔ ∃ a, a < n ∧ l[a]? = some x := by
  rw [List.mem_iff_getElem?]
  constructor
  · rintro ⟨a, ha⟩
    rw [List.getElem?_take] at ha
    split at ha
    · exact ⟨a, by assumption, ha⟩
    · cases ha
  · rintro ⟨a, h1, h2⟩
    exact ⟨a, by rw [List.getElem?_take, if_pos h1]; exact h2⟩
theorem mem_dropI {α : Type} {l : List α} {n : Nat} {x : α} : x ∈ l.drop n ↔ ∃ a, n ≤ a ∧ l[a]? = some x := by
  rw [List.mem_iff_getElem?]
  constructor
  · rintro ⟨a, ha⟩
    rw [List.getElem?_drop] at ha
    exact ⟨n + a, by omega, ha⟩
  · rintro ⟨a, h1, h2⟩
    exact ⟨a - n, by rw [List.getElem?_drop, show n + (a - n) = a by omega]; exact h2⟩
theorem thr_sub {c : List Deed} {nm : Nm} {a : Nat} {x : Deed} (h : (thr c nm)[a]? = some x) : ∃ i, (sub c nm)[a]? = some (x, i) := by
  unfold thr at h
  rw [List.getElem?_map] at h
  cases hp : (sub c nm)[a]? with
  | none => rw [hp] at h; cases h
  | some p =>
    rw [hp] at h
    have h' : p.1 = x := by simpa using h
    exact ⟨p.2, by rw [← h']⟩
theorem thr_le {c : List Deed} (hok : ∀ d ∈ c, d.okB = true) (hc : clF c = false) {nm : Nm} {a b : Nat} {x y : Deed} (hab : a ≤ b) (ha : (thr c nm)[a]? = some x) (hb : (thr c nm)[b]? = some y) : x.lo ≤ y.hi := by
  obtain ⟨i, hi⟩ := thr_sub ha
  obtain ⟨j, hj⟩ := thr_sub hb
  obtain ⟨i1, i2⟩ := sub_mem.1 (List.mem_of_getElem? hi)
  obtain ⟨j1, j2⟩ := sub_mem.1 (List.mem_of_getElem? hj)
  rcases Nat.lt_or_ge a b with h | h
  · have hr := List.pairwise_iff_getElem.1 (sub_rise c nm)
    have h1 := (List.getElem?_eq_some_iff.1 hi)
    have h2 := (List.getElem?_eq_some_iff.1 hj)
    have h3 := hr a b h1.1 h2.1 h
    rw [h1.2, h2.2] at h3
    exact not_contra hc h3 i1 j1 (i2.trans j2.symm)
  · obtain rfl : a = b := by omega
    rw [ha] at hb
    cases hb
    exact (okB_days (hok _ (List.mem_of_getElem? i1))).2.1
theorem thr_rng {c : List Deed} (hok : ∀ d ∈ c, d.okB = true) {nm : Nm} {a : Nat} {x : Deed} (ha : (thr c nm)[a]? = some x) : 0 ≤ x.lo ∧ x.lo ≤ x.hi ∧ x.hi ≤ 100000 :=
  okB_days (thr_ok hok nm x (List.mem_of_getElem? ha))
/-- The day that is set of the deed at a thread's place: as early, or as late, as may be. -/
def setI (T : List Deed) (h p : Nat) : Int := if p < h then eaI (T.take (p + 1)) else laI (T.drop p)
theorem ea_le {T : List Deed} {p q : Nat} (hpq : p ≤ q) : eaI (T.take p) ≤ eaI (T.take q) := by
  obtain ⟨h1, _, h3⟩ := ea_spec (T.take q)
  obtain ⟨_, h2, _⟩ := ea_spec (T.take p)
  rcases h2 with h2 | ⟨o, ho, h2⟩
  · omega
  · obtain ⟨a, ha, hx⟩ := mem_takeI.1 ho
    have := h1 o (mem_takeI.2 ⟨a, by omega, hx⟩)
    omega
theorem la_le {T : List Deed} {p q : Nat} (hpq : p ≤ q) : laI (T.drop p) ≤ laI (T.drop q) := by
  obtain ⟨h1, _, h3⟩ := la_spec (T.drop p)
  obtain ⟨_, h2, _⟩ := la_spec (T.drop q)
  rcases h2 with h2 | ⟨o, ho, h2⟩
  · omega
  · obtain ⟨a, ha, hx⟩ := mem_dropI.1 ho
    have := h1 o (mem_dropI.2 ⟨a, by omega, hx⟩)
    omega
theorem ea_la {c : List Deed} (hok : ∀ d ∈ c, d.okB = true) (hc : clF c = false) (nm : Nm) {p q : Nat} (hpq : p ≤ q) : eaI ((thr c nm).take (p + 1)) ≤ laI ((thr c nm).drop q) := by
  obtain ⟨_, h1, _⟩ := ea_spec ((thr c nm).take (p + 1))
  obtain ⟨_, h2, _⟩ := la_spec ((thr c nm).drop q)
  rcases h1 with h1 | ⟨o, ho, h1⟩ <;> rcases h2 with h2 | ⟨u, hu, h2⟩
  · omega
  · obtain ⟨b, hb, hx⟩ := mem_dropI.1 hu
    have := thr_rng hok hx
    omega
  · obtain ⟨a, ha, hx⟩ := mem_takeI.1 ho
    have := thr_rng hok hx
    omega
  · obtain ⟨a, ha, hx⟩ := mem_takeI.1 ho
    obtain ⟨b, hb, hy⟩ := mem_dropI.1 hu
    have := thr_le hok hc (show a ≤ b by omega) hx hy
    omega
theorem set_rng {c : List Deed} (hok : ∀ d ∈ c, d.okB = true) (hc : clF c = false) {nm : Nm} {p : Nat} {x : Deed} (hx : (thr c nm)[p]? = some x) (h : Nat) : x.lo ≤ setI (thr c nm) h p ∧ setI (thr c nm) h p ≤ x.hi := by
  have h1 := (ea_spec ((thr c nm).take (p + 1))).1 x (mem_takeI.2 ⟨p, by omega, hx⟩)
  have h2 := (la_spec ((thr c nm).drop p)).1 x (mem_dropI.2 ⟨p, by omega, hx⟩)
  have h3 := ea_la hok hc nm (Nat.le_refl p)
  unfold setI
  split <;> omega
theorem set_mono {c : List Deed} (hok : ∀ d ∈ c, d.okB = true) (hc : clF c = false) (nm : Nm) {p q : Nat} (hpq : p ≤ q) (h : Nat) : setI (thr c nm) h p ≤ setI (thr c nm) h q := by
  have h1 := ea_le (T := thr c nm) (show p + 1 ≤ q + 1 by omega)
  have h2 := la_le (T := thr c nm) hpq
  have h3 := ea_la hok hc nm hpq
  unfold setI
  split <;> split <;> omega
/-- The place of a deed in its thread. -/
def posN (c : List Deed) (i : Nat) (nm : Nm) : Nat := ((c.take i).filter fun x => decide (nmD x = nm)).length
theorem zi_filter_len (nm : Nm) : ∀ (l : List Deed) (k : Nat), ((l.zipIdx k).filter fun x => decide (nmD x.1 = nm)).length = (l.filter fun x => decide (nmD x = nm)).length
  | [], _ => rfl
  | a :: l, k => by
    rw [List.zipIdx_cons, List.filter_cons, List.filter_cons]
    simp only
    split
    · rw [List.length_cons, List.length_cons, zi_filter_len nm l]
    · exact zi_filter_len nm l _
theorem sub_pos {c : List Deed} {i : Nat} {d : Deed} (h : c[i]? = some d) : (sub c (nmD d))[posN c i (nmD d)]? = some (d, i) := by
  have hi := (List.getElem?_eq_some_iff.1 h).1
  have hc : c = c.take i ++ d :: c.drop (i + 1) := by rw [← drop_cons h, List.take_append_drop]
  have hl : (c.take i).length = i := by rw [List.length_take]; omega
  have hz : c.zipIdx = (c.take i).zipIdx ++ (d, i) :: (c.drop (i + 1)).zipIdx (i + 1) := by
    conv => lhs; rw [hc]
    rw [List.zipIdx_append, List.zipIdx_cons, hl]
    simp
  unfold sub
  rw [hz, List.filter_append, List.filter_cons_of_pos (by simp), List.getElem?_append_right (by rw [zi_filter_len]; exact Nat.le_refl _), zi_filter_len]
  unfold posN
  simp
theorem sub_nd (c : List Deed) (nm : Nm) {a b : Nat} {x y : Deed} {i : Nat} (ha : (sub c nm)[a]? = some (x, i)) (hb : (sub c nm)[b]? = some (y, i)) : a = b := by
  have hr := List.pairwise_iff_getElem.1 (sub_rise c nm)
  obtain ⟨h1, e1⟩ := List.getElem?_eq_some_iff.1 ha
  obtain ⟨h2, e2⟩ := List.getElem?_eq_some_iff.1 hb
  rcases Nat.lt_trichotomy a b with h | h | h
  · have h3 := hr a b h1 h2 h
    rw [e1, e2] at h3
    simp at h3
  · exact h
  · have h3 := hr b a h2 h1 h
    rw [e1, e2] at h3
    simp at h3
/-- What Show sets for each deed, if so many of each thread have happened. -/
def shwI (c : List Deed) (hN : Nm → Nat) (i : Nat) : Int := match c[i]? with
  | some d => setI (thr c (nmD d)) (hN (nmD d)) (posN c i (nmD d))
  | none => 0
def shwL (c : List Deed) (hN : Nm → Nat) : List Int := (List.range c.length).map (shwI c hN)
theorem shwL_at {c : List Deed} {hN : Nm → Nat} {i : Nat} {d : Deed} (h : c[i]? = some d) : (shwL c hN)[i]? = some (setI (thr c (nmD d)) (hN (nmD d)) (posN c i (nmD d))) := by
  have hi := (List.getElem?_eq_some_iff.1 h).1
  unfold shwL
  rw [List.getElem?_map, List.getElem?_range hi]
  simp [shwI, h]
theorem shw_sub {c : List Deed} {hN : Nm → Nat} {nm : Nm} {p i : Nat} {d : Deed} (h : (sub c nm)[p]? = some (d, i)) : (shwL c hN)[i]? = some (setI (thr c nm) (hN nm) p) := by
  obtain ⟨h1, h2⟩ := sub_mem.1 (List.mem_of_getElem? h)
  have h2' : nmD d = nm := h2
  have h3 := sub_pos h1
  rw [h2'] at h3
  have h4 := sub_nd c nm h h3
  rw [shwL_at h1, h2', h4]
theorem pos_le {c : List Deed} {k i : Nat} (h : k ≤ i) (nm : Nm) : posN c k nm ≤ posN c i nm := by
  unfold posN
  have e : c.take k = (c.take i).take k := by rw [List.take_take, Nat.min_eq_left h]
  rw [e]
  exact ((List.take_sublist k (c.take i)).filter _).length_le
theorem shw_true {c : List Deed} (hok : ∀ d ∈ c, d.okB = true) (hc : clF c = false) (hN : Nm → Nat) : trueB c (shwL c hN) = true := by
  unfold trueB
  rw [show (shwL c hN).length = c.length by simp [shwL], decide_eq_true rfl, Bool.true_and, List.all_eq_true]
  intro i hi
  have hil := List.mem_range.1 hi
  obtain ⟨d, hd⟩ : ∃ d, c[i]? = some d := ⟨_, List.getElem?_eq_getElem hil⟩
  have hx : (thr c (nmD d))[posN c i (nmD d)]? = some d := by unfold thr; rw [List.getElem?_map, sub_pos hd]; rfl
  obtain ⟨r1, r2⟩ := set_rng hok hc hx (hN (nmD d))
  unfold trAtB
  rw [hd, shwL_at hd]
  simp only [Bool.and_eq_true, List.all_eq_true, List.mem_range]
  refine ⟨by unfold withinB; simp only [Bool.and_eq_true, decide_eq_true_eq]; omega, fun j hj => ?_⟩
  unfold aheadB
  obtain ⟨e, he⟩ : ∃ e, c[j]? = some e := ⟨_, List.getElem?_eq_getElem (by omega)⟩
  rw [he, shwL_at he]
  simp only [Bool.or_eq_true, Bool.not_eq_true', decide_eq_true_eq]
  cases hs : sameB e d with
  | false => exact .inl rfl
  | true =>
    right
    have hn := sameB_nm.1 hs
    rw [hn]
    exact set_mono hok hc (nmD d) (pos_le (by omega) (nmD d)) _
theorem shw_n {c : List Deed} {hN : Nm → Nat} {nm : Nm} {day : Int} (hle : hN nm ≤ (thr c nm).length) (hm : mayB (thr c nm) (hN nm) day = true) : truN (shwL c hN) (ixL c nm) day = hN nm := by
  have hl : (sub c nm).length = (thr c nm).length := by simp [thr]
  rw [tru_len]
  unfold onL
  unfold mayB at hm
  simp only [Bool.and_eq_true, Bool.or_eq_true, decide_eq_true_eq] at hm
  have h1 : ((sub c nm).take (hN nm)).filter (fun x => decide (((shwL c hN)[x.2]?).getD 0 ≤ day)) = (sub c nm).take (hN nm) := by
    rw [List.filter_eq_self]
    intro x hx
    obtain ⟨p, hp, hx⟩ := mem_takeI.1 hx
    have hx' : (sub c nm)[p]? = some (x.1, x.2) := hx
    rw [shw_sub hx', Option.getD_some, decide_eq_true_eq]
    unfold setI
    rw [if_pos hp]
    have h2 := ea_le (T := thr c nm) (show p + 1 ≤ hN nm by omega)
    rcases hm.1 with h | h <;> omega
  have h2 : ((sub c nm).drop (hN nm)).filter (fun x => decide (((shwL c hN)[x.2]?).getD 0 ≤ day)) = [] := by
    rw [List.filter_eq_nil_iff]
    intro x hx
    obtain ⟨p, hp, hx⟩ := mem_dropI.1 hx
    have hx' : (sub c nm)[p]? = some (x.1, x.2) := hx
    have hpl := (List.getElem?_eq_some_iff.1 hx).1
    rw [shw_sub hx', Option.getD_some, decide_eq_true_eq]
    unfold setI
    rw [if_neg (by omega)]
    have h2 := la_le (T := thr c nm) hp
    rcases hm.2 with h | h <;> omega
  rw [← List.take_append_drop (hN nm) (sub c nm), List.filter_append, h1, h2, List.append_nil, List.length_take]
  omega
theorem shw_st {c : List Deed} {hN : Nm → Nat} {nm : Nm} {day : Int} {x : Nat × St} (hx : x ∈ stsL (thr c nm) day) (hh : hN nm = x.1) : stT c (shwL c hN) nm day = x.2 := by
  obtain ⟨k, hk, hm, rfl⟩ := mem_sts.1 hx
  simp only at hh
  rw [stT_run, shw_n (by omega) (by rw [hh]; exact hm), hh]

end Go.Proofs.YtaomfjgleddpdaaGreat
