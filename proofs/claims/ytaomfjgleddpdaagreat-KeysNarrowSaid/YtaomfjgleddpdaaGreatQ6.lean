import Derived.Test.YtaomfjgleddpdaaGreatQ2
set_option linter.unusedVariables false
set_option linter.unusedSimpArgs false

/- KeysOpeners: by whom an opening is surely lawful. -/
namespace Go.Proofs.YtaomfjgleddpdaaGreat
open Go.RowKit

theorem so_zero {f : Int → Bool} {a b c : St} (h : ¬ 0 < soN f a b c 3) : ∀ i, i < 3 → f (st3 a b c i).holder = false := by
  intro i hi
  cases hf : f (st3 a b c i).holder with
  | false => rfl
  | true =>
    exfalso
    unfold soN soN soN soN at h
    have hi' : i = 0 ∨ i = 1 ∨ i = 2 := by omega
    rcases hi' with rfl | rfl | rfl <;> rw [if_pos hf] at h <;> omega
theorem so_three {f : Int → Bool} {a b c : St} (h : ∀ i, i < 3 → f (st3 a b c i).holder = true) : soN f a b c 3 = 3 := by
  unfold soN soN soN soN
  rw [if_pos (h 0 (by omega)), if_pos (h 1 (by omega)), if_pos (h 2 (by omega))]
theorem mem_scn {T1 T2 T3 : List Deed} {day : Int} {x : Sc} (h : x ∈ scnL T1 T2 T3 day) : x.1 ∈ stsL T1 day ∧ x.2.1 ∈ stsL T2 day ∧ x.2.2 ∈ stsL T3 day := by
  unfold scnL at h
  obtain ⟨a, ha, h⟩ := List.mem_flatMap.1 h
  obtain ⟨b, hb, h⟩ := List.mem_flatMap.1 h
  obtain ⟨c, hc, rfl⟩ := List.mem_map.1 h
  exact ⟨ha, hb, hc⟩
theorem sts_some {c : List Deed} (hok : ∀ d ∈ c, d.okB = true) (hc : clF c = false) (nm : Nm) (day : Int) : ∃ x, x ∈ stsL (thr c nm) day :=
  ⟨_, stT_sts hok (tr_true hok hc []) nm day⟩
/-- No scene speaks against it. -/
theorem wit_none {c : List Deed} {ps : List Int} {day : Int} : witB c ps day false = false ↔ ∀ x ∈ scnL (thr c (1, 0)) (thr c (2, 0)) (thr c (3, 0)) day, openB x.1.2 x.2.1.2 x.2.2.2 ps = true ∧ ∀ i, i < 3 → offB c day false (st3 x.1.2 x.2.1.2 x.2.2.2 i).holder = false := by
  unfold witB
  rw [List.any_eq_false]
  constructor
  · intro h x hx
    have h1 := h x hx
    unfold condB at h1
    rw [if_neg (by simp), Bool.or_eq_true, not_or, decide_eq_true_eq] at h1
    exact ⟨by simpa using h1.1, so_zero h1.2⟩
  · intro h x hx
    obtain ⟨h1, h2⟩ := h x hx
    unfold condB
    rw [if_neg (by simp), h1]
    unfold soN soN soN soN
    rw [h2 0 (by omega), h2 1 (by omega), h2 2 (by omega)]
    simp
theorem off_true {c : List Deed} (hok : ∀ d ∈ c, d.okB = true) (hc : clF c = false) {day p : Int} (h : offB c day false p = false) : offB c day true p = true := by
  obtain ⟨x, hx⟩ := sts_some hok hc (0, p) day
  unfold offB at h ⊢
  rw [List.any_eq_false] at h
  refine List.any_eq_true.2 ⟨x, hx, ?_⟩
  have := h x hx
  cases hv : x.2.office <;> simp [hv] at this ⊢
theorem wit_all {c : List Deed} (hok : ∀ d ∈ c, d.okB = true) (hc : clF c = false) {ps : List Int} {day : Int} (h : witB c ps day false = false) : witB c ps day true = true := by
  obtain ⟨x, hx⟩ := sts_some hok hc (1, 0) day
  obtain ⟨y, hy⟩ := sts_some hok hc (2, 0) day
  obtain ⟨z, hz⟩ := sts_some hok hc (3, 0) day
  have hm := scn_mem hx hy hz
  obtain ⟨h1, h2⟩ := wit_none.1 h _ hm
  refine List.any_eq_true.2 ⟨_, hm, ?_⟩
  unfold condB
  rw [if_pos rfl, h1, so_three fun i hi => off_true hok hc (h2 i hi)]
  rfl
theorem hand_in {c : List Deed} (hok : ∀ d ∈ c, d.okB = true) (hc : clF c = false) {ps : List Int} {day : Int} (h : witB c ps day false = false) : ∀ p ∈ opnH c day, p ∈ ps := by
  intro p hp
  obtain ⟨j, hj, x, hx, rfl⟩ := opnH_mem.1 hp
  obtain ⟨y1, h1⟩ := sts_some hok hc (1, 0) day
  obtain ⟨y2, h2⟩ := sts_some hok hc (2, 0) day
  obtain ⟨y3, h3⟩ := sts_some hok hc (3, 0) day
  obtain rfl | rfl | rfl : j = 0 ∨ j = 1 ∨ j = 2 := by omega
  · have hx' : x ∈ stsL (thr c (1, 0)) day := hx
    exact (openB_iff.1 (wit_none.1 h _ (scn_mem hx' h2 h3)).1 0 (by omega)).1
  · have hx' : x ∈ stsL (thr c (2, 0)) day := hx
    exact (openB_iff.1 (wit_none.1 h _ (scn_mem h1 hx' h3)).1 1 (by omega)).1
  · have hx' : x ∈ stsL (thr c (3, 0)) day := hx
    exact (openB_iff.1 (wit_none.1 h _ (scn_mem h1 h2 hx')).1 2 (by omega)).1
theorem hand_of {c : List Deed} {day : Int} {x : Sc} (hx : x ∈ scnL (thr c (1, 0)) (thr c (2, 0)) (thr c (3, 0)) day) : ∀ i, i < 3 → (st3 x.1.2 x.2.1.2 x.2.2.2 i).hand ∈ opnH c day := by
  obtain ⟨h1, h2, h3⟩ := mem_scn hx
  intro i hi
  rw [opnH_mem]
  obtain rfl | rfl | rfl : i = 0 ∨ i = 1 ∨ i = 2 := by omega
  · exact ⟨0, by omega, _, h1, rfl⟩
  · exact ⟨1, by omega, _, h2, rfl⟩
  · exact ⟨2, by omega, _, h3, rfl⟩
theorem open_more {a b c : St} {xs ys : List Int} (h : openB a b c xs = true) (hm : ∀ i, i < 3 → (st3 a b c i).hand ∈ ys) : openB a b c ys = true :=
  openB_iff.2 fun i hi => ⟨hm i hi, (openB_iff.1 h i hi).2⟩
theorem ss_sub : ∀ {xs ys : List Int}, SS xs → (∀ a ∈ xs, a ∈ ys) → xs.length ≤ ys.length
  | [], ys => fun _ _ => Nat.zero_le _
  | x :: xs, ys => fun h hs => by
    obtain ⟨h1, h2⟩ := List.pairwise_cons.1 h
    have hx := hs x List.mem_cons_self
    have h3 := ss_sub (xs := xs) (ys := ys.erase x) h2 fun a ha => (List.mem_erase_of_ne (by have := h1 a ha; omega)).2 (hs a (List.mem_cons_of_mem _ ha))
    rw [List.length_erase_of_mem hx] at h3
    have h4 : 0 < ys.length := List.length_pos_of_mem hx
    rw [List.length_cons]
    omega
theorem pers_in {ys : List Int} (h : personsB ys = true) : ys.length ≤ 12 ∧ ∀ a ∈ ys, withinB a 1 99 = true := by
  unfold personsB at h
  rw [Bool.and_eq_true, decide_eq_true_eq, List.all_eq_true] at h
  refine ⟨h.1, fun a ha => ?_⟩
  obtain ⟨k, hk, rfl⟩ := List.getElem_of_mem ha
  have h1 := h.2 k (List.mem_range.2 hk)
  unfold okP at h1
  rw [List.getElem?_eq_getElem hk] at h1
  rw [Bool.and_eq_true] at h1
  exact h1.1
theorem pers_ss {xs : List Int} (hs : SS xs) (hl : xs.length ≤ 12) (hw : ∀ a ∈ xs, withinB a 1 99 = true) : personsB xs = true := by
  unfold personsB
  rw [Bool.and_eq_true, decide_eq_true_eq, List.all_eq_true]
  refine ⟨hl, fun k hk => ?_⟩
  have hk' := List.mem_range.1 hk
  unfold okP
  rw [List.getElem?_eq_getElem hk']
  simp only [Bool.and_eq_true, Bool.or_eq_true]
  refine ⟨hw _ (List.getElem_mem hk'), ?_⟩
  by_cases h0 : k = 0
  · exact .inl (by simp [h0])
  · right
    rw [List.getElem?_eq_getElem (show k - 1 < xs.length by omega)]
    simp only [decide_eq_true_eq]
    exact List.pairwise_iff_getElem.1 hs (k - 1) k (by omega) hk' (by omega)
theorem opn_if {c : List Deed} (hok : ∀ d ∈ c, d.okB = true) (hc : clF c = false) {ps : List Int} {day : Int} (hp : personsB ps = true) (h : witB c ps day false = false) : opnOk c day = true := by
  have h1 := hand_in hok hc h
  have h2 := pers_in hp
  have hss : SS (opnH c day) := srtL_ss _
  unfold opnOk
  rw [Bool.and_eq_true, Bool.not_eq_true']
  refine ⟨pers_ss hss (Nat.le_trans (ss_sub hss h1) h2.1) fun a ha => h2.2 a (h1 a ha), ?_⟩
  rw [wit_none] at h ⊢
  exact fun x hx => ⟨open_more (h x hx).1 (hand_of hx), (h x hx).2⟩
theorem opn_iff {c : List Deed} (hok : ∀ d ∈ c, d.okB = true) (hc : clF c = false) {ps : List Int} {day : Int} (ho : opnOk c day = true) : (∀ p ∈ opnH c day, p ∈ ps) ↔ witB c ps day false = false := by
  refine ⟨fun h => ?_, hand_in hok hc⟩
  unfold opnOk at ho
  rw [Bool.and_eq_true, Bool.not_eq_true'] at ho
  have h1 := ho.2
  rw [wit_none] at h1 ⊢
  exact fun x hx => ⟨open_more (h1 x hx).1 fun i hi => h _ (hand_of hx i hi), (h1 x hx).2⟩
theorem ans_yes {c : List Deed} (hok : ∀ d ∈ c, d.okB = true) (hc : clF c = false) {ps : List Int} {day : Int} : ansI (witB c ps day true) (witB c ps day false) = 1 ↔ witB c ps day false = false := by
  constructor
  · intro h
    cases h1 : witB c ps day false with
    | false => rfl
    | true =>
      rw [h1] at h
      cases h2 : witB c ps day true <;> rw [h2] at h <;> simp [ansI] at h
  · intro h
    rw [h, wit_all hok hc h]
    rfl

end Go.Proofs.YtaomfjgleddpdaaGreat
