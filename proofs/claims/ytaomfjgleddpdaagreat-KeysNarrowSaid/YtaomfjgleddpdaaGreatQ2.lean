import Derived.Test.YtaomfjgleddpdaaGreatQ1
import Derived.Test.YtaomfjgleddpdaaGreatB9
set_option linter.unusedVariables false
set_option linter.unusedSimpArgs false

/- KeysTrue: the deeds that have happened by true days are a thread's first ones. -/
namespace Go.Proofs.YtaomfjgleddpdaaGreat
open Go.RowKit

theorem filter_pre {α : Type} (f : α → Int) (day : Int) : ∀ {T : List α}, T.Pairwise (fun a b => f a ≤ f b) → (T.filter fun x => decide (f x ≤ day)) = T.take (T.filter fun x => decide (f x ≤ day)).length
  | [], _ => rfl
  | x :: l, h => by
    rw [List.pairwise_cons] at h
    by_cases hx : f x ≤ day
    · rw [List.filter_cons_of_pos (by simpa using hx), List.length_cons, List.take_succ_cons, ← filter_pre f day h.2]
    · have h1 : (l.filter fun x => decide (f x ≤ day)) = [] := by
        rw [List.filter_eq_nil_iff]
        intro y hy
        have := h.1 y hy
        simp
        omega
      rw [List.filter_cons_of_neg (by simpa using hx), h1]
      rfl
theorem sub_rise (c : List Deed) (nm : Nm) : (sub c nm).Pairwise fun a b => a.2 < b.2 := by
  unfold sub
  refine List.Pairwise.sublist List.filter_sublist ?_
  have h : (c.zipIdx.map Prod.snd).Pairwise (· < ·) := by
    rw [List.zipIdx_map_snd]
    exact List.pairwise_lt_range'
  rwa [List.pairwise_map] at h
/-- The true day of a deed. -/
def dyI (xs : List Int) (x : Deed × Nat) : Int := (xs[x.2]?).getD 0
theorem true_at {c : List Deed} {xs : List Int} (h : trueB c xs = true) {i : Nat} {d : Deed} (hd : c[i]? = some d) : ∃ x, xs[i]? = some x ∧ d.lo ≤ x ∧ x ≤ d.hi ∧ ∀ k e y, k < i → c[k]? = some e → xs[k]? = some y → sameB e d = true → y ≤ x := by
  unfold trueB at h
  rw [Bool.and_eq_true, decide_eq_true_eq, List.all_eq_true] at h
  have hi := (List.getElem?_eq_some_iff.1 hd).1
  obtain ⟨x, hx⟩ : ∃ x, xs[i]? = some x := ⟨_, List.getElem?_eq_getElem (by omega)⟩
  have h1 := h.2 i (List.mem_range.2 hi)
  unfold trAtB at h1
  rw [hd, hx] at h1
  simp only [Bool.and_eq_true, List.all_eq_true, List.mem_range] at h1
  obtain ⟨h2, h3⟩ := h1
  unfold withinB at h2
  simp only [Bool.and_eq_true, decide_eq_true_eq] at h2
  refine ⟨x, hx, h2.1, h2.2, fun k e y hk he hy hs => ?_⟩
  have h4 := h3 k hk
  unfold aheadB at h4
  rw [he, hy] at h4
  simpa [hs] using h4
theorem true_pair {c : List Deed} {xs : List Int} (h : trueB c xs = true) (nm : Nm) : (sub c nm).Pairwise fun a b => dyI xs a ≤ dyI xs b := by
  refine List.Pairwise.imp_of_mem ?_ (sub_rise c nm)
  intro a b ha hb hlt
  obtain ⟨a1, a2⟩ := sub_mem.1 ha
  obtain ⟨b1, b2⟩ := sub_mem.1 hb
  obtain ⟨x, hx, _, _, h3⟩ := true_at h b1
  obtain ⟨y, hy, _⟩ := true_at h a1
  have h4 := h3 _ _ _ hlt a1 hy (by
    unfold nmD at a2 b2
    have e := a2.trans b2.symm
    simp only [Prod.mk.injEq] at e
    unfold sameB
    simp [e.1, e.2])
  unfold dyI
  rw [hx, hy]
  exact h4
theorem tru_len (c : List Deed) (xs : List Int) (nm : Nm) (day : Int) : truN xs (ixL c nm) day = (onL (sub c nm) xs day).length := by
  unfold truN ixL onL
  rw [List.filter_map, List.length_map]
  rfl
theorem on_take {c : List Deed} {xs : List Int} (h : trueB c xs = true) (nm : Nm) (day : Int) : onL (sub c nm) xs day = (sub c nm).take (truN xs (ixL c nm) day) := by
  rw [tru_len]
  exact filter_pre (dyI xs) day (true_pair h nm)

end Go.Proofs.YtaomfjgleddpdaaGreat

/- KeysTrue: the state by true days is one of the states that may be. -/
namespace Go.Proofs.YtaomfjgleddpdaaGreat
open Go.RowKit

theorem drop_not {α : Type} (f : α → Int) (day : Int) : ∀ {T : List α}, T.Pairwise (fun a b => f a ≤ f b) → ∀ y ∈ T.drop (T.filter fun x => decide (f x ≤ day)).length, day < f y
  | [], _ => fun y hy => by simp at hy
  | x :: l, h => fun y hy => by
    rw [List.pairwise_cons] at h
    by_cases hx : f x ≤ day
    · rw [List.filter_cons_of_pos (by simpa using hx), List.length_cons, List.drop_succ_cons] at hy
      exact drop_not f day h.2 y hy
    · rcases List.mem_cons.1 (List.mem_of_mem_drop hy) with rfl | h1
      · omega
      · have := h.1 y h1
        omega
theorem okB_days {d : Deed} (h : d.okB = true) : 0 ≤ d.lo ∧ d.lo ≤ d.hi ∧ d.hi ≤ 100000 := by
  unfold Deed.okB rangeB at h
  simp only [Bool.and_eq_true, decide_eq_true_eq] at h
  exact ⟨h.2.2.1.1, h.2.2.1.2.1, h.2.2.1.2.2⟩
theorem tru_le (c : List Deed) (xs : List Int) (nm : Nm) (day : Int) : truN xs (ixL c nm) day ≤ (thr c nm).length := by
  have h := truN_le xs (ixL c nm) day
  rwa [ixL_thr] at h
theorem sub_dy {c : List Deed} {xs : List Int} (h : trueB c xs = true) {nm : Nm} {p : Deed × Nat} (hp : p ∈ sub c nm) : p.1.lo ≤ dyI xs p ∧ dyI xs p ≤ p.1.hi := by
  obtain ⟨x, hx, h1, h2, _⟩ := true_at h (sub_mem.1 hp).1
  unfold dyI
  rw [hx]
  exact ⟨h1, h2⟩
theorem tru_may {c : List Deed} {xs : List Int} (hok : ∀ d ∈ c, d.okB = true) (h : trueB c xs = true) (nm : Nm) (day : Int) : mayB (thr c nm) (truN xs (ixL c nm) day) day = true := by
  have hle := tru_le c xs nm day
  have hon := on_take h nm day
  have hdr := drop_not (dyI xs) day (true_pair h nm)
  have hlen := tru_len c xs nm day
  unfold onL at hlen
  rw [show ((sub c nm).filter fun x => decide (dyI xs x ≤ day)).length = truN xs (ixL c nm) day from hlen.symm] at hdr
  generalize truN xs (ixL c nm) day = k at hle hon hdr
  have hsl : (sub c nm).length = (thr c nm).length := by simp [thr]
  unfold mayB
  rw [Bool.and_eq_true, Bool.or_eq_true, Bool.or_eq_true, decide_eq_true_eq, decide_eq_true_eq, decide_eq_true_eq, decide_eq_true_eq]
  constructor
  · by_cases h0 : k = 0
    · exact .inl h0
    · right
      have hin : ∀ p ∈ (sub c nm).take k, p.1.lo ≤ day := fun p hp => by
        rw [← hon] at hp
        obtain ⟨p1, p2⟩ := List.mem_filter.1 hp
        have h1 := (sub_dy h p1).1
        have h2 : dyI xs p ≤ day := of_decide_eq_true p2
        omega
      have htk : (thr c nm).take k = ((sub c nm).take k).map (·.1) := by unfold thr; rw [List.map_take]
      rcases (ea_spec ((thr c nm).take k)).2.1 with e | ⟨o, ho, e⟩
      · obtain ⟨p, hp⟩ : ∃ p, p ∈ (sub c nm).take k := List.exists_mem_of_ne_nil _ (by
          intro e2
          have h1 : ((sub c nm).take k).length = min k (sub c nm).length := List.length_take
          rw [e2, List.length_nil] at h1
          omega)
        have h1 := hin p hp
        have h2 := okB_days (hok p.1 (List.mem_of_getElem? (sub_mem.1 (List.mem_of_mem_take hp)).1))
        omega
      · rw [htk] at ho
        obtain ⟨p, hp, rfl⟩ := List.mem_map.1 ho
        rw [e]
        exact hin p hp
  · by_cases h0 : k = (thr c nm).length
    · exact .inl h0
    · right
      have hin : ∀ p ∈ (sub c nm).drop k, day < p.1.hi := fun p hp => by
        have h1 := hdr p hp
        have h2 := (sub_dy h (List.mem_of_mem_drop hp)).2
        omega
      have htk : (thr c nm).drop k = ((sub c nm).drop k).map (·.1) := by unfold thr; rw [List.map_drop]
      rcases (la_spec ((thr c nm).drop k)).2.1 with e | ⟨o, ho, e⟩
      · obtain ⟨p, hp⟩ : ∃ p, p ∈ (sub c nm).drop k := List.exists_mem_of_ne_nil _ (by
          intro e2
          have h1 : ((sub c nm).drop k).length = (sub c nm).length - k := List.length_drop
          rw [e2, List.length_nil] at h1
          omega)
        have h1 := hin p hp
        have h2 := okB_days (hok p.1 (List.mem_of_getElem? (sub_mem.1 (List.mem_of_mem_drop hp)).1))
        omega
      · rw [htk] at ho
        obtain ⟨p, hp, rfl⟩ := List.mem_map.1 ho
        rw [e]
        exact hin p hp
/-- The state by the true days. -/
def stT (c : List Deed) (xs : List Int) (nm : Nm) (day : Int) : St := stN (aftL (thr c nm)) (truN xs (ixL c nm) day)
theorem stT_run (c : List Deed) (xs : List Int) (nm : Nm) (day : Int) : stT c xs nm day = runSt ((thr c nm).take (truN xs (ixL c nm) day)) := stN_run _ (tru_le c xs nm day)
theorem stT_sts {c : List Deed} {xs : List Int} (hok : ∀ d ∈ c, d.okB = true) (h : trueB c xs = true) (nm : Nm) (day : Int) : (truN xs (ixL c nm) day, stT c xs nm day) ∈ stsL (thr c nm) day :=
  mem_sts.2 ⟨_, tru_le c xs nm day, tru_may hok h nm day, by rw [stT_run]⟩
theorem fold_key : ∀ {l : List Deed}, (∀ d ∈ l, d.okB = true) → ∀ s : St, l.foldl aftK (s.holder, s.hand) = ((l.foldl stepSt s).holder, (l.foldl stepSt s).hand)
  | [], _ => fun _ => rfl
  | d :: l, h => fun s => by
    rw [List.foldl_cons, List.foldl_cons, aftK_step (h d List.mem_cons_self)]
    exact fold_key (fun e he => h e (List.mem_cons_of_mem _ he)) _
theorem key_on {c : List Deed} {xs : List Int} (hok : ∀ d ∈ c, d.okB = true) (h : trueB c xs = true) (nm : Nm) (day : Int) : kyJ (sub c nm) xs day = ((stT c xs nm day).holder, (stT c xs nm day).hand) := by
  have htk : (thr c nm).take (truN xs (ixL c nm) day) = ((sub c nm).take (truN xs (ixL c nm) day)).map (·.1) := by unfold thr; rw [List.map_take]
  rw [stT_run, kyJ, on_take h, runSt, ← fold_key (s := St.zero) (fun d hd => thr_ok hok nm d (List.mem_of_mem_take hd)), htk, List.foldl_map]
  rfl
theorem fold_in {q : Int} : ∀ {l : List Deed}, (∀ d ∈ l, d.okB = true ∧ nmD d = (0, q)) → ∀ s : St, l.foldl (fun _ d => decide (d.kind = 1)) s.office = (l.foldl stepSt s).office
  | [], _ => fun _ => rfl
  | d :: l, h => fun s => by
    have h1 := h d List.mem_cons_self
    have h2 := (officeOf_is h1.1 h1.2).1
    have h3 : (stepSt s d).office = decide (d.kind = 1) := by
      unfold stepSt
      by_cases k1 : d.kind = 1
      · simp [k1]
      · have k2 : d.kind = 2 := by simp [officeB, k1] at h2; exact h2
        simp [k2]
    rw [List.foldl_cons, List.foldl_cons, ← h3]
    exact fold_in (fun e he => h e (List.mem_cons_of_mem _ he)) _
theorem in_on {c : List Deed} {xs : List Int} (hok : ∀ d ∈ c, d.okB = true) (h : trueB c xs = true) (q : Int) (day : Int) : inJ (sub c (0, q)) xs day = (stT c xs (0, q) day).office := by
  have htk : (thr c (0, q)).take (truN xs (ixL c (0, q)) day) = ((sub c (0, q)).take (truN xs (ixL c (0, q)) day)).map (·.1) := by unfold thr; rw [List.map_take]
  rw [stT_run, inJ, on_take h, runSt, ← fold_in (q := q) (s := St.zero) (fun d hd => by
    have h1 := List.mem_of_mem_take hd
    refine ⟨thr_ok hok _ d h1, ?_⟩
    unfold thr at h1
    obtain ⟨p, hp, rfl⟩ := List.mem_map.1 h1
    exact (sub_mem.1 hp).2), htk, List.foldl_map]
  rfl

end Go.Proofs.YtaomfjgleddpdaaGreat

/- KeysTrue: what is told of a lock and a person is not wrong of the state by true days. -/
namespace Go.Proofs.YtaomfjgleddpdaaGreat
open Go.RowKit

theorem ask_right {T : List Deed} {day : Int} {x : Nat × St} (hx : x ∈ stsL T day) (p : St → Bool) : wrongB (askI T day p) (p x.2) = false := by
  unfold askI ansI wrongB
  cases hp : p x.2 with
  | true =>
    have h : ((stsL T day).any fun x => p x.2) = true := List.any_eq_true.2 ⟨x, hx, hp⟩
    rw [h]
    cases (stsL T day).any fun x => !p x.2 <;> rfl
  | false =>
    have h : ((stsL T day).any fun x => !p x.2) = true := List.any_eq_true.2 ⟨x, hx, by simp [hp]⟩
    rw [h]
    cases (stsL T day).any fun x => p x.2 <;> rfl
theorem who_has {ds : List Deed} {lock day kn : Int} {x : Nat × St} (q : St → Int) (he : whoE ds lock day kn = 0) (hx : x ∈ stsL (thr (cntDs kn ds) (lock, 0)) day) : q x.2 ∈ whoL q ds lock day kn := by
  unfold whoL
  rw [if_pos he, srtL_mem]
  exact List.mem_map.2 ⟨x, hx, rfl⟩
/-- Whether an opening truly is lawful. -/
def truB (c : List Deed) (xs : List Int) (persons : List Int) (day : Int) : Bool :=
  ((stT c xs (0, (stT c xs (1, 0) day).holder) day).office && ((stT c xs (0, (stT c xs (2, 0) day).holder) day).office && (stT c xs (0, (stT c xs (3, 0) day).holder) day).office)) &&
  openB (stT c xs (1, 0) day) (stT c xs (2, 0) day) (stT c xs (3, 0) day) persons
theorem scn_mem {T1 T2 T3 : List Deed} {day : Int} {a b c : Nat × St} (ha : a ∈ stsL T1 day) (hb : b ∈ stsL T2 day) (hc : c ∈ stsL T3 day) : (a, b, c) ∈ scnL T1 T2 T3 day := by
  unfold scnL
  exact List.mem_flatMap.2 ⟨a, ha, List.mem_flatMap.2 ⟨b, hb, List.mem_map.2 ⟨c, hc, rfl⟩⟩⟩
theorem off_of {c : List Deed} {xs : List Int} (hok : ∀ d ∈ c, d.okB = true) (h : trueB c xs = true) (p day : Int) {v : Bool} (hv : (stT c xs (0, p) day).office = v) : offB c day v p = true := by
  unfold offB
  exact List.any_eq_true.2 ⟨_, stT_sts hok h (0, p) day, by simp [hv]⟩
theorem law_right {c : List Deed} {xs : List Int} (hok : ∀ d ∈ c, d.okB = true) (h : trueB c xs = true) (persons : List Int) (day : Int) : wrongB (ansI (witB c persons day true) (witB c persons day false)) (truB c xs persons day) = false := by
  have hm := scn_mem (stT_sts hok h (1, 0) day) (stT_sts hok h (2, 0) day) (stT_sts hok h (3, 0) day)
  obtain ⟨s1, h1⟩ : ∃ s, stT c xs (1, 0) day = s := ⟨_, rfl⟩
  obtain ⟨s2, h2⟩ : ∃ s, stT c xs (2, 0) day = s := ⟨_, rfl⟩
  obtain ⟨s3, h3⟩ : ∃ s, stT c xs (3, 0) day = s := ⟨_, rfl⟩
  unfold truB
  rw [h1, h2, h3] at hm ⊢
  obtain ⟨o1, e1⟩ : ∃ s, (stT c xs (0, s1.holder) day).office = s := ⟨_, rfl⟩
  obtain ⟨o2, e2⟩ : ∃ s, (stT c xs (0, s2.holder) day).office = s := ⟨_, rfl⟩
  obtain ⟨o3, e3⟩ : ∃ s, (stT c xs (0, s3.holder) day).office = s := ⟨_, rfl⟩
  have f1 := off_of hok h s1.holder day e1
  have f2 := off_of hok h s2.holder day e2
  have f3 := off_of hok h s3.holder day e3
  rw [e1, e2, e3]
  cases hv : (o1 && (o2 && o3)) && openB s1 s2 s3 persons with
  | true =>
    simp only [Bool.and_eq_true] at hv
    obtain ⟨⟨rfl, rfl, rfl⟩, ho⟩ := hv
    have hw : witB c persons day true = true := List.any_eq_true.2 ⟨_, hm, by
      unfold condB
      simp only [if_true, ho, Bool.true_and, decide_eq_true_eq]
      simp [soN, st3, f1, f2, f3]⟩
    rw [hw]
    cases witB c persons day false <;> rfl
  | false =>
    have hw : witB c persons day false = true := List.any_eq_true.2 ⟨_, hm, by
      unfold condB
      simp only [Bool.false_eq_true, if_false, Bool.or_eq_true, decide_eq_true_eq]
      cases ho : openB s1 s2 s3 persons with
      | false => exact .inl rfl
      | true =>
        right
        rw [ho, Bool.and_true] at hv
        cases o1 <;> cases o2 <;> cases o3 <;> simp at hv <;> simp [soN, st3, f1, f2, f3] <;> omega⟩
    rw [hw]
    cases witB c persons day true <;> rfl

end Go.Proofs.YtaomfjgleddpdaaGreat

/- KeysTrue: the days that truth makes are true ones. -/
namespace Go.Proofs.YtaomfjgleddpdaaGreat
open Go.RowKit

theorem rng_spec (c : List Deed) (d : Deed) (i : Nat) : (rngI c.zipIdx d i).2 ≤ d.hi ∧ d.lo ≤ (rngI c.zipIdx d i).1 ∧
    (∀ k e, i < k → c[k]? = some e → nmD e = nmD d → (rngI c.zipIdx d i).2 ≤ e.hi) ∧
    ((rngI c.zipIdx d i).1 = d.lo ∨ ∃ k e, k < i ∧ c[k]? = some e ∧ nmD e = nmD d ∧ (rngI c.zipIdx d i).1 = e.lo) ∧
    ((rngI c.zipIdx d i).2 = d.hi ∨ ∃ k e, i < k ∧ c[k]? = some e ∧ nmD e = nmD d ∧ (rngI c.zipIdx d i).2 = e.hi) := by
  obtain ⟨m1, m2, m3⟩ := fmax (fun p : Deed × Nat => sameB d p.1 = true ∧ p.2 < i) (fun p => p.1.lo) c.zipIdx d.lo
  obtain ⟨n1, n2, n3⟩ := fmin (fun p : Deed × Nat => sameB d p.1 = true ∧ i < p.2) (fun p => p.1.hi) c.zipIdx d.hi
  have hf1 : (rngI c.zipIdx d i).1 = _ := rng_fst d i c.zipIdx (d.lo, d.hi)
  have hf2 : (rngI c.zipIdx d i).2 = _ := rng_snd d i c.zipIdx (d.lo, d.hi)
  simp only at m1 m2 m3 n1 n2 n3 hf1 hf2
  rw [← hf1] at m1 m2 m3
  rw [← hf2] at n1 n2 n3
  refine ⟨n1, m1, fun k e hk he hn => n2 (e, k) (zi_mem.2 he) ⟨sameB_nm.2 hn.symm, hk⟩, ?_, ?_⟩
  · rcases m3 with m3 | ⟨x, hx, ⟨h1, h2⟩, m3⟩
    · exact .inl m3
    · exact .inr ⟨x.2, x.1, h2, zi_mem.1 hx, (sameB_nm.1 h1).symm, m3⟩
  · rcases n3 with n3 | ⟨x, hx, ⟨h1, h2⟩, n3⟩
    · exact .inl n3
    · exact .inr ⟨x.2, x.1, h2, zi_mem.1 hx, (sameB_nm.1 h1).symm, n3⟩
theorem not_contra {c : List Deed} (hc : clF c = false) {i j : Nat} {a b : Deed} (hij : i < j) (ha : c[i]? = some a) (hb : c[j]? = some b) (hn : nmD a = nmD b) : a.lo ≤ b.hi := by
  have h0 : clash c = none := by simpa [clF] using hc
  have h1 := clash_none_all h0 i j a b hij ha hb
  unfold contraB at h1
  rw [sameB_nm.2 hn, Bool.true_and, decide_eq_false_iff_not] at h1
  omega
theorem rng_ok {c : List Deed} (hok : ∀ d ∈ c, d.okB = true) (hc : clF c = false) {i : Nat} {d : Deed} (hd : c[i]? = some d) : (rngI c.zipIdx d i).1 ≤ (rngI c.zipIdx d i).2 := by
  obtain ⟨_, _, _, h1, h2⟩ := rng_spec c d i
  have h0 := (okB_days (hok d (List.mem_of_getElem? hd))).2.1
  rcases h1 with h1 | ⟨k, e, hk, he, hn, h1⟩ <;> rcases h2 with h2 | ⟨k2, f, hk2, hf, hn2, h2⟩ <;> rw [h1, h2]
  · exact h0
  · exact not_contra hc hk2 hd hf hn2.symm
  · exact not_contra hc hk he hd hn
  · exact not_contra hc (by omega) he hf (hn.trans hn2.symm)
theorem rng_mono {c : List Deed} {j i : Nat} {e d : Deed} (hji : j < i) (hd : c[i]? = some d) (hn : nmD d = nmD e) : (rngI c.zipIdx e j).2 ≤ (rngI c.zipIdx d i).2 := by
  obtain ⟨_, _, h1, _, _⟩ := rng_spec c e j
  obtain ⟨_, _, _, _, h2⟩ := rng_spec c d i
  rcases h2 with h2 | ⟨k, f, hk, hf, hn2, h2⟩ <;> rw [h2]
  · exact h1 i d hji hd hn
  · exact h1 k f (by omega) hf (hn2.trans hn)

/-- The earliest day that the days so far leave. -/
def loN (c : List Deed) (out : List Int) (d : Deed) (lo0 : Int) (k : Nat) : Int := (List.range k).foldl (fun m j => if sameTB ((c[j]?).getD zeroD) d = true then max m ((out[j]?).getD 0) else m) lo0
def nextI (c : List Deed) (picks : List Int) (out : List Int) (d : Deed) (k : Nat) : Int :=
  loN c out d (rngI c.zipIdx d k).1 k + pickI picks k % ((rngI c.zipIdx d k).2 - loN c out d (rngI c.zipIdx d k).1 k + 1)
def trN (c : List Deed) (picks : List Int) : Nat → List Int
  | 0 => []
  | k + 1 => trN c picks k ++ [nextI c picks (trN c picks k) ((c[k]?).getD zeroD) k]
theorem trN_len (c : List Deed) (picks : List Int) (k : Nat) : (trN c picks k).length = k := by
  induction k with
  | zero => rfl
  | succ k ih => rw [trN, List.length_append, ih]; rfl
def TrOk (c : List Deed) (out : List Int) (k : Nat) : Prop := ∀ i d, i < k → c[i]? = some d → ∃ x, out[i]? = some x ∧ d.lo ≤ x ∧ x ≤ (rngI c.zipIdx d i).2 ∧ ∀ j e y, j < i → c[j]? = some e → out[j]? = some y → nmD e = nmD d → y ≤ x
theorem lo_spec {c : List Deed} (hok : ∀ d ∈ c, d.okB = true) (hc : clF c = false) {out : List Int} {k : Nat} {d : Deed} (hd : c[k]? = some d) (ho : TrOk c out k) :
    d.lo ≤ loN c out d (rngI c.zipIdx d k).1 k ∧ loN c out d (rngI c.zipIdx d k).1 k ≤ (rngI c.zipIdx d k).2 ∧ ∀ j e y, j < k → c[j]? = some e → out[j]? = some y → nmD e = nmD d → y ≤ loN c out d (rngI c.zipIdx d k).1 k := by
  obtain ⟨m1, m2, m3⟩ := fmax (fun j : Nat => sameTB ((c[j]?).getD zeroD) d = true) (fun j => (out[j]?).getD 0) (List.range k) (rngI c.zipIdx d k).1
  have hdk := hok d (List.mem_of_getElem? hd)
  have hnm : ∀ j e, c[j]? = some e → (sameTB e d = true ↔ nmD e = nmD d) := fun j e he => by
    rw [same_eq (hok e (List.mem_of_getElem? he)) hdk]
    exact sameB_nm
  obtain ⟨_, r1, _, _, _⟩ := rng_spec c d k
  refine ⟨by unfold loN; omega, ?_, fun j e y hj he hy hn => ?_⟩
  · unfold loN
    rcases m3 with m3 | ⟨j, hj, h1, m3⟩
    · rw [m3]
      exact rng_ok hok hc hd
    · have hjk := List.mem_range.1 hj
      have hkl := (List.getElem?_eq_some_iff.1 hd).1
      obtain ⟨e, he⟩ : ∃ e, c[j]? = some e := ⟨_, List.getElem?_eq_getElem (by omega)⟩
      rw [he] at h1
      have hn := (hnm j e he).1 h1
      obtain ⟨y, hy, _, h3, _⟩ := ho j e hjk he
      rw [m3, hy]
      have h4 := rng_mono hjk hd hn.symm
      simp only [Option.getD_some]
      omega
  · have h1 := m2 j (List.mem_range.2 hj) (by rw [he]; exact (hnm j e he).2 hn)
    rw [hy] at h1
    exact h1
theorem tr_ok {c : List Deed} (hok : ∀ d ∈ c, d.okB = true) (hc : clF c = false) (picks : List Int) (k : Nat) (hk : k ≤ c.length) : TrOk c (trN c picks k) k := by
  induction k with
  | zero => intro i d hi; omega
  | succ k ih =>
    have ih := ih (by omega)
    intro i d hi hd
    have hold : ∀ j, j < k → (trN c picks (k + 1))[j]? = (trN c picks k)[j]? := fun j hj => by
      rw [trN, List.getElem?_append_left (by rw [trN_len]; exact hj)]
    rcases Nat.lt_or_ge i k with h | h
    · obtain ⟨x, hx, h1, h2, h3⟩ := ih i d h hd
      exact ⟨x, by rw [hold i h, hx], h1, h2, fun j e y hj he hy hn => h3 j e y hj he (by rw [← hold j (by omega), hy]) hn⟩
    · obtain rfl : i = k := by omega
      obtain ⟨h1, h2, h3⟩ := lo_spec hok hc hd ih
      have hx : (trN c picks (i + 1))[i]? = some (nextI c picks (trN c picks i) d i) := by
        rw [trN, List.getElem?_append_right (by rw [trN_len]; exact Nat.le_refl _), trN_len, hd]
        simp
      have p1 := Int.emod_nonneg (pickI picks i) (show (rngI c.zipIdx d i).2 - loN c (trN c picks i) d (rngI c.zipIdx d i).1 i + 1 ≠ 0 by omega)
      have p2 := Int.emod_lt_of_pos (pickI picks i) (show 0 < (rngI c.zipIdx d i).2 - loN c (trN c picks i) d (rngI c.zipIdx d i).1 i + 1 by omega)
      refine ⟨_, hx, ?_, ?_, fun j e y hj he hy hn => ?_⟩
      · unfold nextI; omega
      · unfold nextI; omega
      · have h4 := h3 j e y hj he (by rw [← hold j hj, hy]) hn
        unfold nextI
        omega
theorem tr_true {c : List Deed} (hok : ∀ d ∈ c, d.okB = true) (hc : clF c = false) (picks : List Int) : trueB c (trN c picks c.length) = true := by
  have h := tr_ok hok hc picks c.length (Nat.le_refl _)
  unfold trueB
  rw [trN_len, decide_eq_true rfl, Bool.true_and, List.all_eq_true]
  intro i hi
  have hil := List.mem_range.1 hi
  obtain ⟨d, hd⟩ : ∃ d, c[i]? = some d := ⟨_, List.getElem?_eq_getElem hil⟩
  obtain ⟨x, hx, h1, h2, h3⟩ := h i d hil hd
  have h4 := (rng_spec c d i).1
  unfold trAtB
  rw [hd, hx]
  simp only [Bool.and_eq_true, List.all_eq_true, List.mem_range]
  refine ⟨by unfold withinB; simp only [Bool.and_eq_true, decide_eq_true_eq]; omega, fun j hj => ?_⟩
  unfold aheadB
  obtain ⟨e, he⟩ : ∃ e, c[j]? = some e := ⟨_, List.getElem?_eq_getElem (by omega)⟩
  obtain ⟨y, hy, _⟩ := h j e (by omega) he
  rw [he, hy]
  simp only [Bool.or_eq_true, Bool.not_eq_true', decide_eq_true_eq]
  cases hs : sameB e d with
  | false => exact .inl rfl
  | true => exact .inr (h3 j e y hj he hy (sameB_nm.1 hs))

end Go.Proofs.YtaomfjgleddpdaaGreat
