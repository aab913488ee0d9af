import Derived.Test.YtaomfjgleddpdaaGreatQ6
import Derived.Test.YtaomfjgleddpdaaGreatQ5
set_option linter.unusedVariables false
set_option linter.unusedSimpArgs false

/- KeysNarrow: deeds of which some days are narrower. -/
namespace Go.Proofs.YtaomfjgleddpdaaGreat
open Go.RowKit

/-- The same deed, with a day that is narrower, or the same. -/
structure NarD (a b : Deed) : Prop where
  par : b.par = a.par
  no : b.no = a.no
  kind : b.kind = a.kind
  lock : b.lock = a.lock
  person : b.person = a.person
  known : b.known = a.known
  til : b.til = a.til
  lo : a.lo ≤ b.lo
  hi : b.hi ≤ a.hi
theorem NarD.refl (a : Deed) : NarD a a := ⟨rfl, rfl, rfl, rfl, rfl, rfl, rfl, Int.le_refl _, Int.le_refl _⟩
inductive Nar : List Deed → List Deed → Prop
  | nil : Nar [] []
  | cons {a b : Deed} {l m : List Deed} : NarD a b → Nar l m → Nar (a :: l) (b :: m)
theorem Nar.refl : ∀ l : List Deed, Nar l l
  | [] => .nil
  | a :: l => .cons (NarD.refl a) (Nar.refl l)
theorem Nar.set : ∀ {l : List Deed} {i : Nat} {a b : Deed}, l[i]? = some a → NarD a b → Nar l (l.set i b)
  | [], _, _, _ => fun h _ => by simp at h
  | x :: l, 0, a, b => fun h hn => by
    obtain rfl : x = a := by simpa using h
    exact .cons hn (Nar.refl l)
  | x :: l, i + 1, a, b => fun h hn => .cons (NarD.refl x) (Nar.set (by simpa using h) hn)
theorem Nar.len {l m : List Deed} (h : Nar l m) : l.length = m.length := by
  induction h with
  | nil => rfl
  | cons _ _ ih => rw [List.length_cons, List.length_cons, ih]
theorem Nar.take {l m : List Deed} (h : Nar l m) : ∀ k, Nar (l.take k) (m.take k) := by
  induction h with
  | nil => intro k; simpa using Nar.nil
  | cons h1 _ ih =>
    intro k
    cases k with
    | zero => exact .nil
    | succ k => exact .cons h1 (ih k)
theorem Nar.drop {l m : List Deed} (h : Nar l m) : ∀ k, Nar (l.drop k) (m.drop k) := by
  induction h with
  | nil => intro k; simpa using Nar.nil
  | cons h1 h2 ih =>
    intro k
    cases k with
    | zero => exact .cons h1 h2
    | succ k => exact ih k
theorem Nar.filter {l m : List Deed} (h : Nar l m) {p : Deed → Bool} (hp : ∀ a b, NarD a b → p b = p a) : Nar (l.filter p) (m.filter p) := by
  induction h with
  | nil => exact .nil
  | @cons a b l m h1 _ ih =>
    have e := hp _ _ h1
    cases hv : p a with
    | true => rw [List.filter_cons_of_pos hv, List.filter_cons_of_pos (e.trans hv)]; exact .cons h1 ih
    | false => rw [List.filter_cons_of_neg (by simp [hv]), List.filter_cons_of_neg (by simp [e, hv])]; exact ih
theorem Nar.get {l m : List Deed} (h : Nar l m) : ∀ {i : Nat} {a : Deed}, l[i]? = some a → ∃ b, m[i]? = some b ∧ NarD a b := by
  induction h with
  | nil => intro i a h; simp at h
  | @cons x y l m h1 _ ih =>
    intro i a h
    cases i with
    | zero =>
      obtain rfl : x = a := by simpa using h
      exact ⟨y, rfl, h1⟩
    | succ i => exact ih (by simpa using h)
theorem Nar.tog {l m : List Deed} (h : Nar l m) : ∀ {i : Nat} {b : Deed}, m[i]? = some b → ∃ a, l[i]? = some a ∧ NarD a b := by
  intro i b hb
  have hi := (List.getElem?_eq_some_iff.1 hb).1
  obtain ⟨a, ha⟩ : ∃ a, l[i]? = some a := ⟨_, List.getElem?_eq_getElem (by rw [h.len]; exact hi)⟩
  obtain ⟨b', hb', hn⟩ := h.get ha
  rw [hb] at hb'
  cases hb'
  exact ⟨a, ha, hn⟩
theorem Nar.ea {l m : List Deed} (h : Nar l m) : ∀ {x y : Int}, x ≤ y → l.foldl (fun m d => if m < d.lo then d.lo else m) x ≤ m.foldl (fun m d => if m < d.lo then d.lo else m) y := by
  induction h with
  | nil => exact fun h => h
  | cons h1 _ ih =>
    intro x y hxy
    rw [List.foldl_cons, List.foldl_cons]
    refine ih ?_
    have := h1.lo
    split <;> split <;> omega
theorem Nar.la {l m : List Deed} (h : Nar l m) : ∀ {x y : Int}, y ≤ x → m.foldl (fun m d => if d.hi < m then d.hi else m) y ≤ l.foldl (fun m d => if d.hi < m then d.hi else m) x := by
  induction h with
  | nil => exact fun h => h
  | cons h1 _ ih =>
    intro x y hxy
    rw [List.foldl_cons, List.foldl_cons]
    refine ih ?_
    have := h1.hi
    split <;> split <;> omega
theorem Nar.run {l m : List Deed} (h : Nar l m) : ∀ s : St, m.foldl stepSt s = l.foldl stepSt s := by
  induction h with
  | nil => exact fun _ => rfl
  | cons h1 _ ih =>
    intro s
    rw [List.foldl_cons, List.foldl_cons, ih]
    unfold stepSt
    rw [h1.kind, h1.person]
theorem Nar.may {l m : List Deed} (h : Nar l m) {k : Nat} {day : Int} (hm : mayB m k day = true) : mayB l k day = true := by
  have h1 : eaI (l.take k) ≤ eaI (m.take k) := (h.take k).ea (Int.le_refl _)
  have h2 : laI (m.drop k) ≤ laI (l.drop k) := (h.drop k).la (Int.le_refl _)
  unfold mayB at hm ⊢
  rw [← h.len] at hm
  simp only [Bool.and_eq_true, Bool.or_eq_true, decide_eq_true_eq] at hm ⊢
  exact ⟨hm.1.imp id fun h => by omega, hm.2.imp id fun h => by omega⟩
theorem Nar.sts {l m : List Deed} (h : Nar l m) {day : Int} {x : Nat × St} (hx : x ∈ stsL m day) : x ∈ stsL l day := by
  obtain ⟨k, hk, hm, rfl⟩ := mem_sts.1 hx
  refine mem_sts.2 ⟨k, by rw [h.len]; exact hk, h.may hm, ?_⟩
  unfold runSt
  rw [(h.take k).run]
theorem Nar.cnt {l m : List Deed} (h : Nar l m) (kn : Int) : Nar (cntDs kn l) (cntDs kn m) := h.filter fun _ _ h => by rw [h.known, h.til]
theorem NarD.nm {a b : Deed} (h : NarD a b) : nmD b = nmD a := by
  unfold nmD nmLock nmPerson
  rw [h.lock, h.person]
theorem Nar.thr {l m : List Deed} (h : Nar l m) (nm : Nm) : Nar (thr l nm) (thr m nm) := by
  rw [thr_filter, thr_filter]
  exact h.filter fun _ _ h => by rw [h.nm]
theorem NarD.contra {a b x y : Deed} (h : NarD a b) (g : NarD x y) (hc : contraB a x = true) : contraB b y = true := by
  unfold contraB at hc ⊢
  rw [Bool.and_eq_true, decide_eq_true_eq, sameB_nm] at hc ⊢
  have := h.lo
  have := g.hi
  exact ⟨by rw [h.nm, g.nm]; exact hc.1, by omega⟩
theorem Nar.find {l m : List Deed} (h : Nar l m) {p q : Deed → Bool} (hp : ∀ a b, NarD a b → p a = true → q b = true) (hq : m.find? q = none) : l.find? p = none := by
  rw [List.find?_eq_none] at hq ⊢
  intro a ha hpa
  obtain ⟨i, hi, rfl⟩ := List.getElem_of_mem ha
  obtain ⟨b, hb, hn⟩ := h.get (List.getElem?_eq_getElem hi)
  exact hq b (List.mem_of_getElem? hb) (hp _ _ hn hpa)
theorem Nar.clash {l m : List Deed} (h : Nar l m) : clash m = none → clash l = none := by
  induction h with
  | nil => exact fun h => h
  | @cons a b l m h1 h2 ih =>
    intro hc
    unfold Go.Proofs.YtaomfjgleddpdaaGreat.clash at hc ⊢
    cases hf : m.find? (contraB b) with
    | some y => rw [hf] at hc; cases hc
    | none =>
      rw [hf] at hc
      rw [h2.find (fun x y hn hx => h1.contra hn hx) hf]
      exact ih hc
theorem Nar.even {l m : List Deed} (h : Nar l m) (hm : clF m = false) : clF l = false := by
  unfold clF at hm ⊢
  rw [h.clash (by simpa using hm)]
  rfl
theorem Nar.off {l m : List Deed} (h : Nar l m) {day p : Int} {b : Bool} (hm : offB m day b p = true) : offB l day b p = true := by
  unfold offB at hm ⊢
  obtain ⟨x, hx, hb⟩ := List.any_eq_true.1 hm
  exact List.any_eq_true.2 ⟨x, (h.thr _).sts hx, hb⟩
theorem so_mono {f g : Int → Bool} (h : ∀ p, f p = true → g p = true) (a b c : St) (k : Nat) : soN f a b c k ≤ soN g a b c k := by
  induction k with
  | zero => exact Nat.le_refl _
  | succ k ih =>
    unfold soN
    cases hf : f (st3 a b c k).holder with
    | true => rw [if_pos rfl, if_pos (h _ hf)]; omega
    | false => rw [if_neg (by simp)]; omega
theorem Nar.wit {l m : List Deed} (h : Nar l m) {ps : List Int} {day : Int} {law : Bool} (hm : witB m ps day law = true) : witB l ps day law = true := by
  unfold witB at hm ⊢
  obtain ⟨x, hx, hc⟩ := List.any_eq_true.1 hm
  obtain ⟨h1, h2, h3⟩ := mem_scn hx
  refine List.any_eq_true.2 ⟨x, scn_mem ((h.thr _).sts h1) ((h.thr _).sts h2) ((h.thr _).sts h3), ?_⟩
  have hs := so_mono (f := offB m day law) (g := offB l day law) (fun p hp => h.off hp) x.1.2 x.2.1.2 x.2.2.2 3
  have hl := soN_le (offB l day law) x.1.2 x.2.1.2 x.2.2.2 3
  unfold condB at hc ⊢
  cases law with
  | true =>
    rw [if_pos rfl, Bool.and_eq_true, decide_eq_true_eq] at hc ⊢
    exact ⟨hc.1, by omega⟩
  | false =>
    rw [if_neg (by simp), Bool.or_eq_true, decide_eq_true_eq] at hc ⊢
    exact hc.imp id fun h => by omega
theorem wit_one {c : List Deed} (hok : ∀ d ∈ c, d.okB = true) (hc : clF c = false) (ps : List Int) (day : Int) : witB c ps day true = true ∨ witB c ps day false = true := by
  cases h : witB c ps day false with
  | true => exact .inr rfl
  | false => exact .inl (wit_all hok hc h)
theorem Nar.law {l m : List Deed} (h : Nar l m) (hok : ∀ d ∈ m, d.okB = true) (hc : clF m = false) (ps : List Int) (day : Int) :
    ansI (witB l ps day true) (witB l ps day false) = 2 ∨ ansI (witB l ps day true) (witB l ps day false) = ansI (witB m ps day true) (witB m ps day false) := by
  have h1 := wit_one hok hc ps day
  have h2 := fun law => h.wit (ps := ps) (day := day) (law := law)
  have h3 := h2 true
  have h4 := h2 false
  revert h1 h3 h4
  generalize witB l ps day true = a
  generalize witB l ps day false = b
  generalize witB m ps day true = x
  generalize witB m ps day false = y
  revert a b x y
  decide
theorem Nar.findN {l m : List Deed} (h : Nar l m) (p q : Int) : findN p q m = findN p q l := by
  induction h with
  | nil => rfl
  | cons h1 _ ih =>
    unfold Go.Proofs.YtaomfjgleddpdaaGreat.findN
    rw [h1.par, h1.no, ih]
theorem Nar.when {l m : List Deed} (h : Nar l m) (hok : ∀ d ∈ m, d.okB = true) (hc : clF m = false) {p q : Int} (hf : Go.Proofs.YtaomfjgleddpdaaGreat.findN p q l < l.length) :
    (whenR l p q).1 ≤ (whenR m p q).1 ∧ (whenR m p q).2 ≤ (whenR l p q).2 ∧ (whenR m p q).1 ≤ (whenR m p q).2 := by
  obtain ⟨d, hd⟩ : ∃ d, l[Go.Proofs.YtaomfjgleddpdaaGreat.findN p q l]? = some d := ⟨_, List.getElem?_eq_getElem hf⟩
  obtain ⟨e, he, hn⟩ := h.get hd
  have hfm := h.findN p q
  have h3 : whenR m p q = rngI m.zipIdx e (Go.Proofs.YtaomfjgleddpdaaGreat.findN p q l) := when_eq hok hfm he
  refine ⟨?_, ?_, by rw [h3]; exact rng_ok hok hc he⟩
  · unfold whenR
    rw [hfm, hd, he]
    dsimp only
    rw [hn.nm, (h.thr (nmD d)).findN]
    exact ((h.thr (nmD d)).take _).ea (Int.le_refl _)
  · unfold whenR
    rw [hfm, hd, he]
    dsimp only
    rw [hn.nm, (h.thr (nmD d)).findN]
    exact ((h.thr (nmD d)).drop _).la (Int.le_refl _)

end Go.Proofs.YtaomfjgleddpdaaGreat

/- KeysNarrow: among; a deed's day is set anew. -/
namespace Go.Proofs.YtaomfjgleddpdaaGreat
open Go.RowKit
attribute [local go_sem] Oper.semAt_some

set_option maxHeartbeats 1000000 in
theorem r_among (xs ys : List Int) (A B : Option Addr) (n c m d : Nat) (w : World) (hn : n ≤ 1000000) (hm : m ≤ 1000000) (h : Is w w.heap.size A n xs) (g : Is w w.heap.size B m ys) (hs : ∀ x ∈ xs, x ∈ ys) (h0 : 0 < n) :
    Calls Tryz.prog 66 #[.slice A n c, .slice B m d] w fun e w' => e = .returned (.bool true) ∧ w = w' := by
  have HI := Lib.hid h
  have HG := Lib.hid g
  have HS := Lib.hid hs
  clear h g hs
  go_enter Tryz.func66, Tryz.ntmps66
  go_wp2
  go_loop [9] (fun i => ∃ k : Nat, k ≤ n ∧ i = .int .i64 k) (fun i => n - (intOf i).toNat)
  case atStart => exact ⟨0, by omega, rfl⟩
  case round =>
    obtain ⟨k, hk, rfl⟩ := hrel
    by_cases hlt : k < n
    · obtain ⟨b, o, x, rfl, hb, hx, hc⟩ := HI.out.at_ hlt
      have HX := Lib.hid (HS.out x (List.mem_of_getElem? hx))
      clear hx
      go_wp2_with (go_at_call 61; refine (r_Lists ys x true _ _ _ _ hm HG.out (by simpa using HX.out)).mono ?_; rintro e w1 ⟨rfl, rfl⟩)
      go_round
      case rel => exact ⟨k + 1, by omega, by go_num⟩
      case measure => simp [intOf]; omega
    · have h1 : (0 : Int) < (n : Int) := by omega
      go_wp2
      go_ret
      exact ⟨rfl, rfl⟩

theorem deedCells_day (lo hi : Int) : ∀ (ds : List Deed) (i : Nat) (d : Deed), ds[i]? = some d → ((deedCells ds).set (i * 9 + 5) (.int .i64 lo)).set (i * 9 + 6) (.int .i64 hi) = deedCells (ds.set i { d with lo := lo, hi := hi })
  | [], _, _ => fun h => by simp at h
  | a :: ds, 0, d => fun h => by
    obtain rfl : a = d := by simpa using h
    rfl
  | a :: ds, i + 1, d => fun h => by
    have ih := deedCells_day lo hi ds i d (by simpa using h)
    rw [List.set_cons_succ, deedCells_cons, deedCells_cons, ← ih]
    obtain ⟨p, hp, hl⟩ : ∃ p : List Value, [Value.int .i64 a.par, .int .i64 a.no, .int .i64 a.kind, .int .i64 a.lock, .int .i64 a.person, .int .i64 a.lo, .int .i64 a.hi, .int .i64 a.known, .int .i64 a.til] = p ∧ p.length = 9 := ⟨_, rfl, rfl⟩
    rw [hp, List.set_append, if_neg (by omega), List.set_append, if_neg (by omega), hl, show (i + 1) * 9 + 5 - 9 = i * 9 + 5 by omega, show (i + 1) * 9 + 6 - 9 = i * 9 + 6 by omega]
theorem Ds.setDay {w : World} {B n b o : Nat} {ds : List Deed} (h : Ds w B (some ⟨b, o, none⟩) n ds) {i : Nat} {d : Deed} (hi : ds[i]? = some d) (lo hi' : Int) :
    Ds ((w.setCell ⟨b, o + i * 9 + 5, none⟩ (.int .i64 lo)).setCell ⟨b, o + i * 9 + 6, none⟩ (.int .i64 hi')) B (some ⟨b, o, none⟩) n (ds.set i { d with lo := lo, hi := hi' }) := by
  have hl := h.len
  have hin := (List.getElem?_eq_some_iff.1 hi).1
  refine ⟨by rw [deedCells_length, List.length_set, hl], fun h0 => ?_⟩
  obtain ⟨b', o', e, hb, hc⟩ := h.2 h0
  cases e
  refine ⟨b, o, rfl, hb, fun j u hj => ?_⟩
  rw [← deedCells_day lo hi' ds i d hi, List.getElem?_set] at hj
  have h5 : w.cell? ⟨b, o + i * 9 + 5, none⟩ = some (.int .i64 d.lo) := by
    have := hc (i * 9 + 5) (.int .i64 d.lo) (by rw [deedCells_get ds i 5 d hi (by omega)]; rfl)
    rwa [← Nat.add_assoc] at this
  have h6 : w.cell? ⟨b, o + i * 9 + 6, none⟩ = some (.int .i64 d.hi) := by
    have := hc (i * 9 + 6) (.int .i64 d.hi) (by rw [deedCells_get ds i 6 d hi (by omega)]; rfl)
    rwa [← Nat.add_assoc] at this
  have hn56 : (⟨b, o + i * 9 + 5, none⟩ : Addr) ≠ ⟨b, o + i * 9 + 6, none⟩ := fun e => by simp at e
  have h6' : (w.setCell ⟨b, o + i * 9 + 5, none⟩ (.int .i64 lo)).cell? ⟨b, o + i * 9 + 6, none⟩ = some (.int .i64 d.hi) := (World.cell?_setCell_other _ _ _ _ hn56).trans h6
  by_cases e6 : i * 9 + 6 = j
  · subst e6
    rw [if_pos rfl, if_pos (by rw [List.length_set, deedCells_length]; omega)] at hj
    cases hj
    rw [← Nat.add_assoc]
    exact World.cell?_setCell_same _ _ _ h6'
  · rw [if_neg e6, List.getElem?_set] at hj
    rw [World.cell?_setCell_other _ _ _ _ (fun e => by simp at e <;> omega)]
    by_cases e5 : i * 9 + 5 = j
    · subst e5
      rw [if_pos rfl, if_pos (by rw [deedCells_length]; omega)] at hj
      cases hj
      rw [← Nat.add_assoc]
      exact World.cell?_setCell_same _ _ _ h5
    · rw [if_neg e5] at hj
      rw [World.cell?_setCell_other _ _ _ _ (fun e => by simp at e <;> omega)]
      exact hc j u hj
theorem Nar.check {l m : List Deed} (h : Nar l m) (hm : ∀ b ∈ m, b.okB = true) (hl : checkB l = true) : checkB m = true := by
  unfold checkB at hl ⊢
  rw [Bool.and_eq_true, decide_eq_true_eq, List.all_eq_true] at hl ⊢
  rw [← h.len]
  refine ⟨hl.1, fun k hk => ?_⟩
  have h1 := hl.2 k hk
  have hkl := List.mem_range.1 hk
  obtain ⟨a, ha⟩ : ∃ a, l[k]? = some a := ⟨_, List.getElem?_eq_getElem hkl⟩
  obtain ⟨b, hb, hn⟩ := h.get ha
  unfold okAt at h1 ⊢
  rw [ha, Bool.and_eq_true] at h1
  rw [hb, Bool.and_eq_true]
  refine ⟨hm b (List.mem_of_getElem? hb), ?_⟩
  cases k with
  | zero => rfl
  | succ j =>
    have h2 := h1.2
    simp only at h2 ⊢
    obtain ⟨x, hx⟩ : ∃ x, l[j]? = some x := ⟨_, List.getElem?_eq_getElem (by omega)⟩
    obtain ⟨y, hy, hn2⟩ := h.get hx
    rw [hx] at h2
    rw [hy]
    simp only at h2 ⊢
    rw [hn.par, hn.no, hn2.par, hn2.no]
    exact h2
theorem nar_ok {d : Deed} (h : d.okB = true) {lo hi : Int} (h1 : d.lo ≤ lo) (h2 : lo ≤ hi) (h3 : hi ≤ d.hi) : ({ d with lo := lo, hi := hi } : Deed).okB = true := by
  have hd := okB_days h
  unfold Deed.okB at h ⊢
  simp only [Bool.and_eq_true] at h ⊢
  refine ⟨h.1, h.2.1, ?_, h.2.2.2⟩
  unfold rangeB
  simp only [Bool.and_eq_true, decide_eq_true_eq]
  omega
/-- What is told of who holds a lock is no more, by narrower days, and something. -/
theorem Nar.who {l m : List Deed} (h : Nar l m) {kn lock day : Int} (q : St → Int) (hl : whoE l lock day kn = 0) (hm : whoE m lock day kn = 0) : ∀ x ∈ whoL q m lock day kn, x ∈ whoL q l lock day kn := by
  intro x hx
  unfold whoL at hx ⊢
  rw [if_pos hm, srtL_mem] at hx
  rw [if_pos hl, srtL_mem]
  obtain ⟨y, hy, rfl⟩ := List.mem_map.1 hx
  exact List.mem_map.2 ⟨y, ((h.cnt kn).thr _).sts hy, rfl⟩
theorem who_some {m : List Deed} {kn lock day : Int} (q : St → Int) (hok : ∀ d ∈ cntDs kn m, d.okB = true) (hc : clF (cntDs kn m) = false) (hm : whoE m lock day kn = 0) : 0 < (whoL q m lock day kn).length := by
  obtain ⟨x, hx⟩ := sts_some hok hc (lock, 0) day
  exact List.length_pos_of_mem (who_has q hm hx)
theorem own_shape {w : World} {base size n : Nat} {e : TypeId} {v : Value} {xs : List Value} (h : w.ownsRow base e size v n xs) (hn : 0 < n) : ∃ g o cap, o = 0 ∧ v = .slice (some ⟨g, o, none⟩) n cap ∧ base ≤ g ∧ g < w.heap.size ∧ n ≤ cap ∧ cap ≤ maxLen := by
  rcases h.2 with ⟨_, h0⟩ | ⟨g, cap, cur, rfl, h1, h2, h3, h4, _, _⟩
  · omega
  · exact ⟨g, 0, cap, rfl, rfl, h1, block_lt h2, h3, h4⟩
theorem own_frozen {w : World} {base size n g o cap : Nat} {e : TypeId} {xs : List Value} (h : w.ownsRow base e size (.slice (some ⟨g, o, none⟩) n cap) n xs) (ho : o = 0) (j : Nat) : w.frozen? ⟨g, j, none⟩ = false := by
  subst ho
  exact h.frozenAt j
theorem when_zero {ds : List Deed} {kn p q : Int} (hck : checkB ds = true) (hk : withinB kn 0 100000 = true) (hc : clF (cntDs kn ds) = false) (hf : findN p q (cntDs kn ds) < (cntDs kn ds).length) :
    whenE ds kn p q = 0 ∧ whenV ds kn p q = .agg #[.int .i64 (whenR (cntDs kn ds) p q).1, .int .i64 (whenR (cntDs kn ds) p q).2] := by
  have h : whenE ds kn p q = 0 := by
    unfold whenE
    rw [if_pos (by simp [daysOk, hck, hk, errI, orL]), if_pos hf, hc]
    rfl
  exact ⟨h, by unfold whenV; rw [if_pos h]⟩

end Go.Proofs.YtaomfjgleddpdaaGreat
