import Derived.Test.YtikioiblaoimkaaGreatDoorA9
set_option linter.unusedVariables false
set_option linter.unusedSimpArgs false

/- checkOpening, Lawful. -/
namespace Go.Proofs.YtikioiblaoimkaaGreatDoor
open Go.RowKit Go.Shelf Go.Maps

def opErr (ds : List Deed) (xs : List Int) (day kn : Int) : Int := orL [errI (checkB ds) 11, errI (personsB xs) 16, errI (daysOk [day, kn]) 6]
theorem opErr_eq {ds : List Deed} {xs : List Int} {day kn : Int} (h : opErr ds xs day kn = 0) : checkB ds = true ∧ personsB xs = true := by
  unfold opErr at h
  revert h
  generalize checkB ds = a
  generalize personsB xs = b
  generalize daysOk [day, kn] = c
  cases a <;> cases b <;> cases c <;> simp [orL, errI]
def RetOp (ds : List Deed) (xs : List Int) (day kn : Int) (w : World) (e : Ending) (w' : World) : Prop :=
  Below w.heap.size w w' ∧ (opErr ds xs day kn ≠ 0 → e = .returned (.tuple #[.slice none 0 0, .int .i64 (opErr ds xs day kn)])) ∧
  (opErr ds xs day kn = 0 → clF (cntDs kn ds) = true → ∃ A c, e = .returned (.tuple #[.slice A 0 c, .int .i64 13])) ∧
  (opErr ds xs day kn = 0 → clF (cntDs kn ds) = false → ∃ A c, e = .returned (.tuple #[.slice A (cntDs kn ds).length c, .int .i64 0]) ∧ Ds w' w'.heap.size A (cntDs kn ds).length (cntDs kn ds) ∧ (cntDs kn ds).length ≤ c ∧ c ≤ maxLen)

set_option maxRecDepth 100000 in
set_option maxHeartbeats 2000000 in
theorem p_checkOpening (ds : List Deed) (xs : List Int) (day kn : Int) (A Ap : Option Addr) (n c np cp : Nat) (w : World) (hn : n ≤ 9223372036854775807) (hd : Ds w w.heap.size A n ds) (hnp : np ≤ 1000000) (hx : Is w w.heap.size Ap np xs) :
    Calls Tryz.prog 56 #[.slice A n c, .slice Ap np cp, .int .i64 day, .int .i64 kn] w (RetOp ds xs day kn w) := by
  have HD := Lib.hid hd
  have HX := Lib.hid hx
  have HL := Lib.hid hd.len
  clear hd hx
  obtain ⟨v, hv⟩ : ∃ v, orL [errI (checkB ds) 11, errI (personsB xs) 16, errI (daysOk [day, kn]) 6] = v := ⟨_, rfl⟩
  have HV := Lib.hid hv
  have HW : Hid (opErr ds xs day kn = v) := hv
  clear hv
  by_cases hv0 : v = 0
  · subst hv0
    have H60 := Lib.hid (check_60 (opErr_eq HW.out).1)
    have h60 : n ≤ 60 := by have := H60.out; have := HL.out; omega
    by_cases hf : clF (cntDs kn ds) = true
    · have HF := Lib.hid hf
      clear hf
      go_enter Tryz.func56, Tryz.ntmps56
      go_wp2_with (first | (go_at_call 10; refine (p_check ds _ _ _ _ hn (HD.out.now (by (repeat' (first | with_reducible exact Below.refl _ _ | with_reducible assumption | with_reducible refine Below.alloc ?_ ?_ _ | with_reducible refine Below.setCell ?_ ?_ _ | with_reducible refine Below.drew ?_ | (simp; done) | (simp; omega) | omega))))).mono ?_; rintro e w1 ⟨rfl, hb1⟩; obtain ⟨hc1, hf1⟩ := bcell hb1; have HB1 : Below w.heap.size w w1 := Below.then_ (by (repeat' (first | with_reducible exact Below.refl _ _ | with_reducible assumption | with_reducible refine Below.alloc ?_ ?_ _ | with_reducible refine Below.setCell ?_ ?_ _ | with_reducible refine Below.drew ?_ | (simp; done) | (simp; omega) | omega))) hb1; have hs1 := HB1.size) | (go_at_call 61; refine (p_checkPersons xs _ _ _ _ hnp (HX.out.now HB1)).mono ?_; rintro e w1 ⟨rfl, rfl⟩) | (go_at_call 48; refine (p_checkDays [day, kn] _ 2 2 _ (by decide) (Rd.new _ #[.int .i64 day, .int .i64 kn] _ 1 2 _ (by simp) rfl)).mono ?_; rintro e w1 ⟨rfl, hb1⟩; obtain ⟨hc1, hf1⟩ := bcell hb1; have HB1 : Below w.heap.size w w1 := Below.then_ (by (repeat' (first | with_reducible exact Below.refl _ _ | with_reducible assumption | with_reducible refine Below.alloc ?_ ?_ _ | with_reducible refine Below.setCell ?_ ?_ _ | with_reducible refine Below.drew ?_ | (simp; done) | (simp; omega) | omega))) hb1; have hs1 := HB1.size) | (go_at_call 47; refine (p_first [errI (checkB ds) 11, errI (personsB xs) 16, errI (daysOk [day, kn]) 6] 0 _ 3 3 _ (by decide) (Rd.new _ #[.int .i64 (errI (checkB ds) 11), .int .i64 (errI (personsB xs) 16), .int .i64 (errI (daysOk [day, kn]) 6)] _ 1 3 _ (by simp) rfl) HV.out).mono ?_; rintro e w1 ⟨rfl, rfl⟩) | (go_at_call 51; refine (p_even_no ds kn _ _ _ _ (by omega) (Ds.now HD.out (by (repeat' (first | with_reducible exact Below.refl _ _ | with_reducible assumption | with_reducible refine Below.alloc ?_ ?_ _ | with_reducible refine Below.setCell ?_ ?_ _ | with_reducible refine Below.drew ?_ | (simp; done) | (simp; omega) | omega)))) HF.out).mono ?_; rintro e w1 ⟨A1, c1, rfl, hb1⟩; have HB2 : Below w.heap.size w w1 := Below.then_ (by (repeat' (first | with_reducible exact Below.refl _ _ | with_reducible assumption | with_reducible refine Below.alloc ?_ ?_ _ | with_reducible refine Below.setCell ?_ ?_ _ | with_reducible refine Below.drew ?_ | (simp; done) | (simp; omega) | omega))) hb1; have hs2 := HB2.size))
      go_ret2
      exact ⟨by (repeat' (first | with_reducible exact Below.refl _ _ | with_reducible assumption | with_reducible refine Below.alloc ?_ ?_ _ | with_reducible refine Below.setCell ?_ ?_ _ | with_reducible refine Below.drew ?_ | (simp; done) | (simp; omega) | omega)), fun h => absurd HW.out h, fun _ _ => ⟨_, _, rfl⟩, fun _ h => by rw [HF.out] at h; cases h⟩
    · have HF : Hid (clF (cntDs kn ds) = false) := by show _ = _; simpa using hf
      clear hf
      go_enter Tryz.func56, Tryz.ntmps56
      go_wp2_with (first | (go_at_call 10; refine (p_check ds _ _ _ _ hn (HD.out.now (by (repeat' (first | with_reducible exact Below.refl _ _ | with_reducible assumption | with_reducible refine Below.alloc ?_ ?_ _ | with_reducible refine Below.setCell ?_ ?_ _ | with_reducible refine Below.drew ?_ | (simp; done) | (simp; omega) | omega))))).mono ?_; rintro e w1 ⟨rfl, hb1⟩; obtain ⟨hc1, hf1⟩ := bcell hb1; have HB1 : Below w.heap.size w w1 := Below.then_ (by (repeat' (first | with_reducible exact Below.refl _ _ | with_reducible assumption | with_reducible refine Below.alloc ?_ ?_ _ | with_reducible refine Below.setCell ?_ ?_ _ | with_reducible refine Below.drew ?_ | (simp; done) | (simp; omega) | omega))) hb1; have hs1 := HB1.size) | (go_at_call 61; refine (p_checkPersons xs _ _ _ _ hnp (HX.out.now HB1)).mono ?_; rintro e w1 ⟨rfl, rfl⟩) | (go_at_call 48; refine (p_checkDays [day, kn] _ 2 2 _ (by decide) (Rd.new _ #[.int .i64 day, .int .i64 kn] _ 1 2 _ (by simp) rfl)).mono ?_; rintro e w1 ⟨rfl, hb1⟩; obtain ⟨hc1, hf1⟩ := bcell hb1; have HB1 : Below w.heap.size w w1 := Below.then_ (by (repeat' (first | with_reducible exact Below.refl _ _ | with_reducible assumption | with_reducible refine Below.alloc ?_ ?_ _ | with_reducible refine Below.setCell ?_ ?_ _ | with_reducible refine Below.drew ?_ | (simp; done) | (simp; omega) | omega))) hb1; have hs1 := HB1.size) | (go_at_call 47; refine (p_first [errI (checkB ds) 11, errI (personsB xs) 16, errI (daysOk [day, kn]) 6] 0 _ 3 3 _ (by decide) (Rd.new _ #[.int .i64 (errI (checkB ds) 11), .int .i64 (errI (personsB xs) 16), .int .i64 (errI (daysOk [day, kn]) 6)] _ 1 3 _ (by simp) rfl) HV.out).mono ?_; rintro e w1 ⟨rfl, rfl⟩) | (go_at_call 51; refine (p_even_ok ds kn _ _ _ _ (by omega) (Ds.now HD.out (by (repeat' (first | with_reducible exact Below.refl _ _ | with_reducible assumption | with_reducible refine Below.alloc ?_ ?_ _ | with_reducible refine Below.setCell ?_ ?_ _ | with_reducible refine Below.drew ?_ | (simp; done) | (simp; omega) | omega)))) HF.out).mono ?_; rintro e w3 ⟨A1, c1, rfl, hb3, hd3, hcc, hmm⟩; have HB3 : Below w.heap.size w w3 := Below.then_ (by (repeat' (first | with_reducible exact Below.refl _ _ | with_reducible assumption | with_reducible refine Below.alloc ?_ ?_ _ | with_reducible refine Below.setCell ?_ ?_ _ | with_reducible refine Below.drew ?_ | (simp; done) | (simp; omega) | omega))) hb3; have HD3 := Lib.hid hd3; clear hd3))
      go_ret2
      exact ⟨HB3, fun h => absurd HW.out h, fun _ h => (by rw [HF.out] at h; cases h), fun _ _ => ⟨_, _, rfl, HD3.out, hcc, hmm⟩⟩
  · have hv1 : (v != 0) = true := by simpa using hv0
    have HV0 := Lib.hid hv0
    clear hv0
    go_enter Tryz.func56, Tryz.ntmps56
    go_wp2_with (first | (go_at_call 10; refine (p_check ds _ _ _ _ hn (HD.out.now (by (repeat' (first | with_reducible exact Below.refl _ _ | with_reducible assumption | with_reducible refine Below.alloc ?_ ?_ _ | with_reducible refine Below.setCell ?_ ?_ _ | with_reducible refine Below.drew ?_ | (simp; done) | (simp; omega) | omega))))).mono ?_; rintro e w1 ⟨rfl, hb1⟩; obtain ⟨hc1, hf1⟩ := bcell hb1; have HB1 : Below w.heap.size w w1 := Below.then_ (by (repeat' (first | with_reducible exact Below.refl _ _ | with_reducible assumption | with_reducible refine Below.alloc ?_ ?_ _ | with_reducible refine Below.setCell ?_ ?_ _ | with_reducible refine Below.drew ?_ | (simp; done) | (simp; omega) | omega))) hb1; have hs1 := HB1.size) | (go_at_call 61; refine (p_checkPersons xs _ _ _ _ hnp (HX.out.now HB1)).mono ?_; rintro e w1 ⟨rfl, rfl⟩) | (go_at_call 48; refine (p_checkDays [day, kn] _ 2 2 _ (by decide) (Rd.new _ #[.int .i64 day, .int .i64 kn] _ 1 2 _ (by simp) rfl)).mono ?_; rintro e w1 ⟨rfl, hb1⟩; obtain ⟨hc1, hf1⟩ := bcell hb1; have HB1 : Below w.heap.size w w1 := Below.then_ (by (repeat' (first | with_reducible exact Below.refl _ _ | with_reducible assumption | with_reducible refine Below.alloc ?_ ?_ _ | with_reducible refine Below.setCell ?_ ?_ _ | with_reducible refine Below.drew ?_ | (simp; done) | (simp; omega) | omega))) hb1; have hs1 := HB1.size) | (go_at_call 47; refine (p_first [errI (checkB ds) 11, errI (personsB xs) 16, errI (daysOk [day, kn]) 6] v _ 3 3 _ (by decide) (Rd.new _ #[.int .i64 (errI (checkB ds) 11), .int .i64 (errI (personsB xs) 16), .int .i64 (errI (daysOk [day, kn]) 6)] _ 1 3 _ (by simp) rfl) HV.out).mono ?_; rintro e w1 ⟨rfl, rfl⟩))
    go_ret2
    exact ⟨by (repeat' (first | with_reducible exact Below.refl _ _ | with_reducible assumption | with_reducible refine Below.alloc ?_ ?_ _ | with_reducible refine Below.setCell ?_ ?_ _ | with_reducible refine Below.drew ?_ | (simp; done) | (simp; omega) | omega)), fun _ => by rw [HW.out]; rfl, fun h => absurd (HW.out.symm.trans h) HV0.out, fun h => absurd (HW.out.symm.trans h) HV0.out⟩

def lawR (ds : List Deed) (xs : List Int) (day kn : Int) : Int × Int :=
  if opErr ds xs day kn = 0 then (if clF (cntDs kn ds) then (0, 13) else (ansI (witB (cntDs kn ds) xs day true) (witB (cntDs kn ds) xs day false), 0)) else (0, opErr ds xs day kn)

set_option maxRecDepth 100000 in
set_option maxHeartbeats 2000000 in
theorem p_Lawful (ds : List Deed) (xs : List Int) (day kn : Int) (A Ap : Option Addr) (n c np cp : Nat) (w : World) (hn : n ≤ 9223372036854775807) (hd : Ds w w.heap.size A n ds) (hnp : np ≤ 1000000) (hx : Is w w.heap.size Ap np xs) :
    Calls Tryz.prog 25 #[.slice A n c, .slice Ap np cp, .int .i64 day, .int .i64 kn] w fun e w' => e = .returned (.tuple #[.int .i64 (lawR ds xs day kn).1, .int .i64 (lawR ds xs day kn).2]) ∧ Below w.heap.size w w' := by
  have hop := p_checkOpening ds xs day kn A Ap n c np cp w hn hd hnp hx
  have HX := Lib.hid hx
  clear hd hx
  by_cases hv : opErr ds xs day kn = 0
  · cases hf : clF (cntDs kn ds) with
    | true =>
      have HR : Hid (lawR ds xs day kn = (0, 13)) := by show _ = _; rw [lawR, if_pos hv, if_pos hf]
      have hop2 := hop.mono (R' := fun e w' => (∃ A c, e = .returned (.tuple #[.slice A 0 c, .int .i64 13])) ∧ Below w.heap.size w w') fun e w' h => ⟨h.2.2.1 hv hf, h.1⟩
      clear hop hv hf
      go_enter Tryz.func25, Tryz.ntmps25
      go_wp2_with (go_at_call 56; refine hop2.mono ?_; clear hop2; rintro e w1 ⟨⟨A1, c1, rfl⟩, hb1⟩)
      go_ret2
      exact ⟨by rw [HR.out]; rfl, hb1⟩
    | false =>
      have HR : Hid (lawR ds xs day kn = (ansI (witB (cntDs kn ds) xs day true) (witB (cntDs kn ds) xs day false), 0)) := by show _ = _; rw [lawR, if_pos hv, if_neg (by rw [hf]; simp)]
      have hop2 := hop.mono (R' := fun e w' => (∃ A c, e = .returned (.tuple #[.slice A (cntDs kn ds).length c, .int .i64 0]) ∧ Ds w' w'.heap.size A (cntDs kn ds).length (cntDs kn ds)) ∧ Below w.heap.size w w') fun e w' h => ⟨by obtain ⟨A, c, h1, h2, _⟩ := h.2.2.2 hv hf; exact ⟨A, c, h1, h2⟩, h.1⟩
      have hck := (opErr_eq hv).1
      have HC60 : Hid ((cntDs kn ds).length ≤ 1000) := by show _ ≤ _; have := cntDs_len kn ds; have := check_60 hck; omega
      have HOK := Lib.hid (cnt_ok hck kn)
      clear hop hv hf hck
      go_enter Tryz.func25, Tryz.ntmps25
      go_wp2_with (first
        | (go_at_call 56; refine hop2.mono ?_; clear hop2; rintro e w1 ⟨⟨A1, c1, rfl, hd1⟩, hb1⟩; have HD1 := Lib.hid hd1; clear hd1; have hwt := p_witness (cntDs kn ds) xs day true A1 Ap (cntDs kn ds).length c1 np cp w1 HC60.out HOK.out HD1.out hnp (HX.out.now hb1))
        | (go_at_call 57; refine hwt.mono ?_; clear hwt; rintro e w2 ⟨⟨m2, rfl⟩, hb2⟩; have hwf := p_witness (cntDs kn ds) xs day false A1 Ap (cntDs kn ds).length c1 np cp w2 HC60.out HOK.out (HD1.out.now hb2) hnp (HX.out.now (Below.then_ hb1 hb2)))
        | (go_at_call 57; refine hwf.mono ?_; clear hwf; rintro e w3 ⟨⟨m3, rfl⟩, hb3⟩)
        | (go_at_call 58; refine (p_answer _ _ _).mono ?_; rintro e w1 ⟨rfl, rfl⟩))
      go_ret2
      exact ⟨by rw [HR.out]; rfl, Below.then_ (Below.then_ hb1 hb2) hb3⟩
  · have HR : Hid (lawR ds xs day kn = (0, opErr ds xs day kn)) := by show _ = _; rw [lawR, if_neg hv]
    have hop2 := hop.mono (R' := fun e w' => e = .returned (.tuple #[.slice none 0 0, .int .i64 (opErr ds xs day kn)]) ∧ Below w.heap.size w w') fun e w' h => ⟨h.2.1 hv, h.1⟩
    generalize opErr ds xs day kn = v at *
    have hv1 : (v != 0) = true := by simpa using hv
    clear hop hv
    go_enter Tryz.func25, Tryz.ntmps25
    go_wp2_with (go_at_call 56; refine hop2.mono ?_; clear hop2; rintro e w1 ⟨rfl, hb1⟩)
    go_ret2
    exact ⟨by rw [HR.out]; rfl, hb1⟩

end Go.Proofs.YtikioiblaoimkaaGreatDoor

/- Openers. -/
namespace Go.Proofs.YtikioiblaoimkaaGreatDoor
open Go.RowKit Go.Shelf Go.Maps
attribute [local go_sem] Oper.semAt_some

/-- In whose hands the first k keys may be. -/
def handsM (ds : List Deed) (day : Int) (k : Nat) (a : Int) : Prop := ∃ j, j < k ∧ ∃ x ∈ stsL (thr ds ((j : Int) + 1, 0)) day, x.2.hand = a
def RetOpn (ds : List Deed) (day kn : Int) (w : World) (e : Ending) (w' : World) : Prop :=
  Below w.heap.size w w' ∧ (opErr ds [] day kn ≠ 0 → e = .returned (.tuple #[.slice none 0 0, .int .i64 (opErr ds [] day kn)])) ∧
  (opErr ds [] day kn = 0 → clF (cntDs kn ds) = true → e = .returned (.tuple #[.slice none 0 0, .int .i64 13])) ∧
  (opErr ds [] day kn = 0 → clF (cntDs kn ds) = false → ∃ xs, SS xs ∧ (∀ a, a ∈ xs ↔ handsM (cntDs kn ds) day 3 a) ∧
    (personsB xs = true ∧ witB (cntDs kn ds) xs day false = false → ∃ A c, e = .returned (.tuple #[.slice A xs.length c, .int .i64 0]) ∧ Is w' w'.heap.size A xs.length xs ∧ xs.length ≤ c) ∧
    (¬ (personsB xs = true ∧ witB (cntDs kn ds) xs day false = false) → e = .returned (.tuple #[.slice none 0 0, .int .i64 18])))

/-- A row of the call's own that collects, in a block of which P holds. -/
def CollX (P : Nat → Prop) (base bp : Nat) (m : Nat) (M : Int → Prop) (W : World) : Prop :=
  ∃ v xs, Boxed W bp 49 v ∧ W.ownsRow base 3 1 v xs.length (xs.map fun x => .int .i64 x) ∧ SS xs ∧ xs.length ≤ m ∧ (∀ a, a ∈ xs ↔ M a) ∧ ∀ b, v.ownBlock = some b → P b
theorem CollX.kept {P : Nat → Prop} {base bp m : Nat} {M : Int → Prop} {X Y : World} {row : Option Nat} (h : CollX P base bp m M X) (hg : X.grownBy Y row) (hr : ∀ r, row = some r → ∃ o : Obj, X.heap[r]? = some o ∧ o.isCells = false) : CollX P base bp m M Y := by
  obtain ⟨v, xs, hv, ho, h3⟩ := h
  refine ⟨v, xs, hv.kept hg (fun e => ?_), own_keep ho (fun b hb => ?_), h3⟩
  · obtain ⟨o, h1, h2⟩ := hr bp e.symm
    rw [show X.heap[bp]? = _ from hv] at h1
    cases h1
    cases h2
  · obtain ⟨cur, hh⟩ := own_block ho hb
    refine hg.block b (block_lt hh) fun e => ?_
    obtain ⟨o, h1, h2⟩ := hr b e.symm
    rw [hh] at h1
    cases h1
    cases h2
theorem CollX.congr {P P' : Nat → Prop} {base bp m m' : Nat} {M M' : Int → Prop} {X : World} (h : CollX P base bp m M X) (hm : m ≤ m') (hM : ∀ a, M a ↔ M' a) (hP : ∀ b, b < X.heap.size → P b → P' b) : CollX P' base bp m' M' X := by
  obtain ⟨v, xs, hv, ho, h1, h2, h3, h4⟩ := h
  exact ⟨v, xs, hv, ho, h1, by omega, fun a => (h3 a).trans (hM a), fun b hb => hP b (by obtain ⟨cur, hh⟩ := own_block ho hb; exact block_lt hh) (h4 b hb)⟩

/-- What stands between two rounds. -/
structure OpnJ (P : Nat → Prop) (w : World) (S : Nm → TL) (day : Int) (lo B bm base mx : Nat) (l : List Nat) (M : Int → Prop) (W : World) : Prop where
  col : CollX P base w.heap.size mx M W
  mks : Marked base l W
  th : ThR W lo B bm S
  bel : Below w.heap.size w W
  sz : base ≤ W.heap.size
theorem OpnJ.keep {P : Nat → Prop} {w : World} {S : Nm → TL} {day : Int} {lo B bm base mx bs : Nat} {l : List Nat} {M : Int → Prop} {W W' : World} {row : Option Nat} (h : OpnJ P w S day lo B bm base mx l M W) (hg : W.grownBy W' row)
    (hr : ∀ r, row = some r → bs ≤ r ∧ ∃ o : Obj, W.heap[r]? = some o ∧ o.isCells = false) (hbs : w.heap.size < bs) (hB : B ≤ bs) (hBW : B ≤ W.heap.size) (hl : ∀ D ∈ l, D < bs) : OpnJ P w S day lo B bm base mx l M W' where
  col := h.col.kept hg fun r e => (hr r e).2
  mks := h.mks.kept hg fun r e hm => by have := (hr _ e).1; have := hl _ hm; omega
  th := h.th.keep fun j h1 h2 => hg.block j (by omega) fun e => by have := (hr _ e.symm).1; omega
  bel := h.bel.grown hg h.bel.size fun r e => by have := (hr _ e).1; omega
  sz := Nat.le_trans h.sz hg.size

theorem handsM_succ {ds : List Deed} {day : Int} {k : Nat} {a : Int} : handsM ds day (k + 1) a ↔ handsM ds day k a ∨ ∃ x ∈ stsL (thr ds ((k : Int) + 1, 0)) day, x.2.hand = a := by
  unfold handsM
  constructor
  · rintro ⟨j, hj, h⟩
    rcases Nat.lt_or_ge j k with h2 | h2
    · exact .inl ⟨j, h2, h⟩
    · obtain rfl : j = k := by omega
      exact .inr h
  · rintro (⟨j, hj, h⟩ | h)
    · exact ⟨j, by omega, h⟩
    · exact ⟨k, by omega, h⟩

set_option maxRecDepth 100000 in
set_option maxHeartbeats 4000000 in
theorem p_Openers (ds : List Deed) (day kn : Int) (A : Option Addr) (n c : Nat) (w : World) (hn : n ≤ 9223372036854775807) (hd : Ds w w.heap.size A n ds) :
    Calls Tryz.prog 26 #[.slice A n c, .int .i64 day, .int .i64 kn] w (RetOpn ds day kn w) := by
  have hop := p_checkOpening ds [] day kn A none n c 0 0 w hn hd (by omega) Rd.nil_
  clear hd
  by_cases hv : opErr ds [] day kn = 0
  · have HVV := Lib.hid hv
    cases hf : clF (cntDs kn ds) with
    | true =>
      have HF := Lib.hid hf
      have hop2 := hop.mono (R' := fun e w' => (∃ A c, e = .returned (.tuple #[.slice A 0 c, .int .i64 13])) ∧ Below w.heap.size w w') fun e w' h => ⟨h.2.2.1 hv hf, h.1⟩
      clear hop hv hf
      go_enter Tryz.func26, Tryz.ntmps26
      go_wp2_with (go_at_call 56; refine hop2.mono ?_; clear hop2; rintro e w1 ⟨⟨A1, c1, rfl⟩, hb1⟩)
      go_ret2
      exact ⟨hb1, fun h => absurd HVV.out h, fun _ _ => rfl, fun _ h => by rw [HF.out] at h; cases h⟩
    | false =>
      have HF := Lib.hid hf
      have hop2 := hop.mono (R' := fun e w' => (∃ A c, e = .returned (.tuple #[.slice A (cntDs kn ds).length c, .int .i64 0]) ∧ Ds w' w'.heap.size A (cntDs kn ds).length (cntDs kn ds)) ∧ Below w.heap.size w w') fun e w' h => ⟨by obtain ⟨A, c, h1, h2, _⟩ := h.2.2.2 hv hf; exact ⟨A, c, h1, h2⟩, h.1⟩
      have hck := (opErr_eq hv).1
      have HC60 : Hid ((cntDs kn ds).length ≤ 60) := by show _ ≤ _; have := cntDs_len kn ds; have := check_60 hck; omega
      have HOK := Lib.hid (cnt_ok hck kn)
      clear hop hv hf hck
      refine (callsIn_wide (n := 9)).1 ?_
      have h1 : 1 ≤ 9 := by omega
      (refine callsIn_of_wp_marks Tryz.func26 rfl trivial ?_ rfl; simp only [Tryz.ntmps26, List.size_toArray, List.length_cons, List.length_nil, Nat.reduceAdd, Nat.reduceSub, Array.replicate_succ, Array.replicate_zero, List.push_toArray, List.append_toArray, List.nil_append, List.cons_append])
      gi_wp2_with (first
        | (refine ⟨trivial, ?_⟩; gi_at_call 56; refine (callsIn_wide.2 hop2).mono ?_; clear hop2; rintro e w1 ⟨⟨A1, c1, rfl, hd1⟩, hb1⟩; have HD1 := Lib.hid hd1; clear hd1)
        | (refine ⟨trivial, ?_⟩; gi_at_call 52; refine (callsIn_wide.2 (p_threads (cntDs kn ds) A1 _ c1 _ (by have := HC60.out; omega) HOK.out (HD1.out.now (by (repeat' (first | with_reducible exact Below.refl _ _ | with_reducible assumption | with_reducible refine Below.alloc ?_ ?_ _ | with_reducible refine Below.setCell ?_ ?_ _ | with_reducible refine Below.drew ?_ | (simp; done) | (simp; omega) | omega)))))).mono ?_; rintro e w4 ⟨bm, be, rfl, hbm, hth, hb4⟩; have HTH := Lib.hid (hth.read hbm); clear hth hbm))
      have hs4 := hb4.size
      simp only [World.size_alloc] at hs4 HTH
      have HB4 : Below w1.heap.size w1 w4 := Below.then_ ((Below.refl _ _).alloc (Nat.le_refl _) _) hb4
      have hJ0 : OpnJ (fun _ => True) w1 (sub (cntDs kn ds)) day (w1.heap.size + 1) w4.heap.size bm w4.heap.size 0 [] (handsM (cntDs kn ds) day 0) w4 :=
        ⟨⟨_, [], boxed_ext (Boxed.new w1 49 (.slice none 0 0)) hb4, World.ownsRow_nil _ _ _ _, List.Pairwise.nil, Nat.le_refl _, by simp [handsM], fun _ _ => trivial⟩, ⟨by simp, by simp, by simp⟩, HTH.out, HB4, Nat.le_refl _⟩
      clear hb4
      refine wpIn_named2 fun f0 W0 hf0 hW0 => ?_
      subst hW0
      refine wpIn_loop (fun a' W => ∃ (k : Nat) (l : List Nat), k ≤ 3 ∧ OpnJ (fun _ => True) w1 (sub (cntDs kn ds)) day (w1.heap.size + 1) w4.heap.size bm w4.heap.size (61 * k) l (handsM (cntDs kn ds) day k) W ∧ ∃ u12 u14 u30 u31 u32 u33 u34 u35 u36 u37 u38 u39 u40 u41 u42 u43 u44 u45 : Value, a' = { tmps := #[.slice A n c, .int .i64 day, .int .i64 kn, undef, undef, undef, .slice none 0 0, .int .i64 0, .slice A1 (cntDs kn ds).length c1, .int .i64 0, .pointer (some ⟨w1.heap.size, 0, none⟩), .map (some bm), u12, undef, u14, undef, undef, .tuple #[.slice A1 (cntDs kn ds).length c1, .int .i64 0], .slice A n c, .int .i64 day, .int .i64 kn, .tuple #[.slice A1 (cntDs kn ds).length c1, .int .i64 0], .slice A1 (cntDs kn ds).length c1, .int .i64 0, .int .i64 0, .bool false, undef, .slice A1 (cntDs kn ds).length c1, .map (some bm), .int .i64 k, u30, u31, u32, u33, u34, u35, u36, u37, u38, u39, u40, u41, u42, u43, u44, u45, undef, undef, undef, undef, undef, undef, undef, undef, undef, undef, undef, undef], defers := marks l })
        (fun a' _ => 3 - (intOf (a'.tmps.getD 29 undef)).toNat) ?start ?round
      case start =>
        subst hf0
        exact ⟨0, [], by omega, hJ0, _, _, _, _, _, _, _, _, _, _, _, _, _, _, _, _, _, _, rfl⟩
      case round =>
        clear hf0 hJ0
        rintro a' wr ⟨k, l, hk, hJ, u12, u14, u30, u31, u32, u33, u34, u35, u36, u37, u38, u39, u40, u41, u42, u43, u44, u45, rfl⟩
        dsimp only
        by_cases hlt : k < 3
        · have hsz := hJ.sz
          obtain ⟨Ad, Ai, As, cd, ci, cs, hlook, hthr⟩ := hJ.th.look (a := (k : Int) + 1) (c := 0) (wf2_small (by omega) (by omega) (by omega) (by omega))
          have HTR := Lib.hid hthr
          have HJ := Lib.hid hJ
          clear hthr hJ
          gi_wp2_with (refine ⟨trivial, ?_⟩; gi_at_call 59; refine (callsIn_wide.2 (p_states day _ _ _ _)).mono ?_; rintro e w5 ⟨rfl, hw5⟩)
          refine wpIn_named2 fun a1 W1 ha1 hW0 => ?_
          have hs1 : W1.heap.size = wr.heap.size + 2 := by rw [← hW0]; simp
          have hb0 : Below wr.heap.size wr W1 := by rw [← hW0]; exact ((Below.refl _ _).alloc (Nat.le_refl _) _).alloc (by simp) _
          have hJ1 : OpnJ (fun b => b < wr.heap.size ∨ W1.heap.size ≤ b) w1 (sub (cntDs kn ds)) day (w1.heap.size + 1) w4.heap.size bm w4.heap.size (61 * k) l (handsM (cntDs kn ds) day k) W1 := OpnJ.keep ⟨HJ.out.col.congr (Nat.le_refl _) (fun _ => Iff.rfl) (fun b hb _ => .inl hb), HJ.out.mks, HJ.out.th, HJ.out.bel, HJ.out.sz⟩ (grown_of_below hb0) (bs := wr.heap.size) (by simp) (by omega) hsz hsz fun D hD => HJ.out.mks.lt hD
          have bT : BoxA W1 wr.heap.size 98 #[.slice Ad (sub (cntDs kn ds) ((k : Int) + 1, 0)).length cd, .slice Ai (sub (cntDs kn ds) ((k : Int) + 1, 0)).length ci, .slice As (sub (cntDs kn ds) ((k : Int) + 1, 0)).length cs] := by (rw [← hW0]; simp only [boxed_iff, boxa_iff, alloc_get, drew_heap, World.size_alloc]; (repeat (first | rw [if_pos trivial] | rw [if_pos (by omega)] | rw [if_neg (by omega)])))
          have bD : BoxA W1 (wr.heap.size + 1) 3 #[.int .i64 day] := by (rw [← hW0]; simp only [boxed_iff, boxa_iff, alloc_get, drew_heap, World.size_alloc]; (repeat (first | rw [if_pos trivial] | rw [if_pos (by omega)] | rw [if_neg (by omega)])))
          have hT1 := HTR.out.below (hb0.mono hsz)
          have hPw : ∀ j, (w1.heap.size + 1 ≤ j ∧ j < w4.heap.size) ∨ j = wr.heap.size ∨ j = wr.heap.size + 1 → j < W1.heap.size := fun j hj => by omega
          have hl1 : ∀ D ∈ l, D < W1.heap.size := fun D hD => hJ1.mks.lt hD
          have hTn : (sub (cntDs kn ds) ((k : Int) + 1, 0)).length ≤ 60 := Nat.le_trans (sub_length_le _ _) HC60.out
          have HJ2 := Lib.hid hJ1
          clear hW0 hb0 hJ1
          refine wpIn_rangeFunc_ownH rfl h1 (gf := 95) (lb := #[.pointer (some ⟨wr.heap.size, 0, none⟩), .pointer (some ⟨wr.heap.size + 1, 0, none⟩)]) (by subst ha1; rfl) trivial (enters_of Tryz.func95 (by kernel_rfl) rfl)
            (states_stops 8 (by omega) wr.heap.size (wr.heap.size + 1) (w1.heap.size + 1) w4.heap.size (fun j => (w1.heap.size + 1 ≤ j ∧ j < w4.heap.size) ∨ j = wr.heap.size ∨ j = wr.heap.size + 1) (sub (cntDs kn ds) ((k : Int) + 1, 0)) day Ad Ai As cd ci cs W1 (by omega) (fun j h2 h3 => .inl ⟨h2, h3⟩) (.inr (.inl rfl)) (.inr (.inr rfl)) hPw (by omega) (bT.cell 0) (bT.cell 1) (bT.cell 2) (bD.cell 0) hT1)
            keepP_t (keepP_b hPw) (Below.refl _ _) (fun _ => rfl)
            (fun (pre : List (YS ((sub (cntDs kn ds) ((k : Int) + 1, 0)).map (·.1)) day)) W => OpnJ (fun b => b < wr.heap.size ∨ W1.heap.size ≤ b) w1 (sub (cntDs kn ds)) day (w1.heap.size + 1) w4.heap.size bm w4.heap.size (61 * k + pre.length) l (fun a => handsM (cntDs kn ds) day k a ∨ ∃ x ∈ pre, x.1.2.hand = a) W ∧ W1.heap.size ≤ W.heap.size)
            (fun _ _ _ => False)
            (fun s X Y row hs hg hr => ⟨hs.1.keep (bs := W1.heap.size) hg hr (by omega) (by omega) (by have := hs.2; omega) hl1, Nat.le_trans hs.2 hg.size⟩)
            (fun _ _ _ _ _ hs _ _ => hs)
            ⟨⟨HJ2.out.col.congr (Nat.le_refl _) (by simp) (fun _ _ h => h), HJ2.out.mks, HJ2.out.th, HJ2.out.bel, HJ2.out.sz⟩, Nat.le_refl _⟩
            (fun x a' W => ∃ Bx, W1.heap.size ≤ Bx ∧ BoxA W Bx 89 #[.int .i64 x.1.2.holder, .int .i64 x.1.2.hand, .bool x.1.2.office] ∧ a' = { tmps := ((a1.tmps.setIfInBounds 39 (.int .i64 x.1.1)).setIfInBounds 40 (stV x.1.2)).setIfInBounds 14 (.pointer (some ⟨Bx, 0, none⟩)), defers := [] })
            (fun x a' _ X Y row hs hg hr => by obtain ⟨Bx, g1, g2, g3⟩ := hs; exact ⟨Bx, g1, boxa_own Bx _ (fun (_ : Unit) => _) () X Y row g2 hg (fun r e => (hr r e).2), g3⟩)
            ?assign ?body ?done ?stop
          case assign =>
            subst ha1
            rintro lp pre x W K ⟨hI, hs2⟩ hK
            simp only [encS, stV]
            gi_wp2
            exact hK _ _ ((KeepsOthers.alloc _ _).from _) (KeepP.of_below (B := W.heap.size) (by (repeat' (first | with_reducible exact Below.refl _ _ | with_reducible assumption | with_reducible refine Below.alloc ?_ ?_ _ | with_reducible refine Below.setCell ?_ ?_ _ | with_reducible refine Below.drew ?_ | (simp; done) | (simp; omega) | omega))) fun j hj => Nat.lt_of_lt_of_le (hPw j hj) hs2) ⟨hI.keep (bs := W1.heap.size) (World.grownBy_alloc _ _ none) (by simp) (by omega) (by omega) (by omega) hl1, by simp; omega⟩ ⟨W.heap.size, hs2, BoxA.new W _ _, rfl⟩
          case body =>
            subst ha1
            rintro lp pre x a' W hl ⟨r, hr⟩ ⟨hI, hs2⟩ ⟨Bx, hBx, bX, rfl⟩ hlt2
            obtain ⟨v, xs, bP1, hown, hss, hxl, hmem, hPb⟩ := hI.col
            have cP := bP1.cell
            have x0 := bX.cell 0
            have x1 := bX.cell 1
            have x2 := bX.cell 2
            have HI := Lib.hid hI
            have HO := Lib.hid hown
            have HSS := Lib.hid hss
            have HM := Lib.hid hmem
            have HBX : Hid (∀ b, v.ownBlock = some b → w4.heap.size ≤ b ∧ (b < wr.heap.size ∨ W1.heap.size ≤ b)) := fun b hb => ⟨own_le hown hb, hPb b hb⟩
            clear hPb
            have hxl2 : xs.length ≤ 1000 := by
              have h2 := stsL_len ((sub (cntDs kn ds) ((k : Int) + 1, 0)).map (·.1)) day
              rw [List.length_map] at h2
              omega
            clear hown hss hmem hI
            simp only [List.setIfInBounds_toArray, List.set_cons_zero, List.set_cons_succ]
            gi_wp2_with (refine ⟨trivial, ?_⟩; gi_at_call 60; refine (CallsIn.inRound lp (callsIn_wide.2 (p_insert (base := w4.heap.size) x.1.2.hand (by omega) HSS.out (by omega) HO.out))).mono ?_; rintro e w7 ⟨v', ys, rfl, hys, hyl, hym, hyo, hgr, hat⟩; obtain ⟨A', c', rfl, hcc'⟩ := own_slice hyo; have bP3 := bP1.kept hgr (bP1.not_row (by decide) HO.out); have cP3 := bP3.cell; have fP3 := bP3.frozen)
            have hs7 := hgr.size
            exact ⟨((KeepsOthers.of_grownBy hgr fun j o e hj => by
                obtain ⟨cur, hh⟩ := own_block HO.out e
                rw [hh] at hj
                cases hj
                rfl).trans (KeepsOthers.setCell _ _ _)).from _,
              (KeepP.of_grown hgr fun j hj => ⟨Nat.lt_of_lt_of_le (hPw j hj) hs2, fun e => by have := HBX.out j e; have := hPw j hj; omega⟩).trans (KeepP.setCell _ _ (by simp only; omega)),
              ⟨⟨_, ys, bP3.set _, own_keep hyo fun b hb => Below.heap_setCell _ _ _ _ (fun e => bP3.not_row (by decide) hyo (by rw [hb, e])), hys, by simp; omega, fun a => by
                  rw [hym, HM.out]
                  simp only [List.mem_append, List.mem_singleton]
                  constructor
                  · rintro (h | h | ⟨y, hy, h⟩)
                    · exact .inr ⟨x, .inr rfl, h.symm⟩
                    · exact .inl h
                    · exact .inr ⟨y, .inl hy, h⟩
                  · rintro (h | ⟨y, hy | hy, h⟩)
                    · exact .inr (.inl h)
                    · exact .inr (.inr ⟨y, hy, h⟩)
                    · exact .inl (by rw [← h, hy]), fun b hb => by
                  rcases hat with h | ⟨b', h, h'⟩
                  · rw [h] at hb
                    exact (HBX.out b hb).2
                  · rw [h] at hb
                    cases hb
                    exact .inr (Nat.le_trans hs2 h')⟩,
                (HI.out.mks.kept hgr fun r e hm => by
                  obtain ⟨cur, hh⟩ := own_block HO.out e
                  rw [HI.out.mks.at_ r hm] at hh
                  cases hh).keep fun D hD => Below.heap_setCell _ _ _ _ (fun e => by have := HI.out.mks.ge D hD; simp only at e; omega),
                HI.out.th.keep fun j h1 h2 => (Below.heap_setCell _ _ _ _ (fun e => by simp only at e; omega)).trans (hgr.block j (by have := HI.out.sz; omega) fun e => by have := (HBX.out j e.symm).1; omega),
                (HI.out.bel.grown hgr HI.out.bel.size fun b e => by have := (HBX.out b e).1; omega).setCell (by simp only; omega) _,
                by simp; have := HI.out.sz; omega⟩, by simp; omega⟩
          case done =>
            subst ha1
            rintro D ys W hD hys ⟨hI, hs2⟩ hK
            gi_wp2
            have hI2 : OpnJ (fun _ => True) w1 (sub (cntDs kn ds)) day (w1.heap.size + 1) w4.heap.size bm w4.heap.size (61 * (k + 1)) (D :: l) (handsM (cntDs kn ds) day (k + 1)) W := by
              have hyl : ys.length ≤ 61 := by
                have h2 := stsL_len ((sub (cntDs kn ds) ((k : Int) + 1, 0)).map (·.1)) day
                rw [List.length_map] at h2
                have h3 := congrArg List.length hys
                simp only [List.length_map] at h3
                omega
              refine ⟨hI.col.congr (by omega) (fun a => ?_) (fun _ _ _ => trivial), ⟨fun E hE => ?_, fun E hE => ?_, List.nodup_cons.2 ⟨fun hm => by have := hl1 D hm; omega, hI.mks.nodup⟩⟩, hI.th, hI.bel, hI.sz⟩
              · rw [handsM_succ]
                have hm : ∀ s, s ∈ ys.map (·.1) ↔ s ∈ stsL (thr (cntDs kn ds) ((k : Int) + 1, 0)) day := fun s => by rw [hys]; rfl
                refine or_congr Iff.rfl ⟨fun ⟨y, hy, h⟩ => ⟨y.1, (hm _).1 (List.mem_map.2 ⟨y, hy, rfl⟩), h⟩, fun ⟨s, hs, h⟩ => ?_⟩
                obtain ⟨y, hy, rfl⟩ := List.mem_map.1 ((hm _).2 hs)
                exact ⟨y, hy, h⟩
              · rcases List.mem_cons.1 hE with rfl | hE
                · exact hK
                · exact hI.mks.at_ E hE
              · rcases List.mem_cons.1 hE with rfl | hE
                · omega
                · exact hI.mks.ge E hE
            exact ⟨⟨k + 1, D :: l, by omega, hI2, _, _, _, _, _, _, _, _, _, _, _, _, _, _, _, _, _, _, rfl⟩, by simp [intOf]; omega⟩
          case stop =>
            rintro D c pre W _ _ h _
            exact h.elim
        · obtain rfl : k = 3 := by omega
          obtain ⟨v, xs, bP1, hown, hss, hxl, hmem, _⟩ := hJ.col
          obtain ⟨Av, cv, rfl, hcv⟩ := own_slice hown
          have cP := bP1.cell
          have hIs := Rd.of_own hown
          have hbq := Below.then_ hb1 hJ.bel
          have hs0 := hb1.size
          have hpc := p_checkPersons xs Av xs.length cv wr (by omega) hIs
          have hwt := p_witness (cntDs kn ds) xs day false A1 Av (cntDs kn ds).length c1 xs.length cv wr (by have := HC60.out; omega) HOK.out (HD1.out.now hJ.bel) (by omega) hIs
          have hws := hJ.sz
          have HO := Lib.hid hown
          have HS := Lib.hid hss
          have HM := Lib.hid hmem
          have HK := Lib.hid hJ.mks
          have hno : ∀ b, (Value.slice Av xs.length cv).ownBlock = some b → b < wr.heap.size ∧ b ∉ l := fun b hb => by
            obtain ⟨cur, hh⟩ := own_block hown hb
            exact ⟨block_lt hh, fun hm => by rw [hJ.mks.at_ b hm] at hh; cases hh⟩
          have HN := Lib.hid hno
          clear hmem hss hown hJ hno
          by_cases hp : personsB xs = true
          · have HP := Lib.hid hp
            rw [show errI (personsB xs) 16 = 0 by rw [hp]; rfl] at hpc
            obtain ⟨b, hb⟩ : ∃ b, witB (cntDs kn ds) xs day false = b := ⟨_, rfl⟩
            rw [hb] at hwt
            have HB := Lib.hid hb
            clear hb hp
            cases b with
            | true =>
              gi_wp2_with (first
                | (refine ⟨trivial, ?_⟩; gi_at_call 61; refine (callsIn_wide.2 hpc).mono ?_; clear hpc; rintro e w8 ⟨rfl, rfl⟩)
                | (refine ⟨trivial, ?_⟩; gi_at_call 57; refine (callsIn_wide.2 hwt).mono ?_; clear hwt; rintro e w9 ⟨⟨m9, rfl⟩, hb9⟩))
              refine leaves_marks l _ (HK.out.keep fun D hD => hb9.block D (HK.out.lt hD)) fun W' hbm hk => ?_
              refine ⟨.tuple #[.slice none 0 0, .int .i64 18], by simp [results, Tryz.f26, go_sem], ?_⟩
              exact ⟨(Below.then_ hbq hb9).trans (hbm.mono (by omega)), fun h => absurd HVV.out h, fun _ h => (by rw [HF.out] at h; cases h), fun _ _ => ⟨xs, HS.out, HM.out, fun h => by rw [HB.out] at h; exact absurd h.2 (by simp), fun _ => rfl⟩⟩
            | false =>
              gi_wp2_with (first
                | (refine ⟨trivial, ?_⟩; gi_at_call 61; refine (callsIn_wide.2 hpc).mono ?_; clear hpc; rintro e w8 ⟨rfl, rfl⟩)
                | (refine ⟨trivial, ?_⟩; gi_at_call 57; refine (callsIn_wide.2 hwt).mono ?_; clear hwt; rintro e w9 ⟨⟨m9, rfl⟩, hb9⟩; have bP9 := boxed_ext bP1 hb9; have cP9 := bP9.cell))
              refine leaves_marks l _ (HK.out.keep fun D hD => hb9.block D (HK.out.lt hD)) fun W' hbm hk => ?_
              refine ⟨.tuple #[.slice Av xs.length cv, .int .i64 0], by simp [results, Tryz.f26, go_sem], ?_⟩
              exact ⟨(Below.then_ hbq hb9).trans (hbm.mono (by omega)), fun h => absurd HVV.out h, fun _ h => (by rw [HF.out] at h; cases h), fun _ _ => ⟨xs, HS.out, HM.out, fun _ => ⟨Av, cv, rfl, Rd.of_own (own_keep HO.out fun b hb => (hk b (HN.out b hb).2).trans (hb9.block b (HN.out b hb).1)), hcv.1⟩, fun h => absurd ⟨HP.out, HB.out⟩ h⟩⟩
          · have HP := Lib.hid hp
            rw [show errI (personsB xs) 16 = 16 by rw [show personsB xs = false by simpa using hp]; rfl] at hpc
            clear hp hwt
            gi_wp2_with (refine ⟨trivial, ?_⟩; gi_at_call 61; refine (callsIn_wide.2 hpc).mono ?_; clear hpc; rintro e w8 ⟨rfl, rfl⟩)
            refine leaves_marks l _ HK.out fun W' hbm hk => ?_
            refine ⟨.tuple #[.slice none 0 0, .int .i64 18], by simp [results, Tryz.f26, go_sem], ?_⟩
            exact ⟨hbq.trans (hbm.mono (by omega)), fun h => absurd HVV.out h, fun _ h => (by rw [HF.out] at h; cases h), fun _ _ => ⟨xs, HS.out, HM.out, fun h => absurd h.1 HP.out, fun _ => rfl⟩⟩
  · have HVV := Lib.hid hv
    have hop2 := hop.mono (R' := fun e w' => e = .returned (.tuple #[.slice none 0 0, .int .i64 (opErr ds [] day kn)]) ∧ Below w.heap.size w w') fun e w' h => ⟨h.2.1 hv, h.1⟩
    obtain ⟨v, hvv⟩ : ∃ v, opErr ds [] day kn = v := ⟨_, rfl⟩
    rw [hvv] at hop2 hv
    have HW := Lib.hid hvv
    have hv1 : (v != 0) = true := by simpa using hv
    clear hop hv hvv
    go_enter Tryz.func26, Tryz.ntmps26
    go_wp2_with (go_at_call 56; refine hop2.mono ?_; clear hop2; rintro e w1 ⟨rfl, hb1⟩)
    go_ret2
    exact ⟨hb1, fun _ => by rw [HW.out]; rfl, fun h => absurd h HVV.out, fun h => absurd h HVV.out⟩

end Go.Proofs.YtikioiblaoimkaaGreatDoor
