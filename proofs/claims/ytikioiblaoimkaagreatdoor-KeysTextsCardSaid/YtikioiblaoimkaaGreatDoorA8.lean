import Derived.Test.YtikioiblaoimkaaGreatDoorA7
set_option linter.unusedVariables false
set_option linter.unusedSimpArgs false

/- A loop over an iterator that holds loops of its own: what its caller owes. -/
namespace Go.Proofs.YtikioiblaoimkaaGreatDoor
open Go.RowKit Go.Shelf Go.Maps
attribute [local go_sem] Oper.semAt_some

/-- How a round's body may be left: nothing from B on is touched. -/
def postO {α : Type} (B : Nat) (P : Nat → Prop) (I Ix : List α → World → Prop) (xs : List α) (W : World) : Exit → Act → World → Prop
  | .normal, _, W' => KeepQ B P W W' ∧ I xs W'
  | .ret, _, W' => KeepQ B P W W' ∧ Ix xs W'
  | _, _, _ => False

theorem KeepQ.putObj {b : Nat} {P : Nat → Prop} (W : World) (l : Nat) (o : Obj) (hP : ¬ P l) (hb : l < b) : KeepQ b P W (W.putObj l o) :=
  ⟨by simp, fun k hk => World.putObj_heap_other (fun e => hP (e ▸ hk)), fun k h1 _ => World.putObj_heap_other (by omega)⟩
theorem KeepQ.up {b b' : Nat} {P : Nat → Prop} {W W' : World} (h : KeepQ b P W W') (hb : b ≤ b') : KeepQ b' P W W' := ⟨h.size, h.blk, fun k h1 h2 => h.new k (by omega) h2⟩

theorem round_any {P : Program} {l : Nat} {f : FuncId} {tmps : Array Value} {assign body : Code} {w : World} {R : Ending → World → Prop} (m : Nat) {m' : Nat} (h : RoundIn Fence.wide m P l f tmps assign body w R) : RoundIn Fence.wide m' P l f tmps assign body w R :=
  ⟨h.1, fun c cs _ => h.2 c cs (room_wide _)⟩

theorem wpIn_range_seqO {α : Type} {g : Operand} {ps : Array Tmp} {assign body : Code} {Q : Exit → Act → World → Prop} {a : Act} {w : World} {gf : Nat} {lb : Array Value}
    (hg : a.eval g = .func (.func gf) #[] lb) (eg : ∀ args w, (callFunc gf args).run Tryz.prog w = .ok (.enter gf args) w)
    {encs : α → Array Value} {P : Nat → Prop} {S : List α → Prop} {N : Nat} (hseq : SeqO gf lb encs P S N w) (hPw : ∀ k, P k → k < w.heap.size) (hps : ∀ x, (encs x).size = ps.size)
    (I Ix : List α → World → Prop) (hI : OwnFrom w.heap.size I) (hIx : OwnFrom w.heap.size Ix) (h0 : I [] w) (Ax : α → Act → World → Prop) (hAx : ∀ x a', OwnFrom w.heap.size (fun (_ : Unit) W => Ax x a' W))
    (hassign : ∀ (l : Nat) (pre : List α) (x : α) (W : World) (K : Act → World → Prop), w.heap.size + 2 ≤ W.heap.size → I pre W → (∀ a' W', KeepQ w.heap.size P W W' → I pre W' → Ax x a' W' → K a' W') →
      assign.wpIn (Fence.wide.inRound l) 5 Tryz.prog (Exit.then K (fun _ _ _ => False)) { tmps := (ps.zip (encs x)).foldl (fun t (p, v) => t.setIfInBounds p v) a.tmps, defers := [] } W)
    (hbody : ∀ (l : Nat) (pre : List α) (x : α) (a' : Act) (W : World), w.heap.size + 2 ≤ W.heap.size → I pre W → Ax x a' W → pre.length < N → body.wpIn (Fence.wide.inRound l) 5 Tryz.prog (postO w.heap.size P I Ix (pre ++ [x]) W) a' W)
    (hdone : ∀ (D : Nat) (xs : List α) (W : World), w.heap.size ≤ D → S xs → I xs W → W.heap[D]? = some (.deferred (some [])) → Q .normal { a with defers := { target := .collected D, args := #[] } :: a.defers } W)
    (hstop : ∀ (D : Nat) (pre : List α) (W : World), w.heap.size ≤ D → Ix pre W → W.heap[D]? = some (.deferred (some [])) → Q .ret { a with defers := { target := .collected D, args := #[] } :: a.defers } W) :
    (Code.rangeFunc g ps assign body).wpIn Fence.wide 9 Tryz.prog Q a w := by
  refine wpIn_rangeFunc fun fn hfn => ?_
  -- the loop's record in each of its states; the two blocks of the loop: w.heap.size (calls put off), the record behind it
  obtain ⟨rc, hrc⟩ : ∃ rc : LoopState → Option Code → Loop, rc = fun st pe => { state := st, pending := pe, fn, tmps := a.tmps, params := ps, assign, body, defers := w.heap.size } := ⟨_, rfl⟩
  obtain ⟨V, hV⟩ : ∃ V, (w.alloc (.deferred (some []))).alloc (.loop (rc .ready none)) = V := ⟨_, rfl⟩
  have hVs : V.heap.size = w.heap.size + 2 := by rw [← hV]; simp
  have hbV : Below w.heap.size w V := by rw [← hV]; exact ((Below.refl _ _).alloc (Nat.le_refl _) _).alloc (by simp) _
  have hD : V.heap[w.heap.size]? = some (.deferred (some [])) := by rw [← hV, alloc_get, if_neg (by simp), alloc_get, if_pos rfl]
  have hR : V.heap[w.heap.size + 1]? = some (.loop (rc .ready none)) := by rw [← hV, alloc_get, if_pos (by simp)]
  have hIV : I [] V := hI _ _ _ none h0 (grown_of_below hbV) (by simp)
  -- what is kept between two rounds, and behind the last one
  obtain ⟨B2, hB2⟩ : ∃ B2 : Loop → World → Prop, B2 = fun r W => W.heap[w.heap.size + 1]? = some (.loop r) ∧ W.heap[w.heap.size]? = some (.deferred (some [])) := ⟨_, rfl⟩
  have own2 : ∀ {r : Loop} {X Y : World} {row : Option Nat}, B2 r X → X.grownBy Y row → (∀ k, row = some k → V.heap.size ≤ k) → B2 r Y := fun {r X Y row} hs hgr hr => by
    rw [hB2] at hs ⊢
    exact ⟨(hgr.block _ (block_lt hs.1) fun e => by have := hr _ e.symm; omega).trans hs.1, (hgr.block _ (block_lt hs.2) fun e => by have := hr _ e.symm; omega).trans hs.2⟩
  have turn : ∀ {r : Loop} {X : World} (r' : Loop), B2 r X → B2 r' (X.putObj (w.heap.size + 1) (.loop r')) := fun {r X} r' hs => by
    rw [hB2] at hs ⊢
    exact ⟨World.putObj_heap_same (block_lt hs.1), (World.putObj_heap_other (by omega)).trans hs.2⟩
  have stay : ∀ {r : Loop} {X Y : World}, B2 r X → KeepQ w.heap.size P X Y → B2 r Y := fun {r X Y} hs hk => by
    rw [hB2] at hs ⊢
    exact ⟨(hk.new _ (by omega) (block_lt hs.1)).trans hs.1, (hk.new _ (Nat.le_refl _) (block_lt hs.2)).trans hs.2⟩
  have hnP : ¬ P (w.heap.size + 1) := fun h => by have := hPw _ h; omega
  refine ⟨w.heap.size + 1, [{ target := .collected w.heap.size, args := #[] }], V, { target := .fn (.func gf) lb, args := #[.func (.yield (w.heap.size + 1)) #[] #[]] }, V, gf,
    #[.func (.yield (w.heap.size + 1)) #[] #[]] ++ lb, V, by rw [← hV, hrc]; exact run_enterLoop_outer _ _ _ _ _, by simp only [resolve, hg]; simp [go_sem], fun f' hf' => trivial, by simp [invoke, go_sem, eg], fun _ => by omega, ?_⟩
  refine (hseq (w.heap.size + 1) (fun pre W => (I pre W ∧ w.heap.size + 2 ≤ W.heap.size) ∧ B2 (rc .ready none) W) (fun pre W => Ix pre W ∧ B2 (rc .done (some .ret)) W) V hbV
    (fun s X Y row hs hgr hr => ⟨⟨hI s X Y row hs.1.1 hgr fun k e => ⟨by have := (hr k e).1; omega, (hr k e).2⟩, Nat.le_trans hs.1.2 hgr.size⟩, own2 hs.2 hgr fun k e => (hr k e).1⟩)
    (fun s X Y row hs hgr hr => ⟨hIx s X Y row hs.1 hgr fun k e => ⟨by have := (hr k e).1; omega, (hr k e).2⟩, own2 hs.2 hgr fun k e => (hr k e).1⟩)
    ?_ ⟨⟨hIV, by omega⟩, by rw [hB2]; exact ⟨hR, hD⟩⟩).mono ?_
  · rintro m pre x W ⟨⟨hi, hsz⟩, hb⟩ hlen
    have hb' := hb
    rw [hB2] at hb'
    have hy := run_yield (P := Tryz.prog) (args := encs x) hb'.1 (by rw [hrc]; exact hps x)
    rw [hrc] at hy
    refine ⟨fn, _, assign, body, hy, round_any 5 (roundIn_of_wpIn hfn (hassign _ pre x W _ hsz hi fun a' W' hk hi' hax => ?_))⟩
    have hb1 := stay hb hk
    have hb1' := hb1
    rw [hB2] at hb1'
    refine ⟨_, run_beginRound hb1'.1 (by rw [hrc]), ?_⟩
    have hb2 := turn { rc .ready none with state := .busy } hb1
    have hown : ∀ (s : List α) (U : World) (r : Loop) (o : Obj), w.heap.size + 1 < U.heap.size → B2 r U → I s U → I s (U.putObj (w.heap.size + 1) o) := fun s U r o _ hbu hiu => hI s U _ (some (w.heap.size + 1)) hiu (grownBy_putObj' U _ o) fun k e => by
      cases e
      rw [hB2] at hbu
      exact ⟨by omega, _, hbu.1, rfl⟩
    refine wpIn_mono (hbody _ pre x a' _ (by simp; exact Nat.le_trans hsz hk.size) (hown _ _ _ _ (by have := hk.size; omega) hb1 hi') (hAx x a' () _ _ (some (w.heap.size + 1)) hax (grownBy_putObj' _ _ _) fun k e => by cases e; exact ⟨by omega, _, hb1'.1, rfl⟩) hlen) ?_
    rintro e a3 W3 hp
    cases e with
    | normal =>
      obtain ⟨hk3, hi3⟩ := hp
      have hb3 := stay hb2 hk3
      have hb3' := hb3
      rw [hB2] at hb3'
      refine ⟨_, _, run_endRound none hb3'.1, .inl ⟨rfl, ⟨⟨hown _ _ _ _ (by have := hk.size; have := hk3.size; simp at this; omega) hb3 hi3, by have := hk.size; have := hk3.size; simp at this ⊢; omega⟩, ?_⟩, ?_⟩⟩
      · have h := turn (rc .ready none) hb3
        rw [hrc] at h ⊢
        exact h
      · exact (((hk.up (by omega)).trans (KeepQ.putObj _ _ _ hnP (by omega))).trans (hk3.up (by omega))).trans (KeepQ.putObj _ _ _ hnP (by omega))
    | ret =>
      obtain ⟨hk3, hi3⟩ := hp
      have hb3 := stay hb2 hk3
      have hb3' := hb3
      rw [hB2] at hb3'
      refine ⟨_, _, run_endRound (some .ret) hb3'.1, .inr ⟨rfl, ⟨hIx _ _ _ (some (w.heap.size + 1)) hi3 (grownBy_putObj' _ _ _) fun k e => by cases e; exact ⟨by omega, _, hb3'.1, rfl⟩, ?_⟩, ?_⟩⟩
      · have h := turn (rc .done (some .ret)) hb3
        rw [hrc] at h ⊢
        exact h
      · exact (((hk.up (by omega)).trans (KeepQ.putObj _ _ _ hnP (by omega))).trans (hk3.up (by omega))).trans (KeepQ.putObj _ _ _ hnP (by omega))
    | exit id => exact hp.elim
    | goto t => exact hp.elim
    | panic c => exact hp.elim
    | outgrown => exact hp.elim
  · rintro e W2 ⟨⟨v, rfl⟩, (⟨xs, hS, ⟨hi, _⟩, hb⟩ | ⟨pre, hi, hb⟩)⟩
    · rw [hB2] at hb
      exact ⟨none, _, by have h := run_endLoop (P := Tryz.prog) hb.1 (by rw [hrc]; simp); rw [hrc] at h; exact h, hdone _ xs _ (Nat.le_refl _) hS (hI xs W2 _ (some (w.heap.size + 1)) hi (grownBy_putObj' _ _ _) fun k e => by cases e; exact ⟨by omega, _, hb.1, rfl⟩) ((World.putObj_heap_other (by omega)).trans hb.2)⟩
    · rw [hB2] at hb
      exact ⟨some .ret, _, by have h := run_endLoop (P := Tryz.prog) hb.1 (by rw [hrc]; simp); rw [hrc] at h; exact h, wpIn_ret (hstop _ pre _ (Nat.le_refl _) (hIx pre W2 _ (some (w.heap.size + 1)) hi (grownBy_putObj' _ _ _) fun k e => by cases e; exact ⟨by omega, _, hb.1, rfl⟩) ((World.putObj_heap_other (by omega)).trans hb.2))⟩

end Go.Proofs.YtikioiblaoimkaaGreatDoor

/- slices.Contains at numbers; whether persons open. -/
namespace Go.Proofs.YtikioiblaoimkaaGreatDoor
open Go.RowKit Go.Maps

set_option maxHeartbeats 1000000 in
theorem l_index (xs : List Int) (v : Int) (A : Option Addr) (n c : Nat) (w : World) (hn : n ≤ 1000000) (h : Is w w.heap.size A n xs) :
    Calls Tryz.prog 143 #[.slice A n c, .int .i64 v] w fun e w' => (∃ r : Int, e = .returned (.int .i64 r) ∧ (0 ≤ r ↔ v ∈ xs)) ∧ w = w' := by
  have HI := Lib.hid h
  have HL := Lib.hid h.len
  clear h
  go_enter Tryz.func143, Tryz.ntmps143
  go_wp2
  go_loop [8] (fun i => ∃ k : Nat, k ≤ n ∧ i = .int .i64 k ∧ v ∉ xs.take k) (fun i => n - (intOf i).toNat)
  case atStart => exact ⟨0, by omega, rfl, by simp⟩
  case round =>
    obtain ⟨k, hk, rfl, ho⟩ := hrel
    have HO := Lib.hid ho
    clear ho
    by_cases hlt : k < n
    · obtain ⟨b, o, x, rfl, hb, hx, hc⟩ := HI.out.at_ hlt
      have HX := Lib.hid hx
      clear hx
      by_cases hw : v = x
      · have hv : v ∈ xs := by rw [hw]; exact List.mem_of_getElem? HX.out
        have HV : Hid (v ∈ xs) := hv
        have h1 : (v == x) = true := by simpa using hw
        clear hw hv
        go_wp2
        go_ret
        exact ⟨⟨k, rfl, fun _ => HV.out, fun _ => by omega⟩, rfl⟩
      · have h1 : (v == x) = false := by simpa using hw
        have H1 : Hid (v ∉ xs.take (k + 1)) := by
          show ¬ _
          rw [take_snoc_some HX.out, List.mem_append]
          rintro (h | h)
          · exact HO.out h
          · exact hw (by simpa using h)
        clear hw
        go_wp2
        go_round
        case rel => exact ⟨k + 1, by omega, by go_num, H1.out⟩
        case measure => simp [intOf]; omega
    · have h1 : v ∉ xs := by
        have := HO.out
        rwa [List.take_of_length_le (by rw [HL.out]; omega)] at this
      have HV : Hid (v ∉ xs) := h1
      clear h1
      go_wp2
      go_ret
      exact ⟨⟨-1, rfl, fun h => by omega, fun h => absurd h HV.out⟩, rfl⟩
set_option maxHeartbeats 1000000 in
theorem l_contains (xs : List Int) (v : Int) (r : Bool) (A : Option Addr) (n c : Nat) (w : World) (hn : n ≤ 1000000) (h : Is w w.heap.size A n xs) (hr : decide (v ∈ xs) = r) :
    Calls Tryz.prog 127 #[.slice A n c, .int .i64 v] w fun e w' => e = .returned (.bool r) ∧ w = w' := by
  have HI := Lib.hid h
  have HR := Lib.hid hr
  clear h hr
  go_enter Tryz.func127, Tryz.ntmps127
  go_wp2_with (go_at_call 143; refine (l_index xs v _ _ _ _ hn HI.out).mono ?_; rintro e w1 ⟨⟨q, rfl, hq⟩, rfl⟩)
  go_ret
  exact ⟨ret_bool (by rw [← HR.out]), rfl⟩

def st3 (a b c : St) : Nat → St
  | 0 => a
  | 1 => b
  | _ => c
/-- The i-th key is with one of the persons, and no lock ahead of it has its holder. -/
def opK (a b c : St) (xs : List Int) (i : Nat) : Prop := (st3 a b c i).hand ∈ xs ∧ ∀ j, j < i → (st3 a b c j).holder ≠ (st3 a b c i).holder
def openB (a b c : St) (xs : List Int) : Bool := (List.range 3).all fun i => decide ((st3 a b c i).hand ∈ xs) && (List.range i).all fun j => decide ((st3 a b c j).holder ≠ (st3 a b c i).holder)
theorem openB_iff {a b c : St} {xs : List Int} : openB a b c xs = true ↔ ∀ i, i < 3 → opK a b c xs i := by
  unfold openB opK
  simp only [List.all_eq_true, List.mem_range, Bool.and_eq_true, decide_eq_true_eq]
theorem openB_no {a b c : St} {xs : List Int} {k : Nat} (hk : k < 3) (h : ¬ opK a b c xs k) : openB a b c xs = false := by
  cases hb : openB a b c xs with
  | false => rfl
  | true => exact absurd (openB_iff.1 hb k hk) h

theorem idx_0 (a b c : St) (w : World) : (Instr.index 151 (.agg #[.int .i64 a.holder, .int .i64 a.hand, .bool a.office, .int .i64 b.holder, .int .i64 b.hand, .bool b.office, .int .i64 c.holder, .int .i64 c.hand, .bool c.office]) (.int .i64 0)).run Tryz.prog w = .ok (.agg #[.int .i64 a.holder, .int .i64 a.hand, .bool a.office]) w := by kernel_rfl
theorem idx_1 (a b c : St) (w : World) : (Instr.index 151 (.agg #[.int .i64 a.holder, .int .i64 a.hand, .bool a.office, .int .i64 b.holder, .int .i64 b.hand, .bool b.office, .int .i64 c.holder, .int .i64 c.hand, .bool c.office]) (.int .i64 1)).run Tryz.prog w = .ok (.agg #[.int .i64 b.holder, .int .i64 b.hand, .bool b.office]) w := by kernel_rfl
theorem idx_2 (a b c : St) (w : World) : (Instr.index 151 (.agg #[.int .i64 a.holder, .int .i64 a.hand, .bool a.office, .int .i64 b.holder, .int .i64 b.hand, .bool b.office, .int .i64 c.holder, .int .i64 c.hand, .bool c.office]) (.int .i64 2)).run Tryz.prog w = .ok (.agg #[.int .i64 c.holder, .int .i64 c.hand, .bool c.office]) w := by kernel_rfl

set_option maxRecDepth 100000 in
set_option maxHeartbeats 4000000 in
theorem p_open (a b c : St) (xs : List Int) (A : Option Addr) (n cc : Nat) (w : World) (hn : n ≤ 1000000) (h : Is w w.heap.size A n xs) :
    Calls Tryz.prog 93 #[.agg #[.int .i64 a.holder, .int .i64 a.hand, .bool a.office, .int .i64 b.holder, .int .i64 b.hand, .bool b.office, .int .i64 c.holder, .int .i64 c.hand, .bool c.office], .slice A n cc] w fun e w' => e = .returned (.bool (openB a b c xs)) ∧ Below w.heap.size w w' := by
  have HI := Lib.hid h
  clear h
  go_enter Tryz.func93, Tryz.ntmps93
  go_wp2
  go_loopw [10] (fun i wr => ∃ k : Nat, k ≤ 3 ∧ i = .int .i64 k ∧ (∀ i, i < k → opK a b c xs i) ∧ Below w.heap.size w wr ∧ BoxA wr w.heap.size 151 #[.int .i64 a.holder, .int .i64 a.hand, .bool a.office, .int .i64 b.holder, .int .i64 b.hand, .bool b.office, .int .i64 c.holder, .int .i64 c.hand, .bool c.office]) (fun i _ => 3 - (intOf i).toNat)
  case atStart => exact ⟨0, by omega, rfl, by simp, by (repeat' (first | with_reducible exact Below.refl _ _ | with_reducible assumption | with_reducible refine Below.alloc ?_ ?_ _ | with_reducible refine Below.setCell ?_ ?_ _ | with_reducible refine Below.drew ?_ | (simp; done) | (simp; omega) | omega)), BoxA.new _ _ _⟩
  case round =>
    obtain ⟨wo, rfl⟩ : ∃ wo, wo = wr := ⟨wr, rfl⟩
    obtain ⟨k, hk, rfl, hp, hB, bL⟩ := hrel
    have HPP := Lib.hid hp
    clear hp
    have HBL := Lib.hid bL
    have hs0 := hB.size
    have hsl := bL.lt
    have l0 := bL.cell 0
    have l1 := bL.cell 1
    have l2 := bL.cell 2
    have l3 := bL.cell 3
    have l4 := bL.cell 4
    have l5 := bL.cell 5
    clear bL
    have ix0 := idx_0 a b c
    have ix1 := idx_1 a b c
    have ix2 := idx_2 a b c
    obtain rfl | rfl | rfl | rfl : k = 0 ∨ k = 1 ∨ k = 2 ∨ k = 3 := by omega
    · have HBN := Lib.hid (hB.alloc hs0 (.cells #[.int .i64 a.holder, .int .i64 a.hand, .bool a.office] 89))
      by_cases hin : a.hand ∈ xs
      · have HIN := Lib.hid hin
        have hd : decide (a.hand ∈ xs) = true := by simpa using hin
        clear hin
        go_wp2_with (go_at_call 127; refine (l_contains xs _ true _ _ _ _ hn (HI.out.now (by (repeat' (first | with_reducible exact Below.refl _ _ | with_reducible assumption | with_reducible refine Below.alloc ?_ ?_ _ | with_reducible refine Below.setCell ?_ ?_ _ | with_reducible refine Below.drew ?_ | (simp; done) | (simp; omega) | omega)))) hd).mono ?_; rintro e w1 ⟨rfl, rfl⟩)
        go_loopw [22] (fun i wr => ∃ j : Nat, j ≤ 0 ∧ i = .int .i64 j ∧ (∀ i, i < j → (st3 a b c i).holder ≠ a.holder) ∧ Below (wo.alloc (.cells #[.int .i64 a.holder, .int .i64 a.hand, .bool a.office] 89)).heap.size (wo.alloc (.cells #[.int .i64 a.holder, .int .i64 a.hand, .bool a.office] 89)) wr) (fun i _ => 0 - (intOf i).toNat)
        case atStart => exact ⟨0, by omega, rfl, by simp, Below.refl _ _⟩
        case round =>
          obtain ⟨j, hj, rfl, hne, hbq⟩ := hrel
          have HNE := Lib.hid hne
          clear hne
          have m0 : wr.cell? ⟨wo.heap.size, 0, none⟩ = some (.int .i64 a.holder) := (hbq.cell (p := ⟨wo.heap.size, 0, none⟩) (by simp)).trans (by simp)
          have hsq := hbq.size
          simp only [World.size_alloc] at hsq
          have hlt1 : wo.heap.size < wr.heap.size := by omega
          have hlt2 : w.heap.size < wr.heap.size := by omega
          have hbl : ∀ o, wr.cell? ⟨w.heap.size, o, none⟩ = wo.cell? ⟨w.heap.size, o, none⟩ := fun o => (hbq.cell (p := ⟨w.heap.size, o, none⟩) (by simp; omega)).trans (World.cell?_alloc_lt _ _ _ hsl)
          have HBLQ := Lib.hid (((HBL.out.alloc (.cells #[.int .i64 a.holder, .int .i64 a.hand, .bool a.office] 89)).ext hbq))
          have HBQ := Lib.hid (Below.then_ HBN.out hbq)
          clear hbl
          obtain rfl : j = 0 := by omega
          · have HOK : Hid (∀ i, i < 1 → opK a b c xs i) := fun i hi => by
              rcases Nat.lt_or_ge i 0 with h | h
              · exact HPP.out i h
              · obtain rfl : i = 0 := by omega
                exact ⟨HIN.out, fun i hi => HNE.out i hi⟩
            go_wp2
            exact ⟨⟨1, by omega, by go_num, HOK.out, HBQ.out, HBLQ.out⟩, by simp [intOf]⟩
      · have hd : decide (a.hand ∈ xs) = false := by simpa using hin
        have HF := Lib.hid (openB_no (a := a) (b := b) (c := c) (xs := xs) (k := 0) (by omega) fun hh => hin hh.1)
        clear hin
        go_wp2_with (go_at_call 127; refine (l_contains xs _ false _ _ _ _ hn (HI.out.now (by (repeat' (first | with_reducible exact Below.refl _ _ | with_reducible assumption | with_reducible refine Below.alloc ?_ ?_ _ | with_reducible refine Below.setCell ?_ ?_ _ | with_reducible refine Below.drew ?_ | (simp; done) | (simp; omega) | omega)))) hd).mono ?_; rintro e w1 ⟨rfl, rfl⟩)
        go_ret
        exact ⟨ret_bool HF.out.symm, HBN.out⟩
    · have HBN := Lib.hid (hB.alloc hs0 (.cells #[.int .i64 b.holder, .int .i64 b.hand, .bool b.office] 89))
      by_cases hin : b.hand ∈ xs
      · have HIN := Lib.hid hin
        have hd : decide (b.hand ∈ xs) = true := by simpa using hin
        clear hin
        go_wp2_with (go_at_call 127; refine (l_contains xs _ true _ _ _ _ hn (HI.out.now (by (repeat' (first | with_reducible exact Below.refl _ _ | with_reducible assumption | with_reducible refine Below.alloc ?_ ?_ _ | with_reducible refine Below.setCell ?_ ?_ _ | with_reducible refine Below.drew ?_ | (simp; done) | (simp; omega) | omega)))) hd).mono ?_; rintro e w1 ⟨rfl, rfl⟩)
        go_loopw [22] (fun i wr => ∃ j : Nat, j ≤ 1 ∧ i = .int .i64 j ∧ (∀ i, i < j → (st3 a b c i).holder ≠ b.holder) ∧ Below (wo.alloc (.cells #[.int .i64 b.holder, .int .i64 b.hand, .bool b.office] 89)).heap.size (wo.alloc (.cells #[.int .i64 b.holder, .int .i64 b.hand, .bool b.office] 89)) wr) (fun i _ => 1 - (intOf i).toNat)
        case atStart => exact ⟨0, by omega, rfl, by simp, Below.refl _ _⟩
        case round =>
          obtain ⟨j, hj, rfl, hne, hbq⟩ := hrel
          have HNE := Lib.hid hne
          clear hne
          have m0 : wr.cell? ⟨wo.heap.size, 0, none⟩ = some (.int .i64 b.holder) := (hbq.cell (p := ⟨wo.heap.size, 0, none⟩) (by simp)).trans (by simp)
          have hsq := hbq.size
          simp only [World.size_alloc] at hsq
          have hlt1 : wo.heap.size < wr.heap.size := by omega
          have hlt2 : w.heap.size < wr.heap.size := by omega
          have hbl : ∀ o, wr.cell? ⟨w.heap.size, o, none⟩ = wo.cell? ⟨w.heap.size, o, none⟩ := fun o => (hbq.cell (p := ⟨w.heap.size, o, none⟩) (by simp; omega)).trans (World.cell?_alloc_lt _ _ _ hsl)
          have HBLQ := Lib.hid (((HBL.out.alloc (.cells #[.int .i64 b.holder, .int .i64 b.hand, .bool b.office] 89)).ext hbq))
          have HBQ := Lib.hid (Below.then_ HBN.out hbq)
          have q0 := (hbl 0).trans l0
          have q1 := (hbl 1).trans l1
          have q2 := (hbl 2).trans l2
          clear hbl
          obtain rfl | rfl : j = 0 ∨ j = 1 := by omega
          · by_cases he : a.holder = b.holder
            · have h1 : (a.holder == b.holder) = true := by simpa using he
              have HF := Lib.hid (openB_no (a := a) (b := b) (c := c) (xs := xs) (k := 1) (by omega) fun hh => hh.2 0 (by omega) he)
              clear he
              go_wp2
              go_ret
              exact ⟨ret_bool HF.out.symm, HBQ.out.alloc (Nat.le_trans hs0 (by omega)) _⟩
            · have h1 : (a.holder == b.holder) = false := by simpa using he
              have HE : Hid (∀ i, i < 1 → (st3 a b c i).holder ≠ b.holder) := fun i hi => by
                rcases Nat.lt_or_ge i 0 with h | h
                · exact HNE.out i h
                · obtain rfl : i = 0 := by omega
                  exact he
              clear he
              go_wp2
              exact ⟨⟨1, by omega, by go_num, HE.out, hbq.alloc (by simp; omega) _⟩, by simp [intOf]⟩
          · have HOK : Hid (∀ i, i < 2 → opK a b c xs i) := fun i hi => by
              rcases Nat.lt_or_ge i 1 with h | h
              · exact HPP.out i h
              · obtain rfl : i = 1 := by omega
                exact ⟨HIN.out, fun i hi => HNE.out i hi⟩
            go_wp2
            exact ⟨⟨2, by omega, by go_num, HOK.out, HBQ.out, HBLQ.out⟩, by simp [intOf]⟩
      · have hd : decide (b.hand ∈ xs) = false := by simpa using hin
        have HF := Lib.hid (openB_no (a := a) (b := b) (c := c) (xs := xs) (k := 1) (by omega) fun hh => hin hh.1)
        clear hin
        go_wp2_with (go_at_call 127; refine (l_contains xs _ false _ _ _ _ hn (HI.out.now (by (repeat' (first | with_reducible exact Below.refl _ _ | with_reducible assumption | with_reducible refine Below.alloc ?_ ?_ _ | with_reducible refine Below.setCell ?_ ?_ _ | with_reducible refine Below.drew ?_ | (simp; done) | (simp; omega) | omega)))) hd).mono ?_; rintro e w1 ⟨rfl, rfl⟩)
        go_ret
        exact ⟨ret_bool HF.out.symm, HBN.out⟩
    · have HBN := Lib.hid (hB.alloc hs0 (.cells #[.int .i64 c.holder, .int .i64 c.hand, .bool c.office] 89))
      by_cases hin : c.hand ∈ xs
      · have HIN := Lib.hid hin
        have hd : decide (c.hand ∈ xs) = true := by simpa using hin
        clear hin
        go_wp2_with (go_at_call 127; refine (l_contains xs _ true _ _ _ _ hn (HI.out.now (by (repeat' (first | with_reducible exact Below.refl _ _ | with_reducible assumption | with_reducible refine Below.alloc ?_ ?_ _ | with_reducible refine Below.setCell ?_ ?_ _ | with_reducible refine Below.drew ?_ | (simp; done) | (simp; omega) | omega)))) hd).mono ?_; rintro e w1 ⟨rfl, rfl⟩)
        go_loopw [22] (fun i wr => ∃ j : Nat, j ≤ 2 ∧ i = .int .i64 j ∧ (∀ i, i < j → (st3 a b c i).holder ≠ c.holder) ∧ Below (wo.alloc (.cells #[.int .i64 c.holder, .int .i64 c.hand, .bool c.office] 89)).heap.size (wo.alloc (.cells #[.int .i64 c.holder, .int .i64 c.hand, .bool c.office] 89)) wr) (fun i _ => 2 - (intOf i).toNat)
        case atStart => exact ⟨0, by omega, rfl, by simp, Below.refl _ _⟩
        case round =>
          obtain ⟨j, hj, rfl, hne, hbq⟩ := hrel
          have HNE := Lib.hid hne
          clear hne
          have m0 : wr.cell? ⟨wo.heap.size, 0, none⟩ = some (.int .i64 c.holder) := (hbq.cell (p := ⟨wo.heap.size, 0, none⟩) (by simp)).trans (by simp)
          have hsq := hbq.size
          simp only [World.size_alloc] at hsq
          have hlt1 : wo.heap.size < wr.heap.size := by omega
          have hlt2 : w.heap.size < wr.heap.size := by omega
          have hbl : ∀ o, wr.cell? ⟨w.heap.size, o, none⟩ = wo.cell? ⟨w.heap.size, o, none⟩ := fun o => (hbq.cell (p := ⟨w.heap.size, o, none⟩) (by simp; omega)).trans (World.cell?_alloc_lt _ _ _ hsl)
          have HBLQ := Lib.hid (((HBL.out.alloc (.cells #[.int .i64 c.holder, .int .i64 c.hand, .bool c.office] 89)).ext hbq))
          have HBQ := Lib.hid (Below.then_ HBN.out hbq)
          have q0 := (hbl 0).trans l0
          have q1 := (hbl 1).trans l1
          have q2 := (hbl 2).trans l2
          have q3 := (hbl 3).trans l3
          have q4 := (hbl 4).trans l4
          have q5 := (hbl 5).trans l5
          clear hbl
          obtain rfl | rfl | rfl : j = 0 ∨ j = 1 ∨ j = 2 := by omega
          · by_cases he : a.holder = c.holder
            · have h1 : (a.holder == c.holder) = true := by simpa using he
              have HF := Lib.hid (openB_no (a := a) (b := b) (c := c) (xs := xs) (k := 2) (by omega) fun hh => hh.2 0 (by omega) he)
              clear he
              go_wp2
              go_ret
              exact ⟨ret_bool HF.out.symm, HBQ.out.alloc (Nat.le_trans hs0 (by omega)) _⟩
            · have h1 : (a.holder == c.holder) = false := by simpa using he
              have HE : Hid (∀ i, i < 1 → (st3 a b c i).holder ≠ c.holder) := fun i hi => by
                rcases Nat.lt_or_ge i 0 with h | h
                · exact HNE.out i h
                · obtain rfl : i = 0 := by omega
                  exact he
              clear he
              go_wp2
              exact ⟨⟨1, by omega, by go_num, HE.out, hbq.alloc (by simp; omega) _⟩, by simp [intOf]⟩
          · by_cases he : b.holder = c.holder
            · have h1 : (b.holder == c.holder) = true := by simpa using he
              have HF := Lib.hid (openB_no (a := a) (b := b) (c := c) (xs := xs) (k := 2) (by omega) fun hh => hh.2 1 (by omega) he)
              clear he
              go_wp2
              go_ret
              exact ⟨ret_bool HF.out.symm, HBQ.out.alloc (Nat.le_trans hs0 (by omega)) _⟩
            · have h1 : (b.holder == c.holder) = false := by simpa using he
              have HE : Hid (∀ i, i < 2 → (st3 a b c i).holder ≠ c.holder) := fun i hi => by
                rcases Nat.lt_or_ge i 1 with h | h
                · exact HNE.out i h
                · obtain rfl : i = 1 := by omega
                  exact he
              clear he
              go_wp2
              exact ⟨⟨2, by omega, by go_num, HE.out, hbq.alloc (by simp; omega) _⟩, by simp [intOf]⟩
          · have HOK : Hid (∀ i, i < 3 → opK a b c xs i) := fun i hi => by
              rcases Nat.lt_or_ge i 2 with h | h
              · exact HPP.out i h
              · obtain rfl : i = 2 := by omega
                exact ⟨HIN.out, fun i hi => HNE.out i hi⟩
            go_wp2
            exact ⟨⟨3, by omega, by go_num, HOK.out, HBQ.out, HBLQ.out⟩, by simp [intOf]⟩
      · have hd : decide (c.hand ∈ xs) = false := by simpa using hin
        have HF := Lib.hid (openB_no (a := a) (b := b) (c := c) (xs := xs) (k := 2) (by omega) fun hh => hin hh.1)
        clear hin
        go_wp2_with (go_at_call 127; refine (l_contains xs _ false _ _ _ _ hn (HI.out.now (by (repeat' (first | with_reducible exact Below.refl _ _ | with_reducible assumption | with_reducible refine Below.alloc ?_ ?_ _ | with_reducible refine Below.setCell ?_ ?_ _ | with_reducible refine Below.drew ?_ | (simp; done) | (simp; omega) | omega)))) hd).mono ?_; rintro e w1 ⟨rfl, rfl⟩)
        go_ret
        exact ⟨ret_bool HF.out.symm, HBN.out⟩
    · go_wp2
      go_ret
      exact ⟨ret_bool (openB_iff.2 HPP.out).symm, hB⟩

end Go.Proofs.YtikioiblaoimkaaGreatDoor

/- happened. -/
namespace Go.Proofs.YtikioiblaoimkaaGreatDoor
open Go.RowKit Go.Maps

theorem setObj'_cell {W : World} {b c : Nat} (h : c ≠ b) (o : Obj) (i : Nat) : (setObj' W b o).cell? ⟨c, i, none⟩ = W.cell? ⟨c, i, none⟩ := by simp only [World.cell?, setObj'_other h]
theorem zeroInt (w : World) : (zeroValue 3).run Tryz.prog w = .ok (.int .i64 0) w := by kernel_rfl
abbrev nkk : Int × Int → Value := fun k => nk k.1 k.2
abbrev wf22 : Int × Int → Prop := fun k => wf2 k.1 k.2

set_option maxRecDepth 100000 in
set_option maxHeartbeats 4000000 in
/-- How many deeds have happened in a scene: a map. -/
theorem p_happened (a b c : St) (i1 i2 i3 : Int) (bo : Nat) (L : List (Int × Value)) (w : World) (hM : MapG ik wf1 w bo L) (ha : 0 ≤ a.holder ∧ a.holder ≤ 99) (hb : 0 ≤ b.holder ∧ b.holder ≤ 99) (hc : 0 ≤ c.holder ∧ c.holder ≤ 99) :
    Calls Tryz.prog 94 #[.agg #[.int .i64 i1, .int .i64 i2, .int .i64 i3, .int .i64 a.holder, .int .i64 a.hand, .bool a.office, .int .i64 b.holder, .int .i64 b.hand, .bool b.office, .int .i64 c.holder, .int .i64 c.hand, .bool c.office], .map (some bo)] w fun e w' => (∃ m, e = .returned (.map (some m))) ∧ Below w.heap.size w w' := by
  have hmm := @run_makeMap Tryz.prog
  have HM := Lib.hid hM
  have hbo := hM.lt
  clear hM
  go_enter Tryz.func94, Tryz.ntmps94
  go_wp2
  go_loopw [13] (fun i wr => ∃ k : Nat, k ≤ 3 ∧ i = .int .i64 k ∧ (∃ D, MapG nkk wf22 wr (w.heap.size + 1) D) ∧ Below w.heap.size w wr ∧ BoxA wr w.heap.size 153 #[.int .i64 i1, .int .i64 i2, .int .i64 i3, .int .i64 a.holder, .int .i64 a.hand, .bool a.office, .int .i64 b.holder, .int .i64 b.hand, .bool b.office, .int .i64 c.holder, .int .i64 c.hand, .bool c.office]) (fun i _ => 3 - (intOf i).toNat)
  case atStart =>
    refine ⟨0, by omega, rfl, ⟨[], ?_⟩, by (repeat' (first | with_reducible exact Below.refl _ _ | with_reducible assumption | with_reducible refine Below.alloc ?_ ?_ _ | with_reducible refine Below.setCell ?_ ?_ _ | with_reducible refine Below.drew ?_ | (simp; done) | (simp; omega) | omega)), ?_⟩
    · have h := MapG.made (mk := nkk) (wf := wf22) (w.alloc (.cells #[.int .i64 i1, .int .i64 i2, .int .i64 i3, .int .i64 a.holder, .int .i64 a.hand, .bool a.office, .int .i64 b.holder, .int .i64 b.hand, .bool b.office, .int .i64 c.holder, .int .i64 c.hand, .bool c.office] 153))
      simp only [World.size_alloc] at h
      exact h
    · exact (BoxA.new _ _ _).alloc _
  case round =>
    obtain ⟨wo, rfl⟩ : ∃ wo, wo = wr := ⟨wr, rfl⟩
    obtain ⟨k, hk, rfl, ⟨D, hD⟩, hB, bL⟩ := hrel
    have HBL := Lib.hid bL
    have HD := Lib.hid hD
    have HB := Lib.hid hB
    have hs0 := hB.size
    have hsl := bL.lt
    have hdl := hD.lt
    have l0 := bL.cell 0
    have l1 := bL.cell 1
    have l2 := bL.cell 2
    clear bL hD
    have ix0 := idx_0 a b c
    have ix1 := idx_1 a b c
    have ix2 := idx_2 a b c
    obtain rfl | rfl | rfl | rfl : k = 0 ∨ k = 1 ∨ k = 2 ∨ k = 3 := by omega
    · obtain ⟨es, nn, hup, hM1⟩ := (HD.out.alloc (.cells #[.int .i64 a.holder, .int .i64 a.hand, .bool a.office] 89)).update key_names Tryz.underlying106 (a := (1, 0)) (wf2_small (by omega) (by omega) (by omega) (by omega)) (.int .i64 i1)
      obtain ⟨W2, hW2⟩ : ∃ W2, setObj' (wo.alloc (.cells #[.int .i64 a.holder, .int .i64 a.hand, .bool a.office] 89)) (w.heap.size + 1) (.map es nn) = W2 := ⟨_, rfl⟩
      rw [hW2] at hup hM1
      have hB2 : Below w.heap.size w W2 := by rw [← hW2]; exact Below.setObj' (HB.out.alloc hs0 _) (by omega) _
      have hs2 : W2.heap.size = wo.heap.size + 1 := by rw [← hW2]; simp [setObj']
      have m0 : W2.cell? ⟨wo.heap.size, 0, none⟩ = some (.int .i64 a.holder) := by rw [← hW2, setObj'_cell (by omega)]; simp
      have bL2 : BoxA W2 w.heap.size 153 #[.int .i64 i1, .int .i64 i2, .int .i64 i3, .int .i64 a.holder, .int .i64 a.hand, .bool a.office, .int .i64 b.holder, .int .i64 b.hand, .bool b.office, .int .i64 c.holder, .int .i64 c.hand, .bool c.office] := by rw [← hW2]; exact (setObj'_other (by omega) _).trans (HBL.out.alloc _)
      have hlk := (HM.out.keep (hB2.block bo hbo)).look2 key_int Tryz.underlying144 (a := a.holder) (wf_small (by omega) (by omega)) (zeroInt W2)
      have HM1 := Lib.hid hM1
      have HS2 := Lib.hid hs2
      have HBL2 := Lib.hid bL2
      clear hM1 hW2 hs2 bL2
      cases hg : getG L a.holder with
      | none =>
        rw [hg] at hlk
        simp only [Option.getD_none, Option.isSome_none] at hlk
        clear hg
        go_wp2
        exact ⟨⟨1, by omega, by go_num, ⟨_, HM1.out⟩, hB2, HBL2.out⟩, by simp [intOf]⟩
      | some v =>
        rw [hg] at hlk
        simp only [Option.getD_some, Option.isSome_some] at hlk
        clear hg
        obtain ⟨es2, n2, hup2, hM3⟩ := HM1.out.update key_names Tryz.underlying106 (a := (0, a.holder)) (wf2_small (by omega) (by omega) (by omega) (by omega)) v
        have HM3 := Lib.hid hM3
        clear hM3
        go_wp2
        exact ⟨⟨1, by omega, by go_num, ⟨_, HM3.out⟩, Below.setObj' hB2 (by omega) _, (setObj'_other (by omega) _).trans HBL2.out⟩, by simp [intOf]⟩
    · obtain ⟨es, nn, hup, hM1⟩ := (HD.out.alloc (.cells #[.int .i64 b.holder, .int .i64 b.hand, .bool b.office] 89)).update key_names Tryz.underlying106 (a := (2, 0)) (wf2_small (by omega) (by omega) (by omega) (by omega)) (.int .i64 i2)
      obtain ⟨W2, hW2⟩ : ∃ W2, setObj' (wo.alloc (.cells #[.int .i64 b.holder, .int .i64 b.hand, .bool b.office] 89)) (w.heap.size + 1) (.map es nn) = W2 := ⟨_, rfl⟩
      rw [hW2] at hup hM1
      have hB2 : Below w.heap.size w W2 := by rw [← hW2]; exact Below.setObj' (HB.out.alloc hs0 _) (by omega) _
      have hs2 : W2.heap.size = wo.heap.size + 1 := by rw [← hW2]; simp [setObj']
      have m0 : W2.cell? ⟨wo.heap.size, 0, none⟩ = some (.int .i64 b.holder) := by rw [← hW2, setObj'_cell (by omega)]; simp
      have bL2 : BoxA W2 w.heap.size 153 #[.int .i64 i1, .int .i64 i2, .int .i64 i3, .int .i64 a.holder, .int .i64 a.hand, .bool a.office, .int .i64 b.holder, .int .i64 b.hand, .bool b.office, .int .i64 c.holder, .int .i64 c.hand, .bool c.office] := by rw [← hW2]; exact (setObj'_other (by omega) _).trans (HBL.out.alloc _)
      have hlk := (HM.out.keep (hB2.block bo hbo)).look2 key_int Tryz.underlying144 (a := b.holder) (wf_small (by omega) (by omega)) (zeroInt W2)
      have HM1 := Lib.hid hM1
      have HS2 := Lib.hid hs2
      have HBL2 := Lib.hid bL2
      clear hM1 hW2 hs2 bL2
      cases hg : getG L b.holder with
      | none =>
        rw [hg] at hlk
        simp only [Option.getD_none, Option.isSome_none] at hlk
        clear hg
        go_wp2
        exact ⟨⟨2, by omega, by go_num, ⟨_, HM1.out⟩, hB2, HBL2.out⟩, by simp [intOf]⟩
      | some v =>
        rw [hg] at hlk
        simp only [Option.getD_some, Option.isSome_some] at hlk
        clear hg
        obtain ⟨es2, n2, hup2, hM3⟩ := HM1.out.update key_names Tryz.underlying106 (a := (0, b.holder)) (wf2_small (by omega) (by omega) (by omega) (by omega)) v
        have HM3 := Lib.hid hM3
        clear hM3
        go_wp2
        exact ⟨⟨2, by omega, by go_num, ⟨_, HM3.out⟩, Below.setObj' hB2 (by omega) _, (setObj'_other (by omega) _).trans HBL2.out⟩, by simp [intOf]⟩
    · obtain ⟨es, nn, hup, hM1⟩ := (HD.out.alloc (.cells #[.int .i64 c.holder, .int .i64 c.hand, .bool c.office] 89)).update key_names Tryz.underlying106 (a := (3, 0)) (wf2_small (by omega) (by omega) (by omega) (by omega)) (.int .i64 i3)
      obtain ⟨W2, hW2⟩ : ∃ W2, setObj' (wo.alloc (.cells #[.int .i64 c.holder, .int .i64 c.hand, .bool c.office] 89)) (w.heap.size + 1) (.map es nn) = W2 := ⟨_, rfl⟩
      rw [hW2] at hup hM1
      have hB2 : Below w.heap.size w W2 := by rw [← hW2]; exact Below.setObj' (HB.out.alloc hs0 _) (by omega) _
      have hs2 : W2.heap.size = wo.heap.size + 1 := by rw [← hW2]; simp [setObj']
      have m0 : W2.cell? ⟨wo.heap.size, 0, none⟩ = some (.int .i64 c.holder) := by rw [← hW2, setObj'_cell (by omega)]; simp
      have bL2 : BoxA W2 w.heap.size 153 #[.int .i64 i1, .int .i64 i2, .int .i64 i3, .int .i64 a.holder, .int .i64 a.hand, .bool a.office, .int .i64 b.holder, .int .i64 b.hand, .bool b.office, .int .i64 c.holder, .int .i64 c.hand, .bool c.office] := by rw [← hW2]; exact (setObj'_other (by omega) _).trans (HBL.out.alloc _)
      have hlk := (HM.out.keep (hB2.block bo hbo)).look2 key_int Tryz.underlying144 (a := c.holder) (wf_small (by omega) (by omega)) (zeroInt W2)
      have HM1 := Lib.hid hM1
      have HS2 := Lib.hid hs2
      have HBL2 := Lib.hid bL2
      clear hM1 hW2 hs2 bL2
      cases hg : getG L c.holder with
      | none =>
        rw [hg] at hlk
        simp only [Option.getD_none, Option.isSome_none] at hlk
        clear hg
        go_wp2
        exact ⟨⟨3, by omega, by go_num, ⟨_, HM1.out⟩, hB2, HBL2.out⟩, by simp [intOf]⟩
      | some v =>
        rw [hg] at hlk
        simp only [Option.getD_some, Option.isSome_some] at hlk
        clear hg
        obtain ⟨es2, n2, hup2, hM3⟩ := HM1.out.update key_names Tryz.underlying106 (a := (0, c.holder)) (wf2_small (by omega) (by omega) (by omega) (by omega)) v
        have HM3 := Lib.hid hM3
        clear hM3
        go_wp2
        exact ⟨⟨3, by omega, by go_num, ⟨_, HM3.out⟩, Below.setObj' hB2 (by omega) _, (setObj'_other (by omega) _).trans HBL2.out⟩, by simp [intOf]⟩
    · go_wp2
      go_ret
      exact ⟨⟨_, rfl⟩, hB⟩

end Go.Proofs.YtikioiblaoimkaaGreatDoor
