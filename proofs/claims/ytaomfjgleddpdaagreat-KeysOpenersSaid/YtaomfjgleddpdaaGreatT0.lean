import Derived.Test.YtaomfjgleddpdaaGreatA8
set_option linter.unusedVariables false
set_option linter.unusedSimpArgs false

/- A range over a function, within a round or not: what its caller owes, where maps are kept. -/
namespace Go.Proofs.YtaomfjgleddpdaaGreat
open Go.RowKit Go.Shelf Go.Maps
attribute [local go_sem] Oper.semAt_some

/-- What abides the turn of a loop's record, be it at or beyond B. -/
def OwnW {β : Type} (B : Nat) (I : β → World → Prop) : Prop :=
  ∀ s X Y row, I s X → X.grownBy Y row → (∀ r, row = some r → B ≤ r ∧ ∃ o : Obj, X.heap[r]? = some o ∧ o.isCells = false ∧ o.isWalk = false) → I s Y
theorem OwnW.of {β : Type} {B : Nat} {I : β → World → Prop} (h : OwnFrom B I) : OwnW B I := fun s X Y row hs hg hr => h s X Y row hs hg fun r e => ⟨(hr r e).1, by
  obtain ⟨o, h1, h2, _⟩ := (hr r e).2
  exact ⟨o, h1, h2⟩⟩
theorem OwnW.up {β : Type} {B B' : Nat} {I : β → World → Prop} (h : OwnW B I) (hB : B ≤ B') : OwnW B' I := fun s X Y row hs hg hr => h s X Y row hs hg fun r e => ⟨Nat.le_trans hB (hr r e).1, (hr r e).2⟩
theorem OwnW.and {β : Type} {B : Nat} {I J : β → World → Prop} (h : OwnW B I) (g : OwnW B J) : OwnW B (fun s W => I s W ∧ J s W) := fun s X Y row hs hg hr => ⟨h s X Y row hs.1 hg hr, g s X Y row hs.2 hg hr⟩
/-- The contract of an iterator: all of its values, or some of the first, where a round has said 'no more'. -/
def SeqW {α : Type} (g : Nat) (lb : Array Value) (encs : α → Array Value) (P : Nat → Prop) (S : List α → Prop) (N : Nat) (w : World) : Prop :=
  ∀ (l : Nat) (J Jx : List α → World → Prop) (W : World), Below w.heap.size w W → OwnW W.heap.size J → OwnW W.heap.size Jx →
    (∀ m pre x W1, J pre W1 → pre.length < N → YieldAt Fence.wide m Tryz.prog l (encs x) W1 fun e W' =>
      (e = .returned (.bool true) ∧ J (pre ++ [x]) W' ∧ KeepQ W.heap.size P W1 W') ∨ (e = .returned (.bool false) ∧ Jx (pre ++ [x]) W' ∧ KeepQ W.heap.size P W1 W')) →
    J [] W →
    CallsIn Fence.wide 8 Tryz.prog g (#[.func (.yield l) #[] #[]] ++ lb) W fun e W' => (∃ v, e = .returned v) ∧ ((∃ xs, S xs ∧ J xs W') ∨ (∃ pre, Jx pre W'))
/-- The wide fence, in a round or not. -/
abbrev FW (r : Option Nat) : Fence := { Fence.wide with round := r }

set_option maxRecDepth 100000 in
set_option maxHeartbeats 2000000 in
/-- For whatever loop body. -/
theorem states_in0 (n : Nat) (hn : 1 ≤ n) (l bt bd lo B : Nat) (P : Nat → Prop) (T : TL) (day : Int) (Ad Ai As : Option Addr) (cd ci cs : Nat) (J Jx : List (YS (T.map (·.1)) day) → World → Prop)
    (hTn : T.length ≤ 1000) (W : World) (hJ : ∀ s X Y, J s X → X.grownBy Y none → J s Y)
    (hY : ∀ pre x W1, J pre W1 → pre.length < (stsL (T.map (·.1)) day).length → YieldAt Fence.wide (n - 1) Tryz.prog l (encS x) W1 fun e W' =>
      (e = .returned (.bool true) ∧ J (pre ++ [x]) W' ∧ KeepP P W1 W') ∨ (e = .returned (.bool false) ∧ Jx (pre ++ [x]) W'))
    (hPl : ∀ k, lo ≤ k → k < B → P k) (hPt : P bt) (hPd : P bd) (hPw : ∀ k, P k → k < W.heap.size) (hB : B ≤ W.heap.size)
    (c0 : W.cell? ⟨bt, 0, none⟩ = some (.slice Ad T.length cd)) (c1 : W.cell? ⟨bt, 1, none⟩ = some (.slice Ai T.length ci)) (c2 : W.cell? ⟨bt, 2, none⟩ = some (.slice As T.length cs)) (c3 : W.cell? ⟨bd, 0, none⟩ = some (.int .i64 day))
    (hT : ThrAt W lo B T Ad Ai As cd ci cs) (h0 : J [] W) :
    CallsIn Fence.wide n Tryz.prog 161 #[.func (.yield l) #[] #[], .pointer (some ⟨bt, 0, none⟩), .pointer (some ⟨bd, 0, none⟩)] W fun e W' => (∃ v, e = .returned v) ∧
      ((∃ ys, ys.map (·.1) = stsL (T.map (·.1)) day ∧ J ys W') ∨ (∃ pre, pre.map (·.1) <+: stsL (T.map (·.1)) day ∧ Jx pre W')) := by
  have hlen : (T.map (·.1)).length = T.length := List.length_map ..
  refine callsIn_of_wp Tryz.func161 rfl trivial ?_ rfl
  simp only [Tryz.ntmps161, List.size_toArray, List.length_cons, List.length_nil, Nat.reduceAdd, Nat.reduceSub, Array.replicate_succ, Array.replicate_zero, List.push_toArray, List.append_toArray, List.nil_append, List.cons_append]
  gi_wp2
  gi_loopw [9] (fun i wr => ∃ k : Nat, k ≤ T.length + 1 ∧ i = .int .i64 k ∧ KeepP P W wr ∧ ∃ pre, pre.map (·.1) = upS (T.map (·.1)) day k ∧ J pre wr) (fun i _ => (T.length + 1) - (intOf i).toNat)
  case atStart => exact ⟨0, by omega, rfl, KeepP.refl _ _, [], rfl, h0⟩
  case round =>
    obtain ⟨k, hk, rfl, hKp, pre, hpre, hJs⟩ := hrel
    have e0 := (hKp.cell hPt 0).trans c0
    have e1 := (hKp.cell hPt 1).trans c1
    have e2 := (hKp.cell hPt 2).trans c2
    have e3 := (hKp.cell hPd 0).trans c3
    have hT' : ThrAt wr lo wr.heap.size T Ad Ai As cd ci cs := (hT.keep fun k h1 h2 => hKp.blk k (hPl k h1 h2)).more (Nat.le_trans hB hKp.size)
    have hsz : W.heap.size ≤ wr.heap.size := hKp.size
    have HT := Lib.hid hT'
    have HP := Lib.hid hpre
    have HL := Lib.hid hlen
    clear hT' hpre hlen hT
    have hbt' : bt < wr.heap.size := Nat.lt_of_lt_of_le (hPw _ hPt) hsz
    have hbd' : bd < wr.heap.size := Nat.lt_of_lt_of_le (hPw _ hPd) hsz
    have hPr : ∀ k, P k → k < wr.heap.size := fun k hk => Nat.lt_of_lt_of_le (hPw _ hk) hsz
    by_cases hlt : k < T.length + 1
    · cases hm : mayB (T.map (·.1)) k day with
      | false =>
        have HM := Lib.hid hm
        clear hm
        have hmay := p_may (T.map (·.1)) k day Ad Ai As T.length cd T.length ci T.length cs wr (by omega) (by omega) HT.out.cd HT.out.d
        rw [HM.out] at hmay
        gi_wp2_with (refine ⟨trivial, ?_⟩; gi_at_call 162; refine (callsIn_wide.2 hmay).mono ?_; clear hmay; rintro e w1 ⟨rfl, hb1⟩)
        refine ⟨trivial, ?_⟩
        gi_wp2
        refine ⟨fun _ h => (by cases h), ?_⟩
        gi_wp2
        exact ⟨⟨k + 1, by omega, by go_num, hKp.trans (KeepP.of_below hb1 hPr), pre, by rw [upS_out HM.out]; exact HP.out, hJ _ _ _ hJs (grown_of_below hb1)⟩, by simp [intOf]; omega⟩
      | true =>
        have HM := Lib.hid hm
        clear hm
        have hmay := p_may (T.map (·.1)) k day Ad Ai As T.length cd T.length ci T.length cs wr (by omega) (by omega) HT.out.cd HT.out.d
        rw [HM.out] at hmay
        gi_wp2_with (first
          | (refine ⟨trivial, ?_⟩; gi_at_call 162; refine (callsIn_wide.2 hmay).mono ?_; clear hmay; rintro e w1 ⟨rfl, hb1⟩; obtain ⟨hc1, hf1⟩ := bcell hb1; have hs1 := hb1.size)
          | (refine ⟨trivial, ?_⟩; gi_at_call 147; refine (callsIn_wide.2 (p_state (aftL (T.map (·.1))) k Ad Ai As T.length cd T.length ci T.length cs w1 (by omega) (by omega) (HT.out.s.now hb1))).mono ?_; rintro e w2 ⟨rfl, hb2⟩))
        have hx : (k, stN (aftL (T.map (·.1))) k) ∈ stsL (T.map (·.1)) day := mem_sts.2 ⟨k, by rw [HL.out]; omega, HM.out, by rw [stN_run _ (by rw [HL.out]; omega)]⟩
        have hJ2 : J pre w2 := hJ _ _ _ (hJ _ _ _ hJs (grown_of_below hb1)) (grown_of_below hb2)
        have hpl : pre.length < (stsL (T.map (·.1)) day).length := by
          have h1 : pre.length = (upS (T.map (·.1)) day k).length := by rw [← HP.out, List.length_map]
          have h2 := (upS_pre (T := T.map (·.1)) (day := day) (k := k + 1) (n := T.length + 1) (by omega)).length_le
          rw [upS_in HM.out, List.length_append, ← HL.out, upS_all] at h2
          simp at h2
          omega
        obtain ⟨fn, tmps, assign, body, hy, hR⟩ := hY pre ⟨_, hx⟩ w2 hJ2 hpl
        simp only [encS, stV] at hy
        rw [hy]
        simp only [Oper.uponIn]
        refine ⟨fun _ => hn, ?_⟩
        refine hR.mono ?_
        rintro e w3 (⟨rfl, hJ3, hk3⟩ | ⟨rfl, hJx3⟩)
        · gi_wp2
          exact ⟨⟨k + 1, by omega, by go_num, hKp.trans ((KeepP.of_below hb1 hPr).trans ((KeepP.of_below hb2 fun k hk => Nat.lt_of_lt_of_le (hPr k hk) hs1).trans hk3)), pre ++ [⟨_, hx⟩], by rw [upS_in HM.out, List.map_append, HP.out]; rfl, hJ3⟩, by simp [intOf]; omega⟩
        · gi_wp2
          refine bodyPost_ret (results_none rfl _ _ _) rfl ?_
          refine ⟨⟨_, rfl⟩, .inr ⟨pre ++ [⟨_, hx⟩], ?_, hJx3⟩⟩
          have h2 := upS_pre (T := T.map (·.1)) (day := day) (k := k + 1) (n := T.length + 1) (by omega)
          rw [upS_in HM.out, ← HP.out] at h2
          rw [← HL.out, upS_all] at h2
          rw [List.map_append]
          exact h2
    · obtain rfl : k = T.length + 1 := by omega
      gi_wp2
      go_end0
      refine ⟨⟨_, rfl⟩, .inl ⟨pre, ?_, hJs⟩⟩
      rw [HP.out, ← HL.out, upS_all]


theorem states_W (bt bd lo B : Nat) (P : Nat → Prop) (T : TL) (day : Int) (Ad Ai As : Option Addr) (cd ci cs : Nat) (w : World) (hTn : T.length ≤ 1000)
    (hPl : ∀ k, lo ≤ k → k < B → P k) (hPt : P bt) (hPd : P bd) (hPw : ∀ k, P k → k < w.heap.size) (hB : B ≤ w.heap.size)
    (c0 : w.cell? ⟨bt, 0, none⟩ = some (.slice Ad T.length cd)) (c1 : w.cell? ⟨bt, 1, none⟩ = some (.slice Ai T.length ci)) (c2 : w.cell? ⟨bt, 2, none⟩ = some (.slice As T.length cs)) (c3 : w.cell? ⟨bd, 0, none⟩ = some (.int .i64 day))
    (hT : ThrAt w lo B T Ad Ai As cd ci cs) :
    SeqW 161 #[.pointer (some ⟨bt, 0, none⟩), .pointer (some ⟨bd, 0, none⟩)] (encS (T := T.map (·.1)) (day := day)) P (fun ys => ys.map (·.1) = stsL (T.map (·.1)) day) (stsL (T.map (·.1)) day).length w := fun l J Jx W hW hJ hJx hY h0 =>
  (states_in0 8 (by omega) l bt bd lo B P T day Ad Ai As cd ci cs J Jx hTn W (fun s X Y h g => hJ s X Y none h g (by simp)) (fun pre x W1 h1 h2 => by
      obtain ⟨fn, tmps, assign, body, h3, h4⟩ := hY 7 pre x W1 h1 h2
      exact ⟨fn, tmps, assign, body, h3, h4.mono fun e W' h => h.imp (fun h => ⟨h.1, h.2.1, ⟨h.2.2.size, h.2.2.blk⟩⟩) fun h => ⟨h.1, h.2.1⟩⟩) hPl hPt hPd (fun k hk => Nat.lt_of_lt_of_le (hPw k hk) hW.size) (Nat.le_trans hB hW.size)
    ((hW.cell (p := ⟨bt, 0, none⟩) (hPw _ hPt)).trans c0) ((hW.cell (p := ⟨bt, 1, none⟩) (hPw _ hPt)).trans c1) ((hW.cell (p := ⟨bt, 2, none⟩) (hPw _ hPt)).trans c2) ((hW.cell (p := ⟨bd, 0, none⟩) (hPw _ hPd)).trans c3) (hT.below (hW.mono hB)) h0).mono fun e W' h => ⟨h.1, h.2.imp id fun ⟨pre, _, h2⟩ => ⟨pre, h2⟩⟩

theorem range_W {α : Type} {r : Option Nat} {n m : Nat} {g : Operand} {ps : Array Tmp} {assign body : Code} {Q : Exit → Act → World → Prop} {a : Act} {w : World} {gf : Nat} {lb : Array Value}
    (hg : a.eval g = .func (.func gf) #[] lb) (eg : ∀ args w, (callFunc gf args).run Tryz.prog w = .ok (.enter gf args) w)
    {encs : α → Array Value} {P : Nat → Prop} {S : List α → Prop} {N : Nat} (hseq : SeqW gf lb encs P S N w) (hPw : ∀ k, P k → k < w.heap.size) (hps : ∀ x, (encs x).size = ps.size)
    (I Ix : List α → World → Prop) (hI : OwnW w.heap.size I) (hIx : OwnW w.heap.size Ix) (h0 : I [] w) (Ax : α → Act → World → Prop) (hAx : ∀ x a', OwnW w.heap.size (fun (_ : Unit) W => Ax x a' W))
    (L Z : Nat) (mark : List Deferred) (E : List (Nat × Obj)) (dfr : Nat) (hL : w.heap.size ≤ L) (hLZ : L < Z) (hE : ∀ p ∈ E, w.heap.size ≤ p.1 ∧ p.1 ≠ L ∧ p.1 < Z)
    (hent : ∀ fn, ∃ V : World, (Instr.enterLoop fn a.tmps ps assign body r).run Tryz.prog w = .ok (L, mark) V ∧ Below w.heap.size w V ∧ V.heap.size = Z ∧
      V.heap[L]? = some (.loop { state := .ready, pending := none, fn, tmps := a.tmps, params := ps, assign, body, defers := dfr }) ∧ ∀ p ∈ E, V.heap[p.1]? = some p.2)
    (hassign : ∀ (l : Nat) (pre : List α) (x : α) (W : World) (K : Act → World → Prop), Z ≤ W.heap.size → I pre W → (∀ a' W', KeepQ w.heap.size P W W' → I pre W' → Ax x a' W' → K a' W') →
      assign.wpIn (FW (some l)) m Tryz.prog (Exit.then K (fun _ _ _ => False)) { tmps := (ps.zip (encs x)).foldl (fun t (p, v) => t.setIfInBounds p v) a.tmps, defers := [] } W)
    (hbody : ∀ (l : Nat) (pre : List α) (x : α) (a' : Act) (W : World), Z ≤ W.heap.size → (∃ r, W.heap[l]? = some (.loop r)) → I pre W → Ax x a' W → pre.length < N → body.wpIn (FW (some l)) m Tryz.prog (postO w.heap.size P I Ix (pre ++ [x]) W) a' W)
    (hdone : ∀ (xs : List α) (W : World), S xs → I xs W → (∀ p ∈ E, W.heap[p.1]? = some p.2) → Q .normal { a with defers := mark ++ a.defers } W)
    (hstop : ∀ (pre : List α) (W : World), Ix pre W → (∀ p ∈ E, W.heap[p.1]? = some p.2) → Q .ret { a with defers := mark ++ a.defers } W) :
    (Code.rangeFunc g ps assign body).wpIn (FW r) n Tryz.prog Q a w := by
  refine wpIn_rangeFunc fun fn hfn => ?_
  obtain ⟨V, hrun, hbV, hVs, hR, hEV⟩ := hent fn
  obtain ⟨rc, hrc⟩ : ∃ rc : LoopState → Option Code → Loop, rc = fun st pe => { state := st, pending := pe, fn, tmps := a.tmps, params := ps, assign, body, defers := dfr } := ⟨_, rfl⟩
  have hR : V.heap[L]? = some (.loop (rc .ready none)) := by rw [hrc]; exact hR
  have hIV : I [] V := hI _ _ _ none h0 (grown_of_below hbV) (by simp)
  obtain ⟨B2, hB2⟩ : ∃ B2 : Loop → World → Prop, B2 = fun r W => W.heap[L]? = some (.loop r) ∧ ∀ p ∈ E, W.heap[p.1]? = some p.2 := ⟨_, rfl⟩
  have own2 : ∀ {r : Loop} {X Y : World} {row : Option Nat}, B2 r X → X.grownBy Y row → (∀ k, row = some k → V.heap.size ≤ k) → B2 r Y := fun {r X Y row} hs hgr hr => by
    rw [hB2] at hs ⊢
    exact ⟨(hgr.block _ (block_lt hs.1) fun e => by have := hr _ e.symm; omega).trans hs.1, fun p hp => (hgr.block _ (block_lt (hs.2 p hp)) fun e => by have := hr _ e.symm; have := hE p hp; omega).trans (hs.2 p hp)⟩
  have turn : ∀ {r : Loop} {X : World} (r' : Loop), B2 r X → B2 r' (X.putObj L (.loop r')) := fun {r X} r' hs => by
    rw [hB2] at hs ⊢
    exact ⟨World.putObj_heap_same (block_lt hs.1), fun p hp => (World.putObj_heap_other (by have := hE p hp; omega)).trans (hs.2 p hp)⟩
  have stay : ∀ {r : Loop} {X Y : World}, B2 r X → KeepQ w.heap.size P X Y → B2 r Y := fun {r X Y} hs hk => by
    rw [hB2] at hs ⊢
    exact ⟨(hk.new _ hL (block_lt hs.1)).trans hs.1, fun p hp => (hk.new _ (hE p hp).1 (block_lt (hs.2 p hp))).trans (hs.2 p hp)⟩
  have hnP : ¬ P L := fun h => by have := hPw _ h; omega
  have hown : ∀ {β : Type} {J : β → World → Prop}, OwnW w.heap.size J → ∀ (s : β) (U : World) (r : Loop) (o : Obj), B2 r U → J s U → J s (U.putObj L o) := fun {β J} hJ s U r o hbu hiu => hJ s U _ (some L) hiu (grownBy_putObj' U _ o) fun k e => by
    cases e
    rw [hB2] at hbu
    exact ⟨hL, _, hbu.1, rfl, rfl⟩
  refine ⟨L, mark, V, { target := .fn (.func gf) lb, args := #[.func (.yield L) #[] #[]] }, V, gf,
    #[.func (.yield L) #[] #[]] ++ lb, V, hrun, by simp only [resolve, hg]; simp [go_sem], fun f' hf' => trivial, by simp [invoke, go_sem, eg], fun h => by simp [FW, Fence.wide] at h, ?_⟩
  refine (show CallsIn (FW r) (n - 1) Tryz.prog gf (#[.func (.yield L) #[] #[]] ++ lb) V _ from callsIn_wide.2 (callsIn_wide.1 (hseq L (fun pre W => (I pre W ∧ Z ≤ W.heap.size) ∧ B2 (rc .ready none) W) (fun pre W => Ix pre W ∧ B2 (rc .done (some .ret)) W) V hbV
    (fun s X Y row hs hgr hr => ⟨⟨hI s X Y row hs.1.1 hgr fun k e => ⟨by have := (hr k e).1; omega, (hr k e).2⟩, Nat.le_trans hs.1.2 hgr.size⟩, own2 hs.2 hgr fun k e => (hr k e).1⟩)
    (fun s X Y row hs hgr hr => ⟨hIx s X Y row hs.1 hgr fun k e => ⟨by have := (hr k e).1; omega, (hr k e).2⟩, own2 hs.2 hgr fun k e => (hr k e).1⟩)
    ?_ ⟨⟨hIV, by omega⟩, by rw [hB2]; exact ⟨hR, hEV⟩⟩))).mono ?_
  · rintro m2 pre x W ⟨⟨hi, hsz⟩, hb⟩ hlen
    have hb' := hb
    rw [hB2] at hb'
    have hy := run_yield (P := Tryz.prog) (args := encs x) hb'.1 (by rw [hrc]; exact hps x)
    rw [hrc] at hy
    refine ⟨fn, _, assign, body, hy, round_any m (roundIn_of_wpIn trivial (hassign _ pre x W _ hsz hi fun a' W' hk hi' hax => ?_))⟩
    have hb1 := stay hb hk
    have hb1' := hb1
    rw [hB2] at hb1'
    refine ⟨_, run_beginRound hb1'.1 (by rw [hrc]), ?_⟩
    have hb2 := turn { rc .ready none with state := .busy } hb1
    have hb2' := hb2
    rw [hB2] at hb2'
    refine wpIn_mono (hbody _ pre x a' _ (by simp; exact Nat.le_trans hsz hk.size) ⟨_, hb2'.1⟩ (hown hI _ _ _ _ hb1 hi') (hown (hAx x a') () _ _ _ hb1 hax) hlen) ?_
    rintro e a3 W3 hp
    cases e with
    | normal =>
      obtain ⟨hk3, hi3⟩ := hp
      have hb3 := stay hb2 hk3
      have hb3' := hb3
      rw [hB2] at hb3'
      refine ⟨_, _, run_endRound none hb3'.1, .inl ⟨rfl, ⟨⟨hown hI _ _ _ _ hb3 hi3, by have := hk.size; have := hk3.size; simp at this ⊢; omega⟩, ?_⟩, ?_⟩⟩
      · have h := turn (rc .ready none) hb3
        rw [hrc] at h ⊢
        exact h
      · exact (((hk.up (by omega)).trans (KeepQ.putObj _ _ _ hnP (by omega))).trans (hk3.up (by omega))).trans (KeepQ.putObj _ _ _ hnP (by omega))
    | ret =>
      obtain ⟨hk3, hi3⟩ := hp
      have hb3 := stay hb2 hk3
      have hb3' := hb3
      rw [hB2] at hb3'
      refine ⟨_, _, run_endRound (some .ret) hb3'.1, .inr ⟨rfl, ⟨hown hIx _ _ _ _ hb3 hi3, ?_⟩, ?_⟩⟩
      · have h := turn (rc .done (some .ret)) hb3
        rw [hrc] at h ⊢
        exact h
      · exact (((hk.up (by omega)).trans (KeepQ.putObj _ _ _ hnP (by omega))).trans (hk3.up (by omega))).trans (KeepQ.putObj _ _ _ hnP (by omega))
    | exit id => exact hp.elim
    | goto t => exact hp.elim
    | panic c => exact hp.elim
    | outgrown => exact hp.elim
  · rintro e W2 ⟨⟨v, rfl⟩, (⟨xs, hS, ⟨hi, _⟩, hb⟩ | ⟨pre, hi, hb⟩)⟩
    · have hb' := hb
      rw [hB2] at hb'
      refine ⟨none, _, by have h := run_endLoop (P := Tryz.prog) hb'.1 (by rw [hrc]; simp); rw [hrc] at h; exact h, hdone xs _ hS (hown hI _ _ _ _ hb hi) fun p hp => (World.putObj_heap_other (by have := hE p hp; omega)).trans (hb'.2 p hp)⟩
    · have hb' := hb
      rw [hB2] at hb'
      refine ⟨some .ret, _, by have h := run_endLoop (P := Tryz.prog) hb'.1 (by rw [hrc]; simp); rw [hrc] at h; exact h, wpIn_ret (hstop pre _ (hown hIx _ _ _ _ hb hi) fun p hp => (World.putObj_heap_other (by have := hE p hp; omega)).trans (hb'.2 p hp))⟩

/-- A loop that stands in no round. -/
theorem range_out {α : Type} {n m : Nat} {g : Operand} {ps : Array Tmp} {assign body : Code} {Q : Exit → Act → World → Prop} {a : Act} {w : World} {gf : Nat} {lb : Array Value}
    (hg : a.eval g = .func (.func gf) #[] lb) (eg : ∀ args w, (callFunc gf args).run Tryz.prog w = .ok (.enter gf args) w)
    {encs : α → Array Value} {P : Nat → Prop} {S : List α → Prop} {N : Nat} (hseq : SeqW gf lb encs P S N w) (hPw : ∀ k, P k → k < w.heap.size) (hps : ∀ x, (encs x).size = ps.size)
    (I Ix : List α → World → Prop) (hI : OwnW w.heap.size I) (hIx : OwnW w.heap.size Ix) (h0 : I [] w) (Ax : α → Act → World → Prop) (hAx : ∀ x a', OwnW w.heap.size (fun (_ : Unit) W => Ax x a' W))
    (hassign : ∀ (l : Nat) (pre : List α) (x : α) (W : World) (K : Act → World → Prop), w.heap.size + 2 ≤ W.heap.size → I pre W → (∀ a' W', KeepQ w.heap.size P W W' → I pre W' → Ax x a' W' → K a' W') →
      assign.wpIn (Fence.wide.inRound l) m Tryz.prog (Exit.then K (fun _ _ _ => False)) { tmps := (ps.zip (encs x)).foldl (fun t (p, v) => t.setIfInBounds p v) a.tmps, defers := [] } W)
    (hbody : ∀ (l : Nat) (pre : List α) (x : α) (a' : Act) (W : World), w.heap.size + 2 ≤ W.heap.size → (∃ r, W.heap[l]? = some (.loop r)) → I pre W → Ax x a' W → pre.length < N → body.wpIn (Fence.wide.inRound l) m Tryz.prog (postO w.heap.size P I Ix (pre ++ [x]) W) a' W)
    (hdone : ∀ (xs : List α) (W : World), S xs → I xs W → W.heap[w.heap.size]? = some (.deferred (some [])) → Q .normal { a with defers := { target := .collected w.heap.size, args := #[] } :: a.defers } W)
    (hstop : ∀ (pre : List α) (W : World), Ix pre W → W.heap[w.heap.size]? = some (.deferred (some [])) → Q .ret { a with defers := { target := .collected w.heap.size, args := #[] } :: a.defers } W) :
    (Code.rangeFunc g ps assign body).wpIn Fence.wide n Tryz.prog Q a w :=
  range_W (r := none) (m := m) hg eg hseq hPw hps I Ix hI hIx h0 Ax hAx (w.heap.size + 1) (w.heap.size + 2) [{ target := .collected w.heap.size, args := #[] }] [(w.heap.size, .deferred (some []))] w.heap.size (by omega) (by omega)
    (fun p hp => by rw [List.mem_singleton] at hp; subst hp; simp)
    (fun fn => ⟨_, run_enterLoop_outer _ _ _ _ _, ((Below.refl _ _).alloc (Nat.le_refl _) _).alloc (by simp) _, by simp, by rw [alloc_get, if_pos (by simp)], fun p hp => by rw [List.mem_singleton] at hp; subst hp; rw [alloc_get, if_neg (by simp), alloc_get, if_pos rfl]⟩)
    hassign hbody (fun xs W h1 h2 h3 => hdone xs W h1 h2 (h3 _ (List.mem_singleton.2 rfl))) (fun pre W h1 h3 => hstop pre W h1 (h3 _ (List.mem_singleton.2 rfl)))
/-- A loop within a round. -/
theorem range_in {α : Type} {n m l0 : Nat} {r0 : Loop} {g : Operand} {ps : Array Tmp} {assign body : Code} {Q : Exit → Act → World → Prop} {a : Act} {w : World} {gf : Nat} {lb : Array Value} (hl0 : w.heap[l0]? = some (.loop r0))
    (hg : a.eval g = .func (.func gf) #[] lb) (eg : ∀ args w, (callFunc gf args).run Tryz.prog w = .ok (.enter gf args) w)
    {encs : α → Array Value} {P : Nat → Prop} {S : List α → Prop} {N : Nat} (hseq : SeqW gf lb encs P S N w) (hPw : ∀ k, P k → k < w.heap.size) (hps : ∀ x, (encs x).size = ps.size)
    (I Ix : List α → World → Prop) (hI : OwnW w.heap.size I) (hIx : OwnW w.heap.size Ix) (h0 : I [] w) (Ax : α → Act → World → Prop) (hAx : ∀ x a', OwnW w.heap.size (fun (_ : Unit) W => Ax x a' W))
    (hassign : ∀ (l : Nat) (pre : List α) (x : α) (W : World) (K : Act → World → Prop), w.heap.size + 1 ≤ W.heap.size → I pre W → (∀ a' W', KeepQ w.heap.size P W W' → I pre W' → Ax x a' W' → K a' W') →
      assign.wpIn (Fence.wide.inRound l) m Tryz.prog (Exit.then K (fun _ _ _ => False)) { tmps := (ps.zip (encs x)).foldl (fun t (p, v) => t.setIfInBounds p v) a.tmps, defers := [] } W)
    (hbody : ∀ (l : Nat) (pre : List α) (x : α) (a' : Act) (W : World), w.heap.size + 1 ≤ W.heap.size → (∃ r, W.heap[l]? = some (.loop r)) → I pre W → Ax x a' W → pre.length < N → body.wpIn (Fence.wide.inRound l) m Tryz.prog (postO w.heap.size P I Ix (pre ++ [x]) W) a' W)
    (hdone : ∀ (xs : List α) (W : World), S xs → I xs W → Q .normal a W)
    (hstop : ∀ (pre : List α) (W : World), Ix pre W → Q .ret a W) :
    (Code.rangeFunc g ps assign body).wpIn (Fence.wide.inRound l0) n Tryz.prog Q a w :=
  range_W (r := some l0) (m := m) hg eg hseq hPw hps I Ix hI hIx h0 Ax hAx w.heap.size (w.heap.size + 1) [] [] r0.defers (by omega) (by omega) (fun p hp => by cases hp)
    (fun fn => ⟨_, run_enterLoop_inner hl0 _ _ _ _ _, (Below.refl _ _).alloc (Nat.le_refl _) _, by simp, by rw [alloc_get, if_pos rfl], fun p hp => by cases hp⟩)
    hassign hbody (fun xs W h1 h2 _ => hdone xs W h1 h2) (fun pre W h1 _ => hstop pre W h1)
theorem ownW_keepQ {β : Type} {B b : Nat} {P : Nat → Prop} (V0 : World) (hB : V0.heap.size ≤ B) (hP : ∀ k, P k → k < V0.heap.size) : OwnW B (fun (_ : β) W => KeepQ b P V0 W) := fun _ X Y row hs hg hr =>
  ⟨Nat.le_trans hs.size hg.size, fun k hk => (hg.block k (Nat.lt_of_lt_of_le (hP k hk) hs.size) fun e => by have := (hr k e.symm).1; have := hP k hk; omega).trans (hs.blk k hk),
   fun k h1 h2 => (hg.block k (Nat.lt_of_lt_of_le h2 hs.size) fun e => by have := (hr k e.symm).1; omega).trans (hs.new k h1 h2)⟩
theorem ownW_box {β : Type} (B b : Nat) (t : TypeId) (cs : Array Value) : OwnW B (fun (_ : β) W => BoxA W b t cs) := OwnW.of (Own.from (boxa_own b t (fun _ => cs)) B)
theorem sc_own {α : Type} {J : List α → World → Prop} {P : Nat → Prop} {V0 : World} {b yb l m B : Nat} (hJ : OwnW b J) (hb : b ≤ B) (hP : ∀ k, P k → k < B) (hV : ∀ k, P k → k < V0.heap.size) : OwnW B (ScI J P V0 yb l m) := fun c X Y row hs hg hr =>
  ⟨hJ c X Y row hs.1 hg fun r e => ⟨Nat.le_trans hb (hr r e).1, (hr r e).2⟩,
   ⟨Nat.le_trans hs.2.1.size hg.size, fun k hk => (hg.block k (Nat.lt_of_lt_of_le (hV k hk) hs.2.1.size) fun e => by have := (hr k e.symm).1; have := hP k hk; omega).trans (hs.2.1.blk k hk)⟩,
   ownW_box (β := Unit) B yb _ _ () X Y row hs.2.2.1 hg hr, Nat.le_trans hs.2.2.2 hg.size⟩
theorem sc_ext {α : Type} {J : List α → World → Prop} {P : Nat → Prop} {V0 : World} {b yb l m : Nat} (hJ : OwnW b J) (hV : ∀ k, P k → k < V0.heap.size) {c : List α} {U U' : World} (h : ScI J P V0 yb l m c U) (hb : Below U.heap.size U U') : ScI J P V0 yb l m c U' :=
  ⟨hJ c _ _ none h.1 (grown_of_below hb) (by simp), h.2.1.trans (KeepP.of_below hb fun k hk => Nat.lt_of_lt_of_le (hV k hk) h.2.1.size), h.2.2.1.ext hb, Nat.le_trans h.2.2.2 hb.size⟩

end Go.Proofs.YtaomfjgleddpdaaGreat

/- The iterator of scenes, where maps are kept. -/
namespace Go.Proofs.YtaomfjgleddpdaaGreat
open Go.RowKit Go.Shelf Go.Maps
attribute [local go_sem] Oper.semAt_some

theorem OwnW.putObj {β : Type} {B : Nat} {I : β → World → Prop} (h : OwnW B I) {s : β} {W : World} {l : Nat} {o : Obj} (o' : Obj) (hs : I s W) (hB : B ≤ l) (hl : W.heap[l]? = some o) (h1 : o.isCells = false) (h2 : o.isWalk = false) : I s (W.putObj l o') :=
  h s W _ (some l) hs (grownBy_putObj' W l o') fun r e => by cases e; exact ⟨hB, o, hl, h1, h2⟩
theorem KeepQ.weak {b b' : Nat} {P P' : Nat → Prop} {X Y : World} (h : KeepQ b P X Y) (hb : b ≤ b') (hP : ∀ k, P' k → P k ∨ (b ≤ k ∧ k < X.heap.size)) : KeepQ b' P' X Y :=
  ⟨h.size, fun k hk => (hP k hk).elim (h.blk k) fun g => h.new k g.1 g.2, fun k h1 h2 => h.new k (by omega) h2⟩

set_option maxRecDepth 100000 in
set_option maxHeartbeats 4000000 in
theorem scenes_W (S : Nm → TL) (day : Int) (ba bd lo B bm : Nat) (P : Nat → Prop) (w : World) (hS : ∀ n, (S n).length ≤ 1000)
    (hPl : ∀ k, lo ≤ k → k < B → P k) (hPa : P ba) (hPd : P bd) (hPw : ∀ k, P k → k < w.heap.size) (hB : B ≤ w.heap.size)
    (bA : BoxA w ba 123 #[.map (some bm)]) (bD : BoxA w bd 3 #[.int .i64 day]) (hT : ThR w lo B bm S) :
    SeqW 184 #[.pointer (some ⟨ba, 0, none⟩), .pointer (some ⟨bd, 0, none⟩)] (encC (T1 := (S (1, 0)).map (·.1)) (T2 := (S (2, 0)).map (·.1)) (T3 := (S (3, 0)).map (·.1)) (day := day)) P
      (fun ys => ys.map (·.1) = scnL ((S (1, 0)).map (·.1)) ((S (2, 0)).map (·.1)) ((S (3, 0)).map (·.1)) day) (scnL ((S (1, 0)).map (·.1)) ((S (2, 0)).map (·.1)) ((S (3, 0)).map (·.1)) day).length w := by
  intro l J Jx W hW hJ hJx hY h0
  have h1 : 1 ≤ 8 := by omega
  have hmo : Tryz.prog.follows .mixedOrders = true := by kernel_rfl
  have hPW : ∀ k, P k → k < W.heap.size := fun k hk => Nat.lt_of_lt_of_le (hPw k hk) hW.size
  have bA0 : BoxA W ba 123 #[.map (some bm)] := bA.ext hW
  have bD0 : BoxA W bd 3 #[.int .i64 day] := bD.ext hW
  have hT0 : ThR W lo B bm S := hT.below (hW.mono hB)
  have hBW : B ≤ W.heap.size := Nat.le_trans hB hW.size
  clear bA bD hT hW hPw hB
  (refine callsIn_of_wp_marks Tryz.func184 rfl trivial ?_ rfl; simp only [Tryz.ntmps184, List.size_toArray, List.length_cons, List.length_nil, Nat.reduceAdd, Nat.reduceSub, Array.replicate_succ, Array.replicate_zero, List.push_toArray, List.append_toArray, List.nil_append, List.cons_append])
  have d0 := bD0.cell 0
  have hba := bA0.lt
  have hbd := bD0.lt
  gi_wp2
  refine wpIn_named2 fun f0 V0 hf0 hV0 => ?_
  have HSV : Hid (V0.heap.size = W.heap.size + 1) := by show _ = _; rw [← hV0]; simp
  have hbV : Below W.heap.size W V0 := by rw [← hV0]; exact (Below.refl _ _).alloc (Nat.le_refl _) _
  have bY1 : BoxA V0 W.heap.size 208 #[.func (.yield l) #[] #[]] := by rw [← hV0]; exact BoxA.new W _ _
  have bA1 := bA0.ext hbV
  have bD1 := bD0.ext hbV
  have hT1 := hT0.below (hbV.mono hBW)
  have hJ1 : J [] V0 := hJ _ _ _ none h0 (grown_of_below hbV) (by simp)
  clear hV0 h0
  obtain ⟨Ad, Ai, As, cd, ci, cs, hlook, hthr⟩ := (hT1.keep (w' := V0.drew) fun _ _ _ => rfl).look (a := 1) (c := 0) (wf2_small (by omega) (by omega) (by omega) (by omega))
  have hthr1 : ThrAt V0 lo B (S (1, 0)) Ad Ai As cd ci cs := hthr.keep fun _ _ _ => rfl
  have a0 := bA1.cell 0
  have d0 := bD1.cell 0
  refine wpIn_cut (fun a' W' => a' = { tmps := ((((f0.tmps.setIfInBounds 10 (.map (some bm))).setIfInBounds 11 (nk 1 0)).setIfInBounds 12 (.agg #[.slice Ad (S (1, 0)).length cd, .slice Ai (S (1, 0)).length ci, .slice As (S (1, 0)).length cs])).setIfInBounds 13 (.int .i64 day)).setIfInBounds 14 (.func (.func 161) #[] #[.pointer (some ⟨V0.heap.size, 0, none⟩), .pointer (some ⟨V0.heap.size + 1, 0, none⟩)]), defers := [] } ∧ W' = (V0.drew.alloc (.cells #[.slice Ad (S (1, 0)).length cd, .slice Ai (S (1, 0)).length ci, .slice As (S (1, 0)).length cs] 122)).alloc (.cells #[.int .i64 day] 3)) ?reg ?rest
  case reg =>
    subst hf0
    gi_region_with_o (refine ⟨trivial, ?_⟩; gi_at_call 130; refine (callsIn_wide.2 (p_states day _ _ _ _)).mono ?_; rintro e w5 ⟨rfl, hw5⟩)
    all_goals exact ⟨rfl, rfl⟩
  case rest =>
    clear hlook hthr
    subst hf0
    rintro a' W1 ⟨rfl, hW0⟩
    simp only [List.setIfInBounds_toArray, List.set_cons_zero, List.set_cons_succ]
    gi_wp2
    refine wpIn_named2 fun f1 W1' hf1 hW1' => ?_
    subst hW1'
    have HS1 : Hid (W1.heap.size = V0.heap.size + 2) := by show _ = _; rw [hW0]; simp [drew_heap]
    have hb1 : Below V0.heap.size V0 W1 := by rw [hW0]; exact (((Below.refl _ _).drew).alloc (Nat.le_refl _) _).alloc (by simp [drew_heap]) _
    have hW0' := hW0.symm
    clear hW0
    have hW0 := hW0'
    clear hW0'
    have bT : BoxA W1 V0.heap.size 122 #[.slice Ad (S (1, 0)).length cd, .slice Ai (S (1, 0)).length ci, .slice As (S (1, 0)).length cs] := by (rw [← hW0]; simp only [boxed_iff, boxa_iff, alloc_get, drew_heap, World.size_alloc]; (repeat (first | rw [if_pos trivial] | rw [if_pos (by omega)] | rw [if_neg (by omega)])))
    have bDD : BoxA W1 (V0.heap.size + 1) 3 #[.int .i64 day] := by (rw [← hW0]; simp only [boxed_iff, boxa_iff, alloc_get, drew_heap, World.size_alloc]; (repeat (first | rw [if_pos trivial] | rw [if_pos (by omega)] | rw [if_neg (by omega)])))
    clear hW0
    have hPV : ∀ k, P k → k < V0.heap.size := fun k hk => by have := hPW k hk; have := HSV.out; omega
    have hPw1 : ∀ k, (P k ∨ k = V0.heap.size ∨ k = V0.heap.size + 1) → k < W1.heap.size := fun k hk => by
      have := HS1.out
      rcases hk with hk | hk | hk
      · have := hPV k hk; omega
      · omega
      · omega
    have hbB : B ≤ V0.heap.size := by have := HSV.out; omega
    have hthr2 := hthr1.below (hb1.mono hbB)
    have hI0 : ScI J P V0 W.heap.size l W1.heap.size [] W1 := ⟨hJ _ _ _ none hJ1 (grown_of_below hb1) (by simp), KeepP.of_below hb1 hPV, bY1.ext hb1, Nat.le_refl _⟩
    refine range_out (n := 8) (m := 6) (gf := 161) (lb := #[.pointer (some ⟨V0.heap.size, 0, none⟩), .pointer (some ⟨V0.heap.size + 1, 0, none⟩)]) (by subst hf1; rfl) (enters_of Tryz.func161 (by kernel_rfl) rfl)
      (states_W V0.heap.size (V0.heap.size + 1) lo B (fun k => P k ∨ k = V0.heap.size ∨ k = V0.heap.size + 1) (S (1, 0)) day Ad Ai As cd ci cs W1 (hS _) (fun k h2 h3 => .inl (hPl k h2 h3)) (.inr (.inl rfl)) (.inr (.inr rfl)) hPw1 (by have := HS1.out; omega) (bT.cell 0) (bT.cell 1) (bT.cell 2) (bDD.cell 0) hthr2)
      hPw1 (fun _ => rfl)
      (fun (pre : List (YS ((S (1, 0)).map (·.1)) day)) U => ∃ c, c.map (·.1) = scn1 ((S (2, 0)).map (·.1)) ((S (3, 0)).map (·.1)) day (pre.map (·.1)) ∧ ScI J P V0 W.heap.size l W1.heap.size c U)
      (fun _ U => ∃ s, Jx s U)
      (fun pre X Y row hs hg hr => by
        obtain ⟨c, hc, hs⟩ := hs
        exact ⟨c, hc, sc_own hJ (by have := HS1.out; have := HSV.out; omega) (fun k hk => hPw1 k (.inl hk)) hPV c X Y row hs hg hr⟩)
      (fun pre X Y row hs hg hr => by
        obtain ⟨s, hs⟩ := hs
        exact ⟨s, (hJx.up (by have := HS1.out; have := HSV.out; omega)) s X Y row hs hg hr⟩)
      ⟨[], rfl, hI0⟩
      (fun x a' U => ∃ B4 B5, W1.heap.size ≤ B4 ∧ W1.heap.size ≤ B5 ∧ BoxA U B4 3 #[.int .i64 x.1.1] ∧ BoxA U B5 135 #[.int .i64 x.1.2.holder, .int .i64 x.1.2.hand, .bool x.1.2.office] ∧ a' = { tmps := (((f1.tmps.setIfInBounds 15 (.int .i64 x.1.1)).setIfInBounds 16 (stV x.1.2)).setIfInBounds 4 (.pointer (some ⟨B4, 0, none⟩))).setIfInBounds 5 (.pointer (some ⟨B5, 0, none⟩)), defers := [] })
      (fun x a' _ X Y row hs hg hr => by obtain ⟨B4, B5, g1, g2, g3, g4, g5⟩ := hs; exact ⟨B4, B5, g1, g2, ownW_box (β := Unit) _ B4 _ _ () X Y row g3 hg hr, ownW_box (β := Unit) _ B5 _ _ () X Y row g4 hg hr, g5⟩)
      ?assign ?body ?done ?stop
    case assign =>
      subst hf1
      rintro l1 pre x U K hsz ⟨c, hc, hI⟩ hK
      simp only [encS, stV]
      gi_wp2
      have hbU : Below U.heap.size U ((U.alloc (.cells #[.int .i64 x.1.1] 3)).alloc (.cells #[.int .i64 x.1.2.holder, .int .i64 x.1.2.hand, .bool x.1.2.office] 135)) := ((Below.refl _ _).alloc (Nat.le_refl _) _).alloc (by simp) _
      have hUs := hI.2.2.2
      exact hK _ _ (KeepQ.of_below hbU (fun k hk => Nat.lt_of_lt_of_le (hPw1 k hk) hUs) (Nat.le_refl _)) ⟨c, hc, sc_ext hJ hPV hI hbU⟩ ⟨U.heap.size, U.heap.size + 1, hUs, by omega, (BoxA.new U _ _).alloc _, by
        have := BoxA.new (U.alloc (.cells #[.int .i64 x.1.1] 3)) 135 #[.int .i64 x.1.2.holder, .int .i64 x.1.2.hand, .bool x.1.2.office]
        rwa [World.size_alloc] at this, rfl⟩
    case body =>
      subst hf1
      rintro l1 pre1 x1 a' U1 hsz1 ⟨r1, hr1⟩ ⟨c1, hc1, hI1⟩ ⟨B4, B5, hB4, hB5, b4, b5, rfl⟩ hlt1
      simp only [List.setIfInBounds_toArray, List.set_cons_zero, List.set_cons_succ]
      have bA2 : BoxA U1 ba 123 #[.map (some bm)] := (hI1.2.1.blk ba hPa).trans bA1
      have bD2 : BoxA U1 bd 3 #[.int .i64 day] := (hI1.2.1.blk bd hPd).trans bD1
      have hT2 := hT1.keep fun k h2 h3 => hI1.2.1.blk k (hPl k h2 h3)
      obtain ⟨Ae, Aj, At, ce, cj, ct, hlook, hthr⟩ := (hT2.keep (w' := U1.drew) fun _ _ _ => rfl).look (a := 2) (c := 0) (wf2_small (by omega) (by omega) (by omega) (by omega))
      have hthr3 : ThrAt U1 lo B (S (2, 0)) Ae Aj At ce cj ct := hthr.keep fun _ _ _ => rfl
      have a2 := bA2.cell 0
      have d2 := bD2.cell 0
      have HSU1 := Lib.hid hI1.2.2.2
      gi_wp2
      refine wpIn_named2 fun f2 V1 hf2 hV1 => ?_
      subst hV1
      refine wpIn_cut (fun a' W' => a' = { tmps := ((((f2.tmps.setIfInBounds 17 (.map (some bm))).setIfInBounds 18 (nk 2 0)).setIfInBounds 19 (.agg #[.slice Ae (S (2, 0)).length ce, .slice Aj (S (2, 0)).length cj, .slice At (S (2, 0)).length ct])).setIfInBounds 20 (.int .i64 day)).setIfInBounds 21 (.func (.func 161) #[] #[.pointer (some ⟨U1.heap.size, 0, none⟩), .pointer (some ⟨U1.heap.size + 1, 0, none⟩)]), defers := [] } ∧ W' = (U1.drew.alloc (.cells #[.slice Ae (S (2, 0)).length ce, .slice Aj (S (2, 0)).length cj, .slice At (S (2, 0)).length ct] 122)).alloc (.cells #[.int .i64 day] 3)) ?reg2 ?rest2
      case reg2 =>
        subst hf2
        gi_region_with_o (refine ⟨trivial, ?_⟩; gi_at_call 130; refine (CallsIn.inRound l1 (callsIn_wide.2 (p_states day _ _ _ _))).mono ?_; rintro e w5 ⟨rfl, hw5⟩)
        all_goals exact ⟨rfl, rfl⟩
      case rest2 =>
        clear hlook hthr
        subst hf2
        rintro a' W2 ⟨rfl, hW0⟩
        simp only [List.setIfInBounds_toArray, List.set_cons_zero, List.set_cons_succ]
        gi_wp2
        refine wpIn_named2 fun f3 W2' hf3 hW2' => ?_
        subst hW2'
        have HS2 : Hid (W2.heap.size = U1.heap.size + 2) := by show _ = _; rw [hW0]; simp [drew_heap]
        have hb2 : Below U1.heap.size U1 W2 := by rw [hW0]; exact (((Below.refl _ _).drew).alloc (Nat.le_refl _) _).alloc (by simp [drew_heap]) _
        have hW0' := hW0.symm
        clear hW0
        have hW0 := hW0'
        clear hW0'
        have bT2 : BoxA W2 U1.heap.size 122 #[.slice Ae (S (2, 0)).length ce, .slice Aj (S (2, 0)).length cj, .slice At (S (2, 0)).length ct] := by (rw [← hW0]; simp only [boxed_iff, boxa_iff, alloc_get, drew_heap, World.size_alloc]; (repeat (first | rw [if_pos trivial] | rw [if_pos (by omega)] | rw [if_neg (by omega)])))
        have bDD2 : BoxA W2 (U1.heap.size + 1) 3 #[.int .i64 day] := by (rw [← hW0]; simp only [boxed_iff, boxa_iff, alloc_get, drew_heap, World.size_alloc]; (repeat (first | rw [if_pos trivial] | rw [if_pos (by omega)] | rw [if_neg (by omega)])))
        clear hW0
        have hPU : ∀ k, (P k ∨ k = V0.heap.size ∨ k = V0.heap.size + 1) → k < U1.heap.size := fun k hk => Nat.lt_of_lt_of_le (hPw1 k hk) HSU1.out
        have hPw2 : ∀ k, (P k ∨ k = U1.heap.size ∨ k = U1.heap.size + 1) → k < W2.heap.size := fun k hk => by
          have := HS2.out
          rcases hk with hk | hk | hk
          · have := hPU k (.inl hk); omega
          · omega
          · omega
        have hBU : B ≤ U1.heap.size := by have := HS1.out; have := HSU1.out; omega
        have hthr4 := hthr3.below (hb2.mono hBU)
        have hr2 : W2.heap[l1]? = some (.loop r1) := (hb2.block l1 (block_lt hr1)).trans hr1
        refine range_in (n := 6) (m := 4) (l0 := l1) (r0 := r1) hr2 (gf := 161) (lb := #[.pointer (some ⟨U1.heap.size, 0, none⟩), .pointer (some ⟨U1.heap.size + 1, 0, none⟩)]) (by subst hf3; rfl) (enters_of Tryz.func161 (by kernel_rfl) rfl)
          (states_W U1.heap.size (U1.heap.size + 1) lo B (fun k => P k ∨ k = U1.heap.size ∨ k = U1.heap.size + 1) (S (2, 0)) day Ae Aj At ce cj ct W2 (hS _) (fun k h2 h3 => .inl (hPl k h2 h3)) (.inr (.inl rfl)) (.inr (.inr rfl)) hPw2 (Nat.le_trans hBU hb2.size) (bT2.cell 0) (bT2.cell 1) (bT2.cell 2) (bDD2.cell 0) hthr4)
          hPw2 (fun _ => rfl)
          (fun (pre2 : List (YS ((S (2, 0)).map (·.1)) day)) U => (∃ c, c.map (·.1) = scn1 ((S (2, 0)).map (·.1)) ((S (3, 0)).map (·.1)) day (pre1.map (·.1)) ++ scn2 ((S (3, 0)).map (·.1)) day x1.1 (pre2.map (·.1)) ∧ ScI J P V0 W.heap.size l W2.heap.size c U) ∧
            (BoxA U B4 3 #[.int .i64 x1.1.1] ∧ BoxA U B5 135 #[.int .i64 x1.1.2.holder, .int .i64 x1.1.2.hand, .bool x1.1.2.office]) ∧ KeepQ W1.heap.size (fun k => P k ∨ k = V0.heap.size ∨ k = V0.heap.size + 1) U1 U)
          (fun _ U => (∃ s, Jx s U) ∧ KeepQ W1.heap.size (fun k => P k ∨ k = V0.heap.size ∨ k = V0.heap.size + 1) U1 U)
          (fun pre X Y row hs hg hr => by
            obtain ⟨⟨c, hc, hs1⟩, ⟨q4, q5⟩, hkq⟩ := hs
            exact ⟨⟨c, hc, sc_own hJ (by have := HS1.out; have := HSV.out; have := HSU1.out; have := HS2.out; omega) (fun k hk => hPw2 k (.inl hk)) hPV c X Y row hs1 hg hr⟩,
              ⟨ownW_box (β := Unit) _ B4 _ _ () X Y row q4 hg hr, ownW_box (β := Unit) _ B5 _ _ () X Y row q5 hg hr⟩,
              ownW_keepQ (β := Unit) U1 hb2.size hPU () X Y row hkq hg hr⟩)
          (fun pre X Y row hs hg hr => ⟨by
            obtain ⟨s, hs⟩ := hs.1
            exact ⟨s, (hJx.up (by have := HS1.out; have := HSV.out; have := HSU1.out; have := HS2.out; omega)) s X Y row hs hg hr⟩, ownW_keepQ (β := Unit) U1 hb2.size hPU () X Y row hs.2 hg hr⟩)
          ⟨⟨c1, by rw [hc1]; simp [scn2], by have h := sc_ext hJ hPV hI1 hb2; exact ⟨h.1, h.2.1, h.2.2.1, Nat.le_refl _⟩⟩, ⟨b4.ext hb2, b5.ext hb2⟩, KeepQ.of_below hb2 hPU (Nat.le_refl _)⟩
          (fun x a' U => ∃ B6 B7, W2.heap.size ≤ B6 ∧ W2.heap.size ≤ B7 ∧ BoxA U B6 3 #[.int .i64 x.1.1] ∧ BoxA U B7 135 #[.int .i64 x.1.2.holder, .int .i64 x.1.2.hand, .bool x.1.2.office] ∧ a' = { tmps := (((f3.tmps.setIfInBounds 22 (.int .i64 x.1.1)).setIfInBounds 23 (stV x.1.2)).setIfInBounds 6 (.pointer (some ⟨B6, 0, none⟩))).setIfInBounds 7 (.pointer (some ⟨B7, 0, none⟩)), defers := [] })
          (fun x a' _ X Y row hs hg hr => by obtain ⟨B6, B7, g1, g2, g3, g4, g5⟩ := hs; exact ⟨B6, B7, g1, g2, ownW_box (β := Unit) _ B6 _ _ () X Y row g3 hg hr, ownW_box (β := Unit) _ B7 _ _ () X Y row g4 hg hr, g5⟩)
          ?assign2 ?body2 ?done2 ?stop2
        case assign2 =>
          subst hf3
          rintro l2 pre x U K hsz ⟨⟨c, hc, hI⟩, ⟨q4, q5⟩, hkq⟩ hK
          simp only [encS, stV]
          gi_wp2
          have hbU : Below U.heap.size U ((U.alloc (.cells #[.int .i64 x.1.1] 3)).alloc (.cells #[.int .i64 x.1.2.holder, .int .i64 x.1.2.hand, .bool x.1.2.office] 135)) := ((Below.refl _ _).alloc (Nat.le_refl _) _).alloc (by simp) _
          have hUs := hI.2.2.2
          exact hK _ _ (KeepQ.of_below hbU (fun k hk => Nat.lt_of_lt_of_le (hPw2 k hk) hUs) (Nat.le_refl _)) ⟨⟨c, hc, sc_ext hJ hPV hI hbU⟩, ⟨q4.ext hbU, q5.ext hbU⟩, hkq.trans (KeepQ.of_below hbU (fun k hk => Nat.lt_of_lt_of_le (hPU k hk) hkq.size) (Nat.le_refl _))⟩ ⟨U.heap.size, U.heap.size + 1, hUs, by omega, (BoxA.new U _ _).alloc _, by
            have := BoxA.new (U.alloc (.cells #[.int .i64 x.1.1] 3)) 135 #[.int .i64 x.1.2.holder, .int .i64 x.1.2.hand, .bool x.1.2.office]
            rwa [World.size_alloc] at this, rfl⟩
        case body2 =>
          subst hf3
          rintro l2 pre2 x2 a' U2 hsz2 ⟨r2, hr2⟩ ⟨⟨c2, hc2, hI2⟩, ⟨q4, q5⟩, hkq2⟩ ⟨B6, B7, hB6, hB7, b6, b7, rfl⟩ hlt2
          simp only [List.setIfInBounds_toArray, List.set_cons_zero, List.set_cons_succ]
          have bA3 : BoxA U2 ba 123 #[.map (some bm)] := (hI2.2.1.blk ba hPa).trans bA1
          have bD3 : BoxA U2 bd 3 #[.int .i64 day] := (hI2.2.1.blk bd hPd).trans bD1
          have hT3 := hT1.keep fun k h2 h3 => hI2.2.1.blk k (hPl k h2 h3)
          obtain ⟨Ag, Ah, Ak, cg, ch, ck, hlook, hthr⟩ := (hT3.keep (w' := U2.drew) fun _ _ _ => rfl).look (a := 3) (c := 0) (wf2_small (by omega) (by omega) (by omega) (by omega))
          have hthr5 : ThrAt U2 lo B (S (3, 0)) Ag Ah Ak cg ch ck := hthr.keep fun _ _ _ => rfl
          have a3 := bA3.cell 0
          have d3 := bD3.cell 0
          have HSU2 := Lib.hid hI2.2.2.2
          gi_wp2
          refine wpIn_named2 fun f4 V2 hf4 hV2 => ?_
          subst hV2
          refine wpIn_cut (fun a' W' => a' = { tmps := ((((f4.tmps.setIfInBounds 24 (.map (some bm))).setIfInBounds 25 (nk 3 0)).setIfInBounds 26 (.agg #[.slice Ag (S (3, 0)).length cg, .slice Ah (S (3, 0)).length ch, .slice Ak (S (3, 0)).length ck])).setIfInBounds 27 (.int .i64 day)).setIfInBounds 28 (.func (.func 161) #[] #[.pointer (some ⟨U2.heap.size, 0, none⟩), .pointer (some ⟨U2.heap.size + 1, 0, none⟩)]), defers := [] } ∧ W' = (U2.drew.alloc (.cells #[.slice Ag (S (3, 0)).length cg, .slice Ah (S (3, 0)).length ch, .slice Ak (S (3, 0)).length ck] 122)).alloc (.cells #[.int .i64 day] 3)) ?reg3 ?rest3
          case reg3 =>
            subst hf4
            gi_region_with_o (refine ⟨trivial, ?_⟩; gi_at_call 130; refine (CallsIn.inRound l2 (callsIn_wide.2 (p_states day _ _ _ _))).mono ?_; rintro e w5 ⟨rfl, hw5⟩)
            all_goals exact ⟨rfl, rfl⟩
          case rest3 =>
            clear hlook hthr
            subst hf4
            rintro a' W3 ⟨rfl, hW0⟩
            simp only [List.setIfInBounds_toArray, List.set_cons_zero, List.set_cons_succ]
            gi_wp2
            refine wpIn_named2 fun f5 W3' hf5 hW3' => ?_
            subst hW3'
            have HS3 : Hid (W3.heap.size = U2.heap.size + 2) := by show _ = _; rw [hW0]; simp [drew_heap]
            have hb3 : Below U2.heap.size U2 W3 := by rw [hW0]; exact (((Below.refl _ _).drew).alloc (Nat.le_refl _) _).alloc (by simp [drew_heap]) _
            have hW0' := hW0.symm
            clear hW0
            have hW0 := hW0'
            clear hW0'
            have bT3 : BoxA W3 U2.heap.size 122 #[.slice Ag (S (3, 0)).length cg, .slice Ah (S (3, 0)).length ch, .slice Ak (S (3, 0)).length ck] := by (rw [← hW0]; simp only [boxed_iff, boxa_iff, alloc_get, drew_heap, World.size_alloc]; (repeat (first | rw [if_pos trivial] | rw [if_pos (by omega)] | rw [if_neg (by omega)])))
            have bDD3 : BoxA W3 (U2.heap.size + 1) 3 #[.int .i64 day] := by (rw [← hW0]; simp only [boxed_iff, boxa_iff, alloc_get, drew_heap, World.size_alloc]; (repeat (first | rw [if_pos trivial] | rw [if_pos (by omega)] | rw [if_neg (by omega)])))
            clear hW0
            have hPQ : ∀ k, (P k ∨ k = V0.heap.size ∨ k = V0.heap.size + 1 ∨ k = U1.heap.size ∨ k = U1.heap.size + 1) → k < U2.heap.size := fun k hk => by
              have := HSU2.out
              have := hb2.size
              rcases hk with hk | hk | hk | hk | hk
              · have := hPw2 k (.inl hk); omega
              · have := hPU k (.inr (.inl hk)); omega
              · have := hPU k (.inr (.inr hk)); omega
              · have := hPw2 k (.inr (.inl hk)); omega
              · have := hPw2 k (.inr (.inr hk)); omega
            have hPw3 : ∀ k, (P k ∨ k = U2.heap.size ∨ k = U2.heap.size + 1) → k < W3.heap.size := fun k hk => by
              have := HS3.out
              rcases hk with hk | hk | hk
              · have := hPQ k (.inl hk); omega
              · omega
              · omega
            have hBU2 : B ≤ U2.heap.size := by have := HS2.out; have := HSU2.out; omega
            have hthr6 := hthr5.below (hb3.mono hBU2)
            have hr3 : W3.heap[l2]? = some (.loop r2) := (hb3.block l2 (block_lt hr2)).trans hr2
            have hPU2 : ∀ k, (P k ∨ k = V0.heap.size ∨ k = V0.heap.size + 1) → k < U2.heap.size := fun k hk => by rcases hk with h | h | h; exact hPQ k (.inl h); exact hPQ k (.inr (.inl h)); exact hPQ k (.inr (.inr (.inl h)))
            refine range_in (n := 4) (m := 2) (l0 := l2) (r0 := r2) hr3 (gf := 161) (lb := #[.pointer (some ⟨U2.heap.size, 0, none⟩), .pointer (some ⟨U2.heap.size + 1, 0, none⟩)]) (by subst hf5; rfl) (enters_of Tryz.func161 (by kernel_rfl) rfl)
              (states_W U2.heap.size (U2.heap.size + 1) lo B (fun k => P k ∨ k = U2.heap.size ∨ k = U2.heap.size + 1) (S (3, 0)) day Ag Ah Ak cg ch ck W3 (hS _) (fun k h2 h3 => .inl (hPl k h2 h3)) (.inr (.inl rfl)) (.inr (.inr rfl)) hPw3 (Nat.le_trans hBU2 hb3.size) (bT3.cell 0) (bT3.cell 1) (bT3.cell 2) (bDD3.cell 0) hthr6)
              hPw3 (fun _ => rfl)
              (fun (pre3 : List (YS ((S (3, 0)).map (·.1)) day)) U => (∃ c, c.map (·.1) = scn1 ((S (2, 0)).map (·.1)) ((S (3, 0)).map (·.1)) day (pre1.map (·.1)) ++ scn2 ((S (3, 0)).map (·.1)) day x1.1 (pre2.map (·.1)) ++ (pre3.map (·.1)).map (fun z => (x1.1, x2.1, z)) ∧ ScI J P V0 W.heap.size l W3.heap.size c U) ∧
                ((BoxA U B4 3 #[.int .i64 x1.1.1] ∧ BoxA U B5 135 #[.int .i64 x1.1.2.holder, .int .i64 x1.1.2.hand, .bool x1.1.2.office]) ∧ (BoxA U B6 3 #[.int .i64 x2.1.1] ∧ BoxA U B7 135 #[.int .i64 x2.1.2.holder, .int .i64 x2.1.2.hand, .bool x2.1.2.office])) ∧
                KeepQ W1.heap.size (fun k => P k ∨ k = V0.heap.size ∨ k = V0.heap.size + 1) U2 U)
              (fun _ U => (∃ s, Jx s U) ∧ KeepQ W1.heap.size (fun k => P k ∨ k = V0.heap.size ∨ k = V0.heap.size + 1) U2 U)
              (fun pre X Y row hs hg hr => by
                obtain ⟨⟨c, hc, hs1⟩, ⟨⟨q4, q5⟩, q6, q7⟩, hkq⟩ := hs
                exact ⟨⟨c, hc, sc_own hJ (by have := HS1.out; have := HSV.out; have := HSU1.out; have := HS2.out; have := HSU2.out; have := HS3.out; omega) (fun k hk => hPw3 k (.inl hk)) hPV c X Y row hs1 hg hr⟩,
                  ⟨⟨ownW_box (β := Unit) _ B4 _ _ () X Y row q4 hg hr, ownW_box (β := Unit) _ B5 _ _ () X Y row q5 hg hr⟩, ownW_box (β := Unit) _ B6 _ _ () X Y row q6 hg hr, ownW_box (β := Unit) _ B7 _ _ () X Y row q7 hg hr⟩,
                  ownW_keepQ (β := Unit) U2 hb3.size hPU2 () X Y row hkq hg hr⟩)
              (fun pre X Y row hs hg hr => ⟨by
                obtain ⟨s, hs⟩ := hs.1
                exact ⟨s, (hJx.up (by have := HS1.out; have := HSV.out; have := HSU1.out; have := HS2.out; have := HSU2.out; have := HS3.out; omega)) s X Y row hs hg hr⟩, ownW_keepQ (β := Unit) U2 hb3.size hPU2 () X Y row hs.2 hg hr⟩)
              ⟨⟨c2, by rw [hc2]; simp, by have h := sc_ext hJ hPV hI2 hb3; exact ⟨h.1, h.2.1, h.2.2.1, Nat.le_refl _⟩⟩, ⟨⟨q4.ext hb3, q5.ext hb3⟩, b6.ext hb3, b7.ext hb3⟩, KeepQ.of_below hb3 hPU2 (Nat.le_refl _)⟩
              (fun x a' U => ∃ B9, W3.heap.size ≤ B9 ∧ BoxA U B9 135 #[.int .i64 x.1.2.holder, .int .i64 x.1.2.hand, .bool x.1.2.office] ∧ a' = { tmps := (((f5.tmps.setIfInBounds 29 (.int .i64 x.1.1)).setIfInBounds 30 (stV x.1.2)).setIfInBounds 8 (.int .i64 x.1.1)).setIfInBounds 9 (.pointer (some ⟨B9, 0, none⟩)), defers := [] })
              (fun x a' _ X Y row hs hg hr => by obtain ⟨B9, g1, g3, g5⟩ := hs; exact ⟨B9, g1, ownW_box (β := Unit) _ B9 _ _ () X Y row g3 hg hr, g5⟩)
              ?assign3 ?body3 ?done3 ?stop3
            case assign3 =>
              subst hf5
              rintro l3 pre x U K hsz ⟨⟨c, hc, hI⟩, ⟨⟨q4, q5⟩, q6, q7⟩, hkq⟩ hK
              simp only [encS, stV]
              gi_wp2
              have hbU : Below U.heap.size U (U.alloc (.cells #[.int .i64 x.1.2.holder, .int .i64 x.1.2.hand, .bool x.1.2.office] 135)) := (Below.refl _ _).alloc (Nat.le_refl _) _
              have hUs := hI.2.2.2
              exact hK _ _ (KeepQ.of_below hbU (fun k hk => Nat.lt_of_lt_of_le (hPw3 k hk) hUs) (Nat.le_refl _)) ⟨⟨c, hc, sc_ext hJ hPV hI hbU⟩, ⟨⟨q4.ext hbU, q5.ext hbU⟩, q6.ext hbU, q7.ext hbU⟩, hkq.trans (KeepQ.of_below hbU (fun k hk => Nat.lt_of_lt_of_le (hPU2 k hk) hkq.size) (Nat.le_refl _))⟩ ⟨U.heap.size, hUs, BoxA.new U _ _, rfl⟩
            case body3 =>
              subst hf5
              rintro l3 pre3 x3 a' U3 hsz3 ⟨r3, hr3'⟩ ⟨⟨c3, hc3, hI3⟩, ⟨⟨q4, q5⟩, q6, q7⟩, hkq3⟩ ⟨B9, hB9, b9, rfl⟩ hlt3
              simp only [List.setIfInBounds_toArray, List.set_cons_zero, List.set_cons_succ]
              have hmem : (x1.1, x2.1, x3.1) ∈ scnL ((S (1, 0)).map (·.1)) ((S (2, 0)).map (·.1)) ((S (3, 0)).map (·.1)) day :=
                List.mem_flatMap.2 ⟨x1.1, x1.2, List.mem_flatMap.2 ⟨x2.1, x2.2, List.mem_map.2 ⟨x3.1, x3.2, rfl⟩⟩⟩
              have hlen : c3.length < (scnL ((S (1, 0)).map (·.1)) ((S (2, 0)).map (·.1)) ((S (3, 0)).map (·.1)) day).length := by
                have e1 : c3.length = pre1.length * ((stsL ((S (2, 0)).map (·.1)) day).length * (stsL ((S (3, 0)).map (·.1)) day).length) + pre2.length * (stsL ((S (3, 0)).map (·.1)) day).length + pre3.length := by
                  have := congrArg List.length hc3
                  rw [Nat.add_assoc]
                  simpa [scn1_len, scn2_len] using this
                rw [e1, ← scn1_all, scn1_len]
                exact scn_lt hlt1 hlt2 hlt3
              obtain ⟨fn, tmps, assign, body, hy, hR⟩ := hY 1 c3 ⟨_, hmem⟩ U3 hI3.1 hlen
              simp only [encC] at hy
              have y0 := hI3.2.2.1.cell 0
              have i4 := q4.cell 0
              have i6 := q6.cell 0
              have s50 := q5.cell 0
              have s51 := q5.cell 1
              have s52 := q5.cell 2
              have s70 := q7.cell 0
              have s71 := q7.cell 1
              have s72 := q7.cell 2
              have s90 := b9.cell 0
              have s91 := b9.cell 1
              have s92 := b9.cell 2
              gi_wp2
              refine (show RoundIn (Fence.wide.inRound l3) 1 Tryz.prog l fn tmps assign body U3 _ from hR).mono ?_
              clear hy hR
              have hm3 := hI3.2.2.2
              have hbW : W.heap.size + 1 ≤ W1.heap.size ∧ W1.heap.size ≤ U1.heap.size ∧ U1.heap.size + 2 = W2.heap.size ∧ W2.heap.size ≤ U2.heap.size ∧ U2.heap.size + 2 = W3.heap.size ∧ W3.heap.size ≤ U3.heap.size := by have := HS1.out; have := HSV.out; have := HSU1.out; have := HS2.out; have := HSU2.out; have := HS3.out; omega
              have hv0 : V0.heap.size = W.heap.size + 1 := HSV.out
              rintro e U4 (⟨rfl, hJ4, hq⟩ | ⟨rfl, hJx4, hq⟩)
              · gi_wp2
                exact ⟨hq.weak (by omega) (fun k hk => by rcases hk with h | h | h; exact .inl h; exact .inr (by omega); exact .inr (by omega)),
                  ⟨c3 ++ [⟨_, hmem⟩], by rw [List.map_append, hc3, List.map_append, List.map_append]; simp, hJ4, hI3.2.1.trans (hq.keepP fun k hk => .inl hk), hq.box hI3.2.2.1 (Nat.le_refl _), Nat.le_trans hm3 hq.size⟩,
                  ⟨⟨hq.box q4 (by omega), hq.box q5 (by omega)⟩, hq.box q6 (by omega), hq.box q7 (by omega)⟩,
                  hkq3.trans (hq.weak (by omega) (fun k hk => by rcases hk with h | h | h; exact .inl h; exact .inr (by omega); exact .inr (by omega)))⟩
              · gi_wp2
                exact ⟨hq.weak (by omega) (fun k hk => by rcases hk with h | h | h; exact .inl h; exact .inr (by omega); exact .inr (by omega)), ⟨_, hJx4⟩,
                  hkq3.trans (hq.weak (by omega) (fun k hk => by rcases hk with h | h | h; exact .inl h; exact .inr (by omega); exact .inr (by omega)))⟩
            case done3 =>
              subst hf5
              rintro ys U hys ⟨⟨c, hc, hI⟩, ⟨⟨q4, q5⟩, q6, q7⟩, hkq⟩
              have hbW : W1.heap.size ≤ U1.heap.size ∧ U1.heap.size + 2 = W2.heap.size ∧ W2.heap.size ≤ U2.heap.size := by have := HS1.out; have := HSV.out; have := HSU1.out; have := HS2.out; have := HSU2.out; have := HS3.out; omega
              gi_wp2
              exact ⟨hkq.weak (by omega) (fun k hk => by rcases hk with h | h | h; exact .inl (.inl h); exact .inr (by omega); exact .inr (by omega)),
                ⟨c, by rw [hc, hys, List.map_append, List.map_singleton, scn2_snoc, List.append_assoc], hI.up (by have := HS1.out; have := HSV.out; have := HSU1.out; have := HS2.out; have := HSU2.out; have := HS3.out; omega)⟩, ⟨q4, q5⟩, hkq2.trans hkq⟩
            case stop3 =>
              subst hf5
              rintro pre U ⟨⟨s, hs⟩, hkq⟩
              have hbW : W1.heap.size ≤ U1.heap.size ∧ U1.heap.size + 2 = W2.heap.size ∧ W2.heap.size ≤ U2.heap.size := by have := HS1.out; have := HSV.out; have := HSU1.out; have := HS2.out; have := HSU2.out; have := HS3.out; omega
              exact ⟨hkq.weak (by omega) (fun k hk => by rcases hk with h | h | h; exact .inl (.inl h); exact .inr (by omega); exact .inr (by omega)), ⟨s, hs⟩, hkq2.trans hkq⟩
        case done2 =>
          subst hf3
          rintro ys U hys ⟨⟨c, hc, hI⟩, ⟨q4, q5⟩, hkq⟩
          gi_wp2
          exact ⟨hkq, c, by rw [hc, hys, List.map_append, List.map_singleton, scn1_snoc], hI.up (by have := HSU1.out; have := HS2.out; omega)⟩
        case stop2 =>
          subst hf3
          rintro pre U ⟨⟨s, hs⟩, hkq⟩
          exact ⟨hkq, s, hs⟩
    case done =>
      subst hf1
      rintro ys U hys ⟨c, hc, hI⟩ hK
      gi_wp2
      refine ⟨by simp, .inl ⟨_, _, rfl, run_takeDeferred hK, ?_⟩⟩
      refine ⟨_, results_none rfl _ _ _, ⟨_, rfl⟩, .inl ⟨c, by rw [hc, hys]; rfl, OwnW.putObj hJ _ hI.1 (by have := HS1.out; have := HSV.out; omega) hK rfl rfl⟩⟩
    case stop =>
      subst hf1
      rintro pre U ⟨s, hs⟩ hK
      refine ⟨by simp, .inl ⟨_, _, rfl, run_takeDeferred hK, ?_⟩⟩
      refine ⟨_, results_none rfl _ _ _, ⟨_, rfl⟩, .inr ⟨s, OwnW.putObj hJx _ hs (by have := HS1.out; have := HSV.out; omega) hK rfl rfl⟩⟩

end Go.Proofs.YtaomfjgleddpdaaGreat
