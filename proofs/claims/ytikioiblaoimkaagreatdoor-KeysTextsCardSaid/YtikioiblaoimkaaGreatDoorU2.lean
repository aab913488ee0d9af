import Derived.RangeFuncNested
import Derived.RangeFuncBound
import Derived.RangeFuncCalls
import Derived.RangeFuncLeaves
set_option linter.unusedVariables false
set_option linter.unusedSimpArgs false

/- A range over a function whose rounds may panic. -/
namespace Go.Proofs.YtikioiblaoimkaaGreatDoor
open Go Go.RowKit

variable {F : Fence} {n : Nat} {P : Program}

def roundPostP (P : Program) (l : Nat) (R : Ending → World → Prop) : Exit → Act → World → Prop
  | .normal, _, w => ∃ v w', (Instr.endRound l none).run P w = .ok v w' ∧ R (.returned v) w'
  | .panic chain, a, w => a.defers = [] ∧ R (.panicked chain) w
  | _, _, _ => False

theorem roundIn_of_wpInP {l : Nat} {f : FuncId} {fn : Func} (hfn : P.funcs[f]? = some fn) {tmps : Array Value} {assign body : Code} {w : World} {R : Ending → World → Prop} (hF : F.fn f)
    (h : assign.wpIn (F.inRound l) n P (Exit.then (fun a₁ w₁ => ∃ w₂, (Instr.beginRound l).run P w₁ = .ok () w₂ ∧ body.wpIn (F.inRound l) n P (roundPostP P l R) a₁ w₂) (fun _ _ _ => False))
      { tmps := tmps, defers := [] } w) :
    RoundIn F n P l f tmps assign body w R := by
  refine ⟨hF, fun c cs hr => ?_⟩
  let b : Frame := { (default : Frame) with fn := f, kind := .normal, roundOf := some l }
  have hb0 : Frame.round l f tmps assign body .normal = b.atR { tmps := tmps, defers := [] } [.code assign, .beginRound, .code body] := by
    simp [Frame.round, Frame.atR, b]
  have hr' : (F.inRound l).room ((c :: cs).length + 1 + n) := hr
  have hF' : (F.inRound l).fn b.fn := hF
  obtain ⟨e, a₁, w₁, hq, harr⟩ := h b [.beginRound, .code body] (c :: cs) rfl hF' hr'
  rw [← hb0] at harr
  cases e with
  | normal =>
    obtain ⟨w₂, hbr, hbody⟩ := hq
    have s1 : StepsIn (Machine.fenced P (F.inRound l)) P (lone (b.atR a₁ [.beginRound, .code body]) (c :: cs) w₁) (lone (b.atR a₁ [.code body]) (c :: cs) w₂) :=
      .one (fenced_calm (fr := b.atR a₁ [.beginRound, .code body]) hF' hr' rfl) (stepR_beginRound rfl hbr)
    obtain ⟨e₂, a₂, w₃, hq₂, harr₂⟩ := hbody b [] (c :: cs) rfl hF' hr'
    cases e₂ with
    | normal =>
      obtain ⟨v, w₄, hend, hR⟩ := hq₂
      exact ⟨.returned v, w₄, hR, (StepsIn.trans harr s1).trans (StepsIn.trans harr₂ (.one (fenced_calm (fr := b.atR a₂ []) hF' hr' rfl) (stepR_round_end rfl rfl hend)))⟩
    | panic chain =>
      obtain ⟨hd, hR⟩ := hq₂
      obtain ⟨todo, hs⟩ := harr₂
      have hl : Frame.leaving P { b.atR a₂ todo with mode := .panicking chain } w₃ (.panicked chain) := ⟨rfl, hd, fn, hfn⟩
      exact ⟨.panicked chain, w₃, hR, (StepsIn.trans harr s1).trans (StepsIn.trans hs (.one (fenced_leaving (F := F.inRound l) hF' hr' hl) (step_leave_panicked hl)))⟩
    | ret => exact hq₂.elim
    | exit id => exact hq₂.elim
    | goto t => exact hq₂.elim
    | outgrown => exact hq₂.elim
  | exit id => exact hq.elim
  | goto t => exact hq.elim
  | ret => exact hq.elim
  | panic chain => exact hq.elim
  | outgrown => exact hq.elim

theorem room_wideP (k : Nat) : Fence.wide.room k := by simp [Fence.room, Fence.wide]
theorem round_anyP {l : Nat} {f : FuncId} {tmps : Array Value} {assign body : Code} {w : World} {R : Ending → World → Prop} (m : Nat) {m' : Nat} (h : RoundIn Fence.wide m P l f tmps assign body w R) : RoundIn Fence.wide m' P l f tmps assign body w R :=
  ⟨h.1, fun c cs _ => h.2 c cs (room_wideP _)⟩
/-! Code of one function's own activation. -/
def WpAt (f0 : FuncId) (n : Nat) (P : Program) (c : Code) (Q : Exit → Act → World → Prop) (a : Act) (w : World) : Prop :=
  ∀ (b : Frame) (k : List Item) (cs : List Frame), b.roundOf = none → b.fn = f0 → ∃ e a' w', Q e a' w' ∧ ArrivesIn (Machine.fenced P Fence.wide) P (lone (b.atR a (.code c :: k)) cs w) b k cs e a' w'
section
variable {f0 : FuncId} {Q : Exit → Act → World → Prop} {a : Act} {w : World}
theorem WpAt.seq {x y : Code} (h : ∀ K : Act → World → Prop, (∀ a w, WpAt f0 n P y Q a w → K a w) → x.wpIn Fence.wide n P (Exit.then K Q) a w) : WpAt f0 n P (.seq x y) Q a w := by
  intro b k cs hro hb
  obtain ⟨e, a1, w1, hq, harr⟩ := h _ (fun _ _ h => h) b (.code y :: k) cs hro trivial (room_wideP _)
  cases e with
  | normal =>
    obtain ⟨e2, a2, w2, hq2, harr2⟩ := hq b k cs hro hb
    exact ⟨e2, a2, w2, hq2, .of_steps (.head (fenced_wide P _) stepR_seq harr) harr2⟩
  | _ => exact ⟨_, a1, w1, hq, .of_steps (.one (fenced_wide P _) stepR_seq) (.pass (x := .code y) rfl (fun _ _ => .inl (by simp)) harr)⟩
theorem WpAt.seq2 {x y : Code} (h : ∀ K : Act → World → Prop, (∀ a w, y.wpIn Fence.wide n P Q a w → K a w) → WpAt f0 n P x (Exit.then K Q) a w) : WpAt f0 n P (.seq x y) Q a w := by
  intro b k cs hro hb
  obtain ⟨e, a1, w1, hq, harr⟩ := h _ (fun _ _ h => h) b (.code y :: k) cs hro hb
  cases e with
  | normal =>
    obtain ⟨e2, a2, w2, hq2, harr2⟩ := hq b k cs hro trivial (room_wideP _)
    exact ⟨e2, a2, w2, hq2, .of_steps (.head (fenced_wide P _) stepR_seq harr) harr2⟩
  | _ => exact ⟨_, a1, w1, hq, .of_steps (.one (fenced_wide P _) stepR_seq) (.pass (x := .code y) rfl (fun _ _ => .inl (by simp)) harr)⟩
/-- A block that is not left by a jump. -/
theorem WpAt.block {id : Nat} {c : Code} (h : WpAt f0 n P c (fun | .normal => Q .normal | .panic ch => Q (.panic ch) | .ret => Q .ret | _ => fun _ _ => False) a w) : WpAt f0 n P (.block id c) Q a w := by
  intro b k cs hro hb
  obtain ⟨e, a1, w1, hq, harr⟩ := h b (.inBlock id :: k) cs hro hb
  cases e with
  | normal => exact ⟨.normal, a1, w1, hq, .head (fenced_wide P _) stepR_block (StepsIn.trans harr (.one (fenced_wide P _) stepR_inBlock))⟩
  | panic ch => exact ⟨_, a1, w1, hq, .of_steps (.one (fenced_wide P _) stepR_block) harr⟩
  | ret => exact ⟨_, a1, w1, hq, .of_steps (.one (fenced_wide P _) stepR_block) harr⟩
  | exit _ => exact hq.elim
  | goto _ => exact hq.elim
  | outgrown => exact hq.elim
theorem WpAt.range {g : Operand} {ps : Array Tmp} {assign body : Code} {ff : Func} (hff : P.funcs[f0]? = some ff)
    (h : ∃ (l : Nat) (mark : List Deferred) (w1 : World) (d : Deferred) (w2 : World) (f : FuncId) (args : Array Value) (w3 : World), (Instr.enterLoop f0 a.tmps ps assign body none).run P w = .ok (l, mark) w1 ∧
      (resolve a.eval (rangeCall g l) 0).run P w1 = .ok d w2 ∧ (invoke d.target d.args).run P w2 = .ok (.enter f args) w3 ∧ CallsIn Fence.wide (n - 1) P f args w3 (rangePost Fence.wide n P l Q { a with defers := mark ++ a.defers })) :
    WpAt f0 n P (.rangeFunc g ps assign body) Q a w := by
  intro b k cs hro hb
  obtain ⟨l, mark, w1, d, w2, f, args, w3, he, hres, hinv, hcall⟩ := h
  rw [← hro, ← hb] at he
  have henter := stepR_rangeFunc (P := P) (b := b) (a := a) (k := k) (cs := cs) (w := w) he hres hinv
  obtain ⟨e, w4, fr, hR, hsteps, hfn, hleave⟩ := hcall.2 (b.atR { a with defers := mark ++ a.defers } (.inRangeFunc l :: k) :: cs) (room_wideP _)
  cases e with
  | outgrown =>
    obtain ⟨a0, w0, hq⟩ := hR
    exact ⟨.outgrown, a0, w0, hq, .inr (Outgrown.of_steps (.one henter) hsteps)⟩
  | returned v =>
    obtain ⟨jump, w5, hend, hj⟩ := hR
    have sback : StepsIn (Machine.fenced P Fence.wide) P (lone (b.atR a (.code (.rangeFunc g ps assign body) :: k)) cs w) (lone (b.atR { a with defers := mark ++ a.defers } ((jump.map Item.code).toList ++ k)) cs w5) := by
      refine .head (fenced_wide P _) henter (StepsIn.trans hsteps (.head (fenced_wide P _) ?_ (.one (fenced_wide P _) (stepR_endRangeFunc hend))))
      rw [← finish_atR_inRangeFunc l v]
      exact step_leave_returned hleave
    cases jump with
    | none => exact ⟨.normal, _, w5, hj, sback⟩
    | some c =>
      obtain ⟨e', a2, w6, hq, harr⟩ := hj b k cs hro trivial (room_wideP _)
      exact ⟨e', a2, w6, hq, .of_steps sback harr⟩
  | panicked chain =>
    refine ⟨.panic chain, _, w4, hR, .inRangeFunc l :: k, .head (fenced_wide P _) henter (StepsIn.trans hsteps (.one (fenced_wide P _) ?_))⟩
    rw [← Frame.raise_atR]
    exact step_leave_panicked hleave
/-- A function's contract. -/
theorem WpAt.calls {fn : Func} {c : Code} {args : Array Value} {R : Ending → World → Prop} (hf : P.funcs[f0]? = some fn) (hb : fn.body = some c)
    (h : WpAt f0 n P c (bodyPostM Fence.wide n P fn R) { tmps := args ++ Array.replicate (fn.ntmps - args.size) undef, defers := [] } w) : CallsIn Fence.wide n P f0 args w R := by
  refine ⟨trivial, fun cs hr => ?_⟩
  let b : Frame := { (default : Frame) with fn := f0, kind := .normal, roundOf := none }
  have henter : Frame.enter P f0 args .normal = b.atR { tmps := args ++ Array.replicate (fn.ntmps - args.size) undef, defers := [] } [.code c] := by
    simp [Frame.enter, Frame.atR, hf, hb, b]
  obtain ⟨e, a2, w2, hq, harr⟩ := h b [] cs rfl rfl
  rw [← henter] at harr
  cases e with
  | normal =>
    obtain ⟨e2, w3, fr, hR, hs, hfn, hl⟩ := leaves_stepsInM (F := Fence.wide) (n := n) a2.defers .returning w2 { b.atR a2 [] with mode := .returning } cs rfl rfl rfl hf rfl trivial (room_wideP _) hq
    exact ⟨e2, w3, fr, hR, ComesIn.of_steps (StepsIn.trans harr (.one (fenced_wide P _) (stepR_end rfl))) hs, hfn, hl⟩
  | ret =>
    obtain ⟨todo, hs0⟩ := harr.1 rfl
    obtain ⟨e2, w3, fr, hR, hs, hfn, hl⟩ := leaves_stepsInM (F := Fence.wide) (n := n) a2.defers .returning w2 { b.atR a2 todo with mode := .returning } cs rfl rfl rfl hf rfl trivial (room_wideP _) hq
    exact ⟨e2, w3, fr, hR, ComesIn.of_steps hs0 hs, hfn, hl⟩
  | panic chain =>
    obtain ⟨todo, hs0⟩ := harr
    obtain ⟨e2, w3, fr, hR, hs, hfn, hl⟩ := leaves_stepsInM (F := Fence.wide) (n := n) a2.defers (.panicking chain) w2 { b.atR a2 todo with mode := .panicking chain } cs rfl rfl rfl hf rfl trivial (room_wideP _) hq
    exact ⟨e2, w3, fr, hR, ComesIn.of_steps hs0 hs, hfn, hl⟩
  | exit id => exact hq.elim
  | goto l => exact hq.elim
  | outgrown => exact ⟨.outgrown, w2, b, hq, harr.resolve_left (by simp [b]), rfl, trivial⟩
end
/-- What abides new blocks, and the turn of a loop's record at or beyond B. -/
def OwnU {β : Type} (B : Nat) (I : β → World → Prop) : Prop :=
  (∀ s X Y, I s X → Below X.heap.size X Y → I s Y) ∧ (∀ s X k r o, I s X → B ≤ k → X.heap[k]? = some (.loop r) → I s (X.putObj k o))
/-- The blocks at or beyond B that are no rows of T's are as they were. -/
structure KeepT (T : TypeId) (B : Nat) (W W' : World) : Prop where
  size : W.heap.size ≤ W'.heap.size
  blk : ∀ k o, B ≤ k → W.heap[k]? = some o → (∀ cs fr, o ≠ .cells cs T fr) → W'.heap[k]? = some o
theorem KeepT.refl (T : TypeId) (B : Nat) (W : World) : KeepT T B W W := ⟨Nat.le_refl _, fun _ _ _ h _ => h⟩
theorem KeepT.trans {T : TypeId} {B : Nat} {W X Y : World} (h : KeepT T B W X) (g : KeepT T B X Y) : KeepT T B W Y := ⟨Nat.le_trans h.size g.size, fun k o hk ho ht => g.blk k o hk (h.blk k o hk ho ht) ht⟩
theorem KeepT.up {T : TypeId} {B C : Nat} {W X : World} (h : KeepT T B W X) (hB : B ≤ C) : KeepT T C W X := ⟨h.size, fun k o hk => h.blk k o (Nat.le_trans hB hk)⟩
theorem KeepT.of_below {T : TypeId} {B : Nat} {W X : World} (h : Below W.heap.size W X) : KeepT T B W X := ⟨h.size, fun k o _ ho _ => by
  have hlt : k < W.heap.size := (Array.getElem?_eq_some_iff.1 ho).1
  exact (h.block k hlt).trans ho⟩
theorem KeepT.putObj {T : TypeId} {B k : Nat} (W : World) (o : Obj) (h : k < B) : KeepT T B W (W.putObj k o) := ⟨by simp [World.putObj], fun j o' hj ho _ => (World.putObj_heap_other (by omega)).trans ho⟩

/-- How the body of a round may be left. -/
def postP {α : Type} (T : TypeId) (B : Nat) (I : List α → World → Prop) (Ip : List PanicEntry → List α → World → Prop) (xs : List α) (W : World) : Exit → Act → World → Prop
  | .normal, _, W' => KeepT T B W W' ∧ I xs W'
  | .panic ch, a, W' => a.defers = [] ∧ KeepT T B W W' ∧ Ip ch xs W'
  | _, _, _ => False

/-- The contract of an iterator whose rounds may panic. -/
def SeqP {α : Type} (P : Program) (g : Nat) (lb : Array Value) (encs : α → Array Value) (T : TypeId) (Mx : α → World → Prop) (Pp S : List α → Prop) (w : World) : Prop :=
  ∀ (l : Nat) (J : List α → World → Prop) (Jx : List PanicEntry → List α → World → Prop) (W : World), Below w.heap.size w W → (∀ s X Y, J s X → Below X.heap.size X Y → J s Y) →
    (∀ m pre x W1, J pre W1 → Pp (pre ++ [x]) → Mx x W1 → YieldAt Fence.wide m P l (encs x) W1 fun e W' =>
      (e = .returned (.bool true) ∧ J (pre ++ [x]) W' ∧ KeepT T W.heap.size W1 W') ∨ (∃ ch, e = .panicked ch ∧ Jx ch (pre ++ [x]) W')) →
    J [] W →
    CallsIn Fence.wide 8 P g (#[.func (.yield l) #[] #[]] ++ lb) W fun e W' => (∃ v xs, e = .returned v ∧ S xs ∧ J xs W') ∨ (∃ ch xs, e = .panicked ch ∧ Jx ch xs W')

theorem range_P {α : Type} {f0 : FuncId} {ff : Func} {n m : Nat} {g : Operand} {ps : Array Tmp} {assign body : Code} {Q : Exit → Act → World → Prop} {a : Act} {w : World} {gf : Nat} {lb : Array Value}
    (hg : a.eval g = .func (.func gf) #[] lb) (eg : ∀ args w, (callFunc gf args).run P w = .ok (.enter gf args) w)
    {encs : α → Array Value} {T : TypeId} {Mx : α → World → Prop} {Pp S : List α → Prop} (hseq : SeqP P gf lb encs T Mx Pp S w) (hps : ∀ x, (encs x).size = ps.size)
    (hff : P.funcs[f0]? = some ff)
    (I : List α → World → Prop) (Ip : List PanicEntry → List α → World → Prop) (hI : OwnU w.heap.size I) (h0 : I [] w) (Ax : α → Act → World → Prop) (hAx : ∀ x a', OwnU w.heap.size (fun (_ : Unit) W => Ax x a' W))
    (hM : ∀ x, OwnU w.heap.size (fun (_ : Unit) W => Mx x W))
    (hassign : ∀ (l : Nat) (pre : List α) (x : α) (W : World) (K : Act → World → Prop), w.heap.size + 2 ≤ W.heap.size → I pre W → Mx x W → (∀ a' W', Below W.heap.size W W' → Ax x a' W' → K a' W') →
      assign.wpIn (Fence.wide.inRound l) m P (Exit.then K (fun _ _ _ => False)) { tmps := (ps.zip (encs x)).foldl (fun t (p, v) => t.setIfInBounds p v) a.tmps, defers := [] } W)
    (hbody : ∀ (l : Nat) (pre : List α) (x : α) (a' : Act) (W : World), w.heap.size + 2 ≤ W.heap.size → (∃ r, W.heap[l]? = some (.loop r)) → I pre W → Mx x W → Ax x a' W → Pp (pre ++ [x]) → body.wpIn (Fence.wide.inRound l) m P (postP T w.heap.size I Ip (pre ++ [x]) W) a' W)
    (hdone : ∀ (xs : List α) (W : World), S xs → I xs W → W.heap[w.heap.size]? = some (.deferred (some [])) → Q .normal { a with defers := { target := .collected w.heap.size, args := #[] } :: a.defers } W)
    (hstop : ∀ (ch : List PanicEntry) (xs : List α) (W : World), Ip ch xs W → W.heap[w.heap.size]? = some (.deferred (some [])) → Q (.panic ch) { a with defers := { target := .collected w.heap.size, args := #[] } :: a.defers } W) :
    WpAt f0 n P (.rangeFunc g ps assign body) Q a w := by
  refine WpAt.range hff ?_
  obtain ⟨rc, hrc⟩ : ∃ rc : LoopState → Option Code → Loop, rc = fun st pe => { state := st, pending := pe, fn := f0, tmps := a.tmps, params := ps, assign, body, defers := w.heap.size } := ⟨_, rfl⟩
  obtain ⟨V, hV⟩ : ∃ V, (w.alloc (.deferred (some []))).alloc (.loop (rc .ready none)) = V := ⟨_, rfl⟩
  have hR : V.heap[w.heap.size + 1]? = some (.loop (rc .ready none)) := by
    rw [← hV]; have := World.alloc_heap_new (w.alloc (.deferred (some []))) (.loop (rc .ready none)); rwa [World.size_alloc] at this
  have hE : V.heap[w.heap.size]? = some (.deferred (some [])) := by
    rw [← hV]; exact (Below.heap_alloc _ _ _ (by simp)).trans (World.alloc_heap_new w _)
  have hVs : V.heap.size = w.heap.size + 2 := by rw [← hV]; simp
  have hbV : Below w.heap.size w V := by rw [← hV]; exact ((Below.refl _ w).alloc (Nat.le_refl _) _).alloc (by simp) _
  have hIV : I [] V := hI.1 _ _ _ h0 hbV
  have lt_of : ∀ {X : World} {k : Nat} {o : Obj}, X.heap[k]? = some o → k < X.heap.size := fun h => (Array.getElem?_eq_some_iff.1 h).1
  refine ⟨w.heap.size + 1, [{ target := .collected w.heap.size, args := #[] }], V, { target := .fn (.func gf) lb, args := #[.func (.yield (w.heap.size + 1)) #[] #[]] }, V, gf,
    #[.func (.yield (w.heap.size + 1)) #[] #[]] ++ lb, V, ?_, by simp only [resolve, hg]; simp [go_sem], by simp [invoke, go_sem, eg], ?_⟩
  · rw [← hV, hrc]; exact run_enterLoop_outer _ _ _ _ _
  refine (show CallsIn Fence.wide (n - 1) P gf (#[.func (.yield (w.heap.size + 1)) #[] #[]] ++ lb) V _ from callsIn_wide.2 (callsIn_wide.1 (hseq (w.heap.size + 1) (fun pre W => (I pre W ∧ w.heap.size + 2 ≤ W.heap.size) ∧ W.heap[w.heap.size + 1]? = some (.loop (rc .ready none)) ∧ W.heap[w.heap.size]? = some (.deferred (some [])))
    (fun ch xs W => Ip ch xs W ∧ W.heap[w.heap.size]? = some (.deferred (some []))) V hbV
    (fun s X Y hs hb => ⟨⟨hI.1 s X Y hs.1.1 hb, Nat.le_trans hs.1.2 hb.size⟩, (hb.block _ (lt_of hs.2.1)).trans hs.2.1, (hb.block _ (lt_of hs.2.2)).trans hs.2.2⟩)
    ?_ ⟨⟨hIV, by omega⟩, hR, hE⟩))).mono ?_
  · rintro m2 pre x W ⟨⟨hi, hsz⟩, hl, hd⟩ hpp hmx
    have hy := run_yield (P := P) (args := encs x) hl (by rw [hrc]; exact hps x)
    rw [hrc] at hy
    refine ⟨f0, _, assign, body, hy, ?_⟩
    refine round_anyP m (roundIn_of_wpInP hff trivial (hassign _ pre x W _ hsz hi hmx fun a' W' hb hax => ?_))
    have hl1 := (hb.block _ (lt_of hl)).trans hl
    have hd1 := (hb.block _ (lt_of hd)).trans hd
    refine ⟨_, run_beginRound hl1 (by rw [hrc]), ?_⟩
    have hl2 : (W'.putObj (w.heap.size + 1) (.loop { rc .ready none with state := .busy })).heap[w.heap.size + 1]? = some (.loop { rc .ready none with state := .busy }) := World.putObj_heap_same (lt_of hl1)
    have hd2 : (W'.putObj (w.heap.size + 1) (.loop { rc .ready none with state := .busy })).heap[w.heap.size]? = some (.deferred (some [])) := (World.putObj_heap_other (by omega)).trans hd1
    refine wpIn_mono (hbody _ pre x a' _ (by simp [World.putObj]; exact Nat.le_trans hsz hb.size) ⟨_, hl2⟩ (hI.2 _ _ _ _ _ (hI.1 _ _ _ hi hb) (by omega) hl1) ((hM x).2 () _ _ _ _ ((hM x).1 () _ _ hmx hb) (by omega) hl1) ((hAx x a').2 () _ _ _ _ hax (by omega) hl1) hpp) ?_
    rintro e a3 W3 hp
    cases e with
    | normal =>
      obtain ⟨hk3, hi3⟩ := hp
      have hl3 := hk3.blk _ _ (by omega) hl2 (fun cs fr e => by cases e)
      have hd3 := hk3.blk _ _ (Nat.le_refl _) hd2 (fun cs fr e => by cases e)
      refine ⟨_, _, run_endRound none hl3, .inl ⟨rfl, ⟨⟨hI.2 _ _ _ _ _ hi3 (by omega) hl3, ?_⟩, ?_, (World.putObj_heap_other (by omega)).trans hd3⟩, ?_⟩⟩
      · have := hb.size
        have := hk3.size
        simp [World.putObj] at this ⊢
        omega
      · have h := World.putObj_heap_same (o := .loop (rc .ready none)) (lt_of hl3)
        rw [hrc] at h ⊢
        exact h
      · exact (((KeepT.of_below hb).trans (KeepT.putObj _ _ (by omega))).trans (hk3.up (by omega))).trans (KeepT.putObj _ _ (by omega))
    | panic ch =>
      obtain ⟨h1, hk3, hi3⟩ := hp
      exact ⟨h1, .inr ⟨ch, rfl, hi3, hk3.blk _ _ (Nat.le_refl _) hd2 (fun cs fr e => by cases e)⟩⟩
    | ret => exact hp.elim
    | exit id => exact hp.elim
    | goto t => exact hp.elim
    | outgrown => exact hp.elim
  · rintro e W2 (⟨v, xs, rfl, hS, ⟨hi, _⟩, hl, hd⟩ | ⟨ch, xs, rfl, hi, hd⟩)
    · refine ⟨none, _, by have h := run_endLoop (P := P) hl (by rw [hrc]; simp); rw [hrc] at h; exact h, hdone xs _ hS (hI.2 _ _ _ _ _ hi (by omega) hl) ((World.putObj_heap_other (by omega)).trans hd)⟩
    · exact hstop ch xs _ hi hd
end Go.Proofs.YtikioiblaoimkaaGreatDoor
