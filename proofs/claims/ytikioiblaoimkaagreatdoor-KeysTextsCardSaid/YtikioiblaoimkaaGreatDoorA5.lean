import Derived.Test.YtikioiblaoimkaaGreatDoorA4
import Derived.RangeFuncNested
import Derived.RangeFuncBound
import Derived.RangeFuncCalls
import Derived.RangeFuncLeaves
import Derived.Shelf.Abstract
import Derived.Shelf.RegionOpen
import Derived.OwnWalkIn
import Derived.TacticsInMore
import Derived.LoopNIn
import Derived.LoopIn
set_option linter.unusedVariables false
set_option linter.unusedSimpArgs false

/- The iterator over a thread's states. -/
namespace Go.Proofs.YtikioiblaoimkaaGreatDoor
open Go.RowKit Go.Shelf Go.Maps
attribute [local go_sem] Oper.semAt_some

/-- What a round keeps: the blocks of P. -/
structure KeepP (P : Nat → Prop) (W W' : World) : Prop where
  size : W.heap.size ≤ W'.heap.size
  blk : ∀ k, P k → W'.heap[k]? = W.heap[k]?
section
variable {P : Nat → Prop} {W W' : World}
theorem KeepP.refl (P : Nat → Prop) (W : World) : KeepP P W W := ⟨Nat.le_refl _, fun _ _ => rfl⟩
theorem KeepP.trans {X Y Z : World} (h : KeepP P X Y) (k : KeepP P Y Z) : KeepP P X Z := ⟨Nat.le_trans h.size k.size, fun i hi => (k.blk i hi).trans (h.blk i hi)⟩
theorem KeepP.cell (h : KeepP P W W') {b : Nat} (hb : P b) (o : Nat) : W'.cell? ⟨b, o, none⟩ = W.cell? ⟨b, o, none⟩ := by simp only [World.cell?, h.blk b hb]
theorem KeepP.of_below {B : Nat} (h : Below B W W') (hP : ∀ k, P k → k < B) : KeepP P W W' := ⟨h.size, fun k hk => h.block k (hP k hk)⟩
theorem KeepP.of_grown {row : Option Nat} (hg : W.grownBy W' row) (hP : ∀ k, P k → k < W.heap.size ∧ row ≠ some k) : KeepP P W W' := ⟨hg.size, fun k hk => hg.block k (hP k hk).1 fun e => (hP k hk).2 e.symm⟩
theorem KeepP.drew (W : World) : KeepP P W W.drew := ⟨Nat.le_refl _, fun _ _ => rfl⟩
theorem KeepP.setCell {a : Addr} (W : World) (v : Value) (h : ¬ P a.block) : KeepP P W (W.setCell a v) :=
  ⟨by simp, fun k hk => Below.heap_setCell _ _ _ _ fun e => h (e ▸ hk)⟩
theorem keepP_b {w : World} (hP : ∀ k, P k → k < w.heap.size) : ∀ (W : World) (l : Nat) (o o' : Obj), w.heap.size ≤ l → W.heap[l]? = some o → o.isCells = false → o.isWalk = false → KeepP P W (W.putObj l o') := fun W l o o' hl _ _ _ =>
  ⟨by simp, fun k hk => World.putObj_heap_other (by have := hP k hk; omega)⟩
end
theorem keepP_t {P : Nat → Prop} : ∀ {A B C : World}, KeepP P A B → KeepP P B C → KeepP P A C := fun h k => h.trans k
theorem grown_of_below {W W' : World} (h : Below W.heap.size W W') : W.grownBy W' none := ⟨h.os, h.tape, h.output, h.size, fun k hk _ => h.block k hk⟩

/-- A state that is yielded: one of the thread's on that day. -/
abbrev YS (T : List Deed) (day : Int) := { x : Nat × St // x ∈ stsL T day }
def encS {T : List Deed} {day : Int} (x : YS T day) : Array Value := #[.int .i64 x.1.1, stV x.1.2]

def upS (T : List Deed) (day : Int) (k : Nat) : List (Nat × St) := ((List.range k).filter fun k => mayB T k day).map fun k => (k, stN (aftL T) k)
theorem upS_all (T : List Deed) (day : Int) : upS T day (T.length + 1) = stsL T day := rfl
theorem upS_in {T : List Deed} {day : Int} {k : Nat} (h : mayB T k day = true) : upS T day (k + 1) = upS T day k ++ [(k, stN (aftL T) k)] := by
  unfold upS
  rw [List.range_succ, List.filter_append, List.map_append]
  simp [h]
theorem upS_out {T : List Deed} {day : Int} {k : Nat} (h : mayB T k day = false) : upS T day (k + 1) = upS T day k := by
  unfold upS
  rw [List.range_succ, List.filter_append, List.map_append]
  simp [h]
theorem upS_pre {T : List Deed} {day : Int} {k n : Nat} (h : k ≤ n) : upS T day k <+: upS T day n := by
  induction h with
  | refl => exact List.prefix_refl _
  | step _ ih =>
    refine ih.trans ?_
    cases hm : mayB T _ day with
    | true => rw [upS_in hm]; exact List.prefix_append _ _
    | false => rw [upS_out hm]; exact List.prefix_refl _

set_option maxRecDepth 100000 in
set_option maxHeartbeats 2000000 in
/-- For whatever loop body. -/
theorem states_in (n : Nat) (hn : 1 ≤ n) (l bt bd lo B : Nat) (P : Nat → Prop) (T : TL) (day : Int) (Ad Ai As : Option Addr) (cd ci cs : Nat) (J Jx : List (YS (T.map (·.1)) day) → World → Prop)
    (hTn : T.length ≤ 1000) (W : World) (hJ : AbidesFrom W.heap.size J) (hJx : AbidesFrom W.heap.size Jx)
    (hY : ∀ pre x W1, J pre W1 → pre.length < (stsL (T.map (·.1)) day).length → YieldAt Fence.wide (n - 1) Tryz.prog l (encS x) W1 fun e W' =>
      (e = .returned (.bool true) ∧ J (pre ++ [x]) W' ∧ KeepP P W1 W') ∨ (e = .returned (.bool false) ∧ Jx (pre ++ [x]) W'))
    (hPl : ∀ k, lo ≤ k → k < B → P k) (hPt : P bt) (hPd : P bd) (hPw : ∀ k, P k → k < W.heap.size) (hB : B ≤ W.heap.size)
    (c0 : W.cell? ⟨bt, 0, none⟩ = some (.slice Ad T.length cd)) (c1 : W.cell? ⟨bt, 1, none⟩ = some (.slice Ai T.length ci)) (c2 : W.cell? ⟨bt, 2, none⟩ = some (.slice As T.length cs)) (c3 : W.cell? ⟨bd, 0, none⟩ = some (.int .i64 day))
    (hT : ThrAt W lo B T Ad Ai As cd ci cs) (h0 : J [] W) :
    CallsIn Fence.wide n Tryz.prog 95 #[.func (.yield l) #[] #[], .pointer (some ⟨bt, 0, none⟩), .pointer (some ⟨bd, 0, none⟩)] W fun e W' => (∃ v, e = .returned v) ∧
      ((∃ ys, ys.map (·.1) = stsL (T.map (·.1)) day ∧ J ys W') ∨ (∃ pre, pre.map (·.1) <+: stsL (T.map (·.1)) day ∧ Jx pre W')) := by
  have hlen : (T.map (·.1)).length = T.length := List.length_map ..
  refine callsIn_of_wp Tryz.func95 rfl trivial ?_ rfl
  simp only [Tryz.ntmps95, List.size_toArray, List.length_cons, List.length_nil, Nat.reduceAdd, Nat.reduceSub, Array.replicate_succ, Array.replicate_zero, List.push_toArray, List.append_toArray, List.nil_append, List.cons_append]
  gi_wp2
  gi_loopw [9] (fun i wr => ∃ k : Nat, k ≤ T.length + 1 ∧ i = .int .i64 k ∧ KeepP P W wr ∧ ∃ pre, pre.map (·.1) = upS (T.map (·.1)) day k ∧ J pre wr) (fun i _ => (T.length + 1) - (intOf i).toNat)
  case atStart => exact ⟨0, by omega, rfl, KeepP.refl _ _, [], rfl, h0⟩
  case round =>
    obtain ⟨k, hk, rfl, hKp, pre, hpre, hJs⟩ := hrel
    have e0 := (hKp.cell hPt 0).trans c0
    have e1 := (hKp.cell hPt 1).trans c1
    have e2 := (hKp.cell hPt 2).trans c2
    have e3 := (hKp.cell hPd 0).trans c3
    have hT' : ThrAt wr lo wr.heap.size T Ad Ai As cd ci cs := (hT.keep fun k h1 h2 => hKp.blk k (hPl k h1 h2)).more (Nat.le_trans hB hKp.size)
    have hsz : W.heap.size ≤ wr.heap.size := hKp.size
    have HT := Lib.hid hT'
    have HP := Lib.hid hpre
    have HL := Lib.hid hlen
    clear hT' hpre hlen hT
    have hbt' : bt < wr.heap.size := Nat.lt_of_lt_of_le (hPw _ hPt) hsz
    have hbd' : bd < wr.heap.size := Nat.lt_of_lt_of_le (hPw _ hPd) hsz
    have hPr : ∀ k, P k → k < wr.heap.size := fun k hk => Nat.lt_of_lt_of_le (hPw _ hk) hsz
    by_cases hlt : k < T.length + 1
    · cases hm : mayB (T.map (·.1)) k day with
      | false =>
        have HM := Lib.hid hm
        clear hm
        have hmay := p_may (T.map (·.1)) k day Ad Ai As T.length cd T.length ci T.length cs wr (by omega) (by omega) HT.out.cd HT.out.d
        rw [HM.out] at hmay
        gi_wp2_with (refine ⟨trivial, ?_⟩; gi_at_call 96; refine (callsIn_wide.2 hmay).mono ?_; clear hmay; rintro e w1 ⟨rfl, hb1⟩)
        refine ⟨trivial, ?_⟩
        gi_wp2
        refine ⟨fun _ h => (by cases h), ?_⟩
        gi_wp2
        exact ⟨⟨k + 1, by omega, by go_num, hKp.trans (KeepP.of_below hb1 hPr), pre, by rw [upS_out HM.out]; exact HP.out, hJ _ _ _ none hJs (grown_of_below hb1) (by simp)⟩, by simp [intOf]; omega⟩
      | true =>
        have HM := Lib.hid hm
        clear hm
        have hmay := p_may (T.map (·.1)) k day Ad Ai As T.length cd T.length ci T.length cs wr (by omega) (by omega) HT.out.cd HT.out.d
        rw [HM.out] at hmay
        gi_wp2_with (first
          | (refine ⟨trivial, ?_⟩; gi_at_call 96; refine (callsIn_wide.2 hmay).mono ?_; clear hmay; rintro e w1 ⟨rfl, hb1⟩; obtain ⟨hc1, hf1⟩ := bcell hb1; have hs1 := hb1.size)
          | (refine ⟨trivial, ?_⟩; gi_at_call 90; refine (callsIn_wide.2 (p_state (aftL (T.map (·.1))) k Ad Ai As T.length cd T.length ci T.length cs w1 (by omega) (by omega) (HT.out.s.now hb1))).mono ?_; rintro e w2 ⟨rfl, hb2⟩))
        have hx : (k, stN (aftL (T.map (·.1))) k) ∈ stsL (T.map (·.1)) day := mem_sts.2 ⟨k, by rw [HL.out]; omega, HM.out, by rw [stN_run _ (by rw [HL.out]; omega)]⟩
        have hJ2 : J pre w2 := hJ _ _ _ none (hJ _ _ _ none hJs (grown_of_below hb1) (by simp)) (grown_of_below hb2) (by simp)
        have hpl : pre.length < (stsL (T.map (·.1)) day).length := by
          have h1 : pre.length = (upS (T.map (·.1)) day k).length := by rw [← HP.out, List.length_map]
          have h2 := (upS_pre (T := T.map (·.1)) (day := day) (k := k + 1) (n := T.length + 1) (by omega)).length_le
          rw [upS_in HM.out, List.length_append, ← HL.out, upS_all] at h2
          simp at h2
          omega
        obtain ⟨fn, tmps, assign, body, hy, hR⟩ := hY pre ⟨_, hx⟩ w2 hJ2 hpl
        simp only [encS, stV] at hy
        rw [hy]
        simp only [Oper.uponIn]
        refine ⟨fun _ => hn, ?_⟩
        refine hR.mono ?_
        rintro e w3 (⟨rfl, hJ3, hk3⟩ | ⟨rfl, hJx3⟩)
        · gi_wp2
          exact ⟨⟨k + 1, by omega, by go_num, hKp.trans ((KeepP.of_below hb1 hPr).trans ((KeepP.of_below hb2 fun k hk => Nat.lt_of_lt_of_le (hPr k hk) hs1).trans hk3)), pre ++ [⟨_, hx⟩], by rw [upS_in HM.out, List.map_append, HP.out]; rfl, hJ3⟩, by simp [intOf]; omega⟩
        · gi_wp2
          refine bodyPost_ret (results_none rfl _ _ _) rfl ?_
          refine ⟨⟨_, rfl⟩, .inr ⟨pre ++ [⟨_, hx⟩], ?_, hJx3⟩⟩
          have h2 := upS_pre (T := T.map (·.1)) (day := day) (k := k + 1) (n := T.length + 1) (by omega)
          rw [upS_in HM.out, ← HP.out] at h2
          rw [← HL.out, upS_all] at h2
          rw [List.map_append]
          exact h2
    · obtain rfl : k = T.length + 1 := by omega
      gi_wp2
      go_end0
      refine ⟨⟨_, rfl⟩, .inl ⟨pre, ?_, hJs⟩⟩
      rw [HP.out, ← HL.out, upS_all]

/-- The iterator's contract: all of the thread's states on that day, or some of the first, where a round has said 'no more'. -/
theorem states_stops (n : Nat) (hn : 1 ≤ n) (bt bd lo B : Nat) (P : Nat → Prop) (T : TL) (day : Int) (Ad Ai As : Option Addr) (cd ci cs : Nat) (w : World) (hTn : T.length ≤ 1000)
    (hPl : ∀ k, lo ≤ k → k < B → P k) (hPt : P bt) (hPd : P bd) (hPw : ∀ k, P k → k < w.heap.size) (hB : B ≤ w.heap.size)
    (c0 : w.cell? ⟨bt, 0, none⟩ = some (.slice Ad T.length cd)) (c1 : w.cell? ⟨bt, 1, none⟩ = some (.slice Ai T.length ci)) (c2 : w.cell? ⟨bt, 2, none⟩ = some (.slice As T.length cs)) (c3 : w.cell? ⟨bd, 0, none⟩ = some (.int .i64 day))
    (hT : ThrAt w lo B T Ad Ai As cd ci cs) :
    SeqStopsK Fence.wide n Tryz.prog 95 #[.pointer (some ⟨bt, 0, none⟩), .pointer (some ⟨bd, 0, none⟩)] (encS (T := T.map (·.1)) (day := day)) (KeepP P) (fun ys => ys.map (·.1) = stsL (T.map (·.1)) day) (fun pre => pre.map (·.1) <+: stsL (T.map (·.1)) day) (stsL (T.map (·.1)) day).length w := fun l J Jx W hW hJ hJx hY h0 =>
  states_in n hn l bt bd lo B P T day Ad Ai As cd ci cs J Jx hTn W hJ hJx hY hPl hPt hPd (fun k hk => Nat.lt_of_lt_of_le (hPw k hk) hW.size) (Nat.le_trans hB hW.size)
    ((hW.cell (p := ⟨bt, 0, none⟩) (hPw _ hPt)).trans c0) ((hW.cell (p := ⟨bt, 1, none⟩) (hPw _ hPt)).trans c1) ((hW.cell (p := ⟨bt, 2, none⟩) (hPw _ hPt)).trans c2) ((hW.cell (p := ⟨bd, 0, none⟩) (hPw _ hPd)).trans c3) (hT.below (hW.mono hB)) h0

end Go.Proofs.YtikioiblaoimkaaGreatDoor

/- ask. -/
namespace Go.Proofs.YtikioiblaoimkaaGreatDoor
open Go.RowKit Go.Shelf Go.Maps
attribute [local go_sem] Oper.semAt_some

/-- A block of the call's own holds these cells. -/
def BoxA (W : World) (B : Nat) (t : TypeId) (cs : Array Value) : Prop := W.heap[B]? = some (.cells cs t (0, 0))
section
variable {W W' : World} {B : Nat} {t : TypeId} {cs : Array Value}
theorem BoxA.lt (h : BoxA W B t cs) : B < W.heap.size := (Array.getElem?_eq_some_iff.1 h).1
theorem BoxA.cell (h : BoxA W B t cs) (o : Nat) : W.cell? ⟨B, o, none⟩ = cs[o]? := by simp [World.cell?, show W.heap[B]? = _ from h]
theorem BoxA.new (W : World) (t : TypeId) (cs : Array Value) : BoxA (W.alloc (.cells cs t)) W.heap.size t cs := World.alloc_heap_new W _
theorem BoxA.kept {row : Option Nat} (h : BoxA W B t cs) (hg : W.grownBy W' row) (hne : some B ≠ row) : BoxA W' B t cs := (hg.block B h.lt hne).trans h
theorem BoxA.alloc (h : BoxA W B t cs) (o : Obj) : BoxA (W.alloc o) B t cs := h.kept (World.grownBy_alloc W o none) (by simp)
theorem BoxA.ext (h : BoxA W B t cs) (hb : Below W.heap.size W W') : BoxA W' B t cs := (hb.block B h.lt).trans h
theorem boxed_ext {v : Value} (h : Boxed W B t v) (hb : Below W.heap.size W W') : Boxed W' B t v := (hb.block B h.lt).trans h
end
theorem boxa_own {β : Type} (B : Nat) (t : TypeId) (f : β → Array Value) : Own (fun s W => BoxA W B t (f s)) := fun s X Y row hs hg hrow =>
  hs.kept hg (fun e' => by obtain ⟨o, ho, hc⟩ := hrow B e'.symm; rw [show X.heap[B]? = _ from hs] at ho; cases ho; cases hc)
theorem wpIn_named {F : Fence} {n : Nat} {P : Program} {c : Code} {Q : Exit → Act → World → Prop} {a : Act} {w : World} (h : ∀ W, w = W → c.wpIn F n P Q a W) : c.wpIn F n P Q a w := h w rfl
theorem alloc_get (w : World) (o : Obj) (k : Nat) : (w.alloc o).heap[k]? = if k = w.heap.size then some o else w.heap[k]? := by
  show (w.heap.push o)[k]? = _
  rw [Array.getElem?_push]
theorem drew_heap (w : World) : w.drew.heap = w.heap := rfl
theorem boxed_iff {W : World} {B : Nat} {t : TypeId} {v : Value} : Boxed W B t v ↔ W.heap[B]? = some (.cells #[v] t (0, 0)) := Iff.rfl
theorem boxa_iff {W : World} {B : Nat} {t : TypeId} {cs : Array Value} : BoxA W B t cs ↔ W.heap[B]? = some (.cells cs t (0, 0)) := Iff.rfl

theorem keeps_of_below {W W' : World} (h : Below W.heap.size W W') : KeepsOthers W W' := ⟨h.size, fun k _ hk _ => (h.block k (Array.getElem?_eq_some_iff.1 hk).1).trans hk⟩
theorem ownFrom_size {β : Type} (B n : Nat) : OwnFrom B (fun (_ : β) W => n ≤ W.heap.size) := fun _ _ _ _ hs hg _ => Nat.le_trans hs hg.size
theorem any_snoc {α : Type} (l : List α) (x : α) (p : α → Bool) : (l ++ [x]).any p = (l.any p || p x) := by simp

/-- A function of a state that answers p, and makes memory of its own alone. -/
def Tells (gf : Nat) (lb : Array Value) (p : St → Bool) (w : World) : Prop :=
  (∀ args w', (callFunc gf args).run Tryz.prog w' = .ok (.enter gf args) w') ∧ ∀ s W, Below w.heap.size w W → Calls Tryz.prog gf (#[stV s] ++ lb) W fun e w' => e = .returned (.bool (p s)) ∧ Below W.heap.size W w'

def askI (T : List Deed) (day : Int) (p : St → Bool) : Int := ansI ((stsL T day).any fun x => p x.2) ((stsL T day).any fun x => !p x.2)

theorem any_of {T : List Deed} {day : Int} {ys : List (YS T day)} (h : ys.map (·.1) = stsL T day) (q : St → Bool) : (ys.any fun x => q x.1.2) = (stsL T day).any fun x => q x.2 := by
  have := congrArg (fun l => l.any fun x => q x.2) h
  simp only [List.any_map] at this
  exact this

set_option maxRecDepth 100000 in
set_option maxHeartbeats 4000000 in
theorem p_ask (T : TL) (day : Int) (gf : Nat) (lb : Array Value) (p : St → Bool) (Ad Ai As : Option Addr) (cd ci cs : Nat) (w : World) (hTn : T.length ≤ 1000) (hT : ThrAt w 0 w.heap.size T Ad Ai As cd ci cs) (hp : Tells gf lb p w) :
    Calls Tryz.prog 63 #[.agg #[.slice Ad T.length cd, .slice Ai T.length ci, .slice As T.length cs], .int .i64 day, .func (.func gf) #[] lb] w fun e w' => e = .returned (.int .i64 (askI (T.map (·.1)) day p)) ∧ Below w.heap.size w w' := by
  refine (callsIn_wide (n := 9)).1 ?_
  have h1 : 1 ≤ 9 := by omega
  refine callsIn_of_wp_marks Tryz.func63 rfl trivial ?_ rfl
  simp only [Tryz.ntmps63, List.size_toArray, List.length_cons, List.length_nil, Nat.reduceAdd, Nat.reduceSub, Array.replicate_succ, Array.replicate_zero, List.push_toArray, List.append_toArray, List.nil_append, List.cons_append]
  have HT := Lib.hid hT
  have HP := Lib.hid hp
  clear hT hp
  gi_wp2_with (refine ⟨trivial, ?_⟩; gi_at_call 59; refine (callsIn_wide.2 (p_states day _ _ _ _)).mono ?_; rintro e w1 ⟨rfl, hw1⟩)
  refine wpIn_named fun W0 hW0 => ?_
  have hsz : W0.heap.size = w.heap.size + 6 := by subst hW0; simp
  have hB0 : Below w.heap.size w W0 := by subst hW0; (repeat' (first | with_reducible exact Below.refl _ _ | with_reducible assumption | with_reducible refine Below.alloc ?_ ?_ _ | with_reducible refine Below.setCell ?_ ?_ _ | with_reducible refine Below.drew ?_ | (simp; done) | (simp; omega) | omega))
  have bI : BoxA W0 (w.heap.size + 1) 117 #[.func (.func gf) #[] lb] := by (rw [← hW0]; simp only [boxed_iff, boxa_iff, alloc_get, drew_heap, World.size_alloc]; (repeat (first | rw [if_pos trivial] | rw [if_pos (by omega)] | rw [if_neg (by omega)])))
  have bC : Boxed W0 (w.heap.size + 1 + 1) 4 (.bool false) := by (rw [← hW0]; simp only [boxed_iff, boxa_iff, alloc_get, drew_heap, World.size_alloc]; (repeat (first | rw [if_pos trivial] | rw [if_pos (by omega)] | rw [if_neg (by omega)])))
  have bN : Boxed W0 (w.heap.size + 1 + 1 + 1) 4 (.bool false) := by (rw [← hW0]; simp only [boxed_iff, boxa_iff, alloc_get, drew_heap, World.size_alloc]; (repeat (first | rw [if_pos trivial] | rw [if_pos (by omega)] | rw [if_neg (by omega)])))
  have bT : BoxA W0 (w.heap.size + 1 + 1 + 1 + 1) 98 #[.slice Ad T.length cd, .slice Ai T.length ci, .slice As T.length cs] := by (rw [← hW0]; simp only [boxed_iff, boxa_iff, alloc_get, drew_heap, World.size_alloc]; (repeat (first | rw [if_pos trivial] | rw [if_pos (by omega)] | rw [if_neg (by omega)])))
  have bD : BoxA W0 (w.heap.size + 1 + 1 + 1 + 1 + 1) 3 #[.int .i64 day] := by (rw [← hW0]; simp only [boxed_iff, boxa_iff, alloc_get, drew_heap, World.size_alloc]; (repeat (first | rw [if_pos trivial] | rw [if_pos (by omega)] | rw [if_neg (by omega)])))
  clear hW0
  have heg := HP.out.1
  have hPw : ∀ k, k < w.heap.size ∨ k = w.heap.size + 1 + 1 + 1 + 1 ∨ k = w.heap.size + 1 + 1 + 1 + 1 + 1 → k < W0.heap.size := fun k hk => by omega
  refine wpIn_rangeFunc_ownH rfl h1 (gf := 95) (lb := #[.pointer (some ⟨w.heap.size + 1 + 1 + 1 + 1, 0, none⟩), .pointer (some ⟨w.heap.size + 1 + 1 + 1 + 1 + 1, 0, none⟩)]) rfl trivial (enters_of Tryz.func95 (by kernel_rfl) rfl)
    (states_stops 8 (by omega) (w.heap.size + 1 + 1 + 1 + 1) (w.heap.size + 1 + 1 + 1 + 1 + 1) 0 w.heap.size (fun k => k < w.heap.size ∨ k = w.heap.size + 1 + 1 + 1 + 1 ∨ k = w.heap.size + 1 + 1 + 1 + 1 + 1) T day Ad Ai As cd ci cs W0 hTn (fun k _ hk => .inl hk) (.inr (.inl rfl)) (.inr (.inr rfl)) hPw (by omega) (bT.cell 0) (bT.cell 1) (bT.cell 2) (bD.cell 0) (HT.out.below hB0))
    keepP_t (keepP_b hPw) (Below.refl _ _) (fun _ => rfl)
    (fun pre W => ((Boxed W (w.heap.size + 1 + 1) 4 (.bool (pre.any fun x => p x.1.2)) ∧ Boxed W (w.heap.size + 1 + 1 + 1) 4 (.bool (pre.any fun x => !p x.1.2))) ∧ BoxA W (w.heap.size + 1) 117 #[.func (.func gf) #[] lb]) ∧ (Below w.heap.size w W ∧ w.heap.size + 6 ≤ W.heap.size))
    (fun _ _ _ => False)
    (OwnFrom.and (OwnFrom.and (OwnFrom.and (Own.from (boxed_own _ _ _) _) (Own.from (boxed_own _ _ _) _)) (Own.from (boxa_own _ _ _) _)) (OwnFrom.and (ownFrom_below (Nat.le_refl _) (by omega)) (ownFrom_size _ _)))
    (fun _ _ _ _ _ hs _ _ => hs)
    ⟨⟨⟨bC, bN⟩, bI⟩, hB0, by omega⟩
    (fun x a' W => ∃ Bx, w.heap.size + 1 + 1 + 1 < Bx ∧ BoxA W Bx 89 #[.int .i64 x.1.2.holder, .int .i64 x.1.2.hand, .bool x.1.2.office] ∧ a' = { tmps := #[.agg #[.slice Ad T.length cd, .slice Ai T.length ci, .slice As T.length cs], .int .i64 day, .func (.func gf) #[] lb, .pointer (some ⟨w.heap.size, 0, none⟩), undef, .pointer (some ⟨w.heap.size + 1, 0, none⟩), .int .i64 0, .pointer (some ⟨w.heap.size + 1 + 1, 0, none⟩), .pointer (some ⟨w.heap.size + 1 + 1 + 1, 0, none⟩), undef, .pointer (some ⟨Bx, 0, none⟩), .agg #[.slice Ad T.length cd, .slice Ai T.length ci, .slice As T.length cs], .int .i64 day, .func (.func 95) #[] #[.pointer (some ⟨w.heap.size + 1 + 1 + 1 + 1, 0, none⟩), .pointer (some ⟨w.heap.size + 1 + 1 + 1 + 1 + 1, 0, none⟩)], .int .i64 x.1.1, stV x.1.2, undef, undef, undef, undef, undef, undef], defers := [] })
    (fun x a' _ X Y row hs hg hr => by obtain ⟨Bx, g1, g2, g3⟩ := hs; exact ⟨Bx, g1, boxa_own Bx _ (fun (_ : Unit) => _) () X Y row g2 hg (fun r e => (hr r e).2), g3⟩)
    ?assign ?body ?done ?stop
  case assign =>
    rintro l pre x W K ⟨⟨⟨bC1, bN1⟩, bI1⟩, hB1, hs6⟩ hK
    simp only [encS, stV]
    gi_wp2
    exact hK _ _ ((KeepsOthers.alloc _ _).from _) (KeepP.of_below (B := W.heap.size) (by (repeat' (first | with_reducible exact Below.refl _ _ | with_reducible assumption | with_reducible refine Below.alloc ?_ ?_ _ | with_reducible refine Below.setCell ?_ ?_ _ | with_reducible refine Below.drew ?_ | (simp; done) | (simp; omega) | omega))) fun k hk => by omega) ⟨⟨⟨bC1.alloc _, bN1.alloc _⟩, bI1.alloc _⟩, hB1.alloc hB1.size _, by simp; omega⟩ ⟨W.heap.size, bN1.lt, BoxA.new W _ _, rfl⟩
  case body =>
    rintro l pre x a' W hl ⟨r, hr⟩ ⟨⟨⟨bC1, bN1⟩, bI1⟩, hB1, hs6⟩ ⟨Bx, hBx, bX, rfl⟩ hlt
    have i0 := bI1.cell 0
    have x0 := bX.cell 0
    have x1 := bX.cell 1
    have x2 := bX.cell 2
    have hsW := hB1.size
    cases hpx : p x.1.2 with
    | true =>
      have HX := Lib.hid hpx
      have hcall := HP.out.2 x.1.2 W hB1
      rw [hpx] at hcall
      clear hpx
      gi_wp2_with (refine ⟨trivial, ?_⟩; refine (CallsIn.inRound l (callsIn_wide.2 hcall)).mono ?_; clear hcall; rintro e w1 ⟨rfl, hb1⟩; have bC2 := boxed_ext bC1 hb1; have cC := bC2.cell; have fC := bC2.frozen)
      have hs1 := hb1.size
      exact ⟨((keeps_of_below hb1).trans (KeepsOthers.setCell _ _ _)).from _, (KeepP.of_below hb1 fun k hk => by omega).trans (KeepP.setCell _ _ (by simp only; omega)),
        ⟨⟨by rw [any_snoc, HX.out, Bool.or_true]; exact bC2.set _, by rw [any_snoc, HX.out, Bool.not_true, Bool.or_false]; exact (boxed_ext bN1 hb1).other (by omega) _⟩, (bI1.ext hb1).kept (grownBy_setCell' _ _ _) (by first | omega | (simp; done) | (simp; omega))⟩, (Below.then_ hB1 hb1).setCell (by first | omega | (simp; done) | (simp; omega)) _, (by first | omega | (simp; done) | (simp; omega))⟩
    | false =>
      have HX := Lib.hid hpx
      have hcall := HP.out.2 x.1.2 W hB1
      rw [hpx] at hcall
      clear hpx
      gi_wp2_with (refine ⟨trivial, ?_⟩; refine (CallsIn.inRound l (callsIn_wide.2 hcall)).mono ?_; clear hcall; rintro e w1 ⟨rfl, hb1⟩; have bN2 := boxed_ext bN1 hb1; have cN := bN2.cell; have fN := bN2.frozen)
      have hs1 := hb1.size
      exact ⟨((keeps_of_below hb1).trans (KeepsOthers.setCell _ _ _)).from _, (KeepP.of_below hb1 fun k hk => by omega).trans (KeepP.setCell _ _ (by simp only; omega)),
        ⟨⟨by rw [any_snoc, HX.out, Bool.or_false]; exact (boxed_ext bC1 hb1).other (by omega) _, by rw [any_snoc, HX.out, Bool.not_false, Bool.or_true]; exact bN2.set _⟩, (bI1.ext hb1).kept (grownBy_setCell' _ _ _) (by first | omega | (simp; done) | (simp; omega))⟩, (Below.then_ hB1 hb1).setCell (by first | omega | (simp; done) | (simp; omega)) _, (by first | omega | (simp; done) | (simp; omega))⟩
  case done =>
    rintro D ys W hD hys ⟨⟨⟨bC1, bN1⟩, bI1⟩, hB1, hs6⟩ hK
    have cC := bC1.cell
    have cN := bN1.cell
    gi_wp2_with (refine ⟨trivial, ?_⟩; gi_at_call 58; refine (callsIn_wide.2 (p_answer _ _ _)).mono ?_; rintro e w1 ⟨rfl, rfl⟩)
    refine ⟨by simp, .inl ⟨_, _, rfl, run_takeDeferred hK, ?_⟩⟩
    refine ⟨.int .i64 (ansI (ys.any fun x => p x.1.2) (ys.any fun x => !p x.1.2)), by exact results_tmp (t := 6) (by rfl) _ _ _, ?_, hB1.trans (belowK_b (w := w) (Nat.le_refl _) W D _ _ (by omega) hK rfl rfl)⟩
    rw [askI, any_of hys p, any_of hys fun s => !p s]
  case stop =>
    rintro D c pre W _ _ h _
    exact h.elim

end Go.Proofs.YtikioiblaoimkaaGreatDoor

/- whoMay. -/
namespace Go.Proofs.YtikioiblaoimkaaGreatDoor
open Go.RowKit Go.Shelf Go.Maps
attribute [local go_sem] Oper.semAt_some

theorem checkB_ok {ds : List Deed} (h : checkB ds = true) : ∀ d ∈ ds, d.okB = true := fun d hd => by
  unfold checkB at h
  simp only [Bool.and_eq_true, List.all_eq_true, List.mem_range] at h
  obtain ⟨i, hi⟩ := List.mem_iff_getElem?.1 hd
  have h1 := h.2 i (List.getElem?_eq_some_iff.1 hi).1
  unfold okAt at h1
  rw [hi] at h1
  simp only [Bool.and_eq_true] at h1
  exact h1.1
theorem cnt_ok {ds : List Deed} (h : checkB ds = true) (kn : Int) : ∀ d ∈ cntDs kn ds, d.okB = true := fun d hd => checkB_ok h d (List.mem_filter.1 hd).1
theorem p_even_ok (ds : List Deed) (kn : Int) (A : Option Addr) (n c : Nat) (w : World) (hn : n ≤ 1000000) (hd : Ds w w.heap.size A n ds) (hf : clF (cntDs kn ds) = false) :
    Calls Tryz.prog 51 #[.slice A n c, .int .i64 kn] w fun e w' => ∃ A c, e = .returned (.tuple #[.slice A (cntDs kn ds).length c, .int .i64 0]) ∧ Below w.heap.size w w' ∧ Ds w' w'.heap.size A (cntDs kn ds).length (cntDs kn ds) ∧ (cntDs kn ds).length ≤ c ∧ c ≤ maxLen :=
  (p_even ds kn A n c w hn hd).mono fun e w' ⟨A, c, h1, h2⟩ => by
    have e1 : evDs kn ds = cntDs kn ds := by rw [evDs, if_neg (by rw [hf]; simp)]
    have e2 : evErr kn ds = 0 := by rw [evErr, if_neg (by rw [hf]; simp)]
    rw [e1] at h1 h2
    rw [e2] at h1
    exact ⟨A, c, h1, h2⟩
theorem p_even_no (ds : List Deed) (kn : Int) (A : Option Addr) (n c : Nat) (w : World) (hn : n ≤ 1000000) (hd : Ds w w.heap.size A n ds) (hf : clF (cntDs kn ds) = true) :
    Calls Tryz.prog 51 #[.slice A n c, .int .i64 kn] w fun e w' => ∃ A c, e = .returned (.tuple #[.slice A 0 c, .int .i64 13]) ∧ Below w.heap.size w w' :=
  (p_even ds kn A n c w hn hd).mono fun e w' ⟨A, c, h1, h2, _⟩ => by
    have e1 : evDs kn ds = [] := by rw [evDs, if_pos hf]
    have e2 : evErr kn ds = 13 := by rw [evErr, if_pos hf]
    rw [e1, e2] at h1
    exact ⟨A, c, h1, h2⟩

/-- A function of a state that answers q, and makes memory of its own alone. -/
def TellsI (gf : Nat) (lb : Array Value) (q : St → Int) (w : World) : Prop :=
  (∀ args w', (callFunc gf args).run Tryz.prog w' = .ok (.enter gf args) w') ∧ ∀ s W, Below w.heap.size w W → Calls Tryz.prog gf (#[stV s] ++ lb) W fun e w' => e = .returned (.int .i64 (q s)) ∧ Below W.heap.size W w'

def whoErr (ds : List Deed) (lock day kn : Int) : Int := orL [errI (checkB ds) 11, errI (withinB lock 1 3) 15, errI (daysOk [day, kn]) 6]
theorem who_eq {ds : List Deed} {lock day kn : Int} (h : whoErr ds lock day kn = 0) : checkB ds = true ∧ withinB lock 1 3 = true ∧ daysOk [day, kn] = true := by
  unfold whoErr at h
  revert h
  generalize checkB ds = a
  generalize withinB lock 1 3 = b
  generalize daysOk [day, kn] = c
  cases a <;> cases b <;> cases c <;> simp [orL, errI]
def RetWho (q : St → Int) (ds : List Deed) (lock day kn : Int) (w : World) (e : Ending) (w' : World) : Prop :=
  Below w.heap.size w w' ∧ (whoErr ds lock day kn ≠ 0 → e = .returned (.tuple #[.slice none 0 0, .int .i64 (whoErr ds lock day kn)])) ∧
  (whoErr ds lock day kn = 0 → clF (cntDs kn ds) = true → e = .returned (.tuple #[.slice none 0 0, .int .i64 13])) ∧
  (whoErr ds lock day kn = 0 → clF (cntDs kn ds) = false → ∃ xs A c, e = .returned (.tuple #[.slice A xs.length c, .int .i64 0]) ∧ SS xs ∧ (∀ a, a ∈ xs ↔ ∃ x ∈ stsL (thr (cntDs kn ds) (lock, 0)) day, q x.2 = a) ∧ Is w' w'.heap.size A xs.length xs ∧ xs.length ≤ c)

theorem wpIn_named2 {F : Fence} {n : Nat} {P : Program} {c : Code} {Q : Exit → Act → World → Prop} {a : Act} {w : World} (h : ∀ a0 W, a = a0 → w = W → c.wpIn F n P Q a0 W) : c.wpIn F n P Q a w := h a w rfl rfl
theorem stsL_len (T : List Deed) (day : Int) : (stsL T day).length ≤ T.length + 1 := by
  unfold stsL
  rw [List.length_map]
  exact Nat.le_trans (List.length_filter_le _ _) (by simp)
/-- A variable that holds a rising list of numbers of the call's own. -/
def Coll (base bp : Nat) (m : Nat) (M : Int → Prop) (W : World) : Prop :=
  ∃ v xs, Boxed W bp 49 v ∧ W.ownsRow base 3 1 v xs.length (xs.map fun x => .int .i64 x) ∧ SS xs ∧ xs.length ≤ m ∧ ∀ a, a ∈ xs ↔ M a
theorem Coll.kept {base bp m : Nat} {M : Int → Prop} {X Y : World} {row : Option Nat} (h : Coll base bp m M X) (hg : X.grownBy Y row) (hr : ∀ r, row = some r → ∃ o : Obj, X.heap[r]? = some o ∧ o.isCells = false) : Coll base bp m M Y := by
  obtain ⟨v, xs, hv, ho, h3⟩ := h
  refine ⟨v, xs, hv.kept hg (fun e => ?_), own_keep ho (fun b hb => ?_), h3⟩
  · obtain ⟨o, h1, h2⟩ := hr bp e.symm
    rw [show X.heap[bp]? = _ from hv] at h1
    cases h1
    cases h2
  · obtain ⟨cur, hh⟩ := own_block ho hb
    refine hg.block b (block_lt hh) fun e => ?_
    obtain ⟨o, h1, h2⟩ := hr b e.symm
    rw [hh] at h1
    cases h1
    cases h2
theorem Coll.congr {base bp m m' : Nat} {M M' : Int → Prop} {X : World} (h : Coll base bp m M X) (hm : m ≤ m') (hM : ∀ a, M a ↔ M' a) : Coll base bp m' M' X := by
  obtain ⟨v, xs, hv, ho, h1, h2, h3⟩ := h
  exact ⟨v, xs, hv, ho, h1, by omega, fun a => (h3 a).trans (hM a)⟩

set_option maxRecDepth 100000 in
set_option maxHeartbeats 4000000 in
theorem p_whoMay (ds : List Deed) (lock day kn : Int) (gf : Nat) (lb : Array Value) (q : St → Int) (A : Option Addr) (n c : Nat) (w : World) (hn : n ≤ 9223372036854775807) (hd : Ds w w.heap.size A n ds) (hp : TellsI gf lb q w) :
    Calls Tryz.prog 44 #[.slice A n c, .int .i64 lock, .int .i64 day, .int .i64 kn, .func (.func gf) #[] lb] w (RetWho q ds lock day kn w) := by
  have HD := Lib.hid hd
  have HL := Lib.hid hd.len
  have HP := Lib.hid hp
  clear hd hp
  obtain ⟨v, hv⟩ : ∃ v, orL [errI (checkB ds) 11, errI (withinB lock 1 3) 15, errI (daysOk [day, kn]) 6] = v := ⟨_, rfl⟩
  have HV := Lib.hid hv
  have HW : Hid (whoErr ds lock day kn = v) := hv
  clear hv
  by_cases hv0 : v = 0
  · subst hv0
    have H60 := Lib.hid (check_60 (who_eq HW.out).1)
    have h60 : n ≤ 60 := by have := H60.out; have := HL.out; omega
    have hlk : 1 ≤ lock ∧ lock ≤ 3 := by
      have := (who_eq HW.out).2.1
      unfold withinB at this
      simpa using this
    by_cases hf : clF (cntDs kn ds) = true
    · have HF := Lib.hid hf
      clear hf
      go_enter Tryz.func44, Tryz.ntmps44
      go_wp2_with (first | (go_at_call 10; refine (p_check ds _ _ _ _ hn (HD.out.now (by (repeat' (first | with_reducible exact Below.refl _ _ | with_reducible assumption | with_reducible refine Below.alloc ?_ ?_ _ | with_reducible refine Below.setCell ?_ ?_ _ | with_reducible refine Below.drew ?_ | (simp; done) | (simp; omega) | omega))))).mono ?_; rintro e w1 ⟨rfl, hb1⟩; obtain ⟨hc1, hf1⟩ := bcell hb1; have HB1 : Below w.heap.size w w1 := Below.then_ (by (repeat' (first | with_reducible exact Below.refl _ _ | with_reducible assumption | with_reducible refine Below.alloc ?_ ?_ _ | with_reducible refine Below.setCell ?_ ?_ _ | with_reducible refine Below.drew ?_ | (simp; done) | (simp; omega) | omega))) hb1; have hs1 := HB1.size) | (go_at_call 84; refine (p_checkLock lock _).mono ?_; rintro e w1 ⟨rfl, rfl⟩) | (go_at_call 48; refine (p_checkDays [day, kn] _ 2 2 _ (by decide) (Rd.new _ #[.int .i64 day, .int .i64 kn] _ 1 2 _ (by simp) rfl)).mono ?_; rintro e w1 ⟨rfl, hb1⟩; obtain ⟨hc1, hf1⟩ := bcell hb1; have HB1 : Below w.heap.size w w1 := Below.then_ (by (repeat' (first | with_reducible exact Below.refl _ _ | with_reducible assumption | with_reducible refine Below.alloc ?_ ?_ _ | with_reducible refine Below.setCell ?_ ?_ _ | with_reducible refine Below.drew ?_ | (simp; done) | (simp; omega) | omega))) hb1; have hs1 := HB1.size) | (go_at_call 47; refine (p_first [errI (checkB ds) 11, errI (withinB lock 1 3) 15, errI (daysOk [day, kn]) 6] 0 _ 3 3 _ (by decide) (Rd.new _ #[.int .i64 (errI (checkB ds) 11), .int .i64 (errI (withinB lock 1 3) 15), .int .i64 (errI (daysOk [day, kn]) 6)] _ 1 3 _ (by simp) rfl) HV.out).mono ?_; rintro e w1 ⟨rfl, rfl⟩) | (go_at_call 51; refine (p_even_no ds kn _ _ _ _ (by omega) (Ds.now HD.out (by (repeat' (first | with_reducible exact Below.refl _ _ | with_reducible assumption | with_reducible refine Below.alloc ?_ ?_ _ | with_reducible refine Below.setCell ?_ ?_ _ | with_reducible refine Below.drew ?_ | (simp; done) | (simp; omega) | omega)))) HF.out).mono ?_; rintro e w1 ⟨A1, c1, rfl, hb1⟩; have HB2 : Below w.heap.size w w1 := Below.then_ (by (repeat' (first | with_reducible exact Below.refl _ _ | with_reducible assumption | with_reducible refine Below.alloc ?_ ?_ _ | with_reducible refine Below.setCell ?_ ?_ _ | with_reducible refine Below.drew ?_ | (simp; done) | (simp; omega) | omega))) hb1; have hs2 := HB2.size))
      go_ret2
      exact ⟨by (repeat' (first | with_reducible exact Below.refl _ _ | with_reducible assumption | with_reducible refine Below.alloc ?_ ?_ _ | with_reducible refine Below.setCell ?_ ?_ _ | with_reducible refine Below.drew ?_ | (simp; done) | (simp; omega) | omega)), fun h => absurd HW.out h, fun _ _ => rfl, fun _ h => by rw [HF.out] at h; cases h⟩
    · have HF : Hid (clF (cntDs kn ds) = false) := by show _ = _; simpa using hf
      have HC60 : Hid ((cntDs kn ds).length ≤ 60) := by show _ ≤ _; have := cntDs_len kn ds; have := H60.out; omega
      clear hf
      have heg := HP.out.1
      refine (callsIn_wide (n := 9)).1 ?_
      have h1 : 1 ≤ 9 := by omega
      (refine callsIn_of_wp_marks Tryz.func44 rfl trivial ?_ rfl; simp only [Tryz.ntmps44, List.size_toArray, List.length_cons, List.length_nil, Nat.reduceAdd, Nat.reduceSub, Array.replicate_succ, Array.replicate_zero, List.push_toArray, List.append_toArray, List.nil_append, List.cons_append])
      gi_wp2_with (first | (refine ⟨trivial, ?_⟩; gi_at_call 10; refine (callsIn_wide.2 (p_check ds _ _ _ _ hn (HD.out.now (by (repeat' (first | with_reducible exact Below.refl _ _ | with_reducible assumption | with_reducible refine Below.alloc ?_ ?_ _ | with_reducible refine Below.setCell ?_ ?_ _ | with_reducible refine Below.drew ?_ | (simp; done) | (simp; omega) | omega)))))).mono ?_; rintro e w1 ⟨rfl, hb1⟩; obtain ⟨hc1, hf1⟩ := bcell hb1; have HB1 : Below w.heap.size w w1 := Below.then_ (by (repeat' (first | with_reducible exact Below.refl _ _ | with_reducible assumption | with_reducible refine Below.alloc ?_ ?_ _ | with_reducible refine Below.setCell ?_ ?_ _ | with_reducible refine Below.drew ?_ | (simp; done) | (simp; omega) | omega))) hb1; have hs1 := HB1.size) | (refine ⟨trivial, ?_⟩; gi_at_call 84; refine (callsIn_wide.2 (p_checkLock lock _)).mono ?_; rintro e w1 ⟨rfl, rfl⟩) | (refine ⟨trivial, ?_⟩; gi_at_call 48; refine (callsIn_wide.2 (p_checkDays [day, kn] _ 2 2 _ (by decide) (Rd.new _ #[.int .i64 day, .int .i64 kn] _ 1 2 _ (by simp) rfl))).mono ?_; rintro e w1c ⟨rfl, hb1c⟩; obtain ⟨hc1c, hf1c⟩ := bcell hb1c; have HB1c : Below w.heap.size w w1c := Below.then_ (by (repeat' (first | with_reducible exact Below.refl _ _ | with_reducible assumption | with_reducible refine Below.alloc ?_ ?_ _ | with_reducible refine Below.setCell ?_ ?_ _ | with_reducible refine Below.drew ?_ | (simp; done) | (simp; omega) | omega))) hb1c; have hs1c := HB1c.size) | (refine ⟨trivial, ?_⟩; gi_at_call 47; refine (callsIn_wide.2 (p_first [errI (checkB ds) 11, errI (withinB lock 1 3) 15, errI (daysOk [day, kn]) 6] 0 _ 3 3 _ (by decide) (Rd.new _ #[.int .i64 (errI (checkB ds) 11), .int .i64 (errI (withinB lock 1 3) 15), .int .i64 (errI (daysOk [day, kn]) 6)] _ 1 3 _ (by simp) rfl) HV.out)).mono ?_; rintro e w1 ⟨rfl, rfl⟩) | (refine ⟨trivial, ?_⟩; gi_at_call 51; refine (callsIn_wide.2 (p_even_ok ds kn _ _ _ _ (by omega) (Ds.now HD.out (by (repeat' (first | with_reducible exact Below.refl _ _ | with_reducible assumption | with_reducible refine Below.alloc ?_ ?_ _ | with_reducible refine Below.setCell ?_ ?_ _ | with_reducible refine Below.drew ?_ | (simp; done) | (simp; omega) | omega)))) HF.out)).mono ?_; rintro e w3 ⟨A1, c1, rfl, hb3, hd3, hcc, hmm⟩; have HB3 : Below w.heap.size w w3 := Below.then_ (by (repeat' (first | with_reducible exact Below.refl _ _ | with_reducible assumption | with_reducible refine Below.alloc ?_ ?_ _ | with_reducible refine Below.setCell ?_ ?_ _ | with_reducible refine Below.drew ?_ | (simp; done) | (simp; omega) | omega))) hb3; have hs3 := HB3.size; have HD3 := Lib.hid hd3; clear hd3) | (refine ⟨trivial, ?_⟩; gi_at_call 52; refine (callsIn_wide.2 (p_threads (cntDs kn ds) A1 _ c1 _ (by have := HC60.out; omega) (cnt_ok (who_eq HW.out).1 kn) (HD3.out.now (by (repeat' (first | with_reducible exact Below.refl _ _ | with_reducible assumption | with_reducible refine Below.alloc ?_ ?_ _ | with_reducible refine Below.setCell ?_ ?_ _ | with_reducible refine Below.drew ?_ | (simp; done) | (simp; omega) | omega)))))).mono ?_; rintro e w4 ⟨bm, be, rfl, hbm, hth, hb4⟩; have HTH := Lib.hid (hth.read hbm); clear hth hbm; obtain ⟨Ad, Ai, As, cd, ci, cs, hlook, hthr⟩ := HTH.out.look (a := lock) (c := 0) (wf2_small (by omega) (by omega) (by omega) (by omega)); have HT := Lib.hid hthr; clear hthr) | (refine ⟨trivial, ?_⟩; gi_at_call 59; refine (callsIn_wide.2 (p_states day _ _ _ _)).mono ?_; rintro e w5 ⟨rfl, hw5⟩))
      have bW := (((((((BoxA.new w 90 #[.func (.func gf) #[] lb]).ext hb1).alloc (.cells #[.int .i64 day, .int .i64 kn] 3)).ext hb1c).alloc (.cells #[.int .i64 (errI (checkB ds) 11), .int .i64 (errI (withinB lock 1 3) 15), .int .i64 (errI (daysOk [day, kn]) 6)] 23)).ext hb3).alloc (.cells #[.slice none 0 0] 49)).ext hb4
      have bP := boxed_ext (Boxed.new w3 49 (.slice none 0 0)) hb4
      have hs4 := hb4.size
      simp only [World.size_alloc] at hs4
      have HB4 : Below w.heap.size w w4 := Below.then_ (by (repeat' (first | with_reducible exact Below.refl _ _ | with_reducible assumption | with_reducible refine Below.alloc ?_ ?_ _ | with_reducible refine Below.setCell ?_ ?_ _ | with_reducible refine Below.drew ?_ | (simp; done) | (simp; omega) | omega))) hb4
      refine wpIn_named2 fun a0 W0 ha0 hW0 => ?_
      have hsz : W0.heap.size = w4.heap.size + 2 := by rw [← hW0]; simp
      have hB40 : Below w4.heap.size w4 W0 := by rw [← hW0]; exact ((Below.refl _ _).alloc (Nat.le_refl _) _).alloc (by simp) _
      have hB0 : Below w.heap.size w W0 := Below.then_ HB4 hB40
      have bW0 := bW.ext hB40
      have bP0 := boxed_ext bP hB40
      have bT : BoxA W0 w4.heap.size 98 #[.slice Ad (sub (cntDs kn ds) (lock, 0)).length cd, .slice Ai (sub (cntDs kn ds) (lock, 0)).length ci, .slice As (sub (cntDs kn ds) (lock, 0)).length cs] := by (rw [← hW0]; simp only [boxed_iff, boxa_iff, alloc_get, drew_heap, World.size_alloc]; (repeat (first | rw [if_pos trivial] | rw [if_pos (by omega)] | rw [if_neg (by omega)])))
      have bD : BoxA W0 (w4.heap.size + 1) 3 #[.int .i64 day] := by (rw [← hW0]; simp only [boxed_iff, boxa_iff, alloc_get, drew_heap, World.size_alloc]; (repeat (first | rw [if_pos trivial] | rw [if_pos (by omega)] | rw [if_neg (by omega)])))
      have hTn : (sub (cntDs kn ds) (lock, 0)).length ≤ 60 := Nat.le_trans (sub_length_le _ _) HC60.out
      have hT0 := HT.out.below hB40
      simp only [World.size_alloc] at hT0
      have hPw : ∀ k, (w3.heap.size + 1 ≤ k ∧ k < w4.heap.size) ∨ k = w4.heap.size ∨ k = w4.heap.size + 1 → k < W0.heap.size := fun k hk => by omega
      have hs13 : w.heap.size < w3.heap.size := by
        have g1 := hb1.size
        have g2 := hb3.size
        simp only [World.size_alloc] at g1 g2
        omega
      clear hW0 bW bP hB40 hb1 hc1 hf1 hb3 hb4
      refine wpIn_rangeFunc_ownH rfl h1 (gf := 95) (lb := #[.pointer (some ⟨w4.heap.size, 0, none⟩), .pointer (some ⟨w4.heap.size + 1, 0, none⟩)]) (by subst ha0; rfl) trivial (enters_of Tryz.func95 (by kernel_rfl) rfl)
        (states_stops 8 (by omega) w4.heap.size (w4.heap.size + 1) (w3.heap.size + 1) w4.heap.size (fun k => (w3.heap.size + 1 ≤ k ∧ k < w4.heap.size) ∨ k = w4.heap.size ∨ k = w4.heap.size + 1) (sub (cntDs kn ds) (lock, 0)) day Ad Ai As cd ci cs W0 (by omega) (fun k h2 h3 => .inl ⟨h2, h3⟩) (.inr (.inl rfl)) (.inr (.inr rfl)) hPw (by omega) (bT.cell 0) (bT.cell 1) (bT.cell 2) (bD.cell 0) hT0)
        keepP_t (keepP_b hPw) (Below.refl _ _) (fun _ => rfl)
        (fun pre W => (Coll W0.heap.size w3.heap.size pre.length (fun a => ∃ x ∈ pre, q x.1.2 = a) W ∧ BoxA W w.heap.size 90 #[.func (.func gf) #[] lb]) ∧ (Below w.heap.size w W ∧ W0.heap.size ≤ W.heap.size))
        (fun _ _ _ => False)
        (OwnFrom.and (OwnFrom.and (Own.from (fun _ _ _ _ hs hg hr => hs.kept hg hr) _) (Own.from (boxa_own _ _ _) _)) (OwnFrom.and (ownFrom_below (Nat.le_refl _) (by omega)) (ownFrom_size _ _)))
        (fun _ _ _ _ _ hs _ _ => hs)
        ⟨⟨⟨_, [], bP0, World.ownsRow_nil _ _ _ _, List.Pairwise.nil, Nat.le_refl _, by simp⟩, bW0⟩, hB0, Nat.le_refl _⟩
        (fun x a' W => ∃ Bx, W0.heap.size ≤ Bx ∧ BoxA W Bx 89 #[.int .i64 x.1.2.holder, .int .i64 x.1.2.hand, .bool x.1.2.office] ∧ a' = { tmps := ((a0.tmps.setIfInBounds 47 (.int .i64 x.1.1)).setIfInBounds 48 (stV x.1.2)).setIfInBounds 17 (.pointer (some ⟨Bx, 0, none⟩)), defers := [] })
        (fun x a' _ X Y row hs hg hr => by obtain ⟨Bx, g1, g2, g3⟩ := hs; exact ⟨Bx, g1, boxa_own Bx _ (fun (_ : Unit) => _) () X Y row g2 hg (fun r e => (hr r e).2), g3⟩)
        ?assign ?body ?done ?stop
      case assign =>
        subst ha0
        rintro l pre x W K ⟨⟨hC, bW1⟩, hB1, hs6⟩ hK
        simp only [encS, stV]
        gi_wp2
        exact hK _ _ ((KeepsOthers.alloc _ _).from _) (KeepP.of_below (B := W.heap.size) (by (repeat' (first | with_reducible exact Below.refl _ _ | with_reducible assumption | with_reducible refine Below.alloc ?_ ?_ _ | with_reducible refine Below.setCell ?_ ?_ _ | with_reducible refine Below.drew ?_ | (simp; done) | (simp; omega) | omega))) fun k hk => Nat.lt_of_lt_of_le (hPw k hk) hs6) ⟨⟨hC.kept (World.grownBy_alloc _ _ none) (by simp), bW1.alloc _⟩, hB1.alloc hB1.size _, by simp; omega⟩ ⟨W.heap.size, hs6, BoxA.new W _ _, rfl⟩
      case body =>
        subst ha0
        rintro l pre x a' W hl ⟨r, hr⟩ ⟨⟨hC, bW1⟩, hB1, hs6⟩ ⟨Bx, hBx, bX, rfl⟩ hlt
        obtain ⟨v, xs, bP1, hown, hss, hxl, hmem⟩ := hC
        have cW := bW1.cell 0
        have cP := bP1.cell
        have x0 := bX.cell 0
        have x1 := bX.cell 1
        have x2 := bX.cell 2
        have hmo : Tryz.prog.follows .mixedOrders = true := by kernel_rfl
        simp only [List.setIfInBounds_toArray, List.set_cons_zero, List.set_cons_succ]
        gi_wp2
        have hcall := HP.out.2 x.1.2 W.drew hB1.drew
        have HO := Lib.hid hown
        have HSS := Lib.hid hss
        have HM := Lib.hid hmem
        have hxl2 : xs.length ≤ 1000 := by
          have h2 := stsL_len ((sub (cntDs kn ds) (lock, 0)).map (·.1)) day
          rw [List.length_map] at h2
          omega
        have HBX : Hid (∀ b, v.ownBlock = some b → W0.heap.size ≤ b) := fun b hb => own_le hown hb
        clear hown hss hmem
        gi_region_with_o (first
          | (refine ⟨trivial, ?_⟩; refine (CallsIn.inRound l (callsIn_wide.2 hcall)).mono ?_; clear hcall; rintro e w6 ⟨rfl, hb6⟩; have bP2 := boxed_ext (W := W.drew) bP1 hb6; have cP2 := bP2.cell)
          | (refine ⟨trivial, ?_⟩; gi_at_call 60; refine (CallsIn.inRound l (callsIn_wide.2 (p_insert (base := W0.heap.size) (q x.1.2) (by omega) HSS.out (Nat.le_trans hs6 hb6.size) (own_keep HO.out fun b hb => hb6.block b (by obtain ⟨cur, hh⟩ := own_block HO.out hb; exact block_lt hh))))).mono ?_; rintro e w7 ⟨v', ys, rfl, hys, hyl, hym, hyo, hgr, hat⟩; obtain ⟨A', c', rfl, hcc'⟩ := own_slice hyo; have bP3 := bP2.kept hgr (bP2.not_row (by decide) (own_keep HO.out fun b hb => hb6.block b (by obtain ⟨cur, hh⟩ := own_block HO.out hb; exact block_lt hh))); have cP3 := bP3.cell; have fP3 := bP3.frozen))
        all_goals
          have hs6' : W.heap.size ≤ w6.heap.size := hb6.size
          have hsB := hB1.size
          have hsB0 := hB0.size
          have hs7 := hgr.size
          exact ⟨((((KeepsOthers.drew W).trans (keeps_of_below hb6)).trans (KeepsOthers.of_grownBy hgr fun j o e hj => by
                obtain ⟨cur, hh⟩ := own_block (own_keep HO.out fun b hb => hb6.block b (by obtain ⟨cur, hh⟩ := own_block HO.out hb; exact block_lt hh)) e
                rw [hh] at hj
                cases hj
                rfl)).trans (KeepsOthers.setCell _ _ _)).from _,
            (((KeepP.drew W).trans (KeepP.of_below hb6 fun k hk => Nat.lt_of_lt_of_le (hPw k hk) hs6)).trans (KeepP.of_grown hgr fun k hk => ⟨Nat.lt_of_lt_of_le (hPw k hk) (Nat.le_trans hs6 hs6'), fun e => by have := HBX.out k e; have := hPw k hk; omega⟩)).trans (KeepP.setCell _ _ (by simp only; omega)),
            ⟨⟨_, ys, bP3.set _, own_keep hyo fun b hb => Below.heap_setCell _ _ _ _ (fun e => bP3.not_row (by decide) hyo (by rw [hb, e])), hys, by simp; omega, fun a => by
                rw [hym, HM.out]
                simp only [List.mem_append, List.mem_singleton]
                constructor
                · rintro (h | ⟨y, hy, h⟩)
                  · exact ⟨x, .inr rfl, h.symm⟩
                  · exact ⟨y, .inl hy, h⟩
                · rintro ⟨y, hy | hy, h⟩
                  · exact .inr ⟨y, hy, h⟩
                  · exact .inl (by rw [← h, hy])⟩,
              ((BoxA.ext (W := W.drew) (W' := w6) bW1 hb6).kept hgr fun e => by have := HBX.out _ e.symm; omega).kept (grownBy_setCell' _ _ _) (by simp; omega)⟩,
            ((Below.then_ hB1.drew hb6).grown hgr (by omega) fun b e => by have := HBX.out b e; omega).setCell (by simp only; omega) _, by simp; omega⟩
      case done =>
        subst ha0
        rintro D ys W hD hys ⟨⟨hC, bW1⟩, hB1, hs6⟩ hK
        obtain ⟨v, xs, bP1, hown, hss, hxl, hmem⟩ := hC
        obtain ⟨A', c', rfl, hcc'⟩ := own_slice hown
        have cP := bP1.cell
        have HO := Lib.hid hown
        have HM := Lib.hid hmem
        clear hown hmem
        gi_wp2
        refine ⟨by simp, .inl ⟨_, _, rfl, run_takeDeferred hK, ?_⟩⟩
        refine ⟨.tuple #[.slice A' xs.length c', .int .i64 0], by simp [results, Tryz.f44, go_sem], ?_⟩
        have hkk : Below w.heap.size w (W.putObj D (.deferred none)) := hB1.trans (belowK_b (w := w) (Nat.le_refl _) W D _ _ (by have := hB0.size; omega) hK rfl rfl)
        have hxs : xs.length = xs.length := rfl
        refine ⟨hkk, fun h => absurd HW.out h, fun _ h => (by rw [HF.out] at h; cases h), fun _ _ => ⟨xs, A', c', rfl, hss, fun a => ?_, ?_, hcc'.1⟩⟩
        · rw [HM.out]
          have e1 : (∃ x ∈ ys, q x.1.2 = a) ↔ ∃ x ∈ ys.map (·.1), q x.2 = a := by
            constructor
            · rintro ⟨x, hx, h⟩
              exact ⟨x.1, List.mem_map.2 ⟨x, hx, rfl⟩, h⟩
            · rintro ⟨x, hx, h⟩
              obtain ⟨y, hy, rfl⟩ := List.mem_map.1 hx
              exact ⟨y, hy, h⟩
          rw [e1, hys]
          rfl
        · exact Rd.of_own (ownsRow_putObj HO.out _ hK rfl)
      case stop =>
        rintro D c pre W _ _ h _
        exact h.elim
  · have hv1 : (v != 0) = true := by simpa using hv0
    have HV0 := Lib.hid hv0
    clear hv0
    go_enter Tryz.func44, Tryz.ntmps44
    go_wp2_with (first | (go_at_call 10; refine (p_check ds _ _ _ _ hn (HD.out.now (by (repeat' (first | with_reducible exact Below.refl _ _ | with_reducible assumption | with_reducible refine Below.alloc ?_ ?_ _ | with_reducible refine Below.setCell ?_ ?_ _ | with_reducible refine Below.drew ?_ | (simp; done) | (simp; omega) | omega))))).mono ?_; rintro e w1 ⟨rfl, hb1⟩; obtain ⟨hc1, hf1⟩ := bcell hb1; have HB1 : Below w.heap.size w w1 := Below.then_ (by (repeat' (first | with_reducible exact Below.refl _ _ | with_reducible assumption | with_reducible refine Below.alloc ?_ ?_ _ | with_reducible refine Below.setCell ?_ ?_ _ | with_reducible refine Below.drew ?_ | (simp; done) | (simp; omega) | omega))) hb1; have hs1 := HB1.size) | (go_at_call 84; refine (p_checkLock lock _).mono ?_; rintro e w1 ⟨rfl, rfl⟩) | (go_at_call 48; refine (p_checkDays [day, kn] _ 2 2 _ (by decide) (Rd.new _ #[.int .i64 day, .int .i64 kn] _ 1 2 _ (by simp) rfl)).mono ?_; rintro e w1 ⟨rfl, hb1⟩; obtain ⟨hc1, hf1⟩ := bcell hb1; have HB1 : Below w.heap.size w w1 := Below.then_ (by (repeat' (first | with_reducible exact Below.refl _ _ | with_reducible assumption | with_reducible refine Below.alloc ?_ ?_ _ | with_reducible refine Below.setCell ?_ ?_ _ | with_reducible refine Below.drew ?_ | (simp; done) | (simp; omega) | omega))) hb1; have hs1 := HB1.size) | (go_at_call 47; refine (p_first [errI (checkB ds) 11, errI (withinB lock 1 3) 15, errI (daysOk [day, kn]) 6] v _ 3 3 _ (by decide) (Rd.new _ #[.int .i64 (errI (checkB ds) 11), .int .i64 (errI (withinB lock 1 3) 15), .int .i64 (errI (daysOk [day, kn]) 6)] _ 1 3 _ (by simp) rfl) HV.out).mono ?_; rintro e w1 ⟨rfl, rfl⟩))
    go_ret2
    exact ⟨by (repeat' (first | with_reducible exact Below.refl _ _ | with_reducible assumption | with_reducible refine Below.alloc ?_ ?_ _ | with_reducible refine Below.setCell ?_ ?_ _ | with_reducible refine Below.drew ?_ | (simp; done) | (simp; omega) | omega)), fun _ => by rw [HW.out]; rfl, fun h => absurd (HW.out.symm.trans h) HV0.out, fun h => absurd (HW.out.symm.trans h) HV0.out⟩

end Go.Proofs.YtikioiblaoimkaaGreatDoor

/- Holders, Hands, Holds, Has, InOffice. -/
namespace Go.Proofs.YtikioiblaoimkaaGreatDoor
open Go.RowKit Go.Shelf Go.Maps

theorem RetWho.shape {q : St → Int} {ds : List Deed} {lock day kn : Int} {w w' : World} {e : Ending} (h : RetWho q ds lock day kn w e w') : ∃ A n c x, e = .returned (.tuple #[.slice A n c, .int .i64 x]) := by
  obtain ⟨_, h1, h2, h3⟩ := h
  by_cases a : whoErr ds lock day kn = 0
  · cases b : clF (cntDs kn ds) with
    | true => exact ⟨_, _, _, _, h2 a b⟩
    | false => obtain ⟨xs, A, c, he, _⟩ := h3 a b; exact ⟨_, _, _, _, he⟩
  · exact ⟨_, _, _, _, h1 a⟩
theorem tells_holder (w : World) : TellsI 45 #[] (·.holder) w := by
  refine ⟨enters_of Tryz.func45 (by kernel_rfl) rfl, fun s W _ => ?_⟩
  show Calls _ _ #[stV s] _ _
  go_enter Tryz.func45, Tryz.ntmps45
  go_wp2
  go_ret
  exact ⟨rfl, by (repeat' (first | with_reducible exact Below.refl _ _ | with_reducible assumption | with_reducible refine Below.alloc ?_ ?_ _ | with_reducible refine Below.setCell ?_ ?_ _ | with_reducible refine Below.drew ?_ | (simp; done) | (simp; omega) | omega))⟩
theorem tells_hand (w : World) : TellsI 46 #[] (·.hand) w := by
  refine ⟨enters_of Tryz.func46 (by kernel_rfl) rfl, fun s W _ => ?_⟩
  show Calls _ _ #[stV s] _ _
  go_enter Tryz.func46, Tryz.ntmps46
  go_wp2
  go_ret
  exact ⟨rfl, by (repeat' (first | with_reducible exact Below.refl _ _ | with_reducible assumption | with_reducible refine Below.alloc ?_ ?_ _ | with_reducible refine Below.setCell ?_ ?_ _ | with_reducible refine Below.drew ?_ | (simp; done) | (simp; omega) | omega))⟩
theorem tells_office (w : World) : Tells 64 #[] (·.office) w := by
  refine ⟨enters_of Tryz.func64 (by kernel_rfl) rfl, fun s W _ => ?_⟩
  show Calls _ _ #[stV s] _ _
  go_enter Tryz.func64, Tryz.ntmps64
  go_wp2
  go_ret
  exact ⟨rfl, by (repeat' (first | with_reducible exact Below.refl _ _ | with_reducible assumption | with_reducible refine Below.alloc ?_ ?_ _ | with_reducible refine Below.setCell ?_ ?_ _ | with_reducible refine Below.drew ?_ | (simp; done) | (simp; omega) | omega))⟩
set_option maxHeartbeats 1000000 in
theorem p_Holders (ds : List Deed) (lock day kn : Int) (A : Option Addr) (n c : Nat) (w : World) (hn : n ≤ 9223372036854775807) (hd : Ds w w.heap.size A n ds) :
    Calls Tryz.prog 22 #[.slice A n c, .int .i64 lock, .int .i64 day, .int .i64 kn] w (RetWho (·.holder) ds lock day kn w) := by
  go_enter Tryz.func22, Tryz.ntmps22
  go_wp2_with (go_at_call 44; refine (p_whoMay ds lock day kn 45 #[] (·.holder) _ _ _ _ hn hd (tells_holder _)).mono ?_; rintro e w1 h1; obtain ⟨A1, n1, c1, x1, rfl⟩ := h1.shape; have H1 := Lib.hid h1; clear h1)
  go_ret2
  exact H1.out
set_option maxHeartbeats 1000000 in
theorem p_Hands (ds : List Deed) (lock day kn : Int) (A : Option Addr) (n c : Nat) (w : World) (hn : n ≤ 9223372036854775807) (hd : Ds w w.heap.size A n ds) :
    Calls Tryz.prog 23 #[.slice A n c, .int .i64 lock, .int .i64 day, .int .i64 kn] w (RetWho (·.hand) ds lock day kn w) := by
  go_enter Tryz.func23, Tryz.ntmps23
  go_wp2_with (go_at_call 44; refine (p_whoMay ds lock day kn 46 #[] (·.hand) _ _ _ _ hn hd (tells_hand _)).mono ?_; rintro e w1 h1; obtain ⟨A1, n1, c1, x1, rfl⟩ := h1.shape; have H1 := Lib.hid h1; clear h1)
  go_ret2
  exact H1.out

/-- An answer of a thread's states, behind the errors. -/
def askR (ds : List Deed) (v : Int) (n : Nm) (day kn : Int) (p : St → Bool) : Int × Int := if v = 0 then (if clF (cntDs kn ds) then (0, 13) else (askI (thr (cntDs kn ds) n) day p, 0)) else (0, v)
def lockErr (ds : List Deed) (lock person day kn : Int) : Int := orL [errI (checkB ds) 11, errI (withinB lock 1 3) 15, errI (withinB person 1 99) 16, errI (daysOk [day, kn]) 6]
def persErr (ds : List Deed) (person day kn : Int) : Int := orL [errI (checkB ds) 11, errI (withinB person 1 99) 16, errI (daysOk [day, kn]) 6]
theorem lockErr_eq {ds : List Deed} {lock person day kn : Int} (h : lockErr ds lock person day kn = 0) : checkB ds = true ∧ withinB lock 1 3 = true := by
  unfold lockErr at h
  revert h
  generalize checkB ds = a
  generalize withinB lock 1 3 = b
  generalize withinB person 1 99 = d
  generalize daysOk [day, kn] = c
  cases a <;> cases b <;> cases c <;> cases d <;> simp [orL, errI]
theorem persErr_eq {ds : List Deed} {person day kn : Int} (h : persErr ds person day kn = 0) : checkB ds = true ∧ withinB person 1 99 = true := by
  unfold persErr at h
  revert h
  generalize checkB ds = a
  generalize withinB person 1 99 = d
  generalize daysOk [day, kn] = c
  cases a <;> cases c <;> cases d <;> simp [orL, errI]

end Go.Proofs.YtikioiblaoimkaaGreatDoor

/- InOffice, Holds, Has. -/
namespace Go.Proofs.YtikioiblaoimkaaGreatDoor
open Go.RowKit Go.Shelf Go.Maps

set_option maxRecDepth 100000 in
set_option maxHeartbeats 2000000 in
theorem p_InOffice (ds : List Deed) (person day kn : Int) (A : Option Addr) (n c : Nat) (w : World) (hn : n ≤ 9223372036854775807) (hd : Ds w w.heap.size A n ds) :
    Calls Tryz.prog 27 #[.slice A n c, .int .i64 person, .int .i64 day, .int .i64 kn] w fun e w' => e = .returned (.tuple #[.int .i64 (askR ds (persErr ds person day kn) (0, person) day kn (·.office)).1, .int .i64 (askR ds (persErr ds person day kn) (0, person) day kn (·.office)).2]) ∧ Below w.heap.size w w' := by
  have HD := Lib.hid hd
  have HL := Lib.hid hd.len
  clear hd
  obtain ⟨v, hv⟩ : ∃ v, persErr ds person day kn = v := ⟨_, rfl⟩
  have HV := Lib.hid hv
  rw [hv]
  clear hv
  by_cases hv0 : v = 0
  · subst hv0
    have H60 := Lib.hid (check_60 (persErr_eq HV.out).1)
    have h60 : n ≤ 60 := by have := H60.out; have := HL.out; omega
    have hlk : 1 ≤ person ∧ person ≤ 99 := by
      have := (persErr_eq HV.out).2
      unfold withinB at this
      simpa using this
    by_cases hf : clF (cntDs kn ds) = true
    · have HF := Lib.hid hf
      clear hf
      have HR : Hid (askR ds 0 (0, person) day kn (·.office) = (0, 13)) := by show _ = _; rw [askR, if_pos rfl, if_pos HF.out]
      go_enter Tryz.func27, Tryz.ntmps27
      go_wp2_with (first | (go_at_call 10; refine (p_check ds _ _ _ _ hn (HD.out.now (by (repeat' (first | with_reducible exact Below.refl _ _ | with_reducible assumption | with_reducible refine Below.alloc ?_ ?_ _ | with_reducible refine Below.setCell ?_ ?_ _ | with_reducible refine Below.drew ?_ | (simp; done) | (simp; omega) | omega))))).mono ?_; rintro e w1 ⟨rfl, hb1⟩; obtain ⟨hc1, hf1⟩ := bcell hb1; have HB1 : Below w.heap.size w w1 := Below.then_ (by (repeat' (first | with_reducible exact Below.refl _ _ | with_reducible assumption | with_reducible refine Below.alloc ?_ ?_ _ | with_reducible refine Below.setCell ?_ ?_ _ | with_reducible refine Below.drew ?_ | (simp; done) | (simp; omega) | omega))) hb1; have hs1 := HB1.size) | (go_at_call 62; refine (p_checkPerson person _).mono ?_; rintro e w1 ⟨rfl, rfl⟩) | (go_at_call 48; refine (p_checkDays [day, kn] _ 2 2 _ (by decide) (Rd.new _ #[.int .i64 day, .int .i64 kn] _ 1 2 _ (by simp) rfl)).mono ?_; rintro e w1 ⟨rfl, hb1⟩; obtain ⟨hc1, hf1⟩ := bcell hb1; have HB1 : Below w.heap.size w w1 := Below.then_ (by (repeat' (first | with_reducible exact Below.refl _ _ | with_reducible assumption | with_reducible refine Below.alloc ?_ ?_ _ | with_reducible refine Below.setCell ?_ ?_ _ | with_reducible refine Below.drew ?_ | (simp; done) | (simp; omega) | omega))) hb1; have hs1 := HB1.size) | (go_at_call 47; refine (p_first [errI (checkB ds) 11, errI (withinB person 1 99) 16, errI (daysOk [day, kn]) 6] 0 _ 3 3 _ (by decide) (Rd.new _ #[.int .i64 (errI (checkB ds) 11), .int .i64 (errI (withinB person 1 99) 16), .int .i64 (errI (daysOk [day, kn]) 6)] _ 1 3 _ (by simp) rfl) HV.out).mono ?_; rintro e w1 ⟨rfl, rfl⟩) | (go_at_call 51; refine (p_even_no ds kn _ _ _ _ (by omega) (Ds.now HD.out (by (repeat' (first | with_reducible exact Below.refl _ _ | with_reducible assumption | with_reducible refine Below.alloc ?_ ?_ _ | with_reducible refine Below.setCell ?_ ?_ _ | with_reducible refine Below.drew ?_ | (simp; done) | (simp; omega) | omega)))) HF.out).mono ?_; rintro e w1 ⟨A1, c1, rfl, hb1⟩; have HB2 : Below w.heap.size w w1 := Below.then_ (by (repeat' (first | with_reducible exact Below.refl _ _ | with_reducible assumption | with_reducible refine Below.alloc ?_ ?_ _ | with_reducible refine Below.setCell ?_ ?_ _ | with_reducible refine Below.drew ?_ | (simp; done) | (simp; omega) | omega))) hb1; have hs2 := HB2.size))
      go_ret2
      exact ⟨by rw [HR.out]; rfl, by (repeat' (first | with_reducible exact Below.refl _ _ | with_reducible assumption | with_reducible refine Below.alloc ?_ ?_ _ | with_reducible refine Below.setCell ?_ ?_ _ | with_reducible refine Below.drew ?_ | (simp; done) | (simp; omega) | omega))⟩
    · have HF : Hid (clF (cntDs kn ds) = false) := by show _ = _; simpa using hf
      have HC60 : Hid ((cntDs kn ds).length ≤ 60) := by show _ ≤ _; have := cntDs_len kn ds; have := H60.out; omega
      clear hf
      have HR : Hid (askR ds 0 (0, person) day kn (·.office) = (askI (thr (cntDs kn ds) (0, person)) day (·.office), 0)) := by show _ = _; rw [askR, if_pos rfl, if_neg (by rw [HF.out]; simp)]
      go_enter Tryz.func27, Tryz.ntmps27
      go_wp2_with (first | (go_at_call 10; refine (p_check ds _ _ _ _ hn (HD.out.now (by (repeat' (first | with_reducible exact Below.refl _ _ | with_reducible assumption | with_reducible refine Below.alloc ?_ ?_ _ | with_reducible refine Below.setCell ?_ ?_ _ | with_reducible refine Below.drew ?_ | (simp; done) | (simp; omega) | omega))))).mono ?_; rintro e w1 ⟨rfl, hb1⟩; obtain ⟨hc1, hf1⟩ := bcell hb1; have HB1 : Below w.heap.size w w1 := Below.then_ (by (repeat' (first | with_reducible exact Below.refl _ _ | with_reducible assumption | with_reducible refine Below.alloc ?_ ?_ _ | with_reducible refine Below.setCell ?_ ?_ _ | with_reducible refine Below.drew ?_ | (simp; done) | (simp; omega) | omega))) hb1; have hs1 := HB1.size) | (go_at_call 62; refine (p_checkPerson person _).mono ?_; rintro e w1 ⟨rfl, rfl⟩) | (go_at_call 48; refine (p_checkDays [day, kn] _ 2 2 _ (by decide) (Rd.new _ #[.int .i64 day, .int .i64 kn] _ 1 2 _ (by simp) rfl)).mono ?_; rintro e w1 ⟨rfl, hb1⟩; obtain ⟨hc1, hf1⟩ := bcell hb1; have HB1 : Below w.heap.size w w1 := Below.then_ (by (repeat' (first | with_reducible exact Below.refl _ _ | with_reducible assumption | with_reducible refine Below.alloc ?_ ?_ _ | with_reducible refine Below.setCell ?_ ?_ _ | with_reducible refine Below.drew ?_ | (simp; done) | (simp; omega) | omega))) hb1; have hs1 := HB1.size) | (go_at_call 47; refine (p_first [errI (checkB ds) 11, errI (withinB person 1 99) 16, errI (daysOk [day, kn]) 6] 0 _ 3 3 _ (by decide) (Rd.new _ #[.int .i64 (errI (checkB ds) 11), .int .i64 (errI (withinB person 1 99) 16), .int .i64 (errI (daysOk [day, kn]) 6)] _ 1 3 _ (by simp) rfl) HV.out).mono ?_; rintro e w1 ⟨rfl, rfl⟩) | (go_at_call 51; refine (p_even_ok ds kn _ _ _ _ (by omega) (Ds.now HD.out (by (repeat' (first | with_reducible exact Below.refl _ _ | with_reducible assumption | with_reducible refine Below.alloc ?_ ?_ _ | with_reducible refine Below.setCell ?_ ?_ _ | with_reducible refine Below.drew ?_ | (simp; done) | (simp; omega) | omega)))) HF.out).mono ?_; rintro e w3 ⟨A1, c1, rfl, hb3, hd3, hcc, hmm⟩; have HB3 : Below w.heap.size w w3 := Below.then_ (by (repeat' (first | with_reducible exact Below.refl _ _ | with_reducible assumption | with_reducible refine Below.alloc ?_ ?_ _ | with_reducible refine Below.setCell ?_ ?_ _ | with_reducible refine Below.drew ?_ | (simp; done) | (simp; omega) | omega))) hb3; have hs3 := HB3.size; have HD3 := Lib.hid hd3; clear hd3) | (go_at_call 52; refine (p_threads (cntDs kn ds) A1 _ c1 _ (by have := HC60.out; omega) (cnt_ok (persErr_eq HV.out).1 kn) (HD3.out.now (by (repeat' (first | with_reducible exact Below.refl _ _ | with_reducible assumption | with_reducible refine Below.alloc ?_ ?_ _ | with_reducible refine Below.setCell ?_ ?_ _ | with_reducible refine Below.drew ?_ | (simp; done) | (simp; omega) | omega))))).mono ?_; rintro e w4 ⟨bm, be, rfl, hbm, hth, hb4⟩; have HTH := Lib.hid (hth.read hbm); clear hth hbm; obtain ⟨Ad, Ai, As, cd, ci, cs, hlook, hthr⟩ := HTH.out.look (a := 0) (c := person) (wf2_small (by omega) (by omega) (by omega) (by omega)); have HT := Lib.hid hthr; clear hthr; have HB4 : Below w.heap.size w w4 := Below.then_ (by (repeat' (first | with_reducible exact Below.refl _ _ | with_reducible assumption | with_reducible refine Below.alloc ?_ ?_ _ | with_reducible refine Below.setCell ?_ ?_ _ | with_reducible refine Below.drew ?_ | (simp; done) | (simp; omega) | omega))) hb4; have hs4 := HB4.size) | (go_at_call 63; refine (p_ask (sub (cntDs kn ds) (0, person)) day 64 #[] (·.office) Ad Ai As cd ci cs _ (Nat.le_trans (sub_length_le _ _) (by have := HC60.out; omega)) (ThrAt.low (HT.out)) (tells_office _)).mono ?_; rintro e w5 ⟨rfl, hb5⟩))
      go_ret2
      exact ⟨by rw [HR.out]; rfl, Below.then_ HB4 hb5⟩
  · have hv1 : (v != 0) = true := by simpa using hv0
    have HR : Hid (askR ds v (0, person) day kn (·.office) = (0, v)) := by show _ = _; rw [askR, if_neg hv0]
    clear hv0
    go_enter Tryz.func27, Tryz.ntmps27
    go_wp2_with (first | (go_at_call 10; refine (p_check ds _ _ _ _ hn (HD.out.now (by (repeat' (first | with_reducible exact Below.refl _ _ | with_reducible assumption | with_reducible refine Below.alloc ?_ ?_ _ | with_reducible refine Below.setCell ?_ ?_ _ | with_reducible refine Below.drew ?_ | (simp; done) | (simp; omega) | omega))))).mono ?_; rintro e w1 ⟨rfl, hb1⟩; obtain ⟨hc1, hf1⟩ := bcell hb1; have HB1 : Below w.heap.size w w1 := Below.then_ (by (repeat' (first | with_reducible exact Below.refl _ _ | with_reducible assumption | with_reducible refine Below.alloc ?_ ?_ _ | with_reducible refine Below.setCell ?_ ?_ _ | with_reducible refine Below.drew ?_ | (simp; done) | (simp; omega) | omega))) hb1; have hs1 := HB1.size) | (go_at_call 62; refine (p_checkPerson person _).mono ?_; rintro e w1 ⟨rfl, rfl⟩) | (go_at_call 48; refine (p_checkDays [day, kn] _ 2 2 _ (by decide) (Rd.new _ #[.int .i64 day, .int .i64 kn] _ 1 2 _ (by simp) rfl)).mono ?_; rintro e w1 ⟨rfl, hb1⟩; obtain ⟨hc1, hf1⟩ := bcell hb1; have HB1 : Below w.heap.size w w1 := Below.then_ (by (repeat' (first | with_reducible exact Below.refl _ _ | with_reducible assumption | with_reducible refine Below.alloc ?_ ?_ _ | with_reducible refine Below.setCell ?_ ?_ _ | with_reducible refine Below.drew ?_ | (simp; done) | (simp; omega) | omega))) hb1; have hs1 := HB1.size) | (go_at_call 47; refine (p_first [errI (checkB ds) 11, errI (withinB person 1 99) 16, errI (daysOk [day, kn]) 6] v _ 3 3 _ (by decide) (Rd.new _ #[.int .i64 (errI (checkB ds) 11), .int .i64 (errI (withinB person 1 99) 16), .int .i64 (errI (daysOk [day, kn]) 6)] _ 1 3 _ (by simp) rfl) HV.out).mono ?_; rintro e w1 ⟨rfl, rfl⟩))
    go_ret2
    exact ⟨by rw [HR.out]; rfl, by (repeat' (first | with_reducible exact Below.refl _ _ | with_reducible assumption | with_reducible refine Below.alloc ?_ ?_ _ | with_reducible refine Below.setCell ?_ ?_ _ | with_reducible refine Below.drew ?_ | (simp; done) | (simp; omega) | omega))⟩

end Go.Proofs.YtikioiblaoimkaaGreatDoor
