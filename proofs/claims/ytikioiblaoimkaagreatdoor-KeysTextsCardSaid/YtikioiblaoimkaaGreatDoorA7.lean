import Derived.Test.YtikioiblaoimkaaGreatDoorA6
set_option linter.unusedVariables false
set_option linter.unusedSimpArgs false

/- The iterator over the scenes. -/
namespace Go.Proofs.YtikioiblaoimkaaGreatDoor
open Go.RowKit Go.Shelf Go.Maps
attribute [local go_sem] Oper.semAt_some

def cutQ (R : Act → World → Prop) : Exit → Act → World → Prop
  | .normal, a, w => R a w
  | _, _, _ => False
theorem wpIn_cut {F : Fence} {n : Nat} {P : Program} {c : Code} {Q : Exit → Act → World → Prop} {a : Act} {w : World} (R : Act → World → Prop) (h : c.wpIn F n P (cutQ R) a w) (h2 : ∀ a' w', R a' w' → Q .normal a' w') : c.wpIn F n P Q a w :=
  wpIn_mono h fun e a' w' hr => by cases e <;> first | exact h2 _ _ hr | exact hr.elim
/-- A world in which the blocks of P, and all from b on, lie as they lay. -/
structure KeepQ (b : Nat) (P : Nat → Prop) (W W' : World) : Prop where
  size : W.heap.size ≤ W'.heap.size
  blk : ∀ k, P k → W'.heap[k]? = W.heap[k]?
  new : ∀ k, b ≤ k → k < W.heap.size → W'.heap[k]? = W.heap[k]?
section
variable {b : Nat} {P : Nat → Prop} {W W' : World}
theorem KeepQ.refl (b : Nat) (P : Nat → Prop) (W : World) : KeepQ b P W W := ⟨Nat.le_refl _, fun _ _ => rfl, fun _ _ _ => rfl⟩
theorem KeepQ.trans {X Y Z : World} (h : KeepQ b P X Y) (k : KeepQ b P Y Z) : KeepQ b P X Z := ⟨Nat.le_trans h.size k.size, fun i hi => (k.blk i hi).trans (h.blk i hi), fun i hb hi => (k.new i hb (Nat.lt_of_lt_of_le hi h.size)).trans (h.new i hb hi)⟩
theorem KeepQ.keepP (h : KeepQ b P W W') {P' : Nat → Prop} (hP : ∀ k, P' k → P k ∨ (b ≤ k ∧ k < W.heap.size)) : KeepP P' W W' := ⟨h.size, fun k hk => (hP k hk).elim (h.blk k) fun ⟨h1, h2⟩ => h.new k h1 h2⟩
theorem KeepQ.from (h : KeepQ b P W W') {B : Nat} (hB : b ≤ B) : KeepsFrom B W W' := ⟨h.size, fun k o h1 h2 _ => (h.new k (by omega) (block_lt h2)).trans h2⟩
theorem KeepQ.box (h : KeepQ b P W W') {B : Nat} {t : TypeId} {cs : Array Value} (hb : BoxA W B t cs) (hB : b ≤ B) : BoxA W' B t cs := (h.new B hB hb.lt).trans hb
theorem KeepQ.of_below {B : Nat} (h : Below B W W') (hP : ∀ k, P k → k < B) (hB : W.heap.size ≤ B) : KeepQ b P W W' := ⟨h.size, fun k hk => h.block k (hP k hk), fun k _ hk => h.block k (by omega)⟩
end

/-- The contract of an iterator that holds loops of its own. -/
def SeqO {α : Type} (g : Nat) (lb : Array Value) (encs : α → Array Value) (P : Nat → Prop) (S : List α → Prop) (N : Nat) (w : World) : Prop :=
  ∀ (l : Nat) (J Jx : List α → World → Prop) (W : World), Below w.heap.size w W → OwnFrom W.heap.size J → OwnFrom W.heap.size Jx →
    (∀ m pre x W1, J pre W1 → pre.length < N → YieldAt Fence.wide m Tryz.prog l (encs x) W1 fun e W' =>
      (e = .returned (.bool true) ∧ J (pre ++ [x]) W' ∧ KeepQ W.heap.size P W1 W') ∨ (e = .returned (.bool false) ∧ Jx (pre ++ [x]) W' ∧ KeepQ W.heap.size P W1 W')) →
    J [] W →
    CallsIn Fence.wide 8 Tryz.prog g (#[.func (.yield l) #[] #[]] ++ lb) W fun e W' => (∃ v, e = .returned v) ∧ ((∃ xs, S xs ∧ J xs W') ∨ (∃ pre, Jx pre W'))

/-- A scene: a state of each lock's thread, with its number. -/
abbrev Sc := (Nat × St) × (Nat × St) × (Nat × St)
def scnL (T1 T2 T3 : List Deed) (day : Int) : List Sc := (stsL T1 day).flatMap fun a => (stsL T2 day).flatMap fun b => (stsL T3 day).map fun c => (a, b, c)
def scn2 (T3 : List Deed) (day : Int) (a : Nat × St) (bs : List (Nat × St)) : List Sc := bs.flatMap fun b => (stsL T3 day).map fun c => (a, b, c)
def scn1 (T2 T3 : List Deed) (day : Int) (us : List (Nat × St)) : List Sc := us.flatMap fun a => scn2 T3 day a (stsL T2 day)
theorem scn1_all (T1 T2 T3 : List Deed) (day : Int) : scn1 T2 T3 day (stsL T1 day) = scnL T1 T2 T3 day := rfl
abbrev YC (T1 T2 T3 : List Deed) (day : Int) := { x : Sc // x ∈ scnL T1 T2 T3 day }
def encC {T1 T2 T3 : List Deed} {day : Int} (x : YC T1 T2 T3 day) : Array Value :=
  #[.agg #[.int .i64 x.1.1.1, .int .i64 x.1.2.1.1, .int .i64 x.1.2.2.1, .int .i64 x.1.1.2.holder, .int .i64 x.1.1.2.hand, .bool x.1.1.2.office, .int .i64 x.1.2.1.2.holder, .int .i64 x.1.2.1.2.hand, .bool x.1.2.1.2.office, .int .i64 x.1.2.2.2.holder, .int .i64 x.1.2.2.2.hand, .bool x.1.2.2.2.office]]

theorem ownFrom_up {β : Type} {B B' : Nat} {I : β → World → Prop} (h : OwnFrom B I) (hB : B ≤ B') : OwnFrom B' I := fun s W W' row hs hg hr => h s W W' row hs hg fun r e => ⟨Nat.le_trans hB (hr r e).1, (hr r e).2⟩

/-- What stands between two rounds: what the caller keeps, the blocks of P, the box of yield. -/
def ScI {α : Type} (J : List α → World → Prop) (P : Nat → Prop) (V0 : World) (yb l m : Nat) (c : List α) (W : World) : Prop :=
  J c W ∧ KeepP P V0 W ∧ BoxA W yb 175 #[.func (.yield l) #[] #[]] ∧ m ≤ W.heap.size
theorem ownFrom_keepP {β : Type} {B : Nat} {P : Nat → Prop} (V0 : World) (hP : ∀ k, P k → k < B) (hV : ∀ k, P k → k < V0.heap.size) : OwnFrom B (fun (_ : β) W => KeepP P V0 W) := fun _ X Y row hs hg hr =>
  ⟨Nat.le_trans hs.size hg.size, fun k hk => (hg.block k (Nat.lt_of_lt_of_le (hV k hk) hs.size) fun e => by have := (hr k e.symm).1; have := hP k hk; omega).trans (hs.blk k hk)⟩
theorem keepsFrom_up {B B' : Nat} {W W' : World} (h : KeepsFrom B W W') (hB : B ≤ B') : KeepsFrom B' W W' := ⟨h.size, fun k o h1 h2 h3 => h.same k o (by omega) h2 h3⟩
theorem scn2_len (T3 : List Deed) (day : Int) (a : Nat × St) (us : List (Nat × St)) : (scn2 T3 day a us).length = us.length * (stsL T3 day).length := by
  induction us with
  | nil => simp [scn2]
  | cons u us ih => simp only [scn2, List.flatMap_cons, List.length_append, List.length_map, List.length_cons] at *; rw [ih, Nat.succ_mul]; omega
theorem scn1_len (T2 T3 : List Deed) (day : Int) (us : List (Nat × St)) : (scn1 T2 T3 day us).length = us.length * ((stsL T2 day).length * (stsL T3 day).length) := by
  induction us with
  | nil => simp [scn1]
  | cons u us ih => simp only [scn1, List.flatMap_cons, List.length_append, scn2_len, List.length_cons] at *; rw [ih, Nat.succ_mul]; omega
theorem scn_lt {p1 p2 p3 n1 n2 n3 : Nat} (h1 : p1 < n1) (h2 : p2 < n2) (h3 : p3 < n3) : p1 * (n2 * n3) + p2 * n3 + p3 < n1 * (n2 * n3) := by
  have g1 : (p1 + 1) * (n2 * n3) ≤ n1 * (n2 * n3) := Nat.mul_le_mul_right _ h1
  have g2 : (p2 + 1) * n3 ≤ n2 * n3 := Nat.mul_le_mul_right _ h2
  rw [Nat.succ_mul] at g1 g2
  omega
theorem ScI.own {α : Type} {J : List α → World → Prop} {P : Nat → Prop} {V0 : World} {b yb l m B : Nat} (hJ : OwnFrom b J) (hb : b ≤ B) (hP : ∀ k, P k → k < B) (hV : ∀ k, P k → k < V0.heap.size) (hy : yb < B) : OwnFrom B (ScI J P V0 yb l m) := fun c X Y row hs hg hr =>
  ⟨hJ c X Y row hs.1 hg fun r e => ⟨Nat.le_trans hb (hr r e).1, (hr r e).2⟩,
    ⟨Nat.le_trans hs.2.1.size hg.size, fun k hk => (hg.block k (Nat.lt_of_lt_of_le (hV k hk) hs.2.1.size) fun e => by have := (hr k e.symm).1; have := hP k hk; omega).trans (hs.2.1.blk k hk)⟩,
    hs.2.2.1.kept hg fun e => by have := (hr _ e.symm).1; omega, Nat.le_trans hs.2.2.2 hg.size⟩

theorem ScI.ext {α : Type} {J : List α → World → Prop} {P : Nat → Prop} {V0 : World} {b yb l m : Nat} (hJ : OwnFrom b J) (hV : ∀ k, P k → k < V0.heap.size) {c : List α} {U U' : World} (h : ScI J P V0 yb l m c U) (hb : Below U.heap.size U U') : ScI J P V0 yb l m c U' :=
  ⟨hJ c U U' none h.1 (grown_of_below hb) (by simp), h.2.1.trans (KeepP.of_below hb fun k hk => Nat.lt_of_lt_of_le (hV k hk) h.2.1.size), h.2.2.1.ext hb, Nat.le_trans h.2.2.2 hb.size⟩
theorem ScI.up {α : Type} {J : List α → World → Prop} {P : Nat → Prop} {V0 : World} {yb l m m' : Nat} {c : List α} {U : World} (h : ScI J P V0 yb l m c U) (hm : m' ≤ m) : ScI J P V0 yb l m' c U := ⟨h.1, h.2.1, h.2.2.1, Nat.le_trans hm h.2.2.2⟩
theorem scn1_snoc (T2 T3 : List Deed) (day : Int) (us : List (Nat × St)) (u : Nat × St) : scn1 T2 T3 day (us ++ [u]) = scn1 T2 T3 day us ++ scn2 T3 day u (stsL T2 day) := by simp [scn1]
theorem scn2_snoc (T3 : List Deed) (day : Int) (a : Nat × St) (us : List (Nat × St)) (u : Nat × St) : scn2 T3 day a (us ++ [u]) = scn2 T3 day a us ++ (stsL T3 day).map fun c => (a, u, c) := by simp [scn2]

set_option maxRecDepth 100000 in
set_option maxHeartbeats 4000000 in
theorem p_scenes (day : Int) (bm : Nat) (w : World) :
    Calls Tryz.prog 92 #[.map (some bm), .int .i64 day] w fun e w' => e = .returned (.func (.func 126) #[] #[.pointer (some ⟨w.heap.size, 0, none⟩), .pointer (some ⟨w.heap.size + 1, 0, none⟩)]) ∧ w' = (w.alloc (.cells #[.map (some bm)] 99)).alloc (.cells #[.int .i64 day] 3) := by
  go_enter Tryz.func92, Tryz.ntmps92
  go_wp2
  go_ret
  exact ⟨rfl, rfl⟩

set_option maxRecDepth 100000 in
set_option maxHeartbeats 4000000 in
theorem scenes_in (S : Nm → TL) (day : Int) (ba bd lo B bm : Nat) (P : Nat → Prop) (w : World) (hS : ∀ n, (S n).length ≤ 1000)
    (hPl : ∀ k, lo ≤ k → k < B → P k) (hPa : P ba) (hPd : P bd) (hPw : ∀ k, P k → k < w.heap.size) (hB : B ≤ w.heap.size)
    (bA : BoxA w ba 99 #[.map (some bm)]) (bD : BoxA w bd 3 #[.int .i64 day]) (hT : ThR w lo B bm S) :
    SeqO 126 #[.pointer (some ⟨ba, 0, none⟩), .pointer (some ⟨bd, 0, none⟩)] (encC (T1 := (S (1, 0)).map (·.1)) (T2 := (S (2, 0)).map (·.1)) (T3 := (S (3, 0)).map (·.1)) (day := day)) P
      (fun ys => ys.map (·.1) = scnL ((S (1, 0)).map (·.1)) ((S (2, 0)).map (·.1)) ((S (3, 0)).map (·.1)) day) (scnL ((S (1, 0)).map (·.1)) ((S (2, 0)).map (·.1)) ((S (3, 0)).map (·.1)) day).length w := by
  intro l J Jx W hW hJ hJx hY h0
  have h1 : 1 ≤ 8 := by omega
  have hmo : Tryz.prog.follows .mixedOrders = true := by kernel_rfl
  have hPW : ∀ k, P k → k < W.heap.size := fun k hk => Nat.lt_of_lt_of_le (hPw k hk) hW.size
  have bA0 : BoxA W ba 99 #[.map (some bm)] := bA.ext hW
  have bD0 : BoxA W bd 3 #[.int .i64 day] := bD.ext hW
  have hT0 : ThR W lo B bm S := hT.below (hW.mono hB)
  have hBW : B ≤ W.heap.size := Nat.le_trans hB hW.size
  clear bA bD hT hW hPw hB
  (refine callsIn_of_wp_marks Tryz.func126 rfl trivial ?_ rfl; simp only [Tryz.ntmps126, List.size_toArray, List.length_cons, List.length_nil, Nat.reduceAdd, Nat.reduceSub, Array.replicate_succ, Array.replicate_zero, List.push_toArray, List.append_toArray, List.nil_append, List.cons_append])
  have d0 := bD0.cell 0
  have hba := bA0.lt
  have hbd := bD0.lt
  gi_wp2
  refine wpIn_named2 fun f0 V0 hf0 hV0 => ?_
  have HSV : Hid (V0.heap.size = W.heap.size + 1) := by show _ = _; rw [← hV0]; simp
  have hbV : Below W.heap.size W V0 := by rw [← hV0]; exact (Below.refl _ _).alloc (Nat.le_refl _) _
  have bY1 : BoxA V0 W.heap.size 175 #[.func (.yield l) #[] #[]] := by rw [← hV0]; exact BoxA.new W _ _
  have bA1 := bA0.ext hbV
  have bD1 := bD0.ext hbV
  have hT1 := hT0.below (hbV.mono hBW)
  have hJ1 : J [] V0 := hJ _ _ _ none h0 (grown_of_below hbV) (by simp)
  clear hV0 h0
  obtain ⟨Ad, Ai, As, cd, ci, cs, hlook, hthr⟩ := (hT1.keep (w' := V0.drew) fun _ _ _ => rfl).look (a := 1) (c := 0) (wf2_small (by omega) (by omega) (by omega) (by omega))
  have hthr1 : ThrAt V0 lo B (S (1, 0)) Ad Ai As cd ci cs := hthr.keep fun _ _ _ => rfl
  have a0 := bA1.cell 0
  have d0 := bD1.cell 0
  refine wpIn_cut (fun a' W' => a' = { tmps := ((((f0.tmps.setIfInBounds 10 (.map (some bm))).setIfInBounds 11 (nk 1 0)).setIfInBounds 12 (.agg #[.slice Ad (S (1, 0)).length cd, .slice Ai (S (1, 0)).length ci, .slice As (S (1, 0)).length cs])).setIfInBounds 13 (.int .i64 day)).setIfInBounds 14 (.func (.func 95) #[] #[.pointer (some ⟨V0.heap.size, 0, none⟩), .pointer (some ⟨V0.heap.size + 1, 0, none⟩)]), defers := [] } ∧ W' = (V0.drew.alloc (.cells #[.slice Ad (S (1, 0)).length cd, .slice Ai (S (1, 0)).length ci, .slice As (S (1, 0)).length cs] 98)).alloc (.cells #[.int .i64 day] 3)) ?reg ?rest
  case reg =>
    subst hf0
    gi_region_with_o (refine ⟨trivial, ?_⟩; gi_at_call 59; refine (callsIn_wide.2 (p_states day _ _ _ _)).mono ?_; rintro e w5 ⟨rfl, hw5⟩)
    all_goals exact ⟨rfl, rfl⟩
  case rest =>
    clear hlook hthr
    subst hf0
    rintro a' W1 ⟨rfl, hW0⟩
    simp only [List.setIfInBounds_toArray, List.set_cons_zero, List.set_cons_succ]
    gi_wp2
    refine wpIn_named2 fun f1 W1' hf1 hW1' => ?_
    subst hW1'
    have HS1 : Hid (W1.heap.size = V0.heap.size + 2) := by show _ = _; rw [hW0]; simp [drew_heap]
    have hb1 : Below V0.heap.size V0 W1 := by rw [hW0]; exact (((Below.refl _ _).drew).alloc (Nat.le_refl _) _).alloc (by simp [drew_heap]) _
    have hW0' := hW0.symm
    clear hW0
    have hW0 := hW0'
    clear hW0'
    have bT : BoxA W1 V0.heap.size 98 #[.slice Ad (S (1, 0)).length cd, .slice Ai (S (1, 0)).length ci, .slice As (S (1, 0)).length cs] := by (rw [← hW0]; simp only [boxed_iff, boxa_iff, alloc_get, drew_heap, World.size_alloc]; (repeat (first | rw [if_pos trivial] | rw [if_pos (by omega)] | rw [if_neg (by omega)])))
    have bDD : BoxA W1 (V0.heap.size + 1) 3 #[.int .i64 day] := by (rw [← hW0]; simp only [boxed_iff, boxa_iff, alloc_get, drew_heap, World.size_alloc]; (repeat (first | rw [if_pos trivial] | rw [if_pos (by omega)] | rw [if_neg (by omega)])))
    clear hW0
    have hPV : ∀ k, P k → k < V0.heap.size := fun k hk => by have := hPW k hk; have := HSV.out; omega
    have hPw1 : ∀ k, (P k ∨ k = V0.heap.size ∨ k = V0.heap.size + 1) → k < W1.heap.size := fun k hk => by
      have := HS1.out
      rcases hk with hk | hk | hk
      · have := hPV k hk; omega
      · omega
      · omega
    have hbB : B ≤ V0.heap.size := by have := HSV.out; omega
    have hthr2 := hthr1.below (hb1.mono hbB)
    have hI0 : ScI J P V0 W.heap.size l W1.heap.size [] W1 := ⟨hJ _ _ _ none hJ1 (grown_of_below hb1) (by simp), KeepP.of_below hb1 hPV, bY1.ext hb1, Nat.le_refl _⟩
    refine wpIn_rangeFunc_ownH rfl h1 (gf := 95) (lb := #[.pointer (some ⟨V0.heap.size, 0, none⟩), .pointer (some ⟨V0.heap.size + 1, 0, none⟩)]) (by subst hf1; rfl) trivial (enters_of Tryz.func95 (by kernel_rfl) rfl)
      (states_stops 7 (by omega) V0.heap.size (V0.heap.size + 1) lo B (fun k => P k ∨ k = V0.heap.size ∨ k = V0.heap.size + 1) (S (1, 0)) day Ad Ai As cd ci cs W1 (hS _) (fun k h2 h3 => .inl (hPl k h2 h3)) (.inr (.inl rfl)) (.inr (.inr rfl)) hPw1 (by have := HS1.out; omega) (bT.cell 0) (bT.cell 1) (bT.cell 2) (bDD.cell 0) hthr2)
      keepP_t (keepP_b hPw1) (Below.refl _ _) (fun _ => rfl)
      (fun (pre : List (YS ((S (1, 0)).map (·.1)) day)) U => ∃ c, c.map (·.1) = scn1 ((S (2, 0)).map (·.1)) ((S (3, 0)).map (·.1)) day (pre.map (·.1)) ∧ ScI J P V0 W.heap.size l W1.heap.size c U)
      (fun c _ U => c = .ret ∧ ∃ s, Jx s U)
      (fun pre X Y row hs hg hr => by
        obtain ⟨c, hc, hs⟩ := hs
        exact ⟨c, hc, ScI.own hJ (by have := HS1.out; have := HSV.out; omega) (fun k hk => hPw1 k (.inl hk)) hPV (by have := HS1.out; have := HSV.out; omega) c X Y row hs hg hr⟩)
      (fun c pre X Y row hs hg hr => ⟨hs.1, by
        obtain ⟨s, hs⟩ := hs.2
        exact ⟨s, ownFrom_up hJx (by have := HS1.out; have := HSV.out; omega) s X Y row hs hg hr⟩⟩)
      ⟨[], rfl, hI0⟩
      (fun x a' U => ∃ B4 B5, W1.heap.size ≤ B4 ∧ W1.heap.size ≤ B5 ∧ BoxA U B4 3 #[.int .i64 x.1.1] ∧ BoxA U B5 89 #[.int .i64 x.1.2.holder, .int .i64 x.1.2.hand, .bool x.1.2.office] ∧ a' = { tmps := (((f1.tmps.setIfInBounds 15 (.int .i64 x.1.1)).setIfInBounds 16 (stV x.1.2)).setIfInBounds 4 (.pointer (some ⟨B4, 0, none⟩))).setIfInBounds 5 (.pointer (some ⟨B5, 0, none⟩)), defers := [] })
      (fun x a' _ X Y row hs hg hr => by obtain ⟨B4, B5, g1, g2, g3, g4, g5⟩ := hs; exact ⟨B4, B5, g1, g2, boxa_own B4 _ (fun (_ : Unit) => _) () X Y row g3 hg (fun r e => (hr r e).2), boxa_own B5 _ (fun (_ : Unit) => _) () X Y row g4 hg (fun r e => (hr r e).2), g5⟩)
      ?assign ?body ?done ?stop
    case assign =>
      subst hf1
      rintro l1 pre x U K ⟨c, hc, hI⟩ hK
      simp only [encS, stV]
      gi_wp2
      have hbU : Below U.heap.size U ((U.alloc (.cells #[.int .i64 x.1.1] 3)).alloc (.cells #[.int .i64 x.1.2.holder, .int .i64 x.1.2.hand, .bool x.1.2.office] 89)) := ((Below.refl _ _).alloc (Nat.le_refl _) _).alloc (by simp) _
      have hUs := hI.2.2.2
      exact hK _ _ ((keeps_of_below hbU).from _) (KeepP.of_below hbU fun k hk => Nat.lt_of_lt_of_le (hPw1 k hk) hUs) ⟨c, hc, hI.ext hJ hPV hbU⟩ ⟨U.heap.size, U.heap.size + 1, hUs, by omega, (BoxA.new U _ _).alloc _, by
        have := BoxA.new (U.alloc (.cells #[.int .i64 x.1.1] 3)) 89 #[.int .i64 x.1.2.holder, .int .i64 x.1.2.hand, .bool x.1.2.office]
        rwa [World.size_alloc] at this, rfl⟩
    case body =>
      subst hf1
      rintro l1 pre1 x1 a' U1 hl1 ⟨r1, hr1⟩ ⟨c1, hc1, hI1⟩ ⟨B4, B5, hB4, hB5, b4, b5, rfl⟩ hlt1
      simp only [List.setIfInBounds_toArray, List.set_cons_zero, List.set_cons_succ]
      have bA2 : BoxA U1 ba 99 #[.map (some bm)] := (hI1.2.1.blk ba hPa).trans bA1
      have bD2 : BoxA U1 bd 3 #[.int .i64 day] := (hI1.2.1.blk bd hPd).trans bD1
      have hT2 := hT1.keep fun k h2 h3 => hI1.2.1.blk k (hPl k h2 h3)
      obtain ⟨Ae, Aj, At, ce, cj, ct, hlook, hthr⟩ := (hT2.keep (w' := U1.drew) fun _ _ _ => rfl).look (a := 2) (c := 0) (wf2_small (by omega) (by omega) (by omega) (by omega))
      have hthr3 : ThrAt U1 lo B (S (2, 0)) Ae Aj At ce cj ct := hthr.keep fun _ _ _ => rfl
      have a2 := bA2.cell 0
      have d2 := bD2.cell 0
      have HSU1 := Lib.hid hI1.2.2.2
      gi_wp2
      refine wpIn_named2 fun f2 V1 hf2 hV1 => ?_
      subst hV1
      refine wpIn_cut (fun a' W' => a' = { tmps := ((((f2.tmps.setIfInBounds 17 (.map (some bm))).setIfInBounds 18 (nk 2 0)).setIfInBounds 19 (.agg #[.slice Ae (S (2, 0)).length ce, .slice Aj (S (2, 0)).length cj, .slice At (S (2, 0)).length ct])).setIfInBounds 20 (.int .i64 day)).setIfInBounds 21 (.func (.func 95) #[] #[.pointer (some ⟨U1.heap.size, 0, none⟩), .pointer (some ⟨U1.heap.size + 1, 0, none⟩)]), defers := [] } ∧ W' = (U1.drew.alloc (.cells #[.slice Ae (S (2, 0)).length ce, .slice Aj (S (2, 0)).length cj, .slice At (S (2, 0)).length ct] 98)).alloc (.cells #[.int .i64 day] 3)) ?reg2 ?rest2
      case reg2 =>
        subst hf2
        gi_region_with_o (refine ⟨trivial, ?_⟩; gi_at_call 59; refine (CallsIn.inRound l1 (callsIn_wide.2 (p_states day _ _ _ _))).mono ?_; rintro e w5 ⟨rfl, hw5⟩)
        all_goals exact ⟨rfl, rfl⟩
      case rest2 =>
        clear hlook hthr
        subst hf2
        rintro a' W2 ⟨rfl, hW0⟩
        simp only [List.setIfInBounds_toArray, List.set_cons_zero, List.set_cons_succ]
        gi_wp2
        refine wpIn_named2 fun f3 W2' hf3 hW2' => ?_
        subst hW2'
        have HS2 : Hid (W2.heap.size = U1.heap.size + 2) := by show _ = _; rw [hW0]; simp [drew_heap]
        have hb2 : Below U1.heap.size U1 W2 := by rw [hW0]; exact (((Below.refl _ _).drew).alloc (Nat.le_refl _) _).alloc (by simp [drew_heap]) _
        have hW0' := hW0.symm
        clear hW0
        have hW0 := hW0'
        clear hW0'
        have bT2 : BoxA W2 U1.heap.size 98 #[.slice Ae (S (2, 0)).length ce, .slice Aj (S (2, 0)).length cj, .slice At (S (2, 0)).length ct] := by (rw [← hW0]; simp only [boxed_iff, boxa_iff, alloc_get, drew_heap, World.size_alloc]; (repeat (first | rw [if_pos trivial] | rw [if_pos (by omega)] | rw [if_neg (by omega)])))
        have bDD2 : BoxA W2 (U1.heap.size + 1) 3 #[.int .i64 day] := by (rw [← hW0]; simp only [boxed_iff, boxa_iff, alloc_get, drew_heap, World.size_alloc]; (repeat (first | rw [if_pos trivial] | rw [if_pos (by omega)] | rw [if_neg (by omega)])))
        clear hW0
        have hPU : ∀ k, (P k ∨ k = V0.heap.size ∨ k = V0.heap.size + 1) → k < U1.heap.size := fun k hk => Nat.lt_of_lt_of_le (hPw1 k hk) HSU1.out
        have hPw2 : ∀ k, (P k ∨ k = U1.heap.size ∨ k = U1.heap.size + 1) → k < W2.heap.size := fun k hk => by
          have := HS2.out
          rcases hk with hk | hk | hk
          · have := hPU k (.inl hk); omega
          · omega
          · omega
        have hBU : B ≤ U1.heap.size := by have := HS1.out; have := HSU1.out; omega
        have hthr4 := hthr3.below (hb2.mono hBU)
        have hr2 : W2.heap[l1]? = some (.loop r1) := (hb2.block l1 (block_lt hr1)).trans hr1
        have h1' : 1 ≤ 8 - 1 - 1 := by omega
        refine wpIn_rangeFunc_ownN (l₀ := l1) (r₀ := r1) rfl hr2 h1' (gf := 95) (lb := #[.pointer (some ⟨U1.heap.size, 0, none⟩), .pointer (some ⟨U1.heap.size + 1, 0, none⟩)]) (by subst hf3; rfl) trivial (enters_of Tryz.func95 (by kernel_rfl) rfl)
          ((states_stops 5 (by omega) U1.heap.size (U1.heap.size + 1) lo B (fun k => P k ∨ k = U1.heap.size ∨ k = U1.heap.size + 1) (S (2, 0)) day Ae Aj At ce cj ct W2 (hS _) (fun k h2 h3 => .inl (hPl k h2 h3)) (.inr (.inl rfl)) (.inr (.inr rfl)) hPw2 (Nat.le_trans hBU hb2.size) (bT2.cell 0) (bT2.cell 1) (bT2.cell 2) (bDD2.cell 0) hthr4).inRound l1)
          keepP_t (keepP_b hPw2) (Below.refl _ _) (fun _ => rfl)
          (fun (pre2 : List (YS ((S (2, 0)).map (·.1)) day)) U => (∃ c, c.map (·.1) = scn1 ((S (2, 0)).map (·.1)) ((S (3, 0)).map (·.1)) day (pre1.map (·.1)) ++ scn2 ((S (3, 0)).map (·.1)) day x1.1 (pre2.map (·.1)) ∧ ScI J P V0 W.heap.size l W2.heap.size c U) ∧
            (BoxA U B4 3 #[.int .i64 x1.1.1] ∧ BoxA U B5 89 #[.int .i64 x1.1.2.holder, .int .i64 x1.1.2.hand, .bool x1.1.2.office]) ∧ (KeepP (fun k => P k ∨ k = V0.heap.size ∨ k = V0.heap.size + 1) U1 U ∧ KeepsFrom W1.heap.size U1 U))
          (fun c _ U => (c = .ret ∧ ∃ s, Jx s U) ∧ KeepsFrom W1.heap.size U1 U)
          (fun pre X Y row hs hg hr => by
            obtain ⟨⟨c, hc, hs1⟩, ⟨q4, q5⟩, hkp, hkf⟩ := hs
            exact ⟨⟨c, hc, ScI.own hJ (by have := HS1.out; have := HSV.out; have := HSU1.out; have := HS2.out; omega) (fun k hk => hPw2 k (.inl hk)) hPV (by have := HS1.out; have := HSV.out; have := HSU1.out; have := HS2.out; omega) c X Y row hs1 hg hr⟩,
              ⟨boxa_own B4 _ (fun (_ : Unit) => _) () X Y row q4 hg (fun r e => (hr r e).2), boxa_own B5 _ (fun (_ : Unit) => _) () X Y row q5 hg (fun r e => (hr r e).2)⟩,
              ownFrom_keepP U1 (fun k hk => Nat.lt_of_lt_of_le (hPU k hk) hb2.size) hPU () X Y row hkp hg hr, ownFrom_keepsFrom hb2.size () X Y row hkf hg hr⟩)
          (fun c pre X Y row hs hg hr => ⟨⟨hs.1.1, by
            obtain ⟨s, hs⟩ := hs.1.2
            exact ⟨s, ownFrom_up hJx (by have := HS1.out; have := HSV.out; have := HSU1.out; have := HS2.out; omega) s X Y row hs hg hr⟩⟩, ownFrom_keepsFrom hb2.size () X Y row hs.2 hg hr⟩)
          ⟨⟨c1, by rw [hc1]; simp [scn2], by have h := hI1.ext hJ hPV hb2; exact ⟨h.1, h.2.1, h.2.2.1, Nat.le_refl _⟩⟩, ⟨b4.ext hb2, b5.ext hb2⟩, KeepP.of_below hb2 hPU, (keeps_of_below hb2).from _⟩
          (fun x a' U => ∃ B6 B7, W2.heap.size ≤ B6 ∧ W2.heap.size ≤ B7 ∧ BoxA U B6 3 #[.int .i64 x.1.1] ∧ BoxA U B7 89 #[.int .i64 x.1.2.holder, .int .i64 x.1.2.hand, .bool x.1.2.office] ∧ a' = { tmps := (((f3.tmps.setIfInBounds 22 (.int .i64 x.1.1)).setIfInBounds 23 (stV x.1.2)).setIfInBounds 6 (.pointer (some ⟨B6, 0, none⟩))).setIfInBounds 7 (.pointer (some ⟨B7, 0, none⟩)), defers := [] })
          (fun x a' _ X Y row hs hg hr => by obtain ⟨B6, B7, g1, g2, g3, g4, g5⟩ := hs; exact ⟨B6, B7, g1, g2, boxa_own B6 _ (fun (_ : Unit) => _) () X Y row g3 hg (fun r e => (hr r e).2), boxa_own B7 _ (fun (_ : Unit) => _) () X Y row g4 hg (fun r e => (hr r e).2), g5⟩)
          ?assign2 ?body2 ?done2 ?stop2
        case assign2 =>
          subst hf3
          rintro l2 pre x U K ⟨⟨c, hc, hI⟩, ⟨q4, q5⟩, hkp, hkf⟩ hK
          simp only [encS, stV]
          gi_wp2
          have hbU : Below U.heap.size U ((U.alloc (.cells #[.int .i64 x.1.1] 3)).alloc (.cells #[.int .i64 x.1.2.holder, .int .i64 x.1.2.hand, .bool x.1.2.office] 89)) := ((Below.refl _ _).alloc (Nat.le_refl _) _).alloc (by simp) _
          have hUs := hI.2.2.2
          exact hK _ _ ((keeps_of_below hbU).from _) (KeepP.of_below hbU fun k hk => Nat.lt_of_lt_of_le (hPw2 k hk) hUs) ⟨⟨c, hc, hI.ext hJ hPV hbU⟩, ⟨q4.ext hbU, q5.ext hbU⟩, hkp.trans (KeepP.of_below hbU fun k hk => Nat.lt_of_lt_of_le (hPU k hk) hkp.size), hkf.trans ((keeps_of_below hbU).from _)⟩ ⟨U.heap.size, U.heap.size + 1, hUs, by omega, (BoxA.new U _ _).alloc _, by
            have := BoxA.new (U.alloc (.cells #[.int .i64 x.1.1] 3)) 89 #[.int .i64 x.1.2.holder, .int .i64 x.1.2.hand, .bool x.1.2.office]
            rwa [World.size_alloc] at this, rfl⟩
        case body2 =>
          subst hf3
          rintro l2 pre2 x2 a' U2 hl2 ⟨r2, hr2⟩ ⟨⟨c2, hc2, hI2⟩, ⟨q4, q5⟩, hkp2, hkf2⟩ ⟨B6, B7, hB6, hB7, b6, b7, rfl⟩ hlt2
          simp only [List.setIfInBounds_toArray, List.set_cons_zero, List.set_cons_succ]
          have bA3 : BoxA U2 ba 99 #[.map (some bm)] := (hI2.2.1.blk ba hPa).trans bA1
          have bD3 : BoxA U2 bd 3 #[.int .i64 day] := (hI2.2.1.blk bd hPd).trans bD1
          have hT3 := hT1.keep fun k h2 h3 => hI2.2.1.blk k (hPl k h2 h3)
          obtain ⟨Ag, Ah, Ak, cg, ch, ck, hlook, hthr⟩ := (hT3.keep (w' := U2.drew) fun _ _ _ => rfl).look (a := 3) (c := 0) (wf2_small (by omega) (by omega) (by omega) (by omega))
          have hthr5 : ThrAt U2 lo B (S (3, 0)) Ag Ah Ak cg ch ck := hthr.keep fun _ _ _ => rfl
          have a3 := bA3.cell 0
          have d3 := bD3.cell 0
          have HSU2 := Lib.hid hI2.2.2.2
          gi_wp2
          refine wpIn_named2 fun f4 V2 hf4 hV2 => ?_
          subst hV2
          refine wpIn_cut (fun a' W' => a' = { tmps := ((((f4.tmps.setIfInBounds 24 (.map (some bm))).setIfInBounds 25 (nk 3 0)).setIfInBounds 26 (.agg #[.slice Ag (S (3, 0)).length cg, .slice Ah (S (3, 0)).length ch, .slice Ak (S (3, 0)).length ck])).setIfInBounds 27 (.int .i64 day)).setIfInBounds 28 (.func (.func 95) #[] #[.pointer (some ⟨U2.heap.size, 0, none⟩), .pointer (some ⟨U2.heap.size + 1, 0, none⟩)]), defers := [] } ∧ W' = (U2.drew.alloc (.cells #[.slice Ag (S (3, 0)).length cg, .slice Ah (S (3, 0)).length ch, .slice Ak (S (3, 0)).length ck] 98)).alloc (.cells #[.int .i64 day] 3)) ?reg3 ?rest3
          case reg3 =>
            subst hf4
            gi_region_with_o (refine ⟨trivial, ?_⟩; gi_at_call 59; refine (CallsIn.inRound l2 (callsIn_wide.2 (p_states day _ _ _ _))).mono ?_; rintro e w5 ⟨rfl, hw5⟩)
            all_goals exact ⟨rfl, rfl⟩
          case rest3 =>
            clear hlook hthr
            subst hf4
            rintro a' W3 ⟨rfl, hW0⟩
            simp only [List.setIfInBounds_toArray, List.set_cons_zero, List.set_cons_succ]
            gi_wp2
            refine wpIn_named2 fun f5 W3' hf5 hW3' => ?_
            subst hW3'
            have HS3 : Hid (W3.heap.size = U2.heap.size + 2) := by show _ = _; rw [hW0]; simp [drew_heap]
            have hb3 : Below U2.heap.size U2 W3 := by rw [hW0]; exact (((Below.refl _ _).drew).alloc (Nat.le_refl _) _).alloc (by simp [drew_heap]) _
            have hW0' := hW0.symm
            clear hW0
            have hW0 := hW0'
            clear hW0'
            have bT3 : BoxA W3 U2.heap.size 98 #[.slice Ag (S (3, 0)).length cg, .slice Ah (S (3, 0)).length ch, .slice Ak (S (3, 0)).length ck] := by (rw [← hW0]; simp only [boxed_iff, boxa_iff, alloc_get, drew_heap, World.size_alloc]; (repeat (first | rw [if_pos trivial] | rw [if_pos (by omega)] | rw [if_neg (by omega)])))
            have bDD3 : BoxA W3 (U2.heap.size + 1) 3 #[.int .i64 day] := by (rw [← hW0]; simp only [boxed_iff, boxa_iff, alloc_get, drew_heap, World.size_alloc]; (repeat (first | rw [if_pos trivial] | rw [if_pos (by omega)] | rw [if_neg (by omega)])))
            clear hW0
            have hPQ : ∀ k, (P k ∨ k = V0.heap.size ∨ k = V0.heap.size + 1 ∨ k = U1.heap.size ∨ k = U1.heap.size + 1) → k < U2.heap.size := fun k hk => by
              have := HSU2.out
              have := hb2.size
              rcases hk with hk | hk | hk | hk | hk
              · have := hPw2 k (.inl hk); omega
              · have := hPU k (.inr (.inl hk)); omega
              · have := hPU k (.inr (.inr hk)); omega
              · have := hPw2 k (.inr (.inl hk)); omega
              · have := hPw2 k (.inr (.inr hk)); omega
            have hPw3 : ∀ k, (P k ∨ k = U2.heap.size ∨ k = U2.heap.size + 1) → k < W3.heap.size := fun k hk => by
              have := HS3.out
              rcases hk with hk | hk | hk
              · have := hPQ k (.inl hk); omega
              · omega
              · omega
            have hBU2 : B ≤ U2.heap.size := by have := HS2.out; have := HSU2.out; omega
            have hthr6 := hthr5.below (hb3.mono hBU2)
            have hr3 : W3.heap[l2]? = some (.loop r2) := (hb3.block l2 (block_lt hr2)).trans hr2
            have h1'' : 1 ≤ 8 - 1 - 1 - 1 - 1 := by omega
            refine wpIn_rangeFunc_ownN (l₀ := l2) (r₀ := r2) rfl hr3 h1'' (gf := 95) (lb := #[.pointer (some ⟨U2.heap.size, 0, none⟩), .pointer (some ⟨U2.heap.size + 1, 0, none⟩)]) (by subst hf5; rfl) trivial (enters_of Tryz.func95 (by kernel_rfl) rfl)
              ((states_stops 3 (by omega) U2.heap.size (U2.heap.size + 1) lo B (fun k => P k ∨ k = U2.heap.size ∨ k = U2.heap.size + 1) (S (3, 0)) day Ag Ah Ak cg ch ck W3 (hS _) (fun k h2 h3 => .inl (hPl k h2 h3)) (.inr (.inl rfl)) (.inr (.inr rfl)) hPw3 (Nat.le_trans hBU2 hb3.size) (bT3.cell 0) (bT3.cell 1) (bT3.cell 2) (bDD3.cell 0) hthr6).inRound l2)
              keepP_t (keepP_b hPw3) (Below.refl _ _) (fun _ => rfl)
              (fun (pre3 : List (YS ((S (3, 0)).map (·.1)) day)) U => (∃ c, c.map (·.1) = scn1 ((S (2, 0)).map (·.1)) ((S (3, 0)).map (·.1)) day (pre1.map (·.1)) ++ scn2 ((S (3, 0)).map (·.1)) day x1.1 (pre2.map (·.1)) ++ (pre3.map (·.1)).map (fun z => (x1.1, x2.1, z)) ∧ ScI J P V0 W.heap.size l W3.heap.size c U) ∧
                ((BoxA U B4 3 #[.int .i64 x1.1.1] ∧ BoxA U B5 89 #[.int .i64 x1.1.2.holder, .int .i64 x1.1.2.hand, .bool x1.1.2.office]) ∧ (BoxA U B6 3 #[.int .i64 x2.1.1] ∧ BoxA U B7 89 #[.int .i64 x2.1.2.holder, .int .i64 x2.1.2.hand, .bool x2.1.2.office])) ∧
                (KeepP (fun k => P k ∨ k = V0.heap.size ∨ k = V0.heap.size + 1 ∨ k = U1.heap.size ∨ k = U1.heap.size + 1) U2 U ∧ KeepsFrom W1.heap.size U2 U))
              (fun c _ U => (c = .ret ∧ ∃ s, Jx s U) ∧ KeepsFrom W1.heap.size U2 U)
              (fun pre X Y row hs hg hr => by
                obtain ⟨⟨c, hc, hs1⟩, ⟨⟨q4, q5⟩, q6, q7⟩, hkp, hkf⟩ := hs
                exact ⟨⟨c, hc, ScI.own hJ (by have := HS1.out; have := HSV.out; have := HSU1.out; have := HS2.out; have := HSU2.out; have := HS3.out; omega) (fun k hk => hPw3 k (.inl hk)) hPV (by have := HS1.out; have := HSV.out; have := HSU1.out; have := HS2.out; have := HSU2.out; have := HS3.out; omega) c X Y row hs1 hg hr⟩,
                  ⟨⟨boxa_own B4 _ (fun (_ : Unit) => _) () X Y row q4 hg (fun r e => (hr r e).2), boxa_own B5 _ (fun (_ : Unit) => _) () X Y row q5 hg (fun r e => (hr r e).2)⟩, boxa_own B6 _ (fun (_ : Unit) => _) () X Y row q6 hg (fun r e => (hr r e).2), boxa_own B7 _ (fun (_ : Unit) => _) () X Y row q7 hg (fun r e => (hr r e).2)⟩,
                  ownFrom_keepP U2 (fun k hk => Nat.lt_of_lt_of_le (hPQ k hk) hb3.size) hPQ () X Y row hkp hg hr, ownFrom_keepsFrom hb3.size () X Y row hkf hg hr⟩)
              (fun c pre X Y row hs hg hr => ⟨⟨hs.1.1, by
                obtain ⟨s, hs⟩ := hs.1.2
                exact ⟨s, ownFrom_up hJx (by have := HS1.out; have := HSV.out; have := HSU1.out; have := HS2.out; have := HSU2.out; have := HS3.out; omega) s X Y row hs hg hr⟩⟩, ownFrom_keepsFrom hb3.size () X Y row hs.2 hg hr⟩)
              ⟨⟨c2, by rw [hc2]; simp, by have h := hI2.ext hJ hPV hb3; exact ⟨h.1, h.2.1, h.2.2.1, Nat.le_refl _⟩⟩, ⟨⟨q4.ext hb3, q5.ext hb3⟩, b6.ext hb3, b7.ext hb3⟩, KeepP.of_below hb3 hPQ, (keeps_of_below hb3).from _⟩
              (fun x a' U => ∃ B9, W3.heap.size ≤ B9 ∧ BoxA U B9 89 #[.int .i64 x.1.2.holder, .int .i64 x.1.2.hand, .bool x.1.2.office] ∧ a' = { tmps := (((f5.tmps.setIfInBounds 29 (.int .i64 x.1.1)).setIfInBounds 30 (stV x.1.2)).setIfInBounds 8 (.int .i64 x.1.1)).setIfInBounds 9 (.pointer (some ⟨B9, 0, none⟩)), defers := [] })
              (fun x a' _ X Y row hs hg hr => by obtain ⟨B9, g1, g3, g5⟩ := hs; exact ⟨B9, g1, boxa_own B9 _ (fun (_ : Unit) => _) () X Y row g3 hg (fun r e => (hr r e).2), g5⟩)
              ?assign3 ?body3 ?done3 ?stop3
            case assign3 =>
              subst hf5
              rintro l3 pre x U K ⟨⟨c, hc, hI⟩, ⟨⟨q4, q5⟩, q6, q7⟩, hkp, hkf⟩ hK
              simp only [encS, stV]
              gi_wp2
              have hbU : Below U.heap.size U (U.alloc (.cells #[.int .i64 x.1.2.holder, .int .i64 x.1.2.hand, .bool x.1.2.office] 89)) := (Below.refl _ _).alloc (Nat.le_refl _) _
              have hUs := hI.2.2.2
              exact hK _ _ ((keeps_of_below hbU).from _) (KeepP.of_below hbU fun k hk => Nat.lt_of_lt_of_le (hPw3 k hk) hUs) ⟨⟨c, hc, hI.ext hJ hPV hbU⟩, ⟨⟨q4.ext hbU, q5.ext hbU⟩, q6.ext hbU, q7.ext hbU⟩, hkp.trans (KeepP.of_below hbU fun k hk => Nat.lt_of_lt_of_le (hPQ k hk) hkp.size), hkf.trans ((keeps_of_below hbU).from _)⟩ ⟨U.heap.size, hUs, BoxA.new U _ _, rfl⟩
            case body3 =>
              subst hf5
              rintro l3 pre3 x3 a' U3 hl3 ⟨r3, hr3'⟩ ⟨⟨c3, hc3, hI3⟩, ⟨⟨q4, q5⟩, q6, q7⟩, hkp3, hkf3⟩ ⟨B9, hB9, b9, rfl⟩ hlt3
              simp only [List.setIfInBounds_toArray, List.set_cons_zero, List.set_cons_succ]
              have hmem : (x1.1, x2.1, x3.1) ∈ scnL ((S (1, 0)).map (·.1)) ((S (2, 0)).map (·.1)) ((S (3, 0)).map (·.1)) day :=
                List.mem_flatMap.2 ⟨x1.1, x1.2, List.mem_flatMap.2 ⟨x2.1, x2.2, List.mem_map.2 ⟨x3.1, x3.2, rfl⟩⟩⟩
              have hlen : c3.length < (scnL ((S (1, 0)).map (·.1)) ((S (2, 0)).map (·.1)) ((S (3, 0)).map (·.1)) day).length := by
                have e1 : c3.length = pre1.length * ((stsL ((S (2, 0)).map (·.1)) day).length * (stsL ((S (3, 0)).map (·.1)) day).length) + pre2.length * (stsL ((S (3, 0)).map (·.1)) day).length + pre3.length := by
                  have := congrArg List.length hc3
                  rw [Nat.add_assoc]
                  simpa [scn1_len, scn2_len] using this
                rw [e1, ← scn1_all, scn1_len]
                exact scn_lt hlt1 hlt2 hlt3
              obtain ⟨fn, tmps, assign, body, hy, hR⟩ := hY 1 c3 ⟨_, hmem⟩ U3 hI3.1 hlen
              simp only [encC] at hy
              have y0 := hI3.2.2.1.cell 0
              have i4 := q4.cell 0
              have i6 := q6.cell 0
              have s50 := q5.cell 0
              have s51 := q5.cell 1
              have s52 := q5.cell 2
              have s70 := q7.cell 0
              have s71 := q7.cell 1
              have s72 := q7.cell 2
              have s90 := b9.cell 0
              have s91 := b9.cell 1
              have s92 := b9.cell 2
              gi_wp2
              refine (show RoundIn (((Fence.wide.inRound l1).inRound l2).inRound l3) 1 Tryz.prog l fn tmps assign body U3 _ from hR).mono ?_
              clear hy hR
              rintro e U4 (⟨rfl, hJ4, hq⟩ | ⟨rfl, hJx4, hq⟩)
              · gi_wp2
                have hm3 := hI3.2.2.2
                have hbW : W.heap.size ≤ U3.heap.size := by have := HS1.out; have := HSV.out; have := HSU1.out; have := HS2.out; have := HSU2.out; have := HS3.out; omega
                exact ⟨hq.from (by have := HS1.out; have := HSV.out; have := HSU1.out; have := HS2.out; have := HSU2.out; have := HS3.out; omega),
                  hq.keepP fun k hk => by rcases hk with h | h | h; exact .inl h; exact .inr (by have := HS1.out; have := HSV.out; have := HSU1.out; have := HS2.out; have := HSU2.out; have := HS3.out; omega); exact .inr (by have := HS1.out; have := HSV.out; have := HSU1.out; have := HS2.out; have := HSU2.out; have := HS3.out; omega),
                  ⟨c3 ++ [⟨_, hmem⟩], by rw [List.map_append, hc3, List.map_append, List.map_append]; simp, hJ4, hI3.2.1.trans (hq.keepP fun k hk => .inl hk), hq.box hI3.2.2.1 (Nat.le_refl _), Nat.le_trans hm3 hq.size⟩,
                  ⟨⟨hq.box q4 (by have := HS1.out; have := HSV.out; omega), hq.box q5 (by have := HS1.out; have := HSV.out; omega)⟩, hq.box q6 (by have := HS1.out; have := HSV.out; have := HSU1.out; have := HS2.out; omega), hq.box q7 (by have := HS1.out; have := HSV.out; have := HSU1.out; have := HS2.out; omega)⟩,
                  hkp3.trans (hq.keepP fun k hk => by
                    rcases hk with h | h | h | h | h
                    · exact .inl h
                    · exact .inr (by have := HS1.out; have := HSV.out; have := HSU1.out; have := HS2.out; have := HSU2.out; have := HS3.out; omega)
                    · exact .inr (by have := HS1.out; have := HSV.out; have := HSU1.out; have := HS2.out; have := HSU2.out; have := HS3.out; omega)
                    · exact .inr (by have := HS1.out; have := HSV.out; have := HSU1.out; have := HS2.out; have := HSU2.out; have := HS3.out; omega)
                    · exact .inr (by have := HS1.out; have := HSV.out; have := HSU1.out; have := HS2.out; have := HSU2.out; have := HS3.out; omega)),
                  hkf3.trans (hq.from (by have := HS1.out; have := HSV.out; omega))⟩
              · gi_wp2
                exact ⟨hq.from (by have := HS1.out; have := HSV.out; have := HSU1.out; have := HS2.out; have := HSU2.out; have := HS3.out; omega), ⟨rfl, _, hJx4⟩, hkf3.trans (hq.from (by have := HS1.out; have := HSV.out; omega))⟩
            case done3 =>
              subst hf5
              rintro ys U hys ⟨⟨c, hc, hI⟩, ⟨⟨q4, q5⟩, q6, q7⟩, hkp, hkf⟩
              gi_wp2
              exact ⟨keepsFrom_up hkf (by have := HSU1.out; have := HS2.out; omega), ⟨hkp.size, fun k hk => hkp.blk k (by rcases hk with h | h | h; exact .inl h; exact .inr (.inr (.inr (.inl h))); exact .inr (.inr (.inr (.inr h))))⟩,
                ⟨c, by rw [hc, hys, List.map_append, List.map_singleton, scn2_snoc, List.append_assoc], hI.up (by have := HSU2.out; have := HS3.out; omega)⟩, ⟨q4, q5⟩,
                hkp2.trans ⟨hkp.size, fun k hk => hkp.blk k (by rcases hk with h | h | h; exact .inl h; exact .inr (.inl h); exact .inr (.inr (.inl h)))⟩, hkf2.trans hkf⟩
            case stop3 =>
              subst hf5
              rintro c pre U _ ⟨⟨rfl, s, hs⟩, hkf⟩
              gi_wp2
              exact ⟨keepsFrom_up hkf (by have := HSU1.out; have := HS2.out; omega), ⟨rfl, s, hs⟩, hkf2.trans hkf⟩
        case done2 =>
          subst hf3
          rintro ys U hys ⟨⟨c, hc, hI⟩, ⟨q4, q5⟩, hkp, hkf⟩
          gi_wp2
          exact ⟨hkf, hkp, c, by rw [hc, hys, List.map_append, List.map_singleton, scn1_snoc], hI.up (by have := HSU1.out; have := HS2.out; omega)⟩
        case stop2 =>
          subst hf3
          rintro c pre U _ ⟨⟨rfl, s, hs⟩, hkf⟩
          gi_wp2
          exact ⟨hkf, rfl, s, hs⟩
    case done =>
      subst hf1
      rintro D ys U hD hys ⟨c, hc, hI⟩ hK
      gi_wp2
      refine ⟨by simp, .inl ⟨_, _, rfl, run_takeDeferred hK, ?_⟩⟩
      refine ⟨_, results_none rfl _ _ _, ⟨_, rfl⟩, .inl ⟨c, by rw [hc, hys]; rfl, OwnFrom.putObj hJ _ hI.1 (by have := HS1.out; have := HSV.out; omega) hK rfl⟩⟩
    case stop =>
      subst hf1
      rintro D c pre U hD _ ⟨rfl, s, hs⟩ hK
      gi_wp2
      refine ⟨by simp, .inl ⟨_, _, rfl, run_takeDeferred hK, ?_⟩⟩
      refine ⟨_, results_none rfl _ _ _, ⟨_, rfl⟩, .inr ⟨s, OwnFrom.putObj hJx _ hs (by have := HS1.out; have := HSV.out; omega) hK rfl⟩⟩

end Go.Proofs.YtikioiblaoimkaaGreatDoor
