import Derived.Test.YtikioiblaoimkaaGreatDoorB1
import Derived.Test.YtikioiblaoimkaaGreatDoorB5
import Derived.Maps.RangeRun
import Derived.RangeFuncNested
import Derived.Test.YtikioiblaoimkaaGreatDoorB4
import Derived.OwnWalkIn
set_option linter.unusedVariables false
set_option linter.unusedSimpArgs false

/- A map of deeds by their items, and when its entries were laid. -/
namespace Go.Proofs.YtikioiblaoimkaaGreatDoor
open Go.RowKit Go.Maps

abbrev dV (d : Deed) : Value := .agg #[.int .i64 d.par, .int .i64 d.no, .int .i64 d.kind, .int .i64 d.lock, .int .i64 d.person, .int .i64 d.lo, .int .i64 d.hi, .int .i64 d.known, .int .i64 d.til]
def kOf (d : Deed) : Int × Int := (d.par, d.no)
def toL (L : List Deed) : List ((Int × Int) × Value) := L.map fun d => (kOf d, dV d)

theorem keyType_item : Tryz.prog.keyType 37 = true := by kernel_rfl
theorem cells_item : Tryz.prog.cellsOf 37 = 2 := by kernel_rfl
theorem keyOf_item (a b : Int) (h : wf2 a b) : ∃ l, keyOf Tryz.prog 37 (nk a b) = some l := by
  have hk := keyType_item
  obtain ⟨m, hm⟩ := types_pos
  simp only [keyOf, Tryz.underlying37, hk, Value.formed, Value.cells, hm, cells_item]
  simp only [Program.keyLits, Tryz.underlying37, cells_item, cells_int, Tryz.underlying3]
  simp [h.1, h.2, cells_int, Tryz.underlying3]
theorem key_items : KeyG nkk wf22 37 :=
  ⟨keyed_item, fun a h => keyOf_item _ _ h, fun a b h => nk_inj h⟩
theorem okB_item {d : Deed} (h : d.okB = true) : wf22 (kOf d) := by
  rw [Deed.okB_eq] at h
  simp only [Bool.and_eq_true, itemB, withinB, decide_eq_true_eq] at h
  obtain ⟨⟨⟨h1, h2⟩, h3, h4⟩, _⟩ := h
  exact ⟨wf_small h1 (Int.le_trans h2 (by decide)), wf_small h3 (Int.le_trans h4 (by decide))⟩

theorem getG_toL (L : List Deed) (k : Int × Int) : getG (toL L) k = (L.find? fun d => decide (kOf d = k)).map dV := by
  induction L with
  | nil => rfl
  | cons d L ih =>
    show getG ((kOf d, dV d) :: toL L) k = _
    rw [getG, List.find?_cons]
    by_cases h : kOf d = k
    · simp [h]
    · simp only [h, if_false, decide_false]
      exact ih
theorem putG_toL_new {L : List Deed} {d : Deed} (h : (L.find? fun x => decide (kOf x = kOf d)) = none) : putG (toL L) (kOf d) (dV d) = toL (L ++ [d]) := by
  rw [putG_none (by rw [getG_toL, h]; rfl)]
  simp [toL]
theorem putG_same {κ : Type} [DecidableEq κ] {L : List (κ × Value)} {k : κ} {v : Value} (h : getG L k = some v) : putG L k v = L := by
  induction L with
  | nil => cases h
  | cons x L ih =>
    rw [getG] at h
    rw [putG]
    split at h
    · rename_i e
      rw [if_pos e]
      obtain ⟨a, b⟩ := x
      simp at h e
      rw [h, e]
    · rename_i e
      rw [if_neg e, ih h]
theorem putG_toL_old {L : List Deed} {d : Deed} (h : (L.find? fun x => decide (kOf x = kOf d)) = some d) : putG (toL L) (kOf d) (dV d) = toL L :=
  putG_same (by rw [getG_toL, h]; rfl)

theorem Born.lt {w : World} {b : Nat} (h : Born w b) : b < w.heap.size := by
  obtain ⟨es, c, h1, _⟩ := h
  exact block_lt h1
theorem Born.ext {w w' : World} {b : Nat} (h : Born w b) (hb : Below w.heap.size w w') : Born w' b := h.keep (hb.block b h.lt)
theorem Born.alloc {w : World} {b : Nat} (h : Born w b) (o : Obj) : Born (w.alloc o) b := h.keep (Below.heap_alloc _ _ _ h.lt)
theorem Born.update {κ : Type} {mk : κ → Value} {wf : κ → Prop} {k T E : TypeId} {w W' : World} {b : Nat} {L : List (κ × Value)} (K : KeyG mk wf k) (ht : Tryz.prog.underlying T = some (.map k E)) (h : MapG mk wf w b L) (hB : Born w b) {a : κ} (hk : wf a) (v : Value)
    (hr : (Instr.mapUpdate T (.map (some b)) (mk a) v).run Tryz.prog w = .ok () W') : Born W' b := by
  obtain ⟨es, clock, hb, he⟩ := h.ex
  obtain ⟨es', clock', hb', hnd, hlt⟩ := hB
  rw [hb] at hb'
  cases hb'
  obtain ⟨f1, f2, f3⟩ := MapG.facts K he h.wf
  obtain ⟨l, hl⟩ := K.of a hk
  by_cases hex : ∃ e ∈ es.toList, e.key = mk a
  · obtain ⟨j, e', hj, hkey, hrun⟩ := map_update_old (v := v) K.law ht hb hl f3 hex
    rw [hr] at hrun
    cases hrun
    have hm : (es.modify j fun e => { e with key := mk a, val := v }).toList.map (·.born) = es.toList.map (·.born) := by
      rw [Array.toList_modify]
      apply List.ext_getElem?
      intro i
      simp only [List.getElem?_map, List.getElem?_modify]
      by_cases hij : j = i
      · subst hij
        rw [hj]
        simp
      · simp [hij]
    refine ⟨_, _, setObj'_at h.lt _, by rw [hm]; exact hnd, fun e he2 => ?_⟩
    have : e.born ∈ es.toList.map (·.born) := by rw [← hm]; exact List.mem_map.2 ⟨e, he2, rfl⟩
    obtain ⟨x, hx, ex⟩ := List.mem_map.1 this
    rw [← ex]
    exact hlt x hx
  · have hrun := map_update_new (v := v) K.law ht hb hl f3 (fun e hm hkey => hex ⟨e, hm, hkey⟩)
    rw [hr] at hrun
    cases hrun
    refine ⟨_, _, setObj'_at h.lt _, ?_, fun e he2 => ?_⟩
    · rw [Array.toList_push, List.map_append, List.nodup_append]
      refine ⟨hnd, by simp, fun x hx y hy e => ?_⟩
      obtain ⟨z, hz, rfl⟩ := List.mem_map.1 hx
      simp at hy
      have := hlt z hz
      omega
    · rw [Array.toList_push] at he2
      rcases List.mem_append.1 he2 with h1 | h1
      · have := hlt e h1; omega
      · simp at h1
        subst h1
        exact Nat.lt_succ_self _

/-- What is left of an entry list when one entry has been handed out. -/
theorem left_perm {es : Array MapEntry} {seen : Array Nat} {e : MapEntry} (hn : (es.toList.map (·.born)).Nodup) (he : e ∈ (leftOf es seen).toList) : (leftOf es seen).toList.Perm (e :: (leftOf es (seen.push e.born)).toList) := by
  have hl : ∀ s, (leftOf es s).toList = es.toList.filter fun x => !s.contains x.born := fun s => by unfold leftOf; rw [Array.toList_filter]
  rw [hl] at he ⊢
  rw [hl]
  generalize es.toList = l at hn he
  induction l with
  | nil => simp at he
  | cons x l ih =>
    have hn' := List.nodup_cons.1 hn
    by_cases hx : x = e
    · subst hx
      have h1 : seen.contains x.born = false := by have := (List.mem_filter.1 he).2; simpa using this
      have h2 : (l.filter fun y => !(seen.push x.born).contains y.born) = l.filter fun y => !seen.contains y.born := by
        apply List.filter_congr
        intro y hy
        have hne : ¬ y.born = x.born := fun e' => hn'.1 (List.mem_map.2 ⟨y, hy, e'⟩)
        rw [contains_push]
        simp [hne]
      have h4 : (!seen.contains x.born) = true := by rw [h1]; rfl
      have h5 : ¬ (!(seen.push x.born).contains x.born) = true := by rw [contains_push]; simp
      rw [List.filter_cons, List.filter_cons, if_pos h4, if_neg h5, h2]
    · have he' : e ∈ l.filter fun y => !seen.contains y.born := by
        rw [List.filter_cons] at he
        split at he
        · rcases List.mem_cons.1 he with h | h
          · exact absurd h.symm hx
          · exact h
        · exact he
      have hne : ¬ x.born = e.born := fun e' => hn'.1 (List.mem_map.2 ⟨e, (List.mem_filter.1 he').1, e'.symm⟩)
      have := ih hn'.2 he'
      rw [List.filter_cons, List.filter_cons]
      have h3 : (!(seen.push e.born).contains x.born) = !seen.contains x.born := by rw [contains_push]; simp [hne]
      rw [h3]
      split
      · exact (this.cons x).trans (List.Perm.swap _ _ _)
      · exact this

end Go.Proofs.YtikioiblaoimkaaGreatDoor

/- maps.Values of a map of deeds: its iterator. -/
namespace Go.Proofs.YtikioiblaoimkaaGreatDoor
open Go.RowKit Go.Maps
attribute [local go_sem] Oper.semAt_some

def dOf : Value → Deed
  | .agg #[.int _ a0, .int _ a1, .int _ a2, .int _ a3, .int _ a4, .int _ a5, .int _ a6, .int _ a7, .int _ a8] => ⟨a0, a1, a2, a3, a4, a5, a6, a7, a8⟩
  | _ => zeroD
theorem dOf_dV (d : Deed) : dOf (dV d) = d := rfl
def ghosts (es : Array MapEntry) (seen : Array Nat) : List Deed := (leftOf es seen).toList.map fun x => dOf x.val
def encD (d : Deed) : Array Value := #[dV d]
def leftN (w : World) (r : Nat) (es : Array MapEntry) : Nat := match w.heap[r]? with
  | some (.mapIter _ _ seen _) => (leftOf es seen).size
  | _ => 0
theorem setBlock_get {w : World} {r : Nat} (h : r < w.heap.size) (o : Obj) : (ChangeMaps.setBlock w r o).heap[r]? = some o := by
  show (w.heap.setIfInBounds r o)[r]? = _
  rw [Array.getElem?_setIfInBounds_self_of_lt h]
theorem setBlock_other {w : World} {r k : Nat} (h : k ≠ r) (o : Obj) : (ChangeMaps.setBlock w r o).heap[k]? = w.heap[k]? := by
  show (w.heap.setIfInBounds r o)[k]? = _
  rw [Array.getElem?_setIfInBounds_ne (fun e => h e.symm)]
theorem setBlock_grown (w : World) (r : Nat) (o : Obj) : w.grownBy (ChangeMaps.setBlock w r o) (some r) :=
  ⟨rfl, rfl, rfl, by show w.heap.size ≤ (w.heap.setIfInBounds r o).size; simp, fun k _ hk => setBlock_other (fun e => hk (by rw [e])) o⟩

set_option maxRecDepth 100000 in
set_option maxHeartbeats 1000000 in
theorem values_in (n : Nat) (hn : 1 ≤ n) (l Bm bm : Nat) (L : List Deed) (J Jx : List Deed → World → Prop)
    (hY : ∀ pre x W1, J pre W1 → pre.length < L.length → YieldAt Fence.wide (n - 1) Tryz.prog l (encD x) W1 fun e W' =>
      (e = .returned (.bool true) ∧ J (pre ++ [x]) W' ∧ KeepsWalks W1 W') ∨ (e = .returned (.bool false) ∧ Jx (pre ++ [x]) W'))
    (W : World) (hJ : AbidesFrom W.heap.size J) (hm : W.cell? ⟨Bm, 0, none⟩ = some (.map (some bm))) (hM : MapG nkk wf22 W bm (toL L)) (hB : Born W bm) (h0 : J [] W) :
    CallsIn Fence.wide n Tryz.prog 135 #[.func (.yield l) #[] #[], .pointer (some ⟨Bm, 0, none⟩)] W fun e W' => (∃ v, e = .returned v) ∧
      ((∃ ys : List Deed, ys.Perm L ∧ J ys W') ∨ (∃ pre : List Deed, (∃ r, (pre ++ r).Perm L) ∧ Jx pre W')) := by
  obtain ⟨es, clock, hb, hnd, hlt⟩ := hB
  obtain ⟨es', clock', hb', he⟩ := hM.ex
  rw [hb] at hb'
  cases hb'
  have hbm := hM.lt
  have hvals : es.toList.map (·.val) = L.map dV := by
    have h1 := congrArg (List.map Prod.snd) he
    simpa [toL, List.map_map, Function.comp_def] using h1
  have hrange := run_range_map (P := Tryz.prog) W 161 37 41 bm es clock Tryz.underlying161 hb
  have HV := Lib.hid hvals
  have HND := Lib.hid hnd
  have HLT := Lib.hid hlt
  have HB := Lib.hid hb
  clear hvals hnd hlt hb he hM
  refine callsIn_of_wp Tryz.func135 rfl trivial ?_ rfl
  simp only [Tryz.ntmps135, List.size_toArray, List.length_cons, List.length_nil, Nat.reduceAdd, Nat.reduceSub, Array.replicate_succ, Array.replicate_zero, List.push_toArray, List.append_toArray, List.nil_append, List.cons_append]
  gi_wp2
  clear hrange
  gi_loopw [4] (fun _ wr => ∃ (seen : Array Nat) (c0 : Nat) (pre : List Deed), wr.heap[W.heap.size]? = some (.mapIter (some bm) clock seen c0) ∧ clock ≤ c0 ∧ wr.heap[bm]? = some (.map es clock) ∧ (pre ++ ghosts es seen).Perm L ∧ J pre wr) (fun _ wr => leftN wr W.heap.size es)
  case atStart =>
    refine ⟨#[], clock, [], World.alloc_heap_new W _, Nat.le_refl _, (Below.heap_alloc _ _ _ hbm).trans HB.out, ?_, hJ _ _ _ none h0 (World.grownBy_alloc W _ none) (fun r e => by cases e)⟩
    have h1 : (leftOf es #[]).toList = es.toList := by unfold leftOf; simp
    have h2 : ghosts es #[] = (es.toList.map (·.val)).map dOf := by unfold ghosts; rw [h1, List.map_map]; rfl
    rw [List.nil_append, h2, HV.out, List.map_map]
    have h3 : L.map (dOf ∘ dV) = L := by rw [show (dOf ∘ dV) = id from funext dOf_dV]; simp
    rw [h3]
  case round =>
    obtain ⟨seen, c0, pre, hit, hcc, hbr, hperm, hJs⟩ := hrel
    have HP := Lib.hid hperm
    clear hperm
    rcases run_next_at (P := Tryz.prog) wr 0 W.heap.size bm clock c0 seen es clock hit hbr HLT.out hcc with ⟨hz, hrun⟩ | ⟨e, he, w1, hw1, hrun⟩
    · have hpl : pre.Perm L := by
        have h1 : ghosts es seen = [] := by
          unfold ghosts
          rw [List.eq_nil_of_length_eq_zero (l := (leftOf es seen).toList) (by simpa using hz)]
          rfl
        have h2 := HP.out
        rwa [h1, List.append_nil] at h2
      have HPL := Lib.hid hpl
      clear hz hpl
      gi_wp2
      go_end0
      exact ⟨⟨_, rfl⟩, .inl ⟨pre, HPL.out, hJs⟩⟩
    · obtain ⟨w2, hw2⟩ : ∃ w2, ChangeMaps.setBlock w1 W.heap.size (.mapIter (some bm) clock (seen.push e.born) clock) = w2 := ⟨_, rfl⟩
      have hmem := (mem_left he).1
      obtain ⟨d, hd⟩ : ∃ d, e.val = dV d := by
        have h1 : e.val ∈ es.toList.map (·.val) := List.mem_map.2 ⟨e, hmem, rfl⟩
        rw [HV.out] at h1
        obtain ⟨d, _, h2⟩ := List.mem_map.1 h1
        exact ⟨d, h2.symm⟩
      have hsz1 : w1.heap = wr.heap := by rcases hw1 with rfl | rfl <;> rfl
      have hlt1 : W.heap.size < w1.heap.size := by rw [hsz1]; exact block_lt hit
      have hit2 : w2.heap[W.heap.size]? = some (.mapIter (some bm) clock (seen.push e.born) clock) := by rw [← hw2]; exact setBlock_get hlt1 _
      have hbr2 : w2.heap[bm]? = some (.map es clock) := by rw [← hw2, setBlock_other (by omega), hsz1]; exact hbr
      have hent := run_entry_at (P := Tryz.prog) w2 W.heap.size bm clock seen es clock e hit2 hbr2 hmem HND.out
      have hg2 : wr.grownBy w2 (some W.heap.size) := by
        rw [← hw2]
        rcases hw1 with rfl | rfl
        · exact setBlock_grown _ _ _
        · exact (grown_drew wr (some W.heap.size)).trans (setBlock_grown _ _ _)
      have hJ2 : J pre w2 := hJ _ wr w2 (some W.heap.size) hJs hg2 (fun r e => by cases e; exact ⟨Nat.le_refl _, _, hit, rfl⟩)
      have hJ3 : J pre (w2.alloc (.cells #[.int .i64 d.par, .int .i64 d.no, .int .i64 d.kind, .int .i64 d.lock, .int .i64 d.person, .int .i64 d.lo, .int .i64 d.hi, .int .i64 d.known, .int .i64 d.til] 41)) := hJ _ w2 _ none hJ2 (World.grownBy_alloc w2 _ none) (fun r e => by cases e)
      have hpm : (ghosts es seen).Perm (d :: ghosts es (seen.push e.born)) := by
        have h1 := (left_perm HND.out he).map fun x => dOf x.val
        rw [List.map_cons, hd, dOf_dV] at h1
        exact h1
      have hp2 : ((pre ++ [d]) ++ ghosts es (seen.push e.born)).Perm L := by
        refine List.Perm.trans ?_ HP.out
        rw [List.append_assoc]
        exact (hpm.symm).append_left pre
      have hpl : pre.length < L.length := by
        have h1 := hp2.length_eq
        simp at h1
        omega
      have hsh := left_shrinks es seen e he
      rw [hw2] at hrun
      rw [hd] at hrun hent
      have HSH := Lib.hid hsh
      have HP2 := Lib.hid hp2
      have HIT := Lib.hid hit
      have HIT2 := Lib.hid hit2
      have HBR2 := Lib.hid hbr2
      obtain ⟨fn, tmps, assign, body, hy, hR⟩ := hY pre d (w2.alloc (.cells #[.int .i64 d.par, .int .i64 d.no, .int .i64 d.kind, .int .i64 d.lock, .int .i64 d.person, .int .i64 d.lo, .int .i64 d.hi, .int .i64 d.known, .int .i64 d.til] 41)) hJ3 hpl
      clear hw2 hw1 hsz1 hlt1 hpm hp2 hsh he hmem hJ2 hit hit2 hbr hbr2 hd hg2 HP
      gi_wp2
      simp only [encD] at hy
      rw [hy]
      simp only [Oper.uponIn]
      refine ⟨fun _ => hn, ?_⟩
      refine hR.mono ?_
      rintro e' W4 (⟨rfl, hJ4, hk4⟩ | ⟨rfl, hJx4⟩)
      · have i4 := hk4.same _ _ ((Below.heap_alloc w2 (.cells #[.int .i64 d.par, .int .i64 d.no, .int .i64 d.kind, .int .i64 d.lock, .int .i64 d.person, .int .i64 d.lo, .int .i64 d.hi, .int .i64 d.known, .int .i64 d.til] 41) _ (block_lt HIT2.out)).trans HIT2.out) rfl
        have b4 := hk4.same _ _ ((Below.heap_alloc w2 (.cells #[.int .i64 d.par, .int .i64 d.no, .int .i64 d.kind, .int .i64 d.lock, .int .i64 d.person, .int .i64 d.lo, .int .i64 d.hi, .int .i64 d.known, .int .i64 d.til] 41) _ (block_lt HBR2.out)).trans HBR2.out) rfl
        have I4 := Lib.hid i4
        have B4 := Lib.hid b4
        clear i4 b4 hk4
        gi_wp2
        refine ⟨⟨_, _, _, I4.out, Nat.le_refl _, B4.out, HP2.out, hJ4⟩, ?_⟩
        unfold leftN
        rw [I4.out, HIT.out]
        exact HSH.out
      · gi_wp2
        refine bodyPost_ret (results_none rfl _ _ _) rfl ?_
        exact ⟨⟨_, rfl⟩, .inr ⟨_, ⟨_, HP2.out⟩, hJx4⟩⟩

end Go.Proofs.YtikioiblaoimkaaGreatDoor

/- slices.AppendSeq and slices.Collect of maps.Values of a map of deeds. -/
namespace Go.Proofs.YtikioiblaoimkaaGreatDoor
open Go.RowKit Go.Maps
attribute [local go_sem] Oper.semAt_some

theorem own_down {W : World} {base base' size n : Nat} {e : TypeId} {v : Value} {xs : List Value} (h : W.ownsRow base e size v n xs) (hb : base' ≤ base) : W.ownsRow base' e size v n xs := by
  obtain ⟨h1, h2⟩ := h
  refine ⟨h1, ?_⟩
  rcases h2 with h2 | ⟨g, cap, cur, a, b, c⟩
  · exact .inl h2
  · exact .inr ⟨g, cap, cur, a, by omega, c⟩
/-- A row of deeds of the call's own, in a box. -/
def ColD (base bp : Nat) (pre : List Deed) (W : World) : Prop :=
  ∃ v, Boxed W bp 22 v ∧ W.ownsRow base 41 9 v pre.length (deedCells pre)
theorem ColD.kept {base bp : Nat} {pre : List Deed} {X Y : World} {row : Option Nat} (h : ColD base bp pre X) (hg : X.grownBy Y row) (hr : ∀ r, row = some r → ∃ o : Obj, X.heap[r]? = some o ∧ o.isCells = false) : ColD base bp pre Y := by
  obtain ⟨v, hv, ho⟩ := h
  refine ⟨v, hv.kept hg (fun e => ?_), own_keep ho (fun b hb => ?_)⟩
  · obtain ⟨o, h1, h2⟩ := hr _ e.symm
    rw [show X.heap[bp]? = _ from hv] at h1
    cases h1
    cases h2
  · obtain ⟨cur, hh⟩ := own_block ho hb
    refine hg.block b (block_lt hh) (fun e => ?_)
    obtain ⟨o, h1, h2⟩ := hr _ e.symm
    rw [hh] at h1
    cases h1
    cases h2
theorem not_row_a {W : World} {B : Nat} {t e : TypeId} {cs : Array Value} (h : BoxA W B t cs) (hte : t ≠ e) {base size k : Nat} {v : Value} {xs : List Value} (hr : W.ownsRow base e size v k xs) : some B ≠ v.ownBlock := by
  intro e'
  obtain ⟨cur, hh⟩ := own_block hr e'.symm
  rw [show W.heap[B]? = _ from h] at hh
  cases hh
  exact hte rfl

theorem keepsWalks_of {W W' : World} (h : KeepsOthers W W') : KeepsWalks W W' := ⟨h.size, fun k o hk hw => h.same k o hk (by cases o <;> first | rfl | (simp [Obj.isWalk] at hw))⟩

set_option maxRecDepth 100000 in
set_option maxHeartbeats 2000000 in
theorem p_AppendSeq (Bm bm : Nat) (L : List Deed) (w : World) (hL : L.length ≤ 1000) (hBm : Bm < w.heap.size) (hm : w.cell? ⟨Bm, 0, none⟩ = some (.map (some bm))) (hM : MapG nkk wf22 w bm (toL L)) (hB : Born w bm) :
    Calls Tryz.prog 145 #[.slice none 0 0, .func (.func 135) #[] #[.pointer (some ⟨Bm, 0, none⟩)]] w fun e w' => ∃ v ys, e = .returned v ∧ ys.Perm L ∧ w'.ownsRow w.heap.size 41 9 v ys.length (deedCells ys) ∧ Below w.heap.size w w' := by
  obtain ⟨i0, hi, hz0, hz1, hz2⟩ := info_parts infoDeed
  have h1 : 1 ≤ 9 := by omega
  refine (callsIn_wide (n := 9)).1 ?_
  (refine callsIn_of_wp_marks Tryz.func145 rfl trivial ?_ rfl; simp only [Tryz.ntmps145, List.size_toArray, List.length_cons, List.length_nil, Nat.reduceAdd, Nat.reduceSub, Array.replicate_succ, Array.replicate_zero, List.push_toArray, List.append_toArray, List.nil_append, List.cons_append])
  gi_wp2
  refine wpIn_named2 fun a0 W0 ha0 hW0 => ?_
  have bP0 : Boxed W0 w.heap.size 22 (.slice none 0 0) := by rw [← hW0]; exact Boxed.new w _ _
  have hB0 : Below w.heap.size w W0 := by rw [← hW0]; exact (Below.refl _ _).alloc (Nat.le_refl _) _
  have hs0 : w.heap.size < W0.heap.size := bP0.lt
  have hseq : SeqStopsK Fence.wide 8 Tryz.prog 135 #[.pointer (some ⟨Bm, 0, none⟩)] encD KeepsWalks (fun ys => ys.Perm L) (fun pre => ∃ r, (pre ++ r).Perm L) L.length W0 := fun l J Jx W hW hJ _ hY h0 =>
    values_in 8 (by omega) l Bm bm L J Jx hY W hJ ((hW.cell (p := ⟨Bm, 0, none⟩) (by simp only; omega)).trans ((hB0.cell (p := ⟨Bm, 0, none⟩) hBm).trans hm)) ((hM.ext hB0).ext hW) ((hB.ext hB0).ext hW) h0
  clear hW0
  refine wpIn_rangeFunc_ownH rfl h1 (gf := 135) (lb := #[.pointer (some ⟨Bm, 0, none⟩)]) (by subst ha0; rfl) trivial (enters_of Tryz.func135 (by kernel_rfl) rfl)
    hseq (fun h k => h.trans k) (fun W l o o' _ h _ hw => KeepsWalks.putObj o' h hw) (Below.refl _ _) (fun _ => rfl)
    (fun pre W => ColD W0.heap.size w.heap.size pre W ∧ (Below w.heap.size w W ∧ W0.heap.size ≤ W.heap.size))
    (fun _ _ _ => False)
    (OwnFrom.and (Own.from (fun _ _ _ _ hs hg hr => hs.kept hg hr) _) (OwnFrom.and (ownFrom_below (Nat.le_refl _) (by omega)) (ownFrom_size _ _)))
    (fun _ _ _ _ _ hs _ _ => hs)
    ⟨⟨_, bP0, World.ownsRow_nil _ _ _ _⟩, hB0, Nat.le_refl _⟩
    (fun x a' W => ∃ Bx, W0.heap.size ≤ Bx ∧ BoxA W Bx 41 #[.int .i64 x.par, .int .i64 x.no, .int .i64 x.kind, .int .i64 x.lock, .int .i64 x.person, .int .i64 x.lo, .int .i64 x.hi, .int .i64 x.known, .int .i64 x.til] ∧ a' = { tmps := (a0.tmps.setIfInBounds 7 (dV x)).setIfInBounds 5 (.pointer (some ⟨Bx, 0, none⟩)), defers := [] })
    (fun x a' _ X Y row hs hg hr => by obtain ⟨Bx, g1, g2, g3⟩ := hs; exact ⟨Bx, g1, boxa_own Bx _ (fun (_ : Unit) => _) () X Y row g2 hg (fun r e => (hr r e).2), g3⟩)
    ?assign ?body ?done ?stop
  case assign =>
    subst ha0
    rintro l pre x W K ⟨hC, hB1, hs6⟩ hK
    simp only [encD]
    gi_wp2
    exact hK _ _ ((KeepsOthers.alloc _ _).from _) (KeepsWalks.alloc _ _) ⟨hC.kept (World.grownBy_alloc _ _ none) (by simp), hB1.alloc hB1.size _, by simp; omega⟩ ⟨W.heap.size, hs6, BoxA.new W _ _, rfl⟩
  case body =>
    subst ha0
    rintro l pre x a' W hl ⟨r, hr⟩ ⟨hC, hB1, hs6⟩ ⟨Bx, hBx, bX, rfl⟩ hlt
    obtain ⟨v, bP1, hown⟩ := hC
    have cP := bP1.cell
    have fP := bP1.frozen
    have x0 := bX.cell 0
    have x1 := bX.cell 1
    have x2 := bX.cell 2
    have x3 := bX.cell 3
    have x4 := bX.cell 4
    have x5 := bX.cell 5
    have x6 := bX.cell 6
    have x7 := bX.cell 7
    have x8 := bX.cell 8
    have hpl : pre.length < 1000 := by omega
    have HO := Lib.hid hown
    have HBP := Lib.hid bP1
    simp only [List.setIfInBounds_toArray, List.set_cons_zero, List.set_cons_succ]
    gi_wp2_with (gi_at_builtin; refine wpListIn_append_own _ rfl (.tmp 8) (.tmp 10) 22 rfl W0.heap.size 41 i0 _ 9 72 Tryz.underlying22 hi hz0 hz1 hz2 rfl (by decide) _ _ _ rfl (hown.alloc _) ⟨W.heap.size, 0, none⟩ 1 1 [.int .i64 x.par, .int .i64 x.no, .int .i64 x.kind, .int .i64 x.lock, .int .i64 x.person, .int .i64 x.lo, .int .i64 x.hi, .int .i64 x.known, .int .i64 x.til] rfl rfl ?c1 ?c2 ?c3 ?c4 ?c5 ?_; rotate_left 5; intro v' w1 hown1 hgrow1 _; obtain ⟨A', c', rfl, hcc'⟩ := own_slice hown1; have bP3 := (HBP.out.alloc (.cells #[.int .i64 x.par, .int .i64 x.no, .int .i64 x.kind, .int .i64 x.lock, .int .i64 x.person, .int .i64 x.lo, .int .i64 x.hi, .int .i64 x.known, .int .i64 x.til] 41)).kept hgrow1 (HBP.out.not_row (by decide) HO.out); have cP3 := bP3.cell; have fP3 := bP3.frozen)
    case c1 => have h := news_deed W x; simpa using h
    case c2 => simp [Value.oneCell']
    case c3 => unfold maxLen; omega
    case c4 => omega
    case c5 => simp; omega
    have hko : KeepsOthers W (w1.setCell ⟨w.heap.size, 0, none⟩ (.slice A' (pre.length + 1) c')) := ((KeepsOthers.alloc W (.cells #[.int .i64 x.par, .int .i64 x.no, .int .i64 x.kind, .int .i64 x.lock, .int .i64 x.person, .int .i64 x.lo, .int .i64 x.hi, .int .i64 x.known, .int .i64 x.til] 41)).trans (KeepsOthers.of_grownBy hgrow1 fun j o e hj => by
      obtain ⟨cur, hh⟩ := own_block (HO.out.alloc (.cells #[.int .i64 x.par, .int .i64 x.no, .int .i64 x.kind, .int .i64 x.lock, .int .i64 x.person, .int .i64 x.lo, .int .i64 x.hi, .int .i64 x.known, .int .i64 x.til] 41)) e
      rw [hh] at hj
      cases hj
      rfl)).trans (KeepsOthers.setCell _ _ _)
    have hge : ∀ b, v.ownBlock = some b → W0.heap.size ≤ b := fun b hb => own_le HO.out hb
    refine ⟨hko.from _, keepsWalks_of hko, ⟨_, bP3.set _, ?_⟩, ?_, ?_⟩
    · have h2 : deedCells (pre ++ [x]) = deedCells pre ++ [.int .i64 x.par, .int .i64 x.no, .int .i64 x.kind, .int .i64 x.lock, .int .i64 x.person, .int .i64 x.lo, .int .i64 x.hi, .int .i64 x.known, .int .i64 x.til] := by rw [deedCells_append]; rfl
      rw [h2, List.length_append]
      exact own_keep hown1 fun b hb => Below.heap_setCell _ _ _ _ (fun e => bP3.not_row (by decide) hown1 (by rw [hb, e]))
    · exact ((hB1.alloc hB1.size _).grown hgrow1 (by simp; have := hB1.size; omega) fun b e => by have := hge b e; omega).setCell (Nat.le_refl _) _
    · have h3 := hko.size
      omega
  case done =>
    subst ha0
    rintro D ys W hD hys ⟨hC, hB1, hs6⟩ hK
    obtain ⟨v, bP1, hown⟩ := hC
    obtain ⟨A', c', rfl, hcc'⟩ := own_slice hown
    have cP := bP1.cell
    have HO := Lib.hid hown
    clear hown
    gi_wp2
    refine ⟨by simp, .inl ⟨_, _, rfl, run_takeDeferred hK, ?_⟩⟩
    refine ⟨.slice A' ys.length c', by simp [results, Tryz.f145, go_sem], ?_⟩
    have hkk : Below w.heap.size w (W.putObj D (.deferred none)) := hB1.trans (belowK_b (w := w) (Nat.le_refl _) W D _ _ (by have := hB0.size; omega) hK rfl rfl)
    exact ⟨_, ys, rfl, hys, own_down (ownsRow_putObj HO.out _ hK rfl) hB0.size, hkk⟩
  case stop =>
    rintro D c pre W _ _ h _
    exact h.elim

end Go.Proofs.YtikioiblaoimkaaGreatDoor
