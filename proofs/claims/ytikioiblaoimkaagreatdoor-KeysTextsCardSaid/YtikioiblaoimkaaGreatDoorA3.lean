import Derived.Test.YtikioiblaoimkaaGreatDoorA2
import Derived.Maps.Keyed
import Derived.DeepKeys4
import Derived.ChangeMaps5
import Derived.Test.YtikioiblaoimkaaGreatDoorA1
import Derived.Deep.RegionHeld3
import Derived.Deep.AppendLies
import Derived.Deep.RegionHeld
import Derived.Deep.DeepCutAuto
set_option linter.unusedVariables false
set_option linter.unusedSimpArgs false

/- Maps of the call's own, keyed by structs of two numbers, whose elements are any values. -/
namespace Go.Proofs.YtikioiblaoimkaaGreatDoor
open Go.RowKit Go.Maps

/-- A key. -/
abbrev nk (a b : Int) : Value := .agg #[.int .i64 a, .int .i64 b]
def wf2 (a b : Int) : Prop := (Lit.int .i64 a).wf = true ∧ (Lit.int .i64 b).wf = true

theorem keyed_name : Keyed Tryz.prog 102 :=
  Keyed.of_law (deep_law_laid (P := Tryz.prog) (by kernel_rfl) (m := 2) (by decide) (of_decide_eq_true (by kernel_rfl)) (by kernel_rfl) (by kernel_rfl))
theorem keyed_item : Keyed Tryz.prog 37 :=
  Keyed.of_law (deep_law_laid (P := Tryz.prog) (by kernel_rfl) (m := 2) (by decide) (of_decide_eq_true (by kernel_rfl)) (by kernel_rfl) (by kernel_rfl))
theorem keyType_name : Tryz.prog.keyType 102 = true := by kernel_rfl
theorem cells_name : Tryz.prog.cellsOf 102 = 2 := by kernel_rfl
theorem cells_int : Tryz.prog.cellsOf 3 = 1 := by kernel_rfl
theorem types_pos : ∃ m, Tryz.prog.types.size = m + 1 := by
  have h : decide (0 < Tryz.prog.types.size) = true := by kernel_rfl
  exact ⟨Tryz.prog.types.size - 1, by have := of_decide_eq_true h; omega⟩
theorem keyOf_name (a b : Int) (h : wf2 a b) : ∃ l, keyOf Tryz.prog 102 (nk a b) = some l := by
  have hk := keyType_name
  obtain ⟨m, hm⟩ := types_pos
  simp only [keyOf, Tryz.underlying102, hk, Value.formed, Value.cells, hm, cells_name]
  simp only [Program.keyLits, Tryz.underlying102, cells_name, cells_int, Tryz.underlying3]
  simp [h.1, h.2, cells_int, Tryz.underlying3]


section
variable {P : Program} {k E T : TypeId} {w : World} {b : Nat} {es : Array MapEntry} {clock : Nat} {x v z : Value} {lx : Lit}

theorem map_lookup_hit (K : Keyed P k) (ht : P.underlying T = some (.map k E)) (hb : w.heap[b]? = some (.map es clock)) (hx : keyOf P k x = some lx) (hall : ∀ e ∈ es.toList, ∃ l, keyOf P k e.key = some l)
    (hex : ∃ e ∈ es.toList, e.key = x) (hv : ∀ e ∈ es.toList, e.key = x → e.val = v) : (Instr.lookup T (.map (some b)) x false).run P w = .ok v w := by
  have h1 := K.check w es.isEmpty hx
  rcases K.find w hx es.toList hall with ⟨_, h3⟩ | ⟨j, e, h2, h3, h4⟩
  · obtain ⟨e, he, hk⟩ := hex
    exact absurd hk (h3 e he)
  · have := hv e (List.mem_of_getElem? h3) h4
    simp [Instr.lookup, run_underlying ht, MapKept.run_getObj_map hb, h1, h2, this, Result.andThen]

theorem map_lookup_miss (K : Keyed P k) (ht : P.underlying T = some (.map k E)) (hb : w.heap[b]? = some (.map es clock)) (hx : keyOf P k x = some lx) (hall : ∀ e ∈ es.toList, ∃ l, keyOf P k e.key = some l)
    (hno : ∀ e ∈ es.toList, e.key ≠ x) (hz : (zeroValue E).run P w = .ok z w) : (Instr.lookup T (.map (some b)) x false).run P w = .ok z w := by
  have h1 := K.check w es.isEmpty hx
  rcases K.find w hx es.toList hall with ⟨h2, _⟩ | ⟨j, e, h2, h3, h4⟩
  · simp [Instr.lookup, run_underlying ht, MapKept.run_getObj_map hb, h1, h2, hz, Result.andThen]
  · exact absurd h4 (hno e (List.mem_of_getElem? h3))

/-- The world in which the block b is another object. -/
def setObj' (w : World) (b : Nat) (o : Obj) : World := { w with heap := w.heap.setIfInBounds b o }

theorem map_update_new (K : Keyed P k) (ht : P.underlying T = some (.map k E)) (hb : w.heap[b]? = some (.map es clock)) (hx : keyOf P k x = some lx) (hall : ∀ e ∈ es.toList, ∃ l, keyOf P k e.key = some l)
    (hno : ∀ e ∈ es.toList, e.key ≠ x) : (Instr.mapUpdate T (.map (some b)) x v).run P w = .ok () (setObj' w b (.map (es.push { key := x, val := v, born := clock }) (clock + 1))) := by
  have h1 := K.check w false hx
  rcases K.find w hx es.toList hall with ⟨h2, _⟩ | ⟨j, e, h2, h3, h4⟩
  · simp [Instr.mapUpdate, run_underlying ht, MapKept.run_getObj_map hb, h1, h2, MapKept.run_setObj_map _ hb, Result.andThen, setObj']
  · exact absurd h4 (hno e (List.mem_of_getElem? h3))

theorem map_update_old (K : Keyed P k) (ht : P.underlying T = some (.map k E)) (hb : w.heap[b]? = some (.map es clock)) (hx : keyOf P k x = some lx) (hall : ∀ e ∈ es.toList, ∃ l, keyOf P k e.key = some l)
    (hex : ∃ e ∈ es.toList, e.key = x) : ∃ j e, es.toList[j]? = some e ∧ e.key = x ∧ (Instr.mapUpdate T (.map (some b)) x v).run P w = .ok () (setObj' w b (.map (es.modify j fun e => { e with key := x, val := v }) clock)) := by
  have h1 := K.check w false hx
  rcases K.find w hx es.toList hall with ⟨_, h3⟩ | ⟨j, e, h2, h3, h4⟩
  · obtain ⟨e, he, hk⟩ := hex
    exact absurd hk (h3 e he)
  · refine ⟨j, e, h3, h4, ?_⟩
    have h5 : es[j]? = some e := by simpa using h3
    have h6 := K.stays w hx
    simp [Instr.mapUpdate, run_underlying ht, MapKept.run_getObj_map hb, h1, h2, h5, h4, h6, MapKept.run_setObj_map _ hb, Result.andThen, setObj']
end

/-- What a list of entries holds for a key. -/
def getM (L : List ((Int × Int) × Value)) (k : Int × Int) : Option Value := match L with
  | [] => none
  | x :: l => if x.1 = k then some x.2 else getM l k
def putM (L : List ((Int × Int) × Value)) (k : Int × Int) (v : Value) : List ((Int × Int) × Value) := match L with
  | [] => [(k, v)]
  | x :: l => if x.1 = k then (k, v) :: l else x :: putM l k v
theorem getM_put (L : List ((Int × Int) × Value)) (k j : Int × Int) (v : Value) : getM (putM L k v) j = if j = k then some v else getM L j := by
  induction L with
  | nil =>
    by_cases h : j = k
    · simp [putM, getM, h]
    · have h2 : ¬ k = j := fun e => h e.symm
      simp [putM, getM, h, h2]
  | cons x l ih =>
    by_cases hx : x.1 = k
    · by_cases h : j = k
      · subst h; simp [putM, getM, hx]
      · have h2 : ¬ k = j := fun e => h e.symm
        have h3 : ¬ x.1 = j := fun e => h (e.symm.trans hx)
        simp [putM, getM, hx, h, h2]
    · simp only [putM, hx, if_false, getM, ih]
      by_cases h : j = k
      · subst h; simp [hx]
      · simp [h]
theorem getM_mem {L : List ((Int × Int) × Value)} {k : Int × Int} {v : Value} (h : getM L k = some v) : (k, v) ∈ L := by
  induction L with
  | nil => simp [getM] at h
  | cons x l ih =>
    by_cases hx : x.1 = k
    · simp only [getM, hx, if_true, Option.some.injEq] at h
      subst h
      rw [← hx]
      simp
    · simp only [getM, hx, if_false] at h
      exact List.mem_cons_of_mem _ (ih h)
theorem getM_none {L : List ((Int × Int) × Value)} {k : Int × Int} (h : getM L k = none) : ∀ x ∈ L, x.1 ≠ k := by
  induction L with
  | nil => simp
  | cons x l ih =>
    by_cases hx : x.1 = k
    · simp [getM, hx] at h
    · simp only [getM, hx, if_false] at h
      intro y hy
      rcases List.mem_cons.1 hy with rfl | hy
      · exact hx
      · exact ih h y hy
theorem putM_keys (L : List ((Int × Int) × Value)) (k : Int × Int) (v : Value) : ∀ x ∈ putM L k v, x.1 = k ∨ ∃ y ∈ L, y.1 = x.1 := by
  induction L with
  | nil => simp [putM]
  | cons y l ih =>
    intro x hx
    by_cases hy : y.1 = k
    · simp only [putM, hy, if_true, List.mem_cons] at hx
      rcases hx with rfl | hx
      · exact .inl rfl
      · exact .inr ⟨x, List.mem_cons_of_mem _ hx, rfl⟩
    · simp only [putM, hy, if_false, List.mem_cons] at hx
      rcases hx with rfl | hx
      · exact .inr ⟨x, List.mem_cons_self, rfl⟩
      · rcases ih x hx with h | ⟨z, hz, e⟩
        · exact .inl h
        · exact .inr ⟨z, List.mem_cons_of_mem _ hz, e⟩

/-- Entries have numbers of their own, less than the map's count. -/
def Born (w : World) (b : Nat) : Prop := ∃ es clock, w.heap[b]? = some (.map es clock) ∧ (es.toList.map (·.born)).Nodup ∧ ∀ e ∈ es.toList, e.born < clock
theorem Born.made (w : World) : Born (w.alloc (.map #[] 0)) w.heap.size := ⟨#[], 0, heap_alloc_new w _, by simp, by simp⟩
theorem Born.keep {w w' : World} {b : Nat} (h : Born w b) (hb : w'.heap[b]? = w.heap[b]?) : Born w' b := by
  obtain ⟨es, c, h1, h2⟩ := h
  exact ⟨es, c, hb.trans h1, h2⟩
/-- A map of the call's own. -/
structure MapN (w : World) (b : Nat) (L : List ((Int × Int) × Value)) : Prop where
  ex : ∃ es clock, w.heap[b]? = some (.map es clock) ∧ es.toList.map (fun e => (e.key, e.val)) = L.map fun x => (nk x.1.1 x.1.2, x.2)
  wf : ∀ x ∈ L, wf2 x.1.1 x.1.2
  nodup : (L.map (·.1)).Nodup
  brn : Born w b
theorem putM_nodup {L : List ((Int × Int) × Value)} (h : (L.map (·.1)).Nodup) (k : Int × Int) (v : Value) : ((putM L k v).map (·.1)).Nodup := by
  induction L with
  | nil => simp [putM]
  | cons y l ih =>
    rw [List.map_cons, List.nodup_cons] at h
    by_cases hy : y.1 = k
    · simp only [putM, hy, if_true, List.map_cons, List.nodup_cons]
      exact ⟨by rw [← hy]; exact h.1, h.2⟩
    · simp only [putM, hy, if_false, List.map_cons, List.nodup_cons]
      refine ⟨fun hm => ?_, ih h.2⟩
      obtain ⟨x, hx, e⟩ := List.mem_map.1 hm
      rcases putM_keys l k v x hx with h1 | ⟨z, hz, e2⟩
      · exact hy (e.symm.trans h1)
      · exact h.1 (List.mem_map.2 ⟨z, hz, e2.trans e⟩)
theorem MapN.made (w : World) : MapN (w.alloc (.map #[] 0)) w.heap.size [] := ⟨⟨#[], 0, heap_alloc_new w _, rfl⟩, by simp, by simp, Born.made w⟩
theorem MapN.lt {w : World} {b : Nat} {L : List ((Int × Int) × Value)} (h : MapN w b L) : b < w.heap.size := by
  obtain ⟨es, c, hb, _⟩ := h.ex
  rcases Nat.lt_or_ge b w.heap.size with hlt | hge
  · exact hlt
  · rw [Array.getElem?_eq_none hge] at hb; cases hb
theorem MapN.keep {w w' : World} {b : Nat} {L : List ((Int × Int) × Value)} (h : MapN w b L) (hb : w'.heap[b]? = w.heap[b]?) : MapN w' b L :=
  ⟨by obtain ⟨es, c, h1, h2⟩ := h.ex; exact ⟨es, c, hb.trans h1, h2⟩, h.wf, h.nodup, h.brn.keep hb⟩
theorem MapN.ext {w w' : World} {b : Nat} {L : List ((Int × Int) × Value)} (h : MapN w b L) (hb : Below w.heap.size w w') : MapN w' b L := h.keep (hb.block b h.lt)
theorem MapN.alloc {w : World} {b : Nat} {L : List ((Int × Int) × Value)} (h : MapN w b L) (o : Obj) : MapN (w.alloc o) b L := h.keep (Below.heap_alloc _ _ _ h.lt)
theorem MapN.setCell {w : World} {b : Nat} {L : List ((Int × Int) × Value)} (h : MapN w b L) {a : Addr} (ha : b ≠ a.block) (v : Value) : MapN (w.setCell a v) b L := h.keep (Below.heap_setCell _ _ _ _ ha)
theorem nk_inj {a b c d : Int} (h : nk a b = nk c d) : (a, b) = (c, d) := by simpa using h

/-- The keys of a type of structs of two numbers. -/
structure Key2 (k : TypeId) : Prop where
  law : Keyed Tryz.prog k
  of : ∀ a b, wf2 a b → ∃ l, keyOf Tryz.prog k (nk a b) = some l
theorem key2_name : Key2 102 := ⟨keyed_name, keyOf_name⟩

section
variable {k E T : TypeId} {w : World} {b : Nat} {L : List ((Int × Int) × Value)}
theorem MapN.facts (K : Key2 k) {es : Array MapEntry} (he : es.toList.map (fun e => (e.key, e.val)) = L.map fun x => (nk x.1.1 x.1.2, x.2)) (hwf : ∀ x ∈ L, wf2 x.1.1 x.1.2) :
    (∀ e ∈ es.toList, ∃ x ∈ L, e.key = nk x.1.1 x.1.2 ∧ e.val = x.2) ∧ (∀ x ∈ L, ∃ e ∈ es.toList, e.key = nk x.1.1 x.1.2 ∧ e.val = x.2) ∧ (∀ e ∈ es.toList, ∃ l, keyOf Tryz.prog k e.key = some l) := by
  have h1 : ∀ e ∈ es.toList, ∃ x ∈ L, e.key = nk x.1.1 x.1.2 ∧ e.val = x.2 := fun e hm => by
    have : (e.key, e.val) ∈ L.map fun x => (nk x.1.1 x.1.2, x.2) := by rw [← he]; exact List.mem_map.2 ⟨e, hm, rfl⟩
    obtain ⟨x, hx, e2⟩ := List.mem_map.1 this
    exact ⟨x, hx, (congrArg Prod.fst e2).symm, (congrArg Prod.snd e2).symm⟩
  refine ⟨h1, fun x hx => ?_, fun e hm => ?_⟩
  · have : (nk x.1.1 x.1.2, x.2) ∈ es.toList.map (fun e => (e.key, e.val)) := by rw [he]; exact List.mem_map.2 ⟨x, hx, rfl⟩
    obtain ⟨e, hm, e2⟩ := List.mem_map.1 this
    exact ⟨e, hm, congrArg Prod.fst e2, congrArg Prod.snd e2⟩
  · obtain ⟨x, hx, e2, _⟩ := h1 e hm
    rw [e2]
    exact K.of _ _ (hwf x hx)
theorem nodup_val {L : List ((Int × Int) × Value)} (h : (L.map (·.1)).Nodup) {k : Int × Int} {u v : Value} (h1 : (k, u) ∈ L) (h2 : (k, v) ∈ L) : u = v := by
  induction L with
  | nil => simp at h1
  | cons x l ih =>
    rw [List.map_cons, List.nodup_cons] at h
    rcases List.mem_cons.1 h1 with e1 | m1 <;> rcases List.mem_cons.1 h2 with e2 | m2
    · rw [← e1] at e2; injection e2 with _ e3; exact e3.symm
    · exact absurd (List.mem_map.2 ⟨_, m2, by rw [← e1]⟩) h.1
    · exact absurd (List.mem_map.2 ⟨_, m1, by rw [← e2]⟩) h.1
    · exact ih h.2 m1 m2

theorem MapN.lookup (K : Key2 k) (ht : Tryz.prog.underlying T = some (.map k E)) (h : MapN w b L) {a c : Int} (hk : wf2 a c) {z : Value} (hz : (zeroValue E).run Tryz.prog w = .ok z w) :
    (Instr.lookup T (.map (some b)) (nk a c) false).run Tryz.prog w = .ok ((getM L (a, c)).getD z) w := by
  obtain ⟨es, clock, hb, he⟩ := h.ex
  obtain ⟨f1, f2, f3⟩ := MapN.facts K he h.wf
  obtain ⟨l, hl⟩ := K.of a c hk
  cases hg : getM L (a, c) with
  | none =>
    refine map_lookup_miss K.law ht hb hl f3 (fun e hm hkey => ?_) hz
    obtain ⟨x, hx, e1, _⟩ := f1 e hm
    exact getM_none hg x hx (nk_inj (e1.symm.trans hkey))
  | some v =>
    have hm := getM_mem hg
    obtain ⟨e, he1, he2, he3⟩ := f2 _ hm
    refine map_lookup_hit K.law ht hb hl f3 ⟨e, he1, he2⟩ (fun e' hm' hkey => ?_)
    obtain ⟨x, hx, e1, e2⟩ := f1 e' hm'
    have hxk : x.1 = (a, c) := nk_inj (e1.symm.trans hkey)
    rw [e2]
    exact nodup_val h.nodup (by rw [← hxk]; exact hx) hm
theorem putM_none {L : List ((Int × Int) × Value)} {k : Int × Int} (h : getM L k = none) (v : Value) : putM L k v = L ++ [(k, v)] := by
  induction L with
  | nil => rfl
  | cons x l ih =>
    by_cases hx : x.1 = k
    · simp [getM, hx] at h
    · simp only [getM, hx, if_false] at h
      simp only [putM, hx, if_false, ih h, List.cons_append]
theorem putM_at {L : List ((Int × Int) × Value)} {k : Int × Int} {j : Nat} {u : Value} (hn : (L.map (·.1)).Nodup) (h : L[j]? = some (k, u)) (v : Value) : putM L k v = L.set j (k, v) := by
  induction L generalizing j with
  | nil => simp at h
  | cons x l ih =>
    rw [List.map_cons, List.nodup_cons] at hn
    cases j with
    | zero =>
      simp only [List.getElem?_cons_zero, Option.some.injEq] at h
      subst h
      simp [putM]
    | succ j =>
      have hm : (k, u) ∈ l := List.mem_of_getElem? (by simpa using h)
      have hx : ¬ x.1 = k := fun e => hn.1 (List.mem_map.2 ⟨_, hm, e.symm⟩)
      simp only [putM, hx, if_false, List.set_cons_succ]
      rw [ih hn.2 (by simpa using h)]
theorem setObj'_at {w : World} {b : Nat} (h : b < w.heap.size) (o : Obj) : (setObj' w b o).heap[b]? = some o := by
  simp [setObj', Array.getElem?_setIfInBounds, h]
theorem setObj'_other {w : World} {b c : Nat} (h : c ≠ b) (o : Obj) : (setObj' w b o).heap[c]? = w.heap[c]? := by
  simp only [setObj', Array.getElem?_setIfInBounds]
  rw [if_neg (by omega)]
theorem Below.setObj' {B : Nat} {u w : World} (h : Below B u w) {b : Nat} (hb : B ≤ b) (o : Obj) : Below B u (setObj' w b o) :=
  h.trans ⟨rfl, rfl, rfl, by simp [Go.Proofs.YtikioiblaoimkaaGreatDoor.setObj'], fun c hc => setObj'_other (by omega) o⟩

theorem born_new {w : World} {b : Nat} {es : Array MapEntry} {clock : Nat} (hb : w.heap[b]? = some (.map es clock)) (hl : b < w.heap.size) (h : Born w b) (x v : Value) : Born (setObj' w b (.map (es.push { key := x, val := v, born := clock }) (clock + 1))) b := by
  obtain ⟨es', clock', hb', hnd, hlt⟩ := h
  rw [hb] at hb'
  cases hb'
  refine ⟨_, _, setObj'_at hl _, ?_, fun e he2 => ?_⟩
  · rw [Array.toList_push, List.map_append, List.nodup_append]
    refine ⟨hnd, by simp, fun x hx y hy e => ?_⟩
    obtain ⟨z, hz, rfl⟩ := List.mem_map.1 hx
    simp at hy
    have := hlt z hz
    omega
  · rw [Array.toList_push] at he2
    rcases List.mem_append.1 he2 with h1 | h1
    · have := hlt e h1; omega
    · simp at h1
      subst h1
      exact Nat.lt_succ_self _
theorem born_old {w : World} {b j : Nat} {es : Array MapEntry} {clock : Nat} {e' : MapEntry} (hb : w.heap[b]? = some (.map es clock)) (hl : b < w.heap.size) (h : Born w b) (hj : es.toList[j]? = some e') (x v : Value) : Born (setObj' w b (.map (es.modify j fun e => { e with key := x, val := v }) clock)) b := by
  obtain ⟨es', clock', hb', hnd, hlt⟩ := h
  rw [hb] at hb'
  cases hb'
  have hm : (es.modify j fun e => { e with key := x, val := v }).toList.map (·.born) = es.toList.map (·.born) := by
    rw [Array.toList_modify]
    apply List.ext_getElem?
    intro i
    simp only [List.getElem?_map, List.getElem?_modify]
    by_cases hij : j = i
    · subst hij
      rw [hj]
      simp
    · simp [hij]
  refine ⟨_, _, setObj'_at hl _, by rw [hm]; exact hnd, fun e he2 => ?_⟩
  have : e.born ∈ es.toList.map (·.born) := by rw [← hm]; exact List.mem_map.2 ⟨e, he2, rfl⟩
  obtain ⟨z, hz, ez⟩ := List.mem_map.1 this
  rw [← ez]
  exact hlt z hz
theorem MapN.update (K : Key2 k) (ht : Tryz.prog.underlying T = some (.map k E)) (h : MapN w b L) {a c : Int} (hk : wf2 a c) (v : Value) :
    ∃ es n, (Instr.mapUpdate T (.map (some b)) (nk a c) v).run Tryz.prog w = .ok () (setObj' w b (.map es n)) ∧ MapN (setObj' w b (.map es n)) b (putM L (a, c) v) := by
  obtain ⟨es, clock, hb, he⟩ := h.ex
  obtain ⟨f1, f2, f3⟩ := MapN.facts K he h.wf
  obtain ⟨l, hl⟩ := K.of a c hk
  have hwf : ∀ x ∈ putM L (a, c) v, wf2 x.1.1 x.1.2 := fun x hx => by
    rcases putM_keys L (a, c) v x hx with e | ⟨y, hy, e⟩
    · rw [e]; exact hk
    · rw [← e]; exact h.wf y hy
  cases hg : getM L (a, c) with
  | none =>
    refine ⟨_, _, map_update_new K.law ht hb hl f3 (fun e hm hkey => ?_), ⟨⟨_, _, setObj'_at h.lt _, ?_⟩, hwf, putM_nodup h.nodup _ _, born_new hb h.lt h.brn _ _⟩⟩
    · obtain ⟨x, hx, e1, _⟩ := f1 e hm
      exact getM_none hg x hx (nk_inj (e1.symm.trans hkey))
    · rw [putM_none hg, Array.toList_push, List.map_append, List.map_append, he]
      rfl
  | some u =>
    have hm := getM_mem hg
    obtain ⟨e, he1, he2, he3⟩ := f2 _ hm
    obtain ⟨j, e', hj, hkey, hrun⟩ := map_update_old (v := v) K.law ht hb hl f3 ⟨e, he1, he2⟩
    refine ⟨_, _, hrun, ⟨⟨_, _, setObj'_at h.lt _, ?_⟩, hwf, putM_nodup h.nodup _ _, born_old hb h.lt h.brn hj _ _⟩⟩
    have hlj : (L.map fun x => (nk x.1.1 x.1.2, x.2))[j]? = some (e'.key, e'.val) := by rw [← he, List.getElem?_map, hj]; rfl
    rw [List.getElem?_map] at hlj
    obtain ⟨x, hx, ex⟩ := Option.map_eq_some_iff.1 hlj
    have hxk : x.1 = (a, c) := nk_inj ((congrArg Prod.fst ex).trans hkey)
    have hx2 : L[j]? = some ((a, c), x.2) := by rw [hx, ← hxk]
    rw [putM_at h.nodup hx2, List.map_set, ← he]
    apply List.ext_getElem?
    intro i
    simp only [Array.toList_modify, List.getElem?_map, List.getElem?_modify, List.getElem?_set, List.length_map]
    by_cases hij : j = i
    · subst hij
      have hlt : j < es.toList.length := (List.getElem?_eq_some_iff.1 hj).1
      have hj2 : es[j]? = some e' := by simpa using hj
      have hlt2 : j < es.size := by simpa using hlt
      simp [hj2, hlt2]
    · simp [hij]
end

end Go.Proofs.YtikioiblaoimkaaGreatDoor

/- effects: the map of what deeds do, by their kinds. -/
namespace Go.Proofs.YtikioiblaoimkaaGreatDoor
open Go.RowKit Go.Maps

theorem setObj'_alloc (w : World) (o o' : Obj) : setObj' (w.alloc o) w.heap.size o' = w.alloc o' := by
  have h : (w.heap.push o).setIfInBounds w.heap.size o' = w.heap.push o' := by
    apply Array.ext'
    simp
  show ({ w.alloc o with heap := (w.heap.push o).setIfInBounds w.heap.size o' } : World) = w.alloc o'
  rw [h]
  rfl
theorem keyed_int : Keyed Tryz.prog 3 := int_keyed Tryz.underlying3
theorem keyOf_int (k : Int) (h : (Lit.int .i64 k).wf = true) : keyOf Tryz.prog 3 (.int .i64 k) = some (.int .i64 k) := keyOf_int_mk Tryz.underlying3 h

theorem run_ins (w : World) (es : Array MapEntry) (c : Nat) (k : Int) (v : Value) (hk : (Lit.int .i64 k).wf = true) (hes : ∀ e ∈ es.toList, ∃ n : Int, e.key = .int .i64 n ∧ (Lit.int .i64 n).wf = true ∧ n ≠ k) :
    (Instr.mapUpdate 140 (.map (some w.heap.size)) (.int .i64 k) v).run Tryz.prog (w.alloc (.map es c)) = .ok () (w.alloc (.map (es.push { key := .int .i64 k, val := v, born := c }) (c + 1))) := by
  have h := map_update_new (w := w.alloc (.map es c)) (b := w.heap.size) (v := v) keyed_int Tryz.underlying140 (heap_alloc_new w _) (keyOf_int k hk)
    (fun e he => by obtain ⟨n, h1, h2, _⟩ := hes e he; rw [h1]; exact ⟨_, keyOf_int n h2⟩)
    (fun e he => by obtain ⟨n, h1, _, h3⟩ := hes e he; rw [h1]; intro e2; injection e2 with _ e3; exact h3 e3)
  rw [h, setObj'_alloc]

def eff (k : Nat) : FuncId := match k with
  | 1 => 120
  | 2 => 121
  | 3 => 122
  | 4 => 123
  | 5 => 124
  | _ => 125
def effEs : Array MapEntry := #[⟨.int .i64 1, .func (.func 120) #[] #[], 0⟩, ⟨.int .i64 2, .func (.func 121) #[] #[], 1⟩, ⟨.int .i64 3, .func (.func 122) #[] #[], 2⟩,
  ⟨.int .i64 4, .func (.func 123) #[] #[], 3⟩, ⟨.int .i64 5, .func (.func 124) #[] #[], 4⟩, ⟨.int .i64 6, .func (.func 125) #[] #[], 5⟩]

set_option maxRecDepth 100000 in
set_option maxHeartbeats 1000000 in
theorem p_effects (w : World) :
    Calls Tryz.prog 89 #[] w fun e w' => e = .returned (.map (some w.heap.size)) ∧ w.alloc (.map effEs 6) = w' := by
  have hmm := @run_makeMap Tryz.prog
  have i1 := fun v => run_ins w #[] 0 1 v (by decide) (by simp)
  have i2 := fun v f1 => run_ins w #[⟨.int .i64 1, f1, 0⟩] 1 2 v (by decide) (by simp; decide)
  have i3 := fun v f1 f2 => run_ins w #[⟨.int .i64 1, f1, 0⟩, ⟨.int .i64 2, f2, 1⟩] 2 3 v (by decide) (by simp; decide)
  have i4 := fun v f1 f2 f3 => run_ins w #[⟨.int .i64 1, f1, 0⟩, ⟨.int .i64 2, f2, 1⟩, ⟨.int .i64 3, f3, 2⟩] 3 4 v (by decide) (by simp; decide)
  have i5 := fun v f1 f2 f3 f4 => run_ins w #[⟨.int .i64 1, f1, 0⟩, ⟨.int .i64 2, f2, 1⟩, ⟨.int .i64 3, f3, 2⟩, ⟨.int .i64 4, f4, 3⟩] 4 5 v (by decide) (by simp; decide)
  have i6 := fun v f1 f2 f3 f4 f5 => run_ins w #[⟨.int .i64 1, f1, 0⟩, ⟨.int .i64 2, f2, 1⟩, ⟨.int .i64 3, f3, 2⟩, ⟨.int .i64 4, f4, 3⟩, ⟨.int .i64 5, f5, 4⟩] 5 6 v (by decide) (by simp; decide)
  simp only [List.push_toArray, List.cons_append, List.nil_append, Nat.reduceAdd] at i1 i2 i3 i4 i5 i6
  go_enter Tryz.func89, Tryz.ntmps89
  go_wp2
  go_ret
  exact ⟨rfl, rfl⟩

end Go.Proofs.YtikioiblaoimkaaGreatDoor

/- What a deed's kind does, as a function value found in the map. -/
namespace Go.Proofs.YtikioiblaoimkaaGreatDoor
open Go.RowKit Go.Maps

abbrev stV (s : St) : Value := .agg #[.int .i64 s.holder, .int .i64 s.hand, .bool s.office]

theorem kind_cases {P : Int → Prop} {k : Int} (h1 : 1 ≤ k) (h6 : k ≤ 6) (a1 : P 1) (a2 : P 2) (a3 : P 3) (a4 : P 4) (a5 : P 5) (a6 : P 6) : P k := by
  rcases (by omega : k = 1 ∨ k = 2 ∨ k = 3 ∨ k = 4 ∨ k = 5 ∨ k = 6) with h | h | h | h | h | h <;> (subst h; assumption)

theorem p_eff (d : Deed) (s : St) (w : World) (h1 : 1 ≤ d.kind) (h6 : d.kind ≤ 6) :
    Calls Tryz.prog (eff d.kind.toNat) #[.agg #[.int .i64 s.holder, .int .i64 s.hand, .bool s.office], .int .i64 d.person] w fun e w' => e = .returned (.agg #[.int .i64 (stepSt s d).holder, .int .i64 (stepSt s d).hand, .bool (stepSt s d).office]) ∧ Below w.heap.size w w' := by
  obtain ⟨par, no, kind, lock, person, lo, hi, known, til⟩ := d
  simp only at h1 h6 ⊢
  revert h1 h6
  intro h1 h6
  rcases (by omega : kind = 1 ∨ kind = 2 ∨ kind = 3 ∨ kind = 4 ∨ kind = 5 ∨ kind = 6) with h | h | h | h | h | h
  · subst h; exact p_sworn s person w
  · subst h; exact p_left s person w
  · subst h; exact p_given s person w
  · subst h
    by_cases hz : s.holder = 0
    · have := p_lent s person w
      simp only [hz, if_true] at this
      simpa [stepSt, hz, eff] using this
    · have := p_lent s person w
      simp only [hz, if_false] at this
      simpa [stepSt, hz, eff] using this
  · subst h; exact p_back s person w
  · subst h; exact p_lost s person w

theorem eff_lookup (w : World) (bm : Nat) (hb : w.heap[bm]? = some (.map effEs 6)) (k : Int) (h1 : 1 ≤ k) (h6 : k ≤ 6) :
    (Instr.lookup 140 (.map (some bm)) (.int .i64 k) false).run Tryz.prog w = .ok (.func (.func (eff k.toNat)) #[] #[]) w := by
  have hall : ∀ e ∈ effEs.toList, ∃ l, keyOf Tryz.prog 3 e.key = some l := by
    intro e he
    simp only [effEs, List.mem_cons, List.not_mem_nil, or_false] at he
    rcases he with h | h | h | h | h | h <;> (subst h; exact ⟨_, keyOf_int _ (by decide)⟩)
  have key : ∀ (k : Int) (v : Value), (Lit.int .i64 k).wf = true → (∃ e ∈ effEs.toList, e.key = .int .i64 k) → (∀ e ∈ effEs.toList, e.key = .int .i64 k → e.val = v) →
      (Instr.lookup 140 (.map (some bm)) (.int .i64 k) false).run Tryz.prog w = .ok v w := fun k v hw hex hv =>
    map_lookup_hit keyed_int Tryz.underlying140 hb (keyOf_int k hw) hall hex hv
  rcases (by omega : k = 1 ∨ k = 2 ∨ k = 3 ∨ k = 4 ∨ k = 5 ∨ k = 6) with h | h | h | h | h | h <;> subst h <;>
    exact key _ _ (by decide) (by simp [effEs]) (by simp [effEs, eff])

end Go.Proofs.YtikioiblaoimkaaGreatDoor

/- Families of rows of the call's own, one for each name: what keeps them, and an append to one of them. -/
namespace Go.Proofs.YtikioiblaoimkaaGreatDoor
open Go.RowKit Go.Maps

abbrev Nm := Int × Int
def nmD (d : Deed) : Nm := (nmLock d, nmPerson d)
def upd {α : Type} (f : Nm → α) (n : Nm) (v : α) : Nm → α := fun m => if m = n then v else f m
theorem upd_same {α : Type} (f : Nm → α) (n : Nm) (v : α) : upd f n v n = v := by simp [upd]
theorem upd_other {α : Type} (f : Nm → α) {n m : Nm} (h : m ≠ n) (v : α) : upd f n v m = f m := by simp [upd, h]

abbrev TL := List (Deed × Nat)
structure Fam (w : World) (base : Nat) (e : TypeId) (size : Nat) (g : Nm → Value) (c : TL → List Value) (S : Nm → TL) : Prop where
  own : ∀ n, w.ownsRow base e size (g n) (S n).length (c (S n))
  dis : ∀ n m, n ≠ m → ∀ b, (g n).ownBlock = some b → (g m).ownBlock ≠ some b

theorem own_block {w : World} {base size n : Nat} {e : TypeId} {v : Value} {xs : List Value} (h : w.ownsRow base e size v n xs) {b : Nat} (hb : v.ownBlock = some b) : ∃ cur, w.heap[b]? = some (.cells cur e (0, 0)) := by
  rcases h.2 with ⟨rfl, _⟩ | ⟨g, cap, cur, rfl, _, hh, _⟩
  · simp [Value.ownBlock] at hb
  · simp [Value.ownBlock] at hb
    subst hb
    exact ⟨cur, hh⟩
theorem own_keep {w w' : World} {base size n : Nat} {e : TypeId} {v : Value} {xs : List Value} (h : w.ownsRow base e size v n xs) (hk : ∀ b, v.ownBlock = some b → w'.heap[b]? = w.heap[b]?) : w'.ownsRow base e size v n xs := by
  refine ⟨h.1, ?_⟩
  rcases h.2 with h2 | ⟨g, cap, cur, rfl, hb, hh, r⟩
  · exact .inl h2
  · exact .inr ⟨g, cap, cur, rfl, hb, (hk g rfl).trans hh, r⟩
theorem block_lt {w : World} {b : Nat} {o : Obj} (h : w.heap[b]? = some o) : b < w.heap.size := by
  rcases Nat.lt_or_ge b w.heap.size with hlt | hge
  · exact hlt
  · rw [Array.getElem?_eq_none hge] at h; cases h

section
variable {w w' : World} {base size : Nat} {e : TypeId} {g : Nm → Value} {c : TL → List Value} {S : Nm → TL}
theorem Fam.start (w : World) (base : Nat) (e : TypeId) (size : Nat) (c : TL → List Value) (hc : c [] = []) : Fam w base e size (fun _ => .slice none 0 0) c (fun _ => []) :=
  ⟨fun _ => by rw [hc]; exact World.ownsRow_nil _ _ _ _, fun _ _ _ b hb => by simp [Value.ownBlock] at hb⟩
theorem Fam.keep (h : Fam w base e size g c S) (hk : ∀ n b, (g n).ownBlock = some b → w'.heap[b]? = w.heap[b]?) : Fam w' base e size g c S :=
  ⟨fun n => own_keep (h.own n) (hk n), h.dis⟩
theorem Fam.lt (h : Fam w base e size g c S) {n : Nm} {b : Nat} (hb : (g n).ownBlock = some b) : b < w.heap.size := by
  obtain ⟨cur, hh⟩ := own_block (h.own n) hb
  exact block_lt hh
theorem Fam.ext (h : Fam w base e size g c S) (hb : Below w.heap.size w w') : Fam w' base e size g c S := h.keep fun _ b hg => hb.block b (h.lt hg)
theorem Fam.alloc (h : Fam w base e size g c S) (o : Obj) : Fam (w.alloc o) base e size g c S := h.keep fun _ b hg => Below.heap_alloc _ _ _ (h.lt hg)
theorem Fam.drew (h : Fam w base e size g c S) : Fam w.drew base e size g c S := h.keep fun _ _ _ => rfl
/-- A store into a block of another element type. -/
theorem Fam.set (h : Fam w base e size g c S) {p : Addr} {t : TypeId} {cs : Array Value} {fr : Nat × Nat} (hp : w.heap[p.block]? = some (.cells cs t fr)) (hne : t ≠ e) (u : Value) : Fam (w.setCell p u) base e size g c S :=
  h.keep fun n b hg => Below.heap_setCell _ _ _ _ fun eb => by
    obtain ⟨cur, hh⟩ := own_block (h.own n) hg
    rw [eb, hp] at hh
    injection hh with hh
    injection hh with _ ht
    exact hne ht
/-- A store into a block that none of the rows has. -/
theorem Fam.setNew (h : Fam w base e size g c S) {p : Addr} (hp : ∀ n, (g n).ownBlock ≠ some p.block) (u : Value) : Fam (w.setCell p u) base e size g c S :=
  h.keep fun n b hg => Below.heap_setCell _ _ _ _ fun eb => hp n (by rw [← eb]; exact hg)
/-- An append to a row of another element type. -/
theorem Fam.grown (h : Fam w base e size g c S) {base' size' n' : Nat} {e' : TypeId} {v : Value} {xs : List Value} (hv : w.ownsRow base' e' size' v n' xs) (hne : e' ≠ e) (hg : w.grownBy w' v.ownBlock) : Fam w' base e size g c S :=
  h.keep fun n b hgb => hg.block b (h.lt hgb) fun eb => by
    obtain ⟨cur, hh⟩ := own_block (h.own n) hgb
    obtain ⟨cur', hh'⟩ := own_block hv eb.symm
    rw [hh] at hh'
    injection hh' with hh'
    injection hh' with _ ht
    exact hne ht.symm
/-- An append to one of the rows. -/
theorem Fam.push (h : Fam w base e size g c S) {n : Nm} {x : Deed × Nat} {news : List Value} {b cap : Nat} (hc : c (S n ++ [x]) = c (S n) ++ news)
    (hown : w'.ownsRow base e size (.slice (some ⟨b, 0, none⟩) ((S n).length + 1) cap) ((S n).length + 1) (c (S n) ++ news)) (hg : w.grownBy w' (g n).ownBlock) (hb : (g n).ownBlock = some b ∨ w.heap.size ≤ b) :
    Fam w' base e size (upd g n (.slice (some ⟨b, 0, none⟩) ((S n).length + 1) cap)) c (upd S n (S n ++ [x])) := by
  refine ⟨fun m => ?_, fun m k hmk b' hb' => ?_⟩
  · by_cases hm : m = n
    · subst hm
      rw [upd_same, upd_same, List.length_append, hc]
      exact hown
    · rw [upd_other _ hm, upd_other _ hm]
      exact own_keep (h.own m) fun b' hb' => hg.block b' (h.lt hb') fun eb => h.dis m n hm b' hb' eb.symm
  · by_cases hm : m = n
    · subst hm
      have hk : k ≠ m := fun e => hmk e.symm
      rw [upd_same] at hb'
      rw [upd_other _ hk]
      have hbb : b = b' := by simpa [Value.ownBlock] using hb'
      subst hbb
      rcases hb with hb | hb
      · exact h.dis m k hmk b hb
      · intro e2
        have := h.lt e2
        omega
    · rw [upd_other _ hm] at hb'
      by_cases hk : k = n
      · subst hk
        rw [upd_same]
        intro e2
        have hbb : b = b' := by simpa [Value.ownBlock] using e2
        subst hbb
        rcases hb with hb | hb
        · exact h.dis m k hmk b hb' hb
        · have := h.lt hb'
          omega
      · rw [upd_other _ hk]
        exact h.dis m k hmk b' hb'
end

/-- The deeds of the first ones that are of a name, each with its index. -/
def sub (ds : List Deed) (n : Nm) : TL := ds.zipIdx.filter fun x => decide (nmD x.1 = n)
theorem sub_take_snoc {ds : List Deed} {k : Nat} {d : Deed} (h : ds[k]? = some d) : sub (ds.take (k + 1)) = upd (sub (ds.take k)) (nmD d) (sub (ds.take k) (nmD d) ++ [(d, k)]) := by
  funext n
  have hk : k < ds.length := (List.getElem?_eq_some_iff.1 h).1
  have h1 : (ds.take (k + 1)).zipIdx = (ds.take k).zipIdx ++ [(d, k)] := by
    rw [take_snoc_some h, List.zipIdx_append]
    simp [Nat.min_eq_left (Nat.le_of_lt hk)]
  unfold sub
  rw [h1, List.filter_append]
  by_cases hn : n = nmD d
  · subst hn
    rw [upd_same]
    simp
  · rw [upd_other _ hn]
    have : ¬ nmD d = n := fun e => hn e.symm
    simp [this]
/-- The states behind each of the deeds. -/
def aftL (ds : List Deed) : List St := (List.range ds.length).map fun i => runSt (ds.take (i + 1))
theorem aftL_snoc (ds : List Deed) (d : Deed) : aftL (ds ++ [d]) = aftL ds ++ [stepSt (runSt ds) d] := by
  unfold aftL
  rw [List.length_append, List.length_singleton, List.range_succ, List.map_append]
  congr 1
  · apply List.map_congr_left
    intro i hi
    have hi := List.mem_range.1 hi
    rw [List.take_append_of_le_length (by omega)]
  · simp only [List.map_cons, List.map_nil, runSt]
    rw [List.take_of_length_le (by simp), List.foldl_append]
    rfl
theorem aftL_length (ds : List Deed) : (aftL ds).length = ds.length := by simp [aftL]
theorem stN_aftL (ds : List Deed) : stN (aftL ds) ds.length = runSt ds := by
  cases hl : ds.length with
  | zero =>
    have : ds = [] := List.eq_nil_of_length_eq_zero hl
    subst this
    rfl
  | succ j =>
    simp only [stN, aftL]
    rw [List.getElem?_map, List.getElem?_range (by omega)]
    simp only [Option.map_some, Option.getD_some]
    rw [List.take_of_length_le (by omega)]

def dC (T : TL) : List Value := deedCells (T.map (·.1))
def iC (T : TL) : List Value := T.map fun x => .int .i64 (x.2 : Int)
def sC (T : TL) : List Value := stCells (aftL (T.map (·.1)))
theorem dC_snoc (T : TL) (x : Deed × Nat) : dC (T ++ [x]) = dC T ++ deedCells [x.1] := by simp [dC, deedCells]
theorem iC_snoc (T : TL) (x : Deed × Nat) : iC (T ++ [x]) = iC T ++ [.int .i64 (x.2 : Int)] := by simp [iC]
theorem sC_snoc (T : TL) (x : Deed × Nat) : sC (T ++ [x]) = sC T ++ [.int .i64 (stepSt (runSt (T.map (·.1))) x.1).holder, .int .i64 (stepSt (runSt (T.map (·.1))) x.1).hand, .bool (stepSt (runSt (T.map (·.1))) x.1).office] := by
  unfold sC
  rw [List.map_append, List.map_singleton, aftL_snoc, stCells_append]
  rfl

end Go.Proofs.YtikioiblaoimkaaGreatDoor

/- A region that draws its order, and whose last operation waits for all others (a store, a map's update): the others in whatever order, then that one. -/
namespace Go.Proofs.YtikioiblaoimkaaGreatDoor
open Go.RowKit

/-- What is asked behind the others: that the last one goes through. -/
def sinkQ (P : Program) (o : Oper) (Q : Exit → Act → World → Prop) : Exit → Act → World → Prop
  | .normal, a, w => o.wp P a w (Q .normal) Q
  | e, a, w => Q e a w
/-- No guard; it waits for each of the others; none of the others looks at it, or at one behind itself. -/
def sinkOk (L : Array Oper) (o : Oper) : Bool :=
  o.guard.isNone && (List.range L.size).all (fun i => o.after.any fun e => Region.binds .any e && e.on == i) &&
  (List.range L.size).all fun i => match L[i]? with
    | none => true
    | some x => x.after.all (fun e => decide (e.on < i)) && (match x.guard with | none => true | some (g, _) => decide (g < L.size))

section
variable {P : Program} {L : Array Oper} {o : Oper} {Q : Exit → Act → World → Prop}

theorem wp_post {Q' : Exit → Act → World → Prop} {x : Oper} {a : Act} {w : World} {K : Act → World → Prop} (hp : ∀ c a w, Q' (.panic c) a w → Q (.panic c) a w) (hl : LetsOut Q' → LetsOut Q) (h : x.wp P a w K Q') : x.wp P a w K Q := by
  unfold Oper.wp at *
  generalize (execOp a.eval x).run P w = r at *
  cases r with
  | ok n w' =>
    cases n <;> simp only [Oper.upon] at h ⊢ <;>
      first
        | exact h
        | exact Calls.mono h (fun e w'' he => by cases e <;> first | exact hp _ _ _ he | exact hl he | exact he)
        | exact Rows.mono h (fun _ _ he => he)
  | halt y w' => cases y <;> simp only [Oper.upon] at h ⊢ <;> first | exact hp _ _ _ h | exact h

theorem push_get {i : Nat} (h : i < L.size) : (L.push o)[i]? = L[i]? := by
  rw [Array.getElem?_push, if_neg (by omega)]
theorem listed_push {l : Array Bool} {i : Nat} (d : Bool) (h : i < l.size) : (l.push false).getD i d = l.getD i d := by
  simp [Array.getD_eq_getD_getElem?, Array.getElem?_push]
  rw [if_neg (by omega)]
theorem listed_last (l : Array Bool) (d : Bool) : (l.push false).getD l.size d = false := by
  simp [Array.getD_eq_getD_getElem?, Array.getElem?_push]
theorem set_push {l : Array Bool} {i : Nat} (h : i < l.size) : (l.push false).setIfInBounds i true = (l.setIfInBounds i true).push false := by
  apply Array.ext'
  simp [List.set_append, h]

theorem sink_spec (h : sinkOk L o = true) : o.guard = none ∧ (∀ i, i < L.size → ∃ e ∈ o.after, Region.binds .any e = true ∧ e.on = i) ∧
    (∀ (i : Nat) (x : Oper), L[i]? = some x → (∀ e ∈ x.after, e.on < i) ∧ (∀ g b, x.guard = some (g, b) → g < L.size)) := by
  simp only [sinkOk, Bool.and_eq_true, List.all_eq_true, List.mem_range] at h
  obtain ⟨⟨h1, h2⟩, h3⟩ := h
  refine ⟨by simpa using h1, fun i hi => ?_, fun i x hx => ?_⟩
  · have := h2 i hi
    rw [Array.any_eq_true'] at this
    obtain ⟨e, he, hb⟩ := this
    simp only [Bool.and_eq_true, beq_iff_eq] at hb
    exact ⟨e, he, hb⟩
  · have hi : i < L.size := by
      rcases Nat.lt_or_ge i L.size with hlt | hge
      · exact hlt
      · rw [Array.getElem?_eq_none hge] at hx; cases hx
    have := h3 i hi
    rw [hx] at this
    simp only [Bool.and_eq_true, Array.all_eq_true', decide_eq_true_eq] at this
    refine ⟨this.1, fun g b hg => ?_⟩
    have h4 := this.2
    rw [hg] at h4
    simpa using h4

theorem ready_mem {ops : Array Oper} {l : Array Bool} {i : Nat} : i ∈ Region.ready .any ops l ↔ i < ops.size ∧ l.getD i true = false ∧ ∃ x, ops[i]? = some x ∧ ∀ e ∈ x.after, Region.binds .any e = true → l.getD e.on false = true := by
  unfold Region.ready
  rw [List.mem_filter, List.mem_range]
  constructor
  · rintro ⟨h1, h2⟩
    simp only [Bool.and_eq_true, Bool.not_eq_true'] at h2
    obtain ⟨h3, h4⟩ := h2
    refine ⟨h1, h3, ?_⟩
    cases hx : ops[i]? with
    | none => rw [hx] at h4; simp at h4
    | some x =>
      rw [hx] at h4
      simp only [Option.map_some, Option.getD_some, Array.all_eq_true', Bool.or_eq_true, Bool.not_eq_true'] at h4
      exact ⟨x, rfl, fun e he hb => by rcases h4 e he with h | h; · rw [hb] at h; cases h
                                       · exact h⟩
  · rintro ⟨h1, h3, x, hx, h4⟩
    refine ⟨h1, ?_⟩
    simp only [Bool.and_eq_true, Bool.not_eq_true']
    refine ⟨h3, ?_⟩
    rw [hx]
    simp only [Option.map_some, Option.getD_some, Array.all_eq_true', Bool.or_eq_true, Bool.not_eq_true']
    intro e he
    cases hb : Region.binds .any e
    · exact .inl rfl
    · exact .inr (h4 e he hb)
/-- Not all have come up: the same may come up, the last one or not. -/
theorem ready_push (h : sinkOk L o = true) {l : Array Bool} (hl : l.size = L.size) (hne : ∃ i, i < L.size ∧ l.getD i true = false) :
    Region.ready .any (L.push o) (l.push false) = Region.ready .any L l := by
  obtain ⟨_, h2, h3⟩ := sink_spec h
  have hlast : ∀ i, i ∈ Region.ready .any (L.push o) (l.push false) → i < L.size := fun i hi => by
    obtain ⟨g1, g2, x, hx, hw⟩ := ready_mem.1 hi
    rcases Nat.lt_or_ge i L.size with hlt | hge
    · exact hlt
    · have hi2 : i = L.size := by rw [Array.size_push] at g1; omega
      subst hi2
      have hxo : o = x := by simpa using hx
      subst hxo
      obtain ⟨j, hj, hu⟩ := hne
      obtain ⟨e, he, hb, hon⟩ := h2 j hj
      have := hw e he hb
      rw [hon, listed_push _ (by omega)] at this
      have h5 : l.getD j true = true := by
        simp [Array.getD_eq_getD_getElem?, Array.getElem?_eq_getElem (show j < l.size by omega)] at this ⊢
        exact this
      rw [h5] at hu
      cases hu
  have hiff : ∀ i, i < L.size → (i ∈ Region.ready .any (L.push o) (l.push false) ↔ i ∈ Region.ready .any L l) := fun i hi => by
    rw [ready_mem, ready_mem, push_get hi, listed_push _ (by omega), Array.size_push]
    constructor
    · rintro ⟨_, g2, x, hx, hw⟩
      refine ⟨hi, g2, x, hx, fun e he hb => ?_⟩
      have := hw e he hb
      rwa [listed_push _ (by have := (h3 i x hx).1 e he; omega)] at this
    · rintro ⟨_, g2, x, hx, hw⟩
      refine ⟨by omega, g2, x, hx, fun e he hb => ?_⟩
      rw [listed_push _ (by have := (h3 i x hx).1 e he; omega)]
      exact hw e he hb
  unfold Region.ready at *
  rw [Array.size_push, List.range_succ, List.filter_append]
  have h6 : List.filter (fun i => !(l.push false).getD i true && (Option.map (fun x => x.after.all fun e => !Region.binds Region.Mode.any e || (l.push false).getD e.on false) (L.push o)[i]?).getD false) [L.size] = [] := by
    rw [List.filter_eq_nil_iff]
    intro i hi hq
    have hi2 : i = L.size := by simpa using hi
    have := hlast i (by rw [List.mem_filter, List.mem_range]; exact ⟨by rw [Array.size_push]; omega, hq⟩)
    omega
  rw [h6, List.append_nil]
  apply List.filter_congr
  intro i hi
  have hi := List.mem_range.1 hi
  have := hiff i hi
  rw [List.mem_filter, List.mem_filter, List.mem_range, List.mem_range, Array.size_push] at this
  rw [Bool.eq_iff_iff]
  constructor
  · exact fun hq => (this.1 ⟨by omega, hq⟩).2
  · exact fun hq => (this.2 ⟨hi, hq⟩).2
/-- All have come up: the last one may. -/
theorem ready_last (h : sinkOk L o = true) {l : Array Bool} (hl : l.size = L.size) (hall : ∀ i, i < L.size → l.getD i true = true) :
    ∀ i ∈ Region.ready .any (L.push o) (l.push false), i = L.size := fun i hi => by
  obtain ⟨g1, g2, x, hx, hw⟩ := ready_mem.1 hi
  rcases Nat.lt_or_ge i L.size with hlt | hge
  · rw [listed_push _ (by omega), hall i hlt] at g2
    cases g2
  · rw [Array.size_push] at g1
    omega
theorem ready_last_mem (hB : ∀ e ∈ o.after, e.on < L.size) {l : Array Bool} (hl : l.size = L.size) (hall : ∀ i, i < L.size → l.getD i true = true) :
    L.size ∈ Region.ready .any (L.push o) (l.push false) := by
  rw [ready_mem]
  refine ⟨by simp, by rw [← hl, listed_last], o, by simp, fun e he _ => ?_⟩
  have h1 := hB e he
  rw [listed_push _ (by omega)]
  have := hall _ h1
  simp [Array.getD_eq_getD_getElem?, Array.getElem?_eq_getElem (show e.on < l.size by omega)] at this ⊢
  exact this
/-- Where nothing may come up, all have. -/
theorem ready_nil (h : sinkOk L o = true) {l : Array Bool} (hr : Region.ready .any L l = []) : ∀ n i, i < n → i < L.size → l.getD i true = true := by
  obtain ⟨_, _, h3⟩ := sink_spec h
  intro n
  induction n with
  | zero => intro i hi; omega
  | succ n ih =>
    intro i hi hiL
    cases hg : l.getD i true with
    | true => rfl
    | false =>
      exfalso
      have hx : L[i]? = some L[i] := Array.getElem?_eq_getElem hiL
      have : i ∈ Region.ready .any L l := ready_mem.2 ⟨hiL, hg, _, hx, fun e he _ => by
        have h1 := (h3 i _ hx).1 e he
        have h2 := ih e.on (by omega) (by omega)
        have h4 : e.on < l.size := by
          rcases Nat.lt_or_ge e.on l.size with hlt | hge
          · exact hlt
          · have h5 : l.size ≤ i := by omega
            simp [Array.getD_eq_getD_getElem?, Array.getElem?_eq_none h5] at hg
        simp [Array.getD_eq_getD_getElem?, Array.getElem?_eq_getElem h4] at h2 ⊢
        exact h2⟩
      rw [hr] at this
      cases this

theorem wpAny_sink (h : sinkOk L o = true) (hB : ∀ e ∈ o.after, e.on < L.size) : ∀ (fuel : Nat) (l : Array Bool) (a : Act) (w : World), l.size = L.size →
    wpAny P .any L (sinkQ P o Q) fuel l a w → wpAny P .any (L.push o) Q (fuel + 1) (l.push false) a w := by
  obtain ⟨hgd, _, h3⟩ := sink_spec h
  have last : ∀ (fuel : Nat) (l : Array Bool) (a : Act) (w : World), l.size = L.size → Region.ready .any L l = [] → sinkQ P o Q .normal a w → wpAny P .any (L.push o) Q (fuel + 1) (l.push false) a w := by
    intro fuel l a w hl hr hq
    have hall : ∀ i, i < L.size → l.getD i true = true := fun i hi => ready_nil h hr (i + 1) i (by omega) hi
    have hm := ready_last_mem (o := o) hB hl hall
    refine ⟨fun h0 => (by rw [h0] at hm; cases hm), fun i hi => ?_⟩
    obtain rfl := ready_last h hl hall i hi
    unfold wpOp
    have ho : (L.push o)[L.size]? = some o := by simp
    simp only [ho, Region.wanted, hgd, if_true]
    refine .inl (Oper.wp_mono (fun a' w' hq' => ?_) hq)
    have hrd : Region.ready .any (L.push o) ((l.push false).setIfInBounds L.size true) = [] := by
      rw [List.eq_nil_iff_forall_not_mem]
      intro i hi
      obtain ⟨g1, g2, _⟩ := ready_mem.1 hi
      rw [Array.size_push] at g1
      have h7 : ((l.push false).setIfInBounds L.size true).getD i true = true := by
        rcases Nat.lt_or_ge i L.size with hlt | hge
        · have h8 := hall i hlt
          have h9 : i < l.size := by omega
          simp [Array.getD_eq_getD_getElem?, Array.getElem?_setIfInBounds, Array.getElem?_push, hl, Nat.ne_of_lt hlt, Array.getElem?_eq_getElem h9, Nat.ne_of_gt hlt] at h8 ⊢
          exact h8
        · have hi2 : i = L.size := by omega
          subst hi2
          simp [Array.getD_eq_getD_getElem?, Array.getElem?_setIfInBounds, hl]
      rw [h7] at g2
      cases g2
    exact wpAny_done hrd hq' fuel
  intro fuel
  induction fuel with
  | zero => intro l a w hl hh; exact last 0 l a w hl hh.1 hh.2
  | succ f ih =>
    intro l a w hl hh
    by_cases hr : Region.ready .any L l = []
    · exact last (f + 1) l a w hl hr (hh.1 hr)
    · have hne : ∃ i, i < L.size ∧ l.getD i true = false := by
        obtain ⟨i, hi⟩ := List.exists_mem_of_ne_nil _ hr
        obtain ⟨g1, g2, _⟩ := ready_mem.1 hi
        exact ⟨i, g1, g2⟩
      have hrp := ready_push (o := o) h hl hne
      refine ⟨fun h0 => absurd (hrp ▸ h0) hr, fun i hi => ?_⟩
      rw [hrp] at hi
      have hk := hh.2 i hi
      have hiL : i < L.size := (ready_mem.1 hi).1
      have hx : L[i]? = some L[i] := Array.getElem?_eq_getElem hiL
      have hx' : (L.push o)[i]? = some L[i] := by rw [push_get hiL]; exact hx
      have hyl : Region.wanted L[i] (yielded (L.push o) a.tmps) = Region.wanted L[i] (yielded L a.tmps) := by
        unfold Region.wanted
        cases hg : L[i].guard with
        | none => rfl
        | some gb =>
          obtain ⟨g, b⟩ := gb
          have := (h3 i _ hx).2 g b hg
          simp only [yielded, push_get this]
      unfold wpOp at hk ⊢
      simp only [hx, hx', hyl] at hk ⊢
      have next : ∀ a' w', wpAny P .any L (sinkQ P o Q) f (l.setIfInBounds i true) a' w' → wpAny P .any (L.push o) Q (f + 1) ((l.push false).setIfInBounds i true) a' w' := fun a' w' hq => by
        rw [set_push (by omega)]
        exact ih _ a' w' (by simpa using hl) hq
      split
      · rename_i hw
        simp only [hw, if_true] at hk
        exact hk.imp (fun hq => wp_post (fun _ _ _ q => q) id (Oper.wp_mono next hq)) id
      · rename_i hw
        simp only [hw] at hk
        exact next _ _ hk

theorem wp_region_sink {S : World → Prop} {id : Nat} {a : Act} {w : World} (hm : P.follows .mixedOrders = true) (h : sinkOk L o = true) (hB : o.after.all (fun e => decide (e.on < L.size)) = true)
    (hh : wpAnyH P .any L (sinkQ P o Q) S L.size (Array.replicate L.size false) a w.drew) : (Code.region id (L.push o) true).wp P Q a w := by
  refine wp_region_any hm ?_
  have h1 := wpAny_sink h (fun e he => by rw [Array.all_eq_true'] at hB; simpa using hB e he) L.size (Array.replicate L.size false) a w.drew (by simp) (wpAny_of_held _ _ _ _ hh)
  rw [Array.size_push, show Array.replicate (L.size + 1) false = (Array.replicate L.size false).push false from by simp [Array.replicate_succ]]
  exact h1

/-- The same for a region whose operations are written out: n of them ahead of the last one. -/
theorem wp_region_sink_lit {S : World → Prop} {id : Nat} {a : Act} {w : World} {l : List Oper} (n : Nat) (hm : P.follows .mixedOrders = true) (hd : l.drop n = [o]) (hn : (l.take n).length = n) (h : sinkOk (l.take n).toArray o = true) (hB : o.after.all (fun e => decide (e.on < n)) = true)
    (hS : S w.drew) (hh : S w.drew → wpAnyH P .any (l.take n).toArray (sinkQ P o Q) S n (Array.replicate n false) a w.drew) : (Code.region id l.toArray true).wp P Q a w := by
  have e : l.toArray = (l.take n).toArray.push o := by
    apply Array.ext'
    simp only [Array.toList_push]
    rw [← hd]
    simp
  have hs : (l.take n).toArray.size = n := by simpa using hn
  rw [e]
  refine wp_region_sink (S := S) hm h (by rw [hs]; exact hB) ?_
  rw [hs]
  exact hh hS
end

end Go.Proofs.YtikioiblaoimkaaGreatDoor

/- A round of threads: what is there in the midst of it, behind each of its operations. -/
namespace Go.Proofs.YtikioiblaoimkaaGreatDoor
open Go.RowKit Go.Maps

/-- The three slices of each name, the map of them, the map of effects, the deed's box b6, the thread's box b7. -/
structure Mid (w : World) (bm be b6 b7 : Nat) (d : Deed) (L : List (Nm × Value)) (gd gi gs : Nm → Value) (Sd Si St : Nm → TL) (cs : Array Value) (V : World) : Prop where
  map : MapN V bm L
  fd : Fam V w.heap.size 41 9 gd dC Sd
  fi : Fam V w.heap.size 3 1 gi iC Si
  fs : Fam V w.heap.size 89 3 gs sC St
  eff : V.heap[be]? = some (.map effEs 6)
  c7 : V.heap[b7]? = some (.cells cs 98 (0, 0))
  c6 : ∀ o v, (#[.int .i64 d.par, .int .i64 d.no, .int .i64 d.kind, .int .i64 d.lock, .int .i64 d.person, .int .i64 d.lo, .int .i64 d.hi, .int .i64 d.known, .int .i64 d.til] : Array Value)[o]? = some v → V.cell? ⟨b6, o, none⟩ = some v
  lt6 : b6 < V.heap.size
  le6 : w.heap.size ≤ b6
  ne67 : b6 ≠ b7
  le7 : w.heap.size ≤ b7
  far : (∀ n, (gd n).ownBlock ≠ some b6) ∧ (∀ n, (gi n).ownBlock ≠ some b6) ∧ (∀ n, (gs n).ownBlock ≠ some b6)
  ne_be : be ≠ bm
  bel : Below w.heap.size w V

theorem own_le {w : World} {base size n : Nat} {e : TypeId} {v : Value} {xs : List Value} (h : w.ownsRow base e size v n xs) {b : Nat} (hb : v.ownBlock = some b) : base ≤ b := by
  rcases h.2 with ⟨rfl, _⟩ | ⟨g, cap, cur, rfl, hg, _⟩
  · simp [Value.ownBlock] at hb
  · simp [Value.ownBlock] at hb
    omega
section
variable {w V V' : World} {bm be b6 b7 : Nat} {d : Deed} {L : List (Nm × Value)} {gd gi gs : Nm → Value} {Sd Si St : Nm → TL} {cs : Array Value}

theorem Mid.ext (h : Mid w bm be b6 b7 d L gd gi gs Sd Si St cs V) (hb : Below V.heap.size V V') : Mid w bm be b6 b7 d L gd gi gs Sd Si St cs V' where
  map := h.map.ext hb
  fd := h.fd.ext hb
  fi := h.fi.ext hb
  fs := h.fs.ext hb
  eff := (hb.block be (block_lt h.eff)).trans h.eff
  c7 := (hb.block b7 (block_lt h.c7)).trans h.c7
  c6 := fun o v hv => (hb.cell (p := ⟨b6, o, none⟩) h.lt6).trans (h.c6 o v hv)
  lt6 := Nat.lt_of_lt_of_le h.lt6 hb.size
  le6 := h.le6
  ne67 := h.ne67
  le7 := h.le7
  far := h.far
  ne_be := h.ne_be
  bel := Below.then_ h.bel hb

theorem Mid.set (h : Mid w bm be b6 b7 d L gd gi gs Sd Si St cs V) (j : Nat) (u : Value) : Mid w bm be b6 b7 d L gd gi gs Sd Si St (cs.setIfInBounds j u) (V.setCell ⟨b7, j, none⟩ u) where
  map := h.map.setCell (fun e => by
    obtain ⟨es, c, h1, _⟩ := h.map.ex
    rw [e, h.c7] at h1
    cases h1) u
  fd := h.fd.set (p := ⟨b7, j, none⟩) h.c7 (by decide) u
  fi := h.fi.set (p := ⟨b7, j, none⟩) h.c7 (by decide) u
  fs := h.fs.set (p := ⟨b7, j, none⟩) h.c7 (by decide) u
  eff := (Below.heap_setCell _ _ _ _ (fun e => by
    have h1 := h.eff
    simp only at e
    rw [e, h.c7] at h1
    cases h1)).trans h.eff
  c7 := heap_setCell_same _ _ _ _ _ _ h.c7
  c6 := fun o v hv => (World.cell?_setCell_far _ _ _ _ (fun e => h.ne67 e.symm)).trans (h.c6 o v hv)
  lt6 := by simpa using h.lt6
  le6 := h.le6
  ne67 := h.ne67
  le7 := h.le7
  far := h.far
  ne_be := h.ne_be
  bel := h.bel.setCell h.le7 u

/-- What an append to one of the rows leaves: a row of another element type. -/
theorem Mid.grown_ (h : Mid w bm be b6 b7 d L gd gi gs Sd Si St cs V) {base size n : Nat} {e : TypeId} {v : Value} {xs : List Value} (ho : V.ownsRow base e size v n xs) (hg : V.grownBy V' v.ownBlock) (h7 : e ≠ 98) (h6 : v.ownBlock ≠ some b6) (hbase : w.heap.size ≤ base) :
    MapN V' bm L ∧ V'.heap[be]? = some (.map effEs 6) ∧ V'.heap[b7]? = some (.cells cs 98 (0, 0)) ∧ (∀ o v, (#[.int .i64 d.par, .int .i64 d.no, .int .i64 d.kind, .int .i64 d.lock, .int .i64 d.person, .int .i64 d.lo, .int .i64 d.hi, .int .i64 d.known, .int .i64 d.til] : Array Value)[o]? = some v → V'.cell? ⟨b6, o, none⟩ = some v) ∧ b6 < V'.heap.size ∧ Below w.heap.size w V' := by
  have hm : ∀ (b : Nat) (es : Array MapEntry) (c : Nat), V.heap[b]? = some (.map es c) → V'.heap[b]? = V.heap[b]? := fun b es c hb => hg.block b (block_lt hb) fun eb => by
    obtain ⟨cur, hh⟩ := own_block ho eb.symm
    rw [hb] at hh
    cases hh
  obtain ⟨es, c, h1, _⟩ := h.map.ex
  refine ⟨h.map.keep (hm _ _ _ h1), (hm _ _ _ h.eff).trans h.eff, (hg.block b7 (block_lt h.c7) fun eb => ?_).trans h.c7, fun o v hv => (hg.cell_far ⟨b6, o, none⟩ h.lt6 fun eb => h6 eb.symm).trans (h.c6 o v hv), Nat.lt_of_lt_of_le h.lt6 hg.size, h.bel.grown hg h.bel.size fun k e => Nat.le_trans hbase (own_le ho e)⟩
  obtain ⟨cur, hh⟩ := own_block ho eb.symm
  rw [h.c7] at hh
  injection hh with hh
  injection hh with _ ht
  exact h7 ht.symm

theorem Mid.pushS (h : Mid w bm be b6 b7 d L gd gi gs Sd Si St cs V) {n : Nm} {x : Deed × Nat} {news : List Value} {b cap : Nat} (hc : sC (St n ++ [x]) = sC (St n) ++ news)
    (hown : V'.ownsRow w.heap.size 89 3 (.slice (some ⟨b, 0, none⟩) ((St n).length + 1) cap) ((St n).length + 1) (sC (St n) ++ news)) (hg : V.grownBy V' (gs n).ownBlock) (hb : (gs n).ownBlock = some b ∨ b = V.heap.size) :
    Mid w bm be b6 b7 d L gd gi (upd gs n (.slice (some ⟨b, 0, none⟩) ((St n).length + 1) cap)) Sd Si (upd St n (St n ++ [x])) cs V' := by
  obtain ⟨g1, g2, g3, g4, g5, g6⟩ := h.grown_ (h.fs.own n) hg (by decide) (h.far.2.2 n) (Nat.le_refl _)
  have hb2 : (gs n).ownBlock = some b ∨ V.heap.size ≤ b := hb.imp_right fun e => by omega
  refine ⟨g1, h.fd.grown (h.fs.own n) (by decide) hg, h.fi.grown (h.fs.own n) (by decide) hg, h.fs.push hc hown hg hb2, g2, g3, g4, g5, h.le6, h.ne67, h.le7, ⟨h.far.1, h.far.2.1, fun m => ?_⟩, h.ne_be, g6⟩
  by_cases hm : m = n
  · subst hm
    rw [upd_same]
    simp only [Value.ownBlock, ne_eq, Option.some.injEq]
    rintro rfl
    rcases hb with hb | hb
    · exact h.far.2.2 _ hb
    · have := h.lt6
      omega
  · rw [upd_other _ hm]
    exact h.far.2.2 m
theorem Mid.pushD (h : Mid w bm be b6 b7 d L gd gi gs Sd Si St cs V) {n : Nm} {x : Deed × Nat} {news : List Value} {b cap : Nat} (hc : dC (Sd n ++ [x]) = dC (Sd n) ++ news)
    (hown : V'.ownsRow w.heap.size 41 9 (.slice (some ⟨b, 0, none⟩) ((Sd n).length + 1) cap) ((Sd n).length + 1) (dC (Sd n) ++ news)) (hg : V.grownBy V' (gd n).ownBlock) (hb : (gd n).ownBlock = some b ∨ b = V.heap.size) :
    Mid w bm be b6 b7 d L (upd gd n (.slice (some ⟨b, 0, none⟩) ((Sd n).length + 1) cap)) gi gs (upd Sd n (Sd n ++ [x])) Si St cs V' := by
  obtain ⟨g1, g2, g3, g4, g5, g6⟩ := h.grown_ (h.fd.own n) hg (by decide) (h.far.1 n) (Nat.le_refl _)
  have hb2 : (gd n).ownBlock = some b ∨ V.heap.size ≤ b := hb.imp_right fun e => by omega
  refine ⟨g1, h.fd.push hc hown hg hb2, h.fi.grown (h.fd.own n) (by decide) hg, h.fs.grown (h.fd.own n) (by decide) hg, g2, g3, g4, g5, h.le6, h.ne67, h.le7, ⟨fun m => ?_, h.far.2.1, h.far.2.2⟩, h.ne_be, g6⟩
  by_cases hm : m = n
  · subst hm
    rw [upd_same]
    simp only [Value.ownBlock, ne_eq, Option.some.injEq]
    rintro rfl
    rcases hb with hb | hb
    · exact h.far.1 _ hb
    · have := h.lt6
      omega
  · rw [upd_other _ hm]
    exact h.far.1 m
theorem Mid.pushI (h : Mid w bm be b6 b7 d L gd gi gs Sd Si St cs V) {n : Nm} {x : Deed × Nat} {news : List Value} {b cap : Nat} (hc : iC (Si n ++ [x]) = iC (Si n) ++ news)
    (hown : V'.ownsRow w.heap.size 3 1 (.slice (some ⟨b, 0, none⟩) ((Si n).length + 1) cap) ((Si n).length + 1) (iC (Si n) ++ news)) (hg : V.grownBy V' (gi n).ownBlock) (hb : (gi n).ownBlock = some b ∨ b = V.heap.size) :
    Mid w bm be b6 b7 d L gd (upd gi n (.slice (some ⟨b, 0, none⟩) ((Si n).length + 1) cap)) gs Sd (upd Si n (Si n ++ [x])) St cs V' := by
  obtain ⟨g1, g2, g3, g4, g5, g6⟩ := h.grown_ (h.fi.own n) hg (by decide) (h.far.2.1 n) (Nat.le_refl _)
  have hb2 : (gi n).ownBlock = some b ∨ V.heap.size ≤ b := hb.imp_right fun e => by omega
  refine ⟨g1, h.fd.grown (h.fi.own n) (by decide) hg, h.fi.push hc hown hg hb2, h.fs.grown (h.fi.own n) (by decide) hg, g2, g3, g4, g5, h.le6, h.ne67, h.le7, ⟨h.far.1, fun m => ?_, h.far.2.2⟩, h.ne_be, g6⟩
  by_cases hm : m = n
  · subst hm
    rw [upd_same]
    simp only [Value.ownBlock, ne_eq, Option.some.injEq]
    rintro rfl
    rcases hb with hb | hb
    · exact h.far.2.1 _ hb
    · have := h.lt6
      omega
  · rw [upd_other _ hm]
    exact h.far.2.1 m
/-- The cells of the thread's box. -/
theorem Mid.cell7 (h : Mid w bm be b6 b7 d L gd gi gs Sd Si St cs V) (j : Nat) : V.cell? ⟨b7, j, none⟩ = cs[j]? := cell_of_row _ _ _ _ _ _ h.c7
theorem Mid.frozen7 (h : Mid w bm be b6 b7 d L gd gi gs Sd Si St cs V) (j : Nat) : V.frozen? ⟨b7, j, none⟩ = false := by simp [World.frozen?, h.c7]
end
theorem info_of {P : Program} {t : TypeId} {z : Value} {n b : Nat} (h : (P.info? t).map (fun i => (i.zero, i.size, i.bytes)) = some (some z, n, b)) : ∃ i, P.info? t = some i ∧ i.zero = some z ∧ i.size = n ∧ i.bytes = b := by
  generalize P.info? t = r at h
  cases r with
  | none => cases h
  | some i =>
    simp only [Option.map_some, Option.some.injEq, Prod.mk.injEq] at h
    exact ⟨i, rfl, h.1, h.2.1, h.2.2⟩

end Go.Proofs.YtikioiblaoimkaaGreatDoor

/- threads. -/
namespace Go.Proofs.YtikioiblaoimkaaGreatDoor
open Go.RowKit Go.Maps

abbrev zT : Value := .agg #[.slice none 0 0, .slice none 0 0, .slice none 0 0]
theorem zeroThr (w : World) : (zeroValue 98).run Tryz.prog w = .ok (.agg #[.slice none 0 0, .slice none 0 0, .slice none 0 0]) w := by kernel_rfl
theorem infoInt : (Tryz.prog.info? 3).map (fun i => (i.zero, i.size, i.bytes)) = some (some (.int .i64 0), 1, 8) := by kernel_rfl
theorem infoState : (Tryz.prog.info? 89).map (fun i => (i.zero, i.size, i.bytes)) = some (some (.agg #[.int .i64 0, .int .i64 0, .bool false]), 3, 24) := by kernel_rfl

theorem wf_small {x : Int} (h0 : 0 ≤ x) (h1 : x ≤ 1000000) : (Lit.int .i64 x).wf = true := WalkArith.wf_i64 (by omega)
theorem okB_kind {d : Deed} (h : d.okB = true) : 1 ≤ d.kind ∧ d.kind ≤ 6 := by
  simp only [Deed.okB, Bool.and_eq_true] at h
  have h1 := h.1
  unfold subjB at h1
  repeat' split at h1
  all_goals first | (simp_all; done) | (simp_all; omega)
theorem okB_name {d : Deed} (h : d.okB = true) : 0 ≤ d.lock ∧ d.lock ≤ 3 ∧ 0 ≤ d.person ∧ d.person ≤ 99 := by
  simp only [Deed.okB, Bool.and_eq_true] at h
  have h1 := h.1
  unfold subjB withinB at h1
  repeat' split at h1
  all_goals first | (simp_all; done) | (simp_all; omega)
theorem okB_wf {d : Deed} (h : d.okB = true) : wf2 (nmLock d) (nmPerson d) := by
  obtain ⟨a, b, c, e⟩ := okB_name h
  refine ⟨wf_small a (by unfold nmLock; omega), ?_⟩
  unfold nmPerson
  split
  · exact wf_small c (by omega)
  · exact wf_small (by omega) (by omega)

/-- What the region of the states asks of the world: the thread's box, the deed's kind and person, the map of effects. -/
def S6 (b7 b6 be : Nat) (v0 v1 v2 k p : Value) (o : Obj) (V : World) : Prop :=
  V.cell? ⟨b7, 0, none⟩ = some v0 ∧ V.cell? ⟨b7, 1, none⟩ = some v1 ∧ V.cell? ⟨b7, 2, none⟩ = some v2 ∧ V.cell? ⟨b6, 2, none⟩ = some k ∧ V.cell? ⟨b6, 4, none⟩ = some p ∧ V.heap[be]? = some o
theorem S6.ext {V V' : World} {b7 b6 be : Nat} {v0 v1 v2 k p : Value} {o : Obj} (hb : Below V.heap.size V V') (h : S6 b7 b6 be v0 v1 v2 k p o V) : S6 b7 b6 be v0 v1 v2 k p o V' := by
  obtain ⟨h0, h1, h2, h3, h4, ho⟩ := h
  have g : ∀ (a : Addr) (v : Value), V.cell? a = some v → V'.cell? a = some v := fun a v h => (hb.cell (World.block_lt_of_cell? V a h)).trans h
  exact ⟨g _ _ h0, g _ _ h1, g _ _ h2, g _ _ h3, g _ _ h4, (hb.block be (block_lt ho)).trans ho⟩
theorem S6.grown {V V' : World} {b7 b6 be : Nat} {v0 v1 v2 k p : Value} {o : Obj} {row : Option Nat} (hg : V.grownBy V' row) (n7 : some b7 ≠ row) (n6 : some b6 ≠ row) (ne : some be ≠ row) (h : S6 b7 b6 be v0 v1 v2 k p o V) : S6 b7 b6 be v0 v1 v2 k p o V' := by
  obtain ⟨h0, h1, h2, h3, h4, ho⟩ := h
  have g : ∀ (a : Addr) (v : Value), some a.block ≠ row → V.cell? a = some v → V'.cell? a = some v := fun a v hn h => (hg.cell_far a (World.block_lt_of_cell? V a h) hn).trans h
  exact ⟨g _ _ n7 h0, g _ _ n7 h1, g _ _ n7 h2, g _ _ n6 h3, g _ _ n6 h4, (hg.block be (block_lt ho) ne).trans ho⟩

theorem S6.of_mid {w V : World} {bm be b6 b7 : Nat} {d : Deed} {L : List (Nm × Value)} {gd gi gs : Nm → Value} {Sd Si St : Nm → TL} {v0 v1 v2 : Value} (h : Mid w bm be b6 b7 d L gd gi gs Sd Si St #[v0, v1, v2] V) : S6 b7 b6 be v0 v1 v2 (.int .i64 d.kind) (.int .i64 d.person) (.map effEs 6) V := ⟨h.cell7 0, h.cell7 1, h.cell7 2, h.c6 2 _ rfl, h.c6 4 _ rfl, h.eff⟩

/-- What the loop of threads keeps. -/
structure ThInv (w : World) (base bm be : Nat) (S : Nm → TL) : Prop where
  ex : ∃ L gd gi gs, MapN w bm L ∧ (∀ n, (getM L n).getD zT = .agg #[gd n, gi n, gs n]) ∧
    Fam w base 41 9 gd dC S ∧ Fam w base 3 1 gi iC S ∧ Fam w base 89 3 gs sC S
  eff : w.heap[be]? = some (.map effEs 6)
theorem ThInv.start (w : World) (base bm be : Nat) (hb : w.heap[bm]? = some (.map #[] 0)) (he : w.heap[be]? = some (.map effEs 6)) : ThInv w base bm be (fun _ => []) :=
  ⟨⟨[], fun _ => .slice none 0 0, fun _ => .slice none 0 0, fun _ => .slice none 0 0, ⟨⟨_, _, hb, rfl⟩, by simp, by simp, ⟨#[], 0, hb, by simp, by simp⟩⟩, fun _ => rfl, Fam.start _ _ _ _ _ rfl, Fam.start _ _ _ _ _ rfl, Fam.start _ _ _ _ _ rfl⟩, he⟩
theorem ThInv.ext {w w' : World} {base bm be : Nat} {S : Nm → TL} (h : ThInv w base bm be S) (hb : Below w.heap.size w w') : ThInv w' base bm be S := by
  obtain ⟨L, gd, gi, gs, a, b, c, d, e⟩ := h.ex
  exact ⟨⟨L, gd, gi, gs, a.ext hb, b, c.ext hb, d.ext hb, e.ext hb⟩, (hb.block be (block_lt h.eff)).trans h.eff⟩

theorem Mid.done {w V : World} {bm be b6 b7 : Nat} {d : Deed} {L : List (Nm × Value)} {gd gi gs : Nm → Value} {S : Nm → TL} {cs : Array Value} {n : Nm} {rd ri rs : Value} {o : Obj}
    (h : Mid w bm be b6 b7 d L (upd gd n rd) (upd gi n ri) (upd gs n rs) S S S cs V) (hv : ∀ n, (getM L n).getD zT = .agg #[gd n, gi n, gs n]) (hb : w.heap.size ≤ bm)
    (hm : MapN (setObj' V bm o) bm (putM L n (.agg #[rd, ri, rs]))) : ThInv (setObj' V bm o) w.heap.size bm be S ∧ Below w.heap.size w (setObj' V bm o) := by
  obtain ⟨es, c, h1, _⟩ := h.map.ex
  have hne : be ≠ bm := fun e => by
    exact h.ne_be e
  have hk : ∀ {base size n : Nat} {e : TypeId} {v : Value} {xs : List Value}, V.ownsRow base e size v n xs → ∀ b, v.ownBlock = some b → (setObj' V bm o).heap[b]? = V.heap[b]? := fun ho b hb => setObj'_other (fun e => by
    obtain ⟨cur, hh⟩ := own_block ho hb
    rw [e, h1] at hh
    cases hh) o
  refine ⟨⟨⟨_, _, _, _, hm, fun j => ?_, h.fd.keep fun n => hk (h.fd.own n), h.fi.keep fun n => hk (h.fi.own n), h.fs.keep fun n => hk (h.fs.own n)⟩, (setObj'_other hne o).trans h.eff⟩, Below.setObj' h.bel hb o⟩
  rw [getM_put]
  by_cases hj : j = n
  · subst hj
    simp [upd_same]
  · rw [if_neg hj, upd_other _ hj, upd_other _ hj, upd_other _ hj]
    exact hv j
/-- What the last region asks of the world: the thread's box and the deed's. -/
def S9 (b7 b6 : Nat) (v0 v1 v2 : Value) (d : Deed) (V : World) : Prop :=
  V.cell? ⟨b7, 0, none⟩ = some v0 ∧ V.cell? ⟨b7, 1, none⟩ = some v1 ∧ V.cell? ⟨b7, 2, none⟩ = some v2 ∧ World.cell? V ⟨b6, 0, none⟩ = some (.int .i64 d.par) ∧ World.cell? V ⟨b6, 1, none⟩ = some (.int .i64 d.no) ∧ World.cell? V ⟨b6, 2, none⟩ = some (.int .i64 d.kind) ∧ World.cell? V ⟨b6, 3, none⟩ = some (.int .i64 d.lock) ∧ World.cell? V ⟨b6, 4, none⟩ = some (.int .i64 d.person) ∧ World.cell? V ⟨b6, 5, none⟩ = some (.int .i64 d.lo) ∧ World.cell? V ⟨b6, 6, none⟩ = some (.int .i64 d.hi) ∧ World.cell? V ⟨b6, 7, none⟩ = some (.int .i64 d.known) ∧ World.cell? V ⟨b6, 8, none⟩ = some (.int .i64 d.til)
theorem S9.of_mid {w V : World} {bm be b6 b7 : Nat} {d : Deed} {L : List (Nm × Value)} {gd gi gs : Nm → Value} {Sd Si St : Nm → TL} {v0 v1 v2 : Value} (h : Mid w bm be b6 b7 d L gd gi gs Sd Si St #[v0, v1, v2] V) : S9 b7 b6 v0 v1 v2 d V :=
  ⟨h.cell7 0, h.cell7 1, h.cell7 2, h.c6 0 _ rfl, h.c6 1 _ rfl, h.c6 2 _ rfl, h.c6 3 _ rfl, h.c6 4 _ rfl, h.c6 5 _ rfl, h.c6 6 _ rfl, h.c6 7 _ rfl, h.c6 8 _ rfl⟩
theorem eff_enter {f : FuncId} {fn : Func} {c : Code} (hf : Tryz.prog.funcs[f]? = some fn) (hname : (fn.name == "runtime.NumGoroutine") = false) (hb : fn.body = some c) (args : Array Value) (w : World) : (callFunc f args).run Tryz.prog w = .ok (.enter f args) w := by
  have h1 : fn.name ≠ "runtime.NumGoroutine" := by simpa using hname
  simp [callFunc, hf, h1, hb]
theorem run_eff (k : Nat) (args : Array Value) (w : World) : (callFunc (eff k) args).run Tryz.prog w = .ok (.enter (eff k) args) w := by
  unfold eff
  split
  · exact eff_enter Tryz.func120 (by kernel_rfl) rfl args w
  · exact eff_enter Tryz.func121 (by kernel_rfl) rfl args w
  · exact eff_enter Tryz.func122 (by kernel_rfl) rfl args w
  · exact eff_enter Tryz.func123 (by kernel_rfl) rfl args w
  · exact eff_enter Tryz.func124 (by kernel_rfl) rfl args w
  · exact eff_enter Tryz.func125 (by kernel_rfl) rfl args w
theorem sub_length_le (ds : List Deed) (n : Nm) : (sub ds n).length ≤ ds.length := Nat.le_trans (List.length_filter_le _ _) (by simp)
set_option maxRecDepth 100000 in
set_option maxHeartbeats 800000 in
theorem p_threads (ds : List Deed) (A : Option Addr) (n c : Nat) (w : World) (hn : n ≤ 1000) (hok : ∀ d ∈ ds, d.okB = true) (hd : Ds w w.heap.size A n ds) :
    Calls Tryz.prog 52 #[.slice A n c] w fun e w' => ∃ bm be, e = .returned (.map (some bm)) ∧ w.heap.size ≤ bm ∧ ThInv w' w.heap.size bm be (sub ds) ∧ Below w.heap.size w w' := by
  have hmm := @run_makeMap Tryz.prog
  have HD := Lib.hid hd
  have HL := Lib.hid hd.len
  have HO := Lib.hid hok
  clear hd hok
  go_enter Tryz.func52, Tryz.ntmps52
  go_wp2_with (go_at_call 89; refine (p_effects _).mono ?_; rintro e w' ⟨rfl, rfl⟩)
  go_loopw [12] (fun i wr => ∃ k : Nat, k ≤ n ∧ i = .int .i64 k ∧ ThInv wr w.heap.size w.heap.size (w.heap.size + 1) (sub (ds.take k)) ∧ Below w.heap.size w wr) (fun i _ => n - (intOf i).toNat)
  case atStart =>
    refine ⟨0, by omega, rfl, ?_, by (repeat' (first | with_reducible exact Below.refl _ _ | with_reducible assumption | with_reducible refine Below.alloc ?_ ?_ _ | with_reducible refine Below.setCell ?_ ?_ _ | with_reducible refine Below.drew ?_ | (simp; done) | (simp; omega) | omega))⟩
    refine ThInv.start _ _ _ _ ((Below.heap_alloc _ _ _ (by simp)).trans (heap_alloc_new _ _)) ?_
    have h := heap_alloc_new (w.alloc (.map #[] 0)) (.map effEs 6)
    rw [World.size_alloc] at h
    exact h
  case round =>
    obtain ⟨k, hk, rfl, hT, hB⟩ := hrel
    have hs0 : w.heap.size ≤ wr.heap.size := hB.size
    by_cases hlt : k < n
    · have hDk := HD.out.ext hB (Nat.le_refl _)
      obtain ⟨b, o, d, rfl, hb, hdk, hat⟩ := hDk.at_ hlt
      have HK := Lib.hid hdk
      have HOK := Lib.hid (HO.out d (List.mem_of_getElem? hdk))
      clear hDk hdk
      obtain ⟨a0, a1, a2, a3, a4, a5, a6, a7, a8⟩ := hat
      obtain ⟨⟨L, gd, gi, gs, hM0, hv, fd0, fi0, fs0⟩, hef0⟩ := hT
      have HLT : Hid ((∀ n bl, (gd n).ownBlock = some bl → bl < wr.heap.size) ∧ (∀ n bl, (gi n).ownBlock = some bl → bl < wr.heap.size) ∧ (∀ n bl, (gs n).ownBlock = some bl → bl < wr.heap.size)) := ⟨fun n bl h => fd0.lt h, fun n bl h => fi0.lt h, fun n bl h => fs0.lt h⟩
      have HX := Lib.hid (fun (w1 : World) (hb1 : Below wr.heap.size wr w1) => And.intro (hM0.ext hb1) (And.intro (fd0.ext hb1) (And.intro (fi0.ext hb1) (And.intro (fs0.ext hb1) ((hb1.block _ (block_lt hef0)).trans hef0)))))
      clear hM0 fd0 fi0 fs0 hef0
      have HBA := Lib.hid (fun o' => hB.alloc hs0 o')
      clear hB
      go_wp2_with fail
      refine (p_nameOf d _).mono ?_
      rintro e w1 ⟨rfl, hb1⟩
      obtain ⟨hM, fd, fi, fs, hef⟩ := HX.out w1 (((Below.refl _ _).alloc (Nat.le_refl _) _).trans (hb1.mono (by simp)))
      obtain ⟨Ad, cd, ed, hcd⟩ := own_slice (fd.own (nmD d))
      obtain ⟨Ai, ci, ei, hci⟩ := own_slice (fi.own (nmD d))
      obtain ⟨As, cs, es, hcs⟩ := own_slice (fs.own (nmD d))
      obtain ⟨m, hm⟩ : ∃ m, (sub (ds.take k) (nmD d)).length = m := ⟨_, rfl⟩
      rw [hm] at ed hcd ei hci es hcs
      have hlk : (Instr.lookup 99 (.map (some w.heap.size)) (.agg #[.int .i64 (nmLock d), .int .i64 (nmPerson d)]) false).run Tryz.prog w1 = .ok (.agg #[.slice Ad m cd, .slice Ai m ci, .slice As m cs]) w1 := by
        have h := hM.lookup key2_name Tryz.underlying99 (okB_wf HOK.out) (zeroThr w1)
        have h2 := hv (nmD d)
        rw [ed, ei, es] at h2
        rw [show (nmLock d, nmPerson d) = nmD d from rfl, h2] at h
        exact h
      have HED := Lib.hid ed
      have HEI := Lib.hid ei
      have HES := Lib.hid es
      have HM := Lib.hid hm
      have HV := Lib.hid hv
      clear ed ei es hm hv
      go_wp2_with fail
      have hsz : wr.heap.size < w1.heap.size := by have h := hb1.size; simp only [World.size_alloc] at h; omega
      obtain ⟨x0, x1, x2, x3, x4, x5, x6, x7, x8⟩ : World.cell? w1 ⟨wr.heap.size, 0, none⟩ = some (.int .i64 d.par) ∧ World.cell? w1 ⟨wr.heap.size, 1, none⟩ = some (.int .i64 d.no) ∧ World.cell? w1 ⟨wr.heap.size, 2, none⟩ = some (.int .i64 d.kind) ∧ World.cell? w1 ⟨wr.heap.size, 3, none⟩ = some (.int .i64 d.lock) ∧ World.cell? w1 ⟨wr.heap.size, 4, none⟩ = some (.int .i64 d.person) ∧ World.cell? w1 ⟨wr.heap.size, 5, none⟩ = some (.int .i64 d.lo) ∧ World.cell? w1 ⟨wr.heap.size, 6, none⟩ = some (.int .i64 d.hi) ∧ World.cell? w1 ⟨wr.heap.size, 7, none⟩ = some (.int .i64 d.known) ∧ World.cell? w1 ⟨wr.heap.size, 8, none⟩ = some (.int .i64 d.til) := by
        have h := (bcell hb1).1 wr.heap.size
        refine ⟨?_, ?_, ?_, ?_, ?_, ?_, ?_, ?_, ?_⟩ <;> (rw [h _ (by simp)]; simp)
      have HBW : Hid (Below w.heap.size w (w1.alloc (.cells #[.slice Ad m cd, .slice Ai m ci, .slice As m cs] 98))) := (Below.then_ (HBA.out _) hb1).alloc (by omega) _
      have hM' := hM.alloc (.cells #[.slice Ad m cd, .slice Ai m ci, .slice As m cs] 98)
      have fd' := fd.alloc (.cells #[.slice Ad m cd, .slice Ai m ci, .slice As m cs] 98)
      have fi' := fi.alloc (.cells #[.slice Ad m cd, .slice Ai m ci, .slice As m cs] 98)
      have fs' := fs.alloc (.cells #[.slice Ad m cd, .slice Ai m ci, .slice As m cs] 98)
      have hef' : (w1.alloc (.cells #[.slice Ad m cd, .slice Ai m ci, .slice As m cs] 98)).heap[w.heap.size + 1]? = some (.map effEs 6) := (Below.heap_alloc _ _ _ (block_lt hef)).trans hef
      have t0 : (w1.alloc (.cells #[.slice Ad m cd, .slice Ai m ci, .slice As m cs] 98)).cell? ⟨w1.heap.size, 0, none⟩ = some (.slice Ad m cd) := by simp
      have t1 : (w1.alloc (.cells #[.slice Ad m cd, .slice Ai m ci, .slice As m cs] 98)).cell? ⟨w1.heap.size, 1, none⟩ = some (.slice Ai m ci) := by simp
      have t2 : (w1.alloc (.cells #[.slice Ad m cd, .slice Ai m ci, .slice As m cs] 98)).cell? ⟨w1.heap.size, 2, none⟩ = some (.slice As m cs) := by simp
      have tf : ∀ o', (w1.alloc (.cells #[.slice Ad m cd, .slice Ai m ci, .slice As m cs] 98)).frozen? ⟨w1.heap.size, o', none⟩ = false := by intro o'; simp
      have tz : w1.heap.size < (w1.alloc (.cells #[.slice Ad m cd, .slice Ai m ci, .slice As m cs] 98)).heap.size := by simp
      have tb : (w1.alloc (.cells #[.slice Ad m cd, .slice Ai m ci, .slice As m cs] 98)).heap[w1.heap.size]? = some (.cells #[.slice Ad m cd, .slice Ai m ci, .slice As m cs] 98) := heap_alloc_new _ _
      have xa : ∀ o' v, w1.cell? ⟨wr.heap.size, o', none⟩ = some v → (w1.alloc (.cells #[.slice Ad m cd, .slice Ai m ci, .slice As m cs] 98)).cell? ⟨wr.heap.size, o', none⟩ = some v := fun o' v h => by rw [World.cell?_alloc_lt w1 _ ⟨wr.heap.size, o', none⟩ hsz]; exact h
      replace x0 := xa _ _ x0
      replace x1 := xa _ _ x1
      replace x2 := xa _ _ x2
      replace x3 := xa _ _ x3
      replace x4 := xa _ _ x4
      replace x5 := xa _ _ x5
      replace x6 := xa _ _ x6
      replace x7 := xa _ _ x7
      replace x8 := xa _ _ x8
      clear xa hlk
      clear hM fd fi fs hef hb1
      generalize hb7 : w1.heap.size = b7 at *
      generalize hb6 : wr.heap.size = b6 at *
      generalize hWW : w1.alloc (.cells #[.slice Ad m cd, .slice Ai m ci, .slice As m cs] 98) = W at *
      clear hb7 hb6 hWW
      obtain ⟨hk1, hk6⟩ := okB_kind HOK.out
      have hm6 : m ≤ 1000000 := (by have h1 := sub_length_le (ds.take k) (nmD d); rw [HM.out, List.length_take] at h1; omega)
      have hel : ∀ W' : World, W'.heap[w.heap.size + 1]? = some (.map effEs 6) → (Instr.lookup 140 (.map (some (w.heap.size + 1))) (.int .i64 d.kind) false).run Tryz.prog W' = .ok (.func (.func (eff d.kind.toNat)) #[] #[]) W' := fun W' h => eff_lookup W' _ h _ hk1 hk6
      have HK16 := Lib.hid (And.intro hk1 hk6)
      have hSs : Ss W W.heap.size As m (aftL ((sub (ds.take k) (nmD d)).map (·.1))) := by
        have h := fs'.own (nmD d)
        rw [HES.out, HM.out] at h
        exact Rd.of_own h
      have HSs := Lib.hid hSs
      have hsz6 : b6 < W.heap.size := by omega
      have HMID := Lib.hid (show Mid w w.heap.size (w.heap.size + 1) b6 b7 d L gd gi gs (sub (ds.take k)) (sub (ds.take k)) (sub (ds.take k)) #[.slice Ad m cd, .slice Ai m ci, .slice As m cs] W from ⟨hM', fd', fi', fs', hef', tb,
        fun
          | 0, v, hv => by simp at hv; subst hv; exact x0
          | 1, v, hv => by simp at hv; subst hv; exact x1
          | 2, v, hv => by simp at hv; subst hv; exact x2
          | 3, v, hv => by simp at hv; subst hv; exact x3
          | 4, v, hv => by simp at hv; subst hv; exact x4
          | 5, v, hv => by simp at hv; subst hv; exact x5
          | 6, v, hv => by simp at hv; subst hv; exact x6
          | 7, v, hv => by simp at hv; subst hv; exact x7
          | 8, v, hv => by simp at hv; subst hv; exact x8
          | n + 9, v, hv => by simp at hv,
        hsz6, hs0, by omega, by omega, ⟨fun n e => by have := HLT.out.1 n _ e; omega, fun n e => by have := HLT.out.2.1 n _ e; omega, fun n e => by have := HLT.out.2.2 n _ e; omega⟩, by omega, HBW.out⟩)
      have hbn : w.heap.size + 1 < W.heap.size := block_lt hef'
      clear hk1 hk6 hSs hM' fd' fi' fs' tb
      (refine wp_region_sink_lit (S := S6 b7 b6 (w.heap.size + 1) (.slice Ad m cd) (.slice Ai m ci) (.slice As m cs) (.int .i64 d.kind) (.int .i64 d.person) (.map effEs 6)) 17 (by kernel_rfl) rfl rfl (by kernel_rfl) (by kernel_rfl) ⟨t0, t1, t2, x2, x4, hef'⟩ (fun hS => ?_); simp only [List.take_succ_cons, List.take_zero, List.reduceReplicate, Array.replicate_succ, Array.replicate_zero])
      (refine wpAnyH_take (i := 0) (v := ?_) rfl (by kernel_rfl) (by kernel_rfl) (by kernel_rfl) (fun _ _ _ h => h) (Or.inl ⟨by rfl, ?_⟩) hS ?_; rotate_left; focus (intro w2 hw2; (try dsimp only at hw2); (try unfold S6 at hw2); (try unfold S9 at hw2); (try unfold SZ7 at hw2); (try unfold S1 at hw2); (try unfold S4 at hw2); go_split_ands; go_simp; first | done | with_reducible rfl); (try simp only [Act.put, List.setIfInBounds_toArray, List.set_cons_zero, List.set_cons_succ]))
      (refine wpAnyH_take (i := 1) (v := ?_) rfl (by kernel_rfl) (by kernel_rfl) (by kernel_rfl) (fun _ _ _ h => h) (Or.inl ⟨by rfl, ?_⟩) hS ?_; rotate_left; focus (intro w2 hw2; (try dsimp only at hw2); (try unfold S6 at hw2); (try unfold S9 at hw2); (try unfold SZ7 at hw2); (try unfold S1 at hw2); (try unfold S4 at hw2); go_split_ands; go_simp; first | done | with_reducible rfl); (try simp only [Act.put, List.setIfInBounds_toArray, List.set_cons_zero, List.set_cons_succ]))
      (refine wpAnyH_take (i := 2) (v := ?_) rfl (by kernel_rfl) (by kernel_rfl) (by kernel_rfl) (fun _ _ _ h => h) (Or.inl ⟨by rfl, ?_⟩) hS ?_; rotate_left; focus (intro w2 hw2; (try dsimp only at hw2); (try unfold S6 at hw2); (try unfold S9 at hw2); (try unfold SZ7 at hw2); (try unfold S1 at hw2); (try unfold S4 at hw2); go_split_ands; go_simp; first | done | with_reducible rfl); (try simp only [Act.put, List.setIfInBounds_toArray, List.set_cons_zero, List.set_cons_succ]))
      (refine wpAnyH_take (i := 3) (v := ?_) rfl (by kernel_rfl) (by kernel_rfl) (by kernel_rfl) (fun _ _ _ h => h) (Or.inl ⟨by rfl, ?_⟩) hS ?_; rotate_left; focus (intro w2 hw2; (try dsimp only at hw2); (try unfold S6 at hw2); (try unfold S9 at hw2); (try unfold SZ7 at hw2); (try unfold S1 at hw2); (try unfold S4 at hw2); go_split_ands; go_simp; first | done | with_reducible rfl); (try simp only [Act.put, List.setIfInBounds_toArray, List.set_cons_zero, List.set_cons_succ]))
      (refine wpAnyH_take (i := 4) (v := ?_) rfl (by kernel_rfl) (by kernel_rfl) (by kernel_rfl) (fun _ _ _ h => h) (Or.inl ⟨by rfl, ?_⟩) hS ?_; rotate_left; focus (intro w2 hw2; (try dsimp only at hw2); (try unfold S6 at hw2); (try unfold S9 at hw2); (try unfold SZ7 at hw2); (try unfold S1 at hw2); (try unfold S4 at hw2); go_split_ands; go_simp; first | done | with_reducible rfl); (try simp only [Act.put, List.setIfInBounds_toArray, List.set_cons_zero, List.set_cons_succ]))
      (refine wpAnyH_take (i := 5) (v := ?_) rfl (by kernel_rfl) (by kernel_rfl) (by kernel_rfl) (fun _ _ _ h => h) (Or.inl ⟨by rfl, ?_⟩) hS ?_; rotate_left; focus (intro w2 hw2; (try dsimp only at hw2); (try unfold S6 at hw2); (try unfold S9 at hw2); (try unfold SZ7 at hw2); (try unfold S1 at hw2); (try unfold S4 at hw2); go_split_ands; go_simp; first | done | with_reducible rfl); (try simp only [Act.put, List.setIfInBounds_toArray, List.set_cons_zero, List.set_cons_succ]))
      (refine wpAnyH_take (i := 6) (v := ?_) rfl (by kernel_rfl) (by kernel_rfl) (by kernel_rfl) (fun _ _ _ h => h) (Or.inl ⟨by rfl, ?_⟩) hS ?_; rotate_left; focus (intro w2 hw2; (try dsimp only at hw2); (try unfold S6 at hw2); (try unfold S9 at hw2); (try unfold SZ7 at hw2); (try unfold S1 at hw2); (try unfold S4 at hw2); go_split_ands; go_simp; first | done | with_reducible rfl); (try simp only [Act.put, List.setIfInBounds_toArray, List.set_cons_zero, List.set_cons_succ]))
      (refine wpAnyH_take (i := 7) (v := ?_) rfl (by kernel_rfl) (by kernel_rfl) (by kernel_rfl) (fun _ _ _ h => h) (Or.inl ⟨by rfl, ?_⟩) hS ?_; rotate_left; focus (intro w2 hw2; (try dsimp only at hw2); (try unfold S6 at hw2); (try unfold S9 at hw2); (try unfold SZ7 at hw2); (try unfold S1 at hw2); (try unfold S4 at hw2); go_split_ands; go_simp; first | done | with_reducible rfl); (try simp only [Act.put, List.setIfInBounds_toArray, List.set_cons_zero, List.set_cons_succ]))
      (refine wpAnyH_take (i := 8) (v := ?_) rfl (by kernel_rfl) (by kernel_rfl) (by kernel_rfl) (fun _ _ _ h => h) (Or.inl ⟨by rfl, ?_⟩) hS ?_; rotate_left; focus (intro w2 hw2; (try dsimp only at hw2); (try unfold S6 at hw2); (try unfold S9 at hw2); (try unfold SZ7 at hw2); (try unfold S1 at hw2); (try unfold S4 at hw2); go_split_ands; go_simp; first | done | with_reducible rfl); (try simp only [Act.put, List.setIfInBounds_toArray, List.set_cons_zero, List.set_cons_succ]))
      (refine wpAnyH_take (i := 9) (v := ?_) rfl (by kernel_rfl) (by kernel_rfl) (by kernel_rfl) (fun _ _ _ h => h) (Or.inl ⟨by rfl, ?_⟩) hS ?_; rotate_left; focus (intro w2 hw2; (try dsimp only at hw2); (try unfold S6 at hw2); (try unfold S9 at hw2); (try unfold SZ7 at hw2); (try unfold S1 at hw2); (try unfold S4 at hw2); go_split_ands; go_simp; first | done | with_reducible rfl); (try simp only [Act.put, List.setIfInBounds_toArray, List.set_cons_zero, List.set_cons_succ]))
      (refine wpAnyH_take (i := 11) (v := ?_) rfl (by kernel_rfl) (by kernel_rfl) (by kernel_rfl) (fun _ _ _ h => h) (Or.inl ⟨by rfl, ?_⟩) hS ?_; rotate_left; focus (intro w2 hw2; (try dsimp only at hw2); (try unfold S6 at hw2); (try unfold S9 at hw2); (try unfold SZ7 at hw2); (try unfold S1 at hw2); (try unfold S4 at hw2); go_split_ands; go_simp; first | done | with_reducible rfl); (try simp only [Act.put, List.setIfInBounds_toArray, List.set_cons_zero, List.set_cons_succ]))
      (refine wpAnyH_take (i := 12) (v := ?_) rfl (by kernel_rfl) (by kernel_rfl) (by kernel_rfl) (fun _ _ _ h => h) (Or.inl ⟨by rfl, ?_⟩) hS ?_; rotate_left; focus (intro w2 hw2; (try dsimp only at hw2); (try unfold S6 at hw2); (try unfold S9 at hw2); (try unfold SZ7 at hw2); (try unfold S1 at hw2); (try unfold S4 at hw2); go_split_ands; go_simp; first | done | with_reducible rfl); (try simp only [Act.put, List.setIfInBounds_toArray, List.set_cons_zero, List.set_cons_succ]))
      have hsd : Ss W.drew W.drew.heap.size As m (aftL ((sub (ds.take k) (nmD d)).map (·.1))) := HSs.out.ext (Below.refl _ _).drew (Nat.le_refl _)
      obtain ⟨s0, hst0⟩ : ∃ s, stN (aftL ((sub (ds.take k) (nmD d)).map (·.1))) m = s := ⟨_, rfl⟩
      obtain ⟨s1, hst1⟩ : ∃ s, stepSt s0 d = s := ⟨_, rfl⟩
      have hc10 := p_state _ m Ad Ai As m cd m ci m cs _ (Nat.le_refl _) hm6 hsd
      rw [hst0] at hc10
      have hc13 := fun V : World => p_eff d s0 V HK16.out.1 HK16.out.2
      rw [hst1] at hc13
      have HS0 := Lib.hid hst0
      have HS1 := Lib.hid hst1
      clear hst0 hst1 hsd
      (refine wpAnyH_ready (rs := [10]) (by kernel_rfl) (by simp) ?_; refine AllReadyH.cons rfl (fun K hK => ?_) AllReadyH.nil; (go_simp; go_at_call 90; refine hc10.mono ?_; clear hc10; rintro e wa ⟨rfl, hba⟩; go_simp); refine hK.out _ _ (S6.ext hba hS) (fun hS => ?_); clear hK K; (try simp only [Act.put, List.setIfInBounds_toArray, List.set_cons_zero, List.set_cons_succ]))
      (refine wpAnyH_ready (rs := [13]) (by kernel_rfl) (by simp) ?_; refine AllReadyH.cons rfl (fun K hK => ?_) AllReadyH.nil; (go_simp; simp only [run_eff, Oper.upon]; refine (hc13 _).mono ?_; clear hc13; rintro e wb ⟨rfl, hbb⟩; go_simp); refine hK.out _ _ (S6.ext hbb hS) (fun hS => ?_); clear hK K; (try simp only [Act.put, List.setIfInBounds_toArray, List.set_cons_zero, List.set_cons_succ]))
      (refine wpAnyH_ready (rs := [14]) (by kernel_rfl) (by simp) ?_; refine AllReadyH.cons rfl (fun K hK => ?_) AllReadyH.nil; (go_simp); refine hK.out _ _ (S6.ext ((Below.refl _ _).alloc (Nat.le_refl _) _) hS) (fun hS => ?_); clear hK K; (try simp only [Act.put, List.setIfInBounds_toArray, List.set_cons_zero, List.set_cons_succ]))
      have hs1 : stepSt (runSt ((sub (ds.take k) (nmD d)).map (·.1))) d = s1 := by
        rw [← HS1.out, ← HS0.out]
        congr 1
        have h := stN_aftL ((sub (ds.take k) (nmD d)).map (·.1))
        rw [List.length_map, HM.out] at h
        exact h.symm
      have hsn : sC (sub (ds.take k) (nmD d) ++ [(d, k)]) = sC (sub (ds.take k) (nmD d)) ++ [.int .i64 s1.holder, .int .i64 s1.hand, .bool s1.office] := by rw [sC_snoc, ← hs1]
      have HMX := Lib.hid (HMID.out.ext ((Below.then_ (Below.then_ (Below.refl _ _).drew hba) hbb).alloc (Nat.le_trans hba.size hbb.size) (.cells #[.int .i64 s1.holder, .int .i64 s1.hand, .bool s1.office] 89)))
      have hfs := HMX.out.fs.own (nmD d)
      rw [HES.out, HM.out] at hfs
      obtain ⟨inf, hinf, hz, hsi, hby⟩ := info_of infoState
      have HSN := Lib.hid hsn
      clear hsn hs1
      (refine wpAnyH_ready (rs := [15]) (by kernel_rfl) (by simp) ?_; refine AllReadyH.cons rfl (fun K hK => ?_) AllReadyH.nil; (refine step_append_lies _ rfl (.tmp 22) (.tmp 35) 96 rfl w.heap.size 89 inf _ 3 24 (by kernel_rfl) hinf hz hsi hby rfl (by omega) (.slice As m cs) m _ rfl hfs ⟨wb.heap.size, 0, none⟩ 1 1 [.int .i64 s1.holder, .int .i64 s1.hand, .bool s1.office] rfl rfl (World.news_of_block (heap_alloc_new _ _)) (by simp [Value.oneCell']) (by omega) (by have hml : 2000000 ≤ maxLen := (by decide); omega) (by omega) HMX.out.bel.size _ rfl ?_; intro g cap wc hown hgr hat hglt; clear hfs; have HMW := Lib.hid (HMX.out.pushS (n := nmD d) (x := (d, k)) HSN.out (by rw [HM.out]; exact hown) (by rw [HES.out]; exact hgr) (by rw [HES.out]; exact hat))); refine hK.out _ _ (S6.of_mid HMW.out) (fun hS => ?_); clear hK K; (try simp only [Act.put, List.setIfInBounds_toArray, List.set_cons_zero, List.set_cons_succ]))
      clear hown hgr hat hinf hz hsi hby
      (refine wpAnyH_take (i := 16) (v := ?_) rfl (by kernel_rfl) (by kernel_rfl) (by kernel_rfl) (fun _ _ _ h => h) (Or.inl ⟨by rfl, ?_⟩) hS ?_; rotate_left; focus (intro w2 hw2; (try dsimp only at hw2); (try unfold S6 at hw2); (try unfold S9 at hw2); (try unfold SZ7 at hw2); (try unfold S1 at hw2); (try unfold S4 at hw2); go_split_ands; go_simp; first | done | with_reducible rfl); (try simp only [Act.put, List.setIfInBounds_toArray, List.set_cons_zero, List.set_cons_succ]))
      refine wpAnyH_done (by kernel_rfl) ?_ _
      have hfz := HMW.out.frozen7 2
      unfold S6 at hS
      go_split_ands
      simp only [sinkQ]
      go_simp
      have hM2 := HMW.out.set 2 (.slice (some ⟨g, 0, none⟩) (m + 1) cap)
      simp only [List.setIfInBounds_toArray, List.set_cons_succ, List.set_cons_zero] at hM2
      generalize wc.setCell ⟨b7, 2, none⟩ (.slice (some ⟨g, 0, none⟩) (m + 1) cap) = V2 at *
      clear HMW HMX HMID hfz HSs HSN HX HLT HBW
      clear x0 x1 x2 x3 x4 x5 x6 x7 x8 t0 t1 t2 tf tz hel hba hbb hef' hbn hsz6
      have a0 := hM2.c6 0 _ rfl
      have a1 := hM2.c6 1 _ rfl
      have a2 := hM2.c6 2 _ rfl
      have a3 := hM2.c6 3 _ rfl
      have a4 := hM2.c6 4 _ rfl
      have a5 := hM2.c6 5 _ rfl
      have a6 := hM2.c6 6 _ rfl
      have a7 := hM2.c6 7 _ rfl
      have a8 := hM2.c6 8 _ rfl
      have c0 := hM2.cell7 0
      have c1 := hM2.cell7 1
      have c2 := hM2.cell7 2
      have HMV := Lib.hid hM2
      clear hM2
      have HMX7 := Lib.hid (HMV.out.ext ((Below.refl _ _).alloc (Nat.le_refl _) (.cells #[.int .i64 d.par, .int .i64 d.no, .int .i64 d.kind, .int .i64 d.lock, .int .i64 d.person, .int .i64 d.lo, .int .i64 d.hi, .int .i64 d.known, .int .i64 d.til] 41)))
      have hfd := HMX7.out.fd.own (nmD d)
      rw [HED.out, HM.out] at hfd
      obtain ⟨inf, hinf, hz, hsi, hby⟩ := info_of infoDeed
      obtain ⟨inj, hinj, hzj, hsj, hbj⟩ := info_of infoInt
      have hml : 2000000 ≤ maxLen := (by decide)
      go_wp2_with (first
        | (at_builtin; refine wpList_append_lies _ rfl (.tmp 39) (.tmp 41) 22 rfl w.heap.size 41 inf _ 9 72 (by kernel_rfl) hinf hz hsi hby rfl (by omega) (.slice Ad m cd) m _ rfl hfd ⟨V2.heap.size, 0, none⟩ 1 1 [.int .i64 d.par, .int .i64 d.no, .int .i64 d.kind, .int .i64 d.lock, .int .i64 d.person, .int .i64 d.lo, .int .i64 d.hi, .int .i64 d.known, .int .i64 d.til] rfl rfl (World.news_of_block (heap_alloc_new _ _)) (by simp [Value.oneCell']) (by omega) (by omega) (by omega) HMX7.out.bel.size _ rfl ?_; intro g7 cap7 wd hown7 hgr7 hat7 hlt7; clear hfd a0 a1 a2 a3 a4 a5 a6 a7 a8 c0 c1 c2;
            have HM7 := Lib.hid (HMX7.out.pushD (n := nmD d) (x := (d, k)) (dC_snoc _ _) (by rw [HM.out]; exact hown7) (by rw [HED.out]; exact hgr7) (by rw [HED.out]; exact hat7)); clear hown7 hgr7 hat7; have c0 := HM7.out.cell7 0; have c1 := HM7.out.cell7 1; have c2 := HM7.out.cell7 2; have f0 := HM7.out.frozen7 0; have f1 := HM7.out.frozen7 1)
        | (at_builtin; have h8 := (HM7.out.set 0 (.slice (some ⟨g7, 0, none⟩) (m + 1) cap7)).ext ((Below.refl _ _).alloc (Nat.le_refl _) (.cells #[.int .i64 (k : Int)] 3)); simp only [List.setIfInBounds_toArray, List.set_cons_succ, List.set_cons_zero] at h8;
            have HMX8 := Lib.hid h8; clear h8; have hfi := HMX8.out.fi.own (nmD d); rw [HEI.out, HM.out] at hfi;
            have hnb : ((wd.setCell ⟨b7, 0, none⟩ (.slice (some ⟨g7, 0, none⟩) (m + 1) cap7)).alloc (.cells #[.int .i64 (k : Int)] 3)).heap[wd.heap.size]? = some (.cells #[.int .i64 (k : Int)] 3) := (by have h := heap_alloc_new (wd.setCell ⟨b7, 0, none⟩ (.slice (some ⟨g7, 0, none⟩) (m + 1) cap7)) (.cells #[.int .i64 (k : Int)] 3); rw [World.size_setCell] at h; exact h);
            refine wpList_append_lies _ rfl (.tmp 45) (.tmp 47) 49 rfl w.heap.size 3 inj _ 1 8 (by kernel_rfl) hinj hzj hsj hbj rfl (by omega) (.slice Ai m ci) m _ rfl hfi ⟨wd.heap.size, 0, none⟩ 1 1 [.int .i64 (k : Int)] rfl rfl (World.news_of_block hnb) (by simp [Value.oneCell']) (by omega) (by omega) (by omega) HMX8.out.bel.size _ rfl ?_; intro g8 cap8 we hown8 hgr8 hat8 hlt8; clear hfi hnb c0 c1 c2 f0 f1;
            have HM8 := Lib.hid (HMX8.out.pushI (n := nmD d) (x := (d, k)) (iC_snoc _ _) (by rw [HM.out]; exact hown8) (by rw [HEI.out]; exact hgr8) (by rw [HEI.out]; exact hat8)); clear hown8 hgr8 hat8; have c0 := HM8.out.cell7 0; have c1 := HM8.out.cell7 1; have c2 := HM8.out.cell7 2; have f0 := HM8.out.frozen7 0; have f1 := HM8.out.frozen7 1)
        | fail)
      have hM9 := HM8.out.set 1 (.slice (some ⟨g8, 0, none⟩) (m + 1) cap8)
      simp only [List.setIfInBounds_toArray, List.set_cons_succ, List.set_cons_zero] at hM9
      generalize we.setCell ⟨b7, 1, none⟩ (.slice (some ⟨g8, 0, none⟩) (m + 1) cap8) = V9 at *
      clear HM8 HMX8 HM7 HMX7 HMV c0 c1 c2 f0 f1
      have hMd := hM9.ext (Below.refl _ _).drew
      have HM9 := Lib.hid hMd
      clear hM9 hMd
      (refine wp_region_sink_lit (S := S9 b7 b6 (.slice (some ⟨g7, 0, none⟩) (m + 1) cap7) (.slice (some ⟨g8, 0, none⟩) (m + 1) cap8) (.slice (some ⟨g, 0, none⟩) (m + 1) cap) d) 4 (by kernel_rfl) rfl rfl (by kernel_rfl) (by kernel_rfl) (S9.of_mid HM9.out) (fun hS => ?_); simp only [List.take_succ_cons, List.take_zero, List.reduceReplicate, Array.replicate_succ, Array.replicate_zero])
      (refine wpAnyH_take (i := 0) (v := ?_) rfl (by kernel_rfl) (by kernel_rfl) (by kernel_rfl) (fun _ _ _ h => h) (Or.inl ⟨by rfl, ?_⟩) hS ?_; rotate_left; focus (intro w2 hw2; (try dsimp only at hw2); (try unfold S6 at hw2); (try unfold S9 at hw2); (try unfold SZ7 at hw2); (try unfold S1 at hw2); (try unfold S4 at hw2); go_split_ands; go_simp; first | done | with_reducible rfl); (try simp only [Act.put, List.setIfInBounds_toArray, List.set_cons_zero, List.set_cons_succ]))
      (refine wpAnyH_take (i := 1) (v := ?_) rfl (by kernel_rfl) (by kernel_rfl) (by kernel_rfl) (fun _ _ _ h => h) (Or.inl ⟨by rfl, ?_⟩) hS ?_; rotate_left; focus (intro w2 hw2; (try dsimp only at hw2); (try unfold S6 at hw2); (try unfold S9 at hw2); (try unfold SZ7 at hw2); (try unfold S1 at hw2); (try unfold S4 at hw2); go_split_ands; go_simp; first | done | with_reducible rfl); (try simp only [Act.put, List.setIfInBounds_toArray, List.set_cons_zero, List.set_cons_succ]))
      (refine wpAnyH_take (i := 3) (v := ?_) rfl (by kernel_rfl) (by kernel_rfl) (by kernel_rfl) (fun _ _ _ h => h) (Or.inl ⟨by rfl, ?_⟩) hS ?_; rotate_left; focus (intro w2 hw2; (try dsimp only at hw2); (try unfold S6 at hw2); (try unfold S9 at hw2); (try unfold SZ7 at hw2); (try unfold S1 at hw2); (try unfold S4 at hw2); go_split_ands; go_simp; first | done | with_reducible rfl); (try simp only [Act.put, List.setIfInBounds_toArray, List.set_cons_zero, List.set_cons_succ]))
      (refine wpAnyH_ready (rs := [2]) (by kernel_rfl) (by simp) ?_; refine AllReadyH.cons rfl (fun K hK => ?_) AllReadyH.nil; (go_simp; go_at_call 53; refine (p_nameOf d _).mono ?_; rintro e wf ⟨rfl, hbf⟩; go_simp; have HMF := Lib.hid (HM9.out.ext hbf)); refine hK.out _ _ (S9.of_mid HMF.out) (fun hS => ?_); clear hK K; (try simp only [Act.put, List.setIfInBounds_toArray, List.set_cons_zero, List.set_cons_succ]))
      refine wpAnyH_done (by kernel_rfl) ?_ _
      obtain ⟨es, ck, hup, hMZ⟩ := MapN.update key2_name Tryz.underlying99 HMF.out.map (okB_wf HOK.out) (.agg #[.slice (some ⟨g7, 0, none⟩) (m + 1) cap7, .slice (some ⟨g8, 0, none⟩) (m + 1) cap8, .slice (some ⟨g, 0, none⟩) (m + 1) cap])
      have hF := HMF.out
      rw [HM.out, ← sub_take_snoc HK.out] at hF
      obtain ⟨HT0, HB0⟩ := hF.done HV.out (Nat.le_refl _) hMZ
      have HT := Lib.hid HT0
      have HB := Lib.hid HB0
      clear HT0 HB0 hF hMZ HMF HM9
      simp only [sinkQ]
      go_simp
      generalize setObj' wf w.heap.size (.map es ck) = V10 at *
      unfold S9 at hS
      clear hup hbf hS
      go_wp2_with fail
      go_roundw
      case rel => exact ⟨k + 1, by omega, by go_num, HT.out, HB.out⟩
      case measure => simp [intOf]; omega
    · obtain rfl : k = n := by omega
      have HT := Lib.hid hT
      clear hT
      go_wp2
      have h := HT.out
      rw [List.take_of_length_le (by rw [HL.out]; exact Nat.le_refl _)] at h
      refine ⟨rfl, .map (some w.heap.size), ?_, _, _, rfl, Nat.le_refl _, h, hB⟩
      exact results_tmp (t := 2) (by rfl) _ _ _

end Go.Proofs.YtikioiblaoimkaaGreatDoor
