import Derived.Test.YtikioiblaoimkaaGreatDoorA5
set_option linter.unusedVariables false
set_option linter.unusedSimpArgs false

/- Maps of the call's own whose keys are of any kind: look-ups of both kinds, updates. -/
namespace Go.Proofs.YtikioiblaoimkaaGreatDoor
open Go.RowKit Go.Maps

section
variable {P : Program} {k E T : TypeId} {w : World} {b : Nat} {es : Array MapEntry} {clock : Nat} {x v z : Value} {lx : Lit}
theorem map_look2_hit (K : Keyed P k) (ht : P.underlying T = some (.map k E)) (hb : w.heap[b]? = some (.map es clock)) (hx : keyOf P k x = some lx) (hall : ∀ e ∈ es.toList, ∃ l, keyOf P k e.key = some l)
    (hex : ∃ e ∈ es.toList, e.key = x) (hv : ∀ e ∈ es.toList, e.key = x → e.val = v) : (Instr.lookup T (.map (some b)) x true).run P w = .ok (.tuple #[v, .bool true]) w := by
  have h1 := K.check w es.isEmpty hx
  rcases K.find w hx es.toList hall with ⟨_, h3⟩ | ⟨j, e, h2, h3, h4⟩
  · obtain ⟨e, he, hk⟩ := hex
    exact absurd hk (h3 e he)
  · have := hv e (List.mem_of_getElem? h3) h4
    simp [Instr.lookup, run_underlying ht, MapKept.run_getObj_map hb, h1, h2, this, Result.andThen]
theorem map_look2_miss (K : Keyed P k) (ht : P.underlying T = some (.map k E)) (hb : w.heap[b]? = some (.map es clock)) (hx : keyOf P k x = some lx) (hall : ∀ e ∈ es.toList, ∃ l, keyOf P k e.key = some l)
    (hno : ∀ e ∈ es.toList, e.key ≠ x) (hz : (zeroValue E).run P w = .ok z w) : (Instr.lookup T (.map (some b)) x true).run P w = .ok (.tuple #[z, .bool false]) w := by
  have h1 := K.check w es.isEmpty hx
  rcases K.find w hx es.toList hall with ⟨h2, _⟩ | ⟨j, e, h2, h3, h4⟩
  · simp [Instr.lookup, run_underlying ht, MapKept.run_getObj_map hb, h1, h2, hz, Result.andThen]
  · exact absurd h4 (hno e (List.mem_of_getElem? h3))
end

section
variable {κ : Type}
/-- What a list of entries holds for a key. -/
def getG [DecidableEq κ] (L : List (κ × Value)) (k : κ) : Option Value := match L with
  | [] => none
  | x :: l => if x.1 = k then some x.2 else getG l k
def putG [DecidableEq κ] (L : List (κ × Value)) (k : κ) (v : Value) : List (κ × Value) := match L with
  | [] => [(k, v)]
  | x :: l => if x.1 = k then (k, v) :: l else x :: putG l k v
theorem getG_put [DecidableEq κ] (L : List (κ × Value)) (k j : κ) (v : Value) : getG (putG L k v) j = if j = k then some v else getG L j := by
  induction L with
  | nil =>
    by_cases h : j = k
    · simp [putG, getG, h]
    · have h2 : ¬ k = j := fun e => h e.symm
      simp [putG, getG, h, h2]
  | cons x l ih =>
    by_cases hx : x.1 = k
    · by_cases h : j = k
      · subst h; simp [putG, getG, hx]
      · have h2 : ¬ k = j := fun e => h e.symm
        have h3 : ¬ x.1 = j := fun e => h (e.symm.trans hx)
        simp [putG, getG, hx, h, h2]
    · simp only [putG, hx, if_false, getG, ih]
      by_cases h : j = k
      · subst h; simp [hx]
      · simp [h]
theorem getG_mem [DecidableEq κ] {L : List (κ × Value)} {k : κ} {v : Value} (h : getG L k = some v) : (k, v) ∈ L := by
  induction L with
  | nil => simp [getG] at h
  | cons x l ih =>
    by_cases hx : x.1 = k
    · simp only [getG, hx, if_true, Option.some.injEq] at h
      subst h
      rw [← hx]
      simp
    · simp only [getG, hx, if_false] at h
      exact List.mem_cons_of_mem _ (ih h)
theorem getG_none [DecidableEq κ] {L : List (κ × Value)} {k : κ} (h : getG L k = none) : ∀ x ∈ L, x.1 ≠ k := by
  induction L with
  | nil => simp
  | cons x l ih =>
    by_cases hx : x.1 = k
    · simp [getG, hx] at h
    · simp only [getG, hx, if_false] at h
      intro y hy
      rcases List.mem_cons.1 hy with rfl | hy
      · exact hx
      · exact ih h y hy
theorem putG_keys [DecidableEq κ] (L : List (κ × Value)) (k : κ) (v : Value) : ∀ x ∈ putG L k v, x.1 = k ∨ ∃ y ∈ L, y.1 = x.1 := by
  induction L with
  | nil => simp [putG]
  | cons y l ih =>
    intro x hx
    by_cases hy : y.1 = k
    · simp only [putG, hy, if_true, List.mem_cons] at hx
      rcases hx with rfl | hx
      · exact .inl rfl
      · exact .inr ⟨x, List.mem_cons_of_mem _ hx, rfl⟩
    · simp only [putG, hy, if_false, List.mem_cons] at hx
      rcases hx with rfl | hx
      · exact .inr ⟨x, List.mem_cons_self, rfl⟩
      · rcases ih x hx with h | ⟨z, hz, e⟩
        · exact .inl h
        · exact .inr ⟨z, List.mem_cons_of_mem _ hz, e⟩
theorem putG_nodup [DecidableEq κ] {L : List (κ × Value)} (h : (L.map (·.1)).Nodup) (k : κ) (v : Value) : ((putG L k v).map (·.1)).Nodup := by
  induction L with
  | nil => simp [putG]
  | cons y l ih =>
    rw [List.map_cons, List.nodup_cons] at h
    by_cases hy : y.1 = k
    · simp only [putG, hy, if_true, List.map_cons, List.nodup_cons]
      exact ⟨by rw [← hy]; exact h.1, h.2⟩
    · simp only [putG, hy, if_false, List.map_cons, List.nodup_cons]
      refine ⟨fun hm => ?_, ih h.2⟩
      obtain ⟨x, hx, e⟩ := List.mem_map.1 hm
      rcases putG_keys l k v x hx with h1 | ⟨z, hz, e2⟩
      · exact hy (e.symm.trans h1)
      · exact h.1 (List.mem_map.2 ⟨z, hz, e2.trans e⟩)
theorem putG_none [DecidableEq κ] {L : List (κ × Value)} {k : κ} (h : getG L k = none) (v : Value) : putG L k v = L ++ [(k, v)] := by
  induction L with
  | nil => rfl
  | cons x l ih =>
    by_cases hx : x.1 = k
    · simp [getG, hx] at h
    · simp only [getG, hx, if_false] at h
      simp only [putG, hx, if_false, ih h, List.cons_append]
theorem putG_at [DecidableEq κ] {L : List (κ × Value)} {k : κ} {j : Nat} {u : Value} (hn : (L.map (·.1)).Nodup) (h : L[j]? = some (k, u)) (v : Value) : putG L k v = L.set j (k, v) := by
  induction L generalizing j with
  | nil => simp at h
  | cons x l ih =>
    rw [List.map_cons, List.nodup_cons] at hn
    cases j with
    | zero =>
      simp only [List.getElem?_cons_zero, Option.some.injEq] at h
      subst h
      simp [putG]
    | succ j =>
      have hm : (k, u) ∈ l := List.mem_of_getElem? (by simpa using h)
      have hx : ¬ x.1 = k := fun e => hn.1 (List.mem_map.2 ⟨_, hm, e.symm⟩)
      simp only [putG, hx, if_false, List.set_cons_succ]
      rw [ih hn.2 (by simpa using h)]
theorem nodupG_val {L : List (κ × Value)} (h : (L.map (·.1)).Nodup) {k : κ} {u v : Value} (h1 : (k, u) ∈ L) (h2 : (k, v) ∈ L) : u = v := by
  induction L with
  | nil => simp at h1
  | cons x l ih =>
    rw [List.map_cons, List.nodup_cons] at h
    rcases List.mem_cons.1 h1 with e1 | m1 <;> rcases List.mem_cons.1 h2 with e2 | m2
    · rw [← e1] at e2; injection e2 with _ e3; exact e3.symm
    · exact absurd (List.mem_map.2 ⟨_, m2, by rw [← e1]⟩) h.1
    · exact absurd (List.mem_map.2 ⟨_, m1, by rw [← e2]⟩) h.1
    · exact ih h.2 m1 m2

/-- A map of the call's own; its keys as values; the keys that may be. -/
structure MapG (mk : κ → Value) (wf : κ → Prop) (w : World) (b : Nat) (L : List (κ × Value)) : Prop where
  ex : ∃ es clock, w.heap[b]? = some (.map es clock) ∧ es.toList.map (fun e => (e.key, e.val)) = L.map fun x => (mk x.1, x.2)
  wf : ∀ x ∈ L, wf x.1
  nodup : (L.map (·.1)).Nodup
/-- The keys of a type. -/
structure KeyG (mk : κ → Value) (wf : κ → Prop) (k : TypeId) : Prop where
  law : Keyed Tryz.prog k
  of : ∀ a, wf a → ∃ l, keyOf Tryz.prog k (mk a) = some l
  inj : ∀ a b, mk a = mk b → a = b

variable {mk : κ → Value} {wf : κ → Prop} {k E T : TypeId} {w w' : World} {b : Nat} {L : List (κ × Value)}
theorem MapG.made (w : World) : MapG mk wf (w.alloc (.map #[] 0)) w.heap.size [] := ⟨⟨#[], 0, heap_alloc_new w _, rfl⟩, by simp, by simp⟩
theorem MapG.lt (h : MapG mk wf w b L) : b < w.heap.size := by
  obtain ⟨es, c, hb, _⟩ := h.ex
  exact block_lt hb
theorem MapG.keep (h : MapG mk wf w b L) (hb : w'.heap[b]? = w.heap[b]?) : MapG mk wf w' b L :=
  ⟨by obtain ⟨es, c, h1, h2⟩ := h.ex; exact ⟨es, c, hb.trans h1, h2⟩, h.wf, h.nodup⟩
theorem MapG.ext (h : MapG mk wf w b L) (hb : Below w.heap.size w w') : MapG mk wf w' b L := h.keep (hb.block b h.lt)
theorem MapG.alloc (h : MapG mk wf w b L) (o : Obj) : MapG mk wf (w.alloc o) b L := h.keep (Below.heap_alloc _ _ _ h.lt)
theorem MapG.setCell (h : MapG mk wf w b L) {a : Addr} (ha : b ≠ a.block) (v : Value) : MapG mk wf (w.setCell a v) b L := h.keep (Below.heap_setCell _ _ _ _ ha)
theorem MapG.facts (K : KeyG mk wf k) {es : Array MapEntry} (he : es.toList.map (fun e => (e.key, e.val)) = L.map fun x => (mk x.1, x.2)) (hwf : ∀ x ∈ L, wf x.1) :
    (∀ e ∈ es.toList, ∃ x ∈ L, e.key = mk x.1 ∧ e.val = x.2) ∧ (∀ x ∈ L, ∃ e ∈ es.toList, e.key = mk x.1 ∧ e.val = x.2) ∧ (∀ e ∈ es.toList, ∃ l, keyOf Tryz.prog k e.key = some l) := by
  have h1 : ∀ e ∈ es.toList, ∃ x ∈ L, e.key = mk x.1 ∧ e.val = x.2 := fun e hm => by
    have : (e.key, e.val) ∈ L.map fun x => (mk x.1, x.2) := by rw [← he]; exact List.mem_map.2 ⟨e, hm, rfl⟩
    obtain ⟨x, hx, e2⟩ := List.mem_map.1 this
    exact ⟨x, hx, (congrArg Prod.fst e2).symm, (congrArg Prod.snd e2).symm⟩
  refine ⟨h1, fun x hx => ?_, fun e hm => ?_⟩
  · have : (mk x.1, x.2) ∈ es.toList.map (fun e => (e.key, e.val)) := by rw [he]; exact List.mem_map.2 ⟨x, hx, rfl⟩
    obtain ⟨e, hm, e2⟩ := List.mem_map.1 this
    exact ⟨e, hm, congrArg Prod.fst e2, congrArg Prod.snd e2⟩
  · obtain ⟨x, hx, e2, _⟩ := h1 e hm
    rw [e2]
    exact K.of _ (hwf x hx)
theorem MapG.look2 [DecidableEq κ] (K : KeyG mk wf k) (ht : Tryz.prog.underlying T = some (.map k E)) (h : MapG mk wf w b L) {a : κ} (hk : wf a) {z : Value} (hz : (zeroValue E).run Tryz.prog w = .ok z w) :
    (Instr.lookup T (.map (some b)) (mk a) true).run Tryz.prog w = .ok (.tuple #[(getG L a).getD z, .bool (getG L a).isSome]) w := by
  obtain ⟨es, clock, hb, he⟩ := h.ex
  obtain ⟨f1, f2, f3⟩ := MapG.facts K he h.wf
  obtain ⟨l, hl⟩ := K.of a hk
  cases hg : getG L a with
  | none =>
    refine map_look2_miss K.law ht hb hl f3 (fun e hm hkey => ?_) hz
    obtain ⟨x, hx, e1, _⟩ := f1 e hm
    exact getG_none hg x hx (K.inj _ _ (e1.symm.trans hkey))
  | some v =>
    have hm := getG_mem hg
    obtain ⟨e, he1, he2, he3⟩ := f2 _ hm
    refine map_look2_hit K.law ht hb hl f3 ⟨e, he1, he2⟩ (fun e' hm' hkey => ?_)
    obtain ⟨x, hx, e1, e2⟩ := f1 e' hm'
    have hxk : x.1 = a := K.inj _ _ (e1.symm.trans hkey)
    rw [e2]
    exact nodupG_val h.nodup (by rw [← hxk]; exact hx) hm
theorem MapG.update [DecidableEq κ] (K : KeyG mk wf k) (ht : Tryz.prog.underlying T = some (.map k E)) (h : MapG mk wf w b L) {a : κ} (hk : wf a) (v : Value) :
    ∃ es n, (Instr.mapUpdate T (.map (some b)) (mk a) v).run Tryz.prog w = .ok () (setObj' w b (.map es n)) ∧ MapG mk wf (setObj' w b (.map es n)) b (putG L a v) := by
  obtain ⟨es, clock, hb, he⟩ := h.ex
  obtain ⟨f1, f2, f3⟩ := MapG.facts K he h.wf
  obtain ⟨l, hl⟩ := K.of a hk
  have hwf : ∀ x ∈ putG L a v, wf x.1 := fun x hx => by
    rcases putG_keys L a v x hx with e | ⟨y, hy, e⟩
    · rw [e]; exact hk
    · rw [← e]; exact h.wf y hy
  cases hg : getG L a with
  | none =>
    refine ⟨_, _, map_update_new K.law ht hb hl f3 (fun e hm hkey => ?_), ⟨⟨_, _, setObj'_at h.lt _, ?_⟩, hwf, putG_nodup h.nodup _ _⟩⟩
    · obtain ⟨x, hx, e1, _⟩ := f1 e hm
      exact getG_none hg x hx (K.inj _ _ (e1.symm.trans hkey))
    · rw [putG_none hg, Array.toList_push, List.map_append, List.map_append, he]
      rfl
  | some u =>
    have hm := getG_mem hg
    obtain ⟨e, he1, he2, he3⟩ := f2 _ hm
    obtain ⟨j, e', hj, hkey, hrun⟩ := map_update_old (v := v) K.law ht hb hl f3 ⟨e, he1, he2⟩
    refine ⟨_, _, hrun, ⟨⟨_, _, setObj'_at h.lt _, ?_⟩, hwf, putG_nodup h.nodup _ _⟩⟩
    have hlj : (L.map fun x => (mk x.1, x.2))[j]? = some (e'.key, e'.val) := by rw [← he, List.getElem?_map, hj]; rfl
    rw [List.getElem?_map] at hlj
    obtain ⟨x, hx, ex⟩ := Option.map_eq_some_iff.1 hlj
    have hxk : x.1 = a := K.inj _ _ ((congrArg Prod.fst ex).trans hkey)
    have hx2 : L[j]? = some (a, x.2) := by rw [hx, ← hxk]
    rw [putG_at h.nodup hx2, List.map_set, ← he]
    apply List.ext_getElem?
    intro i
    simp only [Array.toList_modify, List.getElem?_map, List.getElem?_modify, List.getElem?_set, List.length_map]
    by_cases hij : j = i
    · subst hij
      have hlt : j < es.toList.length := (List.getElem?_eq_some_iff.1 hj).1
      have hj2 : es[j]? = some e' := by simpa using hj
      have hlt2 : j < es.size := by simpa using hlt
      simp [hj2, hlt2]
    · simp [hij]
end

/-- Keys that are numbers. -/
abbrev ik (a : Int) : Value := .int .i64 a
def wf1 (a : Int) : Prop := (Lit.int .i64 a).wf = true
theorem key_int : KeyG ik wf1 3 :=
  ⟨int_keyed (q := .i64) Tryz.underlying3, fun a h => ⟨_, keyOf_int_mk Tryz.underlying3 h⟩, fun a b h => by simpa using h⟩
theorem key_names : KeyG (fun k : Int × Int => nk k.1 k.2) (fun k => wf2 k.1 k.2) 102 :=
  ⟨keyed_name, fun a h => keyOf_name _ _ h, fun a b h => nk_inj h⟩

end Go.Proofs.YtikioiblaoimkaaGreatDoor

/- offices. -/
namespace Go.Proofs.YtikioiblaoimkaaGreatDoor
open Go.RowKit Go.Shelf Go.Maps
attribute [local go_sem] Oper.semAt_some

/-- The marks that loops over iterators leave. -/
def marks (l : List Nat) : List Deferred := l.map fun D => { target := .collected D, args := #[] }
structure Marked (base : Nat) (l : List Nat) (W : World) : Prop where
  at_ : ∀ D ∈ l, W.heap[D]? = some (.deferred (some []))
  ge : ∀ D ∈ l, base ≤ D
  nodup : l.Nodup
theorem Marked.keep {base : Nat} {l : List Nat} {W W' : World} (h : Marked base l W) (hk : ∀ D ∈ l, W'.heap[D]? = W.heap[D]?) : Marked base l W' :=
  ⟨fun D hD => (hk D hD).trans (h.at_ D hD), h.ge, h.nodup⟩
theorem Marked.lt {base : Nat} {l : List Nat} {W : World} (h : Marked base l W) {D : Nat} (hD : D ∈ l) : D < W.heap.size := block_lt (h.at_ D hD)
theorem Marked.kept {base : Nat} {l : List Nat} {W W' : World} {row : Option Nat} (h : Marked base l W) (hg : W.grownBy W' row) (hr : ∀ r, row = some r → r ∉ l) : Marked base l W' :=
  h.keep fun D hD => hg.block D (h.lt hD) fun e => hr D e.symm hD
theorem leaves_marks {F : Fence} {n : Nat} {P : Program} {fn : Func} {tmps : Array Value} {R : Ending → World → Prop} {base : Nat} (l : List Nat) : ∀ (W : World), Marked base l W →
    (∀ W', Below base W W' → (∀ k, k ∉ l → W'.heap[k]? = W.heap[k]?) → LeavesInM F n P fn tmps R [] .returning W') → LeavesInM F n P fn tmps R (marks l) .returning W := by
  induction l with
  | nil => intro W _ h; exact h W (Below.refl _ _) fun _ _ => rfl
  | cons D l ih =>
    intro W hM h
    have hD := hM.at_ D (by simp)
    have hnd := List.nodup_cons.1 hM.nodup
    refine ⟨by simp, .inl ⟨D, _, rfl, run_takeDeferred hD, ih _ ⟨fun E hE => ?_, fun E hE => hM.ge E (by simp [hE]), hnd.2⟩ fun W' hb hk => h W' ?_ fun k hk' => ?_⟩⟩
    · rw [World.putObj_heap_other (fun e => hnd.1 (by rw [← e]; exact hE))]
      exact hM.at_ E (by simp [hE])
    · refine Below.trans (b := W.putObj D (.deferred none)) ⟨rfl, rfl, rfl, by simp, fun k hk => World.putObj_heap_other (by have := hM.ge D (by simp); omega)⟩ hb
    · have h1 := hk k (fun e => hk' (by simp [e]))
      rw [h1, World.putObj_heap_other (fun e => hk' (by simp [e]))]

/-- The number of the last of the states that is, or is not, one in office. -/
def offL (l : List (Nat × St)) (b : Bool) : Option Value := ((l.filter fun x => x.2.office == b).getLast?).map fun x => .int .i64 x.1
theorem offL_in {l : List (Nat × St)} {b : Bool} {x : Nat × St} (h : (x.2.office == b) = true) : offL (l ++ [x]) b = some (.int .i64 x.1) := by
  unfold offL
  rw [List.filter_append]
  simp [h]
theorem offL_out {l : List (Nat × St)} {b : Bool} {x : Nat × St} (h : (x.2.office == b) = false) : offL (l ++ [x]) b = offL l b := by
  unfold offL
  rw [List.filter_append]
  simp [h]
theorem setObj'_grown (W : World) (b : Nat) (o : Obj) : W.grownBy (setObj' W b o) (some b) :=
  ⟨rfl, rfl, rfl, by simp [setObj'], fun k _ hk => setObj'_other (fun e => hk (by rw [e])) o⟩

/-- What stands between two rounds over a thread's states: the map, what it was made of, what is read. -/
structure OffJ (w : World) (S : Nm → TL) (day : Int) (inB : Bool) (lo B bm k : Nat) (l : List Nat) (o : Option Value) (W : World) : Prop where
  ex : ∃ L, MapG ik wf1 W (w.heap.size + 1) L ∧ ∀ p : Int, 0 ≤ p → getG L p = if p = k then o else if p < k then offL (stsL ((S (0, p)).map (·.1)) day) inB else none
  bi : BoxA W w.heap.size 4 #[.bool inB]
  bo : BoxA W (w.heap.size + 1 + 1) 144 #[.map (some (w.heap.size + 1))]
  mks : Marked (w.heap.size + 3) l W
  th : ThR W lo B bm S
  bel : Below w.heap.size w W
  sz : w.heap.size + 3 ≤ W.heap.size
theorem OffJ.keep {w : World} {S : Nm → TL} {day : Int} {inB : Bool} {lo B bm k bs : Nat} {l : List Nat} {o : Option Value} {W W' : World} {row : Option Nat} (h : OffJ w S day inB lo B bm k l o W) (hg : W.grownBy W' row)
    (hr : ∀ r, row = some r → bs ≤ r) (hbs : w.heap.size + 3 ≤ bs) (hB : B ≤ w.heap.size) (hl : ∀ D ∈ l, D < bs) : OffJ w S day inB lo B bm k l o W' where
  ex := by
    obtain ⟨L, hM, hL⟩ := h.ex
    exact ⟨L, hM.keep (hg.block _ hM.lt fun e => by have := hr _ e.symm; omega), hL⟩
  bi := h.bi.kept hg fun e => by have := hr _ e.symm; omega
  bo := h.bo.kept hg fun e => by have := hr _ e.symm; omega
  mks := h.mks.kept hg fun r e hm => by have := hr _ e; have := hl _ hm; omega
  th := h.th.keep fun j h1 h2 => hg.block j (by have := h.sz; omega) fun e => by have := hr _ e.symm; omega
  bel := h.bel.grown hg h.bel.size fun r e => by have := hr _ e; omega
  sz := Nat.le_trans h.sz hg.size

set_option maxRecDepth 100000 in
set_option maxHeartbeats 4000000 in
theorem p_offices (S : Nm → TL) (day : Int) (inB : Bool) (lo B bm : Nat) (w : World) (hS : ∀ n, (S n).length ≤ 1000) (hB : B ≤ w.heap.size) (hT : ThR w lo B bm S) :
    Calls Tryz.prog 91 #[.map (some bm), .int .i64 day, .bool inB] w fun e w' => ∃ bo L, e = .returned (.map (some bo)) ∧ w.heap.size ≤ bo ∧ MapG ik wf1 w' bo L ∧ (∀ p : Int, 0 ≤ p → p ≤ 99 → getG L p = offL (stsL ((S (0, p)).map (·.1)) day) inB) ∧ Below w.heap.size w w' := by
  have hmm := @run_makeMap Tryz.prog
  have HT := Lib.hid hT
  clear hT
  refine (callsIn_wide (n := 9)).1 ?_
  have h1 : 1 ≤ 9 := by omega
  (refine callsIn_of_wp_marks Tryz.func91 rfl trivial ?_ rfl; simp only [Tryz.ntmps91, List.size_toArray, List.length_cons, List.length_nil, Nat.reduceAdd, Nat.reduceSub, Array.replicate_succ, Array.replicate_zero, List.push_toArray, List.append_toArray, List.nil_append, List.cons_append])
  gi_wp2
  refine wpIn_named2 fun a0 W0 ha0 hW0 => ?_
  have hJ0 : OffJ w S day inB lo B bm 0 [] none W0 := by
    have hb : Below w.heap.size w W0 := by rw [← hW0]; exact (((Below.refl _ _).alloc (Nat.le_refl _) _).alloc (by simp) _).alloc (by simp; omega) _
    refine ⟨⟨[], ?_, fun p h0 => ?_⟩, by (rw [← hW0]; simp only [boxed_iff, boxa_iff, alloc_get, drew_heap, World.size_alloc]; (repeat (first | rw [if_pos trivial] | rw [if_pos (by omega)] | rw [if_neg (by omega)]))), by (rw [← hW0]; simp only [boxed_iff, boxa_iff, alloc_get, drew_heap, World.size_alloc]; (repeat (first | rw [if_pos trivial] | rw [if_pos (by omega)] | rw [if_neg (by omega)]))), ⟨by simp, by simp, by simp⟩, HT.out.below (hb.mono hB), hb, by rw [← hW0]; simp⟩
    · rw [← hW0]
      have hM := (MapG.made (mk := ik) (wf := wf1) (w.alloc (.cells #[.bool inB] 4))).alloc (.cells #[.map (some (w.heap.size + 1))] 144)
      simp only [World.size_alloc] at hM
      exact hM
    · rw [if_neg (by omega : ¬ p < ((0 : Nat) : Int))]
      simp [getG]
  clear hW0
  refine wpIn_loop (fun a' W => ∃ (k : Nat) (l : List Nat), k ≤ 100 ∧ OffJ w S day inB lo B bm k l none W ∧ ∃ u8 u9 u10 u13 u14 u15 u16 u17 u18 u19 u20 u21 u22 u23 u24 u25 u26 u27 u28 u29 u30 : Value, a' = { tmps := #[.map (some bm), .int .i64 day, .bool inB, undef, undef, .pointer (some ⟨w.heap.size, 0, none⟩), .map none, .pointer (some ⟨w.heap.size + 1 + 1, 0, none⟩), u8, u9, u10, .map (some (w.heap.size + 1)), .int .i64 k, u13, u14, u15, u16, u17, u18, u19, u20, u21, u22, u23, u24, u25, u26, u27, u28, u29, u30, undef], defers := marks l })
    (fun a' _ => 100 - (intOf (a'.tmps.getD 12 undef)).toNat) ?start ?round
  case start =>
    subst ha0
    exact ⟨0, [], by omega, hJ0, _, _, _, _, _, _, _, _, _, _, _, _, _, _, _, _, _, _, _, _, _, rfl⟩
  case round =>
    clear ha0 hJ0
    rintro a' wr ⟨k, l, hk, hJ, u8, u9, u10, u13, u14, u15, u16, u17, u18, u19, u20, u21, u22, u23, u24, u25, u26, u27, u28, u29, u30, rfl⟩
    by_cases hlt : k < 100
    · have hsz := hJ.sz
      have bP := BoxA.new wr 3 #[.int .i64 k]
      have hJ1 : OffJ w S day inB lo B bm k l none (wr.alloc (.cells #[.int .i64 k] 3)) := hJ.keep (bs := wr.heap.size) (World.grownBy_alloc _ _ none) (by simp) hsz hB fun D hD => hJ.mks.lt hD
      obtain ⟨Ad, Ai, As, cd, ci, cs, hlook, hthr⟩ := hJ1.th.look (a := 0) (c := k) (wf2_small (by omega) (by omega) (by omega) (by omega))
      have HTR := Lib.hid hthr
      have HJ1 := Lib.hid hJ1
      have HJ := Lib.hid hJ
      clear hthr hJ1 hJ
      gi_wp2_with (refine ⟨trivial, ?_⟩; gi_at_call 59; refine (callsIn_wide.2 (p_states day _ _ _ _)).mono ?_; rintro e w5 ⟨rfl, hw5⟩)
      refine wpIn_named2 fun a1 W1 ha1 hW0 => ?_
      have hs1 : W1.heap.size = wr.heap.size + 3 := by rw [← hW0]; simp
      have hb1 : Below (wr.alloc (.cells #[.int .i64 k] 3)).heap.size (wr.alloc (.cells #[.int .i64 k] 3)) W1 := by rw [← hW0]; exact ((Below.refl _ _).alloc (Nat.le_refl _) _).alloc (by simp) _
      have hb0 : Below wr.heap.size wr W1 := Below.then_ ((Below.refl _ _).alloc (Nat.le_refl _) _) hb1
      have hJ1 : OffJ w S day inB lo B bm k l none W1 := HJ.out.keep (grown_of_below hb0) (bs := wr.heap.size) (by simp) hsz hB fun D hD => HJ.out.mks.lt hD
      have bP1 : BoxA W1 wr.heap.size 3 #[.int .i64 k] := by (rw [← hW0]; simp only [boxed_iff, boxa_iff, alloc_get, drew_heap, World.size_alloc]; (repeat (first | rw [if_pos trivial] | rw [if_pos (by omega)] | rw [if_neg (by omega)])))
      have bT : BoxA W1 (wr.heap.size + 1) 98 #[.slice Ad (S (0, (k : Int))).length cd, .slice Ai (S (0, (k : Int))).length ci, .slice As (S (0, (k : Int))).length cs] := by (rw [← hW0]; simp only [boxed_iff, boxa_iff, alloc_get, drew_heap, World.size_alloc]; (repeat (first | rw [if_pos trivial] | rw [if_pos (by omega)] | rw [if_neg (by omega)])))
      have bD : BoxA W1 (wr.heap.size + 1 + 1) 3 #[.int .i64 day] := by (rw [← hW0]; simp only [boxed_iff, boxa_iff, alloc_get, drew_heap, World.size_alloc]; (repeat (first | rw [if_pos trivial] | rw [if_pos (by omega)] | rw [if_neg (by omega)])))
      have hT1 := HTR.out.below (hb1.mono (by simp; omega))
      have hPw : ∀ j, (lo ≤ j ∧ j < B) ∨ j = wr.heap.size + 1 ∨ j = wr.heap.size + 1 + 1 → j < W1.heap.size := fun j hj => by omega
      have hl1 : ∀ D ∈ l, D < W1.heap.size := fun D hD => hJ1.mks.lt hD
      have HJ2 := Lib.hid hJ1
      clear hW0 hb1 hJ1 bP
      refine wpIn_rangeFunc_ownH rfl h1 (gf := 95) (lb := #[.pointer (some ⟨wr.heap.size + 1, 0, none⟩), .pointer (some ⟨wr.heap.size + 1 + 1, 0, none⟩)]) (by subst ha1; rfl) trivial (enters_of Tryz.func95 (by kernel_rfl) rfl)
        (states_stops 8 (by omega) (wr.heap.size + 1) (wr.heap.size + 1 + 1) lo B (fun j => (lo ≤ j ∧ j < B) ∨ j = wr.heap.size + 1 ∨ j = wr.heap.size + 1 + 1) (S (0, (k : Int))) day Ad Ai As cd ci cs W1 (hS _) (fun j h2 h3 => .inl ⟨h2, h3⟩) (.inr (.inl rfl)) (.inr (.inr rfl)) hPw (by omega) (bT.cell 0) (bT.cell 1) (bT.cell 2) (bD.cell 0) hT1)
        keepP_t (keepP_b hPw) (Below.refl _ _) (fun _ => rfl)
        (fun (pre : List (YS ((S (0, (k : Int))).map (·.1)) day)) W => OffJ w S day inB lo B bm k l (offL (pre.map (·.1)) inB) W ∧ BoxA W wr.heap.size 3 #[.int .i64 k] ∧ W1.heap.size ≤ W.heap.size)
        (fun _ _ _ => False)
        (fun s X Y row hs hg hr => ⟨hs.1.keep (bs := W1.heap.size) hg (fun r e => (hr r e).1) (by omega) hB hl1, hs.2.1.kept hg (fun e => by have := (hr _ e.symm).1; omega), Nat.le_trans hs.2.2 hg.size⟩)
        (fun _ _ _ _ _ hs _ _ => hs)
        ⟨HJ2.out, bP1, Nat.le_refl _⟩
        (fun x a' W => ∃ Bx, W1.heap.size ≤ Bx ∧ BoxA W Bx 89 #[.int .i64 x.1.2.holder, .int .i64 x.1.2.hand, .bool x.1.2.office] ∧ a' = { tmps := (((a1.tmps.setIfInBounds 21 (.int .i64 x.1.1)).setIfInBounds 22 (stV x.1.2)).setIfInBounds 9 (.int .i64 x.1.1)).setIfInBounds 10 (.pointer (some ⟨Bx, 0, none⟩)), defers := [] })
        (fun x a' _ X Y row hs hg hr => by obtain ⟨Bx, g1, g2, g3⟩ := hs; exact ⟨Bx, g1, boxa_own Bx _ (fun (_ : Unit) => _) () X Y row g2 hg (fun r e => (hr r e).2), g3⟩)
        ?assign ?body ?done ?stop
      case assign =>
        subst ha1
        rintro lp pre x W K ⟨hI, bP2, hs2⟩ hK
        simp only [encS, stV]
        gi_wp2
        exact hK _ _ ((KeepsOthers.alloc _ _).from _) (KeepP.of_below (B := W.heap.size) (by (repeat' (first | with_reducible exact Below.refl _ _ | with_reducible assumption | with_reducible refine Below.alloc ?_ ?_ _ | with_reducible refine Below.setCell ?_ ?_ _ | with_reducible refine Below.drew ?_ | (simp; done) | (simp; omega) | omega))) fun j hj => Nat.lt_of_lt_of_le (hPw j hj) hs2) ⟨hI.keep (bs := W.heap.size) (World.grownBy_alloc _ _ none) (by simp) hI.sz hB (fun D hD => Nat.lt_of_lt_of_le (hl1 D hD) hs2), bP2.alloc _, by simp; omega⟩ ⟨W.heap.size, hs2, BoxA.new W _ _, rfl⟩
      case body =>
        subst ha1
        rintro lp pre x a' W hl ⟨r, hr⟩ ⟨hI, bP2, hs2⟩ ⟨Bx, hBx, bX, rfl⟩ hlt2
        have x0 := bX.cell 0
        have x1 := bX.cell 1
        have x2 := bX.cell 2
        have i0 := hI.bi.cell 0
        have p0 := bP2.cell 0
        have o0 := hI.bo.cell 0
        have HI := Lib.hid hI
        clear hI
        simp only [List.setIfInBounds_toArray, List.set_cons_zero, List.set_cons_succ]
        cases hx : (x.1.2.office == inB) with
        | true =>
          obtain ⟨L, hM, hL⟩ := HI.out.ex
          obtain ⟨es, nn, hup, hM2⟩ := hM.update key_int Tryz.underlying144 (a := k) (wf_small (by omega) (by omega)) (.int .i64 x.1.1)
          have HM2 := Lib.hid hM2
          have HLL := Lib.hid hL
          have HX := Lib.hid hx
          clear hM hM2 hL
          gi_wp2
          have hg := setObj'_grown W (w.heap.size + 1) (.map es nn)
          have hne : ∀ D ∈ l, D ≠ w.heap.size + 1 := fun D hD => by have := HI.out.mks.ge D hD; omega
          exact ⟨KeepsFrom.of_grownBy hg fun j e => by cases e; omega, KeepP.of_grown hg fun j hj => ⟨Nat.lt_of_lt_of_le (hPw j hj) hs2, fun e => by cases e; omega⟩,
            ⟨⟨_, HM2.out, fun p h0 => by
                rw [getG_put, HLL.out p h0, List.map_append]
                by_cases hpk : p = k
                · rw [if_pos hpk, if_pos hpk]
                  exact (offL_in HX.out).symm
                · rw [if_neg hpk, if_neg hpk, if_neg hpk]⟩,
              HI.out.bi.kept hg (by simp), HI.out.bo.kept hg (by simp), HI.out.mks.kept hg fun r e hm => by cases e; exact hne _ hm rfl,
              HI.out.th.keep fun j h2 h3 => setObj'_other (by omega) _, Below.setObj' HI.out.bel (by omega) _, by have := HI.out.sz; have := hg.size; omega⟩,
            bP2.kept hg (by simp; omega), Nat.le_trans hs2 hg.size⟩
        | false =>
          have HX := Lib.hid hx
          gi_wp2
          exact ⟨KeepsFrom.refl _ _, KeepP.refl _ _, by rw [List.map_append]; rw [show offL (pre.map (·.1) ++ [x].map (·.1)) inB = offL (pre.map (·.1)) inB from offL_out HX.out]; exact HI.out, bP2, hs2⟩
      case done =>
        subst ha1
        rintro D ys W hD hys ⟨hI, bP2, hs2⟩ hK
        gi_wp2
        have hI2 : OffJ w S day inB lo B bm (k + 1) (D :: l) none W :=
          ⟨by
            obtain ⟨L, hM, hL⟩ := hI.ex
            refine ⟨L, hM, fun p h0 => ?_⟩
            rw [hL p h0, hys]
            by_cases hpk : p = k
            · subst hpk
              rw [if_pos rfl, if_neg (by omega), if_pos (by omega)]
            · rw [if_neg hpk]
              by_cases hp1 : p = ((k + 1 : Nat) : Int)
              · rw [if_pos hp1, if_neg (by omega)]
              · rw [if_neg hp1]
                by_cases hp2 : p < k
                · rw [if_pos hp2, if_pos (by omega)]
                · rw [if_neg hp2, if_neg (by omega)],
            hI.bi, hI.bo, ⟨fun E hE => by
              rcases List.mem_cons.1 hE with rfl | hE
              · exact hK
              · exact hI.mks.at_ E hE, fun E hE => by
              rcases List.mem_cons.1 hE with rfl | hE
              · omega
              · exact hI.mks.ge E hE, List.nodup_cons.2 ⟨fun hm => by have := hl1 D hm; omega, hI.mks.nodup⟩⟩, hI.th, hI.bel, hI.sz⟩
        exact ⟨⟨k + 1, D :: l, by omega, hI2, _, _, _, _, _, _, _, _, _, _, _, _, _, _, _, _, _, _, _, _, _, rfl⟩, by simp [intOf]; omega⟩
      case stop =>
        rintro D c pre W _ _ h _
        exact h.elim
    · obtain rfl : k = 100 := by omega
      have c0 := hJ.bo.cell 0
      gi_wp2
      refine leaves_marks l wr hJ.mks fun W' hb hk => ?_
      obtain ⟨L, hM, hL⟩ := hJ.ex
      refine ⟨.map (some (w.heap.size + 1)), by exact results_tmp (t := 6) (by rfl) _ _ _, w.heap.size + 1, L, rfl, by omega, hM.keep (hk _ fun hm => by have := hJ.mks.ge _ hm; omega), fun p h0 h9 => ?_, hJ.bel.trans (hb.mono (by omega))⟩
      rw [hL p h0, if_neg (by omega), if_pos (by omega)]

end Go.Proofs.YtikioiblaoimkaaGreatDoor
