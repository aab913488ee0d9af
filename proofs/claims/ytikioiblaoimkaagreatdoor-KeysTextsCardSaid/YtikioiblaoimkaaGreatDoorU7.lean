import Derived.Test.YtikioiblaoimkaaGreatDoorU1
import Derived.Test.YtikioiblaoimkaaGreatDoorA1
import Derived.Test.YtikioiblaoimkaaGreatDoorZt
import Derived.Shelf.Strings.Builder1
import Derived.Lib.ConvBytes
import Derived.Lib.AppendStr
import Derived.Maps.AppendAt
import Derived.Laws.CopyRow
set_option linter.unusedVariables false
set_option linter.unusedSimpArgs false

/- The library's contracts: strings.Split, FieldsFunc, Builder; strconv.AppendInt. -/
namespace Go.Proofs
open Go.Shelf
def Tryz.lays166_ren : Go.Shelf.Ren := ⟨fun | 166 => 11 | 240 => 35 | 276 => 74 | n => n, fun | 70 => 32 | 9 => 9 | 0 => 0 | 72 => 35 | 37 => 33 | 3 => 3 | 4 => 4 | 5 => 5 | 20 => 20 | 75 => 43 | 80 => 47 | 164 => 129 | n => n, fun | n => n⟩
theorem Tryz.lays166 : Go.Proofs.Lays.n166 Tryz.prog Tryz.lays166_ren := {
  mixed := by kernel_rfl
  f166 := Tryz.func11.trans (congrArg some (by kernel_rfl))
  f240 := Tryz.func35.trans (congrArg some (by kernel_rfl))
  f276 := Tryz.func74.trans (congrArg some (by kernel_rfl))
  t0 := Tryz.underlying0
  a0 := Tryz.isAgg0
  z0 := Tryz.sizeOf0
  v0 := Tryz.zeroValue0
  t3 := Tryz.underlying3
  a3 := Tryz.isAgg3
  z3 := Tryz.sizeOf3
  v3 := Tryz.zeroValue3
  t4 := Tryz.underlying4
  a4 := Tryz.isAgg4
  z4 := Tryz.sizeOf4
  v4 := Tryz.zeroValue4
  t9 := Tryz.underlying9
  a9 := Tryz.isAgg9
  z9 := Tryz.sizeOf9
  v9 := Tryz.zeroValue9
  t20 := Tryz.underlying20
  a20 := Tryz.isAgg20
  z20 := Tryz.sizeOf20
  v20 := Tryz.zeroValue20
  t37 := Tryz.underlying33
  a37 := Tryz.isAgg33
  z37 := Tryz.sizeOf33
  v37 := Tryz.zeroValue33
  t70 := Tryz.underlying32
  a70 := Tryz.isAgg32
  z70 := Tryz.sizeOf32
  v70 := Tryz.zeroValue32
  t72 := Tryz.underlying35
  a72 := Tryz.isAgg35
  z72 := Tryz.sizeOf35
  v72 := Tryz.zeroValue35
  t75 := Tryz.underlying43
  a75 := Tryz.isAgg43
  z75 := Tryz.sizeOf43
  v75 := Tryz.zeroValue43
  t164 := Tryz.underlying129
  a164 := Tryz.isAgg129
  z164 := Tryz.sizeOf129
  v164 := Tryz.zeroValue129 }
theorem Tryz.Builder_Extra_166 : Builder.Extra Tryz.prog Tryz.lays166_ren := {
  sizeBuilder := by kernel_rfl
  liesBuilder := by kernel_rfl
  t5 := Tryz.underlying5
  a5 := Tryz.isAgg5
  z5 := Tryz.sizeOf5
  v5 := Tryz.zeroValue5
  infoByte := by kernel_rfl
  cellsByte := by kernel_rfl
  sizeByte := by kernel_rfl
  neB5 := by decide }
end Go.Proofs

/- A row of bytes of the call's own, of which a stretch out of reach may bear a mark: what a conversion lays; appends to it. -/
namespace Go.Proofs.YtikioiblaoimkaaGreatDoor
open Go.RowKit Go.Lib

/-- The slice of n bytes owns the cells xs; no cell behind them that it has room for is frozen. -/
def OwnG (w : World) (B : Nat) (e : TypeId) (v : Value) (n : Nat) (xs : List Value) : Prop :=
  xs.length = n ∧ ∃ g cap cur fz, v = .slice (some ⟨g, 0, none⟩) n cap ∧ B ≤ g ∧ w.heap[g]? = some (.cells cur e fz) ∧ (∀ k, n ≤ k → k < cap → ¬ (fz.1 ≤ k ∧ k < fz.2)) ∧ n ≤ cap ∧ cap ≤ maxLen ∧ cur.size = cap ∧ cur.toList.take n = xs
theorem OwnG.lt {w : World} {B n : Nat} {e : TypeId} {v : Value} {xs : List Value} (h : OwnG w B e v n xs) : ∀ k, v.ownBlock = some k → B ≤ k ∧ k < w.heap.size := by
  obtain ⟨_, g, cap, cur, fz, rfl, hb, hg, _⟩ := h
  intro k hk
  simp [Value.ownBlock] at hk
  subst hk
  exact ⟨hb, (Array.getElem?_eq_some_iff.1 hg).1⟩
theorem OwnG.ext {w w' : World} {B n : Nat} {e : TypeId} {v : Value} {xs : List Value} (h : OwnG w B e v n xs) (hb : Below w.heap.size w w') : OwnG w' B e v n xs := by
  obtain ⟨h0, g, cap, cur, fz, rfl, hB, hg, r⟩ := h
  exact ⟨h0, g, cap, cur, fz, rfl, hB, (hb.block g (Array.getElem?_eq_some_iff.1 hg).1).trans hg, r⟩
theorem OwnG.cells {w : World} {B n : Nat} {e : TypeId} {v : Value} {xs : List Value} (h : OwnG w B e v n xs) : ∃ g cap, v = .slice (some ⟨g, 0, none⟩) n cap ∧ g < w.heap.size ∧ ∀ j u, xs[j]? = some u → w.cell? ((⟨g, 0, none⟩ : Addr).add j) = some u := by
  obtain ⟨h0, g, cap, cur, fz, rfl, hB, hg, _, _, _, _, htake⟩ := h
  refine ⟨g, cap, rfl, (Array.getElem?_eq_some_iff.1 hg).1, fun j u hu => ?_⟩
  have hadd : (⟨g, 0, none⟩ : Addr).add j = ⟨g, j, none⟩ := by unfold Addr.add; split <;> simp_all
  rw [hadd, cell_of_row w g j cur e fz hg]
  rw [← htake, List.getElem?_take] at hu
  split at hu
  · simpa using hu
  · cases hu

/-- Cells stored one behind the other where nothing is frozen. -/
theorem store_free (P : Program) (g o : Nat) (t : TypeId) (fz : Nat × Nat) : ∀ (vs : List Value) (i : Nat) (cur : Array Value) (w : World), w.heap[g]? = some (.cells cur t fz) → (∀ k, o + i ≤ k → k < o + i + vs.length → ¬ (fz.1 ≤ k ∧ k < fz.2)) → o + i + vs.length ≤ cur.size → (∀ v ∈ vs, v.oneCell' = true) →
    (storeCells ⟨g, o, none⟩ vs i).run P w = .ok () (w.setRow g (cur.toList.take (o + i) ++ vs ++ cur.toList.drop (o + i + vs.length)).toArray)
  | [], i, cur, w, hg, _, _, _ => by
    have e : (cur.toList.take (o + i) ++ [] ++ cur.toList.drop (o + i + ([] : List Value).length)).toArray = cur := by simp
    rw [e, setRow_self w g cur t fz hg]
    rfl
  | v :: rest, i, cur, w, hg, hfz, hl, h1 => by
    simp only [List.length_cons] at hl hfz
    have hlt : o + i < cur.size := by omega
    have hadd : (⟨g, o, none⟩ : Addr).add i = ⟨g, o + i, none⟩ := by unfold Addr.add; split <;> simp_all
    have hc : w.cell? ⟨g, o + i, none⟩ = some cur[o + i] := by simp [World.cell?, hg, hlt]
    have hf : w.frozen? ⟨g, o + i, none⟩ = false := by
      have h := hfz (o + i) (Nat.le_refl _) (by omega)
      obtain ⟨a, b⟩ := fz
      simp only [World.frozen?, hg]
      simp only at h
      rw [Bool.and_eq_false_iff]
      simp only [decide_eq_false_iff_not]
      omega
    have hs : (store ((⟨g, o, none⟩ : Addr).add i) v).run P w = .ok () (w.setRow g (cur.setIfInBounds (o + i) v)) := by
      rw [hadd, run_store P w _ v _ (h1 v (by simp)), hc]
      simp [hf, setCell_eq_setRow w g (o + i) cur t fz v hg]
    have ih := store_free P g o t fz rest (i + 1) (cur.setIfInBounds (o + i) v) (w.setRow g (cur.setIfInBounds (o + i) v)) (setRow_heap w g cur _ t _ hg) (fun k h2 h3 => hfz k (by omega) (by omega)) (by simp; omega) (fun x hx => h1 x (by simp [hx]))
    simp only [storeCells, Sem.run_bind, hs, Result.andThen_ok, ih, setRow_setRow]
    congr 3
    have e := list_seg_step cur.toList (o + i) v rest (by simp; omega)
    simpa [Array.toList_setIfInBounds, Nat.add_assoc] using e

section
variable {P : Program} {w : World} {B n : Nat} {e : TypeId} {v : Value} {xs : List Value}
/-- Where there is room: what was stored. -/
theorem OwnG.room {g cap : Nat} {cur : Array Value} {fz : Nat × Nat} (news : List Value) (h0 : xs.length = n) (hB : B ≤ g) (hg : w.heap[g]? = some (.cells cur e fz)) (hfz : ∀ k, n ≤ k → k < cap → ¬ (fz.1 ≤ k ∧ k < fz.2)) (hm : cap ≤ maxLen) (hcs : cur.size = cap) (ht : cur.toList.take n = xs) (hr : n + news.length ≤ cap) :
    OwnG (w.setRow g (cur.toList.take n ++ news ++ cur.toList.drop (n + news.length)).toArray) B e (.slice (some ⟨g, 0, none⟩) (n + news.length) cap) (n + news.length) (xs ++ news) ∧
      w.grownBy (w.setRow g (cur.toList.take n ++ news ++ cur.toList.drop (n + news.length)).toArray) (some g) := by
  refine ⟨⟨by rw [List.length_append, h0], g, cap, _, fz, rfl, hB, setRow_heap w g cur _ e _ hg, fun k h1 h2 => hfz k (by omega) h2, hr, hm, ?_, ?_⟩, ⟨rfl, rfl, rfl, by simp, fun k _ hk => setRow_other w g k _ (fun e => hk (by rw [e]))⟩⟩
  · simp only [List.size_toArray, List.length_append, List.length_take, List.length_drop, Array.length_toList]
    omega
  · rw [ht]
    have hl : (xs ++ news).length = n + news.length := by rw [List.length_append, h0]
    rw [← hl]
    exact List.take_left
/-- Where there is none: the new row. -/
theorem OwnG.grown (news : List Value) (cap : Nat) (z : Array Value) (hz : z.size = 1) (h0 : xs.length = n) (hbase : B ≤ w.heap.size) (h63 : n + news.length ≤ maxLen) :
    OwnG (w.drew.alloc (.cells (xs.toArray ++ news.toArray ++ Builtin.zeroCells z (grownCap w (n + news.length) cap e - (n + news.length))) e)) B e
      (.slice (some ⟨w.heap.size, 0, none⟩) (n + news.length) (grownCap w (n + news.length) cap e)) (n + news.length) (xs ++ news) := by
  have hge := grownCap_ge w (n + news.length) cap e
  refine ⟨by rw [List.length_append, h0], w.heap.size, _, _, (0, 0), rfl, hbase, heap_alloc_new w.drew _, fun k _ _ h => by omega, hge, grownCap_le_maxLen w _ cap e h63, ?_, ?_⟩
  · simp only [Array.size_append, List.size_toArray, size_zeroCells, hz, h0]
    omega
  · simp only [Array.toList_append, List.append_assoc]
    have hl : (xs ++ news).length = n + news.length := by rw [List.length_append, h0]
    rw [← List.append_assoc, ← hl]
    exact List.take_left

theorem OwnG.append (t ty : TypeId) (i : TypeInfo) (ht : P.underlying t = some (.slice e)) (hi : P.info? e = some i) (hz : i.zero = some (.int .u8 0)) (hs : i.size = 1) (hy : i.bytes = 1) (h : OwnG w B e v n xs)
    (a : Addr) (m c : Nat) (news : List Value) (hl : news.length = m) (hnews : ∀ j u, news[j]? = some u → w.cell? (a.add j) = some u) (h1 : ∀ u ∈ news, u.oneCell' = true) (hb : n + m ≤ 140737488355328) (hbase : B ≤ w.heap.size) :
    ∃ v' w', (Builtin.append_ #[t, t] ty #[v, .slice (some a) m c]).run P w = .ok v' w' ∧ OwnG w' B e v' (n + m) (xs ++ news) ∧ w.grownBy w' v.ownBlock := by
  have hcells := h.cells
  obtain ⟨h0, g, cap, cur, fz, rfl, hB, hg, hfz, hnc, hm, hcs, htk⟩ := h
  subst hl
  by_cases hr : n + news.length ≤ cap
  · have hf := run_firstCells_some (P := P) w i.size news.length a news.length c news (by rw [hs]; simp) hnews
    have hst := store_free P g n e fz news 0 cur w hg (fun k h2 h3 => hfz k (by omega) (by omega)) (by omega) h1
    simp only [Nat.add_zero] at hst
    obtain ⟨q1, q2⟩ := OwnG.room news h0 hB hg hfz hm hcs htk hr
    refine ⟨_, _, ?_, q1, q2⟩
    rw [hs] at hf
    simp [Builtin.append_, run_underlying ht, sizeOf, typeInfo, hi, hs, Builtin.lenOf, hr, hf, Addr.add_lit, hst]
  · obtain ⟨g', cap', e', _, hc⟩ := hcells
    simp at e'
    obtain ⟨rfl, rfl⟩ := e'
    have hrun := run_append_grow (P := P) w t ty e i (.int .u8 0) ht hi hz ⟨g, 0, none⟩ n cap xs (by rw [hs, h0]; simp) hc a news.length c news (by rw [hs]; simp) hnews (by omega) (by omega) (by rw [hy]; exact growslice_fits (by omega) (by omega))
    exact ⟨_, _, hrun, OwnG.grown news cap _ rfl h0 hbase (by unfold maxLen; omega), ⟨rfl, rfl, rfl, by simp, fun k hk _ => by first | exact heap_alloc_old w.drew _ hk | exact heap_alloc_old w.drew _ k hk⟩⟩
theorem OwnG.appendStr (t u ty : TypeId) (i : TypeInfo) (ht : P.underlying t = some (.slice e)) (hu : P.underlying u = some .string) (hi : P.info? e = some i) (hz : i.zero = some (.int .u8 0)) (hs : i.size = 1) (hy : i.bytes = 1) (h : OwnG w B e v n xs)
    (s : ByteArray) (hb : n + s.size ≤ 140737488355328) (hbase : B ≤ w.heap.size) :
    ∃ v' w', (Builtin.append_ #[t, u] ty #[v, .string s]).run P w = .ok v' w' ∧ OwnG w' B e v' (n + s.size) (xs ++ strCells s) ∧ w.grownBy w' v.ownBlock := by
  have hcells := h.cells
  obtain ⟨h0, g, cap, cur, fz, rfl, hB, hg, hfz, hnc, hm, hcs, htk⟩ := h
  have hsl := strCells_length s
  by_cases hr : n + s.size ≤ cap
  · have hf := run_firstCells_string (P := P) w 1 s
    have hst := store_free P g n e fz (strCells s) 0 cur w hg (fun k h2 h3 => hfz k (by omega) (by omega)) (by omega) (strCells_oneCell s)
    simp only [Nat.add_zero, hsl] at hst
    obtain ⟨q1, q2⟩ := OwnG.room (strCells s) h0 hB hg hfz hm hcs htk (by rw [hsl]; exact hr)
    rw [hsl] at q1 q2
    refine ⟨_, _, ?_, q1, q2⟩
    simp [Builtin.append_, run_underlying ht, run_underlying hu, sizeOf, typeInfo, hi, hs, Builtin.lenOf, hr, hf, Addr.add_lit, hst]
  · obtain ⟨g', cap', e', _, hc⟩ := hcells
    simp at e'
    obtain ⟨rfl, rfl⟩ := e'
    have hrun := run_append_grow_string (P := P) w t u ty e i (.int .u8 0) ht hu hi hz ⟨g, 0, none⟩ n cap xs (by rw [hs, h0]; simp) hc s (by omega) (by omega) (by rw [hy]; exact growslice_fits (by omega) (by omega))
    have q := OwnG.grown (w := w) (e := e) (B := B) (strCells s) cap (Value.int IntKind.u8 0).cells rfl h0 hbase (by rw [hsl]; unfold maxLen; omega)
    rw [hsl] at q
    exact ⟨_, _, hrun, q, ⟨rfl, rfl, rfl, by simp, fun k hk _ => by first | exact heap_alloc_old w.drew _ hk | exact heap_alloc_old w.drew _ k hk⟩⟩
end

section
variable {P : Program} {w : World} {B n : Nat} {e : TypeId} {v : Value} {xs : List Value} {ops : Array Oper} {rest : List Oper} {o : Oper} {a : Act} {Q : Exit → Act → World → Prop}
theorem wpList_appendG (hgd : o.guard = none) (s x : Operand) (t : TypeId) (ho : o.op = .call { callee := .builtin .append, args := #[s, x], argTypes := #[t, t] })
    (i : TypeInfo) (ht : P.underlying t = some (.slice e)) (hi : P.info? e = some i) (hz : i.zero = some (.int .u8 0)) (hs : i.size = 1) (hy : i.bytes = 1) (hsv : a.eval s = v) (h : OwnG w B e v n xs)
    (ad : Addr) (m c : Nat) (news : List Value) (hx : a.eval x = .slice (some ad) m c) (hl : news.length = m) (hnews : ∀ j u, news[j]? = some u → w.cell? (ad.add j) = some u) (h1 : ∀ u ∈ news, u.oneCell' = true) (hb : n + m ≤ 140737488355328) (hbase : B ≤ w.heap.size)
    (hk : ∀ v' w', OwnG w' B e v' (n + m) (xs ++ news) → w.grownBy w' v.ownBlock → wpList P ops Q rest (a.put o.dst v') w') : wpList P ops Q (o :: rest) a w := by
  refine wpList_plain hgd fun K hK => ?_
  obtain ⟨v', w', hr, h2, h3⟩ := h.append (P := P) t o.type i ht hi hz hs hy ad m c news hl hnews h1 hb hbase
  unfold Oper.wp execOp
  simp only [ho, resolve, invoke, builtin, Sem.run_bind, Sem.run_pure, Result.andThen_ok, List.map_toArray, List.map_cons, List.map_nil, hsv, hx, hr]
  exact hK _ _ (hk v' w' h2 h3)
theorem wpList_appendGs (hgd : o.guard = none) (s x : Operand) (t u : TypeId) (ho : o.op = .call { callee := .builtin .append, args := #[s, x], argTypes := #[t, u] })
    (i : TypeInfo) (ht : P.underlying t = some (.slice e)) (hu : P.underlying u = some .string) (hi : P.info? e = some i) (hz : i.zero = some (.int .u8 0)) (hs : i.size = 1) (hy : i.bytes = 1) (hsv : a.eval s = v) (h : OwnG w B e v n xs)
    (y : ByteArray) (hx : a.eval x = .string y) (hb : n + y.size ≤ 140737488355328) (hbase : B ≤ w.heap.size)
    (hk : ∀ v' w', OwnG w' B e v' (n + y.size) (xs ++ strCells y) → w.grownBy w' v.ownBlock → wpList P ops Q rest (a.put o.dst v') w') : wpList P ops Q (o :: rest) a w := by
  refine wpList_plain hgd fun K hK => ?_
  obtain ⟨v', w', hr, h2, h3⟩ := h.appendStr (P := P) t u o.type i ht hu hi hz hs hy y hb hbase
  unfold Oper.wp execOp
  simp only [ho, resolve, invoke, builtin, Sem.run_bind, Sem.run_pure, Result.andThen_ok, List.map_toArray, List.map_cons, List.map_nil, hsv, hx, hr]
  exact hK _ _ (hk v' w' h2 h3)
end
theorem OwnG.below {w W w1 : World} {B n : Nat} {e : TypeId} {v : Value} {xs : List Value} (hW : Below B w W) (h : OwnG W B e v n xs) (hB : B ≤ W.heap.size) (hg : W.grownBy w1 v.ownBlock) : Below B w w1 := hW.grown hg hB fun k ek => (h.lt k ek).1
/-- What a conversion lays. -/
theorem conv_own (s : ByteArray) (w : World) (hs : s.size ≤ 100000) : ∃ cp : Nat, (convert 9 33 (.string s)).run Tryz.prog w = .ok (.slice (some ⟨w.heap.size, 0, none⟩) s.size cp) (bytesWorld w 5 s) ∧ OwnG (bytesWorld w 5 s) w.heap.size 5 (.slice (some ⟨w.heap.size, 0, none⟩) s.size cp) s.size (strCells s) := by
  refine ⟨_, Lib.run_convert_string_bytes (P := Tryz.prog) w 9 33 5 s Tryz.underlying9 Tryz.underlying33 Tryz.underlying5, ?_⟩
  have hge := grownCap_ge w s.size 0 5
  have hle := grownCap_le_maxLen w s.size 0 5 (by unfold maxLen; omega)
  have hsz : (bytesCells w 5 s).size = grownCap w s.size 0 5 := by
    have h1 : s.data.size = s.size := rfl
    simp only [bytesCells, Array.size_append, Array.size_map, Array.size_replicate, h1]
    omega
  refine ⟨strCells_length s, w.heap.size, _, _, _, rfl, Nat.le_refl _, bytesWorld_at_new w _ s, fun k _ h2 h3 => by simp only [hsz] at h3; omega, hge, hle, hsz, ?_⟩
  have h2 : (s.data.map fun b => Value.int .u8 b.toNat).toList = strCells s := by simp [strCells]
  unfold bytesCells
  rw [Array.toList_append, h2, ← strCells_length s]
  exact List.take_left

end Go.Proofs.YtikioiblaoimkaaGreatDoor
