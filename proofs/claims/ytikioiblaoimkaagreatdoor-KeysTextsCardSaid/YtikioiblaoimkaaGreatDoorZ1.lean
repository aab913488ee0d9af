import Derived.Test.YtikioiblaoimkaaGreatDoorB3
import Derived.Maps.AppendAt
import Derived.Deep.AppendLies
import Derived.RegionTactic
import Derived.Test.YtikioiblaoimkaaGreatDoorA4
import Derived.Ground.NamesProg
import Derived.Ground.Names2Prog
import Derived.Shelf.Sort.Plain
import Derived.Shelf.Slices.CompactI
import Derived.Sort.OwnSortedInts
import Derived.Shelf.Slices.In.SortNone
import Derived.Lib.SliceRun
import Derived.Test.YtikioiblaoimkaaGreatDoorZp
set_option linter.unusedVariables false
set_option linter.unusedSimpArgs false

/- The reference's Put: a number put into a rising list. -/
namespace Go.Proofs.YtikioiblaoimkaaGreatDoor
open Go.RowKit
attribute [local go_sem] Oper.semAt_some

/-- An append to a row of the call's own, of a slice that is read, nil let in. -/
theorem run_app {P : Program} (w : World) {base B : Nat} {t ty e : TypeId} {i : TypeInfo} {z : Value} {size bytes : Nat} (ht : P.underlying t = some (.slice e)) (hi : P.info? e = some i) (hz : i.zero = some z)
    (hsize : i.size = size) (hby : i.bytes = bytes) (hzs : z.cells.size = size) (hsz : 0 < size) {v : Value} {n m c : Nat} {xs news : List Value} {A : Option Addr} (ho : w.ownsRow base e size v n xs)
    (hr : Rd w B size A m news) (h1 : ∀ u ∈ news, u.oneCell' = true) (h63 : n + m ≤ maxLen) (hb : (n + m) * bytes ≤ 140737488355328) (hbase : base ≤ w.heap.size) :
    ∃ v' w', (Builtin.append_ #[t, t] ty #[v, .slice A m c]).run P w = .ok v' w' ∧ w'.ownsRow base e size v' (n + m) (xs ++ news) ∧ w.grownBy w' v.ownBlock := by
  cases A with
  | none =>
    have hm : m = 0 := by
      rcases Nat.eq_zero_or_pos m with h | h
      · exact h
      · obtain ⟨_, _, e, _⟩ := hr.2 h; cases e
    subst hm
    obtain rfl : news = [] := List.eq_nil_of_length_eq_zero (by have := hr.1; omega)
    refine ⟨v, w, ?_, by simpa using ho, grown_of_below (Below.refl _ _) |> fun h => ⟨h.os, h.tape, h.output, h.size, fun _ _ _ => rfl⟩⟩
    rcases ho.2 with ⟨rfl, rfl⟩ | ⟨g, cap, cur, rfl, _, _, hnc, _⟩
    · simp [Builtin.append_, run_underlying ht, sizeOf, typeInfo, hi, Builtin.lenOf, Builtin.firstCells]
    · simp [Builtin.append_, run_underlying ht, sizeOf, typeInfo, hi, Builtin.lenOf, Builtin.firstCells, hnc, storeCells]
  | some ad =>
    have hnews : ∀ j u, news[j]? = some u → w.cell? (ad.add j) = some u := fun j u hj => by
      rcases Nat.eq_zero_or_pos m with h | h
      · subst h
        rw [List.eq_nil_of_length_eq_zero (l := news) (by have := hr.1; omega)] at hj
        simp at hj
      · obtain ⟨b, o, e, _, h2⟩ := hr.2 h
        cases e
        rw [Addr.add_lit]
        exact h2 j u hj
    obtain ⟨v', w', g1, g2, g3, _, _⟩ := run_append_own_at (P := P) w base t ty e i z size bytes ht hi hz hsize hby hzs hsz v n xs ho ad m c news hr.1 hnews h1 h63 hb hbase
    exact ⟨v', w', g1, g2, g3⟩
theorem step_app {P : Program} {w : World} {ops : Array Oper} {o : Oper} {a : Act} {K : Act → World → Prop} {Q : Exit → Act → World → Prop} {E : Prop} (hgd : o.guard = none) (s x : Operand) (t : TypeId)
    (hop : o.op = .call { callee := .builtin .append, args := #[s, x], argTypes := #[t, t] })
    {base B : Nat} {e : TypeId} {i : TypeInfo} {z : Value} {size bytes : Nat} (ht : P.underlying t = some (.slice e)) (hi : P.info? e = some i) (hz : i.zero = some z)
    (hsize : i.size = size) (hby : i.bytes = bytes) (hzs : z.cells.size = size) (hsz : 0 < size) {v : Value} {n m c : Nat} {xs news : List Value} {A : Option Addr} (hs : a.eval s = v) (hx : a.eval x = .slice A m c) (ho : w.ownsRow base e size v n xs)
    (hr : Rd w B size A m news) (h1 : ∀ u ∈ news, u.oneCell' = true) (h63 : n + m ≤ maxLen) (hb : (n + m) * bytes ≤ 140737488355328) (hbase : base ≤ w.heap.size)
    (h : ∀ v' w', w'.ownsRow base e size v' (n + m) (xs ++ news) → w.grownBy w' v.ownBlock → K (a.put o.dst v') w') :
    if Region.wanted o (yielded ops a.tmps) = true then Oper.wp P o a w K Q else E := by
  have hw : Region.wanted o (yielded ops a.tmps) = true := by simp [Region.wanted, hgd]
  rw [if_pos hw]
  obtain ⟨v', w', g1, g2, g3⟩ := run_app (P := P) w (ty := o.type) ht hi hz hsize hby hzs hsz ho hr h1 h63 hb hbase (c := c)
  unfold Oper.wp execOp
  simp only [hop, resolve, invoke, builtin, Sem.run_bind, Sem.run_pure, Result.andThen_ok, List.map_toArray, List.map_cons, List.map_nil, hs, hx, g1]
  exact h v' w' g2 g3

theorem ints_one (xs : List Int) : ∀ u ∈ xs.map (fun x => Value.int .i64 x), u.oneCell' = true := by
  intro u hu
  obtain ⟨x, _, rfl⟩ := List.mem_map.1 hu
  rfl
theorem own_empty (w : World) (t : TypeId) (size : Nat) : (w.alloc (.cells #[] t)).ownsRow w.heap.size t size (.slice (some ⟨w.heap.size, 0, none⟩) 0 0) 0 [] :=
  ⟨by simp, .inr ⟨w.heap.size, 0, #[], rfl, Nat.le_refl _, World.alloc_heap_new w _, Nat.le_refl _, Nat.zero_le _, by simp, by simp⟩⟩

/-- Where a number stands, or would stand. -/
theorem insS_at {xs : List Int} {t : Int} {i : Nat} (hs : SS xs) (h1 : ∀ (j : Nat) (a : Int), j < i → xs[j]? = some a → a < t) (h2 : ∀ a, xs[i]? = some a → t ≤ a) :
    insS t xs = if xs[i]? = some t then xs else xs.take i ++ t :: xs.drop i := by
  induction xs generalizing i with
  | nil => simp [insS]
  | cons b l ih =>
    have hb := (List.pairwise_cons.1 hs).1
    cases i with
    | zero =>
      have h3 := h2 b rfl
      unfold insS
      by_cases h4 : t < b
      · rw [if_pos h4, if_neg (by simp; omega)]
        rfl
      · have : t = b := by omega
        subst this
        simp
    | succ i =>
      have h3 := h1 0 b (by omega) rfl
      have h4 := ih (i := i) (List.pairwise_cons.1 hs).2 (fun j a hj ha => h1 (j + 1) a (by omega) (by simpa using ha)) (fun a ha => h2 a (by simpa using ha))
      unfold insS
      rw [if_neg (by omega), if_neg (by omega), h4]
      simp only [List.getElem?_cons_succ]
      split <;> simp

end Go.Proofs.YtikioiblaoimkaaGreatDoor

/- keys.Dates: a row of numbers of the call's own sorted and compacted; basic.Rising, basic.Dates. -/
namespace Go.Proofs
open Go.Shelf
end Go.Proofs
namespace Go.Proofs.YtikioiblaoimkaaGreatDoor
open Go.RowKit Go.Sort

def intK (xs : List Int) : List Value := xs.map fun x => .int .i64 x
def srtK (xs : List Int) : List Int := xs.mergeSort fun x y => decide (x ≤ y)
theorem srtK_len (xs : List Int) : (srtK xs).length = xs.length := List.length_mergeSort ..
theorem srtK_perm (xs : List Int) : (srtK xs).Perm xs := List.mergeSort_perm ..
theorem srtK_pair (xs : List Int) : (srtK xs).Pairwise (· ≤ ·) := by
  have h := List.pairwise_mergeSort (le := fun x y : Int => decide (x ≤ y)) (fun a b c h1 h2 => by simp at h1 h2 ⊢; omega) (fun a b => by simp; omega) xs
  exact h.imp fun h => by simpa using h
theorem compact_ss {zs : List Int} (hs : zs.Pairwise (· ≤ ·)) : SS (Lib.compact zs) := by
  unfold SS Lib.compact Lib.compactUpTo
  rw [List.pairwise_map]
  refine List.Pairwise.imp_of_mem ?_ (List.Pairwise.filter _ List.pairwise_lt_range)
  intro i j hi hj hij
  obtain ⟨hi1, -⟩ := List.mem_filter.1 hi
  obtain ⟨hj1, hj2⟩ := List.mem_filter.1 hj
  have h1 : i < zs.length := List.mem_range.1 hi1
  have h2 : j < zs.length := List.mem_range.1 hj1
  have hp := List.pairwise_iff_getElem.1 hs
  simp only [Lib.keeps, decide_eq_true_eq] at hj2
  have e1 : zs.toArray[i]! = zs[i] := by simp [h1]
  have e2 : zs.toArray[j]! = zs[j] := by simp [h2]
  have e3 : zs.toArray[j - 1]! = zs[j - 1]'(by omega) := by simp [show j - 1 < zs.length by omega]
  rw [e2, e3] at hj2
  show zs.toArray[i]! < zs.toArray[j]!
  rw [e1, e2]
  have h3 : zs[j - 1]'(by omega) ≤ zs[j] := hp (j - 1) j (by omega) h2 (by omega)
  have h4 : zs[i] ≤ zs[j - 1]'(by omega) := by
    rcases Nat.lt_or_ge i (j - 1) with h | h
    · exact hp i (j - 1) h1 (by omega) h
    · have : i = j - 1 := by omega
      subst this
      exact Int.le_refl _
  have h5 : ¬ zs[j] = zs[j - 1]'(by omega) := by
    rcases hj2 with h | h
    · omega
    · exact h
  omega
theorem compact_mem {zs : List Int} {a : Int} : a ∈ Lib.compact zs ↔ a ∈ zs := by
  unfold Lib.compact Lib.compactUpTo
  constructor
  · intro h
    obtain ⟨i, hi, rfl⟩ := List.mem_map.1 h
    have hi' : i < zs.length := List.mem_range.1 (List.mem_filter.1 hi).1
    simp [hi']
  · intro h
    obtain ⟨j, hj, rfl⟩ := List.mem_iff_getElem.1 h
    induction j with
    | zero => exact List.mem_map.2 ⟨0, List.mem_filter.2 ⟨List.mem_range.2 hj, by simp [Lib.keeps]⟩, by simp [hj]⟩
    | succ j ih =>
      by_cases hk : Lib.keeps zs.toArray (j + 1) = true
      · exact List.mem_map.2 ⟨j + 1, List.mem_filter.2 ⟨List.mem_range.2 hj, hk⟩, by simp [hj]⟩
      · have he : zs[j + 1] = zs[j]'(by omega) := by
          simp only [Lib.keeps, decide_eq_true_eq] at hk
          have e2 : zs.toArray[j + 1]! = zs[j + 1] := by simp [hj]
          have e3 : zs.toArray[j]! = zs[j]'(by omega) := by simp [show j < zs.length by omega]
          rw [Nat.add_sub_cancel, e2, e3] at hk
          exact Classical.byContradiction fun h => hk (.inr h)
        rw [he]
        exact ih (by omega) (List.getElem_mem _)
theorem own_take {w : World} {base n k c : Nat} {e : TypeId} {A : Option Addr} {xs : List Value} (h : w.ownsRow base e 1 (.slice A n c) n xs) (hk : k ≤ n) : w.ownsRow base e 1 (.slice A k c) k (xs.take k) := by
  have hl := h.1
  rcases h.2 with ⟨hv, h0⟩ | ⟨g, cap, cur, hv, hB, hg, h1, h2, h3, ht⟩
  · injection hv with e1 e2 e3
    subst e1 e3
    obtain rfl : k = 0 := by omega
    simpa using World.ownsRow_nil w base e 1
  · injection hv with e1 e2 e3
    subst e1 e3
    refine ⟨by rw [List.length_take]; omega, .inr ⟨g, c, cur, rfl, hB, hg, by omega, h2, h3, ?_⟩⟩
    rw [← ht, List.take_take]
    congr 1
    omega
theorem wpList_appK {P : Program} {w : World} {ops : Array Oper} {rest : List Oper} {o : Oper} {a : Act} {Q : Exit → Act → World → Prop} (hgd : o.guard = none) (s x : Operand) (t : TypeId)
    (hop : o.op = .call { callee := .builtin .append, args := #[s, x], argTypes := #[t, t] })
    {base B : Nat} {e : TypeId} {i : TypeInfo} {z : Value} {size bytes : Nat} (ht : P.underlying t = some (.slice e)) (hi : P.info? e = some i) (hz : i.zero = some z)
    (hsize : i.size = size) (hby : i.bytes = bytes) (hzs : z.cells.size = size) (hsz : 0 < size) {v : Value} {n m c : Nat} {xs news : List Value} {A : Option Addr} (hs : a.eval s = v) (hx : a.eval x = .slice A m c) (ho : w.ownsRow base e size v n xs)
    (hr : Rd w B size A m news) (h1 : ∀ u ∈ news, u.oneCell' = true) (h63 : n + m ≤ maxLen) (hb : (n + m) * bytes ≤ 140737488355328) (hbase : base ≤ w.heap.size)
    (h : ∀ v' w', w'.ownsRow base e size v' (n + m) (xs ++ news) → w.grownBy w' v.ownBlock → Below base w w' → wpList P ops Q rest (a.put o.dst v') w') : wpList P ops Q (o :: rest) a w := by
  refine wpList_plain hgd fun K hK => ?_
  obtain ⟨v', w', g1, g2, g3⟩ := run_app (P := P) w (ty := o.type) ht hi hz hsize hby hzs hsz ho hr h1 h63 hb hbase (c := c)
  unfold Oper.wp execOp
  simp only [hop, resolve, invoke, builtin, Sem.run_bind, Sem.run_pure, Result.andThen_ok, List.map_toArray, List.map_cons, List.map_nil, hs, hx, g1]
  exact hK _ _ (h v' w' g2 g3 ((Below.refl base w).grown g3 hbase fun k e => own_le ho e))
theorem own_emptyK (w : World) (t : TypeId) (size base : Nat) (h : base ≤ w.heap.size) : (w.alloc (.cells #[] t)).ownsRow base t size (.slice (some ⟨w.heap.size, 0, none⟩) 0 0) 0 [] := by
  have h1 := own_empty w t size
  exact ⟨h1.1, h1.2.imp id fun ⟨g, cap, cur, hv, hB, r⟩ => ⟨g, cap, cur, hv, Nat.le_trans h hB, r⟩⟩
theorem infoIK : (Tryz.prog.info? 3).map (fun i => (i.zero, i.size, i.bytes)) = some (some (.int .i64 0), 1, 8) := by kernel_rfl
/-- The days of all deeds, one behind another. -/
def dtL (ds : List Deed) : List Int := ds.flatMap fun d => if d.til = 0 then [d.known] else [d.known, d.til]
theorem dtL_mem {ds : List Deed} {a : Int} : a ∈ dtL ds ↔ ∃ d ∈ ds, dateOf d a := by
  rw [dtL, List.mem_flatMap]
  constructor
  · rintro ⟨d, hd, h⟩
    refine ⟨d, hd, ?_⟩
    unfold dateOf
    split at h
    · exact .inl (by simpa using h)
    · rename_i hz
      rcases List.mem_cons.1 h with h | h
      · exact .inl h
      · exact .inr ⟨by simpa using h, hz⟩
  · rintro ⟨d, hd, h⟩
    refine ⟨d, hd, ?_⟩
    rcases h with h | ⟨h, hz⟩
    · split <;> simp [h]
    · rw [if_neg hz]
      simp [h]
theorem dtL_in {ds : List Deed} {k : Nat} {d : Deed} (h : ds[k]? = some d) (hz : d.til = 0) : dtL (ds.take (k + 1)) = dtL (ds.take k) ++ [d.known] := by
  rw [take_snoc_some h, dtL, List.flatMap_append]
  simp [hz, dtL]
theorem dtL_in2 {ds : List Deed} {k : Nat} {d : Deed} (h : ds[k]? = some d) (hz : ¬ d.til = 0) : dtL (ds.take (k + 1)) = dtL (ds.take k) ++ [d.known] ++ [d.til] := by
  rw [take_snoc_some h, dtL, List.flatMap_append]
  simp [hz, dtL]
theorem dtL_len : ∀ ds : List Deed, (dtL ds).length ≤ 2 * ds.length
  | [] => by simp [dtL]
  | d :: ds => by
    have h := dtL_len ds
    unfold dtL at h ⊢
    rw [List.flatMap_cons, List.length_append, List.length_cons]
    split <;> simp only [List.length_cons, List.length_nil] <;> omega
theorem intK_one (xs : List Int) : ∀ u ∈ intK xs, u.oneCell' = true := fun u hu => by
  obtain ⟨x, -, rfl⟩ := List.mem_map.1 hu
  rfl
theorem own_dnK {W : World} {base base' size n : Nat} {e : TypeId} {v : Value} {xs : List Value} (h : W.ownsRow base e size v n xs) (hb : base' ≤ base) : W.ownsRow base' e size v n xs :=
  ⟨h.1, h.2.imp id fun ⟨g, cap, cur, hv, hB, r⟩ => ⟨g, cap, cur, hv, Nat.le_trans hb hB, r⟩⟩
end Go.Proofs.YtikioiblaoimkaaGreatDoor
