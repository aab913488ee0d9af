import Derived.Test.YtaomfjgleddpdaaGreatB3
import Derived.Maps.AppendAt
import Derived.Deep.AppendLies
import Derived.RegionTactic
import Derived.Test.YtaomfjgleddpdaaGreatA4
import Derived.Ground.NamesProg
import Derived.Ground.Names2Prog
import Derived.Shelf.Sort.Plain
import Derived.Shelf.Slices.CompactI
import Derived.Sort.OwnSortedInts
import Derived.Shelf.Slices.In.SortNone
import Derived.Lib.SliceRun
import Derived.Test.YtaomfjgleddpdaaGreatZp
set_option linter.unusedVariables false
set_option linter.unusedSimpArgs false

/- The reference's Put: a number put into a rising list. -/
namespace Go.Proofs.YtaomfjgleddpdaaGreat
open Go.RowKit
attribute [local go_sem] Oper.semAt_some

/-- An append to a row of the call's own, of a slice that is read, nil let in. -/
theorem run_app {P : Program} (w : World) {base B : Nat} {t ty e : TypeId} {i : TypeInfo} {z : Value} {size bytes : Nat} (ht : P.underlying t = some (.slice e)) (hi : P.info? e = some i) (hz : i.zero = some z)
    (hsize : i.size = size) (hby : i.bytes = bytes) (hzs : z.cells.size = size) (hsz : 0 < size) {v : Value} {n m c : Nat} {xs news : List Value} {A : Option Addr} (ho : w.ownsRow base e size v n xs)
    (hr : Rd w B size A m news) (h1 : ∀ u ∈ news, u.oneCell' = true) (h63 : n + m ≤ maxLen) (hb : (n + m) * bytes ≤ 140737488355328) (hbase : base ≤ w.heap.size) :
    ∃ v' w', (Builtin.append_ #[t, t] ty #[v, .slice A m c]).run P w = .ok v' w' ∧ w'.ownsRow base e size v' (n + m) (xs ++ news) ∧ w.grownBy w' v.ownBlock := by
  cases A with
  | none =>
    have hm : m = 0 := by
      rcases Nat.eq_zero_or_pos m with h | h
      · exact h
      · obtain ⟨_, _, e, _⟩ := hr.2 h; cases e
    subst hm
    obtain rfl : news = [] := List.eq_nil_of_length_eq_zero (by have := hr.1; omega)
    refine ⟨v, w, ?_, by simpa using ho, grown_of_below (Below.refl _ _) |> fun h => ⟨h.os, h.tape, h.output, h.size, fun _ _ _ => rfl⟩⟩
    rcases ho.2 with ⟨rfl, rfl⟩ | ⟨g, cap, cur, rfl, _, _, hnc, _⟩
    · simp [Builtin.append_, run_underlying ht, sizeOf, typeInfo, hi, Builtin.lenOf, Builtin.firstCells]
    · simp [Builtin.append_, run_underlying ht, sizeOf, typeInfo, hi, Builtin.lenOf, Builtin.firstCells, hnc, storeCells]
  | some ad =>
    have hnews : ∀ j u, news[j]? = some u → w.cell? (ad.add j) = some u := fun j u hj => by
      rcases Nat.eq_zero_or_pos m with h | h
      · subst h
        rw [List.eq_nil_of_length_eq_zero (l := news) (by have := hr.1; omega)] at hj
        simp at hj
      · obtain ⟨b, o, e, _, h2⟩ := hr.2 h
        cases e
        rw [Addr.add_lit]
        exact h2 j u hj
    obtain ⟨v', w', g1, g2, g3, _, _⟩ := run_append_own_at (P := P) w base t ty e i z size bytes ht hi hz hsize hby hzs hsz v n xs ho ad m c news hr.1 hnews h1 h63 hb hbase
    exact ⟨v', w', g1, g2, g3⟩
theorem step_app {P : Program} {w : World} {ops : Array Oper} {o : Oper} {a : Act} {K : Act → World → Prop} {Q : Exit → Act → World → Prop} {E : Prop} (hgd : o.guard = none) (s x : Operand) (t : TypeId)
    (hop : o.op = .call { callee := .builtin .append, args := #[s, x], argTypes := #[t, t] })
    {base B : Nat} {e : TypeId} {i : TypeInfo} {z : Value} {size bytes : Nat} (ht : P.underlying t = some (.slice e)) (hi : P.info? e = some i) (hz : i.zero = some z)
    (hsize : i.size = size) (hby : i.bytes = bytes) (hzs : z.cells.size = size) (hsz : 0 < size) {v : Value} {n m c : Nat} {xs news : List Value} {A : Option Addr} (hs : a.eval s = v) (hx : a.eval x = .slice A m c) (ho : w.ownsRow base e size v n xs)
    (hr : Rd w B size A m news) (h1 : ∀ u ∈ news, u.oneCell' = true) (h63 : n + m ≤ maxLen) (hb : (n + m) * bytes ≤ 140737488355328) (hbase : base ≤ w.heap.size)
    (h : ∀ v' w', w'.ownsRow base e size v' (n + m) (xs ++ news) → w.grownBy w' v.ownBlock → K (a.put o.dst v') w') :
    if Region.wanted o (yielded ops a.tmps) = true then Oper.wp P o a w K Q else E := by
  have hw : Region.wanted o (yielded ops a.tmps) = true := by simp [Region.wanted, hgd]
  rw [if_pos hw]
  obtain ⟨v', w', g1, g2, g3⟩ := run_app (P := P) w (ty := o.type) ht hi hz hsize hby hzs hsz ho hr h1 h63 hb hbase (c := c)
  unfold Oper.wp execOp
  simp only [hop, resolve, invoke, builtin, Sem.run_bind, Sem.run_pure, Result.andThen_ok, List.map_toArray, List.map_cons, List.map_nil, hs, hx, g1]
  exact h v' w' g2 g3

theorem ints_one (xs : List Int) : ∀ u ∈ xs.map (fun x => Value.int .i64 x), u.oneCell' = true := by
  intro u hu
  obtain ⟨x, _, rfl⟩ := List.mem_map.1 hu
  rfl
theorem own_empty (w : World) (t : TypeId) (size : Nat) : (w.alloc (.cells #[] t)).ownsRow w.heap.size t size (.slice (some ⟨w.heap.size, 0, none⟩) 0 0) 0 [] :=
  ⟨by simp, .inr ⟨w.heap.size, 0, #[], rfl, Nat.le_refl _, World.alloc_heap_new w _, Nat.le_refl _, Nat.zero_le _, by simp, by simp⟩⟩

/-- Where a number stands, or would stand. -/
theorem insS_at {xs : List Int} {t : Int} {i : Nat} (hs : SS xs) (h1 : ∀ (j : Nat) (a : Int), j < i → xs[j]? = some a → a < t) (h2 : ∀ a, xs[i]? = some a → t ≤ a) :
    insS t xs = if xs[i]? = some t then xs else xs.take i ++ t :: xs.drop i := by
  induction xs generalizing i with
  | nil => simp [insS]
  | cons b l ih =>
    have hb := (List.pairwise_cons.1 hs).1
    cases i with
    | zero =>
      have h3 := h2 b rfl
      unfold insS
      by_cases h4 : t < b
      · rw [if_pos h4, if_neg (by simp; omega)]
        rfl
      · have : t = b := by omega
        subst this
        simp
    | succ i =>
      have h3 := h1 0 b (by omega) rfl
      have h4 := ih (i := i) (List.pairwise_cons.1 hs).2 (fun j a hj ha => h1 (j + 1) a (by omega) (by simpa using ha)) (fun a ha => h2 a (by simpa using ha))
      unfold insS
      rw [if_neg (by omega), if_neg (by omega), h4]
      simp only [List.getElem?_cons_succ]
      split <;> simp

end Go.Proofs.YtaomfjgleddpdaaGreat

/- keys.Dates: a row of numbers of the call's own sorted and compacted; basic.Rising, basic.Dates. -/
namespace Go.Proofs
open Go.Shelf
end Go.Proofs
namespace Go.Proofs.YtaomfjgleddpdaaGreat
open Go.RowKit Go.Sort

def intK (xs : List Int) : List Value := xs.map fun x => .int .i64 x
def srtK (xs : List Int) : List Int := xs.mergeSort fun x y => decide (x ≤ y)
theorem srtK_len (xs : List Int) : (srtK xs).length = xs.length := List.length_mergeSort ..
theorem srtK_perm (xs : List Int) : (srtK xs).Perm xs := List.mergeSort_perm ..
theorem srtK_pair (xs : List Int) : (srtK xs).Pairwise (· ≤ ·) := by
  have h := List.pairwise_mergeSort (le := fun x y : Int => decide (x ≤ y)) (fun a b c h1 h2 => by simp at h1 h2 ⊢; omega) (fun a b => by simp; omega) xs
  exact h.imp fun h => by simpa using h
theorem compact_ss {zs : List Int} (hs : zs.Pairwise (· ≤ ·)) : SS (Lib.compact zs) := by
  unfold SS Lib.compact Lib.compactUpTo
  rw [List.pairwise_map]
  refine List.Pairwise.imp_of_mem ?_ (List.Pairwise.filter _ List.pairwise_lt_range)
  intro i j hi hj hij
  obtain ⟨hi1, -⟩ := List.mem_filter.1 hi
  obtain ⟨hj1, hj2⟩ := List.mem_filter.1 hj
  have h1 : i < zs.length := List.mem_range.1 hi1
  have h2 : j < zs.length := List.mem_range.1 hj1
  have hp := List.pairwise_iff_getElem.1 hs
  simp only [Lib.keeps, decide_eq_true_eq] at hj2
  have e1 : zs.toArray[i]! = zs[i] := by simp [h1]
  have e2 : zs.toArray[j]! = zs[j] := by simp [h2]
  have e3 : zs.toArray[j - 1]! = zs[j - 1]'(by omega) := by simp [show j - 1 < zs.length by omega]
  rw [e2, e3] at hj2
  show zs.toArray[i]! < zs.toArray[j]!
  rw [e1, e2]
  have h3 : zs[j - 1]'(by omega) ≤ zs[j] := hp (j - 1) j (by omega) h2 (by omega)
  have h4 : zs[i] ≤ zs[j - 1]'(by omega) := by
    rcases Nat.lt_or_ge i (j - 1) with h | h
    · exact hp i (j - 1) h1 (by omega) h
    · have : i = j - 1 := by omega
      subst this
      exact Int.le_refl _
  have h5 : ¬ zs[j] = zs[j - 1]'(by omega) := by
    rcases hj2 with h | h
    · omega
    · exact h
  omega
theorem compact_mem {zs : List Int} {a : Int} : a ∈ Lib.compact zs ↔ a ∈ zs := by
  unfold Lib.compact Lib.compactUpTo
  constructor
  · intro h
    obtain ⟨i, hi, rfl⟩ := List.mem_map.1 h
    have hi' : i < zs.length := List.mem_range.1 (List.mem_filter.1 hi).1
    simp [hi']
  · intro h
    obtain ⟨j, hj, rfl⟩ := List.mem_iff_getElem.1 h
    induction j with
    | zero => exact List.mem_map.2 ⟨0, List.mem_filter.2 ⟨List.mem_range.2 hj, by simp [Lib.keeps]⟩, by simp [hj]⟩
    | succ j ih =>
      by_cases hk : Lib.keeps zs.toArray (j + 1) = true
      · exact List.mem_map.2 ⟨j + 1, List.mem_filter.2 ⟨List.mem_range.2 hj, hk⟩, by simp [hj]⟩
      · have he : zs[j + 1] = zs[j]'(by omega) := by
          simp only [Lib.keeps, decide_eq_true_eq] at hk
          have e2 : zs.toArray[j + 1]! = zs[j + 1] := by simp [hj]
          have e3 : zs.toArray[j]! = zs[j]'(by omega) := by simp [show j < zs.length by omega]
          rw [Nat.add_sub_cancel, e2, e3] at hk
          exact Classical.byContradiction fun h => hk (.inr h)
        rw [he]
        exact ih (by omega) (List.getElem_mem _)
theorem own_take {w : World} {base n k c : Nat} {e : TypeId} {A : Option Addr} {xs : List Value} (h : w.ownsRow base e 1 (.slice A n c) n xs) (hk : k ≤ n) : w.ownsRow base e 1 (.slice A k c) k (xs.take k) := by
  have hl := h.1
  rcases h.2 with ⟨hv, h0⟩ | ⟨g, cap, cur, hv, hB, hg, h1, h2, h3, ht⟩
  · injection hv with e1 e2 e3
    subst e1 e3
    obtain rfl : k = 0 := by omega
    simpa using World.ownsRow_nil w base e 1
  · injection hv with e1 e2 e3
    subst e1 e3
    refine ⟨by rw [List.length_take]; omega, .inr ⟨g, c, cur, rfl, hB, hg, by omega, h2, h3, ?_⟩⟩
    rw [← ht, List.take_take]
    congr 1
    omega
theorem p_SortIK {base n c : Nat} {A : Option Addr} {xs : List Int} (w : World) (hn : n ≤ 1000000) (h : w.ownsRow base 3 1 (.slice A n c) n (intK xs)) :
    Calls Tryz.prog 164 #[.slice A n c] w fun e w' => e = .returned (.tuple #[]) ∧ w'.ownsRow base 3 1 (.slice A n c) n (intK (srtK xs)) ∧ w.grownBy w' (Value.slice A n c).ownBlock := by
  have hl : xs.length = n := by have := h.1; simpa [intK] using this
  rcases h.2 with ⟨hv, h0⟩ | ⟨g, cap, cur, hv, hB, hg, h1, h2, h3, ht⟩
  · injection hv with e1 e2 e3
    subst e1 e2 e3
    refine (Any.slices_Sort_int_none Tryz.laysSortI none 0 w).mono ?_
    rintro e w' ⟨he, rfl⟩
    have hx : xs = [] := List.eq_nil_of_length_eq_zero hl
    subst hx
    exact ⟨he, by rw [show srtK [] = [] from by simp [srtK]]; exact h, ⟨rfl, rfl, rfl, Nat.le_refl _, fun _ _ _ => rfl⟩⟩
  · injection hv with e1 e2 e3
    subst e1 e3
    have ht' : cur.toList.take xs.length = xs.map (Value.int .i64) := by rw [hl]; simpa [intK] using ht
    have hH := holds_of_blockI hg ht'
    have hc := Any.slices_Sort_int Tryz.laysSortI g 0 c xs w hH (Array.getElem?_eq_some_iff.1 hg).1 (by omega)
    rw [hl] at hc
    refine hc.mono ?_
    rintro e w' ⟨he, m, os, rfl⟩
    refine ⟨he, ?_, by simpa [Value.ownBlock] using grownBy_sortedI _⟩
    have ho := ownsRow_sortedI (w := w) (n := m) (os := os) (ss := xs) (ts := srtK xs) (srtK_len xs) hB hg (by rw [hl]; exact h1) h2 (by simpa using h3)
    rw [hl] at ho
    exact ho
theorem p_CompactIK {base n c : Nat} {A : Option Addr} {xs : List Int} (w : World) (hn : n ≤ 1000000) (h : w.ownsRow base 3 1 (.slice A n c) n (intK xs)) :
    Calls Tryz.prog 165 #[.slice A n c] w fun e w' => e = .returned (.slice A (Lib.compact xs).length c) ∧ w'.ownsRow base 3 1 (.slice A (Lib.compact xs).length c) (Lib.compact xs).length (intK (Lib.compact xs)) ∧ w.grownBy w' (Value.slice A n c).ownBlock := by
  have hl : xs.length = n := by have := h.1; simpa [intK] using this
  have hcl : (Lib.compact xs).length ≤ xs.length := by unfold Lib.compact Lib.compactUpTo; rw [List.length_map]; exact Nat.le_trans (List.length_filter_le _ _) (by simp)
  rcases h.2 with ⟨hv, h0⟩ | ⟨g, cap, cur, hv, hB, hg, h1, h2, h3, ht⟩
  · injection hv with e1 e2 e3
    subst e1 e2 e3
    refine (Any.slices_Compact_int_empty Tryz.laysCompactI none 0 w).mono ?_
    rintro e w' ⟨he, rfl⟩
    have hx : xs = [] := List.eq_nil_of_length_eq_zero hl
    subst hx
    exact ⟨he, World.ownsRow_nil _ _ _ _, ⟨rfl, rfl, rfl, Nat.le_refl _, fun _ _ _ => rfl⟩⟩
  · injection hv with e1 e2 e3
    subst e1 e3
    have ht' : cur.toList.take xs.length = xs.map (Value.int .i64) := by rw [hl]; simpa [intK] using ht
    have hH := holds_of_blockI hg ht'
    have hc := Any.slices_Compact_int Tryz.laysCompactI g 0 c xs w hH (by omega) (by omega)
    rw [hl] at hc
    refine hc.mono ?_
    rintro e w' ⟨he, m, rfl⟩
    have h5 := grownBy_sortedI (w := w) (g := g) (n := m) (os := #[]) (Lib.compact xs ++ List.replicate (n - (Lib.compact xs).length) 0).toArray
    have h6 := ownsRow_sortedI (w := w) (n := m) (os := #[]) (ss := xs) (ts := Lib.compact xs ++ List.replicate (n - (Lib.compact xs).length) 0) (by simp; omega) hB hg (by rw [hl]; exact h1) h2 (by simpa using h3)
    rw [grow_empty] at h5 h6
    rw [hl] at h6
    have h7 := own_take (k := (Lib.compact xs).length) h6 (by omega)
    rw [List.map_append, List.take_left' (by simp)] at h7
    exact ⟨he, h7, by simpa [Value.ownBlock] using h5⟩
theorem wpList_appK {P : Program} {w : World} {ops : Array Oper} {rest : List Oper} {o : Oper} {a : Act} {Q : Exit → Act → World → Prop} (hgd : o.guard = none) (s x : Operand) (t : TypeId)
    (hop : o.op = .call { callee := .builtin .append, args := #[s, x], argTypes := #[t, t] })
    {base B : Nat} {e : TypeId} {i : TypeInfo} {z : Value} {size bytes : Nat} (ht : P.underlying t = some (.slice e)) (hi : P.info? e = some i) (hz : i.zero = some z)
    (hsize : i.size = size) (hby : i.bytes = bytes) (hzs : z.cells.size = size) (hsz : 0 < size) {v : Value} {n m c : Nat} {xs news : List Value} {A : Option Addr} (hs : a.eval s = v) (hx : a.eval x = .slice A m c) (ho : w.ownsRow base e size v n xs)
    (hr : Rd w B size A m news) (h1 : ∀ u ∈ news, u.oneCell' = true) (h63 : n + m ≤ maxLen) (hb : (n + m) * bytes ≤ 140737488355328) (hbase : base ≤ w.heap.size)
    (h : ∀ v' w', w'.ownsRow base e size v' (n + m) (xs ++ news) → w.grownBy w' v.ownBlock → Below base w w' → wpList P ops Q rest (a.put o.dst v') w') : wpList P ops Q (o :: rest) a w := by
  refine wpList_plain hgd fun K hK => ?_
  obtain ⟨v', w', g1, g2, g3⟩ := run_app (P := P) w (ty := o.type) ht hi hz hsize hby hzs hsz ho hr h1 h63 hb hbase (c := c)
  unfold Oper.wp execOp
  simp only [hop, resolve, invoke, builtin, Sem.run_bind, Sem.run_pure, Result.andThen_ok, List.map_toArray, List.map_cons, List.map_nil, hs, hx, g1]
  exact hK _ _ (h v' w' g2 g3 ((Below.refl base w).grown g3 hbase fun k e => own_le ho e))
theorem own_emptyK (w : World) (t : TypeId) (size base : Nat) (h : base ≤ w.heap.size) : (w.alloc (.cells #[] t)).ownsRow base t size (.slice (some ⟨w.heap.size, 0, none⟩) 0 0) 0 [] := by
  have h1 := own_empty w t size
  exact ⟨h1.1, h1.2.imp id fun ⟨g, cap, cur, hv, hB, r⟩ => ⟨g, cap, cur, hv, Nat.le_trans h hB, r⟩⟩
theorem infoIK : (Tryz.prog.info? 3).map (fun i => (i.zero, i.size, i.bytes)) = some (some (.int .i64 0), 1, 8) := by kernel_rfl
set_option maxRecDepth 100000 in
set_option maxHeartbeats 1000000 in
theorem p_CloneIK (news : List Value) (A : Option Addr) (n c : Nat) (w : World) (hn : n ≤ 100000) (hA : A = none → c = 0) (hr : Rd w w.heap.size 1 A n news) (h1 : ∀ u ∈ news, u.oneCell' = true) :
    Calls Tryz.prog 163 #[.slice A n c] w (fun e w' => ∃ v, e = .returned v ∧ Below w.heap.size w w' ∧ w'.ownsRow w.heap.size 3 1 v n news) := by
  obtain ⟨i0, hi, hz0, hz1, hz2⟩ := info_parts infoIK
  have qT : ∀ (w : World) (a : Option Addr) (n c n' c' : Nat), (binOp .eql 32 (.slice a n c) (.slice none n' c')).run Tryz.prog w = .ok (.bool a.isNone) w := fun w a n c n' c' => Lib.run_eql_slice_nil w _ _ a n c n' c' Tryz.underlying32
  cases A with
  | none =>
    obtain rfl := hA rfl
    have hn0 : n = 0 := by
      rcases Nat.eq_zero_or_pos n with h | h
      · exact h
      · obtain ⟨_, _, e, _⟩ := hr.2 h; cases e
    subst hn0
    obtain rfl : news = [] := List.eq_nil_of_length_eq_zero (by have := hr.1; omega)
    go_enter Tryz.func163, Tryz.ntmps163
    go_wp2
    go_ret
    exact ⟨_, rfl, Below.refl _ _, World.ownsRow_nil _ _ _ _⟩
  | some p =>
    have HR := Lib.hid hr
    have H1 := Lib.hid h1
    clear hr h1
    go_enter Tryz.func163, Tryz.ntmps163
    go_wp2_with (at_builtin; refine wpList_appK rfl (.tmp 5) (.tmp 6) 32 rfl (base := w.heap.size) (B := w.heap.size) (e := 3) (i := i0) (size := 1) (bytes := 8) Tryz.underlying32 hi hz0 hz1 hz2 rfl (by decide) rfl rfl (n := 0) (xs := []) (own_emptyK w 3 1 w.heap.size (Nat.le_refl _)) (m := n) (news := news) (HR.out.alloc (Nat.le_refl _) _) H1.out (by unfold maxLen; omega) (by omega) (by simp) ?_; intro v2 w2 hown2 hgrow2 hb2)
    go_ret
    refine ⟨v2, rfl, (show Below w.heap.size w (w.alloc (.cells #[] 3)) by (repeat' (first | with_reducible exact Below.refl _ _ | with_reducible assumption | with_reducible refine Below.alloc ?_ ?_ _ | with_reducible refine Below.setCell ?_ ?_ _ | with_reducible refine Below.drew ?_ | (simp; done) | (simp; omega) | omega))).trans hb2, ?_⟩
    have h := hown2
    simp only [Nat.zero_add, List.nil_append] at h
    exact h


set_option maxHeartbeats 1000000 in
theorem p_RisingK (xs : List Int) (A : Option Addr) (n c : Nat) (w : World) (hn : n ≤ 100000) (hA : A = none → c = 0) (hI : Is w w.heap.size A n xs) :
    Calls Tryz.prog 132 #[.slice A n c] w fun e w' => ∃ A1 c1, e = .returned (.slice A1 (Lib.compact (srtK xs)).length c1) ∧ Below w.heap.size w w' ∧ w'.ownsRow w.heap.size 3 1 (.slice A1 (Lib.compact (srtK xs)).length c1) (Lib.compact (srtK xs)).length (intK (Lib.compact (srtK xs))) := by
  have hl : xs.length = n := hI.len
  have HI := Lib.hid hI
  clear hI
  go_enter Tryz.func132, Tryz.ntmps132
  go_wp2_with (go_at_call 163; refine (p_CloneIK (intK xs) A n c w hn hA HI.out (fun u hu => by obtain ⟨x, -, rfl⟩ := List.mem_map.1 hu; rfl)).mono ?_; rintro e w1 ⟨v, rfl, hb1, ho1⟩)
  obtain ⟨A1, c1, rfl, hc1, hm1⟩ := own_slice ho1
  have HO1 := Lib.hid ho1
  have HB1 := Lib.hid hb1
  have hs1 := hb1.size
  clear ho1 hb1
  go_wp2_with (go_at_call 164; refine (p_SortIK w1 (by omega) HO1.out).mono ?_; rintro e w2 ⟨rfl, ho2, hg2⟩; have HB2 := Lib.hid (HB1.out.grown hg2 hs1 fun k ek => own_base HO1.out ek); have HO2 := Lib.hid ho2; have hs2 := HB2.out.size; clear ho2 hg2)
  go_wp2_with (go_at_call 165; refine (p_CompactIK w2 (by omega) HO2.out).mono ?_; rintro e w3 ⟨rfl, ho3, hg3⟩; have HB3 := Lib.hid (HB2.out.grown hg3 hs2 fun k ek => own_base HO2.out ek); have HO3 := Lib.hid ho3; clear ho3 hg3)
  go_ret
  exact ⟨A1, c1, rfl, HB3.out, HO3.out⟩

/-- The days of all deeds, one behind another. -/
def dtL (ds : List Deed) : List Int := ds.flatMap fun d => if d.til = 0 then [d.known] else [d.known, d.til]
theorem dtL_mem {ds : List Deed} {a : Int} : a ∈ dtL ds ↔ ∃ d ∈ ds, dateOf d a := by
  rw [dtL, List.mem_flatMap]
  constructor
  · rintro ⟨d, hd, h⟩
    refine ⟨d, hd, ?_⟩
    unfold dateOf
    split at h
    · exact .inl (by simpa using h)
    · rename_i hz
      rcases List.mem_cons.1 h with h | h
      · exact .inl h
      · exact .inr ⟨by simpa using h, hz⟩
  · rintro ⟨d, hd, h⟩
    refine ⟨d, hd, ?_⟩
    rcases h with h | ⟨h, hz⟩
    · split <;> simp [h]
    · rw [if_neg hz]
      simp [h]
theorem dtL_in {ds : List Deed} {k : Nat} {d : Deed} (h : ds[k]? = some d) (hz : d.til = 0) : dtL (ds.take (k + 1)) = dtL (ds.take k) ++ [d.known] := by
  rw [take_snoc_some h, dtL, List.flatMap_append]
  simp [hz, dtL]
theorem dtL_in2 {ds : List Deed} {k : Nat} {d : Deed} (h : ds[k]? = some d) (hz : ¬ d.til = 0) : dtL (ds.take (k + 1)) = dtL (ds.take k) ++ [d.known] ++ [d.til] := by
  rw [take_snoc_some h, dtL, List.flatMap_append]
  simp [hz, dtL]
theorem dtL_len : ∀ ds : List Deed, (dtL ds).length ≤ 2 * ds.length
  | [] => by simp [dtL]
  | d :: ds => by
    have h := dtL_len ds
    unfold dtL at h ⊢
    rw [List.flatMap_cons, List.length_append, List.length_cons]
    split <;> simp only [List.length_cons, List.length_nil] <;> omega
theorem intK_one (xs : List Int) : ∀ u ∈ intK xs, u.oneCell' = true := fun u hu => by
  obtain ⟨x, -, rfl⟩ := List.mem_map.1 hu
  rfl
theorem own_dnK {W : World} {base base' size n : Nat} {e : TypeId} {v : Value} {xs : List Value} (h : W.ownsRow base e size v n xs) (hb : base' ≤ base) : W.ownsRow base' e size v n xs :=
  ⟨h.1, h.2.imp id fun ⟨g, cap, cur, hv, hB, r⟩ => ⟨g, cap, cur, hv, Nat.le_trans hb hB, r⟩⟩
theorem p_timesD (d : Deed) (w : World) : Calls Tryz.prog 68 #[.agg #[.int .i64 d.par, .int .i64 d.no, .int .i64 d.kind, .int .i64 d.lock, .int .i64 d.person, .int .i64 d.lo, .int .i64 d.hi, .int .i64 d.known, .int .i64 d.til]] w fun e w' => e = .returned (.tuple #[.int .i64 d.known, .int .i64 d.til]) ∧ Below w.heap.size w w' := by
  go_enter Tryz.func68, Tryz.ntmps68
  go_wp2_with fail
  (refine wp_region_grow (by kernel_rfl) (by kernel_rfl) ?_; (repeat (go_big_quiet_step ((first | fail)))); refine wpQuiet_nil ?_; rintro w1 ⟨⟨_, hb1⟩, rfl⟩; (try dsimp only at hb1 ⊢); obtain ⟨hc1, hf1⟩ := bcell hb1)
  go_wp2_with fail
  go_ret2
  exact ⟨rfl, (show Below w.heap.size w _ by (repeat' (first | with_reducible exact Below.refl _ _ | with_reducible assumption | with_reducible refine Below.alloc ?_ ?_ _ | with_reducible refine Below.setCell ?_ ?_ _ | with_reducible refine Below.drew ?_ | (simp; done) | (simp; omega) | omega))).trans (hb1.mono (by simp))⟩
set_option maxHeartbeats 2000000 in
theorem p_DatesD (ds : List Deed) (A : Option Addr) (n c : Nat) (w : World) (hn : n ≤ 60) (hd : Ds w w.heap.size A n ds) :
    Calls Tryz.prog 67 #[.slice A n c, .func (.func 68) #[] #[]] w fun e w' => ∃ A1 c1, e = .returned (.slice A1 (Lib.compact (srtK (dtL ds))).length c1) ∧ Below w.heap.size w w' ∧ w'.ownsRow w.heap.size 3 1 (.slice A1 (Lib.compact (srtK (dtL ds))).length c1) (Lib.compact (srtK (dtL ds))).length (intK (Lib.compact (srtK (dtL ds)))) := by
  obtain ⟨i0, hi, hz0, hz1, hz2⟩ := info_parts infoIK
  have HD := Lib.hid hd
  have HL := Lib.hid hd.len
  clear hd
  go_enter Tryz.func67, Tryz.ntmps67
  go_wp2
  go_loopw [5, 12] (fun v i wr => ∃ k : Nat, k ≤ n ∧ i = .int .i64 k ∧ wr.ownsRow w.heap.size 3 1 v (dtL (ds.take k)).length (intK (dtL (ds.take k))) ∧ Below w.heap.size w wr) (fun _ i _ => n - (intOf i).toNat)
  case atStart => exact ⟨0, by omega, rfl, World.ownsRow_nil _ _ _ _, Below.refl _ _⟩
  case round =>
    obtain ⟨k, hk, rfl, hown, hB⟩ := hrel
    have hs0 : w.heap.size ≤ wr.heap.size := hB.size
    have hdl : (dtL (ds.take k)).length ≤ 120 := by
      have h1 := dtL_len (ds.take k)
      rw [List.length_take] at h1
      omega
    obtain ⟨xl, hxl⟩ : ∃ xl, dtL (ds.take k) = xl := ⟨_, rfl⟩
    rw [hxl] at hown hdl
    have HO := Lib.hid hown
    have HXL := Lib.hid hxl
    clear hown hxl
    by_cases hlt : k < n
    · obtain ⟨b, o, d, rfl, hb, hdk, hat⟩ := (HD.out.ext hB (Nat.le_refl _)).at_ hlt
      obtain ⟨a0, a1, a2, a3, a4, a5, a6, a7, a8⟩ := hat
      have HK := Lib.hid hdk
      clear hdk
      by_cases hz : d.til = 0
      · have HN : Hid (dtL (ds.take (k + 1)) = xl ++ [d.known]) := by show _ = _; rw [dtL_in HK.out hz, HXL.out]
        have hz2' : (d.til != 0) = false := by simpa using hz
        clear hz
        go_wp2_with (first | (go_at_call 68; refine (p_timesD d _).mono ?_; rintro e w1 ⟨rfl, hb1⟩; have HB1 : Below wr.heap.size wr w1 := Below.then_ (by (repeat' (first | with_reducible exact Below.refl _ _ | with_reducible assumption | with_reducible refine Below.alloc ?_ ?_ _ | with_reducible refine Below.setCell ?_ ?_ _ | with_reducible refine Below.drew ?_ | (simp; done) | (simp; omega) | omega))) hb1; have hs1 := HB1.size; clear hb1) | (at_builtin; refine wpList_append_own _ rfl (.tmp 22) (.tmp 24) 32 rfl w.heap.size 3 i0 _ 1 8 Tryz.underlying32 hi hz0 hz1 hz2 rfl (by decide) _ _ _ rfl ((own_ext HO.out HB1).alloc (.cells #[.int .i64 d.known] 3)) ⟨w1.heap.size, 0, none⟩ 1 1 [.int .i64 d.known] rfl rfl ?c1 ?c2 ?c3 ?c4 ?c5 ?_; rotate_left 5; intro v2 w2 hown2 hgrow2 _; have hs2 := hgrow2.size; (try simp only [World.size_alloc] at hs2); have HO2 := Lib.hid hown2; have HG2 := Lib.hid hgrow2; clear hown2 hgrow2))
        case c1 => intro j u hj; match j, hj with
          | 0, hj => simp at hj; subst hj; simp [Addr.add]
        case c2 => simp [Value.oneCell']
        case c3 => unfold maxLen; omega
        case c4 => omega
        case c5 => simp; omega
        go_roundw
        case rel =>
          refine ⟨k + 1, by omega, by go_num, ?_, Below.appended hB (HB1.alloc HB1.size (.cells #[.int .i64 d.known] 3)) HO.out HG2.out⟩
          rw [HN.out, List.length_append, intK, List.map_append]
          exact HO2.out
        case measure => simp [intOf]; omega
      · have HN : Hid (dtL (ds.take (k + 1)) = xl ++ [d.known] ++ [d.til]) := by show _ = _; rw [dtL_in2 HK.out hz, HXL.out]
        have hz2' : (d.til != 0) = true := by simpa using hz
        clear hz
        go_wp2_with (first | (go_at_call 68; refine (p_timesD d _).mono ?_; rintro e w1 ⟨rfl, hb1⟩; have HB1 : Below wr.heap.size wr w1 := Below.then_ (by (repeat' (first | with_reducible exact Below.refl _ _ | with_reducible assumption | with_reducible refine Below.alloc ?_ ?_ _ | with_reducible refine Below.setCell ?_ ?_ _ | with_reducible refine Below.drew ?_ | (simp; done) | (simp; omega) | omega))) hb1; have hs1 := HB1.size; clear hb1) | (at_builtin; refine wpList_append_own _ rfl (.tmp 22) (.tmp 24) 32 rfl w.heap.size 3 i0 _ 1 8 Tryz.underlying32 hi hz0 hz1 hz2 rfl (by decide) _ _ _ rfl ((own_ext HO.out HB1).alloc (.cells #[.int .i64 d.known] 3)) ⟨w1.heap.size, 0, none⟩ 1 1 [.int .i64 d.known] rfl rfl ?c1 ?c2 ?c3 ?c4 ?c5 ?_; rotate_left 5; intro v2 w2 hown2 hgrow2 _; have hs2 := hgrow2.size; (try simp only [World.size_alloc] at hs2); have HO2 := Lib.hid hown2; have HG2 := Lib.hid hgrow2; clear hown2 hgrow2) | (at_builtin; refine wpList_append_own _ rfl (.tmp 28) (.tmp 30) 32 rfl w.heap.size 3 i0 _ 1 8 Tryz.underlying32 hi hz0 hz1 hz2 rfl (by decide) _ _ _ rfl (HO2.out.alloc (.cells #[.int .i64 d.til] 3)) ⟨w2.heap.size, 0, none⟩ 1 1 [.int .i64 d.til] rfl rfl ?d1 ?d2 ?d3 ?d4 ?d5 ?_; rotate_left 5; intro v3 w3 hown3 hgrow3 _; have HO3 := Lib.hid hown3; have HG3 := Lib.hid hgrow3; clear hown3 hgrow3))
        case c1 => intro j u hj; match j, hj with
          | 0, hj => simp at hj; subst hj; simp [Addr.add]
        case c2 => simp [Value.oneCell']
        case c3 => unfold maxLen; omega
        case c4 => omega
        case c5 => simp; omega
        case d1 => intro j u hj; match j, hj with
          | 0, hj => simp at hj; subst hj; simp [Addr.add]
        case d2 => simp [Value.oneCell']
        case d3 => unfold maxLen; omega
        case d4 => omega
        case d5 => simp; omega
        go_roundw
        case rel =>
          refine ⟨k + 1, by omega, by go_num, ?_, Below.appended (Below.appended hB (HB1.alloc HB1.size (.cells #[.int .i64 d.known] 3)) HO.out HG2.out) ((Below.refl _ _).alloc (Nat.le_refl _) (.cells #[.int .i64 d.til] 3)) HO2.out HG3.out⟩
          rw [HN.out, List.length_append, List.length_append, intK, List.map_append, List.map_append]
          exact HO3.out
        case measure => simp [intOf]; omega
    · have hkn : Hid (k = n) := by show _ = _; omega
      have hall : xl = dtL ds := by rw [← HXL.out, hkn.out, List.take_of_length_le (by rw [HL.out]; exact Nat.le_refl _)]
      subst hall
      have hO := HO.out
      have hA : ∃ A1 c1, u5 = .slice A1 (dtL ds).length c1 ∧ (A1 = none → c1 = 0) := by
        rcases hO.2 with ⟨e, h0⟩ | ⟨g, cap, cur, e, _⟩
        · exact ⟨none, 0, by rw [e, h0], fun _ => rfl⟩
        · exact ⟨_, cap, e, fun h => by cases h⟩
      obtain ⟨A1, c1, rfl, hA1⟩ := hA
      have HI : Hid (Is wr wr.heap.size A1 (dtL ds).length (dtL ds)) := by show Is _ _ _ _ _; exact Rd.of_own hO
      clear hO
      go_wp2_with (go_at_call 132; refine (p_RisingK (dtL ds) A1 _ c1 _ (by omega) hA1 HI.out).mono ?_; rintro e w9 ⟨A9, c9, rfl, hb9, ho9⟩; have HB9 := Lib.hid hb9; have HO9 := Lib.hid ho9; clear hb9 ho9)
      go_ret
      exact ⟨A9, c9, rfl, Below.then_ hB HB9.out, own_dnK HO9.out hs0⟩
set_option maxHeartbeats 1000000 in
theorem p_Dates (ds : List Deed) (A : Option Addr) (n c : Nat) (w : World) (hn : n ≤ 9223372036854775807) (hd : Ds w w.heap.size A n ds) :
    Calls Tryz.prog 15 #[.slice A n c] w (RetDates ds w) := by
  have hck := p_check ds A n c w hn hd
  have HD := Lib.hid hd
  have HL := Lib.hid hd.len
  clear hd
  cases hb : checkB ds with
  | false =>
    rw [hb, show errI false 11 = 11 from rfl] at hck
    have HB := Lib.hid hb
    clear hb
    go_enter Tryz.func15, Tryz.ntmps15
    go_wp2_with (go_at_call 21; refine hck.mono ?_; clear hck; rintro e w1 ⟨rfl, hb1⟩; obtain ⟨hc1, hf1⟩ := bcell hb1)
    go_ret2
    exact ⟨hb1, fun _ => rfl, fun h => by rw [HB.out] at h; cases h⟩
  | true =>
    rw [hb, show errI true 11 = 0 from rfl] at hck
    have HB := Lib.hid hb
    have hln : n ≤ 60 := by
      have h := hb
      unfold checkB at h
      simp only [Bool.and_eq_true, decide_eq_true_eq] at h
      have := h.1
      have := HL.out
      omega
    clear hb
    go_enter Tryz.func15, Tryz.ntmps15
    go_wp2_with (first | (go_at_call 21; refine hck.mono ?_; clear hck; rintro e w1 ⟨rfl, hb1⟩; have HB1 := Lib.hid hb1; have hs1 := hb1.size; clear hb1) | (go_at_call 67; refine (p_DatesD ds A n c _ hln (HD.out.ext HB1.out (Nat.le_refl _) |>.more hs1)).mono ?_; rintro e w2 ⟨A9, c9, rfl, hb9, ho9⟩; have HB9 := Lib.hid (Below.then_ HB1.out hb9); have HO9 := Lib.hid ho9; clear hb9 ho9))
    go_ret2
    refine ⟨HB9.out, fun h => absurd (HB.out.symm.trans h) (by decide), fun _ => ⟨_, A9, c9, rfl, compact_ss (srtK_pair _), fun a => ?_, Rd.of_own HO9.out, ?_⟩⟩
    · rw [compact_mem, (srtK_perm _).mem_iff, dtL_mem]
    · obtain ⟨A', c', e, h1⟩ := own_slice HO9.out
      cases e
      exact h1.1

end Go.Proofs.YtaomfjgleddpdaaGreat
