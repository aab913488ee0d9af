import Derived.Test.YtikioiblaoimkaaGreatDoorB6
import Derived.Shelf.SlSortCmp.WholeK
import Derived.Ground.SlsfProg
import Derived.Test.YtikioiblaoimkaaGreatDoorZn1
set_option linter.unusedVariables false
set_option linter.unusedSimpArgs false

/- slices.SortFunc of deeds by their items (out of the shelf's contract). -/
namespace Go.Proofs.YtikioiblaoimkaaGreatDoor
open Go.RowKit Go.Shelf Go.Proofs Go.Lib Go.Sort


instance : Inhabited Deed := ⟨zeroD⟩
def encL (d : Deed) : List Value := [.int .i64 d.par, .int .i64 d.no, .int .i64 d.kind, .int .i64 d.lock, .int .i64 d.person, .int .i64 d.lo, .int .i64 d.hi, .int .i64 d.known, .int .i64 d.til]
def cfD (a b : Deed) : Int := byItemI a.par a.no b.par b.no
theorem cfD_lt (a b : Deed) : ltOf cfD a b = beforeB a.par a.no b.par b.no := by
  cases h : beforeB a.par a.no b.par b.no with
  | true => simp [ltOf, cfD, byItemI_lt _ _ _ _ h]
  | false => have := byItemI_ge _ _ _ _ h; rw [ltOf]; exact decide_eq_false (by unfold cfD; omega)
theorem swoD : Sort.SWO (ltOf cfD) where
  irrefl x := by rw [cfD_lt]; simp [beforeB]
  trans x y z h1 h2 := by rw [cfD_lt] at *; simp only [beforeB, Bool.or_eq_true, Bool.and_eq_true, decide_eq_true_eq] at *; omega
  ntrans x y z h1 h2 := by
    rw [cfD_lt] at *
    simp only [beforeB, Bool.or_eq_false_iff, Bool.and_eq_false_imp, decide_eq_true_eq, decide_eq_false_iff_not] at *
    constructor <;> omega

theorem alloc_grow (w : World) (o : Obj) : w.alloc o = Sort.grow w #[o] := by
  show { w with heap := w.heap.push o } = { w with heap := w.heap ++ #[o] }
  rw [Array.push_eq_append]
theorem grow_drew (w : World) (os : Array Obj) : (Sort.grow w os).drew = Sort.grow w.drew os := rfl

set_option maxRecDepth 100000 in
set_option maxHeartbeats 1000000 in
theorem p_compareItems_g (p n q m : Int) (w : World) :
    Calls Tryz.prog 73 #[.agg #[.int .i64 p, .int .i64 n], .agg #[.int .i64 q, .int .i64 m]] w fun e w' => e = .returned (.int .i64 (byItemI p n q m)) ∧ w' = Sort.grow (w.drewN 1) #[.cells #[.int .i64 p, .int .i64 n] 37, .cells #[.int .i64 q, .int .i64 m] 37, .cells #[.int .i64 (cmpI p q), .int .i64 (cmpI n m)] 3] := by
  go_enter Tryz.func73, Tryz.ntmps73
  go_wp2_with fail
  refine wp_still_tail 10 (by kernel_rfl) (by kernel_rfl) ?_
  simp only [List.take_succ_cons, List.take_zero, List.drop_succ_cons, List.drop_zero]
  repeat (first | still_step | still_call (still_of (l_compare _ _ _)))
  refine wpStill_nil ?_
  go_wp2_with fail
  refine (l_or_int [cmpI p q, cmpI n m] (w.heap.size + 1 + 1) 0 2 _ (by simp) ?_).mono ?_
  · intro i hi
    match i, hi with
    | 0, _ => go_simp
    | 1, _ => go_simp
  rintro e w1 ⟨rfl, rfl⟩
  go_wp2
  go_ret
  refine ⟨rfl, ?_⟩
  simp only [alloc_grow, Sort.grow_grow, grow_drew]
  rfl
set_option maxRecDepth 100000 in
set_option maxHeartbeats 1000000 in
theorem p_byItem_g (a b : Deed) (w : World) :
    Calls Tryz.prog 34 #[.agg #[.int .i64 a.par, .int .i64 a.no, .int .i64 a.kind, .int .i64 a.lock, .int .i64 a.person, .int .i64 a.lo, .int .i64 a.hi, .int .i64 a.known, .int .i64 a.til], .agg #[.int .i64 b.par, .int .i64 b.no, .int .i64 b.kind, .int .i64 b.lock, .int .i64 b.person, .int .i64 b.lo, .int .i64 b.hi, .int .i64 b.known, .int .i64 b.til]] w fun e w' => e = .returned (.int .i64 (byItemI a.par a.no b.par b.no)) ∧ ∃ q os, w' = Sort.grow (w.drewN q) os := by
  go_enter Tryz.func34, Tryz.ntmps34
  go_wp2_with (go_at_call 73; refine (p_compareItems_g _ _ _ _ _).mono ?_; rintro e w1 ⟨rfl, rfl⟩)
  go_ret
  refine ⟨rfl, 1, #[.cells #[.int .i64 a.par, .int .i64 a.no, .int .i64 a.kind, .int .i64 a.lock, .int .i64 a.person, .int .i64 a.lo, .int .i64 a.hi, .int .i64 a.known, .int .i64 a.til] 41, .cells #[.int .i64 b.par, .int .i64 b.no, .int .i64 b.kind, .int .i64 b.lock, .int .i64 b.person, .int .i64 b.lo, .int .i64 b.hi, .int .i64 b.known, .int .i64 b.til] 41, .cells #[.int .i64 a.par, .int .i64 a.no] 37, .cells #[.int .i64 b.par, .int .i64 b.no] 37, .cells #[.int .i64 (cmpI a.par b.par), .int .i64 (cmpI a.no b.no)] 3], ?_⟩
  simp only [alloc_grow]
  rfl

theorem flat_at {ys : List Deed} {t : Nat} (ht : t < ys.length * 9) : ∃ u, (deedCells ys)[t]? = some u ∧ (flatK encL 9 ys.toArray)[t]! = u := by
  have hlt : t / 9 < ys.length := by omega
  obtain ⟨d, hd⟩ : ∃ d, ys[t / 9]? = some d := ⟨_, List.getElem?_eq_getElem hlt⟩
  have hg := deedCells_get ys (t / 9) (t % 9) d hd (by omega)
  have e1 : t / 9 * 9 + t % 9 = t := by omega
  rw [e1] at hg
  have hl : t % 9 < (encL d).length := by simp [encL]; omega
  refine ⟨(encL d)[t % 9], ?_, ?_⟩
  · rw [hg, ← List.getElem?_eq_getElem hl]
    rfl
  · rw [get_flatK _ _ _ _ (by simpa using ht)]
    have e2 : ys.toArray[t / 9]! = d := by
      rw [getElem!_pos ys.toArray (t / 9) (by simpa using hlt)]
      have := List.getElem?_eq_some_iff.1 hd
      simpa using this.2
    rw [e2, getElem!_pos (encL d) (t % 9) hl]
theorem holdsK_of {w : World} {blk : Nat} {ys : List Deed} (hc : ∀ j u, (deedCells ys)[j]? = some u → w.cell? ⟨blk, j, none⟩ = some u ∧ w.frozen? ⟨blk, j, none⟩ = false) : HoldsK encL 9 w blk 0 ys.toArray := by
  intro t ht
  rw [size_flatK] at ht
  obtain ⟨u, h1, h2⟩ := flat_at (ys := ys) (t := t) (by simpa using ht)
  rw [Nat.zero_add]
  rw [h2]
  exact hc t u h1
theorem holdsK_read {w : World} {blk : Nat} {d : Array Deed} (h : HoldsK encL 9 w blk 0 d) : ∀ j u, (deedCells d.toList)[j]? = some u → w.cell? ⟨blk, 0 + j, none⟩ = some u := by
  intro t u hu
  have ht : t < d.toList.length * 9 := by have := (List.getElem?_eq_some_iff.1 hu).1; rwa [deedCells_length] at this
  have h1 := (h t (by rw [size_flatK]; simpa using ht)).1
  obtain ⟨u', h2, h3⟩ := flat_at ht
  rw [hu] at h2
  cases h2
  rw [h1]
  have h4 : (flatK encL 9 d)[t]! = u := h3
  rw [h4]
  rfl
theorem grown_sortK (w : World) (g n : Nat) (d : Array Deed) (os : Array Obj) : w.grownBy (sortWorldK encL 9 w g 0 n d os) (some g) := by
  unfold sortWorldK putRowK
  refine ⟨rfl, rfl, rfl, by simp, fun k hk hne => ?_⟩
  rw [Sort.heap_grow_old _ _ (by simpa using hk)]
  have : g ≠ k := fun e => hne (by rw [e])
  simp [putRow, mapBlock, Sort.ahead, Array.getElem?_modify, this]

theorem p_SortFunc (ys : List Deed) (blk c : Nat) (w : World) (hblk : blk < w.heap.size) (hn : ys.length ≤ 1000) (hc : ∀ j u, (deedCells ys)[j]? = some u → w.cell? ⟨blk, j, none⟩ = some u ∧ w.frozen? ⟨blk, j, none⟩ = false) :
    Calls Tryz.prog 134 #[.slice (some ⟨blk, 0, none⟩) ys.length c, .func (.func 34) #[] #[]] w fun e w' => e = .returned (.tuple #[]) ∧
      ∃ zs : List Deed, zs.Perm ys ∧ zs.Pairwise (fun a b => beforeB b.par b.no a.par a.no = false) ∧ Ds w' w'.heap.size (some ⟨blk, 0, none⟩) ys.length zs ∧ w.grownBy w' (some blk) := by
  have h := AnyQ.slices_SortFunc Tryz.sortDeeds 9 (fun _ => by kernel_rfl) (fun _ => by kernel_rfl) encL (fun _ => rfl) (fun d v hv => by
      simp only [encL, List.mem_cons, List.not_mem_nil, or_false] at hv
      rcases hv with rfl | rfl | rfl | rfl | rfl | rfl | rfl | rfl | rfl <;> rfl) cfD swoD 34 #[] blk 0 c ys.toArray w
    (enters_of Tryz.func34 (by kernel_rfl) rfl) (fun m os dk _ x y => p_byItem_g x y _) (holdsK_of hc) hblk (by simp; omega)
  refine h.mono ?_
  rintro e w' ⟨he, d', n, os, hp, hs, hw⟩
  obtain ⟨hsz, _, hperm⟩ := hp
  have hl : d'.size = ys.length := by simpa using hsz
  have hp2 : d'.toList.Perm ys := by
    have e1 : d'.extract 0 ys.toArray.size = d' := by rw [← hsz]; exact Array.extract_size
    rw [e1, Array.extract_size] at hperm
    exact hperm
  refine ⟨he, d'.toList, hp2, ?_, ?_, ?_⟩
  · rw [List.pairwise_iff_getElem]
    intro i j hi hj hij
    have h1 := hs i j (Nat.zero_le _) hij (by simpa [hl] using hj)
    rw [cfD_lt] at h1
    rw [getElem!_pos d' j (by simpa using hj), getElem!_pos d' i (by simpa using hi)] at h1
    simpa using h1
  · have hk := holdsK_sortWorldK encL 9 w blk 0 n ys.toArray d' os hblk (holdsK_of hc) hsz
    rw [← hw] at hk
    have hg : w.heap.size ≤ w'.heap.size := by rw [hw]; exact (grown_sortK w blk n d' os).size
    exact ⟨by rw [deedCells_length]; simp [hl], fun _ => ⟨blk, 0, rfl, by omega, holdsK_read hk⟩⟩
  · rw [hw]
    exact grown_sortK _ _ _ _ _

end Go.Proofs.YtikioiblaoimkaaGreatDoor

/- maps.Values, slices.Collect, slices.SortedFunc of a map of deeds. -/
namespace Go.Proofs.YtikioiblaoimkaaGreatDoor
open Go.RowKit Go.Maps

theorem p_Values (mb : Option Nat) (w : World) :
    Calls Tryz.prog 103 #[.map mb] w fun e w' => e = .returned (.func (.func 135) #[] #[.pointer (some ⟨w.heap.size, 0, none⟩)]) ∧ w' = w.alloc (.cells #[.map mb] 161) := by
  go_enter Tryz.func103, Tryz.ntmps103
  go_wp2
  go_ret
  exact ⟨rfl, rfl⟩

theorem p_Collect (Bm bm : Nat) (L : List Deed) (w : World) (hL : L.length ≤ 1000) (hBm : Bm < w.heap.size) (hm : w.cell? ⟨Bm, 0, none⟩ = some (.map (some bm))) (hM : MapG nkk wf22 w bm (toL L)) (hB : Born w bm) :
    Calls Tryz.prog 133 #[.func (.func 135) #[] #[.pointer (some ⟨Bm, 0, none⟩)]] w fun e w' => ∃ v ys, e = .returned v ∧ ys.Perm L ∧ w'.ownsRow w.heap.size 41 9 v ys.length (deedCells ys) ∧ Below w.heap.size w w' := by
  have HC := Lib.hid (p_AppendSeq Bm bm L w hL hBm hm hM hB)
  clear hm hM hB
  go_enter Tryz.func133, Tryz.ntmps133
  go_wp2_with (go_at_call 145; refine HC.out.mono ?_; rintro e w1 ⟨v, ys, rfl, hp, ho, hb⟩)
  go_ret
  exact ⟨v, ys, rfl, hp, ho, hb⟩

/-- slices.SortFunc leaves what has no element. -/
def SortNone : Prop := ∀ (A : Option Addr) (c : Nat) (w : World),
  Calls Tryz.prog 134 #[.slice A 0 c, .func (.func 34) #[] #[]] w fun e w' => e = .returned (.tuple #[]) ∧ Below w.heap.size w w'

theorem p_SortOwn (h0 : SortNone) {base : Nat} (ys : List Deed) (A : Option Addr) (c : Nat) (w : World) (hn : ys.length ≤ 1000) (hbase : base ≤ w.heap.size) (ho : w.ownsRow base 41 9 (.slice A ys.length c) ys.length (deedCells ys)) :
    Calls Tryz.prog 134 #[.slice A ys.length c, .func (.func 34) #[] #[]] w fun e w' => e = .returned (.tuple #[]) ∧
      ∃ zs : List Deed, zs.Perm ys ∧ zs.Pairwise (fun a b => beforeB b.par b.no a.par a.no = false) ∧ Ds w' w'.heap.size A ys.length zs ∧ Below base w w' := by
  rcases ho.2 with ⟨hv, hz⟩ | ⟨g, cap, cur, hv, hg, hh, hcap, hmax, hsz, htk⟩
  · obtain rfl : ys = [] := List.eq_nil_of_length_eq_zero hz
    cases hv
    refine (h0 none 0 w).mono ?_
    rintro e w' ⟨he, hb⟩
    exact ⟨he, [], List.Perm.refl _, List.Pairwise.nil, Rd.nil_, hb.mono hbase⟩
  · cases hv
    have hgl : g < w.heap.size := block_lt hh
    refine (p_SortFunc ys g c w hgl hn ?_).mono ?_
    · intro j u hj
      constructor
      · rw [← htk] at hj
        have hj2 : cur.toList[j]? = some u := by
          have := hj
          rw [List.getElem?_take] at this
          split at this
          · exact this
          · cases this
        simp only [World.cell?, hh]
        simpa using hj2
      · simp [World.frozen?, hh]
    · rintro e w' ⟨he, zs, h1, h2, h3, h4⟩
      exact ⟨he, zs, h1, h2, h3, (Below.refl base w).grown h4 hbase (fun k e => by cases e; exact hg)⟩

theorem p_SortedFunc (h0 : SortNone) (Bm bm : Nat) (L : List Deed) (w : World) (hL : L.length ≤ 1000) (hBm : Bm < w.heap.size) (hm : w.cell? ⟨Bm, 0, none⟩ = some (.map (some bm))) (hM : MapG nkk wf22 w bm (toL L)) (hB : Born w bm) :
    Calls Tryz.prog 102 #[.func (.func 135) #[] #[.pointer (some ⟨Bm, 0, none⟩)], .func (.func 34) #[] #[]] w fun e w' =>
      ∃ zs A c, e = .returned (.slice A zs.length c) ∧ zs.Perm L ∧ zs.Pairwise (fun a b => beforeB b.par b.no a.par a.no = false) ∧ Ds w' w'.heap.size A zs.length zs ∧ zs.length ≤ c ∧ Below w.heap.size w w' := by
  have HC := Lib.hid (p_Collect Bm bm L w hL hBm hm hM hB)
  clear hm hM hB
  go_enter Tryz.func102, Tryz.ntmps102
  go_wp2_with fail
  refine HC.out.mono ?_
  rintro e w1 ⟨v, ys, rfl, hp, ho, hb⟩
  obtain ⟨A, c, rfl, hcc⟩ := own_slice ho
  have hl : ys.length = L.length := hp.length_eq
  have HS := Lib.hid (p_SortOwn h0 ys A c w1 (by omega) hb.size ho)
  have HP := Lib.hid hp
  have HHL := Lib.hid hl
  clear ho hp hl
  go_wp2_with fail
  refine HS.out.mono ?_
  rintro e w2 ⟨rfl, zs, h1, h2, h3, h4⟩
  have H1 := Lib.hid h1
  have H2 := Lib.hid h2
  have H3 := Lib.hid h3
  clear h1 h2 h3
  go_wp2_with fail
  go_ret
  have hz : zs.length = ys.length := H1.out.length_eq
  exact ⟨zs, A, c, by rw [hz]; rfl, H1.out.trans HP.out, H2.out, by rw [hz]; exact H3.out, by omega, hb.trans h4⟩

end Go.Proofs.YtikioiblaoimkaaGreatDoor

/- Join: the deeds of two lists by their items. -/
namespace Go.Proofs.YtikioiblaoimkaaGreatDoor
open Go.RowKit Go.Maps

theorem MapG.len {κ : Type} {mk : κ → Value} {wf : κ → Prop} {k T E : TypeId} {w : World} {b : Nat} {L : List (κ × Value)} (h : MapG mk wf w b L) (ht : Tryz.prog.underlying T = some (.map k E)) (ty : TypeId) : (Builtin.len_ #[T] ty #[.map (some b)]).run Tryz.prog w = .ok (.int .i64 L.length) w := by
  obtain ⟨es, clock, hb, he⟩ := h.ex
  have hl : es.size = L.length := by have := congrArg List.length he; simpa using this
  simp [Builtin.len_, run_underlying ht, MapKept.run_getObj_map hb, goInt, Result.andThen, hl]

def bef (a b : Deed) : Bool := beforeB a.par a.no b.par b.no
def insD (d : Deed) : List Deed → List Deed
  | [] => [d]
  | a :: l => if bef a d then a :: insD d l else d :: a :: l
/-- Deeds, by their items. -/
def srtD (l : List Deed) : List Deed := l.foldr insD []
def findK (d : Deed) (L : List Deed) : Option Deed := L.find? fun x => decide (kOf x = kOf d)
def joinL : List Deed → List Deed → Int × List Deed
  | L, [] => if 60 < L.length then (2, []) else (0, srtD L)
  | L, d :: ms => if d.okB then (match findK d L with
    | some o => if o = d then joinL L ms else (12, [])
    | none => joinL (L ++ [d]) ms) else (10, [])
def joinE (ds ms : List Deed) : Int := if checkB ds then (joinL ds ms).1 else 11
def joinD (ds ms : List Deed) : List Deed := if checkB ds then (joinL ds ms).2 else []

theorem bef_trans {a b c : Deed} (h1 : bef a b = true) (h2 : bef b c = true) : bef a c = true := by
  simp only [bef, beforeB, Bool.or_eq_true, Bool.and_eq_true, decide_eq_true_eq] at *
  omega
theorem bef_irr (a : Deed) : bef a a = false := by simp [bef, beforeB]
theorem bef_total {a b : Deed} (h : bef a b = false) (hn : kOf a ≠ kOf b) : bef b a = true := by
  have : ¬ (a.par = b.par ∧ a.no = b.no) := fun ⟨h1, h2⟩ => hn (by simp [kOf, h1, h2])
  simp only [bef, beforeB, Bool.or_eq_false_iff, Bool.and_eq_false_imp, decide_eq_true_eq, decide_eq_false_iff_not, Bool.or_eq_true, Bool.and_eq_true] at *
  omega
theorem bef_ne {a b : Deed} (h : bef a b = true) : kOf a ≠ kOf b := fun e => by
  simp only [kOf, Prod.mk.injEq] at e
  simp only [bef, beforeB, Bool.or_eq_true, Bool.and_eq_true, decide_eq_true_eq] at h
  omega
/-- Strictly by items. -/
def SD (l : List Deed) : Prop := l.Pairwise fun a b => bef a b = true
theorem insD_mem {d a : Deed} {l : List Deed} : a ∈ insD d l ↔ a = d ∨ a ∈ l := by
  induction l with
  | nil => simp [insD]
  | cons b l ih =>
    unfold insD
    split
    · simp only [List.mem_cons, ih]
      constructor
      · rintro (h | h | h)
        · exact .inr (.inl h)
        · exact .inl h
        · exact .inr (.inr h)
      · rintro (h | h | h)
        · exact .inr (.inl h)
        · exact .inl h
        · exact .inr (.inr h)
    · simp
theorem insD_perm (d : Deed) (l : List Deed) : (insD d l).Perm (d :: l) := by
  induction l with
  | nil => exact List.Perm.refl _
  | cons b l ih =>
    unfold insD
    split
    · exact (ih.cons b).trans (List.Perm.swap _ _ _)
    · exact List.Perm.refl _
theorem srtD_perm (l : List Deed) : (srtD l).Perm l := by
  induction l with
  | nil => exact List.Perm.refl _
  | cons b l ih => exact (insD_perm b _).trans (ih.cons b)
theorem insD_sd {d : Deed} {l : List Deed} (h : SD l) (hn : ∀ x ∈ l, kOf x ≠ kOf d) : SD (insD d l) := by
  induction l with
  | nil => simp [insD, SD]
  | cons b l ih =>
    have hb := (List.pairwise_cons.1 h).1
    have hl := (List.pairwise_cons.1 h).2
    unfold insD
    split
    · rename_i hbd
      refine List.pairwise_cons.2 ⟨fun a ha => ?_, ih hl fun x hx => hn x (List.mem_cons_of_mem _ hx)⟩
      rcases insD_mem.1 ha with rfl | ha
      · exact hbd
      · exact hb a ha
    · rename_i hbd
      have hdb : bef d b = true := bef_total (by simpa using hbd) (hn b (by simp))
      refine List.pairwise_cons.2 ⟨fun a ha => ?_, h⟩
      rcases List.mem_cons.1 ha with rfl | ha
      · exact hdb
      · exact bef_trans hdb (hb a ha)
/-- Items, each but once. -/
def KN (l : List Deed) : Prop := l.Pairwise fun a b => kOf a ≠ kOf b
theorem srtD_sd {l : List Deed} (h : KN l) : SD (srtD l) := by
  induction l with
  | nil => exact List.Pairwise.nil
  | cons b l ih =>
    have hb := (List.pairwise_cons.1 h).1
    refine insD_sd (ih (List.pairwise_cons.1 h).2) fun x hx e => ?_
    exact hb x ((srtD_perm l).mem_iff.1 hx) e.symm
theorem SD.eq {a b : List Deed} (ha : SD a) (hb : SD b) (h : a.Perm b) : a = b :=
  List.Perm.eq_of_pairwise (le := fun x y => bef x y = true) (fun x y _ _ h1 h2 => absurd (bef_trans h1 h2) (by rw [bef_irr]; simp)) ha hb h
theorem KN.perm {a b : List Deed} (h : KN a) (hp : a.Perm b) : KN b := (hp.pairwise_iff (fun h e => h e.symm)).1 h
/-- What is by items, and has each but once, is the one such list. -/
theorem sorted_srtD {zs L : List Deed} (hp : zs.Perm L) (hs : zs.Pairwise fun a b => beforeB b.par b.no a.par a.no = false) (hk : KN L) : zs = srtD L := by
  have hkz : KN zs := KN.perm hk hp.symm
  refine SD.eq ?_ (srtD_sd hk) (hp.trans (srtD_perm L).symm)
  refine (hs.and hkz).imp fun {a b} h => ?_
  exact bef_total h.1 fun e => h.2 e.symm

theorem findK_none {d : Deed} {L : List Deed} (h : findK d L = none) : ∀ x ∈ L, kOf x ≠ kOf d := fun x hx e => by
  have := List.find?_eq_none.1 h x hx
  simp [e] at this
theorem KN.snoc {d : Deed} {L : List Deed} (h : KN L) (hn : findK d L = none) : KN (L ++ [d]) := by
  refine List.pairwise_append.2 ⟨h, by simp, fun x hx y hy => ?_⟩
  simp at hy
  subst hy
  exact findK_none hn x hx
theorem checkB_sd {ds : List Deed} (h : checkB ds = true) : SD ds := by
  unfold checkB at h
  simp only [Bool.and_eq_true, List.all_eq_true, List.mem_range] at h
  have hadj : ∀ i, i + 1 < ds.length → ∀ a b, ds[i]? = some a → ds[i + 1]? = some b → bef a b = true := fun i hi a b ha hb => by
    have h1 := h.2 (i + 1) hi
    unfold okAt at h1
    rw [hb] at h1
    simp only [Bool.and_eq_true, ha] at h1
    exact h1.2
  clear h
  induction ds with
  | nil => exact List.Pairwise.nil
  | cons a l ih =>
    have hl : SD l := ih fun i hi x y hx hy => hadj (i + 1) (by simpa using hi) x y (by simpa using hx) (by simpa using hy)
    refine List.pairwise_cons.2 ⟨fun b hb => ?_, hl⟩
    cases l with
    | nil => cases hb
    | cons c l =>
      have hac : bef a c = true := hadj 0 (by simp) a c rfl rfl
      rcases List.mem_cons.1 hb with rfl | hb
      · exact hac
      · exact bef_trans hac ((List.pairwise_cons.1 hl).1 b hb)
theorem SD.kn {l : List Deed} (h : SD l) : KN l := h.imp fun {a b} h => bef_ne h
theorem findK_take {ds : List Deed} (h : KN ds) {k : Nat} {d : Deed} (hk : ds[k]? = some d) : findK d (ds.take k) = none := by
  refine List.find?_eq_none.2 fun x hx => ?_
  obtain ⟨i, hi⟩ := List.mem_iff_getElem?.1 hx
  rw [List.getElem?_take] at hi
  split at hi
  · rename_i hik
    obtain ⟨h1, e1⟩ := List.getElem?_eq_some_iff.1 hi
    obtain ⟨h2, e2⟩ := List.getElem?_eq_some_iff.1 hk
    have := List.pairwise_iff_getElem.1 h i k h1 h2 hik
    rw [e1, e2] at this
    simpa using this
  · cases hi

end Go.Proofs.YtikioiblaoimkaaGreatDoor
