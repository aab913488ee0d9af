/- Layer 2 of the texts that LoanChecks takes: Vbxq. -/
import Derived.Test.YtklikciiaogpbaaGreatVbdq
set_option linter.unusedVariables false
set_option linter.unusedSimpArgs false
/- Structs with slices that come in by value: Asked, Opening. -/
namespace Go.Proofs.YtklikciiaogpbaaGreat
open Go.ChangeShapes Go.WideShapes Go.ChangeAt Go.RowKit Go.Deep Go.Joins
theorem c1_ints : Tryz.prog.cellsOf 30 = 1 := by kernel_rfl
section
variable {H : Type} {enc : TypeId × Value → H} {w : World} {base : Nat} {spare : Nat → Bool} {held : Bool} {r : Reach} {b0 : Nat} {v : Value} {d : DataW H} {p : List MemPlace}
theorem ints_cell {fuel : Nat} {cs : List Value} {x : DataW H × List MemPlace} (h : DataW.trod enc Tryz.prog w base spare held fuel 30 cs = some x) : ∃ A n c, cs = [.slice A n c] ∧ n ≤ c ∧ c ≤ maxLen ∧ ∃ l : List Int, Is w w.heap.size A n l := by
 have h0 := h
 rcases open_slice Tryz.underlying30 h with ⟨rfl, _⟩ | ⟨a, len, cap, m, nn, D, Pl, rfl, _⟩
 ·exact ⟨none, 0, 0, rfl, Nat.le_refl _, Nat.zero_le _, [], Rd.nil_⟩
 ·obtain ⟨h1, h2, h3⟩ := ints_of (A := some a) (n := len) (c := cap) (by simpa [Value.cells] using h0)
  exact ⟨some a, len, cap, rfl, h1, h2, h3⟩
end
end Go.Proofs.YtklikciiaogpbaaGreat
/- Layer 2: a ledger, and One, that come in by value. -/
namespace Go.Proofs.YtklikciiaogpbaaGreat
open Go.ChangeShapes Go.WideShapes Go.ChangeAt Go.RowKit Go.Deep Go.Joins Go.Maps
theorem c2_paper : Tryz.prog.cellsOf 29 = 2 := by kernel_rfl
theorem c7_rcpt : Tryz.prog.cellsOf 32 = 7 := by kernel_rfl
theorem c8_retn : Tryz.prog.cellsOf 36 = 8 := by kernel_rfl
theorem c7_sight : Tryz.prog.cellsOf 38 = 7 := by kernel_rfl
theorem c1_pps : Tryz.prog.cellsOf 22 = 1 := by kernel_rfl
theorem c1_rcs : Tryz.prog.cellsOf 23 = 1 := by kernel_rfl
theorem c1_rts : Tryz.prog.cellsOf 24 = 1 := by kernel_rfl
theorem c1_sgs : Tryz.prog.cellsOf 25 = 1 := by kernel_rfl
theorem c4_ledger : Tryz.prog.cellsOf 27 = 4 := by kernel_rfl
theorem lenx4 {α : Type} : ∀ {l : List α}, l.length = 4 → ∃ a0 a1 a2 a3, l = [a0, a1, a2, a3]
 | [a0, a1, a2, a3], _ => ⟨a0, a1, a2, a3, rfl⟩
theorem lenx7 {α : Type} : ∀ {l : List α}, l.length = 7 → ∃ a0 a1 a2 a3 a4 a5 a6, l = [a0, a1, a2, a3, a4, a5, a6]
 | [a0, a1, a2, a3, a4, a5, a6], _ => ⟨a0, a1, a2, a3, a4, a5, a6, rfl⟩
theorem lenx8 {α : Type} : ∀ {l : List α}, l.length = 8 → ∃ a0 a1 a2 a3 a4 a5 a6 a7, l = [a0, a1, a2, a3, a4, a5, a6, a7]
 | [a0, a1, a2, a3, a4, a5, a6, a7], _ => ⟨a0, a1, a2, a3, a4, a5, a6, a7, rfl⟩
theorem lenx24 {α : Type} : ∀ {l : List α}, l.length = 24 → ∃ a0 a1 a2 a3 a4 a5 a6 a7 a8 a9 a10 a11 a12 a13 a14 a15 a16 a17 a18 a19 a20 a21 a22 a23, l = [a0, a1, a2, a3, a4, a5, a6, a7, a8, a9, a10, a11, a12, a13, a14, a15, a16, a17, a18, a19, a20, a21, a22, a23]
 | [a0, a1, a2, a3, a4, a5, a6, a7, a8, a9, a10, a11, a12, a13, a14, a15, a16, a17, a18, a19, a20, a21, a22, a23], _ => ⟨a0, a1, a2, a3, a4, a5, a6, a7, a8, a9, a10, a11, a12, a13, a14, a15, a16, a17, a18, a19, a20, a21, a22, a23, rfl⟩
section
variable {H : Type} {enc : TypeId × Value → H} {w : World} {base : Nat} {spare : Nat → Bool} {held : Bool} {fuel : Nat} {cs : List Value} {x : DataW H × List MemPlace}
theorem paper_of (h : DataW.trod enc Tryz.prog w base spare held fuel 29 cs = some x) : ∃ v : Ppr, cs = ppC v := by
 obtain ⟨xs, n, _, _, hl, hx, hf⟩ := DataW.trod_struct Tryz.underlying29 h
 rw [c2_paper] at hl
 obtain ⟨y0, e0⟩ := some_at hx (i := 0) (by decide)
 obtain ⟨y1, e1⟩ := some_at hx (i := 1) (by decide)
 obtain ⟨c0, c1, rfl⟩ := len2 hl
 obtain ⟨a, ha⟩ := int_of ((hf 0 _ rfl).trans e0)
 obtain ⟨b, hb⟩ := int_of ((hf 1 _ rfl).trans e1)
 simp [c1_int] at ha hb
 exact ⟨⟨a, b⟩, by rw [ha, hb]⟩
theorem sight_of (h : DataW.trod enc Tryz.prog w base spare held fuel 38 cs = some x) : ∃ v : Sgt, cs = sgC v := by
 obtain ⟨xs, n, _, _, hl, hx, hf⟩ := DataW.trod_struct Tryz.underlying38 h
 rw [c7_sight] at hl
 obtain ⟨y0, e0⟩ := some_at hx (i := 0) (by decide)
 obtain ⟨y1, e1⟩ := some_at hx (i := 1) (by decide)
 obtain ⟨y2, e2⟩ := some_at hx (i := 2) (by decide)
 obtain ⟨y3, e3⟩ := some_at hx (i := 3) (by decide)
 obtain ⟨y4, e4⟩ := some_at hx (i := 4) (by decide)
 obtain ⟨y5, e5⟩ := some_at hx (i := 5) (by decide)
 obtain ⟨y6, e6⟩ := some_at hx (i := 6) (by decide)
 obtain ⟨c0, c1, c2, c3, c4, c5, c6, rfl⟩ := lenx7 hl
 obtain ⟨a0, h0⟩ := int_of ((hf 0 _ rfl).trans e0)
 obtain ⟨a1, h1⟩ := int_of ((hf 1 _ rfl).trans e1)
 obtain ⟨a2, h2⟩ := int_of ((hf 2 _ rfl).trans e2)
 obtain ⟨a3, h3⟩ := int_of ((hf 3 _ rfl).trans e3)
 obtain ⟨a4, h4⟩ := int_of ((hf 4 _ rfl).trans e4)
 obtain ⟨a5, h5⟩ := int_of ((hf 5 _ rfl).trans e5)
 obtain ⟨a6, h6⟩ := int_of ((hf 6 _ rfl).trans e6)
 simp [c1_int] at h0 h1 h2 h3 h4 h5 h6
 exact ⟨⟨a0, a1, a2, a3, a4, a5, a6⟩, by simp [h0, h1, h2, h3, h4, h5, h6]⟩
theorem rcpt_of (h : DataW.trod enc Tryz.prog w base spare held fuel 32 cs = some x) : ∃ v : Rv, cs = rvC v ∧ (Is w w.heap.size v.A v.n v.r.lv ∧ v.n ≤ v.c ∧ v.c ≤ maxLen) := by
 obtain ⟨xs, n, _, _, hl, hx, hf⟩ := DataW.trod_struct Tryz.underlying32 h
 rw [c7_rcpt] at hl
 obtain ⟨y0, e0⟩ := some_at hx (i := 0) (by decide)
 obtain ⟨y1, e1⟩ := some_at hx (i := 1) (by decide)
 obtain ⟨y2, e2⟩ := some_at hx (i := 2) (by decide)
 obtain ⟨y3, e3⟩ := some_at hx (i := 3) (by decide)
 obtain ⟨y4, e4⟩ := some_at hx (i := 4) (by decide)
 obtain ⟨y5, e5⟩ := some_at hx (i := 5) (by decide)
 obtain ⟨y6, e6⟩ := some_at hx (i := 6) (by decide)
 obtain ⟨c0, c1, c2, c3, c4, c5, c6, rfl⟩ := lenx7 hl
 obtain ⟨a0, h0⟩ := int_of ((hf 0 _ rfl).trans e0)
 obtain ⟨a1, h1⟩ := int_of ((hf 1 _ rfl).trans e1)
 obtain ⟨a2, h2⟩ := int_of ((hf 2 _ rfl).trans e2)
 obtain ⟨a4, h4⟩ := int_of ((hf 4 _ rfl).trans e4)
 obtain ⟨a5, h5⟩ := int_of ((hf 5 _ rfl).trans e5)
 obtain ⟨a6, h6⟩ := int_of ((hf 6 _ rfl).trans e6)
 obtain ⟨A, m, cc, h3, g1, g2, l, g3⟩ := ints_cell ((hf 3 _ rfl).trans e3)
 simp [c1_int, c1_ints] at h0 h1 h2 h3 h4 h5 h6
 exact ⟨⟨⟨a0, a1, a2, l, a4, a5, a6⟩, A, m, cc⟩, by simp [h0, h1, h2, h3, h4, h5, h6], g3, g1, g2⟩
theorem retn_of (h : DataW.trod enc Tryz.prog w base spare held fuel 36 cs = some x) : ∃ v : Tv, cs = tvC v ∧ (Is w w.heap.size v.A v.n v.r.lv ∧ v.n ≤ v.c ∧ v.c ≤ maxLen) := by
 obtain ⟨xs, n, _, _, hl, hx, hf⟩ := DataW.trod_struct Tryz.underlying36 h
 rw [c8_retn] at hl
 obtain ⟨y0, e0⟩ := some_at hx (i := 0) (by decide)
 obtain ⟨y1, e1⟩ := some_at hx (i := 1) (by decide)
 obtain ⟨y2, e2⟩ := some_at hx (i := 2) (by decide)
 obtain ⟨y3, e3⟩ := some_at hx (i := 3) (by decide)
 obtain ⟨y4, e4⟩ := some_at hx (i := 4) (by decide)
 obtain ⟨y5, e5⟩ := some_at hx (i := 5) (by decide)
 obtain ⟨y6, e6⟩ := some_at hx (i := 6) (by decide)
 obtain ⟨c0, c1, c2, c3, c4, c5, c6, c7, rfl⟩ := lenx8 hl
 obtain ⟨a0, h0⟩ := int_of ((hf 0 _ rfl).trans e0)
 obtain ⟨a1, h1⟩ := int_of ((hf 1 _ rfl).trans e1)
 obtain ⟨a2, h2⟩ := int_of ((hf 2 _ rfl).trans e2)
 obtain ⟨a5, h5⟩ := int_of ((hf 5 _ rfl).trans e5)
 obtain ⟨a6, h6⟩ := int_of ((hf 6 _ rfl).trans e6)
 obtain ⟨A, m, cc, h3, g1, g2, l, g3⟩ := ints_cell ((hf 3 _ rfl).trans e3)
 obtain ⟨lo, hi, h4⟩ := range_of ((hf 4 _ rfl).trans e4)
 simp [c1_int, c1_ints, c2_range] at h0 h1 h2 h3 h4 h5 h6
 exact ⟨⟨⟨a0, a1, a2, l, lo, hi, a5, a6⟩, A, m, cc⟩, by simp [h0, h1, h2, h3, h4, h5, h6], g3, g1, g2⟩
theorem slice_cell {t e : TypeId} (ht : Tryz.prog.underlying t = some (.slice e)) (h : DataW.trod enc Tryz.prog w base spare held fuel t cs = some x) : ∃ A n c, cs = (Value.slice A n c).cells.toList := by
 rcases open_slice ht h with ⟨rfl, _⟩ | ⟨a, len, cap, m, nn, D, Pl, rfl, _⟩
 ·exact ⟨none, 0, 0, rfl⟩
 ·exact ⟨some a, len, cap, rfl⟩
theorem pps_of {A : Option Addr} {n c : Nat} (h : DataW.trod enc Tryz.prog w base spare held fuel 22 (Value.slice A n c).cells.toList = some x) : n ≤ c ∧ c ≤ maxLen ∧ ∃ l, Pps w w.heap.size A n l := by
 obtain ⟨h1, h2, l, hl, h3⟩ := row_of ppC (fun _ => rfl) (by decide) Tryz.underlying22 c2_paper (fun _ _ _ h => paper_of h) h
 exact ⟨h1, h2, l, sq_pp h3 hl⟩
theorem sgs_of {A : Option Addr} {n c : Nat} (h : DataW.trod enc Tryz.prog w base spare held fuel 25 (Value.slice A n c).cells.toList = some x) : n ≤ c ∧ c ≤ maxLen ∧ ∃ l, Sgs w w.heap.size A n l := by
 obtain ⟨h1, h2, l, hl, h3⟩ := row_of sgC (fun _ => rfl) (by decide) Tryz.underlying25 c7_sight (fun _ _ _ h => sight_of h) h
 exact ⟨h1, h2, l, sq_sg h3 hl⟩
theorem rcs_of2 {A : Option Addr} {n c : Nat} (h : DataW.trod enc Tryz.prog w base spare held fuel 23 (Value.slice A n c).cells.toList = some x) : n ≤ c ∧ c ≤ maxLen ∧ ∃ l, Rcs w w.heap.size A n l := by
 obtain ⟨h1, h2, l, hl, h3⟩ := row_of (α := { v : Rv // Is w w.heap.size v.A v.n v.r.lv ∧ v.n ≤ v.c ∧ v.c ≤ maxLen }) (fun v => rvC v.1) (fun _ => rfl) (by decide) Tryz.underlying23 c7_rcpt (fun _ _ _ h => by obtain ⟨v, e, hv⟩ := rcpt_of h; exact ⟨⟨v, hv⟩, e⟩) h
 refine ⟨h1, h2, (l.map Subtype.val).map Rv.r, rcs_of (sq_rv ?_ (by rw [List.length_map]; exact hl) fun v hv => ?_)⟩
 ·unfold rvCells
  rw [List.flatMap_map]
  exact h3
 ·obtain ⟨u, _, rfl⟩ := List.mem_map.1 hv
  exact u.2
theorem rts_of2 {A : Option Addr} {n c : Nat} (h : DataW.trod enc Tryz.prog w base spare held fuel 24 (Value.slice A n c).cells.toList = some x) : n ≤ c ∧ c ≤ maxLen ∧ ∃ l, Rts w w.heap.size A n l := by
 obtain ⟨h1, h2, l, hl, h3⟩ := row_of (α := { v : Tv // Is w w.heap.size v.A v.n v.r.lv ∧ v.n ≤ v.c ∧ v.c ≤ maxLen }) (fun v => tvC v.1) (fun _ => rfl) (by decide) Tryz.underlying24 c8_retn (fun _ _ _ h => by obtain ⟨v, e, hv⟩ := retn_of h; exact ⟨⟨v, hv⟩, e⟩) h
 refine ⟨h1, h2, (l.map Subtype.val).map Tv.r, rts_of ?_ (by rw [List.length_map]; exact hl) fun v hv => ?_⟩
 ·rw [List.flatMap_map]
  exact h3
 ·obtain ⟨u, _, rfl⟩ := List.mem_map.1 hv
  exact u.2
end
section
variable {H : Type} {enc : TypeId × Value → H} {w : World} {base : Nat} {spare : Nat → Bool} {held : Bool} {r : Reach} {b0 : Nat} {v : Value} {d : DataW H} {p : List MemPlace}
set_option maxRecDepth 100000 in
theorem ledger_of (hv : Value.okWide Tryz.prog w r b0 27 v) (h : DataW.Trod enc Tryz.prog w base spare held 27 v d p) : ∃ (y : Lsl) (l : Led), v = .agg #[.slice y.pA y.pn y.pc, .slice y.rA y.rn y.rc, .slice y.tA y.tn y.tc, .slice y.sA y.sn y.sc] ∧ y.fit ∧ LedIn w w.heap.size y l := by
 obtain ⟨cs, rfl, _⟩ := okWide_struct Tryz.underlying27 hv
 obtain ⟨fuel, hf0⟩ := h
 simp only [Value.cells] at hf0
 obtain ⟨xs, n, _, _, hl, hx, hf⟩ := DataW.trod_struct Tryz.underlying27 hf0
 rw [c4_ledger] at hl
 obtain ⟨y0, e0⟩ := some_at hx (i := 0) (by decide)
 obtain ⟨y1, e1⟩ := some_at hx (i := 1) (by decide)
 obtain ⟨y2, e2⟩ := some_at hx (i := 2) (by decide)
 obtain ⟨y3, e3⟩ := some_at hx (i := 3) (by decide)
 obtain ⟨c0, c1, c2, c3, hcs⟩ := lenx4 hl
 rw [hcs] at hf
 have t0 := (hf 0 _ rfl).trans e0
 have t1 := (hf 1 _ rfl).trans e1
 have t2 := (hf 2 _ rfl).trans e2
 have t3 := (hf 3 _ rfl).trans e3
 obtain ⟨A0, n0, q0, h0⟩ := slice_cell Tryz.underlying22 t0
 obtain ⟨A1, n1, q1, h1⟩ := slice_cell Tryz.underlying23 t1
 obtain ⟨A2, n2, q2, h2⟩ := slice_cell Tryz.underlying24 t2
 obtain ⟨A3, n3, q3, h3⟩ := slice_cell Tryz.underlying25 t3
 rw [h0] at t0
 rw [h1] at t1
 rw [h2] at t2
 rw [h3] at t3
 obtain ⟨f0, g0, l0, k0⟩ := pps_of t0
 obtain ⟨f1, g1, l1, k1⟩ := rcs_of2 t1
 obtain ⟨f2, g2, l2, k2⟩ := rts_of2 t2
 obtain ⟨f3, g3, l3, k3⟩ := sgs_of t3
 simp [c1_pps, c1_rcs, c1_rts, c1_sgs, Value.cells] at h0 h1 h2 h3
 refine ⟨⟨A0, n0, q0, A1, n1, q1, A2, n2, q2, A3, n3, q3⟩, ⟨l0, l1, l2, l3⟩, ?_, ⟨⟨f0, g0⟩, ⟨f1, g1⟩, ⟨f2, g2⟩, ⟨f3, g3⟩⟩, ⟨k0, k1, k2, k3⟩⟩
 congr 1
 apply Array.toList_inj.1
 rw [hcs]
 simp [h0, h1, h2, h3]
end
end Go.Proofs.YtklikciiaogpbaaGreat
/- Layer 2: One that comes in by value. -/
namespace Go.Proofs.YtklikciiaogpbaaGreat
open Go.ChangeShapes Go.WideShapes Go.ChangeAt Go.RowKit Go.Deep Go.Joins Go.Maps
theorem c24_one : Tryz.prog.cellsOf 40 = 24 := by kernel_rfl
section
variable {H : Type} {enc : TypeId × Value → H} {w : World} {base : Nat} {spare : Nat → Bool} {held : Bool} {r : Reach} {b0 : Nat} {v : Value} {d : DataW H} {p : List MemPlace}
set_option maxRecDepth 100000 in
set_option maxHeartbeats 1000000 in
theorem one_of (hv : Value.okWide Tryz.prog w r b0 40 v) (h : DataW.Trod enc Tryz.prog w base spare held 40 v d p) : ∃ (y : Ppr) (a : Rv) (b : Tv) (s : Sgt), v = .agg (ppC y ++ (rvC a ++ (tvC b ++ sgC s))).toArray ∧ (Is w w.heap.size a.A a.n a.r.lv ∧ a.n ≤ a.c ∧ a.c ≤ maxLen) ∧ (Is w w.heap.size b.A b.n b.r.lv ∧ b.n ≤ b.c ∧ b.c ≤ maxLen) := by
 obtain ⟨cs, rfl, _⟩ := okWide_struct Tryz.underlying40 hv
 obtain ⟨fuel, hf0⟩ := h
 simp only [Value.cells] at hf0
 obtain ⟨xs, n, _, _, hl, hx, hf⟩ := DataW.trod_struct Tryz.underlying40 hf0
 rw [c24_one] at hl
 obtain ⟨y0, e0⟩ := some_at hx (i := 0) (by decide)
 obtain ⟨y1, e1⟩ := some_at hx (i := 1) (by decide)
 obtain ⟨y2, e2⟩ := some_at hx (i := 2) (by decide)
 obtain ⟨y3, e3⟩ := some_at hx (i := 3) (by decide)
 obtain ⟨c0, c1, c2, c3, c4, c5, c6, c7, c8, c9, c10, c11, c12, c13, c14, c15, c16, c17, c18, c19, c20, c21, c22, c23, hcs⟩ := lenx24 hl
 rw [hcs] at hf
 obtain ⟨y, h0⟩ := paper_of ((hf 0 _ rfl).trans e0)
 obtain ⟨a, h1, ha⟩ := rcpt_of ((hf 1 _ rfl).trans e1)
 obtain ⟨b, h2, hb⟩ := retn_of ((hf 2 _ rfl).trans e2)
 obtain ⟨s, h3⟩ := sight_of ((hf 3 _ rfl).trans e3)
 refine ⟨y, a, b, s, ?_, ha, hb⟩
 congr 1
 apply Array.toList_inj.1
 rw [hcs, List.toList_toArray, ← h0, ← h1, ← h2, ← h3]
 simp [c2_paper, c7_rcpt, c8_retn, c7_sight]
end
end Go.Proofs.YtklikciiaogpbaaGreat
