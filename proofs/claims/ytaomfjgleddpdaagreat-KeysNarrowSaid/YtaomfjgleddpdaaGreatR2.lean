import Derived.Test.YtaomfjgleddpdaaGreatR1
set_option linter.unusedVariables false
set_option linter.unusedSimpArgs false

/- Structs with slices that come in by value: Asked, Opening. -/
namespace Go.Proofs.YtaomfjgleddpdaaGreat
open Go.ChangeShapes Go.WideShapes Go.ChangeAt Go.RowKit Go.Deep Go.Joins

theorem c1_ints : Tryz.prog.cellsOf 32 = 1 := by kernel_rfl
theorem c6_asked : Tryz.prog.cellsOf 47 = 6 := by kernel_rfl
theorem c4_opening : Tryz.prog.cellsOf 73 = 4 := by kernel_rfl
theorem len4 {α : Type} : ∀ {l : List α}, l.length = 4 → ∃ a b c d, l = [a, b, c, d]
  | [a, b, c, d], _ => ⟨a, b, c, d, rfl⟩
theorem len6 {α : Type} : ∀ {l : List α}, l.length = 6 → ∃ a b c d e f, l = [a, b, c, d, e, f]
  | [a, b, c, d, e, f], _ => ⟨a, b, c, d, e, f, rfl⟩

section
variable {H : Type} {enc : TypeId × Value → H} {w : World} {base : Nat} {spare : Nat → Bool} {held : Bool} {r : Reach} {b0 : Nat} {v : Value} {d : DataW H} {p : List MemPlace}
theorem ints_cell {fuel : Nat} {cs : List Value} {x : DataW H × List MemPlace} (h : DataW.trod enc Tryz.prog w base spare held fuel 32 cs = some x) : ∃ A n c, cs = [.slice A n c] ∧ n ≤ c ∧ c ≤ maxLen ∧ ∃ l : List Int, Is w w.heap.size A n l := by
  have h0 := h
  rcases open_slice Tryz.underlying32 h with ⟨rfl, _⟩ | ⟨a, len, cap, m, nn, D, Pl, rfl, _⟩
  · exact ⟨none, 0, 0, rfl, Nat.le_refl _, Nat.zero_le _, [], Rd.nil_⟩
  · obtain ⟨h1, h2, h3⟩ := ints_of (A := some a) (n := len) (c := cap) (by simpa [Value.cells] using h0)
    exact ⟨some a, len, cap, rfl, h1, h2, h3⟩
set_option maxRecDepth 100000 in
theorem asked_of (hv : Value.okWide Tryz.prog w r b0 47 v) (h : DataW.Trod enc Tryz.prog w base spare held 47 v d p) : ∃ (a b c e f : Int) (A : Option Addr) (n cc : Nat), v = .agg #[.int .i64 a, .int .i64 b, .int .i64 c, .int .i64 e, .int .i64 f, .slice A n cc] ∧ n ≤ cc ∧ cc ≤ maxLen ∧ ∃ l : List Int, Is w w.heap.size A n l := by
  obtain ⟨cs, rfl, _⟩ := okWide_struct Tryz.underlying47 hv
  obtain ⟨fuel, hf0⟩ := h
  simp only [Value.cells] at hf0
  obtain ⟨xs, n, _, _, hl, hx, hf⟩ := DataW.trod_struct Tryz.underlying47 hf0
  rw [c6_asked] at hl
  obtain ⟨y0, e0⟩ := some_at hx (i := 0) (by decide)
  obtain ⟨y1, e1⟩ := some_at hx (i := 1) (by decide)
  obtain ⟨y2, e2⟩ := some_at hx (i := 2) (by decide)
  obtain ⟨y3, e3⟩ := some_at hx (i := 3) (by decide)
  obtain ⟨y4, e4⟩ := some_at hx (i := 4) (by decide)
  obtain ⟨c0, c1, c2, c3, c4, c5, hcs⟩ := len6 hl
  rw [hcs] at hf
  obtain ⟨a0, a1, h0⟩ := item_of ((hf 0 _ rfl).trans e0)
  obtain ⟨a2, h2⟩ := int_of ((hf 1 _ rfl).trans e1)
  obtain ⟨a3, h3⟩ := int_of ((hf 2 _ rfl).trans e2)
  obtain ⟨a4, h4⟩ := int_of ((hf 3 _ rfl).trans e3)
  obtain ⟨A, m, cc, h5, h6, h7, h8⟩ := ints_cell ((hf 4 _ rfl).trans e4)
  simp [c1_int, c2_item, c1_ints] at h0 h2 h3 h4 h5
  refine ⟨a0, a1, a2, a3, a4, A, m, cc, ?_, h6, h7, h8⟩
  congr 1
  apply Array.toList_inj.1
  rw [hcs]
  simp [h0, h2, h3, h4, h5]
set_option maxRecDepth 100000 in
theorem opening_of (hv : Value.okWide Tryz.prog w r b0 73 v) (h : DataW.Trod enc Tryz.prog w base spare held 73 v d p) : ∃ (A : Option Addr) (n c : Nat) (B : Option Addr) (m cc : Nat) (a b : Int), v = .agg #[.slice A n c, .slice B m cc, .int .i64 a, .int .i64 b] ∧ (n ≤ c ∧ c ≤ maxLen ∧ ∃ l : List Int, Is w w.heap.size A n l) ∧ (m ≤ cc ∧ cc ≤ maxLen ∧ ∃ l : List Int, Is w w.heap.size B m l) := by
  obtain ⟨cs, rfl, _⟩ := okWide_struct Tryz.underlying73 hv
  obtain ⟨fuel, hf0⟩ := h
  simp only [Value.cells] at hf0
  obtain ⟨xs, n, _, _, hl, hx, hf⟩ := DataW.trod_struct Tryz.underlying73 hf0
  rw [c4_opening] at hl
  obtain ⟨y0, e0⟩ := some_at hx (i := 0) (by decide)
  obtain ⟨y1, e1⟩ := some_at hx (i := 1) (by decide)
  obtain ⟨y2, e2⟩ := some_at hx (i := 2) (by decide)
  obtain ⟨y3, e3⟩ := some_at hx (i := 3) (by decide)
  obtain ⟨c0, c1, c2, c3, hcs⟩ := len4 hl
  rw [hcs] at hf
  obtain ⟨A, n1, cc, h0, h6⟩ := ints_cell ((hf 0 _ rfl).trans e0)
  obtain ⟨B, m1, dd, h1, h7⟩ := ints_cell ((hf 1 _ rfl).trans e1)
  obtain ⟨a2, h2⟩ := int_of ((hf 2 _ rfl).trans e2)
  obtain ⟨a3, h3⟩ := int_of ((hf 3 _ rfl).trans e3)
  simp [c1_int, c1_ints] at h0 h1 h2 h3
  refine ⟨A, n1, cc, B, m1, dd, a2, a3, ?_, h6, h7⟩
  congr 1
  apply Array.toList_inj.1
  rw [hcs]
  simp [h0, h1, h2, h3]
end

end Go.Proofs.YtaomfjgleddpdaaGreat
