import Derived.Test.YtaomfjgleddpdaaGreatR1
set_option linter.unusedVariables false
set_option linter.unusedSimpArgs false

/- Arrays of numbers that come in by value. -/
namespace Go.Proofs.YtaomfjgleddpdaaGreat
open Go.ChangeShapes Go.WideShapes Go.ChangeAt Go.RowKit Go.Deep Go.Joins

theorem c2_two : Tryz.prog.cellsOf 41 = 2 := by kernel_rfl
theorem c3_three : Tryz.prog.cellsOf 91 = 3 := by kernel_rfl
theorem len3 {α : Type} : ∀ {l : List α}, l.length = 3 → ∃ a b c, l = [a, b, c]
  | [a, b, c], _ => ⟨a, b, c, rfl⟩

section
variable {H : Type} {enc : TypeId × Value → H} {w : World} {base : Nat} {spare : Nat → Bool} {held : Bool} {r : Reach} {b0 : Nat} {v : Value} {d : DataW H} {p : List MemPlace}
theorem okWide_arr {P : Program} {t e : TypeId} {n : Nat} (ht : P.underlying t = some (.array n e)) (h : Value.okWide P w r b0 t v) : ∃ cs, v = .agg cs := by
  simp only [Value.okWide, ht] at h
  obtain ⟨cs, h1, _⟩ := h
  exact ⟨cs, h1⟩
set_option maxRecDepth 100000 in
theorem two_of (hv : Value.okWide Tryz.prog w r b0 41 v) (h : DataW.Trod enc Tryz.prog w base spare held 41 v d p) : ∃ a b : Int, v = .agg #[.int .i64 a, .int .i64 b] := by
  obtain ⟨cs, rfl⟩ := okWide_arr Tryz.underlying41 hv
  obtain ⟨fuel, hf0⟩ := h
  simp only [Value.cells] at hf0
  obtain ⟨xs, n, _, _, hl, hx, hf⟩ := DataW.trod_array Tryz.underlying41 hf0
  rw [c2_two] at hl
  obtain ⟨y0, e0⟩ := some_at hx (i := 0) (by decide)
  obtain ⟨y1, e1⟩ := some_at hx (i := 1) (by decide)
  obtain ⟨c0, c1, hcs⟩ := len2 hl
  rw [hcs] at hf
  obtain ⟨a0, h0⟩ := int_of ((hf 0 (by decide)).trans e0)
  obtain ⟨a1, h1⟩ := int_of ((hf 1 (by decide)).trans e1)
  simp [c1_int] at h0 h1
  refine ⟨a0, a1, ?_⟩
  congr 1
  apply Array.toList_inj.1
  rw [hcs]
  simp [h0, h1]
set_option maxRecDepth 100000 in
theorem three_of (hv : Value.okWide Tryz.prog w r b0 91 v) (h : DataW.Trod enc Tryz.prog w base spare held 91 v d p) : ∃ a b c : Int, v = .agg #[.int .i64 a, .int .i64 b, .int .i64 c] := by
  obtain ⟨cs, rfl⟩ := okWide_arr Tryz.underlying91 hv
  obtain ⟨fuel, hf0⟩ := h
  simp only [Value.cells] at hf0
  obtain ⟨xs, n, _, _, hl, hx, hf⟩ := DataW.trod_array Tryz.underlying91 hf0
  rw [c3_three] at hl
  obtain ⟨y0, e0⟩ := some_at hx (i := 0) (by decide)
  obtain ⟨y1, e1⟩ := some_at hx (i := 1) (by decide)
  obtain ⟨y2, e2⟩ := some_at hx (i := 2) (by decide)
  obtain ⟨c0, c1, c2, hcs⟩ := len3 hl
  rw [hcs] at hf
  obtain ⟨a0, h0⟩ := int_of ((hf 0 (by decide)).trans e0)
  obtain ⟨a1, h1⟩ := int_of ((hf 1 (by decide)).trans e1)
  obtain ⟨a2, h2⟩ := int_of ((hf 2 (by decide)).trans e2)
  simp [c1_int] at h0 h1 h2
  refine ⟨a0, a1, a2, ?_⟩
  congr 1
  apply Array.toList_inj.1
  rw [hcs]
  simp [h0, h1, h2]
end

end Go.Proofs.YtaomfjgleddpdaaGreat
