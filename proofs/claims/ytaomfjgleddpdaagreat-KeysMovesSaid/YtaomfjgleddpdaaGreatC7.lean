/- KeysMoves: for every list of deeds and every Asked, whatever memory they lie in, the Go function KeysMoves (layer 1, promise P1.1) returns true and leaves its arguments as they read. Conditions: none. -/
import Derived.Test.YtaomfjgleddpdaaGreatP3
import Derived.Test.YtaomfjgleddpdaaGreatR2
set_option linter.unusedVariables false
set_option linter.unusedSimpArgs false

/- KeysMoves: for every list of deeds and every Asked, whatever memory they lie in, the Go function KeysMoves (layer 1, promise P1.1) returns true and leaves its arguments as they read. Conditions: none. -/
namespace Go.Proofs.YtaomfjgleddpdaaGreat.RowKeysMoves
open Go.ChangeShapes Go.WideShapes Go.ChangeAt Go.RowKit
open Go.Proofs.YtaomfjgleddpdaaGreat

set_option maxRecDepth 100000 in
theorem lifted (os : Os) (started : os.Started) (H : Type) (enc : TypeId × Value → H) :
    ReturnsInHanded {} Tryz.checked os 7 .any (Rows.keysMovesSpec.pre6 enc Tryz.prog Tryz.f7 Rows.keysMovesRow.domain false) (Rows.keysMovesSpec.post enc Tryz.prog Tryz.f7 false true false false) := by
  refine returnsInHanded_of_change (C := Tryz.checked) own started (by kernel_rfl) Tryz.func7
    (ChangeSpec.witness6 (enc := enc) (C := Tryz.checked) false ⟨#[], #[.slice none 0 0, .agg #[.int .i64 0, .int .i64 0, .int .i64 0, .int .i64 0, .int .i64 0, .slice none 0 0]], []⟩ 8 (by kernel_rfl) (by kernel_rfl) (by kernel_rfl) (by kernel_rfl)) ?_
  intro W base args ds gs before hval0 hW hcnd _
  have hval : ∀ (j : Nat) t v, Tryz.f7.params[j]? = some t → args[j]? = some v → Value.okWide Tryz.prog W .any base t v := hval0
  have hW' := hW
  obtain ⟨p, q, hA0, hV, rfl, hfz, hnd⟩ := hW
  have hA : DataW.TrodAll enc Tryz.prog W 0 (fun _ => true) true Tryz.f7.params.toList args.toList ds p := hA0
  rw [Tryz.params7] at hA hval
  obtain ⟨v0, vs0, d0, ds0, p0, q0, hargs, rfl, rfl, h0, r0⟩ := trodAll_cons hA
  obtain ⟨v1, vs1, d1, ds1, p1, q1, rfl, rfl, rfl, h1, r1⟩ := trodAll_cons r0
  obtain ⟨rfl, rfl, rfl⟩ := trodAll_nil r1
  obtain rfl : args = #[v0, v1] := by cases args; simp_all
  obtain ⟨rfl, rfl⟩ := trodVars_none hV
  obtain ⟨a0, len0, cap0, rfl⟩ := okWide_slice Tryz.underlying22 (hval 0 22 v0 rfl rfl)
  have k0 := h0
  have lt0 : ∀ x ∈ p0, x.block < W.heap.size := by obtain ⟨m, hm⟩ := k0; exact DataW.trod_lt m _ _ _ hm
  obtain ⟨g0, m0, z0, w0⟩ : len0 ≤ cap0 ∧ cap0 ≤ maxLen ∧ ∃ ds, Ds W W.heap.size a0 len0 ds := by obtain ⟨fuel, hf⟩ := h0; exact deeds_of hf
  have k1 := h1
  have lt1 : ∀ x ∈ p1, x.block < W.heap.size := by obtain ⟨m, hm⟩ := k1; exact DataW.trod_lt m _ _ _ hm
  obtain ⟨x10, x11, x12, x13, x14, a1, len1, cap1, rfl, g1, m1, z1, w1⟩ := asked_of (hval 1 47 v1 rfl rfl) h1
  clear hA0 hval0
  unfold maxLen at m0 m1
  refine (w_KeysMoves z0 z1 x10 x11 x12 x13 x14 a0 a1 len0 cap0 len1 cap1 W (by omega) g0 w0).mono fun e W' ⟨he, bel⟩ => ?_
  subst he
  exact ⟨_, rfl, _, _, _, [], _, [], hW', trodAll_mk1 (shut_bool Tryz.underlying4 _), (trodAll_cons_mk (Below.trod laidOut (by kernel_rfl) (of_decide_eq_true (by kernel_rfl)) k0 bel lt0) (trodAll_cons_mk (Below.trod laidOut (by kernel_rfl) (of_decide_eq_true (by kernel_rfl)) k1 bel lt1) trodAll_mk0)), rfl, bel.frame _, fun h => by cases h⟩

theorem over : Rows.keysMovesRow.holds Tryz.pinned (OpenSpec.ofChange Rows.keysMovesSpec) :=
  OpenClaim.holds_of_wide 7 Tryz.f7 rfl rfl rfl rfl rfl rfl rfl ⟨rfl, rfl, rfl, rfl, rfl⟩ rfl rfl rfl rfl rfl (by kernel_rfl) Tryz.func7 (by kernel_rfl)
    (of_decide_eq_true (by kernel_rfl)) (by unfold Func.isWrapper; first | (rw [if_pos (by decide +kernel)]; kernel_rfl) | (rw [if_neg (by decide +kernel)]; exact ⟨rfl, rfl⟩))
    (fun os started H enc _ => lifted os started H enc)

theorem proved : Rows.KeysMovesSaid := over
end Go.Proofs.YtaomfjgleddpdaaGreat.RowKeysMoves

namespace Go.Proofs.YtaomfjgleddpdaaGreat
theorem keysMoves_holds : Rows.KeysMovesSaid := RowKeysMoves.proved
end Go.Proofs.YtaomfjgleddpdaaGreat
