/- KeysHolds: for every list of deeds and every Ask, whatever memory they lie in, the Go function KeysHolds (layer 1, promise P1.1) returns true and leaves its arguments as they read. Conditions: none. -/
import Derived.Test.YtaomfjgleddpdaaGreatP8
import Derived.Test.YtaomfjgleddpdaaGreatR1
set_option linter.unusedVariables false
set_option linter.unusedSimpArgs false

/- KeysHolds: for every list of deeds and every Ask, whatever memory they lie in, the Go function KeysHolds (layer 1, promise P1.1) returns true and leaves its arguments as they read. Conditions: none. -/
namespace Go.Proofs.YtaomfjgleddpdaaGreat.RowKeysHolds
open Go.ChangeShapes Go.WideShapes Go.ChangeAt Go.RowKit
open Go.Proofs.YtaomfjgleddpdaaGreat

set_option maxRecDepth 100000 in
theorem lifted (os : Os) (started : os.Started) (H : Type) (enc : TypeId × Value → H) :
    ReturnsInHanded {} Tryz.checked os 6 .any (Rows.keysHoldsSpec.pre6 enc Tryz.prog Tryz.f6 Rows.keysHoldsRow.domain false) (Rows.keysHoldsSpec.post enc Tryz.prog Tryz.f6 false true false false) := by
  refine returnsInHanded_of_change (C := Tryz.checked) own started (by kernel_rfl) Tryz.func6
    (ChangeSpec.witness6 (enc := enc) (C := Tryz.checked) false ⟨#[], #[.slice none 0 0, .agg #[.int .i64 0, .int .i64 0, .int .i64 0, .int .i64 0]], []⟩ 8 (by kernel_rfl) (by kernel_rfl) (by kernel_rfl) (by kernel_rfl)) ?_
  intro W base args ds gs before hval0 hW hcnd _
  have hval : ∀ (j : Nat) t v, Tryz.f6.params[j]? = some t → args[j]? = some v → Value.okWide Tryz.prog W .any base t v := hval0
  have hW' := hW
  obtain ⟨p, q, hA0, hV, rfl, hfz, hnd⟩ := hW
  have hA : DataW.TrodAll enc Tryz.prog W 0 (fun _ => true) true Tryz.f6.params.toList args.toList ds p := hA0
  rw [Tryz.params6] at hA hval
  obtain ⟨v0, vs0, d0, ds0, p0, q0, hargs, rfl, rfl, h0, r0⟩ := trodAll_cons hA
  obtain ⟨v1, vs1, d1, ds1, p1, q1, rfl, rfl, rfl, h1, r1⟩ := trodAll_cons r0
  obtain ⟨rfl, rfl, rfl⟩ := trodAll_nil r1
  obtain rfl : args = #[v0, v1] := by cases args; simp_all
  obtain ⟨rfl, rfl⟩ := trodVars_none hV
  obtain ⟨a0, len0, cap0, rfl⟩ := okWide_slice Tryz.underlying22 (hval 0 22 v0 rfl rfl)
  have k0 := h0
  have lt0 : ∀ x ∈ p0, x.block < W.heap.size := by obtain ⟨m, hm⟩ := k0; exact DataW.trod_lt m _ _ _ hm
  obtain ⟨g0, m0, z0, w0⟩ : len0 ≤ cap0 ∧ cap0 ≤ maxLen ∧ ∃ ds, Ds W W.heap.size a0 len0 ds := by obtain ⟨fuel, hf⟩ := h0; exact deeds_of hf
  have k1 := h1
  have lt1 : ∀ x ∈ p1, x.block < W.heap.size := by obtain ⟨m, hm⟩ := k1; exact DataW.trod_lt m _ _ _ hm
  obtain ⟨x10, x11, x12, x13, rfl⟩ := ask_of (hval 1 59 v1 rfl rfl) h1
  clear hA0 hval0
  unfold maxLen at m0
  refine (w_KeysHolds z0 x10 x11 x12 x13 a0 len0 cap0 W (by omega) w0).mono fun e W' ⟨he, bel⟩ => ?_
  subst he
  exact ⟨_, rfl, _, _, _, [], _, [], hW', trodAll_mk1 (shut_bool Tryz.underlying4 _), (trodAll_cons_mk (Below.trod laidOut (by kernel_rfl) (of_decide_eq_true (by kernel_rfl)) k0 bel lt0) (trodAll_cons_mk (Below.trod laidOut (by kernel_rfl) (of_decide_eq_true (by kernel_rfl)) k1 bel lt1) trodAll_mk0)), rfl, bel.frame _, fun h => by cases h⟩

theorem over : Rows.keysHoldsRow.holds Tryz.pinned (OpenSpec.ofChange Rows.keysHoldsSpec) :=
  OpenClaim.holds_of_wide 6 Tryz.f6 rfl rfl rfl rfl rfl rfl rfl ⟨rfl, rfl, rfl, rfl, rfl⟩ rfl rfl rfl rfl rfl (by kernel_rfl) Tryz.func6 (by kernel_rfl)
    (of_decide_eq_true (by kernel_rfl)) (by unfold Func.isWrapper; first | (rw [if_pos (by decide +kernel)]; kernel_rfl) | (rw [if_neg (by decide +kernel)]; exact ⟨rfl, rfl⟩))
    (fun os started H enc _ => lifted os started H enc)

theorem proved : Rows.KeysHoldsSaid := over
end Go.Proofs.YtaomfjgleddpdaaGreat.RowKeysHolds

namespace Go.Proofs.YtaomfjgleddpdaaGreat
theorem keysHolds_holds : Rows.KeysHoldsSaid := RowKeysHolds.proved
end Go.Proofs.YtaomfjgleddpdaaGreat
