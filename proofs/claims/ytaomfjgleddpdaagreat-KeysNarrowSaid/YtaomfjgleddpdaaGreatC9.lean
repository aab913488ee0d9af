/- KeysNarrow: for every list of deeds, every three numbers and every Opening, whatever memory they lie in, the Go function KeysNarrow (layer 1, promise P1.7) returns true and leaves its arguments as they read. Conditions: none. -/
import Derived.Test.YtaomfjgleddpdaaGreatQ8
import Derived.Test.YtaomfjgleddpdaaGreatR2
import Derived.Test.YtaomfjgleddpdaaGreatR3
set_option linter.unusedVariables false
set_option linter.unusedSimpArgs false

/- KeysNarrow: for every list of deeds, every three numbers and every Opening, whatever memory they lie in, the Go function KeysNarrow (layer 1, promise P1.7) returns true and leaves its arguments as they read. Conditions: none. -/
namespace Go.Proofs.YtaomfjgleddpdaaGreat.RowKeysNarrow
open Go.ChangeShapes Go.WideShapes Go.ChangeAt Go.RowKit
open Go.Proofs.YtaomfjgleddpdaaGreat

set_option maxRecDepth 100000 in
theorem lifted (os : Os) (started : os.Started) (H : Type) (enc : TypeId × Value → H) :
    ReturnsInHanded {} Tryz.checked os 12 .any (Rows.keysNarrowSpec.pre6 enc Tryz.prog Tryz.f12 Rows.keysNarrowRow.domain false) (Rows.keysNarrowSpec.post enc Tryz.prog Tryz.f12 false true false false) := by
  refine returnsInHanded_of_change (C := Tryz.checked) own started (by kernel_rfl) Tryz.func12
    (ChangeSpec.witness6 (enc := enc) (C := Tryz.checked) false ⟨#[], #[.slice none 0 0, .agg #[.int .i64 0, .int .i64 0, .int .i64 0], .agg #[.slice none 0 0, .slice none 0 0, .int .i64 0, .int .i64 0]], []⟩ 8 (by kernel_rfl) (by kernel_rfl) (by kernel_rfl) (by kernel_rfl)) ?_
  intro W base args ds gs before hval0 hW hcnd _
  have hval : ∀ (j : Nat) t v, Tryz.f12.params[j]? = some t → args[j]? = some v → Value.okWide Tryz.prog W .any base t v := hval0
  have hW' := hW
  obtain ⟨p, q, hA0, hV, rfl, hfz, hnd⟩ := hW
  have hA : DataW.TrodAll enc Tryz.prog W 0 (fun _ => true) true Tryz.f12.params.toList args.toList ds p := hA0
  rw [Tryz.params12] at hA hval
  obtain ⟨v0, vs0, d0, ds0, p0, q0, hargs, rfl, rfl, h0, r0⟩ := trodAll_cons hA
  obtain ⟨v1, vs1, d1, ds1, p1, q1, rfl, rfl, rfl, h1, r1⟩ := trodAll_cons r0
  obtain ⟨v2, vs2, d2, ds2, p2, q2, rfl, rfl, rfl, h2, r2⟩ := trodAll_cons r1
  obtain ⟨rfl, rfl, rfl⟩ := trodAll_nil r2
  obtain rfl : args = #[v0, v1, v2] := by cases args; simp_all
  obtain ⟨rfl, rfl⟩ := trodVars_none hV
  obtain ⟨a0, len0, cap0, rfl⟩ := okWide_slice Tryz.underlying22 (hval 0 22 v0 rfl rfl)
  have k0 := h0
  have lt0 : ∀ x ∈ p0, x.block < W.heap.size := by obtain ⟨m, hm⟩ := k0; exact DataW.trod_lt m _ _ _ hm
  obtain ⟨g0, m0, z0, w0⟩ : len0 ≤ cap0 ∧ cap0 ≤ maxLen ∧ ∃ ds, Ds W W.heap.size a0 len0 ds := by obtain ⟨fuel, hf⟩ := h0; exact deeds_of hf
  have k1 := h1
  have lt1 : ∀ x ∈ p1, x.block < W.heap.size := by obtain ⟨m, hm⟩ := k1; exact DataW.trod_lt m _ _ _ hm
  obtain ⟨x10, x11, x12, rfl⟩ := three_of (hval 1 91 v1 rfl rfl) h1
  have k2 := h2
  have lt2 : ∀ x ∈ p2, x.block < W.heap.size := by obtain ⟨m, hm⟩ := k2; exact DataW.trod_lt m _ _ _ hm
  obtain ⟨a2, len2, cap2, b2, lem2, cam2, x20, x21, rfl, ⟨g2, m2, z2, w2⟩, ⟨gg2, mm2, zz2, ww2⟩⟩ := opening_of (hval 2 73 v2 rfl rfl) h2
  clear hA0 hval0
  unfold maxLen at m0 m2 mm2
  refine (w_KeysNarrow z0 z2 x10 x11 x12 x20 x21 a0 a2 b2 len0 cap0 len2 cap2 lem2 cam2 W (by omega) (by omega) w0 w2).mono fun e W' ⟨he, bel⟩ => ?_
  subst he
  exact ⟨_, rfl, _, _, _, [], _, [], hW', trodAll_mk1 (shut_bool Tryz.underlying4 _), (trodAll_cons_mk (Below.trod laidOut (by kernel_rfl) (of_decide_eq_true (by kernel_rfl)) k0 bel lt0) (trodAll_cons_mk (Below.trod laidOut (by kernel_rfl) (of_decide_eq_true (by kernel_rfl)) k1 bel lt1) (trodAll_cons_mk (Below.trod laidOut (by kernel_rfl) (of_decide_eq_true (by kernel_rfl)) k2 bel lt2) trodAll_mk0))), rfl, bel.frame _, fun h => by cases h⟩

theorem over : Rows.keysNarrowRow.holds Tryz.pinned (OpenSpec.ofChange Rows.keysNarrowSpec) :=
  OpenClaim.holds_of_wide 12 Tryz.f12 rfl rfl rfl rfl rfl rfl rfl ⟨rfl, rfl, rfl, rfl, rfl⟩ rfl rfl rfl rfl rfl (by kernel_rfl) Tryz.func12 (by kernel_rfl)
    (of_decide_eq_true (by kernel_rfl)) (by unfold Func.isWrapper; first | (rw [if_pos (by decide +kernel)]; kernel_rfl) | (rw [if_neg (by decide +kernel)]; exact ⟨rfl, rfl⟩))
    (fun os started H enc _ => lifted os started H enc)

theorem proved : Rows.KeysNarrowSaid := over
end Go.Proofs.YtaomfjgleddpdaaGreat.RowKeysNarrow

namespace Go.Proofs.YtaomfjgleddpdaaGreat
theorem keysNarrow_holds : Rows.KeysNarrowSaid := RowKeysNarrow.proved
end Go.Proofs.YtaomfjgleddpdaaGreat
