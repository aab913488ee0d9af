import Derived.Test.YtaomfjgleddpdaaGreatT2
import Derived.Test.YtaomfjgleddpdaaGreatP6
set_option linter.unusedVariables false
set_option linter.unusedSimpArgs false

/- Show: the opening is, by the days that it returns, as it was asked for. -/
namespace Go.Proofs.YtaomfjgleddpdaaGreat
open Go.RowKit

/-- How many deeds of each thread have happened, as the map says; all, where it says nothing. -/
def hapH (c : List Deed) (D : List ((Int × Int) × Value)) (nm : Nm) : Nat := match getG D nm with
  | some (.int _ i) => i.toNat
  | _ => (thr c nm).length
theorem off_last {l : List (Nat × St)} {b : Bool} {v : Value} (h : offL l b = some v) : ∃ x ∈ l, x.2.office = b ∧ v = .int .i64 (x.1 : Int) := by
  unfold offL at h
  cases hg : (l.filter fun x => x.2.office == b).getLast? with
  | none => rw [hg] at h; cases h
  | some x =>
    rw [hg] at h
    have hm := List.mem_of_getLast? hg
    obtain ⟨h1, h2⟩ := List.mem_filter.1 hm
    refine ⟨x, h1, by simpa using h2, ?_⟩
    have h3 : Value.int .i64 (x.1 : Int) = v := by simpa using h
    exact h3.symm
theorem show_lock {c : List Deed} {L : List (Int × Value)} {a b d : St} {i1 i2 i3 day : Int} {q : Int} {x : Nat × St} (hq : 1 ≤ q) (hq3 : q ≤ 3) (hx : x ∈ stsL (thr c (q, 0)) day) (hi : i3f i1 i2 i3 (q - 1).toNat = (x.1 : Int)) :
    stT c (shwL c (hapH c (hapN L a b d i1 i2 i3 3))) (q, 0) day = x.2 := by
  refine shw_st hx ?_
  unfold hapH
  rw [hap_lock L a b d i1 i2 i3 q hq 3, if_pos (by simpa using hq3), hi]
  simp
theorem show_off {c : List Deed} (hok : ∀ e ∈ c, e.okB = true) (hc : clF c = false) {L : List (Int × Value)} {a b d : St} {i1 i2 i3 day : Int} {law : Bool} {p : Int} (hL : getG L p = offL (stsL (thr c (0, p)) day) law) (hp : ∃ j, j < 3 ∧ (st3 a b d j).holder = p) :
    (stT c (shwL c (hapH c (hapN L a b d i1 i2 i3 3))) (0, p) day).office = (if offB c day law p then law else !law) := by
  have hg : getG (hapN L a b d i1 i2 i3 3) (0, p) = offL (stsL (thr c (0, p)) day) law := by
    rw [hap_pers, if_pos hp, hL]
  have hs := stT_sts hok (shw_true hok hc (hapH c (hapN L a b d i1 i2 i3 3))) (0, p) day
  cases ho : offL (stsL (thr c (0, p)) day) law with
  | none =>
    have h1 : offB c day law p = false := by
      have h2 := offL_some (stsL (thr c (0, p)) day) law
      rw [ho] at h2
      unfold offB
      exact h2.symm
    rw [h1, if_neg (by simp)]
    unfold offB at h1
    rw [List.any_eq_false] at h1
    have h3 := h1 _ hs
    simp only at h3
    cases hv : (stT c (shwL c (hapH c (hapN L a b d i1 i2 i3 3))) (0, p) day).office <;> cases law <;> simp [hv] at h3 ⊢
  | some v =>
    have h1 : offB c day law p = true := by
      have h2 := offL_some (stsL (thr c (0, p)) day) law
      rw [ho] at h2
      unfold offB
      exact h2.symm
    rw [h1, if_pos rfl]
    obtain ⟨x, hx, hxo, hv⟩ := off_last ho
    rw [shw_st hx ?_]
    · exact hxo
    · unfold hapH
      rw [hg, ho, hv]
      simp
theorem show_law {c : List Deed} (hok : ∀ e ∈ c, e.okB = true) (hc : clF c = false) {ps : List Int} {day : Int} {law : Bool} {x : Sc} {L : List (Int × Value)} (hx : x ∈ scnL (thr c (1, 0)) (thr c (2, 0)) (thr c (3, 0)) day)
    (hcn : condB (offB c day law) ps law x = true) (hL : ∀ p : Int, 0 ≤ p → p ≤ 99 → getG L p = offL (stsL (thr c (0, p)) day) law) :
    truB c (shwL c (hapH c (hapN L x.1.2 x.2.1.2 x.2.2.2 x.1.1 x.2.1.1 x.2.2.1 3))) ps day = law := by
  obtain ⟨⟨n1, a⟩, ⟨n2, b⟩, ⟨n3, d⟩⟩ := x
  obtain ⟨h1, h2, h3⟩ := mem_scn hx
  simp only at h1 h2 h3 hcn ⊢
  have e1 : stT c (shwL c (hapH c (hapN L a b d n1 n2 n3 3))) (1, 0) day = a := show_lock (x := (n1, a)) (by omega) (by omega) h1 rfl
  have e2 : stT c (shwL c (hapH c (hapN L a b d n1 n2 n3 3))) (2, 0) day = b := show_lock (x := (n2, b)) (by omega) (by omega) h2 rfl
  have e3 : stT c (shwL c (hapH c (hapN L a b d n1 n2 n3 3))) (3, 0) day = d := show_lock (x := (n3, d)) (by omega) (by omega) h3 rfl
  have hr : ∀ {k : Int} {y : Nat × St}, y ∈ stsL (thr c (k, 0)) day → 0 ≤ y.2.holder ∧ y.2.holder ≤ 99 := fun hy => ((sts_okP (thr_ok hok _) hy).2).1
  obtain ⟨ra, ra'⟩ := hr h1
  obtain ⟨rb, rb'⟩ := hr h2
  obtain ⟨rd, rd'⟩ := hr h3
  have o1 := show_off hok hc (L := L) (a := a) (b := b) (d := d) (i1 := n1) (i2 := n2) (i3 := n3) (p := a.holder) (hL _ ra ra') ⟨0, by omega, rfl⟩
  have o2 := show_off hok hc (L := L) (a := a) (b := b) (d := d) (i1 := n1) (i2 := n2) (i3 := n3) (p := b.holder) (hL _ rb rb') ⟨1, by omega, rfl⟩
  have o3 := show_off hok hc (L := L) (a := a) (b := b) (d := d) (i1 := n1) (i2 := n2) (i3 := n3) (p := d.holder) (hL _ rd rd') ⟨2, by omega, rfl⟩
  unfold truB
  rw [e1, e2, e3, o1, o2, o3]
  unfold condB soN soN soN soN at hcn
  have s1 : (st3 a b d 0).holder = a.holder := rfl
  have s2 : (st3 a b d 1).holder = b.holder := rfl
  have s3 : (st3 a b d 2).holder = d.holder := rfl
  rw [s1, s2, s3] at hcn
  revert hcn
  generalize openB a b d ps = op
  generalize offB c day law a.holder = x1
  generalize offB c day law b.holder = x2
  generalize offB c day law d.holder = x3
  revert op x1 x2 x3
  cases law <;> decide

end Go.Proofs.YtaomfjgleddpdaaGreat

/- Show over the map of threads: plain facts. -/
namespace Go.Proofs.YtaomfjgleddpdaaGreat
open Go.RowKit Go.Maps

/-- The days of the threads that have been settled. -/
def SInv (c : List Deed) (H : Nm → Nat) (pre : List MapEntry) (ys : List Int) : Prop :=
  ys.length = c.length ∧ ∀ e ∈ pre, ∀ l p, e.key = nk l p → ∀ q x, (sub c (l, p))[q]? = some x → ys[x.2]? = some (setI (thr c (l, p)) (H (l, p)) q)
theorem SInv.step {c : List Deed} {H : Nm → Nat} {pre : List MapEntry} {ys : List Int} (h : SInv c H pre ys) {e : MapEntry} {l p : Int} (he : e.key = nk l p) : SInv c H (pre ++ [e]) (updN (sub c (l, p)) (H (l, p)) ys (sub c (l, p)).length) := by
  obtain ⟨h1, h2⟩ := h
  have hat : ∀ q x, (sub c (l, p))[q]? = some x → (updN (sub c (l, p)) (H (l, p)) ys (sub c (l, p)).length)[x.2]? = some (setI (thr c (l, p)) (H (l, p)) q) := fun q x hx =>
    updN_at (sub_rise c (l, p)) (fun y hy => by rw [h1]; exact (List.getElem?_eq_some_iff.1 (sub_mem.1 hy).1).1) hx _ (List.getElem?_eq_some_iff.1 hx).1
  refine ⟨by rw [updN_len, h1], fun e' he' l' p' hk q x hx => ?_⟩
  by_cases hnm : (l', p') = (l, p)
  · simp only [Prod.mk.injEq] at hnm
    obtain ⟨rfl, rfl⟩ := hnm
    exact hat q x hx
  · rcases List.mem_append.1 he' with h3 | h3
    · rw [updN_other]
      · exact h2 e' h3 l' p' hk q x hx
      · intro q' y _ hy hyx
        obtain ⟨g1, g2⟩ := sub_mem.1 (List.mem_of_getElem? hx)
        obtain ⟨g3, g4⟩ := sub_mem.1 (List.mem_of_getElem? hy)
        rw [hyx, g1] at g3
        have g5 : x.1 = y.1 := Option.some.inj g3
        exact hnm (g2.symm.trans ((congrArg nmD g5).trans g4))
    · rw [List.mem_singleton] at h3
      subst h3
      rw [he] at hk
      have h4 := nk_inj hk
      exact absurd h4.symm hnm
theorem SInv.done {c : List Deed} {H : Nm → Nat} {pre : List MapEntry} {ys : List Int} (h : SInv c H pre ys) {w : World} {lo B bm clock : Nat} {es : Array MapEntry} (hR : ThR w lo B bm (sub c)) (hb : w.heap[bm]? = some (.map es clock)) (hp : pre.Perm es.toList) : ys = shwL c H := by
  apply List.ext_getElem?
  intro i
  by_cases hi : i < c.length
  · obtain ⟨d, hd⟩ : ∃ d, c[i]? = some d := ⟨_, List.getElem?_eq_getElem hi⟩
    have hs := sub_pos hd
    obtain ⟨e, he, hk⟩ := thr_there hR hb (n := nmD d) (fun e => by rw [e] at hs; simp at hs)
    rw [shwL_at hd]
    exact h.2 e (hp.mem_iff.2 he) _ _ hk _ _ hs
  · rw [List.getElem?_eq_none (by rw [h.1]; omega), List.getElem?_eq_none (by simp [shwL]; omega)]
theorem SInv.start (c : List Deed) (H : Nm → Nat) : SInv c H [] (List.replicate c.length 0) := ⟨by simp, fun e he => by simp at he⟩
/-- What is in the map of what has happened are numbers. -/
theorem hap_val {L : List (Int × Value)} {a b c : St} {n1 n2 n3 : Nat} (hL : ∀ j, j < 3 → ∀ v, getG L (st3 a b c j).holder = some v → ∃ n : Nat, v = .int .i64 (n : Int)) :
    ∀ k, k ≤ 3 → ∀ nm v, getG (hapN L a b c n1 n2 n3 k) nm = some v → ∃ n : Nat, v = .int .i64 (n : Int)
  | 0 => fun _ nm v h => by cases h
  | k + 1 => fun hk nm v h => by
    have ih := hap_val hL (n1 := n1) (n2 := n2) (n3 := n3) k (by omega)
    have h1 : ∀ nm v, getG (putG (hapN L a b c n1 n2 n3 k) ((k : Int) + 1, 0) (.int .i64 (i3f n1 n2 n3 k))) nm = some v → ∃ n : Nat, v = .int .i64 (n : Int) := fun nm v h => by
      rw [getG_put] at h
      split at h
      · cases h
        unfold i3f
        split
        · exact ⟨_, rfl⟩
        · split <;> exact ⟨_, rfl⟩
      · exact ih nm v h
    cases hg : getG L (st3 a b c k).holder with
    | none => rw [hap_none hg] at h; exact h1 nm v h
    | some u =>
      rw [hap_some hg, getG_put] at h
      split at h
      · have e : u = v := Option.some.inj h
        exact hL k (by omega) v (e ▸ hg)
      · exact h1 nm v h
theorem hapH_some {c : List Deed} {D : List ((Int × Int) × Value)} {nm : Nm} {n : Nat} (h : getG D nm = some (.int .i64 (n : Int))) : hapH c D nm = n := by
  unfold hapH
  rw [h]
  simp
theorem hapH_none {c : List Deed} {D : List ((Int × Int) × Value)} {nm : Nm} (h : getG D nm = none) : hapH c D nm = (sub c nm).length := by
  unfold hapH
  rw [h]
  simp [thr]
theorem thr_wf {w : World} {lo B bm clock : Nat} {S : Nm → TL} {es : Array MapEntry} (hR : ThR w lo B bm S) (hb : w.heap[bm]? = some (.map es clock)) {e : MapEntry} (he : e ∈ es.toList) {l p : Int} (hk : e.key = nk l p) : wf2 l p := by
  obtain ⟨L, hM, _⟩ := hR.ex
  obtain ⟨es', clock', hb', hm⟩ := hM.ex
  rw [hb] at hb'
  cases hb'
  have h1 : (e.key, e.val) ∈ L.map fun x => (nk x.1.1 x.1.2, x.2) := by rw [← hm]; exact List.mem_map.2 ⟨e, he, rfl⟩
  obtain ⟨x, hx, ex⟩ := List.mem_map.1 h1
  simp only [Prod.mk.injEq] at ex
  have h2 := nk_inj (ex.1.trans hk)
  simp only [Prod.mk.injEq] at h2
  have h3 := hM.wf x hx
  rwa [h2.1, h2.2] at h3

end Go.Proofs.YtaomfjgleddpdaaGreat
