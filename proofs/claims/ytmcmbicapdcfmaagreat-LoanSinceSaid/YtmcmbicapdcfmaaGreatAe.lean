/- Layer 2, plain: what a made ledger is, and that it is valid. -/
import Derived.Test.YtmcmbicapdcfmaaGreatEx
set_option linter.unusedVariables false
set_option linter.unusedSimpArgs false
namespace Go.Proofs.YtmcmbicapdcfmaaGreat
open Go.RowKit Go.Maps

theorem Below.then_ {w W w1 : World} (h : Below w.heap.size w W) (hb : Below W.heap.size W w1) : Below w.heap.size w w1 := h.trans (hb.mono h.size)
theorem wrap_in {a : Int} (h0 : -1000000 ≤ a) (h1 : a ≤ 1000000) : IntKind.i64.wrap a = a := IntWalk.i64_in _ (by omega)
/-- The papers of a made ledger. -/
def mPp : List Ppr := [⟨1, 4⟩, ⟨2, 3⟩, ⟨5, 2⟩]
/-- Leaves from 1 to n, rising, at least one. -/
structure BitsOk (n : Int) (l : List Int) : Prop where
  ne : 0 < l.length
  up : l.Pairwise (· < ·)
  lo : ∀ x ∈ l, 1 ≤ x ∧ x ≤ n
structure RcMk (d : Int) (k : Nat) (r : Rcp) : Prop where
  src : r.src = 3 * (k : Int) + 1
  bor : 1 ≤ r.bor ∧ r.bor ≤ 4
  pap : ∃ p ∈ mPp, r.pap = p.id ∧ BitsOk p.lv r.lv
  day : 0 ≤ r.day ∧ r.day ≤ d
  kn : r.day ≤ r.kn ∧ r.kn ≤ r.day + 4
  un : r.un = 0
structure RtMk (R : List Rcp) (k : Nat) (t : Rtn) (at_ : Int) : Prop where
  src : t.src = 3 * (k : Int) + 2
  rcp : ∃ r ∈ R, t.rcp = r.src ∧ r.day ≤ at_ ∧ at_ ≤ r.day + 29
  per : 1 ≤ t.per ∧ t.per ≤ 4
  lv : ∃ n : Int, n ≤ 4 ∧ BitsOk n t.lv
  day : 0 ≤ t.lo ∧ t.lo ≤ at_ ∧ at_ ≤ t.hi ∧ t.hi ≤ 200
  kn : t.hi ≤ t.kn ∧ t.kn ≤ 210
  un : t.un = 0
structure SgMk (k : Nat) (s : Sgt) : Prop where
  src : s.src = 3 * (k : Int) + 3
  per : 0 ≤ s.per ∧ s.per ≤ 4
  pap : ∃ p ∈ mPp, s.pap = p.id ∧ 1 ≤ s.leaf ∧ s.leaf ≤ p.lv
  day : 0 ≤ s.day ∧ s.day ≤ 300
  kn : s.day ≤ s.kn ∧ s.kn ≤ 400
  un : s.un = 0
/-- A ledger in the making: receipts, returns and sights so far. -/
structure MkOk (d : Int) (l : Led) (days : List Int) : Prop where
  pp : l.pp = mPp
  dd : d ≤ 160
  rl : l.rc.length ≤ 8
  tl : l.rt.length ≤ 8
  sl : l.sg.length ≤ 6
  rc : ∀ k r, l.rc[k]? = some r → RcMk d k r
  rt : ∀ k t, l.rt[k]? = some t → ∃ y, days[k]? = some y ∧ RtMk l.rc k t y
  sg : ∀ k s, l.sg[k]? = some s → SgMk k s
  dl : days.length = l.rt.length
theorem idx_all {α : Type} {l : List α} {P : α → Prop} (h : ∀ (k : Nat) x, l[k]? = some x → P x) : ∀ x ∈ l, P x := fun x hx => by
  obtain ⟨k, hk, rfl⟩ := List.mem_iff_getElem.1 hx
  exact h k _ (List.getElem?_eq_getElem hk)
theorem idx_up {α : Type} {l : List α} {f : α → Int} {a b : Int} (hb : 0 < a) (h : ∀ (k : Nat) x, l[k]? = some x → f x = a * (k : Int) + b) : l.Pairwise fun x y => f x < f y := by
  rw [List.pairwise_iff_getElem]
  intro i j hi hj hij
  have h1 := h i _ (List.getElem?_eq_getElem hi)
  have h2 := h j _ (List.getElem?_eq_getElem hj)
  rw [h1, h2]
  have h3 : a * (i : Int) < a * (j : Int) := Int.mul_lt_mul_of_pos_left (by omega) hb
  omega
theorem bits_ok {n : Int} {l : List Int} (h : BitsOk n l) (hn : n ≤ 4) : leavesB l = true := by
  have h2 : l.length ≤ 4 := by
    have h3 : ∀ (i : Nat) (hi : i < l.length), (i : Int) + 1 ≤ l[i] := by
      intro i
      induction i with
      | zero => intro hi; have := (h.lo _ (List.getElem_mem hi)).1; omega
      | succ i ih =>
        intro hi
        have h4 := ih (by omega)
        have h5 := List.pairwise_iff_getElem.1 h.up i (i + 1) (by omega) hi (by omega)
        omega
    rcases Nat.eq_zero_or_pos l.length with h0 | h0
    · omega
    · have h4 := h3 (l.length - 1) (by omega)
      have h5 := (h.lo _ (List.getElem_mem (show l.length - 1 < l.length by omega))).2
      omega
  rw [leavesB, Bool.and_eq_true]
  refine ⟨by simpa using h.ne, val_mk (by omega) (fun x hx => ?_) (by simpa using h.up)⟩
  have := h.lo x hx
  simp [leafB, withinB]
  omega
theorem mem_pp {p : Ppr} (h : p ∈ mPp) : (p.id = 1 ∧ p.lv = 4) ∨ (p.id = 2 ∧ p.lv = 3) ∨ (p.id = 5 ∧ p.lv = 2) := by
  simp only [mPp, List.mem_cons, List.not_mem_nil, or_false] at h
  rcases h with rfl | rfl | rfl <;> simp
theorem lv_pp {p : Ppr} (h : p ∈ mPp) : lvOf mPp p.id = p.lv := by
  rcases mem_pp h with ⟨h1, h2⟩ | ⟨h1, h2⟩ | ⟨h1, h2⟩ <;> rw [h1, h2] <;> rfl
theorem MkOk.led {d : Int} {l : Led} {days : List Int} (h : MkOk d l days) : ledB l = true := by
  have hd := h.dd
  simp only [ledB, Bool.and_eq_true, decide_eq_true_eq]
  refine ⟨by rw [h.pp]; decide, val_mk (by have := h.rl; omega) (idx_all fun k r hr => ?_) (idx_up (a := 3) (b := 1) (by decide) fun k r hr => (h.rc k r hr).src), val_mk (by have := h.tl; omega) (idx_all fun k t ht => ?_) (idx_up (a := 3) (b := 2) (by decide) fun k t ht => by obtain ⟨y, -, hy⟩ := h.rt k t ht; exact hy.src), val_mk (by have := h.sl; omega) (idx_all fun k s hs => ?_) (idx_up (a := 3) (b := 3) (by decide) fun k s hs => (h.sg k s hs).src), ?_, ?_⟩
  · have hk : k < l.rc.length := (List.getElem?_eq_some_iff.1 hr).1
    have hrl := h.rl
    obtain ⟨h1, h2, ⟨p, hp, h3, h4⟩, h5, h6, h7⟩ := h.rc k r hr
    have hlv : leavesB r.lv = true := bits_ok h4 (by rcases mem_pp hp with ⟨-, e⟩ | ⟨-, e⟩ | ⟨-, e⟩ <;> omega)
    have hpi : 1 ≤ r.pap ∧ r.pap ≤ 5 := by rcases mem_pp hp with ⟨e, -⟩ | ⟨e, -⟩ | ⟨e, -⟩ <;> omega
    simp only [true_and, and_true, true_or, Rcp.okB, withinB, lastsB, hlv, h7, Bool.and_eq_true, Bool.or_eq_true, decide_eq_true_eq]
    omega
  · have hk : k < l.rt.length := (List.getElem?_eq_some_iff.1 ht).1
    have htl := h.tl
    obtain ⟨y, -, h1, ⟨r, hr, h2, -⟩, h3, ⟨n, hn, h4⟩, h5, h6, h7⟩ := h.rt k t ht
    have hlv : leavesB t.lv = true := bits_ok h4 hn
    obtain ⟨j, hj, he⟩ := List.mem_iff_getElem.1 hr
    have hs := (h.rc j r (by rw [← he]; exact List.getElem?_eq_getElem hj)).src
    have hrl := h.rl
    simp only [true_and, and_true, true_or, Rtn.okB, withinB, rangeB, lastsB, hlv, h7, Bool.and_eq_true, Bool.or_eq_true, decide_eq_true_eq]
    omega
  · have hk : k < l.sg.length := (List.getElem?_eq_some_iff.1 hs).1
    have hsl := h.sl
    obtain ⟨h1, h2, ⟨p, hp, h3, h4⟩, h5, h6, h7⟩ := h.sg k s hs
    have hpi : 1 ≤ s.pap ∧ s.pap ≤ 5 ∧ s.leaf ≤ 4 := by rcases mem_pp hp with ⟨e, f⟩ | ⟨e, f⟩ | ⟨e, f⟩ <;> omega
    simp only [true_and, and_true, true_or, Sgt.okB, withinB, lastsB, h7, Bool.and_eq_true, Bool.or_eq_true, decide_eq_true_eq]
    omega
  · have a1 : (l.rc.map Rcp.src).Nodup := by
      rw [List.nodup_iff_pairwise_ne, List.pairwise_map]
      exact (idx_up (f := Rcp.src) (a := 3) (b := 1) (by decide) fun k r hr => (h.rc k r hr).src).imp fun h => by omega
    have a2 : (l.rt.map Rtn.src).Nodup := by
      rw [List.nodup_iff_pairwise_ne, List.pairwise_map]
      exact (idx_up (f := Rtn.src) (a := 3) (b := 2) (by decide) fun k t ht => by obtain ⟨y, -, hy⟩ := h.rt k t ht; exact hy.src).imp fun h => by omega
    have a3 : (l.sg.map Sgt.src).Nodup := by
      rw [List.nodup_iff_pairwise_ne, List.pairwise_map]
      exact (idx_up (f := Sgt.src) (a := 3) (b := 3) (by decide) fun k s hs => (h.sg k s hs).src).imp fun h => by omega
    have m1 : ∀ x ∈ l.rc.map Rcp.src, x % 3 = 1 := fun x hx => by
      obtain ⟨r, hr, rfl⟩ := List.mem_map.1 hx
      exact idx_all (P := fun r => r.src % 3 = 1) (fun k r hr => by rw [(h.rc k r hr).src]; omega) r hr
    have m2 : ∀ x ∈ l.rt.map Rtn.src, x % 3 = 2 := fun x hx => by
      obtain ⟨r, hr, rfl⟩ := List.mem_map.1 hx
      exact idx_all (P := fun r => r.src % 3 = 2) (fun k r hr => by obtain ⟨y, -, hy⟩ := h.rt k r hr; rw [hy.src]; omega) r hr
    have m3 : ∀ x ∈ l.sg.map Sgt.src, x % 3 = 0 := fun x hx => by
      obtain ⟨r, hr, rfl⟩ := List.mem_map.1 hx
      exact idx_all (P := fun r => r.src % 3 = 0) (fun k r hr => by rw [(h.sg k r hr).src]; omega) r hr
    rw [srcL, List.nodup_append]
    refine ⟨a1, List.nodup_append.2 ⟨a2, a3, fun x hx y hy e => ?_⟩, fun x hx y hy e => ?_⟩
    · have := m2 x hx; have := m3 y hy; omega
    · have q1 := m1 x hx
      rcases List.mem_append.1 hy with hy | hy
      · have := m2 y hy; omega
      · have := m3 y hy; omega
  · rw [h.pp, folsB, List.all_eq_true]
    intro f hf
    simp only [namL, List.mem_append, List.mem_flatMap, List.mem_map] at hf
    have g : ∀ (p : Ppr) (x : Int), p ∈ mPp → 1 ≤ x → x ≤ p.lv → folB mPp p.id x = true := fun p x hp h1 h2 => by
      rw [folB, lv_pp hp]
      simp [withinB, h1, h2]
    rcases hf with ⟨r, hr, hf⟩ | ⟨s, hs, rfl⟩
    · simp only [rcFol, List.mem_map] at hf
      obtain ⟨x, hx, rfl⟩ := hf
      obtain ⟨k, hk, he⟩ := List.mem_iff_getElem.1 hr
      obtain ⟨p, hp, h3, h4⟩ := (h.rc k r (by rw [← he]; exact List.getElem?_eq_getElem hk)).pap
      dsimp only
      rw [h3]
      exact g p x hp (h4.lo x hx).1 (h4.lo x hx).2
    · obtain ⟨k, hk, he⟩ := List.mem_iff_getElem.1 hs
      obtain ⟨p, hp, h3, h4, h5⟩ := (h.sg k s (by rw [← he]; exact List.getElem?_eq_getElem hk)).pap
      dsimp only
      rw [h3]
      exact g p _ hp h4 h5
theorem RcMk.mono {d d' : Int} {k : Nat} {r : Rcp} (h : RcMk d k r) (hd : d ≤ d') : RcMk d' k r := ⟨h.src, h.bor, h.pap, ⟨h.day.1, by have := h.day.2; omega⟩, h.kn, h.un⟩
theorem snoc_at {α : Type} {l : List α} {x y : α} {k : Nat} (h : (l ++ [x])[k]? = some y) : l[k]? = some y ∨ (k = l.length ∧ y = x) := by
  by_cases hk : k < l.length
  · rw [List.getElem?_append_left hk] at h; exact .inl h
  · rw [List.getElem?_append_right (by omega)] at h
    by_cases h0 : k - l.length = 0
    · rw [h0] at h
      exact .inr ⟨by omega, (Option.some.inj h).symm⟩
    · rw [List.getElem?_eq_none (by simp; omega)] at h; cases h
/-- One receipt more. -/
theorem MkOk.addR {d d' : Int} {pp : List Ppr} {rc : List Rcp} {sg : List Sgt} {r : Rcp} (h : MkOk d ⟨pp, rc, [], sg⟩ []) (hd : d ≤ d') (hdd : d' ≤ 160) (hl : rc.length < 8) (hr : RcMk d' rc.length r) : MkOk d' ⟨pp, rc ++ [r], [], sg⟩ [] :=
  ⟨h.pp, hdd, by simp; omega, h.tl, h.sl, fun k x hx => by
    rcases snoc_at hx with hx | ⟨rfl, rfl⟩
    · exact (h.rc k x hx).mono hd
    · exact hr, fun k t ht => by simp at ht, h.sg, h.dl⟩
theorem MkOk.addT {d : Int} {pp : List Ppr} {rc : List Rcp} {rt : List Rtn} {sg : List Sgt} {days : List Int} {t : Rtn} {y : Int} (h : MkOk d ⟨pp, rc, rt, sg⟩ days) (hl : rt.length < 8) (ht : RtMk rc rt.length t y) : MkOk d ⟨pp, rc, rt ++ [t], sg⟩ (days ++ [y]) :=
  ⟨h.pp, h.dd, h.rl, by simp; omega, h.sl, h.rc, fun k x hx => by
    have hdl := h.dl
    dsimp only at hdl
    rcases snoc_at hx with hx | ⟨rfl, rfl⟩
    · obtain ⟨z, hz, hz2⟩ := h.rt k x hx
      exact ⟨z, by rw [List.getElem?_append_left (List.getElem?_eq_some_iff.1 hz).1]; exact hz, hz2⟩
    · exact ⟨y, by rw [← hdl]; simp, ht⟩, h.sg, by have := h.dl; simp_all⟩
theorem MkOk.addS {d : Int} {pp : List Ppr} {rc : List Rcp} {rt : List Rtn} {sg : List Sgt} {days : List Int} {s : Sgt} (h : MkOk d ⟨pp, rc, rt, sg⟩ days) (hl : sg.length < 6) (hs : SgMk sg.length s) : MkOk d ⟨pp, rc, rt, sg ++ [s]⟩ days :=
  ⟨h.pp, h.dd, h.rl, h.tl, by simp; omega, h.rc, h.rt, fun k x hx => by
    rcases snoc_at hx with hx | ⟨rfl, rfl⟩
    · exact h.sg k x hx
    · exact hs, h.dl⟩
/-- With whom a leaf is by a made ledger: nobody, or one of four. -/
theorem MkOk.who {d : Int} {l : Led} {days : List Int} (h : MkOk d l days) (kn day pap leaf : Int) (D : List Int) : 0 ≤ whoF l kn day D pap leaf ∧ whoF l kn day D pap leaf ≤ 4 := by
  have g : ∀ (rs : List Rcp) (s : Int × Int × Int), (∀ r ∈ rs, 0 ≤ r.bor ∧ r.bor ≤ 4) → 0 ≤ s.1 ∧ s.1 ≤ 4 → 0 ≤ (rs.foldl (stayStep (opnL l kn).M leaf day) s).1 ∧ (rs.foldl (stayStep (opnL l kn).M leaf day) s).1 ≤ 4 := by
    intro rs
    induction rs with
    | nil => intro s _ h; exact h
    | cons r rs ih =>
      intro s hr hs
      refine ih _ (fun q hq => hr q (List.mem_cons_of_mem _ hq)) ?_
      unfold stayStep
      split
      · exact hs
      · exact hr r (List.mem_cons_self ..)
  have h2 : 0 ≤ (stayP (opnL l kn).M (cntR l kn) pap leaf day).1 ∧ (stayP (opnL l kn).M (cntR l kn) pap leaf day).1 ≤ 4 := by
    refine g _ _ (fun r hr => ?_) (by decide)
    have hr2 : r ∈ l.rc := (List.mem_filter.1 (List.mem_filter.1 hr).1).1
    obtain ⟨k, hk, he⟩ := List.mem_iff_getElem.1 hr2
    have := (h.rc k r (by rw [← he]; exact List.getElem?_eq_getElem hk)).bor
    omega
  unfold whoF
  split
  · exact h2
  · decide
end Go.Proofs.YtmcmbicapdcfmaaGreat
