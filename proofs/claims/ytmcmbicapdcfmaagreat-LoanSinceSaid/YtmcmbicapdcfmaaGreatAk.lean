/- Layer 2: a drawn region that is walked with its operations, and what comes behind it, out of sight. -/
import Derived.Test.YtmcmbicapdcfmaaGreatAi
import Derived.Deep.RegionHeld3
set_option linter.unusedVariables false
set_option linter.unusedSimpArgs false
namespace Go.Proofs.YtmcmbicapdcfmaaGreat
open Go.RowKit Go.Maps

section
variable {P : Program} {md : Region.Mode} {S : World → Prop} {L L0 : Array Oper} {Q Q0 : Exit → Act → World → Prop}
/-- A panic does not look at the frame. -/
def PanicOk (Q : Exit → Act → World → Prop) : Prop := ∀ (c : _) (a : Act) (k : Tmp) (v : Value) (w : World), Q (.panic c) (Act.put a (some k) v) w → Q (.panic c) a w
theorem PanicOk.all {Q : Exit → Act → World → Prop} (h : PanicOk Q) : ∀ (c : _) (a : Act) (d : Option Tmp) (v : Value) (w : World), Q (.panic c) (Act.put a d v) w → Q (.panic c) a w := fun c a d v w hq => by
  cases d with
  | none => exact hq
  | some k => exact h c a k v w hq
theorem wpAnyH_abs {fuel : Nat} {listed : Array Bool} {a : Act} {w : World} (hp : PanicOk Q0) (hs : Region.noSelect L0 = true)
    (h : ∀ (L : Array Oper) (Q : Exit → Act → World → Prop), Hid (L = L0) → Hid (Q = Q0) → Hid (PanicOk Q) → Hid (Region.noSelect L = true) → wpAnyH P md L Q S fuel listed a w) : wpAnyH P md L0 Q0 S fuel listed a w :=
  h L0 Q0 rfl rfl hp hs
theorem wpAnyH_takeL {i : Nat} {oi : Oper} {v : Value} {fuel : Nat} {listed : Array Bool} {a : Act} {w : World} (hL : Hid (L = L0)) (hQ : Hid (PanicOk Q)) (hs : Hid (Region.noSelect L = true))
    (hi : L0[i]? = some oi) (hf : Region.free md L0 listed i = true) (hr : (Region.ready md L0 listed).contains i = true) (hg : oi.guard = none)
    (hy : ∀ w, S w → (execOp a.eval oi).run P w = .ok (.value v) w) (hS : S w)
    (h : wpAnyH P md L Q S fuel (listed.setIfInBounds i true) (a.put oi.dst v) w) : wpAnyH P md L Q S (fuel + 1) listed a w := by
  have e : L = L0 := hL
  subst e
  exact wpAnyH_take hi hs hf hr (fun c a w => PanicOk.all hQ c a _ _ w) (Or.inl ⟨by simp [Region.wanted, hg], hy⟩) hS h
theorem AllReadyH.consL {fuel : Nat} {listed : Array Bool} {a : Act} {w : World} {i : Nat} {o : Oper} {rs : List Nat} (hL : Hid (L = L0)) (ho : L0[i]? = some o) (hg : o.guard = none)
    (h : ∀ K' : Act → World → Prop, Shut (∀ a w, S w → (S w → wpAnyH P md L Q S fuel (listed.setIfInBounds i true) a w) → K' a w) → Oper.wp P o a w K' Q)
    (hs : AllReadyH P md L Q S fuel listed a w rs) : AllReadyH P md L Q S fuel listed a w (i :: rs) := by
  have e : L = L0 := hL
  subst e
  refine AllReadyH.cons ho (fun K' hK => ?_) hs
  rw [if_pos (by simp [Region.wanted, hg])]
  exact h K' hK
theorem wpAnyH_readyL {rs : List Nat} {fuel : Nat} {listed : Array Bool} {a : Act} {w : World} (hL : Hid (L = L0)) (hr : Region.ready md L0 listed = rs) (hne : rs ≠ [])
    (h : AllReadyH P md L Q S fuel listed a w rs) : wpAnyH P md L Q S (fuel + 1) listed a w := by
  have e : L = L0 := hL
  subst e
  exact wpAnyH_ready hr hne h
theorem wpAnyH_doneL {listed : Array Bool} {a : Act} {w : World} (hL : Hid (L = L0)) (hQ : Hid (Q = Q0)) (hr : Region.ready md L0 listed = []) (h : Q0 .normal a w) (fuel : Nat) : wpAnyH P md L Q S fuel listed a w := by
  have e : L = L0 := hL
  have e2 : Q = Q0 := hQ
  subst e e2
  exact wpAnyH_done hr h fuel
end
theorem step_appN {P : Program} {w : World} {o : Oper} {a : Act} {K : Act → World → Prop} {Q : Exit → Act → World → Prop} (hgd : o.guard = none) (s x : Operand) (t : TypeId)
    (hop : o.op = .call { callee := .builtin .append, args := #[s, x], argTypes := #[t, t] })
    {base B : Nat} {e : TypeId} {i : TypeInfo} {z : Value} {size bytes : Nat} (ht : P.underlying t = some (.slice e)) (hi : P.info? e = some i) (hz : i.zero = some z)
    (hsize : i.size = size) (hby : i.bytes = bytes) (hzs : z.cells.size = size) (hsz : 0 < size) {v : Value} {n m c : Nat} {xs news : List Value} {A : Option Addr} (hs : a.eval s = v) (hx : a.eval x = .slice A m c) (ho : w.ownsRow base e size v n xs)
    (hr : Rd w B size A m news) (h1 : ∀ u ∈ news, u.oneCell' = true) (h63 : n + m ≤ maxLen) (hb : (n + m) * bytes ≤ 140737488355328) (hbase : base ≤ w.heap.size)
    (h : ∀ v' w', w'.ownsRow base e size v' (n + m) (xs ++ news) → w.grownBy w' v.ownBlock → K (a.put o.dst v') w') : Oper.wp P o a w K Q := by
  have hk := step_app (ops := #[]) (E := False) (Q := Q) hgd s x t hop ht hi hz hsize hby hzs hsz hs hx ho hr h1 h63 hb hbase h
  rwa [if_pos (by simp [Region.wanted, hgd])] at hk
end Go.Proofs.YtmcmbicapdcfmaaGreat
