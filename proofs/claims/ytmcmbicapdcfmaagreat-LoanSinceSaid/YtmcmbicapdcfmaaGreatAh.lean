/- Layer 2, the reference: a ledger in the making: its box, its rows, the leaves' rows, the days. -/
import Derived.Test.YtmcmbicapdcfmaaGreatAe
import Derived.Maps.AppendAt
set_option linter.unusedVariables false
set_option linter.unusedSimpArgs false
namespace Go.Proofs.YtmcmbicapdcfmaaGreat
open Go.RowKit Go.Maps

/-- A row of leaves of the call's own, none of the days' row. -/
structure LvAt (wv W : World) (vD : Value) (A : Option Addr) (n c : Nat) (xs : List Int) : Prop where
  cap : n ≤ c ∧ c ≤ maxLen
  own : W.ownsRow wv.heap.size 3 1 (.slice A n c) n (intL xs)
  far : ∀ b, (Value.slice A n c).ownBlock = some b → vD.ownBlock ≠ some b
section
variable {wv W W' : World} {vD vD' : Value} {A : Option Addr} {n c : Nat} {xs : List Int}
theorem LvAt.ext (h : LvAt wv W vD A n c xs) (hb : Below W.heap.size W W') : LvAt wv W' vD A n c xs := ⟨h.cap, own_ex h.own hb, h.far⟩
theorem LvAt.other {base size m : Nat} {t : TypeId} {v : Value} {ys : List Value} (h : LvAt wv W vD A n c xs) (ho : W.ownsRow base t size v m ys) (ht : 3 ≠ t) (hg : W.grownBy W' v.ownBlock) : LvAt wv W' vD A n c xs := ⟨h.cap, own_other h.own ho ht hg, h.far⟩
theorem LvAt.set {q : Nat} {T : TypeId} {cs : Array Value} (h : LvAt wv W vD A n c xs) (hq : BoxA W q T cs) (hT : T ≠ 3) (o : Nat) (u : Value) : LvAt wv (W.setCell ⟨q, o, none⟩ u) vD A n c xs := ⟨h.cap, h.own.kept (grown_setCell W q o u) (.inr fun e => own_ne h.own hq hT e.symm), h.far⟩
theorem LvAt.days (h : LvAt wv W vD A n c xs) (hg : W.grownBy W' vD.ownBlock) (hat : vD'.ownBlock = vD.ownBlock ∨ vD'.ownBlock = some W.heap.size) : LvAt wv W' vD' A n c xs :=
  ⟨h.cap, h.own.kept hg (by
    cases hb : (Value.slice A n c).ownBlock with
    | none => exact .inl rfl
    | some b => exact .inr fun e => h.far b hb e.symm), fun b hb e => by
    obtain ⟨cur, hc⟩ := own_block h.own hb
    have hlt := block_lt hc
    rcases hat with hat | hat
    · rw [hat] at e; exact h.far b hb e
    · rw [hat] at e; injection e with e; omega⟩
theorem LvAt.is (h : LvAt wv W vD A n c xs) : Is W W.heap.size A n xs := by
  have := Rd.of_own h.own
  exact this
end
theorem own_cap {W : World} {base e s n c : Nat} {A : Option Addr} {xs : List Value} (h : W.ownsRow base e s (.slice A n c) n xs) : n ≤ c ∧ c ≤ maxLen := by
  obtain ⟨A', c', e, h1⟩ := own_slice h
  injection e with _ _ e
  subst e
  exact h1
/-- A ledger in the making. -/
structure MdI (w wv W : World) (q : Nat) (OC : Array Value) (nR : Nat) (vR : Value) (RV : List Rv) (nT : Nat) (vT : Value) (TV : List Tv) (nS : Nat) (vS : Value) (SV : List Sgt) (nD : Nat) (vD : Value) (DL : List Int) : Prop where
  wo : WoI w wv W q OC (nR, vR, RV.flatMap rvC) (nT, vT, TV.flatMap tvC) (nS, vS, SV.flatMap sgC)
  d : W.ownsRow wv.heap.size 3 1 vD nD (intL DL)
  lr : ∀ z ∈ RV, LvAt wv W vD z.A z.n z.c z.r.lv
  lt : ∀ z ∈ TV, LvAt wv W vD z.A z.n z.c z.r.lv
theorem WoI.ext {w wv wr w5 : World} {q : Nat} {OC : Array Value} {a b c : Nat × Value × List Value} (h : WoI w wv wr q OC a b c) (h5 : Below wr.heap.size wr w5) : WoI w wv w5 q OC a b c :=
  ⟨h.bel.trans (h5.mono h.bel.size), fun k hk hne => (h5.block k (by have := h.sz; omega)).trans (h.keep k hk hne), Nat.le_trans h.sz h5.size, h.bO.ext h5, own_ex h.r h5, own_ex h.t h5, own_ex h.s h5⟩
section
variable {w wv wr w5 w6 : World} {q : Nat} {OC : Array Value} {nR : Nat} {vR : Value} {RV : List Rv} {nT : Nat} {vT : Value} {TV : List Tv} {nS : Nat} {vS : Value} {SV : List Sgt} {nD : Nat} {vD : Value} {DL : List Int}
theorem MdI.ext (h : MdI w wv wr q OC nR vR RV nT vT TV nS vS SV nD vD DL) (h5 : Below wr.heap.size wr w5) : MdI w wv w5 q OC nR vR RV nT vT TV nS vS SV nD vD DL :=
  ⟨h.wo.ext h5, own_ex h.d h5, fun z hz => (h.lr z hz).ext h5, fun z hz => (h.lt z hz).ext h5⟩
theorem MdI.appR (h : MdI w wv wr q OC nR vR RV nT vT TV nS vS SV nD vD DL) (hq : w.heap.size ≤ q ∧ q < wv.heap.size) (hwv : w.heap.size ≤ wv.heap.size) (h5 : Below wr.heap.size wr w5) {v2 : Value} {n2 : Nat} {z : Rv} (ho6 : w6.ownsRow wv.heap.size 79 7 v2 n2 (RV.flatMap rvC ++ rvC z)) (hg6 : w5.grownBy w6 vR.ownBlock) (hz : LvAt wv w5 vD z.A z.n z.c z.r.lv) (u : Value) :
    MdI w wv (w6.setCell ⟨q, 1, none⟩ u) q (OC.setIfInBounds 1 u) n2 v2 (RV ++ [z]) nT vT TV nS vS SV nD vD DL := by
  have h5o := own_ex h.wo.r h5
  have hbO : BoxA w6 q 32 OC := (h.wo.bO.ext h5).kept hg6 (own_ne h5o (h.wo.bO.ext h5) (by decide))
  have hd6 : w6.ownsRow wv.heap.size 3 1 vD nD (intL DL) := own_other (own_ex h.d h5) h5o (by decide) hg6
  have g : ∀ {A n c xs}, LvAt wv w5 vD A n c xs → LvAt wv (w6.setCell ⟨q, 1, none⟩ u) vD A n c xs := fun hl => (hl.other h5o (by decide) hg6).set hbO (by decide) 1 u
  refine ⟨?_, hd6.kept (grown_setCell w6 q 1 u) (.inr fun e => own_ne hd6 hbO (by decide) e.symm), fun x hx => ?_, fun x hx => g ((h.lt x hx).ext h5)⟩
  · rw [List.flatMap_append, List.flatMap_cons, List.flatMap_nil, List.append_nil]
    exact h.wo.appR hq hwv h5 ho6 hg6 u
  · rcases List.mem_append.1 hx with hx | hx
    · exact g ((h.lr x hx).ext h5)
    · rw [List.mem_singleton.1 hx]; exact g hz
theorem MdI.appT (h : MdI w wv wr q OC nR vR RV nT vT TV nS vS SV nD vD DL) (hq : w.heap.size ≤ q ∧ q < wv.heap.size) (hwv : w.heap.size ≤ wv.heap.size) (h5 : Below wr.heap.size wr w5) {v2 : Value} {n2 : Nat} {z : Tv} (ho6 : w6.ownsRow wv.heap.size 75 8 v2 n2 (TV.flatMap tvC ++ tvC z)) (hg6 : w5.grownBy w6 vT.ownBlock) (hz : LvAt wv w5 vD z.A z.n z.c z.r.lv) (u : Value) :
    MdI w wv (w6.setCell ⟨q, 2, none⟩ u) q (OC.setIfInBounds 2 u) nR vR RV n2 v2 (TV ++ [z]) nS vS SV nD vD DL := by
  have h5o := own_ex h.wo.t h5
  have hbO : BoxA w6 q 32 OC := (h.wo.bO.ext h5).kept hg6 (own_ne h5o (h.wo.bO.ext h5) (by decide))
  have hd6 : w6.ownsRow wv.heap.size 3 1 vD nD (intL DL) := own_other (own_ex h.d h5) h5o (by decide) hg6
  have g : ∀ {A n c xs}, LvAt wv w5 vD A n c xs → LvAt wv (w6.setCell ⟨q, 2, none⟩ u) vD A n c xs := fun hl => (hl.other h5o (by decide) hg6).set hbO (by decide) 2 u
  refine ⟨?_, hd6.kept (grown_setCell w6 q 2 u) (.inr fun e => own_ne hd6 hbO (by decide) e.symm), fun x hx => g ((h.lr x hx).ext h5), fun x hx => ?_⟩
  · rw [List.flatMap_append, List.flatMap_cons, List.flatMap_nil, List.append_nil]
    exact h.wo.appT hq hwv h5 ho6 hg6 u
  · rcases List.mem_append.1 hx with hx | hx
    · exact g ((h.lt x hx).ext h5)
    · rw [List.mem_singleton.1 hx]; exact g hz
theorem MdI.appS (h : MdI w wv wr q OC nR vR RV nT vT TV nS vS SV nD vD DL) (hq : w.heap.size ≤ q ∧ q < wv.heap.size) (hwv : w.heap.size ≤ wv.heap.size) (h5 : Below wr.heap.size wr w5) {v2 : Value} {n2 : Nat} {z : Sgt} (ho6 : w6.ownsRow wv.heap.size 70 7 v2 n2 (SV.flatMap sgC ++ sgC z)) (hg6 : w5.grownBy w6 vS.ownBlock) (u : Value) :
    MdI w wv (w6.setCell ⟨q, 3, none⟩ u) q (OC.setIfInBounds 3 u) nR vR RV nT vT TV n2 v2 (SV ++ [z]) nD vD DL := by
  have h5o := own_ex h.wo.s h5
  have hbO : BoxA w6 q 32 OC := (h.wo.bO.ext h5).kept hg6 (own_ne h5o (h.wo.bO.ext h5) (by decide))
  have hd6 : w6.ownsRow wv.heap.size 3 1 vD nD (intL DL) := own_other (own_ex h.d h5) h5o (by decide) hg6
  have g : ∀ {A n c xs}, LvAt wv w5 vD A n c xs → LvAt wv (w6.setCell ⟨q, 3, none⟩ u) vD A n c xs := fun hl => (hl.other h5o (by decide) hg6).set hbO (by decide) 3 u
  refine ⟨?_, hd6.kept (grown_setCell w6 q 3 u) (.inr fun e => own_ne hd6 hbO (by decide) e.symm), fun x hx => g ((h.lr x hx).ext h5), fun x hx => g ((h.lt x hx).ext h5)⟩
  rw [List.flatMap_append, List.flatMap_cons, List.flatMap_nil, List.append_nil]
  exact h.wo.appS hq hwv h5 ho6 hg6 u
theorem MdI.appD (h : MdI w wv wr q OC nR vR RV nT vT TV nS vS SV nD vD DL) (hwv : w.heap.size ≤ wv.heap.size) (h5 : Below wr.heap.size wr w5) {v2 : Value} {n2 : Nat} {y : Int} (ho6 : w6.ownsRow wv.heap.size 3 1 v2 n2 (intL DL ++ [.int .i64 y])) (hg6 : w5.grownBy w6 vD.ownBlock) (hat : v2.ownBlock = vD.ownBlock ∨ v2.ownBlock = some w5.heap.size) :
    MdI w wv w6 q OC nR vR RV nT vT TV nS vS SV n2 v2 (DL ++ [y]) := by
  have h5o := own_ex h.d h5
  have hbO : BoxA w6 q 32 OC := (h.wo.bO.ext h5).kept hg6 (own_ne h5o (h.wo.bO.ext h5) (by decide))
  have hsz := h.wo.sz
  have hsz5 := h5.size
  refine ⟨⟨?_, fun k hk hne => ?_, Nat.le_trans h.wo.sz (Nat.le_trans h5.size hg6.size), hbO, own_other (own_ex h.wo.r h5) h5o (by decide) hg6, own_other (own_ex h.wo.t h5) h5o (by decide) hg6, own_other (own_ex h.wo.s h5) h5o (by decide) hg6⟩, by simpa [intL] using ho6, fun x hx => ((h.lr x hx).ext h5).days hg6 hat, fun x hx => ((h.lt x hx).ext h5).days hg6 hat⟩
  · have h1 : Below w.heap.size w w5 := h.wo.bel.trans (h5.mono h.wo.bel.size)
    exact h1.grown hg6 h1.size fun k ek => Nat.le_trans hwv (own_le h5o ek)
  · rw [hg6.block k (by omega) (fun e => by have := own_le h5o e.symm; omega), h5.block k (by omega)]
    exact h.wo.keep k hk hne
/-- The ledger is read. -/
theorem MdI.led (h : MdI w wv wr q OC nR vR RV nT vT TV nS vS SV nD vD DL) {pA rA tA sA : Option Addr} {pn pc rc tc sc : Nat} {pp : List Ppr} (hp : Pps wr wr.heap.size pA pn pp) (hR : vR = .slice rA nR rc) (hT : vT = .slice tA nT tc) (hS : vS = .slice sA nS sc) : LedIn wr wr.heap.size ⟨pA, pn, pc, rA, nR, rc, tA, nT, tc, sA, nS, sc⟩ ⟨pp, RV.map Rv.r, TV.map Tv.r, SV⟩ := by
  subst hR hT hS
  refine ⟨hp, rcs_of (sq_rv ?_ (own_len h.wo.r (fun _ => rfl) (by decide)) fun v hv => ⟨(h.lr v hv).is, (h.lr v hv).cap⟩), rts_of ?_ (own_len h.wo.t (fun _ => rfl) (by decide)) fun v hv => ⟨(h.lt v hv).is, (h.lt v hv).cap⟩, sq_sg ?_ (own_len h.wo.s (fun _ => rfl) (by decide))⟩
  · exact Rd.of_own h.wo.r
  · exact Rd.of_own h.wo.t
  · exact Rd.of_own h.wo.s
end
/-- The rows of a ledger that is made, and its days. -/
structure RwsI (wv W : World) (nR : Nat) (vR : Value) (RV : List Rv) (nT : Nat) (vT : Value) (TV : List Tv) (nS : Nat) (vS : Value) (SV : List Sgt) (nD : Nat) (vD : Value) (DL : List Int) : Prop where
  r : W.ownsRow wv.heap.size 79 7 vR nR (RV.flatMap rvC)
  t : W.ownsRow wv.heap.size 75 8 vT nT (TV.flatMap tvC)
  s : W.ownsRow wv.heap.size 70 7 vS nS (SV.flatMap sgC)
  d : W.ownsRow wv.heap.size 3 1 vD nD (intL DL)
  lr : ∀ z ∈ RV, LvAt wv W vD z.A z.n z.c z.r.lv
  lt : ∀ z ∈ TV, LvAt wv W vD z.A z.n z.c z.r.lv
section
variable {w wv wr : World} {q : Nat} {OC : Array Value} {nR : Nat} {vR : Value} {RV : List Rv} {nT : Nat} {vT : Value} {TV : List Tv} {nS : Nat} {vS : Value} {SV : List Sgt} {nD : Nat} {vD : Value} {DL : List Int}
theorem MdI.rws (h : MdI w wv wr q OC nR vR RV nT vT TV nS vS SV nD vD DL) : RwsI wv wr nR vR RV nT vT TV nS vS SV nD vD DL := ⟨h.wo.r, h.wo.t, h.wo.s, h.d, h.lr, h.lt⟩
theorem own_low {W : World} {base e s n B : Nat} {v : Value} {xs : List Value} (h : W.ownsRow base e s v n xs) (hB : B < base) (o : Nat) (u : Value) : (W.setCell ⟨B, o, none⟩ u).ownsRow base e s v n xs :=
  h.kept (grown_setCell W B o u) (.inr fun e => by have := own_le h e; omega)
theorem RwsI.far (h : RwsI wv wr nR vR RV nT vT TV nS vS SV nD vD DL) {b : Nat} (hb : b < wv.heap.size) (o : Nat) (u : Value) : RwsI wv (wr.setCell ⟨b, o, none⟩ u) nR vR RV nT vT TV nS vS SV nD vD DL :=
  ⟨own_low h.r hb o u, own_low h.t hb o u, own_low h.s hb o u, own_low h.d hb o u, fun z hz => ⟨(h.lr z hz).cap, own_low (h.lr z hz).own hb o u, (h.lr z hz).far⟩, fun z hz => ⟨(h.lt z hz).cap, own_low (h.lt z hz).own hb o u, (h.lt z hz).far⟩⟩
theorem RwsI.led (h : RwsI wv wr nR vR RV nT vT TV nS vS SV nD vD DL) {pA rA tA sA : Option Addr} {pn pc rc tc sc : Nat} {pp : List Ppr} (hp : Pps wr wr.heap.size pA pn pp) (hR : vR = .slice rA nR rc) (hT : vT = .slice tA nT tc) (hS : vS = .slice sA nS sc) : LedIn wr wr.heap.size ⟨pA, pn, pc, rA, nR, rc, tA, nT, tc, sA, nS, sc⟩ ⟨pp, RV.map Rv.r, TV.map Tv.r, SV⟩ := by
  subst hR hT hS
  refine ⟨hp, rcs_of (sq_rv ?_ (own_len h.r (fun _ => rfl) (by decide)) fun v hv => ⟨(h.lr v hv).is, (h.lr v hv).cap⟩), rts_of ?_ (own_len h.t (fun _ => rfl) (by decide)) fun v hv => ⟨(h.lt v hv).is, (h.lt v hv).cap⟩, sq_sg ?_ (own_len h.s (fun _ => rfl) (by decide))⟩
  · exact Rd.of_own h.r
  · exact Rd.of_own h.t
  · exact Rd.of_own h.s
theorem RwsI.days (h : RwsI wv wr nR vR RV nT vT TV nS vS SV nD vD DL) {A : Option Addr} {c : Nat} (hD : vD = .slice A nD c) : Is wr wr.heap.size A nD DL := by
  subst hD
  have := Rd.of_own h.d
  exact this
end
end Go.Proofs.YtmcmbicapdcfmaaGreat
