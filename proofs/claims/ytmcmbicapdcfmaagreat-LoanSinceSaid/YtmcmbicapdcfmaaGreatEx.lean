/- What the drafts need besides. -/
import Derived.Test.YtmcmbicapdcfmaaGreatPaaq
import Derived.Test.YtmcmbicapdcfmaaGreatPabq
import Derived.Test.YtmcmbicapdcfmaaGreatPacq
import Derived.Test.YtmcmbicapdcfmaaGreatPadq
import Derived.Test.YtmcmbicapdcfmaaGreatPaeq
import Derived.Test.YtmcmbicapdcfmaaGreatPafq
import Derived.Test.YtmcmbicapdcfmaaGreatPagq
import Derived.Test.YtmcmbicapdcfmaaGreatPahq
import Derived.Test.YtmcmbicapdcfmaaGreatPaiq
import Derived.Test.YtmcmbicapdcfmaaGreatPajq
import Derived.Test.YtmcmbicapdcfmaaGreatPakq
import Derived.Test.YtmcmbicapdcfmaaGreatPalq
import Derived.Test.YtmcmbicapdcfmaaGreatPamq
import Derived.Test.YtmcmbicapdcfmaaGreatPanq
import Derived.Test.YtmcmbicapdcfmaaGreatPaoq
import Derived.Test.YtmcmbicapdcfmaaGreatPapq
import Derived.Test.YtmcmbicapdcfmaaGreatPaqq
import Derived.Test.YtmcmbicapdcfmaaGreatParq
import Derived.Test.YtmcmbicapdcfmaaGreatPasq
import Derived.Test.YtmcmbicapdcfmaaGreatPatq
import Derived.Test.YtmcmbicapdcfmaaGreatPauq
import Derived.Test.YtmcmbicapdcfmaaGreatPavq
import Derived.Test.YtmcmbicapdcfmaaGreatPawq
import Derived.Test.YtmcmbicapdcfmaaGreatPaxq
import Derived.Test.YtmcmbicapdcfmaaGreatPayq
import Derived.Test.YtmcmbicapdcfmaaGreatPazq
import Derived.Test.YtmcmbicapdcfmaaGreatPbaq
import Derived.Test.YtmcmbicapdcfmaaGreatPbbq
import Derived.Test.YtmcmbicapdcfmaaGreatPbcq
import Derived.Test.YtmcmbicapdcfmaaGreatPbdq
import Derived.Test.YtmcmbicapdcfmaaGreatPbeq
import Derived.Test.YtmcmbicapdcfmaaGreatPbfq
import Derived.Test.YtmcmbicapdcfmaaGreatPbgq
import Derived.Test.YtmcmbicapdcfmaaGreatPbhq
import Derived.Test.YtmcmbicapdcfmaaGreatPbiq
import Derived.Test.YtmcmbicapdcfmaaGreatPbjq
import Derived.Test.YtmcmbicapdcfmaaGreatPbkq
import Derived.Test.YtmcmbicapdcfmaaGreatPblq
import Derived.Test.YtmcmbicapdcfmaaGreatPbmq
import Derived.Test.YtmcmbicapdcfmaaGreatPbnq
import Derived.Test.YtmcmbicapdcfmaaGreatPboq
import Derived.Test.YtmcmbicapdcfmaaGreatPbpq
import Derived.Test.YtmcmbicapdcfmaaGreatPbqq
import Derived.Test.YtmcmbicapdcfmaaGreatPbrq
import Derived.Test.YtmcmbicapdcfmaaGreatPbsq
import Derived.Test.YtmcmbicapdcfmaaGreatPbtq
import Derived.Maps.AppendAt
import Derived.Deep.AppendLies
import Derived.RegionTactic
import Derived.ProofKit
import Derived.OpenShut
import Derived.ShutString
import Derived.ChangeOld
import Derived.Below
import Derived.Deep.Slices
import Derived.Deep.Fields
-- Mr
namespace Go.Proofs.YtmcmbicapdcfmaaGreat
open Go.RowKit
attribute [local go_sem] Oper.semAt_some

theorem step_app {P : Program} {w : World} {ops : Array Oper} {o : Oper} {a : Act} {K : Act → World → Prop} {Q : Exit → Act → World → Prop} {E : Prop} (hgd : o.guard = none) (s x : Operand) (t : TypeId)
    (hop : o.op = .call { callee := .builtin .append, args := #[s, x], argTypes := #[t, t] })
    {base B : Nat} {e : TypeId} {i : TypeInfo} {z : Value} {size bytes : Nat} (ht : P.underlying t = some (.slice e)) (hi : P.info? e = some i) (hz : i.zero = some z)
    (hsize : i.size = size) (hby : i.bytes = bytes) (hzs : z.cells.size = size) (hsz : 0 < size) {v : Value} {n m c : Nat} {xs news : List Value} {A : Option Addr} (hs : a.eval s = v) (hx : a.eval x = .slice A m c) (ho : w.ownsRow base e size v n xs)
    (hr : Rd w B size A m news) (h1 : ∀ u ∈ news, u.oneCell' = true) (h63 : n + m ≤ maxLen) (hb : (n + m) * bytes ≤ 140737488355328) (hbase : base ≤ w.heap.size)
    (h : ∀ v' w', w'.ownsRow base e size v' (n + m) (xs ++ news) → w.grownBy w' v.ownBlock → K (a.put o.dst v') w') :
    if Region.wanted o (yielded ops a.tmps) = true then Oper.wp P o a w K Q else E := by
  have hw : Region.wanted o (yielded ops a.tmps) = true := by simp [Region.wanted, hgd]
  rw [if_pos hw]
  obtain ⟨v', w', g1, g2, g3⟩ := run_app (P := P) w (ty := o.type) ht hi hz hsize hby hzs hsz ho hr h1 h63 hb hbase (c := c)
  unfold Oper.wp execOp
  simp only [hop, resolve, invoke, builtin, Sem.run_bind, Sem.run_pure, Result.andThen_ok, List.map_toArray, List.map_cons, List.map_nil, hs, hx, g1]
  exact h v' w' g2 g3

end Go.Proofs.YtmcmbicapdcfmaaGreat

-- Hp
namespace Go.Proofs.YtmcmbicapdcfmaaGreat
open Go.RowKit Go.Maps

theorem grd_src : ∀ (S : List Sgt) (bs : List Int), (grd bs S).map Sgt.src = bs.take (grd bs S).length
  | [], bs => by rw [grd_end]; simp
  | s :: S, [] => by rw [grd_nil]; simp
  | s :: S, b :: bs => by
    rw [grd]
    split
    · rename_i h
      rw [List.map_cons, grd_src S bs, List.length_cons, List.take_succ_cons, h]
    · exact grd_src S (b :: bs)
theorem grd_all : ∀ (S : List Sgt) (bs : List Int), (S.map Sgt.src).Pairwise (· < ·) → bs.Pairwise (· < ·) → (∀ b ∈ bs, b ∈ S.map Sgt.src) → (grd bs S).length = bs.length
  | [], [], _, _, _ => rfl
  | [], b :: bs, _, _, h => by have := h b (List.mem_cons_self ..); simp at this
  | s :: S, [], _, _, _ => rfl
  | s :: S, b :: bs, hS, hb, h => by
    rw [List.map_cons, List.pairwise_cons] at hS
    have hb2 := List.pairwise_cons.1 hb
    rw [grd]
    split
    · rename_i e
      rw [List.length_cons, grd_all S bs hS.2 hb2.2 fun x hx => ?_, List.length_cons]
      have h1 := hb2.1 x hx
      rcases List.mem_cons.1 (h x (List.mem_cons_of_mem _ hx)) with h2 | h2
      · omega
      · exact h2
    · rename_i e
      refine grd_all S (b :: bs) hS.2 hb fun x hx => ?_
      have hbS : b ∈ S.map Sgt.src := by
        rcases List.mem_cons.1 (h b (List.mem_cons_self ..)) with h2 | h2
        · exact absurd h2 e
        · exact h2
      rcases List.mem_cons.1 (h x hx) with h2 | h2
      · have h3 := hS.1 b hbS
        rcases List.mem_cons.1 hx with rfl | hx
        · exact hbS
        · have h4 := hb2.1 x hx; omega
      · exact h2
/-- All sources are found exactly if they rise and each is a sight's. -/
theorem find_iff {C : List Sgt} (hC : (C.map Sgt.src).Pairwise (· < ·)) (bs : List Int) : (findS bs C).length = bs.length ↔ bs.Pairwise (· < ·) ∧ ∀ b ∈ bs, b ∈ C.map Sgt.src := by
  rw [findS_grd]
  constructor
  · intro h
    have hm := grd_src C bs
    rw [h, List.take_length] at hm
    have hs : ((grd bs C).map Sgt.src).Sublist (C.map Sgt.src) := (grd_sub C bs).map _
    rw [hm] at hs
    exact ⟨hC.sublist hs, fun b hb => hs.subset hb⟩
  · rintro ⟨h1, h2⟩
    exact grd_all C bs hC h1 h2
theorem src_inj {C : List Sgt} (hC : (C.map Sgt.src).Pairwise (· < ·)) {x y : Sgt} (hx : x ∈ C) (hy : y ∈ C) (h : x.src = y.src) : x = y := by
  obtain ⟨i, hi, rfl⟩ := List.mem_iff_getElem.1 hx
  obtain ⟨j, hj, rfl⟩ := List.mem_iff_getElem.1 hy
  have hp := List.pairwise_iff_getElem.1 hC
  have hl : (C.map Sgt.src).length = C.length := List.length_map ..
  rcases Nat.lt_trichotomy i j with h1 | h1 | h1
  · have := hp i j (by omega) (by omega) h1
    simp only [List.getElem_map] at this
    omega
  · subst h1; rfl
  · have := hp j i (by omega) (by omega) h1
    simp only [List.getElem_map] at this
    omega
theorem map_src_inj {C : List Sgt} (hC : (C.map Sgt.src).Pairwise (· < ·)) : ∀ {f g : List Sgt}, (∀ s ∈ f, s ∈ C) → (∀ s ∈ g, s ∈ C) → f.map Sgt.src = g.map Sgt.src → f = g
  | [], [], _, _, _ => rfl
  | [], _ :: _, _, _, h => by simp at h
  | _ :: _, [], _, _, h => by simp at h
  | x :: f, y :: g, hf, hg, h => by
    rw [List.map_cons, List.map_cons, List.cons.injEq] at h
    rw [src_inj hC (hf x (List.mem_cons_self ..)) (hg y (List.mem_cons_self ..)) h.1, map_src_inj hC (fun s hs => hf s (List.mem_cons_of_mem _ hs)) (fun s hs => hg s (List.mem_cons_of_mem _ hs)) h.2]
theorem find_eq {C fs : List Sgt} {bs : List Int} (hC : (C.map Sgt.src).Pairwise (· < ·)) (hm : fs.map Sgt.src = bs) (hf : ∀ s ∈ fs, s ∈ C) (hb : bs.Pairwise (· < ·)) : findS bs C = fs := by
  have hl := (find_iff hC bs).2 ⟨hb, fun b hbm => by rw [← hm] at hbm; obtain ⟨s, hs, rfl⟩ := List.mem_map.1 hbm; exact List.mem_map.2 ⟨s, hf s hs, rfl⟩⟩
  rw [findS_grd] at hl ⊢
  have h1 := grd_src C bs
  rw [hl, List.take_length] at h1
  exact map_src_inj hC (fun s hs => (grd_sub C bs).subset hs) hf (h1.trans hm.symm)

end Go.Proofs.YtmcmbicapdcfmaaGreat

-- Hq
namespace Go.Proofs.YtmcmbicapdcfmaaGreat
open Go.RowKit Go.Maps

theorem rise_pair {α : Type} {num : α → Int} {ok : α → Bool} {most : Nat} {l : List α} (h : valB num ok most l = true) : (l.map num).Pairwise (· < ·) := by
  rw [valB, Bool.and_eq_true] at h
  have hr : ∀ (j : Nat) (h1 : j + 1 < (l.map num).length), (l.map num)[j] < (l.map num)[j + 1] := fun j h1 => by
    rw [List.length_map] at h1
    have h2 := List.all_eq_true.1 h.2 (j + 1) (List.mem_range.2 h1)
    have e1 : l[j + 1]? = some l[j + 1] := List.getElem?_eq_getElem h1
    have e2 : l[j]? = some (l[j]'(by omega)) := List.getElem?_eq_getElem (by omega)
    simp only [valAt, e1, e2, Bool.and_eq_true, decide_eq_true_eq] at h2
    simp only [List.getElem_map]
    exact h2.2
  rw [List.pairwise_iff_getElem]
  intro i j hi hj hij
  have h1 := rise_le hr (j - i - 1) (i + 1) (by omega)
  have h2 := hr i (by omega)
  have e : i + 1 + (j - i - 1) = j := by omega
  simp only [e] at h1
  omega
theorem cnt_rise {l : Led} (h : ledB l = true) (kn : Int) : ((cntS l kn).map Sgt.src).Pairwise (· < ·) := by
  simp only [ledB, Bool.and_eq_true] at h
  exact (rise_pair h.2.2.2.1).sublist ((List.filter_sublist ..).map _)
end Go.Proofs.YtmcmbicapdcfmaaGreat

-- Jb
namespace Go.Proofs.YtmcmbicapdcfmaaGreat
open Go.RowKit Go.Maps

theorem whoP_F (l : Led) (kn day pap : Int) (days : List Int) (i : Nat) : whoP l kn day pap days i = whoF l kn day days pap ((i : Int) + 1) := rfl
end Go.Proofs.YtmcmbicapdcfmaaGreat

-- Gi
namespace Go.Proofs.YtmcmbicapdcfmaaGreat
open Go.RowKit Go.Maps

theorem S1.grownR {b1 b2 : Nat} {row : Option Nat} {c1 c2 : Array Value} {V V' : World} (hg : V.grownBy V' row) (h : S1 b1 b2 c1 c2 V) (n1 : some b1 ≠ row) (n2 : some b2 ≠ row) : S1 b1 b2 c1 c2 V' := by
  obtain ⟨h1, h2, z1, z2⟩ := h
  have e1 := hg.block b1 z1 n1
  have e2 := hg.block b2 z2 n2
  have hs := hg.size
  refine ⟨fun o => ?_, fun o => ?_, by omega, by omega⟩
  · rw [← h1 o]; simp [World.cell?, e1]
  · rw [← h2 o]; simp [World.cell?, e2]
theorem SZ7.grownR {b1 b2 b o : Nat} {row : Option Nat} {c1 c2 : Array Value} {z : Sgt} {V V' : World} (hg : V.grownBy V' row) (h : SZ7 b1 b2 c1 c2 b o z V) (n1 : some b1 ≠ row) (n2 : some b2 ≠ row) (n3 : some b ≠ row) : SZ7 b1 b2 c1 c2 b o z V' := by
  obtain ⟨h0, h1, q0, q1, q2, q3, q4, q5, q6⟩ := h
  have hs := hg.size
  have e3 := hg.block b h1 n3
  have c : ∀ j, V'.cell? ⟨b, j, none⟩ = V.cell? ⟨b, j, none⟩ := fun j => by simp [World.cell?, e3]
  exact ⟨S1.grownR hg h0 n1 n2, by omega, (c _).trans q0, (c _).trans q1, (c _).trans q2, (c _).trans q3, (c _).trans q4, (c _).trans q5, (c _).trans q6⟩
end Go.Proofs.YtmcmbicapdcfmaaGreat

-- Je
namespace Go.Proofs.YtmcmbicapdcfmaaGreat
open Go.RowKit Go.Maps

theorem SW.grownR {b1 b2 b o : Nat} {row : Option Nat} {c1 c2 : Array Value} {ec : List Value} {V V' : World} (hg : V.grownBy V' row) (h : SW b1 b2 c1 c2 b o ec V) (n1 : some b1 ≠ row) (n2 : some b2 ≠ row) (n3 : some b ≠ row) : SW b1 b2 c1 c2 b o ec V' := by
  obtain ⟨h0, h1, h2⟩ := h
  have hs := hg.size
  have e3 := hg.block b h1 n3
  exact ⟨S1.grownR hg h0 n1 n2, by omega, fun m u hu => by rw [← h2 m u hu]; simp [World.cell?, e3]⟩
theorem WoI.appR {w wv wr w5 w6 : World} {q : Nat} {OC : Array Value} {a b c : Nat × Value × List Value} {n2 : Nat} {v2 : Value} {x2 : List Value} (h : WoI w wv wr q OC a b c) (hq : w.heap.size ≤ q ∧ q < wv.heap.size) (hwv : w.heap.size ≤ wv.heap.size) (h5 : Below wr.heap.size wr w5) (ho6 : w6.ownsRow wv.heap.size 79 7 v2 n2 x2) (hg6 : w5.grownBy w6 a.2.1.ownBlock) (u : Value) : WoI w wv (w6.setCell ⟨q, 1, none⟩ u) q (OC.setIfInBounds 1 u) (n2, v2, x2) b c := by
  have h5o := own_ex h.r h5
  have hbO : BoxA w6 q 32 OC := (h.bO.ext h5).kept hg6 (own_ne h5o (h.bO.ext h5) (by decide))
  have hs := grown_setCell w6 q 1 u
  have hsz := h.sz
  have hsz5 := h5.size
  have hsz6 := hg6.size
  refine ⟨?_, fun k hk hne => ?_, by simp; omega, hbO.set 1 u, (ho6.kept hs (.inr fun e => own_ne ho6 (hbO) (by decide) e.symm)), ((own_other (own_ex h.t h5) (own_ex h.r h5) (by decide) hg6).kept hs (.inr fun e => own_ne (own_other (own_ex h.t h5) (own_ex h.r h5) (by decide) hg6) hbO (by decide) e.symm)), ((own_other (own_ex h.s h5) (own_ex h.r h5) (by decide) hg6).kept hs (.inr fun e => own_ne (own_other (own_ex h.s h5) (own_ex h.r h5) (by decide) hg6) hbO (by decide) e.symm))⟩
  · have h1 : Below w.heap.size w w5 := h.bel.trans (h5.mono h.bel.size)
    have h2 : Below w.heap.size w w6 := h1.grown hg6 h1.size fun k ek => Nat.le_trans hwv (own_le h5o ek)
    exact h2.setCell hq.1 _
  · have e1 : (w6.setCell ⟨q, 1, none⟩ u).heap[k]? = w6.heap[k]? := hs.block k (by omega) (fun e => hne (by injection e))
    have e2 : w6.heap[k]? = w5.heap[k]? := hg6.block k (by omega) (fun e => by have := own_le h5o e.symm; omega)
    have e3 : w5.heap[k]? = wr.heap[k]? := h5.block k (by omega)
    rw [e1, e2, e3]
    exact h.keep k hk hne
theorem WoI.appT {w wv wr w5 w6 : World} {q : Nat} {OC : Array Value} {a b c : Nat × Value × List Value} {n2 : Nat} {v2 : Value} {x2 : List Value} (h : WoI w wv wr q OC a b c) (hq : w.heap.size ≤ q ∧ q < wv.heap.size) (hwv : w.heap.size ≤ wv.heap.size) (h5 : Below wr.heap.size wr w5) (ho6 : w6.ownsRow wv.heap.size 75 8 v2 n2 x2) (hg6 : w5.grownBy w6 b.2.1.ownBlock) (u : Value) : WoI w wv (w6.setCell ⟨q, 2, none⟩ u) q (OC.setIfInBounds 2 u) a (n2, v2, x2) c := by
  have h5o := own_ex h.t h5
  have hbO : BoxA w6 q 32 OC := (h.bO.ext h5).kept hg6 (own_ne h5o (h.bO.ext h5) (by decide))
  have hs := grown_setCell w6 q 2 u
  have hsz := h.sz
  have hsz5 := h5.size
  have hsz6 := hg6.size
  refine ⟨?_, fun k hk hne => ?_, by simp; omega, hbO.set 2 u, ((own_other (own_ex h.r h5) (own_ex h.t h5) (by decide) hg6).kept hs (.inr fun e => own_ne (own_other (own_ex h.r h5) (own_ex h.t h5) (by decide) hg6) hbO (by decide) e.symm)), (ho6.kept hs (.inr fun e => own_ne ho6 (hbO) (by decide) e.symm)), ((own_other (own_ex h.s h5) (own_ex h.t h5) (by decide) hg6).kept hs (.inr fun e => own_ne (own_other (own_ex h.s h5) (own_ex h.t h5) (by decide) hg6) hbO (by decide) e.symm))⟩
  · have h1 : Below w.heap.size w w5 := h.bel.trans (h5.mono h.bel.size)
    have h2 : Below w.heap.size w w6 := h1.grown hg6 h1.size fun k ek => Nat.le_trans hwv (own_le h5o ek)
    exact h2.setCell hq.1 _
  · have e1 : (w6.setCell ⟨q, 2, none⟩ u).heap[k]? = w6.heap[k]? := hs.block k (by omega) (fun e => hne (by injection e))
    have e2 : w6.heap[k]? = w5.heap[k]? := hg6.block k (by omega) (fun e => by have := own_le h5o e.symm; omega)
    have e3 : w5.heap[k]? = wr.heap[k]? := h5.block k (by omega)
    rw [e1, e2, e3]
    exact h.keep k hk hne
theorem WoI.appS {w wv wr w5 w6 : World} {q : Nat} {OC : Array Value} {a b c : Nat × Value × List Value} {n2 : Nat} {v2 : Value} {x2 : List Value} (h : WoI w wv wr q OC a b c) (hq : w.heap.size ≤ q ∧ q < wv.heap.size) (hwv : w.heap.size ≤ wv.heap.size) (h5 : Below wr.heap.size wr w5) (ho6 : w6.ownsRow wv.heap.size 70 7 v2 n2 x2) (hg6 : w5.grownBy w6 c.2.1.ownBlock) (u : Value) : WoI w wv (w6.setCell ⟨q, 3, none⟩ u) q (OC.setIfInBounds 3 u) a b (n2, v2, x2) := by
  have h5o := own_ex h.s h5
  have hbO : BoxA w6 q 32 OC := (h.bO.ext h5).kept hg6 (own_ne h5o (h.bO.ext h5) (by decide))
  have hs := grown_setCell w6 q 3 u
  have hsz := h.sz
  have hsz5 := h5.size
  have hsz6 := hg6.size
  refine ⟨?_, fun k hk hne => ?_, by simp; omega, hbO.set 3 u, ((own_other (own_ex h.r h5) (own_ex h.s h5) (by decide) hg6).kept hs (.inr fun e => own_ne (own_other (own_ex h.r h5) (own_ex h.s h5) (by decide) hg6) hbO (by decide) e.symm)), ((own_other (own_ex h.t h5) (own_ex h.s h5) (by decide) hg6).kept hs (.inr fun e => own_ne (own_other (own_ex h.t h5) (own_ex h.s h5) (by decide) hg6) hbO (by decide) e.symm)), (ho6.kept hs (.inr fun e => own_ne ho6 (hbO) (by decide) e.symm))⟩
  · have h1 : Below w.heap.size w w5 := h.bel.trans (h5.mono h.bel.size)
    have h2 : Below w.heap.size w w6 := h1.grown hg6 h1.size fun k ek => Nat.le_trans hwv (own_le h5o ek)
    exact h2.setCell hq.1 _
  · have e1 : (w6.setCell ⟨q, 3, none⟩ u).heap[k]? = w6.heap[k]? := hs.block k (by omega) (fun e => hne (by injection e))
    have e2 : w6.heap[k]? = w5.heap[k]? := hg6.block k (by omega) (fun e => by have := own_le h5o e.symm; omega)
    have e3 : w5.heap[k]? = wr.heap[k]? := h5.block k (by omega)
    rw [e1, e2, e3]
    exact h.keep k hk hne

end Go.Proofs.YtmcmbicapdcfmaaGreat

-- Jf
namespace Go.Proofs.YtmcmbicapdcfmaaGreat
open Go.RowKit Go.Maps

theorem val_pair {α : Type} {num : α → Int} {ok : α → Bool} {most : Nat} {l : List α} (h : valB num ok most l = true) : l.Pairwise fun x y => num x < num y := by
  rw [valB, Bool.and_eq_true] at h
  have hadj : ∀ j (h1 : j + 1 < l.length), num (l[j]'(by omega)) < num l[j + 1] := fun j h1 => by
    have h2 := List.all_eq_true.1 h.2 (j + 1) (List.mem_range.2 h1)
    have e1 : l[j + 1]? = some l[j + 1] := List.getElem?_eq_getElem h1
    have e2 : l[j]? = some (l[j]'(by omega)) := List.getElem?_eq_getElem (by omega)
    simp only [valAt, e1, e2, Bool.and_eq_true, decide_eq_true_eq] at h2
    exact h2.2
  rw [List.pairwise_iff_getElem]
  intro i j hi hj hij
  obtain ⟨d, rfl⟩ : ∃ d, j = i + d + 1 := ⟨j - i - 1, by omega⟩
  clear hij
  induction d with
  | zero => exact hadj i hj
  | succ d ih => exact Int.lt_trans (ih (by omega)) (hadj (i + d + 1) (by omega))
end Go.Proofs.YtmcmbicapdcfmaaGreat

-- Ra
namespace Go.Proofs.YtmcmbicapdcfmaaGreat
open Go.ChangeShapes Go.WideShapes Go.ChangeAt Go.RowKit Go.Deep

theorem laidOut : laidOutB Tryz.prog = true := by kernel_rfl
theorem c1_int : Tryz.prog.cellsOf 3 = 1 := by kernel_rfl
theorem flat_one (l : List Int) : (l.flatMap fun p : Int => [Value.int .i64 p]) = l.map fun p => .int .i64 p := by
  induction l with
  | nil => rfl
  | cons a l ih => rw [List.flatMap_cons, List.map_cons, ih]; rfl

section
variable {H : Type} {enc : TypeId × Value → H} {w : World} {base : Nat} {spare : Nat → Bool} {held : Bool} {fuel : Nat} {cs : List Value} {x : DataW H × List MemPlace}
theorem int_of (h : DataW.trod enc Tryz.prog w base spare held fuel 3 cs = some x) : ∃ a, cs = [.int .i64 a] := by
  obtain ⟨n, h1, _⟩ := DataW.trod_int Tryz.underlying3 h
  exact ⟨n, h1⟩
theorem some_at {α : Type} {l : List α} {i n : Nat} (hl : l.length = n) (hi : i < n) : ∃ y, l[i]? = some y := ⟨_, List.getElem?_eq_getElem (by omega)⟩
/-- The elements of a slice that came in, element by element: their cells in a row. -/
theorem row_of {α : Type} {e t : TypeId} {size : Nat} (enc' : α → List Value) (hk : ∀ a, (enc' a).length = size) (hsz : 0 < size) (ht : Tryz.prog.underlying t = some (.slice e)) (hC : Tryz.prog.cellsOf e = size)
    (hel : ∀ (fuel : Nat) (cs : List Value) (x : DataW H × List MemPlace), DataW.trod enc Tryz.prog w base spare held fuel e cs = some x → ∃ a, cs = enc' a)
    {A : Option Addr} {n c : Nat} (h : DataW.trod enc Tryz.prog w base spare held fuel t (Value.slice A n c).cells.toList = some x) :
    n ≤ c ∧ c ≤ maxLen ∧ ∃ l : List α, l.length = n ∧ Rd w w.heap.size size A n (l.flatMap enc') := by
  rcases open_slice ht h with ⟨hcs, _⟩ | ⟨a, len, cap, m, nn, D, Pl, hcs, _, hl, hm, hmm, _, hi⟩
  · simp [Value.cells] at hcs
    obtain ⟨rfl, rfl, rfl⟩ := hcs
    exact ⟨Nat.le_refl _, Nat.zero_le _, [], rfl, by simp, fun h0 => absurd h0 (by omega)⟩
  · simp [Value.cells] at hcs
    obtain ⟨rfl, rfl, rfl⟩ := hcs
    refine ⟨hl, hm, ?_⟩
    have hlm : n ≤ m := by rw [hmm]; split <;> omega
    have hex : ∀ i, i < n → ∃ y : α, ∀ j u, (enc' y)[j]? = some u → w.cell? (a.add (i * size + j)) = some u := fun i hin => by
      obtain ⟨cs', hc, ht'⟩ := hi i (by omega)
      rw [hC] at hc
      obtain ⟨_, hcl, hat⟩ := World.cells?_some hc
      obtain ⟨y, rfl⟩ := hel _ _ _ ht'
      refine ⟨y, fun j u hj => ?_⟩
      have hjl : j < size := by have := (List.getElem?_eq_some_iff.1 hj).1; rw [hk] at this; exact this
      rw [← Go.Deep.add_add, hat j hjl, hj]
    have hlist : ∀ k, k ≤ n → ∃ l : List α, l.length = k ∧ ∀ i y, l[i]? = some y → ∀ j u, (enc' y)[j]? = some u → w.cell? (a.add (i * size + j)) = some u := by
      intro k
      induction k with
      | zero => exact fun _ => ⟨[], rfl, fun i y hy => by simp at hy⟩
      | succ k ih =>
        intro hkn
        obtain ⟨l, hll, hlf⟩ := ih (by omega)
        obtain ⟨y, hy⟩ := hex k (by omega)
        refine ⟨l ++ [y], by simp [hll], fun i z hz => ?_⟩
        rw [List.getElem?_append] at hz
        split at hz
        · exact hlf i z hz
        · rename_i hik
          have hi0 : i - l.length = 0 := by have := (List.getElem?_eq_some_iff.1 hz).1; simp at this; omega
          rw [hi0] at hz
          obtain rfl : y = z := by simpa using hz
          obtain rfl : i = k := by omega
          exact hy
    obtain ⟨l, hll, hlf⟩ := hlist n (Nat.le_refl _)
    have hfl : (l.flatMap enc').length = n * size := by
      rw [← hll]
      clear hlf hll hlist
      induction l with
      | nil => simp
      | cons y l ih => simp only [List.flatMap_cons, List.length_append, hk, ih, List.length_cons]; rw [Nat.succ_mul]; omega
    have hget : ∀ t u, (l.flatMap enc')[t]? = some u → w.cell? (a.add t) = some u := fun t u ht => by
      have hlt : t < n * size := by have := (List.getElem?_eq_some_iff.1 ht).1; omega
      have key : ∀ (l : List α) (t : Nat), (l.flatMap enc')[t]? = (l[t / size]?).bind fun y => (enc' y)[t % size]? := by
        intro l
        induction l with
        | nil => intro t; simp
        | cons y l ih =>
          intro t
          rw [List.flatMap_cons, List.getElem?_append, hk]
          by_cases h1 : t < size
          · rw [if_pos h1, Nat.div_eq_of_lt h1, Nat.mod_eq_of_lt h1]
            rfl
          · rw [if_neg h1, ih]
            have e1 : t / size = (t - size) / size + 1 := by
              rw [Nat.div_eq t size, if_pos ⟨hsz, by omega⟩]
            have e2 : t % size = (t - size) % size := Nat.mod_eq_sub_mod (by omega)
            rw [e1, e2, List.getElem?_cons_succ]
      rw [key] at ht
      obtain ⟨y, hy, hu⟩ := Option.bind_eq_some_iff.1 ht
      have := hlf _ y hy _ u hu
      have e3 : t / size * size + t % size = t := by rw [Nat.mul_comm]; exact Nat.div_add_mod t size
      rwa [e3] at this
    refine ⟨l, hll, hfl, fun h0 => ?_⟩
    obtain ⟨u0, hu0⟩ : ∃ u, (l.flatMap enc')[0]? = some u := ⟨_, List.getElem?_eq_getElem (by rw [hfl]; exact Nat.mul_pos h0 hsz)⟩
    obtain ⟨b, off, spot⟩ := a
    have hspot : spot = none := by simpa [Addr.add] using World.cell?_spot (hget 0 u0 hu0)
    subst hspot
    have hc0 := hget 0 u0 hu0
    rw [Go.WideShapes.add_plain] at hc0
    refine ⟨b, off, rfl, ?_, fun j u hj => by rw [← Go.WideShapes.add_plain]; exact hget j u hj⟩
    exact block_lt_of_cell hc0
theorem ints_of {A : Option Addr} {n c : Nat} (h : DataW.trod enc Tryz.prog w base spare held fuel 33 (Value.slice A n c).cells.toList = some x) : n ≤ c ∧ c ≤ maxLen ∧ ∃ l : List Int, Is w w.heap.size A n l := by
  obtain ⟨h1, h2, l, _, h3⟩ := row_of (fun p : Int => [.int .i64 p]) (fun _ => rfl) (by decide) Tryz.underlying33 c1_int (fun _ _ _ h => int_of h) h
  rw [flat_one] at h3
  exact ⟨h1, h2, l, h3⟩
end

end Go.Proofs.YtmcmbicapdcfmaaGreat

-- Zs
namespace Go.Proofs.YtmcmbicapdcfmaaGreat
open Go.ChangeShapes Go.WideShapes Go.ChangeAt Go.RowKit Go.Deep Go.Joins Go.Maps

theorem lenx4 {α : Type} : ∀ {l : List α}, l.length = 4 → ∃ a0 a1 a2 a3, l = [a0, a1, a2, a3]
  | [a0, a1, a2, a3], _ => ⟨a0, a1, a2, a3, rfl⟩
theorem lenx7 {α : Type} : ∀ {l : List α}, l.length = 7 → ∃ a0 a1 a2 a3 a4 a5 a6, l = [a0, a1, a2, a3, a4, a5, a6]
  | [a0, a1, a2, a3, a4, a5, a6], _ => ⟨a0, a1, a2, a3, a4, a5, a6, rfl⟩
section
variable {H : Type} {enc : TypeId × Value → H} {w : World} {base : Nat} {spare : Nat → Bool} {held : Bool} {fuel : Nat} {cs : List Value} {x : DataW H × List MemPlace}
theorem slice_cell {t e : TypeId} (ht : Tryz.prog.underlying t = some (.slice e)) (h : DataW.trod enc Tryz.prog w base spare held fuel t cs = some x) : ∃ A n c, cs = (Value.slice A n c).cells.toList := by
  rcases open_slice ht h with ⟨rfl, _⟩ | ⟨a, len, cap, m, nn, D, Pl, rfl, _⟩
  · exact ⟨none, 0, 0, rfl⟩
  · exact ⟨some a, len, cap, rfl⟩
end
section
variable {H : Type} {enc : TypeId × Value → H} {w : World} {base : Nat} {spare : Nat → Bool} {held : Bool} {r : Reach} {b0 : Nat} {v : Value} {d : DataW H} {p : List MemPlace}
end

end Go.Proofs.YtmcmbicapdcfmaaGreat

