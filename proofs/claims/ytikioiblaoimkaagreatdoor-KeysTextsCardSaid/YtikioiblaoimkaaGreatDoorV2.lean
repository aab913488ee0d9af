import Derived.Test.YtikioiblaoimkaaGreatDoorU9
import Derived.Test.YtikioiblaoimkaaGreatDoorV1
import Derived.Test.YtikioiblaoimkaaGreatDoorA3
import Derived.Test.YtikioiblaoimkaaGreatDoorA5
import Derived.RangeFuncBox
import Derived.Test.YtikioiblaoimkaaGreatDoorZ1
import Derived.Test.YtikioiblaoimkaaGreatDoorA1
set_option linter.unusedVariables false
set_option linter.unusedSimpArgs false

/- read: what its loop keeps. -/
namespace Go.Proofs.YtikioiblaoimkaaGreatDoor
open Go.RowKit

theorem p_Spoken (s : ByteArray) (w : World) : Calls Tryz.prog 41 #[.string s] w fun e w' => e = .returned (.func (.func 80) #[] #[.pointer (some ⟨w.heap.size, 0, none⟩)]) ∧ w' = w.alloc (.cells #[.string s] 9) := by
  have hmf : ∀ (fn : Fn) (first cap : Array Value) (w : World), (Instr.makeFunc fn first cap).run Tryz.prog w = .ok (.func fn first cap) w := fun _ _ _ _ => rfl
  go_enter Tryz.func41, Tryz.ntmps41
  go_wp2
  go_ret
  exact ⟨rfl, rfl⟩
theorem putObj_ne {W : World} {k b : Nat} {o o' : Obj} {r : Loop} (hl : W.heap[k]? = some (.loop r)) (hb : W.heap[b]? = some o') (hc : ∀ r, o' ≠ .loop r) : (W.putObj k o).heap[b]? = W.heap[b]? :=
  World.putObj_heap_other fun e => by
    subst e
    rw [hl] at hb
    exact hc r (Option.some.inj hb).symm
theorem Boxed.loop {W : World} {k b : Nat} {t : TypeId} {v : Value} {o : Obj} {r : Loop} (hl : W.heap[k]? = some (.loop r)) (h : Boxed W b t v) : Boxed (W.putObj k o) b t v :=
  (putObj_ne hl h fun _ e => by cases e).trans h
theorem sts_loop {W : World} {k B n : Nat} {A : Option Addr} {ws : List (List UInt8)} {o : Obj} {r : Loop} (hl : W.heap[k]? = some (.loop r)) (h : Sts W B A n ws) : Sts (W.putObj k o) B A n ws :=
  ⟨h.1, fun hn => by
    obtain ⟨b, i, e, hb, hc⟩ := h.2 hn
    refine ⟨b, i, e, hb, fun j u hu => ?_⟩
    have h1 := hc j u hu
    have hbk : b ≠ k := fun e => by
      subst e
      simp [World.cell?, hl] at h1
    exact (World.cell?_of_block (w := W) (w' := W.putObj k o) (a := ⟨b, i + j, none⟩) (World.putObj_heap_other hbk)).trans h1⟩
theorem below_loop {W w : World} {B k : Nat} {o : Obj} {r : Loop} (h : Below B w W) (hl : W.heap[k]? = some (.loop r)) (hB : B ≤ k) : Below B w (W.putObj k o) :=
  h.grown (grownBy_putObj' W k o) (by have := (Array.getElem?_eq_some_iff.1 hl).1; omega) fun j e => by cases e; omega
theorem KeepT.of_grown {T : TypeId} {B : Nat} {W W' : World} {row : Option Nat} (hg : W.grownBy W' row) (h : ∀ g, row = some g → ∃ cs fr, W.heap[g]? = some (.cells cs T fr)) : KeepT T B W W' :=
  ⟨hg.size, fun k o _ ho ht => by
    have hlt : k < W.heap.size := (Array.getElem?_eq_some_iff.1 ho).1
    refine (hg.block k hlt fun e => ?_).trans ho
    obtain ⟨cs, fr, h2⟩ := h k e.symm
    rw [ho] at h2
    exact ht cs fr (Option.some.inj h2)⟩
theorem KeepT.setCell {T : TypeId} {B : Nat} {p : Addr} (W : World) (v : Value) (h : p.block < B) : KeepT T B W (W.setCell p v) :=
  ⟨(by simp), fun k o hk ho _ => (Below.heap_setCell W p v k (by omega)).trans ho⟩

/-- What a round of read finds. -/
def InvR (w : World) (pre : List Spk) (W : World) : Prop :=
  ∃ v ds, Boxed W w.heap.size 22 v ∧ W.ownsRow w.heap.size 41 9 v ds.length (deedCells ds) ∧ GoodL (pre.map spk) ds ∧ Boxed W (w.heap.size + 1) 3 (.int .i64 0) ∧ Below w.heap.size w W ∧ ds.length ≤ pre.length
def InvP (w : World) (t : List UInt8) (ch : List PanicEntry) (_ : List Spk) (W : World) : Prop :=
  ∃ i v, ch = wrongV i ∧ badN (parsD t) = i ∧ 0 < i ∧ i ≤ 100001 ∧ Boxed W w.heap.size 22 v ∧ Boxed W (w.heap.size + 1) 3 (.int .i64 0) ∧ Below w.heap.size w W
theorem invR_own (w : World) (B : Nat) (hB : w.heap.size ≤ B) : OwnU B (InvR w) := by
  constructor
  · rintro s X Y ⟨v, ds, h1, h2, h3, h4, h5, h6⟩ hb
    exact ⟨v, ds, boxed_ext h1 hb, own_keep h2 fun b hb' => hb.block b (by obtain ⟨cur, hh⟩ := own_block h2 hb'; exact block_lt hh), h3, boxed_ext h4 hb, Below.then_ h5 hb, h6⟩
  · rintro s X k r o ⟨v, ds, h1, h2, h3, h4, h5, h6⟩ hk hl
    exact ⟨v, ds, Boxed.loop hl h1, ownsRow_putObj h2 o hl rfl, h3, Boxed.loop hl h4, below_loop h5 hl (by omega), h6⟩
theorem mxK_own (B : Nat) (x : Spk) : OwnU B (fun (_ : Unit) W => MxK x W) := by
  constructor
  · rintro s X Y ⟨h1, h2⟩ hb
    exact ⟨Sts.now h1 hb, h2⟩
  · rintro s X k r o ⟨h1, h2⟩ hk hl
    refine ⟨?_, h2⟩
    rw [World.putObj_size]
    exact sts_loop hl h1
theorem good_len {l : List (Nat × List UInt8)} {ds : List Deed} (h : GoodL l ds) : ds.length ≤ l.length := by rw [h.2]; exact List.length_filterMap_le _ _
theorem spoken_len : ∀ (ls : List (List UInt8)) (i : Nat), (spokenL i ls).length ≤ ls.length
  | [], i => by simp [spokenL]
  | l :: ls, i => by
    have := spoken_len ls (i + 1)
    rw [spokenL]
    split <;> simp <;> omega
theorem pars_len (t : List UInt8) : (parsD t).length ≤ t.length + 1 := Nat.le_trans (spoken_len _ _) (lnGo_count t [])
theorem spoken_no : ∀ (ls : List (List UInt8)) (i : Nat) (x : Nat × List UInt8), x ∈ spokenL i ls → i < x.1 ∧ x.1 ≤ i + ls.length ∧ x.2 ∈ ls
  | [], i, x, h => by simp [spokenL] at h
  | l :: ls, i, x, h => by
    rw [spokenL] at h
    have hr : x ∈ spokenL (i + 1) ls → i < x.1 ∧ x.1 ≤ i + (l :: ls).length ∧ x.2 ∈ l :: ls := fun h => by
      have h1 := spoken_no ls (i + 1) x h
      refine ⟨by omega, by simp; omega, List.mem_cons_of_mem _ h1.2.2⟩
    split at h
    · rcases List.mem_cons.1 h with rfl | h
      · exact ⟨by simp, by simp, by simp⟩
      · exact hr h
    · exact hr h
theorem pre_bad {l pre : List (Nat × List UInt8)} {x : Nat × List UInt8} {ds : List Deed} (hp : pre ++ [x] <+: l) (hg : GoodL pre ds) (hd : deedO (wdL x.2) = none) : badN l = x.1 := by
  obtain ⟨r, rfl⟩ := hp
  rw [List.append_assoc, List.singleton_append]
  exact badN_first hg.1 (by unfold lineO; rw [hd]; rfl)

end Go.Proofs.YtikioiblaoimkaaGreatDoor

/- read of the program: its loop, its panics, its deferred function. -/
namespace Go.Proofs.YtikioiblaoimkaaGreatDoor
open Go.RowKit
attribute [local go_sem] Oper.semAt_some

theorem step_appI {F : Fence} {nF : Nat} {P : Program} {w : World} {ops : Array Oper} {o : Oper} {a : Act} {K : Act → World → Prop} {Q : Exit → Act → World → Prop} {E : Prop} (hgd : o.guard = none) (s x : Operand) (t : TypeId)
    (hop : o.op = .call { callee := .builtin .append, args := #[s, x], argTypes := #[t, t] })
    {base B : Nat} {e : TypeId} {i : TypeInfo} {z : Value} {size bytes : Nat} (ht : P.underlying t = some (.slice e)) (hi : P.info? e = some i) (hz : i.zero = some z)
    (hsize : i.size = size) (hby : i.bytes = bytes) (hzs : z.cells.size = size) (hsz : 0 < size) {v : Value} {n m c : Nat} {xs news : List Value} {A : Option Addr} (hs : a.eval s = v) (hx : a.eval x = .slice A m c) (ho : w.ownsRow base e size v n xs)
    (hr : Rd w B size A m news) (h1 : ∀ u ∈ news, u.oneCell' = true) (h63 : n + m ≤ maxLen) (hb : (n + m) * bytes ≤ 140737488355328) (hbase : base ≤ w.heap.size)
    (h : ∀ v' w', w'.ownsRow base e size v' (n + m) (xs ++ news) → w.grownBy w' v.ownBlock → K (a.put o.dst v') w') :
    if Region.wanted o (yielded ops a.tmps) = true then Oper.wpIn F nF P o a w K Q else E := by
  have hw : Region.wanted o (yielded ops a.tmps) = true := by simp [Region.wanted, hgd]
  rw [if_pos hw]
  obtain ⟨v', w', g1, g2, g3⟩ := run_app (P := P) w (ty := o.type) ht hi hz hsize hby hzs hsz ho hr h1 h63 hb hbase (c := c)
  unfold Oper.wpIn
  refine ⟨by simp [Oper.about, hop, resolve, Target.leads, Sem.run_pure], ?_⟩
  rw [Oper.semAt_plain F _ _ (by rw [hop]; intro c hc'; cases hc')]
  simp [execOp, hop, resolve, invoke, builtin, hs, hx, g1, Result.andThen]
  exact h v' w' g2 g3

/-- What read hands back. -/
def RetRead (t : List UInt8) (w : World) (e : Ending) (w' : World) : Prop :=
  (∃ ds A c, GoodL (parsD t) ds ∧ e = .returned (.tuple #[.slice A ds.length c, .int .i64 0]) ∧ Below w.heap.size w w' ∧ Ds w' w'.heap.size A ds.length ds ∧ ds.length ≤ c ∧ c ≤ maxLen ∧ ds.length ≤ 8001) ∨
  (∃ i : Nat, 0 < i ∧ i ≤ 100001 ∧ badN (parsD t) = i ∧ e = .returned (.tuple #[.slice none 0 0, .int .i64 i]) ∧ Below w.heap.size w w')

set_option maxRecDepth 100000 in
set_option maxHeartbeats 8000000 in
theorem p_read (s : ByteArray) (w : World) (hs : s.size ≤ 8000) (hm : MaxW w) : Calls Tryz.prog 16 #[.string s] w (RetRead s.data.toList w) := by
  obtain ⟨i0, hi, hz0, hz1, hz2⟩ := info_parts infoDeed
  obtain ⟨t, ht⟩ : ∃ t, s.data.toList = t := ⟨_, rfl⟩
  have htl : t.length ≤ 8000 := by rw [← ht, ← size_len]; exact hs
  have hmf : ∀ (fn : Fn) (first cap : Array Value) (w : World), (Instr.makeFunc fn first cap).run Tryz.prog w = .ok (.func fn first cap) w := fun _ _ _ _ => rfl
  refine (callsIn_wide (n := 9)).1 ?_
  refine WpAt.calls Tryz.func16 rfl ?_
  simp only [Tryz.ntmps16, List.size_toArray, List.length_cons, List.length_nil, Nat.reduceAdd, Nat.reduceSub, Array.replicate_succ, Array.replicate_zero, List.push_toArray, List.append_toArray, List.nil_append, List.cons_append]
  refine WpAt.seq fun K hK => ?_
  gi_wp2
  refine WpAt.seq fun K hK => ?_
  gi_wp2
  refine WpAt.seq2 fun K hK => ?_
  refine WpAt.seq fun K2 hK2 => ?_
  gi_wp2_with (refine ⟨trivial, ?_⟩; gi_at_call 41; refine (callsIn_wide.2 (p_Spoken _ _)).mono ?_; rintro e w1 ⟨rfl, rfl⟩)
  refine WpAt.block ?_
  (try simp only [World.size_alloc])
  refine (fun h : ∀ W0, W0 = _ → WpAt _ _ _ _ _ _ W0 => h _ rfl) ?_
  intro W0 hW0
  have hsz : W0.heap.size = w.heap.size + 3 := by rw [hW0]; simp
  have hB0 : Below w.heap.size w W0 := by rw [hW0]; (repeat' (first | with_reducible exact Below.refl _ _ | with_reducible assumption | with_reducible refine Below.alloc ?_ ?_ _ | with_reducible refine Below.setCell ?_ ?_ _ | with_reducible refine Below.drew ?_ | (simp; done) | (simp; omega) | omega))
  have bS : Boxed W0 (w.heap.size + 1 + 1) 9 (.string s) := by rw [hW0]; rw [boxed_iff]; simp only [alloc_get, World.size_alloc]; (repeat (first | rw [if_pos trivial] | rw [if_pos (by omega)] | rw [if_neg (by omega)]))
  have bD : Boxed W0 w.heap.size 22 (.slice none 0 0) := by rw [hW0]; rw [boxed_iff]; simp only [alloc_get, World.size_alloc]; (repeat (first | rw [if_pos trivial] | rw [if_pos (by omega)] | rw [if_neg (by omega)]))
  have bI : Boxed W0 (w.heap.size + 1) 3 (.int .i64 0) := by rw [hW0]; rw [boxed_iff]; simp only [alloc_get, World.size_alloc]; (repeat (first | rw [if_pos trivial] | rw [if_pos (by omega)] | rw [if_neg (by omega)]))
  clear hW0
  refine range_P (m := 7) (gf := 80) (lb := #[.pointer (some ⟨w.heap.size + 1 + 1, 0, none⟩)]) (encs := encK) (T := 41) rfl (enters_of Tryz.func80 (by kernel_rfl) rfl)
    (spoken_P s (w.heap.size + 1 + 1) W0 (by omega) (hm.ext hB0) bS.cell) (fun _ => rfl) Tryz.func16 (InvR w) (InvP w t) (invR_own w _ (by omega))
    ⟨_, [], bD, World.ownsRow_nil _ _ _ _, ⟨fun y hy => by simp at hy, rfl⟩, bI, hB0, Nat.le_refl _⟩
    (fun x a' _ => a' = { tmps := #[.string s, undef, .pointer (some ⟨w.heap.size, 0, none⟩), .pointer (some ⟨w.heap.size + 1, 0, none⟩), .int .i64 x.1, .slice (some ⟨x.2.2, 0, none⟩) (wdL x.2.1).length (wdL x.2.1).length, .func (.func 40) #[] #[.pointer (some ⟨w.heap.size, 0, none⟩), .pointer (some ⟨w.heap.size + 1, 0, none⟩)], .string s, .func (.func 80) #[] #[.pointer (some ⟨w.heap.size + 1 + 1, 0, none⟩)], .int .i64 x.1, .slice (some ⟨x.2.2, 0, none⟩) (wdL x.2.1).length (wdL x.2.1).length, undef, undef, undef, undef, undef, undef, undef], defers := [] })
    (fun x a' => ⟨fun _ _ _ h _ => h, fun _ _ _ _ _ h _ _ => h⟩) (fun x => mxK_own _ x) ?assign ?body ?done ?stop
  case assign =>
    rintro l pre x W K hsW hI hM hK
    simp only [encK]
    gi_wp2
    exact hK _ _ (Below.refl _ _) rfl
  case body =>
    rintro l pre x a' W hsW ⟨r, hr⟩ ⟨v, ds, hb2, hown, hg, hb3, hB, hle⟩ ⟨hsts, hsay⟩ rfl hpp
    obtain ⟨w0, wt, hww⟩ := says_words hsay
    have hpp' : pre.map spk ++ [spk x] <+: parsD t := by
      rw [← ht]
      show _ <+: spokenL 0 (lnL s.data.toList)
      simpa using hpp
    have hno := spoken_no (lnL t) 0 (spk x) (by
      obtain ⟨r, hr⟩ := hpp'
      show spk x ∈ parsD t
      rw [← hr]
      simp)
    have hlc : (lnL t).length ≤ 8001 := by
      have := lnGo_count t []
      show (lnGo [] t).length ≤ _
      omega
    have hxl : x.2.1.length ≤ 8000 := by
      have := lnGo_len t [] _ hno.2.2
      simp [spk] at this
      omega
    have hxn : x.1 ≤ 8001 := by have := hno.2.1; simp only [spk] at this; omega
    have hx0 : 0 < x.1 := hno.1
    have hpl : pre.length ≤ 8001 := by
      obtain ⟨r, hr⟩ := hpp'
      have h1 := pars_len t
      rw [← hr] at h1
      simp at h1
      omega
    have hwl : ∀ y ∈ w0 :: wt, y.length ≤ 100000 := by
      rw [← hww]
      intro y hy
      have := wdL_mem hy
      omega
    have hwn : (wdL x.2.1).length ≤ 100000 := by have := wdL_count x.2.1; omega
    have cP := hb2.cell
    have hWs : w.heap.size + 3 ≤ W.heap.size := by omega
    have HP := Lib.hid hb2
    have HI := Lib.hid hb3
    have HO := Lib.hid hown
    have HB := Lib.hid hB
    have HG := Lib.hid hg
    obtain ⟨n, hn⟩ : ∃ n, (wdL x.2.1).length = n := ⟨_, rfl⟩
    rw [hn] at hsts hwn
    rw [hww] at hsts
    rw [hn]
    cases hd : deedO (wdL x.2.1) with
    | none =>
      have hbad := pre_bad hpp' hg hd
      rw [hww] at hd
      have HC := Lib.hid (p_deedOf_bad x.1 w0 wt x.2.2 n W.drew hsts (by omega) hwn hwl hd)
      have HF : Hid (∀ w6 : World, Below W.drew.heap.size W.drew w6 → KeepT 41 W0.heap.size W w6 ∧ InvP w t (wrongV x.1) (pre ++ [x]) w6) := by
        show ∀ _, _
        intro w6 hb6
        refine ⟨(KeepT.of_below (B := W0.heap.size) ((Below.refl _ W).drew)).trans (KeepT.of_below hb6), x.1, v, rfl, ?_, hx0, by omega, boxed_ext (W := W.drew) hb2 hb6, boxed_ext (W := W.drew) hb3 hb6, Below.then_ hB.drew hb6⟩
        simpa [spk] using hbad
      clear hd hbad hww hsts hwl hno hpp hpp' hsay hb2 hb3 hown hg hB
      gi_wp2
      refine wpIn_region_any (by kernel_rfl) ?_
      change wpAnyIn _ _ _ _ _ _ _ _ _ (World.drew _)
      refine wpAnyIn_ready (rs := [0, 1, 2]) (by kernel_rfl) (by simp) ?_
      refine AllReadyIn.cons rfl (fun K hK => ?_) ?_
      · go_simp
        refine hK _ _ ?_
        clear hK K
        refine wpAnyIn_ready (rs := [1, 2]) (by kernel_rfl) (by simp) ?_
        refine AllReadyIn.cons rfl (fun K hK => ?_) ?_
        · go_simp
          refine hK _ _ ?_
          clear hK K
          refine wpAnyIn_ready (rs := [2]) (by kernel_rfl) (by simp) ?_
          refine AllReadyIn.cons rfl (fun K hK => ?_) ?_
          · go_simp
            refine hK _ _ ?_
            clear hK K
            refine wpAnyIn_ready (rs := [3]) (by kernel_rfl) (by simp) ?_
            refine AllReadyIn.cons rfl (fun K hK => ?_) ?_
            · go_simp
              refine ⟨trivial, ?_⟩
              refine (CallsIn.inRound l (callsIn_wide.2 (HC.out))).mono ?_
              rintro e w6 ⟨rfl, hb6⟩
              exact ⟨rfl, hsz ▸ HF.out w6 hb6⟩
            exact AllReadyIn.nil
          exact AllReadyIn.nil
        refine AllReadyIn.cons rfl (fun K hK => ?_) ?_
        · go_simp
          refine hK _ _ ?_
          clear hK K
          refine wpAnyIn_ready (rs := [1]) (by kernel_rfl) (by simp) ?_
          refine AllReadyIn.cons rfl (fun K hK => ?_) ?_
          · go_simp
            refine hK _ _ ?_
            clear hK K
            refine wpAnyIn_ready (rs := [3]) (by kernel_rfl) (by simp) ?_
            refine AllReadyIn.cons rfl (fun K hK => ?_) ?_
            · go_simp
              refine ⟨trivial, ?_⟩
              refine (CallsIn.inRound l (callsIn_wide.2 (HC.out))).mono ?_
              rintro e w6 ⟨rfl, hb6⟩
              exact ⟨rfl, hsz ▸ HF.out w6 hb6⟩
            exact AllReadyIn.nil
          exact AllReadyIn.nil
        exact AllReadyIn.nil
      refine AllReadyIn.cons rfl (fun K hK => ?_) ?_
      · go_simp
        refine hK _ _ ?_
        clear hK K
        refine wpAnyIn_ready (rs := [0, 2]) (by kernel_rfl) (by simp) ?_
        refine AllReadyIn.cons rfl (fun K hK => ?_) ?_
        · go_simp
          refine hK _ _ ?_
          clear hK K
          refine wpAnyIn_ready (rs := [2]) (by kernel_rfl) (by simp) ?_
          refine AllReadyIn.cons rfl (fun K hK => ?_) ?_
          · go_simp
            refine hK _ _ ?_
            clear hK K
            refine wpAnyIn_ready (rs := [3]) (by kernel_rfl) (by simp) ?_
            refine AllReadyIn.cons rfl (fun K hK => ?_) ?_
            · go_simp
              refine ⟨trivial, ?_⟩
              refine (CallsIn.inRound l (callsIn_wide.2 (HC.out))).mono ?_
              rintro e w6 ⟨rfl, hb6⟩
              exact ⟨rfl, hsz ▸ HF.out w6 hb6⟩
            exact AllReadyIn.nil
          exact AllReadyIn.nil
        refine AllReadyIn.cons rfl (fun K hK => ?_) ?_
        · go_simp
          refine hK _ _ ?_
          clear hK K
          refine wpAnyIn_ready (rs := [0, 3]) (by kernel_rfl) (by simp) ?_
          refine AllReadyIn.cons rfl (fun K hK => ?_) ?_
          · go_simp
            refine hK _ _ ?_
            clear hK K
            refine wpAnyIn_ready (rs := [3]) (by kernel_rfl) (by simp) ?_
            refine AllReadyIn.cons rfl (fun K hK => ?_) ?_
            · go_simp
              refine ⟨trivial, ?_⟩
              refine (CallsIn.inRound l (callsIn_wide.2 (HC.out))).mono ?_
              rintro e w6 ⟨rfl, hb6⟩
              exact ⟨rfl, hsz ▸ HF.out w6 hb6⟩
            exact AllReadyIn.nil
          refine AllReadyIn.cons rfl (fun K hK => ?_) ?_
          · go_simp
            refine ⟨trivial, ?_⟩
            refine (CallsIn.inRound l (callsIn_wide.2 (HC.out))).mono ?_
            rintro e w6 ⟨rfl, hb6⟩
            exact ⟨rfl, hsz ▸ HF.out w6 hb6⟩
          exact AllReadyIn.nil
        exact AllReadyIn.nil
      refine AllReadyIn.cons rfl (fun K hK => ?_) ?_
      · go_simp
        refine hK _ _ ?_
        clear hK K
        refine wpAnyIn_ready (rs := [0, 1]) (by kernel_rfl) (by simp) ?_
        refine AllReadyIn.cons rfl (fun K hK => ?_) ?_
        · go_simp
          refine hK _ _ ?_
          clear hK K
          refine wpAnyIn_ready (rs := [1]) (by kernel_rfl) (by simp) ?_
          refine AllReadyIn.cons rfl (fun K hK => ?_) ?_
          · go_simp
            refine hK _ _ ?_
            clear hK K
            refine wpAnyIn_ready (rs := [3]) (by kernel_rfl) (by simp) ?_
            refine AllReadyIn.cons rfl (fun K hK => ?_) ?_
            · go_simp
              refine ⟨trivial, ?_⟩
              refine (CallsIn.inRound l (callsIn_wide.2 (HC.out))).mono ?_
              rintro e w6 ⟨rfl, hb6⟩
              exact ⟨rfl, hsz ▸ HF.out w6 hb6⟩
            exact AllReadyIn.nil
          exact AllReadyIn.nil
        refine AllReadyIn.cons rfl (fun K hK => ?_) ?_
        · go_simp
          refine hK _ _ ?_
          clear hK K
          refine wpAnyIn_ready (rs := [0, 3]) (by kernel_rfl) (by simp) ?_
          refine AllReadyIn.cons rfl (fun K hK => ?_) ?_
          · go_simp
            refine hK _ _ ?_
            clear hK K
            refine wpAnyIn_ready (rs := [3]) (by kernel_rfl) (by simp) ?_
            refine AllReadyIn.cons rfl (fun K hK => ?_) ?_
            · go_simp
              refine ⟨trivial, ?_⟩
              refine (CallsIn.inRound l (callsIn_wide.2 (HC.out))).mono ?_
              rintro e w6 ⟨rfl, hb6⟩
              exact ⟨rfl, hsz ▸ HF.out w6 hb6⟩
            exact AllReadyIn.nil
          refine AllReadyIn.cons rfl (fun K hK => ?_) ?_
          · go_simp
            refine ⟨trivial, ?_⟩
            refine (CallsIn.inRound l (callsIn_wide.2 (HC.out))).mono ?_
            rintro e w6 ⟨rfl, hb6⟩
            exact ⟨rfl, hsz ▸ HF.out w6 hb6⟩
          exact AllReadyIn.nil
        exact AllReadyIn.nil
      exact AllReadyIn.nil
    | some d =>
      have hlo : lineO (spk x) = some d := hd
      rw [hww] at hd
      have HC := Lib.hid (p_deedOf_ok x.1 w0 wt x.2.2 n W.drew d hsts (by omega) hwn hwl hd)
      have HF : Hid (∀ (w6 w8 : World) (v2 : Value), Below W.drew.heap.size W.drew w6 → w8.ownsRow w.heap.size 41 9 v2 (ds.length + 1) (deedCells ds ++ [.int .i64 d.par, .int .i64 d.no, .int .i64 d.kind, .int .i64 d.lock, .int .i64 d.person, .int .i64 d.lo, .int .i64 d.hi, .int .i64 d.known, .int .i64 d.til]) → (w6.alloc (.cells #[.int .i64 d.par, .int .i64 d.no, .int .i64 d.kind, .int .i64 d.lock, .int .i64 d.person, .int .i64 d.lo, .int .i64 d.hi, .int .i64 d.known, .int .i64 d.til] 41)).grownBy w8 v.ownBlock →
          KeepT 41 W0.heap.size W (w8.setCell ⟨w.heap.size, 0, none⟩ v2) ∧ InvR w (pre ++ [x]) (w8.setCell ⟨w.heap.size, 0, none⟩ v2)) := by
        show ∀ _, _
        intro w6 w8 v2 hb6 h8 hg8
        have bP6 := boxed_ext (W := W.drew) hb2 hb6
        have bI6 := boxed_ext (W := W.drew) hb3 hb6
        have hO6 := own_keep (w := W.drew) hown fun b hb => hb6.block b (by obtain ⟨cur, hh⟩ := own_block hown hb; exact block_lt hh)
        have hs6 : W.heap.size ≤ w6.heap.size := hb6.size
        have HA := Boxed.appended bP6 (by decide) hO6 (by omega) (Nat.le_refl _) h8 hg8
        refine ⟨((((KeepT.of_below (B := W0.heap.size) ((Below.refl _ W).drew)).trans (KeepT.of_below hb6)).trans (KeepT.of_below ((Below.refl _ w6).alloc (Nat.le_refl _) _))).trans (KeepT.of_grown hg8 fun g hg => ?_)).trans (KeepT.setCell _ _ (by simp only; omega)), v2, ds ++ [d], HA.2.1, ?_, ?_, ?_, (Below.then_ hB.drew hb6).trans HA.2.2.2.2, by simp; omega⟩
        · obtain ⟨cur, hh⟩ := own_block (hO6.alloc _) hg
          exact ⟨_, _, hh⟩
        · rw [deedCells_append, List.length_append]
          exact HA.2.2.1
        · rw [List.map_append]
          exact good_in hlo hg
        · exact ((bI6.alloc _).kept hg8 ((bI6.alloc (.cells #[.int .i64 d.par, .int .i64 d.no, .int .i64 d.kind, .int .i64 d.lock, .int .i64 d.person, .int .i64 d.lo, .int .i64 d.hi, .int .i64 d.known, .int .i64 d.til] 41)).not_row (by decide) (hO6.alloc (.cells #[.int .i64 d.par, .int .i64 d.no, .int .i64 d.kind, .int .i64 d.lock, .int .i64 d.person, .int .i64 d.lo, .int .i64 d.hi, .int .i64 d.known, .int .i64 d.til] 41)))).kept (grownBy_setCell' _ _ _) (by simp)
      clear hd hlo hww hsts hwl hno hpp hpp' hsay hb2 hb3 hown hg hB
      gi_wp2
      refine wpIn_region_any (by kernel_rfl) ?_
      change wpAnyIn _ _ _ _ _ _ _ _ _ (World.drew _)
      refine wpAnyIn_ready (rs := [0, 1, 2]) (by kernel_rfl) (by simp) ?_
      refine AllReadyIn.cons rfl (fun K hK => ?_) ?_
      · go_simp
        refine hK _ _ ?_
        clear hK K
        refine wpAnyIn_ready (rs := [1, 2]) (by kernel_rfl) (by simp) ?_
        refine AllReadyIn.cons rfl (fun K hK => ?_) ?_
        · go_simp
          refine hK _ _ ?_
          clear hK K
          refine wpAnyIn_ready (rs := [2]) (by kernel_rfl) (by simp) ?_
          refine AllReadyIn.cons rfl (fun K hK => ?_) ?_
          · go_simp
            refine hK _ _ ?_
            clear hK K
            refine wpAnyIn_ready (rs := [3]) (by kernel_rfl) (by simp) ?_
            refine AllReadyIn.cons rfl (fun K hK => ?_) ?_
            · go_simp
              refine ⟨trivial, ?_⟩
              refine (CallsIn.inRound l (callsIn_wide.2 (HC.out))).mono ?_
              rintro e w6 ⟨rfl, hb6⟩
              have bP6 := boxed_ext (W := W.drew) HP.out hb6
              have cP6 := bP6.cell
              have hs6 := hb6.size
              have hlt6 : w.heap.size < w6.heap.size := bP6.lt
              have bI6 := boxed_ext (W := W.drew) HI.out hb6
              have hO6 := own_keep (w := W.drew) HO.out fun b hb => hb6.block b (by obtain ⟨cur, hh⟩ := own_block HO.out hb; exact block_lt hh)
              go_simp
              refine hK _ _ ?_
              clear hK K
              refine wpAnyIn_ready (rs := [4]) (by kernel_rfl) (by simp) ?_
              refine AllReadyIn.cons rfl (fun K hK => ?_) ?_
              · go_simp
                refine hK _ _ ?_
                clear hK K
                refine wpAnyIn_ready (rs := [5]) (by kernel_rfl) (by simp) ?_
                refine AllReadyIn.cons rfl (fun K hK => ?_) ?_
                · refine step_appI (by rfl) (.tmp 11) (.tmp 15) 22 (by rfl) (base := w.heap.size) (B := _) (e := 41) (i := i0) (size := 9) (bytes := 72) Tryz.underlying22 hi hz0 hz1 hz2 rfl (by decide) (by rfl) (by rfl) (n := ds.length) (xs := deedCells ds) (hO6.alloc _) (m := 1) (news := [.int .i64 d.par, .int .i64 d.no, .int .i64 d.kind, .int .i64 d.lock, .int .i64 d.person, .int .i64 d.lo, .int .i64 d.hi, .int .i64 d.known, .int .i64 d.til]) (Rd.new w6 #[.int .i64 d.par, .int .i64 d.no, .int .i64 d.kind, .int .i64 d.lock, .int .i64 d.person, .int .i64 d.lo, .int .i64 d.hi, .int .i64 d.known, .int .i64 d.til] 41 9 1 _ rfl rfl) (deedCells_one [d]) (by unfold maxLen; omega) (by omega) (by simp; omega) ?_
                  intro v2 w8 hown8 hgrow8
                  obtain ⟨A8, c8, rfl, hcc8⟩ := own_slice hown8
                  have HA := Boxed.appended bP6 (by decide) hO6 (by omega) (Nat.le_refl _) hown8 hgrow8
                  have cP8 := HA.1.cell
                  have fP8 := HA.1.frozen
                  refine hK _ _ ?_
                  clear hK K
                  refine wpAnyIn_ready (rs := [6]) (by kernel_rfl) (by simp) ?_
                  refine AllReadyIn.cons rfl (fun K hK => ?_) ?_
                  · go_simp
                    refine hK _ _ ?_
                    clear hK K
                    refine wpAnyIn_done (by kernel_rfl) ?_ _
                    exact HF.out w6 w8 _ hb6 hown8 hgrow8
                  exact AllReadyIn.nil
                exact AllReadyIn.nil
              exact AllReadyIn.nil
            exact AllReadyIn.nil
          exact AllReadyIn.nil
        refine AllReadyIn.cons rfl (fun K hK => ?_) ?_
        · go_simp
          refine hK _ _ ?_
          clear hK K
          refine wpAnyIn_ready (rs := [1]) (by kernel_rfl) (by simp) ?_
          refine AllReadyIn.cons rfl (fun K hK => ?_) ?_
          · go_simp
            refine hK _ _ ?_
            clear hK K
            refine wpAnyIn_ready (rs := [3]) (by kernel_rfl) (by simp) ?_
            refine AllReadyIn.cons rfl (fun K hK => ?_) ?_
            · go_simp
              refine ⟨trivial, ?_⟩
              refine (CallsIn.inRound l (callsIn_wide.2 (HC.out))).mono ?_
              rintro e w6 ⟨rfl, hb6⟩
              have bP6 := boxed_ext (W := W.drew) HP.out hb6
              have cP6 := bP6.cell
              have hs6 := hb6.size
              have hlt6 : w.heap.size < w6.heap.size := bP6.lt
              have bI6 := boxed_ext (W := W.drew) HI.out hb6
              have hO6 := own_keep (w := W.drew) HO.out fun b hb => hb6.block b (by obtain ⟨cur, hh⟩ := own_block HO.out hb; exact block_lt hh)
              go_simp
              refine hK _ _ ?_
              clear hK K
              refine wpAnyIn_ready (rs := [4]) (by kernel_rfl) (by simp) ?_
              refine AllReadyIn.cons rfl (fun K hK => ?_) ?_
              · go_simp
                refine hK _ _ ?_
                clear hK K
                refine wpAnyIn_ready (rs := [5]) (by kernel_rfl) (by simp) ?_
                refine AllReadyIn.cons rfl (fun K hK => ?_) ?_
                · refine step_appI (by rfl) (.tmp 11) (.tmp 15) 22 (by rfl) (base := w.heap.size) (B := _) (e := 41) (i := i0) (size := 9) (bytes := 72) Tryz.underlying22 hi hz0 hz1 hz2 rfl (by decide) (by rfl) (by rfl) (n := ds.length) (xs := deedCells ds) (hO6.alloc _) (m := 1) (news := [.int .i64 d.par, .int .i64 d.no, .int .i64 d.kind, .int .i64 d.lock, .int .i64 d.person, .int .i64 d.lo, .int .i64 d.hi, .int .i64 d.known, .int .i64 d.til]) (Rd.new w6 #[.int .i64 d.par, .int .i64 d.no, .int .i64 d.kind, .int .i64 d.lock, .int .i64 d.person, .int .i64 d.lo, .int .i64 d.hi, .int .i64 d.known, .int .i64 d.til] 41 9 1 _ rfl rfl) (deedCells_one [d]) (by unfold maxLen; omega) (by omega) (by simp; omega) ?_
                  intro v2 w8 hown8 hgrow8
                  obtain ⟨A8, c8, rfl, hcc8⟩ := own_slice hown8
                  have HA := Boxed.appended bP6 (by decide) hO6 (by omega) (Nat.le_refl _) hown8 hgrow8
                  have cP8 := HA.1.cell
                  have fP8 := HA.1.frozen
                  refine hK _ _ ?_
                  clear hK K
                  refine wpAnyIn_ready (rs := [6]) (by kernel_rfl) (by simp) ?_
                  refine AllReadyIn.cons rfl (fun K hK => ?_) ?_
                  · go_simp
                    refine hK _ _ ?_
                    clear hK K
                    refine wpAnyIn_done (by kernel_rfl) ?_ _
                    exact HF.out w6 w8 _ hb6 hown8 hgrow8
                  exact AllReadyIn.nil
                exact AllReadyIn.nil
              exact AllReadyIn.nil
            exact AllReadyIn.nil
          exact AllReadyIn.nil
        exact AllReadyIn.nil
      refine AllReadyIn.cons rfl (fun K hK => ?_) ?_
      · go_simp
        refine hK _ _ ?_
        clear hK K
        refine wpAnyIn_ready (rs := [0, 2]) (by kernel_rfl) (by simp) ?_
        refine AllReadyIn.cons rfl (fun K hK => ?_) ?_
        · go_simp
          refine hK _ _ ?_
          clear hK K
          refine wpAnyIn_ready (rs := [2]) (by kernel_rfl) (by simp) ?_
          refine AllReadyIn.cons rfl (fun K hK => ?_) ?_
          · go_simp
            refine hK _ _ ?_
            clear hK K
            refine wpAnyIn_ready (rs := [3]) (by kernel_rfl) (by simp) ?_
            refine AllReadyIn.cons rfl (fun K hK => ?_) ?_
            · go_simp
              refine ⟨trivial, ?_⟩
              refine (CallsIn.inRound l (callsIn_wide.2 (HC.out))).mono ?_
              rintro e w6 ⟨rfl, hb6⟩
              have bP6 := boxed_ext (W := W.drew) HP.out hb6
              have cP6 := bP6.cell
              have hs6 := hb6.size
              have hlt6 : w.heap.size < w6.heap.size := bP6.lt
              have bI6 := boxed_ext (W := W.drew) HI.out hb6
              have hO6 := own_keep (w := W.drew) HO.out fun b hb => hb6.block b (by obtain ⟨cur, hh⟩ := own_block HO.out hb; exact block_lt hh)
              go_simp
              refine hK _ _ ?_
              clear hK K
              refine wpAnyIn_ready (rs := [4]) (by kernel_rfl) (by simp) ?_
              refine AllReadyIn.cons rfl (fun K hK => ?_) ?_
              · go_simp
                refine hK _ _ ?_
                clear hK K
                refine wpAnyIn_ready (rs := [5]) (by kernel_rfl) (by simp) ?_
                refine AllReadyIn.cons rfl (fun K hK => ?_) ?_
                · refine step_appI (by rfl) (.tmp 11) (.tmp 15) 22 (by rfl) (base := w.heap.size) (B := _) (e := 41) (i := i0) (size := 9) (bytes := 72) Tryz.underlying22 hi hz0 hz1 hz2 rfl (by decide) (by rfl) (by rfl) (n := ds.length) (xs := deedCells ds) (hO6.alloc _) (m := 1) (news := [.int .i64 d.par, .int .i64 d.no, .int .i64 d.kind, .int .i64 d.lock, .int .i64 d.person, .int .i64 d.lo, .int .i64 d.hi, .int .i64 d.known, .int .i64 d.til]) (Rd.new w6 #[.int .i64 d.par, .int .i64 d.no, .int .i64 d.kind, .int .i64 d.lock, .int .i64 d.person, .int .i64 d.lo, .int .i64 d.hi, .int .i64 d.known, .int .i64 d.til] 41 9 1 _ rfl rfl) (deedCells_one [d]) (by unfold maxLen; omega) (by omega) (by simp; omega) ?_
                  intro v2 w8 hown8 hgrow8
                  obtain ⟨A8, c8, rfl, hcc8⟩ := own_slice hown8
                  have HA := Boxed.appended bP6 (by decide) hO6 (by omega) (Nat.le_refl _) hown8 hgrow8
                  have cP8 := HA.1.cell
                  have fP8 := HA.1.frozen
                  refine hK _ _ ?_
                  clear hK K
                  refine wpAnyIn_ready (rs := [6]) (by kernel_rfl) (by simp) ?_
                  refine AllReadyIn.cons rfl (fun K hK => ?_) ?_
                  · go_simp
                    refine hK _ _ ?_
                    clear hK K
                    refine wpAnyIn_done (by kernel_rfl) ?_ _
                    exact HF.out w6 w8 _ hb6 hown8 hgrow8
                  exact AllReadyIn.nil
                exact AllReadyIn.nil
              exact AllReadyIn.nil
            exact AllReadyIn.nil
          exact AllReadyIn.nil
        refine AllReadyIn.cons rfl (fun K hK => ?_) ?_
        · go_simp
          refine hK _ _ ?_
          clear hK K
          refine wpAnyIn_ready (rs := [0, 3]) (by kernel_rfl) (by simp) ?_
          refine AllReadyIn.cons rfl (fun K hK => ?_) ?_
          · go_simp
            refine hK _ _ ?_
            clear hK K
            refine wpAnyIn_ready (rs := [3]) (by kernel_rfl) (by simp) ?_
            refine AllReadyIn.cons rfl (fun K hK => ?_) ?_
            · go_simp
              refine ⟨trivial, ?_⟩
              refine (CallsIn.inRound l (callsIn_wide.2 (HC.out))).mono ?_
              rintro e w6 ⟨rfl, hb6⟩
              have bP6 := boxed_ext (W := W.drew) HP.out hb6
              have cP6 := bP6.cell
              have hs6 := hb6.size
              have hlt6 : w.heap.size < w6.heap.size := bP6.lt
              have bI6 := boxed_ext (W := W.drew) HI.out hb6
              have hO6 := own_keep (w := W.drew) HO.out fun b hb => hb6.block b (by obtain ⟨cur, hh⟩ := own_block HO.out hb; exact block_lt hh)
              go_simp
              refine hK _ _ ?_
              clear hK K
              refine wpAnyIn_ready (rs := [4]) (by kernel_rfl) (by simp) ?_
              refine AllReadyIn.cons rfl (fun K hK => ?_) ?_
              · go_simp
                refine hK _ _ ?_
                clear hK K
                refine wpAnyIn_ready (rs := [5]) (by kernel_rfl) (by simp) ?_
                refine AllReadyIn.cons rfl (fun K hK => ?_) ?_
                · refine step_appI (by rfl) (.tmp 11) (.tmp 15) 22 (by rfl) (base := w.heap.size) (B := _) (e := 41) (i := i0) (size := 9) (bytes := 72) Tryz.underlying22 hi hz0 hz1 hz2 rfl (by decide) (by rfl) (by rfl) (n := ds.length) (xs := deedCells ds) (hO6.alloc _) (m := 1) (news := [.int .i64 d.par, .int .i64 d.no, .int .i64 d.kind, .int .i64 d.lock, .int .i64 d.person, .int .i64 d.lo, .int .i64 d.hi, .int .i64 d.known, .int .i64 d.til]) (Rd.new w6 #[.int .i64 d.par, .int .i64 d.no, .int .i64 d.kind, .int .i64 d.lock, .int .i64 d.person, .int .i64 d.lo, .int .i64 d.hi, .int .i64 d.known, .int .i64 d.til] 41 9 1 _ rfl rfl) (deedCells_one [d]) (by unfold maxLen; omega) (by omega) (by simp; omega) ?_
                  intro v2 w8 hown8 hgrow8
                  obtain ⟨A8, c8, rfl, hcc8⟩ := own_slice hown8
                  have HA := Boxed.appended bP6 (by decide) hO6 (by omega) (Nat.le_refl _) hown8 hgrow8
                  have cP8 := HA.1.cell
                  have fP8 := HA.1.frozen
                  refine hK _ _ ?_
                  clear hK K
                  refine wpAnyIn_ready (rs := [6]) (by kernel_rfl) (by simp) ?_
                  refine AllReadyIn.cons rfl (fun K hK => ?_) ?_
                  · go_simp
                    refine hK _ _ ?_
                    clear hK K
                    refine wpAnyIn_done (by kernel_rfl) ?_ _
                    exact HF.out w6 w8 _ hb6 hown8 hgrow8
                  exact AllReadyIn.nil
                exact AllReadyIn.nil
              exact AllReadyIn.nil
            exact AllReadyIn.nil
          refine AllReadyIn.cons rfl (fun K hK => ?_) ?_
          · go_simp
            refine ⟨trivial, ?_⟩
            refine (CallsIn.inRound l (callsIn_wide.2 (HC.out))).mono ?_
            rintro e w6 ⟨rfl, hb6⟩
            have bP6 := boxed_ext (W := W.drew) HP.out hb6
            have cP6 := bP6.cell
            have hs6 := hb6.size
            have hlt6 : w.heap.size < w6.heap.size := bP6.lt
            have bI6 := boxed_ext (W := W.drew) HI.out hb6
            have hO6 := own_keep (w := W.drew) HO.out fun b hb => hb6.block b (by obtain ⟨cur, hh⟩ := own_block HO.out hb; exact block_lt hh)
            go_simp
            refine hK _ _ ?_
            clear hK K
            refine wpAnyIn_ready (rs := [0, 4]) (by kernel_rfl) (by simp) ?_
            refine AllReadyIn.cons rfl (fun K hK => ?_) ?_
            · go_simp
              refine hK _ _ ?_
              clear hK K
              refine wpAnyIn_ready (rs := [4]) (by kernel_rfl) (by simp) ?_
              refine AllReadyIn.cons rfl (fun K hK => ?_) ?_
              · go_simp
                refine hK _ _ ?_
                clear hK K
                refine wpAnyIn_ready (rs := [5]) (by kernel_rfl) (by simp) ?_
                refine AllReadyIn.cons rfl (fun K hK => ?_) ?_
                · refine step_appI (by rfl) (.tmp 11) (.tmp 15) 22 (by rfl) (base := w.heap.size) (B := _) (e := 41) (i := i0) (size := 9) (bytes := 72) Tryz.underlying22 hi hz0 hz1 hz2 rfl (by decide) (by rfl) (by rfl) (n := ds.length) (xs := deedCells ds) (hO6.alloc _) (m := 1) (news := [.int .i64 d.par, .int .i64 d.no, .int .i64 d.kind, .int .i64 d.lock, .int .i64 d.person, .int .i64 d.lo, .int .i64 d.hi, .int .i64 d.known, .int .i64 d.til]) (Rd.new w6 #[.int .i64 d.par, .int .i64 d.no, .int .i64 d.kind, .int .i64 d.lock, .int .i64 d.person, .int .i64 d.lo, .int .i64 d.hi, .int .i64 d.known, .int .i64 d.til] 41 9 1 _ rfl rfl) (deedCells_one [d]) (by unfold maxLen; omega) (by omega) (by simp; omega) ?_
                  intro v2 w8 hown8 hgrow8
                  obtain ⟨A8, c8, rfl, hcc8⟩ := own_slice hown8
                  have HA := Boxed.appended bP6 (by decide) hO6 (by omega) (Nat.le_refl _) hown8 hgrow8
                  have cP8 := HA.1.cell
                  have fP8 := HA.1.frozen
                  refine hK _ _ ?_
                  clear hK K
                  refine wpAnyIn_ready (rs := [6]) (by kernel_rfl) (by simp) ?_
                  refine AllReadyIn.cons rfl (fun K hK => ?_) ?_
                  · go_simp
                    refine hK _ _ ?_
                    clear hK K
                    refine wpAnyIn_done (by kernel_rfl) ?_ _
                    exact HF.out w6 w8 _ hb6 hown8 hgrow8
                  exact AllReadyIn.nil
                exact AllReadyIn.nil
              exact AllReadyIn.nil
            refine AllReadyIn.cons rfl (fun K hK => ?_) ?_
            · go_simp
              refine hK _ _ ?_
              clear hK K
              refine wpAnyIn_ready (rs := [0]) (by kernel_rfl) (by simp) ?_
              refine AllReadyIn.cons rfl (fun K hK => ?_) ?_
              · go_simp
                refine hK _ _ ?_
                clear hK K
                refine wpAnyIn_ready (rs := [5]) (by kernel_rfl) (by simp) ?_
                refine AllReadyIn.cons rfl (fun K hK => ?_) ?_
                · refine step_appI (by rfl) (.tmp 11) (.tmp 15) 22 (by rfl) (base := w.heap.size) (B := _) (e := 41) (i := i0) (size := 9) (bytes := 72) Tryz.underlying22 hi hz0 hz1 hz2 rfl (by decide) (by rfl) (by rfl) (n := ds.length) (xs := deedCells ds) (hO6.alloc _) (m := 1) (news := [.int .i64 d.par, .int .i64 d.no, .int .i64 d.kind, .int .i64 d.lock, .int .i64 d.person, .int .i64 d.lo, .int .i64 d.hi, .int .i64 d.known, .int .i64 d.til]) (Rd.new w6 #[.int .i64 d.par, .int .i64 d.no, .int .i64 d.kind, .int .i64 d.lock, .int .i64 d.person, .int .i64 d.lo, .int .i64 d.hi, .int .i64 d.known, .int .i64 d.til] 41 9 1 _ rfl rfl) (deedCells_one [d]) (by unfold maxLen; omega) (by omega) (by simp; omega) ?_
                  intro v2 w8 hown8 hgrow8
                  obtain ⟨A8, c8, rfl, hcc8⟩ := own_slice hown8
                  have HA := Boxed.appended bP6 (by decide) hO6 (by omega) (Nat.le_refl _) hown8 hgrow8
                  have cP8 := HA.1.cell
                  have fP8 := HA.1.frozen
                  refine hK _ _ ?_
                  clear hK K
                  refine wpAnyIn_ready (rs := [6]) (by kernel_rfl) (by simp) ?_
                  refine AllReadyIn.cons rfl (fun K hK => ?_) ?_
                  · go_simp
                    refine hK _ _ ?_
                    clear hK K
                    refine wpAnyIn_done (by kernel_rfl) ?_ _
                    exact HF.out w6 w8 _ hb6 hown8 hgrow8
                  exact AllReadyIn.nil
                exact AllReadyIn.nil
              exact AllReadyIn.nil
            exact AllReadyIn.nil
          exact AllReadyIn.nil
        exact AllReadyIn.nil
      refine AllReadyIn.cons rfl (fun K hK => ?_) ?_
      · go_simp
        refine hK _ _ ?_
        clear hK K
        refine wpAnyIn_ready (rs := [0, 1]) (by kernel_rfl) (by simp) ?_
        refine AllReadyIn.cons rfl (fun K hK => ?_) ?_
        · go_simp
          refine hK _ _ ?_
          clear hK K
          refine wpAnyIn_ready (rs := [1]) (by kernel_rfl) (by simp) ?_
          refine AllReadyIn.cons rfl (fun K hK => ?_) ?_
          · go_simp
            refine hK _ _ ?_
            clear hK K
            refine wpAnyIn_ready (rs := [3]) (by kernel_rfl) (by simp) ?_
            refine AllReadyIn.cons rfl (fun K hK => ?_) ?_
            · go_simp
              refine ⟨trivial, ?_⟩
              refine (CallsIn.inRound l (callsIn_wide.2 (HC.out))).mono ?_
              rintro e w6 ⟨rfl, hb6⟩
              have bP6 := boxed_ext (W := W.drew) HP.out hb6
              have cP6 := bP6.cell
              have hs6 := hb6.size
              have hlt6 : w.heap.size < w6.heap.size := bP6.lt
              have bI6 := boxed_ext (W := W.drew) HI.out hb6
              have hO6 := own_keep (w := W.drew) HO.out fun b hb => hb6.block b (by obtain ⟨cur, hh⟩ := own_block HO.out hb; exact block_lt hh)
              go_simp
              refine hK _ _ ?_
              clear hK K
              refine wpAnyIn_ready (rs := [4]) (by kernel_rfl) (by simp) ?_
              refine AllReadyIn.cons rfl (fun K hK => ?_) ?_
              · go_simp
                refine hK _ _ ?_
                clear hK K
                refine wpAnyIn_ready (rs := [5]) (by kernel_rfl) (by simp) ?_
                refine AllReadyIn.cons rfl (fun K hK => ?_) ?_
                · refine step_appI (by rfl) (.tmp 11) (.tmp 15) 22 (by rfl) (base := w.heap.size) (B := _) (e := 41) (i := i0) (size := 9) (bytes := 72) Tryz.underlying22 hi hz0 hz1 hz2 rfl (by decide) (by rfl) (by rfl) (n := ds.length) (xs := deedCells ds) (hO6.alloc _) (m := 1) (news := [.int .i64 d.par, .int .i64 d.no, .int .i64 d.kind, .int .i64 d.lock, .int .i64 d.person, .int .i64 d.lo, .int .i64 d.hi, .int .i64 d.known, .int .i64 d.til]) (Rd.new w6 #[.int .i64 d.par, .int .i64 d.no, .int .i64 d.kind, .int .i64 d.lock, .int .i64 d.person, .int .i64 d.lo, .int .i64 d.hi, .int .i64 d.known, .int .i64 d.til] 41 9 1 _ rfl rfl) (deedCells_one [d]) (by unfold maxLen; omega) (by omega) (by simp; omega) ?_
                  intro v2 w8 hown8 hgrow8
                  obtain ⟨A8, c8, rfl, hcc8⟩ := own_slice hown8
                  have HA := Boxed.appended bP6 (by decide) hO6 (by omega) (Nat.le_refl _) hown8 hgrow8
                  have cP8 := HA.1.cell
                  have fP8 := HA.1.frozen
                  refine hK _ _ ?_
                  clear hK K
                  refine wpAnyIn_ready (rs := [6]) (by kernel_rfl) (by simp) ?_
                  refine AllReadyIn.cons rfl (fun K hK => ?_) ?_
                  · go_simp
                    refine hK _ _ ?_
                    clear hK K
                    refine wpAnyIn_done (by kernel_rfl) ?_ _
                    exact HF.out w6 w8 _ hb6 hown8 hgrow8
                  exact AllReadyIn.nil
                exact AllReadyIn.nil
              exact AllReadyIn.nil
            exact AllReadyIn.nil
          exact AllReadyIn.nil
        refine AllReadyIn.cons rfl (fun K hK => ?_) ?_
        · go_simp
          refine hK _ _ ?_
          clear hK K
          refine wpAnyIn_ready (rs := [0, 3]) (by kernel_rfl) (by simp) ?_
          refine AllReadyIn.cons rfl (fun K hK => ?_) ?_
          · go_simp
            refine hK _ _ ?_
            clear hK K
            refine wpAnyIn_ready (rs := [3]) (by kernel_rfl) (by simp) ?_
            refine AllReadyIn.cons rfl (fun K hK => ?_) ?_
            · go_simp
              refine ⟨trivial, ?_⟩
              refine (CallsIn.inRound l (callsIn_wide.2 (HC.out))).mono ?_
              rintro e w6 ⟨rfl, hb6⟩
              have bP6 := boxed_ext (W := W.drew) HP.out hb6
              have cP6 := bP6.cell
              have hs6 := hb6.size
              have hlt6 : w.heap.size < w6.heap.size := bP6.lt
              have bI6 := boxed_ext (W := W.drew) HI.out hb6
              have hO6 := own_keep (w := W.drew) HO.out fun b hb => hb6.block b (by obtain ⟨cur, hh⟩ := own_block HO.out hb; exact block_lt hh)
              go_simp
              refine hK _ _ ?_
              clear hK K
              refine wpAnyIn_ready (rs := [4]) (by kernel_rfl) (by simp) ?_
              refine AllReadyIn.cons rfl (fun K hK => ?_) ?_
              · go_simp
                refine hK _ _ ?_
                clear hK K
                refine wpAnyIn_ready (rs := [5]) (by kernel_rfl) (by simp) ?_
                refine AllReadyIn.cons rfl (fun K hK => ?_) ?_
                · refine step_appI (by rfl) (.tmp 11) (.tmp 15) 22 (by rfl) (base := w.heap.size) (B := _) (e := 41) (i := i0) (size := 9) (bytes := 72) Tryz.underlying22 hi hz0 hz1 hz2 rfl (by decide) (by rfl) (by rfl) (n := ds.length) (xs := deedCells ds) (hO6.alloc _) (m := 1) (news := [.int .i64 d.par, .int .i64 d.no, .int .i64 d.kind, .int .i64 d.lock, .int .i64 d.person, .int .i64 d.lo, .int .i64 d.hi, .int .i64 d.known, .int .i64 d.til]) (Rd.new w6 #[.int .i64 d.par, .int .i64 d.no, .int .i64 d.kind, .int .i64 d.lock, .int .i64 d.person, .int .i64 d.lo, .int .i64 d.hi, .int .i64 d.known, .int .i64 d.til] 41 9 1 _ rfl rfl) (deedCells_one [d]) (by unfold maxLen; omega) (by omega) (by simp; omega) ?_
                  intro v2 w8 hown8 hgrow8
                  obtain ⟨A8, c8, rfl, hcc8⟩ := own_slice hown8
                  have HA := Boxed.appended bP6 (by decide) hO6 (by omega) (Nat.le_refl _) hown8 hgrow8
                  have cP8 := HA.1.cell
                  have fP8 := HA.1.frozen
                  refine hK _ _ ?_
                  clear hK K
                  refine wpAnyIn_ready (rs := [6]) (by kernel_rfl) (by simp) ?_
                  refine AllReadyIn.cons rfl (fun K hK => ?_) ?_
                  · go_simp
                    refine hK _ _ ?_
                    clear hK K
                    refine wpAnyIn_done (by kernel_rfl) ?_ _
                    exact HF.out w6 w8 _ hb6 hown8 hgrow8
                  exact AllReadyIn.nil
                exact AllReadyIn.nil
              exact AllReadyIn.nil
            exact AllReadyIn.nil
          refine AllReadyIn.cons rfl (fun K hK => ?_) ?_
          · go_simp
            refine ⟨trivial, ?_⟩
            refine (CallsIn.inRound l (callsIn_wide.2 (HC.out))).mono ?_
            rintro e w6 ⟨rfl, hb6⟩
            have bP6 := boxed_ext (W := W.drew) HP.out hb6
            have cP6 := bP6.cell
            have hs6 := hb6.size
            have hlt6 : w.heap.size < w6.heap.size := bP6.lt
            have bI6 := boxed_ext (W := W.drew) HI.out hb6
            have hO6 := own_keep (w := W.drew) HO.out fun b hb => hb6.block b (by obtain ⟨cur, hh⟩ := own_block HO.out hb; exact block_lt hh)
            go_simp
            refine hK _ _ ?_
            clear hK K
            refine wpAnyIn_ready (rs := [0, 4]) (by kernel_rfl) (by simp) ?_
            refine AllReadyIn.cons rfl (fun K hK => ?_) ?_
            · go_simp
              refine hK _ _ ?_
              clear hK K
              refine wpAnyIn_ready (rs := [4]) (by kernel_rfl) (by simp) ?_
              refine AllReadyIn.cons rfl (fun K hK => ?_) ?_
              · go_simp
                refine hK _ _ ?_
                clear hK K
                refine wpAnyIn_ready (rs := [5]) (by kernel_rfl) (by simp) ?_
                refine AllReadyIn.cons rfl (fun K hK => ?_) ?_
                · refine step_appI (by rfl) (.tmp 11) (.tmp 15) 22 (by rfl) (base := w.heap.size) (B := _) (e := 41) (i := i0) (size := 9) (bytes := 72) Tryz.underlying22 hi hz0 hz1 hz2 rfl (by decide) (by rfl) (by rfl) (n := ds.length) (xs := deedCells ds) (hO6.alloc _) (m := 1) (news := [.int .i64 d.par, .int .i64 d.no, .int .i64 d.kind, .int .i64 d.lock, .int .i64 d.person, .int .i64 d.lo, .int .i64 d.hi, .int .i64 d.known, .int .i64 d.til]) (Rd.new w6 #[.int .i64 d.par, .int .i64 d.no, .int .i64 d.kind, .int .i64 d.lock, .int .i64 d.person, .int .i64 d.lo, .int .i64 d.hi, .int .i64 d.known, .int .i64 d.til] 41 9 1 _ rfl rfl) (deedCells_one [d]) (by unfold maxLen; omega) (by omega) (by simp; omega) ?_
                  intro v2 w8 hown8 hgrow8
                  obtain ⟨A8, c8, rfl, hcc8⟩ := own_slice hown8
                  have HA := Boxed.appended bP6 (by decide) hO6 (by omega) (Nat.le_refl _) hown8 hgrow8
                  have cP8 := HA.1.cell
                  have fP8 := HA.1.frozen
                  refine hK _ _ ?_
                  clear hK K
                  refine wpAnyIn_ready (rs := [6]) (by kernel_rfl) (by simp) ?_
                  refine AllReadyIn.cons rfl (fun K hK => ?_) ?_
                  · go_simp
                    refine hK _ _ ?_
                    clear hK K
                    refine wpAnyIn_done (by kernel_rfl) ?_ _
                    exact HF.out w6 w8 _ hb6 hown8 hgrow8
                  exact AllReadyIn.nil
                exact AllReadyIn.nil
              exact AllReadyIn.nil
            refine AllReadyIn.cons rfl (fun K hK => ?_) ?_
            · go_simp
              refine hK _ _ ?_
              clear hK K
              refine wpAnyIn_ready (rs := [0]) (by kernel_rfl) (by simp) ?_
              refine AllReadyIn.cons rfl (fun K hK => ?_) ?_
              · go_simp
                refine hK _ _ ?_
                clear hK K
                refine wpAnyIn_ready (rs := [5]) (by kernel_rfl) (by simp) ?_
                refine AllReadyIn.cons rfl (fun K hK => ?_) ?_
                · refine step_appI (by rfl) (.tmp 11) (.tmp 15) 22 (by rfl) (base := w.heap.size) (B := _) (e := 41) (i := i0) (size := 9) (bytes := 72) Tryz.underlying22 hi hz0 hz1 hz2 rfl (by decide) (by rfl) (by rfl) (n := ds.length) (xs := deedCells ds) (hO6.alloc _) (m := 1) (news := [.int .i64 d.par, .int .i64 d.no, .int .i64 d.kind, .int .i64 d.lock, .int .i64 d.person, .int .i64 d.lo, .int .i64 d.hi, .int .i64 d.known, .int .i64 d.til]) (Rd.new w6 #[.int .i64 d.par, .int .i64 d.no, .int .i64 d.kind, .int .i64 d.lock, .int .i64 d.person, .int .i64 d.lo, .int .i64 d.hi, .int .i64 d.known, .int .i64 d.til] 41 9 1 _ rfl rfl) (deedCells_one [d]) (by unfold maxLen; omega) (by omega) (by simp; omega) ?_
                  intro v2 w8 hown8 hgrow8
                  obtain ⟨A8, c8, rfl, hcc8⟩ := own_slice hown8
                  have HA := Boxed.appended bP6 (by decide) hO6 (by omega) (Nat.le_refl _) hown8 hgrow8
                  have cP8 := HA.1.cell
                  have fP8 := HA.1.frozen
                  refine hK _ _ ?_
                  clear hK K
                  refine wpAnyIn_ready (rs := [6]) (by kernel_rfl) (by simp) ?_
                  refine AllReadyIn.cons rfl (fun K hK => ?_) ?_
                  · go_simp
                    refine hK _ _ ?_
                    clear hK K
                    refine wpAnyIn_done (by kernel_rfl) ?_ _
                    exact HF.out w6 w8 _ hb6 hown8 hgrow8
                  exact AllReadyIn.nil
                exact AllReadyIn.nil
              exact AllReadyIn.nil
            exact AllReadyIn.nil
          exact AllReadyIn.nil
        exact AllReadyIn.nil
      exact AllReadyIn.nil
  case done =>
    rintro ys W hys ⟨v, ds, hb2, hown, hg, hb3, hB, hle⟩ hD
    rw [hsz] at hD
    show K _ _
    refine hK _ _ ?_
    clear hK K
    obtain ⟨A, c, rfl, hcc⟩ := own_slice hown
    have hl8 : ds.length ≤ 8001 := by
      have h1 := good_len hg
      rw [hys] at h1
      have h2 := pars_len t
      rw [← ht] at h2 htl
      have h3 : (parsD s.data.toList).length = (spokenL 0 (lnL s.data.toList)).length := rfl
      omega
    have hg2 : GoodL (parsD s.data.toList) ds := by rw [hys] at hg; exact hg
    have c2 := hb2.cell
    have f2 := hb2.frozen
    have c3 := hb3.cell
    have f3 := hb3.frozen
    have hD0 : (w.heap.size + 3) < W.heap.size := (Array.getElem?_eq_some_iff.1 hD).1
    obtain ⟨W1, hW1⟩ : ∃ W1, (W.setCell ⟨w.heap.size, 0, none⟩ (.slice A ds.length c)).setCell ⟨w.heap.size + 1, 0, none⟩ (.int .i64 0) = W1 := ⟨_, rfl⟩
    have b2 : Boxed W1 w.heap.size 22 (.slice A ds.length c) := by rw [← hW1]; exact (hb2.set _).kept (grownBy_setCell' _ _ _) (by simp)
    have b3 : Boxed W1 (w.heap.size + 1) 3 (.int .i64 0) := by rw [← hW1]; exact (hb3.kept (grownBy_setCell' W w.heap.size (.slice A ds.length c)) (by simp)).set _
    have hD1 : W1.heap[(w.heap.size + 3)]? = some (.deferred (some [])) := by rw [← hW1]; exact (Below.heap_setCell _ _ _ _ (by simp)).trans ((Below.heap_setCell _ _ _ _ (by simp)).trans hD)
    have ho1 : W1.ownsRow w.heap.size 41 9 (.slice A ds.length c) ds.length (deedCells ds) := own_keep hown fun b hb => by
      have n2 : b ≠ w.heap.size := fun e => hb2.not_row (by decide) hown (by rw [hb, e])
      have n3 : b ≠ w.heap.size + 1 := fun e => hb3.not_row (by decide) hown (by rw [hb, e])
      rw [← hW1]
      exact (Below.heap_setCell _ _ _ _ (by simpa using n3)).trans (Below.heap_setCell _ _ _ _ (by simpa using n2))
    have hB1 : Below w.heap.size w W1 := by rw [← hW1]; exact (hB.setCell (p := ⟨w.heap.size, 0, none⟩) (Nat.le_refl _) _).setCell (p := ⟨w.heap.size + 1, 0, none⟩) (by simp) _
    gi_wp2
    refine ⟨by simp, .inl ⟨_, _, rfl, run_takeDeferred hD1, ?_⟩⟩
    refine ⟨by simp, .inr ⟨by simp [Fence.wide], _, _, 40, #[.pointer (some ⟨w.heap.size, 0, none⟩), .pointer (some ⟨w.heap.size + 1, 0, none⟩)], rfl, by simp [go_sem], fun _ _ => trivial, ?_⟩⟩
    refine (catch_none _ _ _ _).mono ?_
    rintro e u' w2 ⟨rfl, rfl, rfl⟩
    have p2 : Boxed (W1.putObj (w.heap.size + 3) (.deferred none)) w.heap.size 22 (.slice A ds.length c) := (World.putObj_heap_other (by omega)).trans b2
    have p3 : Boxed (W1.putObj (w.heap.size + 3) (.deferred none)) (w.heap.size + 1) 3 (.int .i64 0) := (World.putObj_heap_other (by omega)).trans b3
    have q2 := p2.cell
    have q3 := p3.cell
    refine ⟨.tuple #[.slice A ds.length c, .int .i64 0], by simp [results, Tryz.f16, go_sem, q2, q3], .inl ⟨ds, A, c, hg2, rfl, ?_, Rd.of_own (ownsRow_putObj ho1 _ hD1 rfl), hcc.1, hcc.2, hl8⟩⟩
    exact hB1.grown (grownBy_putObj' _ _ _) (by have := hB1.size; omega) fun k e => by cases e; omega
  case stop =>
    rintro ch ys W ⟨i, v, rfl, hbad, h0, h1, hb2, hb3, hB⟩ hD
    show LeavesInM Fence.wide 9 Tryz.prog Tryz.f16 _ _ _ (.panicking (wrongV i)) W
    refine ⟨by simp, .inl ⟨_, _, rfl, run_takeDeferred hD, ?_⟩⟩
    have p2 : Boxed (W.putObj W0.heap.size (.deferred none)) w.heap.size 22 v := (World.putObj_heap_other (by omega)).trans hb2
    have p3 : Boxed (W.putObj W0.heap.size (.deferred none)) (w.heap.size + 1) 3 (.int .i64 0) := (World.putObj_heap_other (by omega)).trans hb3
    refine ⟨by simp, .inr ⟨by simp [Fence.wide], _, _, 40, #[.pointer (some ⟨w.heap.size, 0, none⟩), .pointer (some ⟨w.heap.size + 1, 0, none⟩)], rfl, by simp [go_sem], fun _ _ => trivial, ?_⟩⟩
    refine (catch_wrong _ w.heap.size (w.heap.size + 1) i v (.int .i64 0) _ (by omega) p2.cell p3.cell p2.frozen p3.frozen).mono ?_
    rintro e u' w2 ⟨rfl, rfl, rfl⟩
    have q2 : Boxed ((((W.putObj W0.heap.size (.deferred none)).setCell ⟨w.heap.size, 0, none⟩ (.slice none 0 0))).setCell ⟨w.heap.size + 1, 0, none⟩ (.int .i64 i)) w.heap.size 22 (.slice none 0 0) := (p2.set _).kept (grownBy_setCell' _ _ _) (by simp)
    have q3 : Boxed ((((W.putObj W0.heap.size (.deferred none)).setCell ⟨w.heap.size, 0, none⟩ (.slice none 0 0))).setCell ⟨w.heap.size + 1, 0, none⟩ (.int .i64 i)) (w.heap.size + 1) 3 (.int .i64 i) := (p3.kept (grownBy_setCell' _ _ _) (by simp)).set _
    have r2 := q2.cell
    have r3 := q3.cell
    show LeavesIn Fence.wide 9 Tryz.prog Tryz.f16 _ _ [] .returning _
    refine ⟨.tuple #[.slice none 0 0, .int .i64 i], by simp [results, Tryz.f16, go_sem, r2, r3], .inr ⟨i, h0, h1, by rw [ht]; exact hbad, rfl, ?_⟩⟩
    exact ((hB.grown (grownBy_putObj' _ _ _) (by have := hB.size; omega) fun k e => by cases e; omega).setCell (p := ⟨w.heap.size, 0, none⟩) (Nat.le_refl _) _).setCell (p := ⟨w.heap.size + 1, 0, none⟩) (by simp) _

end Go.Proofs.YtikioiblaoimkaaGreatDoor

/- Parse of the program. -/
namespace Go.Proofs.YtikioiblaoimkaaGreatDoor
open Go.RowKit

theorem read_bad {t : List UInt8} {w w' : World} {e : Ending} {i : Nat} (h : RetRead t w e w') (hb : badN (parsD t) = i) (hi : 0 < i) : e = .returned (.tuple #[.slice none 0 0, .int .i64 i]) ∧ Below w.heap.size w w' := by
  rcases h with ⟨ds, A, c, hg, _⟩ | ⟨j, h0, _, h2, h3, h4⟩
  · have := badN_good hg.1
    omega
  · rw [h2] at hb
    subst hb
    exact ⟨h3, h4⟩
theorem read_good {t : List UInt8} {w w' : World} {e : Ending} (h : RetRead t w e w') (hb : badN (parsD t) = 0) : ∃ A c, e = .returned (.tuple #[.slice A ((parsD t).filterMap lineO).length c, .int .i64 0]) ∧ Below w.heap.size w w' ∧ Ds w' w'.heap.size A ((parsD t).filterMap lineO).length ((parsD t).filterMap lineO) ∧ ((parsD t).filterMap lineO).length ≤ c ∧ c ≤ maxLen ∧ ((parsD t).filterMap lineO).length ≤ 8001 ∧ GoodL (parsD t) ((parsD t).filterMap lineO) := by
  rcases h with ⟨ds, A, c, hg, h1, h2, h3, h4, h5, h6⟩ | ⟨j, h0, _, h2, h3, h4⟩
  · have e := hg.2
    subst e
    exact ⟨A, c, h1, h2, h3, h4, h5, h6, hg⟩
  · omega

set_option maxRecDepth 100000 in
set_option maxHeartbeats 4000000 in
theorem p_Parse (t : ByteArray) (w : World) (ht : t.size ≤ 9223372036854775807) (hm : MaxW w) : Calls Tryz.prog 6 #[.string t] w (RetPrs t.data.toList w) := by
  by_cases h8 : 8000 < t.size
  · have HP := Lib.hid (pars_long (t := t.data.toList) (by rw [← size_len]; exact h8))
    have hi8 : 8000 < (t.size : Int) := by omega
    go_enter Tryz.func6, Tryz.ntmps6
    go_wp2_with fail
    refine bodyPost_ret (v := .tuple #[.slice none 0 0, .int .i64 0, .int .i64 2]) (by simp [results, Tryz.f6, go_sem]) rfl (retPrs_none HP.out (Below.refl _ _))
  · have hi8 : ¬ 8000 < (t.size : Int) := by omega
    have h8' : t.data.toList.length ≤ 8000 := by rw [← size_len]; omega
    have HR := Lib.hid (p_read t w (by omega) hm)
    by_cases hb : badN (parsD t.data.toList) = 0
    · obtain ⟨ds, hds⟩ : ∃ ds, (parsD t.data.toList).filterMap lineO = ds := ⟨_, rfl⟩
      have HRG : Hid (Calls Tryz.prog 16 #[.string t] w fun e w' => ∃ A c, e = .returned (.tuple #[.slice A ds.length c, .int .i64 0]) ∧ Below w.heap.size w w' ∧ Ds w' w'.heap.size A ds.length ds ∧ ds.length ≤ c ∧ c ≤ maxLen ∧ ds.length ≤ 8001 ∧ GoodL (parsD t.data.toList) ds) := by
        show Calls _ _ _ _ _
        exact HR.out.mono fun e w' h => by
          have h2 := read_good h hb
          rw [hds] at h2
          exact h2
      obtain ⟨n, hn⟩ : ∃ n, ds.length = n := ⟨_, rfl⟩
      rw [hn] at HRG
      have HN := Lib.hid hn
      clear HR hm hb hds hn
      cases hkb : checkB ds with
      | true =>
        have HK := Lib.hid hkb
        clear hkb
        go_enter Tryz.func6, Tryz.ntmps6
        go_wp2_with (first
          | (go_at_call 16; refine HRG.out.mono ?_; rintro e w1 ⟨A, c, rfl, hb1, hd1, hc1, hm1, h81, hg1⟩)
          | (go_at_call 10; refine (p_check ds A n c w1 (by omega) hd1).mono ?_; rw [HK.out]; rintro e w2 ⟨rfl, hb2⟩))
        refine bodyPost_ret (v := .tuple #[.slice A n c, .int .i64 0, .int .i64 0]) (by simp [results, Tryz.f6, go_sem]) rfl ?_
        obtain ⟨e1, e2, e3⟩ := pars_end hg1 h8'
        rw [HK.out] at e1 e3
        have e3' : parsL t.data.toList = ds := by simpa using e3
        refine ⟨A, c, ?_, Below.then_ hb1 hb2, ?_, ?_, hm1⟩
        · rw [e1, e2, e3', HN.out]; rfl
        · rw [e3', HN.out]; exact Ds.now hd1 hb2
        · rw [e3', HN.out]; exact hc1
      | false =>
        have HK := Lib.hid hkb
        clear hkb
        go_enter Tryz.func6, Tryz.ntmps6
        go_wp2_with (first
          | (go_at_call 16; refine HRG.out.mono ?_; rintro e w1 ⟨A, c, rfl, hb1, hd1, hc1, hm1, h81, hg1⟩)
          | (go_at_call 10; refine (p_check ds A n c w1 (by omega) hd1).mono ?_; rw [HK.out]; rintro e w2 ⟨rfl, hb2⟩))
        refine bodyPost_ret (v := .tuple #[.slice none 0 0, .int .i64 0, .int .i64 11]) (by simp [results, Tryz.f6, go_sem, errI]) rfl ?_
        obtain ⟨e1, e2, e3⟩ := pars_end hg1 h8'
        rw [HK.out] at e1 e3
        exact retPrs_none ⟨by rw [e1]; rfl, e2, by simpa using e3⟩ (Below.then_ hb1 hb2)
    · obtain ⟨i, hi⟩ : ∃ i, badN (parsD t.data.toList) = i := ⟨_, rfl⟩
      rw [hi] at hb
      have HRB : Hid (Calls Tryz.prog 16 #[.string t] w fun e w' => e = .returned (.tuple #[.slice none 0 0, .int .i64 i]) ∧ Below w.heap.size w w') := by
        show Calls _ _ _ _ _
        exact HR.out.mono fun e w' h => read_bad h hi (by omega)
      have HP := Lib.hid (pars_bad hi (by omega) h8')
      have hi0 : 0 < (i : Int) := by omega
      clear HR hm hb hi
      go_enter Tryz.func6, Tryz.ntmps6
      go_wp2_with (go_at_call 16; refine HRB.out.mono ?_; rintro e w1 ⟨rfl, hb1⟩)
      refine bodyPost_ret (v := .tuple #[.slice none 0 0, .int .i64 i, .int .i64 5]) (by simp [results, Tryz.f6, go_sem]) rfl (retPrs_none HP.out hb1)

end Go.Proofs.YtikioiblaoimkaaGreatDoor
