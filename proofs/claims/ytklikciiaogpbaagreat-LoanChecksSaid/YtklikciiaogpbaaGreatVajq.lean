/- Layer 2 of the texts that LoanChecks takes: Vajq. -/
import Derived.Test.YtklikciiaogpbaaGreatVagq
import Derived.Test.YtklikciiaogpbaaGreatVaiq
import Derived.Test.YtklikciiaogpbaaGreatLqp
set_option linter.unusedVariables false
set_option linter.unusedSimpArgs false
/- keys.Dates. -/
namespace Go.Proofs.YtklikciiaogpbaaGreat
open Go.RowKit
end Go.Proofs.YtklikciiaogpbaaGreat
/- Layer 2: slices of papers, receipts, returns and sights that are read; ledgers. -/
namespace Go.Proofs.YtklikciiaogpbaaGreat
open Go.RowKit
def Sq {α : Type} (Q : World → Nat → Nat → Nat → α → Prop) (size : Nat) (w : World) (B : Nat) (A : Option Addr) (n : Nat) (xs : List α) : Prop :=
 xs.length = n ∧ (0 < n → ∃ b o, A = some ⟨b, o, none⟩ ∧ b < B ∧ ∀ k x, xs[k]? = some x → Q w B b (o + k * size) x)
def Abides {α : Type} (Q : World → Nat → Nat → Nat → α → Prop) : Prop :=
 (∀ w w' B b o x, Q w B b o x → b < B → (∀ b o, b < B → w'.cell? ⟨b, o, none⟩ = w.cell? ⟨b, o, none⟩) → Q w' B b o x) ∧ (∀ w B B' b o x, Q w B b o x → B ≤ B' → Q w B' b o x)
section
variable {α : Type} {Q : World → Nat → Nat → Nat → α → Prop} {size : Nat} {w w' : World} {B B' n : Nat} {A : Option Addr} {xs : List α}
theorem Sq.len (h : Sq Q size w B A n xs) : xs.length = n := h.1
theorem Sq.at_ (h : Sq Q size w B A n xs) {k : Nat} (hk : k < n) : ∃ b o x, A = some ⟨b, o, none⟩ ∧ b < B ∧ xs[k]? = some x ∧ Q w B b (o + k * size) x := by
 obtain ⟨b, o, e, hb, hc⟩ := h.2 (by omega)
 have hd : xs[k]? = some (xs[k]'(by rw [h.1]; exact hk)) := List.getElem?_eq_getElem _
 exact ⟨b, o, _, e, hb, hd, hc k _ hd⟩
theorem Sq.keep (h : Sq Q size w B A n xs) (hQ : Abides Q) (hk : ∀ b o, b < B → w'.cell? ⟨b, o, none⟩ = w.cell? ⟨b, o, none⟩) : Sq Q size w' B A n xs :=
 ⟨h.1, fun hn => by
   obtain ⟨b, o, e, hb, hc⟩ := h.2 hn
   exact ⟨b, o, e, hb, fun k x hx => hQ.1 _ _ _ _ _ _ (hc k x hx) hb hk⟩⟩
theorem Sq.more (h : Sq Q size w B A n xs) (hQ : Abides Q) (hB : B ≤ B') : Sq Q size w B' A n xs :=
 ⟨h.1, fun hn => by
   obtain ⟨b, o, e, hb, hc⟩ := h.2 hn
   exact ⟨b, o, e, by omega, fun k x hx => hQ.2 _ _ _ _ _ _ (hc k x hx) hB⟩⟩
theorem Sq.ext (h : Sq Q size w B A n xs) (hQ : Abides Q) (hb : Below w.heap.size w w') (hB : B ≤ w.heap.size) : Sq Q size w' B A n xs := h.keep hQ fun b o hp => hb.cell (p := ⟨b, o, none⟩) (by show b < _; omega)
theorem Sq.now (h : Sq Q size w w.heap.size A n xs) (hQ : Abides Q) (hb : Below w.heap.size w w') : Sq Q size w' w'.heap.size A n xs := (h.ext hQ hb (Nat.le_refl _)).more hQ hb.size
theorem Sq.nil_ : Sq Q size w B A 0 [] := ⟨rfl, fun h => absurd h (by omega)⟩
end
def QP (w : World) (_ b o : Nat) (p : Ppr) : Prop := w.cell? ⟨b, o, none⟩ = some (.int .i64 p.id) ∧ w.cell? ⟨b, o + 1, none⟩ = some (.int .i64 p.lv)
def QS (w : World) (_ b o : Nat) (s : Sgt) : Prop :=
 w.cell? ⟨b, o, none⟩ = some (.int .i64 s.src) ∧ w.cell? ⟨b, o + 1, none⟩ = some (.int .i64 s.per) ∧ w.cell? ⟨b, o + 2, none⟩ = some (.int .i64 s.pap) ∧ w.cell? ⟨b, o + 3, none⟩ = some (.int .i64 s.leaf) ∧ w.cell? ⟨b, o + 4, none⟩ = some (.int .i64 s.day) ∧ w.cell? ⟨b, o + 5, none⟩ = some (.int .i64 s.kn) ∧ w.cell? ⟨b, o + 6, none⟩ = some (.int .i64 s.un)
def QR (w : World) (B b o : Nat) (r : Rcp) : Prop := ∃ A n c,
 (w.cell? ⟨b, o, none⟩ = some (.int .i64 r.src) ∧ w.cell? ⟨b, o + 1, none⟩ = some (.int .i64 r.bor) ∧ w.cell? ⟨b, o + 2, none⟩ = some (.int .i64 r.pap) ∧ w.cell? ⟨b, o + 3, none⟩ = some (.slice A n c) ∧ w.cell? ⟨b, o + 4, none⟩ = some (.int .i64 r.day) ∧ w.cell? ⟨b, o + 5, none⟩ = some (.int .i64 r.kn) ∧ w.cell? ⟨b, o + 6, none⟩ = some (.int .i64 r.un)) ∧
 (Is w B A n r.lv ∧ n ≤ c ∧ c ≤ maxLen)
def QT (w : World) (B b o : Nat) (r : Rtn) : Prop := ∃ A n c,
 (w.cell? ⟨b, o, none⟩ = some (.int .i64 r.src) ∧ w.cell? ⟨b, o + 1, none⟩ = some (.int .i64 r.rcp) ∧ w.cell? ⟨b, o + 2, none⟩ = some (.int .i64 r.per) ∧ w.cell? ⟨b, o + 3, none⟩ = some (.slice A n c) ∧ w.cell? ⟨b, o + 4, none⟩ = some (.int .i64 r.lo) ∧ w.cell? ⟨b, o + 5, none⟩ = some (.int .i64 r.hi) ∧ w.cell? ⟨b, o + 6, none⟩ = some (.int .i64 r.kn) ∧ w.cell? ⟨b, o + 7, none⟩ = some (.int .i64 r.un)) ∧
 (Is w B A n r.lv ∧ n ≤ c ∧ c ≤ maxLen)
theorem abP : Abides QP := ⟨fun w w' B b o x h hb hk => ⟨(hk _ _ hb).trans h.1, (hk _ _ hb).trans h.2⟩, fun _ _ _ _ _ _ h _ => h⟩
theorem abS : Abides QS := ⟨fun w w' B b o x h hb hk => by
 obtain ⟨h0, h1, h2, h3, h4, h5, h6⟩ := h
 exact ⟨(hk _ _ hb).trans h0, (hk _ _ hb).trans h1, (hk _ _ hb).trans h2, (hk _ _ hb).trans h3, (hk _ _ hb).trans h4, (hk _ _ hb).trans h5, (hk _ _ hb).trans h6⟩, fun _ _ _ _ _ _ h _ => h⟩
theorem abR : Abides QR := ⟨fun w w' B b o x h hb hk => by
 obtain ⟨A, n, c, ⟨h0, h1, h2, h3, h4, h5, h6⟩, hi, hc⟩ := h
 exact ⟨A, n, c, ⟨(hk _ _ hb).trans h0, (hk _ _ hb).trans h1, (hk _ _ hb).trans h2, (hk _ _ hb).trans h3, (hk _ _ hb).trans h4, (hk _ _ hb).trans h5, (hk _ _ hb).trans h6⟩, Rd.keep hi hk, hc⟩, fun _ _ _ _ _ _ h hB => by
 obtain ⟨A, n, c, h0, hi, hc⟩ := h
 exact ⟨A, n, c, h0, Is.more hi hB, hc⟩⟩
theorem abT : Abides QT := ⟨fun w w' B b o x h hb hk => by
 obtain ⟨A, n, c, ⟨h0, h1, h2, h3, h4, h5, h6, h7⟩, hi, hc⟩ := h
 exact ⟨A, n, c, ⟨(hk _ _ hb).trans h0, (hk _ _ hb).trans h1, (hk _ _ hb).trans h2, (hk _ _ hb).trans h3, (hk _ _ hb).trans h4, (hk _ _ hb).trans h5, (hk _ _ hb).trans h6, (hk _ _ hb).trans h7⟩, Rd.keep hi hk, hc⟩, fun _ _ _ _ _ _ h hB => by
 obtain ⟨A, n, c, h0, hi, hc⟩ := h
 exact ⟨A, n, c, h0, Is.more hi hB, hc⟩⟩
abbrev Pps := Sq QP 2
abbrev Rcs := Sq QR 7
abbrev Rts := Sq QT 8
abbrev Sgs := Sq QS 7
structure Led where
 pp : List Ppr
 rc : List Rcp
 rt : List Rtn
 sg : List Sgt
structure Lsl where
 (pA : Option Addr) (pn pc : Nat)
 (rA : Option Addr) (rn rc : Nat)
 (tA : Option Addr) (tn tc : Nat)
 (sA : Option Addr) (sn sc : Nat)
structure LedIn (w : World) (B : Nat) (x : Lsl) (l : Led) : Prop where
 p : Pps w B x.pA x.pn l.pp
 r : Rcs w B x.rA x.rn l.rc
 t : Rts w B x.tA x.tn l.rt
 s : Sgs w B x.sA x.sn l.sg
theorem LedIn.now {w w' : World} {x : Lsl} {l : Led} (h : LedIn w w.heap.size x l) (hb : Below w.heap.size w w') : LedIn w' w'.heap.size x l := ⟨h.p.now abP hb, h.r.now abR hb, h.t.now abT hb, h.s.now abS hb⟩
theorem LedIn.ext {w w' : World} {B : Nat} {x : Lsl} {l : Led} (h : LedIn w B x l) (hb : Below w.heap.size w w') (hB : B ≤ w.heap.size) : LedIn w' B x l := ⟨h.p.ext abP hb hB, h.r.ext abR hb hB, h.t.ext abT hb hB, h.s.ext abS hb hB⟩
structure Lsl.fit (x : Lsl) : Prop where
 p : x.pn ≤ x.pc ∧ x.pc ≤ maxLen
 r : x.rn ≤ x.rc ∧ x.rc ≤ maxLen
 t : x.tn ≤ x.tc ∧ x.tc ≤ maxLen
 s : x.sn ≤ x.sc ∧ x.sc ≤ maxLen
end Go.Proofs.YtklikciiaogpbaaGreat
/- Layer 2: how many leaves a paper has; whether a leaf is a folio of a ledger. -/
namespace Go.Proofs.YtklikciiaogpbaaGreat
open Go.RowKit
def lvOf : List Ppr → Int → Int
 | [], _ => 0
 | p :: ps, n => if p.id = n then p.lv else lvOf ps n
theorem lvOf_at {pp : List Ppr} {k : Nat} {p : Ppr} (n : Int) (h : pp[k]? = some p) : lvOf (pp.drop k) n = if p.id = n then p.lv else lvOf (pp.drop (k + 1)) n := by
 have hlt : k < pp.length := (List.getElem?_eq_some_iff.1 h).1
 have hp : pp[k] = p := (List.getElem?_eq_some_iff.1 h).2
 rw [List.drop_eq_getElem_cons hlt, hp, lvOf]
def folB (pp : List Ppr) (pap leaf : Int) : Bool := withinB leaf 1 (lvOf pp pap)
set_option maxHeartbeats 1000000 in
theorem p_leaves (pp : List Ppr) (x : Lsl) (n : Int) (w : World) (hn : x.pn ≤ 9223372036854775807) (hd : Pps w w.heap.size x.pA x.pn pp) :
 Calls Tryz.prog 139 #[.agg #[.slice x.pA x.pn x.pc, .slice x.rA x.rn x.rc, .slice x.tA x.tn x.tc, .slice x.sA x.sn x.sc], .int .i64 n] w fun e w' => e = .returned (.int .i64 (lvOf pp n)) ∧ Below w.heap.size w w' := by
 have hlen := hd.len
 have HD := Lib.hid hd
 have HL := Lib.hid hlen
 clear hd hlen
 go_enter Tryz.func139, Tryz.ntmps139
 go_wp2
 go_loopw [10] (fun i wr => ∃ k : Nat, k ≤ x.pn ∧ i = .int .i64 k ∧ lvOf (pp.drop k) n = lvOf pp n ∧ Below w.heap.size w wr) (fun i _ => x.pn - (intOf i).toNat)
 case atStart => exact ⟨0, by omega, rfl, rfl, by exact bel_⟩
 case round =>
  obtain ⟨k, hk, rfl, hv, hB⟩ := hrel
  have HV := Lib.hid hv
  clear hv
  by_cases hlt : k < x.pn
  ·have hs0 : w.heap.size ≤ wr.heap.size := hB.size
   obtain ⟨b, o, p, hA, hb, hp, h0, h1⟩ := (Sq.ext HD.out abP hB (Nat.le_refl _)).at_ hlt
   have HP := Lib.hid (lvOf_at n hp)
   have hbr : b < wr.heap.size := by omega
   clear hp
   by_cases he : p.id = n
   ·go_wp2
    go_ret
    exact ⟨ret_int (by rw [← HV.out, HP.out, if_pos he]), by exact bel_⟩
   ·go_wp2
    go_roundw
    case rel => exact ⟨k + 1, by omega, by go_num, by rw [← HV.out, HP.out, if_neg he], by exact bel_⟩
    case measure => simp [intOf]; omega
  ·have hkn : Hid (k = x.pn) := by show _ = _; omega
   go_wp2
   go_ret
   exact ⟨ret_int (by rw [← HV.out, List.drop_eq_nil_of_le (by rw [HL.out, hkn.out]; exact Nat.le_refl _)]; rfl), hB⟩
set_option maxHeartbeats 1000000 in
theorem r_leavesOf (pp : List Ppr) (x : Lsl) (n : Int) (w : World) (hn : x.pn ≤ 9223372036854775807) (hd : Pps w w.heap.size x.pA x.pn pp) :
 Calls Tryz.prog 142 #[.agg #[.slice x.pA x.pn x.pc, .slice x.rA x.rn x.rc, .slice x.tA x.tn x.tc, .slice x.sA x.sn x.sc], .int .i64 n] w fun e w' => e = .returned (.int .i64 (lvOf pp n)) ∧ Below w.heap.size w w' := by
 have hlen := hd.len
 have HD := Lib.hid hd
 have HL := Lib.hid hlen
 clear hd hlen
 go_enter Tryz.func142, Tryz.ntmps142
 go_wp2
 go_loopw [5] (fun i wr => ∃ k : Nat, k ≤ x.pn ∧ i = .int .i64 k ∧ lvOf (pp.drop k) n = lvOf pp n ∧ wr = w.alloc (.cells #[.slice x.pA x.pn x.pc, .slice x.rA x.rn x.rc, .slice x.tA x.tn x.tc, .slice x.sA x.sn x.sc] 27)) (fun i _ => x.pn - (intOf i).toNat)
 case atStart => exact ⟨0, by omega, rfl, rfl, rfl⟩
 case round =>
  obtain ⟨k, hk, rfl, hv, rfl⟩ := hrel
  have HV := Lib.hid hv
  clear hv
  by_cases hlt : k < x.pn
  ·obtain ⟨b, o, p, hA, hb, hp, h0, h1⟩ := HD.out.at_ hlt
   have HP := Lib.hid (lvOf_at n hp)
   clear hp
   by_cases he : p.id = n
   ·go_wp2
    go_ret
    exact ⟨ret_int (by rw [← HV.out, HP.out, if_pos he]), by exact bel_⟩
   ·go_wp2
    go_roundw
    case rel => exact ⟨k + 1, by omega, by go_num, by rw [← HV.out, HP.out, if_neg he], by rw [hA]⟩
    case measure => simp [intOf]; omega
  ·have hkn : Hid (k = x.pn) := by show _ = _; omega
   go_wp2
   go_ret
   exact ⟨ret_int (by rw [← HV.out, List.drop_eq_nil_of_le (by rw [HL.out, hkn.out]; exact Nat.le_refl _)]; rfl), by exact bel_⟩
set_option maxHeartbeats 1000000 in
theorem p_has (pp : List Ppr) (x : Lsl) (a b : Int) (w : World) (hn : x.pn ≤ 9223372036854775807) (hd : Pps w w.heap.size x.pA x.pn pp) :
 Calls Tryz.prog 70 #[.agg #[.slice x.pA x.pn x.pc, .slice x.rA x.rn x.rc, .slice x.tA x.tn x.tc, .slice x.sA x.sn x.sc], .agg #[.int .i64 a, .int .i64 b]] w fun e w' => e = .returned (.bool (folB pp a b)) ∧ Below w.heap.size w w' := by
 have HD := Lib.hid hd
 clear hd
 go_enter Tryz.func70, Tryz.ntmps70
 go_wp2_with fail
 have HD1 : Hid (Pps ((w.alloc (.cells #[.slice x.pA x.pn x.pc, .slice x.rA x.rn x.rc, .slice x.tA x.tn x.tc, .slice x.sA x.sn x.sc] 27)).alloc (.cells #[.int .i64 a, .int .i64 b] 60)) ((w.alloc (.cells #[.slice x.pA x.pn x.pc, .slice x.rA x.rn x.rc, .slice x.tA x.tn x.tc, .slice x.sA x.sn x.sc] 27)).alloc (.cells #[.int .i64 a, .int .i64 b] 60)).heap.size x.pA x.pn pp) := by
  show Sq _ _ _ _ _ _ _
  exact HD.out.now abP (by exact bel_)
 (refine wp_region_grow (by kernel_rfl) (by kernel_rfl) ?_; (repeat (go_big_quiet_step ((first | (go_at_call_of 139 (Value.agg #[.slice x.pA x.pn x.pc, .slice x.rA x.rn x.rc, .slice x.tA x.tn x.tc, .slice x.sA x.sn x.sc]); exact Calls.grow_all (fun g => p_leaves pp x a g.1 hn (HD1.out.now abP g.2))) | (go_at_call 86; exact Calls.grow_same (p_within _ _ _ _)))))); refine wpQuiet_nil ?_; rintro w1 ⟨⟨_, hb1⟩, rfl⟩; (try dsimp only at hb1 ⊢); obtain ⟨hc1, hf1⟩ := bcell hb1)
 go_wp2_with fail
 go_ret
 exact ⟨rfl, Below.then_ (W := (w.alloc (.cells #[.slice x.pA x.pn x.pc, .slice x.rA x.rn x.rc, .slice x.tA x.tn x.tc, .slice x.sA x.sn x.sc] 27)).alloc (.cells #[.int .i64 a, .int .i64 b] 60)) (by exact bel_) hb1⟩
set_option maxHeartbeats 1000000 in
theorem r_isFolio (pp : List Ppr) (x : Lsl) (a b : Int) (w : World) (hn : x.pn ≤ 9223372036854775807) (hd : Pps w w.heap.size x.pA x.pn pp) :
 Calls Tryz.prog 79 #[.agg #[.slice x.pA x.pn x.pc, .slice x.rA x.rn x.rc, .slice x.tA x.tn x.tc, .slice x.sA x.sn x.sc], .agg #[.int .i64 a, .int .i64 b]] w fun e w' => e = .returned (.bool (folB pp a b)) ∧ Below w.heap.size w w' := by
 have HD := Lib.hid hd
 clear hd
 go_enter Tryz.func79, Tryz.ntmps79
 go_wp2_with fail
 have HD1 : Hid (Pps ((w.alloc (.cells #[.slice x.pA x.pn x.pc, .slice x.rA x.rn x.rc, .slice x.tA x.tn x.tc, .slice x.sA x.sn x.sc] 27)).alloc (.cells #[.int .i64 a, .int .i64 b] 60)) ((w.alloc (.cells #[.slice x.pA x.pn x.pc, .slice x.rA x.rn x.rc, .slice x.tA x.tn x.tc, .slice x.sA x.sn x.sc] 27)).alloc (.cells #[.int .i64 a, .int .i64 b] 60)).heap.size x.pA x.pn pp) := by
  show Sq _ _ _ _ _ _ _
  exact HD.out.now abP (by exact bel_)
 (refine wp_region_grow (by kernel_rfl) (by kernel_rfl) ?_; (repeat (go_big_quiet_step ((first | (go_at_call_of 142 (Value.agg #[.slice x.pA x.pn x.pc, .slice x.rA x.rn x.rc, .slice x.tA x.tn x.tc, .slice x.sA x.sn x.sc]); exact Calls.grow_all (fun g => r_leavesOf pp x a g.1 hn (HD1.out.now abP g.2))) | (go_at_call 87; exact Calls.grow_same (r_In2 _ _ _ _)))))); refine wpQuiet_nil ?_; rintro w1 ⟨⟨_, hb1⟩, rfl⟩; (try dsimp only at hb1 ⊢); obtain ⟨hc1, hf1⟩ := bcell hb1)
 go_wp2_with fail
 go_ret
 exact ⟨rfl, Below.then_ (W := (w.alloc (.cells #[.slice x.pA x.pn x.pc, .slice x.rA x.rn x.rc, .slice x.tA x.tn x.tc, .slice x.sA x.sn x.sc] 27)).alloc (.cells #[.int .i64 a, .int .i64 b] 60)) (by exact bel_) hb1⟩
theorem p_folioOf (s : Sgt) (w : World) : Calls Tryz.prog 71 #[.agg #[.int .i64 s.src, .int .i64 s.per, .int .i64 s.pap, .int .i64 s.leaf, .int .i64 s.day, .int .i64 s.kn, .int .i64 s.un]] w fun e w' => e = .returned (.agg #[.int .i64 s.pap, .int .i64 s.leaf]) ∧ Below w.heap.size w w' := by
 go_enter Tryz.func71, Tryz.ntmps71
 go_wp2
 refine bodyPost_ret (v := .agg #[.int .i64 s.pap, .int .i64 s.leaf]) (by simp [results, Tryz.f71, go_sem]) rfl ⟨rfl, by exact bel_⟩
end Go.Proofs.YtklikciiaogpbaaGreat
/- Layer 2: the sources of a ledger, by the program and by the reference. -/
namespace Go.Proofs.YtklikciiaogpbaaGreat
open Go.RowKit
theorem infoI2 : (Tryz.prog.info? 3).map (fun i => (i.zero, i.size, i.bytes)) = some (some (.int .i64 0), 1, 8) := by kernel_rfl
def intL (xs : List Int) : List Value := xs.map fun x => .int .i64 x
def srcL (l : Led) : List Int := l.rc.map Rcp.src ++ (l.rt.map Rtn.src ++ l.sg.map Sgt.src)
def RetO (xs : List Int) (w : World) (e : Ending) (w' : World) : Prop := ∃ v, e = .returned v ∧ Below w.heap.size w w' ∧ w'.ownsRow w.heap.size 3 1 v xs.length (intL xs)
theorem own_dn {W : World} {base base' size n : Nat} {e : TypeId} {v : Value} {xs : List Value} (h : W.ownsRow base e size v n xs) (hb : base' ≤ base) : W.ownsRow base' e size v n xs :=
 ⟨h.1, h.2.imp id fun ⟨g, cap, cur, hv, hB, r⟩ => ⟨g, cap, cur, hv, Nat.le_trans hb hB, r⟩⟩
theorem OwnB.below {w W W0 w2 : World} {B n : Nat} {e : TypeId} {v : Value} {xs : List Value} (hB : Below B w W) (ho : W0.ownsRow B e 1 v n xs) (hs : B ≤ W.heap.size) (hg : W.grownBy w2 v.ownBlock) : Below B w w2 :=
 hB.grown hg hs fun k ek => own_base ho ek
theorem RetO.mk' {l : Led} {w wr W : World} {a b c : Nat} {v : Value} (h : wr.ownsRow (w.heap.size + 1) 3 1 v (a + b + c) (intL (srcL l))) (hB : Below (w.heap.size + 1) W wr) (h1 : l.rc.length = a) (h2 : l.rt.length = b) (h3 : l.sg.length = c) (hW : Below w.heap.size w W := by exact bel_) : RetO (srcL l) w (.returned v) wr := by
 refine ⟨v, rfl, hW.trans (hB.mono (Nat.le_succ _)), ?_⟩
 have e : (srcL l).length = a + b + c := by simp [srcL, h1, h2, h3]; omega
 rw [e]
 exact own_dn h (Nat.le_succ _)
set_option maxRecDepth 10000 in
set_option maxHeartbeats 8000000 in
theorem p_sources (l : Led) (x : Lsl) (w : World) (hr : x.rn ≤ 60) (ht : x.tn ≤ 60) (hs : x.sn ≤ 60) (hd : LedIn w w.heap.size x l) :
 Calls Tryz.prog 73 #[.agg #[.slice x.pA x.pn x.pc, .slice x.rA x.rn x.rc, .slice x.tA x.tn x.tc, .slice x.sA x.sn x.sc]] w (RetO (srcL l) w) := by
 obtain ⟨i0, hi, hz0, hz1, hz2⟩ := info_parts infoI2
 have hl1 := hd.r.len
 have hl2 := hd.t.len
 have hl3 := hd.s.len
 have HD := Lib.hid (hd.now ((Below.refl w.heap.size w).alloc (Nat.le_refl _) (.cells #[.slice x.pA x.pn x.pc, .slice x.rA x.rn x.rc, .slice x.tA x.tn x.tc, .slice x.sA x.sn x.sc] 27)))
 have HL1 := Lib.hid hl1
 have HL2 := Lib.hid hl2
 have HL3 := Lib.hid hl3
 clear hl1 hl2 hl3 hd
 go_enter Tryz.func73, Tryz.ntmps73
 go_wp2
 go_loopw [3, 13] (fun v i wr => ∃ k : Nat, k ≤ x.rn ∧ i = .int .i64 k ∧ wr.ownsRow (w.heap.size + 1) 3 1 v (0 + k) (intL ([] ++ (l.rc.take k).map Rcp.src)) ∧ Below (w.heap.size + 1) (w.alloc (.cells #[.slice x.pA x.pn x.pc, .slice x.rA x.rn x.rc, .slice x.tA x.tn x.tc, .slice x.sA x.sn x.sc] 27)) wr) (fun _ i _ => x.rn - (intOf i).toNat)
 case atStart => exact ⟨0, by omega, rfl, World.ownsRow_nil _ _ _ _, by exact bel_⟩
 case round =>
  obtain ⟨k1, hk0, rfl, hown, hB⟩ := hrel
  have hs0 : w.heap.size + 1 ≤ wr.heap.size := by have h := hB.size; simp at h; omega
  obtain ⟨hcw, hfw⟩ := bcell (W := (w.alloc (.cells #[.slice x.pA x.pn x.pc, .slice x.rA x.rn x.rc, .slice x.tA x.tn x.tc, .slice x.sA x.sn x.sc] 27))) (by simpa using hB)
  by_cases hlt : k1 < x.rn
  ·obtain ⟨b, o, e, hA, hb, he, hq⟩ := (Sq.ext HD.out.r abR (w' := wr) (by simpa using hB) (Nat.le_refl _)).at_ hlt
   obtain ⟨A1, n1, c1, ⟨a0, a1, a2, a3, a4, a5, a6⟩, _⟩ := hq
   have hbr : b < wr.heap.size := by simp at hb; omega
   have HE : Hid (intL ([] ++ (l.rc.take (k1 + 1)).map Rcp.src) = intL ([] ++ (l.rc.take k1).map Rcp.src) ++ [.int .i64 e.src]) := by
    show _ = _
    rw [take_snoc_some he]
    simp [intL]
   have HO := Lib.hid hown
   have HB := Lib.hid hB
   clear he hB
   go_wp2_with (at_builtin; refine wpList_append_own _ rfl (.tmp 17) (.tmp 20) 30 rfl (w.heap.size + 1) 3 i0 _ 1 8 Tryz.underlying30 hi hz0 hz1 hz2 rfl (by decide) _ _ _ rfl ((hown.alloc _).alloc _) ⟨wr.heap.size + 1, 0, none⟩ 1 1 [.int .i64 e.src] rfl rfl ?c1 ?c2 ?c3 ?c4 ?c5 ?_; rotate_left 5; intro v' w2 hown2 hgrow2 _)
   case c1 => intro j u hj; match j, hj with | 0, hj => simp at hj; subst hj; simp [Addr.add]
   case c2 => simp [Value.oneCell']
   case c3 => unfold maxLen; omega
   case c4 => omega
   case c5 => simp; omega
   go_roundw
   case rel =>
    (repeat apply Exists.intro)
    refine ⟨⟨k1 + 1, by omega, by go_num, by rw [HE.out]; exact hown2, OwnB.below (by have := HB.out; exact bel_) (HO.out) (by simp; omega) hgrow2⟩, ?_⟩
    first | rfl | (rw [hA] <;> rfl) | rw [hA]
   case measure => simp [intOf]; omega
  ·have hkn : Hid (k1 = x.rn) := by show _ = _; omega
   have HBW := Lib.hid hB
   have HOW := hown
   rw [hkn.out, List.take_of_length_le (by rw [HL1.out]; exact Nat.le_refl _)] at HOW
   have HOW := Lib.hid HOW
   clear hB hown
   go_wp2
   go_loopw [3, 26] (fun v i wr => ∃ k : Nat, k ≤ x.tn ∧ i = .int .i64 k ∧ wr.ownsRow (w.heap.size + 1) 3 1 v (0 + x.rn + k) (intL (([] ++ l.rc.map Rcp.src) ++ (l.rt.take k).map Rtn.src)) ∧ Below (w.heap.size + 1) (w.alloc (.cells #[.slice x.pA x.pn x.pc, .slice x.rA x.rn x.rc, .slice x.tA x.tn x.tc, .slice x.sA x.sn x.sc] 27)) wr) (fun _ i _ => x.tn - (intOf i).toNat)
   case atStart => exact ⟨0, by omega, rfl, by simpa using HOW.out, HBW.out⟩
   case round =>
    obtain ⟨k2, hk1, rfl, hown, hB⟩ := hrel
    have hs0 : w.heap.size + 1 ≤ wr.heap.size := by have h := hB.size; simp at h; omega
    obtain ⟨hcw, hfw⟩ := bcell (W := (w.alloc (.cells #[.slice x.pA x.pn x.pc, .slice x.rA x.rn x.rc, .slice x.tA x.tn x.tc, .slice x.sA x.sn x.sc] 27))) (by simpa using hB)
    by_cases hlt : k2 < x.tn
    ·obtain ⟨b, o, e, hA, hb, he, hq⟩ := (Sq.ext HD.out.t abT (w' := wr) (by simpa using hB) (Nat.le_refl _)).at_ hlt
     obtain ⟨A1, n1, c1, ⟨a0, a1, a2, a3, a4, a5, a6, a7⟩, _⟩ := hq
     have hbr : b < wr.heap.size := by simp at hb; omega
     have HE : Hid (intL (([] ++ l.rc.map Rcp.src) ++ (l.rt.take (k2 + 1)).map Rtn.src) = intL (([] ++ l.rc.map Rcp.src) ++ (l.rt.take k2).map Rtn.src) ++ [.int .i64 e.src]) := by
      show _ = _
      rw [take_snoc_some he]
      simp [intL]
     have HO := Lib.hid hown
     have HB := Lib.hid hB
     clear he hB
     go_wp2_with (at_builtin; refine wpList_append_own _ rfl (.tmp 30) (.tmp 33) 30 rfl (w.heap.size + 1) 3 i0 _ 1 8 Tryz.underlying30 hi hz0 hz1 hz2 rfl (by decide) _ _ _ rfl ((hown.alloc _).alloc _) ⟨wr.heap.size + 1, 0, none⟩ 1 1 [.int .i64 e.src] rfl rfl ?c1 ?c2 ?c3 ?c4 ?c5 ?_; rotate_left 5; intro v' w2 hown2 hgrow2 _)
     case c1 => intro j u hj; match j, hj with | 0, hj => simp at hj; subst hj; simp [Addr.add]
     case c2 => simp [Value.oneCell']
     case c3 => unfold maxLen; omega
     case c4 => omega
     case c5 => simp; omega
     go_roundw
     case rel =>
      (repeat apply Exists.intro)
      refine ⟨⟨k2 + 1, by omega, by go_num, by rw [HE.out]; exact hown2, OwnB.below (by have := HB.out; exact bel_) (HO.out) (by simp; omega) hgrow2⟩, ?_⟩
      first | rfl | (rw [hA] <;> rfl) | rw [hA]
     case measure => simp [intOf]; omega
    ·have hkn : Hid (k2 = x.tn) := by show _ = _; omega
     have HBW := Lib.hid hB
     have HOW := hown
     rw [hkn.out, List.take_of_length_le (by rw [HL2.out]; exact Nat.le_refl _)] at HOW
     have HOW := Lib.hid HOW
     clear hB hown
     go_wp2
     go_loopw [3, 39] (fun v i wr => ∃ k : Nat, k ≤ x.sn ∧ i = .int .i64 k ∧ wr.ownsRow (w.heap.size + 1) 3 1 v (0 + x.rn + x.tn + k) (intL ((([] ++ l.rc.map Rcp.src) ++ l.rt.map Rtn.src) ++ (l.sg.take k).map Sgt.src)) ∧ Below (w.heap.size + 1) (w.alloc (.cells #[.slice x.pA x.pn x.pc, .slice x.rA x.rn x.rc, .slice x.tA x.tn x.tc, .slice x.sA x.sn x.sc] 27)) wr) (fun _ i _ => x.sn - (intOf i).toNat)
     case atStart => exact ⟨0, by omega, rfl, by simpa using HOW.out, HBW.out⟩
     case round =>
      obtain ⟨k3, hk2, rfl, hown, hB⟩ := hrel
      have hs0 : w.heap.size + 1 ≤ wr.heap.size := by have h := hB.size; simp at h; omega
      obtain ⟨hcw, hfw⟩ := bcell (W := (w.alloc (.cells #[.slice x.pA x.pn x.pc, .slice x.rA x.rn x.rc, .slice x.tA x.tn x.tc, .slice x.sA x.sn x.sc] 27))) (by simpa using hB)
      by_cases hlt : k3 < x.sn
      ·obtain ⟨b, o, e, hA, hb, he, hq⟩ := (Sq.ext HD.out.s abS (w' := wr) (by simpa using hB) (Nat.le_refl _)).at_ hlt
       obtain ⟨a0, a1, a2, a3, a4, a5, a6⟩ := hq
       have hbr : b < wr.heap.size := by simp at hb; omega
       have HE : Hid (intL ((([] ++ l.rc.map Rcp.src) ++ l.rt.map Rtn.src) ++ (l.sg.take (k3 + 1)).map Sgt.src) = intL ((([] ++ l.rc.map Rcp.src) ++ l.rt.map Rtn.src) ++ (l.sg.take k3).map Sgt.src) ++ [.int .i64 e.src]) := by
        show _ = _
        rw [take_snoc_some he]
        simp [intL]
       have HO := Lib.hid hown
       have HB := Lib.hid hB
       clear he hB
       go_wp2_with (at_builtin; refine wpList_append_own _ rfl (.tmp 43) (.tmp 46) 30 rfl (w.heap.size + 1) 3 i0 _ 1 8 Tryz.underlying30 hi hz0 hz1 hz2 rfl (by decide) _ _ _ rfl ((hown.alloc _).alloc _) ⟨wr.heap.size + 1, 0, none⟩ 1 1 [.int .i64 e.src] rfl rfl ?c1 ?c2 ?c3 ?c4 ?c5 ?_; rotate_left 5; intro v' w2 hown2 hgrow2 _)
       case c1 => intro j u hj; match j, hj with | 0, hj => simp at hj; subst hj; simp [Addr.add]
       case c2 => simp [Value.oneCell']
       case c3 => unfold maxLen; omega
       case c4 => omega
       case c5 => simp; omega
       go_roundw
       case rel =>
        (repeat apply Exists.intro)
        refine ⟨⟨k3 + 1, by omega, by go_num, by rw [HE.out]; exact hown2, OwnB.below (by have := HB.out; exact bel_) (HO.out) (by simp; omega) hgrow2⟩, ?_⟩
        first | rfl | (rw [hA] <;> rfl) | rw [hA]
       case measure => simp [intOf]; omega
      ·have hkn : Hid (k3 = x.sn) := by show _ = _; omega
       have HBW := Lib.hid hB
       have HOW := hown
       rw [hkn.out, List.take_of_length_le (by rw [HL3.out]; exact Nat.le_refl _)] at HOW
       have HOW := Lib.hid HOW
       clear hB hown
       go_wp2
       go_ret
       exact RetO.mk' (by simpa [srcL] using HOW.out) HBW.out HL1.out HL2.out HL3.out
set_option maxRecDepth 10000 in
set_option maxHeartbeats 8000000 in
theorem r_sources (l : Led) (x : Lsl) (w : World) (hr : x.rn ≤ 60) (ht : x.tn ≤ 60) (hs : x.sn ≤ 60) (hd : LedIn w w.heap.size x l) :
 Calls Tryz.prog 80 #[.agg #[.slice x.pA x.pn x.pc, .slice x.rA x.rn x.rc, .slice x.tA x.tn x.tc, .slice x.sA x.sn x.sc]] w (RetO (srcL l) w) := by
 obtain ⟨i0, hi, hz0, hz1, hz2⟩ := info_parts infoI2
 have hl1 := hd.r.len
 have hl2 := hd.t.len
 have hl3 := hd.s.len
 have HD := Lib.hid (hd.now ((Below.refl w.heap.size w).alloc (Nat.le_refl _) (.cells #[.slice x.pA x.pn x.pc, .slice x.rA x.rn x.rc, .slice x.tA x.tn x.tc, .slice x.sA x.sn x.sc] 27)))
 have HL1 := Lib.hid hl1
 have HL2 := Lib.hid hl2
 have HL3 := Lib.hid hl3
 clear hl1 hl2 hl3 hd
 go_enter Tryz.func80, Tryz.ntmps80
 go_wp2
 go_loopw [3, 4] (fun v i wr => ∃ k : Nat, k ≤ x.rn ∧ i = .int .i64 k ∧ wr.ownsRow (w.heap.size + 1) 3 1 v (0 + k) (intL ([] ++ (l.rc.take k).map Rcp.src)) ∧ Below (w.heap.size + 1) (w.alloc (.cells #[.slice x.pA x.pn x.pc, .slice x.rA x.rn x.rc, .slice x.tA x.tn x.tc, .slice x.sA x.sn x.sc] 27)) wr) (fun _ i _ => x.rn - (intOf i).toNat)
 case atStart => exact ⟨0, by omega, rfl, World.ownsRow_nil _ _ _ _, by exact bel_⟩
 case round =>
  obtain ⟨k1, hk0, rfl, hown, hB⟩ := hrel
  have hs0 : w.heap.size + 1 ≤ wr.heap.size := by have h := hB.size; simp at h; omega
  obtain ⟨hcw, hfw⟩ := bcell (W := (w.alloc (.cells #[.slice x.pA x.pn x.pc, .slice x.rA x.rn x.rc, .slice x.tA x.tn x.tc, .slice x.sA x.sn x.sc] 27))) (by simpa using hB)
  by_cases hlt : k1 < x.rn
  ·obtain ⟨b, o, e, hA, hb, he, hq⟩ := (Sq.ext HD.out.r abR (w' := wr) (by simpa using hB) (Nat.le_refl _)).at_ hlt
   obtain ⟨A1, n1, c1, ⟨a0, a1, a2, a3, a4, a5, a6⟩, _⟩ := hq
   have hbr : b < wr.heap.size := by simp at hb; omega
   have HE : Hid (intL ([] ++ (l.rc.take (k1 + 1)).map Rcp.src) = intL ([] ++ (l.rc.take k1).map Rcp.src) ++ [.int .i64 e.src]) := by
    show _ = _
    rw [take_snoc_some he]
    simp [intL]
   have HO := Lib.hid hown
   have HB := Lib.hid hB
   clear he hB
   go_wp2_with (at_builtin; refine wpList_append_own _ rfl (.tmp 14) (.tmp 21) 30 rfl (w.heap.size + 1) 3 i0 _ 1 8 Tryz.underlying30 hi hz0 hz1 hz2 rfl (by decide) _ _ _ rfl (hown.alloc _) ⟨wr.heap.size, 0, none⟩ 1 1 [.int .i64 e.src] rfl rfl ?c1 ?c2 ?c3 ?c4 ?c5 ?_; rotate_left 5; intro v' w2 hown2 hgrow2 _)
   case c1 => intro j u hj; match j, hj with | 0, hj => simp at hj; subst hj; simp [Addr.add]
   case c2 => simp [Value.oneCell']
   case c3 => unfold maxLen; omega
   case c4 => omega
   case c5 => simp; omega
   go_roundw
   case rel =>
    (repeat apply Exists.intro)
    refine ⟨⟨k1 + 1, by omega, by go_num, by rw [HE.out]; exact hown2, OwnB.below (by have := HB.out; exact bel_) (HO.out) (by simp; omega) hgrow2⟩, ?_⟩
    first | rfl | (rw [hA] <;> rfl) | rw [hA]
   case measure => simp [intOf]; omega
  ·have hkn : Hid (k1 = x.rn) := by show _ = _; omega
   have HBW := Lib.hid hB
   have HOW := hown
   rw [hkn.out, List.take_of_length_le (by rw [HL1.out]; exact Nat.le_refl _)] at HOW
   have HOW := Lib.hid HOW
   clear hB hown
   go_wp2
   go_loopw [3, 5] (fun v i wr => ∃ k : Nat, k ≤ x.tn ∧ i = .int .i64 k ∧ wr.ownsRow (w.heap.size + 1) 3 1 v (0 + x.rn + k) (intL (([] ++ l.rc.map Rcp.src) ++ (l.rt.take k).map Rtn.src)) ∧ Below (w.heap.size + 1) (w.alloc (.cells #[.slice x.pA x.pn x.pc, .slice x.rA x.rn x.rc, .slice x.tA x.tn x.tc, .slice x.sA x.sn x.sc] 27)) wr) (fun _ i _ => x.tn - (intOf i).toNat)
   case atStart => exact ⟨0, by omega, rfl, by simpa using HOW.out, HBW.out⟩
   case round =>
    obtain ⟨k2, hk1, rfl, hown, hB⟩ := hrel
    have hs0 : w.heap.size + 1 ≤ wr.heap.size := by have h := hB.size; simp at h; omega
    obtain ⟨hcw, hfw⟩ := bcell (W := (w.alloc (.cells #[.slice x.pA x.pn x.pc, .slice x.rA x.rn x.rc, .slice x.tA x.tn x.tc, .slice x.sA x.sn x.sc] 27))) (by simpa using hB)
    by_cases hlt : k2 < x.tn
    ·obtain ⟨b, o, e, hA, hb, he, hq⟩ := (Sq.ext HD.out.t abT (w' := wr) (by simpa using hB) (Nat.le_refl _)).at_ hlt
     obtain ⟨A1, n1, c1, ⟨a0, a1, a2, a3, a4, a5, a6, a7⟩, _⟩ := hq
     have hbr : b < wr.heap.size := by simp at hb; omega
     have HE : Hid (intL (([] ++ l.rc.map Rcp.src) ++ (l.rt.take (k2 + 1)).map Rtn.src) = intL (([] ++ l.rc.map Rcp.src) ++ (l.rt.take k2).map Rtn.src) ++ [.int .i64 e.src]) := by
      show _ = _
      rw [take_snoc_some he]
      simp [intL]
     have HO := Lib.hid hown
     have HB := Lib.hid hB
     clear he hB
     go_wp2_with (at_builtin; refine wpList_append_own _ rfl (.tmp 30) (.tmp 37) 30 rfl (w.heap.size + 1) 3 i0 _ 1 8 Tryz.underlying30 hi hz0 hz1 hz2 rfl (by decide) _ _ _ rfl (hown.alloc _) ⟨wr.heap.size, 0, none⟩ 1 1 [.int .i64 e.src] rfl rfl ?c1 ?c2 ?c3 ?c4 ?c5 ?_; rotate_left 5; intro v' w2 hown2 hgrow2 _)
     case c1 => intro j u hj; match j, hj with | 0, hj => simp at hj; subst hj; simp [Addr.add]
     case c2 => simp [Value.oneCell']
     case c3 => unfold maxLen; omega
     case c4 => omega
     case c5 => simp; omega
     go_roundw
     case rel =>
      (repeat apply Exists.intro)
      refine ⟨⟨k2 + 1, by omega, by go_num, by rw [HE.out]; exact hown2, OwnB.below (by have := HB.out; exact bel_) (HO.out) (by simp; omega) hgrow2⟩, ?_⟩
      first | rfl | (rw [hA] <;> rfl) | rw [hA]
     case measure => simp [intOf]; omega
    ·have hkn : Hid (k2 = x.tn) := by show _ = _; omega
     have HBW := Lib.hid hB
     have HOW := hown
     rw [hkn.out, List.take_of_length_le (by rw [HL2.out]; exact Nat.le_refl _)] at HOW
     have HOW := Lib.hid HOW
     clear hB hown
     go_wp2
     go_loopw [3, 6] (fun v i wr => ∃ k : Nat, k ≤ x.sn ∧ i = .int .i64 k ∧ wr.ownsRow (w.heap.size + 1) 3 1 v (0 + x.rn + x.tn + k) (intL ((([] ++ l.rc.map Rcp.src) ++ l.rt.map Rtn.src) ++ (l.sg.take k).map Sgt.src)) ∧ Below (w.heap.size + 1) (w.alloc (.cells #[.slice x.pA x.pn x.pc, .slice x.rA x.rn x.rc, .slice x.tA x.tn x.tc, .slice x.sA x.sn x.sc] 27)) wr) (fun _ i _ => x.sn - (intOf i).toNat)
     case atStart => exact ⟨0, by omega, rfl, by simpa using HOW.out, HBW.out⟩
     case round =>
      obtain ⟨k3, hk2, rfl, hown, hB⟩ := hrel
      have hs0 : w.heap.size + 1 ≤ wr.heap.size := by have h := hB.size; simp at h; omega
      obtain ⟨hcw, hfw⟩ := bcell (W := (w.alloc (.cells #[.slice x.pA x.pn x.pc, .slice x.rA x.rn x.rc, .slice x.tA x.tn x.tc, .slice x.sA x.sn x.sc] 27))) (by simpa using hB)
      by_cases hlt : k3 < x.sn
      ·obtain ⟨b, o, e, hA, hb, he, hq⟩ := (Sq.ext HD.out.s abS (w' := wr) (by simpa using hB) (Nat.le_refl _)).at_ hlt
       obtain ⟨a0, a1, a2, a3, a4, a5, a6⟩ := hq
       have hbr : b < wr.heap.size := by simp at hb; omega
       have HE : Hid (intL ((([] ++ l.rc.map Rcp.src) ++ l.rt.map Rtn.src) ++ (l.sg.take (k3 + 1)).map Sgt.src) = intL ((([] ++ l.rc.map Rcp.src) ++ l.rt.map Rtn.src) ++ (l.sg.take k3).map Sgt.src) ++ [.int .i64 e.src]) := by
        show _ = _
        rw [take_snoc_some he]
        simp [intL]
       have HO := Lib.hid hown
       have HB := Lib.hid hB
       clear he hB
       go_wp2_with (at_builtin; refine wpList_append_own _ rfl (.tmp 46) (.tmp 53) 30 rfl (w.heap.size + 1) 3 i0 _ 1 8 Tryz.underlying30 hi hz0 hz1 hz2 rfl (by decide) _ _ _ rfl (hown.alloc _) ⟨wr.heap.size, 0, none⟩ 1 1 [.int .i64 e.src] rfl rfl ?c1 ?c2 ?c3 ?c4 ?c5 ?_; rotate_left 5; intro v' w2 hown2 hgrow2 _)
       case c1 => intro j u hj; match j, hj with | 0, hj => simp at hj; subst hj; simp [Addr.add]
       case c2 => simp [Value.oneCell']
       case c3 => unfold maxLen; omega
       case c4 => omega
       case c5 => simp; omega
       go_roundw
       case rel =>
        (repeat apply Exists.intro)
        refine ⟨⟨k3 + 1, by omega, by go_num, by rw [HE.out]; exact hown2, OwnB.below (by have := HB.out; exact bel_) (HO.out) (by simp; omega) hgrow2⟩, ?_⟩
        first | rfl | (rw [hA] <;> rfl) | rw [hA]
       case measure => simp [intOf]; omega
      ·have hkn : Hid (k3 = x.sn) := by show _ = _; omega
       have HBW := Lib.hid hB
       have HOW := hown
       rw [hkn.out, List.take_of_length_le (by rw [HL3.out]; exact Nat.le_refl _)] at HOW
       have HOW := Lib.hid HOW
       clear hB hown
       go_wp2
       go_ret
       exact RetO.mk' (by simpa [srcL] using HOW.out) HBW.out HL1.out HL2.out HL3.out
end Go.Proofs.YtklikciiaogpbaaGreat
/- Layer 2: Has and apart of the reference. -/
namespace Go.Proofs.YtklikciiaogpbaaGreat
open Go.RowKit
theorem mem_take_succ {l : List Int} {k : Nat} {x n : Int} (h : l[k]? = some x) : n ∈ l.take (k + 1) ↔ n ∈ l.take k ∨ n = x := by
 rw [take_snoc_some h, List.mem_append, List.mem_singleton]
set_option maxHeartbeats 1000000 in
theorem r_Has2 (l : List Int) (v : Int) (A : Option Addr) (n c : Nat) (w : World) (hn : n ≤ 9223372036854775807) (hd : Is w w.heap.size A n l) :
 Calls Tryz.prog 64 #[.slice A n c, .int .i64 v] w fun e w' => e = .returned (.bool (decide (v ∈ l))) ∧ Below w.heap.size w w' := by
 have hlen := hd.len
 have HD := Lib.hid hd
 have HL := Lib.hid hlen
 clear hd hlen
 go_enter Tryz.func64, Tryz.ntmps64
 go_wp2
 go_loopw [5] (fun i wr => ∃ k : Nat, k ≤ n ∧ i = .int .i64 k ∧ v ∉ l.take k ∧ Below w.heap.size w wr) (fun i _ => n - (intOf i).toNat)
 case atStart => exact ⟨0, by omega, rfl, by simp, Below.refl _ _⟩
 case round =>
  obtain ⟨k, hk, rfl, hno, hB⟩ := hrel
  have HNo := Lib.hid hno
  clear hno
  by_cases hlt : k < n
  ·obtain ⟨b, o, x, rfl, hb, hx, hc0⟩ := (Is.ext HD.out hB (Nat.le_refl _)).at_ hlt
   have HX := Lib.hid hx
   clear hx
   by_cases he : x = v
   ·go_wp2
    go_ret
    exact ⟨ret_bool (by rw [he] at HX; simp [List.mem_of_getElem? HX.out]), hB⟩
   ·go_wp2
    go_roundw
    case rel => exact ⟨k + 1, by omega, by go_num, by rw [mem_take_succ HX.out]; exact fun h => h.elim HNo.out fun e => he e.symm, hB⟩
    case measure => simp [intOf]; omega
  ·have hkn : Hid (k = n) := by show _ = _; omega
   go_wp2
   go_ret
   refine ⟨ret_bool ?_, hB⟩
   have h := HNo.out
   rw [List.take_of_length_le (by rw [HL.out, hkn.out]; exact Nat.le_refl _)] at h
   simp [h]
set_option maxHeartbeats 2000000 in
theorem r_apart2 (l : List Int) (A : Option Addr) (n c : Nat) (w : World) (hn : n ≤ 1000000) (hd : Is w w.heap.size A n l) :
 Calls Tryz.prog 111 #[.slice A n c] w fun e w' => e = .returned (.bool (decide l.Nodup)) ∧ Below w.heap.size w w' := by
 have hlen := hd.len
 have HD := Lib.hid hd
 have HL := Lib.hid hlen
 clear hd hlen
 go_enter Tryz.func111, Tryz.ntmps111
 go_wp2
 go_loopw [3] (fun i wr => ∃ k : Nat, k ≤ n ∧ i = .int .i64 k ∧ (l.take k).Nodup ∧ Below w.heap.size w wr) (fun i _ => n - (intOf i).toNat)
 case atStart => exact ⟨0, by omega, rfl, by simp, Below.refl _ _⟩
 case round =>
  obtain ⟨k, hk, rfl, hno, hB⟩ := hrel
  have HNo := Lib.hid hno
  clear hno
  by_cases hlt : k < n
  ·obtain ⟨b, o, x, rfl, hb, hx, hc0⟩ := (Is.ext HD.out hB (Nat.le_refl _)).at_ hlt
   have HX := Lib.hid hx
   clear hx
   go_wp2
   go_loopw [4] (fun i wq => ∃ j : Nat, j ≤ k ∧ i = .int .i64 j ∧ x ∉ l.take j ∧ Below w.heap.size w wq) (fun i _ => k - (intOf i).toNat)
   case atStart => exact ⟨0, by omega, rfl, by simp, hB⟩
   case round =>
    obtain ⟨j, hj, rfl, hni, hQ⟩ := hrel
    have HNi := Lib.hid hni
    clear hni
    by_cases hjk : j < k
    ·obtain ⟨b', o', y, e', _, hy, hc1⟩ := (Is.ext HD.out hQ (Nat.le_refl _)).at_ (k := j) (by omega)
     obtain ⟨rfl, rfl⟩ : b = b' ∧ o = o' := by simpa using e'
     obtain ⟨b2, o2, x2, e2, _, hx2, hc2⟩ := (Is.ext HD.out hQ (Nat.le_refl _)).at_ (k := k) hlt
     obtain ⟨rfl, rfl⟩ : b = b2 ∧ o = o2 := by simpa using e2
     obtain rfl : x2 = x := Option.some.inj (hx2.symm.trans HX.out)
     have HY := Lib.hid hy
     clear hy e' e2 hx2
     have hs0 : w.heap.size ≤ wr.heap.size := hQ.size
     have hbr : b < wr.heap.size := by omega
     by_cases hxy : x2 = y
     ·go_wp2_with fail
      (refine wp_region_grow (by kernel_rfl) (by kernel_rfl) ?_; (repeat (go_big_quiet_step ((first | fail)))); refine wpQuiet_nil ?_; rintro w1 ⟨⟨_, hb1⟩, rfl⟩; (try dsimp only at hb1 ⊢); obtain ⟨hc1, hf1⟩ := bcell hb1)
      go_wp2_with fail
      go_ret
      refine ⟨ret_bool ?_, Below.then_ hQ hb1⟩
      have h1 : ¬ l.Nodup := fun h => by
       have h3 := (List.getElem?_inj (by rw [HL.out]; omega) h (i := j) (j := k)).1 (by rw [HY.out, HX.out, hxy])
       omega
      simp [h1]
     ·go_wp2_with fail
      (refine wp_region_grow (by kernel_rfl) (by kernel_rfl) ?_; (repeat (go_big_quiet_step ((first | fail)))); refine wpQuiet_nil ?_; rintro w1 ⟨⟨_, hb1⟩, rfl⟩; (try dsimp only at hb1 ⊢); obtain ⟨hc1, hf1⟩ := bcell hb1)
      go_wp2_with fail
      go_roundw
      case rel => exact ⟨j + 1, by omega, by go_num, by rw [mem_take_succ HY.out]; exact fun h => h.elim HNi.out hxy, Below.then_ hQ hb1⟩
      case measure => simp [intOf]; omega
    ·have hkj : Hid (j = k) := by show _ = _; omega
     go_wp2
     go_roundw
     case rel =>
      refine ⟨k + 1, by omega, by go_num, ?_, hQ⟩
      rw [take_snoc_some HX.out, List.nodup_append]
      have h := HNi.out
      rw [hkj.out] at h
      exact ⟨HNo.out, by simp, fun a ha b hb' e => by rw [List.mem_singleton] at hb'; exact h (by rw [← hb', ← e]; exact ha)⟩
     case measure => simp [intOf]; omega
  ·have hkn : Hid (k = n) := by show _ = _; omega
   go_wp2
   go_ret
   refine ⟨ret_bool ?_, hB⟩
   have h := HNo.out
   rw [List.take_of_length_le (by rw [HL.out, hkn.out]; exact Nat.le_refl _)] at h
   simp [h]
end Go.Proofs.YtklikciiaogpbaaGreat
/- Layer 2: the library's Sort and Compact at numbers, laid. -/
namespace Go.Proofs
open Go.Shelf
end Go.Proofs
/- Layer 2: a row of the call's own sorted and compacted; of a sorted list, that compacting leaves its length tells whether all numbers differ. -/
namespace Go.Proofs.YtklikciiaogpbaaGreat
open Go.RowKit Go.Sort
def srtI (xs : List Int) : List Int := xs.mergeSort fun x y => decide (x ≤ y)
theorem srtI_len (xs : List Int) : (srtI xs).length = xs.length := List.length_mergeSort ..
theorem srtI_perm (xs : List Int) : (srtI xs).Perm xs := List.mergeSort_perm ..
theorem srtI_pair (xs : List Int) : (srtI xs).Pairwise (· ≤ ·) := by
 have h := List.pairwise_mergeSort (le := fun x y : Int => decide (x ≤ y)) (fun a b c h1 h2 => by simp at h1 h2 ⊢; omega) (fun a b => by simp; omega) xs
 exact h.imp fun h => by simpa using h
theorem adj_nodup {zs : List Int} (hs : zs.Pairwise (· ≤ ·)) (h : ∀ j (h1 : j + 1 < zs.length), zs[j + 1] ≠ zs[j]) : zs.Nodup := by
 induction zs with
 | nil => exact List.nodup_nil
 | cons a l ih =>
   rw [List.nodup_cons]
   rw [List.pairwise_cons] at hs
   have hl := ih hs.2 fun j h1 => by
    have := h (j + 1) (by simp; omega)
    simpa using this
   refine ⟨fun ha => ?_, hl⟩
   cases l with
   | nil => simp at ha
   | cons b m =>
     have h0 := h 0 (by simp)
     simp at h0
     have hab := hs.1 b (by simp)
     rw [List.pairwise_cons] at hs
     rcases List.mem_cons.1 ha with e | hm
     ·exact h0 e.symm
     ·have := hs.2.1 a hm
      omega
theorem compact_nodup {zs : List Int} (hs : zs.Pairwise (· ≤ ·)) : decide ((Lib.compact zs).length = zs.length) = decide zs.Nodup := by
 rw [decide_eq_decide]
 constructor
 ·intro h
  have hall : ∀ j, j < zs.length → Lib.keeps zs.toArray j = true := by
   have h2 : ((List.range zs.length).filter (Lib.keeps zs.toArray)).length = (List.range zs.length).length := by
    have h3 := h
    simp only [Lib.compact, Lib.compactUpTo, List.length_map] at h3
    simpa using h3
   intro j hj
   exact (List.length_filter_eq_length_iff.1 h2) j (List.mem_range.2 hj)
  refine adj_nodup hs fun j h1 e => ?_
  have := hall (j + 1) h1
  rw [Lib.keeps_neg (by omega) (by simp [h1, show j < zs.length by omega, e])] at this
  cases this
 ·intro h
  have hk : ∀ j, j < zs.length → Lib.keeps zs.toArray j = true := fun j hj => by
   cases j with
   | zero => exact Lib.keeps_lt_one _ 0 (by omega)
   | succ j =>
     refine Lib.keeps_pos ?_
     simp only [Nat.add_sub_cancel]
     intro e
     have e2 : zs[j + 1] = zs[j]'(by omega) := by simpa [hj, show j < zs.length by omega] using e
     have := (List.getElem_inj h).1 e2
     omega
  rw [Lib.compact_all zs hk]
theorem p_SortI {base n c : Nat} {A : Option Addr} {xs : List Int} (w : World) (hn : n ≤ 1000000) (h : w.ownsRow base 3 1 (.slice A n c) n (intL xs)) :
 Calls Tryz.prog 172 #[.slice A n c] w fun e w' => e = .returned (.tuple #[]) ∧ w'.ownsRow base 3 1 (.slice A n c) n (intL (srtI xs)) ∧ w.grownBy w' (Value.slice A n c).ownBlock := by
 have hl : xs.length = n := by have := h.1; simpa [intL] using this
 rcases h.2 with ⟨hv, h0⟩ | ⟨g, cap, cur, hv, hB, hg, h1, h2, h3, ht⟩
 ·injection hv with e1 e2 e3
  subst e1 e2 e3
  refine (Any.slices_Sort_int_none Tryz.laysSortI none 0 w).mono ?_
  rintro e w' ⟨he, rfl⟩
  have hx : xs = [] := List.eq_nil_of_length_eq_zero hl
  subst hx
  exact ⟨he, by rw [show srtI [] = [] from by simp [srtI]]; exact h, ⟨rfl, rfl, rfl, Nat.le_refl _, fun _ _ _ => rfl⟩⟩
 ·injection hv with e1 e2 e3
  subst e1 e3
  have ht' : cur.toList.take xs.length = xs.map (Value.int .i64) := by rw [hl]; simpa [intL] using ht
  have hH := holds_of_blockI hg ht'
  have hc := Any.slices_Sort_int Tryz.laysSortI g 0 c xs w hH (Array.getElem?_eq_some_iff.1 hg).1 (by omega)
  rw [hl] at hc
  refine hc.mono ?_
  rintro e w' ⟨he, m, os, rfl⟩
  refine ⟨he, ?_, by simpa [Value.ownBlock] using grownBy_sortedI _⟩
  have ho := ownsRow_sortedI (w := w) (n := m) (os := os) (ss := xs) (ts := srtI xs) (srtI_len xs) hB hg (by rw [hl]; exact h1) h2 (by simpa using h3)
  rw [hl] at ho
  exact ho
theorem p_CompactI {base n c : Nat} {A : Option Addr} {xs : List Int} (w : World) (hn : n ≤ 1000000) (h : w.ownsRow base 3 1 (.slice A n c) n (intL xs)) :
 Calls Tryz.prog 173 #[.slice A n c] w fun e w' => e = .returned (.slice A (Lib.compact xs).length c) ∧ w.grownBy w' (Value.slice A n c).ownBlock := by
 have hl : xs.length = n := by have := h.1; simpa [intL] using this
 rcases h.2 with ⟨hv, h0⟩ | ⟨g, cap, cur, hv, hB, hg, h1, h2, h3, ht⟩
 ·injection hv with e1 e2 e3
  subst e1 e2 e3
  refine (Any.slices_Compact_int_empty Tryz.laysCompactI none 0 w).mono ?_
  rintro e w' ⟨he, rfl⟩
  have hx : xs = [] := List.eq_nil_of_length_eq_zero hl
  subst hx
  exact ⟨he, ⟨rfl, rfl, rfl, Nat.le_refl _, fun _ _ _ => rfl⟩⟩
 ·injection hv with e1 e2 e3
  subst e1 e3
  have ht' : cur.toList.take xs.length = xs.map (Value.int .i64) := by rw [hl]; simpa [intL] using ht
  have hH := holds_of_blockI hg ht'
  have hc := Any.slices_Compact_int Tryz.laysCompactI g 0 c xs w hH (by omega) (by omega)
  rw [hl] at hc
  refine hc.mono ?_
  rintro e w' ⟨he, m, rfl⟩
  refine ⟨he, ?_⟩
  have h5 := grownBy_sortedI (w := w) (g := g) (n := m) (os := #[]) (Lib.compact xs ++ List.replicate (n - (Lib.compact xs).length) 0).toArray
  rw [grow_empty] at h5
  simpa [Value.ownBlock] using h5
end Go.Proofs.YtklikciiaogpbaaGreat
