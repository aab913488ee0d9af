import Derived.Test.YtikioiblaoimkaaGreatDoorA1
set_option linter.unusedVariables false
set_option linter.unusedSimpArgs false

/- The first two deeds that contradict each other. -/
namespace Go.Proofs.YtikioiblaoimkaaGreatDoor
open Go.RowKit

def zeroD : Deed := ⟨0, 0, 0, 0, 0, 0, 0, 0, 0⟩
def clash : List Deed → Option (Deed × Deed)
  | [] => none
  | a :: l => match l.find? (contraB a) with
    | some b => some (a, b)
    | none => clash l
def clA (ds : List Deed) : Deed := ((clash ds).getD (zeroD, zeroD)).1
def clB (ds : List Deed) : Deed := ((clash ds).getD (zeroD, zeroD)).2
def clF (ds : List Deed) : Bool := (clash ds).isSome

theorem drop_cons {ds : List Deed} {k : Nat} {d : Deed} (h : ds[k]? = some d) : ds.drop k = d :: ds.drop (k + 1) := by
  have hk : k < ds.length := (List.getElem?_eq_some_iff.1 h).1
  rw [List.drop_eq_getElem_cons hk, (List.getElem?_eq_some_iff.1 h).2]
theorem clash_none {ds : List Deed} {k : Nat} {d : Deed} (hk : ds[k]? = some d) (hn : (ds.drop (k + 1)).find? (contraB d) = none) (h : clash (ds.drop k) = clash ds) : clash (ds.drop (k + 1)) = clash ds := by
  rw [← h, drop_cons hk, clash, hn]
theorem clash_some {ds : List Deed} {k : Nat} {d e : Deed} (hk : ds[k]? = some d) (hn : (ds.drop (k + 1)).find? (contraB d) = some e) (h : clash (ds.drop k) = clash ds) : clash ds = some (d, e) := by
  rw [← h, drop_cons hk, clash, hn]
theorem find_none_step {l : List Deed} {p : Deed → Bool} {j : Nat} {e : Deed} (hj : l[j]? = some e) (he : p e = false) (h : (l.take j).find? p = none) : (l.take (j + 1)).find? p = none := by
  rw [take_snoc_some hj, List.find?_append, h]
  simp [he]
theorem find_some_at {l : List Deed} {p : Deed → Bool} {j : Nat} {e : Deed} (hj : l[j]? = some e) (he : p e = true) (h : (l.take j).find? p = none) : l.find? p = some e := by
  rw [← List.take_append_drop j l, List.find?_append, h, drop_cons hj]
  simp [he]
theorem deedCells_drop (ds : List Deed) (k : Nat) : deedCells (ds.drop k) = (deedCells ds).drop (k * 9) := by
  induction ds generalizing k with
  | nil => simp [deedCells]
  | cons d ds ih =>
    cases k with
    | zero => simp
    | succ k =>
      rw [List.drop_succ_cons, ih, deedCells_cons, List.drop_append]
      have h1 : ∀ l : List Value, l.length = 9 → l.drop ((k + 1) * 9) = [] := fun l hl => List.drop_eq_nil_of_le (by omega)
      rw [h1 _ rfl, List.nil_append]
      congr 1
      simp only [List.length_cons, List.length_nil]
      omega
theorem Ds.drop {w : World} {B n b o : Nat} {ds : List Deed} (h : Ds w B (some ⟨b, o, none⟩) n ds) {k : Nat} (hk : k ≤ n) : Ds w B (some ⟨b, o + k * 9, none⟩) (n - k) (ds.drop k) := by
  refine ⟨by rw [deedCells_length, List.length_drop, h.len], fun hn => ?_⟩
  obtain ⟨b', o', e, hb, hc⟩ := h.2 (by omega)
  obtain ⟨rfl, rfl⟩ : b = b' ∧ o = o' := by simpa using e
  refine ⟨b, o + k * 9, rfl, hb, fun j u hu => ?_⟩
  rw [deedCells_drop, List.getElem?_drop] at hu
  rw [Nat.add_assoc]
  exact hc _ _ hu
theorem p_contradict_v (a b : Deed) (v : Bool) (w : World) (h : contraB a b = v) :
    Calls Tryz.prog 104 #[.agg #[.int .i64 a.par, .int .i64 a.no, .int .i64 a.kind, .int .i64 a.lock, .int .i64 a.person, .int .i64 a.lo, .int .i64 a.hi, .int .i64 a.known, .int .i64 a.til], .agg #[.int .i64 b.par, .int .i64 b.no, .int .i64 b.kind, .int .i64 b.lock, .int .i64 b.person, .int .i64 b.lo, .int .i64 b.hi, .int .i64 b.known, .int .i64 b.til]] w fun e w' => e = .returned (.bool v) ∧ Below w.heap.size w w' := h ▸ p_contradict a b w

theorem zero_facts {w W : World} (hB : Below ((w.alloc (.cells #[.int .i64 0, .int .i64 0, .int .i64 0, .int .i64 0, .int .i64 0, .int .i64 0, .int .i64 0, .int .i64 0, .int .i64 0] 41)).alloc (.cells #[.int .i64 0, .int .i64 0, .int .i64 0, .int .i64 0, .int .i64 0, .int .i64 0, .int .i64 0, .int .i64 0, .int .i64 0] 41)).heap.size ((w.alloc (.cells #[.int .i64 0, .int .i64 0, .int .i64 0, .int .i64 0, .int .i64 0, .int .i64 0, .int .i64 0, .int .i64 0, .int .i64 0] 41)).alloc (.cells #[.int .i64 0, .int .i64 0, .int .i64 0, .int .i64 0, .int .i64 0, .int .i64 0, .int .i64 0, .int .i64 0, .int .i64 0] 41)) W) :
    (∀ i, i < 9 → W.cell? ⟨w.heap.size, i, none⟩ = some (.int .i64 0)) ∧ (∀ i, i < 9 → W.cell? ⟨w.heap.size + 1, i, none⟩ = some (.int .i64 0)) ∧ (∀ i, W.frozen? ⟨w.heap.size, i, none⟩ = false) ∧ (∀ i, W.frozen? ⟨w.heap.size + 1, i, none⟩ = false) := by
  refine ⟨fun i hi => ?_, fun i hi => ?_, fun i => ?_, fun i => ?_⟩
  · rw [(bcell hB).1 _ _ (by simp; omega)]
    match i, hi with
    | 0, _ | 1, _ | 2, _ | 3, _ | 4, _ | 5, _ | 6, _ | 7, _ | 8, _ => simp
  · rw [(bcell hB).1 _ _ (by simp)]
    match i, hi with
    | 0, _ | 1, _ | 2, _ | 3, _ | 4, _ | 5, _ | 6, _ | 7, _ | 8, _ => simp
  · rw [(bcell hB).2 _ _ (by simp; omega)]
    simp
  · rw [(bcell hB).2 _ _ (by simp)]
    simp

set_option maxRecDepth 100000 in
set_option maxHeartbeats 2000000 in
theorem p_conflict (ds : List Deed) (A : Option Addr) (n c : Nat) (w : World) (hn : n ≤ 1000000) (hnc : n ≤ c) (hd : Ds w w.heap.size A n ds) :
    Calls Tryz.prog 68 #[.slice A n c] w fun e w' => e = .returned (.tuple #[.agg #[.int .i64 (clA ds).par, .int .i64 (clA ds).no, .int .i64 (clA ds).kind, .int .i64 (clA ds).lock, .int .i64 (clA ds).person, .int .i64 (clA ds).lo, .int .i64 (clA ds).hi, .int .i64 (clA ds).known, .int .i64 (clA ds).til], .agg #[.int .i64 (clB ds).par, .int .i64 (clB ds).no, .int .i64 (clB ds).kind, .int .i64 (clB ds).lock, .int .i64 (clB ds).person, .int .i64 (clB ds).lo, .int .i64 (clB ds).hi, .int .i64 (clB ds).known, .int .i64 (clB ds).til], .bool (clF ds)]) ∧ Below w.heap.size w w' := by
  have hlen := hd.len
  have HD := Lib.hid hd
  have HL := Lib.hid hlen
  clear hd hlen
  go_enter Tryz.func68, Tryz.ntmps68
  go_wp2
  go_loopw [11] (fun i wr => ∃ k : Nat, k ≤ n ∧ i = .int .i64 k ∧ clash (ds.drop k) = clash ds ∧ Below ((w.alloc (.cells #[.int .i64 0, .int .i64 0, .int .i64 0, .int .i64 0, .int .i64 0, .int .i64 0, .int .i64 0, .int .i64 0, .int .i64 0] 41)).alloc (.cells #[.int .i64 0, .int .i64 0, .int .i64 0, .int .i64 0, .int .i64 0, .int .i64 0, .int .i64 0, .int .i64 0, .int .i64 0] 41)).heap.size ((w.alloc (.cells #[.int .i64 0, .int .i64 0, .int .i64 0, .int .i64 0, .int .i64 0, .int .i64 0, .int .i64 0, .int .i64 0, .int .i64 0] 41)).alloc (.cells #[.int .i64 0, .int .i64 0, .int .i64 0, .int .i64 0, .int .i64 0, .int .i64 0, .int .i64 0, .int .i64 0, .int .i64 0] 41)) wr) (fun i _ => n - (intOf i).toNat)
  case atStart => exact ⟨0, by omega, rfl, rfl, Below.refl _ _⟩
  case round =>
    obtain ⟨k, hk, rfl, hcl, hB⟩ := hrel
    obtain ⟨wo, hwo⟩ : ∃ wo : World, wo = wr := ⟨_, rfl⟩
    subst hwo
    have hBw : Below w.heap.size w wo := (((Below.refl _ _).alloc (Nat.le_refl _) _).alloc (by simp) _).trans (hB.mono (by simp; omega))
    have hs0 : w.heap.size + 1 < wo.heap.size := by have h := hB.size; simp only [World.size_alloc] at h; omega
    by_cases hlt : k < n
    · have hDk := HD.out.ext hBw (Nat.le_refl _)
      obtain ⟨b, o, d, rfl, hb, hdk, hat⟩ := hDk.at_ hlt
      have HDD := Lib.hid (hDk.drop (k := k + 1) (by omega))
      have HK := Lib.hid hdk
      have HCL := Lib.hid hcl
      clear hDk hdk hcl
      obtain ⟨a0, a1, a2, a3, a4, a5, a6, a7, a8⟩ := hat
      have HBL := Lib.hid (fun W (h : Below wo.heap.size wo W) => Below.trans hB (h.mono (by simp; omega)))
      have HBW := Lib.hid (fun W (h : Below wo.heap.size wo W) => Below.then_ hBw h)
      by_cases hcap : c = k + 1
      · have hnk : n = k + 1 := by omega
        have hfn : (ds.drop (k + 1)).find? (contraB d) = none := by
          rw [List.drop_eq_nil_of_le (by rw [HL.out]; omega)]
          rfl
        have HN := Lib.hid (clash_none HK.out hfn HCL.out)
        have HNK := Lib.hid hnk
        clear hB hBw hfn
        go_wp2
        go_loopw [21] (fun i wr => i = .int .i64 0 ∧ Below wo.heap.size wo wr) (fun _ _ => 0)
        case atStart => exact ⟨rfl, by (repeat' (first | with_reducible exact Below.refl _ _ | with_reducible assumption | with_reducible refine Below.alloc ?_ ?_ _ | with_reducible refine Below.setCell ?_ ?_ _ | with_reducible refine Below.drew ?_ | (simp; done) | (simp; omega) | omega))⟩
        case round =>
          obtain ⟨rfl, hB2⟩ := hrel
          have hz : n - (k + 1) = 0 := by have := HNK.out; omega
          go_wp2
          go_roundw
          case rel => exact ⟨k + 1, by omega, by go_num, HN.out, HBL.out _ hB2⟩
          case measure => simp [intOf]; omega
      · have hcap2 : ¬ (k + 1 = c) := fun h => hcap h.symm
        clear hB hBw
        have hB1 := Below.refl (wo.alloc (.cells #[.int .i64 d.par, .int .i64 d.no, .int .i64 d.kind, .int .i64 d.lock, .int .i64 d.person, .int .i64 d.lo, .int .i64 d.hi, .int .i64 d.known, .int .i64 d.til] 41)).heap.size (wo.alloc (.cells #[.int .i64 d.par, .int .i64 d.no, .int .i64 d.kind, .int .i64 d.lock, .int .i64 d.person, .int .i64 d.lo, .int .i64 d.hi, .int .i64 d.known, .int .i64 d.til] 41))
        go_wp2
        go_loopw [21] (fun i wr => ∃ j : Nat, j ≤ n - (k + 1) ∧ i = .int .i64 j ∧ ((ds.drop (k + 1)).take j).find? (contraB d) = none ∧ Below (wo.alloc (.cells #[.int .i64 d.par, .int .i64 d.no, .int .i64 d.kind, .int .i64 d.lock, .int .i64 d.person, .int .i64 d.lo, .int .i64 d.hi, .int .i64 d.known, .int .i64 d.til] 41)).heap.size (wo.alloc (.cells #[.int .i64 d.par, .int .i64 d.no, .int .i64 d.kind, .int .i64 d.lock, .int .i64 d.person, .int .i64 d.lo, .int .i64 d.hi, .int .i64 d.known, .int .i64 d.til] 41)) wr) (fun i _ => (n - (k + 1)) - (intOf i).toNat)
        case atStart => exact ⟨0, by omega, rfl, rfl, hB1⟩
        case round =>
          obtain ⟨j, hj, rfl, hfj, hB2⟩ := hrel
          clear hB1
          have HFJ := Lib.hid hfj
          clear hfj
          have hs2 : wo.heap.size + 1 ≤ wr.heap.size := by have h := hB2.size; simp only [World.size_alloc] at h; omega
          have hs3 : wo.heap.size < wr.heap.size := by omega
          have hB3 : Below wo.heap.size wo wr := ((Below.refl _ _).alloc (Nat.le_refl _) _).trans (hB2.mono (by simp))
          by_cases hlj : j < n - (k + 1)
          · have hDj := (HDD.out.ext (hB3.mono (by omega : wo.heap.size ≤ wo.heap.size)) (by omega))
            obtain ⟨b', o', f, e', hb', hdj, hat'⟩ := hDj.at_ hlj
            obtain ⟨rfl, rfl⟩ : b = b' ∧ o + (k + 1) * 9 = o' := by simpa using e'
            have HJ := Lib.hid hdj
            clear hDj hdj e'
            obtain ⟨p0, p1, p2, p3, p4, p5, p6, p7, p8⟩ := hat'
            obtain ⟨q0, q1, q2, q3, q4, q5, q6, q7, q8⟩ : World.cell? wr ⟨wo.heap.size, 0, none⟩ = some (.int .i64 d.par) ∧ World.cell? wr ⟨wo.heap.size, 1, none⟩ = some (.int .i64 d.no) ∧ World.cell? wr ⟨wo.heap.size, 2, none⟩ = some (.int .i64 d.kind) ∧ World.cell? wr ⟨wo.heap.size, 3, none⟩ = some (.int .i64 d.lock) ∧ World.cell? wr ⟨wo.heap.size, 4, none⟩ = some (.int .i64 d.person) ∧ World.cell? wr ⟨wo.heap.size, 5, none⟩ = some (.int .i64 d.lo) ∧ World.cell? wr ⟨wo.heap.size, 6, none⟩ = some (.int .i64 d.hi) ∧ World.cell? wr ⟨wo.heap.size, 7, none⟩ = some (.int .i64 d.known) ∧ World.cell? wr ⟨wo.heap.size, 8, none⟩ = some (.int .i64 d.til) := by
              have h := (bcell hB2).1 wo.heap.size
              refine ⟨?_, ?_, ?_, ?_, ?_, ?_, ?_, ?_, ?_⟩ <;> (rw [h _ (by simp)]; simp)
            by_cases hct : contraB d f = true
            · have HCT := Lib.hid hct
              clear hct
              go_wp2_with (go_at_call 104; refine (p_contradict_v d f true _ HCT.out).mono ?_; rintro e w1 ⟨rfl, hb1⟩; obtain ⟨hc1, hf1⟩ := bcell hb1)
              have h5 : Below (wo.alloc (.cells #[.int .i64 d.par, .int .i64 d.no, .int .i64 d.kind, .int .i64 d.lock, .int .i64 d.person, .int .i64 d.lo, .int .i64 d.hi, .int .i64 d.known, .int .i64 d.til] 41)).heap.size (wo.alloc (.cells #[.int .i64 d.par, .int .i64 d.no, .int .i64 d.kind, .int .i64 d.lock, .int .i64 d.person, .int .i64 d.lo, .int .i64 d.hi, .int .i64 d.known, .int .i64 d.til] 41)) w1 := (hB2.alloc (by simp; omega) (.cells #[.int .i64 f.par, .int .i64 f.no, .int .i64 f.kind, .int .i64 f.lock, .int .i64 f.person, .int .i64 f.lo, .int .i64 f.hi, .int .i64 f.known, .int .i64 f.til] 41)).trans (hb1.mono (by simp; omega))
              have h6 : Below wo.heap.size wo w1 := ((Below.refl _ _).alloc (Nat.le_refl _) _).trans (h5.mono (by simp))
              obtain ⟨z1, z2, y1, y2⟩ := zero_facts (HBL.out _ h6)
              have h7 := Lib.hid (HBW.out _ h6)
              obtain ⟨d0, d1, d2, d3, d4, d5, d6, d7, d8⟩ : World.cell? w1 ⟨wo.heap.size, 0, none⟩ = some (.int .i64 d.par) ∧ World.cell? w1 ⟨wo.heap.size, 1, none⟩ = some (.int .i64 d.no) ∧ World.cell? w1 ⟨wo.heap.size, 2, none⟩ = some (.int .i64 d.kind) ∧ World.cell? w1 ⟨wo.heap.size, 3, none⟩ = some (.int .i64 d.lock) ∧ World.cell? w1 ⟨wo.heap.size, 4, none⟩ = some (.int .i64 d.person) ∧ World.cell? w1 ⟨wo.heap.size, 5, none⟩ = some (.int .i64 d.lo) ∧ World.cell? w1 ⟨wo.heap.size, 6, none⟩ = some (.int .i64 d.hi) ∧ World.cell? w1 ⟨wo.heap.size, 7, none⟩ = some (.int .i64 d.known) ∧ World.cell? w1 ⟨wo.heap.size, 8, none⟩ = some (.int .i64 d.til) := by
                have h := (bcell h5).1 wo.heap.size
                refine ⟨?_, ?_, ?_, ?_, ?_, ?_, ?_, ?_, ?_⟩ <;> (rw [h _ (by simp)]; simp)
              obtain ⟨f0, f1, f2, f3, f4, f5, f6, f7, f8⟩ : World.cell? w1 ⟨wr.heap.size, 0, none⟩ = some (.int .i64 f.par) ∧ World.cell? w1 ⟨wr.heap.size, 1, none⟩ = some (.int .i64 f.no) ∧ World.cell? w1 ⟨wr.heap.size, 2, none⟩ = some (.int .i64 f.kind) ∧ World.cell? w1 ⟨wr.heap.size, 3, none⟩ = some (.int .i64 f.lock) ∧ World.cell? w1 ⟨wr.heap.size, 4, none⟩ = some (.int .i64 f.person) ∧ World.cell? w1 ⟨wr.heap.size, 5, none⟩ = some (.int .i64 f.lo) ∧ World.cell? w1 ⟨wr.heap.size, 6, none⟩ = some (.int .i64 f.hi) ∧ World.cell? w1 ⟨wr.heap.size, 7, none⟩ = some (.int .i64 f.known) ∧ World.cell? w1 ⟨wr.heap.size, 8, none⟩ = some (.int .i64 f.til) := by
                have h := (bcell hb1).1 wr.heap.size
                refine ⟨?_, ?_, ?_, ?_, ?_, ?_, ?_, ?_, ?_⟩ <;> (rw [h _ (by simp)]; simp)
              have hcs := Lib.hid (clash_some HK.out (find_some_at HJ.out HCT.out HFJ.out) HCL.out)
              clear hb1 hc1 hf1 h5 h6 hB2 hB3 a0 a1 a2 a3 a4 a5 a6 a7 a8 p0 p1 p2 p3 p4 p5 p6 p7 p8 q0 q1 q2 q3 q4 q5 q6 q7 q8
              go_region
              all_goals
                go_wp2
                refine bodyPost_ret (v := .tuple #[.agg #[.int .i64 d.par, .int .i64 d.no, .int .i64 d.kind, .int .i64 d.lock, .int .i64 d.person, .int .i64 d.lo, .int .i64 d.hi, .int .i64 d.known, .int .i64 d.til], .agg #[.int .i64 f.par, .int .i64 f.no, .int .i64 f.kind, .int .i64 f.lock, .int .i64 f.person, .int .i64 f.lo, .int .i64 f.hi, .int .i64 f.known, .int .i64 f.til], .bool true]) (by simp [results, Tryz.results68, go_sem, z1, z2]) rfl ⟨by simp [clA, clB, clF, hcs.out], by have hBw := h7.out; (repeat' (first | with_reducible exact Below.refl _ _ | with_reducible assumption | with_reducible refine Below.alloc ?_ ?_ _ | with_reducible refine Below.setCell ?_ ?_ _ | with_reducible refine Below.drew ?_ | (simp; done) | (simp; omega) | omega))⟩
            · have hct' : contraB d f = false := by simpa using hct
              have HCT := Lib.hid hct'
              clear hct hct'
              go_wp2_with (go_at_call 104; refine (p_contradict_v d f false _ HCT.out).mono ?_; rintro e w1 ⟨rfl, hb1⟩; obtain ⟨hc1, hf1⟩ := bcell hb1)
              go_roundw
              case rel => exact ⟨j + 1, by omega, by go_num, find_none_step HJ.out HCT.out HFJ.out, by
                have h5 : Below (wo.alloc (.cells #[.int .i64 d.par, .int .i64 d.no, .int .i64 d.kind, .int .i64 d.lock, .int .i64 d.person, .int .i64 d.lo, .int .i64 d.hi, .int .i64 d.known, .int .i64 d.til] 41)).heap.size (wo.alloc (.cells #[.int .i64 d.par, .int .i64 d.no, .int .i64 d.kind, .int .i64 d.lock, .int .i64 d.person, .int .i64 d.lo, .int .i64 d.hi, .int .i64 d.known, .int .i64 d.til] 41)) (wr.alloc (.cells #[.int .i64 f.par, .int .i64 f.no, .int .i64 f.kind, .int .i64 f.lock, .int .i64 f.person, .int .i64 f.lo, .int .i64 f.hi, .int .i64 f.known, .int .i64 f.til] 41)) := hB2.alloc (by simp; omega) _
                exact h5.trans (hb1.mono h5.size)⟩
              case measure => simp [intOf]; omega
          · have hfn : (ds.drop (k + 1)).find? (contraB d) = none := by
              have h1 := HFJ.out
              rwa [List.take_of_length_le (by rw [List.length_drop, HL.out]; omega)] at h1
            have HN := Lib.hid (clash_none HK.out hfn HCL.out)
            clear hfn
            go_wp2
            go_roundw
            case rel => exact ⟨k + 1, by omega, by go_num, HN.out, HBL.out _ hB3⟩
            case measure => simp [intOf]; omega
    · have hkn : k = n := by omega
      have HKn := Lib.hid hkn
      have HCL := Lib.hid hcl
      clear hkn hcl
      obtain ⟨z1, z2, y1, y2⟩ := zero_facts hB
      have HBw := Lib.hid hBw
      clear hB hBw
      have hnone : clash ds = none := by
        have h1 := HCL.out
        rw [List.drop_eq_nil_of_le (by rw [HL.out, ← HKn.out]; omega)] at h1
        rw [← h1]
        rfl
      have HNO := Lib.hid hnone
      clear hnone
      go_wp2
      refine bodyPost_ret (v := .tuple #[.agg #[.int .i64 0, .int .i64 0, .int .i64 0, .int .i64 0, .int .i64 0, .int .i64 0, .int .i64 0, .int .i64 0, .int .i64 0], .agg #[.int .i64 0, .int .i64 0, .int .i64 0, .int .i64 0, .int .i64 0, .int .i64 0, .int .i64 0, .int .i64 0, .int .i64 0], .bool false]) (by simp [results, Tryz.results68, go_sem, z1, z2]) rfl ⟨by simp [clA, clB, clF, HNO.out, zeroD], by have hBw := HBw.out; (repeat' (first | with_reducible exact Below.refl _ _ | with_reducible assumption | with_reducible refine Below.alloc ?_ ?_ _ | with_reducible refine Below.setCell ?_ ?_ _ | with_reducible refine Below.drew ?_ | (simp; done) | (simp; omega) | omega))⟩

end Go.Proofs.YtikioiblaoimkaaGreatDoor

/- first, checkDays, even, Consistent. -/
namespace Go.Proofs.YtikioiblaoimkaaGreatDoor
open Go.RowKit

/-- A block of the call's own is read as a slice. -/
theorem Rd.new (w : World) (cs : Array Value) (t : TypeId) (size n b : Nat) (hb : w.heap.size = b) (h : cs.size = n * size) : Rd (w.alloc (.cells cs t)) (w.alloc (.cells cs t)).heap.size size (some ⟨b, 0, none⟩) n cs.toList := by
  subst hb
  refine ⟨by simpa using h, fun _ => ⟨_, 0, rfl, by simp, fun j u hu => ?_⟩⟩
  have h1 := World.news_of_block (heap_alloc_new w (.cells cs t)) j u hu
  have hadd : (⟨w.heap.size, 0, none⟩ : Addr).add j = ⟨w.heap.size, 0 + j, none⟩ := by unfold Addr.add; split <;> simp_all
  rwa [hadd] at h1

/-- A slice of numbers that is read. -/
def Is (w : World) (B : Nat) (A : Option Addr) (n : Nat) (xs : List Int) : Prop := Rd w B 1 A n (xs.map fun x => .int .i64 x)
theorem Is.len {w : World} {B n : Nat} {A : Option Addr} {xs : List Int} (h : Is w B A n xs) : xs.length = n := by
  have := h.1
  simpa using this
theorem Is.at_ {w : World} {B n : Nat} {A : Option Addr} {xs : List Int} (h : Is w B A n xs) {k : Nat} (hk : k < n) :
    ∃ b o x, A = some ⟨b, o, none⟩ ∧ b < B ∧ xs[k]? = some x ∧ w.cell? ⟨b, o + k, none⟩ = some (.int .i64 x) := by
  obtain ⟨b, o, e, hb, hc⟩ := h.2 (by omega)
  have hl := h.len
  have hx : xs[k]? = some xs[k] := List.getElem?_eq_getElem (by omega)
  exact ⟨b, o, xs[k], e, hb, hx, hc k _ (by rw [List.getElem?_map, hx]; rfl)⟩
theorem Is.ext {w w' : World} {B n : Nat} {A : Option Addr} {xs : List Int} (h : Is w B A n xs) (hb : Below w.heap.size w w') (hB : B ≤ w.heap.size) : Is w' B A n xs := Rd.ext h hb hB
theorem Is.alloc {w : World} {B n : Nat} {A : Option Addr} {xs : List Int} (h : Is w B A n xs) (hB : B ≤ w.heap.size) (o : Obj) : Is (w.alloc o) B A n xs := Rd.alloc h hB o
theorem Is.more {w : World} {B B' n : Nat} {A : Option Addr} {xs : List Int} (h : Is w B A n xs) (hB : B ≤ B') : Is w B' A n xs := Rd.more h hB

theorem p_within_v (n lo hi : Int) (v : Bool) (w : World) (h : withinB n lo hi = v) :
    Calls Tryz.prog 106 #[.int .i64 n, .int .i64 lo, .int .i64 hi] w fun e w' => e = .returned (.bool v) ∧ w = w' := h ▸ p_within n lo hi w

theorem Ds.now {w w' : World} {n : Nat} {A : Option Addr} {ds : List Deed} (h : Ds w w.heap.size A n ds) (hb : Below w.heap.size w w') : Ds w' w'.heap.size A n ds := (Ds.ext h hb (Nat.le_refl _)).more hb.size
theorem Is.now {w w' : World} {n : Nat} {A : Option Addr} {xs : List Int} (h : Is w w.heap.size A n xs) (hb : Below w.heap.size w w') : Is w' w'.heap.size A n xs := (Is.ext h hb (Nat.le_refl _)).more hb.size

def daysOk (xs : List Int) : Bool := xs.all fun x => withinB x 0 100000

theorem p_isDay_v (n : Int) (v : Bool) (w : World) (h : withinB n 0 100000 = v) :
    Calls Tryz.prog 87 #[.int .i64 n] w fun e w' => e = .returned (.bool v) ∧ w = w' := h ▸ p_isDay n w

set_option maxHeartbeats 1000000 in
theorem p_notDay (x : Int) (v : Bool) (bf : Nat) (w : World) (hb : bf < w.heap.size) (hc : w.cell? ⟨bf, 0, none⟩ = some (.func (.func 87) #[] #[])) (h : withinB x 0 100000 = v) :
    Calls Tryz.prog 119 #[.int .i64 x, .pointer (some ⟨bf, 0, none⟩)] w fun e w' => e = .returned (.bool (!v)) ∧ w = w' := by
  go_enter Tryz.func119, Tryz.ntmps119
  go_wp2_with (go_at_call 87; refine (p_isDay_v _ _ _ h).mono ?_; rintro e w1 ⟨rfl, rfl⟩)
  go_ret
  exact ⟨rfl, rfl⟩

set_option maxHeartbeats 1000000 in
theorem l_indexDays (xs : List Int) (bf : Nat) (A : Option Addr) (n c : Nat) (w : World) (hn : n ≤ 1000) (hb0 : bf < w.heap.size) (hc0 : w.cell? ⟨bf, 0, none⟩ = some (.func (.func 87) #[] #[])) (h : Is w w.heap.size A n xs) :
    Calls Tryz.prog 142 #[.slice A n c, .func (.func 119) #[] #[.pointer (some ⟨bf, 0, none⟩)]] w fun e w' => (∃ r : Int, e = .returned (.int .i64 r) ∧ decide (0 ≤ r) = !daysOk xs) ∧ w = w' := by
  have HI := Lib.hid h
  have HL := Lib.hid h.len
  clear h
  go_enter Tryz.func142, Tryz.ntmps142
  go_wp2
  go_loop [8] (fun i => ∃ k : Nat, k ≤ n ∧ i = .int .i64 k ∧ daysOk (xs.take k) = true) (fun i => n - (intOf i).toNat)
  case atStart => exact ⟨0, by omega, rfl, rfl⟩
  case round =>
    obtain ⟨k, hk, rfl, ho⟩ := hrel
    have HO := Lib.hid ho
    clear ho
    by_cases hlt : k < n
    · obtain ⟨b, o, x, rfl, hb, hx, hc⟩ := HI.out.at_ hlt
      have HX := Lib.hid hx
      clear hx
      by_cases hw : withinB x 0 100000 = true
      · have h1 : daysOk (xs.take (k + 1)) = true := by
          have := HO.out
          rw [daysOk, take_snoc_some HX.out, List.all_append]
          rw [daysOk] at this
          simp [this, hw]
        have H1 := Lib.hid h1
        clear h1
        go_wp2_with (go_at_call 119; refine (p_notDay _ true _ _ hb0 hc0 hw).mono ?_; rintro e w1 ⟨rfl, rfl⟩)
        go_round
        case rel => exact ⟨k + 1, by omega, by go_num, H1.out⟩
        case measure => simp [intOf]; omega
      · have hw' : withinB x 0 100000 = false := by simpa using hw
        have h1 : daysOk xs = false := by
          rw [daysOk, List.all_eq_false]
          exact ⟨x, List.mem_of_getElem? HX.out, by simp [hw']⟩
        have H1 := Lib.hid h1
        clear h1
        go_wp2_with (go_at_call 119; refine (p_notDay _ false _ _ hb0 hc0 hw').mono ?_; rintro e w1 ⟨rfl, rfl⟩)
        go_ret
        exact ⟨⟨k, rfl, by rw [H1.out]; simp⟩, rfl⟩
    · have h1 : daysOk xs = true := by
        have := HO.out
        rwa [List.take_of_length_le (by rw [HL.out]; omega)] at this
      have H1 := Lib.hid h1
      clear h1
      go_wp2
      go_ret
      exact ⟨⟨-1, rfl, by rw [H1.out]; rfl⟩, rfl⟩

set_option maxHeartbeats 1000000 in
theorem l_containsDays (xs : List Int) (bf : Nat) (A : Option Addr) (n c : Nat) (w : World) (hn : n ≤ 1000) (hb0 : bf < w.heap.size) (hc0 : w.cell? ⟨bf, 0, none⟩ = some (.func (.func 87) #[] #[])) (h : Is w w.heap.size A n xs) :
    Calls Tryz.prog 118 #[.slice A n c, .func (.func 119) #[] #[.pointer (some ⟨bf, 0, none⟩)]] w fun e w' => e = .returned (.bool (!daysOk xs)) ∧ w = w' := by
  have HI := Lib.hid h
  clear h
  go_enter Tryz.func118, Tryz.ntmps118
  go_wp2_with (go_at_call 142; refine (l_indexDays xs _ _ _ _ _ hn hb0 hc0 HI.out).mono ?_; rintro e w1 ⟨⟨r, rfl, hr⟩, rfl⟩)
  go_ret
  exact ⟨ret_bool (by rw [← hr]), rfl⟩

set_option maxHeartbeats 1000000 in
theorem l_areDays (xs : List Int) (A : Option Addr) (n c : Nat) (w : World) (hn : n ≤ 1000) (h : Is w w.heap.size A n xs) :
    Calls Tryz.prog 86 #[.slice A n c, .func (.func 87) #[] #[]] w fun e w' => e = .returned (.bool (daysOk xs)) ∧ Below w.heap.size w w' := by
  have HI := Lib.hid h
  clear h
  go_enter Tryz.func86, Tryz.ntmps86
  go_wp2_with (go_at_call 118; refine (l_containsDays xs w.heap.size _ _ _ _ hn (by simp) (by simp [go_sem]) (HI.out.now (by (repeat' (first | with_reducible exact Below.refl _ _ | with_reducible assumption | with_reducible refine Below.alloc ?_ ?_ _ | with_reducible refine Below.setCell ?_ ?_ _ | with_reducible refine Below.drew ?_ | (simp; done) | (simp; omega) | omega))))).mono ?_; rintro e w1 ⟨rfl, rfl⟩)
  go_ret
  exact ⟨ret_bool (by simp), by (repeat' (first | with_reducible exact Below.refl _ _ | with_reducible assumption | with_reducible refine Below.alloc ?_ ?_ _ | with_reducible refine Below.setCell ?_ ?_ _ | with_reducible refine Below.drew ?_ | (simp; done) | (simp; omega) | omega))⟩

set_option maxHeartbeats 1000000 in
theorem p_checkDays (xs : List Int) (A : Option Addr) (n c : Nat) (w : World) (hn : n ≤ 1000) (h : Is w w.heap.size A n xs) :
    Calls Tryz.prog 48 #[.slice A n c] w fun e w' => e = .returned (.int .i64 (errI (daysOk xs) 6)) ∧ Below w.heap.size w w' := by
  have HI := Lib.hid h
  clear h
  go_enter Tryz.func48, Tryz.ntmps48
  go_wp2_with (first | (go_at_call 86; refine (l_areDays xs _ _ _ _ hn HI.out).mono ?_; rintro e w1 ⟨rfl, hb1⟩; obtain ⟨hc1, hf1⟩ := bcell hb1; have HB1 : Below w.heap.size w w1 := Below.then_ (by (repeat' (first | with_reducible exact Below.refl _ _ | with_reducible assumption | with_reducible refine Below.alloc ?_ ?_ _ | with_reducible refine Below.setCell ?_ ?_ _ | with_reducible refine Below.drew ?_ | (simp; done) | (simp; omega) | omega))) hb1; have hs1 := HB1.size) | (go_at_call 69; refine (p_verdict _ _ _).mono ?_; rintro e w1 ⟨rfl, rfl⟩))
  go_ret
  exact ⟨rfl, by (repeat' (first | with_reducible exact Below.refl _ _ | with_reducible assumption | with_reducible refine Below.alloc ?_ ?_ _ | with_reducible refine Below.setCell ?_ ?_ _ | with_reducible refine Below.drew ?_ | (simp; done) | (simp; omega) | omega))⟩

set_option maxHeartbeats 1000000 in
theorem l_or_errno (xs : List Int) (A : Option Addr) (n c : Nat) (w : World) (hn : n ≤ 1000) (h : Is w w.heap.size A n xs) :
    Calls Tryz.prog 85 #[.slice A n c] w fun e w' => e = .returned (.int .i64 (orL xs)) ∧ w = w' := by
  have HI := Lib.hid h
  have HL := Lib.hid h.len
  clear h
  go_enter Tryz.func85, Tryz.ntmps85
  go_wp2
  go_loop [8] (fun i => ∃ k : Nat, k ≤ n ∧ i = .int .i64 k ∧ orL (xs.drop k) = orL xs) (fun i => n - (intOf i).toNat)
  case atStart => exact ⟨0, by omega, rfl, rfl⟩
  case round =>
    obtain ⟨k, hk, rfl, ho⟩ := hrel
    have HO := Lib.hid ho
    clear ho
    by_cases hlt : k < n
    · obtain ⟨b, o, x, rfl, hb, hx, hc⟩ := HI.out.at_ hlt
      have hd : xs.drop k = x :: xs.drop (k + 1) := by
        have hk : k < xs.length := (List.getElem?_eq_some_iff.1 hx).1
        rw [List.drop_eq_getElem_cons hk, (List.getElem?_eq_some_iff.1 hx).2]
      have hq : orL xs = if x = 0 then orL (xs.drop (k + 1)) else x := by rw [← HO.out, hd]; rfl
      have HQ := Lib.hid hq
      clear hq hd hx
      go_wp2
      · have hx : ¬ x = 0 := by simpa using ‹(x != 0) = true›
        go_ret
        exact ⟨ret_int (by rw [HQ.out, if_neg hx]), rfl⟩
      · have hx : x = 0 := by simpa using ‹(x != 0) = false›
        go_round
        case rel => exact ⟨k + 1, by omega, by go_num, by rw [HQ.out, if_pos hx]⟩
        case measure => simp [intOf]; omega
    · have h1 : orL xs = 0 := by
        rw [← HO.out, List.drop_eq_nil_of_le (by rw [HL.out]; omega)]
        rfl
      have H1 := Lib.hid h1
      clear h1
      go_wp2
      go_ret
      exact ⟨ret_int (by rw [H1.out]), rfl⟩

set_option maxHeartbeats 1000000 in
theorem p_first (xs : List Int) (v : Int) (A : Option Addr) (n c : Nat) (w : World) (hn : n ≤ 1000) (h : Is w w.heap.size A n xs) (hv : orL xs = v) :
    Calls Tryz.prog 47 #[.slice A n c] w fun e w' => e = .returned (.int .i64 v) ∧ w = w' := by
  subst hv
  have HI := Lib.hid h
  clear h
  go_enter Tryz.func47, Tryz.ntmps47
  go_wp2_with (go_at_call 85; refine (l_or_errno xs _ _ _ _ hn HI.out).mono ?_; rintro e w1 ⟨rfl, rfl⟩)
  go_ret
  exact ⟨rfl, rfl⟩

theorem or2_ne {a b : Bool} {v : Int} (h : orL [errI a 11, errI b 6] = v) (hv : ¬ v = 0) : (a && b) = false := by
  subst h
  cases a <;> cases b <;> simp_all [orL, errI]
theorem or2_eq {a b : Bool} (h : orL [errI a 11, errI b 6] = 0) : a = true ∧ b = true := by
  cases a <;> cases b <;> simp_all [orL, errI]
theorem check_60 {ds : List Deed} (h : checkB ds = true) : ds.length ≤ 60 := by
  simp only [checkB, Bool.and_eq_true, decide_eq_true_eq] at h
  exact h.1

end Go.Proofs.YtikioiblaoimkaaGreatDoor

/- Conflict, even. -/
namespace Go.Proofs.YtikioiblaoimkaaGreatDoor
open Go.RowKit

/-- A slice of items that is read. -/
def itemCells (l : List (Int × Int)) : List Value := l.flatMap fun p => [.int .i64 p.1, .int .i64 p.2]
def Its (w : World) (B : Nat) (A : Option Addr) (n : Nat) (l : List (Int × Int)) : Prop := Rd w B 2 A n (itemCells l)
def RetIts (l : List (Int × Int)) (err : Int) (w : World) (e : Ending) (w' : World) : Prop :=
  ∃ A c, e = .returned (.tuple #[.slice A l.length c, .int .i64 err]) ∧ Below w.heap.size w w' ∧ Its w' w'.heap.size A l.length l ∧ l.length ≤ c
def cfIts (ds : List Deed) : List (Int × Int) := match clash ds with
  | some (a, b) => [(a.par, a.no), (b.par, b.no)]
  | none => []
def cfErr (v : Int) (ds : List Deed) : Int := if v = 0 then (if clF ds then 0 else 14) else v
def cfRes (v : Int) (ds : List Deed) : List (Int × Int) := if v = 0 then cfIts ds else []

theorem p_conflict_t (v : Bool) (ds : List Deed) (A : Option Addr) (n c : Nat) (w : World) (hn : n ≤ 1000000) (hnc : n ≤ c) (hd : Ds w w.heap.size A n ds) (hv : clF ds = v) :
    Calls Tryz.prog 68 #[.slice A n c] w fun e w' => e = .returned (.tuple #[.agg #[.int .i64 (clA ds).par, .int .i64 (clA ds).no, .int .i64 (clA ds).kind, .int .i64 (clA ds).lock, .int .i64 (clA ds).person, .int .i64 (clA ds).lo, .int .i64 (clA ds).hi, .int .i64 (clA ds).known, .int .i64 (clA ds).til], .agg #[.int .i64 (clB ds).par, .int .i64 (clB ds).no, .int .i64 (clB ds).kind, .int .i64 (clB ds).lock, .int .i64 (clB ds).person, .int .i64 (clB ds).lo, .int .i64 (clB ds).hi, .int .i64 (clB ds).known, .int .i64 (clB ds).til], .bool v]) ∧ Below w.heap.size w w' := hv ▸ p_conflict ds A n c w hn hnc hd

set_option maxRecDepth 100000 in
set_option maxHeartbeats 2000000 in
theorem p_Conflict (ds : List Deed) (kn : Int) (A : Option Addr) (n c : Nat) (w : World) (hn : n ≤ 9223372036854775807) (hnc : n ≤ c) (hd : Ds w w.heap.size A n ds) :
    Calls Tryz.prog 30 #[.slice A n c, .int .i64 kn] w (RetIts (cfRes (orL [errI (checkB ds) 11, errI (daysOk [kn]) 6]) (cntDs kn ds)) (cfErr (orL [errI (checkB ds) 11, errI (daysOk [kn]) 6]) (cntDs kn ds)) w) := by
  have HD := Lib.hid hd
  have HL := Lib.hid hd.len
  clear hd
  have hor : ∃ v, orL [errI (checkB ds) 11, errI (daysOk [kn]) 6] = v := ⟨_, rfl⟩
  obtain ⟨v, hv⟩ := hor
  have HV := Lib.hid hv
  clear hv
  by_cases hv0 : v = 0
  · subst hv0
    have H60 := Lib.hid (check_60 (or2_eq HV.out).1)
    have h60 : n ≤ 60 := by have := H60.out; have := HL.out; omega
    have HC60 : Hid ((cntDs kn ds).length ≤ 1000000) := by show _ ≤ _; have := cntDs_len kn ds; have := H60.out; omega
    by_cases hf : clF (cntDs kn ds) = true
    · have HF := Lib.hid hf
      clear hf
      obtain ⟨x, hx⟩ : ∃ x, clash (cntDs kn ds) = some x := by have := HF.out; rw [clF, Option.isSome_iff_exists] at this; exact this
      have HX := Lib.hid hx
      have HXA : Hid (clA (cntDs kn ds) = x.1) := by show _ = _; simp [clA, hx]
      have HXB : Hid (clB (cntDs kn ds) = x.2) := by show _ = _; simp [clB, hx]
      clear hx
      go_enter Tryz.func30, Tryz.ntmps30
      go_wp2_with (first | (go_at_call 10; refine (p_check ds _ _ _ _ hn HD.out).mono ?_; rintro e w1 ⟨rfl, hb1⟩; obtain ⟨hc1, hf1⟩ := bcell hb1; have HB1 : Below w.heap.size w w1 := Below.then_ (by (repeat' (first | with_reducible exact Below.refl _ _ | with_reducible assumption | with_reducible refine Below.alloc ?_ ?_ _ | with_reducible refine Below.setCell ?_ ?_ _ | with_reducible refine Below.drew ?_ | (simp; done) | (simp; omega) | omega))) hb1; have hs1 := HB1.size) | (go_at_call 48; refine (p_checkDays [kn] _ 1 1 _ (by decide) (Rd.new _ #[.int .i64 kn] _ 1 1 _ (by simp) rfl)).mono ?_; rintro e w1 ⟨rfl, hb1⟩; obtain ⟨hc1, hf1⟩ := bcell hb1; have HB1 : Below w.heap.size w w1 := Below.then_ (by (repeat' (first | with_reducible exact Below.refl _ _ | with_reducible assumption | with_reducible refine Below.alloc ?_ ?_ _ | with_reducible refine Below.setCell ?_ ?_ _ | with_reducible refine Below.drew ?_ | (simp; done) | (simp; omega) | omega))) hb1; have hs1 := HB1.size) | (go_at_call 47; refine (p_first [errI (checkB ds) 11, errI (daysOk [kn]) 6] 0 _ 2 2 _ (by decide) (Rd.new _ #[.int .i64 (errI (checkB ds) 11), .int .i64 (errI (daysOk [kn]) 6)] _ 1 2 _ (by simp) rfl) HV.out).mono ?_; rintro e w1 ⟨rfl, rfl⟩) | (go_at_call 50; refine (p_counting ds kn _ _ _ _ (by omega) (Ds.now HD.out (by (repeat' (first | with_reducible exact Below.refl _ _ | with_reducible assumption | with_reducible refine Below.alloc ?_ ?_ _ | with_reducible refine Below.setCell ?_ ?_ _ | with_reducible refine Below.drew ?_ | (simp; done) | (simp; omega) | omega))))).mono ?_; rintro e w1 ⟨A1, c1, rfl, hb1, hd1, hcc, hmm⟩; have HB2 : Below w.heap.size w w1 := Below.then_ (by (repeat' (first | with_reducible exact Below.refl _ _ | with_reducible assumption | with_reducible refine Below.alloc ?_ ?_ _ | with_reducible refine Below.setCell ?_ ?_ _ | with_reducible refine Below.drew ?_ | (simp; done) | (simp; omega) | omega))) hb1; have hs2 := HB2.size) | (go_at_call 68; refine (p_conflict_t true (cntDs kn ds) _ _ _ _ HC60.out hcc hd1 HF.out).mono ?_; rintro e w3 ⟨rfl, hb3⟩; obtain ⟨hc3, hf3⟩ := bcell hb3; have HB3 : Below w.heap.size w w3 := Below.then_ HB2 hb3; have hs3 := HB3.size))
      go_ret2
      have h1 : cfRes (orL [errI (checkB ds) 11, errI (daysOk [kn]) 6]) (cntDs kn ds) = [((clA (cntDs kn ds)).par, (clA (cntDs kn ds)).no), ((clB (cntDs kn ds)).par, (clB (cntDs kn ds)).no)] := by
        rw [HV.out, cfRes, if_pos rfl, cfIts, HX.out, HXA.out, HXB.out]
      have h2 : cfErr (orL [errI (checkB ds) 11, errI (daysOk [kn]) 6]) (cntDs kn ds) = 0 := by
        rw [HV.out, cfErr, if_pos rfl, HF.out, if_pos rfl]
      rw [h1, h2]
      refine ⟨_, 2, rfl, by (repeat' (first | with_reducible exact Below.refl _ _ | with_reducible assumption | with_reducible refine Below.alloc ?_ ?_ _ | with_reducible refine Below.setCell ?_ ?_ _ | with_reducible refine Below.drew ?_ | (simp; done) | (simp; omega) | omega)), Rd.new _ #[_, _, _, _] _ 2 2 _ (by simp) rfl, Nat.le_refl _⟩
    · have HF : Hid (clF (cntDs kn ds) = false) := by show _ = _; simpa using hf
      clear hf
      go_enter Tryz.func30, Tryz.ntmps30
      go_wp2_with (first | (go_at_call 10; refine (p_check ds _ _ _ _ hn HD.out).mono ?_; rintro e w1 ⟨rfl, hb1⟩; obtain ⟨hc1, hf1⟩ := bcell hb1; have HB1 : Below w.heap.size w w1 := Below.then_ (by (repeat' (first | with_reducible exact Below.refl _ _ | with_reducible assumption | with_reducible refine Below.alloc ?_ ?_ _ | with_reducible refine Below.setCell ?_ ?_ _ | with_reducible refine Below.drew ?_ | (simp; done) | (simp; omega) | omega))) hb1; have hs1 := HB1.size) | (go_at_call 48; refine (p_checkDays [kn] _ 1 1 _ (by decide) (Rd.new _ #[.int .i64 kn] _ 1 1 _ (by simp) rfl)).mono ?_; rintro e w1 ⟨rfl, hb1⟩; obtain ⟨hc1, hf1⟩ := bcell hb1; have HB1 : Below w.heap.size w w1 := Below.then_ (by (repeat' (first | with_reducible exact Below.refl _ _ | with_reducible assumption | with_reducible refine Below.alloc ?_ ?_ _ | with_reducible refine Below.setCell ?_ ?_ _ | with_reducible refine Below.drew ?_ | (simp; done) | (simp; omega) | omega))) hb1; have hs1 := HB1.size) | (go_at_call 47; refine (p_first [errI (checkB ds) 11, errI (daysOk [kn]) 6] 0 _ 2 2 _ (by decide) (Rd.new _ #[.int .i64 (errI (checkB ds) 11), .int .i64 (errI (daysOk [kn]) 6)] _ 1 2 _ (by simp) rfl) HV.out).mono ?_; rintro e w1 ⟨rfl, rfl⟩) | (go_at_call 50; refine (p_counting ds kn _ _ _ _ (by omega) (Ds.now HD.out (by (repeat' (first | with_reducible exact Below.refl _ _ | with_reducible assumption | with_reducible refine Below.alloc ?_ ?_ _ | with_reducible refine Below.setCell ?_ ?_ _ | with_reducible refine Below.drew ?_ | (simp; done) | (simp; omega) | omega))))).mono ?_; rintro e w1 ⟨A1, c1, rfl, hb1, hd1, hcc, hmm⟩; have HB2 : Below w.heap.size w w1 := Below.then_ (by (repeat' (first | with_reducible exact Below.refl _ _ | with_reducible assumption | with_reducible refine Below.alloc ?_ ?_ _ | with_reducible refine Below.setCell ?_ ?_ _ | with_reducible refine Below.drew ?_ | (simp; done) | (simp; omega) | omega))) hb1; have hs2 := HB2.size) | (go_at_call 68; refine (p_conflict_t false (cntDs kn ds) _ _ _ _ HC60.out hcc hd1 HF.out).mono ?_; rintro e w3 ⟨rfl, hb3⟩; obtain ⟨hc3, hf3⟩ := bcell hb3; have HB3 : Below w.heap.size w w3 := Below.then_ HB2 hb3; have hs3 := HB3.size))
      go_ret2
      have h0 : clash (cntDs kn ds) = none := by have := HF.out; simpa [clF] using this
      have h1 : cfRes (orL [errI (checkB ds) 11, errI (daysOk [kn]) 6]) (cntDs kn ds) = [] := by
        rw [HV.out, cfRes, if_pos rfl, cfIts, h0]
      have h2 : cfErr (orL [errI (checkB ds) 11, errI (daysOk [kn]) 6]) (cntDs kn ds) = 14 := by
        rw [HV.out, cfErr, if_pos rfl, HF.out]
        rfl
      rw [h1, h2]
      exact ⟨none, 0, rfl, by (repeat' (first | with_reducible exact Below.refl _ _ | with_reducible assumption | with_reducible refine Below.alloc ?_ ?_ _ | with_reducible refine Below.setCell ?_ ?_ _ | with_reducible refine Below.drew ?_ | (simp; done) | (simp; omega) | omega)), Rd.nil_, Nat.le_refl _⟩
  · have hv1 : (v != 0) = true := by simpa using hv0
    have HV0 := Lib.hid hv0
    clear hv0
    go_enter Tryz.func30, Tryz.ntmps30
    go_wp2_with (first | (go_at_call 10; refine (p_check ds _ _ _ _ hn HD.out).mono ?_; rintro e w1 ⟨rfl, hb1⟩; obtain ⟨hc1, hf1⟩ := bcell hb1; have HB1 : Below w.heap.size w w1 := Below.then_ (by (repeat' (first | with_reducible exact Below.refl _ _ | with_reducible assumption | with_reducible refine Below.alloc ?_ ?_ _ | with_reducible refine Below.setCell ?_ ?_ _ | with_reducible refine Below.drew ?_ | (simp; done) | (simp; omega) | omega))) hb1; have hs1 := HB1.size) | (go_at_call 48; refine (p_checkDays [kn] _ 1 1 _ (by decide) (Rd.new _ #[.int .i64 kn] _ 1 1 _ (by simp) rfl)).mono ?_; rintro e w1 ⟨rfl, hb1⟩; obtain ⟨hc1, hf1⟩ := bcell hb1; have HB1 : Below w.heap.size w w1 := Below.then_ (by (repeat' (first | with_reducible exact Below.refl _ _ | with_reducible assumption | with_reducible refine Below.alloc ?_ ?_ _ | with_reducible refine Below.setCell ?_ ?_ _ | with_reducible refine Below.drew ?_ | (simp; done) | (simp; omega) | omega))) hb1; have hs1 := HB1.size) | (go_at_call 47; refine (p_first [errI (checkB ds) 11, errI (daysOk [kn]) 6] v _ 2 2 _ (by decide) (Rd.new _ #[.int .i64 (errI (checkB ds) 11), .int .i64 (errI (daysOk [kn]) 6)] _ 1 2 _ (by simp) rfl) HV.out).mono ?_; rintro e w1 ⟨rfl, rfl⟩))
    go_ret2
    have h1 : cfRes (orL [errI (checkB ds) 11, errI (daysOk [kn]) 6]) (cntDs kn ds) = [] := by
      rw [HV.out, cfRes, if_neg HV0.out]
    have h2 : cfErr (orL [errI (checkB ds) 11, errI (daysOk [kn]) 6]) (cntDs kn ds) = v := by
      rw [HV.out, cfErr, if_neg HV0.out]
    rw [h1, h2]
    exact ⟨none, 0, rfl, by (repeat' (first | with_reducible exact Below.refl _ _ | with_reducible assumption | with_reducible refine Below.alloc ?_ ?_ _ | with_reducible refine Below.setCell ?_ ?_ _ | with_reducible refine Below.drew ?_ | (simp; done) | (simp; omega) | omega)), Rd.nil_, Nat.le_refl _⟩

end Go.Proofs.YtikioiblaoimkaaGreatDoor

/- CheckConflict, even. -/
namespace Go.Proofs.YtikioiblaoimkaaGreatDoor
open Go.RowKit

theorem itemCells_length (l : List (Int × Int)) : (itemCells l).length = l.length * 2 := by
  induction l with
  | nil => rfl
  | cons d ds ih => simp only [itemCells, List.flatMap_cons, List.length_append, List.length_cons] at *; simp only [ih, List.length_nil]; omega
theorem Its.len {w : World} {B n : Nat} {A : Option Addr} {l : List (Int × Int)} (h : Its w B A n l) : l.length = n := by
  have := h.1
  rw [itemCells_length] at this
  omega
theorem Its.now {w w' : World} {n : Nat} {A : Option Addr} {l : List (Int × Int)} (h : Its w w.heap.size A n l) (hb : Below w.heap.size w w') : Its w' w'.heap.size A n l := (Rd.ext h hb (Nat.le_refl _)).more hb.size
theorem Its.two {w : World} {B : Nat} {A : Option Addr} {p q r s : Int} (h : Its w B A 2 [(p, q), (r, s)]) :
    ∃ b o, A = some ⟨b, o, none⟩ ∧ b < B ∧ w.cell? ⟨b, o, none⟩ = some (.int .i64 p) ∧ w.cell? ⟨b, o + 1, none⟩ = some (.int .i64 q) ∧ w.cell? ⟨b, o + 2, none⟩ = some (.int .i64 r) ∧ w.cell? ⟨b, o + 3, none⟩ = some (.int .i64 s) := by
  obtain ⟨b, o, e, hb, hc⟩ := h.2 (by omega)
  exact ⟨b, o, e, hb, hc 0 _ rfl, hc 1 _ rfl, hc 2 _ rfl, hc 3 _ rfl⟩

theorem Ds.grow {w : World} {n : Nat} {A : Option Addr} {ds : List Deed} (h : Ds w w.heap.size A n ds) (g : Grow w) : Ds g.1 g.1.heap.size A n ds := Ds.now h g.2
theorem Ds.get {w : World} {B n b o : Nat} {ds : List Deed} (h : Ds w B (some ⟨b, o, none⟩) n ds) {k : Nat} (hk : k < n) : ∃ d, ds[k]? = some d ∧ DeedAt w b (o + k * 9) d := by
  obtain ⟨b', o', d, e, _, hd, hat⟩ := h.at_ hk
  obtain ⟨rfl, rfl⟩ : b = b' ∧ o = o' := by simpa using e
  exact ⟨d, hd, hat⟩

def ccB (c : List Deed) (l : List (Int × Int)) : Bool := match l with
  | [x, y] => match c[findN x.1 x.2 c]?, c[findN y.1 y.2 c]? with
    | some a, some b => decide (findN x.1 x.2 c < findN y.1 y.2 c) && contraB a b
    | _, _ => false
  | _ => false
def ccErr (v : Int) (c : List Deed) (l : List (Int × Int)) : Int := if v = 0 then errI (ccB c l) 14 else v

theorem p_find_none (ds : List Deed) (p q : Int) (A : Option Addr) (n c : Nat) (w : World) (hn : n ≤ 1000000) (hd : Ds w w.heap.size A n ds) (h : ¬ findN p q ds < ds.length) :
    Calls Tryz.prog 49 #[.slice A n c, .agg #[.int .i64 p, .int .i64 q]] w fun e w' => e = .returned (.int .i64 (-1)) ∧ Below w.heap.size w w' := by
  have := p_find ds p q A n c w (by omega) hd
  rwa [findI, if_neg h] at this
theorem p_find_some (ds : List Deed) (p q : Int) (i : Nat) (A : Option Addr) (n c : Nat) (w : World) (hn : n ≤ 1000000) (hd : Ds w w.heap.size A n ds) (h : findN p q ds = i) (hi : i < ds.length) :
    Calls Tryz.prog 49 #[.slice A n c, .agg #[.int .i64 p, .int .i64 q]] w fun e w' => e = .returned (.int .i64 i) ∧ Below w.heap.size w w' := by
  have := p_find ds p q A n c w (by omega) hd
  rwa [findI, h, if_pos hi] at this

end Go.Proofs.YtikioiblaoimkaaGreatDoor

/- even. -/
namespace Go.Proofs.YtikioiblaoimkaaGreatDoor
open Go.RowKit

/-- A result that is a slice of deeds, and an error. -/
def RetDs2 (ds : List Deed) (err : Int) (w : World) (e : Ending) (w' : World) : Prop :=
  ∃ A c, e = .returned (.tuple #[.slice A ds.length c, .int .i64 err]) ∧ Below w.heap.size w w' ∧ Ds w' w'.heap.size A ds.length ds ∧ ds.length ≤ c ∧ c ≤ maxLen
def evDs (kn : Int) (ds : List Deed) : List Deed := if clF (cntDs kn ds) then [] else cntDs kn ds
def evErr (kn : Int) (ds : List Deed) : Int := if clF (cntDs kn ds) then 13 else 0

set_option maxRecDepth 100000 in
set_option maxHeartbeats 2000000 in
theorem p_even (ds : List Deed) (kn : Int) (A : Option Addr) (n c : Nat) (w : World) (hn : n ≤ 1000000) (hd : Ds w w.heap.size A n ds) :
    Calls Tryz.prog 51 #[.slice A n c, .int .i64 kn] w (RetDs2 (evDs kn ds) (evErr kn ds) w) := by
  have HC60 : Hid ((cntDs kn ds).length ≤ 1000000) := by show _ ≤ _; have := cntDs_len kn ds; have := hd.len; omega
  by_cases hf : clF (cntDs kn ds) = true
  · have HF := Lib.hid hf
    clear hf
    go_enter Tryz.func51, Tryz.ntmps51
    go_wp2_with (first | (go_at_call 50; refine (p_counting ds kn _ _ _ _ hn hd).mono ?_; rintro e w1 ⟨A1, c1, rfl, hb1, hd1, hcc, hmm⟩) | (go_at_call 68; refine (p_conflict_t true (cntDs kn ds) _ _ _ _ HC60.out hcc hd1 HF.out).mono ?_; rintro e w3 ⟨rfl, hb3⟩; obtain ⟨hc3, hf3⟩ := bcell hb3; have HB3 : Below w.heap.size w w3 := Below.then_ hb1 hb3; have hs3 := HB3.size))
    go_ret2
    have h1 : evDs kn ds = [] := by rw [evDs, if_pos HF.out]
    have h2 : evErr kn ds = 13 := by rw [evErr, if_pos HF.out]
    rw [h1, h2]
    exact ⟨none, 0, rfl, by (repeat' (first | with_reducible exact Below.refl _ _ | with_reducible assumption | with_reducible refine Below.alloc ?_ ?_ _ | with_reducible refine Below.setCell ?_ ?_ _ | with_reducible refine Below.drew ?_ | (simp; done) | (simp; omega) | omega)), Rd.nil_, Nat.le_refl _, Nat.zero_le _⟩
  · have HF : Hid (clF (cntDs kn ds) = false) := by show _ = _; simpa using hf
    clear hf
    go_enter Tryz.func51, Tryz.ntmps51
    go_wp2_with (first | (go_at_call 50; refine (p_counting ds kn _ _ _ _ hn hd).mono ?_; rintro e w1 ⟨A1, c1, rfl, hb1, hd1, hcc, hmm⟩) | (go_at_call 68; refine (p_conflict_t false (cntDs kn ds) _ _ _ _ HC60.out hcc hd1 HF.out).mono ?_; rintro e w3 ⟨rfl, hb3⟩; obtain ⟨hc3, hf3⟩ := bcell hb3; have HB3 : Below w.heap.size w w3 := Below.then_ hb1 hb3; have hs3 := HB3.size))
    go_ret2
    have h1 : evDs kn ds = cntDs kn ds := by rw [evDs, if_neg (by rw [HF.out]; simp)]
    have h2 : evErr kn ds = 0 := by rw [evErr, if_neg (by rw [HF.out]; simp)]
    rw [h1, h2]
    refine ⟨_, _, rfl, by (repeat' (first | with_reducible exact Below.refl _ _ | with_reducible assumption | with_reducible refine Below.alloc ?_ ?_ _ | with_reducible refine Below.setCell ?_ ?_ _ | with_reducible refine Below.drew ?_ | (simp; done) | (simp; omega) | omega)), ?_, hcc, hmm⟩
    have h3 : Below w1.heap.size w1 w3 := hb3
    have h4 := hd1.now h3
    exact h4.now (by (repeat' (first | with_reducible exact Below.refl _ _ | with_reducible assumption | with_reducible refine Below.alloc ?_ ?_ _ | with_reducible refine Below.setCell ?_ ?_ _ | with_reducible refine Below.drew ?_ | (simp; done) | (simp; omega) | omega)))

end Go.Proofs.YtikioiblaoimkaaGreatDoor

/- Threads: the states behind deeds, the earliest and the latest day, whether just the first n deeds may have happened. -/
namespace Go.Proofs.YtikioiblaoimkaaGreatDoor
open Go.RowKit

structure St where
  holder : Int
  hand : Int
  office : Bool
deriving DecidableEq
def St.zero : St := ⟨0, 0, false⟩
/-- What a deed of a kind makes of a state. -/
def stepSt (s : St) (d : Deed) : St :=
  if d.kind = 1 then { s with office := true }
  else if d.kind = 2 then { s with office := false }
  else if d.kind = 3 then { s with holder := d.person, hand := d.person }
  else if d.kind = 4 then (if s.holder = 0 then s else { s with hand := d.person })
  else if d.kind = 5 then { s with hand := s.holder }
  else { s with holder := 0, hand := 0 }
def runSt (ds : List Deed) : St := ds.foldl stepSt St.zero

def stCells (l : List St) : List Value := l.flatMap fun s => [.int .i64 s.holder, .int .i64 s.hand, .bool s.office]
theorem stCells_length (l : List St) : (stCells l).length = l.length * 3 := by
  induction l with
  | nil => rfl
  | cons d ds ih => simp only [stCells, List.flatMap_cons, List.length_append, List.length_cons] at *; simp only [ih, List.length_nil]; omega
theorem stCells_cons (s : St) (l : List St) : stCells (s :: l) = [.int .i64 s.holder, .int .i64 s.hand, .bool s.office] ++ stCells l := rfl
theorem stCells_append (a b : List St) : stCells (a ++ b) = stCells a ++ stCells b := by simp [stCells]
theorem stCells_get (l : List St) (k j : Nat) (s : St) (hd : l[k]? = some s) (hj : j < 3) :
    (stCells l)[k * 3 + j]? = [Value.int .i64 s.holder, .int .i64 s.hand, .bool s.office][j]? := by
  induction l generalizing k with
  | nil => simp at hd
  | cons a ds ih =>
    cases k with
    | zero =>
      simp only [List.getElem?_cons_zero, Option.some.injEq] at hd
      subst hd
      rw [stCells_cons, List.getElem?_append_left (by simp; omega)]
      simp
    | succ k =>
      rw [stCells_cons, List.getElem?_append_right (by simp; omega)]
      rw [show (k + 1) * 3 + j - [Value.int .i64 a.holder, .int .i64 a.hand, .bool a.office].length = k * 3 + j from by simp; omega]
      exact ih k (by simpa using hd)
/-- A slice of states that is read. -/
def Ss (w : World) (B : Nat) (A : Option Addr) (n : Nat) (l : List St) : Prop := Rd w B 3 A n (stCells l)
theorem Ss.len {w : World} {B n : Nat} {A : Option Addr} {l : List St} (h : Ss w B A n l) : l.length = n := by
  have := h.1
  rw [stCells_length] at this
  omega
theorem Ss.now {w w' : World} {n : Nat} {A : Option Addr} {l : List St} (h : Ss w w.heap.size A n l) (hb : Below w.heap.size w w') : Ss w' w'.heap.size A n l := (Rd.ext h hb (Nat.le_refl _)).more hb.size
theorem Ss.at_ {w : World} {B n : Nat} {A : Option Addr} {l : List St} (h : Ss w B A n l) {k : Nat} (hk : k < n) :
    ∃ b o s, A = some ⟨b, o, none⟩ ∧ b < B ∧ l[k]? = some s ∧ w.cell? ⟨b, o + k * 3, none⟩ = some (.int .i64 s.holder) ∧ w.cell? ⟨b, o + k * 3 + 1, none⟩ = some (.int .i64 s.hand) ∧ w.cell? ⟨b, o + k * 3 + 2, none⟩ = some (.bool s.office) := by
  obtain ⟨b, o, e, hb, hc⟩ := h.2 (by omega)
  have hl := h.len
  have hd : l[k]? = some l[k] := List.getElem?_eq_getElem (by omega)
  have g : ∀ j, j < 3 → ∀ u, [Value.int .i64 l[k].holder, .int .i64 l[k].hand, .bool l[k].office][j]? = some u → w.cell? ⟨b, o + (k * 3 + j), none⟩ = some u := fun j hj u hu => hc _ u (by rw [stCells_get l k j _ hd hj]; exact hu)
  exact ⟨b, o, l[k], e, hb, hd, g 0 (by omega) _ rfl, g 1 (by omega) _ rfl, g 2 (by omega) _ rfl⟩

def stN (l : List St) (k : Nat) : St := match k with
  | 0 => St.zero
  | j + 1 => (l[j]?).getD St.zero

set_option maxHeartbeats 1000000 in
theorem p_state (l : List St) (k : Nat) (Ad Ai As : Option Addr) (nd cd ni ci ns cs : Nat) (w : World) (hk : k ≤ ns) (hn : ns ≤ 1000000) (h : Ss w w.heap.size As ns l) :
    Calls Tryz.prog 90 #[.agg #[.slice Ad nd cd, .slice Ai ni ci, .slice As ns cs], .int .i64 k] w fun e w' => e = .returned (.agg #[.int .i64 (stN l k).holder, .int .i64 (stN l k).hand, .bool (stN l k).office]) ∧ Below w.heap.size w w' := by
  have HS := Lib.hid h
  clear h
  by_cases hk0 : k = 0
  · subst hk0
    go_enter Tryz.func90, Tryz.ntmps90
    go_wp2
    exact bodyPost_ret (v := .agg #[.int .i64 0, .int .i64 0, .bool false]) (by simp [results, Tryz.results90, go_sem]) rfl ⟨by simp [stN, St.zero], by (repeat' (first | with_reducible exact Below.refl _ _ | with_reducible assumption | with_reducible refine Below.alloc ?_ ?_ _ | with_reducible refine Below.setCell ?_ ?_ _ | with_reducible refine Below.drew ?_ | (simp; done) | (simp; omega) | omega))⟩
  · obtain ⟨j, rfl⟩ : ∃ j, k = j + 1 := ⟨k - 1, by omega⟩
    obtain ⟨b, o, s, rfl, hb, hs, c0, c1, c2⟩ := HS.out.at_ (k := j) (by omega)
    have hz : (((j + 1 : Nat) : Int) == 0) = false := by simp; omega
    have HST : Hid (stN l (j + 1) = s) := by show _ = _; simp [stN, hs]
    clear hs
    go_enter Tryz.func90, Tryz.ntmps90
    go_wp2
    exact bodyPost_ret (v := .agg #[.int .i64 s.holder, .int .i64 s.hand, .bool s.office]) (by simp [results, Tryz.results90, go_sem]) rfl ⟨by rw [HST.out], by (repeat' (first | with_reducible exact Below.refl _ _ | with_reducible assumption | with_reducible refine Below.alloc ?_ ?_ _ | with_reducible refine Below.setCell ?_ ?_ _ | with_reducible refine Below.drew ?_ | (simp; done) | (simp; omega) | omega))⟩

def eaI (ds : List Deed) : Int := ds.foldl (fun m d => if m < d.lo then d.lo else m) 0
def laI (ds : List Deed) : Int := ds.foldl (fun m d => if d.hi < m then d.hi else m) 100000

set_option maxHeartbeats 1000000 in
theorem p_earliest (ds : List Deed) (k : Nat) (Ad Ai As : Option Addr) (nd cd ni ci ns cs : Nat) (w : World) (hk : k < nd) (hn : nd ≤ 1000000) (hc : nd ≤ cd) (h : Ds w w.heap.size Ad nd ds) :
    Calls Tryz.prog 54 #[.agg #[.slice Ad nd cd, .slice Ai ni ci, .slice As ns cs], .int .i64 k] w fun e w' => e = .returned (.int .i64 (eaI (ds.take (k + 1)))) ∧ Below w.heap.size w w' := by
  have HD := Lib.hid h
  clear h
  have hkc : k + 1 ≤ cd := by omega
  go_enter Tryz.func54, Tryz.ntmps54
  go_wp2
  go_loopw [5, 14] (fun m i wr => ∃ j : Nat, j ≤ k + 1 ∧ i = .int .i64 j ∧ m = .int .i64 (eaI (ds.take j)) ∧ Below w.heap.size w wr) (fun _ i _ => (k + 1) - (intOf i).toNat)
  case atStart => exact ⟨0, by omega, rfl, rfl, by (repeat' (first | with_reducible exact Below.refl _ _ | with_reducible assumption | with_reducible refine Below.alloc ?_ ?_ _ | with_reducible refine Below.setCell ?_ ?_ _ | with_reducible refine Below.drew ?_ | (simp; done) | (simp; omega) | omega))⟩
  case round =>
    obtain ⟨j, hj, rfl, rfl, hB⟩ := hrel
    have hs0 : w.heap.size ≤ wr.heap.size := hB.size
    by_cases hlt : j < k + 1
    · obtain ⟨b, o, d, rfl, hb, hd, hat⟩ := (HD.out.ext hB (Nat.le_refl _)).at_ (k := j) (by omega)
      obtain ⟨a0, a1, a2, a3, a4, a5, a6, a7, a8⟩ := hat
      have he : eaI (ds.take (j + 1)) = if eaI (ds.take j) < d.lo then d.lo else eaI (ds.take j) := by rw [take_snoc_some hd, eaI, List.foldl_append]; rfl
      have HE := Lib.hid he
      have HBW := Lib.hid (fun o => hB.alloc hs0 o)
      clear he hd
      go_wp2
      go_roundw
      case rel => exact ⟨j + 1, by omega, by go_num, by rw [HE.out], HBW.out _⟩
      case measure => simp [intOf]; omega
    · obtain rfl : j = k + 1 := by omega
      go_wp2
      go_ret
      exact ⟨rfl, hB⟩

set_option maxHeartbeats 1000000 in
theorem p_latest (ds : List Deed) (k : Nat) (Ad Ai As : Option Addr) (nd cd ni ci ns cs : Nat) (w : World) (hk : k < nd) (hn : nd ≤ 1000000) (hc : nd ≤ cd) (h : Ds w w.heap.size Ad nd ds) :
    Calls Tryz.prog 55 #[.agg #[.slice Ad nd cd, .slice Ai ni ci, .slice As ns cs], .int .i64 k] w fun e w' => e = .returned (.int .i64 (laI (ds.drop k))) ∧ Below w.heap.size w w' := by
  have HL := Lib.hid h.len
  obtain ⟨b, o, _, rfl, hb, _, _⟩ := h.at_ hk
  have HD := Lib.hid (h.drop (k := k) (by omega))
  clear h
  have hkc : ¬ cd = k := by omega
  have hkc2 : k ≤ cd := by omega
  go_enter Tryz.func55, Tryz.ntmps55
  go_wp2
  go_loopw [5, 13] (fun m i wr => ∃ j : Nat, j ≤ nd - k ∧ i = .int .i64 j ∧ m = .int .i64 (laI ((ds.drop k).take j)) ∧ Below w.heap.size w wr) (fun _ i _ => (nd - k) - (intOf i).toNat)
  case atStart => exact ⟨0, by omega, rfl, rfl, by (repeat' (first | with_reducible exact Below.refl _ _ | with_reducible assumption | with_reducible refine Below.alloc ?_ ?_ _ | with_reducible refine Below.setCell ?_ ?_ _ | with_reducible refine Below.drew ?_ | (simp; done) | (simp; omega) | omega))⟩
  case round =>
    obtain ⟨j, hj, rfl, rfl, hB⟩ := hrel
    have hs0 : w.heap.size ≤ wr.heap.size := hB.size
    by_cases hlt : j < nd - k
    · obtain ⟨d, hd, hat⟩ := (HD.out.ext hB (Nat.le_refl _)).get (k := j) (by omega)
      obtain ⟨a0, a1, a2, a3, a4, a5, a6, a7, a8⟩ := hat
      have he : laI ((ds.drop k).take (j + 1)) = if d.hi < laI ((ds.drop k).take j) then d.hi else laI ((ds.drop k).take j) := by rw [take_snoc_some hd, laI, List.foldl_append]; rfl
      have HE := Lib.hid he
      have HBW := Lib.hid (fun o => hB.alloc hs0 o)
      clear he hd
      generalize laI ((ds.drop k).take j) = m at HE
      go_wp2
      go_roundw
      case rel => exact ⟨j + 1, by omega, by go_num, by rw [HE.out], HBW.out _⟩
      case measure => simp [intOf]; omega
    · have hjn : j = nd - k := by omega
      have he : laI ((ds.drop k).take j) = laI (ds.drop k) := by
        rw [List.take_of_length_le (by rw [List.length_drop, HL.out]; omega)]
      have HE := Lib.hid he
      clear he hjn
      go_wp2
      go_ret
      exact ⟨ret_int HE.out, hB⟩

end Go.Proofs.YtikioiblaoimkaaGreatDoor

/- Whether just the first n deeds may have happened; what a deed of each kind makes of a state; small checks. -/
namespace Go.Proofs.YtikioiblaoimkaaGreatDoor
open Go.RowKit

def mayB (ds : List Deed) (k : Nat) (day : Int) : Bool :=
  (decide (k = 0) || decide (eaI (ds.take k) ≤ day)) && (decide (k = ds.length) || decide (day < laI (ds.drop k)))

set_option maxHeartbeats 1000000 in
theorem p_may (ds : List Deed) (k : Nat) (day : Int) (Ad Ai As : Option Addr) (nd cd ni ci ns cs : Nat) (w : World) (hk : k ≤ nd) (hn : nd ≤ 1000000) (hc : nd ≤ cd) (h : Ds w w.heap.size Ad nd ds) :
    Calls Tryz.prog 96 #[.agg #[.slice Ad nd cd, .slice Ai ni ci, .slice As ns cs], .int .i64 k, .int .i64 day] w fun e w' => e = .returned (.bool (mayB ds k day)) ∧ Below w.heap.size w w' := by
  have HL := Lib.hid h.len
  have HD := Lib.hid h
  clear h
  by_cases hk0 : k = 0
  · subst hk0
    by_cases hkn : nd = 0
    · subst hkn
      go_enter Tryz.func96, Tryz.ntmps96
      go_wp2
      go_ret
      exact ⟨ret_bool (by simp [mayB, HL.out]), by (repeat' (first | with_reducible exact Below.refl _ _ | with_reducible assumption | with_reducible refine Below.alloc ?_ ?_ _ | with_reducible refine Below.setCell ?_ ?_ _ | with_reducible refine Below.drew ?_ | (simp; done) | (simp; omega) | omega))⟩
    · have h1 : (((0 : Nat) : Int) == (nd : Int)) = false := by simp; omega
      have h2 : ((0 : Int) == (nd : Int)) = false := by simp; omega
      have HN := Lib.hid hkn
      clear hkn
      go_enter Tryz.func96, Tryz.ntmps96
      go_wp2_with (go_at_call 55; refine (p_latest ds 0 _ _ _ _ _ _ _ _ _ _ (by have := HN.out; omega) hn hc (HD.out.now (by (repeat' (first | with_reducible exact Below.refl _ _ | with_reducible assumption | with_reducible refine Below.alloc ?_ ?_ _ | with_reducible refine Below.setCell ?_ ?_ _ | with_reducible refine Below.drew ?_ | (simp; done) | (simp; omega) | omega))))).mono ?_; rintro e w1 ⟨rfl, hb1⟩; have HB1 : Below w.heap.size w w1 := Below.then_ (by (repeat' (first | with_reducible exact Below.refl _ _ | with_reducible assumption | with_reducible refine Below.alloc ?_ ?_ _ | with_reducible refine Below.setCell ?_ ?_ _ | with_reducible refine Below.drew ?_ | (simp; done) | (simp; omega) | omega))) hb1)
      go_ret
      have := HN.out
      exact ⟨ret_bool (by simp [mayB, HL.out]; omega), HB1⟩
  · obtain ⟨j, rfl⟩ : ∃ j, k = j + 1 := ⟨k - 1, by omega⟩
    have hz : ((j : Int) + 1 == 0) = false := by simp; omega
    have EA : ∀ (W : World), Below w.heap.size w W → Calls Tryz.prog 54 #[.agg #[.slice Ad nd cd, .slice Ai ni ci, .slice As ns cs], .int .i64 j] W fun e w' => e = .returned (.int .i64 (eaI (ds.take (j + 1)))) ∧ Below W.heap.size W w' :=
      fun W hW => p_earliest ds j _ _ _ _ _ _ _ _ _ _ (by omega) hn hc (HD.out.now hW)
    have HEA := Lib.hid EA
    clear EA
    by_cases he : eaI (ds.take (j + 1)) ≤ day
    · by_cases hkn : j + 1 = nd
      · have h1 : ((j : Int) + 1 == (nd : Int)) = true := by simp; omega
        have HN := Lib.hid hkn
        clear hkn
        go_enter Tryz.func96, Tryz.ntmps96
        go_wp2_with (go_at_call 54; refine (HEA.out _ (by (repeat' (first | with_reducible exact Below.refl _ _ | with_reducible assumption | with_reducible refine Below.alloc ?_ ?_ _ | with_reducible refine Below.setCell ?_ ?_ _ | with_reducible refine Below.drew ?_ | (simp; done) | (simp; omega) | omega)))).mono ?_; rintro e w1 ⟨rfl, hb1⟩; obtain ⟨hc1, hf1⟩ := bcell hb1; have HB1 : Below w.heap.size w w1 := Below.then_ (by (repeat' (first | with_reducible exact Below.refl _ _ | with_reducible assumption | with_reducible refine Below.alloc ?_ ?_ _ | with_reducible refine Below.setCell ?_ ?_ _ | with_reducible refine Below.drew ?_ | (simp; done) | (simp; omega) | omega))) hb1; have hz1 : w.heap.size < w1.heap.size := (by have h := hb1.size; simp only [World.size_alloc] at h; omega))
        go_ret
        have hm : mayB ds (j + 1) day = true := by
          have h2 : j + 1 = ds.length := by rw [HL.out]; exact HN.out
          unfold mayB
          rw [decide_eq_true he, decide_eq_true h2]
          simp
        exact ⟨ret_bool (by rw [hm]), HB1⟩
      · have h1 : ((j : Int) + 1 == (nd : Int)) = false := by simp; omega
        have HN := Lib.hid hkn
        clear hkn
        go_enter Tryz.func96, Tryz.ntmps96
        go_wp2_with (first | (go_at_call 54; refine (HEA.out _ (by (repeat' (first | with_reducible exact Below.refl _ _ | with_reducible assumption | with_reducible refine Below.alloc ?_ ?_ _ | with_reducible refine Below.setCell ?_ ?_ _ | with_reducible refine Below.drew ?_ | (simp; done) | (simp; omega) | omega)))).mono ?_; rintro e w1 ⟨rfl, hb1⟩; obtain ⟨hc1, hf1⟩ := bcell hb1; have HB1 : Below w.heap.size w w1 := Below.then_ (by (repeat' (first | with_reducible exact Below.refl _ _ | with_reducible assumption | with_reducible refine Below.alloc ?_ ?_ _ | with_reducible refine Below.setCell ?_ ?_ _ | with_reducible refine Below.drew ?_ | (simp; done) | (simp; omega) | omega))) hb1; have hz1 : w.heap.size < w1.heap.size := (by have h := hb1.size; simp only [World.size_alloc] at h; omega)) | (go_at_call 55; refine (p_latest ds (j + 1) _ _ _ _ _ _ _ _ _ _ (by have := HN.out; omega) hn hc (HD.out.now HB1)).mono ?_; rintro e w3 ⟨rfl, hb3⟩; have HB3 : Below w.heap.size w w3 := Below.then_ HB1 hb3))
        go_ret
        have hm : mayB ds (j + 1) day = decide (day < laI (ds.drop (j + 1))) := by
          have h2 : ¬ j + 1 = ds.length := by rw [HL.out]; exact HN.out
          unfold mayB
          rw [decide_eq_true he, decide_eq_false h2]
          simp
        exact ⟨ret_bool (by rw [hm]), HB3⟩
    · go_enter Tryz.func96, Tryz.ntmps96
      go_wp2_with (go_at_call 54; refine (HEA.out _ (by (repeat' (first | with_reducible exact Below.refl _ _ | with_reducible assumption | with_reducible refine Below.alloc ?_ ?_ _ | with_reducible refine Below.setCell ?_ ?_ _ | with_reducible refine Below.drew ?_ | (simp; done) | (simp; omega) | omega)))).mono ?_; rintro e w1 ⟨rfl, hb1⟩; obtain ⟨hc1, hf1⟩ := bcell hb1; have HB1 : Below w.heap.size w w1 := Below.then_ (by (repeat' (first | with_reducible exact Below.refl _ _ | with_reducible assumption | with_reducible refine Below.alloc ?_ ?_ _ | with_reducible refine Below.setCell ?_ ?_ _ | with_reducible refine Below.drew ?_ | (simp; done) | (simp; omega) | omega))) hb1)
      go_ret
      have hm : mayB ds (j + 1) day = false := by
        unfold mayB
        rw [decide_eq_false (p := eaI (ds.take (j + 1)) ≤ day) (by omega), decide_eq_false hk0]
        simp
      exact ⟨ret_bool (by rw [hm]), HB1⟩

set_option maxHeartbeats 1000000 in
theorem p_sworn (s : St) (x : Int) (w : World) :
    Calls Tryz.prog 120 #[.agg #[.int .i64 s.holder, .int .i64 s.hand, .bool s.office], .int .i64 x] w fun e w' => e = .returned (.agg #[.int .i64 (s.holder), .int .i64 (s.hand), .bool true]) ∧ Below w.heap.size w w' := by
  go_enter Tryz.func120, Tryz.ntmps120
  go_wp2
  exact bodyPost_ret (v := .agg #[.int .i64 (s.holder), .int .i64 (s.hand), .bool true]) (by simp [results, Tryz.results120, go_sem]) rfl ⟨rfl, by (repeat' (first | with_reducible exact Below.refl _ _ | with_reducible assumption | with_reducible refine Below.alloc ?_ ?_ _ | with_reducible refine Below.setCell ?_ ?_ _ | with_reducible refine Below.drew ?_ | (simp; done) | (simp; omega) | omega))⟩

set_option maxHeartbeats 1000000 in
theorem p_left (s : St) (x : Int) (w : World) :
    Calls Tryz.prog 121 #[.agg #[.int .i64 s.holder, .int .i64 s.hand, .bool s.office], .int .i64 x] w fun e w' => e = .returned (.agg #[.int .i64 (s.holder), .int .i64 (s.hand), .bool false]) ∧ Below w.heap.size w w' := by
  go_enter Tryz.func121, Tryz.ntmps121
  go_wp2
  exact bodyPost_ret (v := .agg #[.int .i64 (s.holder), .int .i64 (s.hand), .bool false]) (by simp [results, Tryz.results121, go_sem]) rfl ⟨rfl, by (repeat' (first | with_reducible exact Below.refl _ _ | with_reducible assumption | with_reducible refine Below.alloc ?_ ?_ _ | with_reducible refine Below.setCell ?_ ?_ _ | with_reducible refine Below.drew ?_ | (simp; done) | (simp; omega) | omega))⟩

set_option maxHeartbeats 1000000 in
theorem p_given (s : St) (x : Int) (w : World) :
    Calls Tryz.prog 122 #[.agg #[.int .i64 s.holder, .int .i64 s.hand, .bool s.office], .int .i64 x] w fun e w' => e = .returned (.agg #[.int .i64 (x), .int .i64 (x), .bool s.office]) ∧ Below w.heap.size w w' := by
  go_enter Tryz.func122, Tryz.ntmps122
  go_wp2
  exact bodyPost_ret (v := .agg #[.int .i64 (x), .int .i64 (x), .bool s.office]) (by simp [results, Tryz.results122, go_sem]) rfl ⟨rfl, by (repeat' (first | with_reducible exact Below.refl _ _ | with_reducible assumption | with_reducible refine Below.alloc ?_ ?_ _ | with_reducible refine Below.setCell ?_ ?_ _ | with_reducible refine Below.drew ?_ | (simp; done) | (simp; omega) | omega))⟩

set_option maxHeartbeats 1000000 in
theorem p_back (s : St) (x : Int) (w : World) :
    Calls Tryz.prog 124 #[.agg #[.int .i64 s.holder, .int .i64 s.hand, .bool s.office], .int .i64 x] w fun e w' => e = .returned (.agg #[.int .i64 (s.holder), .int .i64 (s.holder), .bool s.office]) ∧ Below w.heap.size w w' := by
  go_enter Tryz.func124, Tryz.ntmps124
  go_wp2
  exact bodyPost_ret (v := .agg #[.int .i64 (s.holder), .int .i64 (s.holder), .bool s.office]) (by simp [results, Tryz.results124, go_sem]) rfl ⟨rfl, by (repeat' (first | with_reducible exact Below.refl _ _ | with_reducible assumption | with_reducible refine Below.alloc ?_ ?_ _ | with_reducible refine Below.setCell ?_ ?_ _ | with_reducible refine Below.drew ?_ | (simp; done) | (simp; omega) | omega))⟩

set_option maxHeartbeats 1000000 in
theorem p_lost (s : St) (x : Int) (w : World) :
    Calls Tryz.prog 125 #[.agg #[.int .i64 s.holder, .int .i64 s.hand, .bool s.office], .int .i64 x] w fun e w' => e = .returned (.agg #[.int .i64 (0), .int .i64 (0), .bool s.office]) ∧ Below w.heap.size w w' := by
  go_enter Tryz.func125, Tryz.ntmps125
  go_wp2
  exact bodyPost_ret (v := .agg #[.int .i64 (0), .int .i64 (0), .bool s.office]) (by simp [results, Tryz.results125, go_sem]) rfl ⟨rfl, by (repeat' (first | with_reducible exact Below.refl _ _ | with_reducible assumption | with_reducible refine Below.alloc ?_ ?_ _ | with_reducible refine Below.setCell ?_ ?_ _ | with_reducible refine Below.drew ?_ | (simp; done) | (simp; omega) | omega))⟩

set_option maxHeartbeats 1000000 in
theorem p_lent (s : St) (x : Int) (w : World) :
    Calls Tryz.prog 123 #[.agg #[.int .i64 s.holder, .int .i64 s.hand, .bool s.office], .int .i64 x] w fun e w' => e = .returned (.agg #[.int .i64 s.holder, .int .i64 (if s.holder = 0 then s.hand else x), .bool s.office]) ∧ Below w.heap.size w w' := by
  by_cases h : s.holder = 0
  · have h1 : (s.holder != 0) = false := by simpa using h
    have H := Lib.hid h
    clear h
    go_enter Tryz.func123, Tryz.ntmps123
    go_wp2
    exact bodyPost_ret (v := .agg #[.int .i64 0, .int .i64 s.hand, .bool s.office]) (by simp [results, Tryz.results123, go_sem]) rfl ⟨by simp [H.out], by (repeat' (first | with_reducible exact Below.refl _ _ | with_reducible assumption | with_reducible refine Below.alloc ?_ ?_ _ | with_reducible refine Below.setCell ?_ ?_ _ | with_reducible refine Below.drew ?_ | (simp; done) | (simp; omega) | omega))⟩
  · have h1 : (s.holder != 0) = true := by simpa using h
    have H := Lib.hid h
    clear h
    go_enter Tryz.func123, Tryz.ntmps123
    go_wp2
    exact bodyPost_ret (v := .agg #[.int .i64 s.holder, .int .i64 x, .bool s.office]) (by simp [results, Tryz.results123, go_sem]) rfl ⟨by simp [H.out], by (repeat' (first | with_reducible exact Below.refl _ _ | with_reducible assumption | with_reducible refine Below.alloc ?_ ?_ _ | with_reducible refine Below.setCell ?_ ?_ _ | with_reducible refine Below.drew ?_ | (simp; done) | (simp; omega) | omega))⟩

set_option maxHeartbeats 1000000 in
theorem p_checkLock (x : Int) (w : World) :
    Calls Tryz.prog 84 #[.int .i64 x] w fun e w' => e = .returned (.int .i64 (errI (withinB x 1 3) 15)) ∧ w = w' := by
  go_enter Tryz.func84, Tryz.ntmps84
  go_wp2_with (first | (go_at_call 106; refine (p_within _ _ _ _).mono ?_; rintro e w1 ⟨rfl, rfl⟩) | (go_at_call 69; refine (p_verdict _ _ _).mono ?_; rintro e w1 ⟨rfl, rfl⟩))
  go_ret
  exact ⟨rfl, rfl⟩

set_option maxHeartbeats 1000000 in
theorem p_checkPerson (x : Int) (w : World) :
    Calls Tryz.prog 62 #[.int .i64 x] w fun e w' => e = .returned (.int .i64 (errI (withinB x 1 99) 16)) ∧ w = w' := by
  go_enter Tryz.func62, Tryz.ntmps62
  go_wp2_with (first | (go_at_call 99; refine (p_isPersonK _ _).mono ?_; rintro e w1 ⟨rfl, rfl⟩) | (go_at_call 69; refine (p_verdict _ _ _).mono ?_; rintro e w1 ⟨rfl, rfl⟩))
  go_ret
  exact ⟨rfl, rfl⟩

end Go.Proofs.YtikioiblaoimkaaGreatDoor
